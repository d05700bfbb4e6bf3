/- The contracts of flag.Has and flag.With. -/
import Derived.Test.YtcodbcfdbkmegaaRows
import Derived.Test.YtcodbcfdbkmegaaFlagMath
import Derived.WalkKit
import Derived.WalkSpells
import Derived.WalkLawsBesides
import Derived.Lib.Hide
namespace Go.Proofs.Ytcodbcfdbkmegaa
open Go.RowKit

end Go.Proofs.Ytcodbcfdbkmegaa
