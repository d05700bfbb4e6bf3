/- The contracts of flag.Has and flag.With. -/
import Derived.Test.YtbpmhbgdainpdaaRows
import Derived.Test.YtbpmhbgdainpdaaFlagMath
import Derived.WalkKit
import Derived.WalkSpells
import Derived.WalkLawsBesides
import Derived.Lib.Hide
namespace Go.Proofs.Ytbpmhbgdainpdaa
open Go.RowKit

set_option maxHeartbeats 400000 in
theorem has_any (f b : Int) (w : World) :
    Calls Try.prog 24 #[.int .u8 f, .int .u8 b] w fun e w' => e = .returned (.bool (bits .and .u8 f b != 0)) ∧ w = w' := by
  go_enter Try.func24, Try.ntmps24
  go_wp2
  go_ret
  exact ⟨rfl, rfl⟩
theorem has_is (f b : Int) (r : Bool) (w : World) (h : (bits .and .u8 f b != 0) = r) :
    Calls Try.prog 24 #[.int .u8 f, .int .u8 b] w fun e w' => e = .returned (.bool r) ∧ w = w' := by
  rw [← h]; exact has_any f b w

set_option maxHeartbeats 400000 in
theorem with_any (f b : Int) (o : Bool) (w : World) :
    Calls Try.prog 26 #[.int .u8 f, .int .u8 b, .bool o] w fun e w' => e = .returned (.int .u8 (withB f b o)) ∧ w = w' := by
  cases o
  all_goals
    go_enter Try.func26, Try.ntmps26
    go_wp2
    go_ret
    exact ⟨rfl, rfl⟩
theorem with_is (f b r : Int) (o : Bool) (w : World) (h : withB f b o = r) : Calls Try.prog 26 #[.int .u8 f, .int .u8 b, .bool o] w fun e w' => e = .returned (.int .u8 r) ∧ w = w' := by
  subst h; exact with_any f b o w

end Go.Proofs.Ytbpmhbgdainpdaa
