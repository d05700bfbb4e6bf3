/- Texts as lists of bytes. No program is named here. -/
import Derived.WalkKit
namespace Go.Proofs.YtliohkgaonnioaaDoor
open Go.RowKit


def strL (l : List UInt8) : ByteArray := ⟨l.toArray⟩
theorem strL_size (l : List UInt8) : (strL l).size = l.length := by simp [strL, ByteArray.size]
theorem strL_app (a b : List UInt8) : strL a ++ strL b = strL (a ++ b) := by
  apply ByteArray.ext
  simp [strL]

end Go.Proofs.YtliohkgaonnioaaDoor
