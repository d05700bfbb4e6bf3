/- op.cut: its contract; arrays of texts, boxes of the call's own. -/
import Derived.Test.YthmkfojjlcinkaaDoorStrL
import Derived.Test.YthmkfojjlcinkaaDoorOpMath
import Derived.Test.YthmkfojjlcinkaaDoorKit
import Derived.Test.YthmkfojjlcinkaaDoorChecked
import Derived.Lib.Hide
import Derived.Lib.AppendIntMem
import Derived.Laws.IdiomStrings
namespace Go.Proofs.YthmkfojjlcinkaaDoor
open Go.RowKit


/-- The array of texts in block g. -/
def TabS (g n : Nat) (L : List (List UInt8)) (w : World) : Prop := ∀ j, j < n → w.cell? ⟨g, j, none⟩ = some (.string (strL (L.getD j [])))
theorem TabS.below {g n : Nat} {L : List (List UInt8)} {w w' : World} (h : TabS g n L w) (hg : g < w.heap.size) (hb : Below w.heap.size w w') : TabS g n L w' :=
  fun j hj => (hb.cell (p := ⟨g, j, none⟩) hg).trans (h j hj)
/-- A code's parts. -/
abbrev partsV (c : Nat) : Array Value := #[.int .u8 ((c / 64 : Nat) : Int), .int .u8 ((c / 8 % 8 : Nat) : Int), .int .u8 ((c % 8 : Nat) : Int), .int .u8 ((c / 8 % 8 / 2 : Nat) : Int), .int .u8 ((c / 8 % 2 : Nat) : Int)]

theorem below_grow (w : World) (k : Nat) (os : Array Obj) : Below w.heap.size w (Go.Sort.grow (w.drewN k) os) := by
  refine ⟨rfl, rfl, rfl, ?_, fun j hj => ?_⟩
  · show w.heap.size ≤ (w.heap ++ os).size
    rw [Array.size_append]; omega
  · show (w.heap ++ os)[j]? = w.heap[j]?
    rw [Array.getElem?_append_left hj]
theorem strL_le (l : List UInt8) (n : Nat) (h : l.length ≤ n) : (strL l).size ≤ n := by rw [strL_size]; exact h


theorem balloc (w : World) (o : Obj) : Below w.heap.size w (w.alloc o) := (Below.refl _ _).alloc (Nat.le_refl _) _
/-- What lies in a box of the call's own, later. -/
theorem box_at {w w1 : World} {cs : Array Value} {t : TypeId} (hb : Below (w.alloc (.cells cs t)).heap.size (w.alloc (.cells cs t)) w1) (j : Nat) (v : Value) (hv : cs[j]? = some v) : w1.cell? ⟨w.heap.size, j, none⟩ = some v := by
  rw [hb.cell (p := ⟨w.heap.size, j, none⟩) (by simp), cell_of_row _ _ j cs t (0, 0) (heap_alloc_new _ _), hv]
theorem strL_lit (a : Array UInt8) : (⟨a⟩ : ByteArray) = strL a.toList := by simp [strL]

theorem parts_num (c : Nat) : ((c : Int) / 64 = ((c / 64 : Nat) : Int)) ∧ ((c : Int) / 8 % 8 = ((c / 8 % 8 : Nat) : Int)) ∧ ((c : Int) % 8 = ((c % 8 : Nat) : Int)) ∧ ((c : Int) / 8 % 8 / 2 = ((c / 8 % 8 / 2 : Nat) : Int)) ∧ ((c : Int) / 8 % 2 = ((c / 8 % 2 : Nat) : Int)) := by omega
theorem and1 (n : Nat) (h : n < 256) : bits .and .u8 (n : Int) 1 = (n : Int) % 2 := by
  have h' : n &&& 1 = n % 2 := Nat.and_two_pow_sub_one_eq_mod n 1
  show IntKind.u8.wrap ((BitVec.ofInt 8 (n : Int) &&& BitVec.ofInt 8 1).toNat : Int) = _
  rw [BitVec.toNat_and, BitVec.ofInt_natCast, BitVec.toNat_ofNat, Nat.mod_eq_of_lt (by omega : n < 2 ^ 8), show (BitVec.ofInt 8 1).toNat = 1 from by decide, h']
  simp [IntKind.wrap, IntKind.bits, IntKind.signed]
  omega
set_option maxHeartbeats 400000 in
theorem opCut (c : Nat) (w : World) (hc : c < 256) : Calls Tryd.prog 45 #[.int .u8 c] w fun e w' => e = .returned (.agg (partsV c)) ∧ Below w.heap.size w w' := by
  have H := Lib.hid (parts_num c)
  have hq : bits .and .u8 ((c : Int) / 8 % 8) 1 = (c : Int) / 8 % 2 := by
    have := and1 (c / 8 % 8) (by omega)
    rw [show ((c / 8 % 8 : Nat) : Int) = (c : Int) / 8 % 8 by omega] at this
    rw [this]; omega
  go_enter Tryd.func45, Tryd.ntmps45
  go_wp2_with fail
  refine bodyPost_ret (v := .agg #[.int .u8 ((c : Int) / 64), .int .u8 ((c : Int) / 8 % 8), .int .u8 ((c : Int) % 8), .int .u8 ((c : Int) / 8 % 8 / 2), .int .u8 ((c : Int) / 8 % 2)]) (by simp [results, Tryd.results45, go_sem]) rfl ⟨?_, (Below.refl _ _).alloc (Nat.le_refl _) _⟩
  obtain ⟨h1, h2, h3, h4, h5⟩ := H.out
  rw [h1, h4, h2, h3, h5]

end Go.Proofs.YthmkfojjlcinkaaDoor
