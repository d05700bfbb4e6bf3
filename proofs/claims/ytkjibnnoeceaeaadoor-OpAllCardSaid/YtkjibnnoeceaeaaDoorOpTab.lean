/- The names that stand in arrays, as the walks read them; instructions as numbers. -/
import Derived.Test.YtkjibnnoeceaeaaDoorHexFmt
import Derived.Test.YtkjibnnoeceaeaaDoorOpWide
import Derived.Test.YtkjibnnoeceaeaaDoorOpShowMath
import Derived.Lib.AppendIntMem
import Derived.Laws.IdiomStrings
namespace Go.Proofs.YtkjibnnoeceaeaaDoor
open Go.RowKit

/-- The array of texts in block g. -/
def TabS (g n : Nat) (L : List (List UInt8)) (w : World) : Prop := ∀ j, j < n → w.cell? ⟨g, j, none⟩ = some (.string (strL (L.getD j [])))
theorem TabS.below {g n : Nat} {L : List (List UInt8)} {w w' : World} (h : TabS g n L w) (hg : g < w.heap.size) (hb : Below w.heap.size w w') : TabS g n L w' :=
  fun j hj => (hb.cell (p := ⟨g, j, none⟩) hg).trans (h j hj)
structure OpTab (w : World) : Prop where
  hex : Tab w
  pow : Lib.TabIs Tryd.prog w "internal/strconv.uint64pow10" .u64 Lib.pow10Tab
  sz : 12 < w.heap.size
  regs : TabS 0 8 regsL w
  pairs : TabS 7 4 pairsL w
  conds : TabS 6 8 condsL w
  opers : TabS 1 8 opersL w
  turns : TabS 2 8 turnsL w
  ofBits : TabS 3 4 ofBitsL w
  ofA : TabS 5 8 ofAL w
  ofI : TabS 9 8 ofIL w
  modes : TabS 8 4 modesL w
  blocks : TabS 4 16 blocksL w
theorem OpTab.below {w w' : World} (h : OpTab w) (hb : Below w.heap.size w w') : OpTab w' where
  hex := h.hex.below hb
  pow := Lib.tabBelow_of_tabIs h.pow w' hb
  sz := Nat.lt_of_lt_of_le h.sz hb.size
  regs := h.regs.below (Nat.lt_of_le_of_lt (by decide) h.sz) hb
  pairs := h.pairs.below (Nat.lt_of_le_of_lt (by decide) h.sz) hb
  conds := h.conds.below (Nat.lt_of_le_of_lt (by decide) h.sz) hb
  opers := h.opers.below (Nat.lt_of_le_of_lt (by decide) h.sz) hb
  turns := h.turns.below (Nat.lt_of_le_of_lt (by decide) h.sz) hb
  ofBits := h.ofBits.below (Nat.lt_of_le_of_lt (by decide) h.sz) hb
  ofA := h.ofA.below (Nat.lt_of_le_of_lt (by decide) h.sz) hb
  ofI := h.ofI.below (Nat.lt_of_le_of_lt (by decide) h.sz) hb
  modes := h.modes.below (Nat.lt_of_le_of_lt (by decide) h.sz) hb
  blocks := h.blocks.below (Nat.lt_of_le_of_lt (by decide) h.sz) hb
theorem OpTab.alloc {w : World} (h : OpTab w) (o : Obj) : OpTab (w.alloc o) := h.below ((Below.refl _ _).alloc (Nat.le_refl _) _)
theorem OpTab.drew {w : World} (h : OpTab w) : OpTab w.drew := h.below (Below.refl _ _).drew

/-- An instruction. -/
structure In where
  set : Int
  ix : Int
  code : Nat
  d : Nat
  n : Nat
  len : Int
def In.arr (x : In) : Array Value := #[.int .i64 x.set, .int .i64 x.ix, .int .u8 x.code, .int .u8 x.d, .int .u16 x.n, .int .i64 x.len]
structure In.Ok (x : In) : Prop where
  set : -9223372036854775808 ≤ x.set ∧ x.set ≤ 9223372036854775807
  ix : -9223372036854775808 ≤ x.ix ∧ x.ix ≤ 9223372036854775807
  code : x.code < 256
  d : x.d < 256
  n : x.n < 65536
  len : -9223372036854775808 ≤ x.len ∧ x.len ≤ 9223372036854775807
/-- A code's parts. -/
abbrev partsV (c : Nat) : Array Value := #[.int .u8 ((c / 64 : Nat) : Int), .int .u8 ((c / 8 % 8 : Nat) : Int), .int .u8 ((c % 8 : Nat) : Int), .int .u8 ((c / 8 % 8 / 2 : Nat) : Int), .int .u8 ((c / 8 % 2 : Nat) : Int)]

theorem below_grow (w : World) (k : Nat) (os : Array Obj) : Below w.heap.size w (Go.Sort.grow (w.drewN k) os) := by
  refine ⟨rfl, rfl, rfl, ?_, fun j hj => ?_⟩
  · show w.heap.size ≤ (w.heap ++ os).size
    rw [Array.size_append]; omega
  · show (w.heap ++ os)[j]? = w.heap[j]?
    rw [Array.getElem?_append_left hj]
theorem strL_le (l : List UInt8) (n : Nat) (h : l.length ≤ n) : (strL l).size ≤ n := by rw [strL_size]; exact h

set_option maxHeartbeats 400000 in
theorem opName (ix : Int) (w : World) : Calls Tryd.prog 24 #[.int .i64 ix] w fun e w' => e = .returned (.string (strL (nameL ix))) ∧ w = w' := by
  by_cases h : ix = 1
  · subst h
    go_enter Tryd.func24, Tryd.ntmps24
    go_wp2_with fail
    go_ret
    exact ⟨rfl, rfl⟩
  · have H := Lib.hid (show strL (nameL ix) = ⟨#[105, 121]⟩ by unfold nameL; rw [if_neg h]; rfl)
    have h1 : (ix == 1) = false := by simpa using h
    clear h
    go_enter Tryd.func24, Tryd.ntmps24
    go_wp2_with fail
    go_ret
    exact ⟨by rw [H.out]; rfl, rfl⟩
set_option maxHeartbeats 400000 in
theorem opHas (x : In) (w : World) : Calls Tryd.prog 60 #[.agg x.arr] w fun e w' => e = .returned (.bool (hasI x.ix)) ∧ Below w.heap.size w w' := by
  unfold In.arr
  by_cases h : x.ix = 1
  · have H := Lib.hid (show hasI x.ix = true by simp [hasI, h])
    have h1 : (x.ix == 1) = true := by simpa using h
    clear h
    go_enter Tryd.func60, Tryd.ntmps60
    go_wp2_with fail
    go_ret
    exact ⟨by rw [H.out]; rfl, (Below.refl _ _).alloc (Nat.le_refl _) _⟩
  · have H := Lib.hid (show hasI x.ix = (x.ix == 2) by simp [hasI, h])
    have h1 : (x.ix == 1) = false := by simpa using h
    clear h
    go_enter Tryd.func60, Tryd.ntmps60
    go_wp2_with fail
    go_ret
    exact ⟨by rw [H.out]; rfl, (Below.refl _ _).alloc (Nat.le_refl _) _⟩
theorem parts_num (c : Nat) : ((c : Int) / 64 = ((c / 64 : Nat) : Int)) ∧ ((c : Int) / 8 % 8 = ((c / 8 % 8 : Nat) : Int)) ∧ ((c : Int) % 8 = ((c % 8 : Nat) : Int)) ∧ ((c : Int) / 8 % 8 / 2 = ((c / 8 % 8 / 2 : Nat) : Int)) ∧ ((c : Int) / 8 % 2 = ((c / 8 % 2 : Nat) : Int)) := by omega
theorem and1 (n : Nat) (h : n < 256) : bits .and .u8 (n : Int) 1 = (n : Int) % 2 := by
  have h' : n &&& 1 = n % 2 := Nat.and_two_pow_sub_one_eq_mod n 1
  show IntKind.u8.wrap ((BitVec.ofInt 8 (n : Int) &&& BitVec.ofInt 8 1).toNat : Int) = _
  rw [BitVec.toNat_and, BitVec.ofInt_natCast, BitVec.toNat_ofNat, Nat.mod_eq_of_lt (by omega : n < 2 ^ 8), show (BitVec.ofInt 8 1).toNat = 1 from by decide, h']
  simp [IntKind.wrap, IntKind.bits, IntKind.signed]
  omega
set_option maxHeartbeats 400000 in
theorem opCut (c : Nat) (w : World) (hc : c < 256) : Calls Tryd.prog 20 #[.int .u8 c] w fun e w' => e = .returned (.agg (partsV c)) ∧ Below w.heap.size w w' := by
  have H := Lib.hid (parts_num c)
  have hq : bits .and .u8 ((c : Int) / 8 % 8) 1 = (c : Int) / 8 % 2 := by
    have := and1 (c / 8 % 8) (by omega)
    rw [show ((c / 8 % 8 : Nat) : Int) = (c : Int) / 8 % 8 by omega] at this
    rw [this]; omega
  go_enter Tryd.func20, Tryd.ntmps20
  go_wp2_with fail
  refine bodyPost_ret (v := .agg #[.int .u8 ((c : Int) / 64), .int .u8 ((c : Int) / 8 % 8), .int .u8 ((c : Int) % 8), .int .u8 ((c : Int) / 8 % 8 / 2), .int .u8 ((c : Int) / 8 % 2)]) (by simp [results, Tryd.results20, go_sem]) rfl ⟨?_, (Below.refl _ _).alloc (Nat.le_refl _) _⟩
  obtain ⟨h1, h2, h3, h4, h5⟩ := H.out
  rw [h1, h4, h2, h3, h5]

end Go.Proofs.YtkjibnnoeceaeaaDoor
