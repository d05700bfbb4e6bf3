/- The chapter's examples. -/
import Derived.Test.YtkjibnnoeceaeaaDoorOpRead3
import Derived.Test.YtkjibnnoeceaeaaDoorOpShow2
import Derived.Test.YtkjibnnoeceaeaaDoorOpRef
namespace Go.Proofs.YtkjibnnoeceaeaaDoor
open Go.RowKit

theorem bytes_lit (w : World) (l : List Nat) (t : TypeId) (hl : ∀ j, l.getD j 0 < 256) (hm : l.length ≤ maxLen) : BytesAt (w.alloc (.cells (l.map fun n : Nat => Value.int .u8 (n : Int)).toArray t)) (w.alloc (.cells (l.map fun n : Nat => Value.int .u8 (n : Int)).toArray t)).heap.size (.slice (some ⟨w.heap.size, 0, none⟩) l.length l.length) l := by
  refine ⟨_, _, rfl, Nat.le_refl _, hm, hl, fun h => ⟨w.heap.size, 0, rfl, by simp, fun j hj => ?_⟩⟩
  rw [Nat.zero_add, cell_of_row _ _ j _ t (0, 0) (heap_alloc_new _ _)]
  simp [hj, List.getD]
theorem getD_lt (l : List Nat) (h : l.all (fun n => decide (n < 256)) = true) (j : Nat) : l.getD j 0 < 256 := by
  rw [List.getD_eq_getElem?_getD]
  cases hj : l[j]? with
  | none => simp
  | some n =>
    have := List.all_eq_true.1 h n (List.mem_of_getElem? hj)
    simpa using this
theorem read_lit (l : List Nat) (t : TypeId) (w : World) (x : In) (b : Bool) (hl : l.all (fun n => decide (n < 256)) = true) (hm : l.length ≤ 10) (hx : readR l = x) (hb : readB l = b) : Calls Tryd.prog 9 #[.slice (some ⟨w.heap.size, 0, none⟩) l.length l.length] (w.alloc (.cells (l.map fun n : Nat => Value.int .u8 (n : Int)).toArray t)) fun e w' => e = .returned (.tuple #[.agg x.arr, .bool b]) ∧ Below (w.alloc (.cells (l.map fun n : Nat => Value.int .u8 (n : Int)).toArray t)).heap.size (w.alloc (.cells (l.map fun n : Nat => Value.int .u8 (n : Int)).toArray t)) w' := by
  subst hx hb
  exact read_any _ l _ (bytes_lit w l t (getD_lt l hl) (by unfold maxLen; omega))
theorem show_lit (x : In) (pc : Nat) (w : World) (h : OpTab w) (ok : x.Ok) (B : ByteArray) (hB : txt (x.en (tgtN x pc)) (showT x.set (hasI x.ix) (nameL x.ix) x.code) = B) : Calls Tryd.prog 12 #[.agg x.arr, .int .u16 pc] w fun e w' => e = .returned (.string B) ∧ Below w.heap.size w w' := by
  subst hB; exact opShow x pc w h ok
theorem dec5 : Lib.decDigits 5 = [53] := dec_one 5 (by decide)

def ex0 : In := ⟨0, 0, 33, 0, 23552, 3⟩
theorem ex0_read : readR [33, 0, 92] = ex0 ∧ readB [33, 0, 92] = true := ⟨by rfl, by rfl⟩
theorem ex0_ok : ex0.Ok := ⟨by decide, by decide, by decide, by decide, by decide, by decide⟩
theorem ex0_show : txt (ex0.en (tgtN ex0 0)) (showT ex0.set (hasI ex0.ix) (nameL ex0.ix) ex0.code) = ⟨#[108, 100, 32, 104, 108, 44, 36, 53, 99, 48, 48]⟩ := by decide +kernel
theorem ex0_text : ((⟨#[108, 100, 32, 104, 108, 44, 36, 53, 99, 48, 48]⟩ : ByteArray).toList == [108, 100, 32, 104, 108, 44, 36, 53, 99, 48, 48]) = true := by decide +kernel
def ex1 : In := ⟨0, 1, 126, 251, 0, 3⟩
theorem ex1_read : readR [221, 126, 251] = ex1 ∧ readB [221, 126, 251] = true := ⟨by rfl, by rfl⟩
theorem ex1_ok : ex1.Ok := ⟨by decide, by decide, by decide, by decide, by decide, by decide⟩
theorem ex1_show : txt (ex1.en (tgtN ex1 0)) (showT ex1.set (hasI ex1.ix) (nameL ex1.ix) ex1.code) = ⟨#[108, 100, 32, 97, 44, 40, 105, 120, 45, 53, 41]⟩ := by
  have h1 : showT ex1.set (hasI ex1.ix) (nameL ex1.ix) ex1.code = lit [108, 100, 32, 97, 44] ++ [.aw] := by decide +kernel
  rw [h1, ← txt_app, txt_lit, txt_aw]
  have h2 : awL (ex1.en (tgtN ex1 0)).ix (ex1.en (tgtN ex1 0)).d = [40, 105, 120, 45, 53, 41] := by
    show [40] ++ nameL 1 ++ distL 251 ++ [41] = _
    unfold distL
    rw [if_neg (by decide), show 256 - 251 = 5 from rfl, dec5]; rfl
  rw [h2, strL_app]; rfl
theorem ex1_text : ((⟨#[108, 100, 32, 97, 44, 40, 105, 120, 45, 53, 41]⟩ : ByteArray).toList == [108, 100, 32, 97, 44, 40, 105, 120, 45, 53, 41]) = true := by decide +kernel
def ex2 : In := ⟨0, 0, 24, 0, 254, 2⟩
theorem ex2_read : readR [24, 254] = ex2 ∧ readB [24, 254] = true := ⟨by rfl, by rfl⟩
theorem ex2_ok : ex2.Ok := ⟨by decide, by decide, by decide, by decide, by decide, by decide⟩
theorem ex2_show : txt (ex2.en (tgtN ex2 16)) (showT ex2.set (hasI ex2.ix) (nameL ex2.ix) ex2.code) = ⟨#[106, 114, 32, 36, 48, 48, 49, 48]⟩ := by decide +kernel
theorem ex2_text : ((⟨#[106, 114, 32, 36, 48, 48, 49, 48]⟩ : ByteArray).toList == [106, 114, 32, 36, 48, 48, 49, 48]) = true := by decide +kernel
theorem ex0_call (w : World) : Calls Tryd.prog 9 #[.slice (some ⟨w.heap.size, 0, none⟩) 3 3] (w.alloc (.cells #[.int .u8 33, .int .u8 0, .int .u8 92] 5)) fun e w' => e = .returned (.tuple #[.agg #[.int .i64 0, .int .i64 0, .int .u8 33, .int .u8 0, .int .u16 23552, .int .i64 3], .bool true]) ∧ Below (w.alloc (.cells #[.int .u8 33, .int .u8 0, .int .u8 92] 5)).heap.size (w.alloc (.cells #[.int .u8 33, .int .u8 0, .int .u8 92] 5)) w' := read_lit [33, 0, 92] 5 w ex0 true (by decide) (by decide) ex0_read.1 ex0_read.2
theorem ex0_told (w : World) (h : OpTab w) : Calls Tryd.prog 12 #[.agg #[.int .i64 0, .int .i64 0, .int .u8 33, .int .u8 0, .int .u16 23552, .int .i64 3], .int .u16 0] w fun e w' => e = .returned (.string ⟨#[108, 100, 32, 104, 108, 44, 36, 53, 99, 48, 48]⟩) ∧ Below w.heap.size w w' := show_lit ex0 0 w h ex0_ok _ ex0_show
theorem ex1_call (w : World) : Calls Tryd.prog 9 #[.slice (some ⟨w.heap.size, 0, none⟩) 3 3] (w.alloc (.cells #[.int .u8 221, .int .u8 126, .int .u8 251] 5)) fun e w' => e = .returned (.tuple #[.agg #[.int .i64 0, .int .i64 1, .int .u8 126, .int .u8 251, .int .u16 0, .int .i64 3], .bool true]) ∧ Below (w.alloc (.cells #[.int .u8 221, .int .u8 126, .int .u8 251] 5)).heap.size (w.alloc (.cells #[.int .u8 221, .int .u8 126, .int .u8 251] 5)) w' := read_lit [221, 126, 251] 5 w ex1 true (by decide) (by decide) ex1_read.1 ex1_read.2
theorem ex1_told (w : World) (h : OpTab w) : Calls Tryd.prog 12 #[.agg #[.int .i64 0, .int .i64 1, .int .u8 126, .int .u8 251, .int .u16 0, .int .i64 3], .int .u16 0] w fun e w' => e = .returned (.string ⟨#[108, 100, 32, 97, 44, 40, 105, 120, 45, 53, 41]⟩) ∧ Below w.heap.size w w' := show_lit ex1 0 w h ex1_ok _ ex1_show
theorem ex2_call (w : World) : Calls Tryd.prog 9 #[.slice (some ⟨w.heap.size, 0, none⟩) 2 2] (w.alloc (.cells #[.int .u8 24, .int .u8 254] 5)) fun e w' => e = .returned (.tuple #[.agg #[.int .i64 0, .int .i64 0, .int .u8 24, .int .u8 0, .int .u16 254, .int .i64 2], .bool true]) ∧ Below (w.alloc (.cells #[.int .u8 24, .int .u8 254] 5)).heap.size (w.alloc (.cells #[.int .u8 24, .int .u8 254] 5)) w' := read_lit [24, 254] 5 w ex2 true (by decide) (by decide) ex2_read.1 ex2_read.2
theorem ex2_told (w : World) (h : OpTab w) : Calls Tryd.prog 12 #[.agg #[.int .i64 0, .int .i64 0, .int .u8 24, .int .u8 0, .int .u16 254, .int .i64 2], .int .u16 16] w fun e w' => e = .returned (.string ⟨#[106, 114, 32, 36, 48, 48, 49, 48]⟩) ∧ Below w.heap.size w w' := show_lit ex2 16 w h ex2_ok _ ex2_show
set_option maxRecDepth 100000 in
set_option maxHeartbeats 1600000 in
theorem lives7 (w : World) (h : OpTab w) : Calls Tryd.prog 8 #[] w fun e w' => e = .returned (.bool true) ∧ Below w.heap.size w w' := by
  have H := Lib.hid h
  clear h
  have t0 := ex0_text
  have t1 := ex1_text
  have t2 := ex2_text
  go_enter Tryd.func8, Tryd.ntmps8
  go_wp2_with fail
  refine (ex0_call _).mono ?_
  rintro e w1 ⟨rfl, hb1⟩
  have B1 := Lib.hid (below_step (balloc w _) hb1)
  have a1 : OwnI (w1.alloc (.cells #[.int .i64 0, .int .i64 0, .int .u8 33, .int .u8 0, .int .u16 23552, .int .i64 3] 26)) w1.heap.size ex0 := OwnI.new w1 ex0
  have b1 := balloc w1 (.cells #[.int .i64 0, .int .i64 0, .int .u8 33, .int .u8 0, .int .u16 23552, .int .i64 3] 26)
  have A1 := Lib.hid a1
  have D1 := Lib.hid (below_step B1.out b1)
  clear hb1 a1 b1 B1
  go_upto_region 2 with (fail)
  have a1 := A1.out
  have d1 := D1.out
  clear A1 D1
  generalize w1.alloc (.cells #[.int .i64 0, .int .i64 0, .int .u8 33, .int .u8 0, .int .u16 23552, .int .i64 3] 26) = u1 at a1 d1 ⊢
  generalize w1.heap.size = g1 at a1 ⊢
  have A1 := Lib.hid a1
  have D1 := Lib.hid d1
  clear a1 d1
  go_wp2_with fail
  refine (ex1_call _).mono ?_
  rintro e w2 ⟨rfl, hb2⟩
  have c2 := below_step (balloc u1 _) hb2
  have a2 : OwnI (w2.alloc (.cells #[.int .i64 0, .int .i64 1, .int .u8 126, .int .u8 251, .int .u16 0, .int .i64 3] 26)) w2.heap.size ex1 := OwnI.new w2 ex1
  have b2 := balloc w2 (.cells #[.int .i64 0, .int .i64 1, .int .u8 126, .int .u8 251, .int .u16 0, .int .i64 3] 26)
  have A2 := Lib.hid (show OwnI _ w2.heap.size ex1 ∧ OwnI _ g1 ex0 from ⟨a2, (A1.out.later c2).later b2⟩)
  have D2 := Lib.hid (below_step (below_step D1.out c2) b2)
  clear hb2 a2 b2 c2 A1 D1
  go_upto_region 3 with (fail)
  have a2 := A2.out
  have d2 := D2.out
  clear A2 D2
  generalize w2.alloc (.cells #[.int .i64 0, .int .i64 1, .int .u8 126, .int .u8 251, .int .u16 0, .int .i64 3] 26) = u2 at a2 d2 ⊢
  generalize w2.heap.size = g2 at a2 ⊢
  have A2 := Lib.hid a2
  have D2 := Lib.hid d2
  clear a2 d2
  go_wp2_with fail
  refine (ex2_call _).mono ?_
  rintro e w3 ⟨rfl, hb3⟩
  have c3 := below_step (balloc u2 _) hb3
  have a3 : OwnI (w3.alloc (.cells #[.int .i64 0, .int .i64 0, .int .u8 24, .int .u8 0, .int .u16 254, .int .i64 2] 26)) w3.heap.size ex2 := OwnI.new w3 ex2
  have b3 := balloc w3 (.cells #[.int .i64 0, .int .i64 0, .int .u8 24, .int .u8 0, .int .u16 254, .int .i64 2] 26)
  have A3 := Lib.hid (show OwnI _ w3.heap.size ex2 ∧ OwnI _ g2 ex1 ∧ OwnI _ g1 ex0 from ⟨a3, (A2.out.1.later c3).later b3, (A2.out.2.later c3).later b3⟩)
  have D3 := Lib.hid (below_step (below_step D2.out c3) b3)
  clear hb3 a3 b3 c3 A2 D2
  go_upto_region 4 with (fail)
  have a3 := A3.out
  have d3 := D3.out
  clear A3 D3
  generalize w3.alloc (.cells #[.int .i64 0, .int .i64 0, .int .u8 24, .int .u8 0, .int .u16 254, .int .i64 2] 26) = u3 at a3 d3 ⊢
  generalize w3.heap.size = g3 at a3 ⊢
  have A3 := Lib.hid a3
  have D3 := Lib.hid d3
  clear a3 d3
  have c0 : u3.cell? ⟨g1, 0, none⟩ = some (.int .i64 0) := A3.out.2.2.cell 0 _ rfl
  have c1 : u3.cell? ⟨g1, 1, none⟩ = some (.int .i64 0) := A3.out.2.2.cell 1 _ rfl
  have c2 : u3.cell? ⟨g1, 2, none⟩ = some (.int .u8 33) := A3.out.2.2.cell 2 _ rfl
  have c3 : u3.cell? ⟨g1, 3, none⟩ = some (.int .u8 0) := A3.out.2.2.cell 3 _ rfl
  have c4 : u3.cell? ⟨g1, 4, none⟩ = some (.int .u16 23552) := A3.out.2.2.cell 4 _ rfl
  have c5 : u3.cell? ⟨g1, 5, none⟩ = some (.int .i64 3) := A3.out.2.2.cell 5 _ rfl
  go_wp2_with fail
  refine (ex0_told _ (H.out.below D3.out)).mono ?_
  rintro e w4 ⟨rfl, hb4⟩
  have A4 := Lib.hid (show OwnI w4 g3 ex2 ∧ OwnI w4 g2 ex1 from ⟨A3.out.1.later hb4, A3.out.2.1.later hb4⟩)
  have D4 := Lib.hid (below_step D3.out hb4)
  clear hb4 A3 D3 c0 c1 c2 c3 c4 c5
  have c0 : w4.cell? ⟨g2, 0, none⟩ = some (.int .i64 0) := A4.out.2.cell 0 _ rfl
  have c1 : w4.cell? ⟨g2, 1, none⟩ = some (.int .i64 1) := A4.out.2.cell 1 _ rfl
  have c2 : w4.cell? ⟨g2, 2, none⟩ = some (.int .u8 126) := A4.out.2.cell 2 _ rfl
  have c3 : w4.cell? ⟨g2, 3, none⟩ = some (.int .u8 251) := A4.out.2.cell 3 _ rfl
  have c4 : w4.cell? ⟨g2, 4, none⟩ = some (.int .u16 0) := A4.out.2.cell 4 _ rfl
  have c5 : w4.cell? ⟨g2, 5, none⟩ = some (.int .i64 3) := A4.out.2.cell 5 _ rfl
  go_wp2_with fail
  refine (ex1_told _ (H.out.below D4.out)).mono ?_
  rintro e w5 ⟨rfl, hb5⟩
  have A5 := Lib.hid (A4.out.1.later hb5)
  have D5 := Lib.hid (below_step D4.out hb5)
  clear hb5 A4 D4 c0 c1 c2 c3 c4 c5
  have c0 : w5.cell? ⟨g3, 0, none⟩ = some (.int .i64 0) := A5.out.cell 0 _ rfl
  have c1 : w5.cell? ⟨g3, 1, none⟩ = some (.int .i64 0) := A5.out.cell 1 _ rfl
  have c2 : w5.cell? ⟨g3, 2, none⟩ = some (.int .u8 24) := A5.out.cell 2 _ rfl
  have c3 : w5.cell? ⟨g3, 3, none⟩ = some (.int .u8 0) := A5.out.cell 3 _ rfl
  have c4 : w5.cell? ⟨g3, 4, none⟩ = some (.int .u16 254) := A5.out.cell 4 _ rfl
  have c5 : w5.cell? ⟨g3, 5, none⟩ = some (.int .i64 2) := A5.out.cell 5 _ rfl
  go_wp2_with fail
  refine (ex2_told _ (H.out.below D5.out)).mono ?_
  rintro e w6 ⟨rfl, hb6⟩
  have D6 := Lib.hid (below_step D5.out hb6)
  clear hb6
  go_wp2_with fail
  go_ret
  exact ⟨rfl, D6.out⟩

end Go.Proofs.YtkjibnnoeceaeaaDoor
