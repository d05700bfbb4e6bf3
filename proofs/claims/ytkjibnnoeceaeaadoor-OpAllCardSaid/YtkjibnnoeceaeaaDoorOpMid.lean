/- op.middleText, turnText: their contracts. -/
import Derived.Test.YtkjibnnoeceaeaaDoorOpLast
namespace Go.Proofs.YtkjibnnoeceaeaaDoor
open Go.RowKit

theorem ofIL_le (k : Nat) : (ofIL.getD k []).length ≤ 6 := getD_le _ _ (by decide) k
theorem modesL_le (k : Nat) : (modesL.getD k []).length ≤ 4 := getD_le _ _ (by decide) k

set_option maxRecDepth 100000 in
set_option maxHeartbeats 1600000 in
theorem opMid06 (x : In) (a : Int) (p : Int) (q : Int) (pc : Nat) (w : World) (h : OpTab w) : Calls Tryd.prog 44 #[.agg x.arr, .agg #[.int .u8 a, .int .u8 6, .int .u8 0, .int .u8 p, .int .u8 q]] w fun e w' => e = .returned (.string (txt (x.en (tgtN x pc)) (lit [105, 110, 32, 40, 99, 41]))) ∧ Below w.heap.size w w' := by
  have K := Lib.hid (two_made w x a 6 0 p q 26 46 h)
  have HZ := Lib.hid (show (⟨#[105, 110, 32, 40, 99, 41]⟩ : ByteArray) = txt (x.en (tgtN x pc)) (lit [105, 110, 32, 40, 99, 41]) by rw [txt_arr (x.en (tgtN x pc)) #[105, 110, 32, 40, 99, 41]])
  clear h
  unfold In.arr
  go_enter Tryd.func44, Tryd.ntmps44
  go_upto_region 1 with (fail)
  have k := K.out
  clear K
  unfold In.arr at k
  generalize (w.alloc (.cells #[.int .i64 x.set, .int .i64 x.ix, .int .u8 x.code, .int .u8 x.d, .int .u16 x.n, .int .i64 x.len] 26)).alloc (.cells #[.int .u8 a, .int .u8 6, .int .u8 0, .int .u8 p, .int .u8 q] 46) = w1 at k ⊢
  have p1 := k.p1
  have p2 := k.p2
  have HB := Lib.hid k.below
  clear k
  go_wp2_with fail
  go_ret
  exact ⟨by rw [← HZ.out]; rfl, HB.out⟩
set_option maxRecDepth 100000 in
set_option maxHeartbeats 1600000 in
theorem opMid0 (x : In) (a : Int) (y : Nat) (p : Int) (q : Int) (pc : Nat) (w : World) (h : OpTab w) (y8 : y < 8) (hn : ((y : Int) == 6) = false) : Calls Tryd.prog 44 #[.agg x.arr, .agg #[.int .u8 a, .int .u8 (y : Int), .int .u8 0, .int .u8 p, .int .u8 q]] w fun e w' => e = .returned (.string (txt (x.en (tgtN x pc)) (lit [105, 110, 32] ++ lit (regsL.getD y []) ++ lit [44, 40, 99, 41]))) ∧ Below w.heap.size w w' := by
  have K := Lib.hid (two_made w x a ((y : Int)) 0 p q 26 46 h)
  have y0 : (0 : Int) ≤ y := by omega
  have y1 : (y : Int) < 8 := by omega
  have hrR : ∀ u, OpTab u → u.cell? ⟨0, y, none⟩ = some (.string (strL (regsL.getD y []))) := fun u h => h.regs y (by omega)
  have sR : (strL (regsL.getD y [])).size ≤ 4 := strL_le _ _ (regsL_le _)
  have hz : txt (x.en (tgtN x pc)) (lit [105, 110, 32] ++ lit (regsL.getD y []) ++ lit [44, 40, 99, 41]) = ⟨#[105, 110, 32]⟩ ++ strL (regsL.getD y []) ++ ⟨#[44, 40, 99, 41]⟩ := by rw [txt_arr (x.en (tgtN x pc)) #[105, 110, 32], txt_arr (x.en (tgtN x pc)) #[44, 40, 99, 41], ← txt_lit (x.en (tgtN x pc)) (regsL.getD y []), txt_app, txt_app]
  generalize regsL.getD y [] = R at hrR sR hz ⊢
  have HZ := Lib.hid hz
  have HR := Lib.hid hrR
  clear hz hrR
  clear h y8
  unfold In.arr
  go_enter Tryd.func44, Tryd.ntmps44
  go_upto_region 1 with (fail)
  have k := K.out
  clear K
  unfold In.arr at k
  generalize (w.alloc (.cells #[.int .i64 x.set, .int .i64 x.ix, .int .u8 x.code, .int .u8 x.d, .int .u16 x.n, .int .i64 x.len] 26)).alloc (.cells #[.int .u8 a, .int .u8 (y : Int), .int .u8 0, .int .u8 p, .int .u8 q] 46) = w1 at k ⊢
  have p1 := k.p1
  have p2 := k.p2
  have c := HR.out _ k.tab
  have HB := Lib.hid k.below
  clear k
  go_wp2_with fail
  go_ret
  exact ⟨by rw [HZ.out]; rfl, HB.out⟩
set_option maxRecDepth 100000 in
set_option maxHeartbeats 1600000 in
theorem opMid16 (x : In) (a : Int) (p : Int) (q : Int) (pc : Nat) (w : World) (h : OpTab w) : Calls Tryd.prog 44 #[.agg x.arr, .agg #[.int .u8 a, .int .u8 6, .int .u8 1, .int .u8 p, .int .u8 q]] w fun e w' => e = .returned (.string (txt (x.en (tgtN x pc)) (lit [111, 117, 116, 32, 40, 99, 41, 44, 48]))) ∧ Below w.heap.size w w' := by
  have K := Lib.hid (two_made w x a 6 1 p q 26 46 h)
  have HZ := Lib.hid (show (⟨#[111, 117, 116, 32, 40, 99, 41, 44, 48]⟩ : ByteArray) = txt (x.en (tgtN x pc)) (lit [111, 117, 116, 32, 40, 99, 41, 44, 48]) by rw [txt_arr (x.en (tgtN x pc)) #[111, 117, 116, 32, 40, 99, 41, 44, 48]])
  clear h
  unfold In.arr
  go_enter Tryd.func44, Tryd.ntmps44
  go_upto_region 1 with (fail)
  have k := K.out
  clear K
  unfold In.arr at k
  generalize (w.alloc (.cells #[.int .i64 x.set, .int .i64 x.ix, .int .u8 x.code, .int .u8 x.d, .int .u16 x.n, .int .i64 x.len] 26)).alloc (.cells #[.int .u8 a, .int .u8 6, .int .u8 1, .int .u8 p, .int .u8 q] 46) = w1 at k ⊢
  have p1 := k.p1
  have p2 := k.p2
  have HB := Lib.hid k.below
  clear k
  go_wp2_with fail
  go_ret
  exact ⟨by rw [← HZ.out]; rfl, HB.out⟩
set_option maxRecDepth 100000 in
set_option maxHeartbeats 1600000 in
theorem opMid1 (x : In) (a : Int) (y : Nat) (p : Int) (q : Int) (pc : Nat) (w : World) (h : OpTab w) (y8 : y < 8) (hn : ((y : Int) == 6) = false) : Calls Tryd.prog 44 #[.agg x.arr, .agg #[.int .u8 a, .int .u8 (y : Int), .int .u8 1, .int .u8 p, .int .u8 q]] w fun e w' => e = .returned (.string (txt (x.en (tgtN x pc)) (lit [111, 117, 116, 32, 40, 99, 41, 44] ++ lit (regsL.getD y [])))) ∧ Below w.heap.size w w' := by
  have K := Lib.hid (two_made w x a ((y : Int)) 1 p q 26 46 h)
  have y0 : (0 : Int) ≤ y := by omega
  have y1 : (y : Int) < 8 := by omega
  have hrR : ∀ u, OpTab u → u.cell? ⟨0, y, none⟩ = some (.string (strL (regsL.getD y []))) := fun u h => h.regs y (by omega)
  have sR : (strL (regsL.getD y [])).size ≤ 4 := strL_le _ _ (regsL_le _)
  have hz : txt (x.en (tgtN x pc)) (lit [111, 117, 116, 32, 40, 99, 41, 44] ++ lit (regsL.getD y [])) = ⟨#[111, 117, 116, 32, 40, 99, 41, 44]⟩ ++ strL (regsL.getD y []) := by rw [txt_arr (x.en (tgtN x pc)) #[111, 117, 116, 32, 40, 99, 41, 44], ← txt_lit (x.en (tgtN x pc)) (regsL.getD y []), txt_app]
  generalize regsL.getD y [] = R at hrR sR hz ⊢
  have HZ := Lib.hid hz
  have HR := Lib.hid hrR
  clear hz hrR
  clear h y8
  unfold In.arr
  go_enter Tryd.func44, Tryd.ntmps44
  go_upto_region 1 with (fail)
  have k := K.out
  clear K
  unfold In.arr at k
  generalize (w.alloc (.cells #[.int .i64 x.set, .int .i64 x.ix, .int .u8 x.code, .int .u8 x.d, .int .u16 x.n, .int .i64 x.len] 26)).alloc (.cells #[.int .u8 a, .int .u8 (y : Int), .int .u8 1, .int .u8 p, .int .u8 q] 46) = w1 at k ⊢
  have p1 := k.p1
  have p2 := k.p2
  have c := HR.out _ k.tab
  have HB := Lib.hid k.below
  clear k
  go_wp2_with fail
  go_ret
  exact ⟨by rw [HZ.out]; rfl, HB.out⟩
set_option maxRecDepth 100000 in
set_option maxHeartbeats 1600000 in
theorem opMid20 (x : In) (a : Int) (y : Int) (p : Nat) (pc : Nat) (w : World) (h : OpTab w) (p4 : p < 4) : Calls Tryd.prog 44 #[.agg x.arr, .agg #[.int .u8 a, .int .u8 y, .int .u8 2, .int .u8 (p : Int), .int .u8 0]] w fun e w' => e = .returned (.string (txt (x.en (tgtN x pc)) (lit [115, 98, 99, 32, 104, 108, 44] ++ lit (pairsL.getD p [])))) ∧ Below w.heap.size w w' := by
  have K := Lib.hid (two_made w x a y 2 ((p : Int)) 0 26 46 h)
  have p0 : (0 : Int) ≤ p := by omega
  have p1 : (p : Int) < 4 := by omega
  have hrR : ∀ u, OpTab u → u.cell? ⟨7, p, none⟩ = some (.string (strL (pairsL.getD p []))) := fun u h => h.pairs p (by omega)
  have sR : (strL (pairsL.getD p [])).size ≤ 2 := strL_le _ _ (pairsL_le _)
  have hz : txt (x.en (tgtN x pc)) (lit [115, 98, 99, 32, 104, 108, 44] ++ lit (pairsL.getD p [])) = ⟨#[115, 98, 99, 32, 104, 108, 44]⟩ ++ strL (pairsL.getD p []) := by rw [txt_arr (x.en (tgtN x pc)) #[115, 98, 99, 32, 104, 108, 44], ← txt_lit (x.en (tgtN x pc)) (pairsL.getD p []), txt_app]
  generalize pairsL.getD p [] = R at hrR sR hz ⊢
  have HZ := Lib.hid hz
  have HR := Lib.hid hrR
  clear hz hrR
  clear h p4
  unfold In.arr
  go_enter Tryd.func44, Tryd.ntmps44
  go_upto_region 1 with (fail)
  have k := K.out
  clear K
  unfold In.arr at k
  generalize (w.alloc (.cells #[.int .i64 x.set, .int .i64 x.ix, .int .u8 x.code, .int .u8 x.d, .int .u16 x.n, .int .i64 x.len] 26)).alloc (.cells #[.int .u8 a, .int .u8 y, .int .u8 2, .int .u8 (p : Int), .int .u8 0] 46) = w1 at k ⊢
  have p2 := k.p2
  have p3 := k.p3
  have p4 := k.p4
  have c := HR.out _ k.tab
  have HB := Lib.hid k.below
  clear k
  go_wp2_with fail
  go_ret
  exact ⟨by rw [HZ.out]; rfl, HB.out⟩
set_option maxRecDepth 100000 in
set_option maxHeartbeats 1600000 in
theorem opMid21 (x : In) (a : Int) (y : Int) (p : Nat) (pc : Nat) (w : World) (h : OpTab w) (p4 : p < 4) : Calls Tryd.prog 44 #[.agg x.arr, .agg #[.int .u8 a, .int .u8 y, .int .u8 2, .int .u8 (p : Int), .int .u8 1]] w fun e w' => e = .returned (.string (txt (x.en (tgtN x pc)) (lit [97, 100, 99, 32, 104, 108, 44] ++ lit (pairsL.getD p [])))) ∧ Below w.heap.size w w' := by
  have K := Lib.hid (two_made w x a y 2 ((p : Int)) 1 26 46 h)
  have p0 : (0 : Int) ≤ p := by omega
  have p1 : (p : Int) < 4 := by omega
  have hrR : ∀ u, OpTab u → u.cell? ⟨7, p, none⟩ = some (.string (strL (pairsL.getD p []))) := fun u h => h.pairs p (by omega)
  have sR : (strL (pairsL.getD p [])).size ≤ 2 := strL_le _ _ (pairsL_le _)
  have hz : txt (x.en (tgtN x pc)) (lit [97, 100, 99, 32, 104, 108, 44] ++ lit (pairsL.getD p [])) = ⟨#[97, 100, 99, 32, 104, 108, 44]⟩ ++ strL (pairsL.getD p []) := by rw [txt_arr (x.en (tgtN x pc)) #[97, 100, 99, 32, 104, 108, 44], ← txt_lit (x.en (tgtN x pc)) (pairsL.getD p []), txt_app]
  generalize pairsL.getD p [] = R at hrR sR hz ⊢
  have HZ := Lib.hid hz
  have HR := Lib.hid hrR
  clear hz hrR
  clear h p4
  unfold In.arr
  go_enter Tryd.func44, Tryd.ntmps44
  go_upto_region 1 with (fail)
  have k := K.out
  clear K
  unfold In.arr at k
  generalize (w.alloc (.cells #[.int .i64 x.set, .int .i64 x.ix, .int .u8 x.code, .int .u8 x.d, .int .u16 x.n, .int .i64 x.len] 26)).alloc (.cells #[.int .u8 a, .int .u8 y, .int .u8 2, .int .u8 (p : Int), .int .u8 1] 46) = w1 at k ⊢
  have p2 := k.p2
  have p3 := k.p3
  have p4 := k.p4
  have c := HR.out _ k.tab
  have HB := Lib.hid k.below
  clear k
  go_wp2_with fail
  go_ret
  exact ⟨by rw [HZ.out]; rfl, HB.out⟩
set_option maxRecDepth 100000 in
set_option maxHeartbeats 1600000 in
theorem opMid3 (x : In) (a : Int) (y : Int) (p : Nat) (q : Int) (pc : Nat) (w : World) (h : OpTab w) (ok : x.Ok) (p4 : p < 4) (q0 : 0 ≤ q) (q1 : q ≤ 1) : Calls Tryd.prog 44 #[.agg x.arr, .agg #[.int .u8 a, .int .u8 y, .int .u8 3, .int .u8 (p : Int), .int .u8 q]] w fun e w' => e = .returned (.string (txt (x.en (tgtN x pc)) (loadT (lit (pairsL.getD p [])) [.w4] q.toNat))) ∧ Below w.heap.size w w' := by
  have K := Lib.hid (two_made w x a y 3 ((p : Int)) q 26 46 h)
  have hrR : ∀ u, OpTab u → u.cell? ⟨7, p, none⟩ = some (.string (strL (pairsL.getD p []))) := fun u h => h.pairs p (by omega)
  have sR : (strL (pairsL.getD p [])).size ≤ 2 := strL_le _ _ (pairsL_le _)
  have p0 : (0 : Int) ≤ p := by omega
  have p1 : (p : Int) < 4 := by omega
  generalize pairsL.getD p [] = R at hrR sR ⊢
  have rl : R.length ≤ 2 := by rw [strL_size] at sR; exact sR
  have HU := Lib.hid (show ∀ u, TwoAt w x a y 3 (p : Int) q u → (fun u => (u.cell? ⟨w.heap.size, 4, none⟩ = some (.int .u16 x.n) ∧ u.cell? ⟨w.heap.size + 1, 3, none⟩ = some (.int .u8 (p : Int)) ∧ u.cell? ⟨w.heap.size + 1, 4, none⟩ = some (.int .u8 q) ∧ u.cell? ⟨7, p, none⟩ = some (.string (strL R))) ∧ TwoAt w x a y 3 (p : Int) q u) u from fun u hu => ⟨⟨hu.i4, hu.p3, hu.p4, hrR u hu.tab⟩, hu⟩)
  have C0 := Lib.hid (show ∀ u, (fun u => (u.cell? ⟨w.heap.size, 4, none⟩ = some (.int .u16 x.n) ∧ u.cell? ⟨w.heap.size + 1, 3, none⟩ = some (.int .u8 (p : Int)) ∧ u.cell? ⟨w.heap.size + 1, 4, none⟩ = some (.int .u8 q) ∧ u.cell? ⟨7, p, none⟩ = some (.string (strL R))) ∧ TwoAt w x a y 3 (p : Int) q u) u → Calls Tryd.prog 57 #[.int .u16 x.n] u fun e w' => e = .returned (.string (txt (x.en (tgtN x pc)) [.w4])) ∧ (fun u => (u.cell? ⟨w.heap.size, 4, none⟩ = some (.int .u16 x.n) ∧ u.cell? ⟨w.heap.size + 1, 3, none⟩ = some (.int .u8 (p : Int)) ∧ u.cell? ⟨w.heap.size + 1, 4, none⟩ = some (.int .u8 q) ∧ u.cell? ⟨7, p, none⟩ = some (.string (strL R))) ∧ TwoAt w x a y 3 (p : Int) q u) w' from fun u hu => (wordT x (tgtN x pc) u hu.2.tab ok).mono fun _ _ ⟨he, hb⟩ => ⟨he, HU.out _ (hu.2.later hb)⟩)
  have C1 := Lib.hid (show ∀ u, (fun u => (u.cell? ⟨w.heap.size, 4, none⟩ = some (.int .u16 x.n) ∧ u.cell? ⟨w.heap.size + 1, 3, none⟩ = some (.int .u8 (p : Int)) ∧ u.cell? ⟨w.heap.size + 1, 4, none⟩ = some (.int .u8 q) ∧ u.cell? ⟨7, p, none⟩ = some (.string (strL R))) ∧ TwoAt w x a y 3 (p : Int) q u) u → Calls Tryd.prog 65 #[.string (strL R), .string (txt (x.en (tgtN x pc)) [.w4]), .int .u8 q] u fun e w' => e = .returned (.string (txt (x.en (tgtN x pc)) (loadT (lit R) [.w4] q.toNat))) ∧ (fun u => (u.cell? ⟨w.heap.size, 4, none⟩ = some (.int .u16 x.n) ∧ u.cell? ⟨w.heap.size + 1, 3, none⟩ = some (.int .u8 (p : Int)) ∧ u.cell? ⟨w.heap.size + 1, 4, none⟩ = some (.int .u8 q) ∧ u.cell? ⟨7, p, none⟩ = some (.string (strL R))) ∧ TwoAt w x a y 3 (p : Int) q u) w' from fun u hu => (opLoadIs (x.en (tgtN x pc)) _ _ (lit R) [.w4] q u ok.d q0 q1 (by rw [lit_len]; omega) (by decide) (txt_lit _ _).symm rfl).mono fun _ _ ⟨he, hw⟩ => ⟨he, hw ▸ hu⟩)
  have HZ : Hid True := Lib.hid trivial
  clear h ok p4 hrR q0 q1 sR rl
  unfold In.arr
  go_enter Tryd.func44, Tryd.ntmps44
  go_upto_region 1 with (fail)
  have k := K.out
  clear K
  unfold In.arr at k
  generalize (w.alloc (.cells #[.int .i64 x.set, .int .i64 x.ix, .int .u8 x.code, .int .u8 x.d, .int .u16 x.n, .int .i64 x.len] 26)).alloc (.cells #[.int .u8 a, .int .u8 y, .int .u8 3, .int .u8 (p : Int), .int .u8 q] 46) = w1 at k ⊢
  have p2 := k.p2
  have hS1 := HU.out _ k.drew
  clear k
  go_wp2_with fail
  clear p2
  go_region_held3 (fun u => (u.cell? ⟨w.heap.size, 4, none⟩ = some (.int .u16 x.n) ∧ u.cell? ⟨w.heap.size + 1, 3, none⟩ = some (.int .u8 (p : Int)) ∧ u.cell? ⟨w.heap.size + 1, 4, none⟩ = some (.int .u8 q) ∧ u.cell? ⟨7, p, none⟩ = some (.string (strL R))) ∧ TwoAt w x a y 3 (p : Int) q u) (assumption) ((first | (go_at_call 57; refine (C0.out _ (by assumption)).mono ?_; rintro e w' ⟨rfl, hE⟩) | (go_at_call 65; refine (C1.out _ (by assumption)).mono ?_; rintro e w' ⟨rfl, hE⟩)))
  have HB := Lib.hid hE.2.below
  clear hE hS1 HZ
  go_wp2_with fail
  go_ret
  exact ⟨rfl, HB.out⟩
set_option maxRecDepth 100000 in
set_option maxHeartbeats 1600000 in
theorem opMid4 (x : In) (a : Int) (y : Int) (p : Int) (q : Int) (pc : Nat) (w : World) (h : OpTab w) : Calls Tryd.prog 44 #[.agg x.arr, .agg #[.int .u8 a, .int .u8 y, .int .u8 4, .int .u8 p, .int .u8 q]] w fun e w' => e = .returned (.string (txt (x.en (tgtN x pc)) (lit [110, 101, 103]))) ∧ Below w.heap.size w w' := by
  have K := Lib.hid (two_made w x a y 4 p q 26 46 h)
  have HZ := Lib.hid (show (⟨#[110, 101, 103]⟩ : ByteArray) = txt (x.en (tgtN x pc)) (lit [110, 101, 103]) by rw [txt_arr (x.en (tgtN x pc)) #[110, 101, 103]])
  clear h
  unfold In.arr
  go_enter Tryd.func44, Tryd.ntmps44
  go_upto_region 1 with (fail)
  have k := K.out
  clear K
  unfold In.arr at k
  generalize (w.alloc (.cells #[.int .i64 x.set, .int .i64 x.ix, .int .u8 x.code, .int .u8 x.d, .int .u16 x.n, .int .i64 x.len] 26)).alloc (.cells #[.int .u8 a, .int .u8 y, .int .u8 4, .int .u8 p, .int .u8 q] 46) = w1 at k ⊢
  have p2 := k.p2
  have HB := Lib.hid k.below
  clear k
  go_wp2_with fail
  go_ret
  exact ⟨by rw [← HZ.out]; rfl, HB.out⟩
set_option maxRecDepth 100000 in
set_option maxHeartbeats 1600000 in
theorem opMid51 (x : In) (a : Int) (p : Int) (q : Int) (pc : Nat) (w : World) (h : OpTab w) : Calls Tryd.prog 44 #[.agg x.arr, .agg #[.int .u8 a, .int .u8 1, .int .u8 5, .int .u8 p, .int .u8 q]] w fun e w' => e = .returned (.string (txt (x.en (tgtN x pc)) (lit [114, 101, 116, 105]))) ∧ Below w.heap.size w w' := by
  have K := Lib.hid (two_made w x a 1 5 p q 26 46 h)
  have HZ := Lib.hid (show (⟨#[114, 101, 116, 105]⟩ : ByteArray) = txt (x.en (tgtN x pc)) (lit [114, 101, 116, 105]) by rw [txt_arr (x.en (tgtN x pc)) #[114, 101, 116, 105]])
  clear h
  unfold In.arr
  go_enter Tryd.func44, Tryd.ntmps44
  go_upto_region 1 with (fail)
  have k := K.out
  clear K
  unfold In.arr at k
  generalize (w.alloc (.cells #[.int .i64 x.set, .int .i64 x.ix, .int .u8 x.code, .int .u8 x.d, .int .u16 x.n, .int .i64 x.len] 26)).alloc (.cells #[.int .u8 a, .int .u8 1, .int .u8 5, .int .u8 p, .int .u8 q] 46) = w1 at k ⊢
  have p1 := k.p1
  have p2 := k.p2
  have HB := Lib.hid k.below
  clear k
  go_wp2_with fail
  go_ret
  exact ⟨by rw [← HZ.out]; rfl, HB.out⟩
set_option maxRecDepth 100000 in
set_option maxHeartbeats 1600000 in
theorem opMid5 (x : In) (a : Int) (y : Int) (p : Int) (q : Int) (pc : Nat) (w : World) (h : OpTab w) (hn : (y == 1) = false) : Calls Tryd.prog 44 #[.agg x.arr, .agg #[.int .u8 a, .int .u8 y, .int .u8 5, .int .u8 p, .int .u8 q]] w fun e w' => e = .returned (.string (txt (x.en (tgtN x pc)) (lit [114, 101, 116, 110]))) ∧ Below w.heap.size w w' := by
  have K := Lib.hid (two_made w x a y 5 p q 26 46 h)
  have HZ := Lib.hid (show (⟨#[114, 101, 116, 110]⟩ : ByteArray) = txt (x.en (tgtN x pc)) (lit [114, 101, 116, 110]) by rw [txt_arr (x.en (tgtN x pc)) #[114, 101, 116, 110]])
  clear h
  unfold In.arr
  go_enter Tryd.func44, Tryd.ntmps44
  go_upto_region 1 with (fail)
  have k := K.out
  clear K
  unfold In.arr at k
  generalize (w.alloc (.cells #[.int .i64 x.set, .int .i64 x.ix, .int .u8 x.code, .int .u8 x.d, .int .u16 x.n, .int .i64 x.len] 26)).alloc (.cells #[.int .u8 a, .int .u8 y, .int .u8 5, .int .u8 p, .int .u8 q] 46) = w1 at k ⊢
  have p1 := k.p1
  have p2 := k.p2
  have HB := Lib.hid k.below
  clear k
  go_wp2_with fail
  go_ret
  exact ⟨by rw [← HZ.out]; rfl, HB.out⟩
set_option maxRecDepth 100000 in
set_option maxHeartbeats 1600000 in
theorem opMid60 (x : In) (a : Int) (p : Int) (q : Int) (pc : Nat) (w : World) (h : OpTab w) : Calls Tryd.prog 44 #[.agg x.arr, .agg #[.int .u8 a, .int .u8 0, .int .u8 6, .int .u8 p, .int .u8 q]] w fun e w' => e = .returned (.string (txt (x.en (tgtN x pc)) (lit (modesL.getD 0 [])))) ∧ Below w.heap.size w w' := by
  have K := Lib.hid (two_made w x a 0 6 p q 26 46 h)
  have hrR : ∀ u, OpTab u → u.cell? ⟨8, 0, none⟩ = some (.string (strL (modesL.getD 0 []))) := fun u h => h.modes 0 (by decide)
  have sR : (strL (modesL.getD 0 [])).size ≤ 4 := strL_le _ _ (modesL_le _)
  have hz : txt (x.en (tgtN x pc)) (lit (modesL.getD 0 [])) = strL (modesL.getD 0 []) := by rw [← txt_lit (x.en (tgtN x pc)) (modesL.getD 0 [])]
  generalize modesL.getD 0 [] = R at hrR sR hz ⊢
  have HZ := Lib.hid hz
  have HR := Lib.hid hrR
  clear hz hrR sR
  clear h
  unfold In.arr
  go_enter Tryd.func44, Tryd.ntmps44
  go_upto_region 1 with (fail)
  have k := K.out
  clear K
  unfold In.arr at k
  generalize (w.alloc (.cells #[.int .i64 x.set, .int .i64 x.ix, .int .u8 x.code, .int .u8 x.d, .int .u16 x.n, .int .i64 x.len] 26)).alloc (.cells #[.int .u8 a, .int .u8 0, .int .u8 6, .int .u8 p, .int .u8 q] 46) = w1 at k ⊢
  have p1 := k.p1
  have p2 := k.p2
  have c := HR.out _ k.tab
  have HB := Lib.hid k.below
  clear k
  go_wp2_with fail
  go_ret
  exact ⟨by rw [HZ.out]; rfl, HB.out⟩
set_option maxRecDepth 100000 in
set_option maxHeartbeats 1600000 in
theorem opMid61 (x : In) (a : Int) (p : Int) (q : Int) (pc : Nat) (w : World) (h : OpTab w) : Calls Tryd.prog 44 #[.agg x.arr, .agg #[.int .u8 a, .int .u8 1, .int .u8 6, .int .u8 p, .int .u8 q]] w fun e w' => e = .returned (.string (txt (x.en (tgtN x pc)) (lit (modesL.getD 1 [])))) ∧ Below w.heap.size w w' := by
  have K := Lib.hid (two_made w x a 1 6 p q 26 46 h)
  have hrR : ∀ u, OpTab u → u.cell? ⟨8, 1, none⟩ = some (.string (strL (modesL.getD 1 []))) := fun u h => h.modes 1 (by decide)
  have sR : (strL (modesL.getD 1 [])).size ≤ 4 := strL_le _ _ (modesL_le _)
  have hz : txt (x.en (tgtN x pc)) (lit (modesL.getD 1 [])) = strL (modesL.getD 1 []) := by rw [← txt_lit (x.en (tgtN x pc)) (modesL.getD 1 [])]
  generalize modesL.getD 1 [] = R at hrR sR hz ⊢
  have HZ := Lib.hid hz
  have HR := Lib.hid hrR
  clear hz hrR sR
  clear h
  unfold In.arr
  go_enter Tryd.func44, Tryd.ntmps44
  go_upto_region 1 with (fail)
  have k := K.out
  clear K
  unfold In.arr at k
  generalize (w.alloc (.cells #[.int .i64 x.set, .int .i64 x.ix, .int .u8 x.code, .int .u8 x.d, .int .u16 x.n, .int .i64 x.len] 26)).alloc (.cells #[.int .u8 a, .int .u8 1, .int .u8 6, .int .u8 p, .int .u8 q] 46) = w1 at k ⊢
  have p1 := k.p1
  have p2 := k.p2
  have c := HR.out _ k.tab
  have HB := Lib.hid k.below
  clear k
  go_wp2_with fail
  go_ret
  exact ⟨by rw [HZ.out]; rfl, HB.out⟩
set_option maxRecDepth 100000 in
set_option maxHeartbeats 1600000 in
theorem opMid62 (x : In) (a : Int) (p : Int) (q : Int) (pc : Nat) (w : World) (h : OpTab w) : Calls Tryd.prog 44 #[.agg x.arr, .agg #[.int .u8 a, .int .u8 2, .int .u8 6, .int .u8 p, .int .u8 q]] w fun e w' => e = .returned (.string (txt (x.en (tgtN x pc)) (lit (modesL.getD 2 [])))) ∧ Below w.heap.size w w' := by
  have K := Lib.hid (two_made w x a 2 6 p q 26 46 h)
  have hrR : ∀ u, OpTab u → u.cell? ⟨8, 2, none⟩ = some (.string (strL (modesL.getD 2 []))) := fun u h => h.modes 2 (by decide)
  have sR : (strL (modesL.getD 2 [])).size ≤ 4 := strL_le _ _ (modesL_le _)
  have hz : txt (x.en (tgtN x pc)) (lit (modesL.getD 2 [])) = strL (modesL.getD 2 []) := by rw [← txt_lit (x.en (tgtN x pc)) (modesL.getD 2 [])]
  generalize modesL.getD 2 [] = R at hrR sR hz ⊢
  have HZ := Lib.hid hz
  have HR := Lib.hid hrR
  clear hz hrR sR
  clear h
  unfold In.arr
  go_enter Tryd.func44, Tryd.ntmps44
  go_upto_region 1 with (fail)
  have k := K.out
  clear K
  unfold In.arr at k
  generalize (w.alloc (.cells #[.int .i64 x.set, .int .i64 x.ix, .int .u8 x.code, .int .u8 x.d, .int .u16 x.n, .int .i64 x.len] 26)).alloc (.cells #[.int .u8 a, .int .u8 2, .int .u8 6, .int .u8 p, .int .u8 q] 46) = w1 at k ⊢
  have p1 := k.p1
  have p2 := k.p2
  have c := HR.out _ k.tab
  have HB := Lib.hid k.below
  clear k
  go_wp2_with fail
  go_ret
  exact ⟨by rw [HZ.out]; rfl, HB.out⟩
set_option maxRecDepth 100000 in
set_option maxHeartbeats 1600000 in
theorem opMid63 (x : In) (a : Int) (p : Int) (q : Int) (pc : Nat) (w : World) (h : OpTab w) : Calls Tryd.prog 44 #[.agg x.arr, .agg #[.int .u8 a, .int .u8 3, .int .u8 6, .int .u8 p, .int .u8 q]] w fun e w' => e = .returned (.string (txt (x.en (tgtN x pc)) (lit (modesL.getD 3 [])))) ∧ Below w.heap.size w w' := by
  have K := Lib.hid (two_made w x a 3 6 p q 26 46 h)
  have hrR : ∀ u, OpTab u → u.cell? ⟨8, 3, none⟩ = some (.string (strL (modesL.getD 3 []))) := fun u h => h.modes 3 (by decide)
  have sR : (strL (modesL.getD 3 [])).size ≤ 4 := strL_le _ _ (modesL_le _)
  have hz : txt (x.en (tgtN x pc)) (lit (modesL.getD 3 [])) = strL (modesL.getD 3 []) := by rw [← txt_lit (x.en (tgtN x pc)) (modesL.getD 3 [])]
  generalize modesL.getD 3 [] = R at hrR sR hz ⊢
  have HZ := Lib.hid hz
  have HR := Lib.hid hrR
  clear hz hrR sR
  clear h
  unfold In.arr
  go_enter Tryd.func44, Tryd.ntmps44
  go_upto_region 1 with (fail)
  have k := K.out
  clear K
  unfold In.arr at k
  generalize (w.alloc (.cells #[.int .i64 x.set, .int .i64 x.ix, .int .u8 x.code, .int .u8 x.d, .int .u16 x.n, .int .i64 x.len] 26)).alloc (.cells #[.int .u8 a, .int .u8 3, .int .u8 6, .int .u8 p, .int .u8 q] 46) = w1 at k ⊢
  have p1 := k.p1
  have p2 := k.p2
  have c := HR.out _ k.tab
  have HB := Lib.hid k.below
  clear k
  go_wp2_with fail
  go_ret
  exact ⟨by rw [HZ.out]; rfl, HB.out⟩
set_option maxRecDepth 100000 in
set_option maxHeartbeats 1600000 in
theorem opMid64 (x : In) (a : Int) (p : Int) (q : Int) (pc : Nat) (w : World) (h : OpTab w) : Calls Tryd.prog 44 #[.agg x.arr, .agg #[.int .u8 a, .int .u8 4, .int .u8 6, .int .u8 p, .int .u8 q]] w fun e w' => e = .returned (.string (txt (x.en (tgtN x pc)) (lit (modesL.getD 0 [])))) ∧ Below w.heap.size w w' := by
  have K := Lib.hid (two_made w x a 4 6 p q 26 46 h)
  have hrR : ∀ u, OpTab u → u.cell? ⟨8, 0, none⟩ = some (.string (strL (modesL.getD 0 []))) := fun u h => h.modes 0 (by decide)
  have sR : (strL (modesL.getD 0 [])).size ≤ 4 := strL_le _ _ (modesL_le _)
  have hz : txt (x.en (tgtN x pc)) (lit (modesL.getD 0 [])) = strL (modesL.getD 0 []) := by rw [← txt_lit (x.en (tgtN x pc)) (modesL.getD 0 [])]
  generalize modesL.getD 0 [] = R at hrR sR hz ⊢
  have HZ := Lib.hid hz
  have HR := Lib.hid hrR
  clear hz hrR sR
  clear h
  unfold In.arr
  go_enter Tryd.func44, Tryd.ntmps44
  go_upto_region 1 with (fail)
  have k := K.out
  clear K
  unfold In.arr at k
  generalize (w.alloc (.cells #[.int .i64 x.set, .int .i64 x.ix, .int .u8 x.code, .int .u8 x.d, .int .u16 x.n, .int .i64 x.len] 26)).alloc (.cells #[.int .u8 a, .int .u8 4, .int .u8 6, .int .u8 p, .int .u8 q] 46) = w1 at k ⊢
  have p1 := k.p1
  have p2 := k.p2
  have c := HR.out _ k.tab
  have HB := Lib.hid k.below
  clear k
  go_wp2_with fail
  go_ret
  exact ⟨by rw [HZ.out]; rfl, HB.out⟩
set_option maxRecDepth 100000 in
set_option maxHeartbeats 1600000 in
theorem opMid65 (x : In) (a : Int) (p : Int) (q : Int) (pc : Nat) (w : World) (h : OpTab w) : Calls Tryd.prog 44 #[.agg x.arr, .agg #[.int .u8 a, .int .u8 5, .int .u8 6, .int .u8 p, .int .u8 q]] w fun e w' => e = .returned (.string (txt (x.en (tgtN x pc)) (lit (modesL.getD 1 [])))) ∧ Below w.heap.size w w' := by
  have K := Lib.hid (two_made w x a 5 6 p q 26 46 h)
  have hrR : ∀ u, OpTab u → u.cell? ⟨8, 1, none⟩ = some (.string (strL (modesL.getD 1 []))) := fun u h => h.modes 1 (by decide)
  have sR : (strL (modesL.getD 1 [])).size ≤ 4 := strL_le _ _ (modesL_le _)
  have hz : txt (x.en (tgtN x pc)) (lit (modesL.getD 1 [])) = strL (modesL.getD 1 []) := by rw [← txt_lit (x.en (tgtN x pc)) (modesL.getD 1 [])]
  generalize modesL.getD 1 [] = R at hrR sR hz ⊢
  have HZ := Lib.hid hz
  have HR := Lib.hid hrR
  clear hz hrR sR
  clear h
  unfold In.arr
  go_enter Tryd.func44, Tryd.ntmps44
  go_upto_region 1 with (fail)
  have k := K.out
  clear K
  unfold In.arr at k
  generalize (w.alloc (.cells #[.int .i64 x.set, .int .i64 x.ix, .int .u8 x.code, .int .u8 x.d, .int .u16 x.n, .int .i64 x.len] 26)).alloc (.cells #[.int .u8 a, .int .u8 5, .int .u8 6, .int .u8 p, .int .u8 q] 46) = w1 at k ⊢
  have p1 := k.p1
  have p2 := k.p2
  have c := HR.out _ k.tab
  have HB := Lib.hid k.below
  clear k
  go_wp2_with fail
  go_ret
  exact ⟨by rw [HZ.out]; rfl, HB.out⟩
set_option maxRecDepth 100000 in
set_option maxHeartbeats 1600000 in
theorem opMid66 (x : In) (a : Int) (p : Int) (q : Int) (pc : Nat) (w : World) (h : OpTab w) : Calls Tryd.prog 44 #[.agg x.arr, .agg #[.int .u8 a, .int .u8 6, .int .u8 6, .int .u8 p, .int .u8 q]] w fun e w' => e = .returned (.string (txt (x.en (tgtN x pc)) (lit (modesL.getD 2 [])))) ∧ Below w.heap.size w w' := by
  have K := Lib.hid (two_made w x a 6 6 p q 26 46 h)
  have hrR : ∀ u, OpTab u → u.cell? ⟨8, 2, none⟩ = some (.string (strL (modesL.getD 2 []))) := fun u h => h.modes 2 (by decide)
  have sR : (strL (modesL.getD 2 [])).size ≤ 4 := strL_le _ _ (modesL_le _)
  have hz : txt (x.en (tgtN x pc)) (lit (modesL.getD 2 [])) = strL (modesL.getD 2 []) := by rw [← txt_lit (x.en (tgtN x pc)) (modesL.getD 2 [])]
  generalize modesL.getD 2 [] = R at hrR sR hz ⊢
  have HZ := Lib.hid hz
  have HR := Lib.hid hrR
  clear hz hrR sR
  clear h
  unfold In.arr
  go_enter Tryd.func44, Tryd.ntmps44
  go_upto_region 1 with (fail)
  have k := K.out
  clear K
  unfold In.arr at k
  generalize (w.alloc (.cells #[.int .i64 x.set, .int .i64 x.ix, .int .u8 x.code, .int .u8 x.d, .int .u16 x.n, .int .i64 x.len] 26)).alloc (.cells #[.int .u8 a, .int .u8 6, .int .u8 6, .int .u8 p, .int .u8 q] 46) = w1 at k ⊢
  have p1 := k.p1
  have p2 := k.p2
  have c := HR.out _ k.tab
  have HB := Lib.hid k.below
  clear k
  go_wp2_with fail
  go_ret
  exact ⟨by rw [HZ.out]; rfl, HB.out⟩
set_option maxRecDepth 100000 in
set_option maxHeartbeats 1600000 in
theorem opMid67 (x : In) (a : Int) (p : Int) (q : Int) (pc : Nat) (w : World) (h : OpTab w) : Calls Tryd.prog 44 #[.agg x.arr, .agg #[.int .u8 a, .int .u8 7, .int .u8 6, .int .u8 p, .int .u8 q]] w fun e w' => e = .returned (.string (txt (x.en (tgtN x pc)) (lit (modesL.getD 3 [])))) ∧ Below w.heap.size w w' := by
  have K := Lib.hid (two_made w x a 7 6 p q 26 46 h)
  have hrR : ∀ u, OpTab u → u.cell? ⟨8, 3, none⟩ = some (.string (strL (modesL.getD 3 []))) := fun u h => h.modes 3 (by decide)
  have sR : (strL (modesL.getD 3 [])).size ≤ 4 := strL_le _ _ (modesL_le _)
  have hz : txt (x.en (tgtN x pc)) (lit (modesL.getD 3 [])) = strL (modesL.getD 3 []) := by rw [← txt_lit (x.en (tgtN x pc)) (modesL.getD 3 [])]
  generalize modesL.getD 3 [] = R at hrR sR hz ⊢
  have HZ := Lib.hid hz
  have HR := Lib.hid hrR
  clear hz hrR sR
  clear h
  unfold In.arr
  go_enter Tryd.func44, Tryd.ntmps44
  go_upto_region 1 with (fail)
  have k := K.out
  clear K
  unfold In.arr at k
  generalize (w.alloc (.cells #[.int .i64 x.set, .int .i64 x.ix, .int .u8 x.code, .int .u8 x.d, .int .u16 x.n, .int .i64 x.len] 26)).alloc (.cells #[.int .u8 a, .int .u8 7, .int .u8 6, .int .u8 p, .int .u8 q] 46) = w1 at k ⊢
  have p1 := k.p1
  have p2 := k.p2
  have c := HR.out _ k.tab
  have HB := Lib.hid k.below
  clear k
  go_wp2_with fail
  go_ret
  exact ⟨by rw [HZ.out]; rfl, HB.out⟩
set_option maxRecDepth 100000 in
set_option maxHeartbeats 1600000 in
theorem opMid7 (x : In) (a : Int) (y : Nat) (p : Int) (q : Int) (pc : Nat) (w : World) (h : OpTab w) (y8 : y < 8) : Calls Tryd.prog 44 #[.agg x.arr, .agg #[.int .u8 a, .int .u8 (y : Int), .int .u8 7, .int .u8 p, .int .u8 q]] w fun e w' => e = .returned (.string (txt (x.en (tgtN x pc)) (lit (ofIL.getD y [])))) ∧ Below w.heap.size w w' := by
  have K := Lib.hid (two_made w x a ((y : Int)) 7 p q 26 46 h)
  have y0 : (0 : Int) ≤ y := by omega
  have y1 : (y : Int) < 8 := by omega
  have hrR : ∀ u, OpTab u → u.cell? ⟨9, y, none⟩ = some (.string (strL (ofIL.getD y []))) := fun u h => h.ofI y (by omega)
  have sR : (strL (ofIL.getD y [])).size ≤ 6 := strL_le _ _ (ofIL_le _)
  have hz : txt (x.en (tgtN x pc)) (lit (ofIL.getD y [])) = strL (ofIL.getD y []) := by rw [← txt_lit (x.en (tgtN x pc)) (ofIL.getD y [])]
  generalize ofIL.getD y [] = R at hrR sR hz ⊢
  have HZ := Lib.hid hz
  have HR := Lib.hid hrR
  clear hz hrR sR
  clear h y8
  unfold In.arr
  go_enter Tryd.func44, Tryd.ntmps44
  go_upto_region 1 with (fail)
  have k := K.out
  clear K
  unfold In.arr at k
  generalize (w.alloc (.cells #[.int .i64 x.set, .int .i64 x.ix, .int .u8 x.code, .int .u8 x.d, .int .u16 x.n, .int .i64 x.len] 26)).alloc (.cells #[.int .u8 a, .int .u8 (y : Int), .int .u8 7, .int .u8 p, .int .u8 q] 46) = w1 at k ⊢
  have p1 := k.p1
  have p2 := k.p2
  have c := HR.out _ k.tab
  have HB := Lib.hid k.below
  clear k
  go_wp2_with fail
  go_ret
  exact ⟨by rw [HZ.out]; rfl, HB.out⟩
theorem opMid (x : In) (a y z p q : Int) (pc : Nat) (w : World) (h : OpTab w) (ok : x.Ok) (y0 : 0 ≤ y) (y7 : y ≤ 7) (z0 : 0 ≤ z) (z7 : z ≤ 7) (p0 : 0 ≤ p) (p3 : p ≤ 3) (q0 : 0 ≤ q) (q1 : q ≤ 1) : Calls Tryd.prog 44 #[.agg x.arr, .agg #[.int .u8 a, .int .u8 y, .int .u8 z, .int .u8 p, .int .u8 q]] w fun e w' => e = .returned (.string (txt (x.en (tgtN x pc)) (midT y.toNat z.toNat p.toNat q.toNat))) ∧ Below w.heap.size w w' := by
  have eq : q = 0 ∨ q = 1 := by omega
  obtain ⟨Y, rfl⟩ := Int.eq_ofNat_of_zero_le y0
  obtain ⟨P, rfl⟩ := Int.eq_ofNat_of_zero_le p0
  rw [Int.toNat_natCast, Int.toNat_natCast]
  rcases z8 z z0 z7 with rfl | rfl | rfl | rfl | rfl | rfl | rfl | rfl
  · by_cases e6 : Y = 6
    · subst e6; exact opMid06 x a P q pc w h
    · have e : midT Y 0 P q.toNat = lit [105, 110, 32] ++ lit (regsL.getD Y []) ++ lit [44, 40, 99, 41] := by unfold midT; rw [if_pos rfl, if_neg e6]
      rw [show Int.toNat 0 = 0 from rfl, e]
      exact opMid0 x a Y P q pc w h (by omega) (by simp; omega)
  · by_cases e6 : Y = 6
    · subst e6; exact opMid16 x a P q pc w h
    · have e : midT Y 1 P q.toNat = lit [111, 117, 116, 32, 40, 99, 41, 44] ++ lit (regsL.getD Y []) := by unfold midT; rw [if_neg (by decide), if_pos rfl, if_neg e6]
      rw [show Int.toNat 1 = 1 from rfl, e]
      exact opMid1 x a Y P q pc w h (by omega) (by simp; omega)
  · rcases eq with rfl | rfl
    · exact opMid20 x a Y P pc w h (by omega)
    · exact opMid21 x a Y P pc w h (by omega)
  · exact opMid3 x a Y P q pc w h ok (by omega) q0 q1
  · exact opMid4 x a Y P q pc w h
  · by_cases e1 : Y = 1
    · subst e1; exact opMid51 x a P q pc w h
    · have e : midT Y 5 P q.toNat = lit [114, 101, 116, 110] := by unfold midT; rw [if_neg (by decide), if_neg (by decide), if_neg (by decide), if_neg (by decide), if_neg (by decide), if_pos rfl, if_neg e1]
      rw [show Int.toNat 5 = 5 from rfl, e]
      exact opMid5 x a Y P q pc w h (by simp; omega)
  · rcases z8 (Y : Int) y0 y7 with e | e | e | e | e | e | e | e
    · obtain rfl : Y = 0 := by omega
      exact opMid60 x a P q pc w h
    · obtain rfl : Y = 1 := by omega
      exact opMid61 x a P q pc w h
    · obtain rfl : Y = 2 := by omega
      exact opMid62 x a P q pc w h
    · obtain rfl : Y = 3 := by omega
      exact opMid63 x a P q pc w h
    · obtain rfl : Y = 4 := by omega
      exact opMid64 x a P q pc w h
    · obtain rfl : Y = 5 := by omega
      exact opMid65 x a P q pc w h
    · obtain rfl : Y = 6 := by omega
      exact opMid66 x a P q pc w h
    · obtain rfl : Y = 7 := by omega
      exact opMid67 x a P q pc w h
  · exact opMid7 x a Y P q pc w h (by omega)

/-- A code's parts in a box of the call's own. -/
structure PtAt (w : World) (a b c d e : Int) (u : World) : Prop where
  p0 : u.cell? ⟨w.heap.size, 0, none⟩ = some (.int .u8 a)
  p1 : u.cell? ⟨w.heap.size, 1, none⟩ = some (.int .u8 b)
  p2 : u.cell? ⟨w.heap.size, 2, none⟩ = some (.int .u8 c)
  p3 : u.cell? ⟨w.heap.size, 3, none⟩ = some (.int .u8 d)
  p4 : u.cell? ⟨w.heap.size, 4, none⟩ = some (.int .u8 e)
  lt : w.heap.size < u.heap.size
  tab : OpTab u
  below : Below w.heap.size w u
theorem PtAt.later {w : World} {a b c d e : Int} {u u' : World} (h : PtAt w a b c d e u) (hb : Below u.heap.size u u') : PtAt w a b c d e u' where
  p0 := (hb.cell (p := ⟨w.heap.size, 0, none⟩) h.lt).trans h.p0
  p1 := (hb.cell (p := ⟨w.heap.size, 1, none⟩) h.lt).trans h.p1
  p2 := (hb.cell (p := ⟨w.heap.size, 2, none⟩) h.lt).trans h.p2
  p3 := (hb.cell (p := ⟨w.heap.size, 3, none⟩) h.lt).trans h.p3
  p4 := (hb.cell (p := ⟨w.heap.size, 4, none⟩) h.lt).trans h.p4
  lt := Nat.lt_of_lt_of_le h.lt hb.size
  tab := h.tab.below hb
  below := below_step h.below hb
theorem PtAt.drew {w : World} {a b c d e : Int} {u : World} (h : PtAt w a b c d e u) : PtAt w a b c d e u.drew := h.later (Below.refl _ _).drew
theorem pt_made (w : World) (a b c d e : Int) (t : TypeId) (h : OpTab w) : PtAt w a b c d e (w.alloc (.cells #[.int .u8 a, .int .u8 b, .int .u8 c, .int .u8 d, .int .u8 e] t)) := by
  have key : ∀ j v, (#[.int .u8 a, .int .u8 b, .int .u8 c, .int .u8 d, .int .u8 e] : Array Value)[j]? = some v → (w.alloc (.cells #[.int .u8 a, .int .u8 b, .int .u8 c, .int .u8 d, .int .u8 e] t)).cell? ⟨w.heap.size, j, none⟩ = some v := fun j v hv => box_at (Below.refl _ _) j v hv
  exact ⟨key 0 _ rfl, key 1 _ rfl, key 2 _ rfl, key 3 _ rfl, key 4 _ rfl, by simp, h.alloc _, balloc w _⟩
set_option maxRecDepth 100000 in
set_option maxHeartbeats 1600000 in
theorem opTurn0 (E : En) (y : Nat) (z p q : Int) (m : List Tk) (w : World) (h : OpTab w) (y8 : y < 8) (hd : E.d < 256) (hm : m.length ≤ 10) : Calls Tryd.prog 21 #[.agg #[.int .u8 0, .int .u8 y, .int .u8 z, .int .u8 p, .int .u8 q], .string (txt E m)] w fun e w' => e = .returned (.string (txt E (turnT 0 y m))) ∧ Below w.heap.size w w' := by
  have s1 := txt_le E m 100 hd (by omega)
  have hr : ∀ u, OpTab u → u.cell? ⟨2, y, none⟩ = some (.string (strL (turnsL.getD y []))) := fun u h => h.turns y y8
  have s2 : (strL (turnsL.getD y [])).size ≤ 4 := strL_le _ _ (turnsL_le _)
  have hz : txt E (turnT 0 y m) = strL (turnsL.getD y []) ++ txt E m := by rw [← txt_lit E (turnsL.getD y []), txt_app]; rfl
  generalize turnsL.getD y [] = R at hr s2 hz
  generalize txt E m = M at s1 hz ⊢
  have y0 : (0 : Int) ≤ y := by omega
  have y1 : (y : Int) < 8 := by omega
  have HZ := Lib.hid hz
  have HR := Lib.hid hr
  have K := Lib.hid (pt_made w 0 y z p q 46 h)
  clear hz hr h y8 hd hm
  go_enter Tryd.func21, Tryd.ntmps21
  go_upto_region 1 with (fail)
  have k := K.out
  clear K
  generalize w.alloc (.cells #[.int .u8 0, .int .u8 y, .int .u8 z, .int .u8 p, .int .u8 q] 46) = w1 at k ⊢
  have p0 := k.p0
  have p1 := k.p1
  have c := HR.out _ k.tab
  have HB := Lib.hid k.below
  clear k
  go_wp2_with fail
  go_ret
  exact ⟨by rw [HZ.out]; rfl, HB.out⟩
theorem itoa_dig (y : Nat) (h : y < 10) : Lib.itoa (y : Int) = [UInt8.ofNat (48 + y)] := by
  unfold Lib.itoa
  rw [if_neg (by omega), Int.toNat_natCast, Lib.decDigits, dif_pos h]
set_option maxRecDepth 100000 in
set_option maxHeartbeats 1600000 in
theorem opTurn1 (E : En) (y : Nat) (z p q : Int) (m : List Tk) (w : World) (h : OpTab w) (y8 : y < 8) (hd : E.d < 256) (hm : m.length ≤ 10) : Calls Tryd.prog 21 #[.agg #[.int .u8 1, .int .u8 (y : Int), .int .u8 z, .int .u8 p, .int .u8 q], .string (txt E m)] w fun e w' => e = .returned (.string (txt E (turnT 1 y m))) ∧ Below w.heap.size w w' := by
  have s1 := txt_le E m 100 hd (by omega)
  have hr : ∀ u, OpTab u → u.cell? ⟨3, 1, none⟩ = some (.string (strL (ofBitsL.getD 1 []))) := fun u h => h.ofBits 1 (by decide)
  have s2 : (strL (ofBitsL.getD 1 [])).size ≤ 4 := strL_le _ _ (ofBitsL_le _)
  have hz : strL (ofBitsL.getD 1 []) ++ strL [UInt8.ofNat (48 + y)] ++ ⟨#[44]⟩ ++ txt E m = txt E (turnT 1 y m) := by rw [← txt_lit E (ofBitsL.getD 1 []), ← txt_lit E [UInt8.ofNat (48 + y)], txt_arr E #[44], txt_app, txt_app, txt_app]; rfl
  have s3 : (strL [UInt8.ofNat (48 + y)]).size ≤ 1 := strL_le _ _ (by simp)
  have hi := itoa_dig y (by omega)
  generalize ofBitsL.getD 1 [] = R at hr s2 hz
  generalize txt E m = M at s1 hz ⊢
  generalize [UInt8.ofNat (48 + y)] = D at hz s3 hi
  have y0 : (0 : Int) ≤ y := by omega
  have y1 : (y : Int) < 8 := by omega
  have HZ := Lib.hid hz
  have HU := Lib.hid (show ∀ u, PtAt w 1 y z p q u → (fun u => (u.cell? ⟨w.heap.size, 0, none⟩ = some (.int .u8 1) ∧ u.cell? ⟨w.heap.size, 1, none⟩ = some (.int .u8 y) ∧ u.cell? ⟨3, 1, none⟩ = some (.string (strL R))) ∧ PtAt w 1 y z p q u) u from fun u hu => ⟨⟨hu.p0, hu.p1, hr u hu.tab⟩, hu⟩)
  have C0 := Lib.hid (show ∀ u, (fun u => (u.cell? ⟨w.heap.size, 0, none⟩ = some (.int .u8 1) ∧ u.cell? ⟨w.heap.size, 1, none⟩ = some (.int .u8 y) ∧ u.cell? ⟨3, 1, none⟩ = some (.string (strL R))) ∧ PtAt w 1 y z p q u) u → Calls Tryd.prog 43 #[.int .i64 y] u fun e w' => e = .returned (.string (strL D)) ∧ (fun u => (u.cell? ⟨w.heap.size, 0, none⟩ = some (.int .u8 1) ∧ u.cell? ⟨w.heap.size, 1, none⟩ = some (.int .u8 y) ∧ u.cell? ⟨3, 1, none⟩ = some (.string (strL R))) ∧ PtAt w 1 y z p q u) w' from fun u hu => (opItoa y D u hu.2.tab (by omega) (by omega) hi).mono fun _ _ ⟨he, hb⟩ => ⟨he, HU.out _ (hu.2.later hb)⟩)
  have g1 : ¬ (9223372036854775807 < (strL R).size + (strL D).size) := by omega
  have g2 : ¬ (9223372036854775807 < (strL R).size + (strL D).size + 1) := by omega
  have g3 : ¬ (9223372036854775807 < (strL R).size + (strL D).size + 1 + M.size) := by omega
  have cv : IntKind.i64.wrap (y : Int) = y := IntWalk.i64_in _ (by omega)
  have K := Lib.hid (pt_made w 1 y z p q 46 h)
  clear hz hr h y8 hd hm hi
  go_enter Tryd.func21, Tryd.ntmps21
  go_upto_region 1 with (fail)
  have k := K.out
  clear K
  generalize w.alloc (.cells #[.int .u8 1, .int .u8 (y : Int), .int .u8 z, .int .u8 p, .int .u8 q] 46) = w1 at k ⊢
  have p0 := k.p0
  have hS1 := HU.out _ k.drew
  clear k
  go_wp2_with fail
  clear p0
  go_region_held3 (fun u => (u.cell? ⟨w.heap.size, 0, none⟩ = some (.int .u8 1) ∧ u.cell? ⟨w.heap.size, 1, none⟩ = some (.int .u8 y) ∧ u.cell? ⟨3, 1, none⟩ = some (.string (strL R))) ∧ PtAt w 1 y z p q u) (assumption) ((go_at_call 43; refine (C0.out _ (by assumption)).mono ?_; rintro e w' ⟨rfl, hE⟩))
  have HB := Lib.hid hE.2.below
  clear hE hS1
  go_wp2_with fail
  go_ret
  exact ⟨by rw [← HZ.out]; rfl, HB.out⟩
set_option maxRecDepth 100000 in
set_option maxHeartbeats 1600000 in
theorem opTurn2 (E : En) (y : Nat) (z p q : Int) (m : List Tk) (w : World) (h : OpTab w) (y8 : y < 8) (hd : E.d < 256) (hm : m.length ≤ 10) : Calls Tryd.prog 21 #[.agg #[.int .u8 2, .int .u8 (y : Int), .int .u8 z, .int .u8 p, .int .u8 q], .string (txt E m)] w fun e w' => e = .returned (.string (txt E (turnT 2 y m))) ∧ Below w.heap.size w w' := by
  have s1 := txt_le E m 100 hd (by omega)
  have hr : ∀ u, OpTab u → u.cell? ⟨3, 2, none⟩ = some (.string (strL (ofBitsL.getD 2 []))) := fun u h => h.ofBits 2 (by decide)
  have s2 : (strL (ofBitsL.getD 2 [])).size ≤ 4 := strL_le _ _ (ofBitsL_le _)
  have hz : strL (ofBitsL.getD 2 []) ++ strL [UInt8.ofNat (48 + y)] ++ ⟨#[44]⟩ ++ txt E m = txt E (turnT 2 y m) := by rw [← txt_lit E (ofBitsL.getD 2 []), ← txt_lit E [UInt8.ofNat (48 + y)], txt_arr E #[44], txt_app, txt_app, txt_app]; rfl
  have s3 : (strL [UInt8.ofNat (48 + y)]).size ≤ 1 := strL_le _ _ (by simp)
  have hi := itoa_dig y (by omega)
  generalize ofBitsL.getD 2 [] = R at hr s2 hz
  generalize txt E m = M at s1 hz ⊢
  generalize [UInt8.ofNat (48 + y)] = D at hz s3 hi
  have y0 : (0 : Int) ≤ y := by omega
  have y1 : (y : Int) < 8 := by omega
  have HZ := Lib.hid hz
  have HU := Lib.hid (show ∀ u, PtAt w 2 y z p q u → (fun u => (u.cell? ⟨w.heap.size, 0, none⟩ = some (.int .u8 2) ∧ u.cell? ⟨w.heap.size, 1, none⟩ = some (.int .u8 y) ∧ u.cell? ⟨3, 2, none⟩ = some (.string (strL R))) ∧ PtAt w 2 y z p q u) u from fun u hu => ⟨⟨hu.p0, hu.p1, hr u hu.tab⟩, hu⟩)
  have C0 := Lib.hid (show ∀ u, (fun u => (u.cell? ⟨w.heap.size, 0, none⟩ = some (.int .u8 2) ∧ u.cell? ⟨w.heap.size, 1, none⟩ = some (.int .u8 y) ∧ u.cell? ⟨3, 2, none⟩ = some (.string (strL R))) ∧ PtAt w 2 y z p q u) u → Calls Tryd.prog 43 #[.int .i64 y] u fun e w' => e = .returned (.string (strL D)) ∧ (fun u => (u.cell? ⟨w.heap.size, 0, none⟩ = some (.int .u8 2) ∧ u.cell? ⟨w.heap.size, 1, none⟩ = some (.int .u8 y) ∧ u.cell? ⟨3, 2, none⟩ = some (.string (strL R))) ∧ PtAt w 2 y z p q u) w' from fun u hu => (opItoa y D u hu.2.tab (by omega) (by omega) hi).mono fun _ _ ⟨he, hb⟩ => ⟨he, HU.out _ (hu.2.later hb)⟩)
  have g1 : ¬ (9223372036854775807 < (strL R).size + (strL D).size) := by omega
  have g2 : ¬ (9223372036854775807 < (strL R).size + (strL D).size + 1) := by omega
  have g3 : ¬ (9223372036854775807 < (strL R).size + (strL D).size + 1 + M.size) := by omega
  have cv : IntKind.i64.wrap (y : Int) = y := IntWalk.i64_in _ (by omega)
  have K := Lib.hid (pt_made w 2 y z p q 46 h)
  clear hz hr h y8 hd hm hi
  go_enter Tryd.func21, Tryd.ntmps21
  go_upto_region 1 with (fail)
  have k := K.out
  clear K
  generalize w.alloc (.cells #[.int .u8 2, .int .u8 (y : Int), .int .u8 z, .int .u8 p, .int .u8 q] 46) = w1 at k ⊢
  have p0 := k.p0
  have hS1 := HU.out _ k.drew
  clear k
  go_wp2_with fail
  clear p0
  go_region_held3 (fun u => (u.cell? ⟨w.heap.size, 0, none⟩ = some (.int .u8 2) ∧ u.cell? ⟨w.heap.size, 1, none⟩ = some (.int .u8 y) ∧ u.cell? ⟨3, 2, none⟩ = some (.string (strL R))) ∧ PtAt w 2 y z p q u) (assumption) ((go_at_call 43; refine (C0.out _ (by assumption)).mono ?_; rintro e w' ⟨rfl, hE⟩))
  have HB := Lib.hid hE.2.below
  clear hE hS1
  go_wp2_with fail
  go_ret
  exact ⟨by rw [← HZ.out]; rfl, HB.out⟩
set_option maxRecDepth 100000 in
set_option maxHeartbeats 1600000 in
theorem opTurn3 (E : En) (y : Nat) (z p q : Int) (m : List Tk) (w : World) (h : OpTab w) (y8 : y < 8) (hd : E.d < 256) (hm : m.length ≤ 10) : Calls Tryd.prog 21 #[.agg #[.int .u8 3, .int .u8 (y : Int), .int .u8 z, .int .u8 p, .int .u8 q], .string (txt E m)] w fun e w' => e = .returned (.string (txt E (turnT 3 y m))) ∧ Below w.heap.size w w' := by
  have s1 := txt_le E m 100 hd (by omega)
  have hr : ∀ u, OpTab u → u.cell? ⟨3, 3, none⟩ = some (.string (strL (ofBitsL.getD 3 []))) := fun u h => h.ofBits 3 (by decide)
  have s2 : (strL (ofBitsL.getD 3 [])).size ≤ 4 := strL_le _ _ (ofBitsL_le _)
  have hz : strL (ofBitsL.getD 3 []) ++ strL [UInt8.ofNat (48 + y)] ++ ⟨#[44]⟩ ++ txt E m = txt E (turnT 3 y m) := by rw [← txt_lit E (ofBitsL.getD 3 []), ← txt_lit E [UInt8.ofNat (48 + y)], txt_arr E #[44], txt_app, txt_app, txt_app]; rfl
  have s3 : (strL [UInt8.ofNat (48 + y)]).size ≤ 1 := strL_le _ _ (by simp)
  have hi := itoa_dig y (by omega)
  generalize ofBitsL.getD 3 [] = R at hr s2 hz
  generalize txt E m = M at s1 hz ⊢
  generalize [UInt8.ofNat (48 + y)] = D at hz s3 hi
  have y0 : (0 : Int) ≤ y := by omega
  have y1 : (y : Int) < 8 := by omega
  have HZ := Lib.hid hz
  have HU := Lib.hid (show ∀ u, PtAt w 3 y z p q u → (fun u => (u.cell? ⟨w.heap.size, 0, none⟩ = some (.int .u8 3) ∧ u.cell? ⟨w.heap.size, 1, none⟩ = some (.int .u8 y) ∧ u.cell? ⟨3, 3, none⟩ = some (.string (strL R))) ∧ PtAt w 3 y z p q u) u from fun u hu => ⟨⟨hu.p0, hu.p1, hr u hu.tab⟩, hu⟩)
  have C0 := Lib.hid (show ∀ u, (fun u => (u.cell? ⟨w.heap.size, 0, none⟩ = some (.int .u8 3) ∧ u.cell? ⟨w.heap.size, 1, none⟩ = some (.int .u8 y) ∧ u.cell? ⟨3, 3, none⟩ = some (.string (strL R))) ∧ PtAt w 3 y z p q u) u → Calls Tryd.prog 43 #[.int .i64 y] u fun e w' => e = .returned (.string (strL D)) ∧ (fun u => (u.cell? ⟨w.heap.size, 0, none⟩ = some (.int .u8 3) ∧ u.cell? ⟨w.heap.size, 1, none⟩ = some (.int .u8 y) ∧ u.cell? ⟨3, 3, none⟩ = some (.string (strL R))) ∧ PtAt w 3 y z p q u) w' from fun u hu => (opItoa y D u hu.2.tab (by omega) (by omega) hi).mono fun _ _ ⟨he, hb⟩ => ⟨he, HU.out _ (hu.2.later hb)⟩)
  have g1 : ¬ (9223372036854775807 < (strL R).size + (strL D).size) := by omega
  have g2 : ¬ (9223372036854775807 < (strL R).size + (strL D).size + 1) := by omega
  have g3 : ¬ (9223372036854775807 < (strL R).size + (strL D).size + 1 + M.size) := by omega
  have cv : IntKind.i64.wrap (y : Int) = y := IntWalk.i64_in _ (by omega)
  have K := Lib.hid (pt_made w 3 y z p q 46 h)
  clear hz hr h y8 hd hm hi
  go_enter Tryd.func21, Tryd.ntmps21
  go_upto_region 1 with (fail)
  have k := K.out
  clear K
  generalize w.alloc (.cells #[.int .u8 3, .int .u8 (y : Int), .int .u8 z, .int .u8 p, .int .u8 q] 46) = w1 at k ⊢
  have p0 := k.p0
  have hS1 := HU.out _ k.drew
  clear k
  go_wp2_with fail
  clear p0
  go_region_held3 (fun u => (u.cell? ⟨w.heap.size, 0, none⟩ = some (.int .u8 3) ∧ u.cell? ⟨w.heap.size, 1, none⟩ = some (.int .u8 y) ∧ u.cell? ⟨3, 3, none⟩ = some (.string (strL R))) ∧ PtAt w 3 y z p q u) (assumption) ((go_at_call 43; refine (C0.out _ (by assumption)).mono ?_; rintro e w' ⟨rfl, hE⟩))
  have HB := Lib.hid hE.2.below
  clear hE hS1
  go_wp2_with fail
  go_ret
  exact ⟨by rw [← HZ.out]; rfl, HB.out⟩
theorem opTurn (E : En) (a y z p q : Int) (m : List Tk) (w : World) (h : OpTab w) (a0 : 0 ≤ a) (a3 : a ≤ 3) (y0 : 0 ≤ y) (y7 : y ≤ 7) (hd : E.d < 256) (hm : m.length ≤ 10) : Calls Tryd.prog 21 #[.agg #[.int .u8 a, .int .u8 y, .int .u8 z, .int .u8 p, .int .u8 q], .string (txt E m)] w fun e w' => e = .returned (.string (txt E (turnT a.toNat y.toNat m))) ∧ Below w.heap.size w w' := by
  obtain ⟨Y, rfl⟩ := Int.eq_ofNat_of_zero_le y0
  have e : a = 0 ∨ a = 1 ∨ a = 2 ∨ a = 3 := by omega
  rcases e with rfl | rfl | rfl | rfl
  · exact opTurn0 E Y z p q m w h (by omega) hd hm
  · exact opTurn1 E Y z p q m w h (by omega) hd hm
  · exact opTurn2 E Y z p q m w h (by omega) hd hm
  · exact opTurn3 E Y z p q m w h (by omega) hd hm

end Go.Proofs.YtkjibnnoeceaeaaDoor
