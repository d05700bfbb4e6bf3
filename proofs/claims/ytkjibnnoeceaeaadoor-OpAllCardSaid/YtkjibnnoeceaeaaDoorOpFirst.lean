/- op.nearText, storeText, firstText: their contracts. -/
import Derived.Test.YtkjibnnoeceaeaaDoorOpNear
namespace Go.Proofs.YtkjibnnoeceaeaaDoor
open Go.RowKit

set_option maxRecDepth 100000 in
set_option maxHeartbeats 1600000 in
theorem opNear0 (x : In) (a z p q : Int) (pc : Nat) (w : World) (h : OpTab w) : Calls Tryd.prog 55 #[.agg x.arr, .agg #[.int .u8 a, .int .u8 0, .int .u8 z, .int .u8 p, .int .u8 q], .int .u16 pc] w fun e w' => e = .returned (.string (txt (x.en (tgtN x pc)) (nearT 0))) ∧ Below w.heap.size w w' := by
  have K := Lib.hid (two_made w x a 0 z p q 26 46 h)
  have HZ := Lib.hid (show (⟨#[110, 111, 112]⟩ : ByteArray) = txt (x.en (tgtN x pc)) (nearT 0) by rw [txt_arr (x.en (tgtN x pc)) #[110, 111, 112]]; rfl)
  clear h
  unfold In.arr
  go_enter Tryd.func55, Tryd.ntmps55
  go_upto_region 1 with (fail)
  have k := K.out
  clear K
  unfold In.arr at k
  generalize (w.alloc (.cells #[.int .i64 x.set, .int .i64 x.ix, .int .u8 x.code, .int .u8 x.d, .int .u16 x.n, .int .i64 x.len] 26)).alloc (.cells #[.int .u8 a, .int .u8 0, .int .u8 z, .int .u8 p, .int .u8 q] 46) = w1 at k ⊢
  have p1 := k.p1
  have HB := Lib.hid k.below
  clear k
  go_wp2_with fail
  go_ret
  exact ⟨by rw [← HZ.out]; rfl, HB.out⟩
set_option maxRecDepth 100000 in
set_option maxHeartbeats 1600000 in
theorem opNear1 (x : In) (a z p q : Int) (pc : Nat) (w : World) (h : OpTab w) : Calls Tryd.prog 55 #[.agg x.arr, .agg #[.int .u8 a, .int .u8 1, .int .u8 z, .int .u8 p, .int .u8 q], .int .u16 pc] w fun e w' => e = .returned (.string (txt (x.en (tgtN x pc)) (nearT 1))) ∧ Below w.heap.size w w' := by
  have K := Lib.hid (two_made w x a 1 z p q 26 46 h)
  have HZ := Lib.hid (show (⟨#[101, 120, 32, 97, 102, 44, 97, 102, 39]⟩ : ByteArray) = txt (x.en (tgtN x pc)) (nearT 1) by rw [txt_arr (x.en (tgtN x pc)) #[101, 120, 32, 97, 102, 44, 97, 102, 39]]; rfl)
  clear h
  unfold In.arr
  go_enter Tryd.func55, Tryd.ntmps55
  go_upto_region 1 with (fail)
  have k := K.out
  clear K
  unfold In.arr at k
  generalize (w.alloc (.cells #[.int .i64 x.set, .int .i64 x.ix, .int .u8 x.code, .int .u8 x.d, .int .u16 x.n, .int .i64 x.len] 26)).alloc (.cells #[.int .u8 a, .int .u8 1, .int .u8 z, .int .u8 p, .int .u8 q] 46) = w1 at k ⊢
  have p1 := k.p1
  have HB := Lib.hid k.below
  clear k
  go_wp2_with fail
  go_ret
  exact ⟨by rw [← HZ.out]; rfl, HB.out⟩
set_option maxRecDepth 100000 in
set_option maxHeartbeats 1600000 in
theorem opNear2 (x : In) (a z p q : Int) (pc : Nat) (w : World) (h : OpTab w) (hd : x.d < 256) : Calls Tryd.prog 55 #[.agg x.arr, .agg #[.int .u8 a, .int .u8 2, .int .u8 z, .int .u8 p, .int .u8 q], .int .u16 pc] w fun e w' => e = .returned (.string (txt (x.en (tgtN x pc)) (nearT 2))) ∧ Below w.heap.size w w' := by
  have K := Lib.hid (two_made w x a 2 z p q 26 46 h)
  have HT := Lib.hid (fun w h => opTgt x pc w h)
  have s1 := txt_le (x.en (tgtN x pc)) [.e4] 8 hd (by decide)
  have HZ := Lib.hid (show (⟨#[100, 106, 110, 122, 32]⟩ : ByteArray) ++ txt (x.en (tgtN x pc)) [.e4] = txt (x.en (tgtN x pc)) (nearT 2) by rw [txt_arr (x.en (tgtN x pc)) #[100, 106, 110, 122, 32], txt_app]; rfl)
  clear h hd
  unfold In.arr at HT ⊢
  go_enter Tryd.func55, Tryd.ntmps55
  go_upto_region 1 with (fail)
  have k := K.out
  clear K
  unfold In.arr at k
  generalize (w.alloc (.cells #[.int .i64 x.set, .int .i64 x.ix, .int .u8 x.code, .int .u8 x.d, .int .u16 x.n, .int .i64 x.len] 26)).alloc (.cells #[.int .u8 a, .int .u8 2, .int .u8 z, .int .u8 p, .int .u8 q] 46) = w1 at k ⊢
  have i0 := k.i0
  have i1 := k.i1
  have i2 := k.i2
  have i3 := k.i3
  have i4 := k.i4
  have i5 := k.i5
  have p1 := k.p1
  have KK := Lib.hid k
  clear k
  go_wp2_with fail
  refine (HT.out _ KK.out.tab).mono ?_
  rintro e w2 ⟨rfl, hb2⟩
  go_wp2_with fail
  go_ret
  exact ⟨by rw [← HZ.out]; rfl, below_step KK.out.below hb2⟩
set_option maxRecDepth 100000 in
set_option maxHeartbeats 1600000 in
theorem opNear3 (x : In) (a z p q : Int) (pc : Nat) (w : World) (h : OpTab w) (hd : x.d < 256) : Calls Tryd.prog 55 #[.agg x.arr, .agg #[.int .u8 a, .int .u8 3, .int .u8 z, .int .u8 p, .int .u8 q], .int .u16 pc] w fun e w' => e = .returned (.string (txt (x.en (tgtN x pc)) (nearT 3))) ∧ Below w.heap.size w w' := by
  have K := Lib.hid (two_made w x a 3 z p q 26 46 h)
  have HT := Lib.hid (fun w h => opTgt x pc w h)
  have s1 := txt_le (x.en (tgtN x pc)) [.e4] 8 hd (by decide)
  have HZ := Lib.hid (show (⟨#[106, 114, 32]⟩ : ByteArray) ++ txt (x.en (tgtN x pc)) [.e4] = txt (x.en (tgtN x pc)) (nearT 3) by rw [txt_arr (x.en (tgtN x pc)) #[106, 114, 32], txt_app]; rfl)
  clear h hd
  unfold In.arr at HT ⊢
  go_enter Tryd.func55, Tryd.ntmps55
  go_upto_region 1 with (fail)
  have k := K.out
  clear K
  unfold In.arr at k
  generalize (w.alloc (.cells #[.int .i64 x.set, .int .i64 x.ix, .int .u8 x.code, .int .u8 x.d, .int .u16 x.n, .int .i64 x.len] 26)).alloc (.cells #[.int .u8 a, .int .u8 3, .int .u8 z, .int .u8 p, .int .u8 q] 46) = w1 at k ⊢
  have i0 := k.i0
  have i1 := k.i1
  have i2 := k.i2
  have i3 := k.i3
  have i4 := k.i4
  have i5 := k.i5
  have p1 := k.p1
  have KK := Lib.hid k
  clear k
  go_wp2_with fail
  refine (HT.out _ KK.out.tab).mono ?_
  rintro e w2 ⟨rfl, hb2⟩
  go_wp2_with fail
  go_ret
  exact ⟨by rw [← HZ.out]; rfl, below_step KK.out.below hb2⟩
set_option maxRecDepth 100000 in
set_option maxHeartbeats 1600000 in
theorem opNear4 (x : In) (a z p q : Int) (pc : Nat) (w : World) (h : OpTab w) (hd : x.d < 256) : Calls Tryd.prog 55 #[.agg x.arr, .agg #[.int .u8 a, .int .u8 4, .int .u8 z, .int .u8 p, .int .u8 q], .int .u16 pc] w fun e w' => e = .returned (.string (txt (x.en (tgtN x pc)) (nearT 4))) ∧ Below w.heap.size w w' := by
  have K := Lib.hid (two_made w x a 4 z p q 26 46 h)
  have hr : ∀ u, OpTab u → u.cell? ⟨6, 0, none⟩ = some (.string (strL (condsL.getD 0 []))) := fun u h => h.conds 0 (by decide)
  have hz : nearT 4 = lit [106, 114, 32] ++ lit (condsL.getD 0 []) ++ lit [44] ++ [.e4] := rfl
  have s2 : (strL (condsL.getD 0 [])).size ≤ 2 := strL_le _ _ (condsL_le _)
  generalize condsL.getD 0 [] = R at hr hz s2
  have s1 := txt_le (x.en (tgtN x pc)) [.e4] 8 hd (by decide)
  have HZ := Lib.hid (show (⟨#[106, 114, 32]⟩ : ByteArray) ++ strL R ++ ⟨#[44]⟩ ++ txt (x.en (tgtN x pc)) [.e4] = txt (x.en (tgtN x pc)) (nearT 4) by rw [txt_arr (x.en (tgtN x pc)) #[106, 114, 32], txt_arr (x.en (tgtN x pc)) #[44], ← txt_lit (x.en (tgtN x pc)) R, txt_app, txt_app, txt_app, hz])
  have HU := Lib.hid (show ∀ u, TwoAt w x a 4 z p q u → (fun u => (u.cell? ⟨w.heap.size, 0, none⟩ = some (.int .i64 x.set) ∧ u.cell? ⟨w.heap.size, 1, none⟩ = some (.int .i64 x.ix) ∧ u.cell? ⟨w.heap.size, 2, none⟩ = some (.int .u8 x.code) ∧ u.cell? ⟨w.heap.size, 3, none⟩ = some (.int .u8 x.d) ∧ u.cell? ⟨w.heap.size, 4, none⟩ = some (.int .u16 x.n) ∧ u.cell? ⟨w.heap.size, 5, none⟩ = some (.int .i64 x.len) ∧ u.cell? ⟨w.heap.size + 1, 1, none⟩ = some (.int .u8 4) ∧ u.cell? ⟨6, 0, none⟩ = some (.string (strL R))) ∧ TwoAt w x a 4 z p q u) u from fun u hu => ⟨⟨hu.i0, hu.i1, hu.i2, hu.i3, hu.i4, hu.i5, hu.p1, hr u hu.tab⟩, hu⟩)
  have HT := Lib.hid (show ∀ u, (fun u => (u.cell? ⟨w.heap.size, 0, none⟩ = some (.int .i64 x.set) ∧ u.cell? ⟨w.heap.size, 1, none⟩ = some (.int .i64 x.ix) ∧ u.cell? ⟨w.heap.size, 2, none⟩ = some (.int .u8 x.code) ∧ u.cell? ⟨w.heap.size, 3, none⟩ = some (.int .u8 x.d) ∧ u.cell? ⟨w.heap.size, 4, none⟩ = some (.int .u16 x.n) ∧ u.cell? ⟨w.heap.size, 5, none⟩ = some (.int .i64 x.len) ∧ u.cell? ⟨w.heap.size + 1, 1, none⟩ = some (.int .u8 4) ∧ u.cell? ⟨6, 0, none⟩ = some (.string (strL R))) ∧ TwoAt w x a 4 z p q u) u → Calls Tryd.prog 67 #[.agg x.arr, .int .u16 pc] u fun e w' => e = .returned (.string (txt (x.en (tgtN x pc)) [.e4])) ∧ (fun u => (u.cell? ⟨w.heap.size, 0, none⟩ = some (.int .i64 x.set) ∧ u.cell? ⟨w.heap.size, 1, none⟩ = some (.int .i64 x.ix) ∧ u.cell? ⟨w.heap.size, 2, none⟩ = some (.int .u8 x.code) ∧ u.cell? ⟨w.heap.size, 3, none⟩ = some (.int .u8 x.d) ∧ u.cell? ⟨w.heap.size, 4, none⟩ = some (.int .u16 x.n) ∧ u.cell? ⟨w.heap.size, 5, none⟩ = some (.int .i64 x.len) ∧ u.cell? ⟨w.heap.size + 1, 1, none⟩ = some (.int .u8 4) ∧ u.cell? ⟨6, 0, none⟩ = some (.string (strL R))) ∧ TwoAt w x a 4 z p q u) w' from fun u hu => (opTgt x pc u hu.2.tab).mono fun _ _ ⟨he, hb⟩ => ⟨he, HU.out _ (hu.2.later hb)⟩)
  clear h hd hr hz
  unfold In.arr at HT ⊢
  have e1 : IntKind.u8.wrap 0 = 0 := by decide
  have g1 : ¬ (9223372036854775807 < 3 + (strL R).size) := by omega
  have g2 : ¬ (9223372036854775807 < 3 + (strL R).size + 1) := by omega
  have g3 : ¬ (9223372036854775807 < 3 + (strL R).size + 1 + (txt (x.en (tgtN x pc)) [.e4]).size) := by omega
  go_enter Tryd.func55, Tryd.ntmps55
  go_upto_region 1 with (fail)
  have k := K.out
  clear K
  unfold In.arr at k
  generalize (w.alloc (.cells #[.int .i64 x.set, .int .i64 x.ix, .int .u8 x.code, .int .u8 x.d, .int .u16 x.n, .int .i64 x.len] 26)).alloc (.cells #[.int .u8 a, .int .u8 4, .int .u8 z, .int .u8 p, .int .u8 q] 46) = w1 at k ⊢
  have p1 := k.p1
  have hS1 := HU.out _ k.drew
  clear k
  go_wp2_with fail
  clear p1
  go_region_held3 (fun u => (u.cell? ⟨w.heap.size, 0, none⟩ = some (.int .i64 x.set) ∧ u.cell? ⟨w.heap.size, 1, none⟩ = some (.int .i64 x.ix) ∧ u.cell? ⟨w.heap.size, 2, none⟩ = some (.int .u8 x.code) ∧ u.cell? ⟨w.heap.size, 3, none⟩ = some (.int .u8 x.d) ∧ u.cell? ⟨w.heap.size, 4, none⟩ = some (.int .u16 x.n) ∧ u.cell? ⟨w.heap.size, 5, none⟩ = some (.int .i64 x.len) ∧ u.cell? ⟨w.heap.size + 1, 1, none⟩ = some (.int .u8 4) ∧ u.cell? ⟨6, 0, none⟩ = some (.string (strL R))) ∧ TwoAt w x a 4 z p q u) (assumption) ((go_at_call 67; refine (HT.out _ (by assumption)).mono ?_; rintro e w' ⟨rfl, hE⟩))
  have HB := Lib.hid hE.2.below
  clear hE hS1
  go_wp2_with fail
  go_ret
  exact ⟨by rw [← HZ.out]; rfl, HB.out⟩
set_option maxRecDepth 100000 in
set_option maxHeartbeats 1600000 in
theorem opNear5 (x : In) (a z p q : Int) (pc : Nat) (w : World) (h : OpTab w) (hd : x.d < 256) : Calls Tryd.prog 55 #[.agg x.arr, .agg #[.int .u8 a, .int .u8 5, .int .u8 z, .int .u8 p, .int .u8 q], .int .u16 pc] w fun e w' => e = .returned (.string (txt (x.en (tgtN x pc)) (nearT 5))) ∧ Below w.heap.size w w' := by
  have K := Lib.hid (two_made w x a 5 z p q 26 46 h)
  have hr : ∀ u, OpTab u → u.cell? ⟨6, 1, none⟩ = some (.string (strL (condsL.getD 1 []))) := fun u h => h.conds 1 (by decide)
  have hz : nearT 5 = lit [106, 114, 32] ++ lit (condsL.getD 1 []) ++ lit [44] ++ [.e4] := rfl
  have s2 : (strL (condsL.getD 1 [])).size ≤ 2 := strL_le _ _ (condsL_le _)
  generalize condsL.getD 1 [] = R at hr hz s2
  have s1 := txt_le (x.en (tgtN x pc)) [.e4] 8 hd (by decide)
  have HZ := Lib.hid (show (⟨#[106, 114, 32]⟩ : ByteArray) ++ strL R ++ ⟨#[44]⟩ ++ txt (x.en (tgtN x pc)) [.e4] = txt (x.en (tgtN x pc)) (nearT 5) by rw [txt_arr (x.en (tgtN x pc)) #[106, 114, 32], txt_arr (x.en (tgtN x pc)) #[44], ← txt_lit (x.en (tgtN x pc)) R, txt_app, txt_app, txt_app, hz])
  have HU := Lib.hid (show ∀ u, TwoAt w x a 5 z p q u → (fun u => (u.cell? ⟨w.heap.size, 0, none⟩ = some (.int .i64 x.set) ∧ u.cell? ⟨w.heap.size, 1, none⟩ = some (.int .i64 x.ix) ∧ u.cell? ⟨w.heap.size, 2, none⟩ = some (.int .u8 x.code) ∧ u.cell? ⟨w.heap.size, 3, none⟩ = some (.int .u8 x.d) ∧ u.cell? ⟨w.heap.size, 4, none⟩ = some (.int .u16 x.n) ∧ u.cell? ⟨w.heap.size, 5, none⟩ = some (.int .i64 x.len) ∧ u.cell? ⟨w.heap.size + 1, 1, none⟩ = some (.int .u8 5) ∧ u.cell? ⟨6, 1, none⟩ = some (.string (strL R))) ∧ TwoAt w x a 5 z p q u) u from fun u hu => ⟨⟨hu.i0, hu.i1, hu.i2, hu.i3, hu.i4, hu.i5, hu.p1, hr u hu.tab⟩, hu⟩)
  have HT := Lib.hid (show ∀ u, (fun u => (u.cell? ⟨w.heap.size, 0, none⟩ = some (.int .i64 x.set) ∧ u.cell? ⟨w.heap.size, 1, none⟩ = some (.int .i64 x.ix) ∧ u.cell? ⟨w.heap.size, 2, none⟩ = some (.int .u8 x.code) ∧ u.cell? ⟨w.heap.size, 3, none⟩ = some (.int .u8 x.d) ∧ u.cell? ⟨w.heap.size, 4, none⟩ = some (.int .u16 x.n) ∧ u.cell? ⟨w.heap.size, 5, none⟩ = some (.int .i64 x.len) ∧ u.cell? ⟨w.heap.size + 1, 1, none⟩ = some (.int .u8 5) ∧ u.cell? ⟨6, 1, none⟩ = some (.string (strL R))) ∧ TwoAt w x a 5 z p q u) u → Calls Tryd.prog 67 #[.agg x.arr, .int .u16 pc] u fun e w' => e = .returned (.string (txt (x.en (tgtN x pc)) [.e4])) ∧ (fun u => (u.cell? ⟨w.heap.size, 0, none⟩ = some (.int .i64 x.set) ∧ u.cell? ⟨w.heap.size, 1, none⟩ = some (.int .i64 x.ix) ∧ u.cell? ⟨w.heap.size, 2, none⟩ = some (.int .u8 x.code) ∧ u.cell? ⟨w.heap.size, 3, none⟩ = some (.int .u8 x.d) ∧ u.cell? ⟨w.heap.size, 4, none⟩ = some (.int .u16 x.n) ∧ u.cell? ⟨w.heap.size, 5, none⟩ = some (.int .i64 x.len) ∧ u.cell? ⟨w.heap.size + 1, 1, none⟩ = some (.int .u8 5) ∧ u.cell? ⟨6, 1, none⟩ = some (.string (strL R))) ∧ TwoAt w x a 5 z p q u) w' from fun u hu => (opTgt x pc u hu.2.tab).mono fun _ _ ⟨he, hb⟩ => ⟨he, HU.out _ (hu.2.later hb)⟩)
  clear h hd hr hz
  unfold In.arr at HT ⊢
  have e1 : IntKind.u8.wrap 1 = 1 := by decide
  have g1 : ¬ (9223372036854775807 < 3 + (strL R).size) := by omega
  have g2 : ¬ (9223372036854775807 < 3 + (strL R).size + 1) := by omega
  have g3 : ¬ (9223372036854775807 < 3 + (strL R).size + 1 + (txt (x.en (tgtN x pc)) [.e4]).size) := by omega
  go_enter Tryd.func55, Tryd.ntmps55
  go_upto_region 1 with (fail)
  have k := K.out
  clear K
  unfold In.arr at k
  generalize (w.alloc (.cells #[.int .i64 x.set, .int .i64 x.ix, .int .u8 x.code, .int .u8 x.d, .int .u16 x.n, .int .i64 x.len] 26)).alloc (.cells #[.int .u8 a, .int .u8 5, .int .u8 z, .int .u8 p, .int .u8 q] 46) = w1 at k ⊢
  have p1 := k.p1
  have hS1 := HU.out _ k.drew
  clear k
  go_wp2_with fail
  clear p1
  go_region_held3 (fun u => (u.cell? ⟨w.heap.size, 0, none⟩ = some (.int .i64 x.set) ∧ u.cell? ⟨w.heap.size, 1, none⟩ = some (.int .i64 x.ix) ∧ u.cell? ⟨w.heap.size, 2, none⟩ = some (.int .u8 x.code) ∧ u.cell? ⟨w.heap.size, 3, none⟩ = some (.int .u8 x.d) ∧ u.cell? ⟨w.heap.size, 4, none⟩ = some (.int .u16 x.n) ∧ u.cell? ⟨w.heap.size, 5, none⟩ = some (.int .i64 x.len) ∧ u.cell? ⟨w.heap.size + 1, 1, none⟩ = some (.int .u8 5) ∧ u.cell? ⟨6, 1, none⟩ = some (.string (strL R))) ∧ TwoAt w x a 5 z p q u) (assumption) ((go_at_call 67; refine (HT.out _ (by assumption)).mono ?_; rintro e w' ⟨rfl, hE⟩))
  have HB := Lib.hid hE.2.below
  clear hE hS1
  go_wp2_with fail
  go_ret
  exact ⟨by rw [← HZ.out]; rfl, HB.out⟩
set_option maxRecDepth 100000 in
set_option maxHeartbeats 1600000 in
theorem opNear6 (x : In) (a z p q : Int) (pc : Nat) (w : World) (h : OpTab w) (hd : x.d < 256) : Calls Tryd.prog 55 #[.agg x.arr, .agg #[.int .u8 a, .int .u8 6, .int .u8 z, .int .u8 p, .int .u8 q], .int .u16 pc] w fun e w' => e = .returned (.string (txt (x.en (tgtN x pc)) (nearT 6))) ∧ Below w.heap.size w w' := by
  have K := Lib.hid (two_made w x a 6 z p q 26 46 h)
  have hr : ∀ u, OpTab u → u.cell? ⟨6, 2, none⟩ = some (.string (strL (condsL.getD 2 []))) := fun u h => h.conds 2 (by decide)
  have hz : nearT 6 = lit [106, 114, 32] ++ lit (condsL.getD 2 []) ++ lit [44] ++ [.e4] := rfl
  have s2 : (strL (condsL.getD 2 [])).size ≤ 2 := strL_le _ _ (condsL_le _)
  generalize condsL.getD 2 [] = R at hr hz s2
  have s1 := txt_le (x.en (tgtN x pc)) [.e4] 8 hd (by decide)
  have HZ := Lib.hid (show (⟨#[106, 114, 32]⟩ : ByteArray) ++ strL R ++ ⟨#[44]⟩ ++ txt (x.en (tgtN x pc)) [.e4] = txt (x.en (tgtN x pc)) (nearT 6) by rw [txt_arr (x.en (tgtN x pc)) #[106, 114, 32], txt_arr (x.en (tgtN x pc)) #[44], ← txt_lit (x.en (tgtN x pc)) R, txt_app, txt_app, txt_app, hz])
  have HU := Lib.hid (show ∀ u, TwoAt w x a 6 z p q u → (fun u => (u.cell? ⟨w.heap.size, 0, none⟩ = some (.int .i64 x.set) ∧ u.cell? ⟨w.heap.size, 1, none⟩ = some (.int .i64 x.ix) ∧ u.cell? ⟨w.heap.size, 2, none⟩ = some (.int .u8 x.code) ∧ u.cell? ⟨w.heap.size, 3, none⟩ = some (.int .u8 x.d) ∧ u.cell? ⟨w.heap.size, 4, none⟩ = some (.int .u16 x.n) ∧ u.cell? ⟨w.heap.size, 5, none⟩ = some (.int .i64 x.len) ∧ u.cell? ⟨w.heap.size + 1, 1, none⟩ = some (.int .u8 6) ∧ u.cell? ⟨6, 2, none⟩ = some (.string (strL R))) ∧ TwoAt w x a 6 z p q u) u from fun u hu => ⟨⟨hu.i0, hu.i1, hu.i2, hu.i3, hu.i4, hu.i5, hu.p1, hr u hu.tab⟩, hu⟩)
  have HT := Lib.hid (show ∀ u, (fun u => (u.cell? ⟨w.heap.size, 0, none⟩ = some (.int .i64 x.set) ∧ u.cell? ⟨w.heap.size, 1, none⟩ = some (.int .i64 x.ix) ∧ u.cell? ⟨w.heap.size, 2, none⟩ = some (.int .u8 x.code) ∧ u.cell? ⟨w.heap.size, 3, none⟩ = some (.int .u8 x.d) ∧ u.cell? ⟨w.heap.size, 4, none⟩ = some (.int .u16 x.n) ∧ u.cell? ⟨w.heap.size, 5, none⟩ = some (.int .i64 x.len) ∧ u.cell? ⟨w.heap.size + 1, 1, none⟩ = some (.int .u8 6) ∧ u.cell? ⟨6, 2, none⟩ = some (.string (strL R))) ∧ TwoAt w x a 6 z p q u) u → Calls Tryd.prog 67 #[.agg x.arr, .int .u16 pc] u fun e w' => e = .returned (.string (txt (x.en (tgtN x pc)) [.e4])) ∧ (fun u => (u.cell? ⟨w.heap.size, 0, none⟩ = some (.int .i64 x.set) ∧ u.cell? ⟨w.heap.size, 1, none⟩ = some (.int .i64 x.ix) ∧ u.cell? ⟨w.heap.size, 2, none⟩ = some (.int .u8 x.code) ∧ u.cell? ⟨w.heap.size, 3, none⟩ = some (.int .u8 x.d) ∧ u.cell? ⟨w.heap.size, 4, none⟩ = some (.int .u16 x.n) ∧ u.cell? ⟨w.heap.size, 5, none⟩ = some (.int .i64 x.len) ∧ u.cell? ⟨w.heap.size + 1, 1, none⟩ = some (.int .u8 6) ∧ u.cell? ⟨6, 2, none⟩ = some (.string (strL R))) ∧ TwoAt w x a 6 z p q u) w' from fun u hu => (opTgt x pc u hu.2.tab).mono fun _ _ ⟨he, hb⟩ => ⟨he, HU.out _ (hu.2.later hb)⟩)
  clear h hd hr hz
  unfold In.arr at HT ⊢
  have e1 : IntKind.u8.wrap 2 = 2 := by decide
  have g1 : ¬ (9223372036854775807 < 3 + (strL R).size) := by omega
  have g2 : ¬ (9223372036854775807 < 3 + (strL R).size + 1) := by omega
  have g3 : ¬ (9223372036854775807 < 3 + (strL R).size + 1 + (txt (x.en (tgtN x pc)) [.e4]).size) := by omega
  go_enter Tryd.func55, Tryd.ntmps55
  go_upto_region 1 with (fail)
  have k := K.out
  clear K
  unfold In.arr at k
  generalize (w.alloc (.cells #[.int .i64 x.set, .int .i64 x.ix, .int .u8 x.code, .int .u8 x.d, .int .u16 x.n, .int .i64 x.len] 26)).alloc (.cells #[.int .u8 a, .int .u8 6, .int .u8 z, .int .u8 p, .int .u8 q] 46) = w1 at k ⊢
  have p1 := k.p1
  have hS1 := HU.out _ k.drew
  clear k
  go_wp2_with fail
  clear p1
  go_region_held3 (fun u => (u.cell? ⟨w.heap.size, 0, none⟩ = some (.int .i64 x.set) ∧ u.cell? ⟨w.heap.size, 1, none⟩ = some (.int .i64 x.ix) ∧ u.cell? ⟨w.heap.size, 2, none⟩ = some (.int .u8 x.code) ∧ u.cell? ⟨w.heap.size, 3, none⟩ = some (.int .u8 x.d) ∧ u.cell? ⟨w.heap.size, 4, none⟩ = some (.int .u16 x.n) ∧ u.cell? ⟨w.heap.size, 5, none⟩ = some (.int .i64 x.len) ∧ u.cell? ⟨w.heap.size + 1, 1, none⟩ = some (.int .u8 6) ∧ u.cell? ⟨6, 2, none⟩ = some (.string (strL R))) ∧ TwoAt w x a 6 z p q u) (assumption) ((go_at_call 67; refine (HT.out _ (by assumption)).mono ?_; rintro e w' ⟨rfl, hE⟩))
  have HB := Lib.hid hE.2.below
  clear hE hS1
  go_wp2_with fail
  go_ret
  exact ⟨by rw [← HZ.out]; rfl, HB.out⟩
set_option maxRecDepth 100000 in
set_option maxHeartbeats 1600000 in
theorem opNear7 (x : In) (a z p q : Int) (pc : Nat) (w : World) (h : OpTab w) (hd : x.d < 256) : Calls Tryd.prog 55 #[.agg x.arr, .agg #[.int .u8 a, .int .u8 7, .int .u8 z, .int .u8 p, .int .u8 q], .int .u16 pc] w fun e w' => e = .returned (.string (txt (x.en (tgtN x pc)) (nearT 7))) ∧ Below w.heap.size w w' := by
  have K := Lib.hid (two_made w x a 7 z p q 26 46 h)
  have hr : ∀ u, OpTab u → u.cell? ⟨6, 3, none⟩ = some (.string (strL (condsL.getD 3 []))) := fun u h => h.conds 3 (by decide)
  have hz : nearT 7 = lit [106, 114, 32] ++ lit (condsL.getD 3 []) ++ lit [44] ++ [.e4] := rfl
  have s2 : (strL (condsL.getD 3 [])).size ≤ 2 := strL_le _ _ (condsL_le _)
  generalize condsL.getD 3 [] = R at hr hz s2
  have s1 := txt_le (x.en (tgtN x pc)) [.e4] 8 hd (by decide)
  have HZ := Lib.hid (show (⟨#[106, 114, 32]⟩ : ByteArray) ++ strL R ++ ⟨#[44]⟩ ++ txt (x.en (tgtN x pc)) [.e4] = txt (x.en (tgtN x pc)) (nearT 7) by rw [txt_arr (x.en (tgtN x pc)) #[106, 114, 32], txt_arr (x.en (tgtN x pc)) #[44], ← txt_lit (x.en (tgtN x pc)) R, txt_app, txt_app, txt_app, hz])
  have HU := Lib.hid (show ∀ u, TwoAt w x a 7 z p q u → (fun u => (u.cell? ⟨w.heap.size, 0, none⟩ = some (.int .i64 x.set) ∧ u.cell? ⟨w.heap.size, 1, none⟩ = some (.int .i64 x.ix) ∧ u.cell? ⟨w.heap.size, 2, none⟩ = some (.int .u8 x.code) ∧ u.cell? ⟨w.heap.size, 3, none⟩ = some (.int .u8 x.d) ∧ u.cell? ⟨w.heap.size, 4, none⟩ = some (.int .u16 x.n) ∧ u.cell? ⟨w.heap.size, 5, none⟩ = some (.int .i64 x.len) ∧ u.cell? ⟨w.heap.size + 1, 1, none⟩ = some (.int .u8 7) ∧ u.cell? ⟨6, 3, none⟩ = some (.string (strL R))) ∧ TwoAt w x a 7 z p q u) u from fun u hu => ⟨⟨hu.i0, hu.i1, hu.i2, hu.i3, hu.i4, hu.i5, hu.p1, hr u hu.tab⟩, hu⟩)
  have HT := Lib.hid (show ∀ u, (fun u => (u.cell? ⟨w.heap.size, 0, none⟩ = some (.int .i64 x.set) ∧ u.cell? ⟨w.heap.size, 1, none⟩ = some (.int .i64 x.ix) ∧ u.cell? ⟨w.heap.size, 2, none⟩ = some (.int .u8 x.code) ∧ u.cell? ⟨w.heap.size, 3, none⟩ = some (.int .u8 x.d) ∧ u.cell? ⟨w.heap.size, 4, none⟩ = some (.int .u16 x.n) ∧ u.cell? ⟨w.heap.size, 5, none⟩ = some (.int .i64 x.len) ∧ u.cell? ⟨w.heap.size + 1, 1, none⟩ = some (.int .u8 7) ∧ u.cell? ⟨6, 3, none⟩ = some (.string (strL R))) ∧ TwoAt w x a 7 z p q u) u → Calls Tryd.prog 67 #[.agg x.arr, .int .u16 pc] u fun e w' => e = .returned (.string (txt (x.en (tgtN x pc)) [.e4])) ∧ (fun u => (u.cell? ⟨w.heap.size, 0, none⟩ = some (.int .i64 x.set) ∧ u.cell? ⟨w.heap.size, 1, none⟩ = some (.int .i64 x.ix) ∧ u.cell? ⟨w.heap.size, 2, none⟩ = some (.int .u8 x.code) ∧ u.cell? ⟨w.heap.size, 3, none⟩ = some (.int .u8 x.d) ∧ u.cell? ⟨w.heap.size, 4, none⟩ = some (.int .u16 x.n) ∧ u.cell? ⟨w.heap.size, 5, none⟩ = some (.int .i64 x.len) ∧ u.cell? ⟨w.heap.size + 1, 1, none⟩ = some (.int .u8 7) ∧ u.cell? ⟨6, 3, none⟩ = some (.string (strL R))) ∧ TwoAt w x a 7 z p q u) w' from fun u hu => (opTgt x pc u hu.2.tab).mono fun _ _ ⟨he, hb⟩ => ⟨he, HU.out _ (hu.2.later hb)⟩)
  clear h hd hr hz
  unfold In.arr at HT ⊢
  have e1 : IntKind.u8.wrap 3 = 3 := by decide
  have g1 : ¬ (9223372036854775807 < 3 + (strL R).size) := by omega
  have g2 : ¬ (9223372036854775807 < 3 + (strL R).size + 1) := by omega
  have g3 : ¬ (9223372036854775807 < 3 + (strL R).size + 1 + (txt (x.en (tgtN x pc)) [.e4]).size) := by omega
  go_enter Tryd.func55, Tryd.ntmps55
  go_upto_region 1 with (fail)
  have k := K.out
  clear K
  unfold In.arr at k
  generalize (w.alloc (.cells #[.int .i64 x.set, .int .i64 x.ix, .int .u8 x.code, .int .u8 x.d, .int .u16 x.n, .int .i64 x.len] 26)).alloc (.cells #[.int .u8 a, .int .u8 7, .int .u8 z, .int .u8 p, .int .u8 q] 46) = w1 at k ⊢
  have p1 := k.p1
  have hS1 := HU.out _ k.drew
  clear k
  go_wp2_with fail
  clear p1
  go_region_held3 (fun u => (u.cell? ⟨w.heap.size, 0, none⟩ = some (.int .i64 x.set) ∧ u.cell? ⟨w.heap.size, 1, none⟩ = some (.int .i64 x.ix) ∧ u.cell? ⟨w.heap.size, 2, none⟩ = some (.int .u8 x.code) ∧ u.cell? ⟨w.heap.size, 3, none⟩ = some (.int .u8 x.d) ∧ u.cell? ⟨w.heap.size, 4, none⟩ = some (.int .u16 x.n) ∧ u.cell? ⟨w.heap.size, 5, none⟩ = some (.int .i64 x.len) ∧ u.cell? ⟨w.heap.size + 1, 1, none⟩ = some (.int .u8 7) ∧ u.cell? ⟨6, 3, none⟩ = some (.string (strL R))) ∧ TwoAt w x a 7 z p q u) (assumption) ((go_at_call 67; refine (HT.out _ (by assumption)).mono ?_; rintro e w' ⟨rfl, hE⟩))
  have HB := Lib.hid hE.2.below
  clear hE hS1
  go_wp2_with fail
  go_ret
  exact ⟨by rw [← HZ.out]; rfl, HB.out⟩
theorem opNear (x : In) (a y z p q : Int) (pc : Nat) (w : World) (h : OpTab w) (hd : x.d < 256) (y0 : 0 ≤ y) (y7 : y ≤ 7) : Calls Tryd.prog 55 #[.agg x.arr, .agg #[.int .u8 a, .int .u8 y, .int .u8 z, .int .u8 p, .int .u8 q], .int .u16 pc] w fun e w' => e = .returned (.string (txt (x.en (tgtN x pc)) (nearT y.toNat))) ∧ Below w.heap.size w w' := by
  rcases z8 y y0 y7 with rfl | rfl | rfl | rfl | rfl | rfl | rfl | rfl
  · exact opNear0 x a z p q pc w h
  · exact opNear1 x a z p q pc w h
  · exact opNear2 x a z p q pc w h hd
  · exact opNear3 x a z p q pc w h hd
  · exact opNear4 x a z p q pc w h hd
  · exact opNear5 x a z p q pc w h hd
  · exact opNear6 x a z p q pc w h hd
  · exact opNear7 x a z p q pc w h hd
theorem opLoadIs (E : En) (A B : ByteArray) (what place : List Tk) (q : Int) (w : World) (hd : E.d < 256) (q0 : 0 ≤ q) (q1 : q ≤ 1) (h1 : what.length ≤ 10) (h2 : place.length ≤ 10) (hA : A = txt E what) (hB : B = txt E place) : Calls Tryd.prog 65 #[.string A, .string B, .int .u8 q] w fun e w' => e = .returned (.string (txt E (loadT what place q.toNat))) ∧ w = w' := by
  subst hA hB; exact opLoad E what place q w hd q0 q1 h1 h2
set_option maxRecDepth 100000 in
set_option maxHeartbeats 1600000 in
theorem opStore0 (x : In) (a : Int) (y : Int) (z : Int) (q : Int) (pc : Nat) (w : World) (h : OpTab w) (ok : x.Ok) (q0 : 0 ≤ q) (q1 : q ≤ 1) : Calls Tryd.prog 58 #[.agg x.arr, .agg #[.int .u8 a, .int .u8 y, .int .u8 z, .int .u8 0, .int .u8 q]] w fun e w' => e = .returned (.string (txt (x.en (tgtN x pc)) (storeT (hasI x.ix) (nameL x.ix) 0 q.toNat))) ∧ Below w.heap.size w w' := by
  have K := Lib.hid (two_made w x a y z 0 q 26 46 h)
  have HW := Lib.hid (fun w h => wordT x (tgtN x pc) w h ok)
  have hrR : ∀ u, OpTab u → u.cell? ⟨7, 0, none⟩ = some (.string (strL (pairsL.getD 0 []))) := fun u h => h.pairs 0 (by decide)
  have sR : (strL (pairsL.getD 0 [])).size ≤ 2 := strL_le _ _ (pairsL_le _)
  have hz : storeT (hasI x.ix) (nameL x.ix) 0 q.toNat = loadT (lit [97]) (lit (pairsL.getD 0 [])) q.toNat := rfl
  generalize pairsL.getD 0 [] = R at hrR sR hz
  have HL := Lib.hid (fun w => opLoadIs (x.en (tgtN x pc)) (⟨#[97]⟩) (strL R) (lit [97]) (lit R) q w ok.d q0 q1 (by decide) (by rw [lit_len]; have := sR; rw [strL_size] at this; omega) (by rw [txt_arr (x.en (tgtN x pc)) #[97]]) (by rw [txt_lit]))
  have HZ := Lib.hid hz
  have HR := Lib.hid hrR
  clear hrR
  clear h hz ok q0 q1 sR
  unfold In.arr at HW HL ⊢
  go_enter Tryd.func58, Tryd.ntmps58
  go_upto_region 1 with (fail)
  have k := K.out
  clear K
  unfold In.arr at k
  generalize (w.alloc (.cells #[.int .i64 x.set, .int .i64 x.ix, .int .u8 x.code, .int .u8 x.d, .int .u16 x.n, .int .i64 x.len] 26)).alloc (.cells #[.int .u8 a, .int .u8 y, .int .u8 z, .int .u8 0, .int .u8 q] 46) = w1 at k ⊢
  have i4 := k.i4
  have p3 := k.p3
  have KK := Lib.hid k
  clear k
  go_wp2_with fail
  refine (HW.out _ KK.out.tab).mono ?_
  rintro e w2 ⟨rfl, hb2⟩
  have k2 := KK.out.later hb2
  clear i4 p3 hb2 KK
  have p3 := k2.p3
  have p4 := k2.p4
  have c := HR.out _ k2.tab
  have HB := Lib.hid k2.below
  clear k2
  go_wp2_with fail
  refine (HL.out _).mono ?_
  rintro e w' ⟨rfl, rfl⟩
  go_wp2_with fail
  go_ret
  exact ⟨by rw [HZ.out]; rfl, HB.out⟩
set_option maxRecDepth 100000 in
set_option maxHeartbeats 1600000 in
theorem opStore1 (x : In) (a : Int) (y : Int) (z : Int) (q : Int) (pc : Nat) (w : World) (h : OpTab w) (ok : x.Ok) (q0 : 0 ≤ q) (q1 : q ≤ 1) : Calls Tryd.prog 58 #[.agg x.arr, .agg #[.int .u8 a, .int .u8 y, .int .u8 z, .int .u8 1, .int .u8 q]] w fun e w' => e = .returned (.string (txt (x.en (tgtN x pc)) (storeT (hasI x.ix) (nameL x.ix) 1 q.toNat))) ∧ Below w.heap.size w w' := by
  have K := Lib.hid (two_made w x a y z 1 q 26 46 h)
  have HW := Lib.hid (fun w h => wordT x (tgtN x pc) w h ok)
  have hrR : ∀ u, OpTab u → u.cell? ⟨7, 1, none⟩ = some (.string (strL (pairsL.getD 1 []))) := fun u h => h.pairs 1 (by decide)
  have sR : (strL (pairsL.getD 1 [])).size ≤ 2 := strL_le _ _ (pairsL_le _)
  have hz : storeT (hasI x.ix) (nameL x.ix) 1 q.toNat = loadT (lit [97]) (lit (pairsL.getD 1 [])) q.toNat := rfl
  generalize pairsL.getD 1 [] = R at hrR sR hz
  have HL := Lib.hid (fun w => opLoadIs (x.en (tgtN x pc)) (⟨#[97]⟩) (strL R) (lit [97]) (lit R) q w ok.d q0 q1 (by decide) (by rw [lit_len]; have := sR; rw [strL_size] at this; omega) (by rw [txt_arr (x.en (tgtN x pc)) #[97]]) (by rw [txt_lit]))
  have HZ := Lib.hid hz
  have HR := Lib.hid hrR
  clear hrR
  clear h hz ok q0 q1 sR
  unfold In.arr at HW HL ⊢
  go_enter Tryd.func58, Tryd.ntmps58
  go_upto_region 1 with (fail)
  have k := K.out
  clear K
  unfold In.arr at k
  generalize (w.alloc (.cells #[.int .i64 x.set, .int .i64 x.ix, .int .u8 x.code, .int .u8 x.d, .int .u16 x.n, .int .i64 x.len] 26)).alloc (.cells #[.int .u8 a, .int .u8 y, .int .u8 z, .int .u8 1, .int .u8 q] 46) = w1 at k ⊢
  have i4 := k.i4
  have p3 := k.p3
  have KK := Lib.hid k
  clear k
  go_wp2_with fail
  refine (HW.out _ KK.out.tab).mono ?_
  rintro e w2 ⟨rfl, hb2⟩
  have k2 := KK.out.later hb2
  clear i4 p3 hb2 KK
  have p3 := k2.p3
  have p4 := k2.p4
  have c := HR.out _ k2.tab
  have HB := Lib.hid k2.below
  clear k2
  go_wp2_with fail
  refine (HL.out _).mono ?_
  rintro e w' ⟨rfl, rfl⟩
  go_wp2_with fail
  go_ret
  exact ⟨by rw [HZ.out]; rfl, HB.out⟩
set_option maxRecDepth 100000 in
set_option maxHeartbeats 1600000 in
theorem opStore2 (x : In) (a : Int) (y : Int) (z : Int) (q : Int) (pc : Nat) (w : World) (h : OpTab w) (ok : x.Ok) (q0 : 0 ≤ q) (q1 : q ≤ 1) : Calls Tryd.prog 58 #[.agg x.arr, .agg #[.int .u8 a, .int .u8 y, .int .u8 z, .int .u8 2, .int .u8 q]] w fun e w' => e = .returned (.string (txt (x.en (tgtN x pc)) (storeT (hasI x.ix) (nameL x.ix) 2 q.toNat))) ∧ Below w.heap.size w w' := by
  have K := Lib.hid (two_made w x a y z 2 q 26 46 h)
  have HW := Lib.hid (fun w h => wordT x (tgtN x pc) w h ok)
  have HP := Lib.hid (fun w h => opPair x 2 (tgtN x pc) w h (by decide) (by decide))
  have hz : storeT (hasI x.ix) (nameL x.ix) 2 q.toNat = loadT (pairT (hasI x.ix) (nameL x.ix) 2) [.w4] q.toNat := rfl
  have HL := Lib.hid (fun w => opLoadIs (x.en (tgtN x pc)) (txt (x.en (tgtN x pc)) (pairT (hasI x.ix) (nameL x.ix) 2)) (txt (x.en (tgtN x pc)) [.w4]) (pairT (hasI x.ix) (nameL x.ix) 2) ([.w4]) q w ok.d q0 q1 (Nat.le_trans (pairT_le _ _ _) (by decide)) (by decide) rfl rfl)
  have HZ := Lib.hid hz
  clear h hz ok q0 q1
  unfold In.arr at HW HL HP ⊢
  go_enter Tryd.func58, Tryd.ntmps58
  go_upto_region 1 with (fail)
  have k := K.out
  clear K
  unfold In.arr at k
  generalize (w.alloc (.cells #[.int .i64 x.set, .int .i64 x.ix, .int .u8 x.code, .int .u8 x.d, .int .u16 x.n, .int .i64 x.len] 26)).alloc (.cells #[.int .u8 a, .int .u8 y, .int .u8 z, .int .u8 2, .int .u8 q] 46) = w1 at k ⊢
  have i4 := k.i4
  have p3 := k.p3
  have KK := Lib.hid k
  clear k
  go_wp2_with fail
  refine (HW.out _ KK.out.tab).mono ?_
  rintro e w2 ⟨rfl, hb2⟩
  have k2 := KK.out.later hb2
  clear i4 p3 hb2 KK
  have i0 := k2.i0
  have i1 := k2.i1
  have i2 := k2.i2
  have i3 := k2.i3
  have i4 := k2.i4
  have i5 := k2.i5
  have p3 := k2.p3
  have KK := Lib.hid k2
  clear k2
  go_wp2_with fail
  refine (HP.out _ KK.out.tab).mono ?_
  rintro e w3 ⟨rfl, hb3⟩
  have k2 := KK.out.later hb3
  clear i0 i1 i2 i3 i4 i5 p3 hb3 KK
  have p4 := k2.p4
  have HB := Lib.hid k2.below
  clear k2
  go_wp2_with fail
  refine (HL.out _).mono ?_
  rintro e w' ⟨rfl, rfl⟩
  go_wp2_with fail
  go_ret
  exact ⟨by rw [HZ.out]; rfl, HB.out⟩
set_option maxRecDepth 100000 in
set_option maxHeartbeats 1600000 in
theorem opStore3 (x : In) (a : Int) (y : Int) (z : Int) (q : Int) (pc : Nat) (w : World) (h : OpTab w) (ok : x.Ok) (q0 : 0 ≤ q) (q1 : q ≤ 1) : Calls Tryd.prog 58 #[.agg x.arr, .agg #[.int .u8 a, .int .u8 y, .int .u8 z, .int .u8 3, .int .u8 q]] w fun e w' => e = .returned (.string (txt (x.en (tgtN x pc)) (storeT (hasI x.ix) (nameL x.ix) 3 q.toNat))) ∧ Below w.heap.size w w' := by
  have K := Lib.hid (two_made w x a y z 3 q 26 46 h)
  have HW := Lib.hid (fun w h => wordT x (tgtN x pc) w h ok)
  have hz : storeT (hasI x.ix) (nameL x.ix) 3 q.toNat = loadT (lit [97]) [.w4] q.toNat := rfl
  have HL := Lib.hid (fun w => opLoadIs (x.en (tgtN x pc)) (⟨#[97]⟩) (txt (x.en (tgtN x pc)) [.w4]) (lit [97]) ([.w4]) q w ok.d q0 q1 (by decide) (by decide) (by rw [txt_arr (x.en (tgtN x pc)) #[97]]) rfl)
  have HZ := Lib.hid hz
  clear h hz ok q0 q1
  unfold In.arr at HW HL ⊢
  go_enter Tryd.func58, Tryd.ntmps58
  go_upto_region 1 with (fail)
  have k := K.out
  clear K
  unfold In.arr at k
  generalize (w.alloc (.cells #[.int .i64 x.set, .int .i64 x.ix, .int .u8 x.code, .int .u8 x.d, .int .u16 x.n, .int .i64 x.len] 26)).alloc (.cells #[.int .u8 a, .int .u8 y, .int .u8 z, .int .u8 3, .int .u8 q] 46) = w1 at k ⊢
  have i4 := k.i4
  have p3 := k.p3
  have KK := Lib.hid k
  clear k
  go_wp2_with fail
  refine (HW.out _ KK.out.tab).mono ?_
  rintro e w2 ⟨rfl, hb2⟩
  have k2 := KK.out.later hb2
  clear i4 p3 hb2 KK
  have p3 := k2.p3
  have p4 := k2.p4
  have HB := Lib.hid k2.below
  clear k2
  go_wp2_with fail
  refine (HL.out _).mono ?_
  rintro e w' ⟨rfl, rfl⟩
  go_wp2_with fail
  go_ret
  exact ⟨by rw [HZ.out]; rfl, HB.out⟩
theorem opStore (x : In) (a y z p q : Int) (pc : Nat) (w : World) (h : OpTab w) (ok : x.Ok) (p0 : 0 ≤ p) (p3 : p ≤ 3) (q0 : 0 ≤ q) (q1 : q ≤ 1) : Calls Tryd.prog 58 #[.agg x.arr, .agg #[.int .u8 a, .int .u8 y, .int .u8 z, .int .u8 p, .int .u8 q]] w fun e w' => e = .returned (.string (txt (x.en (tgtN x pc)) (storeT (hasI x.ix) (nameL x.ix) p.toNat q.toNat))) ∧ Below w.heap.size w w' := by
  have e : p = 0 ∨ p = 1 ∨ p = 2 ∨ p = 3 := by omega
  rcases e with rfl | rfl | rfl | rfl
  · exact opStore0 x a y z q pc w h ok q0 q1
  · exact opStore1 x a y z q pc w h ok q0 q1
  · exact opStore2 x a y z q pc w h ok q0 q1
  · exact opStore3 x a y z q pc w h ok q0 q1

end Go.Proofs.YtkjibnnoeceaeaaDoor
