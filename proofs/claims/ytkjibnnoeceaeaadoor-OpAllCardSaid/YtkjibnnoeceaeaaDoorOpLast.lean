/- op.backText, otherText, lastText: their contracts. -/
import Derived.Test.YtkjibnnoeceaeaaDoorOpFirst2
namespace Go.Proofs.YtkjibnnoeceaeaaDoor
open Go.RowKit

theorem pushT_le (h : Bool) (ix : Int) (k : Nat) : (pushT h (nameL ix) k).length ≤ 2 := by
  unfold pushT
  split
  · decide
  · exact pairT_le h ix k
theorem octIs (n : Int) (m : Nat) (w : World) (h : OpTab w) (hm : n = (m : Int)) : Calls Tryd.prog 59 #[.int .u16 n] w fun e w' => e = .returned (.string (strL (octL m))) ∧ Below w.heap.size w w' := by
  subst hm; exact opOct m w h

set_option maxRecDepth 100000 in
set_option maxHeartbeats 1600000 in
theorem opBack0 (x : In) (a : Int) (y : Int) (z : Int) (q : Int) (pc : Nat) (w : World) (h : OpTab w) : Calls Tryd.prog 62 #[.agg x.arr, .agg #[.int .u8 a, .int .u8 y, .int .u8 z, .int .u8 0, .int .u8 q]] w fun e w' => e = .returned (.string (txt (x.en (tgtN x pc)) (lit [114, 101, 116]))) ∧ Below w.heap.size w w' := by
  have K := Lib.hid (two_made w x a y z 0 q 26 46 h)
  have HZ := Lib.hid (show (⟨#[114, 101, 116]⟩ : ByteArray) = txt (x.en (tgtN x pc)) (lit [114, 101, 116]) by rw [txt_arr (x.en (tgtN x pc)) #[114, 101, 116]])
  clear h
  unfold In.arr
  go_enter Tryd.func62, Tryd.ntmps62
  go_upto_region 1 with (fail)
  have k := K.out
  clear K
  unfold In.arr at k
  generalize (w.alloc (.cells #[.int .i64 x.set, .int .i64 x.ix, .int .u8 x.code, .int .u8 x.d, .int .u16 x.n, .int .i64 x.len] 26)).alloc (.cells #[.int .u8 a, .int .u8 y, .int .u8 z, .int .u8 0, .int .u8 q] 46) = w1 at k ⊢
  have p3 := k.p3
  have HB := Lib.hid k.below
  clear k
  go_wp2_with fail
  go_ret
  exact ⟨by rw [← HZ.out]; rfl, HB.out⟩
set_option maxRecDepth 100000 in
set_option maxHeartbeats 1600000 in
theorem opBack1 (x : In) (a : Int) (y : Int) (z : Int) (q : Int) (pc : Nat) (w : World) (h : OpTab w) : Calls Tryd.prog 62 #[.agg x.arr, .agg #[.int .u8 a, .int .u8 y, .int .u8 z, .int .u8 1, .int .u8 q]] w fun e w' => e = .returned (.string (txt (x.en (tgtN x pc)) (lit [101, 120, 120]))) ∧ Below w.heap.size w w' := by
  have K := Lib.hid (two_made w x a y z 1 q 26 46 h)
  have HZ := Lib.hid (show (⟨#[101, 120, 120]⟩ : ByteArray) = txt (x.en (tgtN x pc)) (lit [101, 120, 120]) by rw [txt_arr (x.en (tgtN x pc)) #[101, 120, 120]])
  clear h
  unfold In.arr
  go_enter Tryd.func62, Tryd.ntmps62
  go_upto_region 1 with (fail)
  have k := K.out
  clear K
  unfold In.arr at k
  generalize (w.alloc (.cells #[.int .i64 x.set, .int .i64 x.ix, .int .u8 x.code, .int .u8 x.d, .int .u16 x.n, .int .i64 x.len] 26)).alloc (.cells #[.int .u8 a, .int .u8 y, .int .u8 z, .int .u8 1, .int .u8 q] 46) = w1 at k ⊢
  have p3 := k.p3
  have HB := Lib.hid k.below
  clear k
  go_wp2_with fail
  go_ret
  exact ⟨by rw [← HZ.out]; rfl, HB.out⟩
set_option maxRecDepth 100000 in
set_option maxHeartbeats 1600000 in
theorem opBack2 (x : In) (a : Int) (y : Int) (z : Int) (q : Int) (pc : Nat) (w : World) (h : OpTab w) (ok : x.Ok) : Calls Tryd.prog 62 #[.agg x.arr, .agg #[.int .u8 a, .int .u8 y, .int .u8 z, .int .u8 2, .int .u8 q]] w fun e w' => e = .returned (.string (txt (x.en (tgtN x pc)) (lit [106, 112, 32] ++ pairT (hasI x.ix) (nameL x.ix) 2))) ∧ Below w.heap.size w w' := by
  have K := Lib.hid (two_made w x a y z 2 q 26 46 h)
  have HC := Lib.hid (fun (u : World) (hu : OpTab u) => (show Calls Tryd.prog 56 #[.agg x.arr, .int .u8 2] u fun e w' => e = .returned (.string (txt (x.en (tgtN x pc)) (pairT (hasI x.ix) (nameL x.ix) 2))) ∧ Below u.heap.size u w' from opPair x 2 (tgtN x pc) u hu (by decide) (by decide)))
  have s1 := txt_le (x.en (tgtN x pc)) (pairT (hasI x.ix) (nameL x.ix) 2) 16 ok.d (by have := pairT_le (hasI x.ix) x.ix 2; omega)
  have HZ := Lib.hid (show (⟨#[106, 112, 32]⟩ : ByteArray) ++ txt (x.en (tgtN x pc)) (pairT (hasI x.ix) (nameL x.ix) 2) = txt (x.en (tgtN x pc)) (lit [106, 112, 32] ++ pairT (hasI x.ix) (nameL x.ix) 2) by rw [txt_arr (x.en (tgtN x pc)) #[106, 112, 32], txt_app])
  clear h ok
  unfold In.arr at HC ⊢
  go_enter Tryd.func62, Tryd.ntmps62
  go_upto_region 1 with (fail)
  have k := K.out
  clear K
  unfold In.arr at k
  generalize (w.alloc (.cells #[.int .i64 x.set, .int .i64 x.ix, .int .u8 x.code, .int .u8 x.d, .int .u16 x.n, .int .i64 x.len] 26)).alloc (.cells #[.int .u8 a, .int .u8 y, .int .u8 z, .int .u8 2, .int .u8 q] 46) = w1 at k ⊢
  have i0 := k.i0
  have i1 := k.i1
  have i2 := k.i2
  have i3 := k.i3
  have i4 := k.i4
  have i5 := k.i5
  have p3 := k.p3
  have KK := Lib.hid k
  clear k
  go_wp2_with fail
  refine (HC.out _ KK.out.tab).mono ?_
  rintro e w2 ⟨rfl, hb2⟩
  go_wp2_with fail
  go_ret
  exact ⟨by rw [← HZ.out]; rfl, below_step KK.out.below hb2⟩
set_option maxRecDepth 100000 in
set_option maxHeartbeats 1600000 in
theorem opBack3 (x : In) (a : Int) (y : Int) (z : Int) (q : Int) (pc : Nat) (w : World) (h : OpTab w) (ok : x.Ok) : Calls Tryd.prog 62 #[.agg x.arr, .agg #[.int .u8 a, .int .u8 y, .int .u8 z, .int .u8 3, .int .u8 q]] w fun e w' => e = .returned (.string (txt (x.en (tgtN x pc)) (lit [108, 100, 32, 115, 112, 44] ++ pairT (hasI x.ix) (nameL x.ix) 2))) ∧ Below w.heap.size w w' := by
  have K := Lib.hid (two_made w x a y z 3 q 26 46 h)
  have HC := Lib.hid (fun (u : World) (hu : OpTab u) => (show Calls Tryd.prog 56 #[.agg x.arr, .int .u8 2] u fun e w' => e = .returned (.string (txt (x.en (tgtN x pc)) (pairT (hasI x.ix) (nameL x.ix) 2))) ∧ Below u.heap.size u w' from opPair x 2 (tgtN x pc) u hu (by decide) (by decide)))
  have s1 := txt_le (x.en (tgtN x pc)) (pairT (hasI x.ix) (nameL x.ix) 2) 16 ok.d (by have := pairT_le (hasI x.ix) x.ix 2; omega)
  have HZ := Lib.hid (show (⟨#[108, 100, 32, 115, 112, 44]⟩ : ByteArray) ++ txt (x.en (tgtN x pc)) (pairT (hasI x.ix) (nameL x.ix) 2) = txt (x.en (tgtN x pc)) (lit [108, 100, 32, 115, 112, 44] ++ pairT (hasI x.ix) (nameL x.ix) 2) by rw [txt_arr (x.en (tgtN x pc)) #[108, 100, 32, 115, 112, 44], txt_app])
  clear h ok
  unfold In.arr at HC ⊢
  go_enter Tryd.func62, Tryd.ntmps62
  go_upto_region 1 with (fail)
  have k := K.out
  clear K
  unfold In.arr at k
  generalize (w.alloc (.cells #[.int .i64 x.set, .int .i64 x.ix, .int .u8 x.code, .int .u8 x.d, .int .u16 x.n, .int .i64 x.len] 26)).alloc (.cells #[.int .u8 a, .int .u8 y, .int .u8 z, .int .u8 3, .int .u8 q] 46) = w1 at k ⊢
  have i0 := k.i0
  have i1 := k.i1
  have i2 := k.i2
  have i3 := k.i3
  have i4 := k.i4
  have i5 := k.i5
  have p3 := k.p3
  have KK := Lib.hid k
  clear k
  go_wp2_with fail
  refine (HC.out _ KK.out.tab).mono ?_
  rintro e w2 ⟨rfl, hb2⟩
  go_wp2_with fail
  go_ret
  exact ⟨by rw [← HZ.out]; rfl, below_step KK.out.below hb2⟩
theorem opBack (x : In) (a y z p q : Int) (pc : Nat) (w : World) (h : OpTab w) (ok : x.Ok) (p0 : 0 ≤ p) (p3 : p ≤ 3) : Calls Tryd.prog 62 #[.agg x.arr, .agg #[.int .u8 a, .int .u8 y, .int .u8 z, .int .u8 p, .int .u8 q]] w fun e w' => e = .returned (.string (txt (x.en (tgtN x pc)) (backT (hasI x.ix) (nameL x.ix) p.toNat))) ∧ Below w.heap.size w w' := by
  have e : p = 0 ∨ p = 1 ∨ p = 2 ∨ p = 3 := by omega
  rcases e with rfl | rfl | rfl | rfl
  · exact opBack0 x a y z q pc w h
  · exact opBack1 x a y z q pc w h
  · exact opBack2 x a y z q pc w h ok
  · exact opBack3 x a y z q pc w h ok
set_option maxRecDepth 100000 in
set_option maxHeartbeats 1600000 in
theorem opOther0 (x : In) (a : Int) (z : Int) (p : Int) (q : Int) (pc : Nat) (w : World) (h : OpTab w) (ok : x.Ok) : Calls Tryd.prog 63 #[.agg x.arr, .agg #[.int .u8 a, .int .u8 0, .int .u8 z, .int .u8 p, .int .u8 q]] w fun e w' => e = .returned (.string (txt (x.en (tgtN x pc)) (lit [106, 112, 32] ++ [.w4]))) ∧ Below w.heap.size w w' := by
  have K := Lib.hid (two_made w x a 0 z p q 26 46 h)
  have HC := Lib.hid (fun (u : World) (hu : OpTab u) => (show Calls Tryd.prog 57 #[.int .u16 x.n] u fun e w' => e = .returned (.string (txt (x.en (tgtN x pc)) [.w4])) ∧ Below u.heap.size u w' from wordT x (tgtN x pc) u hu ok))
  have s1 := txt_le (x.en (tgtN x pc)) [.w4] 8 ok.d (by decide)
  have HZ := Lib.hid (show (⟨#[106, 112, 32]⟩ : ByteArray) ++ txt (x.en (tgtN x pc)) [.w4] = txt (x.en (tgtN x pc)) (lit [106, 112, 32] ++ [.w4]) by rw [txt_arr (x.en (tgtN x pc)) #[106, 112, 32], txt_app])
  clear h ok
  unfold In.arr at HC ⊢
  go_enter Tryd.func63, Tryd.ntmps63
  go_upto_region 1 with (fail)
  have k := K.out
  clear K
  unfold In.arr at k
  generalize (w.alloc (.cells #[.int .i64 x.set, .int .i64 x.ix, .int .u8 x.code, .int .u8 x.d, .int .u16 x.n, .int .i64 x.len] 26)).alloc (.cells #[.int .u8 a, .int .u8 0, .int .u8 z, .int .u8 p, .int .u8 q] 46) = w1 at k ⊢
  have i4 := k.i4
  have p1 := k.p1
  have KK := Lib.hid k
  clear k
  go_wp2_with fail
  refine (HC.out _ KK.out.tab).mono ?_
  rintro e w2 ⟨rfl, hb2⟩
  go_wp2_with fail
  go_ret
  exact ⟨by rw [← HZ.out]; rfl, below_step KK.out.below hb2⟩
set_option maxRecDepth 100000 in
set_option maxHeartbeats 1600000 in
theorem opOther1 (x : In) (a : Int) (z : Int) (p : Int) (q : Int) (pc : Nat) (w : World) (h : OpTab w) : Calls Tryd.prog 63 #[.agg x.arr, .agg #[.int .u8 a, .int .u8 1, .int .u8 z, .int .u8 p, .int .u8 q]] w fun e w' => e = .returned (.string (txt (x.en (tgtN x pc)) ([]))) ∧ Below w.heap.size w w' := by
  have K := Lib.hid (two_made w x a 1 z p q 26 46 h)
  have HZ := Lib.hid (show (⟨#[]⟩ : ByteArray) = txt (x.en (tgtN x pc)) ([]) by rw [txt_arr (x.en (tgtN x pc)) #[]]; rfl)
  clear h
  unfold In.arr
  go_enter Tryd.func63, Tryd.ntmps63
  go_upto_region 1 with (fail)
  have k := K.out
  clear K
  unfold In.arr at k
  generalize (w.alloc (.cells #[.int .i64 x.set, .int .i64 x.ix, .int .u8 x.code, .int .u8 x.d, .int .u16 x.n, .int .i64 x.len] 26)).alloc (.cells #[.int .u8 a, .int .u8 1, .int .u8 z, .int .u8 p, .int .u8 q] 46) = w1 at k ⊢
  have p1 := k.p1
  have HB := Lib.hid k.below
  clear k
  go_wp2_with fail
  go_ret
  exact ⟨by rw [← HZ.out]; rfl, HB.out⟩
set_option maxRecDepth 100000 in
set_option maxHeartbeats 1600000 in
theorem opOther2 (x : In) (a : Int) (z : Int) (p : Int) (q : Int) (pc : Nat) (w : World) (h : OpTab w) (ok : x.Ok) : Calls Tryd.prog 63 #[.agg x.arr, .agg #[.int .u8 a, .int .u8 2, .int .u8 z, .int .u8 p, .int .u8 q]] w fun e w' => e = .returned (.string (txt (x.en (tgtN x pc)) (lit [111, 117, 116, 32, 40] ++ [.n2] ++ lit [41, 44, 97]))) ∧ Below w.heap.size w w' := by
  have K := Lib.hid (two_made w x a 2 z p q 26 46 h)
  have HC := Lib.hid (fun (u : World) (hu : OpTab u) => (show Calls Tryd.prog 59 #[.int .u16 x.n] u fun e w' => e = .returned (.string (txt (x.en (tgtN x pc)) [.n2])) ∧ Below u.heap.size u w' from octT x (tgtN x pc) u hu))
  have s1 := txt_le (x.en (tgtN x pc)) [.n2] 8 ok.d (by decide)
  have HZ := Lib.hid (show (⟨#[111, 117, 116, 32, 40]⟩ : ByteArray) ++ txt (x.en (tgtN x pc)) [.n2] ++ ⟨#[41, 44, 97]⟩ = txt (x.en (tgtN x pc)) (lit [111, 117, 116, 32, 40] ++ [.n2] ++ lit [41, 44, 97]) by rw [txt_arr (x.en (tgtN x pc)) #[111, 117, 116, 32, 40], txt_arr (x.en (tgtN x pc)) #[41, 44, 97], txt_app, txt_app])
  clear h ok
  unfold In.arr at HC ⊢
  go_enter Tryd.func63, Tryd.ntmps63
  go_upto_region 1 with (fail)
  have k := K.out
  clear K
  unfold In.arr at k
  generalize (w.alloc (.cells #[.int .i64 x.set, .int .i64 x.ix, .int .u8 x.code, .int .u8 x.d, .int .u16 x.n, .int .i64 x.len] 26)).alloc (.cells #[.int .u8 a, .int .u8 2, .int .u8 z, .int .u8 p, .int .u8 q] 46) = w1 at k ⊢
  have i4 := k.i4
  have p1 := k.p1
  have KK := Lib.hid k
  clear k
  go_wp2_with fail
  refine (HC.out _ KK.out.tab).mono ?_
  rintro e w2 ⟨rfl, hb2⟩
  go_wp2_with fail
  go_ret
  exact ⟨by rw [← HZ.out]; rfl, below_step KK.out.below hb2⟩
set_option maxRecDepth 100000 in
set_option maxHeartbeats 1600000 in
theorem opOther3 (x : In) (a : Int) (z : Int) (p : Int) (q : Int) (pc : Nat) (w : World) (h : OpTab w) (ok : x.Ok) : Calls Tryd.prog 63 #[.agg x.arr, .agg #[.int .u8 a, .int .u8 3, .int .u8 z, .int .u8 p, .int .u8 q]] w fun e w' => e = .returned (.string (txt (x.en (tgtN x pc)) (lit [105, 110, 32, 97, 44, 40] ++ [.n2] ++ lit [41]))) ∧ Below w.heap.size w w' := by
  have K := Lib.hid (two_made w x a 3 z p q 26 46 h)
  have HC := Lib.hid (fun (u : World) (hu : OpTab u) => (show Calls Tryd.prog 59 #[.int .u16 x.n] u fun e w' => e = .returned (.string (txt (x.en (tgtN x pc)) [.n2])) ∧ Below u.heap.size u w' from octT x (tgtN x pc) u hu))
  have s1 := txt_le (x.en (tgtN x pc)) [.n2] 8 ok.d (by decide)
  have HZ := Lib.hid (show (⟨#[105, 110, 32, 97, 44, 40]⟩ : ByteArray) ++ txt (x.en (tgtN x pc)) [.n2] ++ ⟨#[41]⟩ = txt (x.en (tgtN x pc)) (lit [105, 110, 32, 97, 44, 40] ++ [.n2] ++ lit [41]) by rw [txt_arr (x.en (tgtN x pc)) #[105, 110, 32, 97, 44, 40], txt_arr (x.en (tgtN x pc)) #[41], txt_app, txt_app])
  clear h ok
  unfold In.arr at HC ⊢
  go_enter Tryd.func63, Tryd.ntmps63
  go_upto_region 1 with (fail)
  have k := K.out
  clear K
  unfold In.arr at k
  generalize (w.alloc (.cells #[.int .i64 x.set, .int .i64 x.ix, .int .u8 x.code, .int .u8 x.d, .int .u16 x.n, .int .i64 x.len] 26)).alloc (.cells #[.int .u8 a, .int .u8 3, .int .u8 z, .int .u8 p, .int .u8 q] 46) = w1 at k ⊢
  have i4 := k.i4
  have p1 := k.p1
  have KK := Lib.hid k
  clear k
  go_wp2_with fail
  refine (HC.out _ KK.out.tab).mono ?_
  rintro e w2 ⟨rfl, hb2⟩
  go_wp2_with fail
  go_ret
  exact ⟨by rw [← HZ.out]; rfl, below_step KK.out.below hb2⟩
set_option maxRecDepth 100000 in
set_option maxHeartbeats 1600000 in
theorem opOther4 (x : In) (a : Int) (z : Int) (p : Int) (q : Int) (pc : Nat) (w : World) (h : OpTab w) (ok : x.Ok) : Calls Tryd.prog 63 #[.agg x.arr, .agg #[.int .u8 a, .int .u8 4, .int .u8 z, .int .u8 p, .int .u8 q]] w fun e w' => e = .returned (.string (txt (x.en (tgtN x pc)) (lit [101, 120, 32, 40, 115, 112, 41, 44] ++ pairT (hasI x.ix) (nameL x.ix) 2))) ∧ Below w.heap.size w w' := by
  have K := Lib.hid (two_made w x a 4 z p q 26 46 h)
  have HC := Lib.hid (fun (u : World) (hu : OpTab u) => (show Calls Tryd.prog 56 #[.agg x.arr, .int .u8 2] u fun e w' => e = .returned (.string (txt (x.en (tgtN x pc)) (pairT (hasI x.ix) (nameL x.ix) 2))) ∧ Below u.heap.size u w' from opPair x 2 (tgtN x pc) u hu (by decide) (by decide)))
  have s1 := txt_le (x.en (tgtN x pc)) (pairT (hasI x.ix) (nameL x.ix) 2) 16 ok.d (by have := pairT_le (hasI x.ix) x.ix 2; omega)
  have HZ := Lib.hid (show (⟨#[101, 120, 32, 40, 115, 112, 41, 44]⟩ : ByteArray) ++ txt (x.en (tgtN x pc)) (pairT (hasI x.ix) (nameL x.ix) 2) = txt (x.en (tgtN x pc)) (lit [101, 120, 32, 40, 115, 112, 41, 44] ++ pairT (hasI x.ix) (nameL x.ix) 2) by rw [txt_arr (x.en (tgtN x pc)) #[101, 120, 32, 40, 115, 112, 41, 44], txt_app])
  clear h ok
  unfold In.arr at HC ⊢
  go_enter Tryd.func63, Tryd.ntmps63
  go_upto_region 1 with (fail)
  have k := K.out
  clear K
  unfold In.arr at k
  generalize (w.alloc (.cells #[.int .i64 x.set, .int .i64 x.ix, .int .u8 x.code, .int .u8 x.d, .int .u16 x.n, .int .i64 x.len] 26)).alloc (.cells #[.int .u8 a, .int .u8 4, .int .u8 z, .int .u8 p, .int .u8 q] 46) = w1 at k ⊢
  have i0 := k.i0
  have i1 := k.i1
  have i2 := k.i2
  have i3 := k.i3
  have i4 := k.i4
  have i5 := k.i5
  have p1 := k.p1
  have KK := Lib.hid k
  clear k
  go_wp2_with fail
  refine (HC.out _ KK.out.tab).mono ?_
  rintro e w2 ⟨rfl, hb2⟩
  go_wp2_with fail
  go_ret
  exact ⟨by rw [← HZ.out]; rfl, below_step KK.out.below hb2⟩
set_option maxRecDepth 100000 in
set_option maxHeartbeats 1600000 in
theorem opOther5 (x : In) (a : Int) (z : Int) (p : Int) (q : Int) (pc : Nat) (w : World) (h : OpTab w) : Calls Tryd.prog 63 #[.agg x.arr, .agg #[.int .u8 a, .int .u8 5, .int .u8 z, .int .u8 p, .int .u8 q]] w fun e w' => e = .returned (.string (txt (x.en (tgtN x pc)) (lit [101, 120, 32, 100, 101, 44, 104, 108]))) ∧ Below w.heap.size w w' := by
  have K := Lib.hid (two_made w x a 5 z p q 26 46 h)
  have HZ := Lib.hid (show (⟨#[101, 120, 32, 100, 101, 44, 104, 108]⟩ : ByteArray) = txt (x.en (tgtN x pc)) (lit [101, 120, 32, 100, 101, 44, 104, 108]) by rw [txt_arr (x.en (tgtN x pc)) #[101, 120, 32, 100, 101, 44, 104, 108]])
  clear h
  unfold In.arr
  go_enter Tryd.func63, Tryd.ntmps63
  go_upto_region 1 with (fail)
  have k := K.out
  clear K
  unfold In.arr at k
  generalize (w.alloc (.cells #[.int .i64 x.set, .int .i64 x.ix, .int .u8 x.code, .int .u8 x.d, .int .u16 x.n, .int .i64 x.len] 26)).alloc (.cells #[.int .u8 a, .int .u8 5, .int .u8 z, .int .u8 p, .int .u8 q] 46) = w1 at k ⊢
  have p1 := k.p1
  have HB := Lib.hid k.below
  clear k
  go_wp2_with fail
  go_ret
  exact ⟨by rw [← HZ.out]; rfl, HB.out⟩
set_option maxRecDepth 100000 in
set_option maxHeartbeats 1600000 in
theorem opOther6 (x : In) (a : Int) (z : Int) (p : Int) (q : Int) (pc : Nat) (w : World) (h : OpTab w) : Calls Tryd.prog 63 #[.agg x.arr, .agg #[.int .u8 a, .int .u8 6, .int .u8 z, .int .u8 p, .int .u8 q]] w fun e w' => e = .returned (.string (txt (x.en (tgtN x pc)) (lit [100, 105]))) ∧ Below w.heap.size w w' := by
  have K := Lib.hid (two_made w x a 6 z p q 26 46 h)
  have HZ := Lib.hid (show (⟨#[100, 105]⟩ : ByteArray) = txt (x.en (tgtN x pc)) (lit [100, 105]) by rw [txt_arr (x.en (tgtN x pc)) #[100, 105]])
  clear h
  unfold In.arr
  go_enter Tryd.func63, Tryd.ntmps63
  go_upto_region 1 with (fail)
  have k := K.out
  clear K
  unfold In.arr at k
  generalize (w.alloc (.cells #[.int .i64 x.set, .int .i64 x.ix, .int .u8 x.code, .int .u8 x.d, .int .u16 x.n, .int .i64 x.len] 26)).alloc (.cells #[.int .u8 a, .int .u8 6, .int .u8 z, .int .u8 p, .int .u8 q] 46) = w1 at k ⊢
  have p1 := k.p1
  have HB := Lib.hid k.below
  clear k
  go_wp2_with fail
  go_ret
  exact ⟨by rw [← HZ.out]; rfl, HB.out⟩
set_option maxRecDepth 100000 in
set_option maxHeartbeats 1600000 in
theorem opOther7 (x : In) (a : Int) (z : Int) (p : Int) (q : Int) (pc : Nat) (w : World) (h : OpTab w) : Calls Tryd.prog 63 #[.agg x.arr, .agg #[.int .u8 a, .int .u8 7, .int .u8 z, .int .u8 p, .int .u8 q]] w fun e w' => e = .returned (.string (txt (x.en (tgtN x pc)) (lit [101, 105]))) ∧ Below w.heap.size w w' := by
  have K := Lib.hid (two_made w x a 7 z p q 26 46 h)
  have HZ := Lib.hid (show (⟨#[101, 105]⟩ : ByteArray) = txt (x.en (tgtN x pc)) (lit [101, 105]) by rw [txt_arr (x.en (tgtN x pc)) #[101, 105]])
  clear h
  unfold In.arr
  go_enter Tryd.func63, Tryd.ntmps63
  go_upto_region 1 with (fail)
  have k := K.out
  clear K
  unfold In.arr at k
  generalize (w.alloc (.cells #[.int .i64 x.set, .int .i64 x.ix, .int .u8 x.code, .int .u8 x.d, .int .u16 x.n, .int .i64 x.len] 26)).alloc (.cells #[.int .u8 a, .int .u8 7, .int .u8 z, .int .u8 p, .int .u8 q] 46) = w1 at k ⊢
  have p1 := k.p1
  have HB := Lib.hid k.below
  clear k
  go_wp2_with fail
  go_ret
  exact ⟨by rw [← HZ.out]; rfl, HB.out⟩
theorem opOther (x : In) (a y z p q : Int) (pc : Nat) (w : World) (h : OpTab w) (ok : x.Ok) (y0 : 0 ≤ y) (y7 : y ≤ 7) : Calls Tryd.prog 63 #[.agg x.arr, .agg #[.int .u8 a, .int .u8 y, .int .u8 z, .int .u8 p, .int .u8 q]] w fun e w' => e = .returned (.string (txt (x.en (tgtN x pc)) (otherT (hasI x.ix) (nameL x.ix) y.toNat))) ∧ Below w.heap.size w w' := by
  rcases z8 y y0 y7 with rfl | rfl | rfl | rfl | rfl | rfl | rfl | rfl
  · exact opOther0 x a z p q pc w h ok
  · exact opOther1 x a z p q pc w h
  · exact opOther2 x a z p q pc w h ok
  · exact opOther3 x a z p q pc w h ok
  · exact opOther4 x a z p q pc w h ok
  · exact opOther5 x a z p q pc w h
  · exact opOther6 x a z p q pc w h
  · exact opOther7 x a z p q pc w h
set_option maxRecDepth 100000 in
set_option maxHeartbeats 1600000 in
theorem opLast0 (x : In) (a : Int) (y : Nat) (p : Int) (q : Int) (pc : Nat) (w : World) (h : OpTab w) (y8 : y < 8) : Calls Tryd.prog 42 #[.agg x.arr, .agg #[.int .u8 a, .int .u8 (y : Int), .int .u8 0, .int .u8 p, .int .u8 q]] w fun e w' => e = .returned (.string (txt (x.en (tgtN x pc)) (lit [114, 101, 116, 32] ++ lit (condsL.getD y [])))) ∧ Below w.heap.size w w' := by
  have K := Lib.hid (two_made w x a ((y : Int)) 0 p q 26 46 h)
  have hrR : ∀ u, OpTab u → u.cell? ⟨6, y, none⟩ = some (.string (strL (condsL.getD y []))) := fun u h => h.conds y (by omega)
  have sR : (strL (condsL.getD y [])).size ≤ 2 := strL_le _ _ (condsL_le _)
  have y0 : (0 : Int) ≤ y := by omega
  have y1 : (y : Int) < 8 := by omega
  have hz : txt (x.en (tgtN x pc)) (lit [114, 101, 116, 32] ++ lit (condsL.getD y [])) = ⟨#[114, 101, 116, 32]⟩ ++ strL (condsL.getD y []) := by rw [txt_arr (x.en (tgtN x pc)) #[114, 101, 116, 32], ← txt_lit (x.en (tgtN x pc)) (condsL.getD y []), txt_app]
  generalize condsL.getD y [] = R at hrR sR hz ⊢
  have HZ := Lib.hid hz
  have HR := Lib.hid hrR
  clear hz hrR
  clear h y8
  unfold In.arr
  go_enter Tryd.func42, Tryd.ntmps42
  go_upto_region 1 with (fail)
  have k := K.out
  clear K
  unfold In.arr at k
  generalize (w.alloc (.cells #[.int .i64 x.set, .int .i64 x.ix, .int .u8 x.code, .int .u8 x.d, .int .u16 x.n, .int .i64 x.len] 26)).alloc (.cells #[.int .u8 a, .int .u8 (y : Int), .int .u8 0, .int .u8 p, .int .u8 q] 46) = w1 at k ⊢
  have p1 := k.p1
  have p2 := k.p2
  have c := HR.out _ k.tab
  have HB := Lib.hid k.below
  clear k
  go_wp2_with fail
  go_ret
  exact ⟨by rw [HZ.out]; rfl, HB.out⟩
set_option maxRecDepth 100000 in
set_option maxHeartbeats 1600000 in
theorem opLast10 (x : In) (a : Int) (y : Int) (p : Int) (pc : Nat) (w : World) (h : OpTab w) (ok : x.Ok) (p0 : 0 ≤ p) (p3 : p ≤ 3) : Calls Tryd.prog 42 #[.agg x.arr, .agg #[.int .u8 a, .int .u8 y, .int .u8 1, .int .u8 p, .int .u8 0]] w fun e w' => e = .returned (.string (txt (x.en (tgtN x pc)) (lit [112, 111, 112, 32] ++ pushT (hasI x.ix) (nameL x.ix) p.toNat))) ∧ Below w.heap.size w w' := by
  have K := Lib.hid (two_made w x a y 1 p 0 26 46 h)
  have HC := Lib.hid (fun (u : World) (hu : OpTab u) => (show Calls Tryd.prog 61 #[.agg x.arr, .int .u8 p] u fun e w' => e = .returned (.string (txt (x.en (tgtN x pc)) (pushT (hasI x.ix) (nameL x.ix) p.toNat))) ∧ Below u.heap.size u w' from opPush x p (tgtN x pc) u hu p0 p3))
  have s1 := txt_le (x.en (tgtN x pc)) (pushT (hasI x.ix) (nameL x.ix) p.toNat) 16 ok.d (by have := pushT_le (hasI x.ix) x.ix p.toNat; omega)
  have HZ := Lib.hid (show (⟨#[112, 111, 112, 32]⟩ : ByteArray) ++ txt (x.en (tgtN x pc)) (pushT (hasI x.ix) (nameL x.ix) p.toNat) = txt (x.en (tgtN x pc)) (lit [112, 111, 112, 32] ++ pushT (hasI x.ix) (nameL x.ix) p.toNat) by rw [txt_arr (x.en (tgtN x pc)) #[112, 111, 112, 32], txt_app])
  clear h ok p0 p3
  unfold In.arr at HC ⊢
  go_enter Tryd.func42, Tryd.ntmps42
  go_upto_region 1 with (fail)
  have k := K.out
  clear K
  unfold In.arr at k
  generalize (w.alloc (.cells #[.int .i64 x.set, .int .i64 x.ix, .int .u8 x.code, .int .u8 x.d, .int .u16 x.n, .int .i64 x.len] 26)).alloc (.cells #[.int .u8 a, .int .u8 y, .int .u8 1, .int .u8 p, .int .u8 0] 46) = w1 at k ⊢
  have i0 := k.i0
  have i1 := k.i1
  have i2 := k.i2
  have i3 := k.i3
  have i4 := k.i4
  have i5 := k.i5
  have p2 := k.p2
  have p3 := k.p3
  have p4 := k.p4
  have KK := Lib.hid k
  clear k
  go_wp2_with fail
  refine (HC.out _ KK.out.tab).mono ?_
  rintro e w2 ⟨rfl, hb2⟩
  go_wp2_with fail
  go_ret
  exact ⟨by rw [← HZ.out]; rfl, below_step KK.out.below hb2⟩
set_option maxRecDepth 100000 in
set_option maxHeartbeats 1600000 in
theorem opLast50 (x : In) (a : Int) (y : Int) (p : Int) (pc : Nat) (w : World) (h : OpTab w) (ok : x.Ok) (p0 : 0 ≤ p) (p3 : p ≤ 3) : Calls Tryd.prog 42 #[.agg x.arr, .agg #[.int .u8 a, .int .u8 y, .int .u8 5, .int .u8 p, .int .u8 0]] w fun e w' => e = .returned (.string (txt (x.en (tgtN x pc)) (lit [112, 117, 115, 104, 32] ++ pushT (hasI x.ix) (nameL x.ix) p.toNat))) ∧ Below w.heap.size w w' := by
  have K := Lib.hid (two_made w x a y 5 p 0 26 46 h)
  have HC := Lib.hid (fun (u : World) (hu : OpTab u) => (show Calls Tryd.prog 61 #[.agg x.arr, .int .u8 p] u fun e w' => e = .returned (.string (txt (x.en (tgtN x pc)) (pushT (hasI x.ix) (nameL x.ix) p.toNat))) ∧ Below u.heap.size u w' from opPush x p (tgtN x pc) u hu p0 p3))
  have s1 := txt_le (x.en (tgtN x pc)) (pushT (hasI x.ix) (nameL x.ix) p.toNat) 16 ok.d (by have := pushT_le (hasI x.ix) x.ix p.toNat; omega)
  have HZ := Lib.hid (show (⟨#[112, 117, 115, 104, 32]⟩ : ByteArray) ++ txt (x.en (tgtN x pc)) (pushT (hasI x.ix) (nameL x.ix) p.toNat) = txt (x.en (tgtN x pc)) (lit [112, 117, 115, 104, 32] ++ pushT (hasI x.ix) (nameL x.ix) p.toNat) by rw [txt_arr (x.en (tgtN x pc)) #[112, 117, 115, 104, 32], txt_app])
  clear h ok p0 p3
  unfold In.arr at HC ⊢
  go_enter Tryd.func42, Tryd.ntmps42
  go_upto_region 1 with (fail)
  have k := K.out
  clear K
  unfold In.arr at k
  generalize (w.alloc (.cells #[.int .i64 x.set, .int .i64 x.ix, .int .u8 x.code, .int .u8 x.d, .int .u16 x.n, .int .i64 x.len] 26)).alloc (.cells #[.int .u8 a, .int .u8 y, .int .u8 5, .int .u8 p, .int .u8 0] 46) = w1 at k ⊢
  have i0 := k.i0
  have i1 := k.i1
  have i2 := k.i2
  have i3 := k.i3
  have i4 := k.i4
  have i5 := k.i5
  have p2 := k.p2
  have p3 := k.p3
  have p4 := k.p4
  have KK := Lib.hid k
  clear k
  go_wp2_with fail
  refine (HC.out _ KK.out.tab).mono ?_
  rintro e w2 ⟨rfl, hb2⟩
  go_wp2_with fail
  go_ret
  exact ⟨by rw [← HZ.out]; rfl, below_step KK.out.below hb2⟩
set_option maxRecDepth 100000 in
set_option maxHeartbeats 1600000 in
theorem opLast51 (x : In) (a : Int) (y : Int) (p : Int) (pc : Nat) (w : World) (h : OpTab w) (ok : x.Ok) : Calls Tryd.prog 42 #[.agg x.arr, .agg #[.int .u8 a, .int .u8 y, .int .u8 5, .int .u8 p, .int .u8 1]] w fun e w' => e = .returned (.string (txt (x.en (tgtN x pc)) (lit [99, 97, 108, 108, 32] ++ [.w4]))) ∧ Below w.heap.size w w' := by
  have K := Lib.hid (two_made w x a y 5 p 1 26 46 h)
  have HC := Lib.hid (fun (u : World) (hu : OpTab u) => (show Calls Tryd.prog 57 #[.int .u16 x.n] u fun e w' => e = .returned (.string (txt (x.en (tgtN x pc)) [.w4])) ∧ Below u.heap.size u w' from wordT x (tgtN x pc) u hu ok))
  have s1 := txt_le (x.en (tgtN x pc)) [.w4] 8 ok.d (by decide)
  have HZ := Lib.hid (show (⟨#[99, 97, 108, 108, 32]⟩ : ByteArray) ++ txt (x.en (tgtN x pc)) [.w4] = txt (x.en (tgtN x pc)) (lit [99, 97, 108, 108, 32] ++ [.w4]) by rw [txt_arr (x.en (tgtN x pc)) #[99, 97, 108, 108, 32], txt_app])
  clear h ok
  unfold In.arr at HC ⊢
  go_enter Tryd.func42, Tryd.ntmps42
  go_upto_region 1 with (fail)
  have k := K.out
  clear K
  unfold In.arr at k
  generalize (w.alloc (.cells #[.int .i64 x.set, .int .i64 x.ix, .int .u8 x.code, .int .u8 x.d, .int .u16 x.n, .int .i64 x.len] 26)).alloc (.cells #[.int .u8 a, .int .u8 y, .int .u8 5, .int .u8 p, .int .u8 1] 46) = w1 at k ⊢
  have i4 := k.i4
  have p2 := k.p2
  have p4 := k.p4
  have KK := Lib.hid k
  clear k
  go_wp2_with fail
  refine (HC.out _ KK.out.tab).mono ?_
  rintro e w2 ⟨rfl, hb2⟩
  go_wp2_with fail
  go_ret
  exact ⟨by rw [← HZ.out]; rfl, below_step KK.out.below hb2⟩
set_option maxRecDepth 100000 in
set_option maxHeartbeats 1600000 in
theorem opLast11 (x : In) (a : Int) (y : Int) (p : Int) (pc : Nat) (w : World) (h : OpTab w) (ok : x.Ok) (p0 : 0 ≤ p) (p3 : p ≤ 3) : Calls Tryd.prog 42 #[.agg x.arr, .agg #[.int .u8 a, .int .u8 y, .int .u8 1, .int .u8 p, .int .u8 1]] w fun e w' => e = .returned (.string (txt (x.en (tgtN x pc)) (backT (hasI x.ix) (nameL x.ix) p.toNat))) ∧ Below w.heap.size w w' := by
  have K := Lib.hid (two_made w x a y 1 p 1 26 46 h)
  have HC := Lib.hid (fun (u : World) (hu : OpTab u) => opBack x a y 1 p 1 pc u hu ok p0 p3)
  clear h ok p0 p3
  unfold In.arr at HC ⊢
  go_enter Tryd.func42, Tryd.ntmps42
  go_upto_region 1 with (fail)
  have k := K.out
  clear K
  unfold In.arr at k
  generalize (w.alloc (.cells #[.int .i64 x.set, .int .i64 x.ix, .int .u8 x.code, .int .u8 x.d, .int .u16 x.n, .int .i64 x.len] 26)).alloc (.cells #[.int .u8 a, .int .u8 y, .int .u8 1, .int .u8 p, .int .u8 1] 46) = w1 at k ⊢
  have i0 := k.i0
  have i1 := k.i1
  have i2 := k.i2
  have i3 := k.i3
  have i4 := k.i4
  have i5 := k.i5
  have p0 := k.p0
  have p1 := k.p1
  have p2 := k.p2
  have p3 := k.p3
  have p4 := k.p4
  have KK := Lib.hid k
  clear k
  go_wp2_with fail
  refine (HC.out _ KK.out.tab).mono ?_
  rintro e w2 ⟨rfl, hb2⟩
  go_wp2_with fail
  go_ret
  exact ⟨rfl, below_step KK.out.below hb2⟩
set_option maxRecDepth 100000 in
set_option maxHeartbeats 1600000 in
theorem opLast3 (x : In) (a : Int) (y : Int) (p : Int) (q : Int) (pc : Nat) (w : World) (h : OpTab w) (ok : x.Ok) (y0 : 0 ≤ y) (y7 : y ≤ 7) : Calls Tryd.prog 42 #[.agg x.arr, .agg #[.int .u8 a, .int .u8 y, .int .u8 3, .int .u8 p, .int .u8 q]] w fun e w' => e = .returned (.string (txt (x.en (tgtN x pc)) (otherT (hasI x.ix) (nameL x.ix) y.toNat))) ∧ Below w.heap.size w w' := by
  have K := Lib.hid (two_made w x a y 3 p q 26 46 h)
  have HC := Lib.hid (fun (u : World) (hu : OpTab u) => opOther x a y 3 p q pc u hu ok y0 y7)
  clear h ok y0 y7
  unfold In.arr at HC ⊢
  go_enter Tryd.func42, Tryd.ntmps42
  go_upto_region 1 with (fail)
  have k := K.out
  clear K
  unfold In.arr at k
  generalize (w.alloc (.cells #[.int .i64 x.set, .int .i64 x.ix, .int .u8 x.code, .int .u8 x.d, .int .u16 x.n, .int .i64 x.len] 26)).alloc (.cells #[.int .u8 a, .int .u8 y, .int .u8 3, .int .u8 p, .int .u8 q] 46) = w1 at k ⊢
  have i0 := k.i0
  have i1 := k.i1
  have i2 := k.i2
  have i3 := k.i3
  have i4 := k.i4
  have i5 := k.i5
  have p0 := k.p0
  have p1 := k.p1
  have p2 := k.p2
  have p3 := k.p3
  have p4 := k.p4
  have KK := Lib.hid k
  clear k
  go_wp2_with fail
  refine (HC.out _ KK.out.tab).mono ?_
  rintro e w2 ⟨rfl, hb2⟩
  go_wp2_with fail
  go_ret
  exact ⟨rfl, below_step KK.out.below hb2⟩
set_option maxRecDepth 100000 in
set_option maxHeartbeats 1600000 in
theorem opLast2 (x : In) (a : Int) (y : Nat) (p : Int) (q : Int) (pc : Nat) (w : World) (h : OpTab w) (ok : x.Ok) (y8 : y < 8) : Calls Tryd.prog 42 #[.agg x.arr, .agg #[.int .u8 a, .int .u8 (y : Int), .int .u8 2, .int .u8 p, .int .u8 q]] w fun e w' => e = .returned (.string (txt (x.en (tgtN x pc)) (lit [106, 112, 32] ++ lit (condsL.getD y []) ++ lit [44] ++ [.w4]))) ∧ Below w.heap.size w w' := by
  have K := Lib.hid (two_made w x a ((y : Int)) 2 p q 26 46 h)
  have hrR : ∀ u, OpTab u → u.cell? ⟨6, y, none⟩ = some (.string (strL (condsL.getD y []))) := fun u h => h.conds y (by omega)
  have sR : (strL (condsL.getD y [])).size ≤ 2 := strL_le _ _ (condsL_le _)
  have y0 : (0 : Int) ≤ y := by omega
  have y1 : (y : Int) < 8 := by omega
  have hz : txt (x.en (tgtN x pc)) (lit [106, 112, 32] ++ lit (condsL.getD y []) ++ lit [44] ++ [.w4]) = ⟨#[106, 112, 32]⟩ ++ strL (condsL.getD y []) ++ ⟨#[44]⟩ ++ txt (x.en (tgtN x pc)) [.w4] := by rw [txt_arr (x.en (tgtN x pc)) #[106, 112, 32], txt_arr (x.en (tgtN x pc)) #[44], ← txt_lit (x.en (tgtN x pc)) (condsL.getD y []), txt_app, txt_app, txt_app]
  generalize condsL.getD y [] = R at hrR sR hz ⊢
  have HZ := Lib.hid hz.symm
  clear hz
  have s1 := txt_le (x.en (tgtN x pc)) [.w4] 8 ok.d (by decide)
  have HU := Lib.hid (show ∀ u, TwoAt w x a (y : Int) 2 p q u → (fun u => (u.cell? ⟨w.heap.size, 4, none⟩ = some (.int .u16 x.n) ∧ u.cell? ⟨w.heap.size + 1, 1, none⟩ = some (.int .u8 (y : Int)) ∧ u.cell? ⟨6, y, none⟩ = some (.string (strL R))) ∧ TwoAt w x a (y : Int) 2 p q u) u from fun u hu => ⟨⟨hu.i4, hu.p1, hrR u hu.tab⟩, hu⟩)
  have C0 := Lib.hid (show ∀ u, (fun u => (u.cell? ⟨w.heap.size, 4, none⟩ = some (.int .u16 x.n) ∧ u.cell? ⟨w.heap.size + 1, 1, none⟩ = some (.int .u8 (y : Int)) ∧ u.cell? ⟨6, y, none⟩ = some (.string (strL R))) ∧ TwoAt w x a (y : Int) 2 p q u) u → Calls Tryd.prog 57 #[.int .u16 x.n] u fun e w' => e = .returned (.string (txt (x.en (tgtN x pc)) [.w4])) ∧ (fun u => (u.cell? ⟨w.heap.size, 4, none⟩ = some (.int .u16 x.n) ∧ u.cell? ⟨w.heap.size + 1, 1, none⟩ = some (.int .u8 (y : Int)) ∧ u.cell? ⟨6, y, none⟩ = some (.string (strL R))) ∧ TwoAt w x a (y : Int) 2 p q u) w' from fun u hu => (wordT x (tgtN x pc) u hu.2.tab ok).mono fun _ _ ⟨he, hb⟩ => ⟨he, HU.out _ (hu.2.later hb)⟩)
  have g1 : ¬ (9223372036854775807 < 3 + (strL R).size) := by omega
  have g2 : ¬ (9223372036854775807 < 3 + (strL R).size + 1) := by omega
  have g3 : ¬ (9223372036854775807 < 3 + (strL R).size + 1 + (txt (x.en (tgtN x pc)) [.w4]).size) := by omega
  clear h ok y8 hrR
  unfold In.arr
  go_enter Tryd.func42, Tryd.ntmps42
  go_upto_region 1 with (fail)
  have k := K.out
  clear K
  unfold In.arr at k
  generalize (w.alloc (.cells #[.int .i64 x.set, .int .i64 x.ix, .int .u8 x.code, .int .u8 x.d, .int .u16 x.n, .int .i64 x.len] 26)).alloc (.cells #[.int .u8 a, .int .u8 (y : Int), .int .u8 2, .int .u8 p, .int .u8 q] 46) = w1 at k ⊢
  have p2 := k.p2
  have hS1 := HU.out _ k.drew
  clear k
  go_wp2_with fail
  clear p2
  go_region_held3 (fun u => (u.cell? ⟨w.heap.size, 4, none⟩ = some (.int .u16 x.n) ∧ u.cell? ⟨w.heap.size + 1, 1, none⟩ = some (.int .u8 (y : Int)) ∧ u.cell? ⟨6, y, none⟩ = some (.string (strL R))) ∧ TwoAt w x a (y : Int) 2 p q u) (assumption) (((go_at_call 57; refine (C0.out _ (by assumption)).mono ?_; rintro e w' ⟨rfl, hE⟩)))
  have HB := Lib.hid hE.2.below
  clear hE hS1
  go_wp2_with fail
  go_ret
  exact ⟨by rw [← HZ.out]; rfl, HB.out⟩
set_option maxRecDepth 100000 in
set_option maxHeartbeats 1600000 in
theorem opLast4 (x : In) (a : Int) (y : Nat) (p : Int) (q : Int) (pc : Nat) (w : World) (h : OpTab w) (ok : x.Ok) (y8 : y < 8) : Calls Tryd.prog 42 #[.agg x.arr, .agg #[.int .u8 a, .int .u8 (y : Int), .int .u8 4, .int .u8 p, .int .u8 q]] w fun e w' => e = .returned (.string (txt (x.en (tgtN x pc)) (lit [99, 97, 108, 108, 32] ++ lit (condsL.getD y []) ++ lit [44] ++ [.w4]))) ∧ Below w.heap.size w w' := by
  have K := Lib.hid (two_made w x a ((y : Int)) 4 p q 26 46 h)
  have hrR : ∀ u, OpTab u → u.cell? ⟨6, y, none⟩ = some (.string (strL (condsL.getD y []))) := fun u h => h.conds y (by omega)
  have sR : (strL (condsL.getD y [])).size ≤ 2 := strL_le _ _ (condsL_le _)
  have y0 : (0 : Int) ≤ y := by omega
  have y1 : (y : Int) < 8 := by omega
  have hz : txt (x.en (tgtN x pc)) (lit [99, 97, 108, 108, 32] ++ lit (condsL.getD y []) ++ lit [44] ++ [.w4]) = ⟨#[99, 97, 108, 108, 32]⟩ ++ strL (condsL.getD y []) ++ ⟨#[44]⟩ ++ txt (x.en (tgtN x pc)) [.w4] := by rw [txt_arr (x.en (tgtN x pc)) #[99, 97, 108, 108, 32], txt_arr (x.en (tgtN x pc)) #[44], ← txt_lit (x.en (tgtN x pc)) (condsL.getD y []), txt_app, txt_app, txt_app]
  generalize condsL.getD y [] = R at hrR sR hz ⊢
  have HZ := Lib.hid hz.symm
  clear hz
  have s1 := txt_le (x.en (tgtN x pc)) [.w4] 8 ok.d (by decide)
  have HU := Lib.hid (show ∀ u, TwoAt w x a (y : Int) 4 p q u → (fun u => (u.cell? ⟨w.heap.size, 4, none⟩ = some (.int .u16 x.n) ∧ u.cell? ⟨w.heap.size + 1, 1, none⟩ = some (.int .u8 (y : Int)) ∧ u.cell? ⟨6, y, none⟩ = some (.string (strL R))) ∧ TwoAt w x a (y : Int) 4 p q u) u from fun u hu => ⟨⟨hu.i4, hu.p1, hrR u hu.tab⟩, hu⟩)
  have C0 := Lib.hid (show ∀ u, (fun u => (u.cell? ⟨w.heap.size, 4, none⟩ = some (.int .u16 x.n) ∧ u.cell? ⟨w.heap.size + 1, 1, none⟩ = some (.int .u8 (y : Int)) ∧ u.cell? ⟨6, y, none⟩ = some (.string (strL R))) ∧ TwoAt w x a (y : Int) 4 p q u) u → Calls Tryd.prog 57 #[.int .u16 x.n] u fun e w' => e = .returned (.string (txt (x.en (tgtN x pc)) [.w4])) ∧ (fun u => (u.cell? ⟨w.heap.size, 4, none⟩ = some (.int .u16 x.n) ∧ u.cell? ⟨w.heap.size + 1, 1, none⟩ = some (.int .u8 (y : Int)) ∧ u.cell? ⟨6, y, none⟩ = some (.string (strL R))) ∧ TwoAt w x a (y : Int) 4 p q u) w' from fun u hu => (wordT x (tgtN x pc) u hu.2.tab ok).mono fun _ _ ⟨he, hb⟩ => ⟨he, HU.out _ (hu.2.later hb)⟩)
  have g1 : ¬ (9223372036854775807 < 5 + (strL R).size) := by omega
  have g2 : ¬ (9223372036854775807 < 5 + (strL R).size + 1) := by omega
  have g3 : ¬ (9223372036854775807 < 5 + (strL R).size + 1 + (txt (x.en (tgtN x pc)) [.w4]).size) := by omega
  clear h ok y8 hrR
  unfold In.arr
  go_enter Tryd.func42, Tryd.ntmps42
  go_upto_region 1 with (fail)
  have k := K.out
  clear K
  unfold In.arr at k
  generalize (w.alloc (.cells #[.int .i64 x.set, .int .i64 x.ix, .int .u8 x.code, .int .u8 x.d, .int .u16 x.n, .int .i64 x.len] 26)).alloc (.cells #[.int .u8 a, .int .u8 (y : Int), .int .u8 4, .int .u8 p, .int .u8 q] 46) = w1 at k ⊢
  have p2 := k.p2
  have hS1 := HU.out _ k.drew
  clear k
  go_wp2_with fail
  clear p2
  go_region_held3 (fun u => (u.cell? ⟨w.heap.size, 4, none⟩ = some (.int .u16 x.n) ∧ u.cell? ⟨w.heap.size + 1, 1, none⟩ = some (.int .u8 (y : Int)) ∧ u.cell? ⟨6, y, none⟩ = some (.string (strL R))) ∧ TwoAt w x a (y : Int) 4 p q u) (assumption) (((go_at_call 57; refine (C0.out _ (by assumption)).mono ?_; rintro e w' ⟨rfl, hE⟩)))
  have HB := Lib.hid hE.2.below
  clear hE hS1
  go_wp2_with fail
  go_ret
  exact ⟨by rw [← HZ.out]; rfl, HB.out⟩
set_option maxRecDepth 100000 in
set_option maxHeartbeats 1600000 in
theorem opLast6 (x : In) (a : Int) (y : Nat) (p : Int) (q : Int) (pc : Nat) (w : World) (h : OpTab w) (ok : x.Ok) (y8 : y < 8) : Calls Tryd.prog 42 #[.agg x.arr, .agg #[.int .u8 a, .int .u8 (y : Int), .int .u8 6, .int .u8 p, .int .u8 q]] w fun e w' => e = .returned (.string (txt (x.en (tgtN x pc)) (lit (opersL.getD y []) ++ [.n2]))) ∧ Below w.heap.size w w' := by
  have K := Lib.hid (two_made w x a ((y : Int)) 6 p q 26 46 h)
  have hrR : ∀ u, OpTab u → u.cell? ⟨1, y, none⟩ = some (.string (strL (opersL.getD y []))) := fun u h => h.opers y (by omega)
  have sR : (strL (opersL.getD y [])).size ≤ 6 := strL_le _ _ (opersL_le _)
  have y0 : (0 : Int) ≤ y := by omega
  have y1 : (y : Int) < 8 := by omega
  have hz : txt (x.en (tgtN x pc)) (lit (opersL.getD y []) ++ [.n2]) = strL (opersL.getD y []) ++ txt (x.en (tgtN x pc)) [.n2] := by rw [← txt_lit (x.en (tgtN x pc)) (opersL.getD y []), txt_app]
  generalize opersL.getD y [] = R at hrR sR hz ⊢
  have HZ := Lib.hid hz.symm
  clear hz
  have s1 := txt_le (x.en (tgtN x pc)) [.n2] 8 ok.d (by decide)
  have HU := Lib.hid (show ∀ u, TwoAt w x a (y : Int) 6 p q u → (fun u => (u.cell? ⟨w.heap.size, 4, none⟩ = some (.int .u16 x.n) ∧ u.cell? ⟨w.heap.size + 1, 1, none⟩ = some (.int .u8 (y : Int)) ∧ u.cell? ⟨1, y, none⟩ = some (.string (strL R))) ∧ TwoAt w x a (y : Int) 6 p q u) u from fun u hu => ⟨⟨hu.i4, hu.p1, hrR u hu.tab⟩, hu⟩)
  have C0 := Lib.hid (show ∀ u, (fun u => (u.cell? ⟨w.heap.size, 4, none⟩ = some (.int .u16 x.n) ∧ u.cell? ⟨w.heap.size + 1, 1, none⟩ = some (.int .u8 (y : Int)) ∧ u.cell? ⟨1, y, none⟩ = some (.string (strL R))) ∧ TwoAt w x a (y : Int) 6 p q u) u → Calls Tryd.prog 59 #[.int .u16 x.n] u fun e w' => e = .returned (.string (txt (x.en (tgtN x pc)) [.n2])) ∧ (fun u => (u.cell? ⟨w.heap.size, 4, none⟩ = some (.int .u16 x.n) ∧ u.cell? ⟨w.heap.size + 1, 1, none⟩ = some (.int .u8 (y : Int)) ∧ u.cell? ⟨1, y, none⟩ = some (.string (strL R))) ∧ TwoAt w x a (y : Int) 6 p q u) w' from fun u hu => (octT x (tgtN x pc) u hu.2.tab).mono fun _ _ ⟨he, hb⟩ => ⟨he, HU.out _ (hu.2.later hb)⟩)
  have g1 : ¬ (9223372036854775807 < (strL R).size + (txt (x.en (tgtN x pc)) [.n2]).size) := by omega
  clear h ok y8 hrR
  unfold In.arr
  go_enter Tryd.func42, Tryd.ntmps42
  go_upto_region 1 with (fail)
  have k := K.out
  clear K
  unfold In.arr at k
  generalize (w.alloc (.cells #[.int .i64 x.set, .int .i64 x.ix, .int .u8 x.code, .int .u8 x.d, .int .u16 x.n, .int .i64 x.len] 26)).alloc (.cells #[.int .u8 a, .int .u8 (y : Int), .int .u8 6, .int .u8 p, .int .u8 q] 46) = w1 at k ⊢
  have p2 := k.p2
  have hS1 := HU.out _ k.drew
  clear k
  go_wp2_with fail
  clear p2
  go_region_held3 (fun u => (u.cell? ⟨w.heap.size, 4, none⟩ = some (.int .u16 x.n) ∧ u.cell? ⟨w.heap.size + 1, 1, none⟩ = some (.int .u8 (y : Int)) ∧ u.cell? ⟨1, y, none⟩ = some (.string (strL R))) ∧ TwoAt w x a (y : Int) 6 p q u) (assumption) (((go_at_call 59; refine (C0.out _ (by assumption)).mono ?_; rintro e w' ⟨rfl, hE⟩)))
  have HB := Lib.hid hE.2.below
  clear hE hS1
  go_wp2_with fail
  go_ret
  exact ⟨by rw [← HZ.out]; rfl, HB.out⟩
set_option maxRecDepth 100000 in
set_option maxHeartbeats 1600000 in
theorem opLast7 (x : In) (a : Int) (y : Nat) (p : Int) (q : Int) (pc : Nat) (w : World) (h : OpTab w) (y8 : y < 8) : Calls Tryd.prog 42 #[.agg x.arr, .agg #[.int .u8 a, .int .u8 (y : Int), .int .u8 7, .int .u8 p, .int .u8 q]] w fun e w' => e = .returned (.string (txt (x.en (tgtN x pc)) (lit [114, 115, 116, 32] ++ lit (octL (8 * y))))) ∧ Below w.heap.size w w' := by
  have K := Lib.hid (two_made w x a ((y : Int)) 7 p q 26 46 h)
  have y0 : (0 : Int) ≤ y := by omega
  have y1 : (y : Int) < 8 := by omega
  have s1 : (strL (octL (8 * y))).size ≤ 3 := strL_le _ _ (Nat.le_of_eq (octL_len _))
  have hz : (⟨#[114, 115, 116, 32]⟩ : ByteArray) ++ strL (octL (8 * y)) = txt (x.en (tgtN x pc)) (lit [114, 115, 116, 32] ++ lit (octL (8 * y))) := by rw [txt_arr (x.en (tgtN x pc)) #[114, 115, 116, 32], ← txt_lit (x.en (tgtN x pc)) (octL (8 * y)), txt_app]
  have HC := Lib.hid (fun (u : World) (hu : OpTab u) => octIs (8 * (y : Int)) (8 * y) u hu (by omega))
  have HZ := Lib.hid hz
  clear hz
  clear h y8
  unfold In.arr
  go_enter Tryd.func42, Tryd.ntmps42
  go_upto_region 1 with (fail)
  have k := K.out
  clear K
  unfold In.arr at k
  generalize (w.alloc (.cells #[.int .i64 x.set, .int .i64 x.ix, .int .u8 x.code, .int .u8 x.d, .int .u16 x.n, .int .i64 x.len] 26)).alloc (.cells #[.int .u8 a, .int .u8 (y : Int), .int .u8 7, .int .u8 p, .int .u8 q] 46) = w1 at k ⊢
  have p1 := k.p1
  have p2 := k.p2
  have KK := Lib.hid k
  clear k
  go_wp2_with fail
  refine (HC.out _ KK.out.tab).mono ?_
  rintro e w2 ⟨rfl, hb2⟩
  go_wp2_with fail
  go_ret
  exact ⟨by rw [← HZ.out]; rfl, below_step KK.out.below hb2⟩
theorem opLast (x : In) (a y z p q : Int) (pc : Nat) (w : World) (h : OpTab w) (ok : x.Ok) (y0 : 0 ≤ y) (y7 : y ≤ 7) (z0 : 0 ≤ z) (z7 : z ≤ 7) (p0 : 0 ≤ p) (p3 : p ≤ 3) (q0 : 0 ≤ q) (q1 : q ≤ 1) : Calls Tryd.prog 42 #[.agg x.arr, .agg #[.int .u8 a, .int .u8 y, .int .u8 z, .int .u8 p, .int .u8 q]] w fun e w' => e = .returned (.string (txt (x.en (tgtN x pc)) (lastT (hasI x.ix) (nameL x.ix) y.toNat z.toNat p.toNat q.toNat))) ∧ Below w.heap.size w w' := by
  have eq : q = 0 ∨ q = 1 := by omega
  obtain ⟨Y, rfl⟩ := Int.eq_ofNat_of_zero_le y0
  rcases z8 z z0 z7 with rfl | rfl | rfl | rfl | rfl | rfl | rfl | rfl
  · exact opLast0 x a Y p q pc w h (by omega)
  · rcases eq with rfl | rfl
    · exact opLast10 x a Y p pc w h ok p0 p3
    · exact opLast11 x a Y p pc w h ok p0 p3
  · exact opLast2 x a Y p q pc w h ok (by omega)
  · exact opLast3 x a Y p q pc w h ok y0 y7
  · exact opLast4 x a Y p q pc w h ok (by omega)
  · rcases eq with rfl | rfl
    · exact opLast50 x a Y p pc w h ok p0 p3
    · exact opLast51 x a Y p pc w h ok
  · exact opLast6 x a Y p q pc w h ok (by omega)
  · exact opLast7 x a Y p q pc w h (by omega)

end Go.Proofs.YtkjibnnoeceaeaaDoor
