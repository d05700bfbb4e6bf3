/- op.firstText: its contract. -/
import Derived.Test.YtkjibnnoeceaeaaDoorOpFirst
namespace Go.Proofs.YtkjibnnoeceaeaaDoor
open Go.RowKit

theorem ofAL_le (k : Nat) : (ofAL.getD k []).length ≤ 4 := getD_le _ _ (by decide) k

set_option maxRecDepth 100000 in
set_option maxHeartbeats 1600000 in
theorem opFirst0 (x : In) (a : Int) (y : Int) (p : Int) (q : Int) (pc : Nat) (w : World) (h : OpTab w) (hd : x.d < 256) (y0 : 0 ≤ y) (y7 : y ≤ 7) : Calls Tryd.prog 40 #[.agg x.arr, .agg #[.int .u8 a, .int .u8 y, .int .u8 0, .int .u8 p, .int .u8 q], .int .u16 pc] w fun e w' => e = .returned (.string (txt (x.en (tgtN x pc)) (nearT y.toNat))) ∧ Below w.heap.size w w' := by
  have K := Lib.hid (two_made w x a y 0 p q 26 46 h)
  have HC := Lib.hid (fun (u : World) (hu : OpTab u) => opNear x a y 0 p q pc u hu hd y0 y7)
  clear h hd
  unfold In.arr at HC ⊢
  go_enter Tryd.func40, Tryd.ntmps40
  go_upto_region 1 with (fail)
  have k := K.out
  clear K
  unfold In.arr at k
  generalize (w.alloc (.cells #[.int .i64 x.set, .int .i64 x.ix, .int .u8 x.code, .int .u8 x.d, .int .u16 x.n, .int .i64 x.len] 26)).alloc (.cells #[.int .u8 a, .int .u8 y, .int .u8 0, .int .u8 p, .int .u8 q] 46) = w1 at k ⊢
  have i0 := k.i0
  have i1 := k.i1
  have i2 := k.i2
  have i3 := k.i3
  have i4 := k.i4
  have i5 := k.i5
  have p0 := k.p0
  have p1 := k.p1
  have p2 := k.p2
  have p3 := k.p3
  have p4 := k.p4
  have KK := Lib.hid k
  clear k
  go_wp2_with fail
  refine (HC.out _ KK.out.tab).mono ?_
  rintro e w2 ⟨rfl, hb2⟩
  go_wp2_with fail
  go_ret
  exact ⟨rfl, below_step KK.out.below hb2⟩
set_option maxRecDepth 100000 in
set_option maxHeartbeats 1600000 in
theorem opFirst10 (x : In) (a : Int) (y : Int) (p : Int) (pc : Nat) (w : World) (h : OpTab w) (ok : x.Ok) (p0 : 0 ≤ p) (p3 : p ≤ 3) : Calls Tryd.prog 40 #[.agg x.arr, .agg #[.int .u8 a, .int .u8 y, .int .u8 1, .int .u8 p, .int .u8 0], .int .u16 pc] w fun e w' => e = .returned (.string (txt (x.en (tgtN x pc)) (lit [108, 100, 32] ++ pairT (hasI x.ix) (nameL x.ix) p.toNat ++ lit [44] ++ [.w4]))) ∧ Below w.heap.size w w' := by
  have K := Lib.hid (two_made w x a y 1 p 0 26 46 h)
  have s1 := txt_le (x.en (tgtN x pc)) (pairT (hasI x.ix) (nameL x.ix) p.toNat) 16 ok.d (by have := pairT_le (hasI x.ix) x.ix p.toNat; omega)
  have s2 := txt_le (x.en (tgtN x pc)) [.w4] 8 ok.d (by decide)
  generalize hT : txt (x.en (tgtN x pc)) (pairT (hasI x.ix) (nameL x.ix) p.toNat) = T at s1
  have HZ := Lib.hid (show (⟨#[108, 100, 32]⟩ : ByteArray) ++ T ++ ⟨#[44]⟩ ++ txt (x.en (tgtN x pc)) [.w4] = txt (x.en (tgtN x pc)) (lit [108, 100, 32] ++ pairT (hasI x.ix) (nameL x.ix) p.toNat ++ lit [44] ++ [.w4]) by rw [← hT, txt_arr (x.en (tgtN x pc)) #[108, 100, 32], txt_arr (x.en (tgtN x pc)) #[44], txt_app, txt_app, txt_app])
  have HU := Lib.hid (show ∀ u, TwoAt w x a y 1 p 0 u → (fun u => (u.cell? ⟨w.heap.size, 0, none⟩ = some (.int .i64 x.set) ∧ u.cell? ⟨w.heap.size, 1, none⟩ = some (.int .i64 x.ix) ∧ u.cell? ⟨w.heap.size, 2, none⟩ = some (.int .u8 x.code) ∧ u.cell? ⟨w.heap.size, 3, none⟩ = some (.int .u8 x.d) ∧ u.cell? ⟨w.heap.size, 4, none⟩ = some (.int .u16 x.n) ∧ u.cell? ⟨w.heap.size, 5, none⟩ = some (.int .i64 x.len) ∧ u.cell? ⟨w.heap.size + 1, 3, none⟩ = some (.int .u8 p)) ∧ TwoAt w x a y 1 p 0 u) u from fun u hu => ⟨⟨hu.i0, hu.i1, hu.i2, hu.i3, hu.i4, hu.i5, hu.p3⟩, hu⟩)
  have C0 := Lib.hid (show ∀ u, (fun u => (u.cell? ⟨w.heap.size, 0, none⟩ = some (.int .i64 x.set) ∧ u.cell? ⟨w.heap.size, 1, none⟩ = some (.int .i64 x.ix) ∧ u.cell? ⟨w.heap.size, 2, none⟩ = some (.int .u8 x.code) ∧ u.cell? ⟨w.heap.size, 3, none⟩ = some (.int .u8 x.d) ∧ u.cell? ⟨w.heap.size, 4, none⟩ = some (.int .u16 x.n) ∧ u.cell? ⟨w.heap.size, 5, none⟩ = some (.int .i64 x.len) ∧ u.cell? ⟨w.heap.size + 1, 3, none⟩ = some (.int .u8 p)) ∧ TwoAt w x a y 1 p 0 u) u → Calls Tryd.prog 56 #[.agg x.arr, .int .u8 p] u fun e w' => e = .returned (.string T) ∧ (fun u => (u.cell? ⟨w.heap.size, 0, none⟩ = some (.int .i64 x.set) ∧ u.cell? ⟨w.heap.size, 1, none⟩ = some (.int .i64 x.ix) ∧ u.cell? ⟨w.heap.size, 2, none⟩ = some (.int .u8 x.code) ∧ u.cell? ⟨w.heap.size, 3, none⟩ = some (.int .u8 x.d) ∧ u.cell? ⟨w.heap.size, 4, none⟩ = some (.int .u16 x.n) ∧ u.cell? ⟨w.heap.size, 5, none⟩ = some (.int .i64 x.len) ∧ u.cell? ⟨w.heap.size + 1, 3, none⟩ = some (.int .u8 p)) ∧ TwoAt w x a y 1 p 0 u) w' from fun u hu => (hT ▸ opPair x p (tgtN x pc) u hu.2.tab p0 p3).mono fun _ _ ⟨he, hb⟩ => ⟨he, HU.out _ (hu.2.later hb)⟩)
  have C1 := Lib.hid (show ∀ u, (fun u => (u.cell? ⟨w.heap.size, 0, none⟩ = some (.int .i64 x.set) ∧ u.cell? ⟨w.heap.size, 1, none⟩ = some (.int .i64 x.ix) ∧ u.cell? ⟨w.heap.size, 2, none⟩ = some (.int .u8 x.code) ∧ u.cell? ⟨w.heap.size, 3, none⟩ = some (.int .u8 x.d) ∧ u.cell? ⟨w.heap.size, 4, none⟩ = some (.int .u16 x.n) ∧ u.cell? ⟨w.heap.size, 5, none⟩ = some (.int .i64 x.len) ∧ u.cell? ⟨w.heap.size + 1, 3, none⟩ = some (.int .u8 p)) ∧ TwoAt w x a y 1 p 0 u) u → Calls Tryd.prog 57 #[.int .u16 x.n] u fun e w' => e = .returned (.string (txt (x.en (tgtN x pc)) [.w4])) ∧ (fun u => (u.cell? ⟨w.heap.size, 0, none⟩ = some (.int .i64 x.set) ∧ u.cell? ⟨w.heap.size, 1, none⟩ = some (.int .i64 x.ix) ∧ u.cell? ⟨w.heap.size, 2, none⟩ = some (.int .u8 x.code) ∧ u.cell? ⟨w.heap.size, 3, none⟩ = some (.int .u8 x.d) ∧ u.cell? ⟨w.heap.size, 4, none⟩ = some (.int .u16 x.n) ∧ u.cell? ⟨w.heap.size, 5, none⟩ = some (.int .i64 x.len) ∧ u.cell? ⟨w.heap.size + 1, 3, none⟩ = some (.int .u8 p)) ∧ TwoAt w x a y 1 p 0 u) w' from fun u hu => (wordT x (tgtN x pc) u hu.2.tab ok).mono fun _ _ ⟨he, hb⟩ => ⟨he, HU.out _ (hu.2.later hb)⟩)
  have g1 : ¬ (9223372036854775807 < 3 + (T).size) := by omega
  have g2 : ¬ (9223372036854775807 < 3 + (T).size + 1) := by omega
  have g3 : ¬ (9223372036854775807 < 3 + (T).size + 1 + (txt (x.en (tgtN x pc)) [.w4]).size) := by omega
  clear h ok p0 p3 hT
  unfold In.arr at C0 C1 ⊢
  go_enter Tryd.func40, Tryd.ntmps40
  go_upto_region 1 with (fail)
  have k := K.out
  clear K
  unfold In.arr at k
  generalize (w.alloc (.cells #[.int .i64 x.set, .int .i64 x.ix, .int .u8 x.code, .int .u8 x.d, .int .u16 x.n, .int .i64 x.len] 26)).alloc (.cells #[.int .u8 a, .int .u8 y, .int .u8 1, .int .u8 p, .int .u8 0] 46) = w1 at k ⊢
  have p2 := k.p2
  have p4 := k.p4
  have hS1 := HU.out _ k.drew
  clear k
  go_wp2_with fail
  clear p2 p4
  go_region_held3 (fun u => (u.cell? ⟨w.heap.size, 0, none⟩ = some (.int .i64 x.set) ∧ u.cell? ⟨w.heap.size, 1, none⟩ = some (.int .i64 x.ix) ∧ u.cell? ⟨w.heap.size, 2, none⟩ = some (.int .u8 x.code) ∧ u.cell? ⟨w.heap.size, 3, none⟩ = some (.int .u8 x.d) ∧ u.cell? ⟨w.heap.size, 4, none⟩ = some (.int .u16 x.n) ∧ u.cell? ⟨w.heap.size, 5, none⟩ = some (.int .i64 x.len) ∧ u.cell? ⟨w.heap.size + 1, 3, none⟩ = some (.int .u8 p)) ∧ TwoAt w x a y 1 p 0 u) (assumption) ((first | (go_at_call 56; refine (C0.out _ (by assumption)).mono ?_; rintro e w' ⟨rfl, hE⟩) | (go_at_call 57; refine (C1.out _ (by assumption)).mono ?_; rintro e w' ⟨rfl, hE⟩)))
  have HB := Lib.hid hE.2.below
  clear hE hS1
  go_wp2_with fail
  go_ret
  exact ⟨by rw [← HZ.out]; rfl, HB.out⟩
set_option maxRecDepth 100000 in
set_option maxHeartbeats 1600000 in
theorem opFirst11 (x : In) (a : Int) (y : Int) (p : Int) (pc : Nat) (w : World) (h : OpTab w) (ok : x.Ok) (p0 : 0 ≤ p) (p3 : p ≤ 3) : Calls Tryd.prog 40 #[.agg x.arr, .agg #[.int .u8 a, .int .u8 y, .int .u8 1, .int .u8 p, .int .u8 1], .int .u16 pc] w fun e w' => e = .returned (.string (txt (x.en (tgtN x pc)) (lit [97, 100, 100, 32] ++ pairT (hasI x.ix) (nameL x.ix) 2 ++ lit [44] ++ pairT (hasI x.ix) (nameL x.ix) p.toNat))) ∧ Below w.heap.size w w' := by
  have K := Lib.hid (two_made w x a y 1 p 1 26 46 h)
  have s1 := txt_le (x.en (tgtN x pc)) (pairT (hasI x.ix) (nameL x.ix) 2) 16 ok.d (by have := pairT_le (hasI x.ix) x.ix 2; omega)
  have s2 := txt_le (x.en (tgtN x pc)) (pairT (hasI x.ix) (nameL x.ix) p.toNat) 16 ok.d (by have := pairT_le (hasI x.ix) x.ix p.toNat; omega)
  generalize hT : txt (x.en (tgtN x pc)) (pairT (hasI x.ix) (nameL x.ix) 2) = T at s1
  generalize hV : txt (x.en (tgtN x pc)) (pairT (hasI x.ix) (nameL x.ix) p.toNat) = V at s2
  have HZ := Lib.hid (show (⟨#[97, 100, 100, 32]⟩ : ByteArray) ++ T ++ ⟨#[44]⟩ ++ V = txt (x.en (tgtN x pc)) (lit [97, 100, 100, 32] ++ pairT (hasI x.ix) (nameL x.ix) 2 ++ lit [44] ++ pairT (hasI x.ix) (nameL x.ix) p.toNat) by rw [← hT, ← hV, txt_arr (x.en (tgtN x pc)) #[97, 100, 100, 32], txt_arr (x.en (tgtN x pc)) #[44], txt_app, txt_app, txt_app])
  have HU := Lib.hid (show ∀ u, TwoAt w x a y 1 p 1 u → (fun u => (u.cell? ⟨w.heap.size, 0, none⟩ = some (.int .i64 x.set) ∧ u.cell? ⟨w.heap.size, 1, none⟩ = some (.int .i64 x.ix) ∧ u.cell? ⟨w.heap.size, 2, none⟩ = some (.int .u8 x.code) ∧ u.cell? ⟨w.heap.size, 3, none⟩ = some (.int .u8 x.d) ∧ u.cell? ⟨w.heap.size, 4, none⟩ = some (.int .u16 x.n) ∧ u.cell? ⟨w.heap.size, 5, none⟩ = some (.int .i64 x.len) ∧ u.cell? ⟨w.heap.size + 1, 3, none⟩ = some (.int .u8 p)) ∧ TwoAt w x a y 1 p 1 u) u from fun u hu => ⟨⟨hu.i0, hu.i1, hu.i2, hu.i3, hu.i4, hu.i5, hu.p3⟩, hu⟩)
  have C0 := Lib.hid (show ∀ u, (fun u => (u.cell? ⟨w.heap.size, 0, none⟩ = some (.int .i64 x.set) ∧ u.cell? ⟨w.heap.size, 1, none⟩ = some (.int .i64 x.ix) ∧ u.cell? ⟨w.heap.size, 2, none⟩ = some (.int .u8 x.code) ∧ u.cell? ⟨w.heap.size, 3, none⟩ = some (.int .u8 x.d) ∧ u.cell? ⟨w.heap.size, 4, none⟩ = some (.int .u16 x.n) ∧ u.cell? ⟨w.heap.size, 5, none⟩ = some (.int .i64 x.len) ∧ u.cell? ⟨w.heap.size + 1, 3, none⟩ = some (.int .u8 p)) ∧ TwoAt w x a y 1 p 1 u) u → Calls Tryd.prog 56 #[.agg x.arr, .int .u8 2] u fun e w' => e = .returned (.string T) ∧ (fun u => (u.cell? ⟨w.heap.size, 0, none⟩ = some (.int .i64 x.set) ∧ u.cell? ⟨w.heap.size, 1, none⟩ = some (.int .i64 x.ix) ∧ u.cell? ⟨w.heap.size, 2, none⟩ = some (.int .u8 x.code) ∧ u.cell? ⟨w.heap.size, 3, none⟩ = some (.int .u8 x.d) ∧ u.cell? ⟨w.heap.size, 4, none⟩ = some (.int .u16 x.n) ∧ u.cell? ⟨w.heap.size, 5, none⟩ = some (.int .i64 x.len) ∧ u.cell? ⟨w.heap.size + 1, 3, none⟩ = some (.int .u8 p)) ∧ TwoAt w x a y 1 p 1 u) w' from fun u hu => (hT ▸ opPair x 2 (tgtN x pc) u hu.2.tab (by decide) (by decide)).mono fun _ _ ⟨he, hb⟩ => ⟨he, HU.out _ (hu.2.later hb)⟩)
  have C1 := Lib.hid (show ∀ u, (fun u => (u.cell? ⟨w.heap.size, 0, none⟩ = some (.int .i64 x.set) ∧ u.cell? ⟨w.heap.size, 1, none⟩ = some (.int .i64 x.ix) ∧ u.cell? ⟨w.heap.size, 2, none⟩ = some (.int .u8 x.code) ∧ u.cell? ⟨w.heap.size, 3, none⟩ = some (.int .u8 x.d) ∧ u.cell? ⟨w.heap.size, 4, none⟩ = some (.int .u16 x.n) ∧ u.cell? ⟨w.heap.size, 5, none⟩ = some (.int .i64 x.len) ∧ u.cell? ⟨w.heap.size + 1, 3, none⟩ = some (.int .u8 p)) ∧ TwoAt w x a y 1 p 1 u) u → Calls Tryd.prog 56 #[.agg x.arr, .int .u8 p] u fun e w' => e = .returned (.string V) ∧ (fun u => (u.cell? ⟨w.heap.size, 0, none⟩ = some (.int .i64 x.set) ∧ u.cell? ⟨w.heap.size, 1, none⟩ = some (.int .i64 x.ix) ∧ u.cell? ⟨w.heap.size, 2, none⟩ = some (.int .u8 x.code) ∧ u.cell? ⟨w.heap.size, 3, none⟩ = some (.int .u8 x.d) ∧ u.cell? ⟨w.heap.size, 4, none⟩ = some (.int .u16 x.n) ∧ u.cell? ⟨w.heap.size, 5, none⟩ = some (.int .i64 x.len) ∧ u.cell? ⟨w.heap.size + 1, 3, none⟩ = some (.int .u8 p)) ∧ TwoAt w x a y 1 p 1 u) w' from fun u hu => (hV ▸ opPair x p (tgtN x pc) u hu.2.tab p0 p3).mono fun _ _ ⟨he, hb⟩ => ⟨he, HU.out _ (hu.2.later hb)⟩)
  have g1 : ¬ (9223372036854775807 < 4 + (T).size) := by omega
  have g2 : ¬ (9223372036854775807 < 4 + (T).size + 1) := by omega
  have g3 : ¬ (9223372036854775807 < 4 + (T).size + 1 + (V).size) := by omega
  clear h ok p0 p3 hT hV
  unfold In.arr at C0 C1 ⊢
  go_enter Tryd.func40, Tryd.ntmps40
  go_upto_region 1 with (fail)
  have k := K.out
  clear K
  unfold In.arr at k
  generalize (w.alloc (.cells #[.int .i64 x.set, .int .i64 x.ix, .int .u8 x.code, .int .u8 x.d, .int .u16 x.n, .int .i64 x.len] 26)).alloc (.cells #[.int .u8 a, .int .u8 y, .int .u8 1, .int .u8 p, .int .u8 1] 46) = w1 at k ⊢
  have p2 := k.p2
  have p4 := k.p4
  have hS1 := HU.out _ k.drew
  clear k
  go_wp2_with fail
  clear p2 p4
  go_region_held3 (fun u => (u.cell? ⟨w.heap.size, 0, none⟩ = some (.int .i64 x.set) ∧ u.cell? ⟨w.heap.size, 1, none⟩ = some (.int .i64 x.ix) ∧ u.cell? ⟨w.heap.size, 2, none⟩ = some (.int .u8 x.code) ∧ u.cell? ⟨w.heap.size, 3, none⟩ = some (.int .u8 x.d) ∧ u.cell? ⟨w.heap.size, 4, none⟩ = some (.int .u16 x.n) ∧ u.cell? ⟨w.heap.size, 5, none⟩ = some (.int .i64 x.len) ∧ u.cell? ⟨w.heap.size + 1, 3, none⟩ = some (.int .u8 p)) ∧ TwoAt w x a y 1 p 1 u) (assumption) (((go_at_call 56; (first | (with_reducible refine (C0.out _ (by assumption)).mono ?_) | (with_reducible refine (C1.out _ (by assumption)).mono ?_)); rintro e w' ⟨rfl, hE⟩)))
  have HB := Lib.hid hE.2.below
  clear hE hS1
  go_wp2_with fail
  go_ret
  exact ⟨by rw [← HZ.out]; rfl, HB.out⟩
set_option maxRecDepth 100000 in
set_option maxHeartbeats 1600000 in
theorem opFirst2 (x : In) (a : Int) (y : Int) (p : Int) (q : Int) (pc : Nat) (w : World) (h : OpTab w) (ok : x.Ok) (p0 : 0 ≤ p) (p3 : p ≤ 3) (q0 : 0 ≤ q) (q1 : q ≤ 1) : Calls Tryd.prog 40 #[.agg x.arr, .agg #[.int .u8 a, .int .u8 y, .int .u8 2, .int .u8 p, .int .u8 q], .int .u16 pc] w fun e w' => e = .returned (.string (txt (x.en (tgtN x pc)) (storeT (hasI x.ix) (nameL x.ix) p.toNat q.toNat))) ∧ Below w.heap.size w w' := by
  have K := Lib.hid (two_made w x a y 2 p q 26 46 h)
  have HC := Lib.hid (fun (u : World) (hu : OpTab u) => opStore x a y 2 p q pc u hu ok p0 p3 q0 q1)
  clear h ok p0 p3 q0 q1
  unfold In.arr at HC ⊢
  go_enter Tryd.func40, Tryd.ntmps40
  go_upto_region 1 with (fail)
  have k := K.out
  clear K
  unfold In.arr at k
  generalize (w.alloc (.cells #[.int .i64 x.set, .int .i64 x.ix, .int .u8 x.code, .int .u8 x.d, .int .u16 x.n, .int .i64 x.len] 26)).alloc (.cells #[.int .u8 a, .int .u8 y, .int .u8 2, .int .u8 p, .int .u8 q] 46) = w1 at k ⊢
  have i0 := k.i0
  have i1 := k.i1
  have i2 := k.i2
  have i3 := k.i3
  have i4 := k.i4
  have i5 := k.i5
  have p0 := k.p0
  have p1 := k.p1
  have p2 := k.p2
  have p3 := k.p3
  have p4 := k.p4
  have KK := Lib.hid k
  clear k
  go_wp2_with fail
  refine (HC.out _ KK.out.tab).mono ?_
  rintro e w2 ⟨rfl, hb2⟩
  go_wp2_with fail
  go_ret
  exact ⟨rfl, below_step KK.out.below hb2⟩
set_option maxRecDepth 100000 in
set_option maxHeartbeats 1600000 in
theorem opFirst30 (x : In) (a : Int) (y : Int) (p : Int) (pc : Nat) (w : World) (h : OpTab w) (ok : x.Ok) (p0 : 0 ≤ p) (p3 : p ≤ 3) : Calls Tryd.prog 40 #[.agg x.arr, .agg #[.int .u8 a, .int .u8 y, .int .u8 3, .int .u8 p, .int .u8 0], .int .u16 pc] w fun e w' => e = .returned (.string (txt (x.en (tgtN x pc)) (lit [105, 110, 99, 32] ++ pairT (hasI x.ix) (nameL x.ix) p.toNat))) ∧ Below w.heap.size w w' := by
  have K := Lib.hid (two_made w x a y 3 p 0 26 46 h)
  have HC := Lib.hid (fun (u : World) (hu : OpTab u) => (show Calls Tryd.prog 56 #[.agg x.arr, .int .u8 p] u fun e w' => e = .returned (.string (txt (x.en (tgtN x pc)) (pairT (hasI x.ix) (nameL x.ix) p.toNat))) ∧ Below u.heap.size u w' from opPair x p (tgtN x pc) u hu p0 p3))
  have s1 := txt_le (x.en (tgtN x pc)) (pairT (hasI x.ix) (nameL x.ix) p.toNat) 16 ok.d (by have := pairT_le (hasI x.ix) x.ix p.toNat; omega)
  have HZ := Lib.hid (show (⟨#[105, 110, 99, 32]⟩ : ByteArray) ++ txt (x.en (tgtN x pc)) (pairT (hasI x.ix) (nameL x.ix) p.toNat) = txt (x.en (tgtN x pc)) (lit [105, 110, 99, 32] ++ pairT (hasI x.ix) (nameL x.ix) p.toNat) by rw [txt_arr (x.en (tgtN x pc)) #[105, 110, 99, 32], txt_app])
  clear h ok p0 p3
  unfold In.arr at HC ⊢
  go_enter Tryd.func40, Tryd.ntmps40
  go_upto_region 1 with (fail)
  have k := K.out
  clear K
  unfold In.arr at k
  generalize (w.alloc (.cells #[.int .i64 x.set, .int .i64 x.ix, .int .u8 x.code, .int .u8 x.d, .int .u16 x.n, .int .i64 x.len] 26)).alloc (.cells #[.int .u8 a, .int .u8 y, .int .u8 3, .int .u8 p, .int .u8 0] 46) = w1 at k ⊢
  have i0 := k.i0
  have i1 := k.i1
  have i2 := k.i2
  have i3 := k.i3
  have i4 := k.i4
  have i5 := k.i5
  have p2 := k.p2
  have p3 := k.p3
  have p4 := k.p4
  have KK := Lib.hid k
  clear k
  go_wp2_with fail
  refine (HC.out _ KK.out.tab).mono ?_
  rintro e w2 ⟨rfl, hb2⟩
  go_wp2_with fail
  go_ret
  exact ⟨by rw [← HZ.out]; rfl, below_step KK.out.below hb2⟩
set_option maxRecDepth 100000 in
set_option maxHeartbeats 1600000 in
theorem opFirst31 (x : In) (a : Int) (y : Int) (p : Int) (pc : Nat) (w : World) (h : OpTab w) (ok : x.Ok) (p0 : 0 ≤ p) (p3 : p ≤ 3) : Calls Tryd.prog 40 #[.agg x.arr, .agg #[.int .u8 a, .int .u8 y, .int .u8 3, .int .u8 p, .int .u8 1], .int .u16 pc] w fun e w' => e = .returned (.string (txt (x.en (tgtN x pc)) (lit [100, 101, 99, 32] ++ pairT (hasI x.ix) (nameL x.ix) p.toNat))) ∧ Below w.heap.size w w' := by
  have K := Lib.hid (two_made w x a y 3 p 1 26 46 h)
  have HC := Lib.hid (fun (u : World) (hu : OpTab u) => (show Calls Tryd.prog 56 #[.agg x.arr, .int .u8 p] u fun e w' => e = .returned (.string (txt (x.en (tgtN x pc)) (pairT (hasI x.ix) (nameL x.ix) p.toNat))) ∧ Below u.heap.size u w' from opPair x p (tgtN x pc) u hu p0 p3))
  have s1 := txt_le (x.en (tgtN x pc)) (pairT (hasI x.ix) (nameL x.ix) p.toNat) 16 ok.d (by have := pairT_le (hasI x.ix) x.ix p.toNat; omega)
  have HZ := Lib.hid (show (⟨#[100, 101, 99, 32]⟩ : ByteArray) ++ txt (x.en (tgtN x pc)) (pairT (hasI x.ix) (nameL x.ix) p.toNat) = txt (x.en (tgtN x pc)) (lit [100, 101, 99, 32] ++ pairT (hasI x.ix) (nameL x.ix) p.toNat) by rw [txt_arr (x.en (tgtN x pc)) #[100, 101, 99, 32], txt_app])
  clear h ok p0 p3
  unfold In.arr at HC ⊢
  go_enter Tryd.func40, Tryd.ntmps40
  go_upto_region 1 with (fail)
  have k := K.out
  clear K
  unfold In.arr at k
  generalize (w.alloc (.cells #[.int .i64 x.set, .int .i64 x.ix, .int .u8 x.code, .int .u8 x.d, .int .u16 x.n, .int .i64 x.len] 26)).alloc (.cells #[.int .u8 a, .int .u8 y, .int .u8 3, .int .u8 p, .int .u8 1] 46) = w1 at k ⊢
  have i0 := k.i0
  have i1 := k.i1
  have i2 := k.i2
  have i3 := k.i3
  have i4 := k.i4
  have i5 := k.i5
  have p2 := k.p2
  have p3 := k.p3
  have p4 := k.p4
  have KK := Lib.hid k
  clear k
  go_wp2_with fail
  refine (HC.out _ KK.out.tab).mono ?_
  rintro e w2 ⟨rfl, hb2⟩
  go_wp2_with fail
  go_ret
  exact ⟨by rw [← HZ.out]; rfl, below_step KK.out.below hb2⟩
set_option maxRecDepth 100000 in
set_option maxHeartbeats 1600000 in
theorem opFirst4 (x : In) (a : Int) (y : Int) (p : Int) (q : Int) (pc : Nat) (w : World) (h : OpTab w) (ok : x.Ok) (y0 : 0 ≤ y) (y7 : y ≤ 7) : Calls Tryd.prog 40 #[.agg x.arr, .agg #[.int .u8 a, .int .u8 y, .int .u8 4, .int .u8 p, .int .u8 q], .int .u16 pc] w fun e w' => e = .returned (.string (txt (x.en (tgtN x pc)) (lit [105, 110, 99, 32] ++ regT (hasI x.ix) (nameL x.ix) x.code y.toNat))) ∧ Below w.heap.size w w' := by
  have K := Lib.hid (two_made w x a y 4 p q 26 46 h)
  have HC := Lib.hid (fun (u : World) (hu : OpTab u) => (show Calls Tryd.prog 41 #[.agg x.arr, .int .u8 y] u fun e w' => e = .returned (.string (txt (x.en (tgtN x pc)) (regT (hasI x.ix) (nameL x.ix) x.code y.toNat))) ∧ Below u.heap.size u w' from opReg x y (tgtN x pc) u hu ok y0 y7))
  have s1 := txt_le (x.en (tgtN x pc)) (regT (hasI x.ix) (nameL x.ix) x.code y.toNat) 48 ok.d (by have := regT_le (hasI x.ix) x.ix x.code y.toNat; omega)
  have HZ := Lib.hid (show (⟨#[105, 110, 99, 32]⟩ : ByteArray) ++ txt (x.en (tgtN x pc)) (regT (hasI x.ix) (nameL x.ix) x.code y.toNat) = txt (x.en (tgtN x pc)) (lit [105, 110, 99, 32] ++ regT (hasI x.ix) (nameL x.ix) x.code y.toNat) by rw [txt_arr (x.en (tgtN x pc)) #[105, 110, 99, 32], txt_app])
  clear h ok y0 y7
  unfold In.arr at HC ⊢
  go_enter Tryd.func40, Tryd.ntmps40
  go_upto_region 1 with (fail)
  have k := K.out
  clear K
  unfold In.arr at k
  generalize (w.alloc (.cells #[.int .i64 x.set, .int .i64 x.ix, .int .u8 x.code, .int .u8 x.d, .int .u16 x.n, .int .i64 x.len] 26)).alloc (.cells #[.int .u8 a, .int .u8 y, .int .u8 4, .int .u8 p, .int .u8 q] 46) = w1 at k ⊢
  have i0 := k.i0
  have i1 := k.i1
  have i2 := k.i2
  have i3 := k.i3
  have i4 := k.i4
  have i5 := k.i5
  have p1 := k.p1
  have p2 := k.p2
  have KK := Lib.hid k
  clear k
  go_wp2_with fail
  refine (HC.out _ KK.out.tab).mono ?_
  rintro e w2 ⟨rfl, hb2⟩
  go_wp2_with fail
  go_ret
  exact ⟨by rw [← HZ.out]; rfl, below_step KK.out.below hb2⟩
set_option maxRecDepth 100000 in
set_option maxHeartbeats 1600000 in
theorem opFirst5 (x : In) (a : Int) (y : Int) (p : Int) (q : Int) (pc : Nat) (w : World) (h : OpTab w) (ok : x.Ok) (y0 : 0 ≤ y) (y7 : y ≤ 7) : Calls Tryd.prog 40 #[.agg x.arr, .agg #[.int .u8 a, .int .u8 y, .int .u8 5, .int .u8 p, .int .u8 q], .int .u16 pc] w fun e w' => e = .returned (.string (txt (x.en (tgtN x pc)) (lit [100, 101, 99, 32] ++ regT (hasI x.ix) (nameL x.ix) x.code y.toNat))) ∧ Below w.heap.size w w' := by
  have K := Lib.hid (two_made w x a y 5 p q 26 46 h)
  have HC := Lib.hid (fun (u : World) (hu : OpTab u) => (show Calls Tryd.prog 41 #[.agg x.arr, .int .u8 y] u fun e w' => e = .returned (.string (txt (x.en (tgtN x pc)) (regT (hasI x.ix) (nameL x.ix) x.code y.toNat))) ∧ Below u.heap.size u w' from opReg x y (tgtN x pc) u hu ok y0 y7))
  have s1 := txt_le (x.en (tgtN x pc)) (regT (hasI x.ix) (nameL x.ix) x.code y.toNat) 48 ok.d (by have := regT_le (hasI x.ix) x.ix x.code y.toNat; omega)
  have HZ := Lib.hid (show (⟨#[100, 101, 99, 32]⟩ : ByteArray) ++ txt (x.en (tgtN x pc)) (regT (hasI x.ix) (nameL x.ix) x.code y.toNat) = txt (x.en (tgtN x pc)) (lit [100, 101, 99, 32] ++ regT (hasI x.ix) (nameL x.ix) x.code y.toNat) by rw [txt_arr (x.en (tgtN x pc)) #[100, 101, 99, 32], txt_app])
  clear h ok y0 y7
  unfold In.arr at HC ⊢
  go_enter Tryd.func40, Tryd.ntmps40
  go_upto_region 1 with (fail)
  have k := K.out
  clear K
  unfold In.arr at k
  generalize (w.alloc (.cells #[.int .i64 x.set, .int .i64 x.ix, .int .u8 x.code, .int .u8 x.d, .int .u16 x.n, .int .i64 x.len] 26)).alloc (.cells #[.int .u8 a, .int .u8 y, .int .u8 5, .int .u8 p, .int .u8 q] 46) = w1 at k ⊢
  have i0 := k.i0
  have i1 := k.i1
  have i2 := k.i2
  have i3 := k.i3
  have i4 := k.i4
  have i5 := k.i5
  have p1 := k.p1
  have p2 := k.p2
  have KK := Lib.hid k
  clear k
  go_wp2_with fail
  refine (HC.out _ KK.out.tab).mono ?_
  rintro e w2 ⟨rfl, hb2⟩
  go_wp2_with fail
  go_ret
  exact ⟨by rw [← HZ.out]; rfl, below_step KK.out.below hb2⟩
set_option maxRecDepth 100000 in
set_option maxHeartbeats 1600000 in
theorem opFirst6 (x : In) (a : Int) (y : Int) (p : Int) (q : Int) (pc : Nat) (w : World) (h : OpTab w) (ok : x.Ok) (y0 : 0 ≤ y) (y7 : y ≤ 7) : Calls Tryd.prog 40 #[.agg x.arr, .agg #[.int .u8 a, .int .u8 y, .int .u8 6, .int .u8 p, .int .u8 q], .int .u16 pc] w fun e w' => e = .returned (.string (txt (x.en (tgtN x pc)) (lit [108, 100, 32] ++ regT (hasI x.ix) (nameL x.ix) x.code y.toNat ++ lit [44] ++ [.n2]))) ∧ Below w.heap.size w w' := by
  have K := Lib.hid (two_made w x a y 6 p q 26 46 h)
  have s1 := txt_le (x.en (tgtN x pc)) (regT (hasI x.ix) (nameL x.ix) x.code y.toNat) 48 ok.d (by have := regT_le (hasI x.ix) x.ix x.code y.toNat; omega)
  have s2 := txt_le (x.en (tgtN x pc)) [.n2] 8 ok.d (by decide)
  generalize hT : txt (x.en (tgtN x pc)) (regT (hasI x.ix) (nameL x.ix) x.code y.toNat) = T at s1
  have HZ := Lib.hid (show (⟨#[108, 100, 32]⟩ : ByteArray) ++ T ++ ⟨#[44]⟩ ++ txt (x.en (tgtN x pc)) [.n2] = txt (x.en (tgtN x pc)) (lit [108, 100, 32] ++ regT (hasI x.ix) (nameL x.ix) x.code y.toNat ++ lit [44] ++ [.n2]) by rw [← hT, txt_arr (x.en (tgtN x pc)) #[108, 100, 32], txt_arr (x.en (tgtN x pc)) #[44], txt_app, txt_app, txt_app])
  have HU := Lib.hid (show ∀ u, TwoAt w x a y 6 p q u → (fun u => (u.cell? ⟨w.heap.size, 0, none⟩ = some (.int .i64 x.set) ∧ u.cell? ⟨w.heap.size, 1, none⟩ = some (.int .i64 x.ix) ∧ u.cell? ⟨w.heap.size, 2, none⟩ = some (.int .u8 x.code) ∧ u.cell? ⟨w.heap.size, 3, none⟩ = some (.int .u8 x.d) ∧ u.cell? ⟨w.heap.size, 4, none⟩ = some (.int .u16 x.n) ∧ u.cell? ⟨w.heap.size, 5, none⟩ = some (.int .i64 x.len) ∧ u.cell? ⟨w.heap.size + 1, 1, none⟩ = some (.int .u8 y)) ∧ TwoAt w x a y 6 p q u) u from fun u hu => ⟨⟨hu.i0, hu.i1, hu.i2, hu.i3, hu.i4, hu.i5, hu.p1⟩, hu⟩)
  have C0 := Lib.hid (show ∀ u, (fun u => (u.cell? ⟨w.heap.size, 0, none⟩ = some (.int .i64 x.set) ∧ u.cell? ⟨w.heap.size, 1, none⟩ = some (.int .i64 x.ix) ∧ u.cell? ⟨w.heap.size, 2, none⟩ = some (.int .u8 x.code) ∧ u.cell? ⟨w.heap.size, 3, none⟩ = some (.int .u8 x.d) ∧ u.cell? ⟨w.heap.size, 4, none⟩ = some (.int .u16 x.n) ∧ u.cell? ⟨w.heap.size, 5, none⟩ = some (.int .i64 x.len) ∧ u.cell? ⟨w.heap.size + 1, 1, none⟩ = some (.int .u8 y)) ∧ TwoAt w x a y 6 p q u) u → Calls Tryd.prog 41 #[.agg x.arr, .int .u8 y] u fun e w' => e = .returned (.string T) ∧ (fun u => (u.cell? ⟨w.heap.size, 0, none⟩ = some (.int .i64 x.set) ∧ u.cell? ⟨w.heap.size, 1, none⟩ = some (.int .i64 x.ix) ∧ u.cell? ⟨w.heap.size, 2, none⟩ = some (.int .u8 x.code) ∧ u.cell? ⟨w.heap.size, 3, none⟩ = some (.int .u8 x.d) ∧ u.cell? ⟨w.heap.size, 4, none⟩ = some (.int .u16 x.n) ∧ u.cell? ⟨w.heap.size, 5, none⟩ = some (.int .i64 x.len) ∧ u.cell? ⟨w.heap.size + 1, 1, none⟩ = some (.int .u8 y)) ∧ TwoAt w x a y 6 p q u) w' from fun u hu => (hT ▸ opReg x y (tgtN x pc) u hu.2.tab ok y0 y7).mono fun _ _ ⟨he, hb⟩ => ⟨he, HU.out _ (hu.2.later hb)⟩)
  have C1 := Lib.hid (show ∀ u, (fun u => (u.cell? ⟨w.heap.size, 0, none⟩ = some (.int .i64 x.set) ∧ u.cell? ⟨w.heap.size, 1, none⟩ = some (.int .i64 x.ix) ∧ u.cell? ⟨w.heap.size, 2, none⟩ = some (.int .u8 x.code) ∧ u.cell? ⟨w.heap.size, 3, none⟩ = some (.int .u8 x.d) ∧ u.cell? ⟨w.heap.size, 4, none⟩ = some (.int .u16 x.n) ∧ u.cell? ⟨w.heap.size, 5, none⟩ = some (.int .i64 x.len) ∧ u.cell? ⟨w.heap.size + 1, 1, none⟩ = some (.int .u8 y)) ∧ TwoAt w x a y 6 p q u) u → Calls Tryd.prog 59 #[.int .u16 x.n] u fun e w' => e = .returned (.string (txt (x.en (tgtN x pc)) [.n2])) ∧ (fun u => (u.cell? ⟨w.heap.size, 0, none⟩ = some (.int .i64 x.set) ∧ u.cell? ⟨w.heap.size, 1, none⟩ = some (.int .i64 x.ix) ∧ u.cell? ⟨w.heap.size, 2, none⟩ = some (.int .u8 x.code) ∧ u.cell? ⟨w.heap.size, 3, none⟩ = some (.int .u8 x.d) ∧ u.cell? ⟨w.heap.size, 4, none⟩ = some (.int .u16 x.n) ∧ u.cell? ⟨w.heap.size, 5, none⟩ = some (.int .i64 x.len) ∧ u.cell? ⟨w.heap.size + 1, 1, none⟩ = some (.int .u8 y)) ∧ TwoAt w x a y 6 p q u) w' from fun u hu => (octT x (tgtN x pc) u hu.2.tab).mono fun _ _ ⟨he, hb⟩ => ⟨he, HU.out _ (hu.2.later hb)⟩)
  have g1 : ¬ (9223372036854775807 < 3 + (T).size) := by omega
  have g2 : ¬ (9223372036854775807 < 3 + (T).size + 1) := by omega
  have g3 : ¬ (9223372036854775807 < 3 + (T).size + 1 + (txt (x.en (tgtN x pc)) [.n2]).size) := by omega
  clear h ok y0 y7 hT
  unfold In.arr at C0 C1 ⊢
  go_enter Tryd.func40, Tryd.ntmps40
  go_upto_region 1 with (fail)
  have k := K.out
  clear K
  unfold In.arr at k
  generalize (w.alloc (.cells #[.int .i64 x.set, .int .i64 x.ix, .int .u8 x.code, .int .u8 x.d, .int .u16 x.n, .int .i64 x.len] 26)).alloc (.cells #[.int .u8 a, .int .u8 y, .int .u8 6, .int .u8 p, .int .u8 q] 46) = w1 at k ⊢
  have p2 := k.p2
  have hS1 := HU.out _ k.drew
  clear k
  go_wp2_with fail
  clear p2
  go_region_held3 (fun u => (u.cell? ⟨w.heap.size, 0, none⟩ = some (.int .i64 x.set) ∧ u.cell? ⟨w.heap.size, 1, none⟩ = some (.int .i64 x.ix) ∧ u.cell? ⟨w.heap.size, 2, none⟩ = some (.int .u8 x.code) ∧ u.cell? ⟨w.heap.size, 3, none⟩ = some (.int .u8 x.d) ∧ u.cell? ⟨w.heap.size, 4, none⟩ = some (.int .u16 x.n) ∧ u.cell? ⟨w.heap.size, 5, none⟩ = some (.int .i64 x.len) ∧ u.cell? ⟨w.heap.size + 1, 1, none⟩ = some (.int .u8 y)) ∧ TwoAt w x a y 6 p q u) (assumption) ((first | (go_at_call 41; refine (C0.out _ (by assumption)).mono ?_; rintro e w' ⟨rfl, hE⟩) | (go_at_call 59; refine (C1.out _ (by assumption)).mono ?_; rintro e w' ⟨rfl, hE⟩)))
  have HB := Lib.hid hE.2.below
  clear hE hS1
  go_wp2_with fail
  go_ret
  exact ⟨by rw [← HZ.out]; rfl, HB.out⟩
set_option maxRecDepth 100000 in
set_option maxHeartbeats 1600000 in
theorem opFirst7 (x : In) (a : Int) (y : Nat) (p : Int) (q : Int) (pc : Nat) (w : World) (h : OpTab w) (y7 : y < 8) : Calls Tryd.prog 40 #[.agg x.arr, .agg #[.int .u8 a, .int .u8 (y : Int), .int .u8 7, .int .u8 p, .int .u8 q], .int .u16 pc] w fun e w' => e = .returned (.string (txt (x.en (tgtN x pc)) (lit (ofAL.getD y [])))) ∧ Below w.heap.size w w' := by
  have K := Lib.hid (two_made w x a ((y : Int)) 7 p q 26 46 h)
  have hrR : ∀ u, OpTab u → u.cell? ⟨5, y, none⟩ = some (.string (strL (ofAL.getD y []))) := fun u h => h.ofA y (by omega)
  have sR : (strL (ofAL.getD y [])).size ≤ 4 := strL_le _ _ (ofAL_le _)
  have hz : txt (x.en (tgtN x pc)) (lit (ofAL.getD y [])) = strL (ofAL.getD y []) := txt_lit _ _
  have y0 : (0 : Int) ≤ y := by omega
  have y1 : (y : Int) ≤ 7 := by omega
  have HZ := Lib.hid hz
  have HR := Lib.hid hrR
  clear hz hrR sR
  clear h y7
  unfold In.arr
  go_enter Tryd.func40, Tryd.ntmps40
  go_upto_region 1 with (fail)
  have k := K.out
  clear K
  unfold In.arr at k
  generalize (w.alloc (.cells #[.int .i64 x.set, .int .i64 x.ix, .int .u8 x.code, .int .u8 x.d, .int .u16 x.n, .int .i64 x.len] 26)).alloc (.cells #[.int .u8 a, .int .u8 (y : Int), .int .u8 7, .int .u8 p, .int .u8 q] 46) = w1 at k ⊢
  have p1 := k.p1
  have p2 := k.p2
  have c := HR.out _ k.tab
  have HB := Lib.hid k.below
  clear k
  go_wp2_with fail
  go_ret
  exact ⟨by rw [HZ.out]; rfl, HB.out⟩
theorem opFirst (x : In) (a y z p q : Int) (pc : Nat) (w : World) (h : OpTab w) (ok : x.Ok) (y0 : 0 ≤ y) (y7 : y ≤ 7) (z0 : 0 ≤ z) (z7 : z ≤ 7) (p0 : 0 ≤ p) (p3 : p ≤ 3) (q0 : 0 ≤ q) (q1 : q ≤ 1) : Calls Tryd.prog 40 #[.agg x.arr, .agg #[.int .u8 a, .int .u8 y, .int .u8 z, .int .u8 p, .int .u8 q], .int .u16 pc] w fun e w' => e = .returned (.string (txt (x.en (tgtN x pc)) (firstT (hasI x.ix) (nameL x.ix) x.code y.toNat z.toNat p.toNat q.toNat))) ∧ Below w.heap.size w w' := by
  have eq : q = 0 ∨ q = 1 := by omega
  rcases z8 z z0 z7 with rfl | rfl | rfl | rfl | rfl | rfl | rfl | rfl
  · exact opFirst0 x a y p q pc w h ok.d y0 y7
  · rcases eq with rfl | rfl
    · exact opFirst10 x a y p pc w h ok p0 p3
    · exact opFirst11 x a y p pc w h ok p0 p3
  · exact opFirst2 x a y p q pc w h ok p0 p3 q0 q1
  · rcases eq with rfl | rfl
    · exact opFirst30 x a y p pc w h ok p0 p3
    · exact opFirst31 x a y p pc w h ok p0 p3
  · exact opFirst4 x a y p q pc w h ok y0 y7
  · exact opFirst5 x a y p q pc w h ok y0 y7
  · exact opFirst6 x a y p q pc w h ok y0 y7
  · obtain ⟨Y, rfl⟩ := Int.eq_ofNat_of_zero_le y0
    exact opFirst7 x a Y p q pc w h (by omega)

end Go.Proofs.YtkjibnnoeceaeaaDoor
