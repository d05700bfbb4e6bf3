/- op.indexedText, Show: their contracts. -/
import Derived.Test.YtkjibnnoeceaeaaDoorOpShow
namespace Go.Proofs.YtkjibnnoeceaeaaDoor
open Go.RowKit

theorem turnT_le (x y : Nat) (m : List Tk) : (turnT x y m).length ≤ 6 + m.length := by
  have h1 := turnsL_le y
  have h2 := ofBitsL_le x
  unfold turnT
  split
  · rw [List.length_append, lit_len]; omega
  · rw [List.length_append, List.length_append, List.length_append, lit_len, lit_len, lit_len, List.length_cons, List.length_nil, List.length_cons, List.length_nil]; omega

set_option maxRecDepth 100000 in
set_option maxHeartbeats 1600000 in
theorem opIdxT1 (x : In) (y : Int) (z : Int) (p : Int) (q : Int) (pc : Nat) (w : World) (h : OpTab w) (ok : x.Ok) (hP : Pts x.code 1 y z p q) (a0 : (0 : Int) ≤ 1) (a3 : (1 : Int) ≤ 3) (y0 : 0 ≤ y) (y7 : y ≤ 7) : Calls Tryd.prog 23 #[.agg x.arr] w fun e w' => e = .returned (.string (txt (x.en (tgtN x pc)) (turnT 1 y.toNat [.aw]))) ∧ Below w.heap.size w w' := by
  have H := Lib.hid h
  have HC := Lib.hid (fun w => cut_is x.code 1 y z p q w ok.code hP)
  obtain ⟨T, hT⟩ : ∃ T, txt (x.en (tgtN x pc)) (turnT 1 y.toNat [.aw]) = T := ⟨_, rfl⟩
  have HZ := Lib.hid (show txt (x.en (tgtN x pc)) (turnT 1 y.toNat [.aw]) = T from hT)
  have HU := Lib.hid (show ∀ g u, TwoG w g x 1 y z p q u → (fun u => (u.cell? ⟨w.heap.size, 0, none⟩ = some (.int .i64 x.set) ∧ u.cell? ⟨w.heap.size, 1, none⟩ = some (.int .i64 x.ix) ∧ u.cell? ⟨w.heap.size, 2, none⟩ = some (.int .u8 x.code) ∧ u.cell? ⟨w.heap.size, 3, none⟩ = some (.int .u8 x.d) ∧ u.cell? ⟨w.heap.size, 4, none⟩ = some (.int .u16 x.n) ∧ u.cell? ⟨w.heap.size, 5, none⟩ = some (.int .i64 x.len) ∧ u.cell? ⟨g, 0, none⟩ = some (.int .u8 1) ∧ u.cell? ⟨g, 1, none⟩ = some (.int .u8 y) ∧ u.cell? ⟨g, 2, none⟩ = some (.int .u8 z) ∧ u.cell? ⟨g, 3, none⟩ = some (.int .u8 p) ∧ u.cell? ⟨g, 4, none⟩ = some (.int .u8 q)) ∧ TwoG w g x 1 y z p q u) u from fun g u hu => ⟨⟨hu.i0, hu.i1, hu.i2, hu.i3, hu.i4, hu.i5, hu.p0, hu.p1, hu.p2, hu.p3, hu.p4⟩, hu⟩)
  have C0 := Lib.hid (show ∀ g u, (fun u => (u.cell? ⟨w.heap.size, 0, none⟩ = some (.int .i64 x.set) ∧ u.cell? ⟨w.heap.size, 1, none⟩ = some (.int .i64 x.ix) ∧ u.cell? ⟨w.heap.size, 2, none⟩ = some (.int .u8 x.code) ∧ u.cell? ⟨w.heap.size, 3, none⟩ = some (.int .u8 x.d) ∧ u.cell? ⟨w.heap.size, 4, none⟩ = some (.int .u16 x.n) ∧ u.cell? ⟨w.heap.size, 5, none⟩ = some (.int .i64 x.len) ∧ u.cell? ⟨g, 0, none⟩ = some (.int .u8 1) ∧ u.cell? ⟨g, 1, none⟩ = some (.int .u8 y) ∧ u.cell? ⟨g, 2, none⟩ = some (.int .u8 z) ∧ u.cell? ⟨g, 3, none⟩ = some (.int .u8 p) ∧ u.cell? ⟨g, 4, none⟩ = some (.int .u8 q)) ∧ TwoG w g x 1 y z p q u) u → Calls Tryd.prog 45 #[.agg x.arr] u fun e w' => e = .returned (.string (txt (x.en (tgtN x pc)) [.aw])) ∧ (fun u => (u.cell? ⟨w.heap.size, 0, none⟩ = some (.int .i64 x.set) ∧ u.cell? ⟨w.heap.size, 1, none⟩ = some (.int .i64 x.ix) ∧ u.cell? ⟨w.heap.size, 2, none⟩ = some (.int .u8 x.code) ∧ u.cell? ⟨w.heap.size, 3, none⟩ = some (.int .u8 x.d) ∧ u.cell? ⟨w.heap.size, 4, none⟩ = some (.int .u16 x.n) ∧ u.cell? ⟨w.heap.size, 5, none⟩ = some (.int .i64 x.len) ∧ u.cell? ⟨g, 0, none⟩ = some (.int .u8 1) ∧ u.cell? ⟨g, 1, none⟩ = some (.int .u8 y) ∧ u.cell? ⟨g, 2, none⟩ = some (.int .u8 z) ∧ u.cell? ⟨g, 3, none⟩ = some (.int .u8 p) ∧ u.cell? ⟨g, 4, none⟩ = some (.int .u8 q)) ∧ TwoG w g x 1 y z p q u) w' from fun g u hu => ((txt_aw (x.en (tgtN x pc))).symm ▸ opIdx x u hu.2.tab ok.d).mono fun _ _ ⟨he, hb⟩ => ⟨he, HU.out _ _ (hu.2.later hb)⟩)
  have C1 := Lib.hid (show ∀ g u, (fun u => (u.cell? ⟨w.heap.size, 0, none⟩ = some (.int .i64 x.set) ∧ u.cell? ⟨w.heap.size, 1, none⟩ = some (.int .i64 x.ix) ∧ u.cell? ⟨w.heap.size, 2, none⟩ = some (.int .u8 x.code) ∧ u.cell? ⟨w.heap.size, 3, none⟩ = some (.int .u8 x.d) ∧ u.cell? ⟨w.heap.size, 4, none⟩ = some (.int .u16 x.n) ∧ u.cell? ⟨w.heap.size, 5, none⟩ = some (.int .i64 x.len) ∧ u.cell? ⟨g, 0, none⟩ = some (.int .u8 1) ∧ u.cell? ⟨g, 1, none⟩ = some (.int .u8 y) ∧ u.cell? ⟨g, 2, none⟩ = some (.int .u8 z) ∧ u.cell? ⟨g, 3, none⟩ = some (.int .u8 p) ∧ u.cell? ⟨g, 4, none⟩ = some (.int .u8 q)) ∧ TwoG w g x 1 y z p q u) u → Calls Tryd.prog 21 #[.agg #[.int .u8 1, .int .u8 y, .int .u8 z, .int .u8 p, .int .u8 q], .string (txt (x.en (tgtN x pc)) [.aw])] u fun e w' => e = .returned (.string T) ∧ (fun u => (u.cell? ⟨w.heap.size, 0, none⟩ = some (.int .i64 x.set) ∧ u.cell? ⟨w.heap.size, 1, none⟩ = some (.int .i64 x.ix) ∧ u.cell? ⟨w.heap.size, 2, none⟩ = some (.int .u8 x.code) ∧ u.cell? ⟨w.heap.size, 3, none⟩ = some (.int .u8 x.d) ∧ u.cell? ⟨w.heap.size, 4, none⟩ = some (.int .u16 x.n) ∧ u.cell? ⟨w.heap.size, 5, none⟩ = some (.int .i64 x.len) ∧ u.cell? ⟨g, 0, none⟩ = some (.int .u8 1) ∧ u.cell? ⟨g, 1, none⟩ = some (.int .u8 y) ∧ u.cell? ⟨g, 2, none⟩ = some (.int .u8 z) ∧ u.cell? ⟨g, 3, none⟩ = some (.int .u8 p) ∧ u.cell? ⟨g, 4, none⟩ = some (.int .u8 q)) ∧ TwoG w g x 1 y z p q u) w' from fun g u hu => (hT ▸ opTurn (x.en (tgtN x pc)) 1 y z p q [.aw] u hu.2.tab a0 a3 y0 y7 ok.d (by decide)).mono fun _ _ ⟨he, hb⟩ => ⟨he, HU.out _ _ (hu.2.later hb)⟩)
  clear h ok hP a0 a3 y0 y7 hT 
  unfold In.arr at C0 C1 ⊢
  go_enter Tryd.func23, Tryd.ntmps23
  go_wp2_with fail
  refine (HC.out _).mono ?_
  rintro e w1 ⟨rfl, hb1⟩
  have K := Lib.hid (twoG_made (x := x) 1 y z p q 46 hb1 H.out)
  clear hb1 HC H
  go_upto_region 2 with (fail)
  have k := K.out
  clear K
  generalize w1.alloc (.cells #[.int .u8 1, .int .u8 y, .int .u8 z, .int .u8 p, .int .u8 q] 46) = w2 at k ⊢
  generalize w1.heap.size = g at k ⊢
  have hS1 := HU.out _ _ k.drew
  clear k
  go_region_held3 (fun u => (u.cell? ⟨w.heap.size, 0, none⟩ = some (.int .i64 x.set) ∧ u.cell? ⟨w.heap.size, 1, none⟩ = some (.int .i64 x.ix) ∧ u.cell? ⟨w.heap.size, 2, none⟩ = some (.int .u8 x.code) ∧ u.cell? ⟨w.heap.size, 3, none⟩ = some (.int .u8 x.d) ∧ u.cell? ⟨w.heap.size, 4, none⟩ = some (.int .u16 x.n) ∧ u.cell? ⟨w.heap.size, 5, none⟩ = some (.int .i64 x.len) ∧ u.cell? ⟨g, 0, none⟩ = some (.int .u8 1) ∧ u.cell? ⟨g, 1, none⟩ = some (.int .u8 y) ∧ u.cell? ⟨g, 2, none⟩ = some (.int .u8 z) ∧ u.cell? ⟨g, 3, none⟩ = some (.int .u8 p) ∧ u.cell? ⟨g, 4, none⟩ = some (.int .u8 q)) ∧ TwoG w g x 1 y z p q u) (assumption) ((first | (go_at_call 45; refine (C0.out _ _ (by assumption)).mono ?_; rintro e w' ⟨rfl, hE⟩) | (go_at_call 21; refine (C1.out _ _ (by assumption)).mono ?_; rintro e w' ⟨rfl, hE⟩)))
  have k := hE.2
  clear hE hS1
  have p0 := k.p0
  have KK := Lib.hid k
  clear k
  go_wp2_with fail
  go_ret
  exact ⟨by rw [HZ.out]; rfl, KK.out.below⟩
set_option maxRecDepth 100000 in
set_option maxHeartbeats 1600000 in
theorem opIdxT6 (x : In) (a : Int) (y : Int) (p : Int) (q : Int) (pc : Nat) (w : World) (h : OpTab w) (ok : x.Ok) (hP : Pts x.code a y 6 p q) (hn : (a == 1) = false) (a0 : (0 : Int) ≤ a) (a3 : (a : Int) ≤ 3) (y0 : 0 ≤ y) (y7 : y ≤ 7) : Calls Tryd.prog 23 #[.agg x.arr] w fun e w' => e = .returned (.string (txt (x.en (tgtN x pc)) (turnT a.toNat y.toNat [.aw]))) ∧ Below w.heap.size w w' := by
  have H := Lib.hid h
  have HC := Lib.hid (fun w => cut_is x.code a y 6 p q w ok.code hP)
  obtain ⟨T, hT⟩ : ∃ T, txt (x.en (tgtN x pc)) (turnT a.toNat y.toNat [.aw]) = T := ⟨_, rfl⟩
  have HZ := Lib.hid hT
  have HU := Lib.hid (show ∀ g u, TwoG w g x a y 6 p q u → (fun u => (u.cell? ⟨w.heap.size, 0, none⟩ = some (.int .i64 x.set) ∧ u.cell? ⟨w.heap.size, 1, none⟩ = some (.int .i64 x.ix) ∧ u.cell? ⟨w.heap.size, 2, none⟩ = some (.int .u8 x.code) ∧ u.cell? ⟨w.heap.size, 3, none⟩ = some (.int .u8 x.d) ∧ u.cell? ⟨w.heap.size, 4, none⟩ = some (.int .u16 x.n) ∧ u.cell? ⟨w.heap.size, 5, none⟩ = some (.int .i64 x.len) ∧ u.cell? ⟨g, 0, none⟩ = some (.int .u8 a) ∧ u.cell? ⟨g, 1, none⟩ = some (.int .u8 y) ∧ u.cell? ⟨g, 2, none⟩ = some (.int .u8 6) ∧ u.cell? ⟨g, 3, none⟩ = some (.int .u8 p) ∧ u.cell? ⟨g, 4, none⟩ = some (.int .u8 q)) ∧ TwoG w g x a y 6 p q u) u from fun g u hu => ⟨⟨hu.i0, hu.i1, hu.i2, hu.i3, hu.i4, hu.i5, hu.p0, hu.p1, hu.p2, hu.p3, hu.p4⟩, hu⟩)
  have C0 := Lib.hid (show ∀ g u, (fun u => (u.cell? ⟨w.heap.size, 0, none⟩ = some (.int .i64 x.set) ∧ u.cell? ⟨w.heap.size, 1, none⟩ = some (.int .i64 x.ix) ∧ u.cell? ⟨w.heap.size, 2, none⟩ = some (.int .u8 x.code) ∧ u.cell? ⟨w.heap.size, 3, none⟩ = some (.int .u8 x.d) ∧ u.cell? ⟨w.heap.size, 4, none⟩ = some (.int .u16 x.n) ∧ u.cell? ⟨w.heap.size, 5, none⟩ = some (.int .i64 x.len) ∧ u.cell? ⟨g, 0, none⟩ = some (.int .u8 a) ∧ u.cell? ⟨g, 1, none⟩ = some (.int .u8 y) ∧ u.cell? ⟨g, 2, none⟩ = some (.int .u8 6) ∧ u.cell? ⟨g, 3, none⟩ = some (.int .u8 p) ∧ u.cell? ⟨g, 4, none⟩ = some (.int .u8 q)) ∧ TwoG w g x a y 6 p q u) u → Calls Tryd.prog 45 #[.agg x.arr] u fun e w' => e = .returned (.string (txt (x.en (tgtN x pc)) [.aw])) ∧ (fun u => (u.cell? ⟨w.heap.size, 0, none⟩ = some (.int .i64 x.set) ∧ u.cell? ⟨w.heap.size, 1, none⟩ = some (.int .i64 x.ix) ∧ u.cell? ⟨w.heap.size, 2, none⟩ = some (.int .u8 x.code) ∧ u.cell? ⟨w.heap.size, 3, none⟩ = some (.int .u8 x.d) ∧ u.cell? ⟨w.heap.size, 4, none⟩ = some (.int .u16 x.n) ∧ u.cell? ⟨w.heap.size, 5, none⟩ = some (.int .i64 x.len) ∧ u.cell? ⟨g, 0, none⟩ = some (.int .u8 a) ∧ u.cell? ⟨g, 1, none⟩ = some (.int .u8 y) ∧ u.cell? ⟨g, 2, none⟩ = some (.int .u8 6) ∧ u.cell? ⟨g, 3, none⟩ = some (.int .u8 p) ∧ u.cell? ⟨g, 4, none⟩ = some (.int .u8 q)) ∧ TwoG w g x a y 6 p q u) w' from fun g u hu => ((txt_aw (x.en (tgtN x pc))).symm ▸ opIdx x u hu.2.tab ok.d).mono fun _ _ ⟨he, hb⟩ => ⟨he, HU.out _ _ (hu.2.later hb)⟩)
  have C1 := Lib.hid (show ∀ g u, (fun u => (u.cell? ⟨w.heap.size, 0, none⟩ = some (.int .i64 x.set) ∧ u.cell? ⟨w.heap.size, 1, none⟩ = some (.int .i64 x.ix) ∧ u.cell? ⟨w.heap.size, 2, none⟩ = some (.int .u8 x.code) ∧ u.cell? ⟨w.heap.size, 3, none⟩ = some (.int .u8 x.d) ∧ u.cell? ⟨w.heap.size, 4, none⟩ = some (.int .u16 x.n) ∧ u.cell? ⟨w.heap.size, 5, none⟩ = some (.int .i64 x.len) ∧ u.cell? ⟨g, 0, none⟩ = some (.int .u8 a) ∧ u.cell? ⟨g, 1, none⟩ = some (.int .u8 y) ∧ u.cell? ⟨g, 2, none⟩ = some (.int .u8 6) ∧ u.cell? ⟨g, 3, none⟩ = some (.int .u8 p) ∧ u.cell? ⟨g, 4, none⟩ = some (.int .u8 q)) ∧ TwoG w g x a y 6 p q u) u → Calls Tryd.prog 21 #[.agg #[.int .u8 a, .int .u8 y, .int .u8 6, .int .u8 p, .int .u8 q], .string (txt (x.en (tgtN x pc)) [.aw])] u fun e w' => e = .returned (.string T) ∧ (fun u => (u.cell? ⟨w.heap.size, 0, none⟩ = some (.int .i64 x.set) ∧ u.cell? ⟨w.heap.size, 1, none⟩ = some (.int .i64 x.ix) ∧ u.cell? ⟨w.heap.size, 2, none⟩ = some (.int .u8 x.code) ∧ u.cell? ⟨w.heap.size, 3, none⟩ = some (.int .u8 x.d) ∧ u.cell? ⟨w.heap.size, 4, none⟩ = some (.int .u16 x.n) ∧ u.cell? ⟨w.heap.size, 5, none⟩ = some (.int .i64 x.len) ∧ u.cell? ⟨g, 0, none⟩ = some (.int .u8 a) ∧ u.cell? ⟨g, 1, none⟩ = some (.int .u8 y) ∧ u.cell? ⟨g, 2, none⟩ = some (.int .u8 6) ∧ u.cell? ⟨g, 3, none⟩ = some (.int .u8 p) ∧ u.cell? ⟨g, 4, none⟩ = some (.int .u8 q)) ∧ TwoG w g x a y 6 p q u) w' from fun g u hu => (hT ▸ opTurn (x.en (tgtN x pc)) a y 6 p q [.aw] u hu.2.tab a0 a3 y0 y7 ok.d (by decide)).mono fun _ _ ⟨he, hb⟩ => ⟨he, HU.out _ _ (hu.2.later hb)⟩)
  clear h ok hP a0 a3 y0 y7 hT 
  unfold In.arr at C0 C1 ⊢
  go_enter Tryd.func23, Tryd.ntmps23
  go_wp2_with fail
  refine (HC.out _).mono ?_
  rintro e w1 ⟨rfl, hb1⟩
  have K := Lib.hid (twoG_made (x := x) a y 6 p q 46 hb1 H.out)
  clear hb1 HC H
  go_upto_region 2 with (fail)
  have k := K.out
  clear K
  generalize w1.alloc (.cells #[.int .u8 a, .int .u8 y, .int .u8 6, .int .u8 p, .int .u8 q] 46) = w2 at k ⊢
  generalize w1.heap.size = g at k ⊢
  have hS1 := HU.out _ _ k.drew
  clear k
  go_region_held3 (fun u => (u.cell? ⟨w.heap.size, 0, none⟩ = some (.int .i64 x.set) ∧ u.cell? ⟨w.heap.size, 1, none⟩ = some (.int .i64 x.ix) ∧ u.cell? ⟨w.heap.size, 2, none⟩ = some (.int .u8 x.code) ∧ u.cell? ⟨w.heap.size, 3, none⟩ = some (.int .u8 x.d) ∧ u.cell? ⟨w.heap.size, 4, none⟩ = some (.int .u16 x.n) ∧ u.cell? ⟨w.heap.size, 5, none⟩ = some (.int .i64 x.len) ∧ u.cell? ⟨g, 0, none⟩ = some (.int .u8 a) ∧ u.cell? ⟨g, 1, none⟩ = some (.int .u8 y) ∧ u.cell? ⟨g, 2, none⟩ = some (.int .u8 6) ∧ u.cell? ⟨g, 3, none⟩ = some (.int .u8 p) ∧ u.cell? ⟨g, 4, none⟩ = some (.int .u8 q)) ∧ TwoG w g x a y 6 p q u) (assumption) ((first | (go_at_call 45; refine (C0.out _ _ (by assumption)).mono ?_; rintro e w' ⟨rfl, hE⟩) | (go_at_call 21; refine (C1.out _ _ (by assumption)).mono ?_; rintro e w' ⟨rfl, hE⟩)))
  have k := hE.2
  clear hE hS1
  have p0 := k.p0
  have p2 := k.p2
  have KK := Lib.hid k
  clear k
  go_wp2_with fail
  go_ret
  exact ⟨by rw [HZ.out]; rfl, KK.out.below⟩
set_option maxRecDepth 100000 in
set_option maxHeartbeats 1600000 in
theorem opIdxTz (x : In) (a : Int) (y : Int) (z : Nat) (p : Int) (q : Int) (pc : Nat) (w : World) (h : OpTab w) (ok : x.Ok) (hP : Pts x.code a y (z : Int) p q) (hn : (a == 1) = false) (hm : ((z : Int) == 6) = false) (z8 : z < 8) (a0 : (0 : Int) ≤ a) (a3 : (a : Int) ≤ 3) (y0 : 0 ≤ y) (y7 : y ≤ 7) : Calls Tryd.prog 23 #[.agg x.arr] w fun e w' => e = .returned (.string (txt (x.en (tgtN x pc)) (turnT a.toNat y.toNat [.aw] ++ lit [44] ++ lit (regsL.getD z [])))) ∧ Below w.heap.size w w' := by
  have H := Lib.hid h
  have HC := Lib.hid (fun w => cut_is x.code a y (z : Int) p q w ok.code hP)
  obtain ⟨T, hT⟩ : ∃ T, txt (x.en (tgtN x pc)) (turnT a.toNat y.toNat [.aw]) = T := ⟨_, rfl⟩
  have hr : ∀ u, OpTab u → u.cell? ⟨0, z, none⟩ = some (.string (strL (regsL.getD z []))) := fun u h => h.regs z z8
  have s1 : (strL (regsL.getD z [])).size ≤ 4 := strL_le _ _ (regsL_le _)
  have hz : txt (x.en (tgtN x pc)) (turnT a.toNat y.toNat [.aw] ++ lit [44] ++ lit (regsL.getD z [])) = txt (x.en (tgtN x pc)) (turnT a.toNat y.toNat [.aw]) ++ ⟨#[44]⟩ ++ strL (regsL.getD z []) := by rw [txt_arr (x.en (tgtN x pc)) #[44], ← txt_lit (x.en (tgtN x pc)) (regsL.getD z []), txt_app, txt_app]
  have s2 : T.size ≤ 200 := by rw [← hT]; exact txt_le _ _ 200 ok.d (by have := turnT_le a.toNat y.toNat [.aw]; simp at this; omega)
  generalize regsL.getD z [] = R at hr s1 hz ⊢
  rw [hT] at hz
  have HZ := Lib.hid hz
  have HR := Lib.hid hr
  have zz0 : (0 : Int) ≤ z := by omega
  have zz1 : (z : Int) < 8 := by omega
  have HU := Lib.hid (show ∀ g u, TwoG w g x a y (z : Int) p q u → (fun u => (u.cell? ⟨w.heap.size, 0, none⟩ = some (.int .i64 x.set) ∧ u.cell? ⟨w.heap.size, 1, none⟩ = some (.int .i64 x.ix) ∧ u.cell? ⟨w.heap.size, 2, none⟩ = some (.int .u8 x.code) ∧ u.cell? ⟨w.heap.size, 3, none⟩ = some (.int .u8 x.d) ∧ u.cell? ⟨w.heap.size, 4, none⟩ = some (.int .u16 x.n) ∧ u.cell? ⟨w.heap.size, 5, none⟩ = some (.int .i64 x.len) ∧ u.cell? ⟨g, 0, none⟩ = some (.int .u8 a) ∧ u.cell? ⟨g, 1, none⟩ = some (.int .u8 y) ∧ u.cell? ⟨g, 2, none⟩ = some (.int .u8 (z : Int)) ∧ u.cell? ⟨g, 3, none⟩ = some (.int .u8 p) ∧ u.cell? ⟨g, 4, none⟩ = some (.int .u8 q)) ∧ TwoG w g x a y (z : Int) p q u) u from fun g u hu => ⟨⟨hu.i0, hu.i1, hu.i2, hu.i3, hu.i4, hu.i5, hu.p0, hu.p1, hu.p2, hu.p3, hu.p4⟩, hu⟩)
  have C0 := Lib.hid (show ∀ g u, (fun u => (u.cell? ⟨w.heap.size, 0, none⟩ = some (.int .i64 x.set) ∧ u.cell? ⟨w.heap.size, 1, none⟩ = some (.int .i64 x.ix) ∧ u.cell? ⟨w.heap.size, 2, none⟩ = some (.int .u8 x.code) ∧ u.cell? ⟨w.heap.size, 3, none⟩ = some (.int .u8 x.d) ∧ u.cell? ⟨w.heap.size, 4, none⟩ = some (.int .u16 x.n) ∧ u.cell? ⟨w.heap.size, 5, none⟩ = some (.int .i64 x.len) ∧ u.cell? ⟨g, 0, none⟩ = some (.int .u8 a) ∧ u.cell? ⟨g, 1, none⟩ = some (.int .u8 y) ∧ u.cell? ⟨g, 2, none⟩ = some (.int .u8 (z : Int)) ∧ u.cell? ⟨g, 3, none⟩ = some (.int .u8 p) ∧ u.cell? ⟨g, 4, none⟩ = some (.int .u8 q)) ∧ TwoG w g x a y (z : Int) p q u) u → Calls Tryd.prog 45 #[.agg x.arr] u fun e w' => e = .returned (.string (txt (x.en (tgtN x pc)) [.aw])) ∧ (fun u => (u.cell? ⟨w.heap.size, 0, none⟩ = some (.int .i64 x.set) ∧ u.cell? ⟨w.heap.size, 1, none⟩ = some (.int .i64 x.ix) ∧ u.cell? ⟨w.heap.size, 2, none⟩ = some (.int .u8 x.code) ∧ u.cell? ⟨w.heap.size, 3, none⟩ = some (.int .u8 x.d) ∧ u.cell? ⟨w.heap.size, 4, none⟩ = some (.int .u16 x.n) ∧ u.cell? ⟨w.heap.size, 5, none⟩ = some (.int .i64 x.len) ∧ u.cell? ⟨g, 0, none⟩ = some (.int .u8 a) ∧ u.cell? ⟨g, 1, none⟩ = some (.int .u8 y) ∧ u.cell? ⟨g, 2, none⟩ = some (.int .u8 (z : Int)) ∧ u.cell? ⟨g, 3, none⟩ = some (.int .u8 p) ∧ u.cell? ⟨g, 4, none⟩ = some (.int .u8 q)) ∧ TwoG w g x a y (z : Int) p q u) w' from fun g u hu => ((txt_aw (x.en (tgtN x pc))).symm ▸ opIdx x u hu.2.tab ok.d).mono fun _ _ ⟨he, hb⟩ => ⟨he, HU.out _ _ (hu.2.later hb)⟩)
  have C1 := Lib.hid (show ∀ g u, (fun u => (u.cell? ⟨w.heap.size, 0, none⟩ = some (.int .i64 x.set) ∧ u.cell? ⟨w.heap.size, 1, none⟩ = some (.int .i64 x.ix) ∧ u.cell? ⟨w.heap.size, 2, none⟩ = some (.int .u8 x.code) ∧ u.cell? ⟨w.heap.size, 3, none⟩ = some (.int .u8 x.d) ∧ u.cell? ⟨w.heap.size, 4, none⟩ = some (.int .u16 x.n) ∧ u.cell? ⟨w.heap.size, 5, none⟩ = some (.int .i64 x.len) ∧ u.cell? ⟨g, 0, none⟩ = some (.int .u8 a) ∧ u.cell? ⟨g, 1, none⟩ = some (.int .u8 y) ∧ u.cell? ⟨g, 2, none⟩ = some (.int .u8 (z : Int)) ∧ u.cell? ⟨g, 3, none⟩ = some (.int .u8 p) ∧ u.cell? ⟨g, 4, none⟩ = some (.int .u8 q)) ∧ TwoG w g x a y (z : Int) p q u) u → Calls Tryd.prog 21 #[.agg #[.int .u8 a, .int .u8 y, .int .u8 (z : Int), .int .u8 p, .int .u8 q], .string (txt (x.en (tgtN x pc)) [.aw])] u fun e w' => e = .returned (.string T) ∧ (fun u => (u.cell? ⟨w.heap.size, 0, none⟩ = some (.int .i64 x.set) ∧ u.cell? ⟨w.heap.size, 1, none⟩ = some (.int .i64 x.ix) ∧ u.cell? ⟨w.heap.size, 2, none⟩ = some (.int .u8 x.code) ∧ u.cell? ⟨w.heap.size, 3, none⟩ = some (.int .u8 x.d) ∧ u.cell? ⟨w.heap.size, 4, none⟩ = some (.int .u16 x.n) ∧ u.cell? ⟨w.heap.size, 5, none⟩ = some (.int .i64 x.len) ∧ u.cell? ⟨g, 0, none⟩ = some (.int .u8 a) ∧ u.cell? ⟨g, 1, none⟩ = some (.int .u8 y) ∧ u.cell? ⟨g, 2, none⟩ = some (.int .u8 (z : Int)) ∧ u.cell? ⟨g, 3, none⟩ = some (.int .u8 p) ∧ u.cell? ⟨g, 4, none⟩ = some (.int .u8 q)) ∧ TwoG w g x a y (z : Int) p q u) w' from fun g u hu => (hT ▸ opTurn (x.en (tgtN x pc)) a y (z : Int) p q [.aw] u hu.2.tab a0 a3 y0 y7 ok.d (by decide)).mono fun _ _ ⟨he, hb⟩ => ⟨he, HU.out _ _ (hu.2.later hb)⟩)
  clear h ok hP a0 a3 y0 y7 hT hz hr z8
  unfold In.arr at C0 C1 ⊢
  go_enter Tryd.func23, Tryd.ntmps23
  go_wp2_with fail
  refine (HC.out _).mono ?_
  rintro e w1 ⟨rfl, hb1⟩
  have K := Lib.hid (twoG_made (x := x) a y (z : Int) p q 46 hb1 H.out)
  clear hb1 HC H
  go_upto_region 2 with (fail)
  have k := K.out
  clear K
  generalize w1.alloc (.cells #[.int .u8 a, .int .u8 y, .int .u8 (z : Int), .int .u8 p, .int .u8 q] 46) = w2 at k ⊢
  generalize w1.heap.size = g at k ⊢
  have hS1 := HU.out _ _ k.drew
  clear k
  go_region_held3 (fun u => (u.cell? ⟨w.heap.size, 0, none⟩ = some (.int .i64 x.set) ∧ u.cell? ⟨w.heap.size, 1, none⟩ = some (.int .i64 x.ix) ∧ u.cell? ⟨w.heap.size, 2, none⟩ = some (.int .u8 x.code) ∧ u.cell? ⟨w.heap.size, 3, none⟩ = some (.int .u8 x.d) ∧ u.cell? ⟨w.heap.size, 4, none⟩ = some (.int .u16 x.n) ∧ u.cell? ⟨w.heap.size, 5, none⟩ = some (.int .i64 x.len) ∧ u.cell? ⟨g, 0, none⟩ = some (.int .u8 a) ∧ u.cell? ⟨g, 1, none⟩ = some (.int .u8 y) ∧ u.cell? ⟨g, 2, none⟩ = some (.int .u8 (z : Int)) ∧ u.cell? ⟨g, 3, none⟩ = some (.int .u8 p) ∧ u.cell? ⟨g, 4, none⟩ = some (.int .u8 q)) ∧ TwoG w g x a y (z : Int) p q u) (assumption) ((first | (go_at_call 45; refine (C0.out _ _ (by assumption)).mono ?_; rintro e w' ⟨rfl, hE⟩) | (go_at_call 21; refine (C1.out _ _ (by assumption)).mono ?_; rintro e w' ⟨rfl, hE⟩)))
  have k := hE.2
  clear hE hS1
  have p0 := k.p0
  have p2 := k.p2
  have KK := Lib.hid k
  clear k
  have c := HR.out _ KK.out.tab
  go_wp2_with fail
  go_ret
  exact ⟨by rw [HZ.out]; rfl, KK.out.below⟩
theorem opIdxT (x : In) (pc : Nat) (w : World) (h : OpTab w) (ok : x.Ok) : Calls Tryd.prog 23 #[.agg x.arr] w fun e w' => e = .returned (.string (txt (x.en (tgtN x pc)) (idxT x.code))) ∧ Below w.heap.size w w' := by
  obtain ⟨a, y, z, p, q, hP⟩ := pts x.code
  obtain ⟨⟨a0, a3⟩, ⟨y0, y7⟩, ⟨z0, z7⟩, ⟨p0, p3⟩, ⟨q0, q1⟩, _⟩ := hP.bd ok.code
  obtain ⟨na, ny, nz, np, nq⟩ := hP.nat
  unfold idxT
  rw [← na, ← ny, ← nz]
  by_cases h1 : a = 1
  · subst h1
    rw [if_pos (Or.inl (by decide))]
    exact opIdxT1 x y z p q pc w h ok hP a0 a3 y0 y7
  by_cases h6 : z = 6
  · subst h6
    rw [if_pos (Or.inr (by decide))]
    exact opIdxT6 x a y p q pc w h ok hP (by simpa using h1) a0 a3 y0 y7
  · rw [if_neg (by omega)]
    obtain ⟨Z, rfl⟩ := Int.eq_ofNat_of_zero_le z0
    exact opIdxTz x a y Z p q pc w h ok hP (by simpa using h1) (by simp; omega) (by omega) a0 a3 y0 y7

set_option maxRecDepth 100000 in
set_option maxHeartbeats 1600000 in
theorem opShow0 (x : In) (pc : Nat) (w : World) (h : OpTab w) (ok : x.Ok) (hs : x.set = 0) : Calls Tryd.prog 12 #[.agg x.arr, .int .u16 pc] w fun e w' => e = .returned (.string (txt (x.en (tgtN x pc)) (plainT (hasI x.ix) (nameL x.ix) x.code))) ∧ Below w.heap.size w w' := by
  have e0 : (x.set == 0) = true := by rw [hs]; rfl
  have H := Lib.hid h
  have HC := Lib.hid (fun (u : World) (hu : OpTab u) => opPlain x pc u hu ok)

  clear h hs ok
  unfold In.arr at HC ⊢
  go_enter Tryd.func12, Tryd.ntmps12
  go_wp2_with fail
  refine (HC.out _ (H.out.alloc _)).mono ?_
  rintro e w1 ⟨rfl, hb1⟩
  go_wp2_with fail
  go_ret
  exact ⟨rfl, below_step (balloc w _) hb1⟩
set_option maxRecDepth 100000 in
set_option maxHeartbeats 1600000 in
theorem opShow2 (x : In) (pc : Nat) (w : World) (h : OpTab w) (ok : x.Ok) (hs : x.set = 2) : Calls Tryd.prog 12 #[.agg x.arr, .int .u16 pc] w fun e w' => e = .returned (.string (txt (x.en (tgtN x pc)) (moreT x.code))) ∧ Below w.heap.size w w' := by
  have e0 : (x.set == 0) = false := by rw [hs]; rfl
  have e1 : (x.set == 1) = false := by rw [hs]; rfl
  have e2 : (x.set == 2) = true := by rw [hs]; rfl
  have H := Lib.hid h
  have HC := Lib.hid (fun (u : World) (hu : OpTab u) => opMore x pc u hu ok)

  clear h hs ok
  unfold In.arr at HC ⊢
  go_enter Tryd.func12, Tryd.ntmps12
  go_wp2_with fail
  refine (HC.out _ (H.out.alloc _)).mono ?_
  rintro e w1 ⟨rfl, hb1⟩
  go_wp2_with fail
  go_ret
  exact ⟨rfl, below_step (balloc w _) hb1⟩
set_option maxRecDepth 100000 in
set_option maxHeartbeats 1600000 in
theorem opShow3 (x : In) (pc : Nat) (w : World) (h : OpTab w) (ok : x.Ok) (hs : x.set = 3) : Calls Tryd.prog 12 #[.agg x.arr, .int .u16 pc] w fun e w' => e = .returned (.string (txt (x.en (tgtN x pc)) (idxT x.code))) ∧ Below w.heap.size w w' := by
  have e0 : (x.set == 0) = false := by rw [hs]; rfl
  have e1 : (x.set == 1) = false := by rw [hs]; rfl
  have e2 : (x.set == 2) = false := by rw [hs]; rfl
  have e3 : (x.set == 3) = true := by rw [hs]; rfl
  have H := Lib.hid h
  have HC := Lib.hid (fun (u : World) (hu : OpTab u) => opIdxT x pc u hu ok)

  clear h hs ok
  unfold In.arr at HC ⊢
  go_enter Tryd.func12, Tryd.ntmps12
  go_wp2_with fail
  refine (HC.out _ (H.out.alloc _)).mono ?_
  rintro e w1 ⟨rfl, hb1⟩
  go_wp2_with fail
  go_ret
  exact ⟨rfl, below_step (balloc w _) hb1⟩
set_option maxRecDepth 100000 in
set_option maxHeartbeats 1600000 in
theorem opShow4 (x : In) (pc : Nat) (w : World) (h : OpTab w) (hs : x.set = 4) : Calls Tryd.prog 12 #[.agg x.arr, .int .u16 pc] w fun e w' => e = .returned (.string (txt (x.en (tgtN x pc)) (lit [112, 114, 101, 102, 105, 120, 32] ++ lit (nameL x.ix)))) ∧ Below w.heap.size w w' := by
  have e0 : (x.set == 0) = false := by rw [hs]; rfl
  have e1 : (x.set == 1) = false := by rw [hs]; rfl
  have e2 : (x.set == 2) = false := by rw [hs]; rfl
  have e3 : (x.set == 3) = false := by rw [hs]; rfl
  have e4 : (x.set == 4) = true := by rw [hs]; rfl
  have H := Lib.hid h
  have HC := Lib.hid (fun (u : World) (hu : OpTab u) => opName x.ix u)
  have n2 : (strL (nameL x.ix)).size ≤ 2 := strL_le _ _ (Nat.le_of_eq (nameL_len _))
  have HZ := Lib.hid (show (⟨#[112, 114, 101, 102, 105, 120, 32]⟩ : ByteArray) ++ strL (nameL x.ix) = txt (x.en (tgtN x pc)) (lit [112, 114, 101, 102, 105, 120, 32] ++ lit (nameL x.ix)) by rw [txt_arr (x.en (tgtN x pc)) #[112, 114, 101, 102, 105, 120, 32], ← txt_lit (x.en (tgtN x pc)) (nameL x.ix), txt_app])
  clear h hs
  unfold In.arr
  go_enter Tryd.func12, Tryd.ntmps12
  go_wp2_with fail
  refine (HC.out _ (H.out.alloc _)).mono ?_
  rintro e w' ⟨rfl, rfl⟩
  go_wp2_with fail
  go_ret
  exact ⟨by rw [← HZ.out]; rfl, balloc w _⟩
set_option maxRecDepth 100000 in
set_option maxHeartbeats 1600000 in
theorem opShowE (x : In) (pc : Nat) (w : World) (h0 : (x.set == 0) = false) (h1 : (x.set == 1) = false) (h2 : (x.set == 2) = false) (h3 : (x.set == 3) = false) (h4 : (x.set == 4) = false) : Calls Tryd.prog 12 #[.agg x.arr, .int .u16 pc] w fun e w' => e = .returned (.string ⟨#[]⟩) ∧ Below w.heap.size w w' := by
  unfold In.arr
  go_enter Tryd.func12, Tryd.ntmps12
  go_wp2_with fail
  go_ret
  exact ⟨rfl, balloc w _⟩
set_option maxRecDepth 100000 in
set_option maxHeartbeats 1600000 in
theorem opShow1 (x : In) (a : Int) (y : Int) (z : Nat) (p : Int) (q : Int) (pc : Nat) (w : World) (h : OpTab w) (ok : x.Ok) (hP : Pts x.code a y (z : Int) p q) (hs : x.set = 1) (a0 : 0 ≤ a) (a3 : a ≤ 3) (y0 : 0 ≤ y) (y7 : y ≤ 7) (z8 : z < 8) : Calls Tryd.prog 12 #[.agg x.arr, .int .u16 pc] w fun e w' => e = .returned (.string (txt (x.en (tgtN x pc)) (turnT a.toNat y.toNat (lit (regsL.getD z []))))) ∧ Below w.heap.size w w' := by
  have H := Lib.hid h
  have HC := Lib.hid (fun w => cut_is x.code a y (z : Int) p q w ok.code hP)
  have e0 : (x.set == 0) = false := by rw [hs]; rfl
  have e1 : (x.set == 1) = true := by rw [hs]; rfl
  have hr : ∀ u, OpTab u → u.cell? ⟨0, z, none⟩ = some (.string (strL (regsL.getD z []))) := fun u h => h.regs z z8
  have s1 : (regsL.getD z []).length ≤ 4 := regsL_le _
  generalize regsL.getD z [] = R at hr s1 ⊢
  have zz0 : (0 : Int) ≤ z := by omega
  have zz1 : (z : Int) < 8 := by omega
  obtain ⟨T, hT⟩ : ∃ T, txt (x.en (tgtN x pc)) (turnT a.toNat y.toNat (lit R)) = T := ⟨_, rfl⟩
  have HZ := Lib.hid hT
  have HU := Lib.hid (show ∀ g u, TwoG w g x a y (z : Int) p q u → (fun u => (u.cell? ⟨g, 0, none⟩ = some (.int .u8 a) ∧ u.cell? ⟨g, 1, none⟩ = some (.int .u8 y) ∧ u.cell? ⟨g, 2, none⟩ = some (.int .u8 (z : Int)) ∧ u.cell? ⟨g, 3, none⟩ = some (.int .u8 p) ∧ u.cell? ⟨g, 4, none⟩ = some (.int .u8 q) ∧ u.cell? ⟨0, z, none⟩ = some (.string (strL R))) ∧ TwoG w g x a y (z : Int) p q u) u from fun g u hu => ⟨⟨hu.p0, hu.p1, hu.p2, hu.p3, hu.p4, hr u hu.tab⟩, hu⟩)
  have C0 := Lib.hid (show ∀ g u, (fun u => (u.cell? ⟨g, 0, none⟩ = some (.int .u8 a) ∧ u.cell? ⟨g, 1, none⟩ = some (.int .u8 y) ∧ u.cell? ⟨g, 2, none⟩ = some (.int .u8 (z : Int)) ∧ u.cell? ⟨g, 3, none⟩ = some (.int .u8 p) ∧ u.cell? ⟨g, 4, none⟩ = some (.int .u8 q) ∧ u.cell? ⟨0, z, none⟩ = some (.string (strL R))) ∧ TwoG w g x a y (z : Int) p q u) u → Calls Tryd.prog 21 #[.agg #[.int .u8 a, .int .u8 y, .int .u8 (z : Int), .int .u8 p, .int .u8 q], .string (strL R)] u fun e w' => e = .returned (.string T) ∧ (fun u => (u.cell? ⟨g, 0, none⟩ = some (.int .u8 a) ∧ u.cell? ⟨g, 1, none⟩ = some (.int .u8 y) ∧ u.cell? ⟨g, 2, none⟩ = some (.int .u8 (z : Int)) ∧ u.cell? ⟨g, 3, none⟩ = some (.int .u8 p) ∧ u.cell? ⟨g, 4, none⟩ = some (.int .u8 q) ∧ u.cell? ⟨0, z, none⟩ = some (.string (strL R))) ∧ TwoG w g x a y (z : Int) p q u) w' from fun g u hu => (hT ▸ txt_lit (x.en (tgtN x pc)) R ▸ opTurn (x.en (tgtN x pc)) a y z p q (lit R) u hu.2.tab a0 a3 y0 y7 ok.d (by rw [lit_len]; omega)).mono fun _ _ ⟨he, hb⟩ => ⟨he, HU.out _ _ (hu.2.later hb)⟩)
  clear h ok hP hs a0 a3 y0 y7 z8 hT hr s1
  unfold In.arr
  go_enter Tryd.func12, Tryd.ntmps12
  go_wp2_with fail
  refine (HC.out _).mono ?_
  rintro e w1 ⟨rfl, hb1⟩
  have K := Lib.hid (twoG_made (x := x) a y (z : Int) p q 46 hb1 H.out)
  clear hb1 HC H
  go_upto_region 6 with (fail)
  have k := K.out
  clear K
  generalize w1.alloc (.cells #[.int .u8 a, .int .u8 y, .int .u8 (z : Int), .int .u8 p, .int .u8 q] 46) = w2 at k ⊢
  generalize w1.heap.size = g at k ⊢
  have hS1 := HU.out _ _ k.drew
  clear k
  go_region_held3 (fun u => (u.cell? ⟨g, 0, none⟩ = some (.int .u8 a) ∧ u.cell? ⟨g, 1, none⟩ = some (.int .u8 y) ∧ u.cell? ⟨g, 2, none⟩ = some (.int .u8 (z : Int)) ∧ u.cell? ⟨g, 3, none⟩ = some (.int .u8 p) ∧ u.cell? ⟨g, 4, none⟩ = some (.int .u8 q) ∧ u.cell? ⟨0, z, none⟩ = some (.string (strL R))) ∧ TwoG w g x a y (z : Int) p q u) (assumption) (((go_at_call 21; refine (C0.out _ _ (by assumption)).mono ?_; rintro e w' ⟨rfl, hE⟩)))
  have HB := Lib.hid hE.2.below
  clear hE hS1
  go_wp2_with fail
  go_ret
  exact ⟨by rw [HZ.out]; rfl, HB.out⟩
/-- What Show answers: the text of the pieces. -/
theorem opShow (x : In) (pc : Nat) (w : World) (h : OpTab w) (ok : x.Ok) : Calls Tryd.prog 12 #[.agg x.arr, .int .u16 pc] w fun e w' => e = .returned (.string (txt (x.en (tgtN x pc)) (showT x.set (hasI x.ix) (nameL x.ix) x.code))) ∧ Below w.heap.size w w' := by
  unfold showT
  by_cases h0 : x.set = 0
  · rw [if_pos h0]; exact opShow0 x pc w h ok h0
  rw [if_neg h0]
  by_cases h1 : x.set = 1
  · rw [if_pos h1]
    obtain ⟨a, y, z, p, q, hP⟩ := pts x.code
    obtain ⟨⟨a0, a3⟩, ⟨y0, y7⟩, ⟨z0, z7⟩, ⟨p0, p3⟩, ⟨q0, q1⟩, _⟩ := hP.bd ok.code
    obtain ⟨na, ny, nz, np, nq⟩ := hP.nat
    rw [← na, ← ny, ← nz]
    obtain ⟨Z, rfl⟩ := Int.eq_ofNat_of_zero_le z0
    exact opShow1 x a y Z p q pc w h ok hP h1 a0 a3 y0 y7 (by omega)
  rw [if_neg h1]
  by_cases h2 : x.set = 2
  · rw [if_pos h2]; exact opShow2 x pc w h ok h2
  rw [if_neg h2]
  by_cases h3 : x.set = 3
  · rw [if_pos h3]; exact opShow3 x pc w h ok h3
  rw [if_neg h3]
  by_cases h4 : x.set = 4
  · rw [if_pos h4]; exact opShow4 x pc w h h4
  rw [if_neg h4]
  exact opShowE x pc w (by simpa using h0) (by simpa using h1) (by simpa using h2) (by simpa using h3) (by simpa using h4)

end Go.Proofs.YtkjibnnoeceaeaaDoor
