/- op.plainText, moreText, indexedText, Show: their contracts. -/
import Derived.Test.YtkjibnnoeceaeaaDoorOpMid
namespace Go.Proofs.YtkjibnnoeceaeaaDoor
open Go.RowKit

/-- An instruction in a box of the call's own, and a code's parts in block g. -/
structure TwoG (w : World) (g : Nat) (x : In) (a b c d e : Int) (u : World) : Prop where
  i0 : u.cell? ⟨w.heap.size, 0, none⟩ = some (.int .i64 x.set)
  i1 : u.cell? ⟨w.heap.size, 1, none⟩ = some (.int .i64 x.ix)
  i2 : u.cell? ⟨w.heap.size, 2, none⟩ = some (.int .u8 x.code)
  i3 : u.cell? ⟨w.heap.size, 3, none⟩ = some (.int .u8 x.d)
  i4 : u.cell? ⟨w.heap.size, 4, none⟩ = some (.int .u16 x.n)
  i5 : u.cell? ⟨w.heap.size, 5, none⟩ = some (.int .i64 x.len)
  p0 : u.cell? ⟨g, 0, none⟩ = some (.int .u8 a)
  p1 : u.cell? ⟨g, 1, none⟩ = some (.int .u8 b)
  p2 : u.cell? ⟨g, 2, none⟩ = some (.int .u8 c)
  p3 : u.cell? ⟨g, 3, none⟩ = some (.int .u8 d)
  p4 : u.cell? ⟨g, 4, none⟩ = some (.int .u8 e)
  li : w.heap.size < u.heap.size
  lt : g < u.heap.size
  tab : OpTab u
  below : Below w.heap.size w u
theorem TwoG.later {w : World} {g : Nat} {x : In} {a b c d e : Int} {u u' : World} (h : TwoG w g x a b c d e u) (hb : Below u.heap.size u u') : TwoG w g x a b c d e u' where
  i0 := (hb.cell (p := ⟨w.heap.size, 0, none⟩) h.li).trans h.i0
  i1 := (hb.cell (p := ⟨w.heap.size, 1, none⟩) h.li).trans h.i1
  i2 := (hb.cell (p := ⟨w.heap.size, 2, none⟩) h.li).trans h.i2
  i3 := (hb.cell (p := ⟨w.heap.size, 3, none⟩) h.li).trans h.i3
  i4 := (hb.cell (p := ⟨w.heap.size, 4, none⟩) h.li).trans h.i4
  i5 := (hb.cell (p := ⟨w.heap.size, 5, none⟩) h.li).trans h.i5
  p0 := (hb.cell (p := ⟨g, 0, none⟩) h.lt).trans h.p0
  p1 := (hb.cell (p := ⟨g, 1, none⟩) h.lt).trans h.p1
  p2 := (hb.cell (p := ⟨g, 2, none⟩) h.lt).trans h.p2
  p3 := (hb.cell (p := ⟨g, 3, none⟩) h.lt).trans h.p3
  p4 := (hb.cell (p := ⟨g, 4, none⟩) h.lt).trans h.p4
  li := Nat.lt_of_lt_of_le h.li hb.size
  lt := Nat.lt_of_lt_of_le h.lt hb.size
  tab := h.tab.below hb
  below := below_step h.below hb
theorem TwoG.drew {w : World} {g : Nat} {x : In} {a b c d e : Int} {u : World} (h : TwoG w g x a b c d e u) : TwoG w g x a b c d e u.drew := h.later (Below.refl _ _).drew
theorem twoG_made {w w1 : World} {x : In} {t : TypeId} (a b c d e : Int) (t' : TypeId) (hb : Below (w.alloc (.cells x.arr t)).heap.size (w.alloc (.cells x.arr t)) w1) (h : OpTab w) : TwoG w w1.heap.size x a b c d e (w1.alloc (.cells #[.int .u8 a, .int .u8 b, .int .u8 c, .int .u8 d, .int .u8 e] t')) := by
  have hb2 := below_step hb (balloc w1 (.cells #[.int .u8 a, .int .u8 b, .int .u8 c, .int .u8 d, .int .u8 e] t'))
  have key : ∀ j v, x.arr[j]? = some v → (w1.alloc (.cells #[.int .u8 a, .int .u8 b, .int .u8 c, .int .u8 d, .int .u8 e] t')).cell? ⟨w.heap.size, j, none⟩ = some v := fun j v hv => box_at hb2 j v hv
  have key2 : ∀ j v, (#[.int .u8 a, .int .u8 b, .int .u8 c, .int .u8 d, .int .u8 e] : Array Value)[j]? = some v → (w1.alloc (.cells #[.int .u8 a, .int .u8 b, .int .u8 c, .int .u8 d, .int .u8 e] t')).cell? ⟨w1.heap.size, j, none⟩ = some v := fun j v hv => box_at (Below.refl _ _) j v hv
  have hz : w.heap.size < w1.heap.size := by have := hb.size; simp at this; omega
  exact ⟨key 0 _ rfl, key 1 _ rfl, key 2 _ rfl, key 3 _ rfl, key 4 _ rfl, key 5 _ rfl, key2 0 _ rfl, key2 1 _ rfl, key2 2 _ rfl, key2 3 _ rfl, key2 4 _ rfl, by simp; omega, by simp, (h.alloc _).below hb2, below_step (balloc w _) hb2⟩

set_option maxRecDepth 100000 in
set_option maxHeartbeats 1600000 in
theorem opPlainH (x : In) (a : Int) (y : Int) (z : Int) (p : Int) (q : Int) (pc : Nat) (w : World) (h : OpTab w) (ok : x.Ok) (hP : Pts x.code a y z p q) (hn : ((x.code : Int) == 118) = true) : Calls Tryd.prog 19 #[.agg x.arr, .int .u16 pc] w fun e w' => e = .returned (.string (txt (x.en (tgtN x pc)) (lit [104, 97, 108, 116]))) ∧ Below w.heap.size w w' := by
  have H := Lib.hid h
  have HC := Lib.hid (fun w => cut_is x.code a y z p q w ok.code hP)
  have HZ := Lib.hid (show (⟨#[104, 97, 108, 116]⟩ : ByteArray) = txt (x.en (tgtN x pc)) (lit [104, 97, 108, 116]) by rw [txt_arr (x.en (tgtN x pc)) #[104, 97, 108, 116]])
  clear h ok hP
  unfold In.arr
  go_enter Tryd.func19, Tryd.ntmps19
  go_wp2_with fail
  refine (HC.out _).mono ?_
  rintro e w1 ⟨rfl, hb1⟩
  have K := Lib.hid (twoG_made (x := x) a y z p q 46 hb1 H.out)
  clear hb1 HC H
  go_upto_region 2 with (fail)
  have k := K.out
  clear K
  generalize w1.alloc (.cells #[.int .u8 a, .int .u8 y, .int .u8 z, .int .u8 p, .int .u8 q] 46) = w2 at k ⊢
  generalize w1.heap.size = g at k ⊢
  have i2 := k.i2
  have HB := Lib.hid k.below
  clear k
  go_wp2_with fail
  go_ret
  exact ⟨by rw [← HZ.out]; rfl, HB.out⟩
set_option maxRecDepth 100000 in
set_option maxHeartbeats 1600000 in
theorem opPlain0 (x : In) (y : Int) (z : Int) (p : Int) (q : Int) (pc : Nat) (w : World) (h : OpTab w) (ok : x.Ok) (hP : Pts x.code 0 y z p q) (y0 : 0 ≤ y) (y7 : y ≤ 7) (z0 : 0 ≤ z) (z7 : z ≤ 7) (p0 : 0 ≤ p) (p3 : p ≤ 3) (q0 : 0 ≤ q) (q1 : q ≤ 1) (hn : ((x.code : Int) == 118) = false) : Calls Tryd.prog 19 #[.agg x.arr, .int .u16 pc] w fun e w' => e = .returned (.string (txt (x.en (tgtN x pc)) (firstT (hasI x.ix) (nameL x.ix) x.code y.toNat z.toNat p.toNat q.toNat))) ∧ Below w.heap.size w w' := by
  have H := Lib.hid h
  have HC := Lib.hid (fun w => cut_is x.code 0 y z p q w ok.code hP)
  have HF := Lib.hid (fun (u : World) (hu : OpTab u) => opFirst x 0 y z p q pc u hu ok y0 y7 z0 z7 p0 p3 q0 q1)
  clear h ok hP y0 y7 z0 z7 p0 p3 q0 q1
  unfold In.arr at HF ⊢
  go_enter Tryd.func19, Tryd.ntmps19
  go_wp2_with fail
  refine (HC.out _).mono ?_
  rintro e w1 ⟨rfl, hb1⟩
  have K := Lib.hid (twoG_made (x := x) 0 y z p q 46 hb1 H.out)
  clear hb1 HC H
  go_upto_region 2 with (fail)
  have k := K.out
  clear K
  generalize w1.alloc (.cells #[.int .u8 0, .int .u8 y, .int .u8 z, .int .u8 p, .int .u8 q] 46) = w2 at k ⊢
  generalize w1.heap.size = g at k ⊢
  have i0 := k.i0
  have i1 := k.i1
  have i2 := k.i2
  have i3 := k.i3
  have i4 := k.i4
  have i5 := k.i5
  have p0 := k.p0
  have p1 := k.p1
  have p2 := k.p2
  have p3 := k.p3
  have p4 := k.p4
  have KK := Lib.hid k
  clear k
  go_wp2_with fail
  refine (HF.out _ KK.out.tab).mono ?_
  rintro e w2 ⟨rfl, hb2⟩
  go_wp2_with fail
  go_ret
  exact ⟨rfl, below_step KK.out.below hb2⟩
set_option maxRecDepth 100000 in
set_option maxHeartbeats 1600000 in
theorem opPlain3 (x : In) (y : Int) (z : Int) (p : Int) (q : Int) (pc : Nat) (w : World) (h : OpTab w) (ok : x.Ok) (hP : Pts x.code 3 y z p q) (y0 : 0 ≤ y) (y7 : y ≤ 7) (z0 : 0 ≤ z) (z7 : z ≤ 7) (p0 : 0 ≤ p) (p3 : p ≤ 3) (q0 : 0 ≤ q) (q1 : q ≤ 1) (hn : ((x.code : Int) == 118) = false) : Calls Tryd.prog 19 #[.agg x.arr, .int .u16 pc] w fun e w' => e = .returned (.string (txt (x.en (tgtN x pc)) (lastT (hasI x.ix) (nameL x.ix) y.toNat z.toNat p.toNat q.toNat))) ∧ Below w.heap.size w w' := by
  have H := Lib.hid h
  have HC := Lib.hid (fun w => cut_is x.code 3 y z p q w ok.code hP)
  have HF := Lib.hid (fun (u : World) (hu : OpTab u) => opLast x 3 y z p q pc u hu ok y0 y7 z0 z7 p0 p3 q0 q1)
  clear h ok hP y0 y7 z0 z7 p0 p3 q0 q1
  unfold In.arr at HF ⊢
  go_enter Tryd.func19, Tryd.ntmps19
  go_wp2_with fail
  refine (HC.out _).mono ?_
  rintro e w1 ⟨rfl, hb1⟩
  have K := Lib.hid (twoG_made (x := x) 3 y z p q 46 hb1 H.out)
  clear hb1 HC H
  go_upto_region 2 with (fail)
  have k := K.out
  clear K
  generalize w1.alloc (.cells #[.int .u8 3, .int .u8 y, .int .u8 z, .int .u8 p, .int .u8 q] 46) = w2 at k ⊢
  generalize w1.heap.size = g at k ⊢
  have i0 := k.i0
  have i1 := k.i1
  have i2 := k.i2
  have i3 := k.i3
  have i4 := k.i4
  have i5 := k.i5
  have p0 := k.p0
  have p1 := k.p1
  have p2 := k.p2
  have p3 := k.p3
  have p4 := k.p4
  have KK := Lib.hid k
  clear k
  go_wp2_with fail
  refine (HF.out _ KK.out.tab).mono ?_
  rintro e w2 ⟨rfl, hb2⟩
  go_wp2_with fail
  go_ret
  exact ⟨rfl, below_step KK.out.below hb2⟩
set_option maxRecDepth 100000 in
set_option maxHeartbeats 1600000 in
theorem opPlain1 (x : In) (y : Int) (z : Int) (p : Int) (q : Int) (pc : Nat) (w : World) (h : OpTab w) (ok : x.Ok) (hP : Pts x.code 1 y z p q) (y0 : 0 ≤ y) (y7 : y ≤ 7) (z0 : 0 ≤ z) (z7 : z ≤ 7) (hn : ((x.code : Int) == 118) = false) : Calls Tryd.prog 19 #[.agg x.arr, .int .u16 pc] w fun e w' => e = .returned (.string (txt (x.en (tgtN x pc)) (lit [108, 100, 32] ++ regT (hasI x.ix) (nameL x.ix) x.code y.toNat ++ lit [44] ++ regT (hasI x.ix) (nameL x.ix) x.code z.toNat))) ∧ Below w.heap.size w w' := by
  have H := Lib.hid h
  have HC := Lib.hid (fun w => cut_is x.code 1 y z p q w ok.code hP)
  have s1 := txt_le (x.en (tgtN x pc)) (regT (hasI x.ix) (nameL x.ix) x.code y.toNat) 48 ok.d (by have := regT_le (hasI x.ix) x.ix x.code y.toNat; omega)
  have s2 := txt_le (x.en (tgtN x pc)) (regT (hasI x.ix) (nameL x.ix) x.code z.toNat) 48 ok.d (by have := regT_le (hasI x.ix) x.ix x.code z.toNat; omega)
  have hz : (⟨#[108, 100, 32]⟩ : ByteArray) ++ txt (x.en (tgtN x pc)) (regT (hasI x.ix) (nameL x.ix) x.code y.toNat) ++ ⟨#[44]⟩ ++ txt (x.en (tgtN x pc)) (regT (hasI x.ix) (nameL x.ix) x.code z.toNat) = txt (x.en (tgtN x pc)) (lit [108, 100, 32] ++ regT (hasI x.ix) (nameL x.ix) x.code y.toNat ++ lit [44] ++ regT (hasI x.ix) (nameL x.ix) x.code z.toNat) := by rw [txt_arr (x.en (tgtN x pc)) #[108, 100, 32], txt_arr (x.en (tgtN x pc)) #[44], txt_app, txt_app, txt_app]
  obtain ⟨T, hT⟩ : ∃ T, txt (x.en (tgtN x pc)) (regT (hasI x.ix) (nameL x.ix) x.code y.toNat) = T := ⟨_, rfl⟩
  obtain ⟨V, hV⟩ : ∃ V, txt (x.en (tgtN x pc)) (regT (hasI x.ix) (nameL x.ix) x.code z.toNat) = V := ⟨_, rfl⟩
  rw [hT] at s1 hz
  rw [hV] at s2 hz
  have HZ := Lib.hid hz
  have HU := Lib.hid (show ∀ g u, TwoG w g x 1 y z p q u → (fun u => (u.cell? ⟨w.heap.size, 0, none⟩ = some (.int .i64 x.set) ∧ u.cell? ⟨w.heap.size, 1, none⟩ = some (.int .i64 x.ix) ∧ u.cell? ⟨w.heap.size, 2, none⟩ = some (.int .u8 x.code) ∧ u.cell? ⟨w.heap.size, 3, none⟩ = some (.int .u8 x.d) ∧ u.cell? ⟨w.heap.size, 4, none⟩ = some (.int .u16 x.n) ∧ u.cell? ⟨w.heap.size, 5, none⟩ = some (.int .i64 x.len) ∧ u.cell? ⟨g, 1, none⟩ = some (.int .u8 y) ∧ u.cell? ⟨g, 2, none⟩ = some (.int .u8 z)) ∧ TwoG w g x 1 y z p q u) u from fun g u hu => ⟨⟨hu.i0, hu.i1, hu.i2, hu.i3, hu.i4, hu.i5, hu.p1, hu.p2⟩, hu⟩)
  have C0 := Lib.hid (show ∀ g u, (fun u => (u.cell? ⟨w.heap.size, 0, none⟩ = some (.int .i64 x.set) ∧ u.cell? ⟨w.heap.size, 1, none⟩ = some (.int .i64 x.ix) ∧ u.cell? ⟨w.heap.size, 2, none⟩ = some (.int .u8 x.code) ∧ u.cell? ⟨w.heap.size, 3, none⟩ = some (.int .u8 x.d) ∧ u.cell? ⟨w.heap.size, 4, none⟩ = some (.int .u16 x.n) ∧ u.cell? ⟨w.heap.size, 5, none⟩ = some (.int .i64 x.len) ∧ u.cell? ⟨g, 1, none⟩ = some (.int .u8 y) ∧ u.cell? ⟨g, 2, none⟩ = some (.int .u8 z)) ∧ TwoG w g x 1 y z p q u) u → Calls Tryd.prog 41 #[.agg x.arr, .int .u8 y] u fun e w' => e = .returned (.string T) ∧ (fun u => (u.cell? ⟨w.heap.size, 0, none⟩ = some (.int .i64 x.set) ∧ u.cell? ⟨w.heap.size, 1, none⟩ = some (.int .i64 x.ix) ∧ u.cell? ⟨w.heap.size, 2, none⟩ = some (.int .u8 x.code) ∧ u.cell? ⟨w.heap.size, 3, none⟩ = some (.int .u8 x.d) ∧ u.cell? ⟨w.heap.size, 4, none⟩ = some (.int .u16 x.n) ∧ u.cell? ⟨w.heap.size, 5, none⟩ = some (.int .i64 x.len) ∧ u.cell? ⟨g, 1, none⟩ = some (.int .u8 y) ∧ u.cell? ⟨g, 2, none⟩ = some (.int .u8 z)) ∧ TwoG w g x 1 y z p q u) w' from fun g u hu => (hT ▸ opReg x y (tgtN x pc) u hu.2.tab ok y0 y7).mono fun _ _ ⟨he, hb⟩ => ⟨he, HU.out _ _ (hu.2.later hb)⟩)
  have C1 := Lib.hid (show ∀ g u, (fun u => (u.cell? ⟨w.heap.size, 0, none⟩ = some (.int .i64 x.set) ∧ u.cell? ⟨w.heap.size, 1, none⟩ = some (.int .i64 x.ix) ∧ u.cell? ⟨w.heap.size, 2, none⟩ = some (.int .u8 x.code) ∧ u.cell? ⟨w.heap.size, 3, none⟩ = some (.int .u8 x.d) ∧ u.cell? ⟨w.heap.size, 4, none⟩ = some (.int .u16 x.n) ∧ u.cell? ⟨w.heap.size, 5, none⟩ = some (.int .i64 x.len) ∧ u.cell? ⟨g, 1, none⟩ = some (.int .u8 y) ∧ u.cell? ⟨g, 2, none⟩ = some (.int .u8 z)) ∧ TwoG w g x 1 y z p q u) u → Calls Tryd.prog 41 #[.agg x.arr, .int .u8 z] u fun e w' => e = .returned (.string V) ∧ (fun u => (u.cell? ⟨w.heap.size, 0, none⟩ = some (.int .i64 x.set) ∧ u.cell? ⟨w.heap.size, 1, none⟩ = some (.int .i64 x.ix) ∧ u.cell? ⟨w.heap.size, 2, none⟩ = some (.int .u8 x.code) ∧ u.cell? ⟨w.heap.size, 3, none⟩ = some (.int .u8 x.d) ∧ u.cell? ⟨w.heap.size, 4, none⟩ = some (.int .u16 x.n) ∧ u.cell? ⟨w.heap.size, 5, none⟩ = some (.int .i64 x.len) ∧ u.cell? ⟨g, 1, none⟩ = some (.int .u8 y) ∧ u.cell? ⟨g, 2, none⟩ = some (.int .u8 z)) ∧ TwoG w g x 1 y z p q u) w' from fun g u hu => (hV ▸ opReg x z (tgtN x pc) u hu.2.tab ok z0 z7).mono fun _ _ ⟨he, hb⟩ => ⟨he, HU.out _ _ (hu.2.later hb)⟩)
  have g1 : ¬ (9223372036854775807 < 3 + (T).size) := by omega
  have g2 : ¬ (9223372036854775807 < 3 + (T).size + 1) := by omega
  have g3 : ¬ (9223372036854775807 < 3 + (T).size + 1 + (V).size) := by omega
  clear h ok hP y0 y7 z0 z7 hT hV hz
  unfold In.arr at C0 C1 ⊢
  go_enter Tryd.func19, Tryd.ntmps19
  go_wp2_with fail
  refine (HC.out _).mono ?_
  rintro e w1 ⟨rfl, hb1⟩
  have K := Lib.hid (twoG_made (x := x) 1 y z p q 46 hb1 H.out)
  clear hb1 HC H
  go_upto_region 2 with (fail)
  have k := K.out
  clear K
  generalize w1.alloc (.cells #[.int .u8 1, .int .u8 y, .int .u8 z, .int .u8 p, .int .u8 q] 46) = w2 at k ⊢
  generalize w1.heap.size = g at k ⊢
  have i2 := k.i2
  have p0 := k.p0
  have hS1 := HU.out _ _ k.drew
  clear k
  go_wp2_with fail
  clear i2 p0
  go_region_held3 (fun u => (u.cell? ⟨w.heap.size, 0, none⟩ = some (.int .i64 x.set) ∧ u.cell? ⟨w.heap.size, 1, none⟩ = some (.int .i64 x.ix) ∧ u.cell? ⟨w.heap.size, 2, none⟩ = some (.int .u8 x.code) ∧ u.cell? ⟨w.heap.size, 3, none⟩ = some (.int .u8 x.d) ∧ u.cell? ⟨w.heap.size, 4, none⟩ = some (.int .u16 x.n) ∧ u.cell? ⟨w.heap.size, 5, none⟩ = some (.int .i64 x.len) ∧ u.cell? ⟨g, 1, none⟩ = some (.int .u8 y) ∧ u.cell? ⟨g, 2, none⟩ = some (.int .u8 z)) ∧ TwoG w g x 1 y z p q u) (assumption) (((go_at_call 41; (first | (with_reducible refine (C0.out _ _ (by assumption)).mono ?_) | (with_reducible refine (C1.out _ _ (by assumption)).mono ?_)); rintro e w' ⟨rfl, hE⟩)))
  have HB := Lib.hid hE.2.below
  clear hE hS1
  go_wp2_with fail
  go_ret
  exact ⟨by rw [← HZ.out]; rfl, HB.out⟩
set_option maxRecDepth 100000 in
set_option maxHeartbeats 1600000 in
theorem opPlain2 (x : In) (y : Nat) (z : Int) (p : Int) (q : Int) (pc : Nat) (w : World) (h : OpTab w) (ok : x.Ok) (hP : Pts x.code 2 (y : Int) z p q) (y8 : y < 8) (z0 : 0 ≤ z) (z7 : z ≤ 7) (hn : ((x.code : Int) == 118) = false) : Calls Tryd.prog 19 #[.agg x.arr, .int .u16 pc] w fun e w' => e = .returned (.string (txt (x.en (tgtN x pc)) (lit (opersL.getD y []) ++ regT (hasI x.ix) (nameL x.ix) x.code z.toNat))) ∧ Below w.heap.size w w' := by
  have H := Lib.hid h
  have HC := Lib.hid (fun w => cut_is x.code 2 (y : Int) z p q w ok.code hP)
  have s2 := txt_le (x.en (tgtN x pc)) (regT (hasI x.ix) (nameL x.ix) x.code z.toNat) 48 ok.d (by have := regT_le (hasI x.ix) x.ix x.code z.toNat; omega)
  have hr : ∀ u, OpTab u → u.cell? ⟨1, y, none⟩ = some (.string (strL (opersL.getD y []))) := fun u h => h.opers y y8
  have s1 : (strL (opersL.getD y [])).size ≤ 6 := strL_le _ _ (opersL_le _)
  have hz : strL (opersL.getD y []) ++ txt (x.en (tgtN x pc)) (regT (hasI x.ix) (nameL x.ix) x.code z.toNat) = txt (x.en (tgtN x pc)) (lit (opersL.getD y []) ++ regT (hasI x.ix) (nameL x.ix) x.code z.toNat) := by rw [← txt_lit (x.en (tgtN x pc)) (opersL.getD y []), txt_app]
  generalize opersL.getD y [] = R at hr s1 hz ⊢
  obtain ⟨V, hV⟩ : ∃ V, txt (x.en (tgtN x pc)) (regT (hasI x.ix) (nameL x.ix) x.code z.toNat) = V := ⟨_, rfl⟩
  rw [hV] at s2 hz
  have HZ := Lib.hid hz
  have y0 : (0 : Int) ≤ y := by omega
  have y1 : (y : Int) < 8 := by omega
  have HU := Lib.hid (show ∀ g u, TwoG w g x 2 (y : Int) z p q u → (fun u => (u.cell? ⟨w.heap.size, 0, none⟩ = some (.int .i64 x.set) ∧ u.cell? ⟨w.heap.size, 1, none⟩ = some (.int .i64 x.ix) ∧ u.cell? ⟨w.heap.size, 2, none⟩ = some (.int .u8 x.code) ∧ u.cell? ⟨w.heap.size, 3, none⟩ = some (.int .u8 x.d) ∧ u.cell? ⟨w.heap.size, 4, none⟩ = some (.int .u16 x.n) ∧ u.cell? ⟨w.heap.size, 5, none⟩ = some (.int .i64 x.len) ∧ u.cell? ⟨g, 1, none⟩ = some (.int .u8 (y : Int)) ∧ u.cell? ⟨g, 2, none⟩ = some (.int .u8 z) ∧ u.cell? ⟨1, y, none⟩ = some (.string (strL R))) ∧ TwoG w g x 2 (y : Int) z p q u) u from fun g u hu => ⟨⟨hu.i0, hu.i1, hu.i2, hu.i3, hu.i4, hu.i5, hu.p1, hu.p2, hr u hu.tab⟩, hu⟩)
  have C0 := Lib.hid (show ∀ g u, (fun u => (u.cell? ⟨w.heap.size, 0, none⟩ = some (.int .i64 x.set) ∧ u.cell? ⟨w.heap.size, 1, none⟩ = some (.int .i64 x.ix) ∧ u.cell? ⟨w.heap.size, 2, none⟩ = some (.int .u8 x.code) ∧ u.cell? ⟨w.heap.size, 3, none⟩ = some (.int .u8 x.d) ∧ u.cell? ⟨w.heap.size, 4, none⟩ = some (.int .u16 x.n) ∧ u.cell? ⟨w.heap.size, 5, none⟩ = some (.int .i64 x.len) ∧ u.cell? ⟨g, 1, none⟩ = some (.int .u8 (y : Int)) ∧ u.cell? ⟨g, 2, none⟩ = some (.int .u8 z) ∧ u.cell? ⟨1, y, none⟩ = some (.string (strL R))) ∧ TwoG w g x 2 (y : Int) z p q u) u → Calls Tryd.prog 41 #[.agg x.arr, .int .u8 z] u fun e w' => e = .returned (.string V) ∧ (fun u => (u.cell? ⟨w.heap.size, 0, none⟩ = some (.int .i64 x.set) ∧ u.cell? ⟨w.heap.size, 1, none⟩ = some (.int .i64 x.ix) ∧ u.cell? ⟨w.heap.size, 2, none⟩ = some (.int .u8 x.code) ∧ u.cell? ⟨w.heap.size, 3, none⟩ = some (.int .u8 x.d) ∧ u.cell? ⟨w.heap.size, 4, none⟩ = some (.int .u16 x.n) ∧ u.cell? ⟨w.heap.size, 5, none⟩ = some (.int .i64 x.len) ∧ u.cell? ⟨g, 1, none⟩ = some (.int .u8 (y : Int)) ∧ u.cell? ⟨g, 2, none⟩ = some (.int .u8 z) ∧ u.cell? ⟨1, y, none⟩ = some (.string (strL R))) ∧ TwoG w g x 2 (y : Int) z p q u) w' from fun g u hu => (hV ▸ opReg x z (tgtN x pc) u hu.2.tab ok z0 z7).mono fun _ _ ⟨he, hb⟩ => ⟨he, HU.out _ _ (hu.2.later hb)⟩)
  have g1 : ¬ (9223372036854775807 < (strL R).size + (V).size) := by omega
  clear h ok hP y8 z0 z7 hV hz hr
  unfold In.arr at C0 ⊢
  go_enter Tryd.func19, Tryd.ntmps19
  go_wp2_with fail
  refine (HC.out _).mono ?_
  rintro e w1 ⟨rfl, hb1⟩
  have K := Lib.hid (twoG_made (x := x) 2 (y : Int) z p q 46 hb1 H.out)
  clear hb1 HC H
  go_upto_region 2 with (fail)
  have k := K.out
  clear K
  generalize w1.alloc (.cells #[.int .u8 2, .int .u8 (y : Int), .int .u8 z, .int .u8 p, .int .u8 q] 46) = w2 at k ⊢
  generalize w1.heap.size = g at k ⊢
  have i2 := k.i2
  have p0 := k.p0
  have hS1 := HU.out _ _ k.drew
  clear k
  go_wp2_with fail
  clear i2 p0
  go_region_held3 (fun u => (u.cell? ⟨w.heap.size, 0, none⟩ = some (.int .i64 x.set) ∧ u.cell? ⟨w.heap.size, 1, none⟩ = some (.int .i64 x.ix) ∧ u.cell? ⟨w.heap.size, 2, none⟩ = some (.int .u8 x.code) ∧ u.cell? ⟨w.heap.size, 3, none⟩ = some (.int .u8 x.d) ∧ u.cell? ⟨w.heap.size, 4, none⟩ = some (.int .u16 x.n) ∧ u.cell? ⟨w.heap.size, 5, none⟩ = some (.int .i64 x.len) ∧ u.cell? ⟨g, 1, none⟩ = some (.int .u8 (y : Int)) ∧ u.cell? ⟨g, 2, none⟩ = some (.int .u8 z) ∧ u.cell? ⟨1, y, none⟩ = some (.string (strL R))) ∧ TwoG w g x 2 (y : Int) z p q u) (assumption) (((go_at_call 41; refine (C0.out _ _ (by assumption)).mono ?_; rintro e w' ⟨rfl, hE⟩)))
  have HB := Lib.hid hE.2.below
  clear hE hS1
  go_wp2_with fail
  go_ret
  exact ⟨by rw [← HZ.out]; rfl, HB.out⟩
theorem Pts.nat {c : Nat} {x y z p q : Int} (h : Pts c x y z p q) : x.toNat = c / 64 ∧ y.toNat = c / 8 % 8 ∧ z.toNat = c % 8 ∧ p.toNat = c / 8 % 8 / 2 ∧ q.toNat = c / 8 % 2 := by
  obtain ⟨h1, h2, h3, h4, h5⟩ := h; omega
theorem opPlain (x : In) (pc : Nat) (w : World) (h : OpTab w) (ok : x.Ok) : Calls Tryd.prog 19 #[.agg x.arr, .int .u16 pc] w fun e w' => e = .returned (.string (txt (x.en (tgtN x pc)) (plainT (hasI x.ix) (nameL x.ix) x.code))) ∧ Below w.heap.size w w' := by
  obtain ⟨a, y, z, p, q, hP⟩ := pts x.code
  obtain ⟨⟨a0, a3⟩, ⟨y0, y7⟩, ⟨z0, z7⟩, ⟨p0, p3⟩, ⟨q0, q1⟩, _⟩ := hP.bd ok.code
  obtain ⟨na, ny, nz, np, nq⟩ := hP.nat
  by_cases hc : x.code = 118
  · have e : plainT (hasI x.ix) (nameL x.ix) x.code = lit [104, 97, 108, 116] := by unfold plainT; rw [if_pos hc]
    rw [e]
    exact opPlainH x a y z p q pc w h ok hP (by simp; omega)
  have hn : ((x.code : Int) == 118) = false := by simp; omega
  have e : a = 0 ∨ a = 1 ∨ a = 2 ∨ a = 3 := by omega
  unfold plainT
  rw [if_neg hc, ← na, ← np, ← ny, ← nz, ← nq]
  rcases e with rfl | rfl | rfl | rfl
  · exact opPlain0 x y z p q pc w h ok hP y0 y7 z0 z7 p0 p3 q0 q1 hn
  · exact opPlain1 x y z p q pc w h ok hP y0 y7 z0 z7 hn
  · obtain ⟨Y, rfl⟩ := Int.eq_ofNat_of_zero_le y0
    exact opPlain2 x Y z p q pc w h ok hP (by omega) z0 z7 hn
  · exact opPlain3 x y z p q pc w h ok hP y0 y7 z0 z7 p0 p3 q0 q1 hn

set_option maxRecDepth 100000 in
set_option maxHeartbeats 1600000 in
theorem opMore1 (x : In) (y : Int) (z : Int) (p : Int) (q : Int) (pc : Nat) (w : World) (h : OpTab w) (ok : x.Ok) (hP : Pts x.code 1 y z p q) (y0 : 0 ≤ y) (y7 : y ≤ 7) (z0 : 0 ≤ z) (z7 : z ≤ 7) (p0 : 0 ≤ p) (p3 : p ≤ 3) (q0 : 0 ≤ q) (q1 : q ≤ 1) : Calls Tryd.prog 22 #[.agg x.arr] w fun e w' => e = .returned (.string (txt (x.en (tgtN x pc)) (midT y.toNat z.toNat p.toNat q.toNat))) ∧ Below w.heap.size w w' := by
  have H := Lib.hid h
  have HC := Lib.hid (fun w => cut_is x.code 1 y z p q w ok.code hP)
  have HF := Lib.hid (fun (u : World) (hu : OpTab u) => opMid x 1 y z p q pc u hu ok y0 y7 z0 z7 p0 p3 q0 q1)
  clear h ok hP y0 y7 z0 z7 p0 p3 q0 q1
  unfold In.arr at HF ⊢
  go_enter Tryd.func22, Tryd.ntmps22
  go_wp2_with fail
  refine (HC.out _).mono ?_
  rintro e w1 ⟨rfl, hb1⟩
  have K := Lib.hid (twoG_made (x := x) 1 y z p q 46 hb1 H.out)
  clear hb1 HC H
  go_upto_region 2 with (fail)
  have k := K.out
  clear K
  generalize w1.alloc (.cells #[.int .u8 1, .int .u8 y, .int .u8 z, .int .u8 p, .int .u8 q] 46) = w2 at k ⊢
  generalize w1.heap.size = g at k ⊢
  have i0 := k.i0
  have i1 := k.i1
  have i2 := k.i2
  have i3 := k.i3
  have i4 := k.i4
  have i5 := k.i5
  have p0 := k.p0
  have p1 := k.p1
  have p2 := k.p2
  have p3 := k.p3
  have p4 := k.p4
  have KK := Lib.hid k
  clear k
  go_wp2_with fail
  refine (HF.out _ KK.out.tab).mono ?_
  rintro e w2 ⟨rfl, hb2⟩
  go_wp2_with fail
  go_ret
  exact ⟨rfl, below_step KK.out.below hb2⟩
set_option maxRecDepth 100000 in
set_option maxHeartbeats 1600000 in
theorem opMore0 (x : In) (y : Int) (z : Int) (p : Int) (q : Int) (pc : Nat) (w : World) (h : OpTab w) (ok : x.Ok) (hP : Pts x.code 0 y z p q) : Calls Tryd.prog 22 #[.agg x.arr] w fun e w' => e = .returned (.string (txt (x.en (tgtN x pc)) (lit [110, 111, 112]))) ∧ Below w.heap.size w w' := by
  have H := Lib.hid h
  have HC := Lib.hid (fun w => cut_is x.code 0 y z p q w ok.code hP)
  have HZ := Lib.hid (show (⟨#[110, 111, 112]⟩ : ByteArray) = txt (x.en (tgtN x pc)) (lit [110, 111, 112]) by rw [txt_arr (x.en (tgtN x pc)) #[110, 111, 112]])
  clear h ok hP
  unfold In.arr
  go_enter Tryd.func22, Tryd.ntmps22
  go_wp2_with fail
  refine (HC.out _).mono ?_
  rintro e w1 ⟨rfl, hb1⟩
  have K := Lib.hid (twoG_made (x := x) 0 y z p q 46 hb1 H.out)
  clear hb1 HC H
  go_upto_region 2 with (fail)
  have k := K.out
  clear K
  generalize w1.alloc (.cells #[.int .u8 0, .int .u8 y, .int .u8 z, .int .u8 p, .int .u8 q] 46) = w2 at k ⊢
  generalize w1.heap.size = g at k ⊢
  have p0 := k.p0
  have p1 := k.p1
  have p2 := k.p2
  have HB := Lib.hid k.below
  clear k
  go_wp2_with fail
  go_ret
  exact ⟨by rw [← HZ.out]; rfl, HB.out⟩
set_option maxRecDepth 100000 in
set_option maxHeartbeats 1600000 in
theorem opMore3 (x : In) (y : Int) (z : Int) (p : Int) (q : Int) (pc : Nat) (w : World) (h : OpTab w) (ok : x.Ok) (hP : Pts x.code 3 y z p q) : Calls Tryd.prog 22 #[.agg x.arr] w fun e w' => e = .returned (.string (txt (x.en (tgtN x pc)) (lit [110, 111, 112]))) ∧ Below w.heap.size w w' := by
  have H := Lib.hid h
  have HC := Lib.hid (fun w => cut_is x.code 3 y z p q w ok.code hP)
  have HZ := Lib.hid (show (⟨#[110, 111, 112]⟩ : ByteArray) = txt (x.en (tgtN x pc)) (lit [110, 111, 112]) by rw [txt_arr (x.en (tgtN x pc)) #[110, 111, 112]])
  clear h ok hP
  unfold In.arr
  go_enter Tryd.func22, Tryd.ntmps22
  go_wp2_with fail
  refine (HC.out _).mono ?_
  rintro e w1 ⟨rfl, hb1⟩
  have K := Lib.hid (twoG_made (x := x) 3 y z p q 46 hb1 H.out)
  clear hb1 HC H
  go_upto_region 2 with (fail)
  have k := K.out
  clear K
  generalize w1.alloc (.cells #[.int .u8 3, .int .u8 y, .int .u8 z, .int .u8 p, .int .u8 q] 46) = w2 at k ⊢
  generalize w1.heap.size = g at k ⊢
  have p0 := k.p0
  have p1 := k.p1
  have p2 := k.p2
  have HB := Lib.hid k.below
  clear k
  go_wp2_with fail
  go_ret
  exact ⟨by rw [← HZ.out]; rfl, HB.out⟩
set_option maxRecDepth 100000 in
set_option maxHeartbeats 1600000 in
theorem opMore2y (x : In) (y : Int) (z : Int) (p : Int) (q : Int) (pc : Nat) (w : World) (h : OpTab w) (ok : x.Ok) (hP : Pts x.code 2 y z p q) (hy : decide (4 ≤ y) = false) : Calls Tryd.prog 22 #[.agg x.arr] w fun e w' => e = .returned (.string (txt (x.en (tgtN x pc)) (lit [110, 111, 112]))) ∧ Below w.heap.size w w' := by
  have H := Lib.hid h
  have HC := Lib.hid (fun w => cut_is x.code 2 y z p q w ok.code hP)
  have HZ := Lib.hid (show (⟨#[110, 111, 112]⟩ : ByteArray) = txt (x.en (tgtN x pc)) (lit [110, 111, 112]) by rw [txt_arr (x.en (tgtN x pc)) #[110, 111, 112]])
  clear h ok hP
  unfold In.arr
  go_enter Tryd.func22, Tryd.ntmps22
  go_wp2_with fail
  refine (HC.out _).mono ?_
  rintro e w1 ⟨rfl, hb1⟩
  have K := Lib.hid (twoG_made (x := x) 2 y z p q 46 hb1 H.out)
  clear hb1 HC H
  go_upto_region 2 with (fail)
  have k := K.out
  clear K
  generalize w1.alloc (.cells #[.int .u8 2, .int .u8 y, .int .u8 z, .int .u8 p, .int .u8 q] 46) = w2 at k ⊢
  generalize w1.heap.size = g at k ⊢
  have p0 := k.p0
  have p1 := k.p1
  have p2 := k.p2
  have HB := Lib.hid k.below
  clear k
  go_wp2_with fail
  go_ret
  exact ⟨by rw [← HZ.out]; rfl, HB.out⟩
set_option maxRecDepth 100000 in
set_option maxHeartbeats 1600000 in
theorem opMore2z (x : In) (y : Int) (z : Int) (p : Int) (q : Int) (pc : Nat) (w : World) (h : OpTab w) (ok : x.Ok) (hP : Pts x.code 2 y z p q) (hy : decide (4 ≤ y) = true) (hz : decide (z ≤ 3) = false) : Calls Tryd.prog 22 #[.agg x.arr] w fun e w' => e = .returned (.string (txt (x.en (tgtN x pc)) (lit [110, 111, 112]))) ∧ Below w.heap.size w w' := by
  have H := Lib.hid h
  have HC := Lib.hid (fun w => cut_is x.code 2 y z p q w ok.code hP)
  have HZ := Lib.hid (show (⟨#[110, 111, 112]⟩ : ByteArray) = txt (x.en (tgtN x pc)) (lit [110, 111, 112]) by rw [txt_arr (x.en (tgtN x pc)) #[110, 111, 112]])
  clear h ok hP
  unfold In.arr
  go_enter Tryd.func22, Tryd.ntmps22
  go_wp2_with fail
  refine (HC.out _).mono ?_
  rintro e w1 ⟨rfl, hb1⟩
  have K := Lib.hid (twoG_made (x := x) 2 y z p q 46 hb1 H.out)
  clear hb1 HC H
  go_upto_region 2 with (fail)
  have k := K.out
  clear K
  generalize w1.alloc (.cells #[.int .u8 2, .int .u8 y, .int .u8 z, .int .u8 p, .int .u8 q] 46) = w2 at k ⊢
  generalize w1.heap.size = g at k ⊢
  have p0 := k.p0
  have p1 := k.p1
  have p2 := k.p2
  have HB := Lib.hid k.below
  clear k
  go_wp2_with fail
  go_ret
  exact ⟨by rw [← HZ.out]; rfl, HB.out⟩
set_option maxRecDepth 100000 in
set_option maxHeartbeats 1600000 in
theorem opMoreB40 (x : In) (p : Int) (q : Int) (pc : Nat) (w : World) (h : OpTab w) (ok : x.Ok) (hP : Pts x.code 2 4 0 p q) : Calls Tryd.prog 22 #[.agg x.arr] w fun e w' => e = .returned (.string (txt (x.en (tgtN x pc)) (lit (blocksL.getD 0 [])))) ∧ Below w.heap.size w w' := by
  have H := Lib.hid h
  have HC := Lib.hid (fun w => cut_is x.code 2 4 0 p q w ok.code hP)
  have hr : ∀ u, OpTab u → u.cell? ⟨4, 0, none⟩ = some (.string (strL (blocksL.getD 0 []))) := fun u h => h.blocks 0 (by decide)
  have hz : txt (x.en (tgtN x pc)) (lit (blocksL.getD 0 [])) = strL (blocksL.getD 0 []) := txt_lit _ _
  generalize blocksL.getD 0 [] = R at hr hz ⊢
  have HZ := Lib.hid hz
  have HR := Lib.hid hr
  have e1 : IntKind.u8.wrap 0 = 0 := by decide
  clear h ok hP hr hz
  unfold In.arr
  go_enter Tryd.func22, Tryd.ntmps22
  go_wp2_with fail
  refine (HC.out _).mono ?_
  rintro e w1 ⟨rfl, hb1⟩
  have K := Lib.hid (twoG_made (x := x) 2 4 0 p q 46 hb1 H.out)
  clear hb1 HC H
  go_upto_region 2 with (fail)
  have k := K.out
  clear K
  generalize w1.alloc (.cells #[.int .u8 2, .int .u8 4, .int .u8 0, .int .u8 p, .int .u8 q] 46) = w2 at k ⊢
  generalize w1.heap.size = g at k ⊢
  have p0 := k.p0
  have p1 := k.p1
  have p2 := k.p2
  have c := HR.out _ k.tab
  have HB := Lib.hid k.below
  clear k
  go_wp2_with fail
  go_quiet (fail)
  go_wp2_with fail
  go_ret
  exact ⟨by rw [HZ.out]; rfl, HB.out.trans (below_drewN' _ _ _)⟩
set_option maxRecDepth 100000 in
set_option maxHeartbeats 1600000 in
theorem opMoreB41 (x : In) (p : Int) (q : Int) (pc : Nat) (w : World) (h : OpTab w) (ok : x.Ok) (hP : Pts x.code 2 4 1 p q) : Calls Tryd.prog 22 #[.agg x.arr] w fun e w' => e = .returned (.string (txt (x.en (tgtN x pc)) (lit (blocksL.getD 1 [])))) ∧ Below w.heap.size w w' := by
  have H := Lib.hid h
  have HC := Lib.hid (fun w => cut_is x.code 2 4 1 p q w ok.code hP)
  have hr : ∀ u, OpTab u → u.cell? ⟨4, 1, none⟩ = some (.string (strL (blocksL.getD 1 []))) := fun u h => h.blocks 1 (by decide)
  have hz : txt (x.en (tgtN x pc)) (lit (blocksL.getD 1 [])) = strL (blocksL.getD 1 []) := txt_lit _ _
  generalize blocksL.getD 1 [] = R at hr hz ⊢
  have HZ := Lib.hid hz
  have HR := Lib.hid hr
  have e1 : IntKind.u8.wrap 0 = 0 := by decide
  clear h ok hP hr hz
  unfold In.arr
  go_enter Tryd.func22, Tryd.ntmps22
  go_wp2_with fail
  refine (HC.out _).mono ?_
  rintro e w1 ⟨rfl, hb1⟩
  have K := Lib.hid (twoG_made (x := x) 2 4 1 p q 46 hb1 H.out)
  clear hb1 HC H
  go_upto_region 2 with (fail)
  have k := K.out
  clear K
  generalize w1.alloc (.cells #[.int .u8 2, .int .u8 4, .int .u8 1, .int .u8 p, .int .u8 q] 46) = w2 at k ⊢
  generalize w1.heap.size = g at k ⊢
  have p0 := k.p0
  have p1 := k.p1
  have p2 := k.p2
  have c := HR.out _ k.tab
  have HB := Lib.hid k.below
  clear k
  go_wp2_with fail
  go_quiet (fail)
  go_wp2_with fail
  go_ret
  exact ⟨by rw [HZ.out]; rfl, HB.out.trans (below_drewN' _ _ _)⟩
set_option maxRecDepth 100000 in
set_option maxHeartbeats 1600000 in
theorem opMoreB42 (x : In) (p : Int) (q : Int) (pc : Nat) (w : World) (h : OpTab w) (ok : x.Ok) (hP : Pts x.code 2 4 2 p q) : Calls Tryd.prog 22 #[.agg x.arr] w fun e w' => e = .returned (.string (txt (x.en (tgtN x pc)) (lit (blocksL.getD 2 [])))) ∧ Below w.heap.size w w' := by
  have H := Lib.hid h
  have HC := Lib.hid (fun w => cut_is x.code 2 4 2 p q w ok.code hP)
  have hr : ∀ u, OpTab u → u.cell? ⟨4, 2, none⟩ = some (.string (strL (blocksL.getD 2 []))) := fun u h => h.blocks 2 (by decide)
  have hz : txt (x.en (tgtN x pc)) (lit (blocksL.getD 2 [])) = strL (blocksL.getD 2 []) := txt_lit _ _
  generalize blocksL.getD 2 [] = R at hr hz ⊢
  have HZ := Lib.hid hz
  have HR := Lib.hid hr
  have e1 : IntKind.u8.wrap 0 = 0 := by decide
  clear h ok hP hr hz
  unfold In.arr
  go_enter Tryd.func22, Tryd.ntmps22
  go_wp2_with fail
  refine (HC.out _).mono ?_
  rintro e w1 ⟨rfl, hb1⟩
  have K := Lib.hid (twoG_made (x := x) 2 4 2 p q 46 hb1 H.out)
  clear hb1 HC H
  go_upto_region 2 with (fail)
  have k := K.out
  clear K
  generalize w1.alloc (.cells #[.int .u8 2, .int .u8 4, .int .u8 2, .int .u8 p, .int .u8 q] 46) = w2 at k ⊢
  generalize w1.heap.size = g at k ⊢
  have p0 := k.p0
  have p1 := k.p1
  have p2 := k.p2
  have c := HR.out _ k.tab
  have HB := Lib.hid k.below
  clear k
  go_wp2_with fail
  go_quiet (fail)
  go_wp2_with fail
  go_ret
  exact ⟨by rw [HZ.out]; rfl, HB.out.trans (below_drewN' _ _ _)⟩
set_option maxRecDepth 100000 in
set_option maxHeartbeats 1600000 in
theorem opMoreB43 (x : In) (p : Int) (q : Int) (pc : Nat) (w : World) (h : OpTab w) (ok : x.Ok) (hP : Pts x.code 2 4 3 p q) : Calls Tryd.prog 22 #[.agg x.arr] w fun e w' => e = .returned (.string (txt (x.en (tgtN x pc)) (lit (blocksL.getD 3 [])))) ∧ Below w.heap.size w w' := by
  have H := Lib.hid h
  have HC := Lib.hid (fun w => cut_is x.code 2 4 3 p q w ok.code hP)
  have hr : ∀ u, OpTab u → u.cell? ⟨4, 3, none⟩ = some (.string (strL (blocksL.getD 3 []))) := fun u h => h.blocks 3 (by decide)
  have hz : txt (x.en (tgtN x pc)) (lit (blocksL.getD 3 [])) = strL (blocksL.getD 3 []) := txt_lit _ _
  generalize blocksL.getD 3 [] = R at hr hz ⊢
  have HZ := Lib.hid hz
  have HR := Lib.hid hr
  have e1 : IntKind.u8.wrap 0 = 0 := by decide
  clear h ok hP hr hz
  unfold In.arr
  go_enter Tryd.func22, Tryd.ntmps22
  go_wp2_with fail
  refine (HC.out _).mono ?_
  rintro e w1 ⟨rfl, hb1⟩
  have K := Lib.hid (twoG_made (x := x) 2 4 3 p q 46 hb1 H.out)
  clear hb1 HC H
  go_upto_region 2 with (fail)
  have k := K.out
  clear K
  generalize w1.alloc (.cells #[.int .u8 2, .int .u8 4, .int .u8 3, .int .u8 p, .int .u8 q] 46) = w2 at k ⊢
  generalize w1.heap.size = g at k ⊢
  have p0 := k.p0
  have p1 := k.p1
  have p2 := k.p2
  have c := HR.out _ k.tab
  have HB := Lib.hid k.below
  clear k
  go_wp2_with fail
  go_quiet (fail)
  go_wp2_with fail
  go_ret
  exact ⟨by rw [HZ.out]; rfl, HB.out.trans (below_drewN' _ _ _)⟩
set_option maxRecDepth 100000 in
set_option maxHeartbeats 1600000 in
theorem opMoreB50 (x : In) (p : Int) (q : Int) (pc : Nat) (w : World) (h : OpTab w) (ok : x.Ok) (hP : Pts x.code 2 5 0 p q) : Calls Tryd.prog 22 #[.agg x.arr] w fun e w' => e = .returned (.string (txt (x.en (tgtN x pc)) (lit (blocksL.getD 4 [])))) ∧ Below w.heap.size w w' := by
  have H := Lib.hid h
  have HC := Lib.hid (fun w => cut_is x.code 2 5 0 p q w ok.code hP)
  have hr : ∀ u, OpTab u → u.cell? ⟨4, 4, none⟩ = some (.string (strL (blocksL.getD 4 []))) := fun u h => h.blocks 4 (by decide)
  have hz : txt (x.en (tgtN x pc)) (lit (blocksL.getD 4 [])) = strL (blocksL.getD 4 []) := txt_lit _ _
  generalize blocksL.getD 4 [] = R at hr hz ⊢
  have HZ := Lib.hid hz
  have HR := Lib.hid hr
  have e1 : IntKind.u8.wrap 1 = 1 := by decide
  clear h ok hP hr hz
  unfold In.arr
  go_enter Tryd.func22, Tryd.ntmps22
  go_wp2_with fail
  refine (HC.out _).mono ?_
  rintro e w1 ⟨rfl, hb1⟩
  have K := Lib.hid (twoG_made (x := x) 2 5 0 p q 46 hb1 H.out)
  clear hb1 HC H
  go_upto_region 2 with (fail)
  have k := K.out
  clear K
  generalize w1.alloc (.cells #[.int .u8 2, .int .u8 5, .int .u8 0, .int .u8 p, .int .u8 q] 46) = w2 at k ⊢
  generalize w1.heap.size = g at k ⊢
  have p0 := k.p0
  have p1 := k.p1
  have p2 := k.p2
  have c := HR.out _ k.tab
  have HB := Lib.hid k.below
  clear k
  go_wp2_with fail
  go_quiet (fail)
  go_wp2_with fail
  go_ret
  exact ⟨by rw [HZ.out]; rfl, HB.out.trans (below_drewN' _ _ _)⟩
set_option maxRecDepth 100000 in
set_option maxHeartbeats 1600000 in
theorem opMoreB51 (x : In) (p : Int) (q : Int) (pc : Nat) (w : World) (h : OpTab w) (ok : x.Ok) (hP : Pts x.code 2 5 1 p q) : Calls Tryd.prog 22 #[.agg x.arr] w fun e w' => e = .returned (.string (txt (x.en (tgtN x pc)) (lit (blocksL.getD 5 [])))) ∧ Below w.heap.size w w' := by
  have H := Lib.hid h
  have HC := Lib.hid (fun w => cut_is x.code 2 5 1 p q w ok.code hP)
  have hr : ∀ u, OpTab u → u.cell? ⟨4, 5, none⟩ = some (.string (strL (blocksL.getD 5 []))) := fun u h => h.blocks 5 (by decide)
  have hz : txt (x.en (tgtN x pc)) (lit (blocksL.getD 5 [])) = strL (blocksL.getD 5 []) := txt_lit _ _
  generalize blocksL.getD 5 [] = R at hr hz ⊢
  have HZ := Lib.hid hz
  have HR := Lib.hid hr
  have e1 : IntKind.u8.wrap 1 = 1 := by decide
  clear h ok hP hr hz
  unfold In.arr
  go_enter Tryd.func22, Tryd.ntmps22
  go_wp2_with fail
  refine (HC.out _).mono ?_
  rintro e w1 ⟨rfl, hb1⟩
  have K := Lib.hid (twoG_made (x := x) 2 5 1 p q 46 hb1 H.out)
  clear hb1 HC H
  go_upto_region 2 with (fail)
  have k := K.out
  clear K
  generalize w1.alloc (.cells #[.int .u8 2, .int .u8 5, .int .u8 1, .int .u8 p, .int .u8 q] 46) = w2 at k ⊢
  generalize w1.heap.size = g at k ⊢
  have p0 := k.p0
  have p1 := k.p1
  have p2 := k.p2
  have c := HR.out _ k.tab
  have HB := Lib.hid k.below
  clear k
  go_wp2_with fail
  go_quiet (fail)
  go_wp2_with fail
  go_ret
  exact ⟨by rw [HZ.out]; rfl, HB.out.trans (below_drewN' _ _ _)⟩
set_option maxRecDepth 100000 in
set_option maxHeartbeats 1600000 in
theorem opMoreB52 (x : In) (p : Int) (q : Int) (pc : Nat) (w : World) (h : OpTab w) (ok : x.Ok) (hP : Pts x.code 2 5 2 p q) : Calls Tryd.prog 22 #[.agg x.arr] w fun e w' => e = .returned (.string (txt (x.en (tgtN x pc)) (lit (blocksL.getD 6 [])))) ∧ Below w.heap.size w w' := by
  have H := Lib.hid h
  have HC := Lib.hid (fun w => cut_is x.code 2 5 2 p q w ok.code hP)
  have hr : ∀ u, OpTab u → u.cell? ⟨4, 6, none⟩ = some (.string (strL (blocksL.getD 6 []))) := fun u h => h.blocks 6 (by decide)
  have hz : txt (x.en (tgtN x pc)) (lit (blocksL.getD 6 [])) = strL (blocksL.getD 6 []) := txt_lit _ _
  generalize blocksL.getD 6 [] = R at hr hz ⊢
  have HZ := Lib.hid hz
  have HR := Lib.hid hr
  have e1 : IntKind.u8.wrap 1 = 1 := by decide
  clear h ok hP hr hz
  unfold In.arr
  go_enter Tryd.func22, Tryd.ntmps22
  go_wp2_with fail
  refine (HC.out _).mono ?_
  rintro e w1 ⟨rfl, hb1⟩
  have K := Lib.hid (twoG_made (x := x) 2 5 2 p q 46 hb1 H.out)
  clear hb1 HC H
  go_upto_region 2 with (fail)
  have k := K.out
  clear K
  generalize w1.alloc (.cells #[.int .u8 2, .int .u8 5, .int .u8 2, .int .u8 p, .int .u8 q] 46) = w2 at k ⊢
  generalize w1.heap.size = g at k ⊢
  have p0 := k.p0
  have p1 := k.p1
  have p2 := k.p2
  have c := HR.out _ k.tab
  have HB := Lib.hid k.below
  clear k
  go_wp2_with fail
  go_quiet (fail)
  go_wp2_with fail
  go_ret
  exact ⟨by rw [HZ.out]; rfl, HB.out.trans (below_drewN' _ _ _)⟩
set_option maxRecDepth 100000 in
set_option maxHeartbeats 1600000 in
theorem opMoreB53 (x : In) (p : Int) (q : Int) (pc : Nat) (w : World) (h : OpTab w) (ok : x.Ok) (hP : Pts x.code 2 5 3 p q) : Calls Tryd.prog 22 #[.agg x.arr] w fun e w' => e = .returned (.string (txt (x.en (tgtN x pc)) (lit (blocksL.getD 7 [])))) ∧ Below w.heap.size w w' := by
  have H := Lib.hid h
  have HC := Lib.hid (fun w => cut_is x.code 2 5 3 p q w ok.code hP)
  have hr : ∀ u, OpTab u → u.cell? ⟨4, 7, none⟩ = some (.string (strL (blocksL.getD 7 []))) := fun u h => h.blocks 7 (by decide)
  have hz : txt (x.en (tgtN x pc)) (lit (blocksL.getD 7 [])) = strL (blocksL.getD 7 []) := txt_lit _ _
  generalize blocksL.getD 7 [] = R at hr hz ⊢
  have HZ := Lib.hid hz
  have HR := Lib.hid hr
  have e1 : IntKind.u8.wrap 1 = 1 := by decide
  clear h ok hP hr hz
  unfold In.arr
  go_enter Tryd.func22, Tryd.ntmps22
  go_wp2_with fail
  refine (HC.out _).mono ?_
  rintro e w1 ⟨rfl, hb1⟩
  have K := Lib.hid (twoG_made (x := x) 2 5 3 p q 46 hb1 H.out)
  clear hb1 HC H
  go_upto_region 2 with (fail)
  have k := K.out
  clear K
  generalize w1.alloc (.cells #[.int .u8 2, .int .u8 5, .int .u8 3, .int .u8 p, .int .u8 q] 46) = w2 at k ⊢
  generalize w1.heap.size = g at k ⊢
  have p0 := k.p0
  have p1 := k.p1
  have p2 := k.p2
  have c := HR.out _ k.tab
  have HB := Lib.hid k.below
  clear k
  go_wp2_with fail
  go_quiet (fail)
  go_wp2_with fail
  go_ret
  exact ⟨by rw [HZ.out]; rfl, HB.out.trans (below_drewN' _ _ _)⟩
set_option maxRecDepth 100000 in
set_option maxHeartbeats 1600000 in
theorem opMoreB60 (x : In) (p : Int) (q : Int) (pc : Nat) (w : World) (h : OpTab w) (ok : x.Ok) (hP : Pts x.code 2 6 0 p q) : Calls Tryd.prog 22 #[.agg x.arr] w fun e w' => e = .returned (.string (txt (x.en (tgtN x pc)) (lit (blocksL.getD 8 [])))) ∧ Below w.heap.size w w' := by
  have H := Lib.hid h
  have HC := Lib.hid (fun w => cut_is x.code 2 6 0 p q w ok.code hP)
  have hr : ∀ u, OpTab u → u.cell? ⟨4, 8, none⟩ = some (.string (strL (blocksL.getD 8 []))) := fun u h => h.blocks 8 (by decide)
  have hz : txt (x.en (tgtN x pc)) (lit (blocksL.getD 8 [])) = strL (blocksL.getD 8 []) := txt_lit _ _
  generalize blocksL.getD 8 [] = R at hr hz ⊢
  have HZ := Lib.hid hz
  have HR := Lib.hid hr
  have e1 : IntKind.u8.wrap 2 = 2 := by decide
  clear h ok hP hr hz
  unfold In.arr
  go_enter Tryd.func22, Tryd.ntmps22
  go_wp2_with fail
  refine (HC.out _).mono ?_
  rintro e w1 ⟨rfl, hb1⟩
  have K := Lib.hid (twoG_made (x := x) 2 6 0 p q 46 hb1 H.out)
  clear hb1 HC H
  go_upto_region 2 with (fail)
  have k := K.out
  clear K
  generalize w1.alloc (.cells #[.int .u8 2, .int .u8 6, .int .u8 0, .int .u8 p, .int .u8 q] 46) = w2 at k ⊢
  generalize w1.heap.size = g at k ⊢
  have p0 := k.p0
  have p1 := k.p1
  have p2 := k.p2
  have c := HR.out _ k.tab
  have HB := Lib.hid k.below
  clear k
  go_wp2_with fail
  go_quiet (fail)
  go_wp2_with fail
  go_ret
  exact ⟨by rw [HZ.out]; rfl, HB.out.trans (below_drewN' _ _ _)⟩
set_option maxRecDepth 100000 in
set_option maxHeartbeats 1600000 in
theorem opMoreB61 (x : In) (p : Int) (q : Int) (pc : Nat) (w : World) (h : OpTab w) (ok : x.Ok) (hP : Pts x.code 2 6 1 p q) : Calls Tryd.prog 22 #[.agg x.arr] w fun e w' => e = .returned (.string (txt (x.en (tgtN x pc)) (lit (blocksL.getD 9 [])))) ∧ Below w.heap.size w w' := by
  have H := Lib.hid h
  have HC := Lib.hid (fun w => cut_is x.code 2 6 1 p q w ok.code hP)
  have hr : ∀ u, OpTab u → u.cell? ⟨4, 9, none⟩ = some (.string (strL (blocksL.getD 9 []))) := fun u h => h.blocks 9 (by decide)
  have hz : txt (x.en (tgtN x pc)) (lit (blocksL.getD 9 [])) = strL (blocksL.getD 9 []) := txt_lit _ _
  generalize blocksL.getD 9 [] = R at hr hz ⊢
  have HZ := Lib.hid hz
  have HR := Lib.hid hr
  have e1 : IntKind.u8.wrap 2 = 2 := by decide
  clear h ok hP hr hz
  unfold In.arr
  go_enter Tryd.func22, Tryd.ntmps22
  go_wp2_with fail
  refine (HC.out _).mono ?_
  rintro e w1 ⟨rfl, hb1⟩
  have K := Lib.hid (twoG_made (x := x) 2 6 1 p q 46 hb1 H.out)
  clear hb1 HC H
  go_upto_region 2 with (fail)
  have k := K.out
  clear K
  generalize w1.alloc (.cells #[.int .u8 2, .int .u8 6, .int .u8 1, .int .u8 p, .int .u8 q] 46) = w2 at k ⊢
  generalize w1.heap.size = g at k ⊢
  have p0 := k.p0
  have p1 := k.p1
  have p2 := k.p2
  have c := HR.out _ k.tab
  have HB := Lib.hid k.below
  clear k
  go_wp2_with fail
  go_quiet (fail)
  go_wp2_with fail
  go_ret
  exact ⟨by rw [HZ.out]; rfl, HB.out.trans (below_drewN' _ _ _)⟩
set_option maxRecDepth 100000 in
set_option maxHeartbeats 1600000 in
theorem opMoreB62 (x : In) (p : Int) (q : Int) (pc : Nat) (w : World) (h : OpTab w) (ok : x.Ok) (hP : Pts x.code 2 6 2 p q) : Calls Tryd.prog 22 #[.agg x.arr] w fun e w' => e = .returned (.string (txt (x.en (tgtN x pc)) (lit (blocksL.getD 10 [])))) ∧ Below w.heap.size w w' := by
  have H := Lib.hid h
  have HC := Lib.hid (fun w => cut_is x.code 2 6 2 p q w ok.code hP)
  have hr : ∀ u, OpTab u → u.cell? ⟨4, 10, none⟩ = some (.string (strL (blocksL.getD 10 []))) := fun u h => h.blocks 10 (by decide)
  have hz : txt (x.en (tgtN x pc)) (lit (blocksL.getD 10 [])) = strL (blocksL.getD 10 []) := txt_lit _ _
  generalize blocksL.getD 10 [] = R at hr hz ⊢
  have HZ := Lib.hid hz
  have HR := Lib.hid hr
  have e1 : IntKind.u8.wrap 2 = 2 := by decide
  clear h ok hP hr hz
  unfold In.arr
  go_enter Tryd.func22, Tryd.ntmps22
  go_wp2_with fail
  refine (HC.out _).mono ?_
  rintro e w1 ⟨rfl, hb1⟩
  have K := Lib.hid (twoG_made (x := x) 2 6 2 p q 46 hb1 H.out)
  clear hb1 HC H
  go_upto_region 2 with (fail)
  have k := K.out
  clear K
  generalize w1.alloc (.cells #[.int .u8 2, .int .u8 6, .int .u8 2, .int .u8 p, .int .u8 q] 46) = w2 at k ⊢
  generalize w1.heap.size = g at k ⊢
  have p0 := k.p0
  have p1 := k.p1
  have p2 := k.p2
  have c := HR.out _ k.tab
  have HB := Lib.hid k.below
  clear k
  go_wp2_with fail
  go_quiet (fail)
  go_wp2_with fail
  go_ret
  exact ⟨by rw [HZ.out]; rfl, HB.out.trans (below_drewN' _ _ _)⟩
set_option maxRecDepth 100000 in
set_option maxHeartbeats 1600000 in
theorem opMoreB63 (x : In) (p : Int) (q : Int) (pc : Nat) (w : World) (h : OpTab w) (ok : x.Ok) (hP : Pts x.code 2 6 3 p q) : Calls Tryd.prog 22 #[.agg x.arr] w fun e w' => e = .returned (.string (txt (x.en (tgtN x pc)) (lit (blocksL.getD 11 [])))) ∧ Below w.heap.size w w' := by
  have H := Lib.hid h
  have HC := Lib.hid (fun w => cut_is x.code 2 6 3 p q w ok.code hP)
  have hr : ∀ u, OpTab u → u.cell? ⟨4, 11, none⟩ = some (.string (strL (blocksL.getD 11 []))) := fun u h => h.blocks 11 (by decide)
  have hz : txt (x.en (tgtN x pc)) (lit (blocksL.getD 11 [])) = strL (blocksL.getD 11 []) := txt_lit _ _
  generalize blocksL.getD 11 [] = R at hr hz ⊢
  have HZ := Lib.hid hz
  have HR := Lib.hid hr
  have e1 : IntKind.u8.wrap 2 = 2 := by decide
  clear h ok hP hr hz
  unfold In.arr
  go_enter Tryd.func22, Tryd.ntmps22
  go_wp2_with fail
  refine (HC.out _).mono ?_
  rintro e w1 ⟨rfl, hb1⟩
  have K := Lib.hid (twoG_made (x := x) 2 6 3 p q 46 hb1 H.out)
  clear hb1 HC H
  go_upto_region 2 with (fail)
  have k := K.out
  clear K
  generalize w1.alloc (.cells #[.int .u8 2, .int .u8 6, .int .u8 3, .int .u8 p, .int .u8 q] 46) = w2 at k ⊢
  generalize w1.heap.size = g at k ⊢
  have p0 := k.p0
  have p1 := k.p1
  have p2 := k.p2
  have c := HR.out _ k.tab
  have HB := Lib.hid k.below
  clear k
  go_wp2_with fail
  go_quiet (fail)
  go_wp2_with fail
  go_ret
  exact ⟨by rw [HZ.out]; rfl, HB.out.trans (below_drewN' _ _ _)⟩
set_option maxRecDepth 100000 in
set_option maxHeartbeats 1600000 in
theorem opMoreB70 (x : In) (p : Int) (q : Int) (pc : Nat) (w : World) (h : OpTab w) (ok : x.Ok) (hP : Pts x.code 2 7 0 p q) : Calls Tryd.prog 22 #[.agg x.arr] w fun e w' => e = .returned (.string (txt (x.en (tgtN x pc)) (lit (blocksL.getD 12 [])))) ∧ Below w.heap.size w w' := by
  have H := Lib.hid h
  have HC := Lib.hid (fun w => cut_is x.code 2 7 0 p q w ok.code hP)
  have hr : ∀ u, OpTab u → u.cell? ⟨4, 12, none⟩ = some (.string (strL (blocksL.getD 12 []))) := fun u h => h.blocks 12 (by decide)
  have hz : txt (x.en (tgtN x pc)) (lit (blocksL.getD 12 [])) = strL (blocksL.getD 12 []) := txt_lit _ _
  generalize blocksL.getD 12 [] = R at hr hz ⊢
  have HZ := Lib.hid hz
  have HR := Lib.hid hr
  have e1 : IntKind.u8.wrap 3 = 3 := by decide
  clear h ok hP hr hz
  unfold In.arr
  go_enter Tryd.func22, Tryd.ntmps22
  go_wp2_with fail
  refine (HC.out _).mono ?_
  rintro e w1 ⟨rfl, hb1⟩
  have K := Lib.hid (twoG_made (x := x) 2 7 0 p q 46 hb1 H.out)
  clear hb1 HC H
  go_upto_region 2 with (fail)
  have k := K.out
  clear K
  generalize w1.alloc (.cells #[.int .u8 2, .int .u8 7, .int .u8 0, .int .u8 p, .int .u8 q] 46) = w2 at k ⊢
  generalize w1.heap.size = g at k ⊢
  have p0 := k.p0
  have p1 := k.p1
  have p2 := k.p2
  have c := HR.out _ k.tab
  have HB := Lib.hid k.below
  clear k
  go_wp2_with fail
  go_quiet (fail)
  go_wp2_with fail
  go_ret
  exact ⟨by rw [HZ.out]; rfl, HB.out.trans (below_drewN' _ _ _)⟩
set_option maxRecDepth 100000 in
set_option maxHeartbeats 1600000 in
theorem opMoreB71 (x : In) (p : Int) (q : Int) (pc : Nat) (w : World) (h : OpTab w) (ok : x.Ok) (hP : Pts x.code 2 7 1 p q) : Calls Tryd.prog 22 #[.agg x.arr] w fun e w' => e = .returned (.string (txt (x.en (tgtN x pc)) (lit (blocksL.getD 13 [])))) ∧ Below w.heap.size w w' := by
  have H := Lib.hid h
  have HC := Lib.hid (fun w => cut_is x.code 2 7 1 p q w ok.code hP)
  have hr : ∀ u, OpTab u → u.cell? ⟨4, 13, none⟩ = some (.string (strL (blocksL.getD 13 []))) := fun u h => h.blocks 13 (by decide)
  have hz : txt (x.en (tgtN x pc)) (lit (blocksL.getD 13 [])) = strL (blocksL.getD 13 []) := txt_lit _ _
  generalize blocksL.getD 13 [] = R at hr hz ⊢
  have HZ := Lib.hid hz
  have HR := Lib.hid hr
  have e1 : IntKind.u8.wrap 3 = 3 := by decide
  clear h ok hP hr hz
  unfold In.arr
  go_enter Tryd.func22, Tryd.ntmps22
  go_wp2_with fail
  refine (HC.out _).mono ?_
  rintro e w1 ⟨rfl, hb1⟩
  have K := Lib.hid (twoG_made (x := x) 2 7 1 p q 46 hb1 H.out)
  clear hb1 HC H
  go_upto_region 2 with (fail)
  have k := K.out
  clear K
  generalize w1.alloc (.cells #[.int .u8 2, .int .u8 7, .int .u8 1, .int .u8 p, .int .u8 q] 46) = w2 at k ⊢
  generalize w1.heap.size = g at k ⊢
  have p0 := k.p0
  have p1 := k.p1
  have p2 := k.p2
  have c := HR.out _ k.tab
  have HB := Lib.hid k.below
  clear k
  go_wp2_with fail
  go_quiet (fail)
  go_wp2_with fail
  go_ret
  exact ⟨by rw [HZ.out]; rfl, HB.out.trans (below_drewN' _ _ _)⟩
set_option maxRecDepth 100000 in
set_option maxHeartbeats 1600000 in
theorem opMoreB72 (x : In) (p : Int) (q : Int) (pc : Nat) (w : World) (h : OpTab w) (ok : x.Ok) (hP : Pts x.code 2 7 2 p q) : Calls Tryd.prog 22 #[.agg x.arr] w fun e w' => e = .returned (.string (txt (x.en (tgtN x pc)) (lit (blocksL.getD 14 [])))) ∧ Below w.heap.size w w' := by
  have H := Lib.hid h
  have HC := Lib.hid (fun w => cut_is x.code 2 7 2 p q w ok.code hP)
  have hr : ∀ u, OpTab u → u.cell? ⟨4, 14, none⟩ = some (.string (strL (blocksL.getD 14 []))) := fun u h => h.blocks 14 (by decide)
  have hz : txt (x.en (tgtN x pc)) (lit (blocksL.getD 14 [])) = strL (blocksL.getD 14 []) := txt_lit _ _
  generalize blocksL.getD 14 [] = R at hr hz ⊢
  have HZ := Lib.hid hz
  have HR := Lib.hid hr
  have e1 : IntKind.u8.wrap 3 = 3 := by decide
  clear h ok hP hr hz
  unfold In.arr
  go_enter Tryd.func22, Tryd.ntmps22
  go_wp2_with fail
  refine (HC.out _).mono ?_
  rintro e w1 ⟨rfl, hb1⟩
  have K := Lib.hid (twoG_made (x := x) 2 7 2 p q 46 hb1 H.out)
  clear hb1 HC H
  go_upto_region 2 with (fail)
  have k := K.out
  clear K
  generalize w1.alloc (.cells #[.int .u8 2, .int .u8 7, .int .u8 2, .int .u8 p, .int .u8 q] 46) = w2 at k ⊢
  generalize w1.heap.size = g at k ⊢
  have p0 := k.p0
  have p1 := k.p1
  have p2 := k.p2
  have c := HR.out _ k.tab
  have HB := Lib.hid k.below
  clear k
  go_wp2_with fail
  go_quiet (fail)
  go_wp2_with fail
  go_ret
  exact ⟨by rw [HZ.out]; rfl, HB.out.trans (below_drewN' _ _ _)⟩
set_option maxRecDepth 100000 in
set_option maxHeartbeats 1600000 in
theorem opMoreB73 (x : In) (p : Int) (q : Int) (pc : Nat) (w : World) (h : OpTab w) (ok : x.Ok) (hP : Pts x.code 2 7 3 p q) : Calls Tryd.prog 22 #[.agg x.arr] w fun e w' => e = .returned (.string (txt (x.en (tgtN x pc)) (lit (blocksL.getD 15 [])))) ∧ Below w.heap.size w w' := by
  have H := Lib.hid h
  have HC := Lib.hid (fun w => cut_is x.code 2 7 3 p q w ok.code hP)
  have hr : ∀ u, OpTab u → u.cell? ⟨4, 15, none⟩ = some (.string (strL (blocksL.getD 15 []))) := fun u h => h.blocks 15 (by decide)
  have hz : txt (x.en (tgtN x pc)) (lit (blocksL.getD 15 [])) = strL (blocksL.getD 15 []) := txt_lit _ _
  generalize blocksL.getD 15 [] = R at hr hz ⊢
  have HZ := Lib.hid hz
  have HR := Lib.hid hr
  have e1 : IntKind.u8.wrap 3 = 3 := by decide
  clear h ok hP hr hz
  unfold In.arr
  go_enter Tryd.func22, Tryd.ntmps22
  go_wp2_with fail
  refine (HC.out _).mono ?_
  rintro e w1 ⟨rfl, hb1⟩
  have K := Lib.hid (twoG_made (x := x) 2 7 3 p q 46 hb1 H.out)
  clear hb1 HC H
  go_upto_region 2 with (fail)
  have k := K.out
  clear K
  generalize w1.alloc (.cells #[.int .u8 2, .int .u8 7, .int .u8 3, .int .u8 p, .int .u8 q] 46) = w2 at k ⊢
  generalize w1.heap.size = g at k ⊢
  have p0 := k.p0
  have p1 := k.p1
  have p2 := k.p2
  have c := HR.out _ k.tab
  have HB := Lib.hid k.below
  clear k
  go_wp2_with fail
  go_quiet (fail)
  go_wp2_with fail
  go_ret
  exact ⟨by rw [HZ.out]; rfl, HB.out.trans (below_drewN' _ _ _)⟩
theorem opMore (x : In) (pc : Nat) (w : World) (h : OpTab w) (ok : x.Ok) : Calls Tryd.prog 22 #[.agg x.arr] w fun e w' => e = .returned (.string (txt (x.en (tgtN x pc)) (moreT x.code))) ∧ Below w.heap.size w w' := by
  obtain ⟨a, y, z, p, q, hP⟩ := pts x.code
  obtain ⟨⟨a0, a3⟩, ⟨y0, y7⟩, ⟨z0, z7⟩, ⟨p0, p3⟩, ⟨q0, q1⟩, _⟩ := hP.bd ok.code
  obtain ⟨na, ny, nz, np, nq⟩ := hP.nat
  have e : a = 0 ∨ a = 1 ∨ a = 2 ∨ a = 3 := by omega
  unfold moreT
  rw [← na, ← np, ← ny, ← nz, ← nq]
  rcases e with rfl | rfl | rfl | rfl
  · rw [if_neg (by decide), if_neg (by rintro ⟨h, _⟩; cases h)]
    exact opMore0 x y z p q pc w h ok hP
  · exact opMore1 x y z p q pc w h ok hP y0 y7 z0 z7 p0 p3 q0 q1
  · rw [if_neg (by decide)]
    by_cases hy : 4 ≤ y
    · by_cases hz : z ≤ 3
      · rw [if_pos ⟨rfl, by omega, by omega⟩]
        have ey : y = 4 ∨ y = 5 ∨ y = 6 ∨ y = 7 := by omega
        have ez : z = 0 ∨ z = 1 ∨ z = 2 ∨ z = 3 := by omega
        rcases ey with rfl | rfl | rfl | rfl
        · rcases ez with rfl | rfl | rfl | rfl
          · exact opMoreB40 x p q pc w h ok hP
          · exact opMoreB41 x p q pc w h ok hP
          · exact opMoreB42 x p q pc w h ok hP
          · exact opMoreB43 x p q pc w h ok hP
        · rcases ez with rfl | rfl | rfl | rfl
          · exact opMoreB50 x p q pc w h ok hP
          · exact opMoreB51 x p q pc w h ok hP
          · exact opMoreB52 x p q pc w h ok hP
          · exact opMoreB53 x p q pc w h ok hP
        · rcases ez with rfl | rfl | rfl | rfl
          · exact opMoreB60 x p q pc w h ok hP
          · exact opMoreB61 x p q pc w h ok hP
          · exact opMoreB62 x p q pc w h ok hP
          · exact opMoreB63 x p q pc w h ok hP
        · rcases ez with rfl | rfl | rfl | rfl
          · exact opMoreB70 x p q pc w h ok hP
          · exact opMoreB71 x p q pc w h ok hP
          · exact opMoreB72 x p q pc w h ok hP
          · exact opMoreB73 x p q pc w h ok hP
      · rw [if_neg (by rintro ⟨_, _, h⟩; omega)]
        exact opMore2z x y z p q pc w h ok hP (by simpa using hy) (by simpa using hz)
    · rw [if_neg (by rintro ⟨_, h, _⟩; omega)]
      exact opMore2y x y z p q pc w h ok hP (by simpa using hy)
  · rw [if_neg (by decide), if_neg (by rintro ⟨h, _⟩; revert h; decide)]
    exact opMore3 x y z p q pc w h ok hP

end Go.Proofs.YtkjibnnoeceaeaaDoor
