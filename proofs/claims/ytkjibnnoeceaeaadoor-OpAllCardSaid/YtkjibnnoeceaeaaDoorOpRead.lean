/- op's reading behind 237, behind an index, of an instruction: their contracts. -/
import Derived.Test.YtkjibnnoeceaeaaDoorOpPlainR
namespace Go.Proofs.YtkjibnnoeceaeaaDoor
open Go.RowKit

/-- A result's block and a local instruction's in block g, beside a source. -/
structure PlG (w : World) (S : Nat) (v : Value) (l : List Nat) (k : Int) (g : Nat) (x : In) (u : World) : Prop where
  src : Src u S v l k
  res : OwnI u w.heap.size zeroI
  ins : OwnI u g x
  asd : Aside S w u
  lo : S < w.heap.size
  hi : w.heap.size < g
theorem PlG.later {w : World} {S : Nat} {v : Value} {l : List Nat} {k : Int} {g : Nat} {x : In} {u u' : World} (h : PlG w S v l k g x u) (hb : Below u.heap.size u u') : PlG w S v l k g x u' :=
  ⟨h.src.later hb, h.res.later hb, h.ins.later hb, h.asd.trans (.of_below hb), h.lo, h.hi⟩
theorem PlG.next {w : World} {S : Nat} {v : Value} {l : List Nat} {k k' : Int} {g : Nat} {x : In} {u u' : World} (h : PlG w S v l k g x u) (hs : Src u' S v l k') (ha : Aside S u u') : PlG w S v l k' g x u' :=
  ⟨hs, h.res.aside ha (by have := h.lo; omega), h.ins.aside ha (by have := h.lo; have := h.hi; omega), h.asd.trans ha, h.lo, h.hi⟩
theorem PlG.put {w : World} {S : Nat} {v : Value} {l : List Nat} {k : Int} {g : Nat} {x y : In} {u : World} (h : PlG w S v l k g x u) (j : Nat) (z : Value) (hy : x.arr.setIfInBounds j z = y.arr) : PlG w S v l k g y (u.setCell ⟨g, j, none⟩ z) :=
  ⟨h.src.fresh (by have := h.lo; have := h.hi; omega) _, h.res.other (by have := h.hi; omega) _, h.ins.set j z hy, h.asd.fresh (by have := h.hi; omega) _, h.lo, h.hi⟩
/-- A result's block beside a source. -/
structure ReG (w : World) (S : Nat) (v : Value) (l : List Nat) (k : Int) (u : World) : Prop where
  src : Src u S v l k
  res : OwnI u w.heap.size zeroI
  asd : Aside S w u
  lo : S < w.heap.size
theorem ReG.made {w : World} {S : Nat} {v : Value} {l : List Nat} {k : Int} (h : Src w S v l k) : ReG w S v l k (w.alloc (.cells zeroI.arr 26)) :=
  ⟨h.later ((Below.refl _ _).alloc (Nat.le_refl _) _), OwnI.new w zeroI, .alloc _ _ _, h.lt⟩
theorem ReG.next {w : World} {S : Nat} {v : Value} {l : List Nat} {k k' : Int} {u u' : World} (h : ReG w S v l k u) (hs : Src u' S v l k') (ha : Aside S u u') : ReG w S v l k' u' :=
  ⟨hs, h.res.aside ha (by have := h.lo; omega), h.asd.trans ha, h.lo⟩
theorem ReG.ins {w : World} {S : Nat} {v : Value} {l : List Nat} {k : Int} {u : World} (h : ReG w S v l k u) (x : In) : PlG w S v l k u.heap.size x (u.alloc (.cells x.arr 26)) := by
  have hb : Below u.heap.size u (u.alloc (.cells x.arr 26)) := (Below.refl _ _).alloc (Nat.le_refl _) _
  exact ⟨h.src.later hb, h.res.later hb, OwnI.new u x, h.asd.trans (.of_below hb), h.lo, h.res.lt⟩
theorem ReG.put {w : World} {S : Nat} {v : Value} {l : List Nat} {k : Int} {u : World} (h : ReG w S v l k u) (m : Int) : ReG w S v l m (u.setCell ⟨S, 1, none⟩ (.int .i64 m)) :=
  ⟨h.src.put m, h.res.other (by have := h.lo; omega) _, h.asd.trans (.setCell S 1 u _), h.lo⟩

/-- What stands behind 237, from place k on, and where it ends. -/
def moreX (c : Nat) : Bool := c / 64 == 1 && c % 8 == 3
def moreR (l : List Nat) (k : Nat) : In := ⟨2, 0, gN l k, 0, if moreX (gN l k) = true then numN l (k + 1) 2 else 0, 0⟩
def moreK (l : List Nat) (k : Nat) : Nat := if moreX (gN l k) = true then k + 3 else k + 1
theorem moreX_is (c : Nat) (a y z p q : Int) (h : Pts c a y z p q) : moreX c = (a == 1 && z == 3) := by
  obtain ⟨rfl, _, rfl, _, _⟩ := h
  unfold moreX
  rw [Bool.eq_iff_iff, Bool.and_eq_true, Bool.and_eq_true, beq_iff_eq, beq_iff_eq, beq_iff_eq, beq_iff_eq]
  omega

set_option maxRecDepth 100000 in
set_option maxHeartbeats 1600000 in
theorem more1 (S : Nat) (v : Value) (l : List Nat) (k : Nat) (y p q : Int) (w : World) (h : Src w S v l k) (hk : k ≤ 40) (hP : Pts (gN l k) 1 y 3 p q) : Calls Tryd.prog 37 #[.pointer (some ⟨S, 0, none⟩)] w fun e w' => e = .returned (.agg (In.mk 2 0 (gN l k) 0 (numN l (k + 1) 2) 0).arr) ∧ Src w' S v l (((k + 3 : Nat) : Int)) ∧ Aside S w w' := by
  have HC := Lib.hid (fun w => cut_is (gN l k) 1 y 3 p q w (h.gN_lt k) hP)
  have K := Lib.hid (ReG.made h)
  have HN := Lib.hid (fun w (h : Src w S v l ((k : Int) + 1)) => number_is S v l (k + 1) 2 _ w h (by omega) (by omega) (by decide))
  clear h hP
  unfold In.arr zeroI at *
  go_enter Tryd.func37, Tryd.ntmps37
  go_wp2_with fail
  refine (next_is S v l k _ _ K.out.src rfl (by omega)).mono ?_
  rintro e w1 ⟨rfl, hs, ha⟩
  have k1 : PlG w S v l ((k : Int) + 1) w1.heap.size ⟨2, 0, gN l k, 0, 0, 0⟩ (w1.alloc (.cells #[.int .i64 2, .int .i64 0, .int .u8 ((gN l k : Nat) : Int), .int .u8 0, .int .u16 0, .int .i64 0] 26)) := (K.out.next hs ha).ins ⟨2, 0, gN l k, 0, 0, 0⟩
  have K1 := Lib.hid k1
  clear hs ha k1 K
  go_upto_region 2 with (fail)
  have k1 := K1.out
  clear K1
  generalize w1.alloc (.cells #[.int .i64 2, .int .i64 0, .int .u8 ((gN l k : Nat) : Int), .int .u8 0, .int .u16 0, .int .i64 0] 26) = w2 at k1 ⊢
  generalize w1.heap.size = g at k1 ⊢
  have c2 : w2.cell? ⟨g, 2, none⟩ = some (.int .u8 ((gN l k : Nat) : Int)) := k1.ins.cell 2 _ rfl
  have K1 := Lib.hid k1
  clear k1
  go_wp2_with fail
  refine (HC.out _).mono ?_
  rintro e w3 ⟨rfl, hb3⟩
  have k3 := K1.out.later (hb3.alloc hb3.size (.cells #[.int .u8 1, .int .u8 y, .int .u8 3, .int .u8 p, .int .u8 q] 46))
  have P3 := Lib.hid (heap_alloc_new w3 (.cells #[.int .u8 1, .int .u8 y, .int .u8 3, .int .u8 p, .int .u8 q] 46))
  have K3 := Lib.hid k3
  clear hb3 k3 K1 c2
  go_upto_region 3 with (fail)
  have k4 := K3.out
  have p4 := P3.out
  clear K3 P3
  generalize w3.alloc (.cells #[.int .u8 1, .int .u8 y, .int .u8 3, .int .u8 p, .int .u8 q] 46) = w4 at k4 p4 ⊢
  generalize w3.heap.size = c at p4 ⊢
  have q0 : w4.cell? ⟨c, 0, none⟩ = some (.int .u8 1) := cell_of_row _ _ 0 _ _ (0, 0) p4
  have q2 : w4.cell? ⟨c, 2, none⟩ = some (.int .u8 3) := cell_of_row _ _ 2 _ _ (0, 0) p4
  clear p4
  have K4 := Lib.hid k4
  clear k4
  go_wp2_with fail
  refine (HN.out _ K4.out.src).mono ?_
  rintro e w5 ⟨rfl, hs, ha⟩
  have k5 := K4.out.next hs ha
  clear hs ha K4 q0 q2
  have i0 : w5.cell? ⟨g, 0, none⟩ = some (.int .i64 2) := k5.ins.cell 0 _ rfl
  have i1 : w5.cell? ⟨g, 1, none⟩ = some (.int .i64 0) := k5.ins.cell 1 _ rfl
  have i2 : w5.cell? ⟨g, 2, none⟩ = some (.int .u8 ((gN l k : Nat) : Int)) := k5.ins.cell 2 _ rfl
  have i3 : w5.cell? ⟨g, 3, none⟩ = some (.int .u8 0) := k5.ins.cell 3 _ rfl
  have i4 : w5.cell? ⟨g, 4, none⟩ = some (.int .u16 0) := k5.ins.cell 4 _ rfl
  have i5 : w5.cell? ⟨g, 5, none⟩ = some (.int .i64 0) := k5.ins.cell 5 _ rfl
  have r0 : w5.cell? ⟨w.heap.size, 0, none⟩ = some (.int .i64 0) := k5.res.cell 0 _ rfl
  have r1 : w5.cell? ⟨w.heap.size, 1, none⟩ = some (.int .i64 0) := k5.res.cell 1 _ rfl
  have r2 : w5.cell? ⟨w.heap.size, 2, none⟩ = some (.int .u8 0) := k5.res.cell 2 _ rfl
  have r3 : w5.cell? ⟨w.heap.size, 3, none⟩ = some (.int .u8 0) := k5.res.cell 3 _ rfl
  have r4 : w5.cell? ⟨w.heap.size, 4, none⟩ = some (.int .u16 0) := k5.res.cell 4 _ rfl
  have r5 : w5.cell? ⟨w.heap.size, 5, none⟩ = some (.int .i64 0) := k5.res.cell 5 _ rfl
  have f0 := k5.res.free 0
  have f1 := k5.res.free 1
  have f2 := k5.res.free 2
  have f3 := k5.res.free 3
  have f4 := k5.res.free 4
  have f5 := k5.res.free 5
  have fi := k5.ins.free 4
  have hne : w.heap.size ≠ g := Nat.ne_of_lt k5.hi
  have hne2 : ¬ (g = w.heap.size) := fun h => hne h.symm
  have K6 := Lib.hid k5
  clear k5
  go_wp2_with fail
  have K7 := K6.out.put (y := ⟨2, 0, gN l k, 0, numN l (k + 1) 2, 0⟩) 4 _ rfl
  exact bodyPost_ret (v := .agg #[.int .i64 2, .int .i64 0, .int .u8 ((gN l k : Nat) : Int), .int .u8 0, .int .u16 ((numN l (k + 1) 2 : Nat) : Int), .int .i64 0]) (by simp [results, Tryd.results37, go_sem, r0, r1, r2, r3, r4, r5]) rfl ⟨rfl, src_fill K7.src K7.lo _ _ _ _ _ _, aside_fill K7.asd (Nat.le_refl _) _ _ _ _ _ _⟩
set_option maxRecDepth 100000 in
set_option maxHeartbeats 1600000 in
theorem more2 (S : Nat) (v : Value) (l : List Nat) (k : Nat) (y z p q : Int) (w : World) (h : Src w S v l k) (hk : k ≤ 40) (hP : Pts (gN l k) 1 y z p q) (hz : (z == 3) = false) : Calls Tryd.prog 37 #[.pointer (some ⟨S, 0, none⟩)] w fun e w' => e = .returned (.agg (In.mk 2 0 (gN l k) 0 0 0).arr) ∧ Src w' S v l (((k + 1 : Nat) : Int)) ∧ Aside S w w' := by
  have HC := Lib.hid (fun w => cut_is (gN l k) 1 y z p q w (h.gN_lt k) hP)
  have K := Lib.hid (ReG.made h)
  clear h hP
  unfold In.arr zeroI at *
  go_enter Tryd.func37, Tryd.ntmps37
  go_wp2_with fail
  refine (next_is S v l k _ _ K.out.src rfl (by omega)).mono ?_
  rintro e w1 ⟨rfl, hs, ha⟩
  have k1 : PlG w S v l ((k : Int) + 1) w1.heap.size ⟨2, 0, gN l k, 0, 0, 0⟩ (w1.alloc (.cells #[.int .i64 2, .int .i64 0, .int .u8 ((gN l k : Nat) : Int), .int .u8 0, .int .u16 0, .int .i64 0] 26)) := (K.out.next hs ha).ins ⟨2, 0, gN l k, 0, 0, 0⟩
  have K1 := Lib.hid k1
  clear hs ha k1 K
  go_upto_region 2 with (fail)
  have k1 := K1.out
  clear K1
  generalize w1.alloc (.cells #[.int .i64 2, .int .i64 0, .int .u8 ((gN l k : Nat) : Int), .int .u8 0, .int .u16 0, .int .i64 0] 26) = w2 at k1 ⊢
  generalize w1.heap.size = g at k1 ⊢
  have c2 : w2.cell? ⟨g, 2, none⟩ = some (.int .u8 ((gN l k : Nat) : Int)) := k1.ins.cell 2 _ rfl
  have K1 := Lib.hid k1
  clear k1
  go_wp2_with fail
  refine (HC.out _).mono ?_
  rintro e w3 ⟨rfl, hb3⟩
  have k3 := K1.out.later (hb3.alloc hb3.size (.cells #[.int .u8 1, .int .u8 y, .int .u8 z, .int .u8 p, .int .u8 q] 46))
  have P3 := Lib.hid (heap_alloc_new w3 (.cells #[.int .u8 1, .int .u8 y, .int .u8 z, .int .u8 p, .int .u8 q] 46))
  have K3 := Lib.hid k3
  clear hb3 k3 K1 c2
  have hgl := K3.out.res.lt
  go_upto_region 3 with (fail)
  have k4 := K3.out
  have p4 := P3.out
  clear K3 P3 hgl
  generalize w3.alloc (.cells #[.int .u8 1, .int .u8 y, .int .u8 z, .int .u8 p, .int .u8 q] 46) = w4 at k4 p4 ⊢
  generalize w3.heap.size = c at p4 ⊢
  have q0 : w4.cell? ⟨c, 0, none⟩ = some (.int .u8 1) := cell_of_row _ _ 0 _ _ (0, 0) p4
  have q2 : w4.cell? ⟨c, 2, none⟩ = some (.int .u8 z) := cell_of_row _ _ 2 _ _ (0, 0) p4
  clear p4
  have i0 : w4.cell? ⟨g, 0, none⟩ = some (.int .i64 2) := k4.ins.cell 0 _ rfl
  have i1 : w4.cell? ⟨g, 1, none⟩ = some (.int .i64 0) := k4.ins.cell 1 _ rfl
  have i2 : w4.cell? ⟨g, 2, none⟩ = some (.int .u8 ((gN l k : Nat) : Int)) := k4.ins.cell 2 _ rfl
  have i3 : w4.cell? ⟨g, 3, none⟩ = some (.int .u8 0) := k4.ins.cell 3 _ rfl
  have i4 : w4.cell? ⟨g, 4, none⟩ = some (.int .u16 0) := k4.ins.cell 4 _ rfl
  have i5 : w4.cell? ⟨g, 5, none⟩ = some (.int .i64 0) := k4.ins.cell 5 _ rfl
  have r0 : w4.cell? ⟨w.heap.size, 0, none⟩ = some (.int .i64 0) := k4.res.cell 0 _ rfl
  have r1 : w4.cell? ⟨w.heap.size, 1, none⟩ = some (.int .i64 0) := k4.res.cell 1 _ rfl
  have r2 : w4.cell? ⟨w.heap.size, 2, none⟩ = some (.int .u8 0) := k4.res.cell 2 _ rfl
  have r3 : w4.cell? ⟨w.heap.size, 3, none⟩ = some (.int .u8 0) := k4.res.cell 3 _ rfl
  have r4 : w4.cell? ⟨w.heap.size, 4, none⟩ = some (.int .u16 0) := k4.res.cell 4 _ rfl
  have r5 : w4.cell? ⟨w.heap.size, 5, none⟩ = some (.int .i64 0) := k4.res.cell 5 _ rfl
  have f0 := k4.res.free 0
  have f1 := k4.res.free 1
  have f2 := k4.res.free 2
  have f3 := k4.res.free 3
  have f4 := k4.res.free 4
  have f5 := k4.res.free 5
  have K6 := Lib.hid k4
  clear k4
  go_wp2_with fail
  have K7 := K6.out
  exact bodyPost_ret (v := .agg #[.int .i64 2, .int .i64 0, .int .u8 ((gN l k : Nat) : Int), .int .u8 0, .int .u16 0, .int .i64 0]) (by simp [results, Tryd.results37, go_sem, r0, r1, r2, r3, r4, r5]) rfl ⟨rfl, src_fill K7.src K7.lo _ _ _ _ _ _, aside_fill K7.asd (Nat.le_refl _) _ _ _ _ _ _⟩
set_option maxRecDepth 100000 in
set_option maxHeartbeats 1600000 in
theorem more3 (S : Nat) (v : Value) (l : List Nat) (k : Nat) (a y z p q : Int) (w : World) (h : Src w S v l k) (hk : k ≤ 40) (hP : Pts (gN l k) a y z p q) (ha : (a == 1) = false) : Calls Tryd.prog 37 #[.pointer (some ⟨S, 0, none⟩)] w fun e w' => e = .returned (.agg (In.mk 2 0 (gN l k) 0 0 0).arr) ∧ Src w' S v l (((k + 1 : Nat) : Int)) ∧ Aside S w w' := by
  have HC := Lib.hid (fun w => cut_is (gN l k) a y z p q w (h.gN_lt k) hP)
  have K := Lib.hid (ReG.made h)
  clear h hP
  unfold In.arr zeroI at *
  go_enter Tryd.func37, Tryd.ntmps37
  go_wp2_with fail
  refine (next_is S v l k _ _ K.out.src rfl (by omega)).mono ?_
  rintro e w1 ⟨rfl, hs, ha⟩
  have k1 : PlG w S v l ((k : Int) + 1) w1.heap.size ⟨2, 0, gN l k, 0, 0, 0⟩ (w1.alloc (.cells #[.int .i64 2, .int .i64 0, .int .u8 ((gN l k : Nat) : Int), .int .u8 0, .int .u16 0, .int .i64 0] 26)) := (K.out.next hs ha).ins ⟨2, 0, gN l k, 0, 0, 0⟩
  have K1 := Lib.hid k1
  clear hs ha k1 K
  go_upto_region 2 with (fail)
  have k1 := K1.out
  clear K1
  generalize w1.alloc (.cells #[.int .i64 2, .int .i64 0, .int .u8 ((gN l k : Nat) : Int), .int .u8 0, .int .u16 0, .int .i64 0] 26) = w2 at k1 ⊢
  generalize w1.heap.size = g at k1 ⊢
  have c2 : w2.cell? ⟨g, 2, none⟩ = some (.int .u8 ((gN l k : Nat) : Int)) := k1.ins.cell 2 _ rfl
  have K1 := Lib.hid k1
  clear k1
  go_wp2_with fail
  refine (HC.out _).mono ?_
  rintro e w3 ⟨rfl, hb3⟩
  have k3 := K1.out.later (hb3.alloc hb3.size (.cells #[.int .u8 a, .int .u8 y, .int .u8 z, .int .u8 p, .int .u8 q] 46))
  have P3 := Lib.hid (heap_alloc_new w3 (.cells #[.int .u8 a, .int .u8 y, .int .u8 z, .int .u8 p, .int .u8 q] 46))
  have K3 := Lib.hid k3
  clear hb3 k3 K1 c2
  have hgl := K3.out.res.lt
  go_upto_region 3 with (fail)
  have k4 := K3.out
  have p4 := P3.out
  clear K3 P3 hgl
  generalize w3.alloc (.cells #[.int .u8 a, .int .u8 y, .int .u8 z, .int .u8 p, .int .u8 q] 46) = w4 at k4 p4 ⊢
  generalize w3.heap.size = c at p4 ⊢
  have q0 : w4.cell? ⟨c, 0, none⟩ = some (.int .u8 a) := cell_of_row _ _ 0 _ _ (0, 0) p4
  have q2 : w4.cell? ⟨c, 2, none⟩ = some (.int .u8 z) := cell_of_row _ _ 2 _ _ (0, 0) p4
  clear p4
  have i0 : w4.cell? ⟨g, 0, none⟩ = some (.int .i64 2) := k4.ins.cell 0 _ rfl
  have i1 : w4.cell? ⟨g, 1, none⟩ = some (.int .i64 0) := k4.ins.cell 1 _ rfl
  have i2 : w4.cell? ⟨g, 2, none⟩ = some (.int .u8 ((gN l k : Nat) : Int)) := k4.ins.cell 2 _ rfl
  have i3 : w4.cell? ⟨g, 3, none⟩ = some (.int .u8 0) := k4.ins.cell 3 _ rfl
  have i4 : w4.cell? ⟨g, 4, none⟩ = some (.int .u16 0) := k4.ins.cell 4 _ rfl
  have i5 : w4.cell? ⟨g, 5, none⟩ = some (.int .i64 0) := k4.ins.cell 5 _ rfl
  have r0 : w4.cell? ⟨w.heap.size, 0, none⟩ = some (.int .i64 0) := k4.res.cell 0 _ rfl
  have r1 : w4.cell? ⟨w.heap.size, 1, none⟩ = some (.int .i64 0) := k4.res.cell 1 _ rfl
  have r2 : w4.cell? ⟨w.heap.size, 2, none⟩ = some (.int .u8 0) := k4.res.cell 2 _ rfl
  have r3 : w4.cell? ⟨w.heap.size, 3, none⟩ = some (.int .u8 0) := k4.res.cell 3 _ rfl
  have r4 : w4.cell? ⟨w.heap.size, 4, none⟩ = some (.int .u16 0) := k4.res.cell 4 _ rfl
  have r5 : w4.cell? ⟨w.heap.size, 5, none⟩ = some (.int .i64 0) := k4.res.cell 5 _ rfl
  have f0 := k4.res.free 0
  have f1 := k4.res.free 1
  have f2 := k4.res.free 2
  have f3 := k4.res.free 3
  have f4 := k4.res.free 4
  have f5 := k4.res.free 5
  have K6 := Lib.hid k4
  clear k4
  go_wp2_with fail
  have K7 := K6.out
  exact bodyPost_ret (v := .agg #[.int .i64 2, .int .i64 0, .int .u8 ((gN l k : Nat) : Int), .int .u8 0, .int .u16 0, .int .i64 0]) (by simp [results, Tryd.results37, go_sem, r0, r1, r2, r3, r4, r5]) rfl ⟨rfl, src_fill K7.src K7.lo _ _ _ _ _ _, aside_fill K7.asd (Nat.le_refl _) _ _ _ _ _ _⟩
theorem more_any (S : Nat) (v : Value) (l : List Nat) (k : Nat) (w : World) (h : Src w S v l k) (hk : k ≤ 40) : Calls Tryd.prog 37 #[.pointer (some ⟨S, 0, none⟩)] w fun e w' => e = .returned (.agg (moreR l k).arr) ∧ Src w' S v l ((moreK l k : Nat) : Int) ∧ Aside S w w' := by
  obtain ⟨a, y, z, p, q, hP⟩ := pts (gN l k)
  have hx := moreX_is _ a y z p q hP
  unfold moreR moreK
  by_cases h1 : a = 1
  · subst h1
    by_cases h3 : z = 3
    · subst h3
      have hx' : moreX (gN l k) = true := by rw [hx]; rfl
      rw [if_pos hx', if_pos hx']
      exact more1 S v l k y p q w h hk hP
    · have hz : (z == 3) = false := by simpa using h3
      have hx' : ¬ moreX (gN l k) = true := by rw [hx, hz]; decide
      rw [if_neg hx', if_neg hx']
      exact more2 S v l k y z p q w h hk hP hz
  · have ha : (a == 1) = false := by simpa using h1
    have hx' : ¬ moreX (gN l k) = true := by rw [hx, ha]; simp
    rw [if_neg hx', if_neg hx']
    exact more3 S v l k a y z p q w h hk hP ha


end Go.Proofs.YtkjibnnoeceaeaaDoor
