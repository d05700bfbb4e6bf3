/- op's reading of a plain code: its contract. -/
import Derived.Test.YtkjibnnoeceaeaaDoorOpSrc
namespace Go.Proofs.YtkjibnnoeceaeaaDoor
open Go.RowKit

theorem Aside.fresh {S R j : Nat} {w u : World} (h : Aside S w u) (hR : w.heap.size ≤ R) (v : Value) : Aside S w (u.setCell ⟨R, j, none⟩ v) :=
  ⟨h.os, h.tape, h.output, by simp only [World.setCell, Array.size_modify]; exact h.size, fun k hk hn => (Below.heap_setCell _ _ _ _ (show k ≠ R by omega)).trans (h.block k hk hn)⟩
theorem Src.fresh {u : World} {S R j : Nat} {v : Value} {l : List Nat} {k : Int} (h : Src u S v l k) (hR : S < R) (x : Value) : Src (u.setCell ⟨R, j, none⟩ x) S v l k :=
  ⟨(Below.heap_setCell _ _ _ _ (show S ≠ R by omega)).trans h.row, h.bytes.keep fun i hi => Below.heap_setCell _ _ _ _ (show i ≠ R by omega)⟩

/-- Block b is the instruction x. -/
def OwnI (u : World) (b : Nat) (x : In) : Prop := u.heap[b]? = some (.cells x.arr 26 (0, 0))
theorem OwnI.lt {u : World} {b : Nat} {x : In} (h : OwnI u b x) : b < u.heap.size := (Array.getElem?_eq_some_iff.1 h).1
theorem OwnI.cell {u : World} {b : Nat} {x : In} (h : OwnI u b x) (j : Nat) (v : Value) (hv : x.arr[j]? = some v) : u.cell? ⟨b, j, none⟩ = some v := (cell_of_row _ _ j _ _ (0, 0) h).trans hv
theorem OwnI.free {u : World} {b : Nat} {x : In} (h : OwnI u b x) (j : Nat) : u.frozen? ⟨b, j, none⟩ = false := frozen_of_row u b j _ _ h
theorem OwnI.later {u u' : World} {b : Nat} {x : In} (h : OwnI u b x) (hb : Below u.heap.size u u') : OwnI u' b x := (hb.block b h.lt).trans h
theorem OwnI.aside {u u' : World} {S b : Nat} {x : In} (h : OwnI u b x) (hb : Aside S u u') (hn : b ≠ S) : OwnI u' b x := (hb.block b h.lt hn).trans h
theorem OwnI.other {u : World} {b c j : Nat} {x : In} (h : OwnI u b x) (hn : b ≠ c) (v : Value) : OwnI (u.setCell ⟨c, j, none⟩ v) b x := (Below.heap_setCell _ _ _ _ (show b ≠ c from hn)).trans h
theorem OwnI.set {u : World} {b : Nat} {x y : In} (h : OwnI u b x) (j : Nat) (v : Value) (hy : x.arr.setIfInBounds j v = y.arr) : OwnI (u.setCell ⟨b, j, none⟩ v) b y := by
  have := heap_setCell_same u b j x.arr _ v h
  rw [hy] at this
  exact this
theorem OwnI.new (w : World) (x : In) : OwnI (w.alloc (.cells x.arr 26)) w.heap.size x := heap_alloc_new _ _
def zeroI : In := ⟨0, 0, 0, 0, 0, 0⟩

/-- A result's block and a local instruction's, one behind the other, beside a source. -/
structure PlAt (w : World) (S : Nat) (v : Value) (l : List Nat) (k : Int) (x : In) (u : World) : Prop where
  src : Src u S v l k
  res : OwnI u w.heap.size zeroI
  ins : OwnI u (w.heap.size + 1) x
  asd : Aside S w u
  lo : S < w.heap.size
theorem PlAt.later {w : World} {S : Nat} {v : Value} {l : List Nat} {k : Int} {x : In} {u u' : World} (h : PlAt w S v l k x u) (hb : Below u.heap.size u u') : PlAt w S v l k x u' :=
  ⟨h.src.later hb, h.res.later hb, h.ins.later hb, h.asd.trans (.of_below hb), h.lo⟩
theorem PlAt.next {w : World} {S : Nat} {v : Value} {l : List Nat} {k k' : Int} {x : In} {u u' : World} (h : PlAt w S v l k x u) (hs : Src u' S v l k') (ha : Aside S u u') : PlAt w S v l k' x u' :=
  ⟨hs, h.res.aside ha (by have := h.lo; omega), h.ins.aside ha (by have := h.lo; omega), h.asd.trans ha, h.lo⟩
theorem PlAt.put {w : World} {S : Nat} {v : Value} {l : List Nat} {k : Int} {x y : In} {u : World} (h : PlAt w S v l k x u) (j : Nat) (z : Value) (hy : x.arr.setIfInBounds j z = y.arr) : PlAt w S v l k y (u.setCell ⟨w.heap.size + 1, j, none⟩ z) :=
  ⟨h.src.fresh (by have := h.lo; omega) _, h.res.other (by omega) _, h.ins.set j z hy, h.asd.fresh (by omega) _, h.lo⟩
theorem PlAt.made {w : World} {S : Nat} {v : Value} {l : List Nat} {k : Int} (h : Src w S v l k) (x : In) : PlAt w S v l k x ((w.alloc (.cells zeroI.arr 26)).alloc (.cells x.arr 26)) := by
  have hz : (w.alloc (.cells zeroI.arr 26)).heap.size = w.heap.size + 1 := by simp
  have h1 : Below w.heap.size w (w.alloc (.cells zeroI.arr 26)) := (Below.refl _ _).alloc (Nat.le_refl _) _
  have h2 : Below (w.alloc (.cells zeroI.arr 26)).heap.size (w.alloc (.cells zeroI.arr 26)) ((w.alloc (.cells zeroI.arr 26)).alloc (.cells x.arr 26)) := (Below.refl _ _).alloc (Nat.le_refl _) _
  have h3 := OwnI.new (w.alloc (.cells zeroI.arr 26)) x
  rw [hz] at h3
  exact ⟨(h.later h1).later h2, (OwnI.new w zeroI).later h2, h3, .of_below (below_step h1 h2), h.lt⟩
/-- The whole instruction written into block b: what goes on. -/
theorem src_fill {u : World} {S b : Nat} {v : Value} {l : List Nat} {k : Int} (h : Src u S v l k) (hb : S < b) (a0 a1 a2 a3 a4 a5 : Value) : Src ((((((u.setCell ⟨b, 0, none⟩ a0).setCell ⟨b, 1, none⟩ a1).setCell ⟨b, 2, none⟩ a2).setCell ⟨b, 3, none⟩ a3).setCell ⟨b, 4, none⟩ a4).setCell ⟨b, 5, none⟩ a5) S v l k :=
  (((((h.fresh hb a0).fresh hb a1).fresh hb a2).fresh hb a3).fresh hb a4).fresh hb a5
theorem aside_fill {w u : World} {S b : Nat} (h : Aside S w u) (hb : w.heap.size ≤ b) (a0 a1 a2 a3 a4 a5 : Value) : Aside S w ((((((u.setCell ⟨b, 0, none⟩ a0).setCell ⟨b, 1, none⟩ a1).setCell ⟨b, 2, none⟩ a2).setCell ⟨b, 3, none⟩ a3).setCell ⟨b, 4, none⟩ a4).setCell ⟨b, 5, none⟩ a5) :=
  (((((h.fresh hb a0).fresh hb a1).fresh hb a2).fresh hb a3).fresh hb a4).fresh hb a5

/-- A plain code, from place k on: whether a distance stands there. -/
def atD (code : Nat) (ix : Int) (k : Nat) : Nat := if 0 < ix ∧ memC code = true then k + 1 else k
def plainR (l : List Nat) (k code : Nat) (ix : Int) : In :=
  ⟨0, ix, code, if 0 < ix ∧ memC code = true then gN l k else 0, numN l (atD code ix k) (argC code), 0⟩
theorem argC_le (c : Nat) (h : c < 256) : argC c ≤ 2 := by
  have := all256 (f := fun c => decide (argC c ≤ 2)) (by decide +kernel) c h
  simpa using this
theorem number_is (S : Nat) (v : Value) (l : List Nat) (k n : Nat) (m : Int) (w : World) (h : Src w S v l m) (hm : m = k) (hk : k ≤ 50) (hn : n ≤ 2) : Calls Tryd.prog 54 #[.pointer (some ⟨S, 0, none⟩), .int .i64 n] w fun e w' => e = .returned (.int .u16 ((numN l k n : Nat) : Int)) ∧ Src w' S v l ((k + n : Nat) : Int) ∧ Aside S w w' := by
  subst hm; exact number_any S v l k n w h hk hn

set_option maxRecDepth 100000 in
set_option maxHeartbeats 1600000 in
theorem plainR_any (S : Nat) (v : Value) (l : List Nat) (k code : Nat) (ix : Int) (w : World) (h : Src w S v l k) (hk : k ≤ 40) (hc : code < 256) (hx0 : 0 ≤ ix) (hx2 : ix ≤ 2) : Calls Tryd.prog 39 #[.pointer (some ⟨S, 0, none⟩), .int .u8 code, .int .i64 ix] w fun e w' => e = .returned (.agg (plainR l k code ix).arr) ∧ Src w' S v l ((atD code ix k + argC code : Nat) : Int) ∧ Aside S w w' := by
  have ha2 := argC_le code hc
  have HA := Lib.hid (fun w => opArgs code w hc)
  have K := Lib.hid (PlAt.made h ⟨0, ix, code, 0, 0, 0⟩)
  by_cases hx : 0 < ix
  · have hx1 : decide (0 < ix) = true := by simpa using hx
    by_cases hm : memC code = true
    · have hd : 0 < ix ∧ memC code = true := ⟨hx, hm⟩
      have HM := Lib.hid (fun w => opMemIs code true w hc hm)
      clear hm hx
      have ed : atD code ix k = k + 1 := by unfold atD; rw [if_pos hd]
      have eR : plainR l k code ix = ⟨0, ix, code, gN l k, numN l (k + 1) (argC code), 0⟩ := by unfold plainR; rw [ed, if_pos hd]
      rw [ed, eR]
      have HN := Lib.hid (fun w (h : Src w S v l ((k : Int) + 1)) => number_is S v l (k + 1) (argC code) _ w h (by omega) (by omega) ha2)
      clear h hd ed eR ha2 hx0 hx2
      unfold In.arr zeroI at *
      go_enter Tryd.func39, Tryd.ntmps39
      go_wp2_with fail
      refine (HM.out _).mono ?_
      rintro e w1 ⟨rfl, hb1⟩
      have k1 := K.out.later hb1
      have K1 := Lib.hid k1
      clear hb1 K k1
      go_wp2_with fail
      refine (next_is S v l k _ _ K1.out.src rfl (by omega)).mono ?_
      rintro e w2 ⟨rfl, hs, ha⟩
      have k2 := K1.out.next hs ha
      have c3 : w2.cell? ⟨w.heap.size + 1, 3, none⟩ = some (.int .u8 0) := k2.ins.cell 3 _ rfl
      have f3 := k2.ins.free 3
      have K2 := Lib.hid k2
      clear hs ha K1 k2
      go_wp2_with fail
      refine (HA.out _).mono ?_
      rintro e w3 ⟨rfl, hb3⟩
      have k3 := (K2.out.put (y := ⟨0, ix, code, gN l k, 0, 0⟩) 3 _ rfl).later hb3
      have K3 := Lib.hid k3
      clear hb3 k3 K2 c3 f3
      go_wp2_with fail
      refine (HN.out _ K3.out.src).mono ?_
      rintro e w4 ⟨rfl, hs, ha⟩
      have k4 := K3.out.next hs ha
      clear hs ha K3
      have i0 : w4.cell? ⟨w.heap.size + 1, 0, none⟩ = some (.int .i64 0) := k4.ins.cell 0 _ rfl
      have i1 : w4.cell? ⟨w.heap.size + 1, 1, none⟩ = some (.int .i64 ix) := k4.ins.cell 1 _ rfl
      have i2 : w4.cell? ⟨w.heap.size + 1, 2, none⟩ = some (.int .u8 (code : Int)) := k4.ins.cell 2 _ rfl
      have i3 : w4.cell? ⟨w.heap.size + 1, 3, none⟩ = some (.int .u8 ((gN l k : Nat) : Int)) := k4.ins.cell 3 _ rfl
      have i4 : w4.cell? ⟨w.heap.size + 1, 4, none⟩ = some (.int .u16 0) := k4.ins.cell 4 _ rfl
      have i5 : w4.cell? ⟨w.heap.size + 1, 5, none⟩ = some (.int .i64 0) := k4.ins.cell 5 _ rfl
      have f4 := k4.ins.free 4
      have r0 : w4.cell? ⟨w.heap.size, 0, none⟩ = some (.int .i64 0) := k4.res.cell 0 _ rfl
      have r1 : w4.cell? ⟨w.heap.size, 1, none⟩ = some (.int .i64 0) := k4.res.cell 1 _ rfl
      have r2 : w4.cell? ⟨w.heap.size, 2, none⟩ = some (.int .u8 0) := k4.res.cell 2 _ rfl
      have r3 : w4.cell? ⟨w.heap.size, 3, none⟩ = some (.int .u8 0) := k4.res.cell 3 _ rfl
      have r4 : w4.cell? ⟨w.heap.size, 4, none⟩ = some (.int .u16 0) := k4.res.cell 4 _ rfl
      have r5 : w4.cell? ⟨w.heap.size, 5, none⟩ = some (.int .i64 0) := k4.res.cell 5 _ rfl
      have g0 := k4.res.free 0
      have g1 := k4.res.free 1
      have g2 := k4.res.free 2
      have g3 := k4.res.free 3
      have g4 := k4.res.free 4
      have g5 := k4.res.free 5
      have K4 := Lib.hid k4
      clear k4
      go_wp2_with fail
      have K5 := K4.out.put (y := ⟨0, ix, code, gN l k, numN l (k + 1) (argC code), 0⟩) 4 _ rfl
      exact bodyPost_ret (v := .agg #[.int .i64 0, .int .i64 ix, .int .u8 (code : Int), .int .u8 ((gN l k : Nat) : Int), .int .u16 ((numN l (k + 1) (argC code) : Nat) : Int), .int .i64 0]) (by simp [results, Tryd.results39, go_sem, r0, r1, r2, r3, r4, r5]) rfl ⟨rfl, src_fill K5.src K5.lo _ _ _ _ _ _, aside_fill K5.asd (Nat.le_refl _) _ _ _ _ _ _⟩
    · have hd : ¬ (0 < ix ∧ memC code = true) := fun h => hm h.2
      have HM := Lib.hid (fun w => opMemIs code false w hc (by simpa using hm))
      clear hm hx
      have ed : atD code ix k = k := by unfold atD; rw [if_neg hd]
      have eR : plainR l k code ix = ⟨0, ix, code, 0, numN l k (argC code), 0⟩ := by unfold plainR; rw [ed, if_neg hd]
      rw [ed, eR]
      have HN := Lib.hid (fun w (h : Src w S v l (k : Int)) => number_is S v l k (argC code) _ w h (by omega) (by omega) ha2)
      clear h hd ed eR ha2 hx0 hx2
      unfold In.arr zeroI at *
      go_enter Tryd.func39, Tryd.ntmps39
      go_wp2_with fail
      refine (HM.out _).mono ?_
      rintro e w1 ⟨rfl, hb1⟩
      have k1 := K.out.later hb1
      have K1 := Lib.hid k1
      clear hb1 K k1
      go_wp2_with fail
      refine (HA.out _).mono ?_
      rintro e w3 ⟨rfl, hb3⟩
      have k3 := K1.out.later hb3
      have K3 := Lib.hid k3
      clear hb3 k3 K1
      go_wp2_with fail
      refine (HN.out _ K3.out.src).mono ?_
      rintro e w4 ⟨rfl, hs, ha⟩
      have k4 := K3.out.next hs ha
      clear hs ha K3
      have i0 : w4.cell? ⟨w.heap.size + 1, 0, none⟩ = some (.int .i64 0) := k4.ins.cell 0 _ rfl
      have i1 : w4.cell? ⟨w.heap.size + 1, 1, none⟩ = some (.int .i64 ix) := k4.ins.cell 1 _ rfl
      have i2 : w4.cell? ⟨w.heap.size + 1, 2, none⟩ = some (.int .u8 (code : Int)) := k4.ins.cell 2 _ rfl
      have i3 : w4.cell? ⟨w.heap.size + 1, 3, none⟩ = some (.int .u8 0) := k4.ins.cell 3 _ rfl
      have i4 : w4.cell? ⟨w.heap.size + 1, 4, none⟩ = some (.int .u16 0) := k4.ins.cell 4 _ rfl
      have i5 : w4.cell? ⟨w.heap.size + 1, 5, none⟩ = some (.int .i64 0) := k4.ins.cell 5 _ rfl
      have f4 := k4.ins.free 4
      have r0 : w4.cell? ⟨w.heap.size, 0, none⟩ = some (.int .i64 0) := k4.res.cell 0 _ rfl
      have r1 : w4.cell? ⟨w.heap.size, 1, none⟩ = some (.int .i64 0) := k4.res.cell 1 _ rfl
      have r2 : w4.cell? ⟨w.heap.size, 2, none⟩ = some (.int .u8 0) := k4.res.cell 2 _ rfl
      have r3 : w4.cell? ⟨w.heap.size, 3, none⟩ = some (.int .u8 0) := k4.res.cell 3 _ rfl
      have r4 : w4.cell? ⟨w.heap.size, 4, none⟩ = some (.int .u16 0) := k4.res.cell 4 _ rfl
      have r5 : w4.cell? ⟨w.heap.size, 5, none⟩ = some (.int .i64 0) := k4.res.cell 5 _ rfl
      have g0 := k4.res.free 0
      have g1 := k4.res.free 1
      have g2 := k4.res.free 2
      have g3 := k4.res.free 3
      have g4 := k4.res.free 4
      have g5 := k4.res.free 5
      have K4 := Lib.hid k4
      clear k4
      go_wp2_with fail
      have K5 := K4.out.put (y := ⟨0, ix, code, 0, numN l k (argC code), 0⟩) 4 _ rfl
      exact bodyPost_ret (v := .agg #[.int .i64 0, .int .i64 ix, .int .u8 (code : Int), .int .u8 0, .int .u16 ((numN l k (argC code) : Nat) : Int), .int .i64 0]) (by simp [results, Tryd.results39, go_sem, r0, r1, r2, r3, r4, r5]) rfl ⟨rfl, src_fill K5.src K5.lo _ _ _ _ _ _, aside_fill K5.asd (Nat.le_refl _) _ _ _ _ _ _⟩
  · have hd : ¬ (0 < ix ∧ memC code = true) := fun h => hx h.1
    obtain rfl : ix = 0 := by omega
    clear hx
    have ed : atD code 0 k = k := by unfold atD; rw [if_neg hd]
    have eR : plainR l k code 0 = ⟨0, 0, code, 0, numN l k (argC code), 0⟩ := by unfold plainR; rw [ed, if_neg hd]
    rw [ed, eR]
    have HN := Lib.hid (fun w (h : Src w S v l (k : Int)) => number_is S v l k (argC code) _ w h (by omega) (by omega) ha2)
    clear h hd ed eR ha2 hx0 hx2
    unfold In.arr zeroI at *
    go_enter Tryd.func39, Tryd.ntmps39
    go_wp2_with fail
    refine (HA.out _).mono ?_
    rintro e w3 ⟨rfl, hb3⟩
    have k3 := K.out.later hb3
    have K3 := Lib.hid k3
    clear hb3 k3 K
    go_wp2_with fail
    refine (HN.out _ K3.out.src).mono ?_
    rintro e w4 ⟨rfl, hs, ha⟩
    have k4 := K3.out.next hs ha
    clear hs ha K3
    have i0 : w4.cell? ⟨w.heap.size + 1, 0, none⟩ = some (.int .i64 0) := k4.ins.cell 0 _ rfl
    have i1 : w4.cell? ⟨w.heap.size + 1, 1, none⟩ = some (.int .i64 0) := k4.ins.cell 1 _ rfl
    have i2 : w4.cell? ⟨w.heap.size + 1, 2, none⟩ = some (.int .u8 (code : Int)) := k4.ins.cell 2 _ rfl
    have i3 : w4.cell? ⟨w.heap.size + 1, 3, none⟩ = some (.int .u8 0) := k4.ins.cell 3 _ rfl
    have i4 : w4.cell? ⟨w.heap.size + 1, 4, none⟩ = some (.int .u16 0) := k4.ins.cell 4 _ rfl
    have i5 : w4.cell? ⟨w.heap.size + 1, 5, none⟩ = some (.int .i64 0) := k4.ins.cell 5 _ rfl
    have f4 := k4.ins.free 4
    have r0 : w4.cell? ⟨w.heap.size, 0, none⟩ = some (.int .i64 0) := k4.res.cell 0 _ rfl
    have r1 : w4.cell? ⟨w.heap.size, 1, none⟩ = some (.int .i64 0) := k4.res.cell 1 _ rfl
    have r2 : w4.cell? ⟨w.heap.size, 2, none⟩ = some (.int .u8 0) := k4.res.cell 2 _ rfl
    have r3 : w4.cell? ⟨w.heap.size, 3, none⟩ = some (.int .u8 0) := k4.res.cell 3 _ rfl
    have r4 : w4.cell? ⟨w.heap.size, 4, none⟩ = some (.int .u16 0) := k4.res.cell 4 _ rfl
    have r5 : w4.cell? ⟨w.heap.size, 5, none⟩ = some (.int .i64 0) := k4.res.cell 5 _ rfl
    have g0 := k4.res.free 0
    have g1 := k4.res.free 1
    have g2 := k4.res.free 2
    have g3 := k4.res.free 3
    have g4 := k4.res.free 4
    have g5 := k4.res.free 5
    have K4 := Lib.hid k4
    clear k4
    go_wp2_with fail
    have K5 := K4.out.put (y := ⟨0, 0, code, 0, numN l k (argC code), 0⟩) 4 _ rfl
    exact bodyPost_ret (v := .agg #[.int .i64 0, .int .i64 0, .int .u8 (code : Int), .int .u8 0, .int .u16 ((numN l k (argC code) : Nat) : Int), .int .i64 0]) (by simp [results, Tryd.results39, go_sem, r0, r1, r2, r3, r4, r5]) rfl ⟨rfl, src_fill K5.src K5.lo _ _ _ _ _ _, aside_fill K5.asd (Nat.le_refl _) _ _ _ _ _ _⟩

end Go.Proofs.YtkjibnnoeceaeaaDoor
