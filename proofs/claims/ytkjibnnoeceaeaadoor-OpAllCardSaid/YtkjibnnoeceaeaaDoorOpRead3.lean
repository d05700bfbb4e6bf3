/- op.Read: its contract. -/
import Derived.Test.YtkjibnnoeceaeaaDoorOpRead2
namespace Go.Proofs.YtkjibnnoeceaeaaDoor
open Go.RowKit

theorem behK_le (l : List Nat) (k : Nat) (ix : Int) (hb : ∀ j, gN l j < 256) : behK l k ix ≤ k + 4 := by
  unfold behK
  have := argC_le (gN l k) (hb k)
  have := atD_le (gN l k) ix (k + 1)
  split
  · omega
  split
  · omega
  · omega
theorem insK_le (l : List Nat) (hb : ∀ j, gN l j < 256) : insK l ≤ 5 := by
  unfold insK
  have := argC_le (gN l 0) (hb 0)
  have := atD_le (gN l 0) 0 1
  have := behK_le l 1 1 hb
  have := behK_le l 1 2 hb
  have hm : moreK l 1 ≤ 4 := by unfold moreK; split <;> omega
  split
  · omega
  split
  · omega
  split
  · omega
  split
  · omega
  · omega
/-- What Read answers. -/
def readR (l : List Nat) : In := if l.length < insK l then zeroI else { insR l with len := insK l }
def readB (l : List Nat) : Bool := !decide (l.length < insK l)
theorem BytesAt.slice {w : World} {B : Nat} {v : Value} {l : List Nat} (h : BytesAt w B v l) : ∃ A cap, v = .slice A l.length cap ∧ l.length ≤ cap ∧ cap ≤ maxLen := by
  obtain ⟨A, cap, h1, h2, h3, _⟩ := h; exact ⟨A, cap, h1, h2, h3⟩
/-- The result's block, the source behind it. -/
structure RdG (w : World) (v : Value) (l : List Nat) (k : Int) (u : World) : Prop where
  src : Src u (w.heap.size + 1) v l k
  res : OwnI u w.heap.size zeroI
  bel : Below w.heap.size w u
theorem RdG.made {w : World} {v : Value} {l : List Nat} (h : BytesAt w w.heap.size v l) : RdG w v l ((0 : Nat) : Int) ((w.alloc (.cells zeroI.arr 26)).alloc (.cells #[v, .int .i64 0] 43)) := by
  have hz : (w.alloc (.cells zeroI.arr 26)).heap.size = w.heap.size + 1 := by simp
  have h1 : Below w.heap.size w (w.alloc (.cells zeroI.arr 26)) := (Below.refl _ _).alloc (Nat.le_refl _) _
  have h2 : Below (w.alloc (.cells zeroI.arr 26)).heap.size (w.alloc (.cells zeroI.arr 26)) ((w.alloc (.cells zeroI.arr 26)).alloc (.cells #[v, .int .i64 0] 43)) := (Below.refl _ _).alloc (Nat.le_refl _) _
  have h3 := heap_alloc_new (w.alloc (.cells zeroI.arr 26)) (.cells #[v, .int .i64 0] 43)
  rw [hz] at h3
  have h4 := below_step h1 h2
  exact ⟨⟨h3, (h.keep fun k hk => h4.block k hk).more (Nat.le_succ _)⟩, (OwnI.new w zeroI).later h2, h4⟩
theorem RdG.next {w : World} {v : Value} {l : List Nat} {k k' : Int} {u u' : World} (h : RdG w v l k u) (hs : Src u' (w.heap.size + 1) v l k') (ha : Aside (w.heap.size + 1) u u') : RdG w v l k' u' :=
  ⟨hs, h.res.aside ha (by omega), h.bel.trans (ha.below (Nat.le_succ _) h.bel.size)⟩
theorem RdG.later {w : World} {v : Value} {l : List Nat} {k : Int} {u u' : World} (h : RdG w v l k u) (hb : Below u.heap.size u u') : RdG w v l k u' :=
  ⟨h.src.later hb, h.res.later hb, h.bel.trans (hb.mono h.bel.size)⟩
theorem below_fill {w u : World} {b : Nat} (h : Below w.heap.size w u) (hb : w.heap.size ≤ b) (a0 a1 a2 a3 a4 a5 : Value) : Below w.heap.size w ((((((u.setCell ⟨b, 0, none⟩ a0).setCell ⟨b, 1, none⟩ a1).setCell ⟨b, 2, none⟩ a2).setCell ⟨b, 3, none⟩ a3).setCell ⟨b, 4, none⟩ a4).setCell ⟨b, 5, none⟩ a5) :=
  (((((h.setCell hb _).setCell hb _).setCell hb _).setCell hb _).setCell hb _).setCell hb _

set_option maxRecDepth 100000 in
set_option maxHeartbeats 1600000 in
theorem readN (v : Value) (l : List Nat) (w : World) (h : BytesAt w w.heap.size v l) (hn : l.length < insK l) : Calls Tryd.prog 9 #[v] w fun e w' => e = .returned (.tuple #[.agg zeroI.arr, .bool false]) ∧ Below w.heap.size w w' := by
  have K := Lib.hid (RdG.made h)
  obtain ⟨A, cap, rfl, hc, hm⟩ := h.slice
  unfold maxLen at hm
  have hk := insK_le l h.lt
  obtain ⟨x, hx⟩ : ∃ x : In, insR l = x := ⟨_, rfl⟩
  obtain ⟨m, hmm⟩ : ∃ m : Nat, insK l = m := ⟨_, rfl⟩
  have HN := Lib.hid (fun w h => ins_any (w.heap.size) (.slice A l.length cap) l w h)
  clear HN
  have HI : ∀ S u, Src u S (.slice A l.length cap) l ((0 : Nat) : Int) → Calls Tryd.prog 18 #[.pointer (some ⟨S, 0, none⟩)] u fun e w' => e = .returned (.agg x.arr) ∧ Src w' S (.slice A l.length cap) l (m : Int) ∧ Aside S u w' := fun S u h => hx ▸ hmm ▸ ins_any S _ l u h
  have HN := Lib.hid HI
  rw [hmm] at hn hk
  clear h hx hmm HI
  unfold In.arr zeroI at *
  go_enter Tryd.func9, Tryd.ntmps9
  go_wp2_with fail
  refine (HN.out _ _ K.out.src).mono ?_
  rintro e w1 ⟨rfl, hs, ha⟩
  have k1 := K.out.next hs ha
  have hb1 : Below w1.heap.size w1 (w1.alloc (.cells #[.int .i64 x.set, .int .i64 x.ix, .int .u8 (x.code : Int), .int .u8 (x.d : Int), .int .u16 (x.n : Int), .int .i64 x.len] 26)) := (Below.refl _ _).alloc (Nat.le_refl _) _
  have k2 := k1.later hb1
  have o2 : OwnI (w1.alloc (.cells #[.int .i64 x.set, .int .i64 x.ix, .int .u8 (x.code : Int), .int .u8 (x.d : Int), .int .u16 (x.n : Int), .int .i64 x.len] 26)) w1.heap.size x := OwnI.new w1 x
  have K2 := Lib.hid k2
  have O2 := Lib.hid o2
  have HL := Lib.hid k1.res.lt
  clear hs ha K k1 k2 o2 hb1
  go_upto_region 3 with (fail)
  have k2 := K2.out
  have o2 := O2.out
  have hlt := HL.out
  clear K2 O2 HL
  generalize w1.alloc (.cells #[.int .i64 x.set, .int .i64 x.ix, .int .u8 (x.code : Int), .int .u8 (x.d : Int), .int .u16 (x.n : Int), .int .i64 x.len] 26) = w2 at k2 o2 ⊢
  generalize w1.heap.size = g at o2 hlt ⊢
  have c1 := k2.src.c1
  have r0 : w2.cell? ⟨w.heap.size, 0, none⟩ = some (.int .i64 0) := k2.res.cell 0 _ rfl
  have r1 : w2.cell? ⟨w.heap.size, 1, none⟩ = some (.int .i64 0) := k2.res.cell 1 _ rfl
  have r2 : w2.cell? ⟨w.heap.size, 2, none⟩ = some (.int .u8 0) := k2.res.cell 2 _ rfl
  have r3 : w2.cell? ⟨w.heap.size, 3, none⟩ = some (.int .u8 0) := k2.res.cell 3 _ rfl
  have r4 : w2.cell? ⟨w.heap.size, 4, none⟩ = some (.int .u16 0) := k2.res.cell 4 _ rfl
  have r5 : w2.cell? ⟨w.heap.size, 5, none⟩ = some (.int .i64 0) := k2.res.cell 5 _ rfl
  have f0 := k2.res.free 0
  have f1 := k2.res.free 1
  have f2 := k2.res.free 2
  have f3 := k2.res.free 3
  have f4 := k2.res.free 4
  have f5 := k2.res.free 5
  have hd : decide ((l.length : Int) < (m : Int)) = true := by simp; omega
  have B := Lib.hid k2.bel
  have HG := Lib.hid (show w.heap.size ≤ g by omega)
  clear k2 o2 hlt
  go_wp2_with fail
  exact bodyPost_ret (v := .tuple #[.agg #[.int .i64 0, .int .i64 0, .int .u8 0, .int .u8 0, .int .u16 0, .int .i64 0], .bool false]) (by simp [results, Tryd.results9, go_sem, r0, r1, r2, r3, r4, r5]) rfl ⟨rfl, below_fill B.out (Nat.le_refl _) _ _ _ _ _ _⟩
set_option maxRecDepth 100000 in
set_option maxHeartbeats 1600000 in
theorem readY (v : Value) (l : List Nat) (w : World) (h : BytesAt w w.heap.size v l) (hn : insK l ≤ l.length) : Calls Tryd.prog 9 #[v] w fun e w' => e = .returned (.tuple #[.agg ({ insR l with len := insK l } : In).arr, .bool true]) ∧ Below w.heap.size w w' := by
  have K := Lib.hid (RdG.made h)
  obtain ⟨A, cap, rfl, hc, hm⟩ := h.slice
  unfold maxLen at hm
  have hk := insK_le l h.lt
  obtain ⟨x, hx⟩ : ∃ x : In, insR l = x := ⟨_, rfl⟩
  obtain ⟨m, hmm⟩ : ∃ m : Nat, insK l = m := ⟨_, rfl⟩
  have HN := Lib.hid (fun w h => ins_any (w.heap.size) (.slice A l.length cap) l w h)
  clear HN
  have HI : ∀ S u, Src u S (.slice A l.length cap) l ((0 : Nat) : Int) → Calls Tryd.prog 18 #[.pointer (some ⟨S, 0, none⟩)] u fun e w' => e = .returned (.agg x.arr) ∧ Src w' S (.slice A l.length cap) l (m : Int) ∧ Aside S u w' := fun S u h => hx ▸ hmm ▸ ins_any S _ l u h
  have HN := Lib.hid HI
  rw [hmm] at hn hk
  rw [hx, hmm]
  clear h hx hmm HI
  unfold In.arr zeroI at *
  go_enter Tryd.func9, Tryd.ntmps9
  go_wp2_with fail
  refine (HN.out _ _ K.out.src).mono ?_
  rintro e w1 ⟨rfl, hs, ha⟩
  have k1 := K.out.next hs ha
  have hb1 : Below w1.heap.size w1 (w1.alloc (.cells #[.int .i64 x.set, .int .i64 x.ix, .int .u8 (x.code : Int), .int .u8 (x.d : Int), .int .u16 (x.n : Int), .int .i64 x.len] 26)) := (Below.refl _ _).alloc (Nat.le_refl _) _
  have k2 := k1.later hb1
  have o2 : OwnI (w1.alloc (.cells #[.int .i64 x.set, .int .i64 x.ix, .int .u8 (x.code : Int), .int .u8 (x.d : Int), .int .u16 (x.n : Int), .int .i64 x.len] 26)) w1.heap.size x := OwnI.new w1 x
  have K2 := Lib.hid k2
  have O2 := Lib.hid o2
  have HL := Lib.hid k1.res.lt
  clear hs ha K k1 k2 o2 hb1
  go_upto_region 3 with (fail)
  have k2 := K2.out
  have o2 := O2.out
  have hlt := HL.out
  clear K2 O2 HL
  generalize w1.alloc (.cells #[.int .i64 x.set, .int .i64 x.ix, .int .u8 (x.code : Int), .int .u8 (x.d : Int), .int .u16 (x.n : Int), .int .i64 x.len] 26) = w2 at k2 o2 ⊢
  generalize w1.heap.size = g at o2 hlt ⊢
  have c1 := k2.src.c1
  have r0 : w2.cell? ⟨w.heap.size, 0, none⟩ = some (.int .i64 0) := k2.res.cell 0 _ rfl
  have r1 : w2.cell? ⟨w.heap.size, 1, none⟩ = some (.int .i64 0) := k2.res.cell 1 _ rfl
  have r2 : w2.cell? ⟨w.heap.size, 2, none⟩ = some (.int .u8 0) := k2.res.cell 2 _ rfl
  have r3 : w2.cell? ⟨w.heap.size, 3, none⟩ = some (.int .u8 0) := k2.res.cell 3 _ rfl
  have r4 : w2.cell? ⟨w.heap.size, 4, none⟩ = some (.int .u16 0) := k2.res.cell 4 _ rfl
  have r5 : w2.cell? ⟨w.heap.size, 5, none⟩ = some (.int .i64 0) := k2.res.cell 5 _ rfl
  have f0 := k2.res.free 0
  have f1 := k2.res.free 1
  have f2 := k2.res.free 2
  have f3 := k2.res.free 3
  have f4 := k2.res.free 4
  have f5 := k2.res.free 5
  have i0 : w2.cell? ⟨g, 0, none⟩ = some (.int .i64 x.set) := o2.cell 0 _ rfl
  have i1 : w2.cell? ⟨g, 1, none⟩ = some (.int .i64 x.ix) := o2.cell 1 _ rfl
  have i2 : w2.cell? ⟨g, 2, none⟩ = some (.int .u8 (x.code : Int)) := o2.cell 2 _ rfl
  have i3 : w2.cell? ⟨g, 3, none⟩ = some (.int .u8 (x.d : Int)) := o2.cell 3 _ rfl
  have i4 : w2.cell? ⟨g, 4, none⟩ = some (.int .u16 (x.n : Int)) := o2.cell 4 _ rfl
  have i5 : w2.cell? ⟨g, 5, none⟩ = some (.int .i64 x.len) := o2.cell 5 _ rfl
  have fi := o2.free 5
  have hg : ¬ (w.heap.size = g) := by omega
  have hg2 : ¬ (g = w.heap.size) := by omega
  have hd : decide ((l.length : Int) < (m : Int)) = false := by simp; omega
  have B := Lib.hid k2.bel
  have HG := Lib.hid (show w.heap.size ≤ g by omega)
  clear k2 o2 hlt
  go_wp2_with fail
  exact bodyPost_ret (v := .tuple #[.agg #[.int .i64 x.set, .int .i64 x.ix, .int .u8 (x.code : Int), .int .u8 (x.d : Int), .int .u16 (x.n : Int), .int .i64 (m : Int)], .bool true]) (by simp [results, Tryd.results9, go_sem, r0, r1, r2, r3, r4, r5]) rfl ⟨rfl, below_fill (B.out.setCell HG.out _) (Nat.le_refl _) _ _ _ _ _ _⟩
theorem read_any (v : Value) (l : List Nat) (w : World) (h : BytesAt w w.heap.size v l) : Calls Tryd.prog 9 #[v] w fun e w' => e = .returned (.tuple #[.agg (readR l).arr, .bool (readB l)]) ∧ Below w.heap.size w w' := by
  unfold readR readB
  by_cases hn : l.length < insK l
  · rw [if_pos hn, decide_eq_true hn]
    exact readN v l w h hn
  · rw [if_neg hn, decide_eq_false hn]
    exact readY v l w h (by omega)

end Go.Proofs.YtkjibnnoeceaeaaDoor
