/- A board in a block; the rows that it owns. -/
import Derived.Test.YtkcfacbnbjkheaaDoorBoardZero
import Derived.Deep.AppendLies
import Derived.Deep.MidRow
import Derived.BigQuiet
import Derived.RegionTactic
namespace Go.Proofs.YtkcfacbnbjkheaaDoor
open Go.RowKit

/-- The acts as cells, four an act. -/
def flatA : List Ac → List Value
  | [] => []
  | s :: l => .int .u64 s.t :: .bool s.out :: .int .u16 s.port :: .int .u8 s.v :: flatA l
theorem flatA_len : ∀ l : List Ac, (flatA l).length = l.length * 4
  | [] => rfl
  | s :: l => by simp only [flatA, List.length_cons, flatA_len l]; omega
theorem flatA_app : ∀ a b : List Ac, flatA (a ++ b) = flatA a ++ flatA b
  | [], b => rfl
  | s :: a, b => by simp only [flatA, List.cons_append, flatA_app a b]
theorem flatA_one : ∀ l : List Ac, ∀ u ∈ flatA l, u.oneCell' = true
  | [], u, h => by simp [flatA] at h
  | s :: l, u, h => by
    simp only [flatA, List.mem_cons] at h
    rcases h with rfl | rfl | rfl | rfl | h
    · rfl
    · rfl
    · rfl
    · rfl
    · exact flatA_one l u h
def u64V (n : Int) : Value := .int .u64 n

theorem bC_M (s : St) (va ve : Value) (a : Nat) (h : a < 65536) : bC s va ve a = .int .u8 (s.M a) := by unfold bC; rw [if_pos h]
theorem bC_S (s : St) (va ve : Value) (r : Nat) (h : r < 8) : bC s va ve (65536 + r) = .int .u8 (rowV s.S r) := by
  unfold bC
  rw [if_neg (by omega), if_pos (by omega), Nat.add_sub_cancel_left]
theorem bC_pic (s : St) (va ve : Value) (p : Nat) (h : p < 12288) : bC s va ve (65552 + p) = .int .u8 (s.pic p) := by
  unfold bC
  rw [if_neg (by omega), if_neg (by omega), if_neg (by omega), if_neg (by omega), if_neg (by omega), if_neg (by omega), if_neg (by omega), if_neg (by omega), if_neg (by omega), if_neg (by omega), if_pos (by omega), Nat.add_sub_cancel_left]
theorem set_M (s : St) (va ve : Value) (a : Nat) (v : Int) (h : a < 65536) : upd (bC s va ve) a (.int .u8 v) = bC { s with M := updN s.M a v } va ve := by
  funext j
  by_cases e : j = a
  · subst e
    rw [upd_same, bC_M _ _ _ _ h]
    simp only [updN_same]
  · simp only [upd, if_neg e, bC, updN]
theorem set_S (s : St) (va ve : Value) (R J : Nat) (on : Bool) (h : R < 8) (hJ : J < 5) : upd (bC s va ve) (65536 + R) (.int .u8 (rowV (setS s.S (5 * R + J) on) R)) = bC { s with S := setS s.S (5 * R + J) on } va ve := by
  funext j
  by_cases e : j = 65536 + R
  · subst e
    rw [upd_same, bC_S _ _ _ _ h]
  · simp only [upd, if_neg e, bC]
    by_cases c : j < 65536
    · rw [if_pos c, if_pos c]
    · rw [if_neg c, if_neg c]
      by_cases d : j < 65544
      · rw [if_pos d, if_pos d, rowV_far]
        omega
      · rw [if_neg d, if_neg d]
theorem set_pic (s : St) (va ve : Value) (p : Nat) (v : Int) (h : p < 12288) : upd (bC s va ve) (65552 + p) (.int .u8 v) = bC { s with pic := updN s.pic p v } va ve := by
  funext j
  by_cases e : j = 65552 + p
  · subst e
    rw [upd_same, bC_pic _ _ _ _ h]
    simp only [updN_same]
  · simp only [upd, if_neg e, bC, updN]
    by_cases c : j < 65552
    · by_cases c0 : j < 65536
      · rw [if_pos c0, if_pos c0]
      · by_cases c1 : j < 65544
        · rw [if_neg c0, if_neg c0, if_pos c1, if_pos c1]
        · rw [if_neg c0, if_neg c0, if_neg c1, if_neg c1]
          have d : j = 65544 ∨ j = 65545 ∨ j = 65546 ∨ j = 65547 ∨ j = 65548 ∨ j = 65549 ∨ j = 65550 ∨ j = 65551 := by omega
          rcases d with rfl | rfl | rfl | rfl | rfl | rfl | rfl | rfl <;> rfl
    · rw [if_neg (show ¬ j - 65552 = p by omega)]
theorem bC_slow (s : St) (va ve : Value) : bC s va ve 65544 = .bool s.slow := rfl
theorem set_slow (s : St) (va ve : Value) (x : Bool) : upd (bC s va ve) 65544 (.bool x) = bC { s with slow := x } va ve := by
  funext j
  by_cases e : j = 65544
  · subst e
    rfl
  · simp only [upd, if_neg e, bC]
theorem bC_ear (s : St) (va ve : Value) : bC s va ve 65545 = .bool s.ear := rfl
theorem set_ear (s : St) (va ve : Value) (x : Bool) : upd (bC s va ve) 65545 (.bool x) = bC { s with ear := x } va ve := by
  funext j
  by_cases e : j = 65545
  · subst e
    rfl
  · simp only [upd, if_neg e, bC]
theorem bC_log (s : St) (va ve : Value) : bC s va ve 65546 = .bool s.log := rfl
theorem set_log (s : St) (va ve : Value) (x : Bool) : upd (bC s va ve) 65546 (.bool x) = bC { s with log := x } va ve := by
  funext j
  by_cases e : j = 65546
  · subst e
    rfl
  · simp only [upd, if_neg e, bC]
theorem bC_t (s : St) (va ve : Value) : bC s va ve 65547 = .int .u64 s.t := rfl
theorem set_t (s : St) (va ve : Value) (x : Int) : upd (bC s va ve) 65547 (.int .u64 x) = bC { s with t := x } va ve := by
  funext j
  by_cases e : j = 65547
  · subst e
    rfl
  · simp only [upd, if_neg e, bC]
theorem bC_frame (s : St) (va ve : Value) : bC s va ve 65548 = .int .i64 s.frame := rfl
theorem set_frame (s : St) (va ve : Value) (x : Int) : upd (bC s va ve) 65548 (.int .i64 x) = bC { s with frame := x } va ve := by
  funext j
  by_cases e : j = 65548
  · subst e
    rfl
  · simp only [upd, if_neg e, bC]
theorem bC_border (s : St) (va ve : Value) : bC s va ve 65549 = .int .u8 s.border := rfl
theorem set_border (s : St) (va ve : Value) (x : Int) : upd (bC s va ve) 65549 (.int .u8 x) = bC { s with border := x } va ve := by
  funext j
  by_cases e : j = 65549
  · subst e
    rfl
  · simp only [upd, if_neg e, bC]
theorem bC_mic (s : St) (va ve : Value) : bC s va ve 65550 = .bool s.mic := rfl
theorem set_mic (s : St) (va ve : Value) (x : Bool) : upd (bC s va ve) 65550 (.bool x) = bC { s with mic := x } va ve := by
  funext j
  by_cases e : j = 65550
  · subst e
    rfl
  · simp only [upd, if_neg e, bC]
theorem bC_spk (s : St) (va ve : Value) : bC s va ve 65551 = .bool s.spk := rfl
theorem set_spk (s : St) (va ve : Value) (x : Bool) : upd (bC s va ve) 65551 (.bool x) = bC { s with spk := x } va ve := by
  funext j
  by_cases e : j = 65551
  · subst e
    rfl
  · simp only [upd, if_neg e, bC]
theorem bC_va (s : St) (va ve : Value) : bC s va ve 77840 = va := rfl
theorem bC_ve (s : St) (va ve : Value) : bC s va ve 77841 = ve := rfl
theorem set_va (s : St) (va ve x : Value) : upd (bC s va ve) 77840 x = bC s x ve := by
  funext j
  by_cases e : j = 77840
  · subst e
    rfl
  · simp only [upd, if_neg e, bC]
theorem set_ve (s : St) (va ve x : Value) (j : Nat) (h : j < 77842) : upd (bC s va ve) 77841 x j = bC s va x j := by
  by_cases e : j = 77841
  · subst e
    rfl
  · have c : j < 77840 ∨ j = 77840 := by omega
    rcases c with c | c
    · simp only [upd, if_neg e, bC, if_pos c]
    · subst c
      rfl

/-- Other worlds: all blocks but those of F are as they were. -/
structure Ch (F : Nat → Prop) (w w' : World) : Prop where
  os : w'.os = w.os
  tape : w'.tape = w.tape
  output : w'.output = w.output
  size : w.heap.size ≤ w'.heap.size
  block : ∀ k, k < w.heap.size → ¬ F k → w'.heap[k]? = w.heap[k]?
theorem Ch.of_below {F : Nat → Prop} {w w' : World} (h : Below w.heap.size w w') : Ch F w w' := ⟨h.os, h.tape, h.output, h.size, fun k hk _ => h.block k hk⟩
theorem Ch.refl (F : Nat → Prop) (w : World) : Ch F w w := Ch.of_below (Below.refl _ _)
theorem Ch.trans {F G : Nat → Prop} {a b c : World} (h : Ch F a b) (k : Ch G b c) (hG : ∀ i, G i → F i ∨ a.heap.size ≤ i) : Ch F a c :=
  ⟨k.os.trans h.os, k.tape.trans h.tape, k.output.trans h.output, Nat.le_trans h.size k.size, fun i hi hF => (k.block i (Nat.lt_of_lt_of_le hi h.size) (fun hg => by
    rcases hG i hg with x | x
    · exact hF x
    · omega)).trans (h.block i hi hF)⟩
theorem Ch.below {F : Nat → Prop} {w w' : World} {B : Nat} (h : Ch F w w') (hF : ∀ k, F k → B ≤ k) (hB : B ≤ w.heap.size) : Below B w w' :=
  ⟨h.os, h.tape, h.output, h.size, fun k hk => h.block k (by omega) (fun x => by have := hF k x; omega)⟩
theorem Ch.set {F : Nat → Prop} (w : World) (b j : Nat) (v : Value) (h : F b) : Ch F w (w.setCell ⟨b, j, none⟩ v) :=
  ⟨rfl, rfl, rfl, by simp [World.setCell], fun k _ hk => Below.heap_setCell _ _ _ _ (fun e => by subst e; exact hk h)⟩
theorem Ch.drew {F : Nat → Prop} {w w' : World} (h : Ch F w w') (n : Nat) : Ch F w (w'.drewN n) := ⟨h.os, h.tape, h.output, h.size, h.block⟩

/-- The blocks of a board: its own, and those of its two rows. -/
def Fb (b : Nat) (va ve : Value) (k : Nat) : Prop := k = b ∨ va.ownBlock = some k ∨ ve.ownBlock = some k
/-- The board s lies in block b, with its rows, all of them in blocks from base on. -/
structure BAt (w : World) (b base : Nat) (s : St) (va ve : Value) : Prop where
  cells : Cells w b 40 77842 (bC s va ve)
  lo : base ≤ b
  row : w.ownsRow base 84 4 va s.acts.length (flatA s.acts)
  tim : w.ownsRow base 35 1 ve s.edges.length (s.edges.map u64V)
theorem own_ty {w : World} {base : Nat} {e ty : TypeId} {size : Nat} {v : Value} {n : Nat} {xs : List Value} {b m : Nat} {C : Nat → Value} (h : w.ownsRow base e size v n xs) (hc : Cells w b ty m C) (hne : e ≠ ty) : v.ownBlock ≠ some b := by
  rcases h.2 with ⟨rfl, _⟩ | ⟨g, cap, cur, rfl, _, hg, _⟩
  · simp [Value.ownBlock]
  · intro e'
    simp only [Value.ownBlock, Option.some.injEq] at e'
    subst e'
    obtain ⟨A, hA, _⟩ := hc
    rw [hA] at hg
    injection hg with hg
    injection hg with _ h2 _
    exact hne h2.symm
theorem own_own {w : World} {base base' : Nat} {e ty : TypeId} {size size' : Nat} {v u : Value} {n m : Nat} {xs ys : List Value} (h : w.ownsRow base e size v n xs) (k : w.ownsRow base' ty size' u m ys) (hne : e ≠ ty) : v.ownBlock = none ∨ v.ownBlock ≠ u.ownBlock := by
  rcases h.2 with ⟨rfl, _⟩ | ⟨g, cap, cur, rfl, _, hg, _⟩
  · exact Or.inl rfl
  · right
    rcases k.2 with ⟨rfl, _⟩ | ⟨g', cap', cur', rfl, _, hg', _⟩
    · simp [Value.ownBlock]
    · intro e'
      simp only [Value.ownBlock, Option.some.injEq] at e'
      subst e'
      rw [hg] at hg'
      injection hg' with hg'
      injection hg' with _ h2 _
      exact hne h2
theorem own_keep {w w' : World} {base : Nat} {e : TypeId} {size : Nat} {v : Value} {n : Nat} {xs : List Value} (h : w.ownsRow base e size v n xs) (hb : ∀ k, v.ownBlock = some k → w'.heap[k]? = w.heap[k]?) : w'.ownsRow base e size v n xs := by
  refine ⟨h.1, ?_⟩
  rcases h.2 with hn | ⟨g, cap, cur, rfl, hb', hgg, rest⟩
  · exact .inl hn
  · exact .inr ⟨g, cap, cur, rfl, hb', (hb g rfl).trans hgg, rest⟩
theorem BAt.va_ne {w : World} {b base : Nat} {s : St} {va ve : Value} (h : BAt w b base s va ve) : va.ownBlock ≠ some b := own_ty h.row h.cells (by decide)
theorem BAt.ve_ne {w : World} {b base : Nat} {s : St} {va ve : Value} (h : BAt w b base s va ve) : ve.ownBlock ≠ some b := own_ty h.tim h.cells (by decide)
theorem BAt.lt {w : World} {b base : Nat} {s : St} {va ve : Value} (h : BAt w b base s va ve) : b < w.heap.size := h.cells.lt
theorem BAt.fb_lt {w : World} {b base : Nat} {s : St} {va ve : Value} (h : BAt w b base s va ve) (k : Nat) (hk : Fb b va ve k) : base ≤ k ∧ k < w.heap.size := by
  rcases hk with rfl | hk | hk
  · exact ⟨h.lo, h.lt⟩
  · exact h.row.lt k hk
  · exact h.tim.lt k hk
theorem BAt.keep {w w' : World} {b base : Nat} {s : St} {va ve : Value} (h : BAt w b base s va ve) (hb : ∀ k, Fb b va ve k → w'.heap[k]? = w.heap[k]?) : BAt w' b base s va ve :=
  ⟨h.cells.block (hb b (Or.inl rfl)), h.lo, own_keep h.row fun k hk => hb k (Or.inr (Or.inl hk)), own_keep h.tim fun k hk => hb k (Or.inr (Or.inr hk))⟩
theorem BAt.below {w w' : World} {b base : Nat} {s : St} {va ve : Value} (h : BAt w b base s va ve) (hb : Below w.heap.size w w') : BAt w' b base s va ve := h.keep fun k hk => hb.block k (h.fb_lt k hk).2
theorem BAt.ch {F : Nat → Prop} {w w' : World} {b base : Nat} {s : St} {va ve : Value} (h : BAt w b base s va ve) (hb : Ch F w w') (hF : ∀ k, Fb b va ve k → ¬ F k) : BAt w' b base s va ve := h.keep fun k hk => hb.block k (h.fb_lt k hk).2 (hF k hk)
/-- One cell of the board written. -/
theorem BAt.set {w : World} {b base : Nat} {s s' : St} {va ve : Value} (h : BAt w b base s va ve) (j : Nat) (v : Value) (hC : upd (bC s va ve) j v = bC s' va ve) (ha : s'.acts = s.acts) (he : s'.edges = s.edges) : BAt (w.setCell ⟨b, j, none⟩ v) b base s' va ve := by
  refine ⟨by rw [← hC]; exact h.cells.set j v, h.lo, ?_, ?_⟩
  · rw [ha]; exact own_keep h.row fun k hk => Below.heap_setCell _ _ _ _ (fun e => by subst e; exact h.va_ne hk)
  · rw [he]; exact own_keep h.tim fun k hk => Below.heap_setCell _ _ _ _ (fun e => by subst e; exact h.ve_ne hk)
/-- What a call on a board gives: the board s', and what turned. -/
def Went (b base : Nat) (s' : St) (va ve : Value) (w w' : World) : Prop := ∃ va' ve', BAt w' b base s' va' ve' ∧ Ch (Fb b va ve) w w' ∧ ∀ k, Fb b va' ve' k → Fb b va ve k ∨ w.heap.size ≤ k
theorem Went.stay {w w' : World} {b base : Nat} {s : St} {va ve : Value} (h : BAt w' b base s va ve) (hc : Ch (Fb b va ve) w w') : Went b base s va ve w w' := ⟨va, ve, h, hc, fun _ hk => Or.inl hk⟩
theorem Went.refl {w : World} {b base : Nat} {s : St} {va ve : Value} (h : BAt w b base s va ve) : Went b base s va ve w w := Went.stay h (Ch.refl _ _)
theorem Went.set {w : World} {b base : Nat} {s s' : St} {va ve : Value} (h : BAt w b base s va ve) (j : Nat) (v : Value) (hC : upd (bC s va ve) j v = bC s' va ve) (ha : s'.acts = s.acts) (he : s'.edges = s.edges) : Went b base s' va ve w (w.setCell ⟨b, j, none⟩ v) :=
  Went.stay (h.set j v hC ha he) (Ch.set _ _ _ _ (Or.inl rfl))
theorem Went.below {w w' w'' : World} {b base : Nat} {s : St} {va ve : Value} (h : Went b base s va ve w w') (hb : Below w'.heap.size w' w'') : Went b base s va ve w w'' := by
  obtain ⟨va', ve', h1, h2, h3⟩ := h
  exact ⟨va', ve', h1.below hb, h2.trans (Ch.of_below (F := fun _ => False) hb) (fun i hi => False.elim hi), h3⟩
theorem Went.trans {w w' w'' : World} {b base : Nat} {s' : St} {va ve : Value} {va' ve' : Value} (h2 : Ch (Fb b va ve) w w') (h3 : ∀ k, Fb b va' ve' k → Fb b va ve k ∨ w.heap.size ≤ k) (h : Went b base s' va' ve' w' w'') : Went b base s' va ve w w'' := by
  obtain ⟨va'', ve'', k1, k2, k3⟩ := h
  refine ⟨va'', ve'', k1, h2.trans k2 h3, fun k hk => ?_⟩
  rcases k3 k hk with x | x
  · exact h3 k x
  · exact Or.inr (Nat.le_trans h2.size x)

end Go.Proofs.YtkcfacbnbjkheaaDoor
