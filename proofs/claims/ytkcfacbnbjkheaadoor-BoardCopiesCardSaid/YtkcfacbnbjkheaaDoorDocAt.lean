/- The document's board in a block; the rows that it owns. -/
import Derived.Test.YtkcfacbnbjkheaaDoorBPress
import Derived.Test.YtkcfacbnbjkheaaDoorBKeysRef
namespace Go.Proofs.YtkcfacbnbjkheaaDoor
open Go.RowKit
set_option maxRecDepth 100000

def docL : List (Nat × (Value → Bool)) := [(1, isBz), (65536, isU8z), (1, isU64z), (1, isNil), (1, isBz), (1, isI64z), (2, isBz), (1, isNil), (1, isBz), (1, isNil), (1, isI64z), (1, isU8z), (2, isBz), (2, isNil), (12288, isU8z), (1, isU64z), (1, isNil)]
theorem docZero_ok : eatO docL (Tryd.prog.info? 49) = true := by kernel_rfl
abbrev nilV : Value := .slice none 0 0
/-- The cells of the document's board. -/
def dC (s : St) (ph : Int) (vd ea ee : Value) (j : Nat) : Value :=
  if j = 0 then .bool false else if j < 65537 then .int .u8 (s.M (j - 1)) else if j = 65537 then .int .u64 s.t else if j = 65538 then nilV else if j = 65539 then .bool false else if j = 65540 then .int .i64 ph
  else if j = 65541 then .bool s.slow else if j = 65542 then .bool s.log else if j = 65543 then vd else if j = 65544 then .bool s.ear else if j = 65545 then nilV else if j = 65546 then .int .i64 0
  else if j = 65547 then .int .u8 s.border else if j = 65548 then .bool s.mic else if j = 65549 then .bool s.spk else if j = 65550 then ea else if j = 65551 then ee
  else if j < 77840 then .int .u8 (s.pic (j - 65552)) else if j = 77840 then .int .u64 0 else nilV
theorem docZ_at (j : Nat) (v : Value) (hj : j < 77842) (h : atZ docL j v = true) : v = dC zeroS 0 nilV nilV nilV j := by
  simp only [docL, atZ] at h
  unfold dC zeroS
  by_cases c0 : j < 1
  · rw [if_pos c0] at h
    rw [of_bz h]
    obtain rfl : j = 0 := by omega
    rfl
  rw [if_neg c0] at h
  by_cases c1 : j - 1 < 65536
  · rw [if_pos c1] at h
    rw [of_u8z h, if_neg (by omega), if_pos (by omega)]
  rw [if_neg c1] at h
  rw [if_neg (by omega), if_neg (by omega)]
  by_cases d0 : j - 1 - 65536 < 1
  · rw [if_pos d0] at h
    rw [of_u64z h]
    obtain rfl : j = 65537 := by omega
    rfl
  rw [if_neg d0] at h
  by_cases d1 : j - 1 - 65536 - 1 < 1
  · rw [if_pos d1] at h
    rw [of_nil h]
    obtain rfl : j = 65538 := by omega
    rfl
  rw [if_neg d1] at h
  by_cases d2 : j - 1 - 65536 - 1 - 1 < 1
  · rw [if_pos d2] at h
    rw [of_bz h]
    obtain rfl : j = 65539 := by omega
    rfl
  rw [if_neg d2] at h
  by_cases d3 : j - 1 - 65536 - 1 - 1 - 1 < 1
  · rw [if_pos d3] at h
    rw [of_i64z h]
    obtain rfl : j = 65540 := by omega
    rfl
  rw [if_neg d3] at h
  by_cases d4 : j - 1 - 65536 - 1 - 1 - 1 - 1 < 2
  · rw [if_pos d4] at h
    rw [of_bz h]
    have e : j = 65541 ∨ j = 65542 := by omega
    rcases e with rfl | rfl <;> rfl
  rw [if_neg d4] at h
  by_cases d5 : j - 1 - 65536 - 1 - 1 - 1 - 1 - 2 < 1
  · rw [if_pos d5] at h
    rw [of_nil h]
    obtain rfl : j = 65543 := by omega
    rfl
  rw [if_neg d5] at h
  by_cases d6 : j - 1 - 65536 - 1 - 1 - 1 - 1 - 2 - 1 < 1
  · rw [if_pos d6] at h
    rw [of_bz h]
    obtain rfl : j = 65544 := by omega
    rfl
  rw [if_neg d6] at h
  by_cases d7 : j - 1 - 65536 - 1 - 1 - 1 - 1 - 2 - 1 - 1 < 1
  · rw [if_pos d7] at h
    rw [of_nil h]
    obtain rfl : j = 65545 := by omega
    rfl
  rw [if_neg d7] at h
  by_cases d8 : j - 1 - 65536 - 1 - 1 - 1 - 1 - 2 - 1 - 1 - 1 < 1
  · rw [if_pos d8] at h
    rw [of_i64z h]
    obtain rfl : j = 65546 := by omega
    rfl
  rw [if_neg d8] at h
  by_cases d9 : j - 1 - 65536 - 1 - 1 - 1 - 1 - 2 - 1 - 1 - 1 - 1 < 1
  · rw [if_pos d9] at h
    rw [of_u8z h]
    obtain rfl : j = 65547 := by omega
    rfl
  rw [if_neg d9] at h
  by_cases d10 : j - 1 - 65536 - 1 - 1 - 1 - 1 - 2 - 1 - 1 - 1 - 1 - 1 < 2
  · rw [if_pos d10] at h
    rw [of_bz h]
    have e : j = 65548 ∨ j = 65549 := by omega
    rcases e with rfl | rfl <;> rfl
  rw [if_neg d10] at h
  by_cases d11 : j - 1 - 65536 - 1 - 1 - 1 - 1 - 2 - 1 - 1 - 1 - 1 - 1 - 2 < 2
  · rw [if_pos d11] at h
    rw [of_nil h]
    have e : j = 65550 ∨ j = 65551 := by omega
    rcases e with rfl | rfl <;> rfl
  rw [if_neg d11] at h
  by_cases e0 : j - 1 - 65536 - 1 - 1 - 1 - 1 - 2 - 1 - 1 - 1 - 1 - 1 - 2 - 2 < 12288
  · rw [if_pos e0] at h
    rw [of_u8z h]
    rw [if_neg (by omega), if_neg (by omega), if_neg (by omega), if_neg (by omega), if_neg (by omega), if_neg (by omega), if_neg (by omega), if_neg (by omega), if_neg (by omega), if_neg (by omega), if_neg (by omega), if_neg (by omega), if_neg (by omega), if_neg (by omega), if_neg (by omega), if_pos (by omega)]
  rw [if_neg e0] at h
  by_cases e1 : j - 1 - 65536 - 1 - 1 - 1 - 1 - 2 - 1 - 1 - 1 - 1 - 1 - 2 - 2 - 12288 < 1
  · rw [if_pos e1] at h
    rw [of_u64z h]
    obtain rfl : j = 77840 := by omega
    rfl
  rw [if_neg e1] at h
  have e2 : j - 1 - 65536 - 1 - 1 - 1 - 1 - 2 - 1 - 1 - 1 - 1 - 1 - 2 - 2 - 12288 - 1 < 1 := by omega
  rw [if_pos e2] at h
  rw [of_nil h]
  obtain rfl : j = 77841 := by omega
  rfl
theorem docZero : ∃ i A, Tryd.prog.info? 49 = some i ∧ i.zero = some (.agg A) ∧ A.size = 77842 ∧ ∀ j, j < 77842 → A[j]? = some (dC zeroS 0 nilV nilV nilV j) := by
  obtain ⟨i, A, h1, h2, h3, h4⟩ := zero_of _ _ docZero_ok
  refine ⟨i, A, h1, h2, h3, fun j hj => ?_⟩
  obtain ⟨v, a1, a2⟩ := h4 j hj
  rw [a1, docZ_at j v hj a2]

theorem dC_M (s : St) (ph : Int) (vd ea ee : Value) (a : Nat) (h : a < 65536) : dC s ph vd ea ee (1 + a) = .int .u8 (s.M a) := by
  unfold dC
  rw [if_neg (by omega), if_pos (by omega), Nat.add_sub_cancel_left]
theorem dC_pic (s : St) (ph : Int) (vd ea ee : Value) (p : Nat) (h : p < 12288) : dC s ph vd ea ee (65552 + p) = .int .u8 (s.pic p) := by
  unfold dC
  rw [if_neg (by omega), if_neg (by omega), if_neg (by omega), if_neg (by omega), if_neg (by omega), if_neg (by omega), if_neg (by omega), if_neg (by omega), if_neg (by omega), if_neg (by omega), if_neg (by omega), if_neg (by omega), if_neg (by omega), if_neg (by omega), if_neg (by omega), if_neg (by omega), if_neg (by omega), if_pos (by omega), Nat.add_sub_cancel_left]
theorem dset_M (s : St) (ph : Int) (vd ea ee : Value) (a : Nat) (v : Int) (h : a < 65536) : upd (dC s ph vd ea ee) (1 + a) (.int .u8 v) = dC { s with M := updN s.M a v } ph vd ea ee := by
  funext j
  by_cases e : j = 1 + a
  · subst e
    rw [upd_same, dC_M _ _ _ _ _ _ h]
    simp only [updN_same]
  · simp only [upd, if_neg e, dC, updN]
    by_cases c : j = 0
    · rw [if_pos c, if_pos c]
    · rw [if_neg c, if_neg c, if_neg (show ¬ j - 1 = a by omega)]
theorem dset_pic (s : St) (ph : Int) (vd ea ee : Value) (p : Nat) (v : Int) (h : p < 12288) : upd (dC s ph vd ea ee) (65552 + p) (.int .u8 v) = dC { s with pic := updN s.pic p v } ph vd ea ee := by
  funext j
  by_cases e : j = 65552 + p
  · subst e
    rw [upd_same, dC_pic _ _ _ _ _ _ h]
    simp only [updN_same]
  · simp only [upd, if_neg e, dC, updN]
    by_cases c : j < 65537
    · by_cases c0 : j = 0
      · rw [if_pos c0, if_pos c0]
      · rw [if_neg c0, if_neg c0, if_pos c, if_pos c]
    · by_cases c2 : j < 65552
      · have d : j = 65537 ∨ j = 65538 ∨ j = 65539 ∨ j = 65540 ∨ j = 65541 ∨ j = 65542 ∨ j = 65543 ∨ j = 65544 ∨ j = 65545 ∨ j = 65546 ∨ j = 65547 ∨ j = 65548 ∨ j = 65549 ∨ j = 65550 ∨ j = 65551 := by omega
        rcases d with rfl | rfl | rfl | rfl | rfl | rfl | rfl | rfl | rfl | rfl | rfl | rfl | rfl | rfl | rfl <;> rfl
      · rw [if_neg (show ¬ j - 65552 = p by omega)]
theorem dset_slow (s : St) (ph : Int) (vd ea ee : Value) (x : Bool) : upd (dC s ph vd ea ee) 65541 (.bool x) = dC { s with slow := x } ph vd ea ee := by
  funext j
  by_cases e : j = 65541
  · subst e
    rfl
  · simp only [upd, if_neg e, dC]
theorem dset_log (s : St) (ph : Int) (vd ea ee : Value) (x : Bool) : upd (dC s ph vd ea ee) 65542 (.bool x) = dC { s with log := x } ph vd ea ee := by
  funext j
  by_cases e : j = 65542
  · subst e
    rfl
  · simp only [upd, if_neg e, dC]
theorem dset_ear (s : St) (ph : Int) (vd ea ee : Value) (x : Bool) : upd (dC s ph vd ea ee) 65544 (.bool x) = dC { s with ear := x } ph vd ea ee := by
  funext j
  by_cases e : j = 65544
  · subst e
    rfl
  · simp only [upd, if_neg e, dC]
theorem dset_t (s : St) (ph : Int) (vd ea ee : Value) (x : Int) : upd (dC s ph vd ea ee) 65537 (.int .u64 x) = dC { s with t := x } ph vd ea ee := by
  funext j
  by_cases e : j = 65537
  · subst e
    rfl
  · simp only [upd, if_neg e, dC]
theorem dset_border (s : St) (ph : Int) (vd ea ee : Value) (x : Int) : upd (dC s ph vd ea ee) 65547 (.int .u8 x) = dC { s with border := x } ph vd ea ee := by
  funext j
  by_cases e : j = 65547
  · subst e
    rfl
  · simp only [upd, if_neg e, dC]
theorem dset_mic (s : St) (ph : Int) (vd ea ee : Value) (x : Bool) : upd (dC s ph vd ea ee) 65548 (.bool x) = dC { s with mic := x } ph vd ea ee := by
  funext j
  by_cases e : j = 65548
  · subst e
    rfl
  · simp only [upd, if_neg e, dC]
theorem dset_spk (s : St) (ph : Int) (vd ea ee : Value) (x : Bool) : upd (dC s ph vd ea ee) 65549 (.bool x) = dC { s with spk := x } ph vd ea ee := by
  funext j
  by_cases e : j = 65549
  · subst e
    rfl
  · simp only [upd, if_neg e, dC]
theorem dset_vd (s : St) (ph : Int) (vd ea ee x : Value) : upd (dC s ph vd ea ee) 65543 x = dC s ph x ea ee := by
  funext j
  by_cases e : j = 65543
  · subst e
    rfl
  · simp only [upd, if_neg e, dC]
theorem dset_ea (s : St) (ph : Int) (vd ea ee x : Value) : upd (dC s ph vd ea ee) 65550 x = dC s ph vd x ee := by
  funext j
  by_cases e : j = 65550
  · subst e
    rfl
  · simp only [upd, if_neg e, dC]
theorem dset_ee (s : St) (ph : Int) (vd ea ee x : Value) : upd (dC s ph vd ea ee) 65551 x = dC s ph vd ea x := by
  funext j
  by_cases e : j = 65551
  · subst e
    rfl
  · simp only [upd, if_neg e, dC]

/-- The blocks of the document's board: its own, and those of its rows. -/
def Fd (x : Nat) (vd ea ee : Value) (L : List Int) (k : Nat) : Prop := k = x ∨ (0 < L.length ∧ vd.ownBlock = some k) ∨ ea.ownBlock = some k ∨ ee.ownBlock = some k
/-- The document's board s lies in block x, with its rows. -/
structure DAt (w : World) (x base : Nat) (s : St) (ph : Int) (vd ea ee : Value) (L : List Int) : Prop where
  cells : Cells w x 49 77842 (dC s ph vd ea ee)
  lo : base ≤ x
  row : w.ownsRow base 84 4 ea s.acts.length (flatA s.acts)
  tim : w.ownsRow base 35 1 ee s.edges.length (s.edges.map u64V)
  dn : RowI w base vd L
  far : ∀ k, 0 < L.length → vd.ownBlock = some k → k ≠ x ∧ ea.ownBlock ≠ some k ∧ ee.ownBlock ≠ some k
  lst : Lst L s.S
  fr : s.frame = frameV (s.t + ph)
  ph0 : 0 ≤ ph
  ph1 : ph < 69888
theorem DAt.lt {w : World} {x base : Nat} {s : St} {ph : Int} {vd ea ee : Value} {L : List Int} (h : DAt w x base s ph vd ea ee L) : x < w.heap.size := h.cells.lt
theorem rowI_block {w : World} {B : Nat} {v : Value} {L : List Int} (h : RowI w B v L) (h0 : 0 < L.length) (k : Nat) (hk : v.ownBlock = some k) : B ≤ k ∧ k < w.heap.size := by
  obtain ⟨A, cap, rfl, _, _, h3⟩ := h
  obtain ⟨g, rfl, h4, h5, _⟩ := h3 h0
  simp only [Value.ownBlock, Option.some.injEq] at hk
  subst hk
  exact ⟨h4, h5⟩
theorem rowI_keep {w w' : World} {B : Nat} {v : Value} {L : List Int} (h : RowI w B v L) (hs : w.heap.size ≤ w'.heap.size) (hb : ∀ k, 0 < L.length → v.ownBlock = some k → w'.heap[k]? = w.heap[k]?) : RowI w' B v L := by
  obtain ⟨A, cap, rfl, h1, h2, h3⟩ := h
  refine ⟨A, cap, rfl, h1, h2, fun h0 => ?_⟩
  obtain ⟨g, rfl, hg, hlt, hc⟩ := h3 h0
  exact ⟨g, rfl, hg, by omega, fun i hi => (World.cell?_of_block (a := ⟨g, i, none⟩) (hb g h0 rfl)).trans (hc i hi)⟩
theorem DAt.fd_lt {w : World} {x base : Nat} {s : St} {ph : Int} {vd ea ee : Value} {L : List Int} (h : DAt w x base s ph vd ea ee L) (k : Nat) (hk : Fd x vd ea ee L k) : base ≤ k ∧ k < w.heap.size := by
  rcases hk with rfl | ⟨h0, hk⟩ | hk | hk
  · exact ⟨h.lo, h.lt⟩
  · exact rowI_block h.dn h0 k hk
  · exact h.row.lt k hk
  · exact h.tim.lt k hk
theorem DAt.keep {w w' : World} {x base : Nat} {s : St} {ph : Int} {vd ea ee : Value} {L : List Int} (h : DAt w x base s ph vd ea ee L) (hs : w.heap.size ≤ w'.heap.size) (hb : ∀ k, Fd x vd ea ee L k → w'.heap[k]? = w.heap[k]?) : DAt w' x base s ph vd ea ee L :=
  ⟨h.cells.block (hb x (Or.inl rfl)), h.lo, own_keep h.row fun k hk => hb k (Or.inr (Or.inr (Or.inl hk))), own_keep h.tim fun k hk => hb k (Or.inr (Or.inr (Or.inr hk))), rowI_keep h.dn hs fun k h0 hk => hb k (Or.inr (Or.inl ⟨h0, hk⟩)),
h.far, h.lst, h.fr, h.ph0, h.ph1⟩
theorem DAt.below {w w' : World} {x base : Nat} {s : St} {ph : Int} {vd ea ee : Value} {L : List Int} (h : DAt w x base s ph vd ea ee L) (hb : Below w.heap.size w w') : DAt w' x base s ph vd ea ee L := h.keep hb.size fun k hk => hb.block k (h.fd_lt k hk).2
theorem DAt.ch {F : Nat → Prop} {w w' : World} {x base : Nat} {s : St} {ph : Int} {vd ea ee : Value} {L : List Int} (h : DAt w x base s ph vd ea ee L) (hb : Ch F w w') (hF : ∀ k, Fd x vd ea ee L k → ¬ F k) : DAt w' x base s ph vd ea ee L := h.keep hb.size fun k hk => hb.block k (h.fd_lt k hk).2 (hF k hk)
theorem DAt.ea_ne {w : World} {x base : Nat} {s : St} {ph : Int} {vd ea ee : Value} {L : List Int} (h : DAt w x base s ph vd ea ee L) : ea.ownBlock ≠ some x := own_ty h.row h.cells (by decide)
theorem DAt.ee_ne {w : World} {x base : Nat} {s : St} {ph : Int} {vd ea ee : Value} {L : List Int} (h : DAt w x base s ph vd ea ee L) : ee.ownBlock ≠ some x := own_ty h.tim h.cells (by decide)
theorem DAt.vd_ne {w : World} {x base : Nat} {s : St} {ph : Int} {vd ea ee : Value} {L : List Int} (h : DAt w x base s ph vd ea ee L) (h0 : 0 < L.length) : vd.ownBlock ≠ some x := fun e => (h.far x h0 e).1 rfl
/-- One cell of it written. -/
theorem DAt.set {w : World} {x base : Nat} {s s' : St} {ph : Int} {vd ea ee : Value} {L : List Int} (h : DAt w x base s ph vd ea ee L) (j : Nat) (v : Value) (hC : upd (dC s ph vd ea ee) j v = dC s' ph vd ea ee) (ha : s'.acts = s.acts) (he : s'.edges = s.edges) (hS : s'.S = s.S) (hf : s'.frame = frameV (s'.t + ph)) :
    DAt (w.setCell ⟨x, j, none⟩ v) x base s' ph vd ea ee L := by
  have hk : ∀ k, k ≠ x → (w.setCell ⟨x, j, none⟩ v).heap[k]? = w.heap[k]? := fun k hk => Below.heap_setCell _ _ _ _ hk
  refine ⟨by rw [← hC]; exact h.cells.set j v, h.lo, ?_, ?_, ?_, h.far, by rw [hS]; exact h.lst, hf, h.ph0, h.ph1⟩
  · rw [ha]; exact own_keep h.row fun k e => hk k (fun e' => by subst e'; exact h.ea_ne e)
  · rw [he]; exact own_keep h.tim fun k e => hk k (fun e' => by subst e'; exact h.ee_ne e)
  · exact rowI_keep h.dn (by simp [World.setCell]) fun k h0 e => hk k (fun e' => by subst e'; exact h.vd_ne h0 e)
/-- What a call on the document's board gives. -/
def Dwent (x base : Nat) (s' : St) (ph : Int) (vd ea ee : Value) (L L' : List Int) (w w' : World) : Prop := ∃ vd' ea' ee', DAt w' x base s' ph vd' ea' ee' L' ∧ Ch (Fd x vd ea ee L) w w' ∧ ∀ k, Fd x vd' ea' ee' L' k → Fd x vd ea ee L k ∨ w.heap.size ≤ k
theorem Dwent.stay {w w' : World} {x base : Nat} {s : St} {ph : Int} {vd ea ee : Value} {L : List Int} (h : DAt w' x base s ph vd ea ee L) (hc : Ch (Fd x vd ea ee L) w w') : Dwent x base s ph vd ea ee L L w w' := ⟨vd, ea, ee, h, hc, fun _ hk => Or.inl hk⟩
theorem Dwent.refl {w : World} {x base : Nat} {s : St} {ph : Int} {vd ea ee : Value} {L : List Int} (h : DAt w x base s ph vd ea ee L) : Dwent x base s ph vd ea ee L L w w := Dwent.stay h (Ch.refl _ _)
theorem Dwent.trans {w w' w'' : World} {x base : Nat} {s' : St} {ph : Int} {vd ea ee vd' ea' ee' : Value} {L L' L'' : List Int} (h2 : Ch (Fd x vd ea ee L) w w') (h3 : ∀ k, Fd x vd' ea' ee' L' k → Fd x vd ea ee L k ∨ w.heap.size ≤ k) (h : Dwent x base s' ph vd' ea' ee' L' L'' w' w'') : Dwent x base s' ph vd ea ee L L'' w w'' := by
  obtain ⟨vd'', ea'', ee'', k1, k2, k3⟩ := h
  refine ⟨vd'', ea'', ee'', k1, h2.trans k2 h3, fun k hk => ?_⟩
  rcases k3 k hk with y | y
  · exact h3 k y
  · exact Or.inr (Nat.le_trans h2.size y)
theorem DAt.c_flat {w : World} {x base : Nat} {s : St} {ph : Int} {vd ea ee : Value} {L : List Int} (h : DAt w x base s ph vd ea ee L) : w.cell? ⟨x, 0, none⟩ = some (.bool false) := h.cells.cell 0 (by decide)
theorem DAt.c_t {w : World} {x base : Nat} {s : St} {ph : Int} {vd ea ee : Value} {L : List Int} (h : DAt w x base s ph vd ea ee L) : w.cell? ⟨x, 65537, none⟩ = some (.int .u64 s.t) := h.cells.cell 65537 (by decide)
theorem DAt.c_phase {w : World} {x base : Nat} {s : St} {ph : Int} {vd ea ee : Value} {L : List Int} (h : DAt w x base s ph vd ea ee L) : w.cell? ⟨x, 65540, none⟩ = some (.int .i64 ph) := h.cells.cell 65540 (by decide)
theorem DAt.c_slow {w : World} {x base : Nat} {s : St} {ph : Int} {vd ea ee : Value} {L : List Int} (h : DAt w x base s ph vd ea ee L) : w.cell? ⟨x, 65541, none⟩ = some (.bool s.slow) := h.cells.cell 65541 (by decide)
theorem DAt.c_log {w : World} {x base : Nat} {s : St} {ph : Int} {vd ea ee : Value} {L : List Int} (h : DAt w x base s ph vd ea ee L) : w.cell? ⟨x, 65542, none⟩ = some (.bool s.log) := h.cells.cell 65542 (by decide)
theorem DAt.c_vd {w : World} {x base : Nat} {s : St} {ph : Int} {vd ea ee : Value} {L : List Int} (h : DAt w x base s ph vd ea ee L) : w.cell? ⟨x, 65543, none⟩ = some (vd) := h.cells.cell 65543 (by decide)
theorem DAt.c_ear {w : World} {x base : Nat} {s : St} {ph : Int} {vd ea ee : Value} {L : List Int} (h : DAt w x base s ph vd ea ee L) : w.cell? ⟨x, 65544, none⟩ = some (.bool s.ear) := h.cells.cell 65544 (by decide)
theorem DAt.c_ears {w : World} {x base : Nat} {s : St} {ph : Int} {vd ea ee : Value} {L : List Int} (h : DAt w x base s ph vd ea ee L) : w.cell? ⟨x, 65545, none⟩ = some (nilV) := h.cells.cell 65545 (by decide)
theorem DAt.c_at {w : World} {x base : Nat} {s : St} {ph : Int} {vd ea ee : Value} {L : List Int} (h : DAt w x base s ph vd ea ee L) : w.cell? ⟨x, 65546, none⟩ = some (.int .i64 0) := h.cells.cell 65546 (by decide)
theorem DAt.c_border {w : World} {x base : Nat} {s : St} {ph : Int} {vd ea ee : Value} {L : List Int} (h : DAt w x base s ph vd ea ee L) : w.cell? ⟨x, 65547, none⟩ = some (.int .u8 s.border) := h.cells.cell 65547 (by decide)
theorem DAt.c_mic {w : World} {x base : Nat} {s : St} {ph : Int} {vd ea ee : Value} {L : List Int} (h : DAt w x base s ph vd ea ee L) : w.cell? ⟨x, 65548, none⟩ = some (.bool s.mic) := h.cells.cell 65548 (by decide)
theorem DAt.c_spk {w : World} {x base : Nat} {s : St} {ph : Int} {vd ea ee : Value} {L : List Int} (h : DAt w x base s ph vd ea ee L) : w.cell? ⟨x, 65549, none⟩ = some (.bool s.spk) := h.cells.cell 65549 (by decide)
theorem DAt.c_ea {w : World} {x base : Nat} {s : St} {ph : Int} {vd ea ee : Value} {L : List Int} (h : DAt w x base s ph vd ea ee L) : w.cell? ⟨x, 65550, none⟩ = some (ea) := h.cells.cell 65550 (by decide)
theorem DAt.c_ee {w : World} {x base : Nat} {s : St} {ph : Int} {vd ea ee : Value} {L : List Int} (h : DAt w x base s ph vd ea ee L) : w.cell? ⟨x, 65551, none⟩ = some (ee) := h.cells.cell 65551 (by decide)
theorem DAt.c_limit {w : World} {x base : Nat} {s : St} {ph : Int} {vd ea ee : Value} {L : List Int} (h : DAt w x base s ph vd ea ee L) : w.cell? ⟨x, 77840, none⟩ = some (.int .u64 0) := h.cells.cell 77840 (by decide)
theorem DAt.c_keys {w : World} {x base : Nat} {s : St} {ph : Int} {vd ea ee : Value} {L : List Int} (h : DAt w x base s ph vd ea ee L) : w.cell? ⟨x, 77841, none⟩ = some (nilV) := h.cells.cell 77841 (by decide)
theorem DAt.c_M {w : World} {x base : Nat} {s : St} {ph : Int} {vd ea ee : Value} {L : List Int} (h : DAt w x base s ph vd ea ee L) (a : Nat) (ha : a < 65536) : w.cell? ⟨x, 1 + a, none⟩ = some (.int .u8 (s.M a)) := by rw [h.cells.cell _ (by omega), dC_M _ _ _ _ _ _ ha]
theorem DAt.c_pic {w : World} {x base : Nat} {s : St} {ph : Int} {vd ea ee : Value} {L : List Int} (h : DAt w x base s ph vd ea ee L) (p : Nat) (hp : p < 12288) : w.cell? ⟨x, 65552 + p, none⟩ = some (.int .u8 (s.pic p)) := by rw [h.cells.cell _ (by omega), dC_pic _ _ _ _ _ _ hp]
theorem DAt.frz {w : World} {x base : Nat} {s : St} {ph : Int} {vd ea ee : Value} {L : List Int} (h : DAt w x base s ph vd ea ee L) (j : Nat) : w.frozen? ⟨x, j, none⟩ = false := h.cells.frozen j

end Go.Proofs.YtkcfacbnbjkheaaDoor
