/- Which block of some doesn't fit the others, and why: by definition. No program is named here. -/
import Derived.Test.YthlaglhlmbkniaaBytes
namespace Go.Proofs.Ythlaglhlmbkniaa
open Go.RowKit
set_option linter.unusedVariables false

/-- What of a block its place beside others hangs on: its ID, its Times, its items' N. -/
structure Lb where
  id : Int
  ts : List Int
  ns : List Int
instance : Inhabited Lb := ⟨⟨0, [], []⟩⟩
def gL (L : List Lb) (j : Nat) : Lb := L.getD j default
theorem gL_some (L : List Lb) (j : Nat) (h : j < L.length) : L[j]? = some (gL L j) := by
  unfold gL
  rw [List.getD_eq_getElem?_getD, List.getElem?_eq_getElem h]
  rfl
theorem gL_left (a b : List Lb) (j : Nat) (h : j < a.length) : gL (a ++ b) j = gL a j := by
  unfold gL
  rw [List.getD_eq_getElem?_getD, List.getD_eq_getElem?_getD, List.getElem?_append_left h]
theorem gL_last (a : List Lb) (b : Lb) (j : Nat) (h : j = a.length) : gL (a ++ [b]) j = b := by
  subst h
  unfold gL
  rw [List.getD_eq_getElem?_getD, List.getElem?_append_right (Nat.le_refl _), Nat.sub_self]
  rfl
/-- Is one begun, and not ended, ahead of block i? -/
def openF (L : List Lb) (b e : Int) : Nat → Bool
  | 0 => false
  | i + 1 => if (gL L i).id = b then true else if (gL L i).id = e then false else openF L b e i
def laterP (L : List Lb) (e : Int) (i : Nat) : Prop := ∃ j, i < j ∧ j < L.length ∧ (gL L j).id = e
def loopBad (L : List Lb) (b e : Int) (i : Nat) : Prop := ((gL L i).id = b ∧ (openF L b e i = true ∨ ¬ laterP L e i)) ∨ ((gL L i).id = e ∧ openF L b e i = false)
def away (n i : Nat) (x : Int) : Prop := x < -(i : Int) ∨ (n : Int) - i ≤ x
/-- Does such a block i of n lead to none of them? -/
def farB (b : Lb) (n i : Nat) : Prop := ((b.id = 35 ∨ b.id = 38) ∧ ∃ j, j < b.ts.length ∧ away n i (gI b.ts j)) ∨ (b.id = 40 ∧ ∃ j, j < b.ns.length ∧ away n i (gI b.ns j))
def farBad (L : List Lb) (i : Nat) : Prop := farB (gL L i) L.length i
open Classical in
/-- What is wrong with block i: nothing, if it is 0. -/
noncomputable def wrongF (L : List Lb) (i : Nat) : Int := if loopBad L 36 37 i ∨ loopBad L 33 34 i then 6 else if farBad L i then 5 else 0
theorem wrong_loop {L : List Lb} {i : Nat} (h : loopBad L 36 37 i ∨ loopBad L 33 34 i) : wrongF L i = 6 := by unfold wrongF; rw [if_pos h]
theorem wrong_far {L : List Lb} {i : Nat} (h1 : ¬ loopBad L 36 37 i) (h2 : ¬ loopBad L 33 34 i) (h : farBad L i) : wrongF L i = 5 := by unfold wrongF; rw [if_neg (fun x => x.elim h1 h2), if_pos h]
theorem wrong_no {L : List Lb} {i : Nat} (h1 : ¬ loopBad L 36 37 i) (h2 : ¬ loopBad L 33 34 i) (h : ¬ farBad L i) : wrongF L i = 0 := by unfold wrongF; rw [if_neg (fun x => x.elim h1 h2), if_neg h]
theorem wrong_in (L : List Lb) (i : Nat) : wrongF L i = 0 ∨ wrongF L i = 5 ∨ wrongF L i = 6 := by
  unfold wrongF
  split
  · exact Or.inr (Or.inr rfl)
  · split
    · exact Or.inr (Or.inl rfl)
    · exact Or.inl rfl
/-- The first block of which something is wrong, and what; 0 and 0, if there is none. -/
def SoundIs (L : List Lb) (r : Nat) (e : Int) : Prop := (∀ j, j < r → wrongF L j = 0) ∧ ((r < L.length ∧ wrongF L r = e ∧ e ≠ 0) ∨ (e = 0 ∧ r = 0 ∧ ∀ j, j < L.length → wrongF L j = 0))
theorem SoundIs.one {L : List Lb} {r r' : Nat} {e e' : Int} (h : SoundIs L r e) (h' : SoundIs L r' e') : r = r' ∧ e = e' := by
  obtain ⟨a1, a2⟩ := h
  obtain ⟨b1, b2⟩ := h'
  rcases a2 with ⟨a2, a3, a4⟩ | ⟨a2, a3, a4⟩ <;> rcases b2 with ⟨b2, b3, b4⟩ | ⟨b2, b3, b4⟩
  · have : r = r' := by
      rcases Nat.lt_trichotomy r r' with x | x | x
      · exact absurd (a3.symm.trans (b1 r x)) a4
      · exact x
      · exact absurd (b3.symm.trans (a1 r' x)) b4
    subst this
    exact ⟨rfl, a3.symm.trans b3⟩
  · exact absurd (a3.symm.trans (b4 r a2)) a4
  · exact absurd (b3.symm.trans (a4 r' b2)) b4
  · exact ⟨a3.trans b3.symm, a2.trans b2.symm⟩
theorem SoundIs.lone {b : Lb} {r : Nat} {e : Int} (h : SoundIs [b] r e) (hb : b.id = 37) : r = 0 ∧ e = 6 := by
  refine h.one ⟨fun j hj => absurd hj (by omega), Or.inl ⟨by simp, wrong_loop (Or.inl (Or.inr ⟨hb, rfl⟩)), by decide⟩⟩
theorem SoundIs.nil {r : Nat} {e : Int} (h : SoundIs [] r e) : e = 0 := by
  rcases h.2 with ⟨h1, _⟩ | ⟨h1, _⟩
  · simp at h1
  · exact h1
theorem SoundIs.kind {L : List Lb} {r : Nat} {e : Int} (h : SoundIs L r e) : e = 0 ∨ (r < L.length ∧ (e = 5 ∨ e = 6)) := by
  rcases h.2 with ⟨h1, h2, h3⟩ | ⟨h1, _⟩
  · have := wrong_in L r
    rw [h2] at this
    exact Or.inr ⟨h1, this.resolve_left h3⟩
  · exact Or.inl h1
/-- The number of the last block of an ID, or -1. -/
def LastIs (L : List Lb) (id r : Int) : Prop := (r = -1 ∧ ∀ j, j < L.length → (gL L j).id ≠ id) ∨ (∃ k : Nat, r = k ∧ k < L.length ∧ (gL L k).id = id ∧ ∀ j, k < j → j < L.length → (gL L j).id ≠ id)
/-- May block i, of such an ID, stand where one is begun, or none? And is one behind it? -/
def fitF (b e last : Int) (o : Bool) (i id : Int) : Bool × Bool := if id = b then (if o = true ∨ last < i then (false, o) else (true, true)) else if id = e then (if o = true then (true, false) else (false, false)) else (true, o)
theorem fit_is {L : List Lb} {b e last : Int} {i : Nat} (hbe : b ≠ e) (hi : i < L.length) (hl : LastIs L e last) :
    ((fitF b e last (openF L b e i) i (gL L i).id).1 = false → loopBad L b e i) ∧ ((fitF b e last (openF L b e i) i (gL L i).id).1 = true → ¬ loopBad L b e i ∧ (fitF b e last (openF L b e i) i (gL L i).id).2 = openF L b e (i + 1)) := by
  have hlater : (gL L i).id = b → ((last < (i : Int)) ↔ ¬ laterP L e i) := fun hid => by
    rcases hl with ⟨h1, h2⟩ | ⟨k, h1, h2, h3, h4⟩
    · refine ⟨fun _ => ?_, fun _ => by omega⟩
      rintro ⟨j, _, h5, h6⟩
      exact h2 j h5 h6
    · refine ⟨fun h5 => ?_, fun h5 => ?_⟩
      · rintro ⟨j, h6, h7, h8⟩
        exact h4 j (by omega) h7 h8
      · refine Classical.byContradiction fun h6 => h5 ⟨k, ?_, h2, h3⟩
        have : k ≠ i := fun x => hbe (by rw [← hid, ← x, h3])
        omega
  unfold fitF
  by_cases h1 : (gL L i).id = b
  · rw [if_pos h1]
    by_cases h2 : openF L b e i = true ∨ last < (i : Int)
    · rw [if_pos h2]
      refine ⟨fun _ => Or.inl ⟨h1, h2.imp id (hlater h1).1⟩, fun x => by cases x⟩
    · rw [if_neg h2]
      refine ⟨fun x => (by cases x), fun _ => ⟨?_, ?_⟩⟩
      · rintro (⟨_, h3⟩ | ⟨h3, _⟩)
        · exact h2 (h3.imp id (hlater h1).2)
        · exact hbe (h1.symm.trans h3)
      · show true = openF L b e (i + 1)
        rw [openF, if_pos h1]
  · rw [if_neg h1]
    by_cases h2 : (gL L i).id = e
    · rw [if_pos h2]
      by_cases h3 : openF L b e i = true
      · rw [if_pos h3]
        refine ⟨fun x => (by cases x), fun _ => ⟨?_, ?_⟩⟩
        · rintro (⟨h4, _⟩ | ⟨_, h4⟩)
          · exact h1 h4
          · rw [h3] at h4; cases h4
        · show false = openF L b e (i + 1)
          rw [openF, if_neg h1, if_pos h2]
      · rw [if_neg h3]
        refine ⟨fun _ => Or.inr ⟨h2, by simpa using h3⟩, fun x => by cases x⟩
    · rw [if_neg h2]
      refine ⟨fun x => (by cases x), fun _ => ⟨?_, ?_⟩⟩
      · rintro (⟨h4, _⟩ | ⟨h4, _⟩)
        · exact h1 h4
        · exact h2 h4
      · show openF L b e i = openF L b e (i + 1)
        rw [openF, if_neg h1, if_neg h2]

end Go.Proofs.Ythlaglhlmbkniaa
