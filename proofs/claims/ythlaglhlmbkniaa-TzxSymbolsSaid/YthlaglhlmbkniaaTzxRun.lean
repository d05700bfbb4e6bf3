/- How a file's blocks are gone through, whatever a block makes of a reader's state. No program is named here. -/
import Derived.Test.YthlaglhlmbkniaaTzxMath
import Derived.Test.YthlaglhlmbkniaaTzxSnd
namespace Go.Proofs.Ythlaglhlmbkniaa
open Go.RowKit
set_option linter.unusedVariables false

/-- The state behind n blocks. -/
def itS (blk : Rst → Rst) (s0 : Rst) : Nat → Rst
  | 0 => s0
  | n + 1 => blk (itS blk s0 n)
/-- Block n is read. -/
def onS (blk : Rst → Rst) (l : List Int) (s0 : Rst) (n : Nat) : Prop := (itS blk s0 n).e = 0 ∧ (itS blk s0 n).p < l.length ∧ n ≠ 4096
def Ends (blk : Rst → Rst) (l : List Int) (s0 : Rst) (n : Nat) : Prop := (∀ k, k < n → onS blk l s0 k) ∧ ¬ onS blk l s0 n
theorem Ends.one {blk : Rst → Rst} {l : List Int} {s0 : Rst} {n n' : Nat} (h : Ends blk l s0 n) (h' : Ends blk l s0 n') : n = n' := by
  rcases Nat.lt_trichotomy n n' with x | x | x
  · exact absurd (h'.1 n x) h.2
  · exact x
  · exact absurd (h.1 n' x) h'.2
/-- Block 4,097 is one too many. -/
def finS (l : List Int) (s : Rst) : Rst := if s.e = 0 ∧ s.p < l.length then ⟨s.p, 8, s.p⟩ else s
/-- What comes of a file. -/
inductive Out
  | ok (M m : Int) (n : Nat)
  | er (e f : Int)
def sgn : List Int := [90, 88, 84, 97, 112, 101, 33, 26]
/-- The state ahead of the first block. -/
def s0F (l : List Int) : Rst := takS l (takS l (takS l ⟨0, 0, 0⟩ 8) 1) 1
def maj (l : List Int) : Int := numV l (takS l ⟨0, 0, 0⟩ 8) 1
def mnr (l : List Int) : Int := numV l (takS l (takS l ⟨0, 0, 0⟩ 8) 1) 1
/-- The state behind all blocks, held against one another. -/
def endS (blk : Rst → Rst) (l : List Int) (n r : Nat) (e : Int) : Rst := if e = 0 then finS l (itS blk (s0F l) n) else failS (finS l (itS blk (s0F l) n)) e (itS blk (s0F l) r).p
def TapeIs (blk : Rst → Rst) (l : List Int) (n : Nat) (s : Rst) : Prop := ∃ L r e, Ends blk l (s0F l) n ∧ L.length = n ∧ (∀ k, k < n → (gL L k).id = gI l (itS blk (s0F l) k).p) ∧ SoundIs L r e ∧ s = endS blk l n r e
theorem TapeIs.full {blk : Rst → Rst} {l : List Int} {n : Nat} {s : Rst} (h : TapeIs blk l n s) (h0 : s.e = 0) : l.length ≤ s.p := by
  obtain ⟨L, r, e, h1, h2, h3, h4, h5⟩ := h
  unfold endS at h5
  by_cases he : e = 0
  · rw [if_pos he] at h5
    subst h5
    unfold finS at h0 ⊢
    by_cases hc : (itS blk (s0F l) n).e = 0 ∧ (itS blk (s0F l) n).p < l.length
    · rw [if_pos hc] at h0
      cases h0
    · rw [if_neg hc] at h0 ⊢
      refine Classical.byContradiction fun x => hc ⟨h0, by omega⟩
  · rw [if_neg he] at h5
    subst h5
    unfold failS at h0
    split at h0
    · rename_i x; exact absurd h0 x
    · exact absurd h0 he
def OutIs (blk : Rst → Rst) (l : List Int) (o : Out) : Prop := (l.take 8 ≠ sgn ∧ o = .er 3 0) ∨ (l.take 8 = sgn ∧ ∃ n s, TapeIs blk l n s ∧ ((s.e = 0 ∧ o = .ok (maj l) (mnr l) n) ∨ (s.e ≠ 0 ∧ o = .er s.e s.f)))

/-! The two files of the chapter's example. -/
def headL : List Int := [90, 88, 84, 97, 112, 101, 33, 26, 1, 20]
theorem out_head {blk : Rst → Rst} {o : Out} (h : OutIs blk headL o) : o = .ok 1 20 0 := by
  rcases h with ⟨h, _⟩ | ⟨_, n, s, ⟨L, r, e, h1, h2, h3, h4, h5⟩, h6⟩
  · exact absurd rfl h
  · have e0 : s0F headL = ⟨10, 0, 0⟩ := by decide +kernel
    have hn : n = 0 := h1.one (n' := 0) ⟨fun k hk => absurd hk (by omega), fun x => by
      have := x.2.1
      unfold itS at this
      rw [e0] at this
      exact absurd this (by decide)⟩
    subst hn
    obtain rfl : L = [] := List.eq_nil_of_length_eq_zero h2
    have he := h4.nil
    subst he
    have hs : s = ⟨10, 0, 0⟩ := by rw [h5]; unfold endS itS; rw [e0, if_pos rfl]; rfl
    subst hs
    rcases h6 with h6 | h6
    · rw [h6.2]; rfl
    · exact absurd rfl h6.1
theorem out_head37 {blk : Rst → Rst} {o : Out} (hb : blk ⟨10, 0, 0⟩ = ⟨11, 0, 0⟩) (h : OutIs blk (headL ++ [37]) o) : o = .er 6 10 := by
  rcases h with ⟨h, _⟩ | ⟨_, n, s, ⟨L, r, e, h1, h2, h3, h4, h5⟩, h6⟩
  · exact absurd rfl h
  · have e0 : s0F (headL ++ [37]) = ⟨10, 0, 0⟩ := by decide +kernel
    have e1 : itS blk (s0F (headL ++ [37])) 0 = ⟨10, 0, 0⟩ := e0
    have e2 : itS blk (s0F (headL ++ [37])) 1 = ⟨11, 0, 0⟩ := by unfold itS; rw [e1]; exact hb
    have hn : n = 1 := h1.one (n' := 1) ⟨fun k hk => by
      obtain rfl : k = 0 := by omega
      unfold onS
      rw [e1]
      exact ⟨rfl, by decide, by decide⟩, fun x => by
      have := x.2.1
      rw [e2] at this
      exact absurd this (by decide)⟩
    subst hn
    obtain ⟨b, rfl⟩ : ∃ b, L = [b] := List.length_eq_one_iff.1 h2
    have hid : b.id = 37 := by
      have := h3 0 (by decide)
      rw [e1] at this
      exact this
    obtain ⟨rfl, rfl⟩ := h4.lone hid
    have hs : s = ⟨11, 6, 10⟩ := by rw [h5]; unfold endS; rw [e1, e2]; rfl
    subst hs
    rcases h6 with h6 | h6
    · exact absurd h6.1 (by decide)
    · rw [h6.2]

end Go.Proofs.Ythlaglhlmbkniaa
