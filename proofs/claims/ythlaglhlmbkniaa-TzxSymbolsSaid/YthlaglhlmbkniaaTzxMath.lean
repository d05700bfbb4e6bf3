/- A reader's state as a value: its place, its fault; what a read of so many bytes makes of it. No program is named here. -/
import Derived.Test.YthlaglhlmbkniaaWireMath
namespace Go.Proofs.Ythlaglhlmbkniaa
open Go.RowKit

/-- Where a reader stands; its fault (none, if e is 0) and that one's place. -/
structure Rst where
  p : Nat
  e : Int
  f : Int
  deriving DecidableEq
/-- The next n bytes are read, or the fault is that they aren't there. -/
def takS (l : List Int) (s : Rst) (n : Nat) : Rst := if s.e ≠ 0 then s else if s.p + n ≤ l.length then ⟨s.p + n, 0, s.f⟩ else ⟨s.p, 2, s.p⟩
/-- What is read. -/
def takB (l : List Int) (s : Rst) (n : Nat) : List Int := if s.e ≠ 0 then [] else if s.p + n ≤ l.length then (l.drop s.p).take n else []
def numV (l : List Int) (s : Rst) (n : Nat) : Int := leV (takB l s n)
def failS (s : Rst) (e f : Int) : Rst := if s.e ≠ 0 then s else ⟨s.p, e, f⟩
theorem takS_bad {l : List Int} {s : Rst} (h : s.e ≠ 0) (n : Nat) : takS l s n = s := if_pos h
theorem takB_bad {l : List Int} {s : Rst} (h : s.e ≠ 0) (n : Nat) : takB l s n = [] := if_pos h
theorem numV_bad {l : List Int} {s : Rst} (h : s.e ≠ 0) (n : Nat) : numV l s n = 0 := by unfold numV; rw [takB_bad h]; rfl
theorem takS_yes {l : List Int} {s : Rst} (h : s.e = 0) {n : Nat} (hn : s.p + n ≤ l.length) : takS l s n = ⟨s.p + n, 0, s.f⟩ := by unfold takS; rw [if_neg (by simp [h]), if_pos hn]
theorem takS_no {l : List Int} {s : Rst} (h : s.e = 0) {n : Nat} (hn : ¬ s.p + n ≤ l.length) : takS l s n = ⟨s.p, 2, s.p⟩ := by unfold takS; rw [if_neg (by simp [h]), if_neg hn]
theorem takB_yes {l : List Int} {s : Rst} (h : s.e = 0) {n : Nat} (hn : s.p + n ≤ l.length) : takB l s n = (l.drop s.p).take n := by unfold takB; rw [if_neg (by simp [h]), if_pos hn]
theorem takB_no {l : List Int} {s : Rst} (h : s.e = 0) {n : Nat} (hn : ¬ s.p + n ≤ l.length) : takB l s n = [] := by unfold takB; rw [if_neg (by simp [h]), if_neg hn]
theorem failS_bad {s : Rst} (h : s.e ≠ 0) (e f : Int) : failS s e f = s := if_pos h
theorem failS_ok {s : Rst} (h : s.e = 0) (e f : Int) : failS s e f = ⟨s.p, e, f⟩ := by unfold failS; rw [if_neg (by simp [h])]
theorem takB_len (l : List Int) (s : Rst) (n : Nat) : (takB l s n).length ≤ n := by
  unfold takB
  split
  · simp
  · split
    · rw [List.length_take]; omega
    · simp
theorem takB_byte {l : List Int} (h : Byte8 l) (s : Rst) (n : Nat) : Byte8 (takB l s n) := by
  unfold takB
  split
  · exact Byte8.nil
  · split
    · exact (h.drop _).take _
    · exact Byte8.nil
theorem numV_bd {l : List Int} (h : Byte8 l) (s : Rst) (n : Nat) : 0 ≤ numV l s n ∧ numV l s n < 256 ^ n := by
  have h1 := takB_len l s n
  have h2 := leV_bd (takB l s n) (takB_byte h s n) (takB l s n).length (Nat.le_refl _)
  rw [List.take_length] at h2
  refine ⟨h2.1, Int.lt_of_lt_of_le h2.2 ?_⟩
  have h3 := Int.ofNat_le.2 (Nat.pow_le_pow_right (n := 256) (by decide) h1)
  rwa [Int.natCast_pow, Int.natCast_pow] at h3

end Go.Proofs.Ythlaglhlmbkniaa
