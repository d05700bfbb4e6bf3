/- Digits of the base 10: plain facts. No program is named here. -/
import Derived.Test.YtliohkgaonnioaaDoorStrL
import Derived.Lib.ItoaNum
namespace Go.Proofs.YtliohkgaonnioaaDoor
open Go.RowKit

def dgB (d : Nat) : UInt8 := UInt8.ofNat (48 + d)
theorem dec_sub (d : Nat) (h : d < 10) : (ByteArray.mk #[48, 49, 50, 51, 52, 53, 54, 55, 56, 57]).extract d (d + 1) = strL [dgB d] := by
  have e : d = 0 ∨ d = 1 ∨ d = 2 ∨ d = 3 ∨ d = 4 ∨ d = 5 ∨ d = 6 ∨ d = 7 ∨ d = 8 ∨ d = 9 := by omega
  clear h
  rcases e with rfl | rfl | rfl | rfl | rfl | rfl | rfl | rfl | rfl | rfl
  all_goals decide +kernel
theorem dec_step (u : Nat) (h : 10 ≤ u) : Lib.decDigits u = Lib.decDigits (u / 10) ++ [dgB (u % 10)] := by
  rw [Lib.decDigits, dif_neg (by omega)]; rfl
theorem dec_one (u : Nat) (h : u < 10) : Lib.decDigits u = [dgB u] := by
  rw [Lib.decDigits, dif_pos h]; rfl
/-- What stands ahead of the last digit. -/
def decUp (m : Nat) : List UInt8 := if m < 10 then [] else Lib.decDigits (m / 10)
theorem decUp_at (m : Nat) : Lib.decDigits m = decUp m ++ [dgB (m % 10)] := by
  unfold decUp
  by_cases h : m < 10
  · rw [if_pos h, dec_one m h, Nat.mod_eq_of_lt h]; rfl
  · rw [if_neg h, dec_step m (by omega)]
theorem dec_len_le (u : Nat) : (Lib.decDigits u).length ≤ u + 1 := by
  induction u using Nat.strongRecOn with
  | ind u ih =>
    by_cases h : u < 10
    · rw [dec_one u h]; simp
    · rw [dec_step u (by omega), List.length_append]
      have := ih (u / 10) (by omega)
      simp; omega

end Go.Proofs.YtliohkgaonnioaaDoor
