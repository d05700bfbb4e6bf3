/- Digits of the base 16: plain facts. No program is named here. -/
import Derived.WalkKit
import Derived.Laws.BitsLemmas
namespace Go.Proofs.YthmkfojjlcinkaaDoor
open Go.RowKit

/-- The digit d of the base 16, as a byte. -/
def hexD (d : Nat) : UInt8 := if d < 10 then UInt8.ofNat (48 + d) else UInt8.ofNat (87 + d)
/-- n in k digits. -/
def hexN : Nat → Nat → List UInt8
  | 0, _ => []
  | k + 1, n => hexN k (n / 16) ++ [hexD (n % 16)]
/-- n in as many digits as it wants. -/
def hexW (n : Nat) : Nat := if n < 16 then 1 else if n < 256 then 2 else if n < 4096 then 3 else 4
theorem hexN_len : ∀ (k n : Nat), (hexN k n).length = k
  | 0, _ => rfl
  | k + 1, n => by simp [hexN, hexN_len k]
/-- Noughts ahead fill it up. -/
theorem hexN_zero : ∀ (k : Nat), hexN k 0 = List.replicate k 48
  | 0 => rfl
  | k + 1 => by
    rw [hexN, hexN_zero k, List.replicate_succ']
    rfl
theorem hexN_pad : ∀ (j k n : Nat), n < 16 ^ k → hexN (j + k) n = List.replicate j 48 ++ hexN k n
  | j, 0, n, h => by
    have : n = 0 := by simpa using h
    subst this
    rw [Nat.add_zero, hexN_zero]; simp [hexN]
  | j, k + 1, n, h => by
    have h' : n / 16 < 16 ^ k := by
      rw [Nat.pow_succ] at h
      exact Nat.div_lt_of_lt_mul (by omega)
    show hexN (j + k) (n / 16) ++ [hexD (n % 16)] = _
    rw [hexN_pad j k (n / 16) h']
    simp [hexN]

end Go.Proofs.YthmkfojjlcinkaaDoor
