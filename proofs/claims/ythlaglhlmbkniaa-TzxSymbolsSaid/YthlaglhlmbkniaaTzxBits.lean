/- Bits of bytes, and how many of them tell one of n. No program is named here. -/
import Derived.Test.YthlaglhlmbkniaaBytes
import Derived.Lib.BitFns
import Derived.Laws.BitsLemmas
namespace Go.Proofs.Ythlaglhlmbkniaa
open Go.RowKit
set_option linter.unusedVariables false

/-- The fewest bits that tell one of n. -/
def LeastIs (n : Int) (b : Nat) : Prop := n ≤ 2 ^ b ∧ ∀ c : Nat, c < b → (2 : Int) ^ c < n
theorem LeastIs.one {n : Int} {b b' : Nat} (h : LeastIs n b) (h' : LeastIs n b') : b = b' := by
  rcases Nat.lt_trichotomy b b' with x | x | x
  · have := h'.2 b x; have := h.1; omega
  · exact x
  · have := h.2 b' x; have := h'.1; omega
theorem bitLen_is : ∀ (k x : Nat), x < k → x < 2 ^ 64 → x < 2 ^ Lib.bitLen x ∧ ∀ c, c < Lib.bitLen x → 2 ^ c ≤ x
  | 0, x, h, _ => absurd h (by omega)
  | k + 1, x, h, hx => by
    by_cases h0 : x = 0
    · subst h0
      have e : Lib.bitLen 0 = 0 := by decide +kernel
      rw [e]
      exact ⟨by decide, fun c hc => absurd hc (by omega)⟩
    · obtain ⟨h1, h2⟩ := bitLen_is k (x / 2) (by omega) (by omega)
      rw [Lib.bitLen_half x h0 hx]
      refine ⟨?_, fun c hc => ?_⟩
      · rw [Nat.add_comm, Nat.pow_succ]; omega
      · rcases c with _ | c
        · simp; omega
        · have := h2 c (by omega)
          rw [Nat.pow_succ]; omega
theorem least_bitLen (n : Int) (h2 : 2 ≤ n) (h : n ≤ 1000000) : LeastIs n (Lib.bitLen (n - 1).toNat) := by
  obtain ⟨m, hm⟩ : ∃ m : Nat, n - 1 = m := ⟨(n - 1).toNat, by omega⟩
  rw [hm, Int.toNat_natCast]
  obtain ⟨h3, h4⟩ := bitLen_is (m + 1) m (by omega) (by omega)
  refine ⟨?_, fun c hc => ?_⟩
  · have h5 : ((m : Nat) : Int) < ((2 ^ Lib.bitLen m : Nat) : Int) := Int.ofNat_lt.2 h3
    rw [Int.natCast_pow] at h5
    have e : ((2 : Nat) : Int) = 2 := rfl
    rw [e] at h5
    omega
  · have h5 : ((2 ^ c : Nat) : Int) ≤ (m : Int) := Int.ofNat_le.2 (h4 c hc)
    rw [Int.natCast_pow] at h5
    have e : ((2 : Nat) : Int) = 2 := rfl
    rw [e] at h5
    omega
theorem bitLen_few (n : Int) (h2 : 2 ≤ n) (h : n ≤ 1000000) : Lib.bitLen (n - 1).toNat ≤ 20 := Lib.bitLen_le _ 20 (by decide) (by omega)
theorem least_small (n : Int) (h : n < 2) : LeastIs n 0 := ⟨by simp; omega, fun c hc => absurd hc (by omega)⟩

/-! Symbols. -/
def gN (l : List Int) (j : Nat) : Nat := (gI l j).toNat
theorem gN_int {l : List Int} (h : Byte8 l) (j : Nat) : gI l j = (gN l j : Int) := by have := h j; unfold gN; omega
theorem gN_lt {l : List Int} (h : Byte8 l) (j : Nat) : gN l j < 256 := by have := h j; unfold gN; omega
/-- Two bytes from place p on. -/
def symT (l : List Int) (p : Nat) : Nat := gN l p * 256 + gN l (p + 1)
/-- Symbol i of n bits. -/
def symF (l : List Int) (n i : Nat) : Nat := symT l (i * n / 8) / 2 ^ (16 - i * n % 8 - n) % 2 ^ n
/-- Is it wholly there? -/
def symOk (l : List Int) (n i : Int) : Prop := 0 ≤ n ∧ n ≤ 8 ∧ 0 ≤ i ∧ (n = 0 ∨ (i + 1) * n ≤ 8 * l.length)
theorem symF_zero (l : List Int) (i : Nat) : symF l 0 i = 0 := by unfold symF; rw [Nat.pow_zero, Nat.mod_one]
theorem step_bit (q k : Nat) : q % 2 ^ (k + 1) = 2 * (q / 2 % 2 ^ k) + q % 2 := by
  rw [Nat.pow_succ, Nat.mul_comm, Nat.mod_mul]; omega
/-- The first k bits of such a symbol. -/
def symK (l : List Int) (p f k : Nat) : Nat := symT l p / 2 ^ (16 - f - k) % 2 ^ k
theorem symK_zero (l : List Int) (p f : Nat) : symK l p f 0 = 0 := by unfold symK; rw [Nat.pow_zero, Nat.mod_one]
theorem bit_low {a b m : Nat} (hb : b < 256) : (a * 256 + b) / 2 ^ (8 + m) = a / 2 ^ m := by
  rw [Nat.pow_add, ← Nat.div_div_eq_div_mul]
  congr 1
  show (a * 256 + b) / 256 = a
  omega
theorem bit_high {a b m : Nat} (hm : m ≤ 7) : (a * 256 + b) / 2 ^ m % 2 = b / 2 ^ m % 2 := by
  rcases (show m = 0 ∨ m = 1 ∨ m = 2 ∨ m = 3 ∨ m = 4 ∨ m = 5 ∨ m = 6 ∨ m = 7 by omega) with rfl | rfl | rfl | rfl | rfl | rfl | rfl | rfl <;> omega
theorem symK_next {l : List Int} (h : Byte8 l) (p f k at' : Nat) (hf : f ≤ 7) (hk : k ≤ 7) (hat : at' = p * 8 + f + k) : symK l p f (k + 1) = 2 * symK l p f k + gN l (at' / 8) / 2 ^ (7 - at' % 8) % 2 := by
  have hb := gN_lt h (p + 1)
  have e1 : symT l p / 2 ^ (16 - f - k) = symT l p / 2 ^ (16 - f - (k + 1)) / 2 := by
    rw [Nat.div_div_eq_div_mul, ← Nat.pow_succ]
    congr 2; omega
  unfold symK
  rw [step_bit, e1]
  congr 1
  unfold symT
  by_cases c : f + k ≤ 7
  · have e2 : at' / 8 = p := by omega
    have e3 : 7 - at' % 8 = 7 - f - k := by omega
    rw [e2, e3, show 16 - f - (k + 1) = 8 + (7 - f - k) by omega, bit_low hb]
  · have e2 : at' / 8 = p + 1 := by omega
    have e3 : 7 - at' % 8 = 15 - f - k := by omega
    rw [e2, e3, show 16 - f - (k + 1) = 15 - f - k by omega]
    exact bit_high (by omega)
theorem symF_K (l : List Int) (n i : Nat) : symF l n i = symK l (i * n / 8) (i * n % 8) n := rfl

end Go.Proofs.Ythlaglhlmbkniaa
