/- Layer 9: what the video circuit's functions answer, as plain facts on numbers. -/
import Derived.Laws.BitsLemmas
namespace Go.Proofs.YtkcfacbnbjkheaaDoor

/-- The time. -/
def frameV (t : Int) : Int := t % 69888
theorem frameV_bd (t : Int) : 0 ≤ frameV t ∧ frameV t < 69888 := by unfold frameV; omega
theorem tmod_bd (t : Int) : -69888 < t.tmod 69888 ∧ t.tmod 69888 < 69888 ∧ ∃ q, t = t.tmod 69888 + 69888 * q := by
  refine ⟨?_, ?_, t.tdiv 69888, ?_⟩
  · by_cases h : 0 ≤ t
    · rw [Int.tmod_eq_emod_of_nonneg h]; omega
    · rw [show t = -(-t) by omega, Int.neg_tmod, Int.tmod_eq_emod_of_nonneg (by omega)]; omega
  · by_cases h : 0 ≤ t
    · rw [Int.tmod_eq_emod_of_nonneg h]; omega
    · rw [show t = -(-t) by omega, Int.neg_tmod, Int.tmod_eq_emod_of_nonneg (by omega)]; omega
  · exact (Int.tmod_add_mul_tdiv t 69888).symm
theorem frame_up {t r : Int} (h : t.tmod 69888 = r) (h0 : 0 ≤ r) : frameV t = r := by
  obtain ⟨_, _, q, e⟩ := tmod_bd t
  rw [h] at *
  unfold frameV; omega
theorem frame_down {t r : Int} (h : t.tmod 69888 = r) (h0 : r < 0) : frameV t = r + 69888 := by
  obtain ⟨_, _, q, e⟩ := tmod_bd t
  rw [h] at *
  unfold frameV; omega
theorem frame_doc (t : Int) : frameV t = (t.tmod 69888 + 69888) % 69888 := by
  obtain ⟨_, _, q, e⟩ := tmod_bd t
  unfold frameV; omega

/-- Is the circuit busy n T-states behind the screen's beginning? -/
def onB (n : Int) : Bool := decide (n / 224 < 192 ∧ n % 224 < 128)
/-- Is an address the circuit's, too? -/
def slowB (a : Int) : Bool := decide (16384 ≤ a ∧ a ≤ 32767)
theorem slow_doc (a : Int) : slowB a = (a / 16384 == 1) := by
  rw [Bool.eq_iff_iff]
  unfold slowB
  simp only [decide_eq_true_eq, beq_iff_eq]
  omega
/-- Is there such a cell? -/
def cellB (l c : Int) : Bool := decide (0 ≤ l ∧ l < 192 ∧ 0 ≤ c ∧ c < 32)

/-- How long the processor would be held, n T-states behind the screen's beginning, while the circuit is busy. -/
def heldV (n : Int) : Int := if n % 8 ≤ 6 then 6 - n % 8 else 0
/-- How long the processor would be held at a time. -/
def waitV (T : Int) : Int := if 14335 ≤ T ∧ onB (T - 14335) = true then heldV (T - 14335) else 0
theorem waitV_no {T : Int} (h : ¬ (14335 ≤ T ∧ onB (T - 14335) = true)) : waitV T = 0 := by unfold waitV; rw [if_neg h]
theorem waitV_yes {T : Int} (h : 14335 ≤ T) (k : onB (T - 14335) = true) : waitV T = heldV (T - 14335) := by unfold waitV; rw [if_pos ⟨h, k⟩]
theorem heldV_bd (n : Int) : 0 ≤ heldV n ∧ heldV n ≤ 6 := by unfold heldV; split <;> omega
theorem waitV_bd (T : Int) : 0 ≤ waitV T ∧ waitV T ≤ 6 := by
  unfold waitV
  split
  · exact heldV_bd _
  · omega

/-- Whether something is fetched, n T-states behind the first fetch; what: of which line, which cell, its byte or its attribute. -/
def fetB (n : Int) : Bool := decide (0 ≤ n ∧ n / 224 < 192 ∧ n % 224 < 128 ∧ n % 8 < 4)
def fetC (n : Int) : Int := 2 * (n % 224 / 8) + n % 8 / 2

/-- A cell's address, and its attribute's. -/
def pixV (l c : Int) : Int := 16384 + l / 64 * 2048 + l % 8 * 256 + l / 8 % 8 * 32 + c
def colV (l c : Int) : Int := 22528 + l / 8 * 32 + c

theorem w64 (n : Int) (h₀ : 0 ≤ n) (h₁ : n < 2 ^ 31) : IntKind.i64.wrap n = n := by rw [IntKind.wrap_i64]; omega
theorem low3 (x : Int) (h₀ : 0 ≤ x) (h₁ : x < 192) : bits .and .i64 x 7 = x % 8 := bits_mask .i64 31 (by decide) w64 3 (by decide) x h₀ (by omega)
theorem pix_bits (l c : Int) (h0 : 0 ≤ l) (h1 : l < 192) (h2 : 0 ≤ c) (h3 : c < 32) :
    bits .or .i64 (bits .or .i64 (bits .or .i64 (bits .or .i64 16384 (l / 64 * 2048)) (l % 8 * 256)) (l / 8 % 8 * 32)) c = pixV l c := by
  rw [bits_join .i64 31 (by decide) w64 13 16384 (l / 64 * 2048) (by decide) (by decide) (by decide) (by omega) (by omega) (by omega)]
  rw [bits_join .i64 31 (by decide) w64 11 _ (l % 8 * 256) (by omega) (by omega) (by omega) (by omega) (by omega) (by omega)]
  rw [bits_join .i64 31 (by decide) w64 8 _ (l / 8 % 8 * 32) (by omega) (by omega) (by omega) (by omega) (by omega) (by omega)]
  rw [bits_join .i64 31 (by decide) w64 5 _ c (by omega) (by omega) (by omega) (by omega) (by omega) (by omega)]
  rfl
theorem pix_wrap (l c : Int) (h0 : 0 ≤ l) (h1 : l < 192) (h2 : 0 ≤ c) (h3 : c < 32) : IntKind.u16.wrap (pixV l c) = pixV l c := by
  have e : IntKind.u16.wrap (pixV l c) = pixV l c % 65536 := by simp [IntKind.wrap, IntKind.bits, IntKind.signed]
  rw [e]; unfold pixV; omega

end Go.Proofs.YtkcfacbnbjkheaaDoor
