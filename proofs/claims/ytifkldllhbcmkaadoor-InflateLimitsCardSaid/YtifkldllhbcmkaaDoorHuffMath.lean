/- Canonical codes: counts, first codes, places, the table; bits and their numbers; what is read. No program is named here. -/
import Derived.Test.YtifkldllhbcmkaaDoorKit
namespace Go.Proofs.YtifkldllhbcmkaaDoor

/-- How many of the first m have length k. -/
def cnt (a : Nat → Nat) (k : Nat) : Nat → Nat
  | 0 => 0
  | m + 1 => cnt a k m + (if a m = k then 1 else 0)
theorem cnt_mono (a : Nat → Nat) (k m : Nat) : ∀ n, m ≤ n → cnt a k m ≤ cnt a k n
  | 0, h => by rw [Nat.le_zero.1 h]; exact Nat.le_refl _
  | n + 1, h => by
    by_cases e : m = n + 1
    · subst e; exact Nat.le_refl _
    · have := cnt_mono a k m n (by omega)
      rw [cnt]; split <;> omega
theorem cnt_lt (a : Nat → Nat) (k i n : Nat) (h : i < n) (e : a i = k) : cnt a k i < cnt a k n := by
  have := cnt_mono a k (i + 1) n h
  rw [cnt, if_pos e] at this
  omega
theorem cnt_le (a : Nat → Nat) (k : Nat) : ∀ n, cnt a k n ≤ n
  | 0 => Nat.le_refl _
  | n + 1 => by
    have := cnt_le a k n
    unfold cnt; split <;> omega
theorem cnt_find (a : Nat → Nat) (k : Nat) : ∀ n p, p < cnt a k n → ∃ i, i < n ∧ a i = k ∧ cnt a k i = p
  | 0, p, h => by simp [cnt] at h
  | n + 1, p, h => by
    by_cases c : p < cnt a k n
    · obtain ⟨i, h1, h2⟩ := cnt_find a k n p c
      exact ⟨i, by omega, h2⟩
    · unfold cnt at h
      split at h
      · exact ⟨n, by omega, by assumption, by omega⟩
      · omega
theorem cnt_inj (a : Nat → Nat) (k i j : Nat) (hi : a i = k) (hj : a j = k) (h : cnt a k i = cnt a k j) : i = j := by
  rcases Nat.lt_trichotomy i j with h1 | h1 | h1
  · have := cnt_lt a k i j h1 hi; omega
  · exact h1
  · have := cnt_lt a k j i h1 hj; omega
/-- How many codes of length k. -/
def cN (a : Nat → Nat) (n k : Nat) : Nat := if k = 0 then 0 else cnt a k n
theorem cN_pos (a : Nat → Nat) (n k : Nat) (h : k ≠ 0) : cN a n k = cnt a k n := if_neg h
theorem cN_zero (a : Nat → Nat) (n : Nat) : cN a n 0 = 0 := if_pos rfl
def fstC (N : Nat → Nat) : Nat → Nat
  | 0 => 0
  | k + 1 => 2 * (fstC N k + N k)
def plc (N : Nat → Nat) : Nat → Nat
  | 0 => 0
  | k + 1 => plc N k + N k
def ks (N : Nat → Nat) : Nat → Nat
  | 0 => 0
  | m + 1 => ks N m + N m * 2 ^ (15 - m)
def endC (N : Nat → Nat) (t : Nat) : Nat := fstC N t + N t
theorem fst_next (N : Nat → Nat) (t : Nat) : fstC N (t + 1) = 2 * endC N t := rfl
theorem ks_mono (N : Nat → Nat) (m : Nat) : ∀ n, m ≤ n → ks N m ≤ ks N n
  | 0, h => by obtain rfl : m = 0 := by omega
               exact Nat.le_refl _
  | n + 1, h => by
    by_cases e : m = n + 1
    · subst e; exact Nat.le_refl _
    · have := ks_mono N m n (by omega)
      rw [ks]
      exact Nat.le_trans this (Nat.le_add_right _ _)
theorem plc_mono (N : Nat → Nat) (m : Nat) : ∀ n, m ≤ n → plc N m ≤ plc N n
  | 0, h => by obtain rfl : m = 0 := by omega
               exact Nat.le_refl _
  | n + 1, h => by
    by_cases e : m = n + 1
    · subst e; exact Nat.le_refl _
    · have := plc_mono N m n (by omega)
      rw [plc]
      exact Nat.le_trans this (Nat.le_add_right _ _)
theorem kraft (N : Nat → Nat) : ∀ t, t ≤ 15 → endC N t * 2 ^ (15 - t) = ks N (t + 1)
  | 0, _ => by simp [endC, fstC, ks]
  | t + 1, h => by
    have ih := kraft N t (by omega)
    have e : 15 - t = 15 - (t + 1) + 1 := by omega
    rw [e, Nat.pow_succ] at ih
    rw [ks, ← ih]
    show (2 * endC N t + N (t + 1)) * _ = _
    rw [Nat.add_mul, Nat.mul_comm 2, Nat.mul_assoc, Nat.mul_comm 2]
theorem end_le (N : Nat → Nat) (h : ks N 16 ≤ 32768) (t : Nat) (ht : t ≤ 15) : endC N t ≤ 2 ^ t := by
  have h1 := kraft N t ht
  have h2 := ks_mono N (t + 1) 16 (by omega)
  have h3 : (32768 : Nat) = 2 ^ t * 2 ^ (15 - t) := by
    rw [← Nat.pow_add, show t + (15 - t) = 15 by omega]
  have h4 : endC N t * 2 ^ (15 - t) ≤ 2 ^ t * 2 ^ (15 - t) := by omega
  exact Nat.le_of_mul_le_mul_right h4 (Nat.two_pow_pos _)
/-- The lengths may be. -/
def okS (N : Nat → Nat) : Prop := ks N 16 = 32768 ∨ plc N 16 = 0 ∨ (plc N 16 = 1 ∧ N 1 = 1)
theorem plc16 (N : Nat → Nat) : plc N 16 = N 0 + N 1 + N 2 + N 3 + N 4 + N 5 + N 6 + N 7 + N 8 + N 9 + N 10 + N 11 + N 12 + N 13 + N 14 + N 15 := by
  simp [plc]
theorem ks16 (N : Nat → Nat) : ks N 16 = N 0 * 32768 + N 1 * 16384 + N 2 * 8192 + N 3 * 4096 + N 4 * 2048 + N 5 * 1024 + N 6 * 512 + N 7 * 256 + N 8 * 128 + N 9 * 64 + N 10 * 32 + N 11 * 16 + N 12 * 8 + N 13 * 4 + N 14 * 2 + N 15 := by
  simp [ks]
theorem okS.sum {N : Nat → Nat} (h : okS N) (h0 : N 0 = 0) : ks N 16 ≤ 32768 := by
  rcases h with h | h | ⟨h, h1⟩
  · omega
  · rw [plc16] at h; rw [ks16]; omega
  · rw [plc16] at h; rw [ks16]; omega
theorem of16 (P : Nat → Prop) : (∀ j, j < 16 → P j) ↔ P 0 ∧ P 1 ∧ P 2 ∧ P 3 ∧ P 4 ∧ P 5 ∧ P 6 ∧ P 7 ∧ P 8 ∧ P 9 ∧ P 10 ∧ P 11 ∧ P 12 ∧ P 13 ∧ P 14 ∧ P 15 := by
  constructor
  · intro h
    exact ⟨h 0 (by decide), h 1 (by decide), h 2 (by decide), h 3 (by decide), h 4 (by decide), h 5 (by decide), h 6 (by decide), h 7 (by decide), h 8 (by decide), h 9 (by decide), h 10 (by decide), h 11 (by decide), h 12 (by decide), h 13 (by decide), h 14 (by decide), h 15 (by decide)⟩
  · rintro ⟨h0, h1, h2, h3, h4, h5, h6, h7, h8, h9, h10, h11, h12, h13, h14, h15⟩ j hj
    have e : j = 0 ∨ j = 1 ∨ j = 2 ∨ j = 3 ∨ j = 4 ∨ j = 5 ∨ j = 6 ∨ j = 7 ∨ j = 8 ∨ j = 9 ∨ j = 10 ∨ j = 11 ∨ j = 12 ∨ j = 13 ∨ j = 14 ∨ j = 15 := by omega
    rcases e with rfl | rfl | rfl | rfl | rfl | rfl | rfl | rfl | rfl | rfl | rfl | rfl | rfl | rfl | rfl | rfl <;> assumption
theorem none16 (N : Nat → Nat) : (∀ j, j < 16 → N j = 0) ↔ plc N 16 = 0 := by
  rw [of16, plc16]; omega
theorem one16 (N : Nat → Nat) : (∀ j, j < 16 → N j = if j = 1 then 1 else 0) ↔ plc N 16 = 1 ∧ N 1 = 1 := by
  rw [of16, plc16]
  simp only [Nat.reduceEqDiff, if_true, if_false, Nat.zero_ne_one]
  omega

/-- The document's sums over all symbols. -/
def rsum (a : Nat → Nat) : Nat → Nat
  | 0 => 0
  | m + 1 => rsum a m + (if a m = 0 then 0 else 2 ^ (15 - a m))
def csum (a : Nat → Nat) : Nat → Nat
  | 0 => 0
  | m + 1 => csum a m + (if a m = 0 then 0 else 1)
theorem cN_next (a : Nat → Nat) (n k : Nat) : cN a (n + 1) k = cN a n k + (if k ≠ 0 ∧ a n = k then 1 else 0) := by
  unfold cN
  by_cases h : k = 0
  · simp [h]
  · simp [h, cnt]
theorem ks_next (a : Nat → Nat) (n : Nat) : ∀ m, ks (cN a (n + 1)) m = ks (cN a n) m + (if a n ≠ 0 ∧ a n < m then 2 ^ (15 - a n) else 0)
  | 0 => by simp [ks]
  | m + 1 => by
    rw [ks, ks, ks_next a n m, cN_next]
    by_cases h : a n = m
    · subst h
      by_cases h0 : a n = 0
      · simp [h0]
      · simp [h0, Nat.add_mul]
        omega
    · have e : (m ≠ 0 ∧ a n = m) ↔ False := by simp [h]
      simp only [e, if_false, Nat.add_zero]
      by_cases h1 : a n ≠ 0 ∧ a n < m
      · rw [if_pos h1, if_pos ⟨h1.1, by omega⟩]; omega
      · rw [if_neg h1, if_neg (fun x => h1 ⟨x.1, by omega⟩)]; omega
theorem plc_next (a : Nat → Nat) (n : Nat) : ∀ m, plc (cN a (n + 1)) m = plc (cN a n) m + (if a n ≠ 0 ∧ a n < m then 1 else 0)
  | 0 => by simp [plc]
  | m + 1 => by
    rw [plc, plc, plc_next a n m, cN_next]
    by_cases h : a n = m
    · subst h
      by_cases h0 : a n = 0
      · simp [h0]
      · simp [h0]
        omega
    · have e : (m ≠ 0 ∧ a n = m) ↔ False := by simp [h]
      simp only [e, if_false, Nat.add_zero]
      by_cases h1 : a n ≠ 0 ∧ a n < m
      · rw [if_pos h1, if_pos ⟨h1.1, by omega⟩]; omega
      · rw [if_neg h1, if_neg (fun x => h1 ⟨x.1, by omega⟩)]; omega
theorem cN_none (a : Nat → Nat) (k : Nat) : cN a 0 k = 0 := by unfold cN; split <;> rfl
theorem ks_none (a : Nat → Nat) : ∀ m, ks (cN a 0) m = 0
  | 0 => rfl
  | m + 1 => by rw [ks, ks_none a m, cN_none]; simp
theorem plc_none (a : Nat → Nat) : ∀ m, plc (cN a 0) m = 0
  | 0 => rfl
  | m + 1 => by rw [plc, plc_none a m, cN_none]
theorem rsum_is (a : Nat → Nat) (ha : ∀ i, a i ≤ 15) : ∀ n, rsum a n = ks (cN a n) 16
  | 0 => (ks_none a 16).symm
  | n + 1 => by
    have := ha n
    rw [rsum, rsum_is a ha n, ks_next]
    congr 1
    by_cases h : a n = 0
    · rw [if_pos h, if_neg (fun x => x.1 h)]
    · rw [if_neg h, if_pos ⟨h, by omega⟩]
theorem csum_is (a : Nat → Nat) (ha : ∀ i, a i ≤ 15) : ∀ n, csum a n = plc (cN a n) 16
  | 0 => (plc_none a 16).symm
  | n + 1 => by
    have := ha n
    rw [csum, csum_is a ha n, plc_next]
    congr 1
    by_cases h : a n = 0
    · rw [if_pos h, if_neg (fun x => x.1 h)]
    · rw [if_neg h, if_pos ⟨h, by omega⟩]
theorem csum_le (a : Nat → Nat) : ∀ n, csum a n ≤ n
  | 0 => Nat.le_refl _
  | n + 1 => by have := csum_le a n; rw [csum]; split <;> omega
theorem rsum_le (a : Nat → Nat) : ∀ n, rsum a n ≤ 32768 * n
  | 0 => Nat.le_refl _
  | n + 1 => by
    have := rsum_le a n
    have h : 2 ^ (15 - a n) ≤ 2 ^ 15 := Nat.pow_le_pow_right (by decide) (by omega)
    rw [rsum]; split <;> omega

/-- The code of symbol i. -/
def codeC (a : Nat → Nat) (n i : Nat) : Nat := if a i = 0 then 0 else fstC (cN a n) (a i) + cnt a (a i) i
theorem code_lo (a : Nat → Nat) (n i : Nat) (h : a i ≠ 0) : fstC (cN a n) (a i) ≤ codeC a n i := by
  unfold codeC; rw [if_neg h]; omega
theorem code_hi (a : Nat → Nat) (n i : Nat) (h : a i ≠ 0) (hi : i < n) : codeC a n i < endC (cN a n) (a i) := by
  have := cnt_lt a (a i) i n hi rfl
  unfold codeC endC; rw [if_neg h, cN_pos _ _ _ h]; omega
/-- The table of the symbols, behind m of them. -/
def tabF (a N : Nat → Nat) : Nat → Nat → Nat
  | 0 => fun _ => 0
  | m + 1 => if a m = 0 then tabF a N m else fun j => if j = plc N (a m) + cnt a (a m) m then m else tabF a N m j
theorem slot_lt (a : Nat → Nat) (n i : Nat) (h : a i ≠ 0) (hi : i < n) : plc (cN a n) (a i) + cnt a (a i) i < plc (cN a n) (a i + 1) := by
  have := cnt_lt a (a i) i n hi rfl
  rw [plc, cN_pos _ _ _ h]; omega
theorem slot_ne (a : Nat → Nat) (n i m : Nat) (hi : a i ≠ 0) (hm : a m ≠ 0) (h : i < m) (hn : m < n) : plc (cN a n) (a i) + cnt a (a i) i ≠ plc (cN a n) (a m) + cnt a (a m) m := by
  have h1 := slot_lt a n i hi (by omega)
  have h2 := slot_lt a n m hm hn
  rcases Nat.lt_trichotomy (a i) (a m) with c | c | c
  · have := plc_mono (cN a n) (a i + 1) (a m) c; omega
  · have := cnt_lt a (a i) i m h rfl
    rw [← c]; omega
  · have := plc_mono (cN a n) (a m + 1) (a i) c; omega
theorem tab_at (a : Nat → Nat) (n i : Nat) (h : a i ≠ 0) : ∀ m, i < m → m ≤ n → tabF a (cN a n) m (plc (cN a n) (a i) + cnt a (a i) i) = i
  | 0, hi, _ => absurd hi (by omega)
  | m + 1, hi, hm => by
    unfold tabF
    by_cases e : i = m
    · subst e; rw [if_neg h, if_pos rfl]
    · have ih := tab_at a n i h m (by omega) (by omega)
      by_cases h0 : a m = 0
      · rw [if_pos h0, ih]
      · rw [if_neg h0, if_neg (slot_ne a n i m h h0 (by omega) (by omega)), ih]

/-- The first t bits as a number. -/
def val (β : Nat → Nat) : Nat → Nat
  | 0 => 0
  | t + 1 => 2 * val β t + β t
theorem val_lt (β : Nat → Nat) (hβ : ∀ j, β j ≤ 1) : ∀ t, val β t < 2 ^ t
  | 0 => by simp [val]
  | t + 1 => by
    have := val_lt β hβ t
    have := hβ t
    rw [val, Nat.pow_succ]; omega
theorem val_eq (β γ : Nat → Nat) (hβ : ∀ j, β j ≤ 1) (hγ : ∀ j, γ j ≤ 1) : ∀ t, val β t = val γ t ↔ ∀ j, j < t → β j = γ j
  | 0 => by simp [val]
  | t + 1 => by
    have h1 := hβ t
    have h2 := hγ t
    constructor
    · intro h j hj
      rw [val, val] at h
      by_cases e : j = t
      · subst e; omega
      · exact (val_eq β γ hβ hγ t).1 (by omega) j (by omega)
    · intro h
      rw [val, val, (val_eq β γ hβ hγ t).2 (fun j hj => h j (by omega)), h t (by omega)]
/-- The bits of a code of length k. -/
def binF (k c : Nat) (j : Nat) : Nat := c / 2 ^ (k - 1 - j) % 2
theorem binF_le (k c j : Nat) : binF k c j ≤ 1 := by unfold binF; omega
theorem val_bin (k c : Nat) (hc : c < 2 ^ k) : ∀ t, t ≤ k → val (binF k c) t = c / 2 ^ (k - t)
  | 0, _ => by rw [val, Nat.sub_zero, Nat.div_eq_of_lt hc]
  | t + 1, h => by
    rw [val, val_bin k c hc t (by omega)]
    unfold binF
    have e : k - t = (k - 1 - t) + 1 := by omega
    have e2 : k - (t + 1) = k - 1 - t := by omega
    rw [e, e2, Nat.pow_succ, ← Nat.div_div_eq_div_mul]
    omega

/-- What is read, n bits taken already: the symbol, how many bits, the error. -/
def stepD (N T β : Nat → Nat) (len : Nat) : Nat → Nat → Nat × Nat × Nat
  | 0, n => (0, n, 4)
  | f + 1, n => if val β n < endC N n then (T (plc N n + (val β n - fstC N n)), n, 0) else if plc N 16 ≤ plc N (n + 1) then (0, n, 4) else if len ≤ n then (0, len, 2) else stepD N T β len f (n + 1)
theorem step_hit (N T β : Nat → Nat) (len f n : Nat) (h : val β n < endC N n) : stepD N T β len (f + 1) n = (T (plc N n + (val β n - fstC N n)), n, 0) := by rw [stepD, if_pos h]
theorem step_form (N T β : Nat → Nat) (len f n : Nat) (h : endC N n ≤ val β n) (h2 : plc N 16 ≤ plc N (n + 1)) : stepD N T β len (f + 1) n = (0, n, 4) := by rw [stepD, if_neg (by omega), if_pos h2]
theorem step_end (N T β : Nat → Nat) (len f n : Nat) (h : endC N n ≤ val β n) (h2 : plc N (n + 1) < plc N 16) (h3 : len ≤ n) : stepD N T β len (f + 1) n = (0, len, 2) := by rw [stepD, if_neg (by omega), if_neg (by omega), if_pos h3]
theorem step_on (N T β : Nat → Nat) (len f n : Nat) (h : endC N n ≤ val β n) (h2 : plc N (n + 1) < plc N 16) (h3 : n < len) : stepD N T β len (f + 1) n = stepD N T β len f (n + 1) := by rw [stepD, if_neg (by omega), if_neg (by omega), if_neg (by omega)]
theorem low (N β : Nat → Nat) (hβ : ∀ j, β j ≤ 1) (j : Nat) (h : val β j < endC N j) : ∀ t, j < t → val β t < fstC N t
  | 0, ht => absurd ht (by omega)
  | t + 1, ht => by
    have hb := hβ t
    rw [val, fst_next]
    by_cases e : j = t
    · subst e; omega
    · have := low N β hβ j h t (by omega)
      unfold endC; omega
/-- A code is read as its symbol. -/
theorem step_code (a : Nat → Nat) (n s : Nat) (hs : s < n) (h0 : a s ≠ 0) (h15 : a s ≤ 15) (β : Nat → Nat) (hβ : ∀ j, β j ≤ 1) (hv : val β (a s) = codeC a n s) (len : Nat) (hl : a s ≤ len) :
    ∀ f j, f + j = 16 → j ≤ a s → stepD (cN a n) (tabF a (cN a n) n) β len f j = (s, a s, 0)
  | 0, j, h1, h2 => by omega
  | f + 1, j, h1, h2 => by
    by_cases e : j = a s
    · subst e
      rw [step_hit _ _ _ _ _ _ (by rw [hv]; exact code_hi a n s h0 hs), hv]
      have : codeC a n s - fstC (cN a n) (a s) = cnt a (a s) s := by unfold codeC; rw [if_neg h0]; omega
      rw [this, tab_at a n s h0 n hs (Nat.le_refl _)]
    · have hlow : endC (cN a n) j ≤ val β j := by
        rcases Nat.lt_or_ge (val β j) (endC (cN a n) j) with c | c
        · have h3 := low _ _ hβ j c (a s) (by omega)
          have h4 := code_lo a n s h0
          omega
        · exact c
      have h5 := slot_lt a n s h0 hs
      have h6 := plc_mono (cN a n) (a s + 1) 16 (by omega)
      have h7 := plc_mono (cN a n) (j + 1) (a s) (by omega)
      rw [step_on _ _ _ _ _ _ hlow (by omega) (by omega)]
      exact step_code a n s hs h0 h15 β hβ hv len hl f (j + 1) (by omega) (by omega)
theorem climb (N : Nat → Nat) (v t : Nat) (h : endC N t ≤ v) : ∀ d, endC N (t + d) ≤ v * 2 ^ d ∨ ∃ k, t < k ∧ k ≤ t + d ∧ fstC N k ≤ v * 2 ^ (k - t) ∧ v * 2 ^ (k - t) < endC N k
  | 0 => Or.inl (by simpa using h)
  | d + 1 => by
    rcases climb N v t h d with ih | ⟨k, h1, h2, h3⟩
    · by_cases c : v * 2 ^ (d + 1) < endC N (t + (d + 1))
      · refine Or.inr ⟨t + (d + 1), by omega, Nat.le_refl _, ?_, ?_⟩
        · show 2 * endC N (t + d) ≤ _
          rw [show t + (d + 1) - t = d + 1 by omega, Nat.pow_succ, ← Nat.mul_assoc]
          omega
        · rw [show t + (d + 1) - t = d + 1 by omega]; exact c
      · exact Or.inl (by omega)
    · exact Or.inr ⟨k, h1, by omega, h3⟩
/-- Where no code has come to its end, and there are longer ones, one of them begins so. -/
theorem longer (a : Nat → Nat) (n : Nat) (hok : okS (cN a n)) (v t : Nat) (ht : t ≤ 15) (h : endC (cN a n) t ≤ v) (hv : v < 2 ^ t) (hp : plc (cN a n) (t + 1) < plc (cN a n) 16) :
    ∃ i, i < n ∧ t < a i ∧ codeC a n i / 2 ^ (a i - t) = v := by
  have fin : ∀ k, k ≠ 0 → t < k → fstC (cN a n) k ≤ v * 2 ^ (k - t) → v * 2 ^ (k - t) < endC (cN a n) k → ∃ i, i < n ∧ t < a i ∧ codeC a n i / 2 ^ (a i - t) = v := by
    intro k k0 h1 h3 h4
    obtain ⟨i, e1, e2, e3⟩ := cnt_find a k n (v * 2 ^ (k - t) - fstC (cN a n) k) (by
      unfold endC at h4; rw [cN_pos _ _ _ k0] at h4; omega)
    refine ⟨i, e1, by omega, ?_⟩
    subst e2
    unfold codeC
    rw [if_neg k0, e3, show fstC (cN a n) (a i) + (v * 2 ^ (a i - t) - fstC (cN a n) (a i)) = v * 2 ^ (a i - t) by omega]
    exact Nat.mul_div_cancel _ (Nat.two_pow_pos _)
  rcases hok with hk | hk | ⟨hk, h1⟩
  · rcases climb (cN a n) v t h (15 - t) with c | ⟨k, h1, h2, h3, h4⟩
    · have e := kraft (cN a n) 15 (Nat.le_refl _)
      rw [hk] at e
      simp only [Nat.sub_self, Nat.pow_zero, Nat.mul_one] at e
      rw [show t + (15 - t) = 15 by omega, e] at c
      have h3 : (32768 : Nat) = 2 ^ t * 2 ^ (15 - t) := by
        rw [← Nat.pow_add, show t + (15 - t) = 15 by omega]
      have h4 : v * 2 ^ (15 - t) < 2 ^ t * 2 ^ (15 - t) := Nat.mul_lt_mul_of_pos_right hv (Nat.two_pow_pos _)
      omega
    · exact fin k (by omega) h1 h3 h4
  · omega
  · have h2 : t = 0 := by
      rcases Nat.eq_zero_or_pos t with c | c
      · exact c
      · have := plc_mono (cN a n) 2 (t + 1) (by omega)
        have e2 : plc (cN a n) 2 = cN a n 0 + cN a n 1 := by simp [plc]
        omega
    subst h2
    have hv0 : v = 0 := by simpa using hv
    subst hv0
    refine fin 1 (by decide) (by decide) ?_ ?_
    · simp [fstC, cN_zero]
    · simp [endC, fstC, cN_zero, h1]
theorem longer_some (a : Nat → Nat) (n i t : Nat) (hi : i < n) (h : t < a i) (h15 : a i ≤ 15) : plc (cN a n) (t + 1) < plc (cN a n) 16 := by
  have h1 := slot_lt a n i (by omega) hi
  have h2 := plc_mono (cN a n) (a i + 1) 16 (by omega)
  have h3 := plc_mono (cN a n) (t + 1) (a i) (by omega)
  omega

end Go.Proofs.YtifkldllhbcmkaaDoor
