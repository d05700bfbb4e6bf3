/- What Read answers: facts about the bytes alone. -/
import Derived.Test.YtkjibnnoeceaeaaDoorOpRead3
namespace Go.Proofs.YtkjibnnoeceaeaaDoor
open Go.RowKit

theorem read_yes {l : List Nat} {k : Nat} {x : In} (hk : insK l = k) (hn : k ≤ l.length) (hr : insR l = x) : readR l = { x with len := (k : Int) } ∧ readB l = true := by
  subst hk hr
  unfold readR readB
  rw [if_neg (by omega), decide_eq_false (by omega)]
  exact ⟨rfl, rfl⟩
theorem read_no {l : List Nat} (hn : l.length < insK l) : readR l = zeroI ∧ readB l = false := by
  unfold readR readB
  rw [if_pos hn, decide_eq_true hn]
  exact ⟨rfl, rfl⟩
theorem mem_arg (c : Nat) (hc : c < 256) (h : memC c = true) : argC c ≤ 1 := by
  have := all256 (f := fun c => !memC c || decide (argC c ≤ 1)) (by decide +kernel) c hc
  simpa [h] using this
theorem qt {a : Nat} {z : Int} (h : (a : Int) = z) : (((a : Nat) : Int) == z) = true := by rw [beq_iff_eq]; exact h
theorem qf {a : Nat} {z : Int} (h : ¬ (a : Int) = z) : (((a : Nat) : Int) == z) = false := by rw [beq_eq_false_iff_ne]; exact h
theorem num0 (l : List Nat) (k : Nat) : numN l k 0 = 0 := rfl
theorem num1 (l : List Nat) (k : Nat) : numN l k 1 = gN l k := rfl
theorem num2 (l : List Nat) (k : Nat) : numN l k 2 = gN l k + 256 * gN l (k + 1) := by
  show gN l (k + 1) * 256 + gN l k = _
  omega
theorem insK_pos (l : List Nat) : 1 ≤ insK l := by
  unfold insK moreK behK atD
  split
  · omega
  split
  · split <;> omega
  split
  · split
    · omega
    · split
      · omega
      · split <;> omega
  split
  · split
    · omega
    · split
      · omega
      · split <;> omega
  · split <;> omega
theorem at_far (c : Nat) (ix : Int) (k : Nat) (h : memC c = false) : atD c ix k = k := by unfold atD; rw [if_neg (by simp [h])]
theorem at_mem (c : Nat) (ix : Int) (k : Nat) (hx : 0 < ix) (h : memC c = true) : atD c ix k = k + 1 := by unfold atD; rw [if_pos ⟨hx, h⟩]
theorem at_none (c : Nat) (k : Nat) : atD c 0 k = k := by unfold atD; rw [if_neg (by omega)]
theorem plainR_far (l : List Nat) (k c : Nat) (ix : Int) (h : memC c = false) : plainR l k c ix = ⟨0, ix, c, 0, numN l k (argC c), 0⟩ := by
  unfold plainR; rw [at_far c ix k h, if_neg (by simp [h])]
theorem plainR_mem (l : List Nat) (k c : Nat) (ix : Int) (hx : 0 < ix) (h : memC c = true) : plainR l k c ix = ⟨0, ix, c, gN l k, numN l (k + 1) (argC c), 0⟩ := by
  unfold plainR; rw [at_mem c ix k hx h, if_pos ⟨hx, h⟩]
theorem plainR_none (l : List Nat) (k c : Nat) : plainR l k c 0 = ⟨0, 0, c, 0, numN l k (argC c), 0⟩ := by
  unfold plainR; rw [at_none, if_neg (by omega)]

theorem insK4 (l : List Nat) (hb : ∀ j, gN l j < 256) : insK l ≤ 4 := by
  have key : ∀ ix : Int, behK l 1 ix ≤ 4 := by
    intro ix
    unfold behK
    split
    · omega
    split
    · omega
    · have := argC_le (gN l 1) (hb 1)
      by_cases hm : memC (gN l 1) = true
      · have := mem_arg (gN l 1) (hb 1) hm
        have := atD_le (gN l 1) ix (1 + 1)
        omega
      · rw [at_far _ _ _ (by simpa using hm)]
        omega
  have h1 := key 1
  have h2 := key 2
  have hm : moreK l 1 ≤ 4 := by unfold moreK; split <;> omega
  have ha := argC_le (gN l 0) (hb 0)
  unfold insK
  rw [at_none]
  split
  · omega
  split
  · omega
  split
  · omega
  split
  · omega
  · omega
theorem numN_same {l m : List Nat} {k n : Nat} (h : ∀ j, j < k + n → gN m j = gN l j) : numN m k n = numN l k n := by
  unfold numN
  split
  · rw [h k (by omega)]
  split
  · rw [h k (by omega), h (k + 1) (by omega)]
  · rfl
theorem plainR_same {l m : List Nat} {k c : Nat} {ix : Int} (h : ∀ j, j < atD c ix k + argC c → gN m j = gN l j) : plainR m k c ix = plainR l k c ix := by
  unfold plainR
  rw [numN_same h]
  by_cases d : 0 < ix ∧ memC c = true
  · rw [at_mem c ix k d.1 d.2] at h
    rw [if_pos d, if_pos d, h k (by omega)]
  · rw [if_neg d, if_neg d]
theorem behR_same {l m : List Nat} {ix : Int} (hs : ¬ (gN l 1 = 221 ∨ gN l 1 = 237 ∨ gN l 1 = 253)) (h : ∀ j, j < behK l 1 ix → gN m j = gN l j) : behR m 1 ix = behR l 1 ix ∧ behK m 1 ix = behK l 1 ix := by
  unfold behK at h
  rw [if_neg hs] at h
  have h1 : gN m 1 = gN l 1 := by
    apply h
    split
    · omega
    · have := atD_le (gN l 1) ix (1 + 1); omega
  unfold behR behK
  simp only [h1, if_neg hs]
  by_cases c : gN l 1 = 203
  · rw [if_pos c] at h
    simp only [if_pos c]
    rw [h (1 + 1) (by omega), h (1 + 2) (by omega)]
    first | exact ⟨rfl, rfl⟩ | exact ⟨rfl, trivial⟩ | exact ⟨trivial, trivial⟩ | trivial
  · rw [if_neg c] at h
    simp only [if_neg c]
    first | exact ⟨plainR_same h, rfl⟩ | exact ⟨plainR_same h, trivial⟩
theorem moreR_same {l m : List Nat} (h : ∀ j, j < moreK l 1 → gN m j = gN l j) : moreR m 1 = moreR l 1 ∧ moreK m 1 = moreK l 1 := by
  have h1 : gN m 1 = gN l 1 := by
    apply h
    unfold moreK
    split <;> omega
  unfold moreK at h
  unfold moreR moreK
  rw [h1]
  by_cases x : moreX (gN l 1) = true
  · rw [if_pos x] at h
    simp only [if_pos x]
    rw [numN_same (n := 2) (k := 1 + 1) (fun j hj => h j (by omega))]
    first | exact ⟨rfl, rfl⟩ | exact ⟨rfl, trivial⟩ | exact ⟨trivial, trivial⟩ | trivial
  · simp only [if_neg x]
    first | exact ⟨rfl, rfl⟩ | exact ⟨rfl, trivial⟩ | exact ⟨trivial, trivial⟩ | trivial
/-- What is read hangs on its own bytes alone. -/
theorem ins_same {l m : List Nat} (hs : (insR l).set ≠ 4) (h : ∀ j, j < insK l → gN m j = gN l j) : insR m = insR l ∧ insK m = insK l := by
  have h0 : gN m 0 = gN l 0 := h 0 (insK_pos l)
  unfold insK at h
  unfold insR at hs
  unfold insR insK
  rw [h0]
  by_cases c : gN l 0 = 203
  · rw [if_pos c] at h
    simp only [if_pos c]
    rw [h 1 (by omega)]
    first | exact ⟨rfl, rfl⟩ | exact ⟨rfl, trivial⟩ | exact ⟨trivial, trivial⟩ | trivial
  simp only [if_neg c] at h hs ⊢
  by_cases c : gN l 0 = 237
  · simp only [if_pos c] at h hs ⊢
    exact moreR_same h
  simp only [if_neg c] at h hs ⊢
  have pre : ∀ ix, (behR l 1 ix).set ≠ 4 → ¬ (gN l 1 = 221 ∨ gN l 1 = 237 ∨ gN l 1 = 253) := by
    intro ix h1 h2
    apply h1
    unfold behR
    rw [if_pos h2]
  by_cases c : gN l 0 = 221
  · simp only [if_pos c] at h hs ⊢
    exact behR_same (pre _ hs) h
  simp only [if_neg c] at h hs ⊢
  by_cases c : gN l 0 = 253
  · simp only [if_pos c] at h hs ⊢
    exact behR_same (pre _ hs) h
  simp only [if_neg c] at h hs ⊢
  first | exact ⟨plainR_same h, rfl⟩ | exact ⟨plainR_same h, trivial⟩
theorem gN_take (l : List Nat) (k j : Nat) (h : j < k) : gN (l.take k) j = gN l j := by
  unfold gN
  rw [List.getD_eq_getElem?_getD, List.getD_eq_getElem?_getD, List.getElem?_take_of_lt h]
theorem gN_take_app (l m : List Nat) (k j : Nat) (h : j < k) (hk : k ≤ l.length) : gN (l.take k ++ m) j = gN l j := by
  unfold gN
  rw [List.getD_eq_getElem?_getD, List.getD_eq_getElem?_getD, List.getElem?_append_left (by simp; omega), List.getElem?_take_of_lt h]
theorem lt_take (l : List Nat) (hb : ∀ j, gN l j < 256) (k j : Nat) : gN (l.take k) j < 256 := by
  by_cases h : j < k
  · rw [gN_take l k j h]; exact hb j
  · rw [gN_end _ _ (by simp; omega)]; omega
theorem lt_app (l m : List Nat) (hl : ∀ j, gN l j < 256) (hm : ∀ j, gN m j < 256) (j : Nat) : gN (l ++ m) j < 256 := by
  unfold gN at *
  rw [List.getD_eq_getElem?_getD]
  by_cases h : j < l.length
  · rw [List.getElem?_append_left h, ← List.getD_eq_getElem?_getD]; exact hl j
  · rw [List.getElem?_append_right (by omega), ← List.getD_eq_getElem?_getD]; exact hm _
theorem set_same (l : List Nat) (h : readB l = true) : (readR l).set = (insR l).set ∧ (readR l).len = ((insK l : Nat) : Int) ∧ insK l ≤ l.length := by
  unfold readB at h
  have h1 : ¬ l.length < insK l := by simpa using h
  unfold readR
  rw [if_neg h1]
  exact ⟨rfl, rfl, by omega⟩
/-- Behind the bytes of an instruction whatever stands: the same is read. -/
theorem read_again (l m : List Nat) (h : readB l = true) (hs : (readR l).set ≠ 4) : readR (l.take (insK l) ++ m) = readR l ∧ readB (l.take (insK l) ++ m) = true := by
  obtain ⟨h1, _, h3⟩ := set_same l h
  rw [h1] at hs
  obtain ⟨e1, e2⟩ := ins_same (m := l.take (insK l) ++ m) hs (fun j hj => gN_take_app l m _ j hj h3)
  have hl : ¬ (l.take (insK l) ++ m).length < insK l := by simp; omega
  unfold readR readB
  rw [e1, e2]
  simp only [if_neg hl, if_neg (show ¬ l.length < insK l by omega), decide_eq_false hl]
  first | exact ⟨rfl, rfl⟩ | exact ⟨rfl, trivial⟩ | exact ⟨trivial, trivial⟩ | trivial
/-- Without their last byte there is nothing to be read. -/
theorem read_less (l : List Nat) (h : readB l = true) (hs : (readR l).set ≠ 4) : readB (l.take (insK l - 1)) = false := by
  obtain ⟨h1, _, h3⟩ := set_same l h
  rw [h1] at hs
  have hlen : (l.take (insK l - 1)).length = insK l - 1 := by simp; omega
  have hpos := insK_pos l
  have key : insK l ≤ insK (l.take (insK l - 1)) := by
    obtain ⟨K, hK⟩ : ∃ K, insK l = K := ⟨_, rfl⟩
    obtain ⟨m, hm⟩ : ∃ m, l.take (insK l - 1) = m := ⟨_, rfl⟩
    rw [hm]
    have same : ∀ j, j < insK l - 1 → gN m j = gN l j := fun j hj => by rw [← hm]; exact gN_take l _ j hj
    by_cases k1 : insK l = 1
    · rw [k1]; exact insK_pos m
    have h0 : gN m 0 = gN l 0 := same 0 (by omega)
    unfold insR at hs
    unfold insK at same ⊢
    rw [h0]
    by_cases c : gN l 0 = 203
    · simp only [if_pos c]; omega
    simp only [if_neg c] at same hs ⊢
    by_cases c : gN l 0 = 237
    · simp only [if_pos c] at same hs ⊢
      unfold moreK at same ⊢
      by_cases x : moreX (gN l 1) = true
      · rw [if_pos x] at same
        rw [same 1 (by omega)]
        exact Nat.le_refl _
      · rw [if_neg x]
        split <;> omega
    simp only [if_neg c] at same hs ⊢
    have beh : ∀ ix, (behR l 1 ix).set ≠ 4 → (∀ j, j < behK l 1 ix - 1 → gN m j = gN l j) → (gN m 1 = gN l 1 ∨ gN m 1 = 0) → behK l 1 ix ≤ behK m 1 ix := by
      intro ix hq hj hz
      have p : ¬ (gN l 1 = 221 ∨ gN l 1 = 237 ∨ gN l 1 = 253) := by
        intro h2
        apply hq
        unfold behR
        rw [if_pos h2]
      unfold behK at hj ⊢
      rw [if_neg p] at hj ⊢
      rcases hz with e | e
      · rw [e, if_neg p]
        exact Nat.le_refl _
      · by_cases e1 : gN m 1 = gN l 1
        · rw [e1, if_neg p]
          exact Nat.le_refl _
        · rw [e, if_neg (show ¬ ((0 : Nat) = 221 ∨ (0 : Nat) = 237 ∨ (0 : Nat) = 253) by decide), if_neg (show ¬ (0 : Nat) = 203 by decide)]
          have a0 := atD_le 0 ix (1 + 1)
          by_cases c3 : gN l 1 = 203
          · rw [if_pos c3] at hj
            exact absurd (hj 1 (by omega)) e1
          · rw [if_neg c3] at hj ⊢
            have : ¬ 1 < atD (gN l 1) ix (1 + 1) + argC (gN l 1) - 1 := fun q => e1 (hj 1 q)
            omega
    have hz : gN m 1 = gN l 1 ∨ gN m 1 = 0 := by
      by_cases q : 1 < K - 1
      · left; rw [← hm, hK]; exact gN_take l _ 1 q
      · right; rw [← hm, hK]; exact gN_end _ _ (by simp; omega)
    by_cases c : gN l 0 = 221
    · simp only [if_pos c] at same hs ⊢
      exact beh 1 hs same hz
    simp only [if_neg c] at same hs ⊢
    by_cases c : gN l 0 = 253
    · simp only [if_pos c] at same hs ⊢
      exact beh 2 hs same hz
    simp only [if_neg c] at same hs ⊢
    exact Nat.le_refl _
  unfold readB
  rw [hlen, decide_eq_true (by omega)]
  rfl
/-- A prefix alone. -/
theorem set4 (l : List Nat) (hs : (insR l).set = 4) : insK l = 1 := by
  have pre : ∀ ix, (behR l 1 ix).set = 4 → behK l 1 ix = 1 := by
    intro ix h
    unfold behR at h
    unfold behK
    by_cases p : gN l 1 = 221 ∨ gN l 1 = 237 ∨ gN l 1 = 253
    · rw [if_pos p]
    · rw [if_neg p] at h
      by_cases c : gN l 1 = 203
      · rw [if_pos c] at h; exact absurd h (show ¬ (3 : Int) = 4 by decide)
      · rw [if_neg c] at h; unfold plainR at h; exact absurd h (show ¬ (0 : Int) = 4 by decide)
  unfold insR at hs
  unfold insK
  by_cases c : gN l 0 = 203
  · rw [if_pos c] at hs; exact absurd hs (show ¬ (1 : Int) = 4 by decide)
  simp only [if_neg c] at hs ⊢
  by_cases c : gN l 0 = 237
  · rw [if_pos c] at hs; unfold moreR at hs; exact absurd hs (show ¬ (2 : Int) = 4 by decide)
  simp only [if_neg c] at hs ⊢
  by_cases c : gN l 0 = 221
  · simp only [if_pos c] at hs ⊢
    exact pre 1 hs
  simp only [if_neg c] at hs ⊢
  by_cases c : gN l 0 = 253
  · simp only [if_pos c] at hs ⊢
    exact pre 2 hs
  simp only [if_neg c] at hs
  unfold plainR at hs
  exact absurd hs (show ¬ (0 : Int) = 4 by decide)

/-- What was read is an instruction. -/
theorem numN_lt (l : List Nat) (hb : ∀ j, gN l j < 256) (k n : Nat) : numN l k n < 65536 := by
  have := hb k
  have := hb (k + 1)
  unfold numN
  split
  · omega
  split
  · omega
  · omega
theorem plainR_ok (l : List Nat) (hb : ∀ j, gN l j < 256) (k c : Nat) (ix : Int) (hc : c < 256) (hx : 0 ≤ ix ∧ ix ≤ 2) : (plainR l k c ix).Ok := by
  unfold plainR
  refine ⟨by show _ ≤ (0 : Int) ∧ (0 : Int) ≤ _; omega, by show _ ≤ ix ∧ ix ≤ _; omega, hc, ?_, numN_lt l hb _ _, by show _ ≤ (0 : Int) ∧ (0 : Int) ≤ _; omega⟩
  show (if 0 < ix ∧ memC c = true then gN l k else 0) < 256
  have := hb k
  split <;> omega
theorem in_ok (s ix : Int) (c d n : Nat) (z : Int) (hs : 0 ≤ s ∧ s ≤ 4) (hx : 0 ≤ ix ∧ ix ≤ 2) (hc : c < 256) (hd : d < 256) (hn : n < 65536) (hz : 0 ≤ z ∧ z ≤ 8) : (In.mk s ix c d n z).Ok :=
  ⟨⟨by show (-9223372036854775808 : Int) ≤ s; omega, by show s ≤ (9223372036854775807 : Int); omega⟩, ⟨by show (-9223372036854775808 : Int) ≤ ix; omega, by show ix ≤ (9223372036854775807 : Int); omega⟩, hc, hd, hn, ⟨by show (-9223372036854775808 : Int) ≤ z; omega, by show z ≤ (9223372036854775807 : Int); omega⟩⟩
theorem behR_ok (l : List Nat) (hb : ∀ j, gN l j < 256) (ix : Int) (hx : 0 ≤ ix ∧ ix ≤ 2) : (behR l 1 ix).Ok := by
  unfold behR
  split
  · exact in_ok _ _ _ _ _ _ (by omega) hx (by omega) (by omega) (by omega) (by omega)
  split
  · exact in_ok _ _ _ _ _ _ (by omega) hx (hb _) (hb _) (by omega) (by omega)
  · exact plainR_ok l hb _ _ ix (hb 1) hx
theorem insR_ok (l : List Nat) (hb : ∀ j, gN l j < 256) : (insR l).Ok := by
  unfold insR
  split
  · exact in_ok _ _ _ _ _ _ (by omega) (by omega) (hb 1) (by omega) (by omega) (by omega)
  split
  · unfold moreR
    refine in_ok _ _ _ _ _ _ (by omega) (by omega) (hb 1) (by omega) ?_ (by omega)
    split
    · exact numN_lt l hb _ _
    · omega
  split
  · exact behR_ok l hb 1 (by omega)
  split
  · exact behR_ok l hb 2 (by omega)
  · exact plainR_ok l hb _ _ 0 (hb 0) (by omega)
theorem readR_ok (l : List Nat) (hb : ∀ j, gN l j < 256) : (readR l).Ok := by
  unfold readR
  split
  · exact in_ok _ _ _ _ _ _ (by omega) (by omega) (by omega) (by omega) (by omega) (by omega)
  · have h := insR_ok l hb
    have h4 := insK4 l hb
    exact ⟨h.set, h.ix, h.code, h.d, h.n, ⟨by show (-9223372036854775808 : Int) ≤ ((insK l : Nat) : Int); omega, by show ((insK l : Nat) : Int) ≤ (9223372036854775807 : Int); omega⟩⟩
/-- What was read has a text. -/
theorem insR_text (l : List Nat) (hb : ∀ j, gN l j < 256) : (insR l).set = 0 ∧ (insR l).code ≠ 203 ∨ (insR l).set = 1 ∨ (insR l).set = 2 ∨ (insR l).set = 3 ∨ (insR l).set = 4 := by
  have beh : ∀ ix, (behR l 1 ix).set = 0 ∧ (behR l 1 ix).code ≠ 203 ∨ (behR l 1 ix).set = 1 ∨ (behR l 1 ix).set = 2 ∨ (behR l 1 ix).set = 3 ∨ (behR l 1 ix).set = 4 := by
    intro ix
    unfold behR
    split
    · exact Or.inr (Or.inr (Or.inr (Or.inr rfl)))
    split
    · exact Or.inr (Or.inr (Or.inr (Or.inl rfl)))
    · rename_i h
      exact Or.inl ⟨rfl, h⟩
  unfold insR
  by_cases c1 : gN l 0 = 203
  · rw [if_pos c1]; exact Or.inr (Or.inl rfl)
  rw [if_neg c1]
  split
  · exact Or.inr (Or.inr (Or.inl rfl))
  split
  · exact beh 1
  split
  · exact beh 2
  · exact Or.inl ⟨rfl, c1⟩
theorem readR_text (l : List Nat) (hb : ∀ j, gN l j < 256) (h4 : 4 ≤ l.length) : readB l = true ∧ 0 ≤ (readR l).len ∧ (readR l).len ≤ 8 ∧ showT (readR l).set (hasI (readR l).ix) (nameL (readR l).ix) (readR l).code ≠ [] := by
  have hk := insK4 l hb
  have hn : ¬ l.length < insK l := by omega
  have hr : readB l = true := by unfold readB; rw [decide_eq_false hn]; rfl
  obtain ⟨e1, e2, _⟩ := set_same l hr
  refine ⟨hr, by rw [e2]; omega, by rw [e2]; omega, ?_⟩
  have ok := readR_ok l hb
  refine show_ne _ _ _ ok.code ?_
  have ht := insR_text l hb
  have e3 : (readR l).code = (insR l).code := by unfold readR; rw [if_neg hn]
  rw [e1, e3]
  exact ht

end Go.Proofs.YtkjibnnoeceaeaaDoor
