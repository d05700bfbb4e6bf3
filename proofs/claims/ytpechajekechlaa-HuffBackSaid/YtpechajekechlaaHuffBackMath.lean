/- HuffBack: the bits that are put together, and what is read of them. -/
import Derived.Test.YtpechajekechlaaHuffNext
import Derived.Test.YtpechajekechlaaHuffNumbers
namespace Go.Proofs.Ytpechajekechlaa

/-- A symbol that has a code. -/
def good (l : List Int) (x : Int) : Prop := 0 ≤ x ∧ x < l.length ∧ lnN l x.toNat ≠ 0
instance (l : List Int) (x : Int) : Decidable (good l x) := by unfold good; infer_instance
def cdN (l : List Int) (s : Nat) : Nat := codeC (lnN l) l.length s
/-- Its bits. -/
def cbF (l : List Int) (s : Nat) (j : Nat) : Int := (binF (lnN l s) (cdN l s) j : Nat)
def cbL (l : List Int) (s : Nat) : List Int := lstF (cbF l s) (lnN l s)
/-- What the first k symbols make: the symbols wanted, the bits. -/
def stW (l y : List Int) : Nat → List Int
  | 0 => []
  | k + 1 => if good l (gI y k) then stW l y k ++ [gI y k] else stW l y k
def stB (l y : List Int) : Nat → List Int
  | 0 => []
  | k + 1 => if good l (gI y k) then stB l y k ++ cbL l (gI y k).toNat else stB l y k
def bitsW (l : List Int) (W : List Int) : List Int := W.flatMap fun x => cbL l x.toNat
theorem stB_is (l y : List Int) : ∀ k, stB l y k = bitsW l (stW l y k)
  | 0 => rfl
  | k + 1 => by
    rw [stB, stW]
    by_cases h : good l (gI y k)
    · rw [if_pos h, if_pos h, stB_is l y k]
      unfold bitsW
      rw [List.flatMap_append]
      simp
    · rw [if_neg h, if_neg h, stB_is l y k]
theorem stW_good (l y : List Int) : ∀ k, ∀ x ∈ stW l y k, good l x
  | 0, x, h => by simp [stW] at h
  | k + 1, x, h => by
    rw [stW] at h
    by_cases c : good l (gI y k)
    · rw [if_pos c, List.mem_append] at h
      rcases h with h | h
      · exact stW_good l y k x h
      · rw [List.mem_singleton] at h; rw [h]; exact c
    · rw [if_neg c] at h
      exact stW_good l y k x h
theorem stW_len (l y : List Int) : ∀ k, (stW l y k).length ≤ k
  | 0 => Nat.le_refl _
  | k + 1 => by
    have := stW_len l y k
    rw [stW]; split
    · rw [List.length_append]; simp; omega
    · omega
theorem cbL_len (l : List Int) (s : Nat) : (cbL l s).length = lnN l s := lstF_len _ _
theorem stB_len (l y : List Int) (hf : Fine l) : ∀ k, (stB l y k).length ≤ 15 * k
  | 0 => Nat.le_refl _
  | k + 1 => by
    have := stB_len l y hf k
    rw [stB]; split
    · rw [List.length_append, cbL_len]
      have := (hf.ln (gI y k).toNat).2
      omega
    · omega
/-- Where symbol i's bits begin. -/
def posW (l W : List Int) (i : Nat) : Nat := (bitsW l (W.take i)).length
theorem posW_zero (l W : List Int) : posW l W 0 = 0 := rfl
theorem posW_next (l W : List Int) (i : Nat) (h : i < W.length) : posW l W (i + 1) = posW l W i + lnN l (gI W i).toNat := by
  unfold posW bitsW
  rw [take_gI W i h, List.flatMap_append, List.length_append]
  simp [cbL_len]
theorem posW_all (l W : List Int) : posW l W W.length = (bitsW l W).length := by unfold posW; rw [List.take_length]
theorem bitsW_at (l W : List Int) (i j : Nat) (h : i < W.length) (hj : j < lnN l (gI W i).toNat) : gI (bitsW l W) (posW l W i + j) = cbF l (gI W i).toNat j := by
  have e : bitsW l W = bitsW l (W.take i) ++ (cbL l (gI W i).toNat ++ bitsW l (W.drop (i + 1))) := by
    have e1 : W = W.take i ++ gI W i :: W.drop (i + 1) := by
      have h' : W[i] = gI W i := by have := gI_some W i h; rw [List.getElem?_eq_getElem h] at this; exact Option.some.inj this
      rw [← h', List.getElem_cons_drop, List.take_append_drop]
    rw [show bitsW l W = bitsW l (W.take i ++ gI W i :: W.drop (i + 1)) by rw [← e1]]
    unfold bitsW
    rw [List.flatMap_append, List.flatMap_cons]
  rw [e]
  unfold posW
  rw [gI_app_right _ _ _ (by omega), Nat.add_sub_cancel_left, gI_app_left _ _ _ (by rw [cbL_len]; exact hj)]
  unfold cbL
  rw [gI_lstF _ _ _ hj]
theorem bitsW_le (l : List Int) : ∀ (W : List Int) (p : Nat), 0 ≤ gI (bitsW l W) p ∧ gI (bitsW l W) p ≤ 1
  | [], p => by
    have : bitsW l [] = [] := rfl
    rw [this, gI_nil]; omega
  | x :: W, p => by
    have : bitsW l (x :: W) = cbL l x.toNat ++ bitsW l W := by unfold bitsW; rw [List.flatMap_cons]
    rw [this]
    by_cases h : p < (cbL l x.toNat).length
    · rw [gI_app_left _ _ _ h]
      unfold cbL
      rw [gI_lstF _ _ _ (by rw [cbL_len] at h; exact h)]
      unfold cbF
      have := binF_le (lnN l x.toNat) (cdN l x.toNat) p
      omega
    · rw [gI_app_right _ _ _ (by omega)]
      exact bitsW_le l W _

/-- Bit p of Q, behind m bits. -/
def qm (Q : List Int) (m p : Nat) : Nat := if p < m then (gI Q p).toNat else 0
/-- Byte j, behind m bits. -/
def byF (Q : List Int) (m j : Nat) : Nat :=
  qm Q m (8 * j) + 2 * qm Q m (8 * j + 1) + 4 * qm Q m (8 * j + 2) + 8 * qm Q m (8 * j + 3) + 16 * qm Q m (8 * j + 4) + 32 * qm Q m (8 * j + 5) + 64 * qm Q m (8 * j + 6) + 128 * qm Q m (8 * j + 7)
theorem qm_le (Q : List Int) (hQ : ∀ p, 0 ≤ gI Q p ∧ gI Q p ≤ 1) (m p : Nat) : qm Q m p ≤ 1 := by
  have := hQ p
  unfold qm; split <;> omega
theorem byF_zero (Q : List Int) (j : Nat) : byF Q 0 j = 0 := by simp [byF, qm]
theorem qm_next (Q : List Int) (m p : Nat) : qm Q (m + 1) p = qm Q m p + (if p = m then (gI Q m).toNat else 0) := by
  unfold qm
  by_cases e : p = m
  · subst e; rw [if_pos (by omega), if_neg (by omega), if_pos rfl]; omega
  · rw [if_neg e]
    by_cases c : p < m
    · rw [if_pos c, if_pos (by omega)]; rfl
    · rw [if_neg c, if_neg (by omega)]
theorem byF_other (Q : List Int) (m j : Nat) (h : j ≠ m / 8) : byF Q (m + 1) j = byF Q m j := by
  unfold byF
  simp only [qm_next]
  rw [if_neg (by omega), if_neg (by omega), if_neg (by omega), if_neg (by omega), if_neg (by omega), if_neg (by omega), if_neg (by omega), if_neg (by omega)]
  omega
theorem byF_this (Q : List Int) (m : Nat) : byF Q (m + 1) (m / 8) = byF Q m (m / 8) + (gI Q m).toNat * 2 ^ (m % 8) := by
  unfold byF
  simp only [qm_next]
  generalize (gI Q m).toNat = x
  have h8 : m % 8 = 0 ∨ m % 8 = 1 ∨ m % 8 = 2 ∨ m % 8 = 3 ∨ m % 8 = 4 ∨ m % 8 = 5 ∨ m % 8 = 6 ∨ m % 8 = 7 := by omega
  rcases h8 with h | h | h | h | h | h | h | h
  · rw [if_pos (by omega), if_neg (by omega), if_neg (by omega), if_neg (by omega), if_neg (by omega), if_neg (by omega), if_neg (by omega), if_neg (by omega), h]; omega
  · rw [if_neg (by omega), if_pos (by omega), if_neg (by omega), if_neg (by omega), if_neg (by omega), if_neg (by omega), if_neg (by omega), if_neg (by omega), h]; omega
  · rw [if_neg (by omega), if_neg (by omega), if_pos (by omega), if_neg (by omega), if_neg (by omega), if_neg (by omega), if_neg (by omega), if_neg (by omega), h]; omega
  · rw [if_neg (by omega), if_neg (by omega), if_neg (by omega), if_pos (by omega), if_neg (by omega), if_neg (by omega), if_neg (by omega), if_neg (by omega), h]; omega
  · rw [if_neg (by omega), if_neg (by omega), if_neg (by omega), if_neg (by omega), if_pos (by omega), if_neg (by omega), if_neg (by omega), if_neg (by omega), h]; omega
  · rw [if_neg (by omega), if_neg (by omega), if_neg (by omega), if_neg (by omega), if_neg (by omega), if_pos (by omega), if_neg (by omega), if_neg (by omega), h]; omega
  · rw [if_neg (by omega), if_neg (by omega), if_neg (by omega), if_neg (by omega), if_neg (by omega), if_neg (by omega), if_pos (by omega), if_neg (by omega), h]; omega
  · rw [if_neg (by omega), if_neg (by omega), if_neg (by omega), if_neg (by omega), if_neg (by omega), if_neg (by omega), if_neg (by omega), if_pos (by omega), h]; omega
theorem byF_le (Q : List Int) (hQ : ∀ p, 0 ≤ gI Q p ∧ gI Q p ≤ 1) (m j : Nat) : byF Q m j ≤ 255 := by
  have h := qm_le Q hQ m
  have h0 := h (8 * j)
  have h1 := h (8 * j + 1)
  have h2 := h (8 * j + 2)
  have h3 := h (8 * j + 3)
  have h4 := h (8 * j + 4)
  have h5 := h (8 * j + 5)
  have h6 := h (8 * j + 6)
  have h7 := h (8 * j + 7)
  unfold byF; omega
theorem byF_bit (Q : List Int) (hQ : ∀ p, 0 ≤ gI Q p ∧ gI Q p ≤ 1) (m p : Nat) : byF Q m (p / 8) / 2 ^ (p % 8) % 2 = qm Q m p := by
  obtain ⟨j, hj⟩ : ∃ j, p / 8 = j := ⟨_, rfl⟩
  have h := qm_le Q hQ m
  have h0 := h (8 * j)
  have h1 := h (8 * j + 1)
  have h2 := h (8 * j + 2)
  have h3 := h (8 * j + 3)
  have h4 := h (8 * j + 4)
  have h5 := h (8 * j + 5)
  have h6 := h (8 * j + 6)
  have h7 := h (8 * j + 7)
  clear h hQ
  rw [hj]
  unfold byF
  have h8 : p % 8 = 0 ∨ p % 8 = 1 ∨ p % 8 = 2 ∨ p % 8 = 3 ∨ p % 8 = 4 ∨ p % 8 = 5 ∨ p % 8 = 6 ∨ p % 8 = 7 := by omega
  rcases h8 with e | e | e | e | e | e | e | e
  · rw [e, show p = 8 * j by omega]; generalize qm Q m (8 * j) = a at *; generalize qm Q m (8 * j + 1) = b at *; generalize qm Q m (8 * j + 2) = c at *; generalize qm Q m (8 * j + 3) = d at *; omega
  · rw [e, show p = 8 * j + 1 by omega]; omega
  · rw [e, show p = 8 * j + 2 by omega]; omega
  · rw [e, show p = 8 * j + 3 by omega]; omega
  · rw [e, show p = 8 * j + 4 by omega]; omega
  · rw [e, show p = 8 * j + 5 by omega]; omega
  · rw [e, show p = 8 * j + 6 by omega]; omega
  · rw [e, show p = 8 * j + 7 by omega]; omega
/-- The bytes of Q. -/
def bytesQ (Q : List Int) : List Int := lstF (fun j => ((byF Q Q.length j : Nat) : Int)) ((Q.length + 7) / 8)
theorem bytesQ_len (Q : List Int) : (bytesQ Q).length = (Q.length + 7) / 8 := lstF_len _ _
theorem bytesQ_bit (Q : List Int) (hQ : ∀ p, 0 ≤ gI Q p ∧ gI Q p ≤ 1) (p : Nat) (hp : p < Q.length) : bitN (bytesQ Q) p = (gI Q p).toNat := by
  unfold bitN bytesQ
  rw [gI_lstF _ _ _ (by omega), Int.toNat_natCast, byF_bit Q hQ]
  unfold qm
  rw [if_pos hp]
/-- Symbol i is read where its bits begin. -/
theorem read_sym {l : List Int} (hf : Fine l) (hok : okS (nOf l)) (W : List Int) (hW : ∀ x ∈ W, good l x) (i : Nat) (hi : i < W.length) :
    readR l (bytesQ (bitsW l W)) (posW l W i) = ((gI W i).toNat, lnN l (gI W i).toNat, 0) := by
  obtain ⟨h1, h2, h3⟩ := hW (gI W i) (List.mem_of_getElem? (gI_some W i hi))
  obtain ⟨s, hs⟩ : ∃ s, (gI W i).toNat = s := ⟨_, rfl⟩
  rw [hs] at h3
  have h15 := (hf.ln s).2
  have hsl : s < l.length := by omega
  have hpos : posW l W i + lnN l s ≤ (bitsW l W).length := by
    rw [← posW_all]
    have := posW_next l W i hi
    rw [hs] at this
    rw [← this]
    unfold posW
    have hm : ∀ n m, n ≤ m → (bitsW l (W.take n)).length ≤ (bitsW l (W.take m)).length := by
      intro n m hnm
      have e : W.take m = W.take n ++ (W.take m).drop n := by
        rw [show W.take n = (W.take m).take n by rw [List.take_take, Nat.min_eq_left hnm], List.take_append_drop]
      rw [e]
      unfold bitsW
      rw [List.flatMap_append, List.length_append]
      exact Nat.le_add_right _ _
    exact hm (i + 1) W.length hi
  have hb : ∀ j, j < lnN l s → bitsF (bytesQ (bitsW l W)) (posW l W i) j = binF (lnN l s) (cdN l s) j := by
    intro j hj
    unfold bitsF
    rw [bytesQ_bit _ (bitsW_le l W) _ (by omega), bitsW_at l W i j hi (by rw [hs]; exact hj), hs]
    unfold cbF
    rw [Int.toNat_natCast]
  have hcs := code_small hok s hsl h15
  have hv : val (bitsF (bytesQ (bitsW l W)) (posW l W i)) (lnN l s) = codeC (lnN l) l.length s := by
    rw [(val_eq _ _ (bitsF_le _ _) (binF_le _ _) _).2 hb]
    show val (binF (lnN l s) (codeC (lnN l) l.length s)) (lnN l s) = _
    rw [val_bin _ _ hcs _ (Nat.le_refl _), Nat.sub_self, Nat.pow_zero, Nat.div_one]
  have := step_code (lnN l) l.length s hsl h3 h15 _ (bitsF_le (bytesQ (bitsW l W)) (posW l W i)) hv (8 * (bytesQ (bitsW l W)).length - posW l W i) (by rw [bytesQ_len]; omega) 16 0 rfl (Nat.zero_le _)
  rw [hs]
  exact this

end Go.Proofs.Ytpechajekechlaa
