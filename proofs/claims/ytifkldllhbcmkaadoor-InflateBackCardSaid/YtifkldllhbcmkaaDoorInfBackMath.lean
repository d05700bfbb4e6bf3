/- What is stored is unpacked: no program is named here. -/
import Derived.Test.YtifkldllhbcmkaaDoorInfStore
namespace Go.Proofs.YtifkldllhbcmkaaDoor
set_option linter.unusedVariables false
set_option maxRecDepth 100000
set_option linter.unusedSimpArgs false

theorem lo_bits (l : List Int) (d i s : Nat) (hs : i + s ≤ 8) (hi : i < 8) : lo (bitsF l (8 * d + i)) s = (gI l d).toNat / 2 ^ i % 2 ^ s := by
  have h := lo_byte l (8 * d + i) s (by omega)
  rw [show (8 * d + i) / 8 = d by omega, show (8 * d + i) % 8 = i by omega] at h
  exact h
theorem lo_two (l : List Int) (d a b : Nat) (h1 : gI l d = (a : Nat)) (h2 : gI l (d + 1) = (b : Nat)) (ha : a < 256) (hb : b < 256) : lo (bitsF l (8 * d)) 16 = a + 256 * b := by
  have e := lo_add (bitsF l (8 * d)) 8 8
  have e1 := lo_bits l d 0 8 (by omega) (by omega)
  have e2 := lo_bits l (d + 1) 0 8 (by omega) (by omega)
  rw [Nat.add_zero] at e1 e2
  have e3 : (fun j => bitsF l (8 * d) (8 + j)) = bitsF l (8 * (d + 1)) := by
    funext j
    unfold bitsF
    rw [show 8 * d + (8 + j) = 8 * (d + 1) + j by omega]
  rw [e3, e1, e2, h1, h2] at e
  rw [e]
  simp only [Nat.pow_zero, Nat.div_one, Int.toNat_natCast]
  have p8 : (2 : Nat) ^ 8 = 256 := by decide
  rw [p8]
  omega
theorem take_ok {bs : List Int} {n p : Nat} (h : p + n ≤ 8 * bs.length) : takeM bs n p = .ok (lo (bitsF bs p) n, p + n) := if_pos h
theorem take_bad {bs : List Int} {n p : Nat} (h : ¬ p + n ≤ 8 * bs.length) : takeM bs n p = .error 2 := if_neg h
theorem headL_len (last n : Nat) : (headL last n).length = 5 := rfl
/-- A block's first bits. -/
theorem blk_first {l : List Int} {d last : Nat} (hd : d < l.length) (h0 : gI l d = (last : Nat)) (hlast : last ≤ 1) : takeM l 1 (8 * d) = .ok (last, 8 * d + 1) ∧ takeM l 2 (8 * d + 1) = .ok (0, 8 * d + 1 + 2) := by
  have e1 := lo_bits l d 0 1 (by omega) (by omega)
  have e2 := lo_bits l d 1 2 (by omega) (by omega)
  rw [Nat.add_zero] at e1
  rw [h0, Int.toNat_natCast] at e1 e2
  refine ⟨?_, ?_⟩
  · rw [take_ok (by omega), e1, show last / 2 ^ 0 % 2 ^ 1 = last by simp; omega]
  · have e3 : last / 2 ^ 1 % 2 ^ 2 = 0 := by
      have e4 : last / 2 ^ 1 = 0 := Nat.div_eq_of_lt (by omega)
      rw [e4]
    rw [take_ok (by omega), e2, e3]
theorem blk_is {l : List Int} {d last lim : Nat} {o : List Int} (hd : d < l.length) (h0 : gI l d = (last : Nat)) (hlast : last ≤ 1) : blockM l lim (8 * d) o = bnd (storedM l lim (8 * d + 1 + 2) o) fun o' s => .ok ((decide (last = 1), o'), s) := by
  obtain ⟨h1, h2⟩ := blk_first hd h0 hlast
  unfold blockM
  rw [h1, bnd_ok, h2, bnd_ok, kind_stored]
theorem blk_step {l t : List Int} {d last n lim : Nat} {o : List Int} (h : l.drop d = headL last n ++ t) (hd : d ≤ l.length) (hn : n ≤ 65535) (hlast : last ≤ 1) :
    blockM l lim (8 * d) o = if lim - o.length < n then .error 8 else if n ≤ t.length then .ok ((decide (last = 1), o ++ t.take n), 8 * (d + 5 + n)) else .error 2 := by
  have hlen : l.length = d + 5 + t.length := by
    have := congrArg List.length h
    rw [List.length_drop, List.length_append, headL_len] at this
    omega
  have g : ∀ i, gI l (d + i) = gI (headL last n ++ t) i := fun i => by rw [← gI_drop, h]
  have g0 : gI l d = (last : Nat) := g 0
  have g1 : gI l (d + 1) = ((n % 256 : Nat) : Int) := g 1
  have g2 : gI l (d + 1 + 1) = ((n / 256 : Nat) : Int) := g 2
  have g3 : gI l (d + 3) = (((65535 - n) % 256 : Nat) : Int) := g 3
  have g4 : gI l (d + 3 + 1) = (((65535 - n) / 256 : Nat) : Int) := g 4
  have hdr : l.drop (d + 5) = t := by
    rw [← List.drop_drop, h]
    rfl
  rw [blk_is (by omega) g0 hlast]
  unfold storedM
  have u1 : 8 * upB (8 * d + 1 + 2) = 8 * (d + 1) := by unfold upB; omega
  rw [u1, take_ok (by omega), lo_two l (d + 1) _ _ g1 g2 (by omega) (by omega), bnd_ok, show 8 * (d + 1) + 16 = 8 * (d + 3) by omega, take_ok (by omega), lo_two l (d + 3) _ _ g3 g4 (by omega) (by omega), bnd_ok]
  have u2 : upB (8 * (d + 3) + 16) = d + 5 := by unfold upB; omega
  rw [u2, hdr, show n % 256 + 256 * (n / 256) = n by omega, show (65535 - n) % 256 + 256 * ((65535 - n) / 256) = 65535 - n by omega, if_neg (by omega)]
  by_cases c1 : lim - o.length < n
  · rw [if_pos c1, if_pos c1]; rfl
  · rw [if_neg c1, if_neg c1]
    by_cases c2 : n ≤ t.length
    · rw [if_pos (by omega), if_pos c2]; rfl
    · rw [if_neg (by omega), if_neg c2]; rfl
theorem blk_short {l : List Int} {d last n k lim : Nat} {o : List Int} (h : l.drop d = (headL last n).take k) (hd : d ≤ l.length) (hk : k < 5) (hlast : last ≤ 1) : blockM l lim (8 * d) o = .error 2 := by
  have hlen : l.length = d + k := by
    have := congrArg List.length h
    rw [List.length_drop, List.length_take, headL_len] at this
    omega
  by_cases k0 : k = 0
  · unfold blockM
    rw [take_bad (by omega)]; rfl
  · have g0 : gI l d = (last : Nat) := by
      have : gI l (d + 0) = gI ((headL last n).take k) 0 := by rw [← gI_drop, h]
      rw [Nat.add_zero] at this
      rw [this, gI_take _ _ _ (by omega)]; rfl
    rw [blk_is (by omega) g0 hlast]
    unfold storedM
    have u1 : 8 * upB (8 * d + 1 + 2) = 8 * (d + 1) := by unfold upB; omega
    rw [u1]
    by_cases c : 8 * (d + 1) + 16 ≤ 8 * l.length
    · rw [take_ok c, bnd_ok, take_bad (by omega)]; rfl
    · rw [take_bad c]; rfl
theorem stoR_len (b : List Int) : (stoR b).length = b.length + 5 * ((b.length - 1) / 65535 + 1) := by
  by_cases h : 65535 < b.length
  · rw [stoR_on h, List.length_append, List.length_append, headL_len, stoR_len (b.drop 65535), List.length_take, List.length_drop]
    omega
  · rw [stoR_end h, List.length_append, headL_len]
    omega
  termination_by b.length
  decreasing_by simp; omega
theorem back_ok : ∀ (k : Nat) (r : List Int), r.length ≤ k → ∀ (l more o : List Int) (d lim : Nat), l.drop d = stoR r ++ more → d ≤ l.length → o.length + r.length ≤ lim →
    loopM (blockM l lim) (8 * l.length) (8 * d) o = .ok (o ++ r, 8 * (d + (stoR r).length)) := by
  intro k
  induction k with
  | zero =>
    intro r hr l more o d lim h hd hl
    obtain rfl : r = [] := List.eq_nil_of_length_eq_zero (by omega)
    rw [stoR_end (by simp), List.append_assoc] at h
    have e := blk_step (lim := lim) (o := o) h hd (by simp) (by omega)
    simp only [List.length_nil, Nat.not_lt_zero, if_false, Nat.zero_le, if_true, List.take_zero] at e
    rw [loop_end e, stoR_end (by simp), List.length_append, headL_len]
    simp
  | succ k ih =>
    intro r hr l more o d lim h hd hl
    by_cases hbig : 65535 < r.length
    · rw [stoR_on hbig, List.append_assoc, List.append_assoc] at h
      have e := blk_step (lim := lim) (o := o) h hd (Nat.le_refl _) (by omega)
      have htk : (r.take 65535).length = 65535 := by rw [List.length_take]; omega
      rw [if_neg (by omega), if_pos (by rw [List.length_append, htk]; omega), List.take_append_of_le_length (by omega), List.take_of_length_le (by omega)] at e
      have hlen : l.length = d + (5 + (65535 + ((stoR (r.drop 65535)).length + more.length))) := by
        have := congrArg List.length h
        rw [List.length_drop, List.length_append, headL_len, List.length_append, htk, List.length_append] at this
        omega
      rw [loop_on (o' := o ++ r.take 65535) (q := 8 * (d + 5 + 65535)) e (by omega) (by omega)]
      rw [ih (r.drop 65535) (by rw [List.length_drop]; omega) l more (o ++ r.take 65535) (d + 5 + 65535) lim (by
        rw [Nat.add_assoc, ← List.drop_drop, h, ← List.append_assoc, List.drop_append_of_le_length (by rw [List.length_append, headL_len, htk]; omega)]
        rw [List.drop_of_length_le (by rw [List.length_append, headL_len, htk]; omega)]; rfl) (by omega) (by rw [List.length_append, List.length_drop, htk]; omega)]
      rw [List.append_assoc, List.take_append_drop, stoR_on hbig, List.length_append, List.length_append, headL_len, htk]
      congr 3
      omega
    · rw [stoR_end hbig, List.append_assoc] at h
      have e := blk_step (lim := lim) (o := o) h hd (by omega) (by omega)
      rw [if_neg (by omega), if_pos (by rw [List.length_append]; omega), List.take_append_of_le_length (by omega), List.take_of_length_le (by omega)] at e
      rw [loop_end e, stoR_end hbig, List.length_append, headL_len]
      congr 3
      omega
theorem back_long : ∀ (k : Nat) (r : List Int), r.length ≤ k → ∀ (l more o : List Int) (d lim : Nat), l.drop d = stoR r ++ more → d ≤ l.length → o.length + r.length = lim + 1 → 0 < r.length →
    loopM (blockM l lim) (8 * l.length) (8 * d) o = .error 8 := by
  intro k
  induction k with
  | zero => intro r hr l more o d lim h hd hl h0; omega
  | succ k ih =>
    intro r hr l more o d lim h hd hl h0
    by_cases hbig : 65535 < r.length
    · rw [stoR_on hbig, List.append_assoc, List.append_assoc] at h
      have e := blk_step (lim := lim) (o := o) h hd (Nat.le_refl _) (by omega)
      have htk : (r.take 65535).length = 65535 := by rw [List.length_take]; omega
      rw [if_neg (by omega), if_pos (by rw [List.length_append, htk]; omega), List.take_append_of_le_length (by omega), List.take_of_length_le (by omega)] at e
      have hlen : l.length = d + (5 + (65535 + ((stoR (r.drop 65535)).length + more.length))) := by
        have := congrArg List.length h
        rw [List.length_drop, List.length_append, headL_len, List.length_append, htk, List.length_append] at this
        omega
      rw [loop_on (o' := o ++ r.take 65535) (q := 8 * (d + 5 + 65535)) e (by omega) (by omega)]
      exact ih (r.drop 65535) (by rw [List.length_drop]; omega) l more (o ++ r.take 65535) (d + 5 + 65535) lim (by
        rw [Nat.add_assoc, ← List.drop_drop, h, ← List.append_assoc, List.drop_append_of_le_length (by rw [List.length_append, headL_len, htk]; omega)]
        rw [List.drop_of_length_le (by rw [List.length_append, headL_len, htk]; omega)]; rfl) (by omega) (by rw [List.length_append, List.length_drop, htk]; omega) (by rw [List.length_drop]; omega)
    · rw [stoR_end hbig, List.append_assoc] at h
      have e := blk_step (lim := lim) (o := o) h hd (by omega) (by omega)
      rw [if_pos (by omega)] at e
      exact loop_er e
theorem back_cut : ∀ (k : Nat) (r : List Int), r.length ≤ k → ∀ (l o : List Int) (d lim j : Nat), l.drop d = (stoR r).take j → j < (stoR r).length → d ≤ l.length → o.length + r.length ≤ lim →
    loopM (blockM l lim) (8 * l.length) (8 * d) o = .error 2 := by
  intro k
  induction k with
  | zero =>
    intro r hr l o d lim j h hj hd hl
    obtain rfl : r = [] := List.eq_nil_of_length_eq_zero (by omega)
    rw [stoR_end (by simp), List.append_nil] at h hj
    exact loop_er (blk_short h hd hj (by omega))
  | succ k ih =>
    intro r hr l o d lim j h hj hd hl
    by_cases hbig : 65535 < r.length
    · rw [stoR_on hbig, List.append_assoc] at h hj
      have htk : (r.take 65535).length = 65535 := by rw [List.length_take]; omega
      by_cases c5 : j < 5
      · rw [List.take_append_of_le_length (by rw [headL_len]; omega)] at h
        exact loop_er (blk_short h hd c5 (by omega))
      · obtain ⟨i, rfl⟩ : ∃ i, j = 5 + i := ⟨j - 5, by omega⟩
        have h' : l.drop d = headL 0 65535 ++ (r.take 65535 ++ stoR (r.drop 65535)).take i := by
          rw [h, List.take_append, headL_len, List.take_of_length_le (by rw [headL_len]; omega), show 5 + i - 5 = i by omega]
        have e := blk_step (lim := lim) (o := o) h' hd (Nat.le_refl _) (by omega)
        have hjl : 5 + i < 5 + (65535 + (stoR (r.drop 65535)).length) := by
          rw [List.length_append, headL_len, List.length_append, htk] at hj; exact hj
        rw [if_neg (by omega)] at e
        by_cases ci : 65535 ≤ i
        · obtain ⟨x, rfl⟩ : ∃ x, i = 65535 + x := ⟨i - 65535, by omega⟩
          have e2 : (r.take 65535 ++ stoR (r.drop 65535)).take (65535 + x) = r.take 65535 ++ (stoR (r.drop 65535)).take x := by
            rw [List.take_append, htk, List.take_of_length_le (l := r.take 65535) (by omega), show 65535 + x - 65535 = x by omega]
          rw [e2] at e h'
          have htx : ((stoR (r.drop 65535)).take x).length = x := by rw [List.length_take]; omega
          rw [if_pos (by rw [List.length_append, htk]; omega), List.take_append_of_le_length (by omega), List.take_of_length_le (by omega)] at e
          have hlen : l.length = d + (5 + (65535 + x)) := by
            have := congrArg List.length h'
            rw [List.length_drop, List.length_append, headL_len, List.length_append, htk, htx] at this
            omega
          rw [loop_on (o' := o ++ r.take 65535) (q := 8 * (d + 5 + 65535)) e (by omega) (by omega)]
          exact ih (r.drop 65535) (by rw [List.length_drop]; omega) l (o ++ r.take 65535) (d + 5 + 65535) lim x (by
            rw [Nat.add_assoc, ← List.drop_drop, h', ← List.append_assoc, List.drop_append_of_le_length (by rw [List.length_append, headL_len, htk]; omega)]
            rw [List.drop_of_length_le (by rw [List.length_append, headL_len, htk]; omega)]; rfl) (by omega) (by omega) (by rw [List.length_append, List.length_drop, htk]; omega)
        · have hti : ((r.take 65535 ++ stoR (r.drop 65535)).take i).length ≤ i := by rw [List.length_take]; omega
          rw [if_neg (by omega)] at e
          exact loop_er e
    · rw [stoR_end hbig] at h hj
      by_cases c5 : j < 5
      · rw [List.take_append_of_le_length (by rw [headL_len]; omega)] at h
        exact loop_er (blk_short h hd c5 (by omega))
      · obtain ⟨i, rfl⟩ : ∃ i, j = 5 + i := ⟨j - 5, by omega⟩
        have h' : l.drop d = headL 1 r.length ++ r.take i := by
          rw [h, List.take_append, headL_len, List.take_of_length_le (by rw [headL_len]; omega), show 5 + i - 5 = i by omega]
        have e := blk_step (lim := lim) (o := o) h' hd (by omega) (by omega)
        rw [List.length_append, headL_len] at hj
        rw [if_neg (by omega), if_neg (by rw [List.length_take]; omega)] at e
        exact loop_er e

end Go.Proofs.YtifkldllhbcmkaaDoor
