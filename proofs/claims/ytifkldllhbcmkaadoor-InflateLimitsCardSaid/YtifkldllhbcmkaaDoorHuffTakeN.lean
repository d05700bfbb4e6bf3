/- huff's Take of any number of bits, Align and Bytes, of bits that are there. -/
import Derived.Test.YtifkldllhbcmkaaDoorHuffTake
import Derived.Test.YtifkldllhbcmkaaDoorHuffMath
namespace Go.Proofs.YtifkldllhbcmkaaDoor
open Go.RowKit

/-- The first t bits as a number, the first one the lowest. -/
def lo (β : Nat → Nat) : Nat → Nat
  | 0 => 0
  | t + 1 => lo β t + β t * 2 ^ t
theorem lo_lt (β : Nat → Nat) (hβ : ∀ j, β j ≤ 1) : ∀ t, lo β t < 2 ^ t
  | 0 => by simp [lo]
  | t + 1 => by
    have h1 := lo_lt β hβ t
    have h2 : β t * 2 ^ t ≤ 1 * 2 ^ t := Nat.mul_le_mul_right _ (hβ t)
    rw [lo, Nat.pow_succ]; omega
theorem lo_add (β : Nat → Nat) (a : Nat) : ∀ b, lo β (a + b) = lo β a + lo (fun j => β (a + j)) b * 2 ^ a
  | 0 => by simp [lo]
  | b + 1 => by
    rw [← Nat.add_assoc, lo, lo_add β a b, lo, Nat.add_mul, Nat.add_assoc]
    congr 2
    rw [Nat.mul_assoc, ← Nat.pow_add, Nat.add_comm b a]
theorem lo_congr {β γ : Nat → Nat} : ∀ {t : Nat}, (∀ j, j < t → β j = γ j) → lo β t = lo γ t
  | 0, _ => rfl
  | t + 1, h => by rw [lo, lo, lo_congr (fun j hj => h j (by omega)), h t (by omega)]
theorem lo_shift (y : Nat) : ∀ s, lo (fun j => y / 2 ^ j % 2) s = y % 2 ^ s
  | 0 => by simp [lo, Nat.mod_one]
  | s + 1 => by
    rw [lo, lo_shift y s, Nat.pow_succ, Nat.mod_mul, Nat.mul_comm]
/-- Some bits within one byte. -/
theorem lo_byte (l : List Int) (p s : Nat) (hs : p % 8 + s ≤ 8) : lo (fun j => bitN l (p + j)) s = (gI l (p / 8)).toNat / 2 ^ (p % 8) % 2 ^ s := by
  rw [← lo_shift]
  refine lo_congr fun j hj => ?_
  unfold bitN
  rw [show (p + j) / 8 = p / 8 by omega, show (p + j) % 8 = p % 8 + j by omega, Nat.pow_add, ← Nat.div_div_eq_div_mul]
theorem take_math (X V q s : Nat) (hX : X ≤ 255) (hs : s ≤ 8) (hq : q + s ≤ 24) (hV : V < 2 ^ q) :
    bits .or .i64 (V : Int) (wrap64 (bits .and .i64 (X : Int) (wrap64 (wrap64 ((2 : Int) ^ s) - 1)) * (2 : Int) ^ q)) = ((V + X % 2 ^ s * 2 ^ q : Nat) : Int) := by
  have hs1 : 2 ^ s ≤ 2 ^ 8 := Nat.pow_le_pow_right (by decide) hs
  have hs0 : 0 < 2 ^ s := Nat.two_pow_pos s
  have ec : ((2 : Int) ^ s) = ((2 ^ s : Nat) : Int) := by simp
  have eq : ((2 : Int) ^ q) = ((2 ^ q : Nat) : Int) := by simp
  have e1 : wrap64 (wrap64 ((2 : Int) ^ s) - 1) = (2 : Int) ^ s - 1 := by
    rw [ec]
    generalize 2 ^ s = c at hs0 hs1 ⊢
    rw [IntWalk.wrap64_in (c : Int) (by omega), IntWalk.wrap64_in ((c : Int) - 1) (by omega)]
  have e2 : bits .and .i64 (X : Int) ((2 : Int) ^ s - 1) = ((X % 2 ^ s : Nat) : Int) := by
    rw [bits_mask .i64 31 (by decide) w64 s (by omega) (X : Int) (by omega) (by omega), ec]
    rfl
  have hD : X % 2 ^ s < 2 ^ s := Nat.mod_lt _ hs0
  have hpq : 2 ^ q * 2 ^ s ≤ 2 ^ 24 := by rw [← Nat.pow_add]; exact Nat.pow_le_pow_right (by decide) hq
  have hDq : X % 2 ^ s * 2 ^ q < 2 ^ 24 := by
    have h1 : X % 2 ^ s * 2 ^ q < 2 ^ s * 2 ^ q := Nat.mul_lt_mul_of_pos_right hD (Nat.two_pow_pos q)
    rw [Nat.mul_comm (2 ^ s)] at h1
    omega
  have hq24 : 2 ^ q ≤ 2 ^ 24 := Nat.pow_le_pow_right (by decide) (by omega)
  rw [e1, e2, eq]
  generalize X % 2 ^ s = D at *
  have e3 : (D : Int) * ((2 ^ q : Nat) : Int) = ((D * 2 ^ q : Nat) : Int) := by simp
  rw [e3, IntWalk.wrap64_in _ (by omega), (bits_nat .i64 31 (by decide) w64 V (D * 2 ^ q) (by omega) (by omega)).2, Nat.or_comm, Nat.mul_comm D, ← Nat.two_pow_add_eq_or_of_lt hV D, Nat.add_comm]
theorem takeN_no (F : Nat → Prop) (g : Nat) (l : List Int) (p : Nat) (n : Int) (w : World) (h : BitsAt F w g l p) (hn : n < 0 ∨ 24 < n ∨ (8 * l.length : Int) < p + n) (hl : l.length ≤ 2000000) :
    Calls Tryd.prog 17 #[.pointer (some ⟨g, 0, none⟩), .int .i64 n] w fun e w' => e = .returned (.tuple #[.int .i64 0, .bool false]) ∧ ∃ k, w' = w.drewN k := by
  obtain ⟨h1, h2, A, m, cap, h3, h4⟩ := h
  have c0 := cell_of_row w g 0 _ _ (0, 0) h3
  have c1 := cell_of_row w g 1 _ _ (0, 0) h3
  simp at c0 c1
  have hlen := h4.len
  have hf := h4.fit
  have hm := h4.max
  unfold maxLen at hm
  clear h3 h4 h1
  by_cases hn1 : n < 0
  · have d1 : decide (n < 0) = true := decide_eq_true hn1
    go_enter Tryd.func17, Tryd.ntmps17
    go_wp2_with fail
    go_quiet (fail)
    go_wp2_with fail
    go_ret2
    exact ⟨rfl, _, rfl⟩
  have d1 : decide (n < 0) = false := decide_eq_false hn1
  by_cases hn2 : 24 < n
  · have d2 : decide (24 < n) = true := decide_eq_true hn2
    go_enter Tryd.func17, Tryd.ntmps17
    go_wp2_with fail
    go_quiet (fail)
    go_wp2_with fail
    go_ret2
    exact ⟨rfl, _, rfl⟩
  have d2 : decide (24 < n) = false := decide_eq_false hn2
  have d3 : decide ((8 * (m : Int) - p) < n) = true := decide_eq_true (by omega)
  go_enter Tryd.func17, Tryd.ntmps17
  go_wp2_with fail
  go_quiet (fail)
  go_wp2_with fail
  go_ret2
  exact ⟨rfl, _, rfl⟩
def TookN (F : Nat → Prop) (w : World) (g : Nat) (l : List Int) (p n : Nat) (e : Ending) (w' : World) : Prop := e = .returned (.tuple #[.int .i64 (lo (fun j => bitN l (p + j)) n : Nat), .bool true]) ∧ BitsAt F w' g l (p + n) ∧ Ch (fun k => k = g) w w'
set_option maxHeartbeats 1600000 in
theorem takeN_yes (F : Nat → Prop) (g : Nat) (l : List Int) (p n : Nat) (w : World) (h : BitsAt F w g l p) (hn : n ≤ 24) (hp : p + n ≤ 8 * l.length) (hl : l.length ≤ 2000000) :
    Calls Tryd.prog 17 #[.pointer (some ⟨g, 0, none⟩), .int .i64 (n : Nat)] w (TookN F w g l p n) := by
  have HH := Lib.hid h
  obtain ⟨h1, h2, A, m, cap, h3, h4⟩ := h
  have c0 := cell_of_row w g 0 _ _ (0, 0) h3
  have c1 := cell_of_row w g 1 _ _ (0, 0) h3
  simp at c0 c1
  have hlen := h4.len
  have hf := h4.fit
  have hm := h4.max
  unfold maxLen at hm
  have d1 : decide ((n : Int) < 0) = false := decide_eq_false (by omega)
  have d2 : decide (24 < (n : Int)) = false := decide_eq_false (by omega)
  have d3 : decide ((8 * (m : Int) - p) < (n : Int)) = false := decide_eq_false (by omega)
  have HF := Lib.hid (BitsAt.drewN HH.out)
  clear h1 h3 h4
  go_enter Tryd.func17, Tryd.ntmps17
  go_wp2_with fail
  go_quiet (fail)
  go_wp2_with fail
  clear c0 c1
  go_loopw [6, 7] (fun v t wr => ∃ q : Nat, t = .int .i64 q ∧ q ≤ n ∧ v = .int .i64 (lo (fun j => bitN l (p + j)) q : Nat) ∧ Hid (BitsAt F wr g l (p + q) ∧ Ch (fun k => k = g) w wr)) (fun _ t _ => n - (intOf t).toNat)
  case atStart => exact ⟨0, rfl, by omega, rfl, Lib.hid ⟨HF.out _, Ch.of_below (bdrawn (Below.refl _ _) _)⟩⟩
  case round =>
    obtain ⟨q, rfl, hq, rfl, HB⟩ := hrel
    obtain ⟨Vq, hVq⟩ : ∃ V, lo (fun j => bitN l (p + j)) q = V := ⟨_, rfl⟩
    have hV := lo_lt (fun j => bitN l (p + j)) (fun j => bitN_le _ _) q
    rw [hVq] at hV
    by_cases hlt : q < n
    · obtain ⟨h1, h2, A, m', cap', h3, h4⟩ := HB.out.1
      have c0 := cell_of_row wr g 0 _ _ (0, 0) h3
      have c1 := cell_of_row wr g 1 _ _ (0, 0) h3
      simp at c0 c1
      have f1 := frozen_of_row wr g 1 _ _ h3
      have hlen' := h4.len
      obtain rfl : m' = m := by omega
      obtain ⟨P, hP⟩ : ∃ P, p + q = P := ⟨_, rfl⟩
      have hPc : ((p : Int) + q) = (P : Int) := by omega
      rw [hPc] at c1
      obtain ⟨i, hi⟩ : ∃ i, P % 8 = i := ⟨_, rfl⟩
      obtain ⟨j, hj⟩ : ∃ j, P / 8 = j := ⟨_, rfl⟩
      have hi1 : (P : Int) % 8 = (i : Int) := by omega
      have hj1 : (P : Int) / 8 = (j : Int) := by omega
      have hi8 : i < 8 := by omega
      obtain ⟨b, o, rfl, hb, hbl, hc⟩ := h4.lies (by omega)
      have cj := hc j (by omega)
      have hx := h4.bd j
      obtain ⟨x, hxx⟩ : ∃ x, gI l j = x := ⟨_, rfl⟩
      rw [hxx] at cj hx
      have hj2 : j < m' := by omega
      have hP8 : P < 8 * m' := by omega
      have hbP := h4.fit
      have hmP := h4.max
      unfold maxLen at hmP
      obtain ⟨s, hs⟩ : ∃ s, (if n - q < 8 - i then n - q else 8 - i) = s := ⟨_, rfl⟩
      have hs1 : 1 ≤ s ∧ s ≤ 8 - i ∧ s ≤ n - q := by split at hs <;> omega
      obtain ⟨hs1, hs2, hs3⟩ := hs1
      have hmin : (if (n : Int) - q < 8 - (i : Int) then (n : Int) - q else 8 - (i : Int)) = (s : Int) := by split at hs <;> split <;> omega
      have hmin2 : (if 8 - (i : Int) < (n : Int) - q then 8 - (i : Int) else (n : Int) - q) = (s : Int) := by split at hs <;> split <;> omega
      have HM : Hid (bits .or .i64 (Vq : Int) (wrap64 (bits .and .i64 (x / 2 ^ i) (wrap64 (wrap64 ((2 : Int) ^ s) - 1)) * (2 : Int) ^ q)) = ((lo (fun j => bitN l (p + j)) (q + s) : Nat) : Int)) := Lib.hid (by
        have e1 : x / 2 ^ i = ((x.toNat / 2 ^ i : Nat) : Int) := by
          have : x = (x.toNat : Int) := by omega
          rw [this]; simp
        have e2 := Nat.div_le_self x.toNat (2 ^ i)
        have e3 := lo_byte l P s (by omega)
        rw [hi, hj, hxx] at e3
        rw [e1, take_math _ Vq q s (by omega) (by omega) (by omega) hV, lo_add, hVq, ← e3]
        rw [← hP]
        congr 3
        exact lo_congr fun j _ => by rw [Nat.add_assoc])
      have HP2 : Hid (p + (q + s) = P + s) := Lib.hid (by omega)
      have HBn := Lib.hid (BitsAt.drewN HB.out.1)
      have hPs : Hid (P + s ≤ 8 * l.length) := Lib.hid (by omega)
      clear hc h1 h3 h4 hP hs hi hj hxx hV
      rw [hVq]
      go_wp2_with fail
      go_quiet (fail)
      go_wp2_with fail
      refine ⟨⟨q + s, by go_num, by omega, by rw [HM.out], Lib.hid ⟨?_, HB.out.2.then ((Ch.of_below (bdrawn (Below.refl _ _) _)).then (Ch.set (F := fun k => k = g) _ g 1 _ rfl))⟩⟩, by simp [intOf]; omega⟩
      rw [HP2.out]
      exact (HBn.out _).set (P + s) hPs.out _ (by omega)
    · obtain rfl : q = n := by omega
      go_wp2_with fail
      go_ret2
      exact ⟨rfl, HB.out.1, HB.out.2⟩

end Go.Proofs.YtifkldllhbcmkaaDoor
