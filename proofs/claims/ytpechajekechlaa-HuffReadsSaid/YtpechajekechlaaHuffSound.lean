/- The document's Sound. -/
import Derived.Test.YtpechajekechlaaHuffCount
namespace Go.Proofs.Ytpechajekechlaa
open Go.RowKit

theorem half_next (j : Nat) (h : j < 15) : 2 ^ (15 - j) / 2 = 2 ^ (15 - (j + 1)) := by
  rw [show 15 - j = 15 - (j + 1) + 1 by omega, Nat.pow_succ]
  omega
def SoundR (w : World) (e : Int) (x : Ending) (w' : World) : Prop := x = .returned (.int .i64 e) ∧ w = w'
theorem sound_big (A : Option Addr) (n cap : Nat) (l : List Int) (w : World) (hl : IAt (fun _ => True) w A n cap l) (h : 320 < n) :
    Calls Try.prog 10 #[.slice A n cap] w (SoundR w 1) := by
  have hf := hl.fit
  have hm := hl.max
  unfold maxLen at hm
  clear hl
  go_enter Try.func10, Try.ntmps10
  go_wp2_with fail
  go_ret
  exact ⟨rfl, rfl⟩
set_option maxHeartbeats 3200000 in
theorem sound_go (A : Option Addr) (n cap : Nat) (l : List Int) (e : Int) (w : World) (hl : IAt (fun _ => True) w A n cap l) (h : n ≤ 320) (he : Lg l e) :
    Calls Try.prog 10 #[.slice A n cap] w (SoundR w e) := by
  have HL := Lib.hid hl
  have HE := Lib.hid he
  have hlen := hl.len
  have hf := hl.fit
  have hm := hl.max
  unfold maxLen at hm
  clear hl he
  go_enter Try.func10, Try.ntmps10
  go_wp2_with fail
  go_loop [3, 4, 5, 6] (fun s c o i => ∃ k : Nat, i = .int .i64 k ∧ k ≤ n ∧ s = .int .i64 (rsum (lnN l) k : Nat) ∧ c = .int .i64 (csum (lnN l) k : Nat) ∧ o = .int .i64 (cnt (lnN l) 1 k : Nat) ∧ Hid (∀ i, i < k → 0 ≤ gI l i ∧ gI l i ≤ 15)) (fun _ _ _ i => n - (intOf i).toNat)
  case atStart => exact ⟨0, rfl, by omega, rfl, rfl, rfl, Lib.hid fun i hi => absurd hi (by omega)⟩
  case round =>
    obtain ⟨k, rfl, hk, rfl, rfl, rfl, HF⟩ := hrel
    have hr := rsum_le (lnN l) k
    have hc2 := csum_le (lnN l) k
    have ho := cnt_le (lnN l) 1 k
    by_cases hlt : k < n
    · obtain ⟨b, o, rfl, _, hbl, hc⟩ := HL.out.lies (by omega)
      have c0 := hc k hlt
      clear hc
      obtain ⟨x, hx⟩ : ∃ x, gI l k = x := ⟨_, rfl⟩
      rw [hx] at c0
      by_cases hbad : x < 0 ∨ 15 < x
      · have hn : ¬ Fine l := fun hf => by have := hf k; omega
        obtain rfl : e = 1 := by
          rcases HE.out with ⟨h1, _⟩ | ⟨_, h2, _⟩
          · exact h1
          · exact absurd h2 hn
        clear hn hx
        rcases hbad with hb | hb
        · have d1 : decide (x < 0) = true := decide_eq_true hb
          go_wp2_with fail
          go_ret
          exact ⟨rfl, rfl⟩
        · have d1 : decide (x < 0) = false := decide_eq_false (by omega)
          have d2 : decide (15 < x) = true := decide_eq_true hb
          go_wp2_with fail
          go_ret
          exact ⟨rfl, rfl⟩
      · obtain ⟨m, rfl⟩ : ∃ m : Nat, x = (m : Int) := ⟨x.toNat, by omega⟩
        have hm15 : m ≤ 15 := by omega
        have hlk : lnN l k = m := by unfold lnN; omega
        have HN : Hid (∀ i, i < k + 1 → 0 ≤ gI l i ∧ gI l i ≤ 15) := Lib.hid fun i hi => by
          by_cases c : i = k
          · subst c; omega
          · exact HF.out i (by omega)
        have d1 : decide ((m : Int) < 0) = false := decide_eq_false (by omega)
        have d2 : decide (15 < (m : Int)) = false := decide_eq_false (by omega)
        have E1 : Hid (rsum (lnN l) (k + 1) = rsum (lnN l) k + (if m = 0 then 0 else 2 ^ (15 - m))) := Lib.hid (by rw [rsum, hlk])
        have E2 : Hid (csum (lnN l) (k + 1) = csum (lnN l) k + (if m = 0 then 0 else 1)) := Lib.hid (by rw [csum, hlk])
        have E3 : Hid (cnt (lnN l) 1 (k + 1) = cnt (lnN l) 1 k + (if m = 1 then 1 else 0)) := Lib.hid (by rw [cnt, hlk])
        clear hx hbad hlk
        generalize rsum (lnN l) k = s at *
        generalize csum (lnN l) k = c at *
        generalize cnt (lnN l) 1 k = q at *
        by_cases h0 : m = 0
        · subst h0
          rw [if_pos rfl] at E1 E2
          rw [if_neg (by decide)] at E3
          go_wp2_with fail
          go_round
          case rel => exact ⟨k + 1, by go_num, by omega, by rw [E1.out]; rfl, by rw [E2.out]; rfl, by rw [E3.out]; rfl, HN⟩
          case measure => first | (simp [intOf]; done) | (simp [intOf]; omega)
        · rw [if_neg h0] at E1 E2
          have d3 : decide ((0 : Int) < (m : Int)) = true := decide_eq_true (by omega)
          go_wp2_with fail
          go_loop [7, 8] (fun v j => ∃ q : Nat, j = .int .i64 q ∧ q ≤ m ∧ v = .int .i64 (2 ^ (15 - q) : Nat)) (fun _ j => m - (intOf j).toNat)
          case atStart => exact ⟨0, rfl, by omega, rfl⟩
          case round =>
            obtain ⟨j, rfl, hj, rfl⟩ := hrel
            have hpw : 2 ^ (15 - j) ≤ 2 ^ 15 := Nat.pow_le_pow_right (by decide) (by omega)
            by_cases hj2 : j < m
            · have HH := Lib.hid (half_next j (by omega))
              generalize 2 ^ (15 - j) = P at *
              go_wp2_with fail
              go_round
              case rel => exact ⟨j + 1, by go_num, by omega, by rw [← HH.out]; go_num⟩
              case measure => first | (simp [intOf]; done) | (simp [intOf]; omega)
            · obtain rfl : j = m := by omega
              generalize 2 ^ (15 - j) = P at *
              by_cases h1 : j = 1
              · rw [if_pos h1] at E3
                have d4 : ((j : Int) == 1) = true := by subst h1; rfl
                go_wp2_with fail
                go_round
                case rel => exact ⟨k + 1, by go_num, by omega, by rw [E1.out]; rfl, by rw [E2.out]; rfl, by rw [E3.out]; rfl, HN⟩
                case measure => first | (simp [intOf]; done) | (simp [intOf]; omega)
              · rw [if_neg h1] at E3
                have d4 : ((j : Int) == 1) = false := by rw [beq_eq_false_iff_ne]; omega
                go_wp2_with fail
                go_round
                case rel => exact ⟨k + 1, by go_num, by omega, by rw [E1.out]; rfl, by rw [E2.out]; rfl, by rw [E3.out]; rfl, HN⟩
                case measure => first | (simp [intOf]; done) | (simp [intOf]; omega)
    · obtain rfl : k = n := by omega
      subst hlen
      have hfine : Fine l := fun i => by
        by_cases c : i < l.length
        · exact HF.out i c
        · rw [gI_end l i (by omega)]; omega
      have e1 := rsum_is (lnN l) (fun i => (hfine.ln i).2) l.length
      have e2 := csum_is (lnN l) (fun i => (hfine.ln i).2) l.length
      obtain ⟨b1, h1⟩ : ∃ b, (((rsum (lnN l) l.length : Nat) : Int) == 32768) = b := ⟨_, rfl⟩
      obtain ⟨b2, h2⟩ : ∃ b, (((csum (lnN l) l.length : Nat) : Int) == 0) = b := ⟨_, rfl⟩
      obtain ⟨b3, h3⟩ : ∃ b, (((csum (lnN l) l.length : Nat) : Int) == 1) = b := ⟨_, rfl⟩
      obtain ⟨b4, h4⟩ : ∃ b, (((cnt (lnN l) 1 l.length : Nat) : Int) == 1) = b := ⟨_, rfl⟩
      have HQ : Hid (e = if (b1 || (b2 || (b3 && b4))) = true then 0 else 4) := Lib.hid (by
        have k1 : ks (nOf l) 16 = 32768 ↔ b1 = true := by rw [← h1, beq_iff_eq, e1]; unfold nOf; omega
        have k2 : plc (nOf l) 16 = 0 ↔ b2 = true := by rw [← h2, beq_iff_eq, e2]; unfold nOf; omega
        have k3 : plc (nOf l) 16 = 1 ↔ b3 = true := by rw [← h3, beq_iff_eq, e2]; unfold nOf; omega
        have k4 : nOf l 1 = 1 ↔ b4 = true := by rw [← h4, beq_iff_eq]; unfold nOf cN; rw [if_neg (by decide)]; omega
        have kk : okS (nOf l) ↔ (b1 || (b2 || (b3 && b4))) = true := by
          unfold okS
          rw [k1, k2, k3, k4]
          simp
        rcases HE.out with ⟨_, h1 | h1⟩ | ⟨_, _, ⟨h1, h2⟩ | ⟨h1, h2⟩⟩
        · omega
        · exact absurd hfine h1
        · rw [if_pos (kk.1 h2), h1]
        · rw [if_neg (fun x => h2 (kk.2 x)), h1])
      clear e1 e2 HE hfine HF
      cases b1 <;> cases b2 <;> cases b3 <;> cases b4
      all_goals
        first | obtain rfl : e = 0 := HQ.out | obtain rfl : e = 4 := HQ.out
        clear HQ
        go_wp2_with fail
        go_ret
        exact ⟨rfl, rfl⟩
theorem sound_any (A : Option Addr) (n cap : Nat) (l : List Int) (e : Int) (w : World) (hl : IAt (fun _ => True) w A n cap l) (he : Lg l e) :
    Calls Try.prog 10 #[.slice A n cap] w (SoundR w e) := by
  by_cases h : 320 < n
  · have hlen := hl.len
    obtain rfl : e = 1 := by
      rcases he with ⟨h1, _⟩ | ⟨h2, _⟩
      · exact h1
      · omega
    exact sound_big A n cap l w hl h
  · exact sound_go A n cap l e w hl (by omega) he

end Go.Proofs.Ytpechajekechlaa
