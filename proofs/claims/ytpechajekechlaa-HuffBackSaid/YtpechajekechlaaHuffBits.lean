/- The document's Bits. -/
import Derived.Test.YtpechajekechlaaHuffTexts
namespace Go.Proofs.Ytpechajekechlaa
open Go.RowKit

theorem bit_at (l : List Int) (i k : Nat) (hk : k < 8) : bitN l (8 * i + k) = (gI l i).toNat / 2 ^ k % 2 := by
  unfold bitN
  rw [show (8 * i + k) / 8 = i by omega, show (8 * i + k) % 8 = k by omega]
set_option maxHeartbeats 1600000 in
theorem refBits_any (F : Nat → Prop) (A : Option Addr) (n cap : Nat) (l : List Int) (w : World) (hl : BAt8 F w A n cap l) (hn : n ≤ 60) :
    Calls Try.prog 13 #[.slice A n cap] w fun x w' => x = .returned (.string (strB (bitN l) (8 * n))) ∧ w = w' := by
  have HL := Lib.hid hl
  have hlen := hl.len
  have hf := hl.fit
  have hm := hl.max
  unfold maxLen at hm
  clear hl
  go_enter Try.func13, Try.ntmps13
  go_wp2_with fail
  go_loop [3, 4] (fun s i => ∃ k : Nat, i = .int .i64 k ∧ k ≤ n ∧ s = .string (strB (bitN l) (8 * k))) (fun _ i => n - (intOf i).toNat)
  case atStart => exact ⟨0, rfl, by omega, rfl⟩
  case round =>
    obtain ⟨k, rfl, hk, rfl⟩ := hrel
    by_cases hlt : k < n
    · obtain ⟨b, o, rfl, _, hbl, hc⟩ := HL.out.lies (by omega)
      have c0 := hc k hlt
      have hbd := HL.out.bd k
      obtain ⟨X, hX⟩ : ∃ X : Nat, gI l k = (X : Int) := ⟨(gI l k).toNat, by omega⟩
      have HX : Hid ((gI l k).toNat = X) := Lib.hid (by omega)
      rw [hX] at c0 hbd
      clear hc hX
      go_wp2_with fail
      go_loop [3, 5, 6] (fun s v j => ∃ r : Nat, j = .int .i64 r ∧ r ≤ 8 ∧ v = .int .i64 (X / 2 ^ r : Nat) ∧ s = .string (strB (bitN l) (8 * k + r))) (fun _ _ j => 8 - (intOf j).toNat)
      case atStart => exact ⟨0, rfl, by omega, by rw [Nat.pow_zero, Nat.div_one], rfl⟩
      case round =>
        obtain ⟨r, rfl, hr, rfl, rfl⟩ := hrel
        have hdl := Nat.div_le_self X (2 ^ r)
        by_cases hr2 : r < 8
        · have HH : Hid (X / 2 ^ (r + 1) = X / 2 ^ r / 2) := Lib.hid (by rw [Nat.pow_succ, Nat.div_div_eq_div_mul])
          have hB := bit_at l k r hr2
          rw [HX.out] at hB
          have HG := Lib.hid (strB_back (bitN l) (8 * k + r))
          rw [hB] at HG
          have hsz := strB_size (bitN l) (8 * k + r)
          clear hB
          generalize X / 2 ^ r = V at *
          have hv2 : V % 2 = 0 ∨ V % 2 = 1 := by omega
          rcases hv2 with hv | hv
          · rw [hv] at HG
            have d1 : (((V : Int) % 2) == 1) = false := by rw [beq_eq_false_iff_ne]; omega
            have hg := HG.out 48 rfl
            go_wp2_with fail
            go_round
            case rel => exact ⟨r + 1, by go_num, by omega, by rw [HH.out]; go_num, rfl⟩
            case measure => first | (simp [intOf]; done) | (simp [intOf]; omega)
          · rw [hv] at HG
            have d1 : (((V : Int) % 2) == 1) = true := by rw [beq_iff_eq]; omega
            have hg := HG.out 49 rfl
            go_wp2_with fail
            go_round
            case rel => exact ⟨r + 1, by go_num, by omega, by rw [HH.out]; go_num, rfl⟩
            case measure => first | (simp [intOf]; done) | (simp [intOf]; omega)
        · obtain rfl : r = 8 := by omega
          generalize X / 2 ^ 8 = V at *
          go_wp2_with fail
          go_round
          case rel => exact ⟨k + 1, by go_num, by omega, rfl⟩
          case measure => first | (simp [intOf]; done) | (simp [intOf]; omega)
    · obtain rfl : k = n := by omega
      go_wp2_with fail
      go_ret
      exact ⟨rfl, rfl⟩

end Go.Proofs.Ytpechajekechlaa
