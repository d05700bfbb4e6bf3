/- The document's Digits: its contract. -/
import Derived.Test.YtkjibnnoeceaeaaDoorHexFmt
import Derived.LoopTactic
namespace Go.Proofs.YtkjibnnoeceaeaaDoor
open Go.RowKit

theorem hexN_front : ∀ (j n : Nat), hexN (j + 1) n = hexD (n / 16 ^ j % 16) :: hexN j n
  | 0, n => by simp [hexN]
  | j + 1, n => by
    rw [hexN, hexN_front j (n / 16), hexN]
    rw [Nat.div_div_eq_div_mul, show 16 * 16 ^ j = 16 ^ (j + 1) by rw [Nat.pow_succ, Nat.mul_comm]]
    rfl
theorem hex_sub (d : Nat) (h : d < 16) : (ByteArray.mk #[48, 49, 50, 51, 52, 53, 54, 55, 56, 57, 97, 98, 99, 100, 101, 102]).extract d (d + 1) = strL [hexD d] := by
  have e : d = 0 ∨ d = 1 ∨ d = 2 ∨ d = 3 ∨ d = 4 ∨ d = 5 ∨ d = 6 ∨ d = 7 ∨ d = 8 ∨ d = 9 ∨ d = 10 ∨ d = 11 ∨ d = 12 ∨ d = 13 ∨ d = 14 ∨ d = 15 := by omega
  clear h
  rcases e with rfl | rfl | rfl | rfl | rfl | rfl | rfl | rfl | rfl | rfl | rfl | rfl | rfl | rfl | rfl | rfl
  all_goals decide +kernel

set_option maxHeartbeats 800000 in
theorem digits_any (n k : Nat) (w : World) (hn : n < 65536) (hk : k ≤ 4) : Calls Tryd.prog 51 #[.int .i64 n, .int .i64 k] w fun e w' => e = .returned (.string (strL (hexN k n))) ∧ w = w' := by
  go_enter Tryd.func51, Tryd.ntmps51
  go_wp2_with fail
  go_loop [0, 6, 7] (fun u s i => ∃ (j m : Nat) (S : ByteArray), j ≤ k ∧ i = .int .i64 j ∧ m ≤ 65535 ∧ Hid (m = n / 16 ^ j) ∧ u = .int .i64 m ∧ S.size ≤ 10 ∧ Hid (S = strL (hexN j n)) ∧ s = .string S) (fun _ _ i => k - (intOf i).toNat)
  case atStart => exact ⟨0, n, ⟨#[]⟩, by omega, rfl, by omega, by simp [Hid], rfl, by simp [ByteArray.size], by simp [Hid, hexN, strL], rfl⟩
  case round =>
    obtain ⟨j, m, T, hj, rfl, hm, HM, rfl, hs, HS, rfl⟩ := hrel
    by_cases hlt : j < k
    · generalize hd : m % 16 = d
      have d1 : d < 16 := by omega
      have md : (m : Int) % 16 = (d : Int) := by omega
      have HD := Lib.hid hd
      have hx := hex_sub d d1
      have hz : (strL [hexD d]).size = 1 := rfl
      clear hd
      go_wp2_with fail
      go_round
      case rel =>
        have hm' := HM.out
        have hT := HS.out
        have e1 : strL [hexD d] ++ T = strL (hexN (j + 1) n) := by
          rw [hT, strL_app, hexN_front, ← hm', HD.out]; rfl
        refine ⟨j + 1, m / 16, strL [hexD d] ++ T, by omega, by go_num, by omega, ?_, by go_num, ?_, Lib.hid e1, rfl⟩
        · exact Lib.hid (by rw [hm', Nat.div_div_eq_div_mul, Nat.pow_succ])
        · rw [e1, strL_size, hexN_len]; omega
      case measure => simp [intOf]; omega
    · have e : j = k := by omega
      subst e
      go_wp2_with fail
      go_ret
      exact ⟨by rw [← HS.out]; rfl, rfl⟩

end Go.Proofs.YtkjibnnoeceaeaaDoor
