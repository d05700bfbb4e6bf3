/- tzx.Bits, Many, and the document's: their contracts. -/
import Derived.Test.YthlaglhlmbkniaaTzxBits
import Derived.Test.YthlaglhlmbkniaaShelf
import Derived.WalkKit
import Derived.LoopTactic
import Derived.BigQuiet
import Derived.RegionTactic
import Derived.ChangeAlike
import Derived.Lib.Hide
namespace Go.Proofs.Ythlaglhlmbkniaa
open Go.RowKit
set_option linter.unusedVariables false
set_option linter.unusedSimpArgs false
set_option maxRecDepth 100000

theorem bits_any (n : Int) (h : n ≤ 1000000) (w : World) : Calls Try.prog 11 #[.int .i64 n] w fun x w' => ∃ b : Nat, x = .returned (.int .i64 (b : Nat)) ∧ LeastIs n b ∧ b ≤ 20 ∧ w = w' := by
  by_cases h2 : n < 2
  · have d : decide (n < 2) = true := decide_eq_true h2
    have HE := Lib.hid (least_small n h2)
    clear h2
    go_enter Try.func11, Try.ntmps11
    go_wp2_with fail
    go_ret
    exact ⟨0, rfl, HE.out, by omega, rfl⟩
  · have d : decide (n < 2) = false := decide_eq_false h2
    have HE := Lib.hid (least_bitLen n (by omega) h)
    have HF := Lib.hid (bitLen_few n (by omega) h)
    have HC := Lib.hid (fun u => Try.bits_Len (n - 1) u (by omega) (by omega))
    have e1 : IntKind.u64.wrap (n - 1) = n - 1 := by rw [IntKind.wrap_u64]; omega
    obtain ⟨b, hb⟩ : ∃ b, Lib.bitLen (n - 1).toNat = b := ⟨_, rfl⟩
    rw [hb] at HE HF HC
    clear hb
    go_enter Try.func11, Try.ntmps11
    go_wp2_with fail
    refine (HC.out _).mono ?_
    rintro x w' ⟨rfl, rfl⟩
    go_wp2_with fail
    go_ret
    exact ⟨b, rfl, HE.out, HF.out, rfl⟩
theorem many_any (n : Int) (w : World) : Calls Try.prog 13 #[.int .i64 n] w fun x w' => x = .returned (.int .i64 (if n = 0 then 256 else n)) ∧ w = w' := by
  by_cases h : n = 0
  · subst h
    go_enter Try.func13, Try.ntmps13
    go_wp2_with fail
    go_ret
    exact ⟨rfl, rfl⟩
  · have d : (n == 0) = false := by rw [beq_eq_false_iff_ne]; exact h
    have e : (if n = 0 then 256 else n) = n := if_neg h
    rw [e]
    clear h e
    go_enter Try.func13, Try.ntmps13
    go_wp2_with fail
    go_ret
    exact ⟨rfl, rfl⟩
theorem rmany_any (n : Int) (w : World) : Calls Try.prog 14 #[.int .i64 n] w fun x w' => x = .returned (.int .i64 (if n = 0 then 256 else n)) ∧ w = w' := by
  by_cases h : n = 0
  · subst h
    go_enter Try.func14, Try.ntmps14
    go_wp2_with fail
    go_ret
    exact ⟨rfl, rfl⟩
  · have d : (n == 0) = false := by rw [beq_eq_false_iff_ne]; exact h
    have e : (if n = 0 then 256 else n) = n := if_neg h
    rw [e]
    clear h e
    go_enter Try.func14, Try.ntmps14
    go_wp2_with fail
    go_ret
    exact ⟨rfl, rfl⟩
theorem rbits_any (n : Int) (h : n ≤ 1000000) (w : World) : Calls Try.prog 12 #[.int .i64 n] w fun x w' => ∃ b : Nat, x = .returned (.int .i64 (b : Nat)) ∧ LeastIs n b ∧ w = w' := by
  go_enter Try.func12, Try.ntmps12
  go_wp2_with fail
  go_loopw [3, 4] (fun b v wr => ∃ (c : Nat) (y : Int), b = .int .i64 c ∧ v = .int .i64 y ∧ c ≤ 20 ∧ 1 ≤ y ∧ y ≤ 2000000 ∧ wr = w ∧ Hid (y = 2 ^ c ∧ ∀ d : Nat, d < c → (2 : Int) ^ d < n)) (fun b _ _ => 20 - (intOf b).toNat)
  case atStart => exact ⟨0, 1, rfl, rfl, by omega, by omega, by omega, rfl, Lib.hid ⟨rfl, fun d hd => absurd hd (by omega)⟩⟩
  case round =>
    obtain ⟨c, y, rfl, rfl, hc, hy1, hy2, rfl, HA⟩ := hrel
    by_cases hlt : y < n
    · have d : decide (y < n) = true := decide_eq_true hlt
      have hc20 : c < 20 := by
        refine Classical.byContradiction fun x => ?_
        have e : c = 20 := by omega
        have := HA.out.1
        rw [e] at this
        have e2 : (2 : Int) ^ 20 = 1048576 := by decide
        omega
      have HE : Hid (2 * y = 2 ^ (c + 1) ∧ ∀ d : Nat, d < c + 1 → (2 : Int) ^ d < n) := Lib.hid ⟨by rw [HA.out.1, Int.pow_succ, Int.mul_comm], fun d hd => by
        by_cases e : d = c
        · rw [e, ← HA.out.1]; exact hlt
        · exact HA.out.2 d (by omega)⟩
      go_wp2_with fail
      go_roundw
      case rel => exact ⟨c + 1, 2 * y, by go_num, rfl, by omega, by omega, by omega, trivial, HE⟩
      case measure => simp [intOf]; omega
    · have d : decide (y < n) = false := decide_eq_false hlt
      have HE : Hid (LeastIs n c) := Lib.hid ⟨by have := HA.out.1; omega, HA.out.2⟩
      go_wp2_with fail
      go_ret
      exact ⟨c, rfl, HE.out, rfl⟩

end Go.Proofs.Ythlaglhlmbkniaa
