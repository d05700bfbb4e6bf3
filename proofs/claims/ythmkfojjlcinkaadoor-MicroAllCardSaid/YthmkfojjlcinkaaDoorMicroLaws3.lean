/- MicroAll: its walk. -/
import Derived.Test.YthmkfojjlcinkaaDoorMicroLaws
namespace Go.Proofs.YthmkfojjlcinkaaDoor
open Go.RowKit
set_option linter.unusedVariables false

/-- What a round asks. -/
theorem round_all (s x : Int) (x0 : 0 ≤ x) (x2 : x ≤ 2) (c : Nat) (hc : c < 256) : ∃ (L : List Sp) (r1 r2 : Int), Hid (∀ u, Modes u → Calls Tryd.prog 6 #[.slice none 0 0, .int .i64 s, .int .i64 x, .int .u8 c] u fun e w' => ∃ v, e = .returned v ∧ Steps w' v L ∧ Below u.heap.size u w') ∧
    Hid (shortS L = true) ∧ Hid (timeS true L = r1) ∧ Hid (timeS false L = r2) ∧ Hid (timeT s (decide (0 < x)) c true = r1) ∧ Hid (timeT s (decide (0 < x)) c false = r2) := by
  have hb : (decide (x = 1) || decide (x = 2)) = decide (0 < x) := by
    have e : x = 0 ∨ x = 1 ∨ x = 2 := by omega
    rcases e with rfl | rfl | rfl <;> rfl
  obtain ⟨t1, t2, hs⟩ := prog_ok s x c hc _ hb
  exact ⟨_, _, _, Lib.hid (fun u k => prog_new s x c u hc k), Lib.hid hs, Lib.hid t1, Lib.hid t2, Lib.hid rfl, Lib.hid rfl⟩

set_option maxRecDepth 100000 in
set_option maxHeartbeats 4000000 in
theorem allA (n : Int) (w : World) (hM : Modes w) (h : n < 0) : Calls Tryd.prog 4 #[.int .i64 n] w fun e w' => e = .returned (.bool true) ∧ Below w.heap.size w w' := by
  have HM := Lib.hid hM
  clear hM
  go_enter Tryd.func4, Tryd.ntmps4
  go_wp2_with fail
  go_loopw [5] (fun q wr => ∃ j : Nat, j ≤ 256 ∧ q = .int .i64 j ∧ Hid (Below w.heap.size w wr)) (fun q _ => 256 - (intOf q).toNat)
  case atStart => exact ⟨0, by omega, rfl, Lib.hid (Below.refl _ _)⟩
  case round =>
    obtain ⟨j, hj, rfl, hs⟩ := hrel
    by_cases hlt : j < 256
    · obtain ⟨L, r1, r2, HP, HS, H1, H2, D1, D2⟩ := round_all 0 0 (by omega) (by omega) j hlt
      have d7 : decide ((j : Int) < 256) = true := by simp; omega
      have wj : IntKind.u8.wrap (j : Int) = (j : Int) := by simp [IntKind.wrap, IntKind.bits, IntKind.signed]; omega
      have hk := HM.out.below hs.out
      have HK := Lib.hid hk
      clear hk
      go_wp2_with fail
      refine (HP.out _ HK.out).mono ?_
      rintro e w1 ⟨v, rfl, hS, hb1⟩
      go_wp2_with fail
      refine (timeIs true _ _ _ _ hS HS.out H1.out).mono ?_
      rintro e w2 ⟨rfl, hb2⟩
      go_wp2_with fail
      refine (docTime _ _ true _ j _ hlt D1.out).mono ?_
      rintro e w3 ⟨rfl, hb3⟩
      go_wp2_with fail
      refine (timeIs false _ _ _ _ ((hS.below hb2).below hb3) HS.out H2.out).mono ?_
      rintro e w4 ⟨rfl, hb4⟩
      go_wp2_with fail
      refine (docTime _ _ false _ j _ hlt D2.out).mono ?_
      rintro e w5 ⟨rfl, hb5⟩
      go_wp2_with fail
      go_roundw
      case rel => exact ⟨j + 1, by omega, by go_num, Lib.hid (below_step (below_step (below_step (below_step (below_step hs.out hb1) hb2) hb3) hb4) hb5)⟩
      case measure => simp [intOf]; omega
    · have d7 : decide ((j : Int) < 256) = false := by simp; omega
      have hk := HM.out.below hs.out
      have HK := Lib.hid hk
      clear hk
      go_wp2_with fail
      refine (lives8 _ HK.out).mono ?_
      rintro e w1 ⟨rfl, hb1⟩
      go_wp2_with fail
      go_ret
      exact ⟨rfl, below_step hs.out hb1⟩
set_option maxRecDepth 100000 in
set_option maxHeartbeats 4000000 in
theorem allB (n : Int) (w : World) (hM : Modes w) (h : 11 < n) : Calls Tryd.prog 4 #[.int .i64 n] w fun e w' => e = .returned (.bool true) ∧ Below w.heap.size w w' := by
  have HM := Lib.hid hM
  clear hM
  go_enter Tryd.func4, Tryd.ntmps4
  go_wp2_with fail
  go_loopw [5] (fun q wr => ∃ j : Nat, j ≤ 256 ∧ q = .int .i64 j ∧ Hid (Below w.heap.size w wr)) (fun q _ => 256 - (intOf q).toNat)
  case atStart => exact ⟨0, by omega, rfl, Lib.hid (Below.refl _ _)⟩
  case round =>
    obtain ⟨j, hj, rfl, hs⟩ := hrel
    by_cases hlt : j < 256
    · obtain ⟨L, r1, r2, HP, HS, H1, H2, D1, D2⟩ := round_all 3 2 (by omega) (by omega) j hlt
      have d7 : decide ((j : Int) < 256) = true := by simp; omega
      have wj : IntKind.u8.wrap (j : Int) = (j : Int) := by simp [IntKind.wrap, IntKind.bits, IntKind.signed]; omega
      have hk := HM.out.below hs.out
      have HK := Lib.hid hk
      clear hk
      go_wp2_with fail
      refine (HP.out _ HK.out).mono ?_
      rintro e w1 ⟨v, rfl, hS, hb1⟩
      go_wp2_with fail
      refine (timeIs true _ _ _ _ hS HS.out H1.out).mono ?_
      rintro e w2 ⟨rfl, hb2⟩
      go_wp2_with fail
      refine (docTime _ _ true _ j _ hlt D1.out).mono ?_
      rintro e w3 ⟨rfl, hb3⟩
      go_wp2_with fail
      refine (timeIs false _ _ _ _ ((hS.below hb2).below hb3) HS.out H2.out).mono ?_
      rintro e w4 ⟨rfl, hb4⟩
      go_wp2_with fail
      refine (docTime _ _ false _ j _ hlt D2.out).mono ?_
      rintro e w5 ⟨rfl, hb5⟩
      go_wp2_with fail
      go_roundw
      case rel => exact ⟨j + 1, by omega, by go_num, Lib.hid (below_step (below_step (below_step (below_step (below_step hs.out hb1) hb2) hb3) hb4) hb5)⟩
      case measure => simp [intOf]; omega
    · have d7 : decide ((j : Int) < 256) = false := by simp; omega
      have hk := HM.out.below hs.out
      have HK := Lib.hid hk
      clear hk
      go_wp2_with fail
      refine (lives8 _ HK.out).mono ?_
      rintro e w1 ⟨rfl, hb1⟩
      go_wp2_with fail
      go_ret
      exact ⟨rfl, below_step hs.out hb1⟩
set_option maxRecDepth 100000 in
set_option maxHeartbeats 4000000 in
theorem allD (n : Int) (w : World) (hM : Modes w) (h : n = 0) : Calls Tryd.prog 4 #[.int .i64 n] w fun e w' => e = .returned (.bool true) ∧ Below w.heap.size w w' := by
  have HM := Lib.hid hM
  clear hM
  subst h
  go_enter Tryd.func4, Tryd.ntmps4
  go_wp2_with fail
  go_loopw [5] (fun q wr => ∃ j : Nat, j ≤ 256 ∧ q = .int .i64 j ∧ Hid (Below w.heap.size w wr)) (fun q _ => 256 - (intOf q).toNat)
  case atStart => exact ⟨0, by omega, rfl, Lib.hid (Below.refl _ _)⟩
  case round =>
    obtain ⟨j, hj, rfl, hs⟩ := hrel
    by_cases hlt : j < 256
    · obtain ⟨L, r1, r2, HP, HS, H1, H2, D1, D2⟩ := round_all 0 0 (by omega) (by omega) j hlt
      have d7 : decide ((j : Int) < 256) = true := by simp; omega
      have wj : IntKind.u8.wrap (j : Int) = (j : Int) := by simp [IntKind.wrap, IntKind.bits, IntKind.signed]; omega
      have hk := HM.out.below hs.out
      have HK := Lib.hid hk
      clear hk
      go_wp2_with fail
      refine (HP.out _ HK.out).mono ?_
      rintro e w1 ⟨v, rfl, hS, hb1⟩
      go_wp2_with fail
      refine (timeIs true _ _ _ _ hS HS.out H1.out).mono ?_
      rintro e w2 ⟨rfl, hb2⟩
      go_wp2_with fail
      refine (docTime _ _ true _ j _ hlt D1.out).mono ?_
      rintro e w3 ⟨rfl, hb3⟩
      go_wp2_with fail
      refine (timeIs false _ _ _ _ ((hS.below hb2).below hb3) HS.out H2.out).mono ?_
      rintro e w4 ⟨rfl, hb4⟩
      go_wp2_with fail
      refine (docTime _ _ false _ j _ hlt D2.out).mono ?_
      rintro e w5 ⟨rfl, hb5⟩
      go_wp2_with fail
      go_roundw
      case rel => exact ⟨j + 1, by omega, by go_num, Lib.hid (below_step (below_step (below_step (below_step (below_step hs.out hb1) hb2) hb3) hb4) hb5)⟩
      case measure => simp [intOf]; omega
    · have d7 : decide ((j : Int) < 256) = false := by simp; omega
      have hk := HM.out.below hs.out
      have HK := Lib.hid hk
      clear hk
      go_wp2_with fail
      refine (lives8 _ HK.out).mono ?_
      rintro e w1 ⟨rfl, hb1⟩
      go_wp2_with fail
      go_ret
      exact ⟨rfl, below_step hs.out hb1⟩
set_option maxRecDepth 100000 in
set_option maxHeartbeats 4000000 in
theorem allE (n : Int) (w : World) (hM : Modes w) (h : n = 11) : Calls Tryd.prog 4 #[.int .i64 n] w fun e w' => e = .returned (.bool true) ∧ Below w.heap.size w w' := by
  have HM := Lib.hid hM
  clear hM
  subst h
  go_enter Tryd.func4, Tryd.ntmps4
  go_wp2_with fail
  go_loopw [5] (fun q wr => ∃ j : Nat, j ≤ 256 ∧ q = .int .i64 j ∧ Hid (Below w.heap.size w wr)) (fun q _ => 256 - (intOf q).toNat)
  case atStart => exact ⟨0, by omega, rfl, Lib.hid (Below.refl _ _)⟩
  case round =>
    obtain ⟨j, hj, rfl, hs⟩ := hrel
    by_cases hlt : j < 256
    · obtain ⟨L, r1, r2, HP, HS, H1, H2, D1, D2⟩ := round_all 3 2 (by omega) (by omega) j hlt
      have d7 : decide ((j : Int) < 256) = true := by simp; omega
      have wj : IntKind.u8.wrap (j : Int) = (j : Int) := by simp [IntKind.wrap, IntKind.bits, IntKind.signed]; omega
      have hk := HM.out.below hs.out
      have HK := Lib.hid hk
      clear hk
      go_wp2_with fail
      refine (HP.out _ HK.out).mono ?_
      rintro e w1 ⟨v, rfl, hS, hb1⟩
      go_wp2_with fail
      refine (timeIs true _ _ _ _ hS HS.out H1.out).mono ?_
      rintro e w2 ⟨rfl, hb2⟩
      go_wp2_with fail
      refine (docTime _ _ true _ j _ hlt D1.out).mono ?_
      rintro e w3 ⟨rfl, hb3⟩
      go_wp2_with fail
      refine (timeIs false _ _ _ _ ((hS.below hb2).below hb3) HS.out H2.out).mono ?_
      rintro e w4 ⟨rfl, hb4⟩
      go_wp2_with fail
      refine (docTime _ _ false _ j _ hlt D2.out).mono ?_
      rintro e w5 ⟨rfl, hb5⟩
      go_wp2_with fail
      go_roundw
      case rel => exact ⟨j + 1, by omega, by go_num, Lib.hid (below_step (below_step (below_step (below_step (below_step hs.out hb1) hb2) hb3) hb4) hb5)⟩
      case measure => simp [intOf]; omega
    · have d7 : decide ((j : Int) < 256) = false := by simp; omega
      have hk := HM.out.below hs.out
      have HK := Lib.hid hk
      clear hk
      go_wp2_with fail
      refine (lives8 _ HK.out).mono ?_
      rintro e w1 ⟨rfl, hb1⟩
      go_wp2_with fail
      go_ret
      exact ⟨rfl, below_step hs.out hb1⟩
set_option maxRecDepth 100000 in
set_option maxHeartbeats 4000000 in
theorem allC1 (n : Int) (w : World) (hM : Modes w) (h : n = 1) : Calls Tryd.prog 4 #[.int .i64 n] w fun e w' => e = .returned (.bool true) ∧ Below w.heap.size w w' := by
  have HM := Lib.hid hM
  clear hM
  subst h
  go_enter Tryd.func4, Tryd.ntmps4
  go_wp2_with fail
  go_loopw [5] (fun q wr => ∃ j : Nat, j ≤ 256 ∧ q = .int .i64 j ∧ Hid (Below w.heap.size w wr)) (fun q _ => 256 - (intOf q).toNat)
  case atStart => exact ⟨0, by omega, rfl, Lib.hid (Below.refl _ _)⟩
  case round =>
    obtain ⟨j, hj, rfl, hs⟩ := hrel
    by_cases hlt : j < 256
    · obtain ⟨L, r1, r2, HP, HS, H1, H2, D1, D2⟩ := round_all 0 1 (by omega) (by omega) j hlt
      have d7 : decide ((j : Int) < 256) = true := by simp; omega
      have wj : IntKind.u8.wrap (j : Int) = (j : Int) := by simp [IntKind.wrap, IntKind.bits, IntKind.signed]; omega
      have hk := HM.out.below hs.out
      have HK := Lib.hid hk
      clear hk
      go_wp2_with fail
      refine (HP.out _ HK.out).mono ?_
      rintro e w1 ⟨v, rfl, hS, hb1⟩
      go_wp2_with fail
      refine (timeIs true _ _ _ _ hS HS.out H1.out).mono ?_
      rintro e w2 ⟨rfl, hb2⟩
      go_wp2_with fail
      refine (docTime _ _ true _ j _ hlt D1.out).mono ?_
      rintro e w3 ⟨rfl, hb3⟩
      go_wp2_with fail
      refine (timeIs false _ _ _ _ ((hS.below hb2).below hb3) HS.out H2.out).mono ?_
      rintro e w4 ⟨rfl, hb4⟩
      go_wp2_with fail
      refine (docTime _ _ false _ j _ hlt D2.out).mono ?_
      rintro e w5 ⟨rfl, hb5⟩
      go_wp2_with fail
      go_roundw
      case rel => exact ⟨j + 1, by omega, by go_num, Lib.hid (below_step (below_step (below_step (below_step (below_step hs.out hb1) hb2) hb3) hb4) hb5)⟩
      case measure => simp [intOf]; omega
    · have d7 : decide ((j : Int) < 256) = false := by simp; omega
      have hk := HM.out.below hs.out
      have HK := Lib.hid hk
      clear hk
      go_wp2_with fail
      refine (lives8 _ HK.out).mono ?_
      rintro e w1 ⟨rfl, hb1⟩
      go_wp2_with fail
      go_ret
      exact ⟨rfl, below_step hs.out hb1⟩
set_option maxRecDepth 100000 in
set_option maxHeartbeats 4000000 in
theorem allC2 (n : Int) (w : World) (hM : Modes w) (h : n = 2) : Calls Tryd.prog 4 #[.int .i64 n] w fun e w' => e = .returned (.bool true) ∧ Below w.heap.size w w' := by
  have HM := Lib.hid hM
  clear hM
  subst h
  go_enter Tryd.func4, Tryd.ntmps4
  go_wp2_with fail
  go_loopw [5] (fun q wr => ∃ j : Nat, j ≤ 256 ∧ q = .int .i64 j ∧ Hid (Below w.heap.size w wr)) (fun q _ => 256 - (intOf q).toNat)
  case atStart => exact ⟨0, by omega, rfl, Lib.hid (Below.refl _ _)⟩
  case round =>
    obtain ⟨j, hj, rfl, hs⟩ := hrel
    by_cases hlt : j < 256
    · obtain ⟨L, r1, r2, HP, HS, H1, H2, D1, D2⟩ := round_all 0 2 (by omega) (by omega) j hlt
      have d7 : decide ((j : Int) < 256) = true := by simp; omega
      have wj : IntKind.u8.wrap (j : Int) = (j : Int) := by simp [IntKind.wrap, IntKind.bits, IntKind.signed]; omega
      have hk := HM.out.below hs.out
      have HK := Lib.hid hk
      clear hk
      go_wp2_with fail
      refine (HP.out _ HK.out).mono ?_
      rintro e w1 ⟨v, rfl, hS, hb1⟩
      go_wp2_with fail
      refine (timeIs true _ _ _ _ hS HS.out H1.out).mono ?_
      rintro e w2 ⟨rfl, hb2⟩
      go_wp2_with fail
      refine (docTime _ _ true _ j _ hlt D1.out).mono ?_
      rintro e w3 ⟨rfl, hb3⟩
      go_wp2_with fail
      refine (timeIs false _ _ _ _ ((hS.below hb2).below hb3) HS.out H2.out).mono ?_
      rintro e w4 ⟨rfl, hb4⟩
      go_wp2_with fail
      refine (docTime _ _ false _ j _ hlt D2.out).mono ?_
      rintro e w5 ⟨rfl, hb5⟩
      go_wp2_with fail
      go_roundw
      case rel => exact ⟨j + 1, by omega, by go_num, Lib.hid (below_step (below_step (below_step (below_step (below_step hs.out hb1) hb2) hb3) hb4) hb5)⟩
      case measure => simp [intOf]; omega
    · have d7 : decide ((j : Int) < 256) = false := by simp; omega
      have hk := HM.out.below hs.out
      have HK := Lib.hid hk
      clear hk
      go_wp2_with fail
      refine (lives8 _ HK.out).mono ?_
      rintro e w1 ⟨rfl, hb1⟩
      go_wp2_with fail
      go_ret
      exact ⟨rfl, below_step hs.out hb1⟩
set_option maxRecDepth 100000 in
set_option maxHeartbeats 4000000 in
theorem allC3 (n : Int) (w : World) (hM : Modes w) (h : n = 3) : Calls Tryd.prog 4 #[.int .i64 n] w fun e w' => e = .returned (.bool true) ∧ Below w.heap.size w w' := by
  have HM := Lib.hid hM
  clear hM
  subst h
  go_enter Tryd.func4, Tryd.ntmps4
  go_wp2_with fail
  go_loopw [5] (fun q wr => ∃ j : Nat, j ≤ 256 ∧ q = .int .i64 j ∧ Hid (Below w.heap.size w wr)) (fun q _ => 256 - (intOf q).toNat)
  case atStart => exact ⟨0, by omega, rfl, Lib.hid (Below.refl _ _)⟩
  case round =>
    obtain ⟨j, hj, rfl, hs⟩ := hrel
    by_cases hlt : j < 256
    · obtain ⟨L, r1, r2, HP, HS, H1, H2, D1, D2⟩ := round_all 1 0 (by omega) (by omega) j hlt
      have d7 : decide ((j : Int) < 256) = true := by simp; omega
      have wj : IntKind.u8.wrap (j : Int) = (j : Int) := by simp [IntKind.wrap, IntKind.bits, IntKind.signed]; omega
      have hk := HM.out.below hs.out
      have HK := Lib.hid hk
      clear hk
      go_wp2_with fail
      refine (HP.out _ HK.out).mono ?_
      rintro e w1 ⟨v, rfl, hS, hb1⟩
      go_wp2_with fail
      refine (timeIs true _ _ _ _ hS HS.out H1.out).mono ?_
      rintro e w2 ⟨rfl, hb2⟩
      go_wp2_with fail
      refine (docTime _ _ true _ j _ hlt D1.out).mono ?_
      rintro e w3 ⟨rfl, hb3⟩
      go_wp2_with fail
      refine (timeIs false _ _ _ _ ((hS.below hb2).below hb3) HS.out H2.out).mono ?_
      rintro e w4 ⟨rfl, hb4⟩
      go_wp2_with fail
      refine (docTime _ _ false _ j _ hlt D2.out).mono ?_
      rintro e w5 ⟨rfl, hb5⟩
      go_wp2_with fail
      go_roundw
      case rel => exact ⟨j + 1, by omega, by go_num, Lib.hid (below_step (below_step (below_step (below_step (below_step hs.out hb1) hb2) hb3) hb4) hb5)⟩
      case measure => simp [intOf]; omega
    · have d7 : decide ((j : Int) < 256) = false := by simp; omega
      have hk := HM.out.below hs.out
      have HK := Lib.hid hk
      clear hk
      go_wp2_with fail
      refine (lives8 _ HK.out).mono ?_
      rintro e w1 ⟨rfl, hb1⟩
      go_wp2_with fail
      go_ret
      exact ⟨rfl, below_step hs.out hb1⟩
set_option maxRecDepth 100000 in
set_option maxHeartbeats 4000000 in
theorem allC4 (n : Int) (w : World) (hM : Modes w) (h : n = 4) : Calls Tryd.prog 4 #[.int .i64 n] w fun e w' => e = .returned (.bool true) ∧ Below w.heap.size w w' := by
  have HM := Lib.hid hM
  clear hM
  subst h
  go_enter Tryd.func4, Tryd.ntmps4
  go_wp2_with fail
  go_loopw [5] (fun q wr => ∃ j : Nat, j ≤ 256 ∧ q = .int .i64 j ∧ Hid (Below w.heap.size w wr)) (fun q _ => 256 - (intOf q).toNat)
  case atStart => exact ⟨0, by omega, rfl, Lib.hid (Below.refl _ _)⟩
  case round =>
    obtain ⟨j, hj, rfl, hs⟩ := hrel
    by_cases hlt : j < 256
    · obtain ⟨L, r1, r2, HP, HS, H1, H2, D1, D2⟩ := round_all 1 1 (by omega) (by omega) j hlt
      have d7 : decide ((j : Int) < 256) = true := by simp; omega
      have wj : IntKind.u8.wrap (j : Int) = (j : Int) := by simp [IntKind.wrap, IntKind.bits, IntKind.signed]; omega
      have hk := HM.out.below hs.out
      have HK := Lib.hid hk
      clear hk
      go_wp2_with fail
      refine (HP.out _ HK.out).mono ?_
      rintro e w1 ⟨v, rfl, hS, hb1⟩
      go_wp2_with fail
      refine (timeIs true _ _ _ _ hS HS.out H1.out).mono ?_
      rintro e w2 ⟨rfl, hb2⟩
      go_wp2_with fail
      refine (docTime _ _ true _ j _ hlt D1.out).mono ?_
      rintro e w3 ⟨rfl, hb3⟩
      go_wp2_with fail
      refine (timeIs false _ _ _ _ ((hS.below hb2).below hb3) HS.out H2.out).mono ?_
      rintro e w4 ⟨rfl, hb4⟩
      go_wp2_with fail
      refine (docTime _ _ false _ j _ hlt D2.out).mono ?_
      rintro e w5 ⟨rfl, hb5⟩
      go_wp2_with fail
      go_roundw
      case rel => exact ⟨j + 1, by omega, by go_num, Lib.hid (below_step (below_step (below_step (below_step (below_step hs.out hb1) hb2) hb3) hb4) hb5)⟩
      case measure => simp [intOf]; omega
    · have d7 : decide ((j : Int) < 256) = false := by simp; omega
      have hk := HM.out.below hs.out
      have HK := Lib.hid hk
      clear hk
      go_wp2_with fail
      refine (lives8 _ HK.out).mono ?_
      rintro e w1 ⟨rfl, hb1⟩
      go_wp2_with fail
      go_ret
      exact ⟨rfl, below_step hs.out hb1⟩
set_option maxRecDepth 100000 in
set_option maxHeartbeats 4000000 in
theorem allC5 (n : Int) (w : World) (hM : Modes w) (h : n = 5) : Calls Tryd.prog 4 #[.int .i64 n] w fun e w' => e = .returned (.bool true) ∧ Below w.heap.size w w' := by
  have HM := Lib.hid hM
  clear hM
  subst h
  go_enter Tryd.func4, Tryd.ntmps4
  go_wp2_with fail
  go_loopw [5] (fun q wr => ∃ j : Nat, j ≤ 256 ∧ q = .int .i64 j ∧ Hid (Below w.heap.size w wr)) (fun q _ => 256 - (intOf q).toNat)
  case atStart => exact ⟨0, by omega, rfl, Lib.hid (Below.refl _ _)⟩
  case round =>
    obtain ⟨j, hj, rfl, hs⟩ := hrel
    by_cases hlt : j < 256
    · obtain ⟨L, r1, r2, HP, HS, H1, H2, D1, D2⟩ := round_all 1 2 (by omega) (by omega) j hlt
      have d7 : decide ((j : Int) < 256) = true := by simp; omega
      have wj : IntKind.u8.wrap (j : Int) = (j : Int) := by simp [IntKind.wrap, IntKind.bits, IntKind.signed]; omega
      have hk := HM.out.below hs.out
      have HK := Lib.hid hk
      clear hk
      go_wp2_with fail
      refine (HP.out _ HK.out).mono ?_
      rintro e w1 ⟨v, rfl, hS, hb1⟩
      go_wp2_with fail
      refine (timeIs true _ _ _ _ hS HS.out H1.out).mono ?_
      rintro e w2 ⟨rfl, hb2⟩
      go_wp2_with fail
      refine (docTime _ _ true _ j _ hlt D1.out).mono ?_
      rintro e w3 ⟨rfl, hb3⟩
      go_wp2_with fail
      refine (timeIs false _ _ _ _ ((hS.below hb2).below hb3) HS.out H2.out).mono ?_
      rintro e w4 ⟨rfl, hb4⟩
      go_wp2_with fail
      refine (docTime _ _ false _ j _ hlt D2.out).mono ?_
      rintro e w5 ⟨rfl, hb5⟩
      go_wp2_with fail
      go_roundw
      case rel => exact ⟨j + 1, by omega, by go_num, Lib.hid (below_step (below_step (below_step (below_step (below_step hs.out hb1) hb2) hb3) hb4) hb5)⟩
      case measure => simp [intOf]; omega
    · have d7 : decide ((j : Int) < 256) = false := by simp; omega
      have hk := HM.out.below hs.out
      have HK := Lib.hid hk
      clear hk
      go_wp2_with fail
      refine (lives8 _ HK.out).mono ?_
      rintro e w1 ⟨rfl, hb1⟩
      go_wp2_with fail
      go_ret
      exact ⟨rfl, below_step hs.out hb1⟩
set_option maxRecDepth 100000 in
set_option maxHeartbeats 4000000 in
theorem allC6 (n : Int) (w : World) (hM : Modes w) (h : n = 6) : Calls Tryd.prog 4 #[.int .i64 n] w fun e w' => e = .returned (.bool true) ∧ Below w.heap.size w w' := by
  have HM := Lib.hid hM
  clear hM
  subst h
  go_enter Tryd.func4, Tryd.ntmps4
  go_wp2_with fail
  go_loopw [5] (fun q wr => ∃ j : Nat, j ≤ 256 ∧ q = .int .i64 j ∧ Hid (Below w.heap.size w wr)) (fun q _ => 256 - (intOf q).toNat)
  case atStart => exact ⟨0, by omega, rfl, Lib.hid (Below.refl _ _)⟩
  case round =>
    obtain ⟨j, hj, rfl, hs⟩ := hrel
    by_cases hlt : j < 256
    · obtain ⟨L, r1, r2, HP, HS, H1, H2, D1, D2⟩ := round_all 2 0 (by omega) (by omega) j hlt
      have d7 : decide ((j : Int) < 256) = true := by simp; omega
      have wj : IntKind.u8.wrap (j : Int) = (j : Int) := by simp [IntKind.wrap, IntKind.bits, IntKind.signed]; omega
      have hk := HM.out.below hs.out
      have HK := Lib.hid hk
      clear hk
      go_wp2_with fail
      refine (HP.out _ HK.out).mono ?_
      rintro e w1 ⟨v, rfl, hS, hb1⟩
      go_wp2_with fail
      refine (timeIs true _ _ _ _ hS HS.out H1.out).mono ?_
      rintro e w2 ⟨rfl, hb2⟩
      go_wp2_with fail
      refine (docTime _ _ true _ j _ hlt D1.out).mono ?_
      rintro e w3 ⟨rfl, hb3⟩
      go_wp2_with fail
      refine (timeIs false _ _ _ _ ((hS.below hb2).below hb3) HS.out H2.out).mono ?_
      rintro e w4 ⟨rfl, hb4⟩
      go_wp2_with fail
      refine (docTime _ _ false _ j _ hlt D2.out).mono ?_
      rintro e w5 ⟨rfl, hb5⟩
      go_wp2_with fail
      go_roundw
      case rel => exact ⟨j + 1, by omega, by go_num, Lib.hid (below_step (below_step (below_step (below_step (below_step hs.out hb1) hb2) hb3) hb4) hb5)⟩
      case measure => simp [intOf]; omega
    · have d7 : decide ((j : Int) < 256) = false := by simp; omega
      have hk := HM.out.below hs.out
      have HK := Lib.hid hk
      clear hk
      go_wp2_with fail
      refine (lives8 _ HK.out).mono ?_
      rintro e w1 ⟨rfl, hb1⟩
      go_wp2_with fail
      go_ret
      exact ⟨rfl, below_step hs.out hb1⟩
set_option maxRecDepth 100000 in
set_option maxHeartbeats 4000000 in
theorem allC7 (n : Int) (w : World) (hM : Modes w) (h : n = 7) : Calls Tryd.prog 4 #[.int .i64 n] w fun e w' => e = .returned (.bool true) ∧ Below w.heap.size w w' := by
  have HM := Lib.hid hM
  clear hM
  subst h
  go_enter Tryd.func4, Tryd.ntmps4
  go_wp2_with fail
  go_loopw [5] (fun q wr => ∃ j : Nat, j ≤ 256 ∧ q = .int .i64 j ∧ Hid (Below w.heap.size w wr)) (fun q _ => 256 - (intOf q).toNat)
  case atStart => exact ⟨0, by omega, rfl, Lib.hid (Below.refl _ _)⟩
  case round =>
    obtain ⟨j, hj, rfl, hs⟩ := hrel
    by_cases hlt : j < 256
    · obtain ⟨L, r1, r2, HP, HS, H1, H2, D1, D2⟩ := round_all 2 1 (by omega) (by omega) j hlt
      have d7 : decide ((j : Int) < 256) = true := by simp; omega
      have wj : IntKind.u8.wrap (j : Int) = (j : Int) := by simp [IntKind.wrap, IntKind.bits, IntKind.signed]; omega
      have hk := HM.out.below hs.out
      have HK := Lib.hid hk
      clear hk
      go_wp2_with fail
      refine (HP.out _ HK.out).mono ?_
      rintro e w1 ⟨v, rfl, hS, hb1⟩
      go_wp2_with fail
      refine (timeIs true _ _ _ _ hS HS.out H1.out).mono ?_
      rintro e w2 ⟨rfl, hb2⟩
      go_wp2_with fail
      refine (docTime _ _ true _ j _ hlt D1.out).mono ?_
      rintro e w3 ⟨rfl, hb3⟩
      go_wp2_with fail
      refine (timeIs false _ _ _ _ ((hS.below hb2).below hb3) HS.out H2.out).mono ?_
      rintro e w4 ⟨rfl, hb4⟩
      go_wp2_with fail
      refine (docTime _ _ false _ j _ hlt D2.out).mono ?_
      rintro e w5 ⟨rfl, hb5⟩
      go_wp2_with fail
      go_roundw
      case rel => exact ⟨j + 1, by omega, by go_num, Lib.hid (below_step (below_step (below_step (below_step (below_step hs.out hb1) hb2) hb3) hb4) hb5)⟩
      case measure => simp [intOf]; omega
    · have d7 : decide ((j : Int) < 256) = false := by simp; omega
      have hk := HM.out.below hs.out
      have HK := Lib.hid hk
      clear hk
      go_wp2_with fail
      refine (lives8 _ HK.out).mono ?_
      rintro e w1 ⟨rfl, hb1⟩
      go_wp2_with fail
      go_ret
      exact ⟨rfl, below_step hs.out hb1⟩
set_option maxRecDepth 100000 in
set_option maxHeartbeats 4000000 in
theorem allC8 (n : Int) (w : World) (hM : Modes w) (h : n = 8) : Calls Tryd.prog 4 #[.int .i64 n] w fun e w' => e = .returned (.bool true) ∧ Below w.heap.size w w' := by
  have HM := Lib.hid hM
  clear hM
  subst h
  go_enter Tryd.func4, Tryd.ntmps4
  go_wp2_with fail
  go_loopw [5] (fun q wr => ∃ j : Nat, j ≤ 256 ∧ q = .int .i64 j ∧ Hid (Below w.heap.size w wr)) (fun q _ => 256 - (intOf q).toNat)
  case atStart => exact ⟨0, by omega, rfl, Lib.hid (Below.refl _ _)⟩
  case round =>
    obtain ⟨j, hj, rfl, hs⟩ := hrel
    by_cases hlt : j < 256
    · obtain ⟨L, r1, r2, HP, HS, H1, H2, D1, D2⟩ := round_all 2 2 (by omega) (by omega) j hlt
      have d7 : decide ((j : Int) < 256) = true := by simp; omega
      have wj : IntKind.u8.wrap (j : Int) = (j : Int) := by simp [IntKind.wrap, IntKind.bits, IntKind.signed]; omega
      have hk := HM.out.below hs.out
      have HK := Lib.hid hk
      clear hk
      go_wp2_with fail
      refine (HP.out _ HK.out).mono ?_
      rintro e w1 ⟨v, rfl, hS, hb1⟩
      go_wp2_with fail
      refine (timeIs true _ _ _ _ hS HS.out H1.out).mono ?_
      rintro e w2 ⟨rfl, hb2⟩
      go_wp2_with fail
      refine (docTime _ _ true _ j _ hlt D1.out).mono ?_
      rintro e w3 ⟨rfl, hb3⟩
      go_wp2_with fail
      refine (timeIs false _ _ _ _ ((hS.below hb2).below hb3) HS.out H2.out).mono ?_
      rintro e w4 ⟨rfl, hb4⟩
      go_wp2_with fail
      refine (docTime _ _ false _ j _ hlt D2.out).mono ?_
      rintro e w5 ⟨rfl, hb5⟩
      go_wp2_with fail
      go_roundw
      case rel => exact ⟨j + 1, by omega, by go_num, Lib.hid (below_step (below_step (below_step (below_step (below_step hs.out hb1) hb2) hb3) hb4) hb5)⟩
      case measure => simp [intOf]; omega
    · have d7 : decide ((j : Int) < 256) = false := by simp; omega
      have hk := HM.out.below hs.out
      have HK := Lib.hid hk
      clear hk
      go_wp2_with fail
      refine (lives8 _ HK.out).mono ?_
      rintro e w1 ⟨rfl, hb1⟩
      go_wp2_with fail
      go_ret
      exact ⟨rfl, below_step hs.out hb1⟩
set_option maxRecDepth 100000 in
set_option maxHeartbeats 4000000 in
theorem allC9 (n : Int) (w : World) (hM : Modes w) (h : n = 9) : Calls Tryd.prog 4 #[.int .i64 n] w fun e w' => e = .returned (.bool true) ∧ Below w.heap.size w w' := by
  have HM := Lib.hid hM
  clear hM
  subst h
  go_enter Tryd.func4, Tryd.ntmps4
  go_wp2_with fail
  go_loopw [5] (fun q wr => ∃ j : Nat, j ≤ 256 ∧ q = .int .i64 j ∧ Hid (Below w.heap.size w wr)) (fun q _ => 256 - (intOf q).toNat)
  case atStart => exact ⟨0, by omega, rfl, Lib.hid (Below.refl _ _)⟩
  case round =>
    obtain ⟨j, hj, rfl, hs⟩ := hrel
    by_cases hlt : j < 256
    · obtain ⟨L, r1, r2, HP, HS, H1, H2, D1, D2⟩ := round_all 3 0 (by omega) (by omega) j hlt
      have d7 : decide ((j : Int) < 256) = true := by simp; omega
      have wj : IntKind.u8.wrap (j : Int) = (j : Int) := by simp [IntKind.wrap, IntKind.bits, IntKind.signed]; omega
      have hk := HM.out.below hs.out
      have HK := Lib.hid hk
      clear hk
      go_wp2_with fail
      refine (HP.out _ HK.out).mono ?_
      rintro e w1 ⟨v, rfl, hS, hb1⟩
      go_wp2_with fail
      refine (timeIs true _ _ _ _ hS HS.out H1.out).mono ?_
      rintro e w2 ⟨rfl, hb2⟩
      go_wp2_with fail
      refine (docTime _ _ true _ j _ hlt D1.out).mono ?_
      rintro e w3 ⟨rfl, hb3⟩
      go_wp2_with fail
      refine (timeIs false _ _ _ _ ((hS.below hb2).below hb3) HS.out H2.out).mono ?_
      rintro e w4 ⟨rfl, hb4⟩
      go_wp2_with fail
      refine (docTime _ _ false _ j _ hlt D2.out).mono ?_
      rintro e w5 ⟨rfl, hb5⟩
      go_wp2_with fail
      go_roundw
      case rel => exact ⟨j + 1, by omega, by go_num, Lib.hid (below_step (below_step (below_step (below_step (below_step hs.out hb1) hb2) hb3) hb4) hb5)⟩
      case measure => simp [intOf]; omega
    · have d7 : decide ((j : Int) < 256) = false := by simp; omega
      have hk := HM.out.below hs.out
      have HK := Lib.hid hk
      clear hk
      go_wp2_with fail
      refine (lives8 _ HK.out).mono ?_
      rintro e w1 ⟨rfl, hb1⟩
      go_wp2_with fail
      go_ret
      exact ⟨rfl, below_step hs.out hb1⟩
set_option maxRecDepth 100000 in
set_option maxHeartbeats 4000000 in
theorem allC10 (n : Int) (w : World) (hM : Modes w) (h : n = 10) : Calls Tryd.prog 4 #[.int .i64 n] w fun e w' => e = .returned (.bool true) ∧ Below w.heap.size w w' := by
  have HM := Lib.hid hM
  clear hM
  subst h
  go_enter Tryd.func4, Tryd.ntmps4
  go_wp2_with fail
  go_loopw [5] (fun q wr => ∃ j : Nat, j ≤ 256 ∧ q = .int .i64 j ∧ Hid (Below w.heap.size w wr)) (fun q _ => 256 - (intOf q).toNat)
  case atStart => exact ⟨0, by omega, rfl, Lib.hid (Below.refl _ _)⟩
  case round =>
    obtain ⟨j, hj, rfl, hs⟩ := hrel
    by_cases hlt : j < 256
    · obtain ⟨L, r1, r2, HP, HS, H1, H2, D1, D2⟩ := round_all 3 1 (by omega) (by omega) j hlt
      have d7 : decide ((j : Int) < 256) = true := by simp; omega
      have wj : IntKind.u8.wrap (j : Int) = (j : Int) := by simp [IntKind.wrap, IntKind.bits, IntKind.signed]; omega
      have hk := HM.out.below hs.out
      have HK := Lib.hid hk
      clear hk
      go_wp2_with fail
      refine (HP.out _ HK.out).mono ?_
      rintro e w1 ⟨v, rfl, hS, hb1⟩
      go_wp2_with fail
      refine (timeIs true _ _ _ _ hS HS.out H1.out).mono ?_
      rintro e w2 ⟨rfl, hb2⟩
      go_wp2_with fail
      refine (docTime _ _ true _ j _ hlt D1.out).mono ?_
      rintro e w3 ⟨rfl, hb3⟩
      go_wp2_with fail
      refine (timeIs false _ _ _ _ ((hS.below hb2).below hb3) HS.out H2.out).mono ?_
      rintro e w4 ⟨rfl, hb4⟩
      go_wp2_with fail
      refine (docTime _ _ false _ j _ hlt D2.out).mono ?_
      rintro e w5 ⟨rfl, hb5⟩
      go_wp2_with fail
      go_roundw
      case rel => exact ⟨j + 1, by omega, by go_num, Lib.hid (below_step (below_step (below_step (below_step (below_step hs.out hb1) hb2) hb3) hb4) hb5)⟩
      case measure => simp [intOf]; omega
    · have d7 : decide ((j : Int) < 256) = false := by simp; omega
      have hk := HM.out.below hs.out
      have HK := Lib.hid hk
      clear hk
      go_wp2_with fail
      refine (lives8 _ HK.out).mono ?_
      rintro e w1 ⟨rfl, hb1⟩
      go_wp2_with fail
      go_ret
      exact ⟨rfl, below_step hs.out hb1⟩
theorem all_walk8 (n : Int) (_ : (Lit.int .i64 n).wf = true) (w : World) (hM : Modes w) : Calls Tryd.prog 4 #[.int .i64 n] w fun e w' => e = .returned (.bool true) ∧ Below w.heap.size w w' := by
  by_cases h0 : n < 0
  · exact allA n w hM h0
  by_cases h1 : 11 < n
  · exact allB n w hM h1
  by_cases h2 : n = 0
  · exact allD n w hM h2
  by_cases h3 : n = 11
  · exact allE n w hM h3
  have e : n = 1 ∨ n = 2 ∨ n = 3 ∨ n = 4 ∨ n = 5 ∨ n = 6 ∨ n = 7 ∨ n = 8 ∨ n = 9 ∨ n = 10 := by omega
  rcases e with h | h | h | h | h | h | h | h | h | h
  · exact allC1 n w hM h
  · exact allC2 n w hM h
  · exact allC3 n w hM h
  · exact allC4 n w hM h
  · exact allC5 n w hM h
  · exact allC6 n w hM h
  · exact allC7 n w hM h
  · exact allC8 n w hM h
  · exact allC9 n w hM h
  · exact allC10 n w hM h


end Go.Proofs.YthmkfojjlcinkaaDoor
