/- The contracts of layer 9's calls: how long the processor is held. -/
import Derived.Test.YtmjhipabciaonaaDoorUlaWalk
namespace Go.Proofs.YtmjhipabciaonaaDoor
open Go.RowKit

/-- The table of how long the processor is held. -/
def Waits (w : World) : Prop := ∀ n : Int, w.cell? ⟨0, (n % 8).toNat, none⟩ = some (.int .i64 (heldV n))

theorem onB_of {n : Int} {b : Bool} (h : onB n = b) : Hid (onB n = b) := Lib.hid h
set_option maxHeartbeats 400000 in
theorem wait_any (t : Int) (w : World) (hT : Waits w) : Calls Tryd.prog 10 #[.int .i64 t] w fun e w' => e = .returned (.int .i64 (waitV (frameV t))) ∧ w = w' := by
  obtain ⟨b0, b1⟩ := frameV_bd t
  have HG := Lib.hid (fun w => frame_any t w)
  obtain ⟨T, hT'⟩ : ∃ T, frameV t = T := ⟨_, rfl⟩
  rw [hT'] at b0 b1 HG ⊢
  clear hT'
  by_cases h : 14335 ≤ T
  · have c := hT (T - 14335)
    clear hT
    cases hb : onB (T - 14335) with
    | true =>
      have HB := Lib.hid hb
      have HR := Lib.hid (waitV_yes h hb)
      clear hb
      obtain ⟨r, hr⟩ : ∃ r, heldV (T - 14335) = r := ⟨_, rfl⟩
      rw [hr] at c HR
      clear hr
      go_enter Tryd.func10, Tryd.ntmps10
      go_wp2_with fail
      refine (HG.out _).mono ?_
      rintro e w' ⟨rfl, rfl⟩
      go_wp2_with fail
      refine (busy_any _ true _ (by omega) (by omega) HB.out).mono ?_
      rintro e w' ⟨rfl, rfl⟩
      go_wp2_with fail
      go_ret
      exact ⟨by rw [HR.out]; rfl, rfl⟩
    | false =>
      have HB := Lib.hid hb
      have HR := Lib.hid (waitV_no (T := T) (by rw [hb]; simp))
      clear hb c
      go_enter Tryd.func10, Tryd.ntmps10
      go_wp2_with fail
      refine (HG.out _).mono ?_
      rintro e w' ⟨rfl, rfl⟩
      go_wp2_with fail
      refine (busy_any _ false _ (by omega) (by omega) HB.out).mono ?_
      rintro e w' ⟨rfl, rfl⟩
      go_wp2_with fail
      go_ret
      exact ⟨by rw [HR.out]; rfl, rfl⟩
  · have HR := Lib.hid (waitV_no (T := T) (fun e => h e.1))
    clear hT
    go_enter Tryd.func10, Tryd.ntmps10
    go_wp2_with fail
    refine (HG.out _).mono ?_
    rintro e w' ⟨rfl, rfl⟩
    go_wp2_with fail
    refine (busy_neg _ _ (by omega)).mono ?_
    rintro e w' ⟨rfl, rfl⟩
    go_wp2_with fail
    go_ret
    exact ⟨by rw [HR.out]; rfl, rfl⟩
theorem waitIs (t r : Int) (w : World) (hT : Waits w) (h : waitV (frameV t) = r) : Calls Tryd.prog 10 #[.int .i64 t] w fun e w' => e = .returned (.int .i64 r) ∧ w = w' := by
  subst h; exact wait_any t w hT

theorem onB_yes {n : Int} (h : onB n = true) : n / 224 < 192 ∧ n % 224 < 128 := of_decide_eq_true h
theorem onB_no {n : Int} (h : onB n = false) : 192 ≤ n / 224 ∨ 128 ≤ n % 224 := by
  have := of_decide_eq_false h
  omega
set_option maxHeartbeats 800000 in
theorem refWait_any (t : Int) (w : World) : Calls Tryd.prog 11 #[.int .i64 t] w fun e w' => e = .returned (.int .i64 (waitV (frameV t))) ∧ w = w' := by
  obtain ⟨b0, b1⟩ := frameV_bd t
  have HG := Lib.hid (fun w => refFrame_any t w)
  obtain ⟨T, hT'⟩ : ∃ T, frameV t = T := ⟨_, rfl⟩
  rw [hT'] at b0 b1 HG ⊢
  clear hT'
  by_cases h : 14335 ≤ T
  · cases hb : onB (T - 14335) with
    | true =>
      have HR := Lib.hid (waitV_yes h hb)
      obtain ⟨k1, k2⟩ := onB_yes hb
      have k3 : T - 14335 < 43008 := by omega
      clear hb k1
      by_cases k4 : (T - 14335) % 8 ≤ 6
      · have HV := Lib.hid (show heldV (T - 14335) = 6 - (T - 14335) % 8 by unfold heldV; rw [if_pos k4])
        go_enter Tryd.func11, Tryd.ntmps11
        go_wp2_with fail
        refine (HG.out _).mono ?_
        rintro e w' ⟨rfl, rfl⟩
        go_wp2_with fail
        go_ret
        exact ⟨by rw [HR.out, HV.out]; rfl, rfl⟩
      · have HV := Lib.hid (show heldV (T - 14335) = 0 by unfold heldV; rw [if_neg k4])
        go_enter Tryd.func11, Tryd.ntmps11
        go_wp2_with fail
        refine (HG.out _).mono ?_
        rintro e w' ⟨rfl, rfl⟩
        go_wp2_with fail
        go_ret
        exact ⟨by rw [HR.out, HV.out]; rfl, rfl⟩
    | false =>
      have HR := Lib.hid (waitV_no (T := T) (by rw [hb]; simp))
      have k := onB_no hb
      clear hb
      by_cases k3 : T - 14335 < 43008
      · have k2 : 128 ≤ (T - 14335) % 224 := by omega
        clear k
        go_enter Tryd.func11, Tryd.ntmps11
        go_wp2_with fail
        refine (HG.out _).mono ?_
        rintro e w' ⟨rfl, rfl⟩
        go_wp2_with fail
        go_ret
        exact ⟨by rw [HR.out]; rfl, rfl⟩
      · clear k
        go_enter Tryd.func11, Tryd.ntmps11
        go_wp2_with fail
        refine (HG.out _).mono ?_
        rintro e w' ⟨rfl, rfl⟩
        go_wp2_with fail
        go_ret
        exact ⟨by rw [HR.out]; rfl, rfl⟩
  · have HR := Lib.hid (waitV_no (T := T) (fun e => h e.1))
    have f : decide (T - 14335 < 0) = true := decide_eq_true (by omega)
    go_enter Tryd.func11, Tryd.ntmps11
    go_wp2_with fail
    refine (HG.out _).mono ?_
    rintro e w' ⟨rfl, rfl⟩
    go_wp2_with fail
    go_ret
    exact ⟨by rw [HR.out]; rfl, rfl⟩
theorem refWaitIs (t r : Int) (w : World) (h : waitV (frameV t) = r) : Calls Tryd.prog 11 #[.int .i64 t] w fun e w' => e = .returned (.int .i64 r) ∧ w = w' := by
  subst h; exact refWait_any t w

end Go.Proofs.YtmjhipabciaonaaDoor
