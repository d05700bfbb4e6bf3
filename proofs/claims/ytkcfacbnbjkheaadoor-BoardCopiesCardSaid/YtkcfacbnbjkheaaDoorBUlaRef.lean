/- The contracts of layer 9's calls that a board makes while it is held, and the document's. -/
import Derived.Test.YtkcfacbnbjkheaaDoorBUla
namespace Go.Proofs.YtkcfacbnbjkheaaDoor
open Go.RowKit

theorem refFrame_any (t : Int) (w : World) : Calls Tryd.prog 30 #[.int .i64 t] w fun e w' => e = .returned (.int .i64 (frameV t)) ∧ w = w' := by
  obtain ⟨b0, b1, -⟩ := tmod_bd t
  have H := Lib.hid (frame_doc t)
  obtain ⟨r, hr⟩ : ∃ r, t.tmod 69888 = r := ⟨_, rfl⟩
  rw [hr] at b0 b1 H
  go_enter Tryd.func30, Tryd.ntmps30
  go_wp2_with fail
  go_ret
  exact ⟨by rw [H.out]; rfl, rfl⟩
theorem slow_any (a : Int) (b : Bool) (w : World) (hb : slowB a = b) : Calls Tryd.prog 74 #[.int .u16 a] w fun e w' => e = .returned (.bool b) ∧ w = w' := by
  unfold slowB at hb
  by_cases h2 : 16384 ≤ a
  · by_cases h3 : a ≤ 32767
    · rw [decide_eq_true (And.intro h2 h3)] at hb
      subst hb
      go_enter Tryd.func74, Tryd.ntmps74
      go_wp2_with fail
      go_ret
      exact ⟨rfl, rfl⟩
    · rw [decide_eq_false (fun e => h3 e.2)] at hb
      subst hb
      go_enter Tryd.func74, Tryd.ntmps74
      go_wp2_with fail
      go_ret
      exact ⟨rfl, rfl⟩
  · rw [decide_eq_false (fun e => h2 e.1)] at hb
    subst hb
    go_enter Tryd.func74, Tryd.ntmps74
    go_wp2_with fail
    go_ret
    exact ⟨rfl, rfl⟩
theorem refSlow_any (a : Int) (b : Bool) (w : World) (h0 : 0 ≤ a) (h1 : a ≤ 65535) (hb : slowB a = b) : Calls Tryd.prog 69 #[.int .u16 a] w fun e w' => e = .returned (.bool b) ∧ w = w' := by
  have H := Lib.hid (slow_doc a)
  have HB := Lib.hid hb
  clear hb
  go_enter Tryd.func69, Tryd.ntmps69
  go_wp2_with fail
  go_ret
  exact ⟨by rw [← HB.out, H.out]; rfl, rfl⟩
set_option maxHeartbeats 400000 in
theorem refPixels_no (l c : Int) (w : World) (h : cellB l c = false) : Calls Tryd.prog 65 #[.int .i64 l, .int .i64 c] w fun e w' => e = .returned (.tuple #[.int .u16 0, .bool false]) ∧ w = w' := by
  have h' := cellB_no h
  clear h
  by_cases h0 : l < 0
  · have f0 : decide (l < 0) = true := decide_eq_true h0
    clear h'
    go_enter Tryd.func65, Tryd.ntmps65
    go_wp2_with fail
    go_ret2
    exact ⟨rfl, rfl⟩
  by_cases h1 : 191 < l
  · have f1 : decide (191 < l) = true := decide_eq_true h1
    clear h'
    go_enter Tryd.func65, Tryd.ntmps65
    go_wp2_with fail
    go_ret2
    exact ⟨rfl, rfl⟩
  by_cases h2 : c < 0
  · have f2 : decide (c < 0) = true := decide_eq_true h2
    clear h'
    go_enter Tryd.func65, Tryd.ntmps65
    go_wp2_with fail
    go_ret2
    exact ⟨rfl, rfl⟩
  have h3 : 31 < c := by omega
  clear h'
  go_enter Tryd.func65, Tryd.ntmps65
  go_wp2_with fail
  go_ret2
  exact ⟨rfl, rfl⟩
set_option maxHeartbeats 400000 in
theorem refPixels_yes (l c r : Int) (w : World) (h : cellB l c = true) (hr : pixV l c = r) : Calls Tryd.prog 65 #[.int .i64 l, .int .i64 c] w fun e w' => e = .returned (.tuple #[.int .u16 r, .bool true]) ∧ w = w' := by
  obtain ⟨h0, h1, h2, h3⟩ := cellB_of h
  have HR := Lib.hid hr
  clear h hr
  go_enter Tryd.func65, Tryd.ntmps65
  go_wp2_with fail
  go_ret2
  exact ⟨by rw [← HR.out]; rfl, rfl⟩
set_option maxHeartbeats 400000 in
theorem refColours_no (l c : Int) (w : World) (h : cellB l c = false) : Calls Tryd.prog 66 #[.int .i64 l, .int .i64 c] w fun e w' => e = .returned (.tuple #[.int .u16 0, .bool false]) ∧ w = w' := by
  have h' := cellB_no h
  clear h
  by_cases h0 : l < 0
  · have f0 : decide (l < 0) = true := decide_eq_true h0
    clear h'
    go_enter Tryd.func66, Tryd.ntmps66
    go_wp2_with fail
    go_ret2
    exact ⟨rfl, rfl⟩
  by_cases h1 : 191 < l
  · have f1 : decide (191 < l) = true := decide_eq_true h1
    clear h'
    go_enter Tryd.func66, Tryd.ntmps66
    go_wp2_with fail
    go_ret2
    exact ⟨rfl, rfl⟩
  by_cases h2 : c < 0
  · have f2 : decide (c < 0) = true := decide_eq_true h2
    clear h'
    go_enter Tryd.func66, Tryd.ntmps66
    go_wp2_with fail
    go_ret2
    exact ⟨rfl, rfl⟩
  have h3 : 31 < c := by omega
  clear h'
  go_enter Tryd.func66, Tryd.ntmps66
  go_wp2_with fail
  go_ret2
  exact ⟨rfl, rfl⟩
set_option maxHeartbeats 400000 in
theorem refColours_yes (l c r : Int) (w : World) (h : cellB l c = true) (hr : colV l c = r) : Calls Tryd.prog 66 #[.int .i64 l, .int .i64 c] w fun e w' => e = .returned (.tuple #[.int .u16 r, .bool true]) ∧ w = w' := by
  obtain ⟨h0, h1, h2, h3⟩ := cellB_of h
  have HR := Lib.hid (show 22528 + 32 * (l / 8) + c = r by rw [← hr]; unfold colV; omega)
  clear h hr
  go_enter Tryd.func66, Tryd.ntmps66
  go_wp2_with fail
  go_ret2
  exact ⟨by rw [← HR.out]; rfl, rfl⟩
set_option maxHeartbeats 800000 in
theorem refFetched_no (t : Int) (w : World) (h : fetB (frameV t - 14338) = false) : Calls Tryd.prog 54 #[.int .i64 t] w fun e w' => e = .returned (.tuple #[.int .u16 0, .int .i64 0, .bool false]) ∧ w = w' := by
  obtain ⟨b0, b1⟩ := frameV_bd t
  have HG := Lib.hid (fun w => refFrame_any t w)
  obtain ⟨T, hT'⟩ : ∃ T, frameV t = T := ⟨_, rfl⟩
  rw [hT'] at b0 b1 HG h
  clear hT'
  have hh := of_decide_eq_false h
  clear h
  by_cases h : T - 14338 < 0
  · have f : decide (T - 14338 < 0) = true := decide_eq_true h
    clear hh
    go_enter Tryd.func54, Tryd.ntmps54
    go_wp2_with fail
    refine (HG.out _).mono ?_
    rintro e w' ⟨rfl, rfl⟩
    go_wp2_with fail
    go_ret3
    exact ⟨rfl, rfl⟩
  by_cases h1 : 43008 ≤ T - 14338
  · have f : decide (43008 ≤ T - 14338) = true := decide_eq_true h1
    clear hh
    go_enter Tryd.func54, Tryd.ntmps54
    go_wp2_with fail
    refine (HG.out _).mono ?_
    rintro e w' ⟨rfl, rfl⟩
    go_wp2_with fail
    go_ret3
    exact ⟨rfl, rfl⟩
  by_cases h2 : 128 ≤ (T - 14338) % 224
  · clear hh
    go_enter Tryd.func54, Tryd.ntmps54
    go_wp2_with fail
    refine (HG.out _).mono ?_
    rintro e w' ⟨rfl, rfl⟩
    go_wp2_with fail
    go_ret3
    exact ⟨rfl, rfl⟩
  have h3 : 4 ≤ (T - 14338) % 8 := by omega
  clear hh
  go_enter Tryd.func54, Tryd.ntmps54
  go_wp2_with fail
  refine (HG.out _).mono ?_
  rintro e w' ⟨rfl, rfl⟩
  go_wp2_with fail
  go_ret3
  exact ⟨rfl, rfl⟩
set_option maxHeartbeats 800000 in
theorem refFetched_yes (t : Int) (w : World) (h : fetB (frameV t - 14338) = true) : Calls Tryd.prog 54 #[.int .i64 t] w fun e w' => e = .returned (.tuple #[.int .u16 (adrV (frameV t - 14338)), .int .i64 (plcV (frameV t - 14338)), .bool true]) ∧ w = w' := by
  obtain ⟨b0, b1⟩ := frameV_bd t
  have HG := Lib.hid (fun w => refFrame_any t w)
  obtain ⟨T, hT'⟩ : ∃ T, frameV t = T := ⟨_, rfl⟩
  rw [hT'] at b0 b1 HG h ⊢
  clear hT'
  obtain ⟨h0, h1, h2, h3⟩ := fetB_of h
  have HC := Lib.hid (show cellB ((T - 14338) / 224) ((T - 14338) % 224 / 8 * 2 + (T - 14338) % 8 / 2) = true by
    have := fet_cell h
    unfold fetC at this
    rwa [show (T - 14338) % 224 / 8 * 2 = 2 * ((T - 14338) % 224 / 8) by omega])
  have h4 : T - 14338 < 43008 := by omega
  clear h h1
  by_cases o : (T - 14338) % 2 = 1
  · have HA := Lib.hid (show colV ((T - 14338) / 224) ((T - 14338) % 224 / 8 * 2 + (T - 14338) % 8 / 2) = adrV (T - 14338) by
      unfold adrV fetC; rw [if_pos o, show (T - 14338) % 224 / 8 * 2 = 2 * ((T - 14338) % 224 / 8) by omega])
    have HP := Lib.hid (show 64 * ((T - 14338) / 224) + 2 * ((T - 14338) % 224 / 8 * 2 + (T - 14338) % 8 / 2) + 1 = plcV (T - 14338) by unfold plcV fetC; omega)
    have f : ((T - 14338) % 2 == 0) = false := by simp; omega
    clear o
    go_enter Tryd.func54, Tryd.ntmps54
    go_wp2_with fail
    refine (HG.out _).mono ?_
    rintro e w' ⟨rfl, rfl⟩
    go_wp2_with fail
    refine (refColours_yes _ _ _ _ HC.out HA.out).mono ?_
    rintro e w' ⟨rfl, rfl⟩
    go_wp2_with fail
    go_ret3
    exact ⟨by rw [← HP.out]; rfl, rfl⟩
  · have HA := Lib.hid (show pixV ((T - 14338) / 224) ((T - 14338) % 224 / 8 * 2 + (T - 14338) % 8 / 2) = adrV (T - 14338) by
      unfold adrV fetC; rw [if_neg o, show (T - 14338) % 224 / 8 * 2 = 2 * ((T - 14338) % 224 / 8) by omega])
    have HP := Lib.hid (show 64 * ((T - 14338) / 224) + 2 * ((T - 14338) % 224 / 8 * 2 + (T - 14338) % 8 / 2) = plcV (T - 14338) by unfold plcV fetC; omega)
    have f : ((T - 14338) % 2 == 0) = true := by simp; omega
    clear o
    go_enter Tryd.func54, Tryd.ntmps54
    go_wp2_with fail
    refine (HG.out _).mono ?_
    rintro e w' ⟨rfl, rfl⟩
    go_wp2_with fail
    refine (refPixels_yes _ _ _ _ HC.out HA.out).mono ?_
    rintro e w' ⟨rfl, rfl⟩
    go_wp2_with fail
    go_ret3
    exact ⟨by rw [← HP.out]; rfl, rfl⟩
/-- The table of how long the processor is held. -/
def Waits (w : World) : Prop := ∀ n : Int, w.cell? ⟨0, (n % 8).toNat, none⟩ = some (.int .i64 (heldV n))
theorem onB_of {n : Int} {b : Bool} (h : onB n = b) : Hid (onB n = b) := Lib.hid h
set_option maxHeartbeats 400000 in
theorem wait_any (t : Int) (w : World) (hT : Waits w) : Calls Tryd.prog 64 #[.int .i64 t] w fun e w' => e = .returned (.int .i64 (waitV (frameV t))) ∧ w = w' := by
  obtain ⟨b0, b1⟩ := frameV_bd t
  have HG := Lib.hid (fun w => frame_any t w)
  obtain ⟨T, hT'⟩ : ∃ T, frameV t = T := ⟨_, rfl⟩
  rw [hT'] at b0 b1 HG ⊢
  clear hT'
  by_cases h : 14335 ≤ T
  · have c := hT (T - 14335)
    clear hT
    cases hb : onB (T - 14335) with
    | true =>
      have HB := Lib.hid hb
      have HR := Lib.hid (waitV_yes h hb)
      clear hb
      obtain ⟨r, hr⟩ : ∃ r, heldV (T - 14335) = r := ⟨_, rfl⟩
      rw [hr] at c HR
      clear hr
      go_enter Tryd.func64, Tryd.ntmps64
      go_wp2_with fail
      refine (HG.out _).mono ?_
      rintro e w' ⟨rfl, rfl⟩
      go_wp2_with fail
      refine (busy_any _ true _ (by omega) (by omega) HB.out).mono ?_
      rintro e w' ⟨rfl, rfl⟩
      go_wp2_with fail
      go_ret
      exact ⟨by rw [HR.out]; rfl, rfl⟩
    | false =>
      have HB := Lib.hid hb
      have HR := Lib.hid (waitV_no (T := T) (by rw [hb]; simp))
      clear hb c
      go_enter Tryd.func64, Tryd.ntmps64
      go_wp2_with fail
      refine (HG.out _).mono ?_
      rintro e w' ⟨rfl, rfl⟩
      go_wp2_with fail
      refine (busy_any _ false _ (by omega) (by omega) HB.out).mono ?_
      rintro e w' ⟨rfl, rfl⟩
      go_wp2_with fail
      go_ret
      exact ⟨by rw [HR.out]; rfl, rfl⟩
  · have HR := Lib.hid (waitV_no (T := T) (fun e => h e.1))
    clear hT
    go_enter Tryd.func64, Tryd.ntmps64
    go_wp2_with fail
    refine (HG.out _).mono ?_
    rintro e w' ⟨rfl, rfl⟩
    go_wp2_with fail
    refine (busy_neg _ _ (by omega)).mono ?_
    rintro e w' ⟨rfl, rfl⟩
    go_wp2_with fail
    go_ret
    exact ⟨by rw [HR.out]; rfl, rfl⟩
theorem waitIs (t r : Int) (w : World) (hT : Waits w) (h : waitV (frameV t) = r) : Calls Tryd.prog 64 #[.int .i64 t] w fun e w' => e = .returned (.int .i64 r) ∧ w = w' := by
  subst h; exact wait_any t w hT
theorem onB_yes {n : Int} (h : onB n = true) : n / 224 < 192 ∧ n % 224 < 128 := of_decide_eq_true h
theorem onB_no {n : Int} (h : onB n = false) : 192 ≤ n / 224 ∨ 128 ≤ n % 224 := by
  have := of_decide_eq_false h
  omega
set_option maxHeartbeats 800000 in
theorem refWait_any (t : Int) (w : World) : Calls Tryd.prog 70 #[.int .i64 t] w fun e w' => e = .returned (.int .i64 (waitV (frameV t))) ∧ w = w' := by
  obtain ⟨b0, b1⟩ := frameV_bd t
  have HG := Lib.hid (fun w => refFrame_any t w)
  obtain ⟨T, hT'⟩ : ∃ T, frameV t = T := ⟨_, rfl⟩
  rw [hT'] at b0 b1 HG ⊢
  clear hT'
  by_cases h : 14335 ≤ T
  · cases hb : onB (T - 14335) with
    | true =>
      have HR := Lib.hid (waitV_yes h hb)
      obtain ⟨k1, k2⟩ := onB_yes hb
      have k3 : T - 14335 < 43008 := by omega
      clear hb k1
      by_cases k4 : (T - 14335) % 8 ≤ 6
      · have HV := Lib.hid (show heldV (T - 14335) = 6 - (T - 14335) % 8 by unfold heldV; rw [if_pos k4])
        go_enter Tryd.func70, Tryd.ntmps70
        go_wp2_with fail
        refine (HG.out _).mono ?_
        rintro e w' ⟨rfl, rfl⟩
        go_wp2_with fail
        go_ret
        exact ⟨by rw [HR.out, HV.out]; rfl, rfl⟩
      · have HV := Lib.hid (show heldV (T - 14335) = 0 by unfold heldV; rw [if_neg k4])
        go_enter Tryd.func70, Tryd.ntmps70
        go_wp2_with fail
        refine (HG.out _).mono ?_
        rintro e w' ⟨rfl, rfl⟩
        go_wp2_with fail
        go_ret
        exact ⟨by rw [HR.out, HV.out]; rfl, rfl⟩
    | false =>
      have HR := Lib.hid (waitV_no (T := T) (by rw [hb]; simp))
      have k := onB_no hb
      clear hb
      by_cases k3 : T - 14335 < 43008
      · have k2 : 128 ≤ (T - 14335) % 224 := by omega
        clear k
        go_enter Tryd.func70, Tryd.ntmps70
        go_wp2_with fail
        refine (HG.out _).mono ?_
        rintro e w' ⟨rfl, rfl⟩
        go_wp2_with fail
        go_ret
        exact ⟨by rw [HR.out]; rfl, rfl⟩
      · clear k
        go_enter Tryd.func70, Tryd.ntmps70
        go_wp2_with fail
        refine (HG.out _).mono ?_
        rintro e w' ⟨rfl, rfl⟩
        go_wp2_with fail
        go_ret
        exact ⟨by rw [HR.out]; rfl, rfl⟩
  · have HR := Lib.hid (waitV_no (T := T) (fun e => h e.1))
    have f : decide (T - 14335 < 0) = true := decide_eq_true (by omega)
    go_enter Tryd.func70, Tryd.ntmps70
    go_wp2_with fail
    refine (HG.out _).mono ?_
    rintro e w' ⟨rfl, rfl⟩
    go_wp2_with fail
    go_ret
    exact ⟨by rw [HR.out]; rfl, rfl⟩
theorem refWaitIs (t r : Int) (w : World) (h : waitV (frameV t) = r) : Calls Tryd.prog 70 #[.int .i64 t] w fun e w' => e = .returned (.int .i64 r) ∧ w = w' := by
  subst h; exact refWait_any t w
/-- Ahead of the T-state k of a cycle of a kind, at an address that is the circuit's (s) or isn't, odd (o) or even. -/
def heldB (kind : Int) (s o : Bool) (k : Int) : Bool :=
  decide (((kind = 0 ∨ kind = 1 ∨ kind = 2) ∧ s = true ∧ k = 0) ∨ (kind = 4 ∧ s = true) ∨ (kind = 3 ∧ ((o = true ∧ s = true) ∨ (o = false ∧ (k = 1 ∨ (s = true ∧ k = 0))))))
def holdV (kind a k t : Int) : Int := if heldB kind (slowB a) (a % 2 == 1) k = true then waitV (frameV t) else 0
set_option maxHeartbeats 800000 in
theorem heldAtPort_any (a k : Int) (s o b : Bool) (w : World) (h0 : 0 ≤ a) (h1 : a ≤ 65535) (hs : slowB a = s) (ho : (a % 2 == 1) = o) (hb : ((o && s) || (!o && (decide (k = 1) || (s && decide (k = 0))))) = b) :
    Calls Tryd.prog 75 #[.int .u16 a, .int .i64 k] w fun e w' => e = .returned (.bool b) ∧ w = w' := by
  have HS := Lib.hid hs
  clear hs
  cases o with
  | true =>
    obtain rfl : s = b := by simpa using hb
    clear hb
    go_enter Tryd.func75, Tryd.ntmps75
    go_wp2_with fail
    refine (slow_any _ _ _ HS.out).mono ?_
    rintro e w' ⟨rfl, rfl⟩
    go_wp2_with fail
    go_ret
    exact ⟨rfl, rfl⟩
  | false =>
    by_cases k1 : k = 1
    · subst k1
      obtain rfl : true = b := by simpa using hb
      clear hb
      go_enter Tryd.func75, Tryd.ntmps75
      go_wp2_with fail
      go_ret
      exact ⟨rfl, rfl⟩
    have f1 : (k == 1) = false := by simpa using k1
    cases s with
    | false =>
      obtain rfl : false = b := by simpa [k1] using hb
      clear hb k1
      go_enter Tryd.func75, Tryd.ntmps75
      go_wp2_with fail
      refine (slow_any _ _ _ HS.out).mono ?_
      rintro e w' ⟨rfl, rfl⟩
      go_wp2_with fail
      go_ret
      exact ⟨rfl, rfl⟩
    | true =>
      by_cases k0 : k = 0
      · subst k0
        obtain rfl : true = b := by simpa using hb
        clear hb k1
        go_enter Tryd.func75, Tryd.ntmps75
        go_wp2_with fail
        refine (slow_any _ _ _ HS.out).mono ?_
        rintro e w' ⟨rfl, rfl⟩
        go_wp2_with fail
        go_ret
        exact ⟨rfl, rfl⟩
      · have f0 : (k == 0) = false := by simpa using k0
        obtain rfl : false = b := by simpa [k1, k0] using hb
        clear hb k1 k0
        go_enter Tryd.func75, Tryd.ntmps75
        go_wp2_with fail
        refine (slow_any _ _ _ HS.out).mono ?_
        rintro e w' ⟨rfl, rfl⟩
        go_wp2_with fail
        go_ret
        exact ⟨rfl, rfl⟩
set_option maxHeartbeats 800000 in
theorem held_any (kind a k : Int) (s o b : Bool) (w : World) (h0 : 0 ≤ a) (h1 : a ≤ 65535) (hs : slowB a = s) (ho : (a % 2 == 1) = o) (hb : heldB kind s o k = b) :
    Calls Tryd.prog 63 #[.int .i64 kind, .int .u16 a, .int .i64 k] w fun e w' => e = .returned (.bool b) ∧ w = w' := by
  have HS := Lib.hid hs
  have HO := Lib.hid ho
  clear hs ho
  unfold heldB at hb
  by_cases q3 : kind = 3
  · subst q3
    have HB := Lib.hid (show ((o && s) || (!o && (decide (k = 1) || (s && decide (k = 0))))) = b by
      rw [← hb]
      cases o <;> cases s <;> simp)
    clear hb
    go_enter Tryd.func63, Tryd.ntmps63
    go_wp2_with fail
    refine (heldAtPort_any _ _ _ _ _ _ h0 h1 HS.out HO.out HB.out).mono ?_
    rintro e w' ⟨rfl, rfl⟩
    go_wp2_with fail
    go_ret
    exact ⟨rfl, rfl⟩
  by_cases q4 : kind = 4
  · subst q4
    obtain rfl : s = b := by rw [← hb]; simp
    clear hb q3 HO
    go_enter Tryd.func63, Tryd.ntmps63
    go_wp2_with fail
    refine (slow_any _ _ _ HS.out).mono ?_
    rintro e w' ⟨rfl, rfl⟩
    go_wp2_with fail
    go_ret
    exact ⟨rfl, rfl⟩
  by_cases q : kind = 0 ∨ kind = 1 ∨ kind = 2
  · by_cases k0 : k = 0
    · subst k0
      obtain rfl : s = b := by rw [← hb]; simp [q, q3, q4]
      clear hb q3 q4 HO
      cases s <;> rcases q with rfl | rfl | rfl
      all_goals
        go_enter Tryd.func63, Tryd.ntmps63
        go_wp2_with fail
        refine (slow_any _ _ _ HS.out).mono ?_
        rintro e w' ⟨rfl, rfl⟩
        go_wp2_with fail
        go_ret
        exact ⟨rfl, rfl⟩
    · have f0 : (k == 0) = false := by simpa using k0
      obtain rfl : false = b := by rw [← hb]; simp [q3, q4, k0]
      clear hb q3 q4 k0 HO
      cases s <;> rcases q with rfl | rfl | rfl
      all_goals
        go_enter Tryd.func63, Tryd.ntmps63
        go_wp2_with fail
        refine (slow_any _ _ _ HS.out).mono ?_
        rintro e w' ⟨rfl, rfl⟩
        go_wp2_with fail
        go_ret
        exact ⟨rfl, rfl⟩
  · obtain rfl : false = b := by rw [← hb]; simp [q3, q4, q]
    have f0 : (kind == 0) = false := by simpa using fun e => q (Or.inl e)
    have f1 : (kind == 1) = false := by simpa using fun e => q (Or.inr (Or.inl e))
    have f2 : (kind == 2) = false := by simpa using fun e => q (Or.inr (Or.inr e))
    have f3 : (kind == 3) = false := by simpa using q3
    have f4 : (kind == 4) = false := by simpa using q4
    clear hb q3 q4 q HO HS
    go_enter Tryd.func63, Tryd.ntmps63
    go_wp2_with fail
    go_ret
    exact ⟨rfl, rfl⟩
set_option maxHeartbeats 800000 in
theorem hold_any (kind a k t : Int) (w : World) (h0 : 0 ≤ a) (h1 : a ≤ 65535) (hT : Waits w) :
    Calls Tryd.prog 49 #[.int .i64 kind, .int .u16 a, .int .i64 k, .int .i64 t] w fun e w' => e = .returned (.int .i64 (holdV kind a k t)) ∧ w = w' := by
  have HT := Lib.hid hT
  clear hT
  cases hb : heldB kind (slowB a) (a % 2 == 1) k with
  | true =>
    have HV := Lib.hid (show holdV kind a k t = waitV (frameV t) by unfold holdV; rw [if_pos hb])
    have HB := Lib.hid hb
    clear hb
    go_enter Tryd.func49, Tryd.ntmps49
    go_wp2_with fail
    refine (held_any _ _ _ _ _ true _ h0 h1 rfl rfl HB.out).mono ?_
    rintro e w' ⟨rfl, rfl⟩
    go_wp2_with fail
    refine (wait_any _ _ HT.out).mono ?_
    rintro e w' ⟨rfl, rfl⟩
    go_wp2_with fail
    go_ret
    exact ⟨by rw [HV.out]; rfl, rfl⟩
  | false =>
    have HV := Lib.hid (show holdV kind a k t = 0 by unfold holdV; rw [if_neg (by rw [hb]; simp)])
    have HB := Lib.hid hb
    clear hb
    go_enter Tryd.func49, Tryd.ntmps49
    go_wp2_with fail
    refine (held_any _ _ _ _ _ false _ h0 h1 rfl rfl HB.out).mono ?_
    rintro e w' ⟨rfl, rfl⟩
    go_wp2_with fail
    go_ret
    exact ⟨by rw [HV.out]; rfl, rfl⟩
set_option maxHeartbeats 3200000 in
theorem refHold_at (kind a k t : Int) (s o : Bool) (r : Int) (w : World) (h0 : 0 ≤ a) (h1 : a ≤ 65535) (hs : slowB a = s) (ho : (a % 2 == 0) = !o) (hr : (if heldB kind s o k = true then waitV (frameV t) else 0) = r) :
    Calls Tryd.prog 60 #[.int .i64 kind, .int .u16 a, .int .i64 k, .int .i64 t] w fun e w' => e = .returned (.int .i64 r) ∧ w = w' := by
  have HS := Lib.hid hs
  clear hs
  unfold heldB at hr
  by_cases q3 : kind = 3
  · subst q3
    by_cases k0 : k = 0
    · subst k0
      cases s <;> cases o <;> simp at hr ho
      all_goals
        have HR := Lib.hid hr
        clear hr
        go_enter Tryd.func60, Tryd.ntmps60
        go_wp2_with fail
        refine (refSlow_any _ _ _ h0 h1 HS.out).mono ?_
        rintro e w' ⟨rfl, rfl⟩
        first
          | (go_wp2_with fail; go_ret; exact ⟨by rw [← HR.out]; rfl, rfl⟩)
          | (go_wp2_with fail; refine (refWaitIs _ _ _ HR.out).mono ?_; rintro e w' ⟨rfl, rfl⟩; go_wp2_with fail; go_ret; exact ⟨rfl, rfl⟩)
    by_cases k1 : k = 1
    · subst k1
      cases s <;> cases o <;> simp at hr ho
      all_goals
        have HR := Lib.hid hr
        clear hr
        go_enter Tryd.func60, Tryd.ntmps60
        go_wp2_with fail
        refine (refSlow_any _ _ _ h0 h1 HS.out).mono ?_
        rintro e w' ⟨rfl, rfl⟩
        first
          | (go_wp2_with fail; go_ret; exact ⟨by rw [← HR.out]; rfl, rfl⟩)
          | (go_wp2_with fail; refine (refWaitIs _ _ _ HR.out).mono ?_; rintro e w' ⟨rfl, rfl⟩; go_wp2_with fail; go_ret; exact ⟨rfl, rfl⟩)
    · have f0 : (k == 0) = false := by simpa using k0
      have f1 : (k == 1) = false := by simpa using k1
      cases s <;> cases o <;> simp [k0, k1] at hr ho
      all_goals
        clear k0 k1
        have HR := Lib.hid hr
        clear hr
        go_enter Tryd.func60, Tryd.ntmps60
        go_wp2_with fail
        refine (refSlow_any _ _ _ h0 h1 HS.out).mono ?_
        rintro e w' ⟨rfl, rfl⟩
        first
          | (go_wp2_with fail; go_ret; exact ⟨by rw [← HR.out]; rfl, rfl⟩)
          | (go_wp2_with fail; refine (refWaitIs _ _ _ HR.out).mono ?_; rintro e w' ⟨rfl, rfl⟩; go_wp2_with fail; go_ret; exact ⟨rfl, rfl⟩)
  by_cases q4 : kind = 4
  · subst q4
    clear q3
    cases s <;> simp at hr
    all_goals
      have HR := Lib.hid hr
      clear hr
      go_enter Tryd.func60, Tryd.ntmps60
      go_wp2_with fail
      refine (refSlow_any _ _ _ h0 h1 HS.out).mono ?_
      rintro e w' ⟨rfl, rfl⟩
      first
        | (go_wp2_with fail; go_ret; exact ⟨by rw [← HR.out]; rfl, rfl⟩)
        | (go_wp2_with fail; refine (refWaitIs _ _ _ HR.out).mono ?_; rintro e w' ⟨rfl, rfl⟩; go_wp2_with fail; go_ret; exact ⟨rfl, rfl⟩)
  by_cases q : kind = 0 ∨ kind = 1 ∨ kind = 2
  · by_cases k0 : k = 0
    · subst k0
      clear q3 q4
      cases s <;> rcases q with rfl | rfl | rfl <;> simp at hr
      all_goals
        have HR := Lib.hid hr
        clear hr
        go_enter Tryd.func60, Tryd.ntmps60
        go_wp2_with fail
        refine (refSlow_any _ _ _ h0 h1 HS.out).mono ?_
        rintro e w' ⟨rfl, rfl⟩
        first
          | (go_wp2_with fail; go_ret; exact ⟨by rw [← HR.out]; rfl, rfl⟩)
          | (go_wp2_with fail; refine (refWaitIs _ _ _ HR.out).mono ?_; rintro e w' ⟨rfl, rfl⟩; go_wp2_with fail; go_ret; exact ⟨rfl, rfl⟩)
    · have f0 : (k == 0) = false := by simpa using k0
      clear q3 q4
      cases s <;> rcases q with rfl | rfl | rfl <;> simp [k0] at hr
      all_goals
        clear k0
        have HR := Lib.hid hr
        clear hr
        go_enter Tryd.func60, Tryd.ntmps60
        go_wp2_with fail
        refine (refSlow_any _ _ _ h0 h1 HS.out).mono ?_
        rintro e w' ⟨rfl, rfl⟩
        first
          | (go_wp2_with fail; go_ret; exact ⟨by rw [← HR.out]; rfl, rfl⟩)
          | (go_wp2_with fail; refine (refWaitIs _ _ _ HR.out).mono ?_; rintro e w' ⟨rfl, rfl⟩; go_wp2_with fail; go_ret; exact ⟨rfl, rfl⟩)
  · have g : kind < 0 ∨ 2 < kind := by omega
    have f3 : (kind == 3) = false := by simpa using q3
    have f4 : (kind == 4) = false := by simpa using q4
    simp [q3, q4, show ¬ kind = 0 from fun e => q (Or.inl e), show ¬ kind = 1 from fun e => q (Or.inr (Or.inl e)), show ¬ kind = 2 from fun e => q (Or.inr (Or.inr e))] at hr
    clear q3 q4 q
    rcases g with g | g
    · have f0 : decide (0 ≤ kind) = false := decide_eq_false (by omega)
      have HR := Lib.hid hr
      clear hr
      go_enter Tryd.func60, Tryd.ntmps60
      go_wp2_with fail
      refine (refSlow_any _ _ _ h0 h1 HS.out).mono ?_
      rintro e w' ⟨rfl, rfl⟩
      first
        | (go_wp2_with fail; go_ret; exact ⟨by rw [← HR.out]; rfl, rfl⟩)
        | (go_wp2_with fail; refine (refWaitIs _ _ _ HR.out).mono ?_; rintro e w' ⟨rfl, rfl⟩; go_wp2_with fail; go_ret; exact ⟨rfl, rfl⟩)
    · have f0 : decide (kind ≤ 2) = false := decide_eq_false (by omega)
      have HR := Lib.hid hr
      clear hr
      go_enter Tryd.func60, Tryd.ntmps60
      go_wp2_with fail
      refine (refSlow_any _ _ _ h0 h1 HS.out).mono ?_
      rintro e w' ⟨rfl, rfl⟩
      first
        | (go_wp2_with fail; go_ret; exact ⟨by rw [← HR.out]; rfl, rfl⟩)
        | (go_wp2_with fail; refine (refWaitIs _ _ _ HR.out).mono ?_; rintro e w' ⟨rfl, rfl⟩; go_wp2_with fail; go_ret; exact ⟨rfl, rfl⟩)
theorem even_odd (a : Int) : (a % 2 == 0) = !(a % 2 == 1) := by
  have h : a % 2 = 0 ∨ a % 2 = 1 := by omega
  rcases h with h | h <;> rw [h] <;> rfl
theorem refHold_any (kind a k t : Int) (w : World) (h0 : 0 ≤ a) (h1 : a ≤ 65535) :
    Calls Tryd.prog 60 #[.int .i64 kind, .int .u16 a, .int .i64 k, .int .i64 t] w fun e w' => e = .returned (.int .i64 (holdV kind a k t)) ∧ w = w' :=
  refHold_at kind a k t _ _ _ w h0 h1 rfl (even_odd a) rfl
set_option maxHeartbeats 400000 in
theorem asks_any (t : Int) (w : World) : Calls Tryd.prog 50 #[.int .i64 t] w fun e w' => e = .returned (.bool (decide (frameV t < 32))) ∧ w = w' := by
  go_enter Tryd.func50, Tryd.ntmps50
  go_wp2_with fail
  refine (frame_any _ _).mono ?_
  rintro e w' ⟨rfl, rfl⟩
  go_wp2_with fail
  go_ret
  exact ⟨rfl, rfl⟩
theorem Waits.below {w w' : World} (h : Waits w) (hb : Below w.heap.size w w') : Waits w' := fun n =>
  (hb.cell (p := ⟨_, (n % 8).toNat, none⟩) (World.block_lt_of_cell? w _ (h n))).trans (h n)

end Go.Proofs.YtkcfacbnbjkheaaDoor
