/- The contracts of layer 9's calls: the time, the line and the place, what is slow, and which cell there is. -/
import Derived.Test.YtmjhipabciaonaaDoorUlaMath
import Derived.Test.YtmjhipabciaonaaDoorKit
import Derived.Test.YtmjhipabciaonaaDoorProg
import Derived.Lib.Hide
import Derived.Below
namespace Go.Proofs.YtmjhipabciaonaaDoor
open Go.RowKit

set_option maxHeartbeats 400000 in
theorem frame_any (t : Int) (w : World) : Calls Tryd.prog 8 #[.int .i64 t] w fun e w' => e = .returned (.int .i64 (frameV t)) ∧ w = w' := by
  obtain ⟨b0, b1, -⟩ := tmod_bd t
  obtain ⟨r, hr⟩ : ∃ r, t.tmod 69888 = r := ⟨_, rfl⟩
  rw [hr] at b0 b1
  by_cases h : r < 0
  · have H := Lib.hid (frame_down hr h)
    go_enter Tryd.func8, Tryd.ntmps8
    go_wp2_with fail
    go_ret
    exact ⟨by rw [H.out]; rfl, rfl⟩
  · have H := Lib.hid (frame_up hr (by omega))
    go_enter Tryd.func8, Tryd.ntmps8
    go_wp2_with fail
    go_ret
    exact ⟨by rw [H.out]; rfl, rfl⟩
theorem refFrame_any (t : Int) (w : World) : Calls Tryd.prog 9 #[.int .i64 t] w fun e w' => e = .returned (.int .i64 (frameV t)) ∧ w = w' := by
  obtain ⟨b0, b1, -⟩ := tmod_bd t
  have H := Lib.hid (frame_doc t)
  obtain ⟨r, hr⟩ : ∃ r, t.tmod 69888 = r := ⟨_, rfl⟩
  rw [hr] at b0 b1 H
  go_enter Tryd.func9, Tryd.ntmps9
  go_wp2_with fail
  go_ret
  exact ⟨by rw [H.out]; rfl, rfl⟩

theorem busy_neg (n : Int) (w : World) (h : n < 0) : Calls Tryd.prog 25 #[.int .i64 n] w fun e w' => e = .returned (.tuple #[.int .i64 0, .int .i64 0, .bool false]) ∧ w = w' := by
  go_enter Tryd.func25, Tryd.ntmps25
  go_wp2_with fail
  go_ret3
  exact ⟨rfl, rfl⟩
theorem busy_any (n : Int) (b : Bool) (w : World) (h0 : 0 ≤ n) (h1 : n < 70000) (hb : onB n = b) : Calls Tryd.prog 25 #[.int .i64 n] w fun e w' => e = .returned (.tuple #[.int .i64 (n / 224), .int .i64 (n % 224), .bool b]) ∧ w = w' := by
  unfold onB at hb
  by_cases h2 : n / 224 < 192
  · by_cases h3 : n % 224 < 128
    · rw [decide_eq_true (And.intro h2 h3)] at hb
      subst hb
      go_enter Tryd.func25, Tryd.ntmps25
      go_wp2_with fail
      go_ret3
      exact ⟨rfl, rfl⟩
    · rw [decide_eq_false (fun e => h3 e.2)] at hb
      subst hb
      go_enter Tryd.func25, Tryd.ntmps25
      go_wp2_with fail
      go_ret3
      exact ⟨rfl, rfl⟩
  · rw [decide_eq_false (fun e => h2 e.1)] at hb
    subst hb
    go_enter Tryd.func25, Tryd.ntmps25
    go_wp2_with fail
    go_ret3
    exact ⟨rfl, rfl⟩

theorem slow_any (a : Int) (b : Bool) (w : World) (hb : slowB a = b) : Calls Tryd.prog 12 #[.int .u16 a] w fun e w' => e = .returned (.bool b) ∧ w = w' := by
  unfold slowB at hb
  by_cases h2 : 16384 ≤ a
  · by_cases h3 : a ≤ 32767
    · rw [decide_eq_true (And.intro h2 h3)] at hb
      subst hb
      go_enter Tryd.func12, Tryd.ntmps12
      go_wp2_with fail
      go_ret
      exact ⟨rfl, rfl⟩
    · rw [decide_eq_false (fun e => h3 e.2)] at hb
      subst hb
      go_enter Tryd.func12, Tryd.ntmps12
      go_wp2_with fail
      go_ret
      exact ⟨rfl, rfl⟩
  · rw [decide_eq_false (fun e => h2 e.1)] at hb
    subst hb
    go_enter Tryd.func12, Tryd.ntmps12
    go_wp2_with fail
    go_ret
    exact ⟨rfl, rfl⟩
theorem refSlow_any (a : Int) (b : Bool) (w : World) (h0 : 0 ≤ a) (h1 : a ≤ 65535) (hb : slowB a = b) : Calls Tryd.prog 13 #[.int .u16 a] w fun e w' => e = .returned (.bool b) ∧ w = w' := by
  have H := Lib.hid (slow_doc a)
  have HB := Lib.hid hb
  clear hb
  go_enter Tryd.func13, Tryd.ntmps13
  go_wp2_with fail
  go_ret
  exact ⟨by rw [← HB.out, H.out]; rfl, rfl⟩

theorem onScreen_any (l c : Int) (b : Bool) (w : World) (hb : cellB l c = b) : Calls Tryd.prog 27 #[.int .i64 l, .int .i64 c] w fun e w' => e = .returned (.bool b) ∧ w = w' := by
  unfold cellB at hb
  by_cases h0 : 0 ≤ l
  · by_cases h1 : l < 192
    · by_cases h2 : 0 ≤ c
      · by_cases h3 : c < 32
        · rw [decide_eq_true ⟨h0, h1, h2, h3⟩] at hb
          subst hb
          go_enter Tryd.func27, Tryd.ntmps27
          go_wp2_with fail
          go_ret
          exact ⟨rfl, rfl⟩
        · rw [decide_eq_false (fun e => h3 e.2.2.2)] at hb
          subst hb
          go_enter Tryd.func27, Tryd.ntmps27
          go_wp2_with fail
          go_ret
          exact ⟨rfl, rfl⟩
      · rw [decide_eq_false (fun e => h2 e.2.2.1)] at hb
        subst hb
        go_enter Tryd.func27, Tryd.ntmps27
        go_wp2_with fail
        go_ret
        exact ⟨rfl, rfl⟩
    · rw [decide_eq_false (fun e => h1 e.2.1)] at hb
      subst hb
      go_enter Tryd.func27, Tryd.ntmps27
      go_wp2_with fail
      go_ret
      exact ⟨rfl, rfl⟩
  · rw [decide_eq_false (fun e => h0 e.1)] at hb
    subst hb
    go_enter Tryd.func27, Tryd.ntmps27
    go_wp2_with fail
    go_ret
    exact ⟨rfl, rfl⟩

end Go.Proofs.YtmjhipabciaonaaDoor
