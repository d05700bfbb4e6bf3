/- The contracts of layer 9's calls: a cell's addresses. -/
import Derived.Test.YtmjhipabciaonaaDoorUlaWalk
namespace Go.Proofs.YtmjhipabciaonaaDoor
open Go.RowKit

theorem cellB_of {l c : Int} (h : cellB l c = true) : 0 ≤ l ∧ l < 192 ∧ 0 ≤ c ∧ c < 32 := of_decide_eq_true h
theorem pixels_no (l c : Int) (w : World) (h : cellB l c = false) : Calls Tryd.prog 18 #[.int .i64 l, .int .i64 c] w fun e w' => e = .returned (.tuple #[.int .u16 0, .bool false]) ∧ w = w' := by
  have H := Lib.hid h
  clear h
  go_enter Tryd.func18, Tryd.ntmps18
  go_wp2_with fail
  refine (onScreen_any _ _ false _ H.out).mono ?_
  rintro e w' ⟨rfl, rfl⟩
  go_wp2_with fail
  go_ret2
  exact ⟨rfl, rfl⟩
set_option maxHeartbeats 400000 in
theorem pixels_yes (l c r : Int) (w : World) (h : cellB l c = true) (hr : pixV l c = r) : Calls Tryd.prog 18 #[.int .i64 l, .int .i64 c] w fun e w' => e = .returned (.tuple #[.int .u16 r, .bool true]) ∧ w = w' := by
  have H := Lib.hid h
  obtain ⟨h0, h1, h2, h3⟩ := cellB_of h
  have HP := Lib.hid (pix_bits l c h0 h1 h2 h3)
  have HW := Lib.hid (pix_wrap l c h0 h1 h2 h3)
  have HR := Lib.hid hr
  have e1 := low3 l h0 h1
  have e2 := low3 (l / 8) (by omega) (by omega)
  clear h hr
  go_enter Tryd.func18, Tryd.ntmps18
  go_wp2_with fail
  refine (onScreen_any _ _ true _ H.out).mono ?_
  rintro e w' ⟨rfl, rfl⟩
  go_wp2_with fail
  go_ret2
  exact ⟨by rw [← HR.out, ← HW.out, ← HP.out]; rfl, rfl⟩
theorem colours_no (l c : Int) (w : World) (h : cellB l c = false) : Calls Tryd.prog 19 #[.int .i64 l, .int .i64 c] w fun e w' => e = .returned (.tuple #[.int .u16 0, .bool false]) ∧ w = w' := by
  have H := Lib.hid h
  clear h
  go_enter Tryd.func19, Tryd.ntmps19
  go_wp2_with fail
  refine (onScreen_any _ _ false _ H.out).mono ?_
  rintro e w' ⟨rfl, rfl⟩
  go_wp2_with fail
  go_ret2
  exact ⟨rfl, rfl⟩
set_option maxHeartbeats 400000 in
theorem colours_yes (l c r : Int) (w : World) (h : cellB l c = true) (hr : colV l c = r) : Calls Tryd.prog 19 #[.int .i64 l, .int .i64 c] w fun e w' => e = .returned (.tuple #[.int .u16 r, .bool true]) ∧ w = w' := by
  have H := Lib.hid h
  obtain ⟨h0, h1, h2, h3⟩ := cellB_of h
  have HR := Lib.hid hr
  clear h hr
  go_enter Tryd.func19, Tryd.ntmps19
  go_wp2_with fail
  refine (onScreen_any _ _ true _ H.out).mono ?_
  rintro e w' ⟨rfl, rfl⟩
  go_wp2_with fail
  go_ret2
  exact ⟨by rw [← HR.out]; rfl, rfl⟩

theorem cellB_no {l c : Int} (h : cellB l c = false) : l < 0 ∨ 191 < l ∨ c < 0 ∨ 31 < c := by
  have := of_decide_eq_false h
  omega
set_option maxHeartbeats 400000 in
theorem refPixels_no (l c : Int) (w : World) (h : cellB l c = false) : Calls Tryd.prog 20 #[.int .i64 l, .int .i64 c] w fun e w' => e = .returned (.tuple #[.int .u16 0, .bool false]) ∧ w = w' := by
  have h' := cellB_no h
  clear h
  by_cases h0 : l < 0
  · have f0 : decide (l < 0) = true := decide_eq_true h0
    clear h'
    go_enter Tryd.func20, Tryd.ntmps20
    go_wp2_with fail
    go_ret2
    exact ⟨rfl, rfl⟩
  by_cases h1 : 191 < l
  · have f1 : decide (191 < l) = true := decide_eq_true h1
    clear h'
    go_enter Tryd.func20, Tryd.ntmps20
    go_wp2_with fail
    go_ret2
    exact ⟨rfl, rfl⟩
  by_cases h2 : c < 0
  · have f2 : decide (c < 0) = true := decide_eq_true h2
    clear h'
    go_enter Tryd.func20, Tryd.ntmps20
    go_wp2_with fail
    go_ret2
    exact ⟨rfl, rfl⟩
  have h3 : 31 < c := by omega
  clear h'
  go_enter Tryd.func20, Tryd.ntmps20
  go_wp2_with fail
  go_ret2
  exact ⟨rfl, rfl⟩
set_option maxHeartbeats 400000 in
theorem refPixels_yes (l c r : Int) (w : World) (h : cellB l c = true) (hr : pixV l c = r) : Calls Tryd.prog 20 #[.int .i64 l, .int .i64 c] w fun e w' => e = .returned (.tuple #[.int .u16 r, .bool true]) ∧ w = w' := by
  obtain ⟨h0, h1, h2, h3⟩ := cellB_of h
  have HR := Lib.hid hr
  clear h hr
  go_enter Tryd.func20, Tryd.ntmps20
  go_wp2_with fail
  go_ret2
  exact ⟨by rw [← HR.out]; rfl, rfl⟩
set_option maxHeartbeats 400000 in
theorem refColours_no (l c : Int) (w : World) (h : cellB l c = false) : Calls Tryd.prog 21 #[.int .i64 l, .int .i64 c] w fun e w' => e = .returned (.tuple #[.int .u16 0, .bool false]) ∧ w = w' := by
  have h' := cellB_no h
  clear h
  by_cases h0 : l < 0
  · have f0 : decide (l < 0) = true := decide_eq_true h0
    clear h'
    go_enter Tryd.func21, Tryd.ntmps21
    go_wp2_with fail
    go_ret2
    exact ⟨rfl, rfl⟩
  by_cases h1 : 191 < l
  · have f1 : decide (191 < l) = true := decide_eq_true h1
    clear h'
    go_enter Tryd.func21, Tryd.ntmps21
    go_wp2_with fail
    go_ret2
    exact ⟨rfl, rfl⟩
  by_cases h2 : c < 0
  · have f2 : decide (c < 0) = true := decide_eq_true h2
    clear h'
    go_enter Tryd.func21, Tryd.ntmps21
    go_wp2_with fail
    go_ret2
    exact ⟨rfl, rfl⟩
  have h3 : 31 < c := by omega
  clear h'
  go_enter Tryd.func21, Tryd.ntmps21
  go_wp2_with fail
  go_ret2
  exact ⟨rfl, rfl⟩
set_option maxHeartbeats 400000 in
theorem refColours_yes (l c r : Int) (w : World) (h : cellB l c = true) (hr : colV l c = r) : Calls Tryd.prog 21 #[.int .i64 l, .int .i64 c] w fun e w' => e = .returned (.tuple #[.int .u16 r, .bool true]) ∧ w = w' := by
  obtain ⟨h0, h1, h2, h3⟩ := cellB_of h
  have HR := Lib.hid (show 22528 + 32 * (l / 8) + c = r by rw [← hr]; unfold colV; omega)
  clear h hr
  go_enter Tryd.func21, Tryd.ntmps21
  go_wp2_with fail
  go_ret2
  exact ⟨by rw [← HR.out]; rfl, rfl⟩

end Go.Proofs.YtmjhipabciaonaaDoor
