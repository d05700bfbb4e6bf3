/- The contracts of layer 9's calls that a board makes at each time: the frame's time, and what is fetched. -/
import Derived.Test.YtkcfacbnbjkheaaDoorUlaMath
import Derived.Test.YtkcfacbnbjkheaaDoorKit
import Derived.Test.YtkcfacbnbjkheaaDoorProg
import Derived.Lib.Hide
import Derived.Below
namespace Go.Proofs.YtkcfacbnbjkheaaDoor
open Go.RowKit

set_option maxHeartbeats 400000 in
theorem frame_any (t : Int) (w : World) : Calls Tryd.prog 29 #[.int .i64 t] w fun e w' => e = .returned (.int .i64 (frameV t)) ∧ w = w' := by
  obtain ⟨b0, b1, -⟩ := tmod_bd t
  obtain ⟨r, hr⟩ : ∃ r, t.tmod 69888 = r := ⟨_, rfl⟩
  rw [hr] at b0 b1
  by_cases h : r < 0
  · have H := Lib.hid (frame_down hr h)
    go_enter Tryd.func29, Tryd.ntmps29
    go_wp2_with fail
    go_ret
    exact ⟨by rw [H.out]; rfl, rfl⟩
  · have H := Lib.hid (frame_up hr (by omega))
    go_enter Tryd.func29, Tryd.ntmps29
    go_wp2_with fail
    go_ret
    exact ⟨by rw [H.out]; rfl, rfl⟩
theorem busy_neg (n : Int) (w : World) (h : n < 0) : Calls Tryd.prog 71 #[.int .i64 n] w fun e w' => e = .returned (.tuple #[.int .i64 0, .int .i64 0, .bool false]) ∧ w = w' := by
  go_enter Tryd.func71, Tryd.ntmps71
  go_wp2_with fail
  go_ret3
  exact ⟨rfl, rfl⟩
theorem busy_any (n : Int) (b : Bool) (w : World) (h0 : 0 ≤ n) (h1 : n < 70000) (hb : onB n = b) : Calls Tryd.prog 71 #[.int .i64 n] w fun e w' => e = .returned (.tuple #[.int .i64 (n / 224), .int .i64 (n % 224), .bool b]) ∧ w = w' := by
  unfold onB at hb
  by_cases h2 : n / 224 < 192
  · by_cases h3 : n % 224 < 128
    · rw [decide_eq_true (And.intro h2 h3)] at hb
      subst hb
      go_enter Tryd.func71, Tryd.ntmps71
      go_wp2_with fail
      go_ret3
      exact ⟨rfl, rfl⟩
    · rw [decide_eq_false (fun e => h3 e.2)] at hb
      subst hb
      go_enter Tryd.func71, Tryd.ntmps71
      go_wp2_with fail
      go_ret3
      exact ⟨rfl, rfl⟩
  · rw [decide_eq_false (fun e => h2 e.1)] at hb
    subst hb
    go_enter Tryd.func71, Tryd.ntmps71
    go_wp2_with fail
    go_ret3
    exact ⟨rfl, rfl⟩
theorem onScreen_any (l c : Int) (b : Bool) (w : World) (hb : cellB l c = b) : Calls Tryd.prog 76 #[.int .i64 l, .int .i64 c] w fun e w' => e = .returned (.bool b) ∧ w = w' := by
  unfold cellB at hb
  by_cases h0 : 0 ≤ l
  · by_cases h1 : l < 192
    · by_cases h2 : 0 ≤ c
      · by_cases h3 : c < 32
        · rw [decide_eq_true ⟨h0, h1, h2, h3⟩] at hb
          subst hb
          go_enter Tryd.func76, Tryd.ntmps76
          go_wp2_with fail
          go_ret
          exact ⟨rfl, rfl⟩
        · rw [decide_eq_false (fun e => h3 e.2.2.2)] at hb
          subst hb
          go_enter Tryd.func76, Tryd.ntmps76
          go_wp2_with fail
          go_ret
          exact ⟨rfl, rfl⟩
      · rw [decide_eq_false (fun e => h2 e.2.2.1)] at hb
        subst hb
        go_enter Tryd.func76, Tryd.ntmps76
        go_wp2_with fail
        go_ret
        exact ⟨rfl, rfl⟩
    · rw [decide_eq_false (fun e => h1 e.2.1)] at hb
      subst hb
      go_enter Tryd.func76, Tryd.ntmps76
      go_wp2_with fail
      go_ret
      exact ⟨rfl, rfl⟩
  · rw [decide_eq_false (fun e => h0 e.1)] at hb
    subst hb
    go_enter Tryd.func76, Tryd.ntmps76
    go_wp2_with fail
    go_ret
    exact ⟨rfl, rfl⟩
theorem cellB_of {l c : Int} (h : cellB l c = true) : 0 ≤ l ∧ l < 192 ∧ 0 ≤ c ∧ c < 32 := of_decide_eq_true h
theorem pixels_no (l c : Int) (w : World) (h : cellB l c = false) : Calls Tryd.prog 73 #[.int .i64 l, .int .i64 c] w fun e w' => e = .returned (.tuple #[.int .u16 0, .bool false]) ∧ w = w' := by
  have H := Lib.hid h
  clear h
  go_enter Tryd.func73, Tryd.ntmps73
  go_wp2_with fail
  refine (onScreen_any _ _ false _ H.out).mono ?_
  rintro e w' ⟨rfl, rfl⟩
  go_wp2_with fail
  go_ret2
  exact ⟨rfl, rfl⟩
set_option maxHeartbeats 400000 in
theorem pixels_yes (l c r : Int) (w : World) (h : cellB l c = true) (hr : pixV l c = r) : Calls Tryd.prog 73 #[.int .i64 l, .int .i64 c] w fun e w' => e = .returned (.tuple #[.int .u16 r, .bool true]) ∧ w = w' := by
  have H := Lib.hid h
  obtain ⟨h0, h1, h2, h3⟩ := cellB_of h
  have HP := Lib.hid (pix_bits l c h0 h1 h2 h3)
  have HW := Lib.hid (pix_wrap l c h0 h1 h2 h3)
  have HR := Lib.hid hr
  have e1 := low3 l h0 h1
  have e2 := low3 (l / 8) (by omega) (by omega)
  clear h hr
  go_enter Tryd.func73, Tryd.ntmps73
  go_wp2_with fail
  refine (onScreen_any _ _ true _ H.out).mono ?_
  rintro e w' ⟨rfl, rfl⟩
  go_wp2_with fail
  go_ret2
  exact ⟨by rw [← HR.out, ← HW.out, ← HP.out]; rfl, rfl⟩
theorem colours_no (l c : Int) (w : World) (h : cellB l c = false) : Calls Tryd.prog 72 #[.int .i64 l, .int .i64 c] w fun e w' => e = .returned (.tuple #[.int .u16 0, .bool false]) ∧ w = w' := by
  have H := Lib.hid h
  clear h
  go_enter Tryd.func72, Tryd.ntmps72
  go_wp2_with fail
  refine (onScreen_any _ _ false _ H.out).mono ?_
  rintro e w' ⟨rfl, rfl⟩
  go_wp2_with fail
  go_ret2
  exact ⟨rfl, rfl⟩
set_option maxHeartbeats 400000 in
theorem colours_yes (l c r : Int) (w : World) (h : cellB l c = true) (hr : colV l c = r) : Calls Tryd.prog 72 #[.int .i64 l, .int .i64 c] w fun e w' => e = .returned (.tuple #[.int .u16 r, .bool true]) ∧ w = w' := by
  have H := Lib.hid h
  obtain ⟨h0, h1, h2, h3⟩ := cellB_of h
  have HR := Lib.hid hr
  clear h hr
  go_enter Tryd.func72, Tryd.ntmps72
  go_wp2_with fail
  refine (onScreen_any _ _ true _ H.out).mono ?_
  rintro e w' ⟨rfl, rfl⟩
  go_wp2_with fail
  go_ret2
  exact ⟨by rw [← HR.out]; rfl, rfl⟩
theorem cellB_no {l c : Int} (h : cellB l c = false) : l < 0 ∨ 191 < l ∨ c < 0 ∨ 31 < c := by
  have := of_decide_eq_false h
  omega
set_option maxHeartbeats 800000 in
theorem fetchAt_no (t : Int) (w : World) (h : fetB (frameV t - 14338) = false) : Calls Tryd.prog 61 #[.int .i64 t] w fun e w' => e = .returned (.tuple #[.agg #[.int .i64 0, .int .i64 0, .bool false], .bool false]) ∧ Below w.heap.size w w' := by
  obtain ⟨b0, b1⟩ := frameV_bd t
  have HG := Lib.hid (fun w => frame_any t w)
  obtain ⟨T, hT'⟩ : ∃ T, frameV t = T := ⟨_, rfl⟩
  rw [hT'] at b0 b1 HG h
  clear hT'
  have hh := of_decide_eq_false h
  clear h
  by_cases h : 14338 ≤ T
  · cases hb : onB (T - 14338) with
    | true =>
      have HB := Lib.hid hb
      have k := of_decide_eq_true hb
      have k2 : 4 ≤ (T - 14338) % 8 := by omega
      clear hb k hh
      go_enter Tryd.func61, Tryd.ntmps61
      go_wp2_with fail
      refine (HG.out _).mono ?_
      rintro e w' ⟨rfl, rfl⟩
      go_wp2_with fail
      refine (busy_any _ true _ (by omega) (by omega) HB.out).mono ?_
      rintro e w' ⟨rfl, rfl⟩
      go_wp2_with fail
      exact bodyPost_ret (v := .tuple #[.agg #[.int .i64 0, .int .i64 0, .bool false], .bool false]) (by simp [results, Tryd.results61, go_sem]) rfl ⟨rfl, (Below.refl _ _).alloc (Nat.le_refl _) _⟩
    | false =>
      have HB := Lib.hid hb
      clear hb hh
      go_enter Tryd.func61, Tryd.ntmps61
      go_wp2_with fail
      refine (HG.out _).mono ?_
      rintro e w' ⟨rfl, rfl⟩
      go_wp2_with fail
      refine (busy_any _ false _ (by omega) (by omega) HB.out).mono ?_
      rintro e w' ⟨rfl, rfl⟩
      go_wp2_with fail
      exact bodyPost_ret (v := .tuple #[.agg #[.int .i64 0, .int .i64 0, .bool false], .bool false]) (by simp [results, Tryd.results61, go_sem]) rfl ⟨rfl, (Below.refl _ _).alloc (Nat.le_refl _) _⟩
  · clear hh
    go_enter Tryd.func61, Tryd.ntmps61
    go_wp2_with fail
    refine (HG.out _).mono ?_
    rintro e w' ⟨rfl, rfl⟩
    go_wp2_with fail
    refine (busy_neg _ _ (by omega)).mono ?_
    rintro e w' ⟨rfl, rfl⟩
    go_wp2_with fail
    exact bodyPost_ret (v := .tuple #[.agg #[.int .i64 0, .int .i64 0, .bool false], .bool false]) (by simp [results, Tryd.results61, go_sem]) rfl ⟨rfl, (Below.refl _ _).alloc (Nat.le_refl _) _⟩
set_option maxHeartbeats 800000 in
theorem fetchAt_yes (t : Int) (w : World) (h : fetB (frameV t - 14338) = true) : Calls Tryd.prog 61 #[.int .i64 t] w fun e w' => e = .returned (.tuple #[.agg #[.int .i64 ((frameV t - 14338) / 224), .int .i64 (fetC (frameV t - 14338)), .bool ((frameV t - 14338) % 2 == 1)], .bool true]) ∧ Below w.heap.size w w' := by
  obtain ⟨b0, b1⟩ := frameV_bd t
  have HG := Lib.hid (fun w => frame_any t w)
  obtain ⟨T, hT'⟩ : ∃ T, frameV t = T := ⟨_, rfl⟩
  rw [hT'] at b0 b1 HG h ⊢
  clear hT'
  obtain ⟨h0, h1, h2, h3⟩ := of_decide_eq_true h
  have HB := Lib.hid (show onB (T - 14338) = true from decide_eq_true ⟨h1, h2⟩)
  clear h
  go_enter Tryd.func61, Tryd.ntmps61
  go_wp2_with fail
  refine (HG.out _).mono ?_
  rintro e w' ⟨rfl, rfl⟩
  go_wp2_with fail
  refine (busy_any _ true _ (by omega) (by omega) HB.out).mono ?_
  rintro e w' ⟨rfl, rfl⟩
  go_wp2_with fail
  exact bodyPost_ret (v := .tuple #[.agg #[.int .i64 ((T - 14338) / 224), .int .i64 (2 * ((T - 14338) % 224 / 8) + (T - 14338) % 8 / 2), .bool ((T - 14338) % 2 == 1)], .bool true]) (by simp [results, Tryd.results61, go_sem]) rfl ⟨rfl, (Below.refl _ _).alloc (Nat.le_refl _) _⟩
/-- The address that is fetched, and where its byte stands in a picture. -/
def adrV (n : Int) : Int := if n % 2 = 1 then colV (n / 224) (fetC n) else pixV (n / 224) (fetC n)
def plcV (n : Int) : Int := 64 * (n / 224) + 2 * fetC n + n % 2
theorem fetB_of {n : Int} (h : fetB n = true) : 0 ≤ n ∧ n / 224 < 192 ∧ n % 224 < 128 ∧ n % 8 < 4 := of_decide_eq_true h
theorem fet_cell {n : Int} (h : fetB n = true) : cellB (n / 224) (fetC n) = true := by
  obtain ⟨h0, h1, h2, h3⟩ := fetB_of h
  unfold cellB fetC
  exact decide_eq_true (by omega)
set_option maxHeartbeats 800000 in
theorem fetched_no (t : Int) (w : World) (h : fetB (frameV t - 14338) = false) : Calls Tryd.prog 62 #[.int .i64 t] w fun e w' => e = .returned (.tuple #[.int .u16 0, .bool false]) ∧ Below w.heap.size w w' := by
  have HF := Lib.hid h
  clear h
  go_enter Tryd.func62, Tryd.ntmps62
  go_wp2_with fail
  refine (fetchAt_no _ _ HF.out).mono ?_
  rintro e w1 ⟨rfl, hb1⟩
  go_wp2_with fail
  go_ret2
  exact ⟨rfl, hb1.alloc hb1.size _⟩
theorem fetched_at (t l c : Int) (o : Bool) (r : Int) (w : World) (hC : cellB l c = true) (hr : (if o = true then colV l c else pixV l c) = r)
    (HF : Hid (∀ w, Calls Tryd.prog 61 #[.int .i64 t] w fun e w' => e = .returned (.tuple #[.agg #[.int .i64 l, .int .i64 c, .bool o], .bool true]) ∧ Below w.heap.size w w')) :
    Calls Tryd.prog 62 #[.int .i64 t] w fun e w' => e = .returned (.tuple #[.int .u16 r, .bool true]) ∧ Below w.heap.size w w' := by
  have HC := Lib.hid hC
  have HR := Lib.hid hr
  clear hC hr
  cases o with
  | true =>
    go_enter Tryd.func62, Tryd.ntmps62
    go_wp2_with fail
    refine (HF.out _).mono ?_
    rintro e w1 ⟨rfl, hb1⟩
    go_wp2_with fail
    refine (colours_yes _ _ _ _ HC.out HR.out).mono ?_
    rintro e w' ⟨rfl, rfl⟩
    go_wp2_with fail
    go_ret2
    exact ⟨rfl, hb1.alloc hb1.size _⟩
  | false =>
    go_enter Tryd.func62, Tryd.ntmps62
    go_wp2_with fail
    refine (HF.out _).mono ?_
    rintro e w1 ⟨rfl, hb1⟩
    go_wp2_with fail
    refine (pixels_yes _ _ _ _ HC.out HR.out).mono ?_
    rintro e w' ⟨rfl, rfl⟩
    go_wp2_with fail
    go_ret2
    exact ⟨rfl, hb1.alloc hb1.size _⟩
theorem fetched_yes (t : Int) (w : World) (h : fetB (frameV t - 14338) = true) : Calls Tryd.prog 62 #[.int .i64 t] w fun e w' => e = .returned (.tuple #[.int .u16 (adrV (frameV t - 14338)), .bool true]) ∧ Below w.heap.size w w' :=
  fetched_at t _ _ _ _ w (fet_cell h) (by unfold adrV; simp only [beq_iff_eq]) (Lib.hid fun w => fetchAt_yes t w h)
set_option maxHeartbeats 800000 in
theorem place_no (t : Int) (w : World) (h : fetB (frameV t - 14338) = false) : Calls Tryd.prog 46 #[.int .i64 t] w fun e w' => e = .returned (.tuple #[.int .i64 0, .bool false]) ∧ Below w.heap.size w w' := by
  have HF := Lib.hid h
  clear h
  go_enter Tryd.func46, Tryd.ntmps46
  go_wp2_with fail
  refine (fetchAt_no _ _ HF.out).mono ?_
  rintro e w1 ⟨rfl, hb1⟩
  go_wp2_with fail
  go_ret2
  exact ⟨rfl, hb1.alloc hb1.size _⟩
theorem place_at (t l c : Int) (o : Bool) (r : Int) (w : World) (hC : cellB l c = true) (hr : 64 * l + 2 * c + (if o = true then 1 else 0) = r)
    (HF : Hid (∀ w, Calls Tryd.prog 61 #[.int .i64 t] w fun e w' => e = .returned (.tuple #[.agg #[.int .i64 l, .int .i64 c, .bool o], .bool true]) ∧ Below w.heap.size w w')) :
    Calls Tryd.prog 46 #[.int .i64 t] w fun e w' => e = .returned (.tuple #[.int .i64 r, .bool true]) ∧ Below w.heap.size w w' := by
  obtain ⟨h0, h1, h2, h3⟩ := cellB_of hC
  clear hC
  cases o with
  | true =>
    have HR := Lib.hid (show l * 2 * 32 + 2 * c + 1 = r by rw [← hr, if_pos rfl]; omega)
    clear hr
    go_enter Tryd.func46, Tryd.ntmps46
    go_wp2_with fail
    refine (HF.out _).mono ?_
    rintro e w1 ⟨rfl, hb1⟩
    go_wp2_with fail
    go_ret2
    exact ⟨by rw [← HR.out]; rfl, hb1.alloc hb1.size _⟩
  | false =>
    have HR := Lib.hid (show l * 2 * 32 + 2 * c = r by rw [← hr, if_neg (by decide)]; omega)
    clear hr
    go_enter Tryd.func46, Tryd.ntmps46
    go_wp2_with fail
    refine (HF.out _).mono ?_
    rintro e w1 ⟨rfl, hb1⟩
    go_wp2_with fail
    go_ret2
    exact ⟨by rw [← HR.out]; rfl, hb1.alloc hb1.size _⟩
theorem place_yes (t : Int) (w : World) (h : fetB (frameV t - 14338) = true) : Calls Tryd.prog 46 #[.int .i64 t] w fun e w' => e = .returned (.tuple #[.int .i64 (plcV (frameV t - 14338)), .bool true]) ∧ Below w.heap.size w w' :=
  place_at t _ _ _ _ w (fet_cell h) (by unfold plcV; simp only [beq_iff_eq]; split <;> omega) (Lib.hid fun w => fetchAt_yes t w h)

end Go.Proofs.YtkcfacbnbjkheaaDoor
