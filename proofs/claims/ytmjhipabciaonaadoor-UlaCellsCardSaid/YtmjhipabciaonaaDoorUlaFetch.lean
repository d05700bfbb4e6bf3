/- The contracts of layer 9's calls: what is fetched. -/
import Derived.Test.YtmjhipabciaonaaDoorUlaCells
namespace Go.Proofs.YtmjhipabciaonaaDoor
open Go.RowKit

set_option maxHeartbeats 800000 in
theorem fetchAt_no (t : Int) (w : World) (h : fetB (frameV t - 14338) = false) : Calls Tryd.prog 28 #[.int .i64 t] w fun e w' => e = .returned (.tuple #[.agg #[.int .i64 0, .int .i64 0, .bool false], .bool false]) ∧ Below w.heap.size w w' := by
  obtain ⟨b0, b1⟩ := frameV_bd t
  have HG := Lib.hid (fun w => frame_any t w)
  obtain ⟨T, hT'⟩ : ∃ T, frameV t = T := ⟨_, rfl⟩
  rw [hT'] at b0 b1 HG h
  clear hT'
  have hh := of_decide_eq_false h
  clear h
  by_cases h : 14338 ≤ T
  · cases hb : onB (T - 14338) with
    | true =>
      have HB := Lib.hid hb
      have k := of_decide_eq_true hb
      have k2 : 4 ≤ (T - 14338) % 8 := by omega
      clear hb k hh
      go_enter Tryd.func28, Tryd.ntmps28
      go_wp2_with fail
      refine (HG.out _).mono ?_
      rintro e w' ⟨rfl, rfl⟩
      go_wp2_with fail
      refine (busy_any _ true _ (by omega) (by omega) HB.out).mono ?_
      rintro e w' ⟨rfl, rfl⟩
      go_wp2_with fail
      exact bodyPost_ret (v := .tuple #[.agg #[.int .i64 0, .int .i64 0, .bool false], .bool false]) (by simp [results, Tryd.results28, go_sem]) rfl ⟨rfl, (Below.refl _ _).alloc (Nat.le_refl _) _⟩
    | false =>
      have HB := Lib.hid hb
      clear hb hh
      go_enter Tryd.func28, Tryd.ntmps28
      go_wp2_with fail
      refine (HG.out _).mono ?_
      rintro e w' ⟨rfl, rfl⟩
      go_wp2_with fail
      refine (busy_any _ false _ (by omega) (by omega) HB.out).mono ?_
      rintro e w' ⟨rfl, rfl⟩
      go_wp2_with fail
      exact bodyPost_ret (v := .tuple #[.agg #[.int .i64 0, .int .i64 0, .bool false], .bool false]) (by simp [results, Tryd.results28, go_sem]) rfl ⟨rfl, (Below.refl _ _).alloc (Nat.le_refl _) _⟩
  · clear hh
    go_enter Tryd.func28, Tryd.ntmps28
    go_wp2_with fail
    refine (HG.out _).mono ?_
    rintro e w' ⟨rfl, rfl⟩
    go_wp2_with fail
    refine (busy_neg _ _ (by omega)).mono ?_
    rintro e w' ⟨rfl, rfl⟩
    go_wp2_with fail
    exact bodyPost_ret (v := .tuple #[.agg #[.int .i64 0, .int .i64 0, .bool false], .bool false]) (by simp [results, Tryd.results28, go_sem]) rfl ⟨rfl, (Below.refl _ _).alloc (Nat.le_refl _) _⟩
set_option maxHeartbeats 800000 in
theorem fetchAt_yes (t : Int) (w : World) (h : fetB (frameV t - 14338) = true) : Calls Tryd.prog 28 #[.int .i64 t] w fun e w' => e = .returned (.tuple #[.agg #[.int .i64 ((frameV t - 14338) / 224), .int .i64 (fetC (frameV t - 14338)), .bool ((frameV t - 14338) % 2 == 1)], .bool true]) ∧ Below w.heap.size w w' := by
  obtain ⟨b0, b1⟩ := frameV_bd t
  have HG := Lib.hid (fun w => frame_any t w)
  obtain ⟨T, hT'⟩ : ∃ T, frameV t = T := ⟨_, rfl⟩
  rw [hT'] at b0 b1 HG h ⊢
  clear hT'
  obtain ⟨h0, h1, h2, h3⟩ := of_decide_eq_true h
  have HB := Lib.hid (show onB (T - 14338) = true from decide_eq_true ⟨h1, h2⟩)
  clear h
  go_enter Tryd.func28, Tryd.ntmps28
  go_wp2_with fail
  refine (HG.out _).mono ?_
  rintro e w' ⟨rfl, rfl⟩
  go_wp2_with fail
  refine (busy_any _ true _ (by omega) (by omega) HB.out).mono ?_
  rintro e w' ⟨rfl, rfl⟩
  go_wp2_with fail
  exact bodyPost_ret (v := .tuple #[.agg #[.int .i64 ((T - 14338) / 224), .int .i64 (2 * ((T - 14338) % 224 / 8) + (T - 14338) % 8 / 2), .bool ((T - 14338) % 2 == 1)], .bool true]) (by simp [results, Tryd.results28, go_sem]) rfl ⟨rfl, (Below.refl _ _).alloc (Nat.le_refl _) _⟩

/-- The address that is fetched, and where its byte stands in a picture. -/
def adrV (n : Int) : Int := if n % 2 = 1 then colV (n / 224) (fetC n) else pixV (n / 224) (fetC n)
def plcV (n : Int) : Int := 64 * (n / 224) + 2 * fetC n + n % 2
theorem fetB_of {n : Int} (h : fetB n = true) : 0 ≤ n ∧ n / 224 < 192 ∧ n % 224 < 128 ∧ n % 8 < 4 := of_decide_eq_true h
theorem fet_cell {n : Int} (h : fetB n = true) : cellB (n / 224) (fetC n) = true := by
  obtain ⟨h0, h1, h2, h3⟩ := fetB_of h
  unfold cellB fetC
  exact decide_eq_true (by omega)

set_option maxHeartbeats 800000 in
theorem fetched_no (t : Int) (w : World) (h : fetB (frameV t - 14338) = false) : Calls Tryd.prog 22 #[.int .i64 t] w fun e w' => e = .returned (.tuple #[.int .u16 0, .bool false]) ∧ Below w.heap.size w w' := by
  have HF := Lib.hid h
  clear h
  go_enter Tryd.func22, Tryd.ntmps22
  go_wp2_with fail
  refine (fetchAt_no _ _ HF.out).mono ?_
  rintro e w1 ⟨rfl, hb1⟩
  go_wp2_with fail
  go_ret2
  exact ⟨rfl, hb1.alloc hb1.size _⟩
theorem fetched_at (t l c : Int) (o : Bool) (r : Int) (w : World) (hC : cellB l c = true) (hr : (if o = true then colV l c else pixV l c) = r)
    (HF : Hid (∀ w, Calls Tryd.prog 28 #[.int .i64 t] w fun e w' => e = .returned (.tuple #[.agg #[.int .i64 l, .int .i64 c, .bool o], .bool true]) ∧ Below w.heap.size w w')) :
    Calls Tryd.prog 22 #[.int .i64 t] w fun e w' => e = .returned (.tuple #[.int .u16 r, .bool true]) ∧ Below w.heap.size w w' := by
  have HC := Lib.hid hC
  have HR := Lib.hid hr
  clear hC hr
  cases o with
  | true =>
    go_enter Tryd.func22, Tryd.ntmps22
    go_wp2_with fail
    refine (HF.out _).mono ?_
    rintro e w1 ⟨rfl, hb1⟩
    go_wp2_with fail
    refine (colours_yes _ _ _ _ HC.out HR.out).mono ?_
    rintro e w' ⟨rfl, rfl⟩
    go_wp2_with fail
    go_ret2
    exact ⟨rfl, hb1.alloc hb1.size _⟩
  | false =>
    go_enter Tryd.func22, Tryd.ntmps22
    go_wp2_with fail
    refine (HF.out _).mono ?_
    rintro e w1 ⟨rfl, hb1⟩
    go_wp2_with fail
    refine (pixels_yes _ _ _ _ HC.out HR.out).mono ?_
    rintro e w' ⟨rfl, rfl⟩
    go_wp2_with fail
    go_ret2
    exact ⟨rfl, hb1.alloc hb1.size _⟩
theorem fetched_yes (t : Int) (w : World) (h : fetB (frameV t - 14338) = true) : Calls Tryd.prog 22 #[.int .i64 t] w fun e w' => e = .returned (.tuple #[.int .u16 (adrV (frameV t - 14338)), .bool true]) ∧ Below w.heap.size w w' :=
  fetched_at t _ _ _ _ w (fet_cell h) (by unfold adrV; simp only [beq_iff_eq]) (Lib.hid fun w => fetchAt_yes t w h)

set_option maxHeartbeats 800000 in
theorem place_no (t : Int) (w : World) (h : fetB (frameV t - 14338) = false) : Calls Tryd.prog 23 #[.int .i64 t] w fun e w' => e = .returned (.tuple #[.int .i64 0, .bool false]) ∧ Below w.heap.size w w' := by
  have HF := Lib.hid h
  clear h
  go_enter Tryd.func23, Tryd.ntmps23
  go_wp2_with fail
  refine (fetchAt_no _ _ HF.out).mono ?_
  rintro e w1 ⟨rfl, hb1⟩
  go_wp2_with fail
  go_ret2
  exact ⟨rfl, hb1.alloc hb1.size _⟩
theorem place_at (t l c : Int) (o : Bool) (r : Int) (w : World) (hC : cellB l c = true) (hr : 64 * l + 2 * c + (if o = true then 1 else 0) = r)
    (HF : Hid (∀ w, Calls Tryd.prog 28 #[.int .i64 t] w fun e w' => e = .returned (.tuple #[.agg #[.int .i64 l, .int .i64 c, .bool o], .bool true]) ∧ Below w.heap.size w w')) :
    Calls Tryd.prog 23 #[.int .i64 t] w fun e w' => e = .returned (.tuple #[.int .i64 r, .bool true]) ∧ Below w.heap.size w w' := by
  obtain ⟨h0, h1, h2, h3⟩ := cellB_of hC
  clear hC
  cases o with
  | true =>
    have HR := Lib.hid (show l * 2 * 32 + 2 * c + 1 = r by rw [← hr, if_pos rfl]; omega)
    clear hr
    go_enter Tryd.func23, Tryd.ntmps23
    go_wp2_with fail
    refine (HF.out _).mono ?_
    rintro e w1 ⟨rfl, hb1⟩
    go_wp2_with fail
    go_ret2
    exact ⟨by rw [← HR.out]; rfl, hb1.alloc hb1.size _⟩
  | false =>
    have HR := Lib.hid (show l * 2 * 32 + 2 * c = r by rw [← hr, if_neg (by decide)]; omega)
    clear hr
    go_enter Tryd.func23, Tryd.ntmps23
    go_wp2_with fail
    refine (HF.out _).mono ?_
    rintro e w1 ⟨rfl, hb1⟩
    go_wp2_with fail
    go_ret2
    exact ⟨by rw [← HR.out]; rfl, hb1.alloc hb1.size _⟩
theorem place_yes (t : Int) (w : World) (h : fetB (frameV t - 14338) = true) : Calls Tryd.prog 23 #[.int .i64 t] w fun e w' => e = .returned (.tuple #[.int .i64 (plcV (frameV t - 14338)), .bool true]) ∧ Below w.heap.size w w' :=
  place_at t _ _ _ _ w (fet_cell h) (by unfold plcV; simp only [beq_iff_eq]; split <;> omega) (Lib.hid fun w => fetchAt_yes t w h)

set_option maxHeartbeats 800000 in
theorem refFetched_no (t : Int) (w : World) (h : fetB (frameV t - 14338) = false) : Calls Tryd.prog 24 #[.int .i64 t] w fun e w' => e = .returned (.tuple #[.int .u16 0, .int .i64 0, .bool false]) ∧ w = w' := by
  obtain ⟨b0, b1⟩ := frameV_bd t
  have HG := Lib.hid (fun w => refFrame_any t w)
  obtain ⟨T, hT'⟩ : ∃ T, frameV t = T := ⟨_, rfl⟩
  rw [hT'] at b0 b1 HG h
  clear hT'
  have hh := of_decide_eq_false h
  clear h
  by_cases h : T - 14338 < 0
  · have f : decide (T - 14338 < 0) = true := decide_eq_true h
    clear hh
    go_enter Tryd.func24, Tryd.ntmps24
    go_wp2_with fail
    refine (HG.out _).mono ?_
    rintro e w' ⟨rfl, rfl⟩
    go_wp2_with fail
    go_ret3
    exact ⟨rfl, rfl⟩
  by_cases h1 : 43008 ≤ T - 14338
  · have f : decide (43008 ≤ T - 14338) = true := decide_eq_true h1
    clear hh
    go_enter Tryd.func24, Tryd.ntmps24
    go_wp2_with fail
    refine (HG.out _).mono ?_
    rintro e w' ⟨rfl, rfl⟩
    go_wp2_with fail
    go_ret3
    exact ⟨rfl, rfl⟩
  by_cases h2 : 128 ≤ (T - 14338) % 224
  · clear hh
    go_enter Tryd.func24, Tryd.ntmps24
    go_wp2_with fail
    refine (HG.out _).mono ?_
    rintro e w' ⟨rfl, rfl⟩
    go_wp2_with fail
    go_ret3
    exact ⟨rfl, rfl⟩
  have h3 : 4 ≤ (T - 14338) % 8 := by omega
  clear hh
  go_enter Tryd.func24, Tryd.ntmps24
  go_wp2_with fail
  refine (HG.out _).mono ?_
  rintro e w' ⟨rfl, rfl⟩
  go_wp2_with fail
  go_ret3
  exact ⟨rfl, rfl⟩
set_option maxHeartbeats 800000 in
theorem refFetched_yes (t : Int) (w : World) (h : fetB (frameV t - 14338) = true) : Calls Tryd.prog 24 #[.int .i64 t] w fun e w' => e = .returned (.tuple #[.int .u16 (adrV (frameV t - 14338)), .int .i64 (plcV (frameV t - 14338)), .bool true]) ∧ w = w' := by
  obtain ⟨b0, b1⟩ := frameV_bd t
  have HG := Lib.hid (fun w => refFrame_any t w)
  obtain ⟨T, hT'⟩ : ∃ T, frameV t = T := ⟨_, rfl⟩
  rw [hT'] at b0 b1 HG h ⊢
  clear hT'
  obtain ⟨h0, h1, h2, h3⟩ := fetB_of h
  have HC := Lib.hid (show cellB ((T - 14338) / 224) ((T - 14338) % 224 / 8 * 2 + (T - 14338) % 8 / 2) = true by
    have := fet_cell h
    unfold fetC at this
    rwa [show (T - 14338) % 224 / 8 * 2 = 2 * ((T - 14338) % 224 / 8) by omega])
  have h4 : T - 14338 < 43008 := by omega
  clear h h1
  by_cases o : (T - 14338) % 2 = 1
  · have HA := Lib.hid (show colV ((T - 14338) / 224) ((T - 14338) % 224 / 8 * 2 + (T - 14338) % 8 / 2) = adrV (T - 14338) by
      unfold adrV fetC; rw [if_pos o, show (T - 14338) % 224 / 8 * 2 = 2 * ((T - 14338) % 224 / 8) by omega])
    have HP := Lib.hid (show 64 * ((T - 14338) / 224) + 2 * ((T - 14338) % 224 / 8 * 2 + (T - 14338) % 8 / 2) + 1 = plcV (T - 14338) by unfold plcV fetC; omega)
    have f : ((T - 14338) % 2 == 0) = false := by simp; omega
    clear o
    go_enter Tryd.func24, Tryd.ntmps24
    go_wp2_with fail
    refine (HG.out _).mono ?_
    rintro e w' ⟨rfl, rfl⟩
    go_wp2_with fail
    refine (refColours_yes _ _ _ _ HC.out HA.out).mono ?_
    rintro e w' ⟨rfl, rfl⟩
    go_wp2_with fail
    go_ret3
    exact ⟨by rw [← HP.out]; rfl, rfl⟩
  · have HA := Lib.hid (show pixV ((T - 14338) / 224) ((T - 14338) % 224 / 8 * 2 + (T - 14338) % 8 / 2) = adrV (T - 14338) by
      unfold adrV fetC; rw [if_neg o, show (T - 14338) % 224 / 8 * 2 = 2 * ((T - 14338) % 224 / 8) by omega])
    have HP := Lib.hid (show 64 * ((T - 14338) / 224) + 2 * ((T - 14338) % 224 / 8 * 2 + (T - 14338) % 8 / 2) = plcV (T - 14338) by unfold plcV fetC; omega)
    have f : ((T - 14338) % 2 == 0) = true := by simp; omega
    clear o
    go_enter Tryd.func24, Tryd.ntmps24
    go_wp2_with fail
    refine (HG.out _).mono ?_
    rintro e w' ⟨rfl, rfl⟩
    go_wp2_with fail
    refine (refPixels_yes _ _ _ _ HC.out HA.out).mono ?_
    rintro e w' ⟨rfl, rfl⟩
    go_wp2_with fail
    go_ret3
    exact ⟨by rw [← HP.out]; rfl, rfl⟩

end Go.Proofs.YtmjhipabciaonaaDoor
