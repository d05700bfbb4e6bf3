/- The laws of layer 9, walked. -/
import Derived.Test.YtmjhipabciaonaaDoorUlaHold
import Derived.Test.YtmjhipabciaonaaDoorUlaFetch
import Derived.Deep.QuietTactic
import Derived.BigQuiet
import Derived.Deep.DeepCutAuto
namespace Go.Proofs.YtmjhipabciaonaaDoor
open Go.RowKit

theorem Waits.below {w w' : World} (h : Waits w) (hb : Below w.heap.size w w') : Waits w' := fun n =>
  (hb.cell (p := ⟨_, (n % 8).toNat, none⟩) (World.block_lt_of_cell? w _ (h n))).trans (h n)

set_option maxHeartbeats 800000 in
theorem lives9 (w : World) (hT : Waits w) : Calls Tryd.prog 17 #[] w fun e w' => e = .returned (.bool true) ∧ w = w' := by
  have HT := Lib.hid hT
  have H0 := Lib.hid (show waitV (frameV 14335) = 6 by decide +kernel)
  have H1 := Lib.hid (show waitV (frameV 14341) = 0 by decide +kernel)
  have HC := Lib.hid (show cellB 1 0 = true by decide)
  have HP := Lib.hid (show pixV 1 0 = 16640 by decide)
  clear hT
  go_enter Tryd.func17, Tryd.ntmps17
  go_wp2_with fail
  refine (pixels_yes _ _ _ _ HC.out HP.out).mono ?_
  rintro e w' ⟨rfl, rfl⟩
  go_wp2_with fail
  refine (waitIs _ _ _ HT.out H0.out).mono ?_
  rintro e w' ⟨rfl, rfl⟩
  go_wp2_with fail
  refine (waitIs _ _ _ HT.out H1.out).mono ?_
  rintro e w' ⟨rfl, rfl⟩
  go_wp2_with fail
  go_ret
  exact ⟨rfl, rfl⟩

theorem u16_bd {a : Int} (h : (Lit.int .u16 a).wf = true) : 0 ≤ a ∧ a ≤ 65535 := by
  have := bounds_u16 h
  omega
theorem balloc (w : World) (o : Obj) : Below w.heap.size w (w.alloc o) := (Below.refl _ _).alloc (Nat.le_refl _) _
theorem below_drawn {B : Nat} {w u : World} (h : Below B w u) (n : Nat) : Below B w (u.drewN n) := h.trans ⟨rfl, rfl, rfl, Nat.le_refl _, fun _ _ => rfl⟩
set_option maxHeartbeats 1600000 in
theorem waits_walk (kind a k t : Int) (_ : (Lit.int .i64 kind).wf = true) (ha : (Lit.int .u16 a).wf = true) (w : World) (hT : Waits w) :
    Calls Tryd.prog 3 #[.int .i64 kind, .int .u16 a, .agg #[.int .i64 k, .int .i64 t]] w fun e w' => e = .returned (.bool true) ∧ Below w.heap.size w w' := by
  obtain ⟨a0, a1⟩ := u16_bd ha
  have HT := Lib.hid hT
  have HF := Lib.hid (fun w => frame_any t w)
  have HRF := Lib.hid (fun w => refFrame_any t w)
  have HW := Lib.hid (fun w => wait_any t w)
  have HRW := Lib.hid (fun w => refWait_any t w)
  have HA := Lib.hid (fun w => asks_any t w)
  have HH := Lib.hid (fun w h => hold_any kind a k t w a0 a1 h)
  have HRH := Lib.hid (fun w => refHold_any kind a k t w a0 a1)
  have HS := Lib.hid (fun w => slow_any a _ w rfl)
  have HRS := Lib.hid (fun w => refSlow_any a _ w a0 a1 rfl)
  obtain ⟨b0, b1⟩ := frameV_bd t
  generalize holdV kind a k t = hv at *
  generalize waitV (frameV t) = wv at *
  generalize frameV t = T at *
  generalize slowB a = s at *
  clear ha hT
  go_enter Tryd.func3, Tryd.ntmps3
  go_wp2_with fail
  go_quiet (fail)
  have hb1 : Below w.heap.size w ((w.alloc (.cells #[.int .i64 k, .int .i64 t] 23)).drewN nq) := below_drawn (balloc w _) nq
  have HT1 := Lib.hid (HT.out.below hb1)
  generalize (w.alloc (.cells #[.int .i64 k, .int .i64 t] 23)).drewN nq = w1 at hb1 HT1 ⊢
  go_wp2_with fail
  refine (HF.out _).mono ?_
  rintro e w' ⟨rfl, rfl⟩
  go_wp2_with fail
  refine (HRF.out _).mono ?_
  rintro e w' ⟨rfl, rfl⟩
  go_wp2_with fail
  refine (HW.out _ HT1.out).mono ?_
  rintro e w' ⟨rfl, rfl⟩
  go_wp2_with fail
  refine (HRW.out _).mono ?_
  rintro e w' ⟨rfl, rfl⟩
  go_wp2_with fail
  refine (HS.out _).mono ?_
  rintro e w' ⟨rfl, rfl⟩
  go_wp2_with fail
  refine (HRS.out _).mono ?_
  rintro e w' ⟨rfl, rfl⟩
  go_wp2_with fail
  refine (HH.out _ HT1.out).mono ?_
  rintro e w' ⟨rfl, rfl⟩
  go_wp2_with fail
  refine (HRH.out _).mono ?_
  rintro e w' ⟨rfl, rfl⟩
  go_wp2_with fail
  refine (HA.out _).mono ?_
  rintro e w' ⟨rfl, rfl⟩
  go_wp2_with fail
  refine (HRF.out _).mono ?_
  rintro e w' ⟨rfl, rfl⟩
  go_wp2_with fail
  refine (lives9 _ HT1.out).mono ?_
  rintro e w' ⟨rfl, rfl⟩
  go_wp2_with fail
  go_ret
  exact ⟨rfl, hb1⟩

set_option maxHeartbeats 800000 in
theorem cells_walk (l c : Int) (_ : (Lit.int .i64 l).wf = true) (_ : (Lit.int .i64 c).wf = true) (w : World) (hT : Waits w) :
    Calls Tryd.prog 4 #[.int .i64 l, .int .i64 c] w fun e w' => e = .returned (.bool true) ∧ Below w.heap.size w w' := by
  have HT := Lib.hid hT
  clear hT
  cases h : cellB l c with
  | true =>
    have HC := Lib.hid h
    obtain ⟨p, hp⟩ : ∃ p, pixV l c = p := ⟨_, rfl⟩
    obtain ⟨q, hq⟩ : ∃ q, colV l c = q := ⟨_, rfl⟩
    have HP := Lib.hid hp
    have HQ := Lib.hid hq
    clear h hp hq
    go_enter Tryd.func4, Tryd.ntmps4
    go_wp2_with fail
    refine (pixels_yes _ _ _ _ HC.out HP.out).mono ?_
    rintro e w' ⟨rfl, rfl⟩
    go_wp2_with fail
    refine (colours_yes _ _ _ _ HC.out HQ.out).mono ?_
    rintro e w' ⟨rfl, rfl⟩
    go_wp2_with fail
    refine (refPixels_yes _ _ _ _ HC.out HP.out).mono ?_
    rintro e w' ⟨rfl, rfl⟩
    go_wp2_with fail
    refine (refColours_yes _ _ _ _ HC.out HQ.out).mono ?_
    rintro e w' ⟨rfl, rfl⟩
    go_wp2_with fail
    refine (lives9 _ HT.out).mono ?_
    rintro e w' ⟨rfl, rfl⟩
    go_wp2_with fail
    go_ret
    exact ⟨rfl, (Below.refl _ _)⟩
  | false =>
    have HC := Lib.hid h
    clear h
    go_enter Tryd.func4, Tryd.ntmps4
    go_wp2_with fail
    refine (pixels_no _ _ _ HC.out).mono ?_
    rintro e w' ⟨rfl, rfl⟩
    go_wp2_with fail
    refine (colours_no _ _ _ HC.out).mono ?_
    rintro e w' ⟨rfl, rfl⟩
    go_wp2_with fail
    refine (refPixels_no _ _ _ HC.out).mono ?_
    rintro e w' ⟨rfl, rfl⟩
    go_wp2_with fail
    refine (refColours_no _ _ _ HC.out).mono ?_
    rintro e w' ⟨rfl, rfl⟩
    go_wp2_with fail
    refine (lives9 _ HT.out).mono ?_
    rintro e w' ⟨rfl, rfl⟩
    go_wp2_with fail
    go_ret
    exact ⟨rfl, (Below.refl _ _)⟩

set_option maxHeartbeats 800000 in
theorem fetches_walk (t : Int) (_ : (Lit.int .i64 t).wf = true) (w : World) (hT : Waits w) :
    Calls Tryd.prog 5 #[.int .i64 t] w fun e w' => e = .returned (.bool true) ∧ Below w.heap.size w w' := by
  have HT := Lib.hid hT
  clear hT
  cases h : fetB (frameV t - 14338) with
  | true =>
    have H1 := Lib.hid (fun w => fetched_yes t w h)
    have H2 := Lib.hid (fun w => place_yes t w h)
    have H3 := Lib.hid (fun w => refFetched_yes t w h)
    clear h
    generalize adrV (frameV t - 14338) = p at *
    generalize plcV (frameV t - 14338) = q at *
    go_enter Tryd.func5, Tryd.ntmps5
    go_wp2_with fail
    refine (H1.out _).mono ?_
    rintro e w1 ⟨rfl, hb1⟩
    go_wp2_with fail
    refine (H2.out _).mono ?_
    rintro e w2 ⟨rfl, hb2⟩
    go_wp2_with fail
    refine (H3.out _).mono ?_
    rintro e w' ⟨rfl, rfl⟩
    go_wp2_with fail
    refine (lives9 _ ((HT.out.below hb1).below hb2)).mono ?_
    rintro e w' ⟨rfl, rfl⟩
    go_wp2_with fail
    go_ret
    exact ⟨rfl, below_step hb1 hb2⟩
  | false =>
    have H1 := Lib.hid (fun w => fetched_no t w h)
    have H2 := Lib.hid (fun w => place_no t w h)
    have H3 := Lib.hid (fun w => refFetched_no t w h)
    clear h
    go_enter Tryd.func5, Tryd.ntmps5
    go_wp2_with fail
    refine (H1.out _).mono ?_
    rintro e w1 ⟨rfl, hb1⟩
    go_wp2_with fail
    refine (H2.out _).mono ?_
    rintro e w2 ⟨rfl, hb2⟩
    go_wp2_with fail
    refine (H3.out _).mono ?_
    rintro e w' ⟨rfl, rfl⟩
    go_wp2_with fail
    refine (lives9 _ ((HT.out.below hb1).below hb2)).mono ?_
    rintro e w' ⟨rfl, rfl⟩
    go_wp2_with fail
    go_ret
    exact ⟨rfl, below_step hb1 hb2⟩

/-- How many of a line's bytes and attributes are fetched ahead of its k-th T-state, counted from where the processor is held. -/
def cntV (k : Int) : Int := if k < 3 then 0 else if 131 ≤ k then 64 else 4 * ((k - 3) / 8) + (if (k - 3) % 8 < 4 then (k - 3) % 8 else 4)
def timeL (n k : Int) : Int := 14335 + 224 * n + k
theorem timeL_frame {n k : Int} (n0 : 0 ≤ n) (n1 : n ≤ 191) (k0 : 0 ≤ k) (k1 : k < 224) : frameV (timeL n k) = timeL n k := by unfold frameV timeL; omega
theorem fetL_yes {n k : Int} (n0 : 0 ≤ n) (n1 : n ≤ 191) (k0 : 3 ≤ k) (k1 : k < 131) (h : (k - 3) % 8 < 4) : fetB (timeL n k - 14338) = true := by
  unfold fetB timeL
  exact decide_eq_true (by omega)
theorem fetL_no {n k : Int} (k0 : 0 ≤ k) (k1 : k < 224) (h : ¬ (3 ≤ k ∧ k < 131 ∧ (k - 3) % 8 < 4)) : fetB (timeL n k - 14338) = false := by
  unfold fetB timeL
  exact decide_eq_false (by omega)
theorem plcL {n k : Int} (k0 : 3 ≤ k) (k1 : k < 131) (h : (k - 3) % 8 < 4) : plcV (timeL n k - 14338) = 64 * n + cntV k := by
  unfold plcV fetC timeL cntV
  rw [if_neg (by omega), if_neg (by omega), if_pos h]
  omega
theorem cnt_yes {k : Int} (k0 : 3 ≤ k) (k1 : k < 131) (h : (k - 3) % 8 < 4) : cntV (k + 1) = cntV k + 1 := by
  unfold cntV
  repeat' split
  all_goals omega
theorem cnt_no {k : Int} (k0 : 0 ≤ k) (k1 : k < 224) (h : ¬ (3 ≤ k ∧ k < 131 ∧ (k - 3) % 8 < 4)) : cntV (k + 1) = cntV k := by
  unfold cntV
  repeat' split
  all_goals omega
theorem waitL_late {n k : Int} (k0 : 128 ≤ k) (k1 : k < 224) : waitV (timeL n k) = 0 := by
  refine waitV_no fun e => ?_
  have := onB_yes e.2
  unfold timeL at this
  omega

theorem place_in (N k x : Int) (w : World) (n0 : 0 ≤ N) (n1 : N ≤ 191) (k0 : 3 ≤ k) (k1 : k < 131) (h : (k - 3) % 8 < 4) (hx : x = 64 * N + cntV k) :
    Calls Tryd.prog 23 #[.int .i64 (14335 + 224 * N + k)] w fun e w' => e = .returned (.tuple #[.int .i64 x, .bool true]) ∧ Below w.heap.size w w' := by
  have e := timeL_frame (n := N) (k := k) n0 n1 (by omega) (by omega)
  have := place_yes (timeL N k) w (by rw [e]; exact fetL_yes n0 n1 k0 k1 h)
  rw [e, plcL k0 k1 h, ← hx] at this
  exact this
theorem place_out (N k : Int) (w : World) (n0 : 0 ≤ N) (n1 : N ≤ 191) (k0 : 0 ≤ k) (k1 : k < 224) (h : ¬ (3 ≤ k ∧ k < 131 ∧ (k - 3) % 8 < 4)) :
    Calls Tryd.prog 23 #[.int .i64 (14335 + 224 * N + k)] w fun e w' => e = .returned (.tuple #[.int .i64 0, .bool false]) ∧ Below w.heap.size w w' := by
  have e := timeL_frame (n := N) (k := k) n0 n1 k0 k1
  exact place_no (timeL N k) w (by rw [e]; exact fetL_no k0 k1 h)
theorem wait_in (N k : Int) (n0 : 0 ≤ N) (n1 : N ≤ 191) (k0 : 0 ≤ k) (k1 : k < 224) : ∃ r : Int, 0 ≤ r ∧ r ≤ 6 ∧ (128 ≤ k → r = 0) ∧
    ∀ w : World, Waits w → Calls Tryd.prog 10 #[.int .i64 (14335 + 224 * N + k)] w fun e w' => e = .returned (.int .i64 r) ∧ w = w' := by
  have e := timeL_frame (n := N) (k := k) n0 n1 k0 k1
  refine ⟨_, (waitV_bd _).1, (waitV_bd _).2, fun h => ?_, fun w hT => wait_any (timeL N k) w hT⟩
  rw [e]
  exact waitL_late h k1

set_option maxHeartbeats 3200000 in
theorem lines_walk (l : Int) (_ : (Lit.int .i64 l).wf = true) (w : World) (hT : Waits w) :
    Calls Tryd.prog 6 #[.int .i64 l] w fun e w' => e = .returned (.bool true) ∧ Below w.heap.size w w' := by
  have HT := Lib.hid hT
  clear hT
  go_enter Tryd.func6, Tryd.ntmps6
  go_upto_region 1 with fail
  go_cut [3] (fun s wx => ∃ N : Int, 0 ≤ N ∧ N ≤ 191 ∧ s = .int .i64 N ∧ w = wx)
  case first =>
    go_wp2_with fail
    all_goals (go_meet; exact ⟨_, by omega, by omega, rfl, rfl⟩)
  case rest =>
    obtain ⟨N, n0, n1, rfl, rfl⟩ := hcut
    go_wp2_with fail
    go_loopw [4, 5] (fun a i wr => ∃ k x : Int, 0 ≤ k ∧ k ≤ 224 ∧ i = .int .i64 k ∧ a = .int .i64 x ∧ 0 ≤ x ∧ x ≤ 12288 + k ∧ Hid (x = 64 * N + cntV k) ∧ Below w.heap.size w wr) (fun _ i _ => 224 - (intOf i).toNat)
    case atStart => exact ⟨0, 64 * N, by omega, by omega, rfl, rfl, by omega, by omega, Lib.hid (by simp [cntV]), Below.refl _ _⟩
    case round =>
      obtain ⟨k, x, k0, k1, rfl, rfl, x0, x1, HX, hb⟩ := hrel
      have HT1 := Lib.hid (HT.out.below hb)
      have hsz := hb.size
      by_cases hlt : k < 224
      · obtain ⟨r, r0, r1, hr, HW⟩ := wait_in N k n0 n1 k0 hlt
        have HW := Lib.hid HW
        by_cases hf : 3 ≤ k ∧ k < 131 ∧ (k - 3) % 8 < 4
        · have HP := Lib.hid (fun w => place_in N k x w n0 n1 hf.1 hf.2.1 hf.2.2 HX.out)
          have HN := Lib.hid (show x + 1 = 64 * N + cntV (k + 1) by rw [cnt_yes hf.1 hf.2.1 hf.2.2]; have := HX.out; omega)
          clear hf HX
          by_cases h8 : 128 ≤ k
          · obtain rfl : r = 0 := hr h8
            clear hr
            go_wp2_with fail
            refine (HP.out _).mono ?_
            rintro e w1 ⟨rfl, hb1⟩
            go_wp2_with fail
            refine (HW.out _ (HT1.out.below hb1)).mono ?_
            rintro e w' ⟨rfl, rfl⟩
            go_wp2_with fail
            go_roundw
            case rel => exact ⟨k + 1, x + 1, by omega, by omega, rfl, rfl, by omega, by omega, HN, hb.trans (hb1.mono hsz)⟩
            case measure => simp [intOf]; omega
          · clear hr
            go_wp2_with fail
            refine (HP.out _).mono ?_
            rintro e w1 ⟨rfl, hb1⟩
            go_wp2_with fail
            refine (HW.out _ (HT1.out.below hb1)).mono ?_
            rintro e w' ⟨rfl, rfl⟩
            go_wp2_with fail
            go_roundw
            case rel => exact ⟨k + 1, x + 1, by omega, by omega, rfl, rfl, by omega, by omega, HN, hb.trans (hb1.mono hsz)⟩
            case measure => simp [intOf]; omega
        · have HP := Lib.hid (fun w => place_out N k w n0 n1 k0 hlt hf)
          have HN := Lib.hid (show x = 64 * N + cntV (k + 1) by rw [cnt_no k0 hlt hf]; exact HX.out)
          clear hf HX
          by_cases h8 : 128 ≤ k
          · obtain rfl : r = 0 := hr h8
            clear hr
            go_wp2_with fail
            refine (HP.out _).mono ?_
            rintro e w1 ⟨rfl, hb1⟩
            go_wp2_with fail
            refine (HW.out _ (HT1.out.below hb1)).mono ?_
            rintro e w' ⟨rfl, rfl⟩
            go_wp2_with fail
            go_roundw
            case rel => exact ⟨k + 1, x, by omega, by omega, rfl, rfl, by omega, by omega, HN, hb.trans (hb1.mono hsz)⟩
            case measure => simp [intOf]; omega
          · clear hr
            go_wp2_with fail
            refine (HP.out _).mono ?_
            rintro e w1 ⟨rfl, hb1⟩
            go_wp2_with fail
            refine (HW.out _ (HT1.out.below hb1)).mono ?_
            rintro e w' ⟨rfl, rfl⟩
            go_wp2_with fail
            go_roundw
            case rel => exact ⟨k + 1, x, by omega, by omega, rfl, rfl, by omega, by omega, HN, hb.trans (hb1.mono hsz)⟩
            case measure => simp [intOf]; omega
      · obtain rfl : k = 224 := by omega
        obtain rfl : x = 64 * N + 64 := by rw [HX.out]; rfl
        clear HX
        go_wp2_with fail
        refine (lives9 _ HT1.out).mono ?_
        rintro e w' ⟨rfl, rfl⟩
        go_wp2_with fail
        go_ret
        exact ⟨rfl, hb⟩

end Go.Proofs.YtmjhipabciaonaaDoor
