/- The document's Read of layer 10: its contract. -/
import Derived.Test.YtkcfacbnbjkheaaDoorBKeysRef
namespace Go.Proofs.YtkcfacbnbjkheaaDoor
open Go.RowKit
set_option maxRecDepth 100000

theorem mem_key {L : List Int} {S : Nat → Bool} (hl : Lst L S) (r k : Nat) : decide (5 * (r : Int) + (k : Int) ∈ L) = S (5 * r + k) := by
  have h := hl (5 * r + k)
  have e : ((5 * r + k : Nat) : Int) = 5 * (r : Int) + (k : Int) := by omega
  rw [e] at h
  cases hs : S (5 * r + k) with
  | true => exact decide_eq_true (h.1 hs)
  | false =>
    refine decide_eq_false fun hm => ?_
    rw [h.2 hm] at hs; cases hs
set_option maxHeartbeats 1600000 in
theorem refRead (v : Value) (L : List Int) (S : Nat → Bool) (h : Int) (B : Nat) (w : World) (hv : RowI w B v L) (hl : Lst L S) (h0 : 0 ≤ h) (h1 : h ≤ 255) :
    Calls Tryd.prog 55 #[v, .int .u8 h] w fun e w' => e = .returned (.int .u8 (readF S h)) ∧ w = w' := by
  have HI := Lib.hid (fun r k b hb => refIn (5 * (r : Nat) + (k : Nat)) v L b B w hv ((mem_key hl r k).trans hb))
  have HP := Lib.hid (partV_five S h)
  have HD := Lib.hid (show h / pw 0 = h by unfold pw; simp)
  have b5 := partV_bd S h 5
  have p5 : pw 5 = 32 := by decide
  rw [p5] at b5
  clear hl hv p5
  go_enter Tryd.func55, Tryd.ntmps55
  go_wp2_with fail
  go_loop [5, 6, 7] (fun x y i => ∃ k : Nat, i = .int .i64 k ∧ k ≤ 5 ∧ x = .int .i64 (partV S h k) ∧ y = .int .i64 (pw k)) (fun _ _ i => 5 - (intOf i).toNat)
  case atStart => exact ⟨0, rfl, by omega, rfl, rfl⟩
  case round =>
    obtain ⟨k, rfl, hk, rfl, rfl⟩ := hrel
    by_cases hlt : k < 5
    · obtain ⟨c0, c1⟩ := partV_bd S h k
      obtain ⟨d0, d1⟩ := pw_bd k (by omega)
      have HS := Lib.hid (pw_succ k)
      have HV := Lib.hid (show partV S h (k + 1) = partV S h k + if up S h k 8 then pw k else 0 from rfl)
      obtain ⟨X, hX⟩ : ∃ X, partV S h k = X := ⟨_, rfl⟩
      obtain ⟨Y, hY⟩ : ∃ Y, pw k = Y := ⟨_, rfl⟩
      rw [hX, hY] at HV c1
      rw [hY] at HS d0 d1
      rw [hX] at c0
      rw [hX, hY]
      clear hX hY
      have hd5 : decide ((k : Int) < 5) = true := decide_eq_true (by omega)
      go_wp2_with fail
      clear hd5
      go_loop [8, 9, 10] (fun x y i => ∃ r : Nat, i = .int .i64 r ∧ r ≤ 8 ∧ x = .bool (up S h k r) ∧ y = .int .i64 (h / pw r)) (fun _ _ i => 8 - (intOf i).toNat)
      case atStart => exact ⟨0, rfl, by omega, rfl, by rw [HD.out]⟩
      case round =>
        obtain ⟨r, rfl, hr, rfl, rfl⟩ := hrel
        by_cases h8 : r < 8
        · obtain ⟨e0, e1⟩ := div_bd h r h0 h1
          have HQ := Lib.hid (div_succ h r)
          have HU := Lib.hid (up_succ S h k r)
          obtain ⟨U, hU⟩ : ∃ U, up S h k r = U := ⟨_, rfl⟩
          rw [hU] at HU ⊢
          cases hh : hb h r with
          | true =>
            have ht : h / pw r % 2 = 1 := hb_val h r true hh
            have HR := Lib.hid (show up S h k (r + 1) = U by rw [HU.out, hh]; simp)
            clear hh hU
            generalize h / pw r = q at *
            go_wp2_with fail
            go_round
            case rel => exact ⟨r + 1, by go_num, by omega, by rw [HR.out], by rw [HQ.out]⟩
            case measure => simp [intOf]; omega
          | false =>
            have ht : h / pw r % 2 = 0 := hb_val h r false hh
            cases hs : S (5 * r + k) with
            | true =>
              have HR := Lib.hid (show up S h k (r + 1) = false by rw [HU.out, hh, hs]; simp)
              have HC := Lib.hid (HI.out r k true hs)
              clear hh hU hs
              generalize h / pw r = q at *
              go_wp2_with fail
              refine (HC.out).mono ?_
              rintro e w' ⟨rfl, rfl⟩
              go_wp2_with fail
              go_round
              case rel => exact ⟨r + 1, by go_num, by omega, by rw [HR.out], by rw [HQ.out]⟩
              case measure => simp [intOf]; omega
            | false =>
              have HR := Lib.hid (show up S h k (r + 1) = U by rw [HU.out, hh, hs]; simp)
              have HC := Lib.hid (HI.out r k false hs)
              clear hh hU hs
              generalize h / pw r = q at *
              go_wp2_with fail
              refine (HC.out).mono ?_
              rintro e w' ⟨rfl, rfl⟩
              go_wp2_with fail
              go_round
              case rel => exact ⟨r + 1, by go_num, by omega, by rw [HR.out], by rw [HQ.out]⟩
              case measure => simp [intOf]; omega
        · obtain rfl : r = 8 := by omega
          cases hu : up S h k 8 with
          | true =>
            have HW := Lib.hid (show partV S h (k + 1) = X + Y by rw [HV.out, hu]; rfl)
            clear hu
            go_wp2_with fail
            go_round
            case rel => exact ⟨k + 1, by go_num, by omega, by rw [HW.out], by rw [HS.out]⟩
            case measure => simp [intOf]; omega
          | false =>
            have HW := Lib.hid (show partV S h (k + 1) = X by rw [HV.out, hu]; simp)
            clear hu
            go_wp2_with fail
            go_round
            case rel => exact ⟨k + 1, by go_num, by omega, by rw [HW.out], by rw [HS.out]⟩
            case measure => simp [intOf]; omega
    · obtain rfl : k = 5 := by omega
      go_wp2_with fail
      go_ret
      exact ⟨by rw [← HP.out]; rfl, rfl⟩
end Go.Proofs.YtkcfacbnbjkheaaDoor
