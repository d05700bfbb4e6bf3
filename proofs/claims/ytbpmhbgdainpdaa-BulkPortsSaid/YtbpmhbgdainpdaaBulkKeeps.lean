/- The walk of BulkKeeps. -/
import Derived.Test.YtbpmhbgdainpdaaBulkLaws
namespace Go.Proofs.Ytbpmhbgdainpdaa
open Go.RowKit
set_option linter.unusedVariables false
set_option linter.unusedSimpArgs false

theorem flags_1 (s z y h x p n c : Bool) : bits .and .u8 (flagsOf s z y h x p n c) 1 = cN c := by revert s z y h x p n c; decide +kernel
theorem flags_64 (s z y h x p n c : Bool) : bits .and .u8 (flagsOf s z y h x p n c) 64 = if z then 64 else 0 := by revert s z y h x p n c; decide +kernel
theorem flags_4 (s z y h x p n c : Bool) : bits .and .u8 (flagsOf s z y h x p n c) 4 = if p then 4 else 0 := by revert s z y h x p n c; decide +kernel
theorem flags_195 (s z y h x p n c y' h' x' p' : Bool) : bits .and .u8 (flagsOf s z y h x p n c) 195 = bits .and .u8 (flagsOf s z y' h' x' p' n c) 195 := by
  have e : ∀ s z y h x p n c : Bool, bits .and .u8 (flagsOf s z y h x p n c) 195 = flagsOf s z false false false false n c := by decide +kernel
  rw [e, e]
theorem subR_zero (a v : Int) (a0 : 0 ≤ a) (a1 : a ≤ 255) (v0 : 0 ≤ v) (v1 : v ≤ 255) : (subR a v false == 0) = (a == v) := by
  rw [Bool.eq_iff_iff]
  simp only [beq_iff_eq, subR, cN]
  simp only [Bool.false_eq_true, if_false]
  omega

set_option maxHeartbeats 3200000 in
set_option maxRecDepth 100000 in
theorem keeps_walk (a v k b f bc pc : Int) (a0 : 0 ≤ a) (a1 : a ≤ 255) (v0 : 0 ≤ v) (v1 : v ≤ 255) (k0 : 0 ≤ k) (k1 : k ≤ 255) (b0 : 0 ≤ b) (b1 : b ≤ 255) (f0 : 0 ≤ f) (f1 : f ≤ 255) (bc0 : 0 ≤ bc) (bc1 : bc ≤ 65535) (pc0 : 0 ≤ pc) (pc1 : pc ≤ 65535) (w : World) :
    Calls Try.prog 6 #[.agg #[.int .u8 a, .int .u8 v, .int .u8 k, .int .u8 b, .int .u8 f, .int .u16 bc, .int .u16 pc]] w fun e w' => e = .returned (.bool true) ∧ Below w.heap.size w w' := by
  have H1 := fun w => copy_any a v bc f w bc0 f0 f1
  have H3 := fun w => find_any a v bc f w a0 a1 v0 v1 bc0 f0 f1
  have H2 := fun w => again_any f pc w f0 f1 pc0 pc1
  have H4 := fun w => portAgain_any f v b pc w f0 f1 v0 v1 b0 b1 pc0 pc1
  have kf : bits .and .u8 f 1 = cN (bitN f 7) := by conv => lhs; rw [← flags_self f f0 f1, flags_1]
  have kc : bits .and .u8 (copyF a v bc f) 1 = cN (bitN f 7) := flags_1 _ _ _ _ _ _ _ _
  have kd : bits .and .u8 (findF a v bc f) 1 = cN (bitN f 7) := flags_1 _ _ _ _ _ _ _ _
  have kz : bits .and .u8 (findF a v bc f) 64 = if a == v then 64 else 0 := by rw [← subR_zero a v a0 a1 v0 v1]; exact flags_64 _ _ _ _ _ _ _ _
  have kp : bits .and .u8 (copyF a v bc f) 4 = if decide (0 < bc) then 4 else 0 := flags_4 _ _ _ _ _ _ _ _
  have kq : bits .and .u8 (findF a v bc f) 4 = if decide (0 < bc) then 4 else 0 := flags_4 _ _ _ _ _ _ _ _
  have kg : bits .and .u8 (againF f pc) 195 = bits .and .u8 f 195 := by
    conv => rhs; rw [← flags_self f f0 f1]
    exact flags_195 _ _ _ _ _ _ _ _ _ _ _ _
  have ko : bits .and .u8 (onF f v b pc) 195 = bits .and .u8 f 195 := by
    conv => rhs; rw [← flags_self f f0 f1]
    exact flags_195 _ _ _ _ _ _ _ _ _ _ _ _
  generalize cN (bitN f 7) = m at *
  generalize copyF a v bc f = c at *
  generalize findF a v bc f = d at *
  generalize againF f pc = g at *
  generalize onF f v b pc = h at *
  obtain ⟨q, hq⟩ : ∃ q, bits .and .u8 f 195 = q := ⟨_, rfl⟩
  rw [hq] at kg ko
  generalize hz : (a == v) = z at *
  generalize hp : decide (0 < bc) = p at *
  have H1 := Lib.hid H1
  have H2 := Lib.hid H2
  have H3 := Lib.hid H3
  have H4 := Lib.hid H4
  have H5 := Lib.hid lives5_any
  have KF := Lib.hid kf
  have KC := Lib.hid kc
  have KD := Lib.hid kd
  have KZ := Lib.hid kz
  have KP := Lib.hid kp
  have KQ := Lib.hid kq
  have KG := Lib.hid kg
  have KO := Lib.hid ko
  have HQ := Lib.hid hq
  have HZ := Lib.hid hz
  have HP := Lib.hid hp
  clear kf kc kd kz kp kq kg ko hz hp hq
  have hst : ∀ u u' : World, (fun w' => (w'.cell? ⟨w.heap.size, 0, none⟩ = some (.int .u8 a) ∧ w'.cell? ⟨w.heap.size, 1, none⟩ = some (.int .u8 v) ∧ w'.cell? ⟨w.heap.size, 3, none⟩ = some (.int .u8 b) ∧ w'.cell? ⟨w.heap.size, 4, none⟩ = some (.int .u8 f) ∧ w'.cell? ⟨w.heap.size, 5, none⟩ = some (.int .u16 bc) ∧ w'.cell? ⟨w.heap.size, 6, none⟩ = some (.int .u16 pc)) ∧ w.heap.size < w'.heap.size ∧ Below w.heap.size w w') u → Below u.heap.size u u' → (fun w' => (w'.cell? ⟨w.heap.size, 0, none⟩ = some (.int .u8 a) ∧ w'.cell? ⟨w.heap.size, 1, none⟩ = some (.int .u8 v) ∧ w'.cell? ⟨w.heap.size, 3, none⟩ = some (.int .u8 b) ∧ w'.cell? ⟨w.heap.size, 4, none⟩ = some (.int .u8 f) ∧ w'.cell? ⟨w.heap.size, 5, none⟩ = some (.int .u16 bc) ∧ w'.cell? ⟨w.heap.size, 6, none⟩ = some (.int .u16 pc)) ∧ w.heap.size < w'.heap.size ∧ Below w.heap.size w w') u' := by
    rintro u u' ⟨⟨e0, e1, e2, e3, e4, e5⟩, kg, hB⟩ hb
    exact ⟨⟨(hb.cell kg).trans e0, (hb.cell kg).trans e1, (hb.cell kg).trans e2, (hb.cell kg).trans e3, (hb.cell kg).trans e4, (hb.cell kg).trans e5⟩, Nat.lt_of_lt_of_le kg hb.size, hB.trans (hb.mono hB.size)⟩
  have hS0 : (fun w' => (w'.cell? ⟨w.heap.size, 0, none⟩ = some (.int .u8 a) ∧ w'.cell? ⟨w.heap.size, 1, none⟩ = some (.int .u8 v) ∧ w'.cell? ⟨w.heap.size, 3, none⟩ = some (.int .u8 b) ∧ w'.cell? ⟨w.heap.size, 4, none⟩ = some (.int .u8 f) ∧ w'.cell? ⟨w.heap.size, 5, none⟩ = some (.int .u16 bc) ∧ w'.cell? ⟨w.heap.size, 6, none⟩ = some (.int .u16 pc)) ∧ w.heap.size < w'.heap.size ∧ Below w.heap.size w w') (w.alloc (.cells #[.int .u8 a, .int .u8 v, .int .u8 k, .int .u8 b, .int .u8 f, .int .u16 bc, .int .u16 pc] 24)) := ⟨⟨cell_box _ _ _ _ rfl, cell_box _ _ _ _ rfl, cell_box _ _ _ _ rfl, cell_box _ _ _ _ rfl, cell_box _ _ _ _ rfl, cell_box _ _ _ _ rfl⟩, by simp [World.drew], ((Below.refl _ _).alloc (Nat.le_refl _) _)⟩
  have HST := Lib.hid hst
  clear hst
  go_enter Try.func6, Try.ntmps6
  go_wp2_with fail
  refine (H1.out _).mono ?_
  rintro e w1 ⟨rfl, hb1⟩
  have hS1 := HST.out _ _ hS0 hb1
  have hS1c := hS1.1
  obtain ⟨c0, c1, c3, c4, c5, c6⟩ := hS1.1
  go_wp2_with fail
  refine (H3.out _).mono ?_
  rintro e w2 ⟨rfl, hb2⟩
  have hS2 := HST.out _ _ hS1 hb2
  clear c0 c1 c3 c4 c5 c6 hS1c
  obtain ⟨c0, c1, c3, c4, c5, c6⟩ := hS2.1
  have hS3 : (fun w' => (w'.cell? ⟨w.heap.size, 0, none⟩ = some (.int .u8 a) ∧ w'.cell? ⟨w.heap.size, 1, none⟩ = some (.int .u8 v) ∧ w'.cell? ⟨w.heap.size, 3, none⟩ = some (.int .u8 b) ∧ w'.cell? ⟨w.heap.size, 4, none⟩ = some (.int .u8 f) ∧ w'.cell? ⟨w.heap.size, 5, none⟩ = some (.int .u16 bc) ∧ w'.cell? ⟨w.heap.size, 6, none⟩ = some (.int .u16 pc)) ∧ w.heap.size < w'.heap.size ∧ Below w.heap.size w w') w2.drew := ⟨hS2.1, hS2.2.1, hS2.2.2.drew⟩
  have hmm : (m == m) = true := beq_self_eq_true m
  have hqq : (q == q) = true := beq_self_eq_true q
  have kf := KF.out
  have kc := KC.out
  have kd := KD.out
  have kz := KZ.out
  have kp := KP.out
  have kq := KQ.out
  have hz := HZ.out
  have hp := HP.out
  clear hS0 hS1 hS2 hb1 hb2
  cases z
  · cases p
    · simp only [Bool.false_eq_true, if_false, if_true] at kz kp kq
      go_wp2_with fail
      have hq := HQ.out
      have kg := KG.out
      have ko := KO.out
      go_region_held3 (fun w' => (w'.cell? ⟨w.heap.size, 0, none⟩ = some (.int .u8 a) ∧ w'.cell? ⟨w.heap.size, 1, none⟩ = some (.int .u8 v) ∧ w'.cell? ⟨w.heap.size, 3, none⟩ = some (.int .u8 b) ∧ w'.cell? ⟨w.heap.size, 4, none⟩ = some (.int .u8 f) ∧ w'.cell? ⟨w.heap.size, 5, none⟩ = some (.int .u16 bc) ∧ w'.cell? ⟨w.heap.size, 6, none⟩ = some (.int .u16 pc)) ∧ w.heap.size < w'.heap.size ∧ Below w.heap.size w w') (assumption) (first | (go_at_call 14; refine (held_same HST.out (H2.out _) (by assumption)).mono ?_; rintro e w' ⟨rfl, hSa⟩) | (go_at_call 16; refine (held_same HST.out (H4.out _) (by assumption)).mono ?_; rintro e w' ⟨rfl, hSc⟩) | (go_at_call 11; refine (held_of HST.out (H5.out _) (by assumption)).mono ?_; rintro e w' ⟨rfl, hSL⟩))
      go_wp2_with fail
      go_ret
      exact ⟨rfl, hSL.2.2⟩
    · simp only [Bool.false_eq_true, if_false, if_true] at kz kp kq
      go_wp2_with fail
      have hq := HQ.out
      have kg := KG.out
      have ko := KO.out
      go_region_held3 (fun w' => (w'.cell? ⟨w.heap.size, 0, none⟩ = some (.int .u8 a) ∧ w'.cell? ⟨w.heap.size, 1, none⟩ = some (.int .u8 v) ∧ w'.cell? ⟨w.heap.size, 3, none⟩ = some (.int .u8 b) ∧ w'.cell? ⟨w.heap.size, 4, none⟩ = some (.int .u8 f) ∧ w'.cell? ⟨w.heap.size, 5, none⟩ = some (.int .u16 bc) ∧ w'.cell? ⟨w.heap.size, 6, none⟩ = some (.int .u16 pc)) ∧ w.heap.size < w'.heap.size ∧ Below w.heap.size w w') (assumption) (first | (go_at_call 14; refine (held_same HST.out (H2.out _) (by assumption)).mono ?_; rintro e w' ⟨rfl, hSa⟩) | (go_at_call 16; refine (held_same HST.out (H4.out _) (by assumption)).mono ?_; rintro e w' ⟨rfl, hSc⟩) | (go_at_call 11; refine (held_of HST.out (H5.out _) (by assumption)).mono ?_; rintro e w' ⟨rfl, hSL⟩))
      go_wp2_with fail
      go_ret
      exact ⟨rfl, hSL.2.2⟩
  · cases p
    · simp only [Bool.false_eq_true, if_false, if_true] at kz kp kq
      go_wp2_with fail
      have hq := HQ.out
      have kg := KG.out
      have ko := KO.out
      go_region_held3 (fun w' => (w'.cell? ⟨w.heap.size, 0, none⟩ = some (.int .u8 a) ∧ w'.cell? ⟨w.heap.size, 1, none⟩ = some (.int .u8 v) ∧ w'.cell? ⟨w.heap.size, 3, none⟩ = some (.int .u8 b) ∧ w'.cell? ⟨w.heap.size, 4, none⟩ = some (.int .u8 f) ∧ w'.cell? ⟨w.heap.size, 5, none⟩ = some (.int .u16 bc) ∧ w'.cell? ⟨w.heap.size, 6, none⟩ = some (.int .u16 pc)) ∧ w.heap.size < w'.heap.size ∧ Below w.heap.size w w') (assumption) (first | (go_at_call 14; refine (held_same HST.out (H2.out _) (by assumption)).mono ?_; rintro e w' ⟨rfl, hSa⟩) | (go_at_call 16; refine (held_same HST.out (H4.out _) (by assumption)).mono ?_; rintro e w' ⟨rfl, hSc⟩) | (go_at_call 11; refine (held_of HST.out (H5.out _) (by assumption)).mono ?_; rintro e w' ⟨rfl, hSL⟩))
      go_wp2_with fail
      go_ret
      exact ⟨rfl, hSL.2.2⟩
    · simp only [Bool.false_eq_true, if_false, if_true] at kz kp kq
      go_wp2_with fail
      have hq := HQ.out
      have kg := KG.out
      have ko := KO.out
      go_region_held3 (fun w' => (w'.cell? ⟨w.heap.size, 0, none⟩ = some (.int .u8 a) ∧ w'.cell? ⟨w.heap.size, 1, none⟩ = some (.int .u8 v) ∧ w'.cell? ⟨w.heap.size, 3, none⟩ = some (.int .u8 b) ∧ w'.cell? ⟨w.heap.size, 4, none⟩ = some (.int .u8 f) ∧ w'.cell? ⟨w.heap.size, 5, none⟩ = some (.int .u16 bc) ∧ w'.cell? ⟨w.heap.size, 6, none⟩ = some (.int .u16 pc)) ∧ w.heap.size < w'.heap.size ∧ Below w.heap.size w w') (assumption) (first | (go_at_call 14; refine (held_same HST.out (H2.out _) (by assumption)).mono ?_; rintro e w' ⟨rfl, hSa⟩) | (go_at_call 16; refine (held_same HST.out (H4.out _) (by assumption)).mono ?_; rintro e w' ⟨rfl, hSc⟩) | (go_at_call 11; refine (held_of HST.out (H5.out _) (by assumption)).mono ?_; rintro e w' ⟨rfl, hSL⟩))
      go_wp2_with fail
      go_ret
      exact ⟨rfl, hSL.2.2⟩

end Go.Proofs.Ytbpmhbgdainpdaa
