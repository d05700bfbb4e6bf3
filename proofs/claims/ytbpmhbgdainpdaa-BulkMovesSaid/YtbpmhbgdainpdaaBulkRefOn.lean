/- The document's PortAgain: its contract. -/
import Derived.Test.YtbpmhbgdainpdaaBulkRef
import Derived.Test.YtbpmhbgdainpdaaBulkMixed
import Derived.IntWalk
namespace Go.Proofs.Ytbpmhbgdainpdaa
open Go.RowKit

set_option maxHeartbeats 1600000 in
theorem refPortAgain_0 (f v b pc q : Int) (o : Bool) (r : Int) (w : World) (b0 : 0 ≤ b) (b1 : b ≤ 255) (q0 : 0 ≤ q) (q1 : q ≤ 255)
    (HA : Hid (∀ w, Calls Try.prog 15 #[.int .u8 f, .int .u16 pc] w fun e w' => e = .returned (.int .u8 q) ∧ Below w.heap.size w w'))
    (HO : Hid (bitN q 3 = o)) (HC : Hid (bitN q 7 = false)) (HF : Hid (flagsOf (bitN q 0) (bitN q 1) (bitN q 2) o (bitN q 4) (bitN q 5 == evenB (b % 8)) (bitN q 6) false = r)) :
    Calls Try.prog 17 #[.int .u8 f, .int .u8 v, .int .u8 b, .int .u16 pc] w fun e w' => e = .returned (.int .u8 r) ∧ Below w.heap.size w w' := by
    have m0 : 0 ≤ (b) % 8 := by omega
    have m1 : (b) % 8 ≤ 255 := by omega
    have ER := Lib.hid (IntWalk.rem_in (b) 8 (by omega))
    have EW := Lib.hid (IntWalk.i64_in ((b) % 8) (by omega))
    have EU := Lib.hid (IntWalk.u8_in ((b) % 8) ⟨m0, m1⟩)
    go_enter Try.func17, Try.ntmps17
    go_wp2_with fail
    refine (HA.out _).mono ?_
    rintro e w1 ⟨rfl, hb1⟩
    go_wp2_with fail
    refine (bits_any _ _ q0 q1).mono ?_
    rintro e w2 ⟨u, rfl, hw, hb2⟩
    obtain ⟨g, cap, rfl, hg, hc, hm, hcell⟩ := bits_cells hw
    have h3 := hcell 3 (by decide)
    have h7 := hcell 7 (by decide)
    rw [HO.out] at h3
    rw [HC.out] at h7
    have hst : ∀ u u' : World, (fun w' => (w'.cell? ⟨g, 0, none⟩ = some (.bool (bitN q 0)) ∧ w'.cell? ⟨g, 1, none⟩ = some (.bool (bitN q 1)) ∧ w'.cell? ⟨g, 2, none⟩ = some (.bool (bitN q 2)) ∧ w'.cell? ⟨g, 3, none⟩ = some (.bool (o)) ∧ w'.cell? ⟨g, 4, none⟩ = some (.bool (bitN q 4)) ∧ w'.cell? ⟨g, 5, none⟩ = some (.bool (bitN q 5)) ∧ w'.cell? ⟨g, 6, none⟩ = some (.bool (bitN q 6)) ∧ w'.cell? ⟨g, 7, none⟩ = some (.bool (false))) ∧ (g < w'.heap.size) ∧ Below w2.heap.size w2 w') u → Below u.heap.size u u' → (fun w' => (w'.cell? ⟨g, 0, none⟩ = some (.bool (bitN q 0)) ∧ w'.cell? ⟨g, 1, none⟩ = some (.bool (bitN q 1)) ∧ w'.cell? ⟨g, 2, none⟩ = some (.bool (bitN q 2)) ∧ w'.cell? ⟨g, 3, none⟩ = some (.bool (o)) ∧ w'.cell? ⟨g, 4, none⟩ = some (.bool (bitN q 4)) ∧ w'.cell? ⟨g, 5, none⟩ = some (.bool (bitN q 5)) ∧ w'.cell? ⟨g, 6, none⟩ = some (.bool (bitN q 6)) ∧ w'.cell? ⟨g, 7, none⟩ = some (.bool (false))) ∧ (g < w'.heap.size) ∧ Below w2.heap.size w2 w') u' := by
      rintro u u' ⟨⟨c0, c1, c2, c3, c4, c5, c6, c7⟩, kg, hB⟩ hb
      exact ⟨⟨(hb.cell kg).trans c0, (hb.cell kg).trans c1, (hb.cell kg).trans c2, (hb.cell kg).trans c3, (hb.cell kg).trans c4, (hb.cell kg).trans c5, (hb.cell kg).trans c6, (hb.cell kg).trans c7⟩, Nat.lt_of_lt_of_le kg hb.size, below_step hB hb⟩
    have hS0 : (fun w' => (w'.cell? ⟨g, 0, none⟩ = some (.bool (bitN q 0)) ∧ w'.cell? ⟨g, 1, none⟩ = some (.bool (bitN q 1)) ∧ w'.cell? ⟨g, 2, none⟩ = some (.bool (bitN q 2)) ∧ w'.cell? ⟨g, 3, none⟩ = some (.bool (o)) ∧ w'.cell? ⟨g, 4, none⟩ = some (.bool (bitN q 4)) ∧ w'.cell? ⟨g, 5, none⟩ = some (.bool (bitN q 5)) ∧ w'.cell? ⟨g, 6, none⟩ = some (.bool (bitN q 6)) ∧ w'.cell? ⟨g, 7, none⟩ = some (.bool (false))) ∧ (g < w'.heap.size) ∧ Below w2.heap.size w2 w') w2.drew := ⟨⟨hcell 0 (by decide), hcell 1 (by decide), hcell 2 (by decide), h3, hcell 4 (by decide), hcell 5 (by decide), hcell 6 (by decide), h7⟩, hg, (Below.refl _ _).drew⟩
    have HST := Lib.hid hst
    clear hst hcell hw
    have eb := IntWalk.i64_in b (by omega)
    go_wp2_with fail
    go_region_held3 (fun w' => (w'.cell? ⟨g, 0, none⟩ = some (.bool (bitN q 0)) ∧ w'.cell? ⟨g, 1, none⟩ = some (.bool (bitN q 1)) ∧ w'.cell? ⟨g, 2, none⟩ = some (.bool (bitN q 2)) ∧ w'.cell? ⟨g, 3, none⟩ = some (.bool (o)) ∧ w'.cell? ⟨g, 4, none⟩ = some (.bool (bitN q 4)) ∧ w'.cell? ⟨g, 5, none⟩ = some (.bool (bitN q 5)) ∧ w'.cell? ⟨g, 6, none⟩ = some (.bool (bitN q 6)) ∧ w'.cell? ⟨g, 7, none⟩ = some (.bool (false))) ∧ (g < w'.heap.size) ∧ Below w2.heap.size w2 w') (assumption) (fail)
    have hS1 : (fun w' => (w'.cell? ⟨g, 0, none⟩ = some (.bool (bitN q 0)) ∧ w'.cell? ⟨g, 1, none⟩ = some (.bool (bitN q 1)) ∧ w'.cell? ⟨g, 2, none⟩ = some (.bool (bitN q 2)) ∧ w'.cell? ⟨g, 3, none⟩ = some (.bool (o)) ∧ w'.cell? ⟨g, 4, none⟩ = some (.bool (bitN q 4)) ∧ w'.cell? ⟨g, 5, none⟩ = some (.bool (bitN q 5)) ∧ w'.cell? ⟨g, 6, none⟩ = some (.bool (bitN q 6)) ∧ w'.cell? ⟨g, 7, none⟩ = some (.bool (false))) ∧ (g < w'.heap.size) ∧ Below w2.heap.size w2 w') w2.drew.drew := ⟨hS0.1, hS0.2.1, hS0.2.2.drew⟩
    clear hS0
    go_wp2_with fail
    have er := ER.out
    have ew := EW.out
    have eu := EU.out
    go_region_held3 (fun w' => (w'.cell? ⟨g, 0, none⟩ = some (.bool (bitN q 0)) ∧ w'.cell? ⟨g, 1, none⟩ = some (.bool (bitN q 1)) ∧ w'.cell? ⟨g, 2, none⟩ = some (.bool (bitN q 2)) ∧ w'.cell? ⟨g, 3, none⟩ = some (.bool (o)) ∧ w'.cell? ⟨g, 4, none⟩ = some (.bool (bitN q 4)) ∧ w'.cell? ⟨g, 5, none⟩ = some (.bool (bitN q 5)) ∧ w'.cell? ⟨g, 6, none⟩ = some (.bool (bitN q 6)) ∧ w'.cell? ⟨g, 7, none⟩ = some (.bool (false))) ∧ (g < w'.heap.size) ∧ Below w2.heap.size w2 w') (assumption) (first | (go_at_call 32; refine (refEven_held HST.out _ _ (by assumption) (by assumption) (by assumption)).mono ?_; rintro e w5 ⟨rfl, hSE⟩))
    clear er ew eu
    have hS2 : (fun w' => (w'.cell? ⟨g, 0, none⟩ = some (.bool (bitN q 0)) ∧ w'.cell? ⟨g, 1, none⟩ = some (.bool (bitN q 1)) ∧ w'.cell? ⟨g, 2, none⟩ = some (.bool (bitN q 2)) ∧ w'.cell? ⟨g, 3, none⟩ = some (.bool (o)) ∧ w'.cell? ⟨g, 4, none⟩ = some (.bool (bitN q 4)) ∧ w'.cell? ⟨g, 5, none⟩ = some (.bool (bitN q 5)) ∧ w'.cell? ⟨g, 6, none⟩ = some (.bool (bitN q 6)) ∧ w'.cell? ⟨g, 7, none⟩ = some (.bool (false))) ∧ (g < w'.heap.size) ∧ Below w2.heap.size w2 w') w5.drew := ⟨hSE.1, hSE.2.1, hSE.2.2.drew⟩
    clear hS1
    go_wp2_with fail
    go_region_held3 (fun w' => (w'.cell? ⟨g, 0, none⟩ = some (.bool (bitN q 0)) ∧ w'.cell? ⟨g, 1, none⟩ = some (.bool (bitN q 1)) ∧ w'.cell? ⟨g, 2, none⟩ = some (.bool (bitN q 2)) ∧ w'.cell? ⟨g, 3, none⟩ = some (.bool (o)) ∧ w'.cell? ⟨g, 4, none⟩ = some (.bool (bitN q 4)) ∧ w'.cell? ⟨g, 5, none⟩ = some (.bool (bitN q 5)) ∧ w'.cell? ⟨g, 6, none⟩ = some (.bool (bitN q 6)) ∧ w'.cell? ⟨g, 7, none⟩ = some (.bool (false))) ∧ (g < w'.heap.size) ∧ Below w2.heap.size w2 w') (assumption) (first | (go_at_call 21; refine (flags_held HST.out _ _ _ _ _ _ _ _ _ (by assumption)).mono ?_; rintro e w' ⟨rfl, hSF⟩))
    go_wp2_with fail
    go_ret
    exact ⟨by rw [← HF.out]; rfl, below_step (below_step hb1 hb2) hSF.2.2⟩

set_option maxHeartbeats 1600000 in
theorem refPortAgain_1 (f v b pc q : Int) (o : Bool) (r : Int) (w : World) (b0 : 0 ≤ b) (b1 : b ≤ 255) (q0 : 0 ≤ q) (q1 : q ≤ 255) (hv : ¬ 128 ≤ v)
    (HA : Hid (∀ w, Calls Try.prog 15 #[.int .u8 f, .int .u16 pc] w fun e w' => e = .returned (.int .u8 q) ∧ Below w.heap.size w w'))
    (HO : Hid (bitN q 3 = o)) (HC : Hid (bitN q 7 = true)) (HF : Hid (flagsOf (bitN q 0) (bitN q 1) (bitN q 2) (b % 16 == 15) (bitN q 4) (bitN q 5 == evenB ((b + 1) % 8)) (bitN q 6) true = r)) :
    Calls Try.prog 17 #[.int .u8 f, .int .u8 v, .int .u8 b, .int .u16 pc] w fun e w' => e = .returned (.int .u8 r) ∧ Below w.heap.size w w' := by
    have m0 : 0 ≤ (b + 1) % 8 := by omega
    have m1 : (b + 1) % 8 ≤ 255 := by omega
    have ER := Lib.hid (IntWalk.rem_in (b + 1) 8 (by omega))
    have EW := Lib.hid (IntWalk.i64_in ((b + 1) % 8) (by omega))
    have EU := Lib.hid (IntWalk.u8_in ((b + 1) % 8) ⟨m0, m1⟩)
    have hd : decide (128 ≤ v) = false := decide_eq_false hv
    go_enter Try.func17, Try.ntmps17
    go_wp2_with fail
    refine (HA.out _).mono ?_
    rintro e w1 ⟨rfl, hb1⟩
    go_wp2_with fail
    refine (bits_any _ _ q0 q1).mono ?_
    rintro e w2 ⟨u, rfl, hw, hb2⟩
    obtain ⟨g, cap, rfl, hg, hc, hm, hcell⟩ := bits_cells hw
    have h3 := hcell 3 (by decide)
    have h7 := hcell 7 (by decide)
    rw [HO.out] at h3
    rw [HC.out] at h7
    have hst : ∀ u u' : World, (fun w' => (w'.cell? ⟨g, 0, none⟩ = some (.bool (bitN q 0)) ∧ w'.cell? ⟨g, 1, none⟩ = some (.bool (bitN q 1)) ∧ w'.cell? ⟨g, 2, none⟩ = some (.bool (bitN q 2)) ∧ w'.cell? ⟨g, 3, none⟩ = some (.bool (o)) ∧ w'.cell? ⟨g, 4, none⟩ = some (.bool (bitN q 4)) ∧ w'.cell? ⟨g, 5, none⟩ = some (.bool (bitN q 5)) ∧ w'.cell? ⟨g, 6, none⟩ = some (.bool (bitN q 6)) ∧ w'.cell? ⟨g, 7, none⟩ = some (.bool (true))) ∧ (g < w'.heap.size) ∧ Below w2.heap.size w2 w') u → Below u.heap.size u u' → (fun w' => (w'.cell? ⟨g, 0, none⟩ = some (.bool (bitN q 0)) ∧ w'.cell? ⟨g, 1, none⟩ = some (.bool (bitN q 1)) ∧ w'.cell? ⟨g, 2, none⟩ = some (.bool (bitN q 2)) ∧ w'.cell? ⟨g, 3, none⟩ = some (.bool (o)) ∧ w'.cell? ⟨g, 4, none⟩ = some (.bool (bitN q 4)) ∧ w'.cell? ⟨g, 5, none⟩ = some (.bool (bitN q 5)) ∧ w'.cell? ⟨g, 6, none⟩ = some (.bool (bitN q 6)) ∧ w'.cell? ⟨g, 7, none⟩ = some (.bool (true))) ∧ (g < w'.heap.size) ∧ Below w2.heap.size w2 w') u' := by
      rintro u u' ⟨⟨c0, c1, c2, c3, c4, c5, c6, c7⟩, kg, hB⟩ hb
      exact ⟨⟨(hb.cell kg).trans c0, (hb.cell kg).trans c1, (hb.cell kg).trans c2, (hb.cell kg).trans c3, (hb.cell kg).trans c4, (hb.cell kg).trans c5, (hb.cell kg).trans c6, (hb.cell kg).trans c7⟩, Nat.lt_of_lt_of_le kg hb.size, below_step hB hb⟩
    have hS0 : (fun w' => (w'.cell? ⟨g, 0, none⟩ = some (.bool (bitN q 0)) ∧ w'.cell? ⟨g, 1, none⟩ = some (.bool (bitN q 1)) ∧ w'.cell? ⟨g, 2, none⟩ = some (.bool (bitN q 2)) ∧ w'.cell? ⟨g, 3, none⟩ = some (.bool (o)) ∧ w'.cell? ⟨g, 4, none⟩ = some (.bool (bitN q 4)) ∧ w'.cell? ⟨g, 5, none⟩ = some (.bool (bitN q 5)) ∧ w'.cell? ⟨g, 6, none⟩ = some (.bool (bitN q 6)) ∧ w'.cell? ⟨g, 7, none⟩ = some (.bool (true))) ∧ (g < w'.heap.size) ∧ Below w2.heap.size w2 w') w2.drew := ⟨⟨hcell 0 (by decide), hcell 1 (by decide), hcell 2 (by decide), h3, hcell 4 (by decide), hcell 5 (by decide), hcell 6 (by decide), h7⟩, hg, (Below.refl _ _).drew⟩
    have HST := Lib.hid hst
    clear hst hcell hw
    have eb := IntWalk.i64_in b (by omega)
    go_wp2_with fail
    go_region_held3 (fun w' => (w'.cell? ⟨g, 0, none⟩ = some (.bool (bitN q 0)) ∧ w'.cell? ⟨g, 1, none⟩ = some (.bool (bitN q 1)) ∧ w'.cell? ⟨g, 2, none⟩ = some (.bool (bitN q 2)) ∧ w'.cell? ⟨g, 3, none⟩ = some (.bool (o)) ∧ w'.cell? ⟨g, 4, none⟩ = some (.bool (bitN q 4)) ∧ w'.cell? ⟨g, 5, none⟩ = some (.bool (bitN q 5)) ∧ w'.cell? ⟨g, 6, none⟩ = some (.bool (bitN q 6)) ∧ w'.cell? ⟨g, 7, none⟩ = some (.bool (true))) ∧ (g < w'.heap.size) ∧ Below w2.heap.size w2 w') (assumption) (fail)
    have hS1 : (fun w' => (w'.cell? ⟨g, 0, none⟩ = some (.bool (bitN q 0)) ∧ w'.cell? ⟨g, 1, none⟩ = some (.bool (bitN q 1)) ∧ w'.cell? ⟨g, 2, none⟩ = some (.bool (bitN q 2)) ∧ w'.cell? ⟨g, 3, none⟩ = some (.bool (o)) ∧ w'.cell? ⟨g, 4, none⟩ = some (.bool (bitN q 4)) ∧ w'.cell? ⟨g, 5, none⟩ = some (.bool (bitN q 5)) ∧ w'.cell? ⟨g, 6, none⟩ = some (.bool (bitN q 6)) ∧ w'.cell? ⟨g, 7, none⟩ = some (.bool (true))) ∧ (g < w'.heap.size) ∧ Below w2.heap.size w2 w') w2.drew.drew := ⟨hS0.1, hS0.2.1, hS0.2.2.drew⟩
    clear hS0
    go_wp2_with fail
    have er := ER.out
    have ew := EW.out
    have eu := EU.out
    go_region_held3 (fun w' => (w'.cell? ⟨g, 0, none⟩ = some (.bool (bitN q 0)) ∧ w'.cell? ⟨g, 1, none⟩ = some (.bool (bitN q 1)) ∧ w'.cell? ⟨g, 2, none⟩ = some (.bool (bitN q 2)) ∧ w'.cell? ⟨g, 3, none⟩ = some (.bool (o)) ∧ w'.cell? ⟨g, 4, none⟩ = some (.bool (bitN q 4)) ∧ w'.cell? ⟨g, 5, none⟩ = some (.bool (bitN q 5)) ∧ w'.cell? ⟨g, 6, none⟩ = some (.bool (bitN q 6)) ∧ w'.cell? ⟨g, 7, none⟩ = some (.bool (true))) ∧ (g < w'.heap.size) ∧ Below w2.heap.size w2 w') (assumption) (first | (go_at_call 32; refine (refEven_held HST.out _ _ (by assumption) (by assumption) (by assumption)).mono ?_; rintro e w5 ⟨rfl, hSE⟩))
    clear er ew eu
    have hS2 : (fun w' => (w'.cell? ⟨g, 0, none⟩ = some (.bool (bitN q 0)) ∧ w'.cell? ⟨g, 1, none⟩ = some (.bool (bitN q 1)) ∧ w'.cell? ⟨g, 2, none⟩ = some (.bool (bitN q 2)) ∧ w'.cell? ⟨g, 3, none⟩ = some (.bool (o)) ∧ w'.cell? ⟨g, 4, none⟩ = some (.bool (bitN q 4)) ∧ w'.cell? ⟨g, 5, none⟩ = some (.bool (bitN q 5)) ∧ w'.cell? ⟨g, 6, none⟩ = some (.bool (bitN q 6)) ∧ w'.cell? ⟨g, 7, none⟩ = some (.bool (true))) ∧ (g < w'.heap.size) ∧ Below w2.heap.size w2 w') w5.drew := ⟨hSE.1, hSE.2.1, hSE.2.2.drew⟩
    clear hS1
    go_wp2_with fail
    go_region_held3 (fun w' => (w'.cell? ⟨g, 0, none⟩ = some (.bool (bitN q 0)) ∧ w'.cell? ⟨g, 1, none⟩ = some (.bool (bitN q 1)) ∧ w'.cell? ⟨g, 2, none⟩ = some (.bool (bitN q 2)) ∧ w'.cell? ⟨g, 3, none⟩ = some (.bool (o)) ∧ w'.cell? ⟨g, 4, none⟩ = some (.bool (bitN q 4)) ∧ w'.cell? ⟨g, 5, none⟩ = some (.bool (bitN q 5)) ∧ w'.cell? ⟨g, 6, none⟩ = some (.bool (bitN q 6)) ∧ w'.cell? ⟨g, 7, none⟩ = some (.bool (true))) ∧ (g < w'.heap.size) ∧ Below w2.heap.size w2 w') (assumption) (first | (go_at_call 21; refine (flags_held HST.out _ _ _ _ _ _ _ _ _ (by assumption)).mono ?_; rintro e w' ⟨rfl, hSF⟩))
    go_wp2_with fail
    go_ret
    exact ⟨by rw [← HF.out]; rfl, below_step (below_step hb1 hb2) hSF.2.2⟩

set_option maxHeartbeats 1600000 in
theorem refPortAgain_2 (f v b pc q : Int) (o : Bool) (r : Int) (w : World) (b0 : 0 ≤ b) (b1 : b ≤ 255) (q0 : 0 ≤ q) (q1 : q ≤ 255) (hv : 128 ≤ v)
    (HA : Hid (∀ w, Calls Try.prog 15 #[.int .u8 f, .int .u16 pc] w fun e w' => e = .returned (.int .u8 q) ∧ Below w.heap.size w w'))
    (HO : Hid (bitN q 3 = o)) (HC : Hid (bitN q 7 = true)) (HF : Hid (flagsOf (bitN q 0) (bitN q 1) (bitN q 2) (b % 16 == 0) (bitN q 4) (bitN q 5 == evenB ((b + 7) % 8)) (bitN q 6) true = r)) :
    Calls Try.prog 17 #[.int .u8 f, .int .u8 v, .int .u8 b, .int .u16 pc] w fun e w' => e = .returned (.int .u8 r) ∧ Below w.heap.size w w' := by
    have m0 : 0 ≤ (b + 7) % 8 := by omega
    have m1 : (b + 7) % 8 ≤ 255 := by omega
    have ER := Lib.hid (IntWalk.rem_in (b + 7) 8 (by omega))
    have EW := Lib.hid (IntWalk.i64_in ((b + 7) % 8) (by omega))
    have EU := Lib.hid (IntWalk.u8_in ((b + 7) % 8) ⟨m0, m1⟩)
    have hd : decide (128 ≤ v) = true := decide_eq_true hv
    go_enter Try.func17, Try.ntmps17
    go_wp2_with fail
    refine (HA.out _).mono ?_
    rintro e w1 ⟨rfl, hb1⟩
    go_wp2_with fail
    refine (bits_any _ _ q0 q1).mono ?_
    rintro e w2 ⟨u, rfl, hw, hb2⟩
    obtain ⟨g, cap, rfl, hg, hc, hm, hcell⟩ := bits_cells hw
    have h3 := hcell 3 (by decide)
    have h7 := hcell 7 (by decide)
    rw [HO.out] at h3
    rw [HC.out] at h7
    have hst : ∀ u u' : World, (fun w' => (w'.cell? ⟨g, 0, none⟩ = some (.bool (bitN q 0)) ∧ w'.cell? ⟨g, 1, none⟩ = some (.bool (bitN q 1)) ∧ w'.cell? ⟨g, 2, none⟩ = some (.bool (bitN q 2)) ∧ w'.cell? ⟨g, 3, none⟩ = some (.bool (o)) ∧ w'.cell? ⟨g, 4, none⟩ = some (.bool (bitN q 4)) ∧ w'.cell? ⟨g, 5, none⟩ = some (.bool (bitN q 5)) ∧ w'.cell? ⟨g, 6, none⟩ = some (.bool (bitN q 6)) ∧ w'.cell? ⟨g, 7, none⟩ = some (.bool (true))) ∧ (g < w'.heap.size) ∧ Below w2.heap.size w2 w') u → Below u.heap.size u u' → (fun w' => (w'.cell? ⟨g, 0, none⟩ = some (.bool (bitN q 0)) ∧ w'.cell? ⟨g, 1, none⟩ = some (.bool (bitN q 1)) ∧ w'.cell? ⟨g, 2, none⟩ = some (.bool (bitN q 2)) ∧ w'.cell? ⟨g, 3, none⟩ = some (.bool (o)) ∧ w'.cell? ⟨g, 4, none⟩ = some (.bool (bitN q 4)) ∧ w'.cell? ⟨g, 5, none⟩ = some (.bool (bitN q 5)) ∧ w'.cell? ⟨g, 6, none⟩ = some (.bool (bitN q 6)) ∧ w'.cell? ⟨g, 7, none⟩ = some (.bool (true))) ∧ (g < w'.heap.size) ∧ Below w2.heap.size w2 w') u' := by
      rintro u u' ⟨⟨c0, c1, c2, c3, c4, c5, c6, c7⟩, kg, hB⟩ hb
      exact ⟨⟨(hb.cell kg).trans c0, (hb.cell kg).trans c1, (hb.cell kg).trans c2, (hb.cell kg).trans c3, (hb.cell kg).trans c4, (hb.cell kg).trans c5, (hb.cell kg).trans c6, (hb.cell kg).trans c7⟩, Nat.lt_of_lt_of_le kg hb.size, below_step hB hb⟩
    have hS0 : (fun w' => (w'.cell? ⟨g, 0, none⟩ = some (.bool (bitN q 0)) ∧ w'.cell? ⟨g, 1, none⟩ = some (.bool (bitN q 1)) ∧ w'.cell? ⟨g, 2, none⟩ = some (.bool (bitN q 2)) ∧ w'.cell? ⟨g, 3, none⟩ = some (.bool (o)) ∧ w'.cell? ⟨g, 4, none⟩ = some (.bool (bitN q 4)) ∧ w'.cell? ⟨g, 5, none⟩ = some (.bool (bitN q 5)) ∧ w'.cell? ⟨g, 6, none⟩ = some (.bool (bitN q 6)) ∧ w'.cell? ⟨g, 7, none⟩ = some (.bool (true))) ∧ (g < w'.heap.size) ∧ Below w2.heap.size w2 w') w2.drew := ⟨⟨hcell 0 (by decide), hcell 1 (by decide), hcell 2 (by decide), h3, hcell 4 (by decide), hcell 5 (by decide), hcell 6 (by decide), h7⟩, hg, (Below.refl _ _).drew⟩
    have HST := Lib.hid hst
    clear hst hcell hw
    have eb := IntWalk.i64_in b (by omega)
    go_wp2_with fail
    go_region_held3 (fun w' => (w'.cell? ⟨g, 0, none⟩ = some (.bool (bitN q 0)) ∧ w'.cell? ⟨g, 1, none⟩ = some (.bool (bitN q 1)) ∧ w'.cell? ⟨g, 2, none⟩ = some (.bool (bitN q 2)) ∧ w'.cell? ⟨g, 3, none⟩ = some (.bool (o)) ∧ w'.cell? ⟨g, 4, none⟩ = some (.bool (bitN q 4)) ∧ w'.cell? ⟨g, 5, none⟩ = some (.bool (bitN q 5)) ∧ w'.cell? ⟨g, 6, none⟩ = some (.bool (bitN q 6)) ∧ w'.cell? ⟨g, 7, none⟩ = some (.bool (true))) ∧ (g < w'.heap.size) ∧ Below w2.heap.size w2 w') (assumption) (fail)
    have hS1 : (fun w' => (w'.cell? ⟨g, 0, none⟩ = some (.bool (bitN q 0)) ∧ w'.cell? ⟨g, 1, none⟩ = some (.bool (bitN q 1)) ∧ w'.cell? ⟨g, 2, none⟩ = some (.bool (bitN q 2)) ∧ w'.cell? ⟨g, 3, none⟩ = some (.bool (o)) ∧ w'.cell? ⟨g, 4, none⟩ = some (.bool (bitN q 4)) ∧ w'.cell? ⟨g, 5, none⟩ = some (.bool (bitN q 5)) ∧ w'.cell? ⟨g, 6, none⟩ = some (.bool (bitN q 6)) ∧ w'.cell? ⟨g, 7, none⟩ = some (.bool (true))) ∧ (g < w'.heap.size) ∧ Below w2.heap.size w2 w') w2.drew.drew := ⟨hS0.1, hS0.2.1, hS0.2.2.drew⟩
    clear hS0
    go_wp2_with fail
    have er := ER.out
    have ew := EW.out
    have eu := EU.out
    go_region_held3 (fun w' => (w'.cell? ⟨g, 0, none⟩ = some (.bool (bitN q 0)) ∧ w'.cell? ⟨g, 1, none⟩ = some (.bool (bitN q 1)) ∧ w'.cell? ⟨g, 2, none⟩ = some (.bool (bitN q 2)) ∧ w'.cell? ⟨g, 3, none⟩ = some (.bool (o)) ∧ w'.cell? ⟨g, 4, none⟩ = some (.bool (bitN q 4)) ∧ w'.cell? ⟨g, 5, none⟩ = some (.bool (bitN q 5)) ∧ w'.cell? ⟨g, 6, none⟩ = some (.bool (bitN q 6)) ∧ w'.cell? ⟨g, 7, none⟩ = some (.bool (true))) ∧ (g < w'.heap.size) ∧ Below w2.heap.size w2 w') (assumption) (first | (go_at_call 32; refine (refEven_held HST.out _ _ (by assumption) (by assumption) (by assumption)).mono ?_; rintro e w5 ⟨rfl, hSE⟩))
    clear er ew eu
    have hS2 : (fun w' => (w'.cell? ⟨g, 0, none⟩ = some (.bool (bitN q 0)) ∧ w'.cell? ⟨g, 1, none⟩ = some (.bool (bitN q 1)) ∧ w'.cell? ⟨g, 2, none⟩ = some (.bool (bitN q 2)) ∧ w'.cell? ⟨g, 3, none⟩ = some (.bool (o)) ∧ w'.cell? ⟨g, 4, none⟩ = some (.bool (bitN q 4)) ∧ w'.cell? ⟨g, 5, none⟩ = some (.bool (bitN q 5)) ∧ w'.cell? ⟨g, 6, none⟩ = some (.bool (bitN q 6)) ∧ w'.cell? ⟨g, 7, none⟩ = some (.bool (true))) ∧ (g < w'.heap.size) ∧ Below w2.heap.size w2 w') w5.drew := ⟨hSE.1, hSE.2.1, hSE.2.2.drew⟩
    clear hS1
    go_wp2_with fail
    go_region_held3 (fun w' => (w'.cell? ⟨g, 0, none⟩ = some (.bool (bitN q 0)) ∧ w'.cell? ⟨g, 1, none⟩ = some (.bool (bitN q 1)) ∧ w'.cell? ⟨g, 2, none⟩ = some (.bool (bitN q 2)) ∧ w'.cell? ⟨g, 3, none⟩ = some (.bool (o)) ∧ w'.cell? ⟨g, 4, none⟩ = some (.bool (bitN q 4)) ∧ w'.cell? ⟨g, 5, none⟩ = some (.bool (bitN q 5)) ∧ w'.cell? ⟨g, 6, none⟩ = some (.bool (bitN q 6)) ∧ w'.cell? ⟨g, 7, none⟩ = some (.bool (true))) ∧ (g < w'.heap.size) ∧ Below w2.heap.size w2 w') (assumption) (first | (go_at_call 21; refine (flags_held HST.out _ _ _ _ _ _ _ _ _ (by assumption)).mono ?_; rintro e w' ⟨rfl, hSF⟩))
    go_wp2_with fail
    go_ret
    exact ⟨by rw [← HF.out]; rfl, below_step (below_step hb1 hb2) hSF.2.2⟩

theorem refPortAgain_any (f v b pc : Int) (w : World) (f0 : 0 ≤ f) (f1 : f ≤ 255) (v0 : 0 ≤ v) (v1 : v ≤ 255) (b0 : 0 ≤ b) (b1 : b ≤ 255) (p0 : 0 ≤ pc) (p1 : pc ≤ 65535) :
    Calls Try.prog 17 #[.int .u8 f, .int .u8 v, .int .u8 b, .int .u16 pc] w fun e w' => e = .returned (.int .u8 (onF f v b pc)) ∧ Below w.heap.size w w' := by
  have HA := Lib.hid fun w => refAgain_any f pc w f0 f1 p0 p1
  obtain ⟨q0, q1⟩ := againF_bd f pc
  obtain ⟨h0, h1, h2, h3, h4, h5, h6, h7⟩ := bit_flags (bitN f 0) (bitN f 1) (bitN (pc / 256) 2) (bitN f 3) (bitN (pc / 256) 4) (bitN f 5) (bitN f 6) (bitN f 7)
  have hv := high_bit v v0 v1
  have hon : onF f v b pc = flagsOf (bitN f 0) (bitN f 1) (bitN (pc / 256) 2) (onH f v b) (bitN (pc / 256) 4) (bitN f 5 == evenB (onN f v b % 8)) (bitN f 6) (bitN f 7) := rfl
  cases c : bitN f 7
  · refine refPortAgain_0 f v b pc (againF f pc) (bitN f 3) _ w b0 b1 q0 q1 HA (Lib.hid h3) (Lib.hid (h7.trans c)) (Lib.hid ?_)
    rw [hon]
    unfold againF onH onN
    rw [h0, h1, h2, h4, h5, h6, c]
    simp
  · cases s : bitN v 0
    · rw [s] at hv
      refine refPortAgain_1 f v b pc (againF f pc) (bitN f 3) _ w b0 b1 q0 q1 (by simpa using hv) HA (Lib.hid h3) (Lib.hid (h7.trans c)) (Lib.hid ?_)
      rw [hon]
      unfold againF onH onN
      rw [h0, h1, h2, h4, h5, h6, c, s]
      simp
    · rw [s] at hv
      refine refPortAgain_2 f v b pc (againF f pc) (bitN f 3) _ w b0 b1 q0 q1 (by simpa using hv) HA (Lib.hid h3) (Lib.hid (h7.trans c)) (Lib.hid ?_)
      rw [hon]
      unfold againF onH onN
      rw [h0, h1, h2, h4, h5, h6, c, s]
      simp

end Go.Proofs.Ytbpmhbgdainpdaa
