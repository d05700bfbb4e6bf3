/- The document's Find: its contract. -/
import Derived.Test.YtbpmhbgdainpdaaBulkRef
import Derived.IntWalk
namespace Go.Proofs.Ytbpmhbgdainpdaa
open Go.RowKit

theorem find_parts (a v bc f : Int) : flagsOf (bitN (subF a v false) 0) (bitN (subF a v false) 1) (bitN (findN a v) 6) (findH a v) (bitN (findN a v) 4) (decide (0 < bc)) true (bitN f 7) = findF a v bc f ∧ bitN (subF a v false) 3 = findH a v := by
  obtain ⟨h0, h1, -, h3, -⟩ := bit_flags (bitN (subR a v false) 0) (subR a v false == 0) (bitN (subR a v false) 2) (decide (a % 16 - v % 16 - cN false < 0)) (bitN (subR a v false) 4) (outB (sgn a - sgn v - cN false)) true (decide (a - v - cN false < 0))
  unfold subF
  rw [h0, h1, h3]
  exact ⟨rfl, rfl⟩

set_option maxHeartbeats 1600000 in
theorem refFind_any (a v bc f : Int) (w : World) (a0 : 0 ≤ a) (a1 : a ≤ 255) (v0 : 0 ≤ v) (v1 : v ≤ 255) (f0 : 0 ≤ f) (f1 : f ≤ 255) :
    Calls Try.prog 10 #[.int .u8 a, .int .u8 v, .int .u16 bc, .int .u8 f] w fun e w' => e = .returned (.int .u8 (findF a v bc f)) ∧ Below w.heap.size w w' := by
  obtain ⟨hF, hB⟩ := find_parts a v bc f
  obtain ⟨n0, n1⟩ := findN_bd a v
  obtain ⟨r0, r1⟩ := subR_bd a v false
  obtain ⟨q0, q1⟩ := subF_bd a v false
  have hn : findN a v = if findH a v then (subR a v false + 255) % 256 else subR a v false := rfl
  have HO := fun w => refSub_any a v false w a0 a1 v0 v1
  generalize subR a v false = r at *
  generalize subF a v false = q at *
  generalize findN a v = n at *
  generalize findH a v = o at *
  generalize findF a v bc f = z at *
  have HO := Lib.hid HO
  have HF := Lib.hid hF
  have HB := Lib.hid hB
  clear hF hB
  cases o
  · simp only [Bool.false_eq_true, if_false] at hn
    subst hn
    have en := IntWalk.u8_in n ⟨n0, n1⟩
    go_enter Try.func10, Try.ntmps10
    go_wp2_with fail
    refine (HO.out _).mono ?_
    rintro e w1 ⟨rfl, hb1⟩
    go_wp2_with fail
    refine (bits_any _ _ q0 q1).mono ?_
    rintro e w2 ⟨v, rfl, hv, hb2⟩
    obtain ⟨g, cap, rfl, hg, hc, hm, hcell⟩ := bits_cells hv
    have h3 := hcell 3 (by decide)
    rw [HB.out] at h3
    have hst : ∀ u u' : World, (fun w' => (w'.cell? ⟨g, 0, none⟩ = some (.bool (bitN q 0)) ∧ w'.cell? ⟨g, 1, none⟩ = some (.bool (bitN q 1)) ∧ w'.cell? ⟨g, 3, none⟩ = some (.bool (false))) ∧ (g < w'.heap.size) ∧ Below w2.heap.size w2 w') u → Below u.heap.size u u' → (fun w' => (w'.cell? ⟨g, 0, none⟩ = some (.bool (bitN q 0)) ∧ w'.cell? ⟨g, 1, none⟩ = some (.bool (bitN q 1)) ∧ w'.cell? ⟨g, 3, none⟩ = some (.bool (false))) ∧ (g < w'.heap.size) ∧ Below w2.heap.size w2 w') u' := by
      rintro u u' ⟨⟨c0, c1, c2⟩, kg, hB⟩ hb
      exact ⟨⟨(hb.cell kg).trans c0, (hb.cell kg).trans c1, (hb.cell kg).trans c2⟩, Nat.lt_of_lt_of_le kg hb.size, below_step hB hb⟩
    have hS0 : (fun w' => (w'.cell? ⟨g, 0, none⟩ = some (.bool (bitN q 0)) ∧ w'.cell? ⟨g, 1, none⟩ = some (.bool (bitN q 1)) ∧ w'.cell? ⟨g, 3, none⟩ = some (.bool (false))) ∧ (g < w'.heap.size) ∧ Below w2.heap.size w2 w') w2.drew := ⟨⟨hcell 0 (by decide), hcell 1 (by decide), h3⟩, hg, (Below.refl _ _).drew⟩
    have HST := Lib.hid hst
    clear hst hcell hv
    go_wp2_with fail
    go_region_held3 (fun w' => (w'.cell? ⟨g, 0, none⟩ = some (.bool (bitN q 0)) ∧ w'.cell? ⟨g, 1, none⟩ = some (.bool (bitN q 1)) ∧ w'.cell? ⟨g, 3, none⟩ = some (.bool (false))) ∧ (g < w'.heap.size) ∧ Below w2.heap.size w2 w') (assumption) (first | (go_at_call 22; refine (bit_held HST.out _ _ _ (by assumption) (by assumption) (by decide) (by decide) (by assumption)).mono ?_; rintro e w' ⟨rfl, hSB⟩) | (go_at_call 21; refine (flags_held HST.out _ _ _ _ _ _ _ _ _ (by assumption)).mono ?_; rintro e w' ⟨rfl, hSF⟩))
    go_wp2_with fail
    go_ret
    exact ⟨by rw [← HF.out]; rfl, below_step (below_step hb1 hb2) hSF.2.2⟩
  · simp only [if_true] at hn
    have en : (r + 255) % 256 = n := hn.symm
    have eu := IntWalk.u8_in n ⟨n0, n1⟩
    clear hn
    go_enter Try.func10, Try.ntmps10
    go_wp2_with fail
    refine (HO.out _).mono ?_
    rintro e w1 ⟨rfl, hb1⟩
    go_wp2_with fail
    refine (bits_any _ _ q0 q1).mono ?_
    rintro e w2 ⟨v, rfl, hv, hb2⟩
    obtain ⟨g, cap, rfl, hg, hc, hm, hcell⟩ := bits_cells hv
    have h3 := hcell 3 (by decide)
    rw [HB.out] at h3
    have hst : ∀ u u' : World, (fun w' => (w'.cell? ⟨g, 0, none⟩ = some (.bool (bitN q 0)) ∧ w'.cell? ⟨g, 1, none⟩ = some (.bool (bitN q 1)) ∧ w'.cell? ⟨g, 3, none⟩ = some (.bool (true))) ∧ (g < w'.heap.size) ∧ Below w2.heap.size w2 w') u → Below u.heap.size u u' → (fun w' => (w'.cell? ⟨g, 0, none⟩ = some (.bool (bitN q 0)) ∧ w'.cell? ⟨g, 1, none⟩ = some (.bool (bitN q 1)) ∧ w'.cell? ⟨g, 3, none⟩ = some (.bool (true))) ∧ (g < w'.heap.size) ∧ Below w2.heap.size w2 w') u' := by
      rintro u u' ⟨⟨c0, c1, c2⟩, kg, hB⟩ hb
      exact ⟨⟨(hb.cell kg).trans c0, (hb.cell kg).trans c1, (hb.cell kg).trans c2⟩, Nat.lt_of_lt_of_le kg hb.size, below_step hB hb⟩
    have hS0 : (fun w' => (w'.cell? ⟨g, 0, none⟩ = some (.bool (bitN q 0)) ∧ w'.cell? ⟨g, 1, none⟩ = some (.bool (bitN q 1)) ∧ w'.cell? ⟨g, 3, none⟩ = some (.bool (true))) ∧ (g < w'.heap.size) ∧ Below w2.heap.size w2 w') w2.drew := ⟨⟨hcell 0 (by decide), hcell 1 (by decide), h3⟩, hg, (Below.refl _ _).drew⟩
    have HST := Lib.hid hst
    clear hst hcell hv
    go_wp2_with fail
    go_region_held3 (fun w' => (w'.cell? ⟨g, 0, none⟩ = some (.bool (bitN q 0)) ∧ w'.cell? ⟨g, 1, none⟩ = some (.bool (bitN q 1)) ∧ w'.cell? ⟨g, 3, none⟩ = some (.bool (true))) ∧ (g < w'.heap.size) ∧ Below w2.heap.size w2 w') (assumption) (first | (go_at_call 22; refine (bit_held HST.out _ _ _ (by assumption) (by assumption) (by decide) (by decide) (by assumption)).mono ?_; rintro e w' ⟨rfl, hSB⟩) | (go_at_call 21; refine (flags_held HST.out _ _ _ _ _ _ _ _ _ (by assumption)).mono ?_; rintro e w' ⟨rfl, hSF⟩))
    go_wp2_with fail
    go_ret
    exact ⟨by rw [← HF.out]; rfl, below_step (below_step hb1 hb2) hSF.2.2⟩

end Go.Proofs.Ytbpmhbgdainpdaa
