/- The document's Copy and Again: their contracts. -/
import Derived.Test.YtbpmhbgdainpdaaBulkMath
import Derived.Test.YtbpmhbgdainpdaaAluRef
namespace Go.Proofs.Ytbpmhbgdainpdaa
open Go.RowKit

set_option maxHeartbeats 800000 in
theorem refCopy_any (a v bc f : Int) (w : World) (a0 : 0 ≤ a) (a1 : a ≤ 255) (v0 : 0 ≤ v) (v1 : v ≤ 255) (f0 : 0 ≤ f) (f1 : f ≤ 255) :
    Calls Try.prog 8 #[.int .u8 a, .int .u8 v, .int .u16 bc, .int .u8 f] w fun e w' => e = .returned (.int .u8 (copyF a v bc f)) ∧ Below w.heap.size w w' := by
  have n0 : 0 ≤ (a + v) % 256 := by omega
  have n1 : (a + v) % 256 ≤ 255 := by omega
  go_enter Try.func8, Try.ntmps8
  go_wp2_with fail
  refine (bits_any _ _ f0 f1).mono ?_
  rintro e w1 ⟨v, rfl, hv, hb1⟩
  obtain ⟨g, cap, rfl, hg, hc, hm, hcell⟩ := bits_cells hv
  have hst : ∀ u u' : World, (fun w' => (w'.cell? ⟨g, 0, none⟩ = some (.bool (bitN f 0)) ∧ w'.cell? ⟨g, 1, none⟩ = some (.bool (bitN f 1)) ∧ w'.cell? ⟨g, 7, none⟩ = some (.bool (bitN f 7))) ∧ (g < w'.heap.size) ∧ Below w1.heap.size w1 w') u → Below u.heap.size u u' → (fun w' => (w'.cell? ⟨g, 0, none⟩ = some (.bool (bitN f 0)) ∧ w'.cell? ⟨g, 1, none⟩ = some (.bool (bitN f 1)) ∧ w'.cell? ⟨g, 7, none⟩ = some (.bool (bitN f 7))) ∧ (g < w'.heap.size) ∧ Below w1.heap.size w1 w') u' := by
    rintro u u' ⟨⟨c0, c1, c2⟩, kg, hB⟩ hb
    exact ⟨⟨(hb.cell kg).trans c0, (hb.cell kg).trans c1, (hb.cell kg).trans c2⟩, Nat.lt_of_lt_of_le kg hb.size, below_step hB hb⟩
  have hS0 : (fun w' => (w'.cell? ⟨g, 0, none⟩ = some (.bool (bitN f 0)) ∧ w'.cell? ⟨g, 1, none⟩ = some (.bool (bitN f 1)) ∧ w'.cell? ⟨g, 7, none⟩ = some (.bool (bitN f 7))) ∧ (g < w'.heap.size) ∧ Below w1.heap.size w1 w') w1.drew := ⟨⟨hcell 0 (by decide), hcell 1 (by decide), hcell 7 (by decide)⟩, hg, (Below.refl _ _).drew⟩
  have HST := Lib.hid hst
  clear hst hcell hv
  go_wp2_with fail
  go_region_held3 (fun w' => (w'.cell? ⟨g, 0, none⟩ = some (.bool (bitN f 0)) ∧ w'.cell? ⟨g, 1, none⟩ = some (.bool (bitN f 1)) ∧ w'.cell? ⟨g, 7, none⟩ = some (.bool (bitN f 7))) ∧ (g < w'.heap.size) ∧ Below w1.heap.size w1 w') (assumption) (first | (go_at_call 22; refine (bit_held HST.out _ _ _ (by assumption) (by assumption) (by decide) (by decide) (by assumption)).mono ?_; rintro e w' ⟨rfl, hSB⟩) | (go_at_call 21; refine (flags_held HST.out _ _ _ _ _ _ _ _ _ (by assumption)).mono ?_; rintro e w' ⟨rfl, hSF⟩))
  go_wp2_with fail
  go_ret
  exact ⟨rfl, below_step hb1 hSF.2.2⟩

set_option maxHeartbeats 800000 in
theorem refAgain_any (f pc : Int) (w : World) (f0 : 0 ≤ f) (f1 : f ≤ 255) (p0 : 0 ≤ pc) (p1 : pc ≤ 65535) :
    Calls Try.prog 15 #[.int .u8 f, .int .u16 pc] w fun e w' => e = .returned (.int .u8 (againF f pc)) ∧ Below w.heap.size w w' := by
  have n0 : 0 ≤ pc / 256 := by omega
  have n1 : pc / 256 ≤ 255 := by omega
  go_enter Try.func15, Try.ntmps15
  go_wp2_with fail
  refine (bits_any _ _ f0 f1).mono ?_
  rintro e w1 ⟨v, rfl, hv, hb1⟩
  obtain ⟨g, cap, rfl, hg, hc, hm, hcell⟩ := bits_cells hv
  have hst : ∀ u u' : World, (fun w' => (w'.cell? ⟨g, 0, none⟩ = some (.bool (bitN f 0)) ∧ w'.cell? ⟨g, 1, none⟩ = some (.bool (bitN f 1)) ∧ w'.cell? ⟨g, 3, none⟩ = some (.bool (bitN f 3)) ∧ w'.cell? ⟨g, 5, none⟩ = some (.bool (bitN f 5)) ∧ w'.cell? ⟨g, 6, none⟩ = some (.bool (bitN f 6)) ∧ w'.cell? ⟨g, 7, none⟩ = some (.bool (bitN f 7))) ∧ (g < w'.heap.size) ∧ Below w1.heap.size w1 w') u → Below u.heap.size u u' → (fun w' => (w'.cell? ⟨g, 0, none⟩ = some (.bool (bitN f 0)) ∧ w'.cell? ⟨g, 1, none⟩ = some (.bool (bitN f 1)) ∧ w'.cell? ⟨g, 3, none⟩ = some (.bool (bitN f 3)) ∧ w'.cell? ⟨g, 5, none⟩ = some (.bool (bitN f 5)) ∧ w'.cell? ⟨g, 6, none⟩ = some (.bool (bitN f 6)) ∧ w'.cell? ⟨g, 7, none⟩ = some (.bool (bitN f 7))) ∧ (g < w'.heap.size) ∧ Below w1.heap.size w1 w') u' := by
    rintro u u' ⟨⟨c0, c1, c2, c3, c4, c5⟩, kg, hB⟩ hb
    exact ⟨⟨(hb.cell kg).trans c0, (hb.cell kg).trans c1, (hb.cell kg).trans c2, (hb.cell kg).trans c3, (hb.cell kg).trans c4, (hb.cell kg).trans c5⟩, Nat.lt_of_lt_of_le kg hb.size, below_step hB hb⟩
  have hS0 : (fun w' => (w'.cell? ⟨g, 0, none⟩ = some (.bool (bitN f 0)) ∧ w'.cell? ⟨g, 1, none⟩ = some (.bool (bitN f 1)) ∧ w'.cell? ⟨g, 3, none⟩ = some (.bool (bitN f 3)) ∧ w'.cell? ⟨g, 5, none⟩ = some (.bool (bitN f 5)) ∧ w'.cell? ⟨g, 6, none⟩ = some (.bool (bitN f 6)) ∧ w'.cell? ⟨g, 7, none⟩ = some (.bool (bitN f 7))) ∧ (g < w'.heap.size) ∧ Below w1.heap.size w1 w') w1.drew := ⟨⟨hcell 0 (by decide), hcell 1 (by decide), hcell 3 (by decide), hcell 5 (by decide), hcell 6 (by decide), hcell 7 (by decide)⟩, hg, (Below.refl _ _).drew⟩
  have HST := Lib.hid hst
  clear hst hcell hv
  go_wp2_with fail
  go_region_held3 (fun w' => (w'.cell? ⟨g, 0, none⟩ = some (.bool (bitN f 0)) ∧ w'.cell? ⟨g, 1, none⟩ = some (.bool (bitN f 1)) ∧ w'.cell? ⟨g, 3, none⟩ = some (.bool (bitN f 3)) ∧ w'.cell? ⟨g, 5, none⟩ = some (.bool (bitN f 5)) ∧ w'.cell? ⟨g, 6, none⟩ = some (.bool (bitN f 6)) ∧ w'.cell? ⟨g, 7, none⟩ = some (.bool (bitN f 7))) ∧ (g < w'.heap.size) ∧ Below w1.heap.size w1 w') (assumption) (first | (go_at_call 22; refine (bit_held HST.out _ _ _ (by assumption) (by assumption) (by decide) (by decide) (by assumption)).mono ?_; rintro e w' ⟨rfl, hSB⟩) | (go_at_call 21; refine (flags_held HST.out _ _ _ _ _ _ _ _ _ (by assumption)).mono ?_; rintro e w' ⟨rfl, hSF⟩))
  go_wp2_with fail
  go_ret
  exact ⟨rfl, below_step hb1 hSF.2.2⟩

end Go.Proofs.Ytbpmhbgdainpdaa
