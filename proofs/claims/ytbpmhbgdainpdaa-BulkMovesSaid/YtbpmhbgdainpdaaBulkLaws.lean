/- The walks of the laws of layer 5. -/
import Derived.Test.YtbpmhbgdainpdaaBulkOn
import Derived.Test.YtbpmhbgdainpdaaBulkFind
import Derived.Test.YtbpmhbgdainpdaaBulkRefOn
import Derived.Test.YtbpmhbgdainpdaaBulkMixed
namespace Go.Proofs.Ytbpmhbgdainpdaa
open Go.RowKit
set_option linter.unusedVariables false

theorem cell_box (w : World) (cs : Array Value) (t : TypeId) (i : Nat) {v : Value} (h : cs[i]? = some v) : (w.alloc (.cells cs t)).drew.cell? ⟨w.heap.size, i, none⟩ = some v := by
  have e : (w.alloc (.cells cs t)).drew.cell? ⟨w.heap.size, i, none⟩ = (w.alloc (.cells cs t)).cell? ⟨w.heap.size, i, none⟩ := rfl
  rw [e]
  simp [h]

set_option maxHeartbeats 3200000 in
theorem moves_walk (a v k b f bc pc : Int) (a0 : 0 ≤ a) (a1 : a ≤ 255) (v0 : 0 ≤ v) (v1 : v ≤ 255) (k0 : 0 ≤ k) (k1 : k ≤ 255) (b0 : 0 ≤ b) (b1 : b ≤ 255) (f0 : 0 ≤ f) (f1 : f ≤ 255) (bc0 : 0 ≤ bc) (bc1 : bc ≤ 65535) (pc0 : 0 ≤ pc) (pc1 : pc ≤ 65535) (w : World) :
    Calls Try.prog 3 #[.agg #[.int .u8 a, .int .u8 v, .int .u8 k, .int .u8 b, .int .u8 f, .int .u16 bc, .int .u16 pc]] w fun e w' => e = .returned (.bool true) ∧ Below w.heap.size w w' := by
  have H1 := fun w => copy_any a v bc f w bc0 f0 f1
  have H2 := fun w => refCopy_any a v bc f w a0 a1 v0 v1 f0 f1
  have H3 := fun w => find_any a v bc f w a0 a1 v0 v1 bc0 f0 f1
  have H4 := fun w => refFind_any a v bc f w a0 a1 v0 v1 f0 f1
  generalize copyF a v bc f = c at *
  generalize findF a v bc f = d at *
  have H1 := Lib.hid H1
  have H2 := Lib.hid H2
  have H3 := Lib.hid H3
  have H4 := Lib.hid H4
  have H5 := Lib.hid lives5_any
  have hcc : (c == c) = true := beq_self_eq_true c
  have hdd : (d == d) = true := beq_self_eq_true d
  have hst : ∀ u u' : World, (fun w' => (w'.cell? ⟨w.heap.size, 0, none⟩ = some (.int .u8 a) ∧ w'.cell? ⟨w.heap.size, 1, none⟩ = some (.int .u8 v) ∧ w'.cell? ⟨w.heap.size, 4, none⟩ = some (.int .u8 f) ∧ w'.cell? ⟨w.heap.size, 5, none⟩ = some (.int .u16 bc)) ∧ w.heap.size < w'.heap.size ∧ Below w.heap.size w w') u → Below u.heap.size u u' → (fun w' => (w'.cell? ⟨w.heap.size, 0, none⟩ = some (.int .u8 a) ∧ w'.cell? ⟨w.heap.size, 1, none⟩ = some (.int .u8 v) ∧ w'.cell? ⟨w.heap.size, 4, none⟩ = some (.int .u8 f) ∧ w'.cell? ⟨w.heap.size, 5, none⟩ = some (.int .u16 bc)) ∧ w.heap.size < w'.heap.size ∧ Below w.heap.size w w') u' := by
    rintro u u' ⟨⟨e0, e1, e2, e3⟩, kg, hB⟩ hb
    exact ⟨⟨(hb.cell kg).trans e0, (hb.cell kg).trans e1, (hb.cell kg).trans e2, (hb.cell kg).trans e3⟩, Nat.lt_of_lt_of_le kg hb.size, hB.trans (hb.mono hB.size)⟩
  have hS0 : (fun w' => (w'.cell? ⟨w.heap.size, 0, none⟩ = some (.int .u8 a) ∧ w'.cell? ⟨w.heap.size, 1, none⟩ = some (.int .u8 v) ∧ w'.cell? ⟨w.heap.size, 4, none⟩ = some (.int .u8 f) ∧ w'.cell? ⟨w.heap.size, 5, none⟩ = some (.int .u16 bc)) ∧ w.heap.size < w'.heap.size ∧ Below w.heap.size w w') (w.alloc (.cells #[.int .u8 a, .int .u8 v, .int .u8 k, .int .u8 b, .int .u8 f, .int .u16 bc, .int .u16 pc] 24)).drew := ⟨⟨cell_box _ _ _ _ rfl, cell_box _ _ _ _ rfl, cell_box _ _ _ _ rfl, cell_box _ _ _ _ rfl⟩, by simp [World.drew], ((Below.refl _ _).alloc (Nat.le_refl _) _).drew⟩
  have HST := Lib.hid hst
  clear hst
  go_enter Try.func3, Try.ntmps3
  go_wp2_with fail
  go_region_held3 (fun w' => (w'.cell? ⟨w.heap.size, 0, none⟩ = some (.int .u8 a) ∧ w'.cell? ⟨w.heap.size, 1, none⟩ = some (.int .u8 v) ∧ w'.cell? ⟨w.heap.size, 4, none⟩ = some (.int .u8 f) ∧ w'.cell? ⟨w.heap.size, 5, none⟩ = some (.int .u16 bc)) ∧ w.heap.size < w'.heap.size ∧ Below w.heap.size w w') (assumption) (first | (go_at_call 7; refine (held_of HST.out (H1.out _) (by assumption)).mono ?_; rintro e w' ⟨rfl, hSa⟩) | (go_at_call 8; refine (held_of HST.out (H2.out _) (by assumption)).mono ?_; rintro e w' ⟨rfl, hSb⟩) | (go_at_call 9; refine (held_of HST.out (H3.out _) (by assumption)).mono ?_; rintro e w' ⟨rfl, hSc⟩) | (go_at_call 10; refine (held_of HST.out (H4.out _) (by assumption)).mono ?_; rintro e w' ⟨rfl, hSd⟩) | (go_at_call 11; refine (held_of HST.out (H5.out _) (by assumption)).mono ?_; rintro e w' ⟨rfl, hSL⟩))
  go_wp2_with fail
  go_ret
  exact ⟨rfl, hSL.2.2⟩

set_option maxHeartbeats 3200000 in
theorem ports_walk (a v k b f bc pc : Int) (a0 : 0 ≤ a) (a1 : a ≤ 255) (v0 : 0 ≤ v) (v1 : v ≤ 255) (k0 : 0 ≤ k) (k1 : k ≤ 255) (b0 : 0 ≤ b) (b1 : b ≤ 255) (f0 : 0 ≤ f) (f1 : f ≤ 255) (bc0 : 0 ≤ bc) (bc1 : bc ≤ 65535) (pc0 : 0 ≤ pc) (pc1 : pc ≤ 65535) (w : World) :
    Calls Try.prog 4 #[.agg #[.int .u8 a, .int .u8 v, .int .u8 k, .int .u8 b, .int .u8 f, .int .u16 bc, .int .u16 pc]] w fun e w' => e = .returned (.bool true) ∧ Below w.heap.size w w' := by
  have H1 := fun w => port_any v k b w v0 v1 k0 k1 b0 b1
  have H2 := fun w => refPort_any v k b w v0 v1 k0 k1 b0 b1
  generalize portF v k b = c at *
  have H1 := Lib.hid H1
  have H2 := Lib.hid H2
  have H5 := Lib.hid lives5_any
  have hcc : (c == c) = true := beq_self_eq_true c
  have hst : ∀ u u' : World, (fun w' => (w'.cell? ⟨w.heap.size, 1, none⟩ = some (.int .u8 v) ∧ w'.cell? ⟨w.heap.size, 2, none⟩ = some (.int .u8 k) ∧ w'.cell? ⟨w.heap.size, 3, none⟩ = some (.int .u8 b)) ∧ w.heap.size < w'.heap.size ∧ Below w.heap.size w w') u → Below u.heap.size u u' → (fun w' => (w'.cell? ⟨w.heap.size, 1, none⟩ = some (.int .u8 v) ∧ w'.cell? ⟨w.heap.size, 2, none⟩ = some (.int .u8 k) ∧ w'.cell? ⟨w.heap.size, 3, none⟩ = some (.int .u8 b)) ∧ w.heap.size < w'.heap.size ∧ Below w.heap.size w w') u' := by
    rintro u u' ⟨⟨e0, e1, e2⟩, kg, hB⟩ hb
    exact ⟨⟨(hb.cell kg).trans e0, (hb.cell kg).trans e1, (hb.cell kg).trans e2⟩, Nat.lt_of_lt_of_le kg hb.size, hB.trans (hb.mono hB.size)⟩
  have hS0 : (fun w' => (w'.cell? ⟨w.heap.size, 1, none⟩ = some (.int .u8 v) ∧ w'.cell? ⟨w.heap.size, 2, none⟩ = some (.int .u8 k) ∧ w'.cell? ⟨w.heap.size, 3, none⟩ = some (.int .u8 b)) ∧ w.heap.size < w'.heap.size ∧ Below w.heap.size w w') (w.alloc (.cells #[.int .u8 a, .int .u8 v, .int .u8 k, .int .u8 b, .int .u8 f, .int .u16 bc, .int .u16 pc] 24)).drew := ⟨⟨cell_box _ _ _ _ rfl, cell_box _ _ _ _ rfl, cell_box _ _ _ _ rfl⟩, by simp [World.drew], ((Below.refl _ _).alloc (Nat.le_refl _) _).drew⟩
  have HST := Lib.hid hst
  clear hst
  go_enter Try.func4, Try.ntmps4
  go_wp2_with fail
  go_region_held3 (fun w' => (w'.cell? ⟨w.heap.size, 1, none⟩ = some (.int .u8 v) ∧ w'.cell? ⟨w.heap.size, 2, none⟩ = some (.int .u8 k) ∧ w'.cell? ⟨w.heap.size, 3, none⟩ = some (.int .u8 b)) ∧ w.heap.size < w'.heap.size ∧ Below w.heap.size w w') (assumption) (first | (go_at_call 12; refine (held_same HST.out (H1.out _) (by assumption)).mono ?_; rintro e w' ⟨rfl, hSa⟩) | (go_at_call 13; refine (held_of HST.out (H2.out _) (by assumption)).mono ?_; rintro e w' ⟨rfl, hSb⟩) | (go_at_call 11; refine (held_of HST.out (H5.out _) (by assumption)).mono ?_; rintro e w' ⟨rfl, hSL⟩))
  go_wp2_with fail
  go_ret
  exact ⟨rfl, hSL.2.2⟩

set_option maxHeartbeats 3200000 in
theorem again_walk (a v k b f bc pc : Int) (a0 : 0 ≤ a) (a1 : a ≤ 255) (v0 : 0 ≤ v) (v1 : v ≤ 255) (k0 : 0 ≤ k) (k1 : k ≤ 255) (b0 : 0 ≤ b) (b1 : b ≤ 255) (f0 : 0 ≤ f) (f1 : f ≤ 255) (bc0 : 0 ≤ bc) (bc1 : bc ≤ 65535) (pc0 : 0 ≤ pc) (pc1 : pc ≤ 65535) (w : World) :
    Calls Try.prog 5 #[.agg #[.int .u8 a, .int .u8 v, .int .u8 k, .int .u8 b, .int .u8 f, .int .u16 bc, .int .u16 pc]] w fun e w' => e = .returned (.bool true) ∧ Below w.heap.size w w' := by
  have H1 := fun w => again_any f pc w f0 f1 pc0 pc1
  have H2 := fun w => refAgain_any f pc w f0 f1 pc0 pc1
  have H3 := fun w => portAgain_any f v b pc w f0 f1 v0 v1 b0 b1 pc0 pc1
  have H4 := fun w => refPortAgain_any f v b pc w f0 f1 v0 v1 b0 b1 pc0 pc1
  generalize againF f pc = c at *
  generalize onF f v b pc = d at *
  have H1 := Lib.hid H1
  have H2 := Lib.hid H2
  have H3 := Lib.hid H3
  have H4 := Lib.hid H4
  have H5 := Lib.hid lives5_any
  have hcc : (c == c) = true := beq_self_eq_true c
  have hdd : (d == d) = true := beq_self_eq_true d
  have hst : ∀ u u' : World, (fun w' => (w'.cell? ⟨w.heap.size, 1, none⟩ = some (.int .u8 v) ∧ w'.cell? ⟨w.heap.size, 3, none⟩ = some (.int .u8 b) ∧ w'.cell? ⟨w.heap.size, 4, none⟩ = some (.int .u8 f) ∧ w'.cell? ⟨w.heap.size, 6, none⟩ = some (.int .u16 pc)) ∧ w.heap.size < w'.heap.size ∧ Below w.heap.size w w') u → Below u.heap.size u u' → (fun w' => (w'.cell? ⟨w.heap.size, 1, none⟩ = some (.int .u8 v) ∧ w'.cell? ⟨w.heap.size, 3, none⟩ = some (.int .u8 b) ∧ w'.cell? ⟨w.heap.size, 4, none⟩ = some (.int .u8 f) ∧ w'.cell? ⟨w.heap.size, 6, none⟩ = some (.int .u16 pc)) ∧ w.heap.size < w'.heap.size ∧ Below w.heap.size w w') u' := by
    rintro u u' ⟨⟨e0, e1, e2, e3⟩, kg, hB⟩ hb
    exact ⟨⟨(hb.cell kg).trans e0, (hb.cell kg).trans e1, (hb.cell kg).trans e2, (hb.cell kg).trans e3⟩, Nat.lt_of_lt_of_le kg hb.size, hB.trans (hb.mono hB.size)⟩
  have hS0 : (fun w' => (w'.cell? ⟨w.heap.size, 1, none⟩ = some (.int .u8 v) ∧ w'.cell? ⟨w.heap.size, 3, none⟩ = some (.int .u8 b) ∧ w'.cell? ⟨w.heap.size, 4, none⟩ = some (.int .u8 f) ∧ w'.cell? ⟨w.heap.size, 6, none⟩ = some (.int .u16 pc)) ∧ w.heap.size < w'.heap.size ∧ Below w.heap.size w w') (w.alloc (.cells #[.int .u8 a, .int .u8 v, .int .u8 k, .int .u8 b, .int .u8 f, .int .u16 bc, .int .u16 pc] 24)).drew := ⟨⟨cell_box _ _ _ _ rfl, cell_box _ _ _ _ rfl, cell_box _ _ _ _ rfl, cell_box _ _ _ _ rfl⟩, by simp [World.drew], ((Below.refl _ _).alloc (Nat.le_refl _) _).drew⟩
  have HST := Lib.hid hst
  clear hst
  go_enter Try.func5, Try.ntmps5
  go_wp2_with fail
  go_region_held3 (fun w' => (w'.cell? ⟨w.heap.size, 1, none⟩ = some (.int .u8 v) ∧ w'.cell? ⟨w.heap.size, 3, none⟩ = some (.int .u8 b) ∧ w'.cell? ⟨w.heap.size, 4, none⟩ = some (.int .u8 f) ∧ w'.cell? ⟨w.heap.size, 6, none⟩ = some (.int .u16 pc)) ∧ w.heap.size < w'.heap.size ∧ Below w.heap.size w w') (assumption) (first | (go_at_call 14; refine (held_same HST.out (H1.out _) (by assumption)).mono ?_; rintro e w' ⟨rfl, hSa⟩) | (go_at_call 15; refine (held_of HST.out (H2.out _) (by assumption)).mono ?_; rintro e w' ⟨rfl, hSb⟩) | (go_at_call 16; refine (held_same HST.out (H3.out _) (by assumption)).mono ?_; rintro e w' ⟨rfl, hSc⟩) | (go_at_call 17; refine (held_of HST.out (H4.out _) (by assumption)).mono ?_; rintro e w' ⟨rfl, hSd⟩) | (go_at_call 11; refine (held_of HST.out (H5.out _) (by assumption)).mono ?_; rintro e w' ⟨rfl, hSL⟩))
  go_wp2_with fail
  go_ret
  exact ⟨rfl, hSL.2.2⟩

end Go.Proofs.Ytbpmhbgdainpdaa
