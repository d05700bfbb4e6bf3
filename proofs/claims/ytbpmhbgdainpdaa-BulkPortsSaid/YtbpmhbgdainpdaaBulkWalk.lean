/- The contracts of layer 5's calls. -/
import Derived.Test.YtbpmhbgdainpdaaBulkMath
import Derived.Test.YtbpmhbgdainpdaaAluWalk
import Derived.Test.YtbpmhbgdainpdaaFlagHeld
namespace Go.Proofs.Ytbpmhbgdainpdaa
open Go.RowKit

theorem has_held {S : World → Prop} (f b : Int) (r : Bool) (w : World) (h : (bits .and .u8 f b != 0) = r) (hw : S w) :
    Calls Try.prog 24 #[.int .u8 f, .int .u8 b] w fun e w' => e = .returned (.bool r) ∧ S w' :=
  (has_is f b r w h).mono fun _ _ ⟨he, e⟩ => ⟨he, e ▸ hw⟩
theorem with_held {S : World → Prop} (f b : Int) (o : Bool) (w : World) (hw : S w) :
    Calls Try.prog 26 #[.int .u8 f, .int .u8 b, .bool o] w fun e w' => e = .returned (.int .u8 (withB f b o)) ∧ S w' :=
  (with_any f b o w).mono fun _ _ ⟨he, e⟩ => ⟨he, e ▸ hw⟩

set_option maxHeartbeats 400000 in
theorem left_any (f bc r : Int) (w : World) (h : withB f 4 (!(bc == 0)) = r) :
    Calls Try.prog 18 #[.int .u8 f, .int .u16 bc] w fun e w' => e = .returned (.int .u8 r) ∧ w = w' := by
  have H := Lib.hid h
  go_enter Try.func18, Try.ntmps18
  go_wp2_with fail
  refine (with_is _ _ _ _ _ H.out).mono ?_
  rintro e w' ⟨rfl, rfl⟩
  go_wp2_with fail
  go_ret
  exact ⟨rfl, rfl⟩

def SumS (w w' : World) : Prop := w'.cell? ⟨w.heap.size + 1, 0, none⟩ = some (.int .u8 32) ∧ w'.cell? ⟨w.heap.size + 1, 1, none⟩ = some (.int .u8 8) ∧ w.heap.size + 1 < w'.heap.size ∧ Below w.heap.size w w'

set_option maxHeartbeats 1600000 in
theorem ofSum_any (f n : Int) (w : World) (n0 : 0 ≤ n) (n1 : n ≤ 255) :
    Calls Try.prog 19 #[.int .u8 f, .int .u8 n] w fun e w' => e = .returned (.int .u8 (sumF f n)) ∧ Below w.heap.size w w' := by
  have i0 : ∀ w : World, (Instr.index 44 (.agg #[.int .u8 2, .int .u8 8]) (.int .i64 0)).run Try.prog w = .ok (.int .u8 2) w := fun _ => by kernel_rfl
  have i1 : ∀ w : World, (Instr.index 44 (.agg #[.int .u8 2, .int .u8 8]) (.int .i64 1)).run Try.prog w = .ok (.int .u8 8) w := fun _ => by kernel_rfl
  have H2 := Lib.hid (has_2 n n0 n1)
  have H8 := Lib.hid (has_8 n n0 n1)
  go_enter Try.func19, Try.ntmps19
  go_wp2_with fail
  go_loopw [0, 12] (fun a i wr => ∃ k : Nat, k ≤ 2 ∧ i = .int .i64 k ∧ a = .int .u8 (sumTo f n k) ∧ SumS w wr) (fun _ i _ => 2 - (intOf i).toNat)
  case atStart => exact ⟨0, by omega, rfl, rfl, by simp, by simp, by simp, ((Below.refl _ _).alloc (Nat.le_refl _) _).alloc (by simp) _⟩
  case round =>
    obtain ⟨k, hk, rfl, rfl, hS⟩ := hrel
    have hk3 : k = 0 ∨ k = 1 ∨ k = 2 := by omega
    rcases hk3 with rfl | rfl | rfl
    · have hS0 : (fun w' => w'.cell? ⟨w.heap.size + 1, 0, none⟩ = some (.int .u8 32) ∧ w'.cell? ⟨w.heap.size + 1, 1, none⟩ = some (.int .u8 8) ∧ w.heap.size + 1 < w'.heap.size ∧ Below w.heap.size w w') wr.drew := ⟨hS.1, hS.2.1, hS.2.2.1, hS.2.2.2.drew⟩
      clear hS
      go_wp2_with fail
      go_region_held3 (fun w' => w'.cell? ⟨w.heap.size + 1, 0, none⟩ = some (.int .u8 32) ∧ w'.cell? ⟨w.heap.size + 1, 1, none⟩ = some (.int .u8 8) ∧ w.heap.size + 1 < w'.heap.size ∧ Below w.heap.size w w') (assumption) (first | (go_at_call 24; refine (has_held (S := (fun w' => w'.cell? ⟨w.heap.size + 1, 0, none⟩ = some (.int .u8 32) ∧ w'.cell? ⟨w.heap.size + 1, 1, none⟩ = some (.int .u8 8) ∧ w.heap.size + 1 < w'.heap.size ∧ Below w.heap.size w w')) _ _ _ _ H2.out (by assumption)).mono ?_; rintro e w' ⟨rfl, hSB⟩) | (go_at_call 26; refine (with_held (S := (fun w' => w'.cell? ⟨w.heap.size + 1, 0, none⟩ = some (.int .u8 32) ∧ w'.cell? ⟨w.heap.size + 1, 1, none⟩ = some (.int .u8 8) ∧ w.heap.size + 1 < w'.heap.size ∧ Below w.heap.size w w')) _ _ _ _ (by assumption)).mono ?_; rintro e w' ⟨rfl, hSF⟩))
      go_wp2_with fail
      go_roundw
      case rel => exact ⟨1, by omega, by go_num, rfl, hSF⟩
      case measure => simp [intOf]
    · have hS0 : (fun w' => w'.cell? ⟨w.heap.size + 1, 0, none⟩ = some (.int .u8 32) ∧ w'.cell? ⟨w.heap.size + 1, 1, none⟩ = some (.int .u8 8) ∧ w.heap.size + 1 < w'.heap.size ∧ Below w.heap.size w w') wr.drew := ⟨hS.1, hS.2.1, hS.2.2.1, hS.2.2.2.drew⟩
      clear hS
      go_wp2_with fail
      go_region_held3 (fun w' => w'.cell? ⟨w.heap.size + 1, 0, none⟩ = some (.int .u8 32) ∧ w'.cell? ⟨w.heap.size + 1, 1, none⟩ = some (.int .u8 8) ∧ w.heap.size + 1 < w'.heap.size ∧ Below w.heap.size w w') (assumption) (first | (go_at_call 24; refine (has_held (S := (fun w' => w'.cell? ⟨w.heap.size + 1, 0, none⟩ = some (.int .u8 32) ∧ w'.cell? ⟨w.heap.size + 1, 1, none⟩ = some (.int .u8 8) ∧ w.heap.size + 1 < w'.heap.size ∧ Below w.heap.size w w')) _ _ _ _ H8.out (by assumption)).mono ?_; rintro e w' ⟨rfl, hSB⟩) | (go_at_call 26; refine (with_held (S := (fun w' => w'.cell? ⟨w.heap.size + 1, 0, none⟩ = some (.int .u8 32) ∧ w'.cell? ⟨w.heap.size + 1, 1, none⟩ = some (.int .u8 8) ∧ w.heap.size + 1 < w'.heap.size ∧ Below w.heap.size w w')) _ _ _ _ (by assumption)).mono ?_; rintro e w' ⟨rfl, hSF⟩))
      go_wp2_with fail
      go_roundw
      case rel => exact ⟨2, by omega, by go_num, rfl, hSF⟩
      case measure => simp [intOf]
    · go_wp2_with fail
      go_ret
      exact ⟨rfl, hS.2.2.2⟩

end Go.Proofs.Ytbpmhbgdainpdaa
