/- The document's Less, Plain, More, Time of layer 8: their contracts. -/
import Derived.Test.YthmkfojjlcinkaaDoorMicroMath
import Derived.Test.YthmkfojjlcinkaaDoorOpPlainL
import Derived.BigRegion
namespace Go.Proofs.YthmkfojjlcinkaaDoor
open Go.RowKit
set_option linter.unusedVariables false

/-- A callee that answers a list of numbers of its own. -/
def Nums (n : Nat) (L : List Int) (w : World) (e : Ending) (w' : World) : Prop := ∃ g, e = .returned (.slice (some ⟨g, 0, none⟩) n n) ∧ g < w'.heap.size ∧ (∀ j, j < n → w'.cell? ⟨g, j, none⟩ = some (.int .i64 (L.getD j 0))) ∧ Below w.heap.size w w'
theorem nums_made (w : World) (L : List Int) (t : TypeId) : ∀ j, j < L.length → (w.alloc (.cells (L.map fun l => Value.int .i64 l).toArray t)).cell? ⟨w.heap.size, j, none⟩ = some (.int .i64 (L.getD j 0)) := by
  intro j hj
  rw [cell_of_row _ _ j _ t (0, 0) (heap_alloc_new _ _)]
  simp [hj]
set_option maxRecDepth 100000 in
set_option maxRecDepth 100000 in
set_option maxHeartbeats 1600000 in
theorem low_ref (w : World) : Calls Tryd.prog 39 #[] w (Nums 64 lowT w) := by
  go_enter Tryd.func39, Tryd.ntmps39
  go_wp2_with fail
  go_ret
  exact ⟨w.heap.size, rfl, by simp, nums_made w lowT 3, balloc w _⟩
set_option maxRecDepth 100000 in
set_option maxRecDepth 100000 in
set_option maxHeartbeats 1600000 in
theorem high_ref (w : World) : Calls Tryd.prog 40 #[] w (Nums 64 highT w) := by
  go_enter Tryd.func40, Tryd.ntmps40
  go_wp2_with fail
  go_ret
  exact ⟨w.heap.size, rfl, by simp, nums_made w highT 3, balloc w _⟩

set_option maxRecDepth 100000 in
set_option maxHeartbeats 800000 in
theorem plain8a (c : Nat) (r : Int) (w : World) (h : c < 64) (hr : lowT.getD c 0 = r) : Calls Tryd.prog 20 #[.int .u8 c] w fun e w' => e = .returned (.int .i64 r) ∧ Below w.heap.size w w' := by
  have HR := Lib.hid hr
  clear hr
  have c0 : (0 : Int) ≤ c := by omega
  have cv : IntKind.i64.wrap (c : Int) = c := IntWalk.i64_in _ (by omega)
  go_enter Tryd.func20, Tryd.ntmps20
  go_wp2_with fail
  refine (low_ref _).mono ?_
  rintro e w1 ⟨g, rfl, hg, hT, hb⟩
  have ck := (hT c h).trans (by rw [HR.out])
  clear hT
  go_wp2_with fail
  go_ret
  exact ⟨rfl, hb⟩
set_option maxRecDepth 100000 in
set_option maxHeartbeats 800000 in
theorem plain8b (c : Nat) (r : Int) (w : World) (h : 192 ≤ c) (hc : c < 256) (hr : highT.getD (c - 192) 0 = r) : Calls Tryd.prog 20 #[.int .u8 c] w fun e w' => e = .returned (.int .i64 r) ∧ Below w.heap.size w w' := by
  have HR := Lib.hid hr
  clear hr
  have c0 : (0 : Int) ≤ c := by omega
  have cv : IntKind.i64.wrap (c : Int) = c := IntWalk.i64_in _ (by omega)
  go_enter Tryd.func20, Tryd.ntmps20
  go_wp2_with fail
  refine (high_ref _).mono ?_
  rintro e w1 ⟨g, rfl, hg, hT, hb⟩
  have ck := (hT (c - 192) (by omega)).trans (by rw [HR.out])
  clear hT
  go_wp2_with fail
  go_ret
  exact ⟨rfl, hb⟩
set_option maxRecDepth 100000 in
set_option maxHeartbeats 800000 in
theorem plain8c (c : Nat) (m : Bool) (w : World) (h : 64 ≤ c) (hc : c < 192) (hm : memC c = m) : Calls Tryd.prog 20 #[.int .u8 c] w fun e w' => e = .returned (.int .i64 (if m = true then 7 else 4)) ∧ Below w.heap.size w w' := by
  have HM := Lib.hid hm
  have c0 : (0 : Int) ≤ c := by omega
  have cv : IntKind.i64.wrap (c : Int) = c := IntWalk.i64_in _ (by omega)
  have h256 : c < 256 := by omega
  clear hm
  cases m with
  | true =>
    go_enter Tryd.func20, Tryd.ntmps20
    go_wp2_with fail
    refine (refMemIs c true _ h256 HM.out).mono ?_
    rintro e w1 ⟨rfl, hb1⟩
    go_wp2_with fail
    go_ret
    exact ⟨rfl, hb1⟩
  | false =>
    go_enter Tryd.func20, Tryd.ntmps20
    go_wp2_with fail
    refine (refMemIs c false _ h256 HM.out).mono ?_
    rintro e w1 ⟨rfl, hb1⟩
    go_wp2_with fail
    go_ret
    exact ⟨rfl, hb1⟩
theorem plain8 (c : Nat) (w : World) (hc : c < 256) : Calls Tryd.prog 20 #[.int .u8 c] w fun e w' => e = .returned (.int .i64 (plainT8 c)) ∧ Below w.heap.size w w' := by
  unfold plainT8
  by_cases h1 : c < 64
  · rw [if_pos h1]; exact plain8a c _ w h1 rfl
  rw [if_neg h1]
  by_cases h2 : 192 ≤ c
  · rw [if_pos h2]; exact plain8b c _ w h2 hc rfl
  · rw [if_neg h2]; exact plain8c c _ w (by omega) (by omega) rfl

theorem eqc (c k : Nat) : ((c : Int) == (k : Int)) = decide (c = k) := by rw [Bool.eq_iff_iff, beq_iff_eq, decide_eq_true_eq]; omega
set_option maxRecDepth 100000 in
set_option maxHeartbeats 1600000 in
theorem less8 (c : Nat) (w : World) (hc : c < 256) : Calls Tryd.prog 21 #[.int .u8 c] w fun e w' => e = .returned (.int .i64 (lessT c)) ∧ w = w' := by
  by_cases h5 : c = 16 ∨ c = 32 ∨ c = 40 ∨ c = 48 ∨ c = 56
  · have HR := Lib.hid (show lessT c = 5 by unfold lessT; rw [if_pos h5])
    rcases h5 with rfl | rfl | rfl | rfl | rfl
    all_goals
      go_enter Tryd.func21, Tryd.ntmps21
      go_wp2_with fail
      go_ret
      exact ⟨by rw [HR.out]; rfl, rfl⟩
  · have f1 : ((c : Int) == 16) = false := (eqc c 16).trans (by simp; omega)
    have f2 : ((c : Int) == 32) = false := (eqc c 32).trans (by simp; omega)
    have f3 : ((c : Int) == 40) = false := (eqc c 40).trans (by simp; omega)
    have f4 : ((c : Int) == 48) = false := (eqc c 48).trans (by simp; omega)
    have f5 : ((c : Int) == 56) = false := (eqc c 56).trans (by simp; omega)
    have c0 : (0 : Int) ≤ c := by omega
    have cv : IntKind.i64.wrap (c : Int) = c := IntWalk.i64_in _ (by omega)
    by_cases h1 : 192 ≤ c
    · obtain ⟨m, hm⟩ : ∃ m, c % 8 = m := ⟨_, rfl⟩
      have wm : (c : Int).tmod 8 = (m : Int) := by rw [Int.tmod_eq_emod_of_nonneg (by omega)]; omega
      by_cases h6 : m = 0
      · have HR := Lib.hid (show lessT c = 6 by unfold lessT; rw [if_neg h5, if_pos ⟨h1, by omega⟩])
        subst h6
        clear h5 hm
        go_enter Tryd.func21, Tryd.ntmps21
        go_wp2_with fail
        go_ret
        exact ⟨by rw [HR.out]; rfl, rfl⟩
      by_cases h7 : m = 4
      · have HR := Lib.hid (show lessT c = 7 by unfold lessT; rw [if_neg h5, if_neg (by omega), if_pos ⟨h1, by omega⟩])
        subst h7
        clear h5 h6 hm
        go_enter Tryd.func21, Tryd.ntmps21
        go_wp2_with fail
        go_ret
        exact ⟨by rw [HR.out]; rfl, rfl⟩
      · have HR := Lib.hid (show lessT c = 0 by unfold lessT; rw [if_neg h5, if_neg (by omega), if_neg (by omega)])
        have g0 : ((m : Int) == 0) = false := (eqc m 0).trans (by simp; omega)
        have g4 : ((m : Int) == 4) = false := (eqc m 4).trans (by simp; omega)
        clear h5 h6 h7 hm
        go_enter Tryd.func21, Tryd.ntmps21
        go_wp2_with fail
        go_ret
        exact ⟨by rw [HR.out]; rfl, rfl⟩
    · have HR := Lib.hid (show lessT c = 0 by unfold lessT; rw [if_neg h5, if_neg (by omega), if_neg (by omega)])
      have g : decide ((192 : Int) ≤ c) = false := by simp; omega
      clear h5
      go_enter Tryd.func21, Tryd.ntmps21
      go_wp2_with fail
      go_ret
      exact ⟨by rw [HR.out]; rfl, rfl⟩

end Go.Proofs.YthmkfojjlcinkaaDoor
