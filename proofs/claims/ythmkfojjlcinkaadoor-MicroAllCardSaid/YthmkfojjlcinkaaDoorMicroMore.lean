/- The document's More, Time of layer 8: their contracts. -/
import Derived.Test.YthmkfojjlcinkaaDoorMicroRef
namespace Go.Proofs.YthmkfojjlcinkaaDoor
open Go.RowKit
set_option linter.unusedVariables false

set_option maxRecDepth 100000 in
set_option maxHeartbeats 1600000 in
theorem moreA (c : Nat) (w : World) (hc : c < 256) (h1 : 160 ≤ c) (h2 : c < 192) (h3 : c % 8 < 4) (h4 : 176 ≤ c) : Calls Tryd.prog 22 #[.int .u8 c] w fun e w' => e = .returned (.int .i64 (moreT8 c)) ∧ Below w.heap.size w w' := by
  have HR := Lib.hid (show moreT8 c = 21 by unfold moreT8; rw [if_pos ⟨h1, h2, h3⟩, if_pos h4])
  have c0 : (0 : Int) ≤ c := by omega
  have cv : IntKind.i64.wrap (c : Int) = c := IntWalk.i64_in _ (by omega)
  obtain ⟨m, hm⟩ : ∃ m, c % 8 = m := ⟨_, rfl⟩
  have wm : (c : Int).tmod 8 = (m : Int) := by rw [Int.tmod_eq_emod_of_nonneg (by omega)]; omega
  have m0 : (0 : Int) ≤ m := by omega
  have m8 : (m : Int) < 8 := by omega
  have a1 : decide ((160 : Int) ≤ c) = true := by simp; omega
  have a2 : decide ((c : Int) < 192) = true := by simp; omega
  have a3 : decide ((m : Int) < 4) = true := by simp; omega
  have a4 : decide ((176 : Int) ≤ c) = true := by simp; omega
  clear h1 h2 h3 h4 hm
  go_enter Tryd.func22, Tryd.ntmps22
  go_wp2_with fail
  go_ret
  exact ⟨by rw [HR.out]; rfl, Below.refl _ _⟩
set_option maxRecDepth 100000 in
set_option maxHeartbeats 1600000 in
theorem moreB (c : Nat) (w : World) (hc : c < 256) (h1 : 160 ≤ c) (h2 : c < 192) (h3 : c % 8 < 4) (h4 : ¬ 176 ≤ c) : Calls Tryd.prog 22 #[.int .u8 c] w fun e w' => e = .returned (.int .i64 (moreT8 c)) ∧ Below w.heap.size w w' := by
  have HR := Lib.hid (show moreT8 c = 16 by unfold moreT8; rw [if_pos ⟨h1, h2, h3⟩, if_neg h4])
  have c0 : (0 : Int) ≤ c := by omega
  have cv : IntKind.i64.wrap (c : Int) = c := IntWalk.i64_in _ (by omega)
  obtain ⟨m, hm⟩ : ∃ m, c % 8 = m := ⟨_, rfl⟩
  have wm : (c : Int).tmod 8 = (m : Int) := by rw [Int.tmod_eq_emod_of_nonneg (by omega)]; omega
  have m0 : (0 : Int) ≤ m := by omega
  have m8 : (m : Int) < 8 := by omega
  have a1 : decide ((160 : Int) ≤ c) = true := by simp; omega
  have a2 : decide ((c : Int) < 192) = true := by simp; omega
  have a3 : decide ((m : Int) < 4) = true := by simp; omega
  have a4 : decide ((176 : Int) ≤ c) = false := by simp; omega
  clear h1 h2 h3 h4 hm
  go_enter Tryd.func22, Tryd.ntmps22
  go_wp2_with fail
  go_ret
  exact ⟨by rw [HR.out]; rfl, Below.refl _ _⟩
set_option maxRecDepth 100000 in
set_option maxHeartbeats 1600000 in
theorem moreC (c : Nat) (w : World) (hc : c < 256) (h1 : 160 ≤ c) (h2 : c < 192) (h3 : ¬ c % 8 < 4) : Calls Tryd.prog 22 #[.int .u8 c] w fun e w' => e = .returned (.int .i64 (moreT8 c)) ∧ Below w.heap.size w w' := by
  have HR := Lib.hid (show moreT8 c = 8 by unfold moreT8; rw [if_neg (by omega), if_pos (by omega)])
  have c0 : (0 : Int) ≤ c := by omega
  have cv : IntKind.i64.wrap (c : Int) = c := IntWalk.i64_in _ (by omega)
  obtain ⟨m, hm⟩ : ∃ m, c % 8 = m := ⟨_, rfl⟩
  have wm : (c : Int).tmod 8 = (m : Int) := by rw [Int.tmod_eq_emod_of_nonneg (by omega)]; omega
  have m0 : (0 : Int) ≤ m := by omega
  have m8 : (m : Int) < 8 := by omega
  have a1 : decide ((160 : Int) ≤ c) = true := by simp; omega
  have a2 : decide ((c : Int) < 192) = true := by simp; omega
  have a3 : decide ((m : Int) < 4) = false := by simp; omega
  have a4 : decide ((c : Int) < 64) = false := by simp; omega
  have a5 : decide ((128 : Int) ≤ c) = true := by simp; omega
  clear h1 h2 h3 hm
  go_enter Tryd.func22, Tryd.ntmps22
  go_wp2_with fail
  go_ret
  exact ⟨by rw [HR.out]; rfl, Below.refl _ _⟩
set_option maxRecDepth 100000 in
set_option maxHeartbeats 1600000 in
theorem moreD (c : Nat) (w : World) (hc : c < 256) (h1 : 192 ≤ c) : Calls Tryd.prog 22 #[.int .u8 c] w fun e w' => e = .returned (.int .i64 (moreT8 c)) ∧ Below w.heap.size w w' := by
  have HR := Lib.hid (show moreT8 c = 8 by unfold moreT8; rw [if_neg (by omega), if_pos (by omega)])
  have c0 : (0 : Int) ≤ c := by omega
  have cv : IntKind.i64.wrap (c : Int) = c := IntWalk.i64_in _ (by omega)
  obtain ⟨m, hm⟩ : ∃ m, c % 8 = m := ⟨_, rfl⟩
  have wm : (c : Int).tmod 8 = (m : Int) := by rw [Int.tmod_eq_emod_of_nonneg (by omega)]; omega
  have m0 : (0 : Int) ≤ m := by omega
  have m8 : (m : Int) < 8 := by omega
  have a1 : decide ((160 : Int) ≤ c) = true := by simp; omega
  have a2 : decide ((c : Int) < 192) = false := by simp; omega
  have a4 : decide ((c : Int) < 64) = false := by simp; omega
  have a5 : decide ((128 : Int) ≤ c) = true := by simp; omega
  clear h1 hm
  go_enter Tryd.func22, Tryd.ntmps22
  go_wp2_with fail
  go_ret
  exact ⟨by rw [HR.out]; rfl, Below.refl _ _⟩
set_option maxRecDepth 100000 in
set_option maxHeartbeats 1600000 in
theorem moreE (c : Nat) (w : World) (hc : c < 256) (h1 : c < 160) (h2 : 128 ≤ c) : Calls Tryd.prog 22 #[.int .u8 c] w fun e w' => e = .returned (.int .i64 (moreT8 c)) ∧ Below w.heap.size w w' := by
  have HR := Lib.hid (show moreT8 c = 8 by unfold moreT8; rw [if_neg (by omega), if_pos (by omega)])
  have c0 : (0 : Int) ≤ c := by omega
  have cv : IntKind.i64.wrap (c : Int) = c := IntWalk.i64_in _ (by omega)
  obtain ⟨m, hm⟩ : ∃ m, c % 8 = m := ⟨_, rfl⟩
  have wm : (c : Int).tmod 8 = (m : Int) := by rw [Int.tmod_eq_emod_of_nonneg (by omega)]; omega
  have m0 : (0 : Int) ≤ m := by omega
  have m8 : (m : Int) < 8 := by omega
  have a1 : decide ((160 : Int) ≤ c) = false := by simp; omega
  have a4 : decide ((c : Int) < 64) = false := by simp; omega
  have a5 : decide ((128 : Int) ≤ c) = true := by simp; omega
  clear h1 h2 hm
  go_enter Tryd.func22, Tryd.ntmps22
  go_wp2_with fail
  go_ret
  exact ⟨by rw [HR.out]; rfl, Below.refl _ _⟩
set_option maxRecDepth 100000 in
set_option maxHeartbeats 1600000 in
theorem moreF (c : Nat) (w : World) (hc : c < 256) (h1 : c < 64) : Calls Tryd.prog 22 #[.int .u8 c] w fun e w' => e = .returned (.int .i64 (moreT8 c)) ∧ Below w.heap.size w w' := by
  have HR := Lib.hid (show moreT8 c = 8 by unfold moreT8; rw [if_neg (by omega), if_pos (by omega)])
  have c0 : (0 : Int) ≤ c := by omega
  have cv : IntKind.i64.wrap (c : Int) = c := IntWalk.i64_in _ (by omega)
  obtain ⟨m, hm⟩ : ∃ m, c % 8 = m := ⟨_, rfl⟩
  have wm : (c : Int).tmod 8 = (m : Int) := by rw [Int.tmod_eq_emod_of_nonneg (by omega)]; omega
  have m0 : (0 : Int) ≤ m := by omega
  have m8 : (m : Int) < 8 := by omega
  have a1 : decide ((160 : Int) ≤ c) = false := by simp; omega
  have a4 : decide ((c : Int) < 64) = true := by simp; omega
  clear h1 hm
  go_enter Tryd.func22, Tryd.ntmps22
  go_wp2_with fail
  go_ret
  exact ⟨by rw [HR.out]; rfl, Below.refl _ _⟩
set_option maxRecDepth 100000 in
set_option maxHeartbeats 1600000 in
theorem more103 (w : World) : Calls Tryd.prog 22 #[.int .u8 103] w fun e w' => e = .returned (.int .i64 18) ∧ Below w.heap.size w w' := by
  go_enter Tryd.func22, Tryd.ntmps22
  go_wp2_with fail
  go_ret
  exact ⟨rfl, Below.refl _ _⟩
set_option maxRecDepth 100000 in
set_option maxHeartbeats 1600000 in
theorem more111 (w : World) : Calls Tryd.prog 22 #[.int .u8 111] w fun e w' => e = .returned (.int .i64 18) ∧ Below w.heap.size w w' := by
  go_enter Tryd.func22, Tryd.ntmps22
  go_wp2_with fail
  go_ret
  exact ⟨rfl, Below.refl _ _⟩
set_option maxRecDepth 100000 in
set_option maxHeartbeats 1600000 in
theorem more71 (w : World) : Calls Tryd.prog 22 #[.int .u8 71] w fun e w' => e = .returned (.int .i64 9) ∧ Below w.heap.size w w' := by
  go_enter Tryd.func22, Tryd.ntmps22
  go_wp2_with fail
  go_ret
  exact ⟨rfl, Below.refl _ _⟩
set_option maxRecDepth 100000 in
set_option maxHeartbeats 1600000 in
theorem more79 (w : World) : Calls Tryd.prog 22 #[.int .u8 79] w fun e w' => e = .returned (.int .i64 9) ∧ Below w.heap.size w w' := by
  go_enter Tryd.func22, Tryd.ntmps22
  go_wp2_with fail
  go_ret
  exact ⟨rfl, Below.refl _ _⟩
set_option maxRecDepth 100000 in
set_option maxHeartbeats 1600000 in
theorem more87 (w : World) : Calls Tryd.prog 22 #[.int .u8 87] w fun e w' => e = .returned (.int .i64 9) ∧ Below w.heap.size w w' := by
  go_enter Tryd.func22, Tryd.ntmps22
  go_wp2_with fail
  go_ret
  exact ⟨rfl, Below.refl _ _⟩
set_option maxRecDepth 100000 in
set_option maxHeartbeats 1600000 in
theorem more95 (w : World) : Calls Tryd.prog 22 #[.int .u8 95] w fun e w' => e = .returned (.int .i64 9) ∧ Below w.heap.size w w' := by
  go_enter Tryd.func22, Tryd.ntmps22
  go_wp2_with fail
  go_ret
  exact ⟨rfl, Below.refl _ _⟩
set_option maxRecDepth 100000 in
set_option maxHeartbeats 1600000 in
theorem moreI (c : Nat) (w : World) (hc : c < 256) (h1 : 64 ≤ c) (h2 : c < 128) (h3 : ¬ (c = 103 ∨ c = 111)) (h4 : ¬ (c = 71 ∨ c = 79 ∨ c = 87 ∨ c = 95)) : Calls Tryd.prog 22 #[.int .u8 c] w fun e w' => e = .returned (.int .i64 (moreT8 c)) ∧ Below w.heap.size w w' := by
  have HR := Lib.hid (show moreT8 c = eightT.getD (c % 8) 0 by unfold moreT8; rw [if_neg (by omega), if_neg (by omega), if_neg h3, if_neg h4])
  have c0 : (0 : Int) ≤ c := by omega
  have cv : IntKind.i64.wrap (c : Int) = c := IntWalk.i64_in _ (by omega)
  obtain ⟨m, hm⟩ : ∃ m, c % 8 = m := ⟨_, rfl⟩
  have wm : (c : Int).tmod 8 = (m : Int) := by rw [Int.tmod_eq_emod_of_nonneg (by omega)]; omega
  have m0 : (0 : Int) ≤ m := by omega
  have m8 : (m : Int) < 8 := by omega
  have a1 : decide ((160 : Int) ≤ c) = false := by simp; omega
  have a4 : decide ((c : Int) < 64) = false := by simp; omega
  have a5 : decide ((128 : Int) ≤ c) = false := by simp; omega
  have q103 : ((c : Int) == 103) = false := (eqc c 103).trans (by simp; omega)
  have q111 : ((c : Int) == 111) = false := (eqc c 111).trans (by simp; omega)
  have q71 : ((c : Int) == 71) = false := (eqc c 71).trans (by simp; omega)
  have q79 : ((c : Int) == 79) = false := (eqc c 79).trans (by simp; omega)
  have q87 : ((c : Int) == 87) = false := (eqc c 87).trans (by simp; omega)
  have q95 : ((c : Int) == 95) = false := (eqc c 95).trans (by simp; omega)
  obtain ⟨r, hr⟩ : ∃ r, eightT.getD m 0 = r := ⟨_, rfl⟩
  have HR := Lib.hid (show moreT8 c = r by rw [HR.out, hm, hr])
  have ck : (w.alloc (.cells #[.int .i64 12, .int .i64 12, .int .i64 15, .int .i64 20, .int .i64 8, .int .i64 14, .int .i64 8, .int .i64 8] 3)).cell? ⟨w.heap.size, m, none⟩ = some (.int .i64 r) := (nums_made w eightT 3 m (by show m < 8; omega)).trans (by rw [hr])
  clear hr h1 h2 h3 h4 hm
  go_enter Tryd.func22, Tryd.ntmps22
  go_wp2_with fail
  go_ret
  exact ⟨by rw [HR.out]; rfl, balloc _ _⟩
theorem more8 (c : Nat) (w : World) (hc : c < 256) : Calls Tryd.prog 22 #[.int .u8 c] w fun e w' => e = .returned (.int .i64 (moreT8 c)) ∧ Below w.heap.size w w' := by
  by_cases h1 : c < 64
  · exact moreF c w hc h1
  by_cases h2 : c < 128
  · by_cases h3 : c = 103 ∨ c = 111
    · rcases h3 with rfl | rfl
      · exact more103 w
      · exact more111 w
    by_cases h4 : c = 71 ∨ c = 79 ∨ c = 87 ∨ c = 95
    · rcases h4 with rfl | rfl | rfl | rfl
      · exact more71 w
      · exact more79 w
      · exact more87 w
      · exact more95 w
    exact moreI c w hc (by omega) h2 h3 h4
  by_cases h5 : c < 160
  · exact moreE c w hc h5 (by omega)
  by_cases h6 : 192 ≤ c
  · exact moreD c w hc h6
  by_cases h7 : c % 8 < 4
  · by_cases h8 : 176 ≤ c
    · exact moreA c w hc (by omega) (by omega) h7 h8
    · exact moreB c w hc (by omega) (by omega) h7 h8
  · exact moreC c w hc (by omega) (by omega) h7

end Go.Proofs.YthmkfojjlcinkaaDoor
