/- The document's bits, More: their contracts. -/
import Derived.Test.YtkjibnnoeceaeaaDoorOpPlainL
namespace Go.Proofs.YtkjibnnoeceaeaaDoor
open Go.RowKit

theorem turns0L_le (k : Nat) : (turns0L.getD k []).length ≤ 3 := getD_le _ _ (by decide) k
theorem blocksL_le (k : Nat) : (blocksL.getD k []).length ≤ 4 := getD_le _ _ (by decide) k

set_option maxRecDepth 100000 in
set_option maxHeartbeats 1600000 in
theorem refBitsA (c : Nat) (m : List UInt8) (w : World) (h1 : c < 64) (hm : m.length ≤ 100) : Calls Tryd.prog 28 #[.int .u8 c, .string (strL m)] w fun e w' => e = .returned (.string (strL (bitsF c m))) ∧ Below w.heap.size w w' := by
  obtain ⟨T, hT⟩ : ∃ T, strL (bitsF c m) = T := ⟨_, rfl⟩
  rw [hT]
  obtain ⟨R, hR⟩ : ∃ R, turns0L.getD (c / 8) [] = R := ⟨_, rfl⟩
  have hb : bitsF c m = R ++ [32] ++ m := by unfold bitsF; rw [if_pos (by omega), hR]
  have r1 : (strL R).size ≤ 4 := strL_le _ _ (by rw [← hR]; exact Nat.le_trans (turns0L_le _) (by decide))
  have m1 : (strL m).size ≤ 100 := strL_le _ _ hm
  have d0 : c / 8 % 8 < 10 := by omega
  have HD := Lib.hid (fun w => refDigits (c / 8 % 8) w (by omega))
  rw [dec_one _ d0] at HD
  have d1 : (strL [dgB (c / 8 % 8)]).size = 1 := rfl
  have HZ := Lib.hid (show strL R ++ ⟨#[32]⟩ ++ strL m = T by rw [← hT, hb]; show strL R ++ strL [32] ++ strL m = _; rw [strL_app, strL_app])
  have ck : (w.alloc (.cells #[.string ⟨#[114, 108, 99]⟩, .string ⟨#[114, 114, 99]⟩, .string ⟨#[114, 108]⟩, .string ⟨#[114, 114]⟩, .string ⟨#[115, 108, 97]⟩, .string ⟨#[115, 114, 97]⟩, .string ⟨#[115, 108, 108]⟩, .string ⟨#[115, 114, 108]⟩] 9)).cell? ⟨w.heap.size, c / 8, none⟩ = some (.string (strL R)) := lists_at (tabS_made w turns0L 9) (c / 8) (by show c / 8 < 8; omega) R hR
  have e8 : ((c / 8 % 8 : Nat) : Int) = (c : Int) / 8 % 8 := by omega
  rw [e8] at HD
  generalize [dgB (c / 8 % 8)] = D at HD d1 HZ
  clear hT hb hR hm e8 d0
  go_enter Tryd.func28, Tryd.ntmps28
  go_wp2_with fail
  refine (HD.out _).mono ?_
  rintro e w' ⟨rfl, rfl⟩
  go_wp2_with fail
  go_ret
  exact ⟨by rw [← HZ.out]; rfl, balloc w _⟩
set_option maxRecDepth 100000 in
set_option maxHeartbeats 1600000 in
theorem refBitsB (c : Nat) (m : List UInt8) (w : World) (h1 : 64 ≤ c) (h2 : c < 256) (hm : m.length ≤ 100) : Calls Tryd.prog 28 #[.int .u8 c, .string (strL m)] w fun e w' => e = .returned (.string (strL (bitsF c m))) ∧ Below w.heap.size w w' := by
  obtain ⟨T, hT⟩ : ∃ T, strL (bitsF c m) = T := ⟨_, rfl⟩
  rw [hT]
  obtain ⟨R, hR⟩ : ∃ R, ofBitsL.getD (c / 64) [] = R := ⟨_, rfl⟩
  have hb : bitsF c m = R ++ [dgB (c / 8 % 8)] ++ [44] ++ m := by unfold bitsF; rw [if_neg (by omega), hR]; rfl
  have r1 : (strL R).size ≤ 4 := strL_le _ _ (by rw [← hR]; exact ofBitsL_le _)
  have m1 : (strL m).size ≤ 100 := strL_le _ _ hm
  have d0 : c / 8 % 8 < 10 := by omega
  have HD := Lib.hid (fun w => refDigits (c / 8 % 8) w (by omega))
  rw [dec_one _ d0] at HD
  have d1 : (strL [dgB (c / 8 % 8)]).size = 1 := rfl
  have HZ := Lib.hid (show strL R ++ strL [dgB (c / 8 % 8)] ++ ⟨#[44]⟩ ++ strL m = T by rw [← hT, hb]; show strL R ++ _ ++ strL [44] ++ strL m = _; rw [strL_app, strL_app, strL_app])
  have ck : (w.alloc (.cells #[.string ⟨#[]⟩, .string ⟨#[98, 105, 116, 32]⟩, .string ⟨#[114, 101, 115, 32]⟩, .string ⟨#[115, 101, 116, 32]⟩] 9)).cell? ⟨w.heap.size, c / 64, none⟩ = some (.string (strL R)) := lists_at (tabS_made w ofBitsL 9) (c / 64) (by show c / 64 < 4; omega) R hR
  have e8 : ((c / 8 % 8 : Nat) : Int) = (c : Int) / 8 % 8 := by omega
  rw [e8] at HD
  generalize [dgB (c / 8 % 8)] = D at HD d1 HZ
  clear hT hb hR hm e8 d0
  go_enter Tryd.func28, Tryd.ntmps28
  go_wp2_with fail
  refine (HD.out _).mono ?_
  rintro e w' ⟨rfl, rfl⟩
  go_wp2_with fail
  go_ret
  exact ⟨by rw [← HZ.out]; rfl, balloc w _⟩
theorem refBits (c : Nat) (m : List UInt8) (w : World) (hc : c < 256) (hm : m.length ≤ 100) : Calls Tryd.prog 28 #[.int .u8 c, .string (strL m)] w fun e w' => e = .returned (.string (strL (bitsF c m))) ∧ Below w.heap.size w w' := by
  by_cases h : c < 64
  · exact refBitsA c m w h hm
  · exact refBitsB c m w (by omega) hc hm

set_option maxRecDepth 100000 in
set_option maxHeartbeats 1600000 in
theorem refMoren0 (c : Nat) (w : World) (h : c < 64) : Calls Tryd.prog 30 #[.int .u8 c] w fun e w' => e = .returned (.string (strL [110, 111, 112])) ∧ Below w.heap.size w w' := by
  go_enter Tryd.func30, Tryd.ntmps30
  go_wp2_with fail
  go_ret
  exact ⟨rfl, Below.refl _ _⟩
set_option maxRecDepth 100000 in
set_option maxHeartbeats 1600000 in
theorem refMoren1 (c : Nat) (w : World) (h1 : 128 ≤ c) (h2 : c < 160) : Calls Tryd.prog 30 #[.int .u8 c] w fun e w' => e = .returned (.string (strL [110, 111, 112])) ∧ Below w.heap.size w w' := by
  go_enter Tryd.func30, Tryd.ntmps30
  go_wp2_with fail
  go_ret
  exact ⟨rfl, Below.refl _ _⟩
set_option maxRecDepth 100000 in
set_option maxHeartbeats 1600000 in
theorem refMoren2 (c : Nat) (w : World) (h1 : 192 ≤ c) (h2 : c < 256) : Calls Tryd.prog 30 #[.int .u8 c] w fun e w' => e = .returned (.string (strL [110, 111, 112])) ∧ Below w.heap.size w w' := by
  go_enter Tryd.func30, Tryd.ntmps30
  go_wp2_with fail
  go_ret
  exact ⟨rfl, Below.refl _ _⟩
set_option maxRecDepth 100000 in
set_option maxHeartbeats 1600000 in
theorem refMoren3 (c : Nat) (w : World) (h1 : 160 ≤ c) (h2 : c < 192) (h3 : 4 ≤ c % 8) : Calls Tryd.prog 30 #[.int .u8 c] w fun e w' => e = .returned (.string (strL [110, 111, 112])) ∧ Below w.heap.size w w' := by
  go_enter Tryd.func30, Tryd.ntmps30
  go_wp2_with fail
  go_ret
  exact ⟨rfl, Below.refl _ _⟩
set_option maxRecDepth 100000 in
set_option maxHeartbeats 1600000 in
theorem refMoreB160 (w : World) : Calls Tryd.prog 30 #[.int .u8 160] w fun e w' => e = .returned (.string (strL [108, 100, 105])) ∧ Below w.heap.size w w' := by
  go_enter Tryd.func30, Tryd.ntmps30
  go_wp2_with fail
  go_ret
  exact ⟨rfl, balloc w _⟩
set_option maxRecDepth 100000 in
set_option maxHeartbeats 1600000 in
theorem refMoreB161 (w : World) : Calls Tryd.prog 30 #[.int .u8 161] w fun e w' => e = .returned (.string (strL [99, 112, 105])) ∧ Below w.heap.size w w' := by
  go_enter Tryd.func30, Tryd.ntmps30
  go_wp2_with fail
  go_ret
  exact ⟨rfl, balloc w _⟩
set_option maxRecDepth 100000 in
set_option maxHeartbeats 1600000 in
theorem refMoreB162 (w : World) : Calls Tryd.prog 30 #[.int .u8 162] w fun e w' => e = .returned (.string (strL [105, 110, 105])) ∧ Below w.heap.size w w' := by
  go_enter Tryd.func30, Tryd.ntmps30
  go_wp2_with fail
  go_ret
  exact ⟨rfl, balloc w _⟩
set_option maxRecDepth 100000 in
set_option maxHeartbeats 1600000 in
theorem refMoreB163 (w : World) : Calls Tryd.prog 30 #[.int .u8 163] w fun e w' => e = .returned (.string (strL [111, 117, 116, 105])) ∧ Below w.heap.size w w' := by
  go_enter Tryd.func30, Tryd.ntmps30
  go_wp2_with fail
  go_ret
  exact ⟨rfl, balloc w _⟩
set_option maxRecDepth 100000 in
set_option maxHeartbeats 1600000 in
theorem refMoreB168 (w : World) : Calls Tryd.prog 30 #[.int .u8 168] w fun e w' => e = .returned (.string (strL [108, 100, 100])) ∧ Below w.heap.size w w' := by
  go_enter Tryd.func30, Tryd.ntmps30
  go_wp2_with fail
  go_ret
  exact ⟨rfl, balloc w _⟩
set_option maxRecDepth 100000 in
set_option maxHeartbeats 1600000 in
theorem refMoreB169 (w : World) : Calls Tryd.prog 30 #[.int .u8 169] w fun e w' => e = .returned (.string (strL [99, 112, 100])) ∧ Below w.heap.size w w' := by
  go_enter Tryd.func30, Tryd.ntmps30
  go_wp2_with fail
  go_ret
  exact ⟨rfl, balloc w _⟩
set_option maxRecDepth 100000 in
set_option maxHeartbeats 1600000 in
theorem refMoreB170 (w : World) : Calls Tryd.prog 30 #[.int .u8 170] w fun e w' => e = .returned (.string (strL [105, 110, 100])) ∧ Below w.heap.size w w' := by
  go_enter Tryd.func30, Tryd.ntmps30
  go_wp2_with fail
  go_ret
  exact ⟨rfl, balloc w _⟩
set_option maxRecDepth 100000 in
set_option maxHeartbeats 1600000 in
theorem refMoreB171 (w : World) : Calls Tryd.prog 30 #[.int .u8 171] w fun e w' => e = .returned (.string (strL [111, 117, 116, 100])) ∧ Below w.heap.size w w' := by
  go_enter Tryd.func30, Tryd.ntmps30
  go_wp2_with fail
  go_ret
  exact ⟨rfl, balloc w _⟩
set_option maxRecDepth 100000 in
set_option maxHeartbeats 1600000 in
theorem refMoreB176 (w : World) : Calls Tryd.prog 30 #[.int .u8 176] w fun e w' => e = .returned (.string (strL [108, 100, 105, 114])) ∧ Below w.heap.size w w' := by
  go_enter Tryd.func30, Tryd.ntmps30
  go_wp2_with fail
  go_ret
  exact ⟨rfl, balloc w _⟩
set_option maxRecDepth 100000 in
set_option maxHeartbeats 1600000 in
theorem refMoreB177 (w : World) : Calls Tryd.prog 30 #[.int .u8 177] w fun e w' => e = .returned (.string (strL [99, 112, 105, 114])) ∧ Below w.heap.size w w' := by
  go_enter Tryd.func30, Tryd.ntmps30
  go_wp2_with fail
  go_ret
  exact ⟨rfl, balloc w _⟩
set_option maxRecDepth 100000 in
set_option maxHeartbeats 1600000 in
theorem refMoreB178 (w : World) : Calls Tryd.prog 30 #[.int .u8 178] w fun e w' => e = .returned (.string (strL [105, 110, 105, 114])) ∧ Below w.heap.size w w' := by
  go_enter Tryd.func30, Tryd.ntmps30
  go_wp2_with fail
  go_ret
  exact ⟨rfl, balloc w _⟩
set_option maxRecDepth 100000 in
set_option maxHeartbeats 1600000 in
theorem refMoreB179 (w : World) : Calls Tryd.prog 30 #[.int .u8 179] w fun e w' => e = .returned (.string (strL [111, 116, 105, 114])) ∧ Below w.heap.size w w' := by
  go_enter Tryd.func30, Tryd.ntmps30
  go_wp2_with fail
  go_ret
  exact ⟨rfl, balloc w _⟩
set_option maxRecDepth 100000 in
set_option maxHeartbeats 1600000 in
theorem refMoreB184 (w : World) : Calls Tryd.prog 30 #[.int .u8 184] w fun e w' => e = .returned (.string (strL [108, 100, 100, 114])) ∧ Below w.heap.size w w' := by
  go_enter Tryd.func30, Tryd.ntmps30
  go_wp2_with fail
  go_ret
  exact ⟨rfl, balloc w _⟩
set_option maxRecDepth 100000 in
set_option maxHeartbeats 1600000 in
theorem refMoreB185 (w : World) : Calls Tryd.prog 30 #[.int .u8 185] w fun e w' => e = .returned (.string (strL [99, 112, 100, 114])) ∧ Below w.heap.size w w' := by
  go_enter Tryd.func30, Tryd.ntmps30
  go_wp2_with fail
  go_ret
  exact ⟨rfl, balloc w _⟩
set_option maxRecDepth 100000 in
set_option maxHeartbeats 1600000 in
theorem refMoreB186 (w : World) : Calls Tryd.prog 30 #[.int .u8 186] w fun e w' => e = .returned (.string (strL [105, 110, 100, 114])) ∧ Below w.heap.size w w' := by
  go_enter Tryd.func30, Tryd.ntmps30
  go_wp2_with fail
  go_ret
  exact ⟨rfl, balloc w _⟩
set_option maxRecDepth 100000 in
set_option maxHeartbeats 1600000 in
theorem refMoreB187 (w : World) : Calls Tryd.prog 30 #[.int .u8 187] w fun e w' => e = .returned (.string (strL [111, 116, 100, 114])) ∧ Below w.heap.size w w' := by
  go_enter Tryd.func30, Tryd.ntmps30
  go_wp2_with fail
  go_ret
  exact ⟨rfl, balloc w _⟩
set_option maxRecDepth 100000 in
set_option maxHeartbeats 1600000 in
theorem refMorez0a (c : Nat) (w : World) (h1 : 64 ≤ c) (h2 : c < 128) (hz : (c : Int) % 8 = 0) (hq : regsL.getD (c / 8 % 8) [] = hlL) : Calls Tryd.prog 30 #[.int .u8 c] w fun e w' => e = .returned (.string (strL ([105, 110, 32, 40, 99, 41]))) ∧ Below w.heap.size w w' := by
  obtain ⟨R, hR⟩ : ∃ R, regsL.getD (c / 8 % 8) [] = R := ⟨_, rfl⟩
  obtain ⟨P, hP⟩ : ∃ P, pairsL.getD (c / 16 % 4) [] = P := ⟨_, rfl⟩
  have r1 : (strL R).size ≤ 4 := strL_le _ _ (by rw [← hR]; exact regsL_le _)
  have p1 : (strL P).size ≤ 2 := strL_le _ _ (by rw [← hP]; exact pairsL_le _)
  obtain ⟨T, hT⟩ : ∃ T, strL ([105, 110, 32, 40, 99, 41]) = T := ⟨_, rfl⟩
  rw [hT]
  have t1 : ((strL R).toList == [40, 104, 108, 41]) = true := by rw [← hR, hq]; decide +kernel
  clear hq
  have HZ := Lib.hid (show (⟨#[105, 110, 32, 40, 99, 41]⟩ : ByteArray) = T by rw [← hT]; rfl)
  have HR := Lib.hid hR
  have HP := Lib.hid hP
  clear hT hR hP
  go_enter Tryd.func30, Tryd.ntmps30
  go_wp2_with fail
  refine (ref_regs _).mono ?_
  rintro e w1 ⟨g, rfl, hg, hTab, hb1⟩
  have ck := lists_at hTab (c / 8 % 8) (by omega) R HR.out
  have cp : (w1.alloc (.cells #[.string ⟨#[98, 99]⟩, .string ⟨#[100, 101]⟩, .string ⟨#[104, 108]⟩, .string ⟨#[115, 112]⟩] 9)).cell? ⟨w1.heap.size, c / 16 % 4, none⟩ = some (.string (strL P)) := lists_at (tabS_made w1 pairsL 9) (c / 16 % 4) (by show c / 16 % 4 < 4; omega) P HP.out
  have HB := Lib.hid hb1
  clear hTab hb1
  go_wp2_with fail
  go_ret
  exact ⟨by rw [← HZ.out]; rfl, HB.out.alloc HB.out.size _⟩
set_option maxRecDepth 100000 in
set_option maxHeartbeats 1600000 in
theorem refMorez0b (c : Nat) (w : World) (h1 : 64 ≤ c) (h2 : c < 128) (hz : (c : Int) % 8 = 0) (hq : ¬ regsL.getD (c / 8 % 8) [] = hlL) : Calls Tryd.prog 30 #[.int .u8 c] w fun e w' => e = .returned (.string (strL ([105, 110, 32] ++ regsL.getD (c / 8 % 8) [] ++ [44, 40, 99, 41]))) ∧ Below w.heap.size w w' := by
  obtain ⟨R, hR⟩ : ∃ R, regsL.getD (c / 8 % 8) [] = R := ⟨_, rfl⟩
  obtain ⟨P, hP⟩ : ∃ P, pairsL.getD (c / 16 % 4) [] = P := ⟨_, rfl⟩
  have r1 : (strL R).size ≤ 4 := strL_le _ _ (by rw [← hR]; exact regsL_le _)
  have p1 : (strL P).size ≤ 2 := strL_le _ _ (by rw [← hP]; exact pairsL_le _)
  obtain ⟨T, hT⟩ : ∃ T, strL ([105, 110, 32] ++ regsL.getD (c / 8 % 8) [] ++ [44, 40, 99, 41]) = T := ⟨_, rfl⟩
  rw [hT]
  simp only [hR] at hT
  have t1 : ((strL R).toList == [40, 104, 108, 41]) = false := by have := str_ne (a := strL R) (b := strL hlL) (fun e => hq (by rw [hR]; exact strL_inj.1 e)); rwa [show (strL hlL).toList = [40, 104, 108, 41] by decide +kernel] at this
  clear hq
  have HZ := Lib.hid (show (⟨#[105, 110, 32]⟩ : ByteArray) ++ strL R ++ ⟨#[44, 40, 99, 41]⟩ = T by rw [← hT]; show strL [105, 110, 32] ++ _ ++ strL [44, 40, 99, 41] = _; rw [strL_app, strL_app])
  have HR := Lib.hid hR
  have HP := Lib.hid hP
  clear hT hR hP
  go_enter Tryd.func30, Tryd.ntmps30
  go_wp2_with fail
  refine (ref_regs _).mono ?_
  rintro e w1 ⟨g, rfl, hg, hTab, hb1⟩
  have ck := lists_at hTab (c / 8 % 8) (by omega) R HR.out
  have cp : (w1.alloc (.cells #[.string ⟨#[98, 99]⟩, .string ⟨#[100, 101]⟩, .string ⟨#[104, 108]⟩, .string ⟨#[115, 112]⟩] 9)).cell? ⟨w1.heap.size, c / 16 % 4, none⟩ = some (.string (strL P)) := lists_at (tabS_made w1 pairsL 9) (c / 16 % 4) (by show c / 16 % 4 < 4; omega) P HP.out
  have HB := Lib.hid hb1
  clear hTab hb1
  go_wp2_with fail
  go_ret
  exact ⟨by rw [← HZ.out]; rfl, HB.out.alloc HB.out.size _⟩
set_option maxRecDepth 100000 in
set_option maxHeartbeats 1600000 in
theorem refMorez1a (c : Nat) (w : World) (h1 : 64 ≤ c) (h2 : c < 128) (hz : (c : Int) % 8 = 1) (hq : regsL.getD (c / 8 % 8) [] = hlL) : Calls Tryd.prog 30 #[.int .u8 c] w fun e w' => e = .returned (.string (strL ([111, 117, 116, 32, 40, 99, 41, 44] ++ [48]))) ∧ Below w.heap.size w w' := by
  obtain ⟨R, hR⟩ : ∃ R, regsL.getD (c / 8 % 8) [] = R := ⟨_, rfl⟩
  obtain ⟨P, hP⟩ : ∃ P, pairsL.getD (c / 16 % 4) [] = P := ⟨_, rfl⟩
  have r1 : (strL R).size ≤ 4 := strL_le _ _ (by rw [← hR]; exact regsL_le _)
  have p1 : (strL P).size ≤ 2 := strL_le _ _ (by rw [← hP]; exact pairsL_le _)
  obtain ⟨T, hT⟩ : ∃ T, strL ([111, 117, 116, 32, 40, 99, 41, 44] ++ [48]) = T := ⟨_, rfl⟩
  rw [hT]
  have t1 : ((strL R).toList == [40, 104, 108, 41]) = true := by rw [← hR, hq]; decide +kernel
  clear hq
  have HZ := Lib.hid (show (⟨#[111, 117, 116, 32, 40, 99, 41, 44, 48]⟩ : ByteArray) = T by rw [← hT]; rfl)
  have HR := Lib.hid hR
  have HP := Lib.hid hP
  clear hT hR hP
  go_enter Tryd.func30, Tryd.ntmps30
  go_wp2_with fail
  refine (ref_regs _).mono ?_
  rintro e w1 ⟨g, rfl, hg, hTab, hb1⟩
  have ck := lists_at hTab (c / 8 % 8) (by omega) R HR.out
  have cp : (w1.alloc (.cells #[.string ⟨#[98, 99]⟩, .string ⟨#[100, 101]⟩, .string ⟨#[104, 108]⟩, .string ⟨#[115, 112]⟩] 9)).cell? ⟨w1.heap.size, c / 16 % 4, none⟩ = some (.string (strL P)) := lists_at (tabS_made w1 pairsL 9) (c / 16 % 4) (by show c / 16 % 4 < 4; omega) P HP.out
  have HB := Lib.hid hb1
  clear hTab hb1
  go_wp2_with fail
  go_ret
  exact ⟨by rw [← HZ.out]; rfl, HB.out.alloc HB.out.size _⟩
set_option maxRecDepth 100000 in
set_option maxHeartbeats 1600000 in
theorem refMorez1b (c : Nat) (w : World) (h1 : 64 ≤ c) (h2 : c < 128) (hz : (c : Int) % 8 = 1) (hq : ¬ regsL.getD (c / 8 % 8) [] = hlL) : Calls Tryd.prog 30 #[.int .u8 c] w fun e w' => e = .returned (.string (strL ([111, 117, 116, 32, 40, 99, 41, 44] ++ regsL.getD (c / 8 % 8) []))) ∧ Below w.heap.size w w' := by
  obtain ⟨R, hR⟩ : ∃ R, regsL.getD (c / 8 % 8) [] = R := ⟨_, rfl⟩
  obtain ⟨P, hP⟩ : ∃ P, pairsL.getD (c / 16 % 4) [] = P := ⟨_, rfl⟩
  have r1 : (strL R).size ≤ 4 := strL_le _ _ (by rw [← hR]; exact regsL_le _)
  have p1 : (strL P).size ≤ 2 := strL_le _ _ (by rw [← hP]; exact pairsL_le _)
  obtain ⟨T, hT⟩ : ∃ T, strL ([111, 117, 116, 32, 40, 99, 41, 44] ++ regsL.getD (c / 8 % 8) []) = T := ⟨_, rfl⟩
  rw [hT]
  simp only [hR] at hT
  have t1 : ((strL R).toList == [40, 104, 108, 41]) = false := by have := str_ne (a := strL R) (b := strL hlL) (fun e => hq (by rw [hR]; exact strL_inj.1 e)); rwa [show (strL hlL).toList = [40, 104, 108, 41] by decide +kernel] at this
  clear hq
  have HZ := Lib.hid (show (⟨#[111, 117, 116, 32, 40, 99, 41, 44]⟩ : ByteArray) ++ strL R = T by rw [← hT]; show strL [111, 117, 116, 32, 40, 99, 41, 44] ++ _ = _; rw [strL_app])
  have HR := Lib.hid hR
  have HP := Lib.hid hP
  clear hT hR hP
  go_enter Tryd.func30, Tryd.ntmps30
  go_wp2_with fail
  refine (ref_regs _).mono ?_
  rintro e w1 ⟨g, rfl, hg, hTab, hb1⟩
  have ck := lists_at hTab (c / 8 % 8) (by omega) R HR.out
  have cp : (w1.alloc (.cells #[.string ⟨#[98, 99]⟩, .string ⟨#[100, 101]⟩, .string ⟨#[104, 108]⟩, .string ⟨#[115, 112]⟩] 9)).cell? ⟨w1.heap.size, c / 16 % 4, none⟩ = some (.string (strL P)) := lists_at (tabS_made w1 pairsL 9) (c / 16 % 4) (by show c / 16 % 4 < 4; omega) P HP.out
  have HB := Lib.hid hb1
  clear hTab hb1
  go_wp2_with fail
  go_ret
  exact ⟨by rw [← HZ.out]; rfl, HB.out.alloc HB.out.size _⟩
set_option maxRecDepth 100000 in
set_option maxHeartbeats 1600000 in
theorem refMorez20 (c : Nat) (w : World) (h1 : 64 ≤ c) (h2 : c < 128) (hz : (c : Int) % 8 = 2) (hq : c / 8 % 2 = 0) : Calls Tryd.prog 30 #[.int .u8 c] w fun e w' => e = .returned (.string (strL ([115, 98, 99, 32, 104, 108, 44] ++ pairsL.getD (c / 16 % 4) []))) ∧ Below w.heap.size w w' := by
  obtain ⟨R, hR⟩ : ∃ R, regsL.getD (c / 8 % 8) [] = R := ⟨_, rfl⟩
  obtain ⟨P, hP⟩ : ∃ P, pairsL.getD (c / 16 % 4) [] = P := ⟨_, rfl⟩
  have r1 : (strL R).size ≤ 4 := strL_le _ _ (by rw [← hR]; exact regsL_le _)
  have p1 : (strL P).size ≤ 2 := strL_le _ _ (by rw [← hP]; exact pairsL_le _)
  obtain ⟨T, hT⟩ : ∃ T, strL ([115, 98, 99, 32, 104, 108, 44] ++ pairsL.getD (c / 16 % 4) []) = T := ⟨_, rfl⟩
  rw [hT]
  simp only [hP] at hT
  have hqi : (c : Int) / 8 % 2 = 0 := by omega
  have HQ := Lib.hid hq
  clear hq
  have HZ := Lib.hid (show (⟨#[115, 98, 99, 32, 104, 108, 44]⟩ : ByteArray) ++ strL P = T by rw [← hT]; show strL [115, 98, 99, 32, 104, 108, 44] ++ _ = _; rw [strL_app])
  have HR := Lib.hid hR
  have HP := Lib.hid hP
  clear hT hR hP
  go_enter Tryd.func30, Tryd.ntmps30
  go_wp2_with fail
  refine (ref_regs _).mono ?_
  rintro e w1 ⟨g, rfl, hg, hTab, hb1⟩
  have ck := lists_at hTab (c / 8 % 8) (by omega) R HR.out
  have cp : (w1.alloc (.cells #[.string ⟨#[98, 99]⟩, .string ⟨#[100, 101]⟩, .string ⟨#[104, 108]⟩, .string ⟨#[115, 112]⟩] 9)).cell? ⟨w1.heap.size, c / 16 % 4, none⟩ = some (.string (strL P)) := lists_at (tabS_made w1 pairsL 9) (c / 16 % 4) (by show c / 16 % 4 < 4; omega) P HP.out
  skip
  have HB := Lib.hid hb1
  clear hTab hb1
  go_wp2_with fail
  go_ret
  exact ⟨by rw [← HZ.out]; rfl, (HB.out.alloc HB.out.size _).alloc (by simp; have := HB.out.size; omega) _⟩
set_option maxRecDepth 100000 in
set_option maxHeartbeats 1600000 in
theorem refMorez21 (c : Nat) (w : World) (h1 : 64 ≤ c) (h2 : c < 128) (hz : (c : Int) % 8 = 2) (hq : c / 8 % 2 = 1) : Calls Tryd.prog 30 #[.int .u8 c] w fun e w' => e = .returned (.string (strL ([97, 100, 99, 32, 104, 108, 44] ++ pairsL.getD (c / 16 % 4) []))) ∧ Below w.heap.size w w' := by
  obtain ⟨R, hR⟩ : ∃ R, regsL.getD (c / 8 % 8) [] = R := ⟨_, rfl⟩
  obtain ⟨P, hP⟩ : ∃ P, pairsL.getD (c / 16 % 4) [] = P := ⟨_, rfl⟩
  have r1 : (strL R).size ≤ 4 := strL_le _ _ (by rw [← hR]; exact regsL_le _)
  have p1 : (strL P).size ≤ 2 := strL_le _ _ (by rw [← hP]; exact pairsL_le _)
  obtain ⟨T, hT⟩ : ∃ T, strL ([97, 100, 99, 32, 104, 108, 44] ++ pairsL.getD (c / 16 % 4) []) = T := ⟨_, rfl⟩
  rw [hT]
  simp only [hP] at hT
  have hqi : (c : Int) / 8 % 2 = 1 := by omega
  have HQ := Lib.hid hq
  clear hq
  have HZ := Lib.hid (show (⟨#[97, 100, 99, 32, 104, 108, 44]⟩ : ByteArray) ++ strL P = T by rw [← hT]; show strL [97, 100, 99, 32, 104, 108, 44] ++ _ = _; rw [strL_app])
  have HR := Lib.hid hR
  have HP := Lib.hid hP
  clear hT hR hP
  go_enter Tryd.func30, Tryd.ntmps30
  go_wp2_with fail
  refine (ref_regs _).mono ?_
  rintro e w1 ⟨g, rfl, hg, hTab, hb1⟩
  have ck := lists_at hTab (c / 8 % 8) (by omega) R HR.out
  have cp : (w1.alloc (.cells #[.string ⟨#[98, 99]⟩, .string ⟨#[100, 101]⟩, .string ⟨#[104, 108]⟩, .string ⟨#[115, 112]⟩] 9)).cell? ⟨w1.heap.size, c / 16 % 4, none⟩ = some (.string (strL P)) := lists_at (tabS_made w1 pairsL 9) (c / 16 % 4) (by show c / 16 % 4 < 4; omega) P HP.out
  skip
  have HB := Lib.hid hb1
  clear hTab hb1
  go_wp2_with fail
  go_ret
  exact ⟨by rw [← HZ.out]; rfl, (HB.out.alloc HB.out.size _).alloc (by simp; have := HB.out.size; omega) _⟩
set_option maxRecDepth 100000 in
set_option maxHeartbeats 1600000 in
theorem refMorez30 (c : Nat) (w : World) (h1 : 64 ≤ c) (h2 : c < 128) (hz : (c : Int) % 8 = 3) (hq : c / 8 % 2 = 0) : Calls Tryd.prog 30 #[.int .u8 c] w fun e w' => e = .returned (.string (strL ([108, 100, 32, 40, 87, 41, 44] ++ pairsL.getD (c / 16 % 4) []))) ∧ Below w.heap.size w w' := by
  obtain ⟨R, hR⟩ : ∃ R, regsL.getD (c / 8 % 8) [] = R := ⟨_, rfl⟩
  obtain ⟨P, hP⟩ : ∃ P, pairsL.getD (c / 16 % 4) [] = P := ⟨_, rfl⟩
  have r1 : (strL R).size ≤ 4 := strL_le _ _ (by rw [← hR]; exact regsL_le _)
  have p1 : (strL P).size ≤ 2 := strL_le _ _ (by rw [← hP]; exact pairsL_le _)
  obtain ⟨T, hT⟩ : ∃ T, strL ([108, 100, 32, 40, 87, 41, 44] ++ pairsL.getD (c / 16 % 4) []) = T := ⟨_, rfl⟩
  rw [hT]
  simp only [hP] at hT
  have hqi : (c : Int) / 8 % 2 = 0 := by omega
  clear hq
  have HZ := Lib.hid (show (⟨#[108, 100, 32, 40, 87, 41, 44]⟩ : ByteArray) ++ strL P = T by rw [← hT]; show strL [108, 100, 32, 40, 87, 41, 44] ++ _ = _; rw [strL_app])
  have HR := Lib.hid hR
  have HP := Lib.hid hP
  clear hT hR hP
  go_enter Tryd.func30, Tryd.ntmps30
  go_wp2_with fail
  refine (ref_regs _).mono ?_
  rintro e w1 ⟨g, rfl, hg, hTab, hb1⟩
  have ck := lists_at hTab (c / 8 % 8) (by omega) R HR.out
  have cp : (w1.alloc (.cells #[.string ⟨#[98, 99]⟩, .string ⟨#[100, 101]⟩, .string ⟨#[104, 108]⟩, .string ⟨#[115, 112]⟩] 9)).cell? ⟨w1.heap.size, c / 16 % 4, none⟩ = some (.string (strL P)) := lists_at (tabS_made w1 pairsL 9) (c / 16 % 4) (by show c / 16 % 4 < 4; omega) P HP.out
  have HB := Lib.hid hb1
  clear hTab hb1
  go_wp2_with fail
  go_ret
  exact ⟨by rw [← HZ.out]; rfl, HB.out.alloc HB.out.size _⟩
set_option maxRecDepth 100000 in
set_option maxHeartbeats 1600000 in
theorem refMorez31 (c : Nat) (w : World) (h1 : 64 ≤ c) (h2 : c < 128) (hz : (c : Int) % 8 = 3) (hq : c / 8 % 2 = 1) : Calls Tryd.prog 30 #[.int .u8 c] w fun e w' => e = .returned (.string (strL ([108, 100, 32] ++ pairsL.getD (c / 16 % 4) [] ++ [44, 40, 87, 41]))) ∧ Below w.heap.size w w' := by
  obtain ⟨R, hR⟩ : ∃ R, regsL.getD (c / 8 % 8) [] = R := ⟨_, rfl⟩
  obtain ⟨P, hP⟩ : ∃ P, pairsL.getD (c / 16 % 4) [] = P := ⟨_, rfl⟩
  have r1 : (strL R).size ≤ 4 := strL_le _ _ (by rw [← hR]; exact regsL_le _)
  have p1 : (strL P).size ≤ 2 := strL_le _ _ (by rw [← hP]; exact pairsL_le _)
  obtain ⟨T, hT⟩ : ∃ T, strL ([108, 100, 32] ++ pairsL.getD (c / 16 % 4) [] ++ [44, 40, 87, 41]) = T := ⟨_, rfl⟩
  rw [hT]
  simp only [hP] at hT
  have hqi : (c : Int) / 8 % 2 = 1 := by omega
  clear hq
  have HZ := Lib.hid (show (⟨#[108, 100, 32]⟩ : ByteArray) ++ strL P ++ ⟨#[44, 40, 87, 41]⟩ = T by rw [← hT]; show strL [108, 100, 32] ++ _ ++ strL [44, 40, 87, 41] = _; rw [strL_app, strL_app])
  have HR := Lib.hid hR
  have HP := Lib.hid hP
  clear hT hR hP
  go_enter Tryd.func30, Tryd.ntmps30
  go_wp2_with fail
  refine (ref_regs _).mono ?_
  rintro e w1 ⟨g, rfl, hg, hTab, hb1⟩
  have ck := lists_at hTab (c / 8 % 8) (by omega) R HR.out
  have cp : (w1.alloc (.cells #[.string ⟨#[98, 99]⟩, .string ⟨#[100, 101]⟩, .string ⟨#[104, 108]⟩, .string ⟨#[115, 112]⟩] 9)).cell? ⟨w1.heap.size, c / 16 % 4, none⟩ = some (.string (strL P)) := lists_at (tabS_made w1 pairsL 9) (c / 16 % 4) (by show c / 16 % 4 < 4; omega) P HP.out
  have HB := Lib.hid hb1
  clear hTab hb1
  go_wp2_with fail
  go_ret
  exact ⟨by rw [← HZ.out]; rfl, HB.out.alloc HB.out.size _⟩
set_option maxRecDepth 100000 in
set_option maxHeartbeats 1600000 in
theorem refMorez4 (c : Nat) (w : World) (h1 : 64 ≤ c) (h2 : c < 128) (hz : (c : Int) % 8 = 4) : Calls Tryd.prog 30 #[.int .u8 c] w fun e w' => e = .returned (.string (strL ([110, 101, 103]))) ∧ Below w.heap.size w w' := by
  obtain ⟨R, hR⟩ : ∃ R, regsL.getD (c / 8 % 8) [] = R := ⟨_, rfl⟩
  obtain ⟨P, hP⟩ : ∃ P, pairsL.getD (c / 16 % 4) [] = P := ⟨_, rfl⟩
  have r1 : (strL R).size ≤ 4 := strL_le _ _ (by rw [← hR]; exact regsL_le _)
  have p1 : (strL P).size ≤ 2 := strL_le _ _ (by rw [← hP]; exact pairsL_le _)
  obtain ⟨T, hT⟩ : ∃ T, strL ([110, 101, 103]) = T := ⟨_, rfl⟩
  rw [hT]
  have HZ := Lib.hid (show (⟨#[110, 101, 103]⟩ : ByteArray) = T by rw [← hT]; rfl)
  have HR := Lib.hid hR
  have HP := Lib.hid hP
  clear hT hR hP
  go_enter Tryd.func30, Tryd.ntmps30
  go_wp2_with fail
  refine (ref_regs _).mono ?_
  rintro e w1 ⟨g, rfl, hg, hTab, hb1⟩
  have ck := lists_at hTab (c / 8 % 8) (by omega) R HR.out
  have cp : (w1.alloc (.cells #[.string ⟨#[98, 99]⟩, .string ⟨#[100, 101]⟩, .string ⟨#[104, 108]⟩, .string ⟨#[115, 112]⟩] 9)).cell? ⟨w1.heap.size, c / 16 % 4, none⟩ = some (.string (strL P)) := lists_at (tabS_made w1 pairsL 9) (c / 16 % 4) (by show c / 16 % 4 < 4; omega) P HP.out
  have HB := Lib.hid hb1
  clear hTab hb1
  go_wp2_with fail
  go_ret
  exact ⟨by rw [← HZ.out]; rfl, HB.out.alloc HB.out.size _⟩
set_option maxRecDepth 100000 in
set_option maxHeartbeats 1600000 in
theorem refMorez5a (c : Nat) (w : World) (h1 : 64 ≤ c) (h2 : c < 128) (hz : (c : Int) % 8 = 5) (hq : ((c : Int) == 77) = true) : Calls Tryd.prog 30 #[.int .u8 c] w fun e w' => e = .returned (.string (strL ([114, 101, 116, 105]))) ∧ Below w.heap.size w w' := by
  obtain ⟨R, hR⟩ : ∃ R, regsL.getD (c / 8 % 8) [] = R := ⟨_, rfl⟩
  obtain ⟨P, hP⟩ : ∃ P, pairsL.getD (c / 16 % 4) [] = P := ⟨_, rfl⟩
  have r1 : (strL R).size ≤ 4 := strL_le _ _ (by rw [← hR]; exact regsL_le _)
  have p1 : (strL P).size ≤ 2 := strL_le _ _ (by rw [← hP]; exact pairsL_le _)
  obtain ⟨T, hT⟩ : ∃ T, strL ([114, 101, 116, 105]) = T := ⟨_, rfl⟩
  rw [hT]
  have HZ := Lib.hid (show (⟨#[114, 101, 116, 105]⟩ : ByteArray) = T by rw [← hT]; rfl)
  have HR := Lib.hid hR
  have HP := Lib.hid hP
  clear hT hR hP
  go_enter Tryd.func30, Tryd.ntmps30
  go_wp2_with fail
  refine (ref_regs _).mono ?_
  rintro e w1 ⟨g, rfl, hg, hTab, hb1⟩
  have ck := lists_at hTab (c / 8 % 8) (by omega) R HR.out
  have cp : (w1.alloc (.cells #[.string ⟨#[98, 99]⟩, .string ⟨#[100, 101]⟩, .string ⟨#[104, 108]⟩, .string ⟨#[115, 112]⟩] 9)).cell? ⟨w1.heap.size, c / 16 % 4, none⟩ = some (.string (strL P)) := lists_at (tabS_made w1 pairsL 9) (c / 16 % 4) (by show c / 16 % 4 < 4; omega) P HP.out
  have HB := Lib.hid hb1
  clear hTab hb1
  go_wp2_with fail
  go_ret
  exact ⟨by rw [← HZ.out]; rfl, HB.out.alloc HB.out.size _⟩
set_option maxRecDepth 100000 in
set_option maxHeartbeats 1600000 in
theorem refMorez5b (c : Nat) (w : World) (h1 : 64 ≤ c) (h2 : c < 128) (hz : (c : Int) % 8 = 5) (hq : ((c : Int) == 77) = false) : Calls Tryd.prog 30 #[.int .u8 c] w fun e w' => e = .returned (.string (strL ([114, 101, 116, 110]))) ∧ Below w.heap.size w w' := by
  obtain ⟨R, hR⟩ : ∃ R, regsL.getD (c / 8 % 8) [] = R := ⟨_, rfl⟩
  obtain ⟨P, hP⟩ : ∃ P, pairsL.getD (c / 16 % 4) [] = P := ⟨_, rfl⟩
  have r1 : (strL R).size ≤ 4 := strL_le _ _ (by rw [← hR]; exact regsL_le _)
  have p1 : (strL P).size ≤ 2 := strL_le _ _ (by rw [← hP]; exact pairsL_le _)
  obtain ⟨T, hT⟩ : ∃ T, strL ([114, 101, 116, 110]) = T := ⟨_, rfl⟩
  rw [hT]
  have HZ := Lib.hid (show (⟨#[114, 101, 116, 110]⟩ : ByteArray) = T by rw [← hT]; rfl)
  have HR := Lib.hid hR
  have HP := Lib.hid hP
  clear hT hR hP
  go_enter Tryd.func30, Tryd.ntmps30
  go_wp2_with fail
  refine (ref_regs _).mono ?_
  rintro e w1 ⟨g, rfl, hg, hTab, hb1⟩
  have ck := lists_at hTab (c / 8 % 8) (by omega) R HR.out
  have cp : (w1.alloc (.cells #[.string ⟨#[98, 99]⟩, .string ⟨#[100, 101]⟩, .string ⟨#[104, 108]⟩, .string ⟨#[115, 112]⟩] 9)).cell? ⟨w1.heap.size, c / 16 % 4, none⟩ = some (.string (strL P)) := lists_at (tabS_made w1 pairsL 9) (c / 16 % 4) (by show c / 16 % 4 < 4; omega) P HP.out
  have HB := Lib.hid hb1
  clear hTab hb1
  go_wp2_with fail
  go_ret
  exact ⟨by rw [← HZ.out]; rfl, HB.out.alloc HB.out.size _⟩
set_option maxRecDepth 100000 in
set_option maxHeartbeats 1600000 in
theorem refMorez6 (c : Nat) (w : World) (h1 : 64 ≤ c) (h2 : c < 128) (hz : (c : Int) % 8 = 6) : Calls Tryd.prog 30 #[.int .u8 c] w fun e w' => e = .returned (.string (strL (modesL.getD (c / 8 % 4) []))) ∧ Below w.heap.size w w' := by
  obtain ⟨R, hR⟩ : ∃ R, regsL.getD (c / 8 % 8) [] = R := ⟨_, rfl⟩
  obtain ⟨P, hP⟩ : ∃ P, pairsL.getD (c / 16 % 4) [] = P := ⟨_, rfl⟩
  have r1 : (strL R).size ≤ 4 := strL_le _ _ (by rw [← hR]; exact regsL_le _)
  have p1 : (strL P).size ≤ 2 := strL_le _ _ (by rw [← hP]; exact pairsL_le _)
  obtain ⟨T, hT⟩ : ∃ T, strL (modesL.getD (c / 8 % 4) []) = T := ⟨_, rfl⟩
  rw [hT]
  obtain ⟨M, hM⟩ : ∃ M, modesL.getD (c / 8 % 4) [] = M := ⟨_, rfl⟩
  rw [hM] at hT
  have HM := Lib.hid hM
  clear hM
  have HZ := Lib.hid (show strL M = T by rw [← hT])
  have HR := Lib.hid hR
  have HP := Lib.hid hP
  clear hT hR hP
  go_enter Tryd.func30, Tryd.ntmps30
  go_wp2_with fail
  refine (ref_regs _).mono ?_
  rintro e w1 ⟨g, rfl, hg, hTab, hb1⟩
  have ck := lists_at hTab (c / 8 % 8) (by omega) R HR.out
  have cp : (w1.alloc (.cells #[.string ⟨#[98, 99]⟩, .string ⟨#[100, 101]⟩, .string ⟨#[104, 108]⟩, .string ⟨#[115, 112]⟩] 9)).cell? ⟨w1.heap.size, c / 16 % 4, none⟩ = some (.string (strL P)) := lists_at (tabS_made w1 pairsL 9) (c / 16 % 4) (by show c / 16 % 4 < 4; omega) P HP.out
  have cm : ((w1.alloc (.cells #[.string ⟨#[98, 99]⟩, .string ⟨#[100, 101]⟩, .string ⟨#[104, 108]⟩, .string ⟨#[115, 112]⟩] 9)).alloc (.cells #[.string ⟨#[105, 109, 32, 48]⟩, .string ⟨#[105, 109, 32, 48]⟩, .string ⟨#[105, 109, 32, 49]⟩, .string ⟨#[105, 109, 32, 50]⟩] 9)).cell? ⟨w1.heap.size + 1, c / 8 % 4, none⟩ = some (.string (strL M)) := by have hsz : (w1.alloc (.cells #[.string ⟨#[98, 99]⟩, .string ⟨#[100, 101]⟩, .string ⟨#[104, 108]⟩, .string ⟨#[115, 112]⟩] 9)).heap.size = w1.heap.size + 1 := (by simp); have hh := lists_at (tabS_made (w1.alloc (.cells #[.string ⟨#[98, 99]⟩, .string ⟨#[100, 101]⟩, .string ⟨#[104, 108]⟩, .string ⟨#[115, 112]⟩] 9)) modesL 9) (c / 8 % 4) (by show c / 8 % 4 < 4; omega) M HM.out; rw [hsz] at hh; exact hh
  have HB := Lib.hid hb1
  clear hTab hb1
  go_wp2_with fail
  go_ret
  exact ⟨by rw [← HZ.out]; rfl, (HB.out.alloc HB.out.size _).alloc (by simp; have := HB.out.size; omega) _⟩
set_option maxRecDepth 100000 in
set_option maxHeartbeats 1600000 in
theorem refMorez7 (c : Nat) (w : World) (h1 : 64 ≤ c) (h2 : c < 128) (hz : (c : Int) % 8 = 7) : Calls Tryd.prog 30 #[.int .u8 c] w fun e w' => e = .returned (.string (strL (ofIL.getD (c / 8 % 8) []))) ∧ Below w.heap.size w w' := by
  obtain ⟨R, hR⟩ : ∃ R, regsL.getD (c / 8 % 8) [] = R := ⟨_, rfl⟩
  obtain ⟨P, hP⟩ : ∃ P, pairsL.getD (c / 16 % 4) [] = P := ⟨_, rfl⟩
  have r1 : (strL R).size ≤ 4 := strL_le _ _ (by rw [← hR]; exact regsL_le _)
  have p1 : (strL P).size ≤ 2 := strL_le _ _ (by rw [← hP]; exact pairsL_le _)
  obtain ⟨T, hT⟩ : ∃ T, strL (ofIL.getD (c / 8 % 8) []) = T := ⟨_, rfl⟩
  rw [hT]
  obtain ⟨M, hM⟩ : ∃ M, ofIL.getD (c / 8 % 8) [] = M := ⟨_, rfl⟩
  rw [hM] at hT
  have HM := Lib.hid hM
  clear hM
  have HZ := Lib.hid (show strL M = T by rw [← hT])
  have HR := Lib.hid hR
  have HP := Lib.hid hP
  clear hT hR hP
  go_enter Tryd.func30, Tryd.ntmps30
  go_wp2_with fail
  refine (ref_regs _).mono ?_
  rintro e w1 ⟨g, rfl, hg, hTab, hb1⟩
  have ck := lists_at hTab (c / 8 % 8) (by omega) R HR.out
  have cp : (w1.alloc (.cells #[.string ⟨#[98, 99]⟩, .string ⟨#[100, 101]⟩, .string ⟨#[104, 108]⟩, .string ⟨#[115, 112]⟩] 9)).cell? ⟨w1.heap.size, c / 16 % 4, none⟩ = some (.string (strL P)) := lists_at (tabS_made w1 pairsL 9) (c / 16 % 4) (by show c / 16 % 4 < 4; omega) P HP.out
  have cm : ((w1.alloc (.cells #[.string ⟨#[98, 99]⟩, .string ⟨#[100, 101]⟩, .string ⟨#[104, 108]⟩, .string ⟨#[115, 112]⟩] 9)).alloc (.cells #[.string ⟨#[108, 100, 32, 105, 44, 97]⟩, .string ⟨#[108, 100, 32, 114, 44, 97]⟩, .string ⟨#[108, 100, 32, 97, 44, 105]⟩, .string ⟨#[108, 100, 32, 97, 44, 114]⟩, .string ⟨#[114, 114, 100]⟩, .string ⟨#[114, 108, 100]⟩, .string ⟨#[110, 111, 112]⟩, .string ⟨#[110, 111, 112]⟩] 9)).cell? ⟨w1.heap.size + 1, c / 8 % 8, none⟩ = some (.string (strL M)) := by have hsz : (w1.alloc (.cells #[.string ⟨#[98, 99]⟩, .string ⟨#[100, 101]⟩, .string ⟨#[104, 108]⟩, .string ⟨#[115, 112]⟩] 9)).heap.size = w1.heap.size + 1 := (by simp); have hh := lists_at (tabS_made (w1.alloc (.cells #[.string ⟨#[98, 99]⟩, .string ⟨#[100, 101]⟩, .string ⟨#[104, 108]⟩, .string ⟨#[115, 112]⟩] 9)) ofIL 9) (c / 8 % 8) (by show c / 8 % 8 < 8; omega) M HM.out; rw [hsz] at hh; exact hh
  have HB := Lib.hid hb1
  clear hTab hb1
  go_wp2_with fail
  go_ret
  exact ⟨by rw [← HZ.out]; rfl, (HB.out.alloc HB.out.size _).alloc (by simp; have := HB.out.size; omega) _⟩
theorem refMore (c : Nat) (w : World) (hc : c < 256) : Calls Tryd.prog 30 #[.int .u8 c] w fun e w' => e = .returned (.string (strL (moreL c))) ∧ Below w.heap.size w w' := by
  unfold moreL
  by_cases hB : (160 ≤ c ∧ c < 192) ∧ c % 8 < 4
  · rw [if_pos hB]
    have e : c = 160 ∨ c = 161 ∨ c = 162 ∨ c = 163 ∨ c = 168 ∨ c = 169 ∨ c = 170 ∨ c = 171 ∨ c = 176 ∨ c = 177 ∨ c = 178 ∨ c = 179 ∨ c = 184 ∨ c = 185 ∨ c = 186 ∨ c = 187 := by omega
    rcases e with rfl | rfl | rfl | rfl | rfl | rfl | rfl | rfl | rfl | rfl | rfl | rfl | rfl | rfl | rfl | rfl
    · exact refMoreB160 w
    · exact refMoreB161 w
    · exact refMoreB162 w
    · exact refMoreB163 w
    · exact refMoreB168 w
    · exact refMoreB169 w
    · exact refMoreB170 w
    · exact refMoreB171 w
    · exact refMoreB176 w
    · exact refMoreB177 w
    · exact refMoreB178 w
    · exact refMoreB179 w
    · exact refMoreB184 w
    · exact refMoreB185 w
    · exact refMoreB186 w
    · exact refMoreB187 w
  rw [if_neg hB]
  by_cases hN : c < 64 ∨ 128 ≤ c
  · rw [if_pos hN]
    by_cases h1 : c < 64
    · exact refMoren0 c w h1
    by_cases h2 : c < 160
    · exact refMoren1 c w (by omega) h2
    by_cases h3 : 192 ≤ c
    · exact refMoren2 c w h3 hc
    · exact refMoren3 c w (by omega) (by omega) (by omega)
  rw [if_neg hN]
  have l : 64 ≤ c := by omega
  have u : c < 128 := by omega
  by_cases z0 : c % 8 = 0
  · rw [if_pos z0]
    by_cases hq : regsL.getD (c / 8 % 8) [] = hlL
    · rw [if_pos hq]; exact refMorez0a c w l u (by omega) hq
    · rw [if_neg hq]; exact refMorez0b c w l u (by omega) hq
  rw [if_neg z0]
  by_cases z1 : c % 8 = 1
  · rw [if_pos z1]
    by_cases hq : regsL.getD (c / 8 % 8) [] = hlL
    · rw [if_pos hq]; exact refMorez1a c w l u (by omega) hq
    · rw [if_neg hq]; exact refMorez1b c w l u (by omega) hq
  rw [if_neg z1]
  by_cases z2 : c % 8 = 2
  · rw [if_pos z2]
    by_cases hq : c / 8 % 2 = 0
    · rw [hq]; exact refMorez20 c w l u (by omega) hq
    · have hq1 : c / 8 % 2 = 1 := by omega
      rw [hq1]; exact refMorez21 c w l u (by omega) hq1
  rw [if_neg z2]
  by_cases z3 : c % 8 = 3
  · rw [if_pos z3]
    by_cases hq : c / 8 % 2 = 0
    · rw [if_pos hq]; exact refMorez30 c w l u (by omega) hq
    · rw [if_neg hq]; exact refMorez31 c w l u (by omega) (by omega)
  rw [if_neg z3]
  by_cases z4 : c % 8 = 4
  · rw [if_pos z4]; exact refMorez4 c w l u (by omega)
  rw [if_neg z4]
  by_cases z5 : c % 8 = 5
  · rw [if_pos z5]
    by_cases hq : c = 77
    · rw [if_pos hq]; exact refMorez5a c w l u (by omega) (by rw [beq_iff_eq]; omega)
    · rw [if_neg hq]; exact refMorez5b c w l u (by omega) (by rw [beq_eq_false_iff_ne]; omega)
  rw [if_neg z5]
  by_cases z6 : c % 8 = 6
  · rw [if_pos z6]; exact refMorez6 c w l u (by omega)
  rw [if_neg z6]
  exact refMorez7 c w l u (by omega)

end Go.Proofs.YtkjibnnoeceaeaaDoor
