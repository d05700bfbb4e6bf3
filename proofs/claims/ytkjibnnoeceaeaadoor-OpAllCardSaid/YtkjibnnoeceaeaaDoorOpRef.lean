/- The document's tables of layer 7, name, digits, Away: their contracts. -/
import Derived.Test.YtkjibnnoeceaeaaDoorOpText2
import Derived.LoopTactic
import Derived.BigRegion
namespace Go.Proofs.YtkjibnnoeceaeaaDoor
open Go.RowKit

theorem tabS_made (w : World) (L : List (List UInt8)) (t : TypeId) : TabS w.heap.size L.length L (w.alloc (.cells (L.map fun l => Value.string (strL l)).toArray t)) := by
  intro j hj
  rw [cell_of_row _ _ j _ t (0, 0) (heap_alloc_new _ _)]
  simp [hj]
/-- A callee that answers a list of texts of its own. -/
def Lists (n : Nat) (L : List (List UInt8)) (w : World) (e : Ending) (w' : World) : Prop := ∃ g, e = .returned (.slice (some ⟨g, 0, none⟩) n n) ∧ g < w'.heap.size ∧ TabS g n L w' ∧ Below w.heap.size w w'

set_option maxRecDepth 100000 in
set_option maxHeartbeats 1600000 in
theorem ref_regs (w : World) : Calls Tryd.prog 29 #[] w (Lists 8 regsL w) := by
  go_enter Tryd.func29, Tryd.ntmps29
  go_wp2_with fail
  go_ret
  exact ⟨w.heap.size, rfl, by simp, tabS_made w regsL 9, balloc w _⟩

set_option maxRecDepth 100000 in
set_option maxHeartbeats 1600000 in
theorem ref_operations (w : World) : Calls Tryd.prog 48 #[] w (Lists 8 opersL w) := by
  go_enter Tryd.func48, Tryd.ntmps48
  go_wp2_with fail
  go_ret
  exact ⟨w.heap.size, rfl, by simp, tabS_made w opersL 9, balloc w _⟩

set_option maxRecDepth 100000 in
set_option maxHeartbeats 1600000 in
theorem ref_first (w : World) : Calls Tryd.prog 46 #[] w (Lists 64 firstL w) := by
  go_enter Tryd.func46, Tryd.ntmps46
  go_wp2_with fail
  go_ret
  exact ⟨w.heap.size, rfl, by simp, tabS_made w firstL 9, balloc w _⟩

set_option maxRecDepth 100000 in
set_option maxHeartbeats 1600000 in
theorem ref_last (w : World) : Calls Tryd.prog 47 #[] w (Lists 64 lastL w) := by
  go_enter Tryd.func47, Tryd.ntmps47
  go_wp2_with fail
  go_ret
  exact ⟨w.heap.size, rfl, by simp, tabS_made w lastL 9, balloc w _⟩

set_option maxHeartbeats 400000 in
theorem refName (ix : Int) (w : World) : Calls Tryd.prog 32 #[.int .i64 ix] w fun e w' => e = .returned (.string (strL (nameL ix))) ∧ w = w' := by
  by_cases h : ix = 1
  · subst h
    go_enter Tryd.func32, Tryd.ntmps32
    go_wp2_with fail
    go_ret
    exact ⟨rfl, rfl⟩
  · have H := Lib.hid (show strL (nameL ix) = ⟨#[105, 121]⟩ by unfold nameL; rw [if_neg h]; rfl)
    have h1 : (ix == 1) = false := by simpa using h
    clear h
    go_enter Tryd.func32, Tryd.ntmps32
    go_wp2_with fail
    go_ret
    exact ⟨by rw [H.out]; rfl, rfl⟩

def dgB (d : Nat) : UInt8 := UInt8.ofNat (48 + d)
theorem dec_sub (d : Nat) (h : d < 10) : (ByteArray.mk #[48, 49, 50, 51, 52, 53, 54, 55, 56, 57]).extract d (d + 1) = strL [dgB d] := by
  have e : d = 0 ∨ d = 1 ∨ d = 2 ∨ d = 3 ∨ d = 4 ∨ d = 5 ∨ d = 6 ∨ d = 7 ∨ d = 8 ∨ d = 9 := by omega
  clear h
  rcases e with rfl | rfl | rfl | rfl | rfl | rfl | rfl | rfl | rfl | rfl
  all_goals decide +kernel
theorem dec_step (u : Nat) (h : 10 ≤ u) : Lib.decDigits u = Lib.decDigits (u / 10) ++ [dgB (u % 10)] := by
  rw [Lib.decDigits, dif_neg (by omega)]; rfl
theorem dec_one (u : Nat) (h : u < 10) : Lib.decDigits u = [dgB u] := by
  rw [Lib.decDigits, dif_pos h]; rfl
/-- What stands ahead of the last digit. -/
def decUp (m : Nat) : List UInt8 := if m < 10 then [] else Lib.decDigits (m / 10)
theorem decUp_at (m : Nat) : Lib.decDigits m = decUp m ++ [dgB (m % 10)] := by
  unfold decUp
  by_cases h : m < 10
  · rw [if_pos h, dec_one m h, Nat.mod_eq_of_lt h]; rfl
  · rw [if_neg h, dec_step m (by omega)]
set_option maxRecDepth 100000 in
set_option maxHeartbeats 800000 in
theorem refDigits (n : Nat) (w : World) (hn : n < 1000) : Calls Tryd.prog 53 #[.int .i64 n] w fun e w' => e = .returned (.string (strL (Lib.decDigits n))) ∧ w = w' := by
  have hx0 := dec_sub (n % 10) (by omega)
  have hm0 : (n : Int) % 10 = ((n % 10 : Nat) : Int) := by omega
  obtain ⟨d, hd⟩ : ∃ d, n % 10 = d := ⟨_, rfl⟩
  have HD := Lib.hid (show Lib.decDigits n = decUp n ++ [dgB d] by rw [← hd]; exact decUp_at n)
  rw [hd] at hx0 hm0
  have d10 : d < 10 := by omega
  clear hd
  go_enter Tryd.func53, Tryd.ntmps53
  go_wp2_with fail
  clear hx0 hm0
  go_loop [0, 4] (fun u s => ∃ (m : Nat) (T : List UInt8), u = .int .i64 m ∧ m ≤ 999 ∧ T.length ≤ 3 ∧ Hid (T.length = 1 ∨ T.length = 2 ∧ m ≤ 99 ∨ T.length = 3 ∧ m ≤ 9) ∧ s = .string (strL T) ∧ Hid (Lib.decDigits n = decUp m ++ T)) (fun u _ => (intOf u).toNat)
  case atStart => exact ⟨n, [dgB d], rfl, by omega, by simp, Lib.hid (Or.inl rfl), rfl, HD⟩
  case round =>
    obtain ⟨m, T, rfl, hm, hT, HB, rfl, HE⟩ := hrel
    have tl : (strL T).size ≤ 3 := strL_le _ _ hT
    by_cases hlt : 10 ≤ m
    · obtain ⟨q, hq⟩ : ∃ q, m / 10 = q := ⟨_, rfl⟩
      have hq' : (m : Int) / 10 = (q : Int) := by omega
      obtain ⟨c, hc⟩ : ∃ c, q % 10 = c := ⟨_, rfl⟩
      have hc' : (q : Int) % 10 = (c : Int) := by omega
      have c10 : c < 10 := by omega
      have hxc := dec_sub c c10
      have hz : (strL [dgB c]).size = 1 := rfl
      have hB := HB.out
      have q1 : q ≤ 99 := by omega
      have q2 : q < m := by omega
      have HN := Lib.hid (show (dgB c :: T).length ≤ 3 ∧ ((dgB c :: T).length = 1 ∨ (dgB c :: T).length = 2 ∧ q ≤ 99 ∨ (dgB c :: T).length = 3 ∧ q ≤ 9) by simp only [List.length_cons]; omega)
      have HF := Lib.hid (show Lib.decDigits n = decUp q ++ (dgB c :: T) by
        rw [HE.out, show decUp m = Lib.decDigits q by unfold decUp; rw [if_neg (by omega), hq], decUp_at q, hc, List.append_assoc]; rfl)
      have HS := Lib.hid (show strL [dgB c] ++ strL T = strL (dgB c :: T) by rw [strL_app]; rfl)
      clear hq hc hB HB HE
      go_wp2_with fail
      go_round
      case rel => exact ⟨q, dgB c :: T, rfl, by omega, HN.out.1, Lib.hid HN.out.2, by rw [← HS.out], HF⟩
      case measure => simp [intOf]; omega
    · have HS := Lib.hid (show Lib.decDigits n = T by rw [HE.out, show decUp m = [] by unfold decUp; rw [if_pos (by omega)]]; rfl)
      have hlt2 : (m : Int) < 10 := by omega
      go_wp2_with fail
      go_ret
      exact ⟨by rw [HS.out]; rfl, rfl⟩

set_option maxRecDepth 100000 in
set_option maxHeartbeats 800000 in
theorem refAway (ix : Int) (d : Nat) (w : World) (hd : d < 256) : Calls Tryd.prog 31 #[.int .i64 ix, .int .u8 d] w fun e w' => e = .returned (.string (strL (awL ix d))) ∧ w = w' := by
  have n2 : (strL (nameL ix)).size ≤ 2 := strL_le _ _ (Nat.le_of_eq (nameL_len _))
  by_cases hlt : 128 ≤ d
  · have i2 : (strL (Lib.decDigits (256 - d))).size ≤ 3 := strL_le _ _ (dec_len _ (by omega)).2
    have HZ := Lib.hid (show (⟨#[40]⟩ : ByteArray) ++ strL (nameL ix) ++ ⟨#[45]⟩ ++ strL (Lib.decDigits (256 - d)) ++ ⟨#[41]⟩ = strL (awL ix d) by
      show strL [40] ++ strL (nameL ix) ++ strL [45] ++ strL _ ++ strL [41] = _
      rw [strL_app, strL_app, strL_app, strL_app]
      unfold awL distL
      rw [if_neg (by omega)]; simp)
    have HX := Lib.hid (fun w => refDigits (256 - d) w (by omega))
    have hs : (256 : Int) - (d : Int) = ((256 - d : Nat) : Int) := by omega
    go_enter Tryd.func31, Tryd.ntmps31
    go_wp2_with fail
    refine (refName _ _).mono ?_
    rintro e w' ⟨rfl, rfl⟩
    go_wp2_with fail
    refine (HX.out _).mono ?_
    rintro e w' ⟨rfl, rfl⟩
    go_wp2_with fail
    go_ret
    exact ⟨by rw [← HZ.out]; rfl, rfl⟩
  · have i2 : (strL (Lib.decDigits d)).size ≤ 3 := strL_le _ _ (dec_len _ (by omega)).2
    have HZ := Lib.hid (show (⟨#[40]⟩ : ByteArray) ++ strL (nameL ix) ++ ⟨#[43]⟩ ++ strL (Lib.decDigits d) ++ ⟨#[41]⟩ = strL (awL ix d) by
      show strL [40] ++ strL (nameL ix) ++ strL [43] ++ strL _ ++ strL [41] = _
      rw [strL_app, strL_app, strL_app, strL_app]
      unfold awL distL
      rw [if_pos (by omega)]; simp)
    have HX := Lib.hid (fun w => refDigits d w (by omega))
    have hd2 : decide (128 ≤ (d : Int)) = false := by simp; omega
    go_enter Tryd.func31, Tryd.ntmps31
    go_wp2_with fail
    refine (refName _ _).mono ?_
    rintro e w' ⟨rfl, rfl⟩
    go_wp2_with fail
    refine (HX.out _).mono ?_
    rintro e w' ⟨rfl, rfl⟩
    go_wp2_with fail
    go_ret
    exact ⟨by rw [← HZ.out]; rfl, rfl⟩

end Go.Proofs.YtkjibnnoeceaeaaDoor
