/- strconv.FormatUint at the base 16 below 65,536: its contract. -/
import Derived.Test.YtkjibnnoeceaeaaDoorHexWalk
import Derived.Test.YtkjibnnoeceaeaaDoorShelf
import Derived.WalkSpells
namespace Go.Proofs.YtkjibnnoeceaeaaDoor
open Go.RowKit

def strL (l : List UInt8) : ByteArray := ⟨l.toArray⟩
theorem strL_size (l : List UInt8) : (strL l).size = l.length := by simp [strL, ByteArray.size]
theorem strL_app (a b : List UInt8) : strL a ++ strL b = strL (a ++ b) := by
  apply ByteArray.ext
  simp [strL]

theorem digits_of (n : Nat) (h : n < 65536) : ∃ k, 1 ≤ k ∧ k ≤ 4 ∧ n < 16 ^ k ∧ ((n < 16 ∧ k = 1) ∨ (16 ≤ n ∧ n < 256 ∧ k = 2) ∨ (256 ≤ n ∧ n < 4096 ∧ k = 3) ∨ (4096 ≤ n ∧ k = 4)) := by
  by_cases h1 : n < 16
  · exact ⟨1, by omega, by omega, by omega, Or.inl ⟨h1, rfl⟩⟩
  by_cases h2 : n < 256
  · exact ⟨2, by omega, by omega, by omega, Or.inr (Or.inl ⟨by omega, h2, rfl⟩)⟩
  by_cases h3 : n < 4096
  · exact ⟨3, by omega, by omega, by omega, Or.inr (Or.inr (Or.inl ⟨by omega, h3, rfl⟩))⟩
  · exact ⟨4, by omega, by omega, by omega, Or.inr (Or.inr (Or.inr ⟨by omega, rfl⟩))⟩

theorem fbits (n k : Nat) (w : World) (h : Tab w) (hn : n < 65536) (hk : (n < 16 ∧ k = 1) ∨ (16 ≤ n ∧ n < 256 ∧ k = 2) ∨ (256 ≤ n ∧ n < 4096 ∧ k = 3) ∨ (4096 ≤ n ∧ k = 4)) :
    Calls Tryd.prog 77 #[.slice none 0 0, .int .u64 n, .int .i64 16, .bool false, .bool false] w fun e w' => e = .returned (.tuple #[.slice none 0 0, .string (strL (hexN k n))]) ∧ Below w.heap.size w w' := by
  rcases hk with ⟨h1, rfl⟩ | ⟨h1, h2, rfl⟩ | ⟨h1, h2, rfl⟩ | ⟨h1, rfl⟩
  · have e : hexN 1 n = [hexD n] := by simp only [hexN, List.nil_append, Nat.mod_eq_of_lt h1]
    rw [e]
    exact fbits1 n n w h h1 rfl
  · have e : hexN 2 n = [hexD (n / 16), hexD (n % 16)] := by simp only [hexN, List.nil_append, List.cons_append, Nat.mod_eq_of_lt (show n / 16 < 16 by omega)]
    rw [e]
    exact fbits2 n (n % 16) (n / 16) w h (by omega) (by omega) (by omega) (by omega)
  · have e : hexN 3 n = [hexD (n / 16 / 16), hexD (n / 16 % 16), hexD (n % 16)] := by simp only [hexN, List.nil_append, List.cons_append, Nat.mod_eq_of_lt (show n / 16 / 16 < 16 by omega)]
    rw [e]
    exact fbits3 n (n / 16) (n % 16) (n / 16 % 16) (n / 16 / 16) w h (by omega) (by omega) (by omega) (by omega) (by omega) (by omega)
  · have e : hexN 4 n = [hexD (n / 16 / 16 / 16), hexD (n / 16 / 16 % 16), hexD (n / 16 % 16), hexD (n % 16)] := by simp only [hexN, List.nil_append, List.cons_append, Nat.mod_eq_of_lt (show n / 16 / 16 / 16 < 16 by omega)]
    rw [e]
    exact fbits4 n (n / 16) (n / 16 / 16) (n % 16) (n / 16 % 16) (n / 16 / 16 % 16) (n / 16 / 16 / 16) w h (by omega) (by omega) (by omega) (by omega) (by omega) (by omega) (by omega) (by omega)

set_option maxHeartbeats 400000 in
theorem fmtIn (n k : Nat) (w : World) (h : Tab w) (hn : n < 65536) (hk : (n < 16 ∧ k = 1) ∨ (16 ≤ n ∧ n < 256 ∧ k = 2) ∨ (256 ≤ n ∧ n < 4096 ∧ k = 3) ∨ (4096 ≤ n ∧ k = 4)) :
    Calls Tryd.prog 78 #[.int .u64 n, .int .i64 16] w fun e w' => e = .returned (.string (strL (hexN k n))) ∧ Below w.heap.size w w' := by
  have H := Lib.hid (fbits n k w h hn hk)
  clear h hk
  go_enter Tryd.func78, Tryd.ntmps78
  go_wp2_with fail
  refine (H.out).mono ?_
  rintro e w1 ⟨rfl, hb1⟩
  go_wp2_with fail
  go_ret
  exact ⟨rfl, hb1⟩
set_option maxHeartbeats 400000 in
theorem fmtU (n k : Nat) (w : World) (h : Tab w) (hn : n < 65536) (hk : (n < 16 ∧ k = 1) ∨ (16 ≤ n ∧ n < 256 ∧ k = 2) ∨ (256 ≤ n ∧ n < 4096 ∧ k = 3) ∨ (4096 ≤ n ∧ k = 4)) :
    Calls Tryd.prog 72 #[.int .u64 n, .int .i64 16] w fun e w' => e = .returned (.string (strL (hexN k n))) ∧ Below w.heap.size w w' := by
  have H := Lib.hid (fmtIn n k w h hn hk)
  clear h hk
  go_enter Tryd.func72, Tryd.ntmps72
  go_wp2_with fail
  refine (H.out).mono ?_
  rintro e w1 ⟨rfl, hb1⟩
  go_wp2_with fail
  go_ret
  exact ⟨rfl, hb1⟩

theorem fill_is (k d : Nat) (w : World) (h : k ≤ d) (hd : d ≤ 4) : Calls Tryd.prog 73 #[.string ⟨#[48]⟩, .int .i64 ((d : Int) - (k : Int))] w fun e w' => e = .returned (.string (strL (List.replicate (d - k) 48))) ∧ Below w.heap.size w w' := by
  have e : ((d : Int) - (k : Int)) = ((d - k : Nat) : Int) := by omega
  rw [e]
  refine (Tryd.strings_Repeat ⟨#[48]⟩ (d - k) w (by omega) (by show 1 * (d - k) ≤ _; omega)).mono ?_
  rintro e w' ⟨rfl, hb⟩
  refine ⟨?_, hb⟩
  have hr : Lib.repeatL [(48 : UInt8)] (d - k) = List.replicate (d - k) 48 := by
    generalize d - k = m
    induction m with
    | zero => rfl
    | succ m ih => simp [Lib.repeatL, ih, List.replicate_succ] 
  show Ending.returned (.string ⟨(Lib.repeatL [(48 : UInt8)] (d - k)).toArray⟩) = _
  rw [hr]; rfl

end Go.Proofs.YtkjibnnoeceaeaaDoor
