/- A keyboard in a block; Press and Release: their contracts. -/
import Derived.Test.YtfppbhpokeafpaaDoorKeysTab
import Derived.BigQuiet
import Derived.RegionTactic
namespace Go.Proofs.YtfppbhpokeafpaaDoor
open Go.RowKit

/-- A keyboard's cells. -/
def kcells (S : Nat → Bool) : Array Value := #[.int .u8 (rowV S 0), .int .u8 (rowV S 1), .int .u8 (rowV S 2), .int .u8 (rowV S 3), .int .u8 (rowV S 4), .int .u8 (rowV S 5), .int .u8 (rowV S 6), .int .u8 (rowV S 7)]
theorem kcells_at (S : Nat → Bool) (r : Nat) (h : r < 8) : (kcells S)[r]? = some (.int .u8 (rowV S r)) := by
  have e : r = 0 ∨ r = 1 ∨ r = 2 ∨ r = 3 ∨ r = 4 ∨ r = 5 ∨ r = 6 ∨ r = 7 := by omega
  rcases e with rfl | rfl | rfl | rfl | rfl | rfl | rfl | rfl <;> rfl
theorem kcells_set (S : Nat → Bool) (R J : Nat) (b : Bool) (h : R < 8) (hJ : J < 5) : (kcells S).setIfInBounds R (.int .u8 (rowV (setS S (5 * R + J) b) R)) = kcells (setS S (5 * R + J) b) := by
  apply Array.ext_getElem?
  intro i
  by_cases hi : i < 8
  · by_cases e : R = i
    · subst e
      rw [Array.getElem?_setIfInBounds_self_of_lt (by exact h), kcells_at _ _ hi]
    · rw [Array.getElem?_setIfInBounds_ne e, kcells_at _ _ hi, kcells_at _ _ hi, rowV_far]
      omega
  · rw [Array.getElem?_eq_none (by simp; exact Nat.le_of_not_lt hi), Array.getElem?_eq_none (by exact Nat.le_of_not_lt hi)]
/-- The keyboard S lies in block b. -/
def KeysAt (w : World) (b : Nat) (S : Nat → Bool) : Prop := w.heap[b]? = some (.cells (kcells S) 46 (0, 0))
theorem KeysAt.lt {w : World} {b : Nat} {S : Nat → Bool} (h : KeysAt w b S) : b < w.heap.size := by
  rcases Nat.lt_or_ge b w.heap.size with hlt | hge
  · exact hlt
  · unfold KeysAt at h; rw [Array.getElem?_eq_none hge] at h; cases h
theorem KeysAt.cell {w : World} {b : Nat} {S : Nat → Bool} (h : KeysAt w b S) (r : Nat) (hr : r < 8) : w.cell? ⟨b, r, none⟩ = some (.int .u8 (rowV S r)) := by
  rw [cell_of_row w b r _ _ (0, 0) h, kcells_at _ _ hr]
theorem KeysAt.frozen {w : World} {b : Nat} {S : Nat → Bool} (h : KeysAt w b S) (r : Nat) : w.frozen? ⟨b, r, none⟩ = false := frozen_of_row w b r _ _ h
theorem KeysAt.block {w w' : World} {b : Nat} {S : Nat → Bool} (h : KeysAt w b S) (hb : w'.heap[b]? = w.heap[b]?) : KeysAt w' b S := hb.trans h
theorem KeysAt.below {w w' : World} {b : Nat} {S : Nat → Bool} (h : KeysAt w b S) (hb : Below w.heap.size w w') : KeysAt w' b S := h.block (hb.block b h.lt)
theorem KeysAt.set {w : World} {b : Nat} {S : Nat → Bool} (h : KeysAt w b S) (R J : Nat) (on : Bool) (hR : R < 8) (hJ : J < 5) : KeysAt (w.setCell ⟨b, R, none⟩ (.int .u8 (rowV (setS S (5 * R + J) on) R))) b (setS S (5 * R + J) on) := by
  unfold KeysAt
  rw [heap_setCell_same w b R _ _ _ h, kcells_set S R J on hR hJ]

/-- Behind a call that writes into block b alone. -/
structure Wrote (b : Nat) (w w' : World) : Prop where
  os : w'.os = w.os
  tape : w'.tape = w.tape
  output : w'.output = w.output
  size : w'.heap.size = w.heap.size
  block : ∀ k, k ≠ b → w'.heap[k]? = w.heap[k]?
theorem Wrote.refl (b : Nat) (w : World) : Wrote b w w := ⟨rfl, rfl, rfl, rfl, fun _ _ => rfl⟩
theorem Wrote.drewN {b : Nat} {w : World} (n : Nat) : Wrote b w (w.drewN n) := ⟨rfl, rfl, rfl, rfl, fun _ _ => rfl⟩
theorem Wrote.trans {b : Nat} {w w1 w2 : World} (h : Wrote b w w1) (k : Wrote b w1 w2) : Wrote b w w2 :=
  ⟨k.os.trans h.os, k.tape.trans h.tape, k.output.trans h.output, k.size.trans h.size, fun i hi => (k.block i hi).trans (h.block i hi)⟩
theorem Wrote.setCell (b j : Nat) (w : World) (v : Value) : Wrote b w (w.setCell ⟨b, j, none⟩ v) :=
  ⟨rfl, rfl, rfl, by simp [World.setCell], fun _ h => Below.heap_setCell _ _ _ _ h⟩
theorem Wrote.below {b B : Nat} {w w' : World} (h : Wrote b w w') (hB : B ≤ b) : Below B w w' :=
  ⟨h.os, h.tape, h.output, Nat.le_of_eq h.size.symm, fun k hk => h.block k (by omega)⟩

theorem pw_of (J : Nat) : pw J = ((2 ^ J : Nat) : Int) := rfl
set_option maxHeartbeats 1600000 in
theorem place_yes (A : Array Value) (b : Nat) (s : ByteArray) (R J : Nat) (w : World) (hT : NmTab A w) (hR : R < 8) (hJ : J < 5) (hk : keyN s = 5 * R + J) :
    Calls Tryd.prog 21 #[.pointer (some ⟨b, 0, none⟩), .string s] w fun e w' => e = .returned (.tuple #[.int .i64 R, .int .u8 (pw J), .int .i64 0]) ∧ ∃ n, w' = w.drewN n := by
  have HF := Lib.hid (find_yes A s R J w hT hR hJ hk)
  clear hk hT
  have e : J = 0 ∨ J = 1 ∨ J = 2 ∨ J = 3 ∨ J = 4 := by omega
  rcases e with rfl | rfl | rfl | rfl | rfl
  all_goals
    clear hJ
    go_enter Tryd.func21, Tryd.ntmps21
    go_wp2_with fail
    refine (HF.out).mono ?_
    rintro e w' ⟨rfl, rfl⟩
    go_wp2_with fail
    go_quiet (fail)
    go_wp2_with fail
    go_ret3
    exact ⟨rfl, _, rfl⟩
set_option maxHeartbeats 800000 in
theorem place_no (A : Array Value) (b : Nat) (s : ByteArray) (w : World) (hT : NmTab A w) (hk : keyN s = 40) :
    Calls Tryd.prog 21 #[.pointer (some ⟨b, 0, none⟩), .string s] w fun e w' => e = .returned (.tuple #[.int .i64 0, .int .u8 0, .int .i64 10]) ∧ w = w' := by
  have HF := Lib.hid (find_no A s w hT hk)
  clear hk hT
  go_enter Tryd.func21, Tryd.ntmps21
  go_wp2_with fail
  refine (HF.out).mono ?_
  rintro e w' ⟨rfl, rfl⟩
  go_wp2_with fail
  go_ret3
  exact ⟨rfl, rfl⟩
set_option maxHeartbeats 800000 in
theorem place_nil (s : ByteArray) (w : World) :
    Calls Tryd.prog 21 #[.pointer none, .string s] w fun e w' => e = .returned (.tuple #[.int .i64 0, .int .u8 0, .int .i64 1]) ∧ w = w' := by
  go_enter Tryd.func21, Tryd.ntmps21
  go_wp2_with fail
  go_ret3
  exact ⟨rfl, rfl⟩
set_option maxHeartbeats 1600000 in
theorem press_yes (A : Array Value) (b : Nat) (S : Nat → Bool) (s : ByteArray) (R J : Nat) (w : World) (hT : NmTab A w) (hK : KeysAt w b S) (hR : R < 8) (hJ : J < 5) (hk : keyN s = 5 * R + J) :
    Calls Tryd.prog 19 #[.pointer (some ⟨b, 0, none⟩), .string s] w fun e w' => e = .returned (.int .i64 0) ∧ KeysAt w' b (setS S (5 * R + J) true) ∧ Wrote b w w' := by
  have HP := Lib.hid (place_yes A b s R J w hT hR hJ hk)
  have HN := Lib.hid (rowV_near S R J true hJ)
  have HS := Lib.hid (fun n => (show KeysAt (w.drewN n) b S from hK).set R J true hR hJ)
  have HC := Lib.hid (fun n => (show KeysAt (w.drewN n) b S from hK).cell R hR)
  have HF := Lib.hid (fun n => (show KeysAt (w.drewN n) b S from hK).frozen R)
  have hbd := rowV_bd S R
  clear hk hT hK hJ
  obtain ⟨x, hx⟩ : ∃ x, rowV S R = x := ⟨_, rfl⟩
  obtain ⟨y, hy⟩ : ∃ y, rowV (setS S (5 * R + J) true) R = y := ⟨_, rfl⟩
  obtain ⟨m, hm⟩ : ∃ m, pw J = m := ⟨_, rfl⟩
  rw [hy, hm, hx] at HN
  rw [hy] at HS
  rw [hx] at HC hbd
  rw [hm] at HP
  clear hx hy hm
  go_enter Tryd.func19, Tryd.ntmps19
  go_wp2_with fail
  refine HP.out.mono ?_
  rintro e w' ⟨rfl, n, rfl⟩
  have hc := HC.out (n + 1)
  have hf := HF.out (n + 1)
  have hR8 : (R : Int) < 8 := by omega
  have hn : bits .or .u8 x m = y := HN.out.symm
  go_wp2_with fail
  go_region
  go_wp2_with fail
  go_ret
  exact ⟨rfl, HS.out (n + 1), (Wrote.drewN (n + 1)).trans (Wrote.setCell _ _ _ _)⟩
set_option maxHeartbeats 1600000 in
theorem release_yes (A : Array Value) (b : Nat) (S : Nat → Bool) (s : ByteArray) (R J : Nat) (w : World) (hT : NmTab A w) (hK : KeysAt w b S) (hR : R < 8) (hJ : J < 5) (hk : keyN s = 5 * R + J) :
    Calls Tryd.prog 18 #[.pointer (some ⟨b, 0, none⟩), .string s] w fun e w' => e = .returned (.int .i64 0) ∧ KeysAt w' b (setS S (5 * R + J) false) ∧ Wrote b w w' := by
  have HP := Lib.hid (place_yes A b s R J w hT hR hJ hk)
  have HN := Lib.hid (rowV_near S R J false hJ)
  have HS := Lib.hid (fun n => (show KeysAt (w.drewN n) b S from hK).set R J false hR hJ)
  have HC := Lib.hid (fun n => (show KeysAt (w.drewN n) b S from hK).cell R hR)
  have HF := Lib.hid (fun n => (show KeysAt (w.drewN n) b S from hK).frozen R)
  have hbd := rowV_bd S R
  clear hk hT hK hJ
  obtain ⟨x, hx⟩ : ∃ x, rowV S R = x := ⟨_, rfl⟩
  obtain ⟨y, hy⟩ : ∃ y, rowV (setS S (5 * R + J) false) R = y := ⟨_, rfl⟩
  obtain ⟨m, hm⟩ : ∃ m, pw J = m := ⟨_, rfl⟩
  rw [hy, hm, hx] at HN
  rw [hy] at HS
  rw [hx] at HC hbd
  rw [hm] at HP
  clear hx hy hm
  go_enter Tryd.func18, Tryd.ntmps18
  go_wp2_with fail
  refine HP.out.mono ?_
  rintro e w' ⟨rfl, n, rfl⟩
  have hc := HC.out (n + 1)
  have hf := HF.out (n + 1)
  have hR8 : (R : Int) < 8 := by omega
  have hn : bits .andNot .u8 x m = y := HN.out.symm
  go_wp2_with fail
  go_region
  go_wp2_with fail
  go_ret
  exact ⟨rfl, HS.out (n + 1), (Wrote.drewN (n + 1)).trans (Wrote.setCell _ _ _ _)⟩
set_option maxHeartbeats 800000 in
theorem press_no (A : Array Value) (b : Nat) (s : ByteArray) (w : World) (hT : NmTab A w) (hk : keyN s = 40) : Calls Tryd.prog 19 #[.pointer (some ⟨b, 0, none⟩), .string s] w fun e w' => e = .returned (.int .i64 10) ∧ w = w' := by
  have HP := Lib.hid (place_no A b s w hT hk)
  clear hT hk
  go_enter Tryd.func19, Tryd.ntmps19
  go_wp2_with fail
  refine (HP.out).mono ?_
  rintro e w' ⟨rfl, rfl⟩
  go_wp2_with fail
  go_ret
  exact ⟨rfl, rfl⟩
set_option maxHeartbeats 800000 in
theorem press_nil (s : ByteArray) (w : World) : Calls Tryd.prog 19 #[.pointer none, .string s] w fun e w' => e = .returned (.int .i64 1) ∧ w = w' := by
  go_enter Tryd.func19, Tryd.ntmps19
  go_wp2_with fail
  refine (place_nil s w).mono ?_
  rintro e w' ⟨rfl, rfl⟩
  go_wp2_with fail
  go_ret
  exact ⟨rfl, rfl⟩
set_option maxHeartbeats 800000 in
theorem release_no (A : Array Value) (b : Nat) (s : ByteArray) (w : World) (hT : NmTab A w) (hk : keyN s = 40) : Calls Tryd.prog 18 #[.pointer (some ⟨b, 0, none⟩), .string s] w fun e w' => e = .returned (.int .i64 10) ∧ w = w' := by
  have HP := Lib.hid (place_no A b s w hT hk)
  clear hT hk
  go_enter Tryd.func18, Tryd.ntmps18
  go_wp2_with fail
  refine (HP.out).mono ?_
  rintro e w' ⟨rfl, rfl⟩
  go_wp2_with fail
  go_ret
  exact ⟨rfl, rfl⟩
set_option maxHeartbeats 800000 in
theorem release_nil (s : ByteArray) (w : World) : Calls Tryd.prog 18 #[.pointer none, .string s] w fun e w' => e = .returned (.int .i64 1) ∧ w = w' := by
  go_enter Tryd.func18, Tryd.ntmps18
  go_wp2_with fail
  refine (place_nil s w).mono ?_
  rintro e w' ⟨rfl, rfl⟩
  go_wp2_with fail
  go_ret
  exact ⟨rfl, rfl⟩
end Go.Proofs.YtfppbhpokeafpaaDoor
