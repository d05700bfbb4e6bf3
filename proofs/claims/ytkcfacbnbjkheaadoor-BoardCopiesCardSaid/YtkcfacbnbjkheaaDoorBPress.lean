/- Press of a keyboard that lies in the midst of a block. -/
import Derived.Test.YtkcfacbnbjkheaaDoorBoardTell
import Derived.Test.YtkcfacbnbjkheaaDoorKeysTab
namespace Go.Proofs.YtkcfacbnbjkheaaDoor
open Go.RowKit
set_option maxRecDepth 100000

theorem pw_of (J : Nat) : pw J = ((2 ^ J : Nat) : Int) := rfl
set_option maxHeartbeats 1600000 in
theorem keyPlace_yes (A : Array Value) (b o : Nat) (s : ByteArray) (R J : Nat) (w : World) (hT : NmTab A w) (hR : R < 8) (hJ : J < 5) (hk : keyN s = 5 * R + J) :
    Calls Tryd.prog 59 #[.pointer (some ⟨b, o, none⟩), .string s] w fun e w' => e = .returned (.tuple #[.int .i64 R, .int .u8 (pw J), .int .i64 0]) ∧ ∃ n, w' = w.drewN n := by
  have HF := Lib.hid (find_yes A s R J w hT hR hJ hk)
  clear hk hT
  have e : J = 0 ∨ J = 1 ∨ J = 2 ∨ J = 3 ∨ J = 4 := by omega
  rcases e with rfl | rfl | rfl | rfl | rfl
  all_goals
    clear hJ
    go_enter Tryd.func59, Tryd.ntmps59
    go_wp2_with fail
    refine (HF.out).mono ?_
    rintro e w' ⟨rfl, rfl⟩
    go_wp2_with fail
    go_quiet (fail)
    go_wp2_with fail
    go_ret3
    exact ⟨rfl, _, rfl⟩
set_option maxHeartbeats 800000 in
theorem keyPlace_no (A : Array Value) (b o : Nat) (s : ByteArray) (w : World) (hT : NmTab A w) (hk : keyN s = 40) :
    Calls Tryd.prog 59 #[.pointer (some ⟨b, o, none⟩), .string s] w fun e w' => e = .returned (.tuple #[.int .i64 0, .int .u8 0, .int .i64 10]) ∧ w = w' := by
  have HF := Lib.hid (find_no A s w hT hk)
  clear hk hT
  go_enter Tryd.func59, Tryd.ntmps59
  go_wp2_with fail
  refine (HF.out).mono ?_
  rintro e w' ⟨rfl, rfl⟩
  go_wp2_with fail
  go_ret3
  exact ⟨rfl, rfl⟩
set_option maxHeartbeats 1600000 in
theorem press_yes (A : Array Value) (b o : Nat) (S : Nat → Bool) (s : ByteArray) (R J : Nat) (w : World) (hT : NmTab A w) (hK : KeysIn w b o S) (hf : ∀ j, w.frozen? ⟨b, j, none⟩ = false) (hR : R < 8) (hJ : J < 5) (hk : keyN s = 5 * R + J) :
    Calls Tryd.prog 38 #[.pointer (some ⟨b, o, none⟩), .string s] w fun e w' => e = .returned (.int .i64 0) ∧ ∃ n, w' = (w.drewN n).setCell ⟨b, o + R, none⟩ (.int .u8 (rowV (setS S (5 * R + J) true) R)) := by
  have HP := Lib.hid (keyPlace_yes A b o s R J w hT hR hJ hk)
  have HN := Lib.hid (rowV_near S R J true hJ)
  have HC := Lib.hid (fun n => show (w.drewN n).cell? ⟨b, o + R, none⟩ = some (.int .u8 (rowV S R)) from hK R hR)
  have HF := Lib.hid (fun n => show (w.drewN n).frozen? ⟨b, o + R, none⟩ = false from hf (o + R))
  have hbd := rowV_bd S R
  clear hk hT hK hJ hf
  obtain ⟨x, hx⟩ : ∃ x, rowV S R = x := ⟨_, rfl⟩
  obtain ⟨y, hy⟩ : ∃ y, rowV (setS S (5 * R + J) true) R = y := ⟨_, rfl⟩
  obtain ⟨m, hm⟩ : ∃ m, pw J = m := ⟨_, rfl⟩
  rw [hy, hm, hx] at HN
  rw [hy]
  rw [hx] at HC hbd
  rw [hm] at HP
  clear hx hy hm
  go_enter Tryd.func38, Tryd.ntmps38
  go_wp2_with fail
  refine HP.out.mono ?_
  rintro e w' ⟨rfl, n, rfl⟩
  have hc := HC.out (n + 1)
  have hf := HF.out (n + 1)
  have hR8 : (R : Int) < 8 := by omega
  have hn : bits .or .u8 x m = y := HN.out.symm
  go_wp2_with fail
  go_region
  go_wp2_with fail
  go_ret
  exact ⟨rfl, n + 1, rfl⟩
set_option maxHeartbeats 800000 in
theorem press_no (A : Array Value) (b o : Nat) (s : ByteArray) (w : World) (hT : NmTab A w) (hk : keyN s = 40) : Calls Tryd.prog 38 #[.pointer (some ⟨b, o, none⟩), .string s] w fun e w' => e = .returned (.int .i64 10) ∧ w = w' := by
  have HP := Lib.hid (keyPlace_no A b o s w hT hk)
  clear hT hk
  go_enter Tryd.func38, Tryd.ntmps38
  go_wp2_with fail
  refine (HP.out).mono ?_
  rintro e w' ⟨rfl, rfl⟩
  go_wp2_with fail
  go_ret
  exact ⟨rfl, rfl⟩
end Go.Proofs.YtkcfacbnbjkheaaDoor
