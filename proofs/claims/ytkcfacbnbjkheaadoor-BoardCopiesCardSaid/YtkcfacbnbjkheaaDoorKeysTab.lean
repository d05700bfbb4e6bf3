/- The table of the keys' names, and where a key is: keys.Find, its contract. -/
import Derived.Test.YtkcfacbnbjkheaaDoorKeysMath
import Derived.Test.YtkcfacbnbjkheaaDoorChecked
import Derived.Test.YtkcfacbnbjkheaaDoorRowIndex
import Derived.Lib.Hide
import Derived.LoopTactic
namespace Go.Proofs.YtkcfacbnbjkheaaDoor
open Go.RowKit
set_option maxRecDepth 100000

/-- The variable keys.names: eight rows of five names, wherever these lie. -/
structure NmTab (A : Array Value) (w : World) : Prop where
  size : A.size = 8
  range : w.rangeAt 1 0 A.toList
  row : ∀ r, r < 8 → ∃ b o, b < w.heap.size ∧ A[r]? = some (.slice (some ⟨b, o, none⟩) 5 5) ∧ ∀ j, j < 5 → w.cell? ⟨b, o + j, none⟩ = some (nmV (5 * r + j))
theorem NmTab.lt {A : Array Value} {w : World} (h : NmTab A w) : 1 < w.heap.size := by
  have h0 := h.size
  exact World.block_lt_of_cell? w _ (h.range 0 A[0] (by simp))
theorem NmTab.below {A : Array Value} {w w' : World} (h : NmTab A w) (hb : Below w.heap.size w w') : NmTab A w' where
  size := h.size
  range := fun j v hj => (hb.cell (p := ⟨_, 0 + j, none⟩) h.lt).trans (h.range j v hj)
  row := fun r hr => by
    obtain ⟨b, o, h1, h2, h3⟩ := h.row r hr
    exact ⟨b, o, Nat.lt_of_lt_of_le h1 hb.size, h2, fun j hj => (hb.cell (p := ⟨b, o + j, none⟩) h1).trans (h3 j hj)⟩

def tabLoad (v : Value) : Sem Value := Instr.loadAt 111 v
theorem tabLoad_as (v : Value) : Instr.loadAt 111 v = tabLoad v := rfl
theorem run_tabLoad {A : Array Value} {u : World} (h : NmTab A u) : (tabLoad (.pointer (some ⟨1, 0, none⟩))).run Tryd.prog u = .ok (.agg A) u := by
  have := run_loadAt_mid (P := Tryd.prog) u 1 0 111 A.toList _ h.range Tryd.underlying111 rfl (by rw [Array.length_toList, h.size]; kernel_rfl)
  rw [Array.toArray_toList] at this
  exact this
attribute [local simp ↓ high] tabLoad_as

set_option maxHeartbeats 800000 in
theorem find_yes (A : Array Value) (s : ByteArray) (R J : Nat) (w : World) (hT : NmTab A w) (hR : R < 8) (hJ : J < 5) (hk : keyN s = 5 * R + J) :
    Calls Tryd.prog 68 #[.string s] w fun e w' => e = .returned (.tuple #[.int .i64 R, .int .i64 J, .bool true]) ∧ w = w' := by
  have hL := run_tabLoad hT
  have HT := Lib.hid hT
  have HK := Lib.hid hk
  clear hT hk
  go_enter Tryd.func68, Tryd.ntmps68
  go_wp2_with fail
  go_loop [10] (fun i => ∃ r : Nat, i = .int .i64 r ∧ r ≤ R) (fun i => 40 - (intOf i).toNat)
  case atStart => exact ⟨0, rfl, by omega⟩
  case round =>
    obtain ⟨r, rfl, hr⟩ := hrel
    obtain ⟨b, o, hbl, hrow, hcell⟩ := HT.out.row r (by omega)
    have HC := Lib.hid hcell
    have hix := fun u => run_index_row (P := Tryd.prog) 111 90 8 A .i64 r _ Tryd.underlying111 Tryd.underlying90 rfl (by kernel_rfl) (by omega) hrow u
    clear hcell hrow
    go_wp2_with fail
    go_loop [16] (fun i => ∃ j : Nat, i = .int .i64 j ∧ (r = R → j ≤ J) ∧ j ≤ 5) (fun i => 5 - (intOf i).toNat)
    case atStart => exact ⟨0, rfl, by omega, by omega⟩
    case round =>
      obtain ⟨j, rfl, hj, hj5⟩ := hrel
      by_cases h5 : j < 5
      · have hc := HC.out j h5
        unfold nmV at hc
        by_cases he : 5 * r + j = 5 * R + J
        · have hb : ((nm (5 * r + j)).toList == s.toList) = true := str_eq (by rw [he]; exact nm_of_key (by omega) HK.out)
          have hN : (nm (5 * r + j)).size ≤ 5 := nm_size _
          obtain ⟨rfl, rfl⟩ : r = R ∧ j = J := by omega
          generalize nm (5 * r + j) = N at *
          clear he
          go_wp2_with fail
          go_ret3
          exact ⟨rfl, rfl⟩
        · have hb : ((nm (5 * r + j)).toList == s.toList) = false := str_ne (keyN_ne (by omega) HK.out he)
          have hN : (nm (5 * r + j)).size ≤ 5 := nm_size _
          generalize nm (5 * r + j) = N at *
          go_wp2_with fail
          go_round
          case rel => exact ⟨j + 1, by go_num, by omega, by omega⟩
          case measure => simp [intOf]; omega
      · obtain rfl : j = 5 := by omega
        go_wp2_with fail
        go_round
        case rel => exact ⟨r + 1, by go_num, by omega⟩
        case measure => simp [intOf]; omega
set_option maxHeartbeats 800000 in
theorem find_no (A : Array Value) (s : ByteArray) (w : World) (hT : NmTab A w) (hk : keyN s = 40) :
    Calls Tryd.prog 68 #[.string s] w fun e w' => e = .returned (.tuple #[.int .i64 0, .int .i64 0, .bool false]) ∧ w = w' := by
  have hL := run_tabLoad hT
  have HT := Lib.hid hT
  have HK := Lib.hid hk
  clear hT hk
  go_enter Tryd.func68, Tryd.ntmps68
  go_wp2_with fail
  go_loop [10] (fun i => ∃ r : Nat, i = .int .i64 r ∧ r ≤ 8) (fun i => 40 - (intOf i).toNat)
  case atStart => exact ⟨0, rfl, by omega⟩
  case round =>
    obtain ⟨r, rfl, hr⟩ := hrel
    by_cases h8 : r < 8
    · obtain ⟨b, o, hbl, hrow, hcell⟩ := HT.out.row r h8
      have HC := Lib.hid hcell
      have hix := fun u => run_index_row (P := Tryd.prog) 111 90 8 A .i64 r _ Tryd.underlying111 Tryd.underlying90 rfl (by kernel_rfl) h8 hrow u
      clear hcell hrow
      go_wp2_with fail
      go_loop [16] (fun i => ∃ j : Nat, i = .int .i64 j ∧ j ≤ 5) (fun i => 5 - (intOf i).toNat)
      case atStart => exact ⟨0, rfl, by omega⟩
      case round =>
        obtain ⟨j, rfl, hj5⟩ := hrel
        by_cases h5 : j < 5
        · have hc := HC.out j h5
          unfold nmV at hc
          have hb : ((nm (5 * r + j)).toList == s.toList) = false := str_ne (keyN_ne (by omega) HK.out (by omega))
          have hN : (nm (5 * r + j)).size ≤ 5 := nm_size _
          generalize nm (5 * r + j) = N at *
          go_wp2_with fail
          go_round
          case rel => exact ⟨j + 1, by go_num, by omega⟩
          case measure => simp [intOf]; omega
        · obtain rfl : j = 5 := by omega
          go_wp2_with fail
          go_round
          case rel => exact ⟨r + 1, by go_num, by omega⟩
          case measure => simp [intOf]; omega
    · obtain rfl : r = 8 := by omega
      go_wp2_with fail
      go_ret3
      exact ⟨rfl, rfl⟩
end Go.Proofs.YtkcfacbnbjkheaaDoor
