/- Read and Down of a keyboard: their contracts. -/
import Derived.Test.YtfppbhpokeafpaaDoorKeysPut
import Derived.Test.YtfppbhpokeafpaaDoorKeysNames
namespace Go.Proofs.YtfppbhpokeafpaaDoor
open Go.RowKit
attribute [local simp ↓ high] tabLoad_as

set_option maxHeartbeats 800000 in
theorem read_nil (h : Int) (w : World) : Calls Tryd.prog 9 #[.pointer none, .int .u8 h] w fun e w' => e = .returned (.int .u8 31) ∧ w = w' := by
  go_enter Tryd.func9, Tryd.ntmps9
  go_wp2_with fail
  go_ret
  exact ⟨rfl, rfl⟩
set_option maxHeartbeats 800000 in
theorem down_nil (w : World) : Calls Tryd.prog 12 #[.pointer none] w fun e w' => e = .returned (.slice none 0 0) ∧ w = w' := by
  go_enter Tryd.func12, Tryd.ntmps12
  go_wp2_with fail
  go_ret
  exact ⟨rfl, rfl⟩

def rowLoad (v : Value) : Sem Value := Instr.loadAt 44 v
theorem rowLoad_as (v : Value) : Instr.loadAt 44 v = rowLoad v := rfl
theorem run_rowLoad {S : Nat → Bool} {b : Nat} {u : World} (h : KeysAt u b S) : (rowLoad (.pointer (some ⟨b, 0, none⟩))).run Tryd.prog u = .ok (.agg (kcells S)) u := by
  have := run_loadAt_mid (P := Tryd.prog) u b 0 44 (kcells S).toList _ (fun j v hj => by rw [Nat.zero_add, cell_of_row u b j _ _ (0, 0) h]; simpa using hj) Tryd.underlying44 rfl (by kernel_rfl)
  rw [Array.toArray_toList] at this
  exact this
attribute [local simp ↓ high] rowLoad_as
set_option maxHeartbeats 1600000 in
theorem read_any (S : Nat → Bool) (b : Nat) (h : Int) (w : World) (hK : KeysAt w b S) (h0 : 0 ≤ h) (h1 : h ≤ 255) :
    Calls Tryd.prog 9 #[.pointer (some ⟨b, 0, none⟩), .int .u8 h] w fun e w' => e = .returned (.int .u8 (readF S h)) ∧ w = w' := by
  have hL := run_rowLoad hK
  have HX := Lib.hid (kcells_at S)
  have HA := Lib.hid (redF_zero S h)
  have HR := Lib.hid (show readF S h = redF S h 8 from rfl)
  generalize kcells S = C at *
  clear hK
  go_enter Tryd.func9, Tryd.ntmps9
  go_wp2_with fail
  go_loop [5, 15] (fun x i => ∃ r : Nat, i = .int .i64 r ∧ r ≤ 8 ∧ x = .int .u8 (redF S h r)) (fun _ i => 8 - (intOf i).toNat)
  case atStart => exact ⟨0, rfl, by omega, by rw [HA.out]⟩
  case round =>
    obtain ⟨r, rfl, hr, rfl⟩ := hrel
    by_cases h8 : r < 8
    · have hix := fun u => run_index_row (P := Tryd.prog) 44 5 8 C .i64 r _ Tryd.underlying44 Tryd.underlying5 rfl (by kernel_rfl) h8 (HX.out r h8) u
      cases hh : hb h r with
      | true =>
        have ht := hb_test h r true h0 h1 hh
        have HS := Lib.hid (redF_skip S h r hh)
        clear hh
        go_wp2_with fail
        go_round
        case rel => exact ⟨r + 1, by go_num, by omega, by rw [HS.out]⟩
        case measure => simp [intOf]; omega
      | false =>
        have ht := hb_test h r false h0 h1 hh
        have HS := Lib.hid (redF_take S h r hh)
        clear hh
        go_wp2_with fail
        go_round
        case rel => exact ⟨r + 1, by go_num, by omega, by rw [HS.out]⟩
        case measure => simp [intOf]; omega
    · obtain rfl : r = 8 := by omega
      go_wp2_with fail
      go_ret
      exact ⟨by rw [HR.out]; rfl, rfl⟩
set_option maxHeartbeats 1600000 in
theorem down_any (A : Array Value) (S : Nat → Bool) (b : Nat) (w : World) (hT : NmTab A w) (hK : KeysAt w b S) :
    Calls Tryd.prog 12 #[.pointer (some ⟨b, 0, none⟩)] w fun e w' => ∃ v, e = .returned v ∧ w'.ownsRow w.heap.size 9 1 v (dn S 40).length ((dn S 40).map nmV) ∧ Below w.heap.size w w' := by
  have hL := run_tabLoad hT
  have HT := Lib.hid hT
  have HK := Lib.hid hK
  clear hT hK
  go_enter Tryd.func12, Tryd.ntmps12
  go_wp2_with fail
  go_loopw [3, 11] (fun o i wr => ∃ r : Nat, i = .int .i64 r ∧ r ≤ 8 ∧ wr.ownsRow w.heap.size 9 1 o (dn S (5 * r)).length ((dn S (5 * r)).map nmV) ∧ Below w.heap.size w wr) (fun _ i _ => 8 - (intOf i).toNat)
  case atStart => exact ⟨0, rfl, by omega, World.ownsRow_nil _ _ _ _, Below.refl _ _⟩
  case round =>
    obtain ⟨r, rfl, hr, hown, hnx⟩ := hrel
    by_cases h8 : r < 8
    · obtain ⟨p, o, hbl, hrow, hcell⟩ := HT.out.row r h8
      have HC := Lib.hid hcell
      have hix := fun u => run_index_row (P := Tryd.prog) 50 30 8 A .i64 r _ Tryd.underlying50 Tryd.underlying30 rfl (by kernel_rfl) h8 hrow u
      have HO := Lib.hid hown
      clear hcell hrow
      obtain ⟨wo, rfl⟩ : ∃ wo : World, wo = wr := ⟨_, rfl⟩
      have hd8 : decide ((r : Int) < 8) = true := decide_eq_true (by omega)
      clear hown
      go_wp2_with fail
      clear hd8
      go_loopw [3, 17] (fun x i wr => ∃ j : Nat, i = .int .i64 j ∧ j ≤ 5 ∧ wr.ownsRow w.heap.size 9 1 x (dn S (5 * r + j)).length ((dn S (5 * r + j)).map nmV) ∧ Below w.heap.size w wr) (fun _ i _ => 5 - (intOf i).toNat)
      case atStart => exact ⟨0, rfl, by omega, HO.out, hnx⟩
      case round =>
        obtain ⟨j, rfl, hj, hown, hnx2⟩ := hrel
        clear hnx HO
        have hsz := hnx2.size
        by_cases h5 : j < 5
        · have hc1 := (hnx2.cell (p := ⟨p, o + j, none⟩) hbl).trans (HC.out j h5)
          have hc2 := (hnx2.cell (p := ⟨b, r, none⟩) HK.out.lt).trans (HK.out.cell r h8)
          have hdl := dn_le S (5 * r + j)
          unfold nmV at hc1
          cases hh : S (5 * r + j) with
          | true =>
            have ht : bits .and .u8 (rowV S r / 2 ^ j) 1 = 1 := row_val S r j true h5 hh
            have hbd := rowV_bd S r
            have HD := Lib.hid (show (dn S (5 * r + (j + 1))).map nmV = (dn S (5 * r + j)).map nmV ++ [.string (nm (5 * r + j))] from dn_map_yes S _ hh)
            have HN := Lib.hid (show (dn S (5 * r + (j + 1))).length = (dn S (5 * r + j)).length + 1 by rw [← Nat.add_assoc, dn_yes S _ hh]; simp)
            have hl : (dn S (5 * r + j)).length ≤ 100 := by omega
            generalize (dn S (5 * r + j)).length = k at *
            generalize (dn S (5 * r + j)).map nmV = l at *
            generalize rowV S r = x at *
            generalize nm (5 * r + j) = N at *
            clear hh hdl
            go_wp2_with (at_builtin; refine wpList_append_one w.heap.size 9 30 infoStr Tryd.underlying30 rfl rfl _ _ rfl _ _ _ rfl hown _ rfl rfl (by decide) (by omega) hsz ?_)
            intro v' w3 hown3 hb3
            have hnx3 := hnx2.trans hb3
            clear hown hb3 hnx2 hc1 hc2
            go_wp2_with fail
            go_roundw
            case rel => exact ⟨j + 1, by go_num, by omega, by rw [HD.out, HN.out]; exact hown3, hnx3⟩
            case measure => simp [intOf]; omega
          | false =>
            have ht : bits .and .u8 (rowV S r / 2 ^ j) 1 = 0 := row_val S r j false h5 hh
            have hbd := rowV_bd S r
            have HD := Lib.hid (show dn S (5 * r + (j + 1)) = dn S (5 * r + j) from dn_no S _ hh)
            generalize dn S (5 * r + j) = l at *
            generalize rowV S r = x at *
            generalize nm (5 * r + j) = N at *
            clear hh hdl
            go_wp2_with fail
            go_roundw
            case rel => exact ⟨j + 1, by go_num, by omega, by rw [HD.out]; exact hown, hnx2⟩
            case measure => simp [intOf]; omega
        · obtain rfl : j = 5 := by omega
          go_wp2_with fail
          go_roundw
          case rel => exact ⟨r + 1, by go_num, by omega, hown, hnx2⟩
          case measure => simp [intOf]; omega
    · obtain rfl : r = 8 := by omega
      go_wp2_with fail
      go_ret
      exact ⟨_, rfl, hown, hnx⟩
end Go.Proofs.YtfppbhpokeafpaaDoor
