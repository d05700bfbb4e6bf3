/- keys.Names: its contract. -/
import Derived.Test.YtfppbhpokeafpaaDoorKeysTab
import Derived.Test.YtfppbhpokeafpaaDoorAppendRow
namespace Go.Proofs.YtfppbhpokeafpaaDoor
open Go.RowKit
attribute [local simp ↓ high] tabLoad_as

theorem infoStr : (Tryd.prog.info? 9).map (fun i => (i.zero, i.size, i.bytes)) = some (some (.string ByteArray.empty), 1, 16) := by kernel_rfl
theorem nmV_one (l : List Nat) : ∀ u ∈ l.map nmV, u.oneCell' = true := by
  intro u hu
  obtain ⟨n, _, rfl⟩ := List.mem_map.1 hu
  rfl
theorem five_more (r : Nat) : List.range (5 * (r + 1)) = List.range (5 * r) ++ (List.range 5).map (5 * r + ·) := by
  rw [show 5 * (r + 1) = 5 * r + 5 by omega, List.range_add]
theorem five_news {w : World} {b o r : Nat} (h : ∀ j, j < 5 → w.cell? ⟨b, o + j, none⟩ = some (nmV (5 * r + j))) : ∀ j u, (((List.range 5).map (5 * r + ·)).map nmV)[j]? = some u → w.cell? ((⟨b, o, none⟩ : Addr).add j) = some u := by
  intro j u hu
  rw [Addr.add_mid]
  have hj : j < 5 := by
    rcases Nat.lt_or_ge j 5 with h | h
    · exact h
    · rw [List.getElem?_eq_none (by simpa using h)] at hu; cases hu
  rw [h j hj]
  rw [List.getElem?_map, List.getElem?_map, List.getElem?_eq_getElem (by simpa using hj)] at hu
  simpa using hu
set_option maxHeartbeats 800000 in
theorem names_any (A : Array Value) (w : World) (hT : NmTab A w) :
    Calls Tryd.prog 16 #[] w fun e w' => ∃ v, e = .returned v ∧ RowAt w' v ((List.range 40).map nmV) ∧ Below w.heap.size w w' := by
  have hL := run_tabLoad hT
  have HT := Lib.hid hT
  clear hT
  go_enter Tryd.func16, Tryd.ntmps16
  go_wp2_with fail
  go_loopw [1, 5] (fun o i wr => ∃ r : Nat, i = .int .i64 r ∧ r ≤ 8 ∧ wr.ownsRow w.heap.size 9 1 o (5 * r) ((List.range (5 * r)).map nmV) ∧ Below w.heap.size w wr) (fun _ i _ => 8 - (intOf i).toNat)
  case atStart => exact ⟨0, rfl, by omega, World.ownsRow_nil _ _ _ _, Below.refl _ _⟩
  case round =>
    obtain ⟨r, rfl, hr, hown, hnx⟩ := hrel
    have hsz := hnx.size
    by_cases h8 : r < 8
    · obtain ⟨b, o, hbl, hrow, hcell⟩ := (HT.out.below hnx).row r h8
      have HN := Lib.hid (five_news hcell)
      have HM := Lib.hid (five_more r)
      have hix := fun u => run_index_row (P := Tryd.prog) 50 30 8 A .i64 r _ Tryd.underlying50 Tryd.underlying30 rfl (by kernel_rfl) h8 hrow u
      clear hcell hrow
      generalize hl : (List.range (5 * r)).map nmV = l at *
      have HL := Lib.hid hl
      clear hl
      go_wp2_with (at_builtin; refine wpList_append_row w.heap.size 9 30 infoStr Tryd.underlying30 rfl rfl _ _ rfl _ _ _ rfl hown ⟨b, o, none⟩ 5 5 _ rfl (by simp) HN.out (nmV_one _) (by decide) (by omega) hsz ?_)
      intro v' w3 hown3 hb3
      have hnx3 := hnx.trans hb3
      have hown4 : w3.ownsRow w.heap.size 9 1 v' (5 * (r + 1)) ((List.range (5 * (r + 1))).map nmV) := by rw [HM.out, List.map_append, HL.out]; exact hown3
      clear hown hown3 hb3 hnx
      go_wp2_with fail
      go_roundw
      case rel => exact ⟨r + 1, by go_num, by omega, hown4, hnx3⟩
      case measure => simp [intOf]; omega
    · obtain rfl : r = 8 := by omega
      have hrow := rowAt_of_own hown (by omega)
      clear hown
      go_wp2_with fail
      go_ret
      exact ⟨_, rfl, hrow, hnx⟩
end Go.Proofs.YtfppbhpokeafpaaDoor
