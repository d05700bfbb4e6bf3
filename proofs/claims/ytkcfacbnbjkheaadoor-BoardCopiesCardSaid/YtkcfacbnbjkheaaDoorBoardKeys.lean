/- Read of a keyboard that lies in the midst of a block. -/
import Derived.Test.YtkcfacbnbjkheaaDoorBoardAt
import Derived.Test.YtkcfacbnbjkheaaDoorRowIndex
namespace Go.Proofs.YtkcfacbnbjkheaaDoor
open Go.RowKit
set_option maxRecDepth 100000

/-- A keyboard's cells. -/
def kcells (S : Nat → Bool) : Array Value := #[.int .u8 (rowV S 0), .int .u8 (rowV S 1), .int .u8 (rowV S 2), .int .u8 (rowV S 3), .int .u8 (rowV S 4), .int .u8 (rowV S 5), .int .u8 (rowV S 6), .int .u8 (rowV S 7)]
theorem kcells_at (S : Nat → Bool) (r : Nat) (h : r < 8) : (kcells S)[r]? = some (.int .u8 (rowV S r)) := by
  have e : r = 0 ∨ r = 1 ∨ r = 2 ∨ r = 3 ∨ r = 4 ∨ r = 5 ∨ r = 6 ∨ r = 7 := by omega
  rcases e with rfl | rfl | rfl | rfl | rfl | rfl | rfl | rfl <;> rfl
/-- The keyboard S lies in block b from o on. -/
def KeysIn (w : World) (b o : Nat) (S : Nat → Bool) : Prop := ∀ r, r < 8 → w.cell? ⟨b, o + r, none⟩ = some (.int .u8 (rowV S r))
theorem BAt.keys {w : World} {b base : Nat} {s : St} {va ve : Value} (h : BAt w b base s va ve) : KeysIn w b 65536 s.S := fun r hr => by
  rw [h.cells.cell _ (by omega), bC_S _ _ _ _ hr]
def rowLoad (v : Value) : Sem Value := Instr.loadAt 32 v
theorem rowLoad_as (v : Value) : Instr.loadAt 32 v = rowLoad v := rfl
theorem run_rowLoad {S : Nat → Bool} {b o : Nat} {u : World} (h : KeysIn u b o S) : (rowLoad (.pointer (some ⟨b, o, none⟩))).run Tryd.prog u = .ok (.agg (kcells S)) u := by
  have := run_loadAt_mid (P := Tryd.prog) u b o 32 (kcells S).toList _ (fun j v hj => by
    have hj8 : j < 8 := (List.getElem?_eq_some_iff.1 hj).1
    have e : (kcells S).toList[j]? = some (.int .u8 (rowV S j)) := by rw [Array.getElem?_toList]; exact kcells_at S j hj8
    rw [e] at hj
    rw [h j hj8, hj]) Tryd.underlying32 rfl (by kernel_rfl)
  rw [Array.toArray_toList] at this
  exact this
attribute [local simp ↓ high] rowLoad_as
set_option maxHeartbeats 1600000 in
theorem read_any (S : Nat → Bool) (b o : Nat) (h : Int) (w : World) (hK : KeysIn w b o S) (h0 : 0 ≤ h) (h1 : h ≤ 255) :
    Calls Tryd.prog 48 #[.pointer (some ⟨b, o, none⟩), .int .u8 h] w fun e w' => e = .returned (.int .u8 (readF S h)) ∧ w = w' := by
  have hL := run_rowLoad hK
  have HX := Lib.hid (kcells_at S)
  have HA := Lib.hid (redF_zero S h)
  have HR := Lib.hid (show readF S h = redF S h 8 from rfl)
  generalize kcells S = C at *
  clear hK
  go_enter Tryd.func48, Tryd.ntmps48
  go_wp2_with fail
  go_loop [5, 15] (fun x i => ∃ r : Nat, i = .int .i64 r ∧ r ≤ 8 ∧ x = .int .u8 (redF S h r)) (fun _ i => 8 - (intOf i).toNat)
  case atStart => exact ⟨0, rfl, by omega, by rw [HA.out]⟩
  case round =>
    obtain ⟨r, rfl, hr, rfl⟩ := hrel
    by_cases h8 : r < 8
    · have hix := fun u => run_index_row (P := Tryd.prog) 32 5 8 C .i64 r _ Tryd.underlying32 Tryd.underlying5 rfl (by kernel_rfl) h8 (HX.out r h8) u
      cases hh : hb h r with
      | true =>
        have ht := hb_test h r true h0 h1 hh
        have HS := Lib.hid (redF_skip S h r hh)
        clear hh
        go_wp2_with fail
        go_round
        case rel => exact ⟨r + 1, by go_num, by omega, by rw [HS.out]⟩
        case measure => simp [intOf]; omega
      | false =>
        have ht := hb_test h r false h0 h1 hh
        have HS := Lib.hid (redF_take S h r hh)
        clear hh
        go_wp2_with fail
        go_round
        case rel => exact ⟨r + 1, by go_num, by omega, by rw [HS.out]⟩
        case measure => simp [intOf]; omega
    · obtain rfl : r = 8 := by omega
      go_wp2_with fail
      go_ret
      exact ⟨by rw [HR.out]; rfl, rfl⟩
end Go.Proofs.YtkcfacbnbjkheaaDoor
