/- The chapter's example, and Show of registers that aren't there. -/
import Derived.Test.YteffjidbcdnbhaaDoorRegShow
import Derived.Test.YteffjidbcdnbhaaDoorRegSame
namespace Go.Proofs.YteffjidbcdnbhaaDoor
open Go.RowKit

set_option maxHeartbeats 400000 in
theorem show_nil (w : World) : Calls Tryd.prog 22 #[.pointer none] w fun e w' => e = .returned (.string ⟨#[]⟩) ∧ w = w' := by
  go_enter Tryd.func22, Tryd.ntmps22
  go_wp2_with fail
  go_ret
  exact ⟨rfl, rfl⟩

theorem zero_arr : Rg.zero.cells.toArray = #[.int .u8 0, .int .u8 0, .int .u8 0, .int .u8 0, .int .u8 0, .int .u8 0, .int .u8 0, .int .u8 0, .int .u8 0, .int .u8 0, .int .u8 0, .int .u8 0, .int .u8 0, .int .u8 0, .int .u8 0, .int .u8 0, .int .u8 0, .int .u8 0, .int .u8 0, .int .u16 0, .int .u16 0, .int .u16 0, .int .u16 0, .int .u16 0, .bool false, .bool false, .bool false, .bool false, .int .u8 0, .int .u8 0] := rfl
theorem zero_ok : Rg.zero.Ok := by
  refine ⟨?_, ?_, ?_, ?_, ?_, ?_, ?_, ?_, ?_, ?_, ?_, ?_, ?_, ?_, ?_, ?_, ?_, ?_, ?_, ?_, ?_, ?_, ?_, ?_, ?_, ?_⟩ <;> exact ⟨by decide, by decide⟩
def showZ : ByteArray := ⟨#[65, 70, 61, 48, 48, 48, 48, 32, 66, 67, 61, 48, 48, 48, 48, 32, 68, 69, 61, 48, 48, 48, 48, 32, 72, 76, 61, 48, 48, 48, 48, 32, 73, 88, 61, 48, 48, 48, 48, 32, 73, 89, 61, 48, 48, 48, 48, 32, 83, 80, 61, 48, 48, 48, 48, 32, 80, 67, 61, 48, 48, 48, 48, 32, 73, 61, 48, 48, 32, 82, 61, 48, 48]⟩
theorem showZ_is : (showZ.toList == [65, 70, 61, 48, 48, 48, 48, 32, 66, 67, 61, 48, 48, 48, 48, 32, 68, 69, 61, 48, 48, 48, 48, 32, 72, 76, 61, 48, 48, 48, 48, 32, 73, 88, 61, 48, 48, 48, 48, 32, 73, 89, 61, 48, 48, 48, 48, 32, 83, 80, 61, 48, 48, 48, 48, 32, 80, 67, 61, 48, 48, 48, 48, 32, 73, 61, 48, 48, 32, 82, 61, 48, 48]) = true := by decide +kernel
theorem show_zero : strL (showL Rg.zero) = showZ := by decide +kernel

theorem run_storeRegs {w : World} {b : Nat} {x : Rg} (h : RegAt w b x) (y : Rg) : (storeCells ⟨b, 0, none⟩ y.cells).run Tryd.prog w = .ok () (w.setCells b 0 y.cells) := by
  have := run_storeCells_cells (P := Tryd.prog) b 0 y.cells 0 w (fun j hj => by simpa using (h.there' y j (by simpa using hj)).1) (fun j hj => by simpa using (h.there' y j (by simpa using hj)).2) y.one
  simpa using this
def regBuild (parts : Array (Nat × Value)) : Sem Value := Instr.build 24 parts
theorem build_as (parts : Array (Nat × Value)) : Instr.build 24 parts = regBuild parts := rfl
theorem run_regBuild (u : World) : (regBuild #[]).run Tryd.prog u = .ok (.agg Rg.zero.cells.toArray) u := by kernel_rfl
attribute [local simp ↓ high] build_as
attribute [local simp] run_regBuild

set_option maxRecDepth 100000 in
set_option maxHeartbeats 800000 in
theorem lives_any (w : World) (ht : Tab w) : Calls Tryd.prog 12 #[] w fun e w' => e = .returned (.bool true) ∧ Below w.heap.size w w' := by
  have hz : RegAt (w.alloc (.cells #[.int .u8 0, .int .u8 0, .int .u8 0, .int .u8 0, .int .u8 0, .int .u8 0, .int .u8 0, .int .u8 0, .int .u8 0, .int .u8 0, .int .u8 0, .int .u8 0, .int .u8 0, .int .u8 0, .int .u8 0, .int .u8 0, .int .u8 0, .int .u8 0, .int .u8 0, .int .u16 0, .int .u16 0, .int .u16 0, .int .u16 0, .int .u16 0, .bool false, .bool false, .bool false, .bool false, .int .u8 0, .int .u8 0] 24)) w.heap.size Rg.zero ∧ Below w.heap.size w (w.alloc (.cells #[.int .u8 0, .int .u8 0, .int .u8 0, .int .u8 0, .int .u8 0, .int .u8 0, .int .u8 0, .int .u8 0, .int .u8 0, .int .u8 0, .int .u8 0, .int .u8 0, .int .u8 0, .int .u8 0, .int .u8 0, .int .u8 0, .int .u8 0, .int .u8 0, .int .u8 0, .int .u16 0, .int .u16 0, .int .u16 0, .int .u16 0, .int .u16 0, .bool false, .bool false, .bool false, .bool false, .int .u8 0, .int .u8 0] 24)) := by
    have := RegAt.new w Rg.zero 24
    rw [zero_arr] at this
    exact ⟨this, (Below.refl _ _).alloc (Nat.le_refl _) _⟩
  have H := Lib.hid ht
  have HZ := Lib.hid hz
  have hq := showZ_is
  clear ht hz
  go_enter Tryd.func12, Tryd.ntmps12
  go_wp2_with (fail)
  have k := HZ.out
  clear HZ
  generalize w.alloc (.cells #[.int .u8 0, .int .u8 0, .int .u8 0, .int .u8 0, .int .u8 0, .int .u8 0, .int .u8 0, .int .u8 0, .int .u8 0, .int .u8 0, .int .u8 0, .int .u8 0, .int .u8 0, .int .u8 0, .int .u8 0, .int .u8 0, .int .u8 0, .int .u8 0, .int .u8 0, .int .u16 0, .int .u16 0, .int .u16 0, .int .u16 0, .int .u16 0, .bool false, .bool false, .bool false, .bool false, .int .u8 0, .int .u8 0] 24) = w1 at k ⊢
  have hst := run_storeRegs k.1 Rg.zero
  rw [hst]
  have k2 := k.1.fill Rg.zero
  have b2 := k.2.trans ((Wrote.setCells w.heap.size Rg.zero.cells 0 w1).below (Nat.le_refl _))
  generalize w1.setCells w.heap.size 0 Rg.zero.cells = w2 at k2 b2 ⊢
  have HS := Lib.hid (show_any w.heap.size Rg.zero _ k2 zero_ok (H.out.below b2))
  rw [show_zero] at HS
  have HB := Lib.hid b2
  clear k k2 b2 hst
  go_wp2_with fail
  refine (HS.out).mono ?_
  rintro e w3 ⟨rfl, hb3⟩
  have B := Lib.hid (below_step HB.out hb3)
  clear hb3 HB
  go_wp2_with fail
  go_ret
  exact ⟨rfl, B.out⟩

end Go.Proofs.YteffjidbcdnbhaaDoor
