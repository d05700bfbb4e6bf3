/- regs.Same: its contract. -/
import Derived.Test.YteffjidbcdnbhaaDoorRegStep
import Derived.Deep.RegionHeld3
namespace Go.Proofs.YteffjidbcdnbhaaDoor
open Go.RowKit

theorem run_equalIn_nil_ptr {P : Program} (w : World) (d : Nat) (t e : TypeId) (b : Addr) (h : P.underlying t = some (.pointer e)) : (Op.equalIn (d + 1) t (.pointer none) (.pointer (some b))).run P w = .ok false w := by
  simp [Op.equalIn, run_underlying h]
theorem run_eql_nil_ptr {P : Program} (w : World) (t : TypeId) {e : TypeId} (b : Addr) (h : P.underlying t = some (.pointer e)) : (binOp .eql t (.pointer none) (.pointer (some b))).run P w = .ok (.bool false) w := by
  have h2 : (Op.equal t (.pointer none) (.pointer (some b))).run P w = .ok false w := run_equalIn_nil_ptr w 9999 t e b h
  simp only [binOp]
  simp [h2]

attribute [local simp ↓ high] load_as eql_as
attribute [local simp] run_regEql regs_guard

set_option maxHeartbeats 800000 in
theorem same_any (b c : Nat) (x y : Rg) (w : World) (hx : RegAt w b x) (hy : RegAt w c y) : Calls Tryd.prog 24 #[.pointer (some ⟨b, 0, none⟩), .pointer (some ⟨c, 0, none⟩)] w fun e w' => e = .returned (.bool (eqR x y)) ∧ Below w.heap.size w w' := by
  have hS : (fun u : World => u.rangeAt b 0 x.cells ∧ u.rangeAt c 0 y.cells) w.drew := ⟨hx.drew.at', hy.drew.at'⟩
  have hl := fun u => run_regLoad u b x
  have hm := fun u => run_regLoad u c y
  clear hx hy
  go_enter Tryd.func24, Tryd.ntmps24
  go_wp2_with fail
  go_region_held3 (fun u : World => u.rangeAt b 0 x.cells ∧ u.rangeAt c 0 y.cells) (assumption) (fail)
  go_wp2_with fail
  go_ret
  exact ⟨rfl, (Below.refl _ _).drew⟩
set_option maxHeartbeats 400000 in
theorem same_nil (w : World) : Calls Tryd.prog 24 #[.pointer none, .pointer none] w fun e w' => e = .returned (.bool true) ∧ w = w' := by
  go_enter Tryd.func24, Tryd.ntmps24
  go_wp2_with fail
  go_ret
  exact ⟨rfl, rfl⟩
set_option maxRecDepth 100000 in
set_option maxHeartbeats 400000 in
theorem same_one (b : Nat) (w : World) : Calls Tryd.prog 24 #[.pointer none, .pointer (some ⟨b, 0, none⟩)] w fun e w' => e = .returned (.bool false) ∧ w = w' := by
  have hn := fun u : World => run_eql_nil_ptr (P := Tryd.prog) u 27 ⟨b, 0, none⟩ Tryd.underlying27
  go_enter Tryd.func24, Tryd.ntmps24
  go_wp2_with fail
  go_ret
  exact ⟨rfl, rfl⟩

end Go.Proofs.YteffjidbcdnbhaaDoor
