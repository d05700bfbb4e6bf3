/- regs.ExAf, Exx, ExDe, Tick: their contracts. -/
import Derived.Test.YteffjidbcdnbhaaDoorRegPair
import Derived.RegionTactic
import Derived.ChangeAlike
import Derived.BigRegion
namespace Go.Proofs.YteffjidbcdnbhaaDoor
open Go.RowKit

def exAf (x : Rg) : Rg := { x with a := x.a2, a2 := x.a, f := x.f2, f2 := x.f }
def exx (x : Rg) : Rg := { x with b := x.b2, b2 := x.b, c := x.c2, c2 := x.c, d := x.d2, d2 := x.d, e := x.e2, e2 := x.e, h := x.h2, h2 := x.h, l := x.l2, l2 := x.l }
def exDe (x : Rg) : Rg := { x with d := x.h, h := x.d, e := x.l, l := x.e }
def tickV (r : Int) : Int := if 128 ≤ r then 128 + (r - 127) % 128 else (r + 1) % 128

/-- Two cells that change places. -/
theorem swapped {w : World} {b : Nat} {x : Rg} (h : RegAt w b x) (o p : Nat) (u v : Value) (ho : o < 30) (hp : p < 30) (z y : Rg) (hz : z.cells = x.cells.set o u) (hy : y.cells = z.cells.set p v) :
    RegAt ((w.setCell ⟨b, o, none⟩ u).setCell ⟨b, p, none⟩ v).drew b y ∧ Wrote b w ((w.setCell ⟨b, o, none⟩ u).setCell ⟨b, p, none⟩ v).drew :=
  ⟨((h.set o u ho hz).set p v hp hy).drew, ((Wrote.setCell _ _ _ _).trans (Wrote.setCell _ _ _ _)).drew⟩

set_option maxHeartbeats 1600000 in
theorem exAf_any (b : Nat) (x : Rg) (w : World) (h : RegAt w b x) : Calls Tryd.prog 25 #[.pointer (some ⟨b, 0, none⟩)] w (Puts b (exAf x) w) := by
  unfold Puts
  have H0 := Lib.hid h
  clear h
  have c0 := H0.out.cell 0 _ rfl
  have c1 := H0.out.cell 8 _ rfl
  have f0 := H0.out.free 0
  have f1 := H0.out.free 8
  go_enter Tryd.func25, Tryd.ntmps25
  go_wp2_with fail
  go_region
  have k := swapped H0.out 0 8 (.int .u8 x.a2) (.int .u8 x.a) (by decide) (by decide) { x with a := x.a2 } { x with a := x.a2, a2 := x.a } rfl rfl
  generalize ((w.setCell ⟨b, 0, none⟩ (.int .u8 x.a2)).setCell ⟨b, 8, none⟩ (.int .u8 x.a)).drew = w1 at k ⊢
  have H1 := Lib.hid k.1
  have G1 := Lib.hid k.2
  clear k c0 c1 f0 f1 H0
  have c0 := H1.out.cell 1 _ rfl
  have c1 := H1.out.cell 9 _ rfl
  have f0 := H1.out.free 1
  have f1 := H1.out.free 9
  go_wp2_with fail
  go_region
  have k := swapped H1.out 1 9 (.int .u8 x.f2) (.int .u8 x.f) (by decide) (by decide) { x with a := x.a2, a2 := x.a, f := x.f2 } { x with a := x.a2, a2 := x.a, f := x.f2, f2 := x.f } rfl rfl
  generalize ((w1.setCell ⟨b, 1, none⟩ (.int .u8 x.f2)).setCell ⟨b, 9, none⟩ (.int .u8 x.f)).drew = w2 at k ⊢
  have H2 := Lib.hid k.1
  have G2 := Lib.hid (G1.out.trans k.2)
  clear k c0 c1 f0 f1 H1 G1
  go_wp2_with fail
  go_end0
  exact ⟨rfl, G2.out, H2.out⟩
set_option maxHeartbeats 1600000 in
theorem exx_any (b : Nat) (x : Rg) (w : World) (h : RegAt w b x) : Calls Tryd.prog 26 #[.pointer (some ⟨b, 0, none⟩)] w (Puts b (exx x) w) := by
  unfold Puts
  have H0 := Lib.hid h
  clear h
  have c0 := H0.out.cell 2 _ rfl
  have c1 := H0.out.cell 10 _ rfl
  have f0 := H0.out.free 2
  have f1 := H0.out.free 10
  go_enter Tryd.func26, Tryd.ntmps26
  go_wp2_with fail
  go_region
  have k := swapped H0.out 2 10 (.int .u8 x.b2) (.int .u8 x.b) (by decide) (by decide) { x with b := x.b2 } { x with b := x.b2, b2 := x.b } rfl rfl
  generalize ((w.setCell ⟨b, 2, none⟩ (.int .u8 x.b2)).setCell ⟨b, 10, none⟩ (.int .u8 x.b)).drew = w1 at k ⊢
  have H1 := Lib.hid k.1
  have G1 := Lib.hid k.2
  clear k c0 c1 f0 f1 H0
  have c0 := H1.out.cell 3 _ rfl
  have c1 := H1.out.cell 11 _ rfl
  have f0 := H1.out.free 3
  have f1 := H1.out.free 11
  go_wp2_with fail
  go_region
  have k := swapped H1.out 3 11 (.int .u8 x.c2) (.int .u8 x.c) (by decide) (by decide) { x with b := x.b2, b2 := x.b, c := x.c2 } { x with b := x.b2, b2 := x.b, c := x.c2, c2 := x.c } rfl rfl
  generalize ((w1.setCell ⟨b, 3, none⟩ (.int .u8 x.c2)).setCell ⟨b, 11, none⟩ (.int .u8 x.c)).drew = w2 at k ⊢
  have H2 := Lib.hid k.1
  have G2 := Lib.hid (G1.out.trans k.2)
  clear k c0 c1 f0 f1 H1 G1
  have c0 := H2.out.cell 4 _ rfl
  have c1 := H2.out.cell 12 _ rfl
  have f0 := H2.out.free 4
  have f1 := H2.out.free 12
  go_wp2_with fail
  go_region
  have k := swapped H2.out 4 12 (.int .u8 x.d2) (.int .u8 x.d) (by decide) (by decide) { x with b := x.b2, b2 := x.b, c := x.c2, c2 := x.c, d := x.d2 } { x with b := x.b2, b2 := x.b, c := x.c2, c2 := x.c, d := x.d2, d2 := x.d } rfl rfl
  generalize ((w2.setCell ⟨b, 4, none⟩ (.int .u8 x.d2)).setCell ⟨b, 12, none⟩ (.int .u8 x.d)).drew = w3 at k ⊢
  have H3 := Lib.hid k.1
  have G3 := Lib.hid (G2.out.trans k.2)
  clear k c0 c1 f0 f1 H2 G2
  have c0 := H3.out.cell 5 _ rfl
  have c1 := H3.out.cell 13 _ rfl
  have f0 := H3.out.free 5
  have f1 := H3.out.free 13
  go_wp2_with fail
  go_region
  have k := swapped H3.out 5 13 (.int .u8 x.e2) (.int .u8 x.e) (by decide) (by decide) { x with b := x.b2, b2 := x.b, c := x.c2, c2 := x.c, d := x.d2, d2 := x.d, e := x.e2 } { x with b := x.b2, b2 := x.b, c := x.c2, c2 := x.c, d := x.d2, d2 := x.d, e := x.e2, e2 := x.e } rfl rfl
  generalize ((w3.setCell ⟨b, 5, none⟩ (.int .u8 x.e2)).setCell ⟨b, 13, none⟩ (.int .u8 x.e)).drew = w4 at k ⊢
  have H4 := Lib.hid k.1
  have G4 := Lib.hid (G3.out.trans k.2)
  clear k c0 c1 f0 f1 H3 G3
  have c0 := H4.out.cell 6 _ rfl
  have c1 := H4.out.cell 14 _ rfl
  have f0 := H4.out.free 6
  have f1 := H4.out.free 14
  go_wp2_with fail
  go_region
  have k := swapped H4.out 6 14 (.int .u8 x.h2) (.int .u8 x.h) (by decide) (by decide) { x with b := x.b2, b2 := x.b, c := x.c2, c2 := x.c, d := x.d2, d2 := x.d, e := x.e2, e2 := x.e, h := x.h2 } { x with b := x.b2, b2 := x.b, c := x.c2, c2 := x.c, d := x.d2, d2 := x.d, e := x.e2, e2 := x.e, h := x.h2, h2 := x.h } rfl rfl
  generalize ((w4.setCell ⟨b, 6, none⟩ (.int .u8 x.h2)).setCell ⟨b, 14, none⟩ (.int .u8 x.h)).drew = w5 at k ⊢
  have H5 := Lib.hid k.1
  have G5 := Lib.hid (G4.out.trans k.2)
  clear k c0 c1 f0 f1 H4 G4
  have c0 := H5.out.cell 7 _ rfl
  have c1 := H5.out.cell 15 _ rfl
  have f0 := H5.out.free 7
  have f1 := H5.out.free 15
  go_wp2_with fail
  go_region
  have k := swapped H5.out 7 15 (.int .u8 x.l2) (.int .u8 x.l) (by decide) (by decide) { x with b := x.b2, b2 := x.b, c := x.c2, c2 := x.c, d := x.d2, d2 := x.d, e := x.e2, e2 := x.e, h := x.h2, h2 := x.h, l := x.l2 } { x with b := x.b2, b2 := x.b, c := x.c2, c2 := x.c, d := x.d2, d2 := x.d, e := x.e2, e2 := x.e, h := x.h2, h2 := x.h, l := x.l2, l2 := x.l } rfl rfl
  generalize ((w5.setCell ⟨b, 7, none⟩ (.int .u8 x.l2)).setCell ⟨b, 15, none⟩ (.int .u8 x.l)).drew = w6 at k ⊢
  have H6 := Lib.hid k.1
  have G6 := Lib.hid (G5.out.trans k.2)
  clear k c0 c1 f0 f1 H5 G5
  go_wp2_with fail
  go_end0
  exact ⟨rfl, G6.out, H6.out⟩
set_option maxHeartbeats 1600000 in
theorem exDe_any (b : Nat) (x : Rg) (w : World) (h : RegAt w b x) : Calls Tryd.prog 27 #[.pointer (some ⟨b, 0, none⟩)] w (Puts b (exDe x) w) := by
  unfold Puts
  have H0 := Lib.hid h
  clear h
  have c0 := H0.out.cell 4 _ rfl
  have c1 := H0.out.cell 6 _ rfl
  have f0 := H0.out.free 4
  have f1 := H0.out.free 6
  go_enter Tryd.func27, Tryd.ntmps27
  go_wp2_with fail
  go_region
  have k := swapped H0.out 4 6 (.int .u8 x.h) (.int .u8 x.d) (by decide) (by decide) { x with d := x.h } { x with d := x.h, h := x.d } rfl rfl
  generalize ((w.setCell ⟨b, 4, none⟩ (.int .u8 x.h)).setCell ⟨b, 6, none⟩ (.int .u8 x.d)).drew = w1 at k ⊢
  have H1 := Lib.hid k.1
  have G1 := Lib.hid k.2
  clear k c0 c1 f0 f1 H0
  have c0 := H1.out.cell 5 _ rfl
  have c1 := H1.out.cell 7 _ rfl
  have f0 := H1.out.free 5
  have f1 := H1.out.free 7
  go_wp2_with fail
  go_region
  have k := swapped H1.out 5 7 (.int .u8 x.l) (.int .u8 x.e) (by decide) (by decide) { x with d := x.h, h := x.d, e := x.l } { x with d := x.h, h := x.d, e := x.l, l := x.e } rfl rfl
  generalize ((w1.setCell ⟨b, 5, none⟩ (.int .u8 x.l)).setCell ⟨b, 7, none⟩ (.int .u8 x.e)).drew = w2 at k ⊢
  have H2 := Lib.hid k.1
  have G2 := Lib.hid (G1.out.trans k.2)
  clear k c0 c1 f0 f1 H1 G1
  go_wp2_with fail
  go_end0
  exact ⟨rfl, G2.out, H2.out⟩
set_option maxHeartbeats 400000 in
theorem exAf_nil (w : World) : Calls Tryd.prog 25 #[.pointer none] w fun e w' => e = .returned (.tuple #[]) ∧ w = w' := by
  go_enter Tryd.func25, Tryd.ntmps25
  go_wp2_with fail
  refine bodyPost_ret (results_none rfl _ _ _) rfl ?_
  exact ⟨rfl, rfl⟩
set_option maxHeartbeats 400000 in
theorem exx_nil (w : World) : Calls Tryd.prog 26 #[.pointer none] w fun e w' => e = .returned (.tuple #[]) ∧ w = w' := by
  go_enter Tryd.func26, Tryd.ntmps26
  go_wp2_with fail
  refine bodyPost_ret (results_none rfl _ _ _) rfl ?_
  exact ⟨rfl, rfl⟩
set_option maxHeartbeats 400000 in
theorem exDe_nil (w : World) : Calls Tryd.prog 27 #[.pointer none] w fun e w' => e = .returned (.tuple #[]) ∧ w = w' := by
  go_enter Tryd.func27, Tryd.ntmps27
  go_wp2_with fail
  refine bodyPost_ret (results_none rfl _ _ _) rfl ?_
  exact ⟨rfl, rfl⟩
set_option maxHeartbeats 400000 in
theorem tick_nil (w : World) : Calls Tryd.prog 19 #[.pointer none] w fun e w' => e = .returned (.tuple #[]) ∧ w = w' := by
  go_enter Tryd.func19, Tryd.ntmps19
  go_wp2_with fail
  refine bodyPost_ret (results_none rfl _ _ _) rfl ?_
  exact ⟨rfl, rfl⟩

theorem tick_is (r : Int) (r0 : 0 ≤ r) (r1 : r ≤ 255) : bits .or .u8 (bits .andNot .u8 r 127) (bits .and .u8 ((r + 1) % 256) 127) = tickV r := by
  have h : ∀ n : Fin 256, bits .or .u8 (bits .andNot .u8 (n.val : Int) 127) (bits .and .u8 (((n.val : Int) + 1) % 256) 127) = tickV (n.val : Int) := by decide +kernel
  exact fin256 (P := fun r => bits .or .u8 (bits .andNot .u8 r 127) (bits .and .u8 ((r + 1) % 256) 127) = tickV r) h r r0 r1
set_option maxHeartbeats 800000 in
theorem tick_any (b : Nat) (x : Rg) (w : World) (h : RegAt w b x) (hr : B8 x.r) : Calls Tryd.prog 19 #[.pointer (some ⟨b, 0, none⟩)] w (Puts b { x with r := tickV x.r } w) := by
  unfold Puts
  have c0 := h.cell 17 _ rfl
  have f0 := h.free 17
  have e := tick_is x.r hr.1 hr.2
  have r0 := hr.1
  have r1 := hr.2
  have k : RegAt (w.setCell ⟨b, 17, none⟩ (.int .u8 (tickV x.r))).drew b { x with r := tickV x.r } ∧ Wrote b w (w.setCell ⟨b, 17, none⟩ (.int .u8 (tickV x.r))).drew := ⟨(RegAt.set (y := { x with r := tickV x.r }) h 17 (.int .u8 (tickV x.r)) (by decide) rfl).drew, (Wrote.setCell _ _ _ _).drew⟩
  have K := Lib.hid k
  clear k h hr
  go_enter Tryd.func19, Tryd.ntmps19
  go_wp2_with fail
  go_region
  go_wp2_with fail
  go_end0
  exact ⟨rfl, K.out.2, K.out.1⟩

end Go.Proofs.YteffjidbcdnbhaaDoor
