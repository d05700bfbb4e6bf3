/- The chapter's examples. -/
import Derived.Test.YtliohkgaonnioaaDoorWireEnd
import Derived.Test.YtliohkgaonnioaaDoorWirePut
import Derived.Test.YtliohkgaonnioaaDoorConv
namespace Go.Proofs.YtliohkgaonnioaaDoor
open Go.RowKit
set_option linter.unusedVariables false
set_option linter.unusedSimpArgs false

theorem Ch.none {f : Option Nat} {w w' : World} (h : Ch (fun k => f = some k) w w') (hf : f = Option.none) : Below w.heap.size w w' := by
  subst hf
  exact ⟨h.os, h.tape, h.output, h.size, fun k hk => h.block k hk (by simp)⟩
theorem ex_put : strOfNums (putL 3 66051) = ⟨#[3, 2, 1]⟩ := by decide +kernel
set_option maxHeartbeats 1600000 in
theorem lives17 (w : World) : Calls Tryd.prog 18 #[] w fun e w' => e = .returned (.bool true) ∧ Below w.heap.size w w' := by
  have H0 := Lib.hid (open_any _ _ 1 1 [1] _ (BAt8.new w [1] 5 (0, 0) #[.int .u8 1] 1 rfl rfl (by unfold maxLen; omega) (by decide)) (by omega))
  have HB0 := Lib.hid (bnew w (.cells #[.int .u8 1] 5))
  go_enter Tryd.func18, Tryd.ntmps18
  go_wp2_with fail
  refine H0.out.mono ?_
  rintro e w1 ⟨g, rfl, hg, hr, hb1⟩
  have HB1 := Lib.hid (HB0.out.trans (hb1.mono HB0.out.size))
  have H1 := Lib.hid (read_no _ w1 g [1] 0 0 hr (by decide) 2 (by decide) (by decide) (by decide))
  clear hr hb1 H0 HB0
  have hg0 : w.heap.size ≤ g := by simp at hg; omega
  go_wp2_with fail
  refine H1.out.mono ?_
  rintro e w2 ⟨rfl, hr, hc⟩
  have HB2 : Hid (Below w.heap.size w w2) := Lib.hid (HB1.out.trans (hc.below (fun k hk => by omega) HB1.out.size))
  have HR2 := Lib.hid hr
  have H2 := Lib.hid (end_bad _ w2 g [1] 0 2 (0 : Nat) hr (by decide))
  clear hr hc H1 HB1
  go_wp2_with fail
  refine H2.out.mono ?_
  rintro e w3 ⟨k3, rfl, hk, hf, hb⟩
  have HR3 := Lib.hid (HR2.out.below hb)
  have HB3 : Hid (Below w.heap.size w w3) := Lib.hid (HB2.out.trans (hb.mono HB2.out.size))
  have H3 := Lib.hid (why_any w3 k3 2 (0 : Nat) hf)
  clear hk hf hb H2 HR2 HB2
  go_wp2_with fail
  refine H3.out.mono ?_
  rintro e w4 ⟨rfl, n4, rfl⟩
  have HR4 := Lib.hid (HR3.out.drew n4)
  have HB4 : Hid (Below w.heap.size w (w3.drewN n4)) := Lib.hid (bdrawn HB3.out n4)
  generalize w3.drewN n4 = w4 at *
  have H4 := Lib.hid (put_yes w4.heap.size none 0 0 [] 3 3 rfl (by decide) (by decide) 66051 w4 (World.ownsRow_nil _ _ _ _) (by omega) (Nat.le_refl _) (by decide) (by decide))
  clear H3 HR3 HB3
  go_wp2_with fail
  refine H4.out.mono ?_
  rintro e w5 ⟨A, c, rfl, hG⟩
  have q := conv_of (bytes_own hG.own (by rw [List.nil_append]; exact putL_byte _ _))
  rw [List.nil_append, ex_put] at q
  have hb := hG.ch.none rfl
  have H5 := Lib.hid (bad_any _ w5 g [1] 0 2 (0 : Nat) (HR4.out.below hb) false rfl)
  have HB5 : Hid (Below w.heap.size w w5) := Lib.hid (HB4.out.trans (hb.mono HB4.out.size))
  clear hG hb H4 HR4 HB4
  go_wp2_with fail
  refine H5.out.mono ?_
  rintro e w6 ⟨rfl, rfl⟩
  go_wp2_with fail
  go_ret
  exact ⟨rfl, HB5.out⟩

end Go.Proofs.YtliohkgaonnioaaDoor
