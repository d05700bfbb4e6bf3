/- The document's three sums with their flags, for layer 3: their contracts. -/
import Derived.Test.YtcjklpakbphnnaaWideRef
import Derived.IntWalk
namespace Go.Proofs.Ytcjklpakbphnnaa
open Go.RowKit

set_option maxHeartbeats 800000 in
theorem refAddW_any (a b f : Int) (w : World) (a0 : 0 ≤ a) (a1 : a ≤ 65535) (b0 : 0 ≤ b) (b1 : b ≤ 65535) (f0 : 0 ≤ f) (f1 : f ≤ 255) :
    Calls Try.prog 11 #[.int .u16 a, .int .u16 b, .int .u8 f] w fun e w' => e = .returned (.tuple #[.int .u16 (wadd a b false), .int .u8 (addWF a b f)]) ∧ Below w.heap.size w w' := by
  obtain ⟨r0, r1⟩ := wadd_bd a b false
  go_enter Try.func11, Try.ntmps11
  go_wp2_with fail
  refine (sumUp_any _ _ _ false _ a0 a1 b0 b1 rfl).mono ?_
  rintro e w' ⟨rfl, rfl⟩
  go_wp2_with fail
  refine (bits_any _ _ f0 f1).mono ?_
  rintro e w1 ⟨v, rfl, hv, hb1⟩
  obtain ⟨g, cap, rfl, hg, hc, hm, hcell⟩ := bits_cells hv
  have hst : ∀ u u' : World, (fun w' => (w'.cell? ⟨g, 0, none⟩ = some (.bool (bitN f 0)) ∧ w'.cell? ⟨g, 1, none⟩ = some (.bool (bitN f 1)) ∧ w'.cell? ⟨g, 5, none⟩ = some (.bool (bitN f 5))) ∧ (g < w'.heap.size) ∧ Below w1.heap.size w1 w') u → Below u.heap.size u u' → (fun w' => (w'.cell? ⟨g, 0, none⟩ = some (.bool (bitN f 0)) ∧ w'.cell? ⟨g, 1, none⟩ = some (.bool (bitN f 1)) ∧ w'.cell? ⟨g, 5, none⟩ = some (.bool (bitN f 5))) ∧ (g < w'.heap.size) ∧ Below w1.heap.size w1 w') u' := by
    rintro u u' ⟨⟨c0, c1, c2⟩, kg, hB⟩ hb
    exact ⟨⟨(hb.cell kg).trans c0, (hb.cell kg).trans c1, (hb.cell kg).trans c2⟩, Nat.lt_of_lt_of_le kg hb.size, below_step hB hb⟩
  have hS0 : (fun w' => (w'.cell? ⟨g, 0, none⟩ = some (.bool (bitN f 0)) ∧ w'.cell? ⟨g, 1, none⟩ = some (.bool (bitN f 1)) ∧ w'.cell? ⟨g, 5, none⟩ = some (.bool (bitN f 5))) ∧ (g < w'.heap.size) ∧ Below w1.heap.size w1 w') w1.drew := ⟨⟨hcell 0 (by decide), hcell 1 (by decide), hcell 5 (by decide)⟩, hg, (Below.refl _ _).drew⟩
  have HST := Lib.hid hst
  clear hst hcell hv
  go_wp2_with fail
  have ew : IntKind.i64.wrap (wadd a b false) = wadd a b false := IntWalk.i64_in _ (by omega)
  go_region_held3 (fun w' => (w'.cell? ⟨g, 0, none⟩ = some (.bool (bitN f 0)) ∧ w'.cell? ⟨g, 1, none⟩ = some (.bool (bitN f 1)) ∧ w'.cell? ⟨g, 5, none⟩ = some (.bool (bitN f 5))) ∧ (g < w'.heap.size) ∧ Below w1.heap.size w1 w') (assumption) (first | (go_at_call 27; refine (bitW_held HST.out _ _ _ r0 r1 (by decide) (by decide) (by assumption)).mono ?_; rintro e w' ⟨rfl, hSB⟩) | (go_at_call 26; refine (flagsW_held HST.out _ _ _ _ _ _ _ _ _ (by assumption)).mono ?_; rintro e w' ⟨rfl, hSF⟩))
  go_wp2_with fail
  go_ret2
  exact ⟨rfl, below_step hb1 hSF.2.2⟩

set_option maxHeartbeats 800000 in
theorem refAdcW_any (a b f : Int) (w : World) (a0 : 0 ≤ a) (a1 : a ≤ 65535) (b0 : 0 ≤ b) (b1 : b ≤ 65535) (f0 : 0 ≤ f) (f1 : f ≤ 255) :
    Calls Try.prog 12 #[.int .u16 a, .int .u16 b, .int .u8 f, .bool true] w fun e w' => e = .returned (.tuple #[.int .u16 (wadd a b (bitN f 7)), .int .u8 (adcWF a b (bitN f 7))]) ∧ Below w.heap.size w w' := by
  generalize hx : bitN f 7 = c
  obtain ⟨r0, r1⟩ := wadd_bd a b c
  have HX := Lib.hid hx
  clear hx
  cases c
  · go_enter Try.func12, Try.ntmps12
    go_wp2_with fail
    refine (bitF_is _ 0 _ _ f0 f1 (by decide) (by decide) HX.out).mono ?_
    rintro e w1 ⟨rfl, hb1⟩
    go_wp2_with fail
    refine (sumUp_any _ _ _ false _ a0 a1 b0 b1 rfl).mono ?_
    rintro e w' ⟨rfl, rfl⟩
    go_wp2_with fail
    refine (bitW_any _ _ _ r0 r1 (by decide) (by decide)).mono ?_
    rintro e w' ⟨rfl, rfl⟩
    go_wp2_with fail
    refine (bitW_any _ _ _ r0 r1 (by decide) (by decide)).mono ?_
    rintro e w' ⟨rfl, rfl⟩
    go_wp2_with fail
    refine (bitW_any _ _ _ r0 r1 (by decide) (by decide)).mono ?_
    rintro e w' ⟨rfl, rfl⟩
    go_wp2_with fail
    refine (flags_any _ _ _ _ _ _ _ _ _).mono ?_
    rintro e w2 ⟨rfl, hb2⟩
    go_wp2_with fail
    go_ret2
    exact ⟨rfl, below_step hb1 hb2⟩
  · go_enter Try.func12, Try.ntmps12
    go_wp2_with fail
    refine (bitF_is _ 0 _ _ f0 f1 (by decide) (by decide) HX.out).mono ?_
    rintro e w1 ⟨rfl, hb1⟩
    go_wp2_with fail
    refine (sumUp_any _ _ _ true _ a0 a1 b0 b1 rfl).mono ?_
    rintro e w' ⟨rfl, rfl⟩
    go_wp2_with fail
    refine (bitW_any _ _ _ r0 r1 (by decide) (by decide)).mono ?_
    rintro e w' ⟨rfl, rfl⟩
    go_wp2_with fail
    refine (bitW_any _ _ _ r0 r1 (by decide) (by decide)).mono ?_
    rintro e w' ⟨rfl, rfl⟩
    go_wp2_with fail
    refine (bitW_any _ _ _ r0 r1 (by decide) (by decide)).mono ?_
    rintro e w' ⟨rfl, rfl⟩
    go_wp2_with fail
    refine (flags_any _ _ _ _ _ _ _ _ _).mono ?_
    rintro e w2 ⟨rfl, hb2⟩
    go_wp2_with fail
    go_ret2
    exact ⟨rfl, below_step hb1 hb2⟩

set_option maxHeartbeats 800000 in
theorem refSbcW_any (a b f : Int) (w : World) (a0 : 0 ≤ a) (a1 : a ≤ 65535) (b0 : 0 ≤ b) (b1 : b ≤ 65535) (f0 : 0 ≤ f) (f1 : f ≤ 255) :
    Calls Try.prog 12 #[.int .u16 a, .int .u16 b, .int .u8 f, .bool false] w fun e w' => e = .returned (.tuple #[.int .u16 (wsub a b (bitN f 7)), .int .u8 (sbcWF a b (bitN f 7))]) ∧ Below w.heap.size w w' := by
  generalize hx : bitN f 7 = c
  obtain ⟨r0, r1⟩ := wsub_bd a b c
  have HX := Lib.hid hx
  clear hx
  cases c
  · go_enter Try.func12, Try.ntmps12
    go_wp2_with fail
    refine (bitF_is _ 0 _ _ f0 f1 (by decide) (by decide) HX.out).mono ?_
    rintro e w1 ⟨rfl, hb1⟩
    go_wp2_with fail
    refine (sumDown_any _ _ _ false _ a0 a1 b0 b1 rfl).mono ?_
    rintro e w' ⟨rfl, rfl⟩
    go_wp2_with fail
    refine (bitW_any _ _ _ r0 r1 (by decide) (by decide)).mono ?_
    rintro e w' ⟨rfl, rfl⟩
    go_wp2_with fail
    refine (bitW_any _ _ _ r0 r1 (by decide) (by decide)).mono ?_
    rintro e w' ⟨rfl, rfl⟩
    go_wp2_with fail
    refine (bitW_any _ _ _ r0 r1 (by decide) (by decide)).mono ?_
    rintro e w' ⟨rfl, rfl⟩
    go_wp2_with fail
    refine (flags_any _ _ _ _ _ _ _ _ _).mono ?_
    rintro e w2 ⟨rfl, hb2⟩
    go_wp2_with fail
    go_ret2
    exact ⟨rfl, below_step hb1 hb2⟩
  · go_enter Try.func12, Try.ntmps12
    go_wp2_with fail
    refine (bitF_is _ 0 _ _ f0 f1 (by decide) (by decide) HX.out).mono ?_
    rintro e w1 ⟨rfl, hb1⟩
    go_wp2_with fail
    refine (sumDown_any _ _ _ true _ a0 a1 b0 b1 rfl).mono ?_
    rintro e w' ⟨rfl, rfl⟩
    go_wp2_with fail
    refine (bitW_any _ _ _ r0 r1 (by decide) (by decide)).mono ?_
    rintro e w' ⟨rfl, rfl⟩
    go_wp2_with fail
    refine (bitW_any _ _ _ r0 r1 (by decide) (by decide)).mono ?_
    rintro e w' ⟨rfl, rfl⟩
    go_wp2_with fail
    refine (bitW_any _ _ _ r0 r1 (by decide) (by decide)).mono ?_
    rintro e w' ⟨rfl, rfl⟩
    go_wp2_with fail
    refine (flags_any _ _ _ _ _ _ _ _ _).mono ?_
    rintro e w2 ⟨rfl, hb2⟩
    go_wp2_with fail
    go_ret2
    exact ⟨rfl, below_step hb1 hb2⟩

end Go.Proofs.Ytcjklpakbphnnaa
