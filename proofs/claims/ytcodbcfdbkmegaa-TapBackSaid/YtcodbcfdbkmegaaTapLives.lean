/- The chapter's example. -/
import Derived.Test.YtcodbcfdbkmegaaTapSame
namespace Go.Proofs.Ytcodbcfdbkmegaa
open Go.RowKit
set_option linter.unusedVariables false
set_option linter.unusedSimpArgs false

theorem parse_ex : parseM [2, 0, 5, 5] = .ok [[5, 5]] := by
  have h := tap_back [[5, 5]] [] 0 (by decide) (fun j hj => by obtain rfl : j = 0 := (by simpa using hj); decide)
  have e : ([] : List Int) ++ fileL [[5, 5]] = [2, 0, 5, 5] := by decide
  rw [e] at h
  unfold parseM
  rw [if_neg (by decide)]
  exact h
theorem lives18 (w : World) : Calls Try.prog 7 #[] w fun e w' => e = .returned (.bool true) ∧ Below w.heap.size w w' := by
  have HB := Lib.hid (fun fr => BAt8.new w [2, 0, 5, 5] 5 fr #[.int .u8 2, .int .u8 0, .int .u8 5, .int .u8 5] 4 rfl rfl (by unfold maxLen; omega) (by decide))
  have HP := Lib.hid (fun fr => parse_yes _ _ _ _ _ _ (HB.out fr) (Or.inl (by decide)) _ parse_ex)
  have HBn := Lib.hid (bnew w (.cells #[.int .u8 2, .int .u8 0, .int .u8 5, .int .u8 5] 5))
  go_enter Try.func7, Try.ntmps7
  go_wp2_with fail
  refine (HP.out _).mono ?_
  rintro x w1 ⟨A, n, cap, rfl, hP, hb⟩
  have hn : n = 1 := hP.len.symm
  subst hn
  have hf := hP.fit
  have hm := hP.max
  unfold maxLen at hm
  obtain ⟨b, o, A1, n1, c1, rfl, _, hbl, k1, B1⟩ := hP.lies 0 (by decide)
  rw [Nat.add_zero] at k1
  replace B1 : BAt8 _ w1 A1 n1 c1 [5, 5] := B1
  have hn1 : n1 = 2 := B1.len.symm
  subst hn1
  have q1 := conv_of B1
  have hf1 := B1.fit
  have hm1 := B1.max
  unfold maxLen at hm1
  have q0 : ∀ u, (binOp .eql 26 .nilIface .nilIface).run Try.prog u = .ok (.bool true) u := fun _ => rfl
  have HR := Lib.hid (right_any _ A1 2 c1 [5, 5] true w1 B1 (by decide +kernel))
  have HW := Lib.hid (HBn.out.trans (hb.mono HBn.out.size))
  rw [show strOfNums [5, 5] = ⟨#[5, 5]⟩ from rfl] at q1
  clear hP hb HP HB B1 HBn
  go_wp2_with fail
  refine (HR.out).mono ?_
  rintro e w' ⟨rfl, rfl⟩
  go_wp2_with fail
  go_ret
  exact ⟨rfl, HW.out⟩

end Go.Proofs.Ytcodbcfdbkmegaa
