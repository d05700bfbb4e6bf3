/- The laws KeysNils and KeysFinds of layer 10, walked. -/
import Derived.Test.YtfppbhpokeafpaaDoorKeysRead
import Derived.Test.YtfppbhpokeafpaaDoorKeysRefRead
import Derived.BigQuiet
namespace Go.Proofs.YtfppbhpokeafpaaDoor
open Go.RowKit

theorem noneS_cells : kcells (fun _ => false) = #[.int .u8 0, .int .u8 0, .int .u8 0, .int .u8 0, .int .u8 0, .int .u8 0, .int .u8 0, .int .u8 0] := by kernel_rfl
theorem below_drawn {B : Nat} {w u : World} (h : Below B w u) (n : Nat) : Below B w (u.drewN n) := h.trans ⟨rfl, rfl, rfl, Nat.le_refl _, fun _ _ => rfl⟩
theorem KeysAt.new (w : World) : KeysAt (w.alloc (.cells #[.int .u8 0, .int .u8 0, .int .u8 0, .int .u8 0, .int .u8 0, .int .u8 0, .int .u8 0, .int .u8 0] 46)) w.heap.size (fun _ => false) := by
  unfold KeysAt
  rw [noneS_cells]
  exact heap_alloc_new _ _
theorem balloc (w : World) (o : Obj) : Below w.heap.size w (w.alloc o) := (Below.refl _ _).alloc (Nat.le_refl _) _
set_option maxHeartbeats 800000 in
theorem lives10 (A : Array Value) (w : World) (hT : NmTab A w) : Calls Tryd.prog 7 #[] w fun e w' => e = .returned (.bool true) ∧ Below w.heap.size w w' := by
  have HK := Lib.hid (KeysAt.new w)
  have HT := Lib.hid (hT.below (balloc w (.cells #[.int .u8 0, .int .u8 0, .int .u8 0, .int .u8 0, .int .u8 0, .int .u8 0, .int .u8 0, .int .u8 0] 46)))
  have HB := Lib.hid (balloc w (.cells #[.int .u8 0, .int .u8 0, .int .u8 0, .int .u8 0, .int .u8 0, .int .u8 0, .int .u8 0, .int .u8 0] 46))
  have HP := Lib.hid (fun u => press_yes A w.heap.size (fun _ => false) ⟨#[115, 112, 97, 99, 101]⟩ 7 0 u)
  have HN := Lib.hid (show keyN ⟨#[115, 112, 97, 99, 101]⟩ = 5 * 7 + 0 by decide +kernel)
  have H1 := Lib.hid (show readF (setS (fun _ => false) (5 * 7 + 0) true) 127 = 30 by decide +kernel)
  have H2 := Lib.hid (show readF (setS (fun _ => false) (5 * 7 + 0) true) 254 = 31 by decide +kernel)
  have HR := Lib.hid (fun h u hK h0 h1 => read_any (setS (fun _ => false) (5 * 7 + 0) true) w.heap.size h u hK h0 h1)
  generalize setS (fun _ => false) (5 * 7 + 0) true = S1 at *
  clear hT
  go_enter Tryd.func7, Tryd.ntmps7
  go_wp2_with fail
  refine (HP.out _ HT.out HK.out (by decide) (by decide) HN.out).mono ?_
  rintro e w2 ⟨rfl, hk2, hw2⟩
  have HK2 := Lib.hid hk2
  have HB2 := Lib.hid (HB.out.trans (hw2.below (Nat.le_refl _)))
  clear hk2 hw2
  go_wp2_with fail
  refine (HR.out 127 w2 HK2.out (by decide) (by decide)).mono ?_
  rw [H1.out]
  rintro e w' ⟨rfl, rfl⟩
  go_wp2_with fail
  refine (HR.out 254 w2 HK2.out (by decide) (by decide)).mono ?_
  rw [H2.out]
  rintro e w' ⟨rfl, rfl⟩
  go_wp2_with fail
  go_ret
  exact ⟨rfl, HB2.out⟩

set_option maxHeartbeats 800000 in
theorem nils_walk (s : ByteArray) (h : Int) (_ : s.size ≤ maxLen) (_ : (Lit.int .u8 h).wf = true) (w : World) (hT : ∃ A, NmTab A w) :
    Calls Tryd.prog 6 #[.string s, .int .u8 h] w fun e w' => e = .returned (.bool true) ∧ Below w.heap.size w w' := by
  obtain ⟨A, hT⟩ := hT
  have HV := Lib.hid (lives10 A w hT)
  clear hT
  go_enter Tryd.func6, Tryd.ntmps6
  go_wp2_with fail
  refine (press_nil _ _).mono ?_
  rintro e w' ⟨rfl, rfl⟩
  go_wp2_with fail
  refine (release_nil _ _).mono ?_
  rintro e w' ⟨rfl, rfl⟩
  go_wp2_with fail
  refine (read_nil _ _).mono ?_
  rintro e w' ⟨rfl, rfl⟩
  go_wp2_with fail
  refine (down_nil _).mono ?_
  rintro e w' ⟨rfl, rfl⟩
  go_wp2_with fail
  refine HV.out.mono ?_
  rintro e w1 ⟨rfl, hb⟩
  go_wp2_with fail
  go_ret
  exact ⟨rfl, hb⟩

theorem str_self (a : ByteArray) : (a.toList == a.toList) = true := beq_self_eq_true _
set_option maxHeartbeats 1600000 in
theorem finds_walk (s : ByteArray) (_ : s.size ≤ maxLen) (w : World) (hT : ∃ A, NmTab A w) :
    Calls Tryd.prog 4 #[.string s] w fun e w' => e = .returned (.bool true) ∧ Below w.heap.size w w' := by
  obtain ⟨A, hT⟩ := hT
  have HT := Lib.hid hT
  clear hT
  have hle := keyN_le s
  by_cases hk : keyN s = 40
  · have HF := Lib.hid (find_no A s w HT.out hk)
    have HRF := Lib.hid (refFind_no s w hk)
    clear hk hle
    go_enter Tryd.func4, Tryd.ntmps4
    go_wp2_with fail
    refine (HF.out).mono ?_
    rintro e w' ⟨rfl, rfl⟩
    go_wp2_with fail
    refine HRF.out.mono ?_
    rintro e w1 ⟨rfl, hb1⟩
    go_wp2_with fail
    refine (names_any A w1 (HT.out.below hb1)).mono ?_
    rintro e w2 ⟨v2, rfl, hv2, hb2⟩
    go_wp2_with fail
    refine (refNames w2).mono ?_
    rintro e w3 ⟨v3, rfl, hv3, hb3⟩
    obtain ⟨g2, cap2, rfl, hg2, hc2, hm2, hcell2⟩ := rowAt_names (hv2.later hb3)
    obtain ⟨g3, cap3, rfl, hg3, hc3, hm3, hcell3⟩ := rowAt_names hv3
    have HC2 := Lib.hid hcell2
    have HC3 := Lib.hid hcell3
    have hb := below_step hb1 (below_step hb2 hb3)
    have HV := Lib.hid (HT.out.below hb)
    clear hcell2 hcell3 hv2 hv3 hb1 hb2 hb3
    go_wp2_with fail
    go_loopw [9] (fun i wr => ∃ k m : Nat, i = .int .i64 k ∧ k ≤ 40 ∧ wr = w3.drewN m) (fun i _ => 40 - (intOf i).toNat)
    case atStart => exact ⟨0, 0, rfl, by omega, rfl⟩
    case round =>
      obtain ⟨k, m, rfl, hk, rfl⟩ := hrel
      by_cases hlt : k < 40
      · have c2 := HC2.out k hlt
        have c3 := HC3.out k hlt
        have hs := str_self (nm k)
        generalize nm k = N at *
        go_wp2_with fail
        go_quiet (fail)
        go_wp2_with fail
        go_roundw
        case rel => exact ⟨k + 1, _, by go_num, by omega, rfl⟩
        case measure => simp [intOf]; omega
      · obtain rfl : k = 40 := by omega
        go_wp2_with fail
        refine (lives10 A _ (HV.out.below (w' := w3.drewN m) ⟨rfl, rfl, rfl, Nat.le_refl _, fun _ _ => rfl⟩)).mono ?_
        rintro e w4 ⟨rfl, hb4⟩
        go_wp2_with fail
        go_ret
        exact ⟨rfl, (below_drawn hb m).trans (hb4.mono hb.size)⟩
  · obtain ⟨R, hR⟩ : ∃ R, keyN s / 5 = R := ⟨_, rfl⟩
    obtain ⟨J, hJ⟩ : ∃ J, keyN s % 5 = J := ⟨_, rfl⟩
    have hR8 : R < 8 := by omega
    have hJ5 : J < 5 := by omega
    have hkk : keyN s = 5 * R + J := by omega
    have HF := Lib.hid (find_yes A s R J w HT.out hR8 hJ5 hkk)
    have HRF := Lib.hid (refFind_yes s (5 * R + J) w (by omega) hkk)
    rw [show ((5 * R + J : Nat) : Int) = 5 * (R : Int) + (J : Int) by omega] at HRF
    clear hk hle hR hJ hkk
    go_enter Tryd.func4, Tryd.ntmps4
    go_wp2_with fail
    refine (HF.out).mono ?_
    rintro e w' ⟨rfl, rfl⟩
    go_wp2_with fail
    refine HRF.out.mono ?_
    rintro e w1 ⟨rfl, hb1⟩
    go_wp2_with fail
    refine (names_any A w1 (HT.out.below hb1)).mono ?_
    rintro e w2 ⟨v2, rfl, hv2, hb2⟩
    go_wp2_with fail
    refine (refNames w2).mono ?_
    rintro e w3 ⟨v3, rfl, hv3, hb3⟩
    obtain ⟨g2, cap2, rfl, hg2, hc2, hm2, hcell2⟩ := rowAt_names (hv2.later hb3)
    obtain ⟨g3, cap3, rfl, hg3, hc3, hm3, hcell3⟩ := rowAt_names hv3
    have HC2 := Lib.hid hcell2
    have HC3 := Lib.hid hcell3
    have hb := below_step hb1 (below_step hb2 hb3)
    have HV := Lib.hid (HT.out.below hb)
    clear hcell2 hcell3 hv2 hv3 hb1 hb2 hb3
    go_wp2_with fail
    go_loopw [9] (fun i wr => ∃ k m : Nat, i = .int .i64 k ∧ k ≤ 40 ∧ wr = w3.drewN m) (fun i _ => 40 - (intOf i).toNat)
    case atStart => exact ⟨0, 0, rfl, by omega, rfl⟩
    case round =>
      obtain ⟨k, m, rfl, hk, rfl⟩ := hrel
      by_cases hlt : k < 40
      · have c2 := HC2.out k hlt
        have c3 := HC3.out k hlt
        have hs := str_self (nm k)
        generalize nm k = N at *
        go_wp2_with fail
        go_quiet (fail)
        go_wp2_with fail
        go_roundw
        case rel => exact ⟨k + 1, _, by go_num, by omega, rfl⟩
        case measure => simp [intOf]; omega
      · obtain rfl : k = 40 := by omega
        go_wp2_with fail
        refine (lives10 A _ (HV.out.below (w' := w3.drewN m) ⟨rfl, rfl, rfl, Nat.le_refl _, fun _ _ => rfl⟩)).mono ?_
        rintro e w4 ⟨rfl, hb4⟩
        go_wp2_with fail
        go_ret
        exact ⟨rfl, (below_drawn hb m).trans (hb4.mono hb.size)⟩
end Go.Proofs.YtfppbhpokeafpaaDoor
