/- The laws FlagBits and FlagTexts of layer 1, walked. -/
import Derived.Test.YtkafgkfokejonaaFlagLaws
namespace Go.Proofs.Ytkafgkfokejonaa
open Go.RowKit

set_option maxHeartbeats 3200000 in
theorem flagBits_walk (a0 a1 : Int) (a2 : Bool) (w0 : (Lit.int .u8 a0).wf = true) (w1 : (Lit.int .u8 a1).wf = true) (w : World) :
    Calls Try.prog 4 #[.int .u8 a0, .int .u8 a1, .bool a2] w fun e w' => e = .returned (.bool true) ∧ Below w.heap.size w w' := by
  obtain ⟨f0, f1⟩ := u8_bd w0
  obtain ⟨b0, b1⟩ := u8_bd w1
  clear w0 w1
  have HW := Lib.hid (with_out a0 a1 a2 f0 f1 b0 b1)
  have HH := Lib.hid (has_or a0 a1 f0 f1 b0 b1)
  go_enter Try.func4, Try.ntmps4
  go_wp2_with fail
  refine (bits_any _ _ f0 f1).mono ?_
  rintro e w1 ⟨v1, rfl, hv1, hb1⟩
  go_wp2_with fail
  refine (bits_any _ _ b0 b1).mono ?_
  rintro e w2 ⟨v2, rfl, hv2, hb2⟩
  obtain ⟨g1, cap1, rfl, hg1, hc1, hm1, hcell1⟩ := bits_cells (hv1.later hb2)
  obtain ⟨g2, cap2, rfl, hg2, hc2, hm2, hcell2⟩ := bits_cells hv2
  have HC1 := Lib.hid hcell1
  have HC2 := Lib.hid hcell2
  have hb := below_step hb1 hb2
  clear hcell1 hcell2 hv1 hv2 hb1 hb2
  go_wp2_with fail
  go_loopw [9, 10, 11] (fun h o i wr => ∃ k : Nat, k ≤ 8 ∧ i = .int .i64 k ∧ h = .bool (orTo a0 a1 k) ∧ wr.ownsRow w2.heap.size 4 1 o k ((outTo a0 a1 a2 k).map Value.bool) ∧ Below w2.heap.size w2 wr) (fun _ _ i _ => 8 - (intOf i).toNat)
  case atStart => exact ⟨0, by omega, rfl, rfl, World.ownsRow_nil _ _ _ _, Below.refl _ _⟩
  case round =>
    obtain ⟨k, hk, rfl, rfl, hown, hnx⟩ := hrel
    have hsz := hnx.size
    by_cases hlt : k < 8
    · have hk1 : wr.cell? ⟨g1, k, none⟩ = some (.bool (bitN a0 k)) := (hnx.cell (p := ⟨g1, k, none⟩) hg1).trans (HC1.out k hlt)
      have hk2 : wr.cell? ⟨g2, k, none⟩ = some (.bool (bitN a1 k)) := (hnx.cell (p := ⟨g2, k, none⟩) hg2).trans (HC2.out k hlt)
      have HO : Hid (orTo a0 a1 (k + 1) = (orTo a0 a1 k || (bitN a0 k && bitN a1 k))) := rfl
      have HS : Hid ((outTo a0 a1 a2 (k + 1)).map Value.bool = (outTo a0 a1 a2 k).map Value.bool ++ [Value.bool (if bitN a1 k then a2 else bitN a0 k)]) := by rw [outTo_succ, List.map_append]; rfl
      generalize bitN a0 k = x at *
      generalize bitN a1 k = y at *
      generalize orTo a0 a1 k = h at *
      generalize (outTo a0 a1 a2 k).map Value.bool = l at *
      cases h <;> cases x <;> cases y
      all_goals
        go_wp2_with (at_builtin; refine wpList_append_one w2.heap.size 4 25 infoBool Try.underlying25 rfl rfl _ _ rfl _ _ _ rfl hown _ rfl rfl (by decide) (by omega) hsz ?_)
        intro v' w3 hown3 hb3
        have hnx3 := hnx.trans hb3
        clear hown hb3 hnx hk1 hk2
        go_wp2_with fail
        go_roundw
        case rel => exact ⟨k + 1, by omega, by go_num, by rw [HO.out]; rfl, by rw [HS.out]; exact hown3, hnx3⟩
        case measure => simp [intOf]; omega
    · obtain rfl : k = 8 := by omega
      have hrow := rowAt_of_own hown (by omega)
      have hl := outTo_length a0 a1 a2 8
      have HL := Lib.hid hl; clear hl
      clear hown
      go_wp2_with fail
      refine (with_any _ _ _ _).mono ?_
      rintro e w' ⟨rfl, rfl⟩
      go_wp2_with fail
      refine (byte_any _ _ _ HL.out hrow).mono ?_
      rintro e w' ⟨rfl, rfl⟩
      rw [← HW.out]
      go_wp2_with fail
      refine (has_is _ _ _ _ HH.out).mono ?_
      rintro e w' ⟨rfl, rfl⟩
      go_wp2_with fail
      refine (lives_any _).mono ?_
      rintro e w3 ⟨rfl, hb3⟩
      go_wp2_with fail
      go_ret
      exact ⟨rfl, below_step (below_step hb hnx) hb3⟩

/-- The text of eight bits. -/
def textOf (a0 a1 a2 a3 a4 a5 a6 a7 : Bool) : List UInt8 :=
  [if a0 then 83 else 45, if a1 then 90 else 45, if a2 then 89 else 45, if a3 then 72 else 45, if a4 then 88 else 45, if a5 then 80 else 45, if a6 then 78 else 45, if a7 then 67 else 45]
theorem text_read (a0 a1 a2 a3 a4 a5 a6 a7 : Bool) :
    0 ≤ readTo (textOf a0 a1 a2 a3 a4 a5 a6 a7) 8 ∧ readTo (textOf a0 a1 a2 a3 a4 a5 a6 a7) 8 ≤ 255 ∧ showTo (readTo (textOf a0 a1 a2 a3 a4 a5 a6 a7) 8) 8 = textOf a0 a1 a2 a3 a4 a5 a6 a7 := by
  have h : ∀ a0 a1 a2 a3 a4 a5 a6 a7 : Bool, 0 ≤ readTo (textOf a0 a1 a2 a3 a4 a5 a6 a7) 8 ∧ readTo (textOf a0 a1 a2 a3 a4 a5 a6 a7) 8 ≤ 255 ∧ showTo (readTo (textOf a0 a1 a2 a3 a4 a5 a6 a7) 8) 8 = textOf a0 a1 a2 a3 a4 a5 a6 a7 := by decide +kernel
  exact h a0 a1 a2 a3 a4 a5 a6 a7
theorem one_sign {c g : UInt8} (h : (c == g || c == 45) = true) : ∃ a : Bool, c = if a then g else 45 := by
  simp only [Bool.or_eq_true, beq_iff_eq] at h
  rcases h with h | h
  · exact ⟨true, h⟩
  · exact ⟨false, h⟩
theorem ok_text (l : List UInt8) (hl : l.length = 8) (h : okTo l 8 = true) : ∃ a0 a1 a2 a3 a4 a5 a6 a7 : Bool, l = textOf a0 a1 a2 a3 a4 a5 a6 a7 := by
  match l, hl with
  | [c0, c1, c2, c3, c4, c5, c6, c7], _ =>
    simp only [okTo, Bool.true_and, Bool.and_eq_true] at h
    obtain ⟨⟨⟨⟨⟨⟨⟨k0, k1⟩, k2⟩, k3⟩, k4⟩, k5⟩, k6⟩, k7⟩ := h
    obtain ⟨a0, e0⟩ := one_sign k0
    obtain ⟨a1, e1⟩ := one_sign k1
    obtain ⟨a2, e2⟩ := one_sign k2
    obtain ⟨a3, e3⟩ := one_sign k3
    obtain ⟨a4, e4⟩ := one_sign k4
    obtain ⟨a5, e5⟩ := one_sign k5
    obtain ⟨a6, e6⟩ := one_sign k6
    obtain ⟨a7, e7⟩ := one_sign k7
    refine ⟨a0, a1, a2, a3, a4, a5, a6, a7, ?_⟩
    simp only [List.getD_cons_zero, List.getD_cons_succ, signsL] at e0 e1 e2 e3 e4 e5 e6 e7
    rw [textOf, ← e0, ← e1, ← e2, ← e3, ← e4, ← e5, ← e6, ← e7]
theorem none_reads (s : ByteArray) (h : ∀ j : Nat, j < 256 → showS (j : Int) ≠ s) : readV s.data.toList = 0 ∧ readE s.data.toList = 4 := by
  have hno : ¬ (s.data.toList.length = 8 ∧ okTo s.data.toList 8 = true) := by
    rintro ⟨hl, hok⟩
    obtain ⟨a0, a1, a2, a3, a4, a5, a6, a7, e⟩ := ok_text _ hl hok
    obtain ⟨t0, t1, t2⟩ := text_read a0 a1 a2 a3 a4 a5 a6 a7
    rw [← e] at t0 t1 t2
    obtain ⟨n, hn⟩ := Int.eq_ofNat_of_zero_le t0
    refine h n (by omega) ?_
    rw [← hn]
    show (⟨(showTo _ 8).toArray⟩ : ByteArray) = s
    rw [t2]
  unfold readV readE
  rw [if_neg hno, if_neg hno]
  exact ⟨rfl, rfl⟩

def thereTo (s : ByteArray) : Nat → Bool
  | 0 => false
  | k + 1 => if showS (k : Int) = s then true else thereTo s k
theorem there_no (s : ByteArray) : ∀ k, thereTo s k = false → ∀ j, j < k → showS (j : Int) ≠ s
  | 0, _, j, hj => absurd hj (by omega)
  | k + 1, h, j, hj => by
    unfold thereTo at h
    split at h
    · simp at h
    · by_cases e : j = k
      · subst e; assumption
      · exact there_no s k h j (by omega)

set_option maxRecDepth 100000 in
set_option maxHeartbeats 1600000 in
theorem flagTexts_walk (a0 : Int) (a1 : ByteArray) (w0 : (Lit.int .u8 a0).wf = true) (w1 : a1.size ≤ maxLen) (w : World) :
    Calls Try.prog 6 #[.int .u8 a0, .string a1] w fun e w' => e = .returned (.bool true) ∧ Below w.heap.size w w' := by
  obtain ⟨h0, h1⟩ := u8_bd w0
  clear w0
  by_cases hbig : 100 < a1.size
  · unfold maxLen at w1
    go_enter Try.func6, Try.ntmps6
    go_wp2_with fail
    refine (lives_any _).mono ?_
    rintro e w1 ⟨rfl, hb1⟩
    go_wp2_with fail
    go_ret
    exact ⟨rfl, hb1⟩
  · have hsm : a1.size ≤ 100 := by omega
    clear hbig
    go_enter Try.func6, Try.ntmps6
    go_wp2_with fail
    refine (read_any _ _ w1).mono ?_
    rintro e w1 ⟨rfl, hb1⟩
    go_wp2_with fail
    go_loopw [7, 8] (fun t i wr => ∃ k : Nat, k ≤ 256 ∧ i = .int .i64 k ∧ t = .bool (thereTo a1 k) ∧ Below w.heap.size w wr) (fun _ i _ => 256 - (intOf i).toNat)
    case atStart => exact ⟨0, by omega, rfl, rfl, hb1⟩
    case round =>
      obtain ⟨k, hk, rfl, rfl, hnx⟩ := hrel
      by_cases hlt : k < 256
      · have HT : Hid (thereTo a1 (k + 1) = if showS (k : Int) = a1 then true else thereTo a1 k) := rfl
        by_cases hs : showS (k : Int) = a1
        · have HS := Lib.hid hs; clear hs
          obtain ⟨r1, r2, _⟩ := read_show (k : Int) (by omega) (by omega)
          rw [HS.out] at r1 r2
          rw [r1, r2]
          clear r1 r2
          go_wp2_with fail
          refine (refShow_any _ _ (by omega) (by omega)).mono ?_
          rintro e w2 ⟨rfl, hb2⟩
          rw [HS.out]
          go_wp2_with fail
          go_roundw
          case rel => exact ⟨k + 1, by omega, by go_num, by rw [HT.out, if_pos HS.out], below_step hnx hb2⟩
          case measure => simp [intOf]; omega
        · have HS := Lib.hid hs; clear hs
          go_wp2_with fail
          refine (refShow_any _ _ (by omega) (by omega)).mono ?_
          rintro e w2 ⟨rfl, hb2⟩
          have hne := str_ne HS.out
          go_wp2_with fail
          go_roundw
          case rel => exact ⟨k + 1, by omega, by go_num, by rw [HT.out, if_neg HS.out], below_step hnx hb2⟩
          case measure => simp [intOf]; omega
      · obtain rfl : k = 256 := by omega
        have HN := Lib.hid (there_no a1 256)
        generalize thereTo a1 256 = t at HN ⊢
        cases t
        · obtain ⟨r1, r2⟩ := none_reads a1 (HN.out rfl)
          rw [r1, r2]
          clear r1 r2
          go_wp2_with fail
          refine (show_any _ _ h0 h1).mono ?_
          rintro e w2 ⟨rfl, hb2⟩
          go_wp2_with fail
          refine (refShow_any _ _ h0 h1).mono ?_
          rintro e w3 ⟨rfl, hb3⟩
          go_wp2_with fail
          refine (lives_any _).mono ?_
          rintro e w4 ⟨rfl, hb4⟩
          go_wp2_with fail
          go_ret
          exact ⟨rfl, below_step (below_step (below_step hnx hb2) hb3) hb4⟩
        · go_wp2_with fail
          refine (show_any _ _ h0 h1).mono ?_
          rintro e w2 ⟨rfl, hb2⟩
          go_wp2_with fail
          refine (refShow_any _ _ h0 h1).mono ?_
          rintro e w3 ⟨rfl, hb3⟩
          go_wp2_with fail
          refine (lives_any _).mono ?_
          rintro e w4 ⟨rfl, hb4⟩
          go_wp2_with fail
          go_ret
          exact ⟨rfl, below_step (below_step (below_step hnx hb2) hb3) hb4⟩

end Go.Proofs.Ytkafgkfokejonaa
