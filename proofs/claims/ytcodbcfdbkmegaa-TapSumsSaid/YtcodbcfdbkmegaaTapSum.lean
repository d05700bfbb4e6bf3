/- The sums of bytes: tap's and the document's. -/
import Derived.Test.YtcodbcfdbkmegaaTapMath
import Derived.Test.YtcodbcfdbkmegaaInts
import Derived.Test.YtcodbcfdbkmegaaOwnKept
import Derived.Test.YtcodbcfdbkmegaaFlagRef
import Derived.LoopTactic
import Derived.Lib.Hide
namespace Go.Proofs.Ytcodbcfdbkmegaa
open Go.RowKit
set_option linter.unusedVariables false
set_option linter.unusedSimpArgs false

theorem sum_any (F : Nat → Prop) (A : Option Addr) (n cap : Nat) (l : List Int) (V : Int) (w : World) (hl : BAt8 F w A n cap l) (hV : sumX l = V) : Calls Try.prog 17 #[.slice A n cap] w fun e w' => e = .returned (.int .u8 V) ∧ w = w' := by
  have HL := Lib.hid hl
  have HV := Lib.hid hV
  have hm := hl.max
  have hf := hl.fit
  unfold maxLen at hm
  clear hl hV
  go_enter Try.func17, Try.ntmps17
  go_wp2_with fail
  go_loop [3, 8] (fun s i => ∃ (k : Nat) (S : Int), i = .int .i64 k ∧ k ≤ n ∧ s = .int .u8 S ∧ Hid (S = sumX (l.take k))) (fun _ i => n - (intOf i).toNat)
  case atStart => exact ⟨0, 0, rfl, by omega, rfl, Lib.hid rfl⟩
  case round =>
    obtain ⟨k, S, rfl, hk, rfl, HK⟩ := hrel
    have hS : 0 ≤ S ∧ S ≤ 255 := by rw [HK.out]; exact sumX_bd _
    obtain ⟨s0, s1⟩ := hS
    by_cases hlt : k < n
    · obtain ⟨b, o, rfl, hb, hbl, hc⟩ := HL.out.lies (by omega)
      have c := hc k hlt
      obtain ⟨x0, x1⟩ := HL.out.bd k
      obtain ⟨S2, hS2⟩ : ∃ S2, bits .xor .u8 S (gI l k) = S2 := ⟨_, rfl⟩
      have HN : Hid (S2 = sumX (l.take (k + 1))) := Lib.hid (by rw [take_gI l k (by rw [HL.out.len]; exact hlt), ← sumX_snoc, ← HK.out, hS2])
      generalize gI l k = x at *
      clear HK hc
      go_wp2_with fail
      go_round
      case rel => exact ⟨k + 1, S2, by go_num, by omega, rfl, HN⟩
      case measure => simp [intOf]; omega
    · have HE : Hid (S = V) := Lib.hid (by rw [HK.out, show k = l.length by rw [HL.out.len]; omega, List.take_length]; exact HV.out)
      clear HK
      go_wp2_with fail
      go_ret
      exact ⟨by rw [HE.out]; rfl, rfl⟩
theorem right_any (F : Nat → Prop) (A : Option Addr) (n cap : Nat) (l : List Int) (q : Bool) (w : World) (hl : BAt8 F w A n cap l) (hq : (decide (0 < l.length) && (sumX l == 0)) = q) : Calls Try.prog 18 #[.slice A n cap] w fun e w' => e = .returned (.bool q) ∧ w = w' := by
  have hlen := hl.len
  have hm := hl.max
  have hf := hl.fit
  unfold maxLen at hm
  rw [hlen] at hq
  obtain ⟨V, hV⟩ : ∃ V, sumX l = V := ⟨_, rfl⟩
  rw [hV] at hq
  have HS := Lib.hid (sum_any F A n cap l V w hl hV)
  clear hl hV
  by_cases h0 : 0 < n
  · have d : decide ((0 : Int) < (n : Int)) = true := decide_eq_true (by omega)
    have d' : decide (0 < n) = true := decide_eq_true h0
    rw [d', Bool.true_and] at hq
    go_enter Try.func18, Try.ntmps18
    go_wp2_with fail
    refine (HS.out).mono ?_
    rintro e w' ⟨rfl, rfl⟩
    go_wp2_with fail
    go_ret
    exact ⟨rfl, rfl⟩
  · have d : decide ((0 : Int) < (n : Int)) = false := decide_eq_false (by omega)
    have d' : decide (0 < n) = false := decide_eq_false h0
    rw [d', Bool.false_and] at hq
    subst hq
    go_enter Try.func18, Try.ntmps18
    go_wp2_with fail
    go_ret
    exact ⟨rfl, rfl⟩

theorem make_bools (w : World) : ∃ w', (Instr.makeSlice 73 (.int .i64 8) (.int .i64 8)).run Try.prog w = .ok (.slice (some ⟨w.heap.size, 0, none⟩) 8 8) w' ∧ Cells w' w.heap.size 4 8 (fun _ => .bool false) ∧ Below w.heap.size w w' := by
  obtain ⟨i0, hi, hz0, hz1, hz2⟩ := info_parts infoBool
  have := run_make (P := Try.prog) w 73 4 i0 (.bool false) Try.underlying73 hi hz0 .i64 .i64 8 8 (by omega) (by omega) (by rw [hz2]; decide) (by decide)
  rw [hz1] at this
  refine ⟨_, this, ⟨_, heap_alloc_new w _, size_madeCells _ _, fun j hj => ?_⟩, bnew w _⟩
  unfold madeCells
  have hz : (Value.bool false).cells = #[Value.bool false] := rfl
  rw [hz]
  rw [Array.getElem?_map, Array.getElem?_range, if_pos (show j < Int.toNat 8 * 1 from hj)]
  simp [Nat.mod_one]
/-- The bits of a sum, the first j of them already the next one's. -/
def bitsC (S S2 : Int) (j : Nat) : Nat → Value := fun i => .bool (if i < j then bitN S2 i else bitN S i)
theorem bits_row {w : World} {g : Nat} {ty : TypeId} {S : Int} (h : Cells w g ty 8 (fun i => .bool (bitN S i))) : RowAt w (.slice (some ⟨g, 0, none⟩) 8 8) ((bitsTo S 8).map Value.bool) :=
  ⟨g, 8, by simp [bitsTo], h.lt, by simp [bitsTo], by unfold maxLen; decide, fun i hi => by
    have h8 : i < 8 := by simpa [bitsTo] using hi
    rw [h.cell i h8]
    simp [bitsTo]⟩
set_option maxHeartbeats 1600000 in
theorem rsum_any (F : Nat → Prop) (A : Option Addr) (n cap : Nat) (l : List Int) (V : Int) (w : World) (hl : BAt8 F w A n cap l) (hV : sumX l = V) : Calls Try.prog 16 #[.slice A n cap] w fun e w' => e = .returned (.int .u8 V) ∧ Below w.heap.size w w' := by
  have HL := Lib.hid hl
  have HV := Lib.hid hV
  have hm := hl.max
  have hf := hl.fit
  unfold maxLen at hm
  obtain ⟨w0, mk, hC0, hb0⟩ := make_bools w
  have HC0 := Lib.hid (show Cells w0 w.heap.size 4 8 (fun i => .bool (bitN (sumX (l.take 0)) i)) from hC0.congr fun j _ => by
    rw [List.take_zero, show sumX [] = 0 from rfl]
    unfold bitN
    simp)
  have HB0 := Lib.hid hb0
  obtain ⟨g, hg⟩ : ∃ g, w.heap.size = g := ⟨_, rfl⟩
  have HG := Lib.hid hg
  rw [hg] at mk HC0
  clear hl hV hC0 hb0 hg
  go_enter Try.func16, Try.ntmps16
  go_wp2_with fail
  go_loopw [4] (fun i wr => ∃ k : Nat, i = .int .i64 k ∧ k ≤ n ∧ Hid (Cells wr g 4 8 (fun i => .bool (bitN (sumX (l.take k)) i)) ∧ Below w.heap.size w wr)) (fun i _ => n - (intOf i).toNat)
  case atStart => exact ⟨0, rfl, by omega, Lib.hid ⟨HC0.out, HB0.out⟩⟩
  case round =>
    obtain ⟨k, rfl, hk, HK⟩ := hrel
    by_cases hlt : k < n
    · obtain ⟨b, o, rfl, hb, hbl, hc⟩ := (HL.out.below HK.out.2).lies (by omega)
      have c := hc k hlt
      obtain ⟨x0, x1⟩ := HL.out.bd k
      obtain ⟨x, hx⟩ : ∃ x, gI l k = x := ⟨_, rfl⟩
      obtain ⟨S, hS⟩ : ∃ S, sumX (l.take k) = S := ⟨_, rfl⟩
      obtain ⟨S2, hS2⟩ : ∃ S2, sumX (l.take (k + 1)) = S2 := ⟨_, rfl⟩
      rw [hx] at c x0 x1
      have HBit : Hid (∀ i, i < 8 → bitN S2 i = (bitN S i != bitN x i)) := Lib.hid (fun i hi => by
        rw [← hS2, ← hS, take_gI l k (by rw [HL.out.len]; exact hlt), hx]
        exact sumX_bit _ x x0 x1 i hi)
      have HKS : Hid (Cells wr g 4 8 (fun i => .bool (bitN S i)) ∧ Below w.heap.size w wr) := Lib.hid (by rw [← hS]; exact HK.out)
      have HS2 := Lib.hid hS2
      clear HK hc hx hS hS2
      obtain ⟨wo, hwo⟩ : ∃ wo : World, wo = wr := ⟨_, rfl⟩
      have HB := Lib.hid (bits_own x wr x0 x1)
      rw [← hwo] at HB HKS c ⊢
      clear hwo
      go_wp2_with fail
      refine HB.out.mono ?_
      rintro e w2 ⟨v, rfl, hown, hb2⟩
      have hv := rowAt_of_own hown (by omega)
      obtain ⟨g2, cap2, rfl, hg2, hc2, hm2, hcell⟩ := bits_cells hv
      have hlow := (own_low hown g2 rfl).1
      have hglt := HKS.out.1.lt
      have HCell := Lib.hid hcell
      unfold maxLen at hm2
      have HI : Hid (Cells w2 g 4 8 (bitsC S S2 0) ∧ Below w.heap.size w w2) := Lib.hid ⟨(HKS.out.1.below hb2).congr fun j _ => by simp [bitsC], HKS.out.2.trans (hb2.mono HKS.out.2.size)⟩
      have hne : g ≠ g2 := by omega
      clear hcell hv hown hb2 HB HKS c hlow hglt
      go_wp2_with fail
      go_loopw [6] (fun i wx => ∃ j : Nat, i = .int .i64 j ∧ j ≤ 8 ∧ Hid (Cells wx g 4 8 (bitsC S S2 j) ∧ Ch (fun k => k = g) w2 wx)) (fun i _ => 8 - (intOf i).toNat)
      case atStart => exact ⟨0, rfl, by omega, Lib.hid ⟨HI.out.1, Ch.refl _ _⟩⟩
      case round =>
        obtain ⟨j, rfl, hj, HJ⟩ := hrel
        by_cases hj8 : j < 8
        · have c1 := HJ.out.1.cell j hj8
          have f1 := HJ.out.1.frozen j
          have c2 := (World.cell?_of_block (a := ⟨g2, j, none⟩) (HJ.out.2.block g2 hg2 fun e => hne e.symm)).trans (HCell.out j hj8)
          have hbc : bitsC S S2 j j = .bool (bitN S j) := by simp [bitsC]
          rw [hbc] at c1
          obtain ⟨b1, hb1⟩ : ∃ b1, bitN S j = b1 := ⟨_, rfl⟩
          obtain ⟨b2, hb2⟩ : ∃ b2, bitN x j = b2 := ⟨_, rfl⟩
          obtain ⟨b3, hb3⟩ : ∃ b3, (!(b1 == b2)) = b3 := ⟨_, rfl⟩
          rw [hb1] at c1
          rw [hb2] at c2
          have HN : Hid (Cells (wr.setCell ⟨g, j, none⟩ (.bool b3)) g 4 8 (bitsC S S2 (j + 1)) ∧ Ch (fun k => k = g) w2 (wr.setCell ⟨g, j, none⟩ (.bool b3))) := Lib.hid ⟨(HJ.out.1.set j (.bool b3)).congr fun i hi => by
            unfold upd
            by_cases e : i = j
            · subst e
              have h := HBit.out i hi
              rw [hb1, hb2] at h
              rw [if_pos rfl, ← hb3]
              unfold bitsC
              rw [if_pos (by omega), h]
              rfl
            · rw [if_neg e]
              unfold bitsC
              by_cases e2 : i < j
              · rw [if_pos e2, if_pos (by omega)]
              · rw [if_neg e2, if_neg (by omega)], HJ.out.2.then (Ch.set _ g j _ rfl)⟩
          clear hb1 hb2 hbc HJ
          go_wp2_with fail
          go_region
          go_wp2_with fail
          go_roundw
          case rel => exact ⟨j + 1, by go_num, by omega, by first | exact HN | exact Lib.hid ⟨HN.out.1.below (Below.refl _ _).drew, HN.out.2.less (Below.refl _ _).drew⟩⟩
          case measure => simp [intOf]; omega
        · have hj8 : j = 8 := by omega
          have HE : Hid (Cells wr g 4 8 (fun i => .bool (bitN (sumX (l.take (k + 1))) i)) ∧ Below w.heap.size w wr) := Lib.hid ⟨HJ.out.1.congr fun i hi => by rw [HS2.out]; unfold bitsC; rw [if_pos (by omega)], HI.out.2.trans (HJ.out.2.below (fun k hk => by rw [hk, ← HG.out]; exact Nat.le_refl _) HI.out.2.size)⟩
          clear HJ
          go_wp2_with fail
          go_roundw
          case rel => exact ⟨k + 1, by go_num, by omega, HE⟩
          case measure => simp [intOf]; omega
    · have hkn : k = l.length := by rw [HL.out.len]; omega
      have HE : Hid (RowAt wr (.slice (some ⟨g, 0, none⟩) 8 8) ((bitsTo V 8).map Value.bool)) := Lib.hid (bits_row (ty := 4) (by
        have h := HK.out.1
        rw [hkn, List.take_length, HV.out] at h
        exact h))
      have HVb : Hid (byteOf (bitsTo V 8) = V) := Lib.hid (by have := sumX_bd l; rw [HV.out] at this; exact byteOf_bits V this.1 this.2)
      have HR := Lib.hid (rbyte_any (bitsTo V 8) _ wr (bitsTo_length V 8) HE.out)
      have HW := Lib.hid HK.out.2
      clear HK HE hkn
      go_wp2_with fail
      refine HR.out.mono ?_
      rintro e w5 ⟨rfl, rfl⟩
      go_wp2_with fail
      go_ret
      exact ⟨by rw [HVb.out]; rfl, HW.out⟩

end Go.Proofs.Ytcodbcfdbkmegaa
