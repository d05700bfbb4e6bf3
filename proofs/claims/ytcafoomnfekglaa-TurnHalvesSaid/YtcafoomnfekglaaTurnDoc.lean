/- The document's Do, Acc, Bit, Put and Halves: their contracts. -/
import Derived.Test.YtcafoomnfekglaaTurnTurn
import Derived.Test.YtcafoomnfekglaaFlagHeld
namespace Go.Proofs.Ytcafoomnfekglaa
open Go.RowKit

set_option maxHeartbeats 1600000 in
theorem refDoT_any (k b f : Int) (w : World) (h0 : 0 ≤ b) (h1 : b ≤ 255) (f0 : 0 ≤ f) (f1 : f ≤ 255) :
    Calls Try.prog 10 #[.int .i64 k, .int .u8 b, .int .u8 f] w fun e w' => e = .returned (.tuple #[.int .u8 (doV4 k b f).1, .int .u8 (doV4 k b f).2]) ∧ Below w.heap.size w w' := by
  by_cases hl : k < 0
  · rw [doV4_out k b f (.inl hl)]
    have hd : decide (k < 0) = true := decide_eq_true hl
    go_enter Try.func10, Try.ntmps10
    go_wp2_with fail
    go_ret2
    exact ⟨rfl, Below.refl _ _⟩
  have hd : decide (k < 0) = false := decide_eq_false hl
  by_cases hh : 7 < k
  · rw [doV4_out k b f (.inr hh)]
    have he : decide (7 < k) = true := decide_eq_true hh
    go_enter Try.func10, Try.ntmps10
    go_wp2_with fail
    go_ret2
    exact ⟨rfl, Below.refl _ _⟩
  have he : decide (7 < k) = false := decide_eq_false hh
  have k0 : 0 ≤ k := by omega
  have k7 : k ≤ 7 := by omega
  rw [doV4_in k b f k0 k7]
  obtain ⟨r0, r1⟩ := turnV_bd k b (bitN f 7)
  go_enter Try.func10, Try.ntmps10
  go_wp2_with fail
  refine (bit_any _ _ _ f0 f1 (by decide) (by decide)).mono ?_
  rintro e w1 ⟨rfl, hb1⟩
  go_wp2_with fail
  refine (refTurn_any _ _ _ _ k0 k7 h0 h1).mono ?_
  rintro e w2 ⟨rfl, hb2⟩
  go_wp2_with fail
  refine (bit_any _ _ _ r0 r1 (by decide) (by decide)).mono ?_
  rintro e w3 ⟨rfl, hb3⟩
  go_wp2_with fail
  refine (bit_any _ _ _ r0 r1 (by decide) (by decide)).mono ?_
  rintro e w4 ⟨rfl, hb4⟩
  go_wp2_with fail
  refine (bit_any _ _ _ r0 r1 (by decide) (by decide)).mono ?_
  rintro e w5 ⟨rfl, hb5⟩
  go_wp2_with fail
  refine (refEven_any _ _ r0 r1).mono ?_
  rintro e w6 ⟨rfl, hb6⟩
  go_wp2_with fail
  refine (flags_any _ _ _ _ _ _ _ _ _).mono ?_
  rintro e w7 ⟨rfl, hb7⟩
  go_wp2_with fail
  go_ret2
  exact ⟨rfl, below_step (below_step (below_step (below_step (below_step (below_step hb1 hb2) hb3) hb4) hb5) hb6) hb7⟩

set_option maxHeartbeats 1600000 in
theorem refAccT_any (k b f : Int) (w : World) (h0 : 0 ≤ b) (h1 : b ≤ 255) (f0 : 0 ≤ f) (f1 : f ≤ 255) :
    Calls Try.prog 11 #[.int .i64 k, .int .u8 b, .int .u8 f] w fun e w' => e = .returned (.tuple #[.int .u8 (accV4 k b f).1, .int .u8 (accV4 k b f).2]) ∧ Below w.heap.size w w' := by
  by_cases hl : k < 0
  · rw [accV4_out k b f (.inl hl)]
    have hd : decide (k < 0) = true := decide_eq_true hl
    go_enter Try.func11, Try.ntmps11
    go_wp2_with fail
    go_ret2
    exact ⟨rfl, Below.refl _ _⟩
  have hd : decide (k < 0) = false := decide_eq_false hl
  by_cases hh : 3 < k
  · rw [accV4_out k b f (.inr hh)]
    have he : decide (3 < k) = true := decide_eq_true hh
    go_enter Try.func11, Try.ntmps11
    go_wp2_with fail
    go_ret2
    exact ⟨rfl, Below.refl _ _⟩
  have he : decide (3 < k) = false := decide_eq_false hh
  have k0 : 0 ≤ k := by omega
  have k7 : k ≤ 7 := by omega
  rw [accV4_in k b f k0 (by omega)]
  have HT := fun w => refTurn_any k b (bitN f 7) w k0 k7 h0 h1
  obtain ⟨r0, r1⟩ := turnV_bd k b (bitN f 7)
  generalize (turnV k b (bitN f 7)).1 = r at *
  generalize (turnV k b (bitN f 7)).2 = o at *
  have HT := Lib.hid HT
  go_enter Try.func11, Try.ntmps11
  go_wp2_with fail
  refine (bit_any _ _ _ f0 f1 (by decide) (by decide)).mono ?_
  rintro e w1 ⟨rfl, hb1⟩
  go_wp2_with fail
  refine (HT.out _).mono ?_
  rintro e w2 ⟨rfl, hb2⟩
  go_wp2_with fail
  refine (bits_any _ _ f0 f1).mono ?_
  rintro e w3 ⟨v, rfl, hv, hb3⟩
  obtain ⟨g, cap, rfl, hg, hc, hm, hcell⟩ := bits_cells hv
  have hst : ∀ u u' : World, (fun w' => (w'.cell? ⟨g, 0, none⟩ = some (.bool (bitN f 0)) ∧ w'.cell? ⟨g, 1, none⟩ = some (.bool (bitN f 1)) ∧ w'.cell? ⟨g, 5, none⟩ = some (.bool (bitN f 5))) ∧ (g < w'.heap.size) ∧ Below w3.heap.size w3 w') u → Below u.heap.size u u' → (fun w' => (w'.cell? ⟨g, 0, none⟩ = some (.bool (bitN f 0)) ∧ w'.cell? ⟨g, 1, none⟩ = some (.bool (bitN f 1)) ∧ w'.cell? ⟨g, 5, none⟩ = some (.bool (bitN f 5))) ∧ (g < w'.heap.size) ∧ Below w3.heap.size w3 w') u' := by
    rintro u u' ⟨⟨c0, c1, c2⟩, kg, hB⟩ hb
    exact ⟨⟨(hb.cell kg).trans c0, (hb.cell kg).trans c1, (hb.cell kg).trans c2⟩, Nat.lt_of_lt_of_le kg hb.size, below_step hB hb⟩
  have hS0 : (fun w' => (w'.cell? ⟨g, 0, none⟩ = some (.bool (bitN f 0)) ∧ w'.cell? ⟨g, 1, none⟩ = some (.bool (bitN f 1)) ∧ w'.cell? ⟨g, 5, none⟩ = some (.bool (bitN f 5))) ∧ (g < w'.heap.size) ∧ Below w3.heap.size w3 w') w3.drew := ⟨⟨hcell 0 (by decide), hcell 1 (by decide), hcell 5 (by decide)⟩, hg, (Below.refl _ _).drew⟩
  have HST := Lib.hid hst
  clear hst hcell hv
  go_wp2_with fail
  go_region_held3 (fun w' => (w'.cell? ⟨g, 0, none⟩ = some (.bool (bitN f 0)) ∧ w'.cell? ⟨g, 1, none⟩ = some (.bool (bitN f 1)) ∧ w'.cell? ⟨g, 5, none⟩ = some (.bool (bitN f 5))) ∧ (g < w'.heap.size) ∧ Below w3.heap.size w3 w') (assumption) (first | (go_at_call 26; refine (bit_held HST.out _ _ _ r0 r1 (by decide) (by decide) (by assumption)).mono ?_; rintro e w' ⟨rfl, hSB⟩) | (go_at_call 27; refine (flags_held HST.out _ _ _ _ _ _ _ _ _ (by assumption)).mono ?_; rintro e w' ⟨rfl, hSF⟩))
  go_wp2_with fail
  go_ret2
  exact ⟨rfl, below_step (below_step (below_step hb1 hb2) hb3) hSF.2.2⟩

set_option maxHeartbeats 1600000 in
theorem refTest_any (n b yx f : Int) (w : World) (h0 : 0 ≤ b) (h1 : b ≤ 255) (y0 : 0 ≤ yx) (y1 : yx ≤ 255) (f0 : 0 ≤ f) (f1 : f ≤ 255) :
    Calls Try.prog 14 #[.int .i64 n, .int .u8 b, .int .u8 yx, .int .u8 f] w fun e w' => e = .returned (.int .u8 (testV n b yx f)) ∧ Below w.heap.size w w' := by
  by_cases hl : n < 0
  · rw [testV_out n b yx f (.inl hl)]
    have hd : decide (n < 0) = true := decide_eq_true hl
    go_enter Try.func14, Try.ntmps14
    go_wp2_with fail
    go_ret
    exact ⟨rfl, Below.refl _ _⟩
  have hd : decide (n < 0) = false := decide_eq_false hl
  by_cases hh : 7 < n
  · rw [testV_out n b yx f (.inr hh)]
    have he : decide (7 < n) = true := decide_eq_true hh
    go_enter Try.func14, Try.ntmps14
    go_wp2_with fail
    go_ret
    exact ⟨rfl, Below.refl _ _⟩
  have he : decide (7 < n) = false := decide_eq_false hh
  have n0 : 0 ≤ n := by omega
  have n7 : n ≤ 7 := by omega
  rw [testV_in n b yx f n0 n7]
  unfold testF
  generalize hon : bitN b (7 - n.toNat) = on
  have HB := Lib.hid hon
  clear hon
  cases on
  all_goals
    go_enter Try.func14, Try.ntmps14
    go_wp2_with fail
    refine (bit_is _ _ _ _ h0 h1 n0 n7 HB.out).mono ?_
    rintro e w1 ⟨rfl, hb1⟩
    go_wp2_with fail
    refine (bit_any _ _ _ y0 y1 (by decide) (by decide)).mono ?_
    rintro e w2 ⟨rfl, hb2⟩
    go_wp2_with fail
    refine (bit_any _ _ _ y0 y1 (by decide) (by decide)).mono ?_
    rintro e w3 ⟨rfl, hb3⟩
    go_wp2_with fail
    refine (bit_any _ _ _ f0 f1 (by decide) (by decide)).mono ?_
    rintro e w4 ⟨rfl, hb4⟩
    go_wp2_with fail
    refine (flags_any _ _ _ _ _ _ _ _ _).mono ?_
    rintro e w5 ⟨rfl, hb5⟩
    go_wp2_with fail
    go_ret
    exact ⟨rfl, below_step (below_step (below_step (below_step hb1 hb2) hb3) hb4) hb5⟩

set_option maxHeartbeats 1600000 in
theorem refPut_any (n b : Int) (o : Bool) (w : World) (h0 : 0 ≤ b) (h1 : b ≤ 255) :
    Calls Try.prog 16 #[.int .i64 n, .int .u8 b, .bool o] w fun e w' => e = .returned (.int .u8 (putV n b o)) ∧ Below w.heap.size w w' := by
  by_cases hl : n < 0
  · rw [putV_out n b o (.inl hl)]
    have hd : decide (n < 0) = true := decide_eq_true hl
    go_enter Try.func16, Try.ntmps16
    go_wp2_with fail
    go_ret
    exact ⟨rfl, Below.refl _ _⟩
  have hd : decide (n < 0) = false := decide_eq_false hl
  by_cases hh : 7 < n
  · rw [putV_out n b o (.inr hh)]
    have he : decide (7 < n) = true := decide_eq_true hh
    go_enter Try.func16, Try.ntmps16
    go_wp2_with fail
    go_ret
    exact ⟨rfl, Below.refl _ _⟩
  rcases eight_in n (by omega) (by omega) with rfl | rfl | rfl | rfl | rfl | rfl | rfl | rfl
  · clear hl hh hd
    have HP := Lib.hid (show byteOf ((bitsTo b 8).set 7 o) = putV 0 b o from rfl)
    have HL := Lib.hid (show ((bitsTo b 8).set 7 o).length = 8 from rfl)
    go_enter Try.func16, Try.ntmps16
    go_wp2_with fail
    refine (bits_own _ _ h0 h1).mono ?_
    rintro e w1 ⟨v, rfl, hown, hb1⟩
    obtain ⟨g, cap, rfl, hg, hlt⟩ := hown.form (by decide)
    have ck : w1.cell? ⟨g, 7, none⟩ = some (.bool (bitN b 7)) := (hown.cellAt 7 (by decide)).trans rfl
    have fk := hown.frozenAt 7
    have hown2 := (hown.stored 7 (.bool o)).1
    have hrow : RowAt (w1.setCell ⟨g, 7, none⟩ (.bool o)) (.slice (some ⟨g, 0, none⟩) 8 cap) (((bitsTo b 8).set 7 o).map Value.bool) := rowAt_of_own hown2 (by decide)
    have hb2 := hb1.setCell (p := ⟨g, 7, none⟩) hg (.bool o)
    clear hown hown2
    go_wp2_with fail
    refine (byte_is _ _ _ _ HL.out hrow HP.out).mono ?_
    rintro e w' ⟨rfl, rfl⟩
    go_wp2_with fail
    go_ret
    exact ⟨rfl, hb2⟩
  · clear hl hh hd
    have HP := Lib.hid (show byteOf ((bitsTo b 8).set 6 o) = putV 1 b o from rfl)
    have HL := Lib.hid (show ((bitsTo b 8).set 6 o).length = 8 from rfl)
    go_enter Try.func16, Try.ntmps16
    go_wp2_with fail
    refine (bits_own _ _ h0 h1).mono ?_
    rintro e w1 ⟨v, rfl, hown, hb1⟩
    obtain ⟨g, cap, rfl, hg, hlt⟩ := hown.form (by decide)
    have ck : w1.cell? ⟨g, 6, none⟩ = some (.bool (bitN b 6)) := (hown.cellAt 6 (by decide)).trans rfl
    have fk := hown.frozenAt 6
    have hown2 := (hown.stored 6 (.bool o)).1
    have hrow : RowAt (w1.setCell ⟨g, 6, none⟩ (.bool o)) (.slice (some ⟨g, 0, none⟩) 8 cap) (((bitsTo b 8).set 6 o).map Value.bool) := rowAt_of_own hown2 (by decide)
    have hb2 := hb1.setCell (p := ⟨g, 6, none⟩) hg (.bool o)
    clear hown hown2
    go_wp2_with fail
    refine (byte_is _ _ _ _ HL.out hrow HP.out).mono ?_
    rintro e w' ⟨rfl, rfl⟩
    go_wp2_with fail
    go_ret
    exact ⟨rfl, hb2⟩
  · clear hl hh hd
    have HP := Lib.hid (show byteOf ((bitsTo b 8).set 5 o) = putV 2 b o from rfl)
    have HL := Lib.hid (show ((bitsTo b 8).set 5 o).length = 8 from rfl)
    go_enter Try.func16, Try.ntmps16
    go_wp2_with fail
    refine (bits_own _ _ h0 h1).mono ?_
    rintro e w1 ⟨v, rfl, hown, hb1⟩
    obtain ⟨g, cap, rfl, hg, hlt⟩ := hown.form (by decide)
    have ck : w1.cell? ⟨g, 5, none⟩ = some (.bool (bitN b 5)) := (hown.cellAt 5 (by decide)).trans rfl
    have fk := hown.frozenAt 5
    have hown2 := (hown.stored 5 (.bool o)).1
    have hrow : RowAt (w1.setCell ⟨g, 5, none⟩ (.bool o)) (.slice (some ⟨g, 0, none⟩) 8 cap) (((bitsTo b 8).set 5 o).map Value.bool) := rowAt_of_own hown2 (by decide)
    have hb2 := hb1.setCell (p := ⟨g, 5, none⟩) hg (.bool o)
    clear hown hown2
    go_wp2_with fail
    refine (byte_is _ _ _ _ HL.out hrow HP.out).mono ?_
    rintro e w' ⟨rfl, rfl⟩
    go_wp2_with fail
    go_ret
    exact ⟨rfl, hb2⟩
  · clear hl hh hd
    have HP := Lib.hid (show byteOf ((bitsTo b 8).set 4 o) = putV 3 b o from rfl)
    have HL := Lib.hid (show ((bitsTo b 8).set 4 o).length = 8 from rfl)
    go_enter Try.func16, Try.ntmps16
    go_wp2_with fail
    refine (bits_own _ _ h0 h1).mono ?_
    rintro e w1 ⟨v, rfl, hown, hb1⟩
    obtain ⟨g, cap, rfl, hg, hlt⟩ := hown.form (by decide)
    have ck : w1.cell? ⟨g, 4, none⟩ = some (.bool (bitN b 4)) := (hown.cellAt 4 (by decide)).trans rfl
    have fk := hown.frozenAt 4
    have hown2 := (hown.stored 4 (.bool o)).1
    have hrow : RowAt (w1.setCell ⟨g, 4, none⟩ (.bool o)) (.slice (some ⟨g, 0, none⟩) 8 cap) (((bitsTo b 8).set 4 o).map Value.bool) := rowAt_of_own hown2 (by decide)
    have hb2 := hb1.setCell (p := ⟨g, 4, none⟩) hg (.bool o)
    clear hown hown2
    go_wp2_with fail
    refine (byte_is _ _ _ _ HL.out hrow HP.out).mono ?_
    rintro e w' ⟨rfl, rfl⟩
    go_wp2_with fail
    go_ret
    exact ⟨rfl, hb2⟩
  · clear hl hh hd
    have HP := Lib.hid (show byteOf ((bitsTo b 8).set 3 o) = putV 4 b o from rfl)
    have HL := Lib.hid (show ((bitsTo b 8).set 3 o).length = 8 from rfl)
    go_enter Try.func16, Try.ntmps16
    go_wp2_with fail
    refine (bits_own _ _ h0 h1).mono ?_
    rintro e w1 ⟨v, rfl, hown, hb1⟩
    obtain ⟨g, cap, rfl, hg, hlt⟩ := hown.form (by decide)
    have ck : w1.cell? ⟨g, 3, none⟩ = some (.bool (bitN b 3)) := (hown.cellAt 3 (by decide)).trans rfl
    have fk := hown.frozenAt 3
    have hown2 := (hown.stored 3 (.bool o)).1
    have hrow : RowAt (w1.setCell ⟨g, 3, none⟩ (.bool o)) (.slice (some ⟨g, 0, none⟩) 8 cap) (((bitsTo b 8).set 3 o).map Value.bool) := rowAt_of_own hown2 (by decide)
    have hb2 := hb1.setCell (p := ⟨g, 3, none⟩) hg (.bool o)
    clear hown hown2
    go_wp2_with fail
    refine (byte_is _ _ _ _ HL.out hrow HP.out).mono ?_
    rintro e w' ⟨rfl, rfl⟩
    go_wp2_with fail
    go_ret
    exact ⟨rfl, hb2⟩
  · clear hl hh hd
    have HP := Lib.hid (show byteOf ((bitsTo b 8).set 2 o) = putV 5 b o from rfl)
    have HL := Lib.hid (show ((bitsTo b 8).set 2 o).length = 8 from rfl)
    go_enter Try.func16, Try.ntmps16
    go_wp2_with fail
    refine (bits_own _ _ h0 h1).mono ?_
    rintro e w1 ⟨v, rfl, hown, hb1⟩
    obtain ⟨g, cap, rfl, hg, hlt⟩ := hown.form (by decide)
    have ck : w1.cell? ⟨g, 2, none⟩ = some (.bool (bitN b 2)) := (hown.cellAt 2 (by decide)).trans rfl
    have fk := hown.frozenAt 2
    have hown2 := (hown.stored 2 (.bool o)).1
    have hrow : RowAt (w1.setCell ⟨g, 2, none⟩ (.bool o)) (.slice (some ⟨g, 0, none⟩) 8 cap) (((bitsTo b 8).set 2 o).map Value.bool) := rowAt_of_own hown2 (by decide)
    have hb2 := hb1.setCell (p := ⟨g, 2, none⟩) hg (.bool o)
    clear hown hown2
    go_wp2_with fail
    refine (byte_is _ _ _ _ HL.out hrow HP.out).mono ?_
    rintro e w' ⟨rfl, rfl⟩
    go_wp2_with fail
    go_ret
    exact ⟨rfl, hb2⟩
  · clear hl hh hd
    have HP := Lib.hid (show byteOf ((bitsTo b 8).set 1 o) = putV 6 b o from rfl)
    have HL := Lib.hid (show ((bitsTo b 8).set 1 o).length = 8 from rfl)
    go_enter Try.func16, Try.ntmps16
    go_wp2_with fail
    refine (bits_own _ _ h0 h1).mono ?_
    rintro e w1 ⟨v, rfl, hown, hb1⟩
    obtain ⟨g, cap, rfl, hg, hlt⟩ := hown.form (by decide)
    have ck : w1.cell? ⟨g, 1, none⟩ = some (.bool (bitN b 1)) := (hown.cellAt 1 (by decide)).trans rfl
    have fk := hown.frozenAt 1
    have hown2 := (hown.stored 1 (.bool o)).1
    have hrow : RowAt (w1.setCell ⟨g, 1, none⟩ (.bool o)) (.slice (some ⟨g, 0, none⟩) 8 cap) (((bitsTo b 8).set 1 o).map Value.bool) := rowAt_of_own hown2 (by decide)
    have hb2 := hb1.setCell (p := ⟨g, 1, none⟩) hg (.bool o)
    clear hown hown2
    go_wp2_with fail
    refine (byte_is _ _ _ _ HL.out hrow HP.out).mono ?_
    rintro e w' ⟨rfl, rfl⟩
    go_wp2_with fail
    go_ret
    exact ⟨rfl, hb2⟩
  · clear hl hh hd
    have HP := Lib.hid (show byteOf ((bitsTo b 8).set 0 o) = putV 7 b o from rfl)
    have HL := Lib.hid (show ((bitsTo b 8).set 0 o).length = 8 from rfl)
    go_enter Try.func16, Try.ntmps16
    go_wp2_with fail
    refine (bits_own _ _ h0 h1).mono ?_
    rintro e w1 ⟨v, rfl, hown, hb1⟩
    obtain ⟨g, cap, rfl, hg, hlt⟩ := hown.form (by decide)
    have ck : w1.cell? ⟨g, 0, none⟩ = some (.bool (bitN b 0)) := (hown.cellAt 0 (by decide)).trans rfl
    have fk := hown.frozenAt 0
    have hown2 := (hown.stored 0 (.bool o)).1
    have hrow : RowAt (w1.setCell ⟨g, 0, none⟩ (.bool o)) (.slice (some ⟨g, 0, none⟩) 8 cap) (((bitsTo b 8).set 0 o).map Value.bool) := rowAt_of_own hown2 (by decide)
    have hb2 := hb1.setCell (p := ⟨g, 0, none⟩) hg (.bool o)
    clear hown hown2
    go_wp2_with fail
    refine (byte_is _ _ _ _ HL.out hrow HP.out).mono ?_
    rintro e w' ⟨rfl, rfl⟩
    go_wp2_with fail
    go_ret
    exact ⟨rfl, hb2⟩

end Go.Proofs.Ytcafoomnfekglaa
