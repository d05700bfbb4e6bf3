/- The document's Join: its contract. -/
import Derived.Test.YtndnadcmekjmnaaAluRefDaa
namespace Go.Proofs.Ytndnadcmekjmnaa
open Go.RowKit

def jnTo (j : Nat → Bool) (n : Nat) : List Bool := (List.range n).map j
theorem jnTo_succ (j : Nat → Bool) (k : Nat) : jnTo j (k + 1) = jnTo j k ++ [j k] := by simp [jnTo, List.range_succ]
theorem jnTo_length (j : Nat → Bool) (k : Nat) : (jnTo j k).length = k := by simp [jnTo]
theorem jnTo_at (j : Nat → Bool) (i : Nat) (h : i < (jnTo j 8).length) : (jnTo j 8)[i] = j i := by simp [jnTo]
theorem jn_cells {w : World} {v : Value} {j : Nat → Bool} (h : RowAt w v ((jnTo j 8).map Value.bool)) :
    ∃ g cap, v = .slice (some ⟨g, 0, none⟩) 8 cap ∧ g < w.heap.size ∧ 8 ≤ cap ∧ cap ≤ maxLen ∧ ∀ i, i < 8 → w.cell? ⟨g, i, none⟩ = some (.bool (j i)) := by
  obtain ⟨g, cap, hv, hg, hc, hm, hcell⟩ := h.bools
  simp only [jnTo_length] at hv hc
  exact ⟨g, cap, hv, hg, hc, hm, fun i hi => by rw [hcell i (by rw [jnTo_length]; exact hi), jnTo_at]⟩

set_option maxHeartbeats 3200000 in
theorem join4_any (a b : Int) (w : World) (a0 : 0 ≤ a) (a1 : a ≤ 255) (b0 : 0 ≤ b) (b1 : b ≤ 255) :
    Calls Try.prog 22 #[.int .i64 4, .int .u8 a, .int .u8 b] w fun e w' => e = .returned (.tuple #[.int .u8 (andR a b), .int .u8 (joinF (andR a b) true)]) ∧ Below w.heap.size w w' := by
  obtain ⟨r0, r1⟩ := andR_bd a b
  have HJ := Lib.hid (show ∀ i, i < 8 → bitN (andR a b) i = (bitN a i && bitN b i) from fun i hi => bit8 _ i hi)
  have HR := Lib.hid (show byteOf (jnTo (fun i => bitN a i && bitN b i) 8) = andR a b from rfl)
  go_enter Try.func22, Try.ntmps22
  go_wp2_with fail
  refine (bits_any _ _ a0 a1).mono ?_
  rintro e w1 ⟨v, rfl, hv, hb1⟩
  obtain ⟨g, cap, rfl, hg, hc, hm, hcell⟩ := bits_cells hv
  have HC := Lib.hid hcell
  clear hv hcell
  go_wp2_with fail
  refine (bits_any _ _ b0 b1).mono ?_
  rintro e w2 ⟨v, rfl, hv, hb2⟩
  obtain ⟨g2, cap2, rfl, hg2, hc2, hm2, hcell⟩ := bits_cells hv
  have HC1 := Lib.hid (fun i (hi : i < 8) => (hb2.cell (p := ⟨g, i, none⟩) hg).trans (HC.out i hi))
  have HC2 := Lib.hid hcell
  clear hv hcell HC
  have hgw : g < w2.heap.size := Nat.lt_of_lt_of_le hg hb2.size
  have hb := below_step hb1 hb2
  clear hb1 hb2
  go_wp2_with fail
  go_loopw [10, 11, 12] (fun v i _ wr => ∃ k : Nat, k ≤ 8 ∧ i = .int .i64 k ∧ wr.ownsRow w2.heap.size 4 1 v k ((jnTo (fun i => bitN a i && bitN b i) k).map Value.bool) ∧ Below w2.heap.size w2 wr) (fun _ i _ _ => 8 - (intOf i).toNat)
  case atStart => exact ⟨0, by omega, rfl, World.ownsRow_nil _ _ _ _, Below.refl _ _⟩
  case round =>
    obtain ⟨k, hk, rfl, hown, hnx⟩ := hrel
    have hsz := hnx.size
    by_cases hlt : k < 8
    · have ca := (hnx.cell (p := ⟨g, k, none⟩) hgw).trans (HC1.out k hlt)
      have cb := (hnx.cell (p := ⟨g2, k, none⟩) hg2).trans (HC2.out k hlt)
      have HS := Lib.hid (jnTo_succ (fun i => bitN a i && bitN b i) k)
      have HL := Lib.hid (jnTo_length (fun i => bitN a i && bitN b i) k)
      generalize hx : bitN a k = x at ca HS
      generalize hy : bitN b k = y at cb HS
      clear hx hy
      cases x
      · cases y
        · go_wp2_with (at_builtin; refine wpList_append_one w2.heap.size 4 47 infoBool Try.underlying47 rfl rfl _ _ rfl _ _ _ rfl hown (.bool false) rfl rfl (by decide) (by omega) hsz ?_)
          intro v' w3 hown1 hb3
          have hnx1 := hnx.trans hb3
          clear hown hb3 hnx
          go_wp2_with fail
          go_roundw
          case rel => exact ⟨k + 1, by omega, by go_num, by rw [HS.out]; simpa using hown1, hnx1⟩
          case measure => simp [intOf]; omega
        · go_wp2_with (at_builtin; refine wpList_append_one w2.heap.size 4 47 infoBool Try.underlying47 rfl rfl _ _ rfl _ _ _ rfl hown (.bool false) rfl rfl (by decide) (by omega) hsz ?_)
          intro v' w3 hown1 hb3
          have hnx1 := hnx.trans hb3
          clear hown hb3 hnx
          go_wp2_with fail
          go_roundw
          case rel => exact ⟨k + 1, by omega, by go_num, by rw [HS.out]; simpa using hown1, hnx1⟩
          case measure => simp [intOf]; omega
      · cases y
        · go_wp2_with (at_builtin; refine wpList_append_one w2.heap.size 4 47 infoBool Try.underlying47 rfl rfl _ _ rfl _ _ _ rfl hown (.bool false) rfl rfl (by decide) (by omega) hsz ?_)
          intro v' w3 hown1 hb3
          have hnx1 := hnx.trans hb3
          clear hown hb3 hnx
          go_wp2_with fail
          go_roundw
          case rel => exact ⟨k + 1, by omega, by go_num, by rw [HS.out]; simpa using hown1, hnx1⟩
          case measure => simp [intOf]; omega
        · go_wp2_with (at_builtin; refine wpList_append_one w2.heap.size 4 47 infoBool Try.underlying47 rfl rfl _ _ rfl _ _ _ rfl hown (.bool true) rfl rfl (by decide) (by omega) hsz ?_)
          intro v' w3 hown1 hb3
          have hnx1 := hnx.trans hb3
          clear hown hb3 hnx
          go_wp2_with fail
          go_roundw
          case rel => exact ⟨k + 1, by omega, by go_num, by rw [HS.out]; simpa using hown1, hnx1⟩
          case measure => simp [intOf]; omega
    · obtain rfl : k = 8 := by omega
      have hrow := rowAt_of_own hown (by omega)
      have HROW := Lib.hid hrow
      obtain ⟨g3, cap3, rfl, hg3, hc3, hm3, hcell⟩ := jn_cells hrow
      have hq0 := hcell 0 (by decide)
      have hq2 := hcell 2 (by decide)
      have hq4 := hcell 4 (by decide)
      simp only [← HJ.out 0 (by decide)] at hq0
      simp only [← HJ.out 2 (by decide)] at hq2
      simp only [← HJ.out 4 (by decide)] at hq4
      have hst : ∀ u u' : World, (fun w' => (w'.cell? ⟨g3, 0, none⟩ = some (.bool (bitN (andR a b) 0)) ∧ w'.cell? ⟨g3, 2, none⟩ = some (.bool (bitN (andR a b) 2)) ∧ w'.cell? ⟨g3, 4, none⟩ = some (.bool (bitN (andR a b) 4))) ∧ g3 < w'.heap.size ∧ Below wr.heap.size wr w') u → Below u.heap.size u u' → (fun w' => (w'.cell? ⟨g3, 0, none⟩ = some (.bool (bitN (andR a b) 0)) ∧ w'.cell? ⟨g3, 2, none⟩ = some (.bool (bitN (andR a b) 2)) ∧ w'.cell? ⟨g3, 4, none⟩ = some (.bool (bitN (andR a b) 4))) ∧ g3 < w'.heap.size ∧ Below wr.heap.size wr w') u' := by
        rintro u u' ⟨⟨c0, c1, c2⟩, kg, hB⟩ hb
        exact ⟨⟨(hb.cell kg).trans c0, (hb.cell kg).trans c1, (hb.cell kg).trans c2⟩, Nat.lt_of_lt_of_le kg hb.size, below_step hB hb⟩
      have hS0 : (fun w' => (w'.cell? ⟨g3, 0, none⟩ = some (.bool (bitN (andR a b) 0)) ∧ w'.cell? ⟨g3, 2, none⟩ = some (.bool (bitN (andR a b) 2)) ∧ w'.cell? ⟨g3, 4, none⟩ = some (.bool (bitN (andR a b) 4))) ∧ g3 < w'.heap.size ∧ Below wr.heap.size wr w') wr.drew := ⟨⟨hq0, hq2, hq4⟩, hg3, (Below.refl _ _).drew⟩
      have HST := Lib.hid hst
      have HOWN := Lib.hid hown
      clear hst hcell hown hrow
      go_wp2_with fail
      refine (byte_any _ _ _ (jnTo_length _ _) HROW.out).mono ?_
      rintro e w' ⟨rfl, rfl⟩
      rw [HR.out]
      go_wp2_with fail
      go_region_held3 (fun w' => (w'.cell? ⟨g3, 0, none⟩ = some (.bool (bitN (andR a b) 0)) ∧ w'.cell? ⟨g3, 2, none⟩ = some (.bool (bitN (andR a b) 2)) ∧ w'.cell? ⟨g3, 4, none⟩ = some (.bool (bitN (andR a b) 4))) ∧ g3 < w'.heap.size ∧ Below wr.heap.size wr w') (assumption) (first | (go_at_call 49; refine (refEven_held HST.out _ _ r0 r1 (by assumption)).mono ?_; rintro e w' ⟨rfl, hSE⟩) | (go_at_call 44; refine (flags_held HST.out _ _ _ _ _ _ _ _ _ (by assumption)).mono ?_; rintro e w' ⟨rfl, hSF⟩))
      go_wp2_with fail
      go_ret2
      exact ⟨rfl, below_step hb (hnx.trans (hSF.2.2.mono hsz))⟩

set_option maxHeartbeats 3200000 in
theorem join5_any (a b : Int) (w : World) (a0 : 0 ≤ a) (a1 : a ≤ 255) (b0 : 0 ≤ b) (b1 : b ≤ 255) :
    Calls Try.prog 22 #[.int .i64 5, .int .u8 a, .int .u8 b] w fun e w' => e = .returned (.tuple #[.int .u8 (xorR a b), .int .u8 (joinF (xorR a b) false)]) ∧ Below w.heap.size w w' := by
  obtain ⟨r0, r1⟩ := xorR_bd a b
  have HJ := Lib.hid (show ∀ i, i < 8 → bitN (xorR a b) i = (bitN a i ^^ bitN b i) from fun i hi => bit8 _ i hi)
  have HR := Lib.hid (show byteOf (jnTo (fun i => bitN a i ^^ bitN b i) 8) = xorR a b from rfl)
  go_enter Try.func22, Try.ntmps22
  go_wp2_with fail
  refine (bits_any _ _ a0 a1).mono ?_
  rintro e w1 ⟨v, rfl, hv, hb1⟩
  obtain ⟨g, cap, rfl, hg, hc, hm, hcell⟩ := bits_cells hv
  have HC := Lib.hid hcell
  clear hv hcell
  go_wp2_with fail
  refine (bits_any _ _ b0 b1).mono ?_
  rintro e w2 ⟨v, rfl, hv, hb2⟩
  obtain ⟨g2, cap2, rfl, hg2, hc2, hm2, hcell⟩ := bits_cells hv
  have HC1 := Lib.hid (fun i (hi : i < 8) => (hb2.cell (p := ⟨g, i, none⟩) hg).trans (HC.out i hi))
  have HC2 := Lib.hid hcell
  clear hv hcell HC
  have hgw : g < w2.heap.size := Nat.lt_of_lt_of_le hg hb2.size
  have hb := below_step hb1 hb2
  clear hb1 hb2
  go_wp2_with fail
  go_loopw [10, 11, 12] (fun v i _ wr => ∃ k : Nat, k ≤ 8 ∧ i = .int .i64 k ∧ wr.ownsRow w2.heap.size 4 1 v k ((jnTo (fun i => bitN a i ^^ bitN b i) k).map Value.bool) ∧ Below w2.heap.size w2 wr) (fun _ i _ _ => 8 - (intOf i).toNat)
  case atStart => exact ⟨0, by omega, rfl, World.ownsRow_nil _ _ _ _, Below.refl _ _⟩
  case round =>
    obtain ⟨k, hk, rfl, hown, hnx⟩ := hrel
    have hsz := hnx.size
    by_cases hlt : k < 8
    · have ca := (hnx.cell (p := ⟨g, k, none⟩) hgw).trans (HC1.out k hlt)
      have cb := (hnx.cell (p := ⟨g2, k, none⟩) hg2).trans (HC2.out k hlt)
      have HS := Lib.hid (jnTo_succ (fun i => bitN a i ^^ bitN b i) k)
      have HL := Lib.hid (jnTo_length (fun i => bitN a i ^^ bitN b i) k)
      generalize hx : bitN a k = x at ca HS
      generalize hy : bitN b k = y at cb HS
      clear hx hy
      cases x
      · cases y
        · go_wp2_with fail
          go_region_held3 (fun w' => w'.cell? ⟨g, k, none⟩ = some (.bool false) ∧ w'.cell? ⟨g2, k, none⟩ = some (.bool false)) (go_keep) (fail)
          have hnx := hnx.drew
          have hown := hown.drew
          have hsz : w2.heap.size ≤ wr.drew.heap.size := hsz
          generalize wr.drew = wr at *
          go_wp2_with (at_builtin; refine wpList_append_one w2.heap.size 4 47 infoBool Try.underlying47 rfl rfl _ _ rfl _ _ _ rfl hown (.bool false) rfl rfl (by decide) (by omega) hsz ?_)
          intro v' w3 hown1 hb3
          have hnx1 := hnx.trans hb3
          clear hown hb3 hnx
          go_wp2_with fail
          go_roundw
          case rel => exact ⟨k + 1, by omega, by go_num, by rw [HS.out]; simpa using hown1, hnx1⟩
          case measure => simp [intOf]; omega
        · go_wp2_with fail
          go_region_held3 (fun w' => w'.cell? ⟨g, k, none⟩ = some (.bool false) ∧ w'.cell? ⟨g2, k, none⟩ = some (.bool true)) (go_keep) (fail)
          have hnx := hnx.drew
          have hown := hown.drew
          have hsz : w2.heap.size ≤ wr.drew.heap.size := hsz
          generalize wr.drew = wr at *
          go_wp2_with (at_builtin; refine wpList_append_one w2.heap.size 4 47 infoBool Try.underlying47 rfl rfl _ _ rfl _ _ _ rfl hown (.bool true) rfl rfl (by decide) (by omega) hsz ?_)
          intro v' w3 hown1 hb3
          have hnx1 := hnx.trans hb3
          clear hown hb3 hnx
          go_wp2_with fail
          go_roundw
          case rel => exact ⟨k + 1, by omega, by go_num, by rw [HS.out]; simpa using hown1, hnx1⟩
          case measure => simp [intOf]; omega
      · cases y
        · go_wp2_with fail
          go_region_held3 (fun w' => w'.cell? ⟨g, k, none⟩ = some (.bool true) ∧ w'.cell? ⟨g2, k, none⟩ = some (.bool false)) (go_keep) (fail)
          have hnx := hnx.drew
          have hown := hown.drew
          have hsz : w2.heap.size ≤ wr.drew.heap.size := hsz
          generalize wr.drew = wr at *
          go_wp2_with (at_builtin; refine wpList_append_one w2.heap.size 4 47 infoBool Try.underlying47 rfl rfl _ _ rfl _ _ _ rfl hown (.bool true) rfl rfl (by decide) (by omega) hsz ?_)
          intro v' w3 hown1 hb3
          have hnx1 := hnx.trans hb3
          clear hown hb3 hnx
          go_wp2_with fail
          go_roundw
          case rel => exact ⟨k + 1, by omega, by go_num, by rw [HS.out]; simpa using hown1, hnx1⟩
          case measure => simp [intOf]; omega
        · go_wp2_with fail
          go_region_held3 (fun w' => w'.cell? ⟨g, k, none⟩ = some (.bool true) ∧ w'.cell? ⟨g2, k, none⟩ = some (.bool true)) (go_keep) (fail)
          have hnx := hnx.drew
          have hown := hown.drew
          have hsz : w2.heap.size ≤ wr.drew.heap.size := hsz
          generalize wr.drew = wr at *
          go_wp2_with (at_builtin; refine wpList_append_one w2.heap.size 4 47 infoBool Try.underlying47 rfl rfl _ _ rfl _ _ _ rfl hown (.bool false) rfl rfl (by decide) (by omega) hsz ?_)
          intro v' w3 hown1 hb3
          have hnx1 := hnx.trans hb3
          clear hown hb3 hnx
          go_wp2_with fail
          go_roundw
          case rel => exact ⟨k + 1, by omega, by go_num, by rw [HS.out]; simpa using hown1, hnx1⟩
          case measure => simp [intOf]; omega
    · obtain rfl : k = 8 := by omega
      have hrow := rowAt_of_own hown (by omega)
      have HROW := Lib.hid hrow
      obtain ⟨g3, cap3, rfl, hg3, hc3, hm3, hcell⟩ := jn_cells hrow
      have hq0 := hcell 0 (by decide)
      have hq2 := hcell 2 (by decide)
      have hq4 := hcell 4 (by decide)
      simp only [← HJ.out 0 (by decide)] at hq0
      simp only [← HJ.out 2 (by decide)] at hq2
      simp only [← HJ.out 4 (by decide)] at hq4
      have hst : ∀ u u' : World, (fun w' => (w'.cell? ⟨g3, 0, none⟩ = some (.bool (bitN (xorR a b) 0)) ∧ w'.cell? ⟨g3, 2, none⟩ = some (.bool (bitN (xorR a b) 2)) ∧ w'.cell? ⟨g3, 4, none⟩ = some (.bool (bitN (xorR a b) 4))) ∧ g3 < w'.heap.size ∧ Below wr.heap.size wr w') u → Below u.heap.size u u' → (fun w' => (w'.cell? ⟨g3, 0, none⟩ = some (.bool (bitN (xorR a b) 0)) ∧ w'.cell? ⟨g3, 2, none⟩ = some (.bool (bitN (xorR a b) 2)) ∧ w'.cell? ⟨g3, 4, none⟩ = some (.bool (bitN (xorR a b) 4))) ∧ g3 < w'.heap.size ∧ Below wr.heap.size wr w') u' := by
        rintro u u' ⟨⟨c0, c1, c2⟩, kg, hB⟩ hb
        exact ⟨⟨(hb.cell kg).trans c0, (hb.cell kg).trans c1, (hb.cell kg).trans c2⟩, Nat.lt_of_lt_of_le kg hb.size, below_step hB hb⟩
      have hS0 : (fun w' => (w'.cell? ⟨g3, 0, none⟩ = some (.bool (bitN (xorR a b) 0)) ∧ w'.cell? ⟨g3, 2, none⟩ = some (.bool (bitN (xorR a b) 2)) ∧ w'.cell? ⟨g3, 4, none⟩ = some (.bool (bitN (xorR a b) 4))) ∧ g3 < w'.heap.size ∧ Below wr.heap.size wr w') wr.drew := ⟨⟨hq0, hq2, hq4⟩, hg3, (Below.refl _ _).drew⟩
      have HST := Lib.hid hst
      have HOWN := Lib.hid hown
      clear hst hcell hown hrow
      go_wp2_with fail
      refine (byte_any _ _ _ (jnTo_length _ _) HROW.out).mono ?_
      rintro e w' ⟨rfl, rfl⟩
      rw [HR.out]
      go_wp2_with fail
      go_region_held3 (fun w' => (w'.cell? ⟨g3, 0, none⟩ = some (.bool (bitN (xorR a b) 0)) ∧ w'.cell? ⟨g3, 2, none⟩ = some (.bool (bitN (xorR a b) 2)) ∧ w'.cell? ⟨g3, 4, none⟩ = some (.bool (bitN (xorR a b) 4))) ∧ g3 < w'.heap.size ∧ Below wr.heap.size wr w') (assumption) (first | (go_at_call 49; refine (refEven_held HST.out _ _ r0 r1 (by assumption)).mono ?_; rintro e w' ⟨rfl, hSE⟩) | (go_at_call 44; refine (flags_held HST.out _ _ _ _ _ _ _ _ _ (by assumption)).mono ?_; rintro e w' ⟨rfl, hSF⟩))
      go_wp2_with fail
      go_ret2
      exact ⟨rfl, below_step hb (hnx.trans (hSF.2.2.mono hsz))⟩

set_option maxHeartbeats 3200000 in
theorem join6_any (a b : Int) (w : World) (a0 : 0 ≤ a) (a1 : a ≤ 255) (b0 : 0 ≤ b) (b1 : b ≤ 255) :
    Calls Try.prog 22 #[.int .i64 6, .int .u8 a, .int .u8 b] w fun e w' => e = .returned (.tuple #[.int .u8 (orR a b), .int .u8 (joinF (orR a b) false)]) ∧ Below w.heap.size w w' := by
  obtain ⟨r0, r1⟩ := orR_bd a b
  have HJ := Lib.hid (show ∀ i, i < 8 → bitN (orR a b) i = (bitN a i || bitN b i) from fun i hi => bit8 _ i hi)
  have HR := Lib.hid (show byteOf (jnTo (fun i => bitN a i || bitN b i) 8) = orR a b from rfl)
  go_enter Try.func22, Try.ntmps22
  go_wp2_with fail
  refine (bits_any _ _ a0 a1).mono ?_
  rintro e w1 ⟨v, rfl, hv, hb1⟩
  obtain ⟨g, cap, rfl, hg, hc, hm, hcell⟩ := bits_cells hv
  have HC := Lib.hid hcell
  clear hv hcell
  go_wp2_with fail
  refine (bits_any _ _ b0 b1).mono ?_
  rintro e w2 ⟨v, rfl, hv, hb2⟩
  obtain ⟨g2, cap2, rfl, hg2, hc2, hm2, hcell⟩ := bits_cells hv
  have HC1 := Lib.hid (fun i (hi : i < 8) => (hb2.cell (p := ⟨g, i, none⟩) hg).trans (HC.out i hi))
  have HC2 := Lib.hid hcell
  clear hv hcell HC
  have hgw : g < w2.heap.size := Nat.lt_of_lt_of_le hg hb2.size
  have hb := below_step hb1 hb2
  clear hb1 hb2
  go_wp2_with fail
  go_loopw [10, 11, 12] (fun v i _ wr => ∃ k : Nat, k ≤ 8 ∧ i = .int .i64 k ∧ wr.ownsRow w2.heap.size 4 1 v k ((jnTo (fun i => bitN a i || bitN b i) k).map Value.bool) ∧ Below w2.heap.size w2 wr) (fun _ i _ _ => 8 - (intOf i).toNat)
  case atStart => exact ⟨0, by omega, rfl, World.ownsRow_nil _ _ _ _, Below.refl _ _⟩
  case round =>
    obtain ⟨k, hk, rfl, hown, hnx⟩ := hrel
    have hsz := hnx.size
    by_cases hlt : k < 8
    · have ca := (hnx.cell (p := ⟨g, k, none⟩) hgw).trans (HC1.out k hlt)
      have cb := (hnx.cell (p := ⟨g2, k, none⟩) hg2).trans (HC2.out k hlt)
      have HS := Lib.hid (jnTo_succ (fun i => bitN a i || bitN b i) k)
      have HL := Lib.hid (jnTo_length (fun i => bitN a i || bitN b i) k)
      generalize hx : bitN a k = x at ca HS
      generalize hy : bitN b k = y at cb HS
      clear hx hy
      cases x
      · cases y
        · go_wp2_with (at_builtin; refine wpList_append_one w2.heap.size 4 47 infoBool Try.underlying47 rfl rfl _ _ rfl _ _ _ rfl hown (.bool false) rfl rfl (by decide) (by omega) hsz ?_)
          intro v' w3 hown1 hb3
          have hnx1 := hnx.trans hb3
          clear hown hb3 hnx
          go_wp2_with fail
          go_roundw
          case rel => exact ⟨k + 1, by omega, by go_num, by rw [HS.out]; simpa using hown1, hnx1⟩
          case measure => simp [intOf]; omega
        · go_wp2_with (at_builtin; refine wpList_append_one w2.heap.size 4 47 infoBool Try.underlying47 rfl rfl _ _ rfl _ _ _ rfl hown (.bool true) rfl rfl (by decide) (by omega) hsz ?_)
          intro v' w3 hown1 hb3
          have hnx1 := hnx.trans hb3
          clear hown hb3 hnx
          go_wp2_with fail
          go_roundw
          case rel => exact ⟨k + 1, by omega, by go_num, by rw [HS.out]; simpa using hown1, hnx1⟩
          case measure => simp [intOf]; omega
      · cases y
        · go_wp2_with (at_builtin; refine wpList_append_one w2.heap.size 4 47 infoBool Try.underlying47 rfl rfl _ _ rfl _ _ _ rfl hown (.bool true) rfl rfl (by decide) (by omega) hsz ?_)
          intro v' w3 hown1 hb3
          have hnx1 := hnx.trans hb3
          clear hown hb3 hnx
          go_wp2_with fail
          go_roundw
          case rel => exact ⟨k + 1, by omega, by go_num, by rw [HS.out]; simpa using hown1, hnx1⟩
          case measure => simp [intOf]; omega
        · go_wp2_with (at_builtin; refine wpList_append_one w2.heap.size 4 47 infoBool Try.underlying47 rfl rfl _ _ rfl _ _ _ rfl hown (.bool true) rfl rfl (by decide) (by omega) hsz ?_)
          intro v' w3 hown1 hb3
          have hnx1 := hnx.trans hb3
          clear hown hb3 hnx
          go_wp2_with fail
          go_roundw
          case rel => exact ⟨k + 1, by omega, by go_num, by rw [HS.out]; simpa using hown1, hnx1⟩
          case measure => simp [intOf]; omega
    · obtain rfl : k = 8 := by omega
      have hrow := rowAt_of_own hown (by omega)
      have HROW := Lib.hid hrow
      obtain ⟨g3, cap3, rfl, hg3, hc3, hm3, hcell⟩ := jn_cells hrow
      have hq0 := hcell 0 (by decide)
      have hq2 := hcell 2 (by decide)
      have hq4 := hcell 4 (by decide)
      simp only [← HJ.out 0 (by decide)] at hq0
      simp only [← HJ.out 2 (by decide)] at hq2
      simp only [← HJ.out 4 (by decide)] at hq4
      have hst : ∀ u u' : World, (fun w' => (w'.cell? ⟨g3, 0, none⟩ = some (.bool (bitN (orR a b) 0)) ∧ w'.cell? ⟨g3, 2, none⟩ = some (.bool (bitN (orR a b) 2)) ∧ w'.cell? ⟨g3, 4, none⟩ = some (.bool (bitN (orR a b) 4))) ∧ g3 < w'.heap.size ∧ Below wr.heap.size wr w') u → Below u.heap.size u u' → (fun w' => (w'.cell? ⟨g3, 0, none⟩ = some (.bool (bitN (orR a b) 0)) ∧ w'.cell? ⟨g3, 2, none⟩ = some (.bool (bitN (orR a b) 2)) ∧ w'.cell? ⟨g3, 4, none⟩ = some (.bool (bitN (orR a b) 4))) ∧ g3 < w'.heap.size ∧ Below wr.heap.size wr w') u' := by
        rintro u u' ⟨⟨c0, c1, c2⟩, kg, hB⟩ hb
        exact ⟨⟨(hb.cell kg).trans c0, (hb.cell kg).trans c1, (hb.cell kg).trans c2⟩, Nat.lt_of_lt_of_le kg hb.size, below_step hB hb⟩
      have hS0 : (fun w' => (w'.cell? ⟨g3, 0, none⟩ = some (.bool (bitN (orR a b) 0)) ∧ w'.cell? ⟨g3, 2, none⟩ = some (.bool (bitN (orR a b) 2)) ∧ w'.cell? ⟨g3, 4, none⟩ = some (.bool (bitN (orR a b) 4))) ∧ g3 < w'.heap.size ∧ Below wr.heap.size wr w') wr.drew := ⟨⟨hq0, hq2, hq4⟩, hg3, (Below.refl _ _).drew⟩
      have HST := Lib.hid hst
      have HOWN := Lib.hid hown
      clear hst hcell hown hrow
      go_wp2_with fail
      refine (byte_any _ _ _ (jnTo_length _ _) HROW.out).mono ?_
      rintro e w' ⟨rfl, rfl⟩
      rw [HR.out]
      go_wp2_with fail
      go_region_held3 (fun w' => (w'.cell? ⟨g3, 0, none⟩ = some (.bool (bitN (orR a b) 0)) ∧ w'.cell? ⟨g3, 2, none⟩ = some (.bool (bitN (orR a b) 2)) ∧ w'.cell? ⟨g3, 4, none⟩ = some (.bool (bitN (orR a b) 4))) ∧ g3 < w'.heap.size ∧ Below wr.heap.size wr w') (assumption) (first | (go_at_call 49; refine (refEven_held HST.out _ _ r0 r1 (by assumption)).mono ?_; rintro e w' ⟨rfl, hSE⟩) | (go_at_call 44; refine (flags_held HST.out _ _ _ _ _ _ _ _ _ (by assumption)).mono ?_; rintro e w' ⟨rfl, hSF⟩))
      go_wp2_with fail
      go_ret2
      exact ⟨rfl, below_step hb (hnx.trans (hSF.2.2.mono hsz))⟩

end Go.Proofs.Ytndnadcmekjmnaa
