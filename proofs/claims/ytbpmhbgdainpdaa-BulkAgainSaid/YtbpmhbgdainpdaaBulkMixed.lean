/- The document's mixed and Port: their contracts. -/
import Derived.Test.YtbpmhbgdainpdaaBulkMath
import Derived.Test.YtbpmhbgdainpdaaFlagHeld
import Derived.Test.YtbpmhbgdainpdaaAppendRow
namespace Go.Proofs.Ytbpmhbgdainpdaa
open Go.RowKit

def mxTo (j : Nat → Bool) (n : Nat) : List Bool := (List.range n).map j
theorem mxTo_succ (j : Nat → Bool) (k : Nat) : mxTo j (k + 1) = mxTo j k ++ [j k] := by simp [mxTo, List.range_succ]
theorem mxTo_length (j : Nat → Bool) (k : Nat) : (mxTo j k).length = k := by simp [mxTo]

set_option maxHeartbeats 1600000 in
theorem mixed_any (n a b : Int) (w : World) (n0 : 0 ≤ n) (n1 : n ≤ 510) (hm : n % 8 = a) (b0 : 0 ≤ b) (b1 : b ≤ 255) :
    Calls Try.prog 30 #[.int .i64 n, .int .u8 b] w fun e w' => e = .returned (.bool (evenB (xorR a b))) ∧ Below w.heap.size w w' := by
  have a0 : 0 ≤ a := by omega
  have a1 : a ≤ 255 := by omega
  obtain ⟨r0, r1⟩ := xorR_bd a b
  have HR := Lib.hid (show byteOf (mxTo (fun i => bitN a i ^^ bitN b i) 8) = xorR a b from rfl)
  go_enter Try.func30, Try.ntmps30
  go_wp2_with fail
  refine (bits_any _ _ a0 a1).mono ?_
  rintro e w1 ⟨v, rfl, hv, hb1⟩
  obtain ⟨g, cap, rfl, hg, hc, hm1, hcell⟩ := bits_cells hv
  have HC := Lib.hid hcell
  clear hv hcell
  go_wp2_with fail
  refine (bits_any _ _ b0 b1).mono ?_
  rintro e w2 ⟨v, rfl, hv, hb2⟩
  obtain ⟨g2, cap2, rfl, hg2, hc2, hm2, hcell⟩ := bits_cells hv
  have HC1 := Lib.hid (fun i (hi : i < 8) => (hb2.cell (p := ⟨g, i, none⟩) hg).trans (HC.out i hi))
  have HC2 := Lib.hid hcell
  clear hv hcell HC
  have hgw : g < w2.heap.size := Nat.lt_of_lt_of_le hg hb2.size
  have hb := below_step hb1 hb2
  clear hb1 hb2
  go_wp2_with fail
  go_loopw [7, 8] (fun v i wr => ∃ k : Nat, k ≤ 8 ∧ i = .int .i64 k ∧ wr.ownsRow w2.heap.size 4 1 v k ((mxTo (fun i => bitN a i ^^ bitN b i) k).map Value.bool) ∧ Below w2.heap.size w2 wr) (fun _ i _ => 8 - (intOf i).toNat)
  case atStart => exact ⟨0, by omega, rfl, World.ownsRow_nil _ _ _ _, Below.refl _ _⟩
  case round =>
    obtain ⟨k, hk, rfl, hown, hnx⟩ := hrel
    have hsz := hnx.size
    by_cases hlt : k < 8
    · have ca := (hnx.cell (p := ⟨g, k, none⟩) hgw).trans (HC1.out k hlt)
      have cb := (hnx.cell (p := ⟨g2, k, none⟩) hg2).trans (HC2.out k hlt)
      have HS := Lib.hid (mxTo_succ (fun i => bitN a i ^^ bitN b i) k)
      have HL := Lib.hid (mxTo_length (fun i => bitN a i ^^ bitN b i) k)
      generalize hx : bitN a k = x at ca HS
      generalize hy : bitN b k = y at cb HS
      clear hx hy
      cases x
      · cases y
        · have hs0 : (fun w' => w'.cell? ⟨g, k, none⟩ = some (.bool false) ∧ w'.cell? ⟨g2, k, none⟩ = some (.bool false)) wr.drew := ⟨ca, cb⟩
          have hs1 : (fun w' => w'.cell? ⟨g, k, none⟩ = some (.bool false) ∧ w'.cell? ⟨g2, k, none⟩ = some (.bool false)) (wr.alloc (.cells #[.bool false] 4)).drew := ⟨(((Below.refl wr.heap.size wr).alloc (Nat.le_refl _) _).drew.cell (p := ⟨g, k, none⟩) (Nat.lt_of_lt_of_le hgw hsz)).trans ca, (((Below.refl wr.heap.size wr).alloc (Nat.le_refl _) _).drew.cell (p := ⟨g2, k, none⟩) (Nat.lt_of_lt_of_le hg2 hsz)).trans cb⟩
          have hown3 := (hown.alloc (.cells #[.bool false] 4)).drew
          have hb3 : Below w2.heap.size w2 (wr.alloc (.cells #[.bool false] 4)).drew := (hnx.alloc hsz _).drew
          clear hown
          go_wp2_with fail
          go_region_held3 (fun w' => w'.cell? ⟨g, k, none⟩ = some (.bool false) ∧ w'.cell? ⟨g2, k, none⟩ = some (.bool false)) (assumption) (first | (refine step_append_row w2.heap.size 4 32 infoBool Try.underlying32 rfl rfl _ _ rfl _ _ _ rfl hown3 ⟨wr.heap.size, 0, none⟩ 1 _ [.bool false] rfl rfl (cell_one_new _ _ _) (bools_one [false]) (by decide) (by decide) (by omega) (by simp; omega) ?_; intro v4 w4 hown4 hb4; have hs4 : (fun w' => w'.cell? ⟨g, k, none⟩ = some (.bool false) ∧ w'.cell? ⟨g2, k, none⟩ = some (.bool false)) w4 := ⟨(hb4.cell (p := ⟨g, k, none⟩) hgw).trans hs1.1, (hb4.cell (p := ⟨g2, k, none⟩) hg2).trans hs1.2⟩))
          have hnx1 := hb3.trans hb4
          clear hb3 hb4 hnx hown3 hs0 hs1 hs4
          go_wp2_with fail
          go_roundw
          case rel => exact ⟨k + 1, by omega, by go_num, by rw [HS.out]; simpa using hown4, hnx1⟩
          case measure => simp [intOf]; omega
        · have hs0 : (fun w' => w'.cell? ⟨g, k, none⟩ = some (.bool false) ∧ w'.cell? ⟨g2, k, none⟩ = some (.bool true)) wr.drew := ⟨ca, cb⟩
          have hs1 : (fun w' => w'.cell? ⟨g, k, none⟩ = some (.bool false) ∧ w'.cell? ⟨g2, k, none⟩ = some (.bool true)) (wr.alloc (.cells #[.bool true] 4)).drew := ⟨(((Below.refl wr.heap.size wr).alloc (Nat.le_refl _) _).drew.cell (p := ⟨g, k, none⟩) (Nat.lt_of_lt_of_le hgw hsz)).trans ca, (((Below.refl wr.heap.size wr).alloc (Nat.le_refl _) _).drew.cell (p := ⟨g2, k, none⟩) (Nat.lt_of_lt_of_le hg2 hsz)).trans cb⟩
          have hown3 := (hown.alloc (.cells #[.bool true] 4)).drew
          have hb3 : Below w2.heap.size w2 (wr.alloc (.cells #[.bool true] 4)).drew := (hnx.alloc hsz _).drew
          clear hown
          go_wp2_with fail
          go_region_held3 (fun w' => w'.cell? ⟨g, k, none⟩ = some (.bool false) ∧ w'.cell? ⟨g2, k, none⟩ = some (.bool true)) (assumption) (first | (refine step_append_row w2.heap.size 4 32 infoBool Try.underlying32 rfl rfl _ _ rfl _ _ _ rfl hown3 ⟨wr.heap.size, 0, none⟩ 1 _ [.bool true] rfl rfl (cell_one_new _ _ _) (bools_one [true]) (by decide) (by decide) (by omega) (by simp; omega) ?_; intro v4 w4 hown4 hb4; have hs4 : (fun w' => w'.cell? ⟨g, k, none⟩ = some (.bool false) ∧ w'.cell? ⟨g2, k, none⟩ = some (.bool true)) w4 := ⟨(hb4.cell (p := ⟨g, k, none⟩) hgw).trans hs1.1, (hb4.cell (p := ⟨g2, k, none⟩) hg2).trans hs1.2⟩))
          have hnx1 := hb3.trans hb4
          clear hb3 hb4 hnx hown3 hs0 hs1 hs4
          go_wp2_with fail
          go_roundw
          case rel => exact ⟨k + 1, by omega, by go_num, by rw [HS.out]; simpa using hown4, hnx1⟩
          case measure => simp [intOf]; omega
      · cases y
        · have hs0 : (fun w' => w'.cell? ⟨g, k, none⟩ = some (.bool true) ∧ w'.cell? ⟨g2, k, none⟩ = some (.bool false)) wr.drew := ⟨ca, cb⟩
          have hs1 : (fun w' => w'.cell? ⟨g, k, none⟩ = some (.bool true) ∧ w'.cell? ⟨g2, k, none⟩ = some (.bool false)) (wr.alloc (.cells #[.bool true] 4)).drew := ⟨(((Below.refl wr.heap.size wr).alloc (Nat.le_refl _) _).drew.cell (p := ⟨g, k, none⟩) (Nat.lt_of_lt_of_le hgw hsz)).trans ca, (((Below.refl wr.heap.size wr).alloc (Nat.le_refl _) _).drew.cell (p := ⟨g2, k, none⟩) (Nat.lt_of_lt_of_le hg2 hsz)).trans cb⟩
          have hown3 := (hown.alloc (.cells #[.bool true] 4)).drew
          have hb3 : Below w2.heap.size w2 (wr.alloc (.cells #[.bool true] 4)).drew := (hnx.alloc hsz _).drew
          clear hown
          go_wp2_with fail
          go_region_held3 (fun w' => w'.cell? ⟨g, k, none⟩ = some (.bool true) ∧ w'.cell? ⟨g2, k, none⟩ = some (.bool false)) (assumption) (first | (refine step_append_row w2.heap.size 4 32 infoBool Try.underlying32 rfl rfl _ _ rfl _ _ _ rfl hown3 ⟨wr.heap.size, 0, none⟩ 1 _ [.bool true] rfl rfl (cell_one_new _ _ _) (bools_one [true]) (by decide) (by decide) (by omega) (by simp; omega) ?_; intro v4 w4 hown4 hb4; have hs4 : (fun w' => w'.cell? ⟨g, k, none⟩ = some (.bool true) ∧ w'.cell? ⟨g2, k, none⟩ = some (.bool false)) w4 := ⟨(hb4.cell (p := ⟨g, k, none⟩) hgw).trans hs1.1, (hb4.cell (p := ⟨g2, k, none⟩) hg2).trans hs1.2⟩))
          have hnx1 := hb3.trans hb4
          clear hb3 hb4 hnx hown3 hs0 hs1 hs4
          go_wp2_with fail
          go_roundw
          case rel => exact ⟨k + 1, by omega, by go_num, by rw [HS.out]; simpa using hown4, hnx1⟩
          case measure => simp [intOf]; omega
        · have hs0 : (fun w' => w'.cell? ⟨g, k, none⟩ = some (.bool true) ∧ w'.cell? ⟨g2, k, none⟩ = some (.bool true)) wr.drew := ⟨ca, cb⟩
          have hs1 : (fun w' => w'.cell? ⟨g, k, none⟩ = some (.bool true) ∧ w'.cell? ⟨g2, k, none⟩ = some (.bool true)) (wr.alloc (.cells #[.bool false] 4)).drew := ⟨(((Below.refl wr.heap.size wr).alloc (Nat.le_refl _) _).drew.cell (p := ⟨g, k, none⟩) (Nat.lt_of_lt_of_le hgw hsz)).trans ca, (((Below.refl wr.heap.size wr).alloc (Nat.le_refl _) _).drew.cell (p := ⟨g2, k, none⟩) (Nat.lt_of_lt_of_le hg2 hsz)).trans cb⟩
          have hown3 := (hown.alloc (.cells #[.bool false] 4)).drew
          have hb3 : Below w2.heap.size w2 (wr.alloc (.cells #[.bool false] 4)).drew := (hnx.alloc hsz _).drew
          clear hown
          go_wp2_with fail
          go_region_held3 (fun w' => w'.cell? ⟨g, k, none⟩ = some (.bool true) ∧ w'.cell? ⟨g2, k, none⟩ = some (.bool true)) (assumption) (first | (refine step_append_row w2.heap.size 4 32 infoBool Try.underlying32 rfl rfl _ _ rfl _ _ _ rfl hown3 ⟨wr.heap.size, 0, none⟩ 1 _ [.bool false] rfl rfl (cell_one_new _ _ _) (bools_one [false]) (by decide) (by decide) (by omega) (by simp; omega) ?_; intro v4 w4 hown4 hb4; have hs4 : (fun w' => w'.cell? ⟨g, k, none⟩ = some (.bool true) ∧ w'.cell? ⟨g2, k, none⟩ = some (.bool true)) w4 := ⟨(hb4.cell (p := ⟨g, k, none⟩) hgw).trans hs1.1, (hb4.cell (p := ⟨g2, k, none⟩) hg2).trans hs1.2⟩))
          have hnx1 := hb3.trans hb4
          clear hb3 hb4 hnx hown3 hs0 hs1 hs4
          go_wp2_with fail
          go_roundw
          case rel => exact ⟨k + 1, by omega, by go_num, by rw [HS.out]; simpa using hown4, hnx1⟩
          case measure => simp [intOf]; omega
    · obtain rfl : k = 8 := by omega
      have HROW := Lib.hid (rowAt_of_own hown (by omega))
      clear hown
      go_wp2_with fail
      refine (byte_is _ _ _ _ (mxTo_length _ _) HROW.out HR.out).mono ?_
      rintro e w' ⟨rfl, rfl⟩
      go_wp2_with fail
      refine (refEven_any _ _ r0 r1).mono ?_
      rintro e w3 ⟨rfl, hb3⟩
      go_wp2_with fail
      go_ret
      exact ⟨rfl, below_step hb (hnx.trans (hb3.mono hsz))⟩

theorem mixed_is (n b : Int) (r : Bool) (w : World) (n0 : 0 ≤ n) (n1 : n ≤ 510) (b0 : 0 ≤ b) (b1 : b ≤ 255) (h : evenB (xorR (n % 8) b) = r) :
    Calls Try.prog 30 #[.int .i64 n, .int .u8 b] w fun e w' => e = .returned (.bool r) ∧ Below w.heap.size w w' := by
  subst h; exact mixed_any n (n % 8) b w n0 n1 rfl b0 b1

theorem high_bit (v : Int) (h0 : 0 ≤ v) (h1 : v ≤ 255) : decide (128 ≤ v) = bitN v 0 := by
  have h : ∀ n : Fin 256, decide ((128 : Int) ≤ (n.val : Int)) = bitN (n.val : Int) 0 := by decide +kernel
  exact fin256 (P := fun v => decide (128 ≤ v) = bitN v 0) h v h0 h1

set_option maxHeartbeats 800000 in
theorem refPort_any (v k b : Int) (w : World) (v0 : 0 ≤ v) (v1 : v ≤ 255) (k0 : 0 ≤ k) (k1 : k ≤ 255) (b0 : 0 ≤ b) (b1 : b ≤ 255) :
    Calls Try.prog 13 #[.int .u8 v, .int .u8 k, .int .u8 b] w fun e w' => e = .returned (.int .u8 (portF v k b)) ∧ Below w.heap.size w w' := by
  have HE := Lib.hid (show evenB (xorR ((v + k) % 8) b) = evenB (portE v k b) from rfl)
  have HF := Lib.hid (show flagsOf (bitN b 0) (b == 0) (bitN b 2) (decide (255 < v + k)) (bitN b 4) (evenB (portE v k b)) (decide (128 ≤ v)) (decide (255 < v + k)) = portF v k b by rw [high_bit v v0 v1]; rfl)
  generalize evenB (portE v k b) = p at *
  generalize portF v k b = r at *
  go_enter Try.func13, Try.ntmps13
  go_wp2_with fail
  refine (bit_any _ _ _ b0 b1 (by decide) (by decide)).mono ?_
  rintro e w1 ⟨rfl, hb1⟩
  go_wp2_with fail
  refine (bit_any _ _ _ b0 b1 (by decide) (by decide)).mono ?_
  rintro e w2 ⟨rfl, hb2⟩
  go_wp2_with fail
  refine (bit_any _ _ _ b0 b1 (by decide) (by decide)).mono ?_
  rintro e w3 ⟨rfl, hb3⟩
  go_wp2_with fail
  refine (mixed_is _ _ _ _ (by omega) (by omega) b0 b1 HE.out).mono ?_
  rintro e w4 ⟨rfl, hb4⟩
  go_wp2_with fail
  refine (flags_is _ _ _ _ _ _ _ _ _ _ HF.out).mono ?_
  rintro e w5 ⟨rfl, hb5⟩
  go_wp2_with fail
  go_ret
  exact ⟨rfl, below_step (below_step (below_step (below_step hb1 hb2) hb3) hb4) hb5⟩

end Go.Proofs.Ytbpmhbgdainpdaa
