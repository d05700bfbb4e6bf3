/- The contracts of layer 5's exported calls that copy, compare and go through ports. -/
import Derived.Test.YtbpmhbgdainpdaaBulkWalk
namespace Go.Proofs.Ytbpmhbgdainpdaa
open Go.RowKit

theorem ofSum_is (f n r : Int) (w : World) (n0 : 0 ≤ n) (n1 : n ≤ 255) (h : sumF f n = r) :
    Calls Try.prog 19 #[.int .u8 f, .int .u8 n] w fun e w' => e = .returned (.int .u8 r) ∧ Below w.heap.size w w' := by
  subst h; exact ofSum_any f n w n0 n1

set_option maxHeartbeats 400000 in
theorem copy_any (a v bc f : Int) (w : World) (b0 : 0 ≤ bc) (f0 : 0 ≤ f) (f1 : f ≤ 255) :
    Calls Try.prog 7 #[.int .u8 a, .int .u8 v, .int .u16 bc, .int .u8 f] w fun e w' => e = .returned (.int .u8 (copyF a v bc f)) ∧ Below w.heap.size w w' := by
  have HS := Lib.hid (show sumF (bits .and .u8 f 193) ((a + v) % 256) = flagsOf (bitN f 0) (bitN f 1) (bitN (copyN a v) 6) false (bitN (copyN a v) 4) false false (bitN f 7) by rw [and_kept f f0 f1, sum_flags]; rfl)
  have HL := Lib.hid (show withB (flagsOf (bitN f 0) (bitN f 1) (bitN (copyN a v) 6) false (bitN (copyN a v) 4) false false (bitN f 7)) 4 (!(bc == 0)) = copyF a v bc f by rw [left_P _ _ _ _ _ _ _ _ bc b0]; rfl)
  generalize flagsOf (bitN f 0) (bitN f 1) (bitN (copyN a v) 6) false (bitN (copyN a v) 4) false false (bitN f 7) = r at HS HL
  go_enter Try.func7, Try.ntmps7
  go_wp2_with fail
  refine (ofSum_is _ _ _ _ (by omega) (by omega) HS.out).mono ?_
  rintro e w1 ⟨rfl, hb1⟩
  go_wp2_with fail
  refine (left_any _ _ _ _ HL.out).mono ?_
  rintro e w' ⟨rfl, rfl⟩
  go_wp2_with fail
  go_ret
  exact ⟨rfl, hb1⟩

theorem sub_is (a b r g : Int) (c : Bool) (w : World) (a0 : 0 ≤ a) (a1 : a ≤ 255) (b0 : 0 ≤ b) (b1 : b ≤ 255) (hr : subR a b c = r) (hg : subF a b c = g) :
    Calls Try.prog 23 #[.int .u8 a, .int .u8 b, .bool c] w fun e w' => e = .returned (.tuple #[.int .u8 r, .int .u8 g]) ∧ Below w.heap.size w w' := by
  subst hr hg; exact sub_any a b c w a0 a1 b0 b1

theorem find_sum (a v f : Int) (f0 : 0 ≤ f) (f1 : f ≤ 255) : sumF (bits .or .u8 (bits .and .u8 (subF a v false) 210) (bits .and .u8 f 1)) (findN a v) =
    flagsOf (bitN (subR a v false) 0) (subR a v false == 0) (bitN (findN a v) 6) (findH a v) (bitN (findN a v) 4) false true (bitN f 7) := by
  unfold subF
  rw [told_F _ _ _ _ _ _ _ _ (bitN f 7) f f0 f1 rfl, sum_flags]
  rfl
set_option maxHeartbeats 800000 in
theorem find_any (a v bc f : Int) (w : World) (a0 : 0 ≤ a) (a1 : a ≤ 255) (v0 : 0 ≤ v) (v1 : v ≤ 255) (b0 : 0 ≤ bc) (f0 : 0 ≤ f) (f1 : f ≤ 255) :
    Calls Try.prog 9 #[.int .u8 a, .int .u8 v, .int .u16 bc, .int .u8 f] w fun e w' => e = .returned (.int .u8 (findF a v bc f)) ∧ Below w.heap.size w w' := by
  have hs := find_sum a v f f0 f1
  have HL := Lib.hid (show withB (flagsOf (bitN (subR a v false) 0) (subR a v false == 0) (bitN (findN a v) 6) (findH a v) (bitN (findN a v) 4) false true (bitN f 7)) 4 (!(bc == 0)) = findF a v bc f by rw [left_P _ _ _ _ _ _ _ _ bc b0]; rfl)
  generalize flagsOf (bitN (subR a v false) 0) (subR a v false == 0) (bitN (findN a v) 6) (findH a v) (bitN (findN a v) 4) false true (bitN f 7) = q at hs HL
  have hh := sub_has a v
  obtain ⟨n0, n1⟩ := findN_bd a v
  obtain ⟨r0, r1⟩ := subR_bd a v false
  have hn : findN a v = if findH a v then (subR a v false + 255) % 256 else subR a v false := rfl
  have HR := Lib.hid (show subR a v false = subR a v false from rfl)
  have HG := Lib.hid (show subF a v false = subF a v false from rfl)
  have HO := fun w => sub_any a v false w a0 a1 v0 v1
  generalize subR a v false = r at *
  generalize subF a v false = g at *
  generalize findN a v = n at *
  generalize findH a v = o at *
  have HO := Lib.hid HO
  have HS := Lib.hid hs
  have HH := Lib.hid hh
  clear hs hh HR HG
  cases o
  · simp only [Bool.false_eq_true, if_false] at hn
    subst hn
    go_enter Try.func9, Try.ntmps9
    go_wp2_with fail
    refine (HO.out _).mono ?_
    rintro e w1 ⟨rfl, hb1⟩
    go_wp2_with fail
    refine (has_is _ _ _ _ HH.out).mono ?_
    rintro e w' ⟨rfl, rfl⟩
    go_wp2_with fail
    refine (ofSum_is _ _ _ _ r0 r1 HS.out).mono ?_
    rintro e w2 ⟨rfl, hb2⟩
    go_wp2_with fail
    refine (left_any _ _ _ _ HL.out).mono ?_
    rintro e w' ⟨rfl, rfl⟩
    go_wp2_with fail
    go_ret
    exact ⟨rfl, below_step hb1 hb2⟩
  · simp only [if_true] at hn
    have en : (r - 1) % 256 = n := by omega
    clear hn
    go_enter Try.func9, Try.ntmps9
    go_wp2_with fail
    refine (HO.out _).mono ?_
    rintro e w1 ⟨rfl, hb1⟩
    go_wp2_with fail
    refine (has_is _ _ _ _ HH.out).mono ?_
    rintro e w' ⟨rfl, rfl⟩
    go_wp2_with fail
    refine (ofSum_is _ _ _ _ n0 n1 HS.out).mono ?_
    rintro e w2 ⟨rfl, hb2⟩
    go_wp2_with fail
    refine (left_any _ _ _ _ HL.out).mono ?_
    rintro e w' ⟨rfl, rfl⟩
    go_wp2_with fail
    go_ret
    exact ⟨rfl, below_step hb1 hb2⟩

set_option maxHeartbeats 400000 in
theorem lowest_any (b : Int) (w : World) (h0 : 0 ≤ b) (h1 : b ≤ 255) : Calls Try.prog 29 #[.int .u8 b] w fun e w' => e = .returned (.int .u8 (b % 8)) ∧ w = w' := by
  go_enter Try.func29, Try.ntmps29
  go_wp2_with fail
  go_ret
  exact ⟨rfl, rfl⟩
theorem lowest_is (b r : Int) (w : World) (h0 : 0 ≤ b) (h1 : b ≤ 255) (h : b % 8 = r) : Calls Try.prog 29 #[.int .u8 b] w fun e w' => e = .returned (.int .u8 r) ∧ w = w' := by
  subst h; exact lowest_any b w h0 h1
theorem even_is (b : Int) (r : Bool) (w : World) (h0 : 0 ≤ b) (h1 : b ≤ 255) (h : evenB b = r) :
    Calls Try.prog 28 #[.int .u8 b] w fun e w' => e = .returned (.bool r) ∧ w = w' := by
  subst h; exact even_any b w h0 h1

set_option maxHeartbeats 800000 in
theorem port_any (v k b : Int) (w : World) (v0 : 0 ≤ v) (v1 : v ≤ 255) (k0 : 0 ≤ k) (k1 : k ≤ 255) (b0 : 0 ≤ b) (b1 : b ≤ 255) :
    Calls Try.prog 12 #[.int .u8 v, .int .u8 k, .int .u8 b] w fun e w' => e = .returned (.int .u8 (portF v k b)) ∧ w = w' := by
  have HO := Lib.hid (of_flags b b0 b1).1.symm
  have HV := Lib.hid (has_128 v v0 v1)
  have H1 := Lib.hid (show withB (flagsOf (bitN b 0) (b == 0) (bitN b 2) false (bitN b 4) false false false) 2 (bitN v 0) = flagsOf (bitN b 0) (b == 0) (bitN b 2) false (bitN b 4) false (bitN v 0) false from with_N _ _ _ _ _ _ _ _ _)
  have H2 := Lib.hid (show withB (flagsOf (bitN b 0) (b == 0) (bitN b 2) false (bitN b 4) false (bitN v 0) false) 17 (decide (255 < v + k)) = flagsOf (bitN b 0) (b == 0) (bitN b 2) (decide (255 < v + k)) (bitN b 4) false (bitN v 0) (decide (255 < v + k)) from with_HC _ _ _ _ _ _ _ _ _)
  have H3 := Lib.hid (show withB (flagsOf (bitN b 0) (b == 0) (bitN b 2) (decide (255 < v + k)) (bitN b 4) false (bitN v 0) (decide (255 < v + k))) 4 (evenB (portE v k b)) = portF v k b from with_P _ _ _ _ _ _ _ _ _)
  have HM := Lib.hid (show (v + k) % 256 % 8 = (v + k) % 8 by omega)
  have m0 : 0 ≤ (v + k) % 8 := by omega
  have m1 : (v + k) % 8 ≤ 255 := by omega
  have hx := xor_R ((v + k) % 8) b m0 m1 b0 b1
  have hp : xorR ((v + k) % 8) b = portE v k b := rfl
  obtain ⟨e0, e1⟩ := xorR_bd ((v + k) % 8) b
  rw [hp] at hx e0 e1
  clear hp
  generalize (v + k) % 8 = m at *
  generalize portE v k b = x at *
  go_enter Try.func12, Try.ntmps12
  go_wp2_with fail
  refine (of_is _ _ _ HO.out).mono ?_
  rintro e w' ⟨rfl, rfl⟩
  go_wp2_with fail
  refine (has_is _ _ _ _ HV.out).mono ?_
  rintro e w' ⟨rfl, rfl⟩
  go_wp2_with fail
  refine (with_is _ _ _ _ _ H1.out).mono ?_
  rintro e w' ⟨rfl, rfl⟩
  go_wp2_with fail
  refine (with_is _ _ _ _ _ H2.out).mono ?_
  rintro e w' ⟨rfl, rfl⟩
  go_wp2_with fail
  refine (lowest_is _ _ _ (by omega) (by omega) HM.out).mono ?_
  rintro e w' ⟨rfl, rfl⟩
  go_wp2_with fail
  refine (even_any _ _ e0 e1).mono ?_
  rintro e w' ⟨rfl, rfl⟩
  go_wp2_with fail
  refine (with_is _ _ _ _ _ H3.out).mono ?_
  rintro e w' ⟨rfl, rfl⟩
  go_wp2_with fail
  go_ret
  exact ⟨rfl, rfl⟩

end Go.Proofs.Ytbpmhbgdainpdaa
