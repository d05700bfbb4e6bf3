/- The laws of layer 4 without the document's answer, walked. -/
import Derived.Test.YtcafoomnfekglaaTurnMore
import Derived.Deep.DeepCutAuto
namespace Go.Proofs.Ytcafoomnfekglaa
open Go.RowKit

theorem down_up (b : Int) (i o : Bool) : downR (upR b i) o = flagsOf o (bitN b 1) (bitN b 2) (bitN b 3) (bitN b 4) (bitN b 5) (bitN b 6) (bitN b 7) := by
  obtain ⟨e0, e1, e2, e3, e4, e5, e6, _⟩ := bit_flags (bitN b 1) (bitN b 2) (bitN b 3) (bitN b 4) (bitN b 5) (bitN b 6) (bitN b 7) i
  unfold downR upR
  rw [e0, e1, e2, e3, e4, e5, e6]
theorem up_7 (b : Int) (i : Bool) : bitN (upR b i) 7 = i := (bit_flags _ _ _ _ _ _ _ _).2.2.2.2.2.2.2
theorem turnF_7 (r : Int) (o : Bool) : bitN (turnF r o) 7 = o := (bit_flags _ _ _ _ _ _ _ _).2.2.2.2.2.2.2
theorem back_rlc (b f : Int) (b0 : 0 ≤ b) (b1 : b ≤ 255) : doV4 1 (upR b (bitN b 0)) f = (b, turnF b (bitN b 0)) := by
  rw [doV4_in _ _ _ (by decide) (by decide), turnV_1]
  show (downR (upR b (bitN b 0)) (bitN (upR b (bitN b 0)) 7), turnF (downR (upR b (bitN b 0)) (bitN (upR b (bitN b 0)) 7)) (bitN (upR b (bitN b 0)) 7)) = _
  rw [up_7, down_up, flags_self b b0 b1]
theorem back_rl (b f : Int) (b0 : 0 ≤ b) (b1 : b ≤ 255) : doV4 3 (upR b (bitN f 7)) (turnF (upR b (bitN f 7)) (bitN b 0)) = (b, turnF b (bitN f 7)) := by
  rw [doV4_in _ _ _ (by decide) (by decide), turnV_3, turnF_7]
  show (downR (upR b (bitN f 7)) (bitN b 0), turnF (downR (upR b (bitN f 7)) (bitN b 0)) (bitN (upR b (bitN f 7)) 7)) = _
  rw [up_7, down_up, flags_self b b0 b1]
theorem carry_same (b f : Int) (f0 : 0 ≤ f) (f1 : f ≤ 255) : bits .and .u8 (turnF b (bitN f 7)) 1 = bits .and .u8 f 1 := by
  have h : ∀ s z y h x p n c : Bool, bits .and .u8 (flagsOf s z y h x p n c) 1 = flagsOf false false false false false false false c := by decide +kernel
  conv => rhs; rw [← flags_self f f0 f1]
  unfold turnF
  rw [h, h]
theorem back_halves (a m : Int) (m0 : 0 ≤ m) (m1 : m ≤ 255) : rrdA (rldA a m) (rldM a m) = a ∧ rrdM (rldA a m) (rldM a m) = m := by
  unfold rrdA rrdM rldA rldM; omega
def rotU (b : Int) : Nat → Int
  | 0 => b
  | i + 1 => upR (rotU b i) (bitN (rotU b i) 0)
theorem rotU_bd (b : Int) (b0 : 0 ≤ b) (b1 : b ≤ 255) (i : Nat) : 0 ≤ rotU b i ∧ rotU b i ≤ 255 := by
  cases i with
  | zero => exact ⟨b0, b1⟩
  | succ i => exact upR_bd _ _
theorem rotU_8 (b : Int) (b0 : 0 ≤ b) (b1 : b ≤ 255) : rotU b 8 = b := by
  have h : ∀ n : Fin 256, rotU (n.val : Int) 8 = (n.val : Int) := by decide +kernel
  exact fin256 (P := fun b => rotU b 8 = b) h b b0 b1
theorem set_res (b : Int) (b0 : 0 ≤ b) (b1 : b ≤ 255) : putV 3 (putV 3 b true) false = putV 3 b false := by
  have h : ∀ n : Fin 256, putV 3 (putV 3 (n.val : Int) true) false = putV 3 (n.val : Int) false := by decide +kernel
  exact fin256 (P := fun b => putV 3 (putV 3 b true) false = putV 3 b false) h b b0 b1

theorem accT_is (k b f r g : Int) (w : World) (h0 : 0 ≤ b) (h1 : b ≤ 255) (f0 : 0 ≤ f) (f1 : f ≤ 255) (h : accV4 k b f = (r, g)) :
    Calls Try.prog 9 #[.int .i64 k, .int .u8 b, .int .u8 f] w fun e w' => e = .returned (.tuple #[.int .u8 r, .int .u8 g]) ∧ w = w' := by
  have hd := accT_any k b f w h0 h1 f0 f1
  rw [h] at hd; exact hd
theorem rrd_is (a m f r n g : Int) (w : World) (a0 : 0 ≤ a) (a1 : a ≤ 255) (m0 : 0 ≤ m) (m1 : m ≤ 255) (f0 : 0 ≤ f) (f1 : f ≤ 255) (hr : rrdA a m = r) (hn : rrdM a m = n) (hg : turnF (rrdA a m) (bitN f 7) = g) :
    Calls Try.prog 19 #[.int .u8 a, .int .u8 m, .int .u8 f] w fun e w' => e = .returned (.tuple #[.int .u8 r, .int .u8 n, .int .u8 g]) ∧ w = w' := by
  subst hr hn hg; exact rrd_any a m f w a0 a1 m0 m1 f0 f1
theorem resV_is (n b r : Int) (w : World) (h0 : 0 ≤ b) (h1 : b ≤ 255) (h : putV n b false = r) : Calls Try.prog 17 #[.int .i64 n, .int .u8 b] w fun e w' => e = .returned (.int .u8 r) ∧ w = w' := by
  subst h; exact resV_any n b w h0 h1
theorem test_is (n b yx f r : Int) (w : World) (h0 : 0 ≤ b) (h1 : b ≤ 255) (y0 : 0 ≤ yx) (y1 : yx ≤ 255) (f0 : 0 ≤ f) (f1 : f ≤ 255) (h : testV n b yx f = r) :
    Calls Try.prog 13 #[.int .i64 n, .int .u8 b, .int .u8 yx, .int .u8 f] w fun e w' => e = .returned (.int .u8 r) ∧ w = w' := by
  subst h; exact test_any n b yx f w h0 h1 y0 y1 f0 f1

set_option maxRecDepth 100000 in
set_option maxHeartbeats 3200000 in
theorem turnBack_walk (b f m : Int) (w0 : (Lit.int .u8 b).wf = true) (w1 : (Lit.int .u8 f).wf = true) (w2 : (Lit.int .u8 m).wf = true) (w : World) :
    Calls Try.prog 6 #[.int .u8 b, .int .u8 f, .int .u8 m] w fun e w' => e = .returned (.bool true) ∧ Below w.heap.size w w' := by
  obtain ⟨b0, b1⟩ := u8_bd w0
  obtain ⟨f0, f1⟩ := u8_bd w1
  obtain ⟨m0, m1⟩ := u8_bd w2
  clear w0 w1 w2
  have E0 := Lib.hid (show doV4 0 b f = (upR b (bitN b 0), turnF (upR b (bitN b 0)) (bitN b 0)) from rfl)
  have E1 := Lib.hid (back_rlc b f b0 b1)
  have E2 := Lib.hid (show doV4 2 b f = (upR b (bitN f 7), turnF (upR b (bitN f 7)) (bitN b 0)) from rfl)
  have E3 := Lib.hid (back_rl b f b0 b1)
  obtain ⟨u0, u1⟩ := upR_bd b (bitN b 0)
  obtain ⟨v0, v1⟩ := upR_bd b (bitN f 7)
  obtain ⟨g0, g1⟩ := turnF_bd (upR b (bitN f 7)) (bitN b 0)
  obtain ⟨c0, c1⟩ := rldA_bd b m b0 b1 m0 m1
  obtain ⟨n0, n1⟩ := rldM_bd b m
  have hh := back_halves b m m0 m1
  have H1 := Lib.hid hh.1
  have H2 := Lib.hid hh.2
  have HR := Lib.hid (rotU_bd b b0 b1)
  have H8 := Lib.hid (rotU_8 b b0 b1)
  have HS := Lib.hid (set_res b b0 b1)
  obtain ⟨p0, p1⟩ := putV_bd 3 b true b0 b1
  have hc := carry_same b f f0 f1
  clear hh
  go_enter Try.func6, Try.ntmps6
  go_wp2_with fail
  refine (doT_is _ _ _ _ _ _ b0 b1 f0 f1 E0.out).mono ?_
  rintro e w' ⟨rfl, rfl⟩
  go_wp2_with fail
  refine (doT_is _ _ _ _ _ _ u0 u1 f0 f1 E1.out).mono ?_
  rintro e w' ⟨rfl, rfl⟩
  go_wp2_with fail
  refine (doT_is _ _ _ _ _ _ b0 b1 f0 f1 E2.out).mono ?_
  rintro e w' ⟨rfl, rfl⟩
  go_wp2_with fail
  refine (doT_is _ _ _ _ _ _ v0 v1 g0 g1 E3.out).mono ?_
  rintro e w' ⟨rfl, rfl⟩
  go_wp2_with fail
  refine (rld_any _ _ _ _ b0 b1 m0 m1 f0 f1).mono ?_
  rintro e w' ⟨rfl, rfl⟩
  go_wp2_with fail
  refine (rrd_is _ _ _ _ _ _ _ c0 c1 n0 n1 f0 f1 H1.out H2.out rfl).mono ?_
  rintro e w' ⟨rfl, rfl⟩
  go_wp2_with fail
  go_loop [21, 22] (fun x i => ∃ k : Nat, k ≤ 8 ∧ i = .int .i64 k ∧ x = .int .u8 (rotU b k)) (fun _ i => 8 - (intOf i).toNat)
  case atStart => exact ⟨0, by omega, rfl, rfl⟩
  case round =>
    obtain ⟨k, hk, rfl, rfl⟩ := hrel
    obtain ⟨r0, r1⟩ := HR.out k
    by_cases hlt : k < 8
    · have EA := Lib.hid (show accV4 0 (rotU b k) f = (rotU b (k + 1), accF f (rotU b (k + 1)) (bitN (rotU b k) 0)) from rfl)
      go_wp2_with fail
      refine (accT_is _ _ _ _ _ _ r0 r1 f0 f1 EA.out).mono ?_
      rintro e w' ⟨rfl, rfl⟩
      go_wp2_with fail
      go_round
      case rel => exact ⟨k + 1, by omega, by go_num, rfl⟩
      case measure => simp [intOf]; omega
    · obtain rfl : k = 8 := by omega
      rw [H8.out]
      go_wp2_with fail
      refine (setV_any _ _ _ b0 b1).mono ?_
      rintro e w' ⟨rfl, rfl⟩
      go_wp2_with fail
      refine (resV_is _ _ _ _ p0 p1 HS.out).mono ?_
      rintro e w' ⟨rfl, rfl⟩
      go_wp2_with fail
      refine (resV_any _ _ _ b0 b1).mono ?_
      rintro e w' ⟨rfl, rfl⟩
      go_wp2_with fail
      refine (lives4_any _).mono ?_
      rintro e w' ⟨rfl, rfl⟩
      go_wp2_with fail
      go_ret
      exact ⟨rfl, Below.refl _ _⟩

/-- The bits of a byte with one bit put. -/
theorem bits_set (b : Int) (p : Nat) (o : Bool) : (bitsTo b 8).set p o = (List.range 8).map (fun x => if x = p then o else bitN b x) := by
  apply List.ext_getElem
  · simp [bitsTo]
  · intro i h1 h2
    rw [List.getElem_set]
    simp only [List.getElem_map, List.getElem_range, bitsTo]
    by_cases h : p = i
    · rw [if_pos h, if_pos h.symm]
    · rw [if_neg h, if_neg (fun e => h e.symm)]
theorem put_bit (i j b : Int) (o : Bool) (i0 : 0 ≤ i) (i7 : i ≤ 7) (j0 : 0 ≤ j) (j7 : j ≤ 7) : bitN (putV i b o) (7 - j.toNat) = if i = j then o else bitN b (7 - j.toNat) := by
  rw [putV_in i b o i0 i7, bits_set, bit8 _ (7 - j.toNat) (by omega)]
  by_cases h : i = j
  · rw [if_pos (by omega), if_pos h]
  · rw [if_neg (by omega), if_neg h]
theorem test_Z (s z y h x p n c : Bool) : bits .and .u8 (flagsOf s z y h x p n c) 64 = if z then 64 else 0 := by revert s z y h x p n c; decide +kernel
theorem test_set (i b : Int) (i0 : 0 ≤ i) (i7 : i ≤ 7) : bits .and .u8 (testV i (putV i b true) 0 0) 64 = 0 := by
  rw [testV_in _ _ _ _ i0 i7]; unfold testF
  rw [test_Z, put_bit i i b true i0 i7 i0 i7, if_pos rfl]; rfl
theorem test_res (i b : Int) (i0 : 0 ≤ i) (i7 : i ≤ 7) : bits .and .u8 (testV i (putV i b false) 0 0) 64 = 64 := by
  rw [testV_in _ _ _ _ i0 i7]; unfold testF
  rw [test_Z, put_bit i i b false i0 i7 i0 i7, if_pos rfl]; rfl
theorem test_other (i j b : Int) (o : Bool) (i0 : 0 ≤ i) (i7 : i ≤ 7) (j0 : 0 ≤ j) (j7 : j ≤ 7) (h : ¬ i = j) : testV j (putV i b o) 0 0 = testV j b 0 0 := by
  rw [testV_in _ _ _ _ j0 j7, testV_in _ _ _ _ j0 j7]; unfold testF
  rw [put_bit i j b o i0 i7 j0 j7, if_neg h]

set_option maxRecDepth 100000 in
set_option maxHeartbeats 6400000 in
theorem turnTests_walk (n k b : Int) (_w0 : (Lit.int .i64 n).wf = true) (_w1 : (Lit.int .i64 k).wf = true) (w2 : (Lit.int .u8 b).wf = true) (w : World) :
    Calls Try.prog 7 #[.int .i64 n, .int .i64 k, .int .u8 b] w fun e w' => e = .returned (.bool true) ∧ Below w.heap.size w w' := by
  obtain ⟨b0, b1⟩ := u8_bd w2
  clear _w0 _w1 w2
  go_enter Try.func7, Try.ntmps7
  go_upto_region 1 with fail
  go_cut [7, 8] (fun s t wx => ∃ i j : Int, 0 ≤ i ∧ i ≤ 7 ∧ 0 ≤ j ∧ j ≤ 7 ∧ s = .int .i64 i ∧ t = .int .i64 j ∧ w = wx)
  case first =>
    go_wp2_with fail
    all_goals (go_meet; exact ⟨_, _, by omega, by omega, by omega, by omega, rfl, rfl, rfl⟩)
  case rest =>
    obtain ⟨i, j, i0, i7, j0, j7, rfl, rfl, rfl⟩ := hcut
    obtain ⟨s0, s1⟩ := putV_bd i b true b0 b1
    obtain ⟨c0, c1⟩ := putV_bd i b false b0 b1
    have hs := test_set i b i0 i7
    have hc := test_res i b i0 i7
    by_cases h : i = j
    · subst h
      go_wp2_with fail
      refine (setV_any _ _ _ b0 b1).mono ?_
      rintro e w' ⟨rfl, rfl⟩
      go_wp2_with fail
      refine (resV_any _ _ _ b0 b1).mono ?_
      rintro e w' ⟨rfl, rfl⟩
      go_wp2_with fail
      refine (test_any _ _ _ _ _ s0 s1 (by decide) (by decide) (by decide) (by decide)).mono ?_
      rintro e w' ⟨rfl, rfl⟩
      go_wp2_with fail
      refine (test_any _ _ _ _ _ c0 c1 (by decide) (by decide) (by decide) (by decide)).mono ?_
      rintro e w' ⟨rfl, rfl⟩
      go_wp2_with fail
      refine (lives4_any _).mono ?_
      rintro e w' ⟨rfl, rfl⟩
      go_wp2_with fail
      go_ret
      exact ⟨rfl, Below.refl _ _⟩
    · have hne : (i == j) = false := beq_false_of_ne h
      have H1 := Lib.hid (test_other i j b true i0 i7 j0 j7 h)
      have H2 := Lib.hid (test_other i j b false i0 i7 j0 j7 h)
      clear h
      go_wp2_with fail
      refine (setV_any _ _ _ b0 b1).mono ?_
      rintro e w' ⟨rfl, rfl⟩
      go_wp2_with fail
      refine (resV_any _ _ _ b0 b1).mono ?_
      rintro e w' ⟨rfl, rfl⟩
      go_wp2_with fail
      refine (test_any _ _ _ _ _ s0 s1 (by decide) (by decide) (by decide) (by decide)).mono ?_
      rintro e w' ⟨rfl, rfl⟩
      go_wp2_with fail
      refine (test_any _ _ _ _ _ c0 c1 (by decide) (by decide) (by decide) (by decide)).mono ?_
      rintro e w' ⟨rfl, rfl⟩
      go_wp2_with fail
      refine (test_is _ _ _ _ _ _ s0 s1 (by decide) (by decide) (by decide) (by decide) H1.out).mono ?_
      rintro e w' ⟨rfl, rfl⟩
      go_wp2_with fail
      refine (test_any _ _ _ _ _ b0 b1 (by decide) (by decide) (by decide) (by decide)).mono ?_
      rintro e w' ⟨rfl, rfl⟩
      go_wp2_with fail
      refine (test_is _ _ _ _ _ _ c0 c1 (by decide) (by decide) (by decide) (by decide) H2.out).mono ?_
      rintro e w' ⟨rfl, rfl⟩
      go_wp2_with fail
      refine (test_any _ _ _ _ _ b0 b1 (by decide) (by decide) (by decide) (by decide)).mono ?_
      rintro e w' ⟨rfl, rfl⟩
      go_wp2_with fail
      refine (lives4_any _).mono ?_
      rintro e w' ⟨rfl, rfl⟩
      go_wp2_with fail
      go_ret
      exact ⟨rfl, Below.refl _ _⟩

end Go.Proofs.Ytcafoomnfekglaa
