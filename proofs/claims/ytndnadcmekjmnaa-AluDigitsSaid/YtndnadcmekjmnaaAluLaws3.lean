/- The law of layer 2 on digits, walked. -/
import Derived.Test.YtndnadcmekjmnaaAluLaws2
import Derived.Deep.DeepCutAuto
namespace Go.Proofs.Ytndnadcmekjmnaa
open Go.RowKit

def bcd (n : Int) : Int := n / 10 * 16 + n % 10
def clamp (m : Int) : Int := max 0 (min m 99)
theorem clamp_bd (m : Int) : 0 ≤ clamp m ∧ clamp m ≤ 99 := by unfold clamp; omega
theorem bcd_bd (n : Int) (h0 : 0 ≤ n) (h1 : n ≤ 99) : 0 ≤ bcd n ∧ bcd n ≤ 255 := by unfold bcd; omega
/-- The sum in digits hangs on the sums of the digits alone: p of the lower ones, q of the upper ones. -/
def sumOk (p q : Int) : Bool := ((16 * q + p) % 256 + ((if decide (15 < p) || decide (9 < (16 * q + p) % 256 % 16) then 6 else 0) + (if decide (255 < 16 * q + p) || decide (153 < (16 * q + p) % 256) then 96 else 0))) % 256 == bcd ((10 * q + p + 100) % 100)
  && (decide (255 < 16 * q + p) || decide (153 < (16 * q + p) % 256)) == decide (99 < 10 * q + p)
def difOk (p q : Int) : Bool := ((16 * q + p) % 256 - ((if decide (p < 0) || decide (9 < (16 * q + p) % 256 % 16) then 6 else 0) + (if decide (16 * q + p < 0) || decide (153 < (16 * q + p) % 256) then 96 else 0))) % 256 == bcd ((10 * q + p + 100) % 100)
  && (decide (16 * q + p < 0) || decide (153 < (16 * q + p) % 256)) == decide (10 * q + p < 0)
theorem sumOk_all : ∀ p q : Fin 19, sumOk (p.val : Int) (q.val : Int) = true := by decide +kernel
theorem difOk_all : ∀ p q : Fin 19, difOk ((p.val : Int) - 9) ((q.val : Int) - 9) = true := by decide +kernel
theorem sumOk_at (p q : Int) (p0 : 0 ≤ p) (p1 : p ≤ 18) (q0 : 0 ≤ q) (q1 : q ≤ 18) : sumOk p q = true := by
  have h := sumOk_all ⟨p.toNat, by omega⟩ ⟨q.toNat, by omega⟩
  simpa only [Int.toNat_of_nonneg p0, Int.toNat_of_nonneg q0] using h
theorem difOk_at (p q : Int) (p0 : -9 ≤ p) (p1 : p ≤ 9) (q0 : -9 ≤ q) (q1 : q ≤ 9) : difOk p q = true := by
  have h := difOk_all ⟨(p + 9).toNat, by omega⟩ ⟨(q + 9).toNat, by omega⟩
  have e1 : (((p + 9).toNat : Nat) : Int) - 9 = p := by omega
  have e2 : (((q + 9).toNat : Nat) : Int) - 9 = q := by omega
  simpa only [e1, e2] using h
theorem digits_add (m n : Int) (m0 : 0 ≤ m) (m1 : m ≤ 99) (n0 : 0 ≤ n) (n1 : n ≤ 99) :
    daaR (addR (bcd m) (bcd n) false) (addF (bcd m) (bcd n) false) = bcd ((m + n + 100) % 100) ∧ bitN (daaF (addR (bcd m) (bcd n) false) (addF (bcd m) (bcd n) false)) 7 = decide (99 < m + n) := by
  have h3 : bitN (addF (bcd m) (bcd n) false) 3 = decide (15 < bcd m % 16 + bcd n % 16 + cN false) := (bit_flags _ _ _ _ _ _ _ _).2.2.2.1
  have h6 : bitN (addF (bcd m) (bcd n) false) 6 = false := (bit_flags _ _ _ _ _ _ _ _).2.2.2.2.2.2.1
  have h7 : bitN (addF (bcd m) (bcd n) false) 7 = decide (255 < bcd m + bcd n + cN false) := (bit_flags _ _ _ _ _ _ _ _).2.2.2.2.2.2.2
  have hF : ∀ a f, bitN (daaF a f) 7 = (bitN f 7 || decide (153 < a)) := fun a f => (bit_flags _ _ _ _ _ _ _ _).2.2.2.2.2.2.2
  have ha : bcd m % 16 = m % 10 := by unfold bcd; omega
  have hb : bcd n % 16 = n % 10 := by unfold bcd; omega
  have hs := sumOk_at (m % 10 + n % 10) (m / 10 + n / 10) (by omega) (by omega) (by omega) (by omega)
  have e1 : bcd m + bcd n + cN false = 16 * (m / 10 + n / 10) + (m % 10 + n % 10) := by unfold bcd cN; simp; omega
  have e2 : bcd m % 16 + bcd n % 16 + cN false = m % 10 + n % 10 := by rw [ha, hb]; simp [cN]
  have e3 : m + n = 10 * (m / 10 + n / 10) + (m % 10 + n % 10) := by omega
  rw [hF, h7]
  unfold daaR daaD
  rw [h3, h6, h7]
  unfold addR
  rw [e1, e2, e3]
  simpa only [sumOk, Bool.and_eq_true, beq_iff_eq, Bool.false_eq_true, if_false] using hs
theorem digits_sub (m n : Int) (m0 : 0 ≤ m) (m1 : m ≤ 99) (n0 : 0 ≤ n) (n1 : n ≤ 99) :
    daaR (subR (bcd m) (bcd n) false) (subF (bcd m) (bcd n) false) = bcd ((m - n + 100) % 100) ∧ bitN (daaF (subR (bcd m) (bcd n) false) (subF (bcd m) (bcd n) false)) 7 = decide (m - n < 0) := by
  have h3 : bitN (subF (bcd m) (bcd n) false) 3 = decide (bcd m % 16 - bcd n % 16 - cN false < 0) := (bit_flags _ _ _ _ _ _ _ _).2.2.2.1
  have h6 : bitN (subF (bcd m) (bcd n) false) 6 = true := (bit_flags _ _ _ _ _ _ _ _).2.2.2.2.2.2.1
  have h7 : bitN (subF (bcd m) (bcd n) false) 7 = decide (bcd m - bcd n - cN false < 0) := (bit_flags _ _ _ _ _ _ _ _).2.2.2.2.2.2.2
  have hF : ∀ a f, bitN (daaF a f) 7 = (bitN f 7 || decide (153 < a)) := fun a f => (bit_flags _ _ _ _ _ _ _ _).2.2.2.2.2.2.2
  have ha : bcd m % 16 = m % 10 := by unfold bcd; omega
  have hb : bcd n % 16 = n % 10 := by unfold bcd; omega
  have hs := difOk_at (m % 10 - n % 10) (m / 10 - n / 10) (by omega) (by omega) (by omega) (by omega)
  have e1 : bcd m - bcd n - cN false = 16 * (m / 10 - n / 10) + (m % 10 - n % 10) := by unfold bcd cN; simp; omega
  have e2 : bcd m % 16 - bcd n % 16 - cN false = m % 10 - n % 10 := by rw [ha, hb]; simp [cN]
  have e3 : m - n = 10 * (m / 10 - n / 10) + (m % 10 - n % 10) := by omega
  rw [hF, h7]
  unfold daaR daaD
  rw [h3, h6, h7]
  unfold subR
  rw [e1, e2, e3]
  simpa only [difOk, Bool.and_eq_true, beq_iff_eq, if_true] using hs

theorem daaF_bd (a f : Int) : 0 ≤ daaF a f ∧ daaF a f ≤ 255 := flags_bd _ _ _ _ _ _ _ _
theorem bit_is (b k : Int) (r : Bool) (w : World) (h0 : 0 ≤ b) (h1 : b ≤ 255) (k0 : 0 ≤ k) (k7 : k ≤ 7) (h : bitN b (7 - k.toNat) = r) :
    Calls Try.prog 35 #[.int .u8 b, .int .i64 k] w fun e w' => e = .returned (.bool r) ∧ Below w.heap.size w w' := by
  subst h; exact bit_any b k w h0 h1 k0 k7

set_option maxRecDepth 100000 in
set_option maxHeartbeats 6400000 in
theorem aluDigits_walk (m n : Int) (c : Bool) (_w0 : (Lit.int .i64 m).wf = true) (_w1 : (Lit.int .i64 n).wf = true) (w : World) :
    Calls Try.prog 8 #[.int .i64 m, .int .i64 n, .bool c] w fun e w' => e = .returned (.bool true) ∧ Below w.heap.size w w' := by
  clear _w0 _w1
  go_enter Try.func8, Try.ntmps8
  go_upto_region 1 with fail
  go_cut [0] (fun s wx => ∃ M : Int, 0 ≤ M ∧ M ≤ 99 ∧ s = .int .i64 M ∧ w = wx)
  case first =>
    go_wp2_with fail
    all_goals (go_meet; exact ⟨_, by omega, by omega, rfl, rfl⟩)
  case rest =>
    obtain ⟨M, m0, m1, rfl, rfl⟩ := hcut
    go_upto_region 2 with fail
    go_cut [1] (fun s wx => ∃ N : Int, 0 ≤ N ∧ N ≤ 99 ∧ s = .int .i64 N ∧ w = wx)
    case first =>
      go_wp2_with fail
      all_goals (go_meet; exact ⟨_, by omega, by omega, rfl, rfl⟩)
    case rest =>
      obtain ⟨N, n0, n1, rfl, rfl⟩ := hcut
      cases c
      · by_cases h : 99 < M + N
        · have d1 : decide (M + N < 0) = false := decide_eq_false (by omega)
          have d2 : decide (99 < M + N) = true := decide_eq_true h
          have HD := Lib.hid (show daaR (addR (M / 10 * 16 + M % 10) (N / 10 * 16 + N % 10) false) (addF (M / 10 * 16 + M % 10) (N / 10 * 16 + N % 10) false) = (M + N + 100) % 100 / 10 * 16 + (M + N + 100) % 100 % 10 from (digits_add M N m0 m1 n0 n1).1)
          have HB := Lib.hid (show bitN (daaF (addR (M / 10 * 16 + M % 10) (N / 10 * 16 + N % 10) false) (addF (M / 10 * 16 + M % 10) (N / 10 * 16 + N % 10) false)) 7 = true from (digits_add M N m0 m1 n0 n1).2.trans d2)
          obtain ⟨r0, r1⟩ := addR_bd (M / 10 * 16 + M % 10) (N / 10 * 16 + N % 10) false
          obtain ⟨f0, f1⟩ := addF_bd (M / 10 * 16 + M % 10) (N / 10 * 16 + N % 10) false
          have G0 := Lib.hid (daaF_bd (addR (M / 10 * 16 + M % 10) (N / 10 * 16 + N % 10) false) (addF (M / 10 * 16 + M % 10) (N / 10 * 16 + N % 10) false))
          have E0 : 0 ≤ (M + N + 100) % 100 ∧ (M + N + 100) % 100 ≤ 99 := by omega
          obtain ⟨E1, E2⟩ := E0
          clear h
          go_wp2_with fail
          refine (add_any _ _ _ _ (by omega) (by omega) (by omega) (by omega)).mono ?_
          rintro e w1 ⟨rfl, hb1⟩
          go_wp2_with fail
          refine (daa_is _ _ _ _ _ r0 r1 f0 f1 HD.out rfl).mono ?_
          rintro e w3 ⟨rfl, hb3⟩
          go_wp2_with fail
          refine (bit_is _ 0 _ _ G0.out.1 G0.out.2 (by decide) (by decide) HB.out).mono ?_
          rintro e w4 ⟨rfl, hb4⟩
          go_wp2_with fail
          refine (lives2_any _).mono ?_
          rintro e w5 ⟨rfl, hb5⟩
          go_wp2_with fail
          go_ret
          exact ⟨rfl, below_step (below_step (below_step (hb1) hb3) hb4) hb5⟩
        · have d1 : decide (M + N < 0) = false := decide_eq_false (by omega)
          have d2 : decide (99 < M + N) = false := decide_eq_false h
          have HD := Lib.hid (show daaR (addR (M / 10 * 16 + M % 10) (N / 10 * 16 + N % 10) false) (addF (M / 10 * 16 + M % 10) (N / 10 * 16 + N % 10) false) = (M + N + 100) % 100 / 10 * 16 + (M + N + 100) % 100 % 10 from (digits_add M N m0 m1 n0 n1).1)
          have HB := Lib.hid (show bitN (daaF (addR (M / 10 * 16 + M % 10) (N / 10 * 16 + N % 10) false) (addF (M / 10 * 16 + M % 10) (N / 10 * 16 + N % 10) false)) 7 = false from (digits_add M N m0 m1 n0 n1).2.trans d2)
          obtain ⟨r0, r1⟩ := addR_bd (M / 10 * 16 + M % 10) (N / 10 * 16 + N % 10) false
          obtain ⟨f0, f1⟩ := addF_bd (M / 10 * 16 + M % 10) (N / 10 * 16 + N % 10) false
          have G0 := Lib.hid (daaF_bd (addR (M / 10 * 16 + M % 10) (N / 10 * 16 + N % 10) false) (addF (M / 10 * 16 + M % 10) (N / 10 * 16 + N % 10) false))
          have E0 : 0 ≤ (M + N + 100) % 100 ∧ (M + N + 100) % 100 ≤ 99 := by omega
          obtain ⟨E1, E2⟩ := E0
          clear h
          go_wp2_with fail
          refine (add_any _ _ _ _ (by omega) (by omega) (by omega) (by omega)).mono ?_
          rintro e w1 ⟨rfl, hb1⟩
          go_wp2_with fail
          refine (daa_is _ _ _ _ _ r0 r1 f0 f1 HD.out rfl).mono ?_
          rintro e w3 ⟨rfl, hb3⟩
          go_wp2_with fail
          refine (bit_is _ 0 _ _ G0.out.1 G0.out.2 (by decide) (by decide) HB.out).mono ?_
          rintro e w4 ⟨rfl, hb4⟩
          go_wp2_with fail
          refine (lives2_any _).mono ?_
          rintro e w5 ⟨rfl, hb5⟩
          go_wp2_with fail
          go_ret
          exact ⟨rfl, below_step (below_step (below_step (hb1) hb3) hb4) hb5⟩
      · by_cases h : M - N < 0
        · have d1 : decide (99 < M - N) = false := decide_eq_false (by omega)
          have d2 : decide (M - N < 0) = true := decide_eq_true h
          have HD := Lib.hid (show daaR (subR (M / 10 * 16 + M % 10) (N / 10 * 16 + N % 10) false) (subF (M / 10 * 16 + M % 10) (N / 10 * 16 + N % 10) false) = (M - N + 100) % 100 / 10 * 16 + (M - N + 100) % 100 % 10 from (digits_sub M N m0 m1 n0 n1).1)
          have HB := Lib.hid (show bitN (daaF (subR (M / 10 * 16 + M % 10) (N / 10 * 16 + N % 10) false) (subF (M / 10 * 16 + M % 10) (N / 10 * 16 + N % 10) false)) 7 = true from (digits_sub M N m0 m1 n0 n1).2.trans d2)
          obtain ⟨r0, r1⟩ := subR_bd (M / 10 * 16 + M % 10) (N / 10 * 16 + N % 10) false
          obtain ⟨f0, f1⟩ := subF_bd (M / 10 * 16 + M % 10) (N / 10 * 16 + N % 10) false
          have G0 := Lib.hid (daaF_bd (subR (M / 10 * 16 + M % 10) (N / 10 * 16 + N % 10) false) (subF (M / 10 * 16 + M % 10) (N / 10 * 16 + N % 10) false))
          have E0 : 0 ≤ (M - N + 100) % 100 ∧ (M - N + 100) % 100 ≤ 99 := by omega
          obtain ⟨E1, E2⟩ := E0
          clear h
          go_wp2_with fail
          refine (add_any _ _ _ _ (by omega) (by omega) (by omega) (by omega)).mono ?_
          rintro e w1 ⟨rfl, hb1⟩
          go_wp2_with fail
          refine (sub_any _ _ _ _ (by omega) (by omega) (by omega) (by omega)).mono ?_
          rintro e w2 ⟨rfl, hb2⟩
          go_wp2_with fail
          refine (daa_is _ _ _ _ _ r0 r1 f0 f1 HD.out rfl).mono ?_
          rintro e w3 ⟨rfl, hb3⟩
          go_wp2_with fail
          refine (bit_is _ 0 _ _ G0.out.1 G0.out.2 (by decide) (by decide) HB.out).mono ?_
          rintro e w4 ⟨rfl, hb4⟩
          go_wp2_with fail
          refine (lives2_any _).mono ?_
          rintro e w5 ⟨rfl, hb5⟩
          go_wp2_with fail
          go_ret
          exact ⟨rfl, below_step (below_step (below_step (below_step hb1 hb2) hb3) hb4) hb5⟩
        · have d1 : decide (99 < M - N) = false := decide_eq_false (by omega)
          have d2 : decide (M - N < 0) = false := decide_eq_false h
          have HD := Lib.hid (show daaR (subR (M / 10 * 16 + M % 10) (N / 10 * 16 + N % 10) false) (subF (M / 10 * 16 + M % 10) (N / 10 * 16 + N % 10) false) = (M - N + 100) % 100 / 10 * 16 + (M - N + 100) % 100 % 10 from (digits_sub M N m0 m1 n0 n1).1)
          have HB := Lib.hid (show bitN (daaF (subR (M / 10 * 16 + M % 10) (N / 10 * 16 + N % 10) false) (subF (M / 10 * 16 + M % 10) (N / 10 * 16 + N % 10) false)) 7 = false from (digits_sub M N m0 m1 n0 n1).2.trans d2)
          obtain ⟨r0, r1⟩ := subR_bd (M / 10 * 16 + M % 10) (N / 10 * 16 + N % 10) false
          obtain ⟨f0, f1⟩ := subF_bd (M / 10 * 16 + M % 10) (N / 10 * 16 + N % 10) false
          have G0 := Lib.hid (daaF_bd (subR (M / 10 * 16 + M % 10) (N / 10 * 16 + N % 10) false) (subF (M / 10 * 16 + M % 10) (N / 10 * 16 + N % 10) false))
          have E0 : 0 ≤ (M - N + 100) % 100 ∧ (M - N + 100) % 100 ≤ 99 := by omega
          obtain ⟨E1, E2⟩ := E0
          clear h
          go_wp2_with fail
          refine (add_any _ _ _ _ (by omega) (by omega) (by omega) (by omega)).mono ?_
          rintro e w1 ⟨rfl, hb1⟩
          go_wp2_with fail
          refine (sub_any _ _ _ _ (by omega) (by omega) (by omega) (by omega)).mono ?_
          rintro e w2 ⟨rfl, hb2⟩
          go_wp2_with fail
          refine (daa_is _ _ _ _ _ r0 r1 f0 f1 HD.out rfl).mono ?_
          rintro e w3 ⟨rfl, hb3⟩
          go_wp2_with fail
          refine (bit_is _ 0 _ _ G0.out.1 G0.out.2 (by decide) (by decide) HB.out).mono ?_
          rintro e w4 ⟨rfl, hb4⟩
          go_wp2_with fail
          refine (lives2_any _).mono ?_
          rintro e w5 ⟨rfl, hb5⟩
          go_wp2_with fail
          go_ret
          exact ⟨rfl, below_step (below_step (below_step (below_step hb1 hb2) hb3) hb4) hb5⟩

end Go.Proofs.Ytndnadcmekjmnaa
