/- op.cut, Memory: their contracts. -/
import Derived.Test.YthmkfojjlcinkaaDoorOpCut
namespace Go.Proofs.YthmkfojjlcinkaaDoor
open Go.RowKit

/-- x, y, z, p, q are the parts of c. -/
def Pts (c : Nat) (x y z p q : Int) : Prop := x = ((c / 64 : Nat) : Int) ∧ y = ((c / 8 % 8 : Nat) : Int) ∧ z = ((c % 8 : Nat) : Int) ∧ p = ((c / 8 % 8 / 2 : Nat) : Int) ∧ q = ((c / 8 % 2 : Nat) : Int)
theorem cut_is (c : Nat) (x y z p q : Int) (w : World) (hc : c < 256) (h : Pts c x y z p q) : Calls Tryd.prog 45 #[.int .u8 c] w fun e w' => e = .returned (.agg #[.int .u8 x, .int .u8 y, .int .u8 z, .int .u8 p, .int .u8 q]) ∧ Below w.heap.size w w' := by
  obtain ⟨rfl, rfl, rfl, rfl, rfl⟩ := h
  exact opCut c w hc
theorem pts (c : Nat) : ∃ x y z p q : Int, Pts c x y z p q := ⟨_, _, _, _, _, rfl, rfl, rfl, rfl, rfl⟩
theorem Pts.bd {c : Nat} {x y z p q : Int} (h : Pts c x y z p q) (hc : c < 256) : (0 ≤ x ∧ x ≤ 3) ∧ (0 ≤ y ∧ y ≤ 7) ∧ (0 ≤ z ∧ z ≤ 7) ∧ (0 ≤ p ∧ p ≤ 3) ∧ (0 ≤ q ∧ q ≤ 1) ∧ y = 2 * p + q := by
  obtain ⟨h1, h2, h3, h4, h5⟩ := h; omega

theorem mem_is (c : Nat) (x y z p q : Int) (h : Pts c x y z p q) : memC c = (if x = 0 then y == 6 && (decide (4 ≤ z) && decide (z ≤ 6)) else if x = 1 then c != 118 && (y == 6 || z == 6) else if x = 2 then z == 6 else false) := by
  obtain ⟨h1, h2, h3, h4, h5⟩ := h
  subst h1 h2 h3
  unfold memC
  have e (n k : Nat) : ((n : Int) == (k : Int)) = (n == k) := by rw [Bool.eq_iff_iff, beq_iff_eq, beq_iff_eq]; omega
  have d1 (n k : Nat) : decide ((k : Int) ≤ (n : Int)) = decide (k ≤ n) := by rw [decide_eq_decide]; omega
  have i (n k : Nat) : ((n : Int) = (k : Int)) = (n = k) := by rw [eq_iff_iff]; omega
  have e6 := e (c / 8 % 8) 6
  have e7 := e (c % 8) 6
  have d4 := d1 (c % 8) 4
  have d6 := d1 6 (c % 8)
  have i0 := i (c / 64) 0
  have i1 := i (c / 64) 1
  have i2 := i (c / 64) 2
  simp only [Int.cast_ofNat_Int] at e6 e7 d4 d6 i0 i1 i2
  rw [e6, e7, d4, d6]
  simp only [i0, i1, i2]

set_option maxHeartbeats 800000 in
theorem opMemCore (c : Nat) (x y z p q : Int) (w : World) (hc : c < 256) (h : Pts c x y z p q) (r : Bool) (hr : memC c = r) : Calls Tryd.prog 25 #[.int .u8 c] w fun e w' => e = .returned (.bool r) ∧ Below w.heap.size w w' := by
  obtain ⟨⟨x0, x1⟩, ⟨y0, y1⟩, ⟨z0, z1⟩, -⟩ := h.bd hc
  have hm := mem_is c x y z p q h
  rw [hr] at hm
  clear hr
  have hx : x = 0 ∨ x = 1 ∨ x = 2 ∨ x = 3 := by omega
  rcases hx with rfl | rfl | rfl | rfl
  · simp only [if_true] at hm
    by_cases a : (y == 6) = true
    · by_cases b : decide (4 ≤ z) = true
      · rw [a, b] at hm
        simp only [Bool.true_and] at hm
        have M := Lib.hid hm
        have H := Lib.hid h
        clear hm h
        go_enter Tryd.func25, Tryd.ntmps25
        go_wp2_with fail
        refine (cut_is _ _ _ _ _ _ _ hc H.out).mono ?_
        rintro e w1 ⟨rfl, hb1⟩
        go_wp2_with fail
        go_ret
        exact ⟨by rw [M.out]; rfl, hb1.alloc hb1.size _⟩
      · have b' : decide (4 ≤ z) = false := by simpa using b
        rw [a, b'] at hm
        simp only [Bool.true_and, Bool.false_and] at hm
        have M := Lib.hid hm
        have H := Lib.hid h
        clear hm h b
        go_enter Tryd.func25, Tryd.ntmps25
        go_wp2_with fail
        refine (cut_is _ _ _ _ _ _ _ hc H.out).mono ?_
        rintro e w1 ⟨rfl, hb1⟩
        go_wp2_with fail
        go_ret
        exact ⟨by rw [M.out]; rfl, hb1.alloc hb1.size _⟩
    · have a' : (y == 6) = false := by simpa using a
      rw [a'] at hm
      simp only [Bool.false_and] at hm
      have M := Lib.hid hm
      have H := Lib.hid h
      clear hm h a
      go_enter Tryd.func25, Tryd.ntmps25
      go_wp2_with fail
      refine (cut_is _ _ _ _ _ _ _ hc H.out).mono ?_
      rintro e w1 ⟨rfl, hb1⟩
      go_wp2_with fail
      go_ret
      exact ⟨by rw [M.out]; rfl, hb1.alloc hb1.size _⟩
  · simp only [show ¬ ((1 : Int) = 0) by decide, if_true, if_false] at hm
    by_cases a : c = 118
    · rw [show (c != 118) = false by simp [a]] at hm
      simp only [Bool.false_and] at hm
      have M := Lib.hid hm
      have H := Lib.hid h
      subst a
      clear hm h
      go_enter Tryd.func25, Tryd.ntmps25
      go_wp2_with fail
      refine (cut_is _ _ _ _ _ _ _ hc H.out).mono ?_
      rintro e w1 ⟨rfl, hb1⟩
      go_wp2_with fail
      go_ret
      exact ⟨by rw [M.out]; rfl, hb1.alloc hb1.size _⟩
    · rw [show (c != 118) = true by simp [a]] at hm
      have a' : ((c : Int) == 118) = false := by simp; omega
      have a'' : ((c : Int) != 118) = true := by simp; omega
      simp only [Bool.true_and] at hm
      by_cases b : (y == 6) = true
      · rw [b] at hm
        have M := Lib.hid hm
        have H := Lib.hid h
        clear hm h a
        go_enter Tryd.func25, Tryd.ntmps25
        go_wp2_with fail
        refine (cut_is _ _ _ _ _ _ _ hc H.out).mono ?_
        rintro e w1 ⟨rfl, hb1⟩
        go_wp2_with fail
        go_ret
        exact ⟨by rw [M.out]; rfl, hb1.alloc hb1.size _⟩
      · have b' : (y == 6) = false := by simpa using b
        rw [b'] at hm
        simp only [Bool.false_or] at hm
        have M := Lib.hid hm
        have H := Lib.hid h
        clear hm h b a
        go_enter Tryd.func25, Tryd.ntmps25
        go_wp2_with fail
        refine (cut_is _ _ _ _ _ _ _ hc H.out).mono ?_
        rintro e w1 ⟨rfl, hb1⟩
        go_wp2_with fail
        go_ret
        exact ⟨by rw [M.out]; rfl, hb1.alloc hb1.size _⟩
  · simp only [show ¬ ((2 : Int) = 0) by decide, show ¬ ((2 : Int) = 1) by decide, if_true, if_false] at hm
    have M := Lib.hid hm
    have H := Lib.hid h
    clear hm h
    go_enter Tryd.func25, Tryd.ntmps25
    go_wp2_with fail
    refine (cut_is _ _ _ _ _ _ _ hc H.out).mono ?_
    rintro e w1 ⟨rfl, hb1⟩
    go_wp2_with fail
    go_ret
    exact ⟨by rw [M.out]; rfl, hb1.alloc hb1.size _⟩
  · simp only [show ¬ ((3 : Int) = 0) by decide, show ¬ ((3 : Int) = 1) by decide, show ¬ ((3 : Int) = 2) by decide, if_false] at hm
    have M := Lib.hid hm
    have H := Lib.hid h
    clear hm h
    go_enter Tryd.func25, Tryd.ntmps25
    go_wp2_with fail
    refine (cut_is _ _ _ _ _ _ _ hc H.out).mono ?_
    rintro e w1 ⟨rfl, hb1⟩
    go_wp2_with fail
    go_ret
    exact ⟨by rw [M.out]; rfl, hb1.alloc hb1.size _⟩
theorem opMem (c : Nat) (w : World) (hc : c < 256) : Calls Tryd.prog 25 #[.int .u8 c] w fun e w' => e = .returned (.bool (memC c)) ∧ Below w.heap.size w w' := by
  obtain ⟨x, y, z, p, q, h⟩ := pts c
  exact opMemCore c x y z p q w hc h _ rfl
theorem opMemIs (c : Nat) (r : Bool) (w : World) (hc : c < 256) (h : memC c = r) : Calls Tryd.prog 25 #[.int .u8 c] w fun e w' => e = .returned (.bool r) ∧ Below w.heap.size w w' := by
  subst h; exact opMem c w hc

theorem z8 (z : Int) (h0 : 0 ≤ z) (h1 : z ≤ 7) : z = 0 ∨ z = 1 ∨ z = 2 ∨ z = 3 ∨ z = 4 ∨ z = 5 ∨ z = 6 ∨ z = 7 := by omega
theorem ypq (y p q : Int) (h0 : 0 ≤ y) (h1 : y ≤ 7) (q0 : 0 ≤ q) (q1 : q ≤ 1) (h : y = 2 * p + q) : y = 0 ∧ p = 0 ∧ q = 0 ∨ y = 1 ∧ p = 0 ∧ q = 1 ∨ y = 2 ∧ p = 1 ∧ q = 0 ∨ y = 3 ∧ p = 1 ∧ q = 1 ∨ y = 4 ∧ p = 2 ∧ q = 0 ∨ y = 5 ∧ p = 2 ∧ q = 1 ∨ y = 6 ∧ p = 3 ∧ q = 0 ∨ y = 7 ∧ p = 3 ∧ q = 1 := by
  rcases z8 y h0 h1 with rfl | rfl | rfl | rfl | rfl | rfl | rfl | rfl
  all_goals
    simp
    omega

end Go.Proofs.YthmkfojjlcinkaaDoor
