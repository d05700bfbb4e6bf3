/- The contracts of layer 2's calls. -/
import Derived.Test.YtbpmhbgdainpdaaAluMath
import Derived.Test.YtbpmhbgdainpdaaFlagRefEven
namespace Go.Proofs.Ytbpmhbgdainpdaa
open Go.RowKit

/-- The slice v has these pairs of a bit and a truth, two cells each. -/
def PairsAt (w : World) (v : Value) (l : List (Int × Bool)) : Prop :=
  ∃ g cap, v = .slice (some ⟨g, 0, none⟩) l.length cap ∧ g < w.heap.size ∧ l.length ≤ cap ∧ cap ≤ maxLen ∧
    ∀ i (h : i < l.length), w.cell? ⟨g, i * 2, none⟩ = some (.int .u8 l[i].1) ∧ w.cell? ⟨g, i * 2 + 1, none⟩ = some (.bool l[i].2)

theorem pairsAt1 (w : World) (t : TypeId) (a : Int) (b : Bool) : PairsAt (w.alloc (.cells #[.int .u8 a, .bool b] t)) (.slice (some ⟨w.heap.size, 0, none⟩) 1 1) [(a, b)] := by
  refine ⟨w.heap.size, 1, rfl, by simp, by simp, by simp [maxLen], fun i hi => ?_⟩
  obtain rfl : i = 0 := by simp at hi; omega
  simp
theorem pairsAt2 (w : World) (t : TypeId) (a c : Int) (b d : Bool) : PairsAt (w.alloc (.cells #[.int .u8 a, .bool b, .int .u8 c, .bool d] t)) (.slice (some ⟨w.heap.size, 0, none⟩) 2 2) [(a, b), (c, d)] := by
  refine ⟨w.heap.size, 2, rfl, by simp, by simp, by simp [maxLen], fun i hi => ?_⟩
  have hi' : i = 0 ∨ i = 1 := by simp at hi; omega
  rcases hi' with rfl | rfl <;> simp
theorem pairsAt3 (w : World) (t : TypeId) (a c e : Int) (b d f : Bool) : PairsAt (w.alloc (.cells #[.int .u8 a, .bool b, .int .u8 c, .bool d, .int .u8 e, .bool f] t)) (.slice (some ⟨w.heap.size, 0, none⟩) 3 3) [(a, b), (c, d), (e, f)] := by
  refine ⟨w.heap.size, 3, rfl, by simp, by simp, by simp [maxLen], fun i hi => ?_⟩
  have hi' : i = 0 ∨ i = 1 ∨ i = 2 := by simp at hi; omega
  rcases hi' with rfl | rfl | rfl <;> simp
theorem pairsAt4 (w : World) (t : TypeId) (a c e g : Int) (b d f h : Bool) : PairsAt (w.alloc (.cells #[.int .u8 a, .bool b, .int .u8 c, .bool d, .int .u8 e, .bool f, .int .u8 g, .bool h] t)) (.slice (some ⟨w.heap.size, 0, none⟩) 4 4) [(a, b), (c, d), (e, f), (g, h)] := by
  refine ⟨w.heap.size, 4, rfl, by simp, by simp, by simp [maxLen], fun i hi => ?_⟩
  have hi' : i = 0 ∨ i = 1 ∨ i = 2 ∨ i = 3 := by simp at hi; omega
  rcases hi' with rfl | rfl | rfl | rfl <;> simp

set_option maxHeartbeats 800000 in
theorem put_any (f : Int) (l : List (Int × Bool)) (v : Value) (w : World) (hl : l.length ≤ 8) (hv : PairsAt w v l) :
    Calls Try.prog 36 #[.int .u8 f, v] w fun e w' => e = .returned (.int .u8 (putB f l)) ∧ Below w.heap.size w w' := by
  obtain ⟨g, cap, rfl, hg, hc, hm, hcell⟩ := hv
  have HC := Lib.hid hcell
  clear hcell
  unfold maxLen at hm
  go_enter Try.func36, Try.ntmps36
  go_wp2_with fail
  go_loopw [0, 9] (fun a i wr => ∃ k : Nat, k ≤ l.length ∧ i = .int .i64 k ∧ a = .int .u8 (putB f (l.take k)) ∧ Below w.heap.size w wr) (fun _ i _ => l.length - (intOf i).toNat)
  case atStart => exact ⟨0, by omega, rfl, rfl, Below.refl _ _⟩
  case round =>
    obtain ⟨k, hk, rfl, rfl, hb⟩ := hrel
    have hs := hb.size
    by_cases hlt : k < l.length
    · obtain ⟨h1, h2⟩ := HC.out k hlt
      have c1 := (hb.cell (p := ⟨g, k * 2, none⟩) hg).trans h1
      have c2 := (hb.cell (p := ⟨g, k * 2 + 1, none⟩) hg).trans h2
      clear h1 h2
      have HS := Lib.hid (putB_take_succ f l k hlt)
      generalize l[k].1 = bt at *
      generalize l[k].2 = on at *
      generalize putB f (l.take k) = fk at *
      go_wp2_with fail
      refine (with_any _ _ _ _).mono ?_
      rintro e w' ⟨rfl, rfl⟩
      go_wp2_with fail
      go_roundw
      case rel => exact ⟨k + 1, by omega, by go_num, by rw [HS.out], hb.alloc hs _⟩
      case measure => simp [intOf]; omega
    · obtain rfl : k = l.length := by omega
      have HT := Lib.hid (show l.take l.length = l from List.take_length)
      rw [HT.out]
      go_wp2_with fail
      go_ret
      exact ⟨rfl, hb⟩

set_option maxHeartbeats 400000 in
theorem one_any (c : Bool) (w : World) : Calls Try.prog 34 #[.bool c] w fun e w' => e = .returned (.int .i64 (cN c)) ∧ w = w' := by
  cases c
  all_goals
    go_enter Try.func34, Try.ntmps34
    go_wp2_with fail
    go_ret
    exact ⟨rfl, rfl⟩
set_option maxHeartbeats 400000 in
theorem low_any (a : Int) (w : World) (h0 : 0 ≤ a) (h1 : a ≤ 255) : Calls Try.prog 35 #[.int .u8 a] w fun e w' => e = .returned (.int .u8 (a % 16)) ∧ w = w' := by
  go_enter Try.func35, Try.ntmps35
  go_wp2_with fail
  go_ret
  exact ⟨rfl, rfl⟩
set_option maxHeartbeats 400000 in
theorem outside_any (n : Int) (w : World) : Calls Try.prog 37 #[.int .i64 n] w fun e w' => e = .returned (.bool (outB n)) ∧ w = w' := by
  unfold outB
  by_cases h : n < -128
  · have hd : decide (n < -128) = true := decide_eq_true h
    go_enter Try.func37, Try.ntmps37
    go_wp2_with fail
    go_ret
    exact ⟨by simp [h], rfl⟩
  · have hd : decide (n < -128) = false := decide_eq_false h
    go_enter Try.func37, Try.ntmps37
    go_wp2_with fail
    go_ret
    exact ⟨by simp, rfl⟩

/-- 'put' of a list that the call makes: what the walk meets. -/
theorem put1 (f r a : Int) (b : Bool) (t : TypeId) (w : World) (h : putB f [(a, b)] = r) :
    Calls Try.prog 36 #[.int .u8 f, .slice (some ⟨w.heap.size, 0, none⟩) 1 1] (w.alloc (.cells #[.int .u8 a, .bool b] t)) fun e w' => e = .returned (.int .u8 r) ∧ Below w.heap.size w w' := by
  subst h
  exact (put_any f _ _ _ (by simp) (pairsAt1 w t a b)).mono fun e w' ⟨h1, h2⟩ => ⟨h1, ((Below.refl _ _).alloc (Nat.le_refl _) _).trans (h2.mono (by simp))⟩
theorem put2 (f r a c : Int) (b d : Bool) (t : TypeId) (w : World) (h : putB f [(a, b), (c, d)] = r) :
    Calls Try.prog 36 #[.int .u8 f, .slice (some ⟨w.heap.size, 0, none⟩) 2 2] (w.alloc (.cells #[.int .u8 a, .bool b, .int .u8 c, .bool d] t)) fun e w' => e = .returned (.int .u8 r) ∧ Below w.heap.size w w' := by
  subst h
  exact (put_any f _ _ _ (by simp) (pairsAt2 w t a c b d)).mono fun e w' ⟨h1, h2⟩ => ⟨h1, ((Below.refl _ _).alloc (Nat.le_refl _) _).trans (h2.mono (by simp))⟩
theorem put3 (f r a c e : Int) (b d g : Bool) (t : TypeId) (w : World) (h : putB f [(a, b), (c, d), (e, g)] = r) :
    Calls Try.prog 36 #[.int .u8 f, .slice (some ⟨w.heap.size, 0, none⟩) 3 3] (w.alloc (.cells #[.int .u8 a, .bool b, .int .u8 c, .bool d, .int .u8 e, .bool g] t)) fun e w' => e = .returned (.int .u8 r) ∧ Below w.heap.size w w' := by
  subst h
  exact (put_any f _ _ _ (by simp) (pairsAt3 w t a c e b d g)).mono fun e w' ⟨h1, h2⟩ => ⟨h1, ((Below.refl _ _).alloc (Nat.le_refl _) _).trans (h2.mono (by simp))⟩
theorem put4 (f r a c e i : Int) (b d g j : Bool) (t : TypeId) (w : World) (h : putB f [(a, b), (c, d), (e, g), (i, j)] = r) :
    Calls Try.prog 36 #[.int .u8 f, .slice (some ⟨w.heap.size, 0, none⟩) 4 4] (w.alloc (.cells #[.int .u8 a, .bool b, .int .u8 c, .bool d, .int .u8 e, .bool g, .int .u8 i, .bool j] t)) fun e w' => e = .returned (.int .u8 r) ∧ Below w.heap.size w w' := by
  subst h
  exact (put_any f _ _ _ (by simp) (pairsAt4 w t a c e i b d g j)).mono fun e w' ⟨h1, h2⟩ => ⟨h1, ((Below.refl _ _).alloc (Nat.le_refl _) _).trans (h2.mono (by simp))⟩

set_option maxHeartbeats 800000 in
theorem sub_any (a b : Int) (c : Bool) (w : World) (a0 : 0 ≤ a) (a1 : a ≤ 255) (b0 : 0 ≤ b) (b1 : b ≤ 255) :
    Calls Try.prog 23 #[.int .u8 a, .int .u8 b, .bool c] w fun e w' => e = .returned (.tuple #[.int .u8 (subR a b c), .int .u8 (subF a b c)]) ∧ Below w.heap.size w w' := by
  obtain ⟨c0, c1⟩ := cN_bd c
  obtain ⟨s0, s1⟩ := sgn_bd a a0 a1
  obtain ⟨t0, t1⟩ := sgn_bd b b0 b1
  have ea := wrap_i8 a a0 a1
  have eb := wrap_i8 b b0 b1
  have HP := Lib.hid (sub_put a b c)
  go_enter Try.func23, Try.ntmps23
  go_wp2_with fail
  refine (one_any _ _).mono ?_
  rintro e w' ⟨rfl, rfl⟩
  go_wp2_with fail
  refine (low_any _ _ a0 a1).mono ?_
  rintro e w' ⟨rfl, rfl⟩
  go_wp2_with fail
  refine (low_any _ _ b0 b1).mono ?_
  rintro e w' ⟨rfl, rfl⟩
  go_wp2_with fail
  refine (of_any _ _).mono ?_
  rintro e w' ⟨rfl, rfl⟩
  go_wp2_with fail
  refine (outside_any _ _).mono ?_
  rintro e w' ⟨rfl, rfl⟩
  go_wp2_with fail
  refine (put4 _ _ _ _ _ _ _ _ _ _ _ _ HP.out).mono ?_
  rintro e w1 ⟨rfl, hb1⟩
  go_wp2_with fail
  go_ret2
  exact ⟨rfl, hb1⟩

end Go.Proofs.Ytbpmhbgdainpdaa
