/- op.Args: its contract. -/
import Derived.Test.YthmkfojjlcinkaaDoorOpMem
namespace Go.Proofs.YthmkfojjlcinkaaDoor
open Go.RowKit


set_option maxHeartbeats 4000000 in
theorem argF_any (x y z p q : Int) (w : World) (y0 : 0 ≤ y) (y1 : y ≤ 7) (z0 : 0 ≤ z) (z1 : z ≤ 7) (q0 : 0 ≤ q) (q1 : q ≤ 1) (h : y = 2 * p + q) : Calls Tryd.prog 46 #[.agg #[.int .u8 x, .int .u8 y, .int .u8 z, .int .u8 p, .int .u8 q]] w fun e w' => e = .returned (.int .i64 ((argF y.toNat z.toNat p.toNat q.toNat : Nat) : Int)) ∧ Below w.heap.size w w' := by
  have e := ypq y p q y0 y1 q0 q1 h
  have f := z8 z z0 z1
  clear y0 y1 z0 z1 q0 q1 h
  rcases e with ⟨rfl, rfl, rfl⟩ | ⟨rfl, rfl, rfl⟩ | ⟨rfl, rfl, rfl⟩ | ⟨rfl, rfl, rfl⟩ | ⟨rfl, rfl, rfl⟩ | ⟨rfl, rfl, rfl⟩ | ⟨rfl, rfl, rfl⟩ | ⟨rfl, rfl, rfl⟩
  all_goals rcases f with rfl | rfl | rfl | rfl | rfl | rfl | rfl | rfl
  all_goals
    go_enter Tryd.func46, Tryd.ntmps46
    go_wp2_with fail
    go_ret
    exact ⟨rfl, (Below.refl _ _).alloc (Nat.le_refl _) _⟩

set_option maxHeartbeats 4000000 in
theorem argL_any (x y z p q : Int) (w : World) (y0 : 0 ≤ y) (y1 : y ≤ 7) (z0 : 0 ≤ z) (z1 : z ≤ 7) (q0 : 0 ≤ q) (q1 : q ≤ 1) (h : y = 2 * p + q) : Calls Tryd.prog 47 #[.agg #[.int .u8 x, .int .u8 y, .int .u8 z, .int .u8 p, .int .u8 q]] w fun e w' => e = .returned (.int .i64 ((argL y.toNat z.toNat : Nat) : Int)) ∧ Below w.heap.size w w' := by
  have e := ypq y p q y0 y1 q0 q1 h
  have f := z8 z z0 z1
  clear y0 y1 z0 z1 q0 q1 h
  rcases e with ⟨rfl, rfl, rfl⟩ | ⟨rfl, rfl, rfl⟩ | ⟨rfl, rfl, rfl⟩ | ⟨rfl, rfl, rfl⟩ | ⟨rfl, rfl, rfl⟩ | ⟨rfl, rfl, rfl⟩ | ⟨rfl, rfl, rfl⟩ | ⟨rfl, rfl, rfl⟩
  all_goals rcases f with rfl | rfl | rfl | rfl | rfl | rfl | rfl | rfl
  all_goals
    go_enter Tryd.func47, Tryd.ntmps47
    go_wp2_with fail
    go_ret
    exact ⟨rfl, (Below.refl _ _).alloc (Nat.le_refl _) _⟩

set_option maxHeartbeats 800000 in
theorem opArgsCore (c : Nat) (x y z p q : Int) (w : World) (hc : c < 256) (h : Pts c x y z p q) (r : Nat) (hr : argC c = r) : Calls Tryd.prog 26 #[.int .u8 c] w fun e w' => e = .returned (.int .i64 (r : Int)) ∧ Below w.heap.size w w' := by
  obtain ⟨⟨x0, x1⟩, ⟨y0, y1⟩, ⟨z0, z1⟩, ⟨p0, p1⟩, ⟨q0, q1⟩, hy⟩ := h.bd hc
  have hm : argC c = if x = 0 then argF y.toNat z.toNat p.toNat q.toNat else if x = 3 then argL y.toNat z.toNat else 0 := by
    obtain ⟨h1, h2, h3, h4, h5⟩ := h
    subst h1 h2 h3 h4 h5
    unfold argC
    simp only [Int.toNat_natCast]
    have i0 : (((c / 64 : Nat) : Int) = 0) = (c / 64 = 0) := by rw [eq_iff_iff]; omega
    have i3 : (((c / 64 : Nat) : Int) = 3) = (c / 64 = 3) := by rw [eq_iff_iff]; omega
    simp only [i0, i3]
  rw [hr] at hm
  clear hr
  have HF := Lib.hid (fun (w : World) => argF_any x y z p q w y0 y1 z0 z1 q0 q1 hy)
  have HL := Lib.hid (fun (w : World) => argL_any x y z p q w y0 y1 z0 z1 q0 q1 hy)
  have H := Lib.hid h
  clear h hy
  have hx : x = 0 ∨ x = 1 ∨ x = 2 ∨ x = 3 := by omega
  rcases hx with rfl | rfl | rfl | rfl
  · simp only [if_true] at hm
    have M := Lib.hid hm
    clear hm
    go_enter Tryd.func26, Tryd.ntmps26
    go_wp2_with fail
    refine (cut_is _ _ _ _ _ _ _ hc H.out).mono ?_
    rintro e w1 ⟨rfl, hb1⟩
    go_wp2_with fail
    refine (HF.out _).mono ?_
    rintro e w2 ⟨rfl, hb2⟩
    go_wp2_with fail
    go_ret
    exact ⟨by rw [M.out]; rfl, (hb1.alloc hb1.size _).trans (hb2.mono (by simp; exact Nat.le_succ_of_le hb1.size))⟩
  · simp only [show ¬ ((1 : Int) = 0) by decide, show ¬ ((1 : Int) = 3) by decide, if_false] at hm
    have M := Lib.hid hm
    clear hm
    go_enter Tryd.func26, Tryd.ntmps26
    go_wp2_with fail
    refine (cut_is _ _ _ _ _ _ _ hc H.out).mono ?_
    rintro e w1 ⟨rfl, hb1⟩
    go_wp2_with fail
    go_ret
    exact ⟨by rw [M.out]; rfl, hb1.alloc hb1.size _⟩
  · simp only [show ¬ ((2 : Int) = 0) by decide, show ¬ ((2 : Int) = 3) by decide, if_false] at hm
    have M := Lib.hid hm
    clear hm
    go_enter Tryd.func26, Tryd.ntmps26
    go_wp2_with fail
    refine (cut_is _ _ _ _ _ _ _ hc H.out).mono ?_
    rintro e w1 ⟨rfl, hb1⟩
    go_wp2_with fail
    go_ret
    exact ⟨by rw [M.out]; rfl, hb1.alloc hb1.size _⟩
  · simp only [show ¬ ((3 : Int) = 0) by decide, if_false, if_true] at hm
    have M := Lib.hid hm
    clear hm
    go_enter Tryd.func26, Tryd.ntmps26
    go_wp2_with fail
    refine (cut_is _ _ _ _ _ _ _ hc H.out).mono ?_
    rintro e w1 ⟨rfl, hb1⟩
    go_wp2_with fail
    refine (HL.out _).mono ?_
    rintro e w2 ⟨rfl, hb2⟩
    go_wp2_with fail
    go_ret
    exact ⟨by rw [M.out]; rfl, (hb1.alloc hb1.size _).trans (hb2.mono (by simp; exact Nat.le_succ_of_le hb1.size))⟩
theorem opArgs (c : Nat) (w : World) (hc : c < 256) : Calls Tryd.prog 26 #[.int .u8 c] w fun e w' => e = .returned (.int .i64 (argC c : Int)) ∧ Below w.heap.size w w' := by
  obtain ⟨x, y, z, p, q, h⟩ := pts c
  exact opArgsCore c x y z p q w hc h _ rfl

end Go.Proofs.YthmkfojjlcinkaaDoor
