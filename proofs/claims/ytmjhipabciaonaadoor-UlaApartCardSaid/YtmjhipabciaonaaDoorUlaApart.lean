/- The last law of layer 9, walked: two cells have one address just if they are the same. -/
import Derived.Test.YtmjhipabciaonaaDoorUlaLaws
import Derived.Laws.StructEq
namespace Go.Proofs.YtmjhipabciaonaaDoor
open Go.RowKit

theorem pix_same {l c m d : Int} (h : cellB l c = true) (k : cellB m d = true) : (pixV l c == pixV m d) = (l == m && c == d) := by
  obtain ⟨h0, h1, h2, h3⟩ := cellB_of h
  obtain ⟨k0, k1, k2, k3⟩ := cellB_of k
  rw [Bool.eq_iff_iff]
  simp only [beq_iff_eq, Bool.and_eq_true]
  refine ⟨fun e => ?_, fun ⟨e, f⟩ => by rw [e, f]⟩
  unfold pixV at e
  have a1 : l = 64 * (l / 64) + 8 * (l / 8 % 8) + l % 8 := by omega
  have b1 : m = 64 * (m / 64) + 8 * (m / 8 % 8) + m % 8 := by omega
  have a2 : 0 ≤ l / 8 % 8 ∧ l / 8 % 8 < 8 ∧ 0 ≤ l % 8 ∧ l % 8 < 8 := by omega
  have b2 : 0 ≤ m / 8 % 8 ∧ m / 8 % 8 < 8 ∧ 0 ≤ m % 8 ∧ m % 8 < 8 := by omega
  generalize l / 64 = x at *
  generalize l / 8 % 8 = y at *
  generalize l % 8 = z at *
  generalize m / 64 = x' at *
  generalize m / 8 % 8 = y' at *
  generalize m % 8 = z' at *
  have e1 : c = d := by omega
  have e2 : y = y' := by omega
  have e3 : z = z' := by omega
  omega
theorem col_same {l c m d : Int} (h : cellB l c = true) (k : cellB m d = true) : (colV l c == colV m d) = (l / 8 == m / 8 && c == d) := by
  obtain ⟨h0, h1, h2, h3⟩ := cellB_of h
  obtain ⟨k0, k1, k2, k3⟩ := cellB_of k
  rw [Bool.eq_iff_iff]
  simp only [beq_iff_eq, Bool.and_eq_true]
  unfold colV
  omega
theorem pix_bd {l c : Int} (h : cellB l c = true) : 16384 ≤ pixV l c ∧ pixV l c < 22528 := by
  obtain ⟨h0, h1, h2, h3⟩ := cellB_of h
  unfold pixV; omega
theorem col_bd {l c : Int} (h : cellB l c = true) : 22528 ≤ colV l c ∧ colV l c < 23296 := by
  obtain ⟨h0, h1, h2, h3⟩ := cellB_of h
  unfold colV; omega

/-- Two pairs compared. -/
theorem run_eqPair (a b c d : Int) (w : World) : (Op.equalIn 10000 23 (.agg #[.int .i64 a, .int .i64 b]) (.agg #[.int .i64 c, .int .i64 d])).run Tryd.prog w = .ok (a == c && b == d) w := by
  have ht : Tryd.prog.underlying 23 = some (.array 2 3) := Tryd.underlying23
  have he : Tryd.prog.underlying 3 = some (.int .i64) := Tryd.underlying3
  have hsz : ∀ w, (sizeOf 3).run Tryd.prog w = .ok 1 w := fun _ => by kernel_rfl
  have p0 : ∀ (x y : Int) w, (part 3 #[.int .i64 x, .int .i64 y] 0).run Tryd.prog w = .ok (.int .i64 x) w := fun x y w => by simp [part, isAgg, run_underlying he]
  have p1 : ∀ (x y : Int) w, (part 3 #[.int .i64 x, .int .i64 y] 1).run Tryd.prog w = .ok (.int .i64 y) w := fun x y w => by simp [part, isAgg, run_underlying he]
  have pe : ∀ (x y : Int) w, (Op.equalIn 9999 3 (.int .i64 x) (.int .i64 y)).run Tryd.prog w = .ok (x == y) w := fun x y w => run_equalIn_int w 9998 _ .i64 .i64 x y he
  rw [Op.equalIn]
  simp only [Sem.run_bind, run_underlying ht, Result.andThen_ok, hsz, Std.Legacy.Range.forIn_eq_forIn_range', Std.Legacy.Range.size, Nat.sub_zero, Nat.add_sub_cancel, Nat.div_one]
  have r2 : List.range' 0 2 1 = [0, 1] := rfl
  rw [r2]
  simp only [List.forIn_cons, Nat.zero_mul, Nat.one_mul, Sem.run_bind, p0, pe, Result.andThen_ok]
  cases ha : (a == c) <;> cases hb : (b == d) <;> simp [p1, pe, hb]

set_option maxHeartbeats 3200000 in
theorem apart_at (l c m d p q r s : Int) (a b g : Bool) (w : World) (hT : Waits w) (HP : Hid (∀ w, Calls Tryd.prog 18 #[.int .i64 l, .int .i64 c] w fun e w' => e = .returned (.tuple #[.int .u16 p, .bool true]) ∧ w = w'))
    (HQ : Hid (∀ w, Calls Tryd.prog 19 #[.int .i64 l, .int .i64 c] w fun e w' => e = .returned (.tuple #[.int .u16 q, .bool true]) ∧ w = w'))
    (HR : Hid (∀ w, Calls Tryd.prog 18 #[.int .i64 m, .int .i64 d] w fun e w' => e = .returned (.tuple #[.int .u16 r, .bool true]) ∧ w = w'))
    (HS : Hid (∀ w, Calls Tryd.prog 19 #[.int .i64 m, .int .i64 d] w fun e w' => e = .returned (.tuple #[.int .u16 s, .bool true]) ∧ w = w'))
    (p0 : 16384 ≤ p) (p1 : p < 22528) (q0 : 22528 ≤ q) (q1 : q < 23296) (l0 : 0 ≤ l) (l1 : l < 192) (m0 : 0 ≤ m) (m1 : m < 192)
    (ha : (l == m) = a) (hb : (c == d) = b) (hg : (l / 8 == m / 8) = g) (hp : (p == r) = (a && b)) (hq : (q == s) = (g && b)) :
    Calls Tryd.prog 7 #[.agg #[.int .i64 l, .int .i64 c], .agg #[.int .i64 m, .int .i64 d]] w fun e w' => e = .returned (.bool true) ∧ Below w.heap.size w w' := by
  have HT := Lib.hid hT
  have S1 := Lib.hid (show slowB p = true from decide_eq_true ⟨p0, by omega⟩)
  have S2 := Lib.hid (show slowB q = true from decide_eq_true ⟨by omega, by omega⟩)
  clear hT
  have hE := fun w => run_eqPair l c m d w
  have hb0 : Below w.heap.size w ((w.alloc (.cells #[.int .i64 l, .int .i64 c] 23)).alloc (.cells #[.int .i64 m, .int .i64 d] 23)) := (balloc w _).alloc (by simp) _
  have HT1 := Lib.hid (HT.out.below hb0)
  have HB := Lib.hid hb0
  clear hb0
  cases a <;> cases b <;> cases g
  all_goals
    simp only [Bool.and_true, Bool.and_false] at hp hq
    go_enter Tryd.func7, Tryd.ntmps7
    go_wp2_with fail
    refine (HP.out _).mono ?_
    rintro e w' ⟨rfl, rfl⟩
    go_wp2_with fail
    refine (HR.out _).mono ?_
    rintro e w' ⟨rfl, rfl⟩
    go_wp2_with fail
    refine (HQ.out _).mono ?_
    rintro e w' ⟨rfl, rfl⟩
    go_wp2_with fail
    refine (HS.out _).mono ?_
    rintro e w' ⟨rfl, rfl⟩
    go_wp2_with fail
    refine (slow_any _ _ _ S1.out).mono ?_
    rintro e w' ⟨rfl, rfl⟩
    go_wp2_with fail
    refine (slow_any _ _ _ S2.out).mono ?_
    rintro e w' ⟨rfl, rfl⟩
    go_wp2_with fail
    refine (lives9 _ HT1.out).mono ?_
    rintro e w' ⟨rfl, rfl⟩
    go_wp2_with fail
    go_ret
    exact ⟨rfl, HB.out⟩

theorem apart_no (l c m d : Int) (w : World) (hT : Waits w) (h : cellB l c = false ∨ cellB l c = true ∧ cellB m d = false) :
    Calls Tryd.prog 7 #[.agg #[.int .i64 l, .int .i64 c], .agg #[.int .i64 m, .int .i64 d]] w fun e w' => e = .returned (.bool true) ∧ Below w.heap.size w w' := by
  have hb0 : Below w.heap.size w ((w.alloc (.cells #[.int .i64 l, .int .i64 c] 23)).alloc (.cells #[.int .i64 m, .int .i64 d] 23)) := (balloc w _).alloc (by simp) _
  have HT1 := Lib.hid (hT.below hb0)
  have HB := Lib.hid hb0
  have part : ∀ l c, ∃ (p q : Int) (b : Bool), b = cellB l c ∧ (∀ w, Calls Tryd.prog 18 #[.int .i64 l, .int .i64 c] w fun e w' => e = .returned (.tuple #[.int .u16 p, .bool b]) ∧ w = w') ∧
      (∀ w, Calls Tryd.prog 19 #[.int .i64 l, .int .i64 c] w fun e w' => e = .returned (.tuple #[.int .u16 q, .bool b]) ∧ w = w') := by
    intro l c
    cases h : cellB l c with
    | true => exact ⟨_, _, true, rfl, fun w => pixels_yes l c _ w h rfl, fun w => colours_yes l c _ w h rfl⟩
    | false => exact ⟨_, _, false, rfl, fun w => pixels_no l c w h, fun w => colours_no l c w h⟩
  obtain ⟨p, q, a, ha, hp, hq⟩ := part l c
  obtain ⟨r, s, b, hb, hr, hs⟩ := part m d
  have HP := Lib.hid hp
  have HQ := Lib.hid hq
  have HR := Lib.hid hr
  have HS := Lib.hid hs
  rw [← ha, ← hb] at h
  clear hb0 part ha hb hp hq hr hs hT
  rcases h with rfl | ⟨rfl, rfl⟩
  all_goals
    go_enter Tryd.func7, Tryd.ntmps7
    go_wp2_with fail
    refine (HP.out _).mono ?_
    rintro e w' ⟨rfl, rfl⟩
    go_wp2_with fail
    refine (HR.out _).mono ?_
    rintro e w' ⟨rfl, rfl⟩
    go_wp2_with fail
    refine (HQ.out _).mono ?_
    rintro e w' ⟨rfl, rfl⟩
    go_wp2_with fail
    refine (HS.out _).mono ?_
    rintro e w' ⟨rfl, rfl⟩
    go_wp2_with fail
    refine (lives9 _ HT1.out).mono ?_
    rintro e w' ⟨rfl, rfl⟩
    go_wp2_with fail
    go_ret
    exact ⟨rfl, HB.out⟩

set_option maxHeartbeats 1600000 in
theorem apart_walk (l c m d : Int) (w : World) (hT : Waits w) :
    Calls Tryd.prog 7 #[.agg #[.int .i64 l, .int .i64 c], .agg #[.int .i64 m, .int .i64 d]] w fun e w' => e = .returned (.bool true) ∧ Below w.heap.size w w' := by
  cases h : cellB l c with
  | false => exact apart_no l c m d w hT (Or.inl h)
  | true =>
    cases k : cellB m d with
    | false => exact apart_no l c m d w hT (Or.inr ⟨h, k⟩)
    | true =>
      obtain ⟨h0, h1, h2, h3⟩ := cellB_of h
      obtain ⟨k0, k1, k2, k3⟩ := cellB_of k
      exact apart_at l c m d _ _ _ _ _ _ _ w hT (Lib.hid fun w => pixels_yes l c _ w h rfl) (Lib.hid fun w => colours_yes l c _ w h rfl) (Lib.hid fun w => pixels_yes m d _ w k rfl) (Lib.hid fun w => colours_yes m d _ w k rfl)
        (pix_bd h).1 (pix_bd h).2 (col_bd h).1 (col_bd h).2 h0 h1 k0 k1 rfl rfl rfl (pix_same h k) (col_same h k)

end Go.Proofs.YtmjhipabciaonaaDoor
