/- micro.plain, Program: their contracts. -/
import Derived.Test.YthmkfojjlcinkaaDoorMicroF
import Derived.Test.YthmkfojjlcinkaaDoorMicroG
import Derived.Test.YthmkfojjlcinkaaDoorMicroH
namespace Go.Proofs.YthmkfojjlcinkaaDoor
open Go.RowKit
set_option linter.unusedVariables false

theorem St.again {u : World} {v : Value} {L : List Sp} {c b : Nat} {C : List Value} {base : Nat} {w0 : World} {v0 : Value} (h : St u v L c b C base w0 v0) (C' : List Value) (t : TypeId) : St (u.alloc (.cells C'.toArray t)) v L c u.heap.size C' base w0 v0 := by
  have k := St.boxed h.own C' t
  exact ⟨k.own, h.put.below (balloc u _), k.box, k.far⟩
theorem cEq (c k : Nat) (h : c = k) : ((c : Int) == (k : Int)) = true := by rw [beq_iff_eq]; omega
theorem cNe (c k : Nat) (h : ¬ c = k) : ((c : Int) == (k : Int)) = false := by rw [beq_eq_false_iff_ne]; omega
/-- A plain code that goes to memory at HL. -/
theorem mem_bd (c : Nat) (x y z p q : Int) (h : Pts c x y z p q) (hm : memC c = true) (h54 : ¬ c = 54) : x ≤ 2 ∧ (x = 0 → z = 4 ∨ z = 5) := by
  have h' := mem_is c x y z p q h
  rw [hm] at h'
  obtain ⟨h1, h2, h3, _, _⟩ := h
  by_cases h0 : x = 0
  · rw [if_pos h0] at h'
    have h6 : (y == 6) = true ∧ decide (4 ≤ z) = true ∧ decide (z ≤ 6) = true := by
      have := h'.symm; simp only [Bool.and_eq_true] at this; exact ⟨this.1, this.2.1, this.2.2⟩
    obtain ⟨a, b, d⟩ := h6
    have a := eq_of_beq a
    have b := of_decide_eq_true b
    have d := of_decide_eq_true d
    omega
  · rw [if_neg h0] at h'
    by_cases h4 : x = 1
    · omega
    · rw [if_neg h4] at h'
      by_cases h5 : x = 2
      · omega
      · rw [if_neg h5] at h'; cases h'

set_option maxRecDepth 100000 in
set_option maxHeartbeats 1600000 in
theorem plainA (base : Nat) (v : Value) (L : List Sp) (k : Nat) (w : World) (hO : Own w v L k base) (hk : k ≤ 5000) (c : Nat) (ix : Bool) (hc : c < 256) (x y z p q : Int) (hP : Pts c x y z p q) (h118 : c = 118) : Calls Tryd.prog 14 #[v, .int .u8 c, .bool ix] w (Gives w v (plainS L c x y z p q ix) (k + 10) base) := by
  obtain ⟨⟨x0, x1⟩, ⟨y0, y1⟩, ⟨z0, z1⟩, ⟨p0, p1⟩, ⟨q0, q1⟩, -⟩ := hP.bd hc
  rw [show plainS L c x y z p q ix = L ++ [sWork 272 0] by unfold plainS; rw [if_pos h118]]
  have f118 := cEq c 118 h118
  clear h118
  have HP := Lib.hid hP
  have h0 := St.start hO
  clear hO hP
  go_enter Tryd.func14, Tryd.ntmps14
  go_wp2_with fail
  refine (mcut_is c x y z p q _ hc HP.out).mono ?_
  rintro e w1 ⟨rfl, hw1⟩
  have h1 := (h0.below hw1).again [.int .i64 x, .int .i64 y, .int .i64 z, .int .i64 p, .int .i64 q] 37
  obtain ⟨hb0, hb1, hb2, hb3, hb4⟩ := St.box5 h1
  go_wp2_with (first | (go_at_call 27; (with_reducible refine (put1 (by first | assumption | exact St.drew (by assumption) | exact St.alloc (by assumption) _ | exact St.drew (St.alloc (by assumption) _)) (by omega) _ _ _ _ _).mono ?_); rintro e w' ⟨v', rfl, hSt⟩; have hbx := St.box5 hSt; obtain ⟨hc0, hc1, hc2, hc3, hc4⟩ := hbx) | (go_at_call 27; (with_reducible refine (put2 (by first | assumption | exact St.drew (by assumption) | exact St.alloc (by assumption) _ | exact St.drew (St.alloc (by assumption) _)) (by omega) _ _ _ _ _ _ _ _ _).mono ?_); rintro e w' ⟨v', rfl, hSt⟩; have hbx := St.box5 hSt; obtain ⟨hc0, hc1, hc2, hc3, hc4⟩ := hbx) | (go_at_call 28; refine (St.then (by first | assumption | exact St.drew (by assumption) | exact St.alloc (by assumption) _ | exact St.drew (St.alloc (by assumption) _)) (work_any _ _ _)).mono ?_; rintro e w' ⟨rfl, hSt⟩; have hbx := St.box5 hSt; obtain ⟨hc0, hc1, hc2, hc3, hc4⟩ := hbx))
  go_ret
  exact St.fin (by first | assumption | exact St.drew (by assumption) | exact St.alloc (by assumption) _ | exact St.drew (St.alloc (by assumption) _)) (by omega)
set_option maxRecDepth 100000 in
set_option maxHeartbeats 1600000 in
theorem plainB (base : Nat) (v : Value) (L : List Sp) (k : Nat) (w : World) (hO : Own w v L k base) (hk : k ≤ 5000) (c : Nat) (ix : Bool) (hc : c < 256) (x y z p q : Int) (hP : Pts c x y z p q) (h118 : ¬ c = 118) (h54 : c = 54) : Calls Tryd.prog 14 #[v, .int .u8 c, .bool ix] w (Gives w v (plainS L c x y z p q ix) (k + 10) base) := by
  obtain ⟨⟨x0, x1⟩, ⟨y0, y1⟩, ⟨z0, z1⟩, ⟨p0, p1⟩, ⟨q0, q1⟩, -⟩ := hP.bd hc
  rw [show plainS L c x y z p q ix = storeS L ix by unfold plainS; rw [if_neg h118, if_pos h54]]
  have f118 := cNe c 118 h118
  have f54 := cEq c 54 h54
  clear h118 h54
  have HP := Lib.hid hP
  have h0 := St.start hO
  clear hO hP
  go_enter Tryd.func14, Tryd.ntmps14
  go_wp2_with fail
  refine (mcut_is c x y z p q _ hc HP.out).mono ?_
  rintro e w1 ⟨rfl, hw1⟩
  have h1 := (h0.below hw1).again [.int .i64 x, .int .i64 y, .int .i64 z, .int .i64 p, .int .i64 q] 37
  obtain ⟨hb0, hb1, hb2, hb3, hb4⟩ := St.box5 h1
  go_wp2_with (first | (go_at_call 29; refine (storeNumber_st (by first | assumption | exact St.drew (by assumption) | exact St.alloc (by assumption) _ | exact St.drew (St.alloc (by assumption) _)) (by omega) _).mono ?_; rintro e w' ⟨v', rfl, hSt⟩; have hbx := St.box5 hSt; obtain ⟨hc0, hc1, hc2, hc3, hc4⟩ := hbx))
  go_ret
  exact St.fin (by first | assumption | exact St.drew (by assumption) | exact St.alloc (by assumption) _ | exact St.drew (St.alloc (by assumption) _)) (by omega)
set_option maxRecDepth 100000 in
set_option maxHeartbeats 1600000 in
theorem plainC (base : Nat) (v : Value) (L : List Sp) (k : Nat) (w : World) (hO : Own w v L k base) (hk : k ≤ 5000) (c : Nat) (ix : Bool) (hc : c < 256) (x y z p q : Int) (hP : Pts c x y z p q) (h118 : ¬ c = 118) (h54 : ¬ c = 54) (hm : memC c = true) : Calls Tryd.prog 14 #[v, .int .u8 c, .bool ix] w (Gives w v (plainS L c x y z p q ix) (k + 10) base) := by
  obtain ⟨⟨x0, x1⟩, ⟨y0, y1⟩, ⟨z0, z1⟩, ⟨p0, p1⟩, ⟨q0, q1⟩, -⟩ := hP.bd hc
  rw [show plainS L c x y z p q ix = thruS L x y z ix by unfold plainS; rw [if_neg h118, if_neg h54, if_pos hm]]
  obtain ⟨m0, m1⟩ := mem_bd c x y z p q hP hm h54
  have f118 := cNe c 118 h118
  have f54 := cNe c 54 h54
  clear h118 h54
  have HP := Lib.hid hP
  have h0 := St.start hO
  clear hO hP
  go_enter Tryd.func14, Tryd.ntmps14
  go_wp2_with fail
  refine (mcut_is c x y z p q _ hc HP.out).mono ?_
  rintro e w1 ⟨rfl, hw1⟩
  have h1 := (h0.below hw1).again [.int .i64 x, .int .i64 y, .int .i64 z, .int .i64 p, .int .i64 q] 37
  obtain ⟨hb0, hb1, hb2, hb3, hb4⟩ := St.box5 h1
  go_wp2_with (first | (go_at_call 30; refine (throughMemory_st (by first | assumption | exact St.drew (by assumption) | exact St.alloc (by assumption) _ | exact St.drew (St.alloc (by assumption) _)) (by omega) _ _ _ _ _ _ (by omega) (by omega) (by omega) (by omega) (by omega) (by omega) (by omega)).mono ?_; rintro e w' ⟨v', rfl, hSt⟩; have hbx := St.box5 hSt; obtain ⟨hc0, hc1, hc2, hc3, hc4⟩ := hbx) | (go_at_call 25; refine (St.then (by first | assumption | exact St.drew (by assumption) | exact St.alloc (by assumption) _ | exact St.drew (St.alloc (by assumption) _)) (opMemIs c true _ hc hm)).mono ?_; rintro e w' ⟨rfl, hSt⟩; have hbx := St.box5 hSt; obtain ⟨hc0, hc1, hc2, hc3, hc4⟩ := hbx))
  go_ret
  exact St.fin (by first | assumption | exact St.drew (by assumption) | exact St.alloc (by assumption) _ | exact St.drew (St.alloc (by assumption) _)) (by omega)
set_option maxRecDepth 100000 in
set_option maxHeartbeats 1600000 in
theorem plainD (base : Nat) (v : Value) (L : List Sp) (k : Nat) (w : World) (hO : Own w v L k base) (hk : k ≤ 5000) (c : Nat) (ix : Bool) (hc : c < 256) (x y z p q : Int) (hP : Pts c x y z p q) (h118 : ¬ c = 118) (h54 : ¬ c = 54) (hm : memC c = false) (hx : x = 0) : Calls Tryd.prog 14 #[v, .int .u8 c, .bool ix] w (Gives w v (plainS L c x y z p q ix) (k + 10) base) := by
  obtain ⟨⟨x0, x1⟩, ⟨y0, y1⟩, ⟨z0, z1⟩, ⟨p0, p1⟩, ⟨q0, q1⟩, -⟩ := hP.bd hc
  rw [show plainS L c x y z p q ix = firstS L y z p q by unfold plainS; rw [if_neg h118, if_neg h54, if_neg (by rw [hm]; decide), if_pos hx]]
  have f118 := cNe c 118 h118
  have f54 := cNe c 54 h54
  clear h118 h54
  subst hx
  have HP := Lib.hid hP
  have h0 := St.start hO
  clear hO hP
  go_enter Tryd.func14, Tryd.ntmps14
  go_wp2_with fail
  refine (mcut_is c 0 y z p q _ hc HP.out).mono ?_
  rintro e w1 ⟨rfl, hw1⟩
  have h1 := (h0.below hw1).again [.int .i64 0, .int .i64 y, .int .i64 z, .int .i64 p, .int .i64 q] 37
  obtain ⟨hb0, hb1, hb2, hb3, hb4⟩ := St.box5 h1
  go_wp2_with (first | (go_at_call 31; refine (first_st (by first | assumption | exact St.drew (by assumption) | exact St.alloc (by assumption) _ | exact St.drew (St.alloc (by assumption) _)) (by omega) _ _ _ _ _ (by omega) (by omega) (by omega) (by omega) (by omega) (by omega) (by omega) (by omega)).mono ?_; rintro e w' ⟨v', rfl, hSt⟩; have hbx := St.box5 hSt; obtain ⟨hc0, hc1, hc2, hc3, hc4⟩ := hbx) | (go_at_call 25; refine (St.then (by first | assumption | exact St.drew (by assumption) | exact St.alloc (by assumption) _ | exact St.drew (St.alloc (by assumption) _)) (opMemIs c false _ hc hm)).mono ?_; rintro e w' ⟨rfl, hSt⟩; have hbx := St.box5 hSt; obtain ⟨hc0, hc1, hc2, hc3, hc4⟩ := hbx))
  go_ret
  exact St.fin (by first | assumption | exact St.drew (by assumption) | exact St.alloc (by assumption) _ | exact St.drew (St.alloc (by assumption) _)) (by omega)
set_option maxRecDepth 100000 in
set_option maxHeartbeats 1600000 in
theorem plainE (base : Nat) (v : Value) (L : List Sp) (k : Nat) (w : World) (hO : Own w v L k base) (hk : k ≤ 5000) (c : Nat) (ix : Bool) (hc : c < 256) (x y z p q : Int) (hP : Pts c x y z p q) (h118 : ¬ c = 118) (h54 : ¬ c = 54) (hm : memC c = false) (hx : x = 1) : Calls Tryd.prog 14 #[v, .int .u8 c, .bool ix] w (Gives w v (plainS L c x y z p q ix) (k + 10) base) := by
  obtain ⟨⟨x0, x1⟩, ⟨y0, y1⟩, ⟨z0, z1⟩, ⟨p0, p1⟩, ⟨q0, q1⟩, -⟩ := hP.bd hc
  rw [show plainS L c x y z p q ix = L ++ [sWork (40 + y) z] by unfold plainS; rw [if_neg h118, if_neg h54, if_neg (by rw [hm]; decide), if_neg (by omega), if_pos hx]]
  have f118 := cNe c 118 h118
  have f54 := cNe c 54 h54
  clear h118 h54
  subst hx
  have HP := Lib.hid hP
  have h0 := St.start hO
  clear hO hP
  go_enter Tryd.func14, Tryd.ntmps14
  go_wp2_with fail
  refine (mcut_is c 1 y z p q _ hc HP.out).mono ?_
  rintro e w1 ⟨rfl, hw1⟩
  have h1 := (h0.below hw1).again [.int .i64 1, .int .i64 y, .int .i64 z, .int .i64 p, .int .i64 q] 37
  obtain ⟨hb0, hb1, hb2, hb3, hb4⟩ := St.box5 h1
  go_wp2_with (first | (go_at_call 27; (with_reducible refine (put1 (by first | assumption | exact St.drew (by assumption) | exact St.alloc (by assumption) _ | exact St.drew (St.alloc (by assumption) _)) (by omega) _ _ _ _ _).mono ?_); rintro e w' ⟨v', rfl, hSt⟩; have hbx := St.box5 hSt; obtain ⟨hc0, hc1, hc2, hc3, hc4⟩ := hbx) | (go_at_call 27; (with_reducible refine (put2 (by first | assumption | exact St.drew (by assumption) | exact St.alloc (by assumption) _ | exact St.drew (St.alloc (by assumption) _)) (by omega) _ _ _ _ _ _ _ _ _).mono ?_); rintro e w' ⟨v', rfl, hSt⟩; have hbx := St.box5 hSt; obtain ⟨hc0, hc1, hc2, hc3, hc4⟩ := hbx) | (go_at_call 32; refine (St.same (by first | assumption | exact St.drew (by assumption) | exact St.alloc (by assumption) _ | exact St.drew (St.alloc (by assumption) _)) (which_any _ _ _ (by omega) (by omega) (by omega) (by omega))).mono ?_; rintro e w' ⟨rfl, hSt⟩; have hbx := St.box5 hSt; obtain ⟨hc0, hc1, hc2, hc3, hc4⟩ := hbx) | (go_at_call 28; refine (St.then (by first | assumption | exact St.drew (by assumption) | exact St.alloc (by assumption) _ | exact St.drew (St.alloc (by assumption) _)) (work_any _ _ _)).mono ?_; rintro e w' ⟨rfl, hSt⟩; have hbx := St.box5 hSt; obtain ⟨hc0, hc1, hc2, hc3, hc4⟩ := hbx) | (go_at_call 25; refine (St.then (by first | assumption | exact St.drew (by assumption) | exact St.alloc (by assumption) _ | exact St.drew (St.alloc (by assumption) _)) (opMemIs c false _ hc hm)).mono ?_; rintro e w' ⟨rfl, hSt⟩; have hbx := St.box5 hSt; obtain ⟨hc0, hc1, hc2, hc3, hc4⟩ := hbx))
  go_region_held3 (fun u => u.cell? ⟨w1.heap.size, 0, none⟩ = some (.int .i64 1) ∧ u.cell? ⟨w1.heap.size, 1, none⟩ = some (.int .i64 y) ∧ u.cell? ⟨w1.heap.size, 2, none⟩ = some (.int .i64 z) ∧ u.cell? ⟨w1.heap.size, 3, none⟩ = some (.int .i64 p) ∧ u.cell? ⟨w1.heap.size, 4, none⟩ = some (.int .i64 q)) (first | assumption | exact St.box5 (by first | assumption | exact St.drew (by assumption) | exact St.alloc (by assumption) _ | exact St.drew (St.alloc (by assumption) _))) (first | (go_at_call 27; (with_reducible refine (put1 (by first | assumption | exact St.drew (by assumption) | exact St.alloc (by assumption) _ | exact St.drew (St.alloc (by assumption) _)) (by omega) _ _ _ _ _).mono ?_); rintro e w' ⟨v', rfl, hSt⟩; have hbx := St.box5 hSt; obtain ⟨hc0, hc1, hc2, hc3, hc4⟩ := hbx) | (go_at_call 27; (with_reducible refine (put2 (by first | assumption | exact St.drew (by assumption) | exact St.alloc (by assumption) _ | exact St.drew (St.alloc (by assumption) _)) (by omega) _ _ _ _ _ _ _ _ _).mono ?_); rintro e w' ⟨v', rfl, hSt⟩; have hbx := St.box5 hSt; obtain ⟨hc0, hc1, hc2, hc3, hc4⟩ := hbx) | (go_at_call 32; refine (St.same (by first | assumption | exact St.drew (by assumption) | exact St.alloc (by assumption) _ | exact St.drew (St.alloc (by assumption) _)) (which_any _ _ _ (by omega) (by omega) (by omega) (by omega))).mono ?_; rintro e w' ⟨rfl, hSt⟩; have hbx := St.box5 hSt; obtain ⟨hc0, hc1, hc2, hc3, hc4⟩ := hbx) | (go_at_call 28; refine (St.then (by first | assumption | exact St.drew (by assumption) | exact St.alloc (by assumption) _ | exact St.drew (St.alloc (by assumption) _)) (work_any _ _ _)).mono ?_; rintro e w' ⟨rfl, hSt⟩; have hbx := St.box5 hSt; obtain ⟨hc0, hc1, hc2, hc3, hc4⟩ := hbx) | (go_at_call 25; refine (St.then (by first | assumption | exact St.drew (by assumption) | exact St.alloc (by assumption) _ | exact St.drew (St.alloc (by assumption) _)) (opMemIs c false _ hc hm)).mono ?_; rintro e w' ⟨rfl, hSt⟩; have hbx := St.box5 hSt; obtain ⟨hc0, hc1, hc2, hc3, hc4⟩ := hbx))
  go_wp2_with (first | (go_at_call 27; (with_reducible refine (put1 (by first | assumption | exact St.drew (by assumption) | exact St.alloc (by assumption) _ | exact St.drew (St.alloc (by assumption) _)) (by omega) _ _ _ _ _).mono ?_); rintro e w' ⟨v', rfl, hSt⟩; have hbx := St.box5 hSt; obtain ⟨hc0, hc1, hc2, hc3, hc4⟩ := hbx) | (go_at_call 27; (with_reducible refine (put2 (by first | assumption | exact St.drew (by assumption) | exact St.alloc (by assumption) _ | exact St.drew (St.alloc (by assumption) _)) (by omega) _ _ _ _ _ _ _ _ _).mono ?_); rintro e w' ⟨v', rfl, hSt⟩; have hbx := St.box5 hSt; obtain ⟨hc0, hc1, hc2, hc3, hc4⟩ := hbx) | (go_at_call 32; refine (St.same (by first | assumption | exact St.drew (by assumption) | exact St.alloc (by assumption) _ | exact St.drew (St.alloc (by assumption) _)) (which_any _ _ _ (by omega) (by omega) (by omega) (by omega))).mono ?_; rintro e w' ⟨rfl, hSt⟩; have hbx := St.box5 hSt; obtain ⟨hc0, hc1, hc2, hc3, hc4⟩ := hbx) | (go_at_call 28; refine (St.then (by first | assumption | exact St.drew (by assumption) | exact St.alloc (by assumption) _ | exact St.drew (St.alloc (by assumption) _)) (work_any _ _ _)).mono ?_; rintro e w' ⟨rfl, hSt⟩; have hbx := St.box5 hSt; obtain ⟨hc0, hc1, hc2, hc3, hc4⟩ := hbx) | (go_at_call 25; refine (St.then (by first | assumption | exact St.drew (by assumption) | exact St.alloc (by assumption) _ | exact St.drew (St.alloc (by assumption) _)) (opMemIs c false _ hc hm)).mono ?_; rintro e w' ⟨rfl, hSt⟩; have hbx := St.box5 hSt; obtain ⟨hc0, hc1, hc2, hc3, hc4⟩ := hbx))
  go_ret
  exact St.fin (by first | assumption | exact St.drew (by assumption) | exact St.alloc (by assumption) _ | exact St.drew (St.alloc (by assumption) _)) (by omega)
set_option maxRecDepth 100000 in
set_option maxHeartbeats 1600000 in
theorem plainF (base : Nat) (v : Value) (L : List Sp) (k : Nat) (w : World) (hO : Own w v L k base) (hk : k ≤ 5000) (c : Nat) (ix : Bool) (hc : c < 256) (x y z p q : Int) (hP : Pts c x y z p q) (h118 : ¬ c = 118) (h54 : ¬ c = 54) (hm : memC c = false) (hx : x = 2) : Calls Tryd.prog 14 #[v, .int .u8 c, .bool ix] w (Gives w v (plainS L c x y z p q ix) (k + 10) base) := by
  obtain ⟨⟨x0, x1⟩, ⟨y0, y1⟩, ⟨z0, z1⟩, ⟨p0, p1⟩, ⟨q0, q1⟩, -⟩ := hP.bd hc
  rw [show plainS L c x y z p q ix = L ++ [sWork y z] by unfold plainS; rw [if_neg h118, if_neg h54, if_neg (by rw [hm]; decide), if_neg (by omega), if_neg (by omega), if_pos hx]]
  have f118 := cNe c 118 h118
  have f54 := cNe c 54 h54
  clear h118 h54
  subst hx
  have HP := Lib.hid hP
  have h0 := St.start hO
  clear hO hP
  go_enter Tryd.func14, Tryd.ntmps14
  go_wp2_with fail
  refine (mcut_is c 2 y z p q _ hc HP.out).mono ?_
  rintro e w1 ⟨rfl, hw1⟩
  have h1 := (h0.below hw1).again [.int .i64 2, .int .i64 y, .int .i64 z, .int .i64 p, .int .i64 q] 37
  obtain ⟨hb0, hb1, hb2, hb3, hb4⟩ := St.box5 h1
  go_wp2_with (first | (go_at_call 27; (with_reducible refine (put1 (by first | assumption | exact St.drew (by assumption) | exact St.alloc (by assumption) _ | exact St.drew (St.alloc (by assumption) _)) (by omega) _ _ _ _ _).mono ?_); rintro e w' ⟨v', rfl, hSt⟩; have hbx := St.box5 hSt; obtain ⟨hc0, hc1, hc2, hc3, hc4⟩ := hbx) | (go_at_call 27; (with_reducible refine (put2 (by first | assumption | exact St.drew (by assumption) | exact St.alloc (by assumption) _ | exact St.drew (St.alloc (by assumption) _)) (by omega) _ _ _ _ _ _ _ _ _).mono ?_); rintro e w' ⟨v', rfl, hSt⟩; have hbx := St.box5 hSt; obtain ⟨hc0, hc1, hc2, hc3, hc4⟩ := hbx) | (go_at_call 32; refine (St.same (by first | assumption | exact St.drew (by assumption) | exact St.alloc (by assumption) _ | exact St.drew (St.alloc (by assumption) _)) (which_any _ _ _ (by omega) (by omega) (by omega) (by omega))).mono ?_; rintro e w' ⟨rfl, hSt⟩; have hbx := St.box5 hSt; obtain ⟨hc0, hc1, hc2, hc3, hc4⟩ := hbx) | (go_at_call 28; refine (St.then (by first | assumption | exact St.drew (by assumption) | exact St.alloc (by assumption) _ | exact St.drew (St.alloc (by assumption) _)) (work_any _ _ _)).mono ?_; rintro e w' ⟨rfl, hSt⟩; have hbx := St.box5 hSt; obtain ⟨hc0, hc1, hc2, hc3, hc4⟩ := hbx) | (go_at_call 25; refine (St.then (by first | assumption | exact St.drew (by assumption) | exact St.alloc (by assumption) _ | exact St.drew (St.alloc (by assumption) _)) (opMemIs c false _ hc hm)).mono ?_; rintro e w' ⟨rfl, hSt⟩; have hbx := St.box5 hSt; obtain ⟨hc0, hc1, hc2, hc3, hc4⟩ := hbx))
  go_region_held3 (fun u => u.cell? ⟨w1.heap.size, 0, none⟩ = some (.int .i64 2) ∧ u.cell? ⟨w1.heap.size, 1, none⟩ = some (.int .i64 y) ∧ u.cell? ⟨w1.heap.size, 2, none⟩ = some (.int .i64 z) ∧ u.cell? ⟨w1.heap.size, 3, none⟩ = some (.int .i64 p) ∧ u.cell? ⟨w1.heap.size, 4, none⟩ = some (.int .i64 q)) (first | assumption | exact St.box5 (by first | assumption | exact St.drew (by assumption) | exact St.alloc (by assumption) _ | exact St.drew (St.alloc (by assumption) _))) (first | (go_at_call 27; (with_reducible refine (put1 (by first | assumption | exact St.drew (by assumption) | exact St.alloc (by assumption) _ | exact St.drew (St.alloc (by assumption) _)) (by omega) _ _ _ _ _).mono ?_); rintro e w' ⟨v', rfl, hSt⟩; have hbx := St.box5 hSt; obtain ⟨hc0, hc1, hc2, hc3, hc4⟩ := hbx) | (go_at_call 27; (with_reducible refine (put2 (by first | assumption | exact St.drew (by assumption) | exact St.alloc (by assumption) _ | exact St.drew (St.alloc (by assumption) _)) (by omega) _ _ _ _ _ _ _ _ _).mono ?_); rintro e w' ⟨v', rfl, hSt⟩; have hbx := St.box5 hSt; obtain ⟨hc0, hc1, hc2, hc3, hc4⟩ := hbx) | (go_at_call 32; refine (St.same (by first | assumption | exact St.drew (by assumption) | exact St.alloc (by assumption) _ | exact St.drew (St.alloc (by assumption) _)) (which_any _ _ _ (by omega) (by omega) (by omega) (by omega))).mono ?_; rintro e w' ⟨rfl, hSt⟩; have hbx := St.box5 hSt; obtain ⟨hc0, hc1, hc2, hc3, hc4⟩ := hbx) | (go_at_call 28; refine (St.then (by first | assumption | exact St.drew (by assumption) | exact St.alloc (by assumption) _ | exact St.drew (St.alloc (by assumption) _)) (work_any _ _ _)).mono ?_; rintro e w' ⟨rfl, hSt⟩; have hbx := St.box5 hSt; obtain ⟨hc0, hc1, hc2, hc3, hc4⟩ := hbx) | (go_at_call 25; refine (St.then (by first | assumption | exact St.drew (by assumption) | exact St.alloc (by assumption) _ | exact St.drew (St.alloc (by assumption) _)) (opMemIs c false _ hc hm)).mono ?_; rintro e w' ⟨rfl, hSt⟩; have hbx := St.box5 hSt; obtain ⟨hc0, hc1, hc2, hc3, hc4⟩ := hbx))
  go_wp2_with (first | (go_at_call 27; (with_reducible refine (put1 (by first | assumption | exact St.drew (by assumption) | exact St.alloc (by assumption) _ | exact St.drew (St.alloc (by assumption) _)) (by omega) _ _ _ _ _).mono ?_); rintro e w' ⟨v', rfl, hSt⟩; have hbx := St.box5 hSt; obtain ⟨hc0, hc1, hc2, hc3, hc4⟩ := hbx) | (go_at_call 27; (with_reducible refine (put2 (by first | assumption | exact St.drew (by assumption) | exact St.alloc (by assumption) _ | exact St.drew (St.alloc (by assumption) _)) (by omega) _ _ _ _ _ _ _ _ _).mono ?_); rintro e w' ⟨v', rfl, hSt⟩; have hbx := St.box5 hSt; obtain ⟨hc0, hc1, hc2, hc3, hc4⟩ := hbx) | (go_at_call 32; refine (St.same (by first | assumption | exact St.drew (by assumption) | exact St.alloc (by assumption) _ | exact St.drew (St.alloc (by assumption) _)) (which_any _ _ _ (by omega) (by omega) (by omega) (by omega))).mono ?_; rintro e w' ⟨rfl, hSt⟩; have hbx := St.box5 hSt; obtain ⟨hc0, hc1, hc2, hc3, hc4⟩ := hbx) | (go_at_call 28; refine (St.then (by first | assumption | exact St.drew (by assumption) | exact St.alloc (by assumption) _ | exact St.drew (St.alloc (by assumption) _)) (work_any _ _ _)).mono ?_; rintro e w' ⟨rfl, hSt⟩; have hbx := St.box5 hSt; obtain ⟨hc0, hc1, hc2, hc3, hc4⟩ := hbx) | (go_at_call 25; refine (St.then (by first | assumption | exact St.drew (by assumption) | exact St.alloc (by assumption) _ | exact St.drew (St.alloc (by assumption) _)) (opMemIs c false _ hc hm)).mono ?_; rintro e w' ⟨rfl, hSt⟩; have hbx := St.box5 hSt; obtain ⟨hc0, hc1, hc2, hc3, hc4⟩ := hbx))
  go_ret
  exact St.fin (by first | assumption | exact St.drew (by assumption) | exact St.alloc (by assumption) _ | exact St.drew (St.alloc (by assumption) _)) (by omega)
set_option maxRecDepth 100000 in
set_option maxHeartbeats 1600000 in
theorem plainG (base : Nat) (v : Value) (L : List Sp) (k : Nat) (w : World) (hO : Own w v L k base) (hk : k ≤ 5000) (c : Nat) (ix : Bool) (hc : c < 256) (x y z p q : Int) (hP : Pts c x y z p q) (h118 : ¬ c = 118) (h54 : ¬ c = 54) (hm : memC c = false) (hx : x = 3) : Calls Tryd.prog 14 #[v, .int .u8 c, .bool ix] w (Gives w v (plainS L c x y z p q ix) (k + 10) base) := by
  obtain ⟨⟨x0, x1⟩, ⟨y0, y1⟩, ⟨z0, z1⟩, ⟨p0, p1⟩, ⟨q0, q1⟩, -⟩ := hP.bd hc
  rw [show plainS L c x y z p q ix = lastS L y z p q by unfold plainS; rw [if_neg h118, if_neg h54, if_neg (by rw [hm]; decide), if_neg (by omega), if_neg (by omega), if_neg (by omega)]]
  have f118 := cNe c 118 h118
  have f54 := cNe c 54 h54
  clear h118 h54
  subst hx
  have HP := Lib.hid hP
  have h0 := St.start hO
  clear hO hP
  go_enter Tryd.func14, Tryd.ntmps14
  go_wp2_with fail
  refine (mcut_is c 3 y z p q _ hc HP.out).mono ?_
  rintro e w1 ⟨rfl, hw1⟩
  have h1 := (h0.below hw1).again [.int .i64 3, .int .i64 y, .int .i64 z, .int .i64 p, .int .i64 q] 37
  obtain ⟨hb0, hb1, hb2, hb3, hb4⟩ := St.box5 h1
  go_wp2_with (first | (go_at_call 33; refine (last_st (by first | assumption | exact St.drew (by assumption) | exact St.alloc (by assumption) _ | exact St.drew (St.alloc (by assumption) _)) (by omega) _ _ _ _ _ (by omega) (by omega) (by omega) (by omega) (by omega) (by omega) (by omega) (by omega)).mono ?_; rintro e w' ⟨v', rfl, hSt⟩; have hbx := St.box5 hSt; obtain ⟨hc0, hc1, hc2, hc3, hc4⟩ := hbx) | (go_at_call 25; refine (St.then (by first | assumption | exact St.drew (by assumption) | exact St.alloc (by assumption) _ | exact St.drew (St.alloc (by assumption) _)) (opMemIs c false _ hc hm)).mono ?_; rintro e w' ⟨rfl, hSt⟩; have hbx := St.box5 hSt; obtain ⟨hc0, hc1, hc2, hc3, hc4⟩ := hbx))
  go_ret
  exact St.fin (by first | assumption | exact St.drew (by assumption) | exact St.alloc (by assumption) _ | exact St.drew (St.alloc (by assumption) _)) (by omega)
theorem plain_is (base : Nat) (v : Value) (L : List Sp) (k : Nat) (w : World) (hO : Own w v L k base) (hk : k ≤ 5000) (c : Nat) (ix : Bool) (hc : c < 256) (x y z p q : Int) (hP : Pts c x y z p q) : Calls Tryd.prog 14 #[v, .int .u8 c, .bool ix] w (Gives w v (plainS L c x y z p q ix) (k + 10) base) := by
  by_cases h118 : c = 118
  · exact plainA base v L k w hO hk c ix hc x y z p q hP h118
  by_cases h54 : c = 54
  · exact plainB base v L k w hO hk c ix hc x y z p q hP h118 h54
  cases hm : memC c with
  | true => exact plainC base v L k w hO hk c ix hc x y z p q hP h118 h54 hm
  | false =>
    obtain ⟨⟨x0, x1⟩, -⟩ := hP.bd hc
    have e : x = 0 ∨ x = 1 ∨ x = 2 ∨ x = 3 := by omega
    rcases e with e | e | e | e
    · exact plainD base v L k w hO hk c ix hc x y z p q hP h118 h54 hm e
    · exact plainE base v L k w hO hk c ix hc x y z p q hP h118 h54 hm e
    · exact plainF base v L k w hO hk c ix hc x y z p q hP h118 h54 hm e
    · exact plainG base v L k w hO hk c ix hc x y z p q hP h118 h54 hm e

set_option maxRecDepth 100000 in
set_option maxHeartbeats 1600000 in
theorem program0a (base : Nat) (v : Value) (L : List Sp) (k : Nat) (w : World) (hO : Own w v L k base) (hk : k ≤ 4000) (set ix : Int) (c : Nat) (hc : c < 256) (hM : Modes w) (hs : set = 0) (h1 : ix = 1) : Calls Tryd.prog 6 #[v, .int .i64 set, .int .i64 ix, .int .u8 c] w (Gives w v (progS L set ix c) (k + 10) base) := by
  obtain ⟨x, y, z, p, q, hP⟩ := pts c
  rw [show progS L set ix c = plainS L c x y z p q true by obtain ⟨rfl, rfl, rfl, rfl, rfl⟩ := hP; subst hs h1; rfl]
  subst hs h1
  have HP := Lib.hid hP
  have h0 := St.start hO
  have HM := Lib.hid hM
  clear hO hM hP
  go_enter Tryd.func6, Tryd.ntmps6
  go_wp2_with fail
  refine (h0.goes (plain_is base v L k w h0.own (by omega) c _ hc x y z p q HP.out)).mono ?_
  rintro e w' ⟨v', rfl, hSt⟩
  go_wp2_with fail
  go_ret
  exact St.fin (by first | assumption | exact St.drew (by assumption) | exact St.alloc (by assumption) _ | exact St.drew (St.alloc (by assumption) _)) (by omega)
set_option maxRecDepth 100000 in
set_option maxHeartbeats 1600000 in
theorem program0b (base : Nat) (v : Value) (L : List Sp) (k : Nat) (w : World) (hO : Own w v L k base) (hk : k ≤ 4000) (set ix : Int) (c : Nat) (hc : c < 256) (hM : Modes w) (hs : set = 0) (h1 : ¬ ix = 1) (h2 : ix = 2) : Calls Tryd.prog 6 #[v, .int .i64 set, .int .i64 ix, .int .u8 c] w (Gives w v (progS L set ix c) (k + 10) base) := by
  obtain ⟨x, y, z, p, q, hP⟩ := pts c
  rw [show progS L set ix c = plainS L c x y z p q true by obtain ⟨rfl, rfl, rfl, rfl, rfl⟩ := hP; subst hs h2; rfl]
  subst hs h2
  have HP := Lib.hid hP
  have h0 := St.start hO
  have HM := Lib.hid hM
  clear hO hM hP
  go_enter Tryd.func6, Tryd.ntmps6
  go_wp2_with fail
  refine (h0.goes (plain_is base v L k w h0.own (by omega) c _ hc x y z p q HP.out)).mono ?_
  rintro e w' ⟨v', rfl, hSt⟩
  go_wp2_with fail
  go_ret
  exact St.fin (by first | assumption | exact St.drew (by assumption) | exact St.alloc (by assumption) _ | exact St.drew (St.alloc (by assumption) _)) (by omega)
set_option maxRecDepth 100000 in
set_option maxHeartbeats 1600000 in
theorem program0c (base : Nat) (v : Value) (L : List Sp) (k : Nat) (w : World) (hO : Own w v L k base) (hk : k ≤ 4000) (set ix : Int) (c : Nat) (hc : c < 256) (hM : Modes w) (hs : set = 0) (h1 : ¬ ix = 1) (h2 : ¬ ix = 2) : Calls Tryd.prog 6 #[v, .int .i64 set, .int .i64 ix, .int .u8 c] w (Gives w v (progS L set ix c) (k + 10) base) := by
  obtain ⟨x, y, z, p, q, hP⟩ := pts c
  rw [show progS L set ix c = plainS L c x y z p q false by obtain ⟨rfl, rfl, rfl, rfl, rfl⟩ := hP; subst hs; unfold progS; rw [if_pos rfl, decide_eq_false h1, decide_eq_false h2]; rfl]
  subst hs
  have f1 : (ix == 1) = false := by simpa using h1
  have f2 : (ix == 2) = false := by simpa using h2
  clear h1 h2
  have HP := Lib.hid hP
  have h0 := St.start hO
  have HM := Lib.hid hM
  clear hO hM hP
  go_enter Tryd.func6, Tryd.ntmps6
  go_wp2_with fail
  refine (h0.goes (plain_is base v L k w h0.own (by omega) c _ hc x y z p q HP.out)).mono ?_
  rintro e w' ⟨v', rfl, hSt⟩
  go_wp2_with fail
  go_ret
  exact St.fin (by first | assumption | exact St.drew (by assumption) | exact St.alloc (by assumption) _ | exact St.drew (St.alloc (by assumption) _)) (by omega)
set_option maxRecDepth 100000 in
set_option maxHeartbeats 1600000 in
theorem program1 (base : Nat) (v : Value) (L : List Sp) (k : Nat) (w : World) (hO : Own w v L k base) (hk : k ≤ 4000) (set ix : Int) (c : Nat) (hc : c < 256) (hM : Modes w) (hs : set = 1) : Calls Tryd.prog 6 #[v, .int .i64 set, .int .i64 ix, .int .u8 c] w (Gives w v (progS L set ix c) (k + 10) base) := by
  obtain ⟨x, y, z, p, q, hP⟩ := pts c
  rw [show progS L set ix c = turnsS L x y z by obtain ⟨rfl, rfl, rfl, rfl, rfl⟩ := hP; subst hs; rfl]
  obtain ⟨⟨x0, x1⟩, ⟨y0, y1⟩, ⟨z0, z1⟩, ⟨p0, p1⟩, ⟨q0, q1⟩, -⟩ := hP.bd hc
  subst hs
  have HP := Lib.hid hP
  have h0 := St.start hO
  have HM := Lib.hid hM
  clear hO hM hP
  go_enter Tryd.func6, Tryd.ntmps6
  go_wp2_with fail
  refine (mcut_is c x y z p q _ hc HP.out).mono ?_
  rintro e w1 ⟨rfl, hw1⟩
  have h1 := h0.below hw1
  go_wp2_with fail
  refine (turns_st h1 (by omega) _ _ _ _ _ (by omega) (by omega) (by omega) (by omega) ).mono ?_
  rintro e w' ⟨v', rfl, hSt⟩
  go_wp2_with fail
  go_ret
  exact St.fin (by first | assumption | exact St.drew (by assumption) | exact St.alloc (by assumption) _ | exact St.drew (St.alloc (by assumption) _)) (by omega)
set_option maxRecDepth 100000 in
set_option maxHeartbeats 1600000 in
theorem program2 (base : Nat) (v : Value) (L : List Sp) (k : Nat) (w : World) (hO : Own w v L k base) (hk : k ≤ 4000) (set ix : Int) (c : Nat) (hc : c < 256) (hM : Modes w) (hs : set = 2) : Calls Tryd.prog 6 #[v, .int .i64 set, .int .i64 ix, .int .u8 c] w (Gives w v (progS L set ix c) (k + 10) base) := by
  obtain ⟨x, y, z, p, q, hP⟩ := pts c
  rw [show progS L set ix c = moreS L x y z p q by obtain ⟨rfl, rfl, rfl, rfl, rfl⟩ := hP; subst hs; rfl]
  obtain ⟨⟨x0, x1⟩, ⟨y0, y1⟩, ⟨z0, z1⟩, ⟨p0, p1⟩, ⟨q0, q1⟩, -⟩ := hP.bd hc
  subst hs
  have HP := Lib.hid hP
  have h0 := St.start hO
  have HM := Lib.hid hM
  clear hO hM hP
  go_enter Tryd.func6, Tryd.ntmps6
  go_wp2_with fail
  refine (mcut_is c x y z p q _ hc HP.out).mono ?_
  rintro e w1 ⟨rfl, hw1⟩
  have h1 := h0.below hw1
  go_wp2_with fail
  refine (more_st h1 (by omega) _ _ _ _ _ (by omega) (by omega) (by omega) (by omega) (by omega) (by omega) (by omega) (by omega) (by omega) (by omega) (HM.out.below hw1)).mono ?_
  rintro e w' ⟨v', rfl, hSt⟩
  go_wp2_with fail
  go_ret
  exact St.fin (by first | assumption | exact St.drew (by assumption) | exact St.alloc (by assumption) _ | exact St.drew (St.alloc (by assumption) _)) (by omega)
set_option maxRecDepth 100000 in
set_option maxHeartbeats 1600000 in
theorem program3 (base : Nat) (v : Value) (L : List Sp) (k : Nat) (w : World) (hO : Own w v L k base) (hk : k ≤ 4000) (set ix : Int) (c : Nat) (hc : c < 256) (hM : Modes w) (hs : set = 3) : Calls Tryd.prog 6 #[v, .int .i64 set, .int .i64 ix, .int .u8 c] w (Gives w v (progS L set ix c) (k + 10) base) := by
  obtain ⟨x, y, z, p, q, hP⟩ := pts c
  rw [show progS L set ix c = indexedS L x y z by obtain ⟨rfl, rfl, rfl, rfl, rfl⟩ := hP; subst hs; rfl]
  obtain ⟨⟨x0, x1⟩, ⟨y0, y1⟩, ⟨z0, z1⟩, ⟨p0, p1⟩, ⟨q0, q1⟩, -⟩ := hP.bd hc
  subst hs
  have HP := Lib.hid hP
  have h0 := St.start hO
  have HM := Lib.hid hM
  clear hO hM hP
  go_enter Tryd.func6, Tryd.ntmps6
  go_wp2_with fail
  refine (mcut_is c x y z p q _ hc HP.out).mono ?_
  rintro e w1 ⟨rfl, hw1⟩
  have h1 := h0.below hw1
  go_wp2_with fail
  refine (indexed_st h1 (by omega) _ _ _ _ _ (by omega) (by omega) (by omega) (by omega) ).mono ?_
  rintro e w' ⟨v', rfl, hSt⟩
  go_wp2_with fail
  go_ret
  exact St.fin (by first | assumption | exact St.drew (by assumption) | exact St.alloc (by assumption) _ | exact St.drew (St.alloc (by assumption) _)) (by omega)
set_option maxRecDepth 100000 in
set_option maxHeartbeats 1600000 in
theorem programN (base : Nat) (v : Value) (L : List Sp) (k : Nat) (w : World) (hO : Own w v L k base) (hk : k ≤ 4000) (set ix : Int) (c : Nat) (hc : c < 256) (hM : Modes w) (n0 : ¬ set = 0) (n1 : ¬ set = 1) (n2 : ¬ set = 2) (n3 : ¬ set = 3) : Calls Tryd.prog 6 #[v, .int .i64 set, .int .i64 ix, .int .u8 c] w (Gives w v (progS L set ix c) (k + 10) base) := by
  obtain ⟨x, y, z, p, q, hP⟩ := pts c
  rw [show progS L set ix c = L by unfold progS; simp only [if_neg n0, if_neg n1, if_neg n2, if_neg n3]]
  have f0 : (set == 0) = false := by simpa using n0
  have f1 : (set == 1) = false := by simpa using n1
  have f2 : (set == 2) = false := by simpa using n2
  have f3 : (set == 3) = false := by simpa using n3
  clear n0 n1 n2 n3
  have HP := Lib.hid hP
  have h0 := St.start hO
  have HM := Lib.hid hM
  clear hO hM hP
  go_enter Tryd.func6, Tryd.ntmps6
  go_wp2_with fail
  go_ret
  exact St.fin (by first | assumption | exact St.drew (by assumption) | exact St.alloc (by assumption) _ | exact St.drew (St.alloc (by assumption) _)) (by omega)
theorem program_is (base : Nat) (v : Value) (L : List Sp) (k : Nat) (w : World) (hO : Own w v L k base) (hk : k ≤ 4000) (set ix : Int) (c : Nat) (hc : c < 256) (hM : Modes w) : Calls Tryd.prog 6 #[v, .int .i64 set, .int .i64 ix, .int .u8 c] w (Gives w v (progS L set ix c) (k + 10) base) := by
  by_cases n0 : set = 0
  · by_cases h1 : ix = 1
    · exact program0a base v L k w hO hk set ix c hc hM n0 h1
    by_cases h2 : ix = 2
    · exact program0b base v L k w hO hk set ix c hc hM n0 h1 h2
    · exact program0c base v L k w hO hk set ix c hc hM n0 h1 h2
  by_cases n1 : set = 1
  · exact program1 base v L k w hO hk set ix c hc hM n1
  by_cases n2 : set = 2
  · exact program2 base v L k w hO hk set ix c hc hM n2
  by_cases n3 : set = 3
  · exact program3 base v L k w hO hk set ix c hc hM n3
  · exact programN base v L k w hO hk set ix c hc hM n0 n1 n2 n3

end Go.Proofs.YthmkfojjlcinkaaDoor
