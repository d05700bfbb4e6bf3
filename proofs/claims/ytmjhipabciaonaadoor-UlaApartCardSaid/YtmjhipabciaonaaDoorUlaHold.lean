/- The contracts of layer 9's calls: ahead of which T-state of which cycle the processor is held. -/
import Derived.Test.YtmjhipabciaonaaDoorUlaTime
namespace Go.Proofs.YtmjhipabciaonaaDoor
open Go.RowKit

/-- Ahead of the T-state k of a cycle of a kind, at an address that is the circuit's (s) or isn't, odd (o) or even. -/
def heldB (kind : Int) (s o : Bool) (k : Int) : Bool :=
  decide (((kind = 0 ∨ kind = 1 ∨ kind = 2) ∧ s = true ∧ k = 0) ∨ (kind = 4 ∧ s = true) ∨ (kind = 3 ∧ ((o = true ∧ s = true) ∨ (o = false ∧ (k = 1 ∨ (s = true ∧ k = 0))))))
def holdV (kind a k t : Int) : Int := if heldB kind (slowB a) (a % 2 == 1) k = true then waitV (frameV t) else 0

set_option maxHeartbeats 800000 in
theorem heldAtPort_any (a k : Int) (s o b : Bool) (w : World) (h0 : 0 ≤ a) (h1 : a ≤ 65535) (hs : slowB a = s) (ho : (a % 2 == 1) = o) (hb : ((o && s) || (!o && (decide (k = 1) || (s && decide (k = 0))))) = b) :
    Calls Tryd.prog 29 #[.int .u16 a, .int .i64 k] w fun e w' => e = .returned (.bool b) ∧ w = w' := by
  have HS := Lib.hid hs
  clear hs
  cases o with
  | true =>
    obtain rfl : s = b := by simpa using hb
    clear hb
    go_enter Tryd.func29, Tryd.ntmps29
    go_wp2_with fail
    refine (slow_any _ _ _ HS.out).mono ?_
    rintro e w' ⟨rfl, rfl⟩
    go_wp2_with fail
    go_ret
    exact ⟨rfl, rfl⟩
  | false =>
    by_cases k1 : k = 1
    · subst k1
      obtain rfl : true = b := by simpa using hb
      clear hb
      go_enter Tryd.func29, Tryd.ntmps29
      go_wp2_with fail
      go_ret
      exact ⟨rfl, rfl⟩
    have f1 : (k == 1) = false := by simpa using k1
    cases s with
    | false =>
      obtain rfl : false = b := by simpa [k1] using hb
      clear hb k1
      go_enter Tryd.func29, Tryd.ntmps29
      go_wp2_with fail
      refine (slow_any _ _ _ HS.out).mono ?_
      rintro e w' ⟨rfl, rfl⟩
      go_wp2_with fail
      go_ret
      exact ⟨rfl, rfl⟩
    | true =>
      by_cases k0 : k = 0
      · subst k0
        obtain rfl : true = b := by simpa using hb
        clear hb k1
        go_enter Tryd.func29, Tryd.ntmps29
        go_wp2_with fail
        refine (slow_any _ _ _ HS.out).mono ?_
        rintro e w' ⟨rfl, rfl⟩
        go_wp2_with fail
        go_ret
        exact ⟨rfl, rfl⟩
      · have f0 : (k == 0) = false := by simpa using k0
        obtain rfl : false = b := by simpa [k1, k0] using hb
        clear hb k1 k0
        go_enter Tryd.func29, Tryd.ntmps29
        go_wp2_with fail
        refine (slow_any _ _ _ HS.out).mono ?_
        rintro e w' ⟨rfl, rfl⟩
        go_wp2_with fail
        go_ret
        exact ⟨rfl, rfl⟩

set_option maxHeartbeats 800000 in
theorem held_any (kind a k : Int) (s o b : Bool) (w : World) (h0 : 0 ≤ a) (h1 : a ≤ 65535) (hs : slowB a = s) (ho : (a % 2 == 1) = o) (hb : heldB kind s o k = b) :
    Calls Tryd.prog 26 #[.int .i64 kind, .int .u16 a, .int .i64 k] w fun e w' => e = .returned (.bool b) ∧ w = w' := by
  have HS := Lib.hid hs
  have HO := Lib.hid ho
  clear hs ho
  unfold heldB at hb
  by_cases q3 : kind = 3
  · subst q3
    have HB := Lib.hid (show ((o && s) || (!o && (decide (k = 1) || (s && decide (k = 0))))) = b by
      rw [← hb]
      cases o <;> cases s <;> simp)
    clear hb
    go_enter Tryd.func26, Tryd.ntmps26
    go_wp2_with fail
    refine (heldAtPort_any _ _ _ _ _ _ h0 h1 HS.out HO.out HB.out).mono ?_
    rintro e w' ⟨rfl, rfl⟩
    go_wp2_with fail
    go_ret
    exact ⟨rfl, rfl⟩
  by_cases q4 : kind = 4
  · subst q4
    obtain rfl : s = b := by rw [← hb]; simp
    clear hb q3 HO
    go_enter Tryd.func26, Tryd.ntmps26
    go_wp2_with fail
    refine (slow_any _ _ _ HS.out).mono ?_
    rintro e w' ⟨rfl, rfl⟩
    go_wp2_with fail
    go_ret
    exact ⟨rfl, rfl⟩
  by_cases q : kind = 0 ∨ kind = 1 ∨ kind = 2
  · by_cases k0 : k = 0
    · subst k0
      obtain rfl : s = b := by rw [← hb]; simp [q, q3, q4]
      clear hb q3 q4 HO
      cases s <;> rcases q with rfl | rfl | rfl
      all_goals
        go_enter Tryd.func26, Tryd.ntmps26
        go_wp2_with fail
        refine (slow_any _ _ _ HS.out).mono ?_
        rintro e w' ⟨rfl, rfl⟩
        go_wp2_with fail
        go_ret
        exact ⟨rfl, rfl⟩
    · have f0 : (k == 0) = false := by simpa using k0
      obtain rfl : false = b := by rw [← hb]; simp [q3, q4, k0]
      clear hb q3 q4 k0 HO
      cases s <;> rcases q with rfl | rfl | rfl
      all_goals
        go_enter Tryd.func26, Tryd.ntmps26
        go_wp2_with fail
        refine (slow_any _ _ _ HS.out).mono ?_
        rintro e w' ⟨rfl, rfl⟩
        go_wp2_with fail
        go_ret
        exact ⟨rfl, rfl⟩
  · obtain rfl : false = b := by rw [← hb]; simp [q3, q4, q]
    have f0 : (kind == 0) = false := by simpa using fun e => q (Or.inl e)
    have f1 : (kind == 1) = false := by simpa using fun e => q (Or.inr (Or.inl e))
    have f2 : (kind == 2) = false := by simpa using fun e => q (Or.inr (Or.inr e))
    have f3 : (kind == 3) = false := by simpa using q3
    have f4 : (kind == 4) = false := by simpa using q4
    clear hb q3 q4 q HO HS
    go_enter Tryd.func26, Tryd.ntmps26
    go_wp2_with fail
    go_ret
    exact ⟨rfl, rfl⟩

set_option maxHeartbeats 800000 in
theorem hold_any (kind a k t : Int) (w : World) (h0 : 0 ≤ a) (h1 : a ≤ 65535) (hT : Waits w) :
    Calls Tryd.prog 14 #[.int .i64 kind, .int .u16 a, .int .i64 k, .int .i64 t] w fun e w' => e = .returned (.int .i64 (holdV kind a k t)) ∧ w = w' := by
  have HT := Lib.hid hT
  clear hT
  cases hb : heldB kind (slowB a) (a % 2 == 1) k with
  | true =>
    have HV := Lib.hid (show holdV kind a k t = waitV (frameV t) by unfold holdV; rw [if_pos hb])
    have HB := Lib.hid hb
    clear hb
    go_enter Tryd.func14, Tryd.ntmps14
    go_wp2_with fail
    refine (held_any _ _ _ _ _ true _ h0 h1 rfl rfl HB.out).mono ?_
    rintro e w' ⟨rfl, rfl⟩
    go_wp2_with fail
    refine (wait_any _ _ HT.out).mono ?_
    rintro e w' ⟨rfl, rfl⟩
    go_wp2_with fail
    go_ret
    exact ⟨by rw [HV.out]; rfl, rfl⟩
  | false =>
    have HV := Lib.hid (show holdV kind a k t = 0 by unfold holdV; rw [if_neg (by rw [hb]; simp)])
    have HB := Lib.hid hb
    clear hb
    go_enter Tryd.func14, Tryd.ntmps14
    go_wp2_with fail
    refine (held_any _ _ _ _ _ false _ h0 h1 rfl rfl HB.out).mono ?_
    rintro e w' ⟨rfl, rfl⟩
    go_wp2_with fail
    go_ret
    exact ⟨by rw [HV.out]; rfl, rfl⟩

set_option maxHeartbeats 3200000 in
theorem refHold_at (kind a k t : Int) (s o : Bool) (r : Int) (w : World) (h0 : 0 ≤ a) (h1 : a ≤ 65535) (hs : slowB a = s) (ho : (a % 2 == 0) = !o) (hr : (if heldB kind s o k = true then waitV (frameV t) else 0) = r) :
    Calls Tryd.prog 15 #[.int .i64 kind, .int .u16 a, .int .i64 k, .int .i64 t] w fun e w' => e = .returned (.int .i64 r) ∧ w = w' := by
  have HS := Lib.hid hs
  clear hs
  unfold heldB at hr
  by_cases q3 : kind = 3
  · subst q3
    by_cases k0 : k = 0
    · subst k0
      cases s <;> cases o <;> simp at hr ho
      all_goals
        have HR := Lib.hid hr
        clear hr
        go_enter Tryd.func15, Tryd.ntmps15
        go_wp2_with fail
        refine (refSlow_any _ _ _ h0 h1 HS.out).mono ?_
        rintro e w' ⟨rfl, rfl⟩
        first
          | (go_wp2_with fail; go_ret; exact ⟨by rw [← HR.out]; rfl, rfl⟩)
          | (go_wp2_with fail; refine (refWaitIs _ _ _ HR.out).mono ?_; rintro e w' ⟨rfl, rfl⟩; go_wp2_with fail; go_ret; exact ⟨rfl, rfl⟩)
    by_cases k1 : k = 1
    · subst k1
      cases s <;> cases o <;> simp at hr ho
      all_goals
        have HR := Lib.hid hr
        clear hr
        go_enter Tryd.func15, Tryd.ntmps15
        go_wp2_with fail
        refine (refSlow_any _ _ _ h0 h1 HS.out).mono ?_
        rintro e w' ⟨rfl, rfl⟩
        first
          | (go_wp2_with fail; go_ret; exact ⟨by rw [← HR.out]; rfl, rfl⟩)
          | (go_wp2_with fail; refine (refWaitIs _ _ _ HR.out).mono ?_; rintro e w' ⟨rfl, rfl⟩; go_wp2_with fail; go_ret; exact ⟨rfl, rfl⟩)
    · have f0 : (k == 0) = false := by simpa using k0
      have f1 : (k == 1) = false := by simpa using k1
      cases s <;> cases o <;> simp [k0, k1] at hr ho
      all_goals
        clear k0 k1
        have HR := Lib.hid hr
        clear hr
        go_enter Tryd.func15, Tryd.ntmps15
        go_wp2_with fail
        refine (refSlow_any _ _ _ h0 h1 HS.out).mono ?_
        rintro e w' ⟨rfl, rfl⟩
        first
          | (go_wp2_with fail; go_ret; exact ⟨by rw [← HR.out]; rfl, rfl⟩)
          | (go_wp2_with fail; refine (refWaitIs _ _ _ HR.out).mono ?_; rintro e w' ⟨rfl, rfl⟩; go_wp2_with fail; go_ret; exact ⟨rfl, rfl⟩)
  by_cases q4 : kind = 4
  · subst q4
    clear q3
    cases s <;> simp at hr
    all_goals
      have HR := Lib.hid hr
      clear hr
      go_enter Tryd.func15, Tryd.ntmps15
      go_wp2_with fail
      refine (refSlow_any _ _ _ h0 h1 HS.out).mono ?_
      rintro e w' ⟨rfl, rfl⟩
      first
        | (go_wp2_with fail; go_ret; exact ⟨by rw [← HR.out]; rfl, rfl⟩)
        | (go_wp2_with fail; refine (refWaitIs _ _ _ HR.out).mono ?_; rintro e w' ⟨rfl, rfl⟩; go_wp2_with fail; go_ret; exact ⟨rfl, rfl⟩)
  by_cases q : kind = 0 ∨ kind = 1 ∨ kind = 2
  · by_cases k0 : k = 0
    · subst k0
      clear q3 q4
      cases s <;> rcases q with rfl | rfl | rfl <;> simp at hr
      all_goals
        have HR := Lib.hid hr
        clear hr
        go_enter Tryd.func15, Tryd.ntmps15
        go_wp2_with fail
        refine (refSlow_any _ _ _ h0 h1 HS.out).mono ?_
        rintro e w' ⟨rfl, rfl⟩
        first
          | (go_wp2_with fail; go_ret; exact ⟨by rw [← HR.out]; rfl, rfl⟩)
          | (go_wp2_with fail; refine (refWaitIs _ _ _ HR.out).mono ?_; rintro e w' ⟨rfl, rfl⟩; go_wp2_with fail; go_ret; exact ⟨rfl, rfl⟩)
    · have f0 : (k == 0) = false := by simpa using k0
      clear q3 q4
      cases s <;> rcases q with rfl | rfl | rfl <;> simp [k0] at hr
      all_goals
        clear k0
        have HR := Lib.hid hr
        clear hr
        go_enter Tryd.func15, Tryd.ntmps15
        go_wp2_with fail
        refine (refSlow_any _ _ _ h0 h1 HS.out).mono ?_
        rintro e w' ⟨rfl, rfl⟩
        first
          | (go_wp2_with fail; go_ret; exact ⟨by rw [← HR.out]; rfl, rfl⟩)
          | (go_wp2_with fail; refine (refWaitIs _ _ _ HR.out).mono ?_; rintro e w' ⟨rfl, rfl⟩; go_wp2_with fail; go_ret; exact ⟨rfl, rfl⟩)
  · have g : kind < 0 ∨ 2 < kind := by omega
    have f3 : (kind == 3) = false := by simpa using q3
    have f4 : (kind == 4) = false := by simpa using q4
    simp [q3, q4, show ¬ kind = 0 from fun e => q (Or.inl e), show ¬ kind = 1 from fun e => q (Or.inr (Or.inl e)), show ¬ kind = 2 from fun e => q (Or.inr (Or.inr e))] at hr
    clear q3 q4 q
    rcases g with g | g
    · have f0 : decide (0 ≤ kind) = false := decide_eq_false (by omega)
      have HR := Lib.hid hr
      clear hr
      go_enter Tryd.func15, Tryd.ntmps15
      go_wp2_with fail
      refine (refSlow_any _ _ _ h0 h1 HS.out).mono ?_
      rintro e w' ⟨rfl, rfl⟩
      first
        | (go_wp2_with fail; go_ret; exact ⟨by rw [← HR.out]; rfl, rfl⟩)
        | (go_wp2_with fail; refine (refWaitIs _ _ _ HR.out).mono ?_; rintro e w' ⟨rfl, rfl⟩; go_wp2_with fail; go_ret; exact ⟨rfl, rfl⟩)
    · have f0 : decide (kind ≤ 2) = false := decide_eq_false (by omega)
      have HR := Lib.hid hr
      clear hr
      go_enter Tryd.func15, Tryd.ntmps15
      go_wp2_with fail
      refine (refSlow_any _ _ _ h0 h1 HS.out).mono ?_
      rintro e w' ⟨rfl, rfl⟩
      first
        | (go_wp2_with fail; go_ret; exact ⟨by rw [← HR.out]; rfl, rfl⟩)
        | (go_wp2_with fail; refine (refWaitIs _ _ _ HR.out).mono ?_; rintro e w' ⟨rfl, rfl⟩; go_wp2_with fail; go_ret; exact ⟨rfl, rfl⟩)

theorem even_odd (a : Int) : (a % 2 == 0) = !(a % 2 == 1) := by
  have h : a % 2 = 0 ∨ a % 2 = 1 := by omega
  rcases h with h | h <;> rw [h] <;> rfl
theorem refHold_any (kind a k t : Int) (w : World) (h0 : 0 ≤ a) (h1 : a ≤ 65535) :
    Calls Tryd.prog 15 #[.int .i64 kind, .int .u16 a, .int .i64 k, .int .i64 t] w fun e w' => e = .returned (.int .i64 (holdV kind a k t)) ∧ w = w' :=
  refHold_at kind a k t _ _ _ w h0 h1 rfl (even_odd a) rfl

set_option maxHeartbeats 400000 in
theorem asks_any (t : Int) (w : World) : Calls Tryd.prog 16 #[.int .i64 t] w fun e w' => e = .returned (.bool (decide (frameV t < 32))) ∧ w = w' := by
  go_enter Tryd.func16, Tryd.ntmps16
  go_wp2_with fail
  refine (frame_any _ _).mono ?_
  rintro e w' ⟨rfl, rfl⟩
  go_wp2_with fail
  go_ret
  exact ⟨rfl, rfl⟩

end Go.Proofs.YtmjhipabciaonaaDoor
