/- The unpacker's length and distance. -/
import Derived.Test.YtifkldllhbcmkaaDoorInfFar
import Derived.Test.YtifkldllhbcmkaaDoorHeldTail
namespace Go.Proofs.YtifkldllhbcmkaaDoor
open Go.RowKit
set_option linter.unusedVariables false
set_option linter.unusedSimpArgs false

theorem stepD_er1 {N T β : Nat → Nat} {len : Nat} : ∀ {f k}, (stepD N T β len f k).2.2 ≠ 0 → (stepD N T β len f k).1 = 0
  | 0, k => fun _ => rfl
  | f + 1, k => by
    rw [stepD]
    split
    · exact fun h => absurd rfl h
    · split
      · exact fun _ => rfl
      · split
        · exact fun _ => rfl
        · exact stepD_er1
theorem next_b (c : Cx) (w : World) (ob : Option Nat) (p : Nat) (o : List Int) (g : Nat) (l : List Int) (h : UAt c w ob p o) (ht : TabIn c w ob g l) (hl : l.length ≤ 320) :
    Calls Tryd.prog 25 #[.pointer (some ⟨g, 0, none⟩), .pointer (some ⟨c.gb, 0, none⟩)] w (GaveB c w (nextM c.bs l p)) := by
  obtain ⟨G, h1, h2⟩ := ht
  refine (next_any G _ g c.gb l c.bs p w h1 h.bits (fun k hk => (h2 k hk).2.1) hl c.hbs).mono ?_
  rintro e w1 ⟨he, hb, hc⟩
  rcases (nextM c.bs l p).two with ⟨x, hx⟩ | ⟨s, q, hx⟩
  · obtain ⟨k1, k2⟩ := next_er hx
    have k3 : (readR l c.bs p).1 = 0 := stepD_er1 (by
      have : (readR l c.bs p).2.2 ≠ 0 := by omega
      exact this)
    refine Or.inr ⟨x, hx, by omega, ?_, hc⟩
    rw [he, k1, k3]; rfl
  · obtain ⟨t, k1, k2, k3, k4, k5⟩ := next_ok hx
    rw [k1] at he hb
    refine Or.inl ⟨s, q, hx, he, ?_, hc⟩
    rw [k2]
    exact hb rfl
theorem next_u (c : Cx) (w : World) (ob : Option Nat) (p : Nat) (o : List Int) (g : Nat) (l : List Int) (h : UAt c w ob p o) (ht : TabIn c w ob g l) (hl : l.length ≤ 320) :
    Calls Tryd.prog 25 #[.pointer (some ⟨g, 0, none⟩), .pointer (some ⟨c.gb, 0, none⟩)] w (GaveI c w ob o (nextM c.bs l p)) := (next_b c w ob p o g l h ht hl).mono fun _ _ => GaveB.toI h
theorem far_le {bs : List Int} {k each p v q : Nat} (hk : k ≤ 30) (he : each = 2 ∨ each = 4) (h : farM bs k each p = .ok (v, q)) : v ≤ 600000 := by
  obtain ⟨m1, m2, _⟩ := far_math k each hk he
  unfold farM takeM at h
  have h2 : 2 ^ xtra k each ≤ 2 ^ 14 := Nat.pow_le_pow_right (by decide) m1
  have h3 := lo_lt (bitsF bs p) (fun j => bitsF_le _ _ _) (xtra k each)
  have h4 := Nat.mul_le_mul m2 h2
  split at h
  · rw [bnd_ok] at h
    simp only [Except.ok.injEq, Prod.mk.injEq] at h
    omega
  · cases h
set_option maxHeartbeats 1600000 in
theorem length_u (c : Cx) (w : World) (ob : Option Nat) (p : Nat) (o : List Int) (s : Nat) (hs : 257 ≤ s) (hs2 : s ≤ 400) (h : UAt c w ob p o) :
    Calls Tryd.prog 32 #[.pointer (some ⟨c.gu, 0, none⟩), .int .i64 (s : Nat)] w (GaveI c w ob o (lengthM c.bs s p)) := by
  by_cases h1 : 285 < s
  · have hR : lengthM c.bs s p = .error 4 := if_pos h1
    have HE : Hid (GaveI c w ob o (lengthM c.bs s p) (.returned (.tuple #[.int .i64 0, .int .i64 4])) w) := Lib.hid (Or.inr ⟨4, hR, by omega, rfl, h.newBelow (Below.refl _ _)⟩)
    have d1 : decide ((285 : Int) < (s : Int)) = true := decide_eq_true (by omega)
    clear h hR
    go_enter Tryd.func32, Tryd.ntmps32
    go_wp2_with fail
    go_ret2
    exact HE.out
  have d1 : decide ((285 : Int) < (s : Int)) = false := decide_eq_false (by omega)
  by_cases h2 : s = 285
  · have hR : lengthM c.bs s p = .ok (258, p) := by unfold lengthM; rw [if_neg h1, if_pos h2]
    have HE : Hid (GaveI c w ob o (lengthM c.bs s p) (.returned (.tuple #[.int .i64 258, .int .i64 0])) w) := Lib.hid (Or.inl ⟨258, p, hR, rfl, h, Mv.refl _ _ _⟩)
    have d2 : ((s : Int) == 285) = true := by rw [beq_iff_eq]; omega
    clear h hR
    go_enter Tryd.func32, Tryd.ntmps32
    go_wp2_with fail
    go_ret2
    exact HE.out
  have d2 : ((s : Int) == 285) = false := by rw [beq_eq_false_iff_ne]; omega
  have HF : Hid (lengthM c.bs s p = bnd (farM c.bs (s - 257) 4 p) fun m q => .ok (3 + m, q)) := Lib.hid (by unfold lengthM; rw [if_neg h1, if_neg h2])
  have HL := Lib.hid (fun v q => far_le (bs := c.bs) (k := s - 257) (each := 4) (p := p) (v := v) (q := q) (by omega) (by omega))
  have HT := Lib.hid (stretched_u c w ob p o (s - 257) 4 (by omega) (by omega) h)
  have hk : (s : Int) - 256 - 1 = ((s - 257 : Nat) : Int) := by omega
  generalize s - 257 = K at *
  clear h
  go_enter Tryd.func32, Tryd.ntmps32
  go_wp2_with fail
  refine HT.out.mono ?_
  rintro e w1 (⟨v, q, hR, rfl, hU, hM⟩ | ⟨x, hR, hx, rfl, hb⟩)
  · have hv := HL.out v q hR
    have hs : (3 : Int) + (v : Int) = ((3 + v : Nat) : Int) := by omega
    have HE : Hid (GaveI c w ob o (lengthM c.bs s p) (.returned (.tuple #[.int .i64 ((3 + v : Nat) : Int), .int .i64 0])) w1) := Lib.hid (Or.inl ⟨_, _, by rw [HF.out, hR]; rfl, rfl, hU, hM⟩)
    generalize 3 + v = S at *
    clear hR hU hM
    go_wp2_with fail
    go_ret2
    exact HE.out
  · have hn := nz hx
    have HE : Hid (GaveI c w ob o (lengthM c.bs s p) (.returned (.tuple #[.int .i64 0, .int .i64 (x : Nat)])) w1) := Lib.hid (Or.inr ⟨x, by rw [HF.out, hR]; rfl, hx, rfl, hb⟩)
    clear hR hx hb
    go_wp2_with fail
    go_ret2
    exact HE.out
/-- A struct of two tables, boxed. -/
def cdC (gs gd : Nat) : Array Value := #[.pointer (some ⟨gs, 0, none⟩), .pointer (some ⟨gd, 0, none⟩)]
theorem length_lt {bs : List Int} {s p v q : Nat} (hs : 257 ≤ s) (h : lengthM bs s p = .ok (v, q)) : v ≤ 700000 := by
  unfold lengthM at h
  split at h
  · cases h
  · split at h
    · simp only [Except.ok.injEq, Prod.mk.injEq] at h; omega
    · rcases (farM bs (s - 257) 4 p).two with ⟨x, hx⟩ | ⟨m, r, hx⟩
      · rw [hx] at h; cases h
      · have := far_le (by omega) (by omega) hx
        rw [hx, bnd_ok] at h
        simp only [Except.ok.injEq, Prod.mk.injEq] at h
        omega
theorem dist_lt {bs ld : List Int} {p v q : Nat} (h : distM bs ld p = .ok (v, q)) : v ≤ 700000 := by
  unfold distM at h
  rcases (nextM bs ld p).two with ⟨x, hx⟩ | ⟨s, r, hx⟩
  · rw [hx] at h; cases h
  · rw [hx, bnd_ok] at h
    split at h
    · cases h
    · rcases (farM bs s 2 r).two with ⟨x, hx⟩ | ⟨m, r, hx⟩
      · rw [hx] at h; cases h
      · have := far_le (by omega) (by omega) hx
        rw [hx, bnd_ok] at h
        simp only [Except.ok.injEq, Prod.mk.injEq] at h
        omega
/-- Either way, as one. -/
def GaveJ (c : Cx) (w : World) (ob : Option Nat) (o : List Int) (R : Rs Nat) (v x : Nat) (w' : World) : Prop :=
  (x = 0 ∧ ∃ q, R = .ok (v, q) ∧ UAt c w' ob q o ∧ Mv c w ob w' ob) ∨ (v = 0 ∧ R = .error x ∧ (x = 2 ∨ x = 4 ∨ x = 8) ∧ Below c.B w w')
theorem GaveI.one {c : Cx} {w : World} {ob : Option Nat} {o : List Int} {R : Rs Nat} {e : Ending} {w' : World} (h : GaveI c w ob o R e w') : ∃ v x : Nat, e = .returned (.tuple #[.int .i64 v, .int .i64 x]) ∧ Hid (GaveJ c w ob o R v x w') := by
  rcases h with ⟨v, q, h1, h2, h3, h4⟩ | ⟨x, h1, h2, h3, h4⟩
  · exact ⟨v, 0, h2, Lib.hid (Or.inl ⟨rfl, q, h1, h3, h4⟩)⟩
  · exact ⟨0, x, h3, Lib.hid (Or.inr ⟨rfl, h1, h2, h4⟩)⟩
set_option maxHeartbeats 3200000 in
theorem distance_u (c : Cx) (w : World) (ob : Option Nat) (p : Nat) (o : List Int) (gs gd : Nat) (ld : List Int) (h : UAt c w ob p o) (ht : TabIn c w ob gd ld) (hl : ld.length ≤ 320) :
    Calls Tryd.prog 33 #[.pointer (some ⟨c.gu, 0, none⟩), .agg #[.pointer (some ⟨gs, 0, none⟩), .pointer (some ⟨gd, 0, none⟩)]] w (GaveI c w ob o (distM c.bs ld p)) := by
  have hb0 : Below w.heap.size w (w.alloc (.cells #[.pointer (some ⟨gs, 0, none⟩), .pointer (some ⟨gd, 0, none⟩)] 35)).drew := bdrawn (bnew w _) 1
  have h0 := h.below hb0
  obtain ⟨v, fs, fd, c0, _, _, _, _, _, _, _⟩ := h0.cells
  have HN := Lib.hid ((next_u c _ ob p o gd ld h0 (ht.mv (Mv.new hb0)) hl).mono fun _ _ => GaveI.one)
  have HT := Lib.hid (fun u q (s : Nat) (hs : s ≤ 29) hu => stretched_u c u ob q o s 2 (by omega) (by omega) hu)
  have HM := Lib.hid (Mv.new (c := c) (ob := ob) hb0)
  have HB := Lib.hid (fun u (hu : Below c.B _ u) => (h.newBelow hb0).trans hu)
  have HB0 := Lib.hid (fun u (hu : Mv c w ob u ob) => h.mvBelow hu)
  clear h0 h ht hb0
  go_enter Tryd.func33, Tryd.ntmps33
  go_wp2_with fail
  go_region_with (go_at_call 25; refine HN.out.mono ?_; rintro e w1 ⟨v, x, rfl, HG⟩)
  all_goals
    rcases HG.out with ⟨rfl, q, hR, hU, hM⟩ | ⟨rfl, hR, hx, hb⟩
    · have HU := Lib.hid hU
      have HM1 := Lib.hid (HM.out.then hM)
      have HF : Hid (distM c.bs ld p = if 29 < v then .error 4 else bnd (farM c.bs v 2 q) fun m r => .ok (1 + m, r)) := Lib.hid (by unfold distM; rw [hR]; rfl)
      clear hU hM hR HG HN HM
      by_cases h29 : 29 < v
      · have d1 : decide ((29 : Int) < (v : Int)) = true := decide_eq_true (by omega)
        have HE : Hid (GaveI c w ob o (distM c.bs ld p) (.returned (.tuple #[.int .i64 0, .int .i64 4])) w1) := Lib.hid (Or.inr ⟨4, by rw [HF.out, if_pos h29], by omega, rfl, HB0.out _ HM1.out⟩)
        go_wp2_with fail
        go_ret2
        exact HE.out
      · have d1 : decide ((29 : Int) < (v : Int)) = false := decide_eq_false (by omega)
        have HT1 := Lib.hid (HT.out w1 q v (by omega) HU.out)
        go_wp2_with fail
        refine HT1.out.mono ?_
        rintro e w2 (⟨m, r, hR, rfl, hU, hM⟩ | ⟨x, hR, hx, rfl, hb⟩)
        · have hv := far_le (by omega) (by omega) hR
          have hs : (1 : Int) + (m : Int) = ((1 + m : Nat) : Int) := by omega
          have HE : Hid (GaveI c w ob o (distM c.bs ld p) (.returned (.tuple #[.int .i64 ((1 + m : Nat) : Int), .int .i64 0])) w2) := Lib.hid (Or.inl ⟨_, _, by rw [HF.out, if_neg h29, hR]; rfl, rfl, hU, HM1.out.then hM⟩)
          generalize 1 + m = S at *
          clear hR hU hM
          go_wp2_with fail
          go_ret2
          exact HE.out
        · have hn := nz hx
          have HE : Hid (GaveI c w ob o (distM c.bs ld p) (.returned (.tuple #[.int .i64 0, .int .i64 (x : Nat)])) w2) := Lib.hid (Or.inr ⟨x, by rw [HF.out, if_neg h29, hR]; rfl, hx, rfl, (HB0.out _ HM1.out).trans hb⟩)
          clear hR hx hb
          go_wp2_with fail
          go_ret2
          exact HE.out
    · have hn := nz hx
      have HE : Hid (GaveI c w ob o (distM c.bs ld p) (.returned (.tuple #[.int .i64 0, .int .i64 (x : Nat)])) w1) := Lib.hid (Or.inr ⟨x, by unfold distM; rw [hR]; rfl, hx, rfl, HB.out _ hb⟩)
      clear hR hx hb HG HN HM
      go_wp2_with fail
      go_ret2
      exact HE.out

end Go.Proofs.YtifkldllhbcmkaaDoor
