/- The law BoardPlays of layer 11, walked. -/
import Derived.Test.YtkcfacbnbjkheaaDoorBoardSteps
import Derived.Test.YtkcfacbnbjkheaaDoorBoardSames
namespace Go.Proofs.YtkcfacbnbjkheaaDoor
open Go.RowKit
set_option maxRecDepth 100000
set_option linter.unusedVariables false

/-- How both stand behind k steps. -/
def Both (w wr : World) (p b x : Nat) (k : Nat) : Prop := ∃ (s : St) (va ve : Value) (ph : Int) (vd ea ee : Value) (L : List Int), Pr wr (fun i => i = p) b x w.heap.size s s va ve ph vd ea ee L k (3000 * (k : Int)) ∧ Below w.heap.size w wr ∧ wr.cell? ⟨p, 0, none⟩ = some (.pointer (some ⟨b, 0, none⟩)) ∧ wr.cell? ⟨p, 1, none⟩ = some (.pointer (some ⟨x, 0, none⟩))
theorem Both.step {w wr : World} {p b x k : Nat} {s : St} {w' : World} {e : Ending} (hb : Below w.heap.size w wr) (h0 : wr.cell? ⟨p, 0, none⟩ = some (.pointer (some ⟨b, 0, none⟩))) (h1 : wr.cell? ⟨p, 1, none⟩ = some (.pointer (some ⟨x, 0, none⟩)))
    (h : SPost (fun i => i = p) b x w.heap.size s s k (3000 * (k : Int)) wr e w') : e = .returned (.bool true) ∧ Both w w' p b x (k + 1) := by
  obtain ⟨r, s', d', va, ve, ph, vd, ea, ee, L, he, hP, hK, hR⟩ := h
  obtain ⟨hr, hsd⟩ := hR rfl
  subst hr hsd
  refine ⟨he, s', va, ve, ph, vd, ea, ee, L, by have := hP; rw [show 3000 * (((k + 1 : Nat)) : Int) = 3000 * (k : Int) + 3000 by omega]; exact this, hb.trans hK.bel, ?_, ?_⟩
  · exact (World.cell?_of_block (a := ⟨p, 0, none⟩) (hK.old p rfl)).trans h0
  · exact (World.cell?_of_block (a := ⟨p, 1, none⟩) (hK.old p rfl)).trans h1
/-- Three bytes. -/
theorem src3 (w : World) : SrcAt (w.alloc (.cells #[.int .u8 1, .int .u8 2, .int .u8 3] 5)) (some ⟨w.heap.size, 0, none⟩) 3 (fun j => (j : Int) + 1) := fun _ => ⟨w.heap.size, 0, rfl, by simp, fun j hj => by
  rw [Nat.zero_add, cell_of_row _ _ j _ _ (0, 0) (heap_alloc_new w _)]
  have e : j = 0 ∨ j = 1 ∨ j = 2 := by omega
  rcases e with rfl | rfl | rfl <;> rfl⟩
theorem frame0 (t : Int) : frameV t = frameV (0 + frameV t) := by unfold frameV; omega
theorem lives_in (w u : World) (hu : Below w.heap.size w u) : Calls Tryd.prog 6 #[] u fun e w' => e = .returned (.bool true) ∧ Below w.heap.size w w' := (lives11 u).mono fun e w' hh => ⟨hh.1, hu.trans (hh.2.mono hu.size)⟩

set_option maxHeartbeats 6400000 in
theorem plays_walk (v : Value) (l : List Opr) (ph : Int) (slow : Bool) (_ : (Lit.int .i64 ph).wf = true) (w : World) (hT : Waits w ∧ ∃ tb, NmTab tb w) (hv : OprsAt w v l) :
    Calls Tryd.prog 3 #[v, .int .i64 ph, .bool slow] w fun e w' => e = .returned (.bool true) ∧ Below w.heap.size w w' := by
  obtain ⟨hW, tb, hN⟩ := hT
  have HV := Lib.hid (fun u hu => lives_in w u hu)
  by_cases hl : l.length ≤ 60
  · have HST := Lib.hid (steps_any v l w hv hl)
    obtain ⟨B, cap, rfl, n1, n2, n3⟩ := hv
    have HO := Lib.hid n3
    have hl6 : decide ((60 : Int) < (l.length : Int)) = false := decide_eq_false (by omega)
    have HWT := Lib.hid (fun u (hu : Below w.heap.size w u) => hW.below hu)
    have HNT := Lib.hid (fun u (hu : Below w.heap.size w u) => hN.below hu)
    unfold maxLen at n2
    clear n3 hW hN
    go_enter Tryd.func3, Tryd.ntmps3
    go_wp2_with fail
    refine HST.out.mono ?_
    rintro e w' ⟨⟨m, rfl⟩, rfl⟩
    by_cases hm : 20000 < m
    · go_wp2_with fail
      refine (HV.out _ (Below.refl _ _)).mono ?_
      rintro e w1 ⟨rfl, hb1⟩
      go_wp2_with fail
      go_ret
      exact ⟨rfl, hb1⟩
    · have hm2 : decide (20000 < m) = false := decide_eq_false hm
      clear hm HST
      go_wp2_with fail
      clear hm2 hl6
      refine (rom_any 201 w).mono ?_
      rintro e w1 ⟨rfl, hC1, hb1⟩
      have HC1 := Lib.hid hC1
      have hs1 := hb1.size
      clear hC1
      have HNEW := Lib.hid (new_any (some ⟨w.heap.size, 0, none⟩) (some ⟨w1.heap.size, 0, none⟩) 16384 3 3 (fun _ => 201) (fun j => (j : Int) + 1) ph (w1.alloc (.cells #[.int .u8 1, .int .u8 2, .int .u8 3] 5)) (HC1.out.src.below (balloc w1 _)) (src3 w1) (by decide))
      have hb2 : Below w.heap.size w (w1.alloc (.cells #[.int .u8 1, .int .u8 2, .int .u8 3] 5)) := below_step hb1 (balloc w1 _)
      go_wp2_with fail
      refine HNEW.out.mono ?_
      rintro e w3 ⟨rfl, hB3, hb3⟩
      have hb13 := below_step hb2 hb3
      obtain ⟨b, hbn⟩ : ∃ b, (w1.alloc (.cells #[.int .u8 1, .int .u8 2, .int .u8 3] 5)).heap.size = b := ⟨_, rfl⟩
      have hwb : w.heap.size ≤ b := by rw [← hbn]; exact hb2.size
      have hbn2 : w1.heap.size + 1 = b := by rw [← hbn]; simp
      rw [hbn] at hB3 ⊢
      clear HNEW HC1 hb1 hb2 hb3 hbn
      have hb3lt := hB3.lt
      have f1 := hB3.cells.frozen 65544
      have f2 := hB3.cells.frozen 65546
      have q1 : w3.cell? ⟨b, 65544, none⟩ = some (.bool false) := hB3.cells.cell 65544 (by decide)
      have q2 : w3.cell? ⟨b, 65546, none⟩ = some (.bool false) := hB3.cells.cell 65546 (by decide)
      have HB4 := Lib.hid ((hB3.set 65544 (.bool slow) (set_slow _ _ _ slow) rfl rfl).set 65546 (.bool true) (set_log _ _ _ true) rfl rfl)
      clear hB3
      go_wp2_with fail
      obtain ⟨w4, hw4⟩ : ∃ u, (w3.setCell ⟨b, 65544, none⟩ (.bool slow)).setCell ⟨b, 65546, none⟩ (.bool true) = u := ⟨_, rfl⟩
      have hb14 : Below w.heap.size w w4 := by rw [← hw4]; exact below_set (below_set hb13 b _ _ hwb) b _ _ hwb
      have hb4lt : b < w4.heap.size := by rw [← hw4]; simpa using hb3lt
      rw [hw4] at HB4 ⊢
      clear hw4 q1 q2 f1 f2 hb13 hb3lt
      refine (rom_any 201 w4).mono ?_
      rintro e w5 ⟨rfl, hC5, hb5⟩
      have HC5 := Lib.hid hC5
      have hs5 := hb5.size
      have HDN := Lib.hid (dnew_any (some ⟨w4.heap.size, 0, none⟩) (some ⟨w5.heap.size, 0, none⟩) 16384 3 3 (fun _ => 201) (fun j => (j : Int) + 1) ph (w5.alloc (.cells #[.int .u8 1, .int .u8 2, .int .u8 3] 5)) (HC5.out.src.below (balloc w5 _)) (src3 w5) (by decide))
      have hb6 : Below w4.heap.size w4 (w5.alloc (.cells #[.int .u8 1, .int .u8 2, .int .u8 3] 5)) := below_step hb5 (balloc w5 _)
      go_wp2_with fail
      refine HDN.out.mono ?_
      rintro e w7 ⟨rfl, hD7, hb7⟩
      obtain ⟨x, hxn⟩ : ∃ x, (w5.alloc (.cells #[.int .u8 1, .int .u8 2, .int .u8 3] 5)).heap.size = x := ⟨_, rfl⟩
      have hb47 : Below w4.heap.size w4 w7 := below_step hb6 hb7
      have hx4 : w4.heap.size ≤ x := by rw [← hxn]; exact hb6.size
      have hb17 : Below w.heap.size w w7 := hb14.trans (hb47.mono hb14.size)
      rw [hxn] at hD7 ⊢
      obtain ⟨p0, p1⟩ := frameV_bd ph
      have hx7 := hD7.lt
      have HP := Lib.hid (show Pr w7 (fun _ => False) b x w.heap.size { newS (fun _ => 201) (fun j => (j : Int) + 1) 3 (frameV ph) with slow := slow, log := true } (newS (fun _ => 201) (fun j => (j : Int) + 1) 3 (frameV ph)) nilV nilV (frameV ph) nilV nilV nilV [] 0 0 from
        ⟨(HB4.out.below hb47).less hwb, hD7.less (by omega), fun k hk hd => by
          have e1 : k = b := by rcases hk with h | h | h <;> first | exact h | exact absurd h (by simp [Value.ownBlock])
          have e2 : k = x := by rcases hd with h | h | h | h <;> first | exact h | exact absurd h.1 (by simp) | exact absurd h (by simp [Value.ownBlock])
          omega, fun _ h => h.elim, fun _ h => h.elim, fun _ h => h.elim, hb17.size, ⟨Nat.le_refl _, Nat.le_refl _, Int.le_refl _, Int.le_refl _, p0, p1⟩, ⟨Nat.le_refl _, Nat.le_refl _, Int.le_refl _, Int.le_refl _, p0, p1⟩, Nat.le_refl _⟩)
      clear HDN HC5 hC5 hb5 hb6 hb7 hxn hb47 hD7 HB4 hb14 hs5
      have g1 := HP.out.D.cells.frozen 65541
      have g2 := HP.out.D.cells.frozen 65542
      have r1 : w7.cell? ⟨x, 65541, none⟩ = some (.bool false) := HP.out.D.cells.cell 65541 (by decide)
      have r2 : w7.cell? ⟨x, 65542, none⟩ = some (.bool false) := HP.out.D.cells.cell 65542 (by decide)
      go_wp2_with fail
      obtain ⟨w8, hw8⟩ : ∃ u, (w7.setCell ⟨x, 65541, none⟩ (.bool slow)).setCell ⟨x, 65542, none⟩ (.bool true) = u := ⟨_, rfl⟩
      have hsz : w8.heap.size = w7.heap.size := by rw [← hw8]; simp [World.setCell]
      obtain ⟨w9, hw9⟩ : ∃ u, w8.alloc (.cells #[.pointer (some ⟨b, 0, none⟩), .pointer (some ⟨x, 0, none⟩)] 45) = u := ⟨_, rfl⟩
      have HB0 := Lib.hid (show Both w w9 w7.heap.size b x 0 by
        obtain ⟨vd2, ea2, ee2, h2, k2⟩ := HP.out.stepD (n' := 0) (T' := 0) (Dwent.stay (HP.out.D.set 65541 (.bool slow) (dset_slow _ _ _ _ _ slow) rfl rfl rfl HP.out.D.fr) (Ch.set _ x _ _ (Or.inl rfl))) ⟨Nat.le_refl _, Nat.le_refl _, Int.le_refl _, Int.le_refl _, p0, p1⟩ (Nat.le_refl _) (Int.le_refl _) (Nat.le_refl _)
        obtain ⟨vd3, ea3, ee3, h3, k3⟩ := h2.stepD (n' := 0) (T' := 3000 * ((0 : Nat) : Int)) (Dwent.stay (h2.D.set 65542 (.bool true) (dset_log _ _ _ _ _ true) rfl rfl rfl h2.D.fr) (Ch.set _ x _ _ (Or.inl rfl))) ⟨Nat.le_refl _, Nat.le_refl _, Int.le_refl _, Int.le_refl _, p0, p1⟩ (Nat.le_refl _) (Int.le_refl _) (Nat.le_refl _)
        have kk := k2.trans k3
        rw [hw8] at h3 kk
        have h4 := (h3.box (.cells #[.pointer (some ⟨b, 0, none⟩), .pointer (some ⟨x, 0, none⟩)] 45)).less (R' := fun k => k = w7.heap.size) (fun k hk => Or.inr (hk.trans hsz.symm))
        have kb := (hb17.trans kk.bel).trans ((balloc w8 (.cells #[.pointer (some ⟨b, 0, none⟩), .pointer (some ⟨x, 0, none⟩)] 45)).mono h3.bs)
        rw [hw9] at h4 kb
        refine ⟨_, _, _, _, _, _, _, _, h4, kb, ?_, ?_⟩
        · rw [← hw9, ← hsz]; exact cell_of_row _ _ 0 _ _ (0, 0) (heap_alloc_new w8 _)
        · rw [← hw9, ← hsz]; exact cell_of_row _ _ 1 _ _ (0, 0) (heap_alloc_new w8 _))
      rw [hw8]
      rw [hw9]
      obtain ⟨p, hp⟩ : ∃ p, w7.heap.size = p := ⟨_, rfl⟩
      rw [hp] at HB0 ⊢
      clear HP hw8 hw9 hsz g1 g2 r1 r2 hb17 hx7 hx4 hb4lt hp p0 p1
      go_loopw [10] (fun i wr => ∃ k : Nat, i = .int .i64 k ∧ k ≤ l.length ∧ Hid (Both w wr p b x k)) (fun i _ => ((l.length : Int) - intOf i).toNat)
      case atStart => exact ⟨0, rfl, by omega, HB0⟩
      case round =>
        obtain ⟨k, rfl, hk, HK⟩ := hrel
        clear HB0
        obtain ⟨s, va, ve, ph2, vd, ea, ee, L, hPr, hbw, hc0, hc1⟩ := HK.out
        by_cases hlt : k < l.length
        · obtain ⟨ok, g, o, rfl, hg, d0, d1, d2, d3, d4⟩ := HO.out k hlt
          have e0 := (hbw.cell (p := ⟨g, o + k * 5, none⟩) hg).trans d0
          have e1 := (hbw.cell (p := ⟨g, o + k * 5 + 1, none⟩) hg).trans d1
          have e2 := (hbw.cell (p := ⟨g, o + k * 5 + 2, none⟩) hg).trans d2
          have e3 := (hbw.cell (p := ⟨g, o + k * 5 + 3, none⟩) hg).trans d3
          have e4 := (hbw.cell (p := ⟨g, o + k * 5 + 4, none⟩) hg).trans d4
          have HS := Lib.hid (step_any (fun i => i = p) p b x w.heap.size s s va ve ph2 vd ea ee L k (3000 * (k : Int)) (oprAt l k).K (oprAt l k).N (oprAt l k).A (oprAt l k).V (oprAt l k).nm tb wr hPr rfl hc0 hc1 ok.a ok.v0 ok.v1 (by omega) (by omega) (fun u hu => HWT.out u (hbw.trans hu)) (fun u hu => HNT.out u (hbw.trans hu)))
          have HBS := Lib.hid (fun w' e (h : SPost (fun i => i = p) b x w.heap.size s s k (3000 * (k : Int)) wr e w') => Both.step hbw hc0 hc1 h)
          have i1 : decide ((k : Int) < (l.length : Int)) = true := decide_eq_true (by omega)
          have i0 : (0 : Int) ≤ (k : Int) := by omega
          have i2 : (k : Int) < (l.length : Int) := by omega
          clear d0 d1 d2 d3 d4 hPr hbw hc0 hc1 ok HK hg
          generalize (oprAt l k).K = K at *
          generalize (oprAt l k).N = N at *
          generalize (oprAt l k).A = A at *
          generalize (oprAt l k).V = V at *
          generalize (oprAt l k).nm = nm at *
          go_wp2_with fail
          refine HS.out.mono ?_
          rintro e w' hpost
          obtain ⟨rfl, hB⟩ := HBS.out _ _ hpost
          clear hpost HS HBS e0 e1 e2 e3 e4
          go_wp2_with fail
          go_roundw
          case rel => exact ⟨k + 1, by go_num, by omega, Lib.hid hB⟩
          case measure => simp [intOf]; omega
        · have i1 : decide ((k : Int) < (l.length : Int)) = false := decide_eq_false (by omega)
          have HSM := Lib.hid (same_any (fun i => i = p) p b x w.heap.size s va ve ph2 vd ea ee L k (3000 * (k : Int)) wr hPr rfl hc0 hc1 (by omega))
          have HL := Lib.hid (fun u (hu : Below wr.heap.size wr u) => HV.out u (hbw.trans (hu.mono hbw.size)))
          clear hPr hbw hc0 hc1 HK HO
          go_wp2_with fail
          refine HSM.out.mono ?_
          rintro e w' ⟨rfl, hb'⟩
          go_wp2_with fail
          refine (HL.out _ hb').mono ?_
          rintro e w'' ⟨rfl, hh⟩
          go_wp2_with fail
          go_ret
          exact ⟨rfl, hh⟩
  · obtain ⟨B, cap, rfl, n1, n2, n3⟩ := hv
    have hl6 : decide ((60 : Int) < (l.length : Int)) = true := decide_eq_true (by omega)
    unfold maxLen at n2
    clear n3 hl hW hN
    go_enter Tryd.func3, Tryd.ntmps3
    go_wp2_with fail
    refine (HV.out _ (Below.refl _ _)).mono ?_
    rintro e w1 ⟨rfl, hb1⟩
    go_wp2_with fail
    go_ret
    exact ⟨rfl, hb1⟩

end Go.Proofs.YtkcfacbnbjkheaaDoor
