/- The unpacker's symbols: up to a block's end. -/
import Derived.Test.YtifkldllhbcmkaaDoorInfBack
import Derived.Deep.LoopGhost
namespace Go.Proofs.YtifkldllhbcmkaaDoor
open Go.RowKit
set_option linter.unusedVariables false
set_option linter.unusedSimpArgs false

theorem symM_er {bs ls ld : List Int} {lim p : Nat} {o : List Int} {e : Nat} (h : nextM bs ls p = .error e) : symM bs ls ld lim p o = .error e := by unfold symM; rw [h]; rfl
theorem symM_end {bs ls ld : List Int} {lim p q : Nat} {o : List Int} (h : nextM bs ls p = .ok (256, q)) : symM bs ls ld lim p o = .ok ((true, o), q) := by unfold symM; rw [h, bnd_ok, if_pos rfl]
theorem symM_put {bs ls ld : List Int} {lim p q s : Nat} {o : List Int} (h : nextM bs ls p = .ok (s, q)) (hs : s < 256) : symM bs ls ld lim p o = bnd (putM lim s q o) fun o' r => .ok ((false, o'), r) := by unfold symM; rw [h, bnd_ok, if_neg (by omega), if_pos hs]
theorem symM_back {bs ls ld : List Int} {lim p q s : Nat} {o : List Int} (h : nextM bs ls p = .ok (s, q)) (hs : 256 < s) : symM bs ls ld lim p o = bnd (backM bs ld lim s q o) fun o' r => .ok ((false, o'), r) := by unfold symM; rw [h, bnd_ok, if_neg (by omega), if_neg (by omega)]
theorem take_mono {bs : List Int} {n p v q : Nat} (h : takeM bs n p = .ok (v, q)) : p ≤ q := by
  unfold takeM at h
  split at h
  · simp only [Except.ok.injEq, Prod.mk.injEq] at h; omega
  · cases h
theorem far_mono {bs : List Int} {k each p v q : Nat} (h : farM bs k each p = .ok (v, q)) : p ≤ q := by
  unfold farM at h
  rcases (takeM bs (xtra k each) p).two with ⟨x, hx⟩ | ⟨m, r, hx⟩
  · rw [hx] at h; cases h
  · have := take_mono hx
    rw [hx, bnd_ok] at h
    simp only [Except.ok.injEq, Prod.mk.injEq] at h
    omega
theorem next_mono {bs l : List Int} {p v q : Nat} (h : nextM bs l p = .ok (v, q)) : p < q := by
  obtain ⟨t, _, h2, h3, _⟩ := next_ok h
  omega
theorem length_mono {bs : List Int} {s p v q : Nat} (h : lengthM bs s p = .ok (v, q)) : p ≤ q := by
  unfold lengthM at h
  split at h
  · cases h
  · split at h
    · simp only [Except.ok.injEq, Prod.mk.injEq] at h; omega
    · rcases (farM bs (s - 257) 4 p).two with ⟨x, hx⟩ | ⟨m, r, hx⟩
      · rw [hx] at h; cases h
      · have := far_mono hx
        rw [hx, bnd_ok] at h
        simp only [Except.ok.injEq, Prod.mk.injEq] at h
        omega
theorem dist_mono {bs ld : List Int} {p v q : Nat} (h : distM bs ld p = .ok (v, q)) : p ≤ q := by
  unfold distM at h
  rcases (nextM bs ld p).two with ⟨x, hx⟩ | ⟨s, r, hx⟩
  · rw [hx] at h; cases h
  · have h1 := next_mono hx
    rw [hx, bnd_ok] at h
    split at h
    · cases h
    · rcases (farM bs s 2 r).two with ⟨x, hx⟩ | ⟨m, t, hx⟩
      · rw [hx] at h; cases h
      · have := far_mono hx
        rw [hx, bnd_ok] at h
        simp only [Except.ok.injEq, Prod.mk.injEq] at h
        omega
theorem put_mono {lim v p q : Nat} {o o' : List Int} (h : putM lim v p o = .ok (o', q)) : p ≤ q := by
  unfold putM at h
  split at h
  · simp only [Except.ok.injEq, Prod.mk.injEq] at h; omega
  · cases h
theorem back_mono {bs ld : List Int} {lim s p q : Nat} {o o' : List Int} (h : backM bs ld lim s p o = .ok (o', q)) : p ≤ q := by
  unfold backM at h
  rcases (lengthM bs s p).two with ⟨x, hx⟩ | ⟨n, r, hx⟩
  · rw [hx] at h; cases h
  · have h1 := length_mono hx
    rw [hx, bnd_ok] at h
    rcases (distM bs ld r).two with ⟨x, hx⟩ | ⟨d, t, hx⟩
    · rw [hx] at h; cases h
    · have h2 := dist_mono hx
      rw [hx, bnd_ok] at h
      split at h
      · cases h
      · split at h
        · cases h
        · simp only [Except.ok.injEq, Prod.mk.injEq] at h; omega
theorem nz' {x : Nat} (h : x = 2 ∨ x = 4 ∨ x = 8) : ((x : Int) != 0) = true := by
  rw [bne_iff_ne]; omega
/-- Between two symbols. -/
def SymAt (c : Cx) (w wr : World) (ob : Option Nat) (gc gs gd : Nat) (ls ld : List Int) (R : Rs (List Int)) (m : Nat) : Prop :=
  ∃ ob' p o, m + p = 8 * c.bs.length + 1 ∧ UAt c wr ob' p o ∧ Mv c w ob wr ob' ∧ BoxAt c wr ob' gc gs gd ∧ TabIn c wr ob' gs ls ∧ TabIn c wr ob' gd ld ∧ loopM (symM c.bs ls ld c.lim) (8 * c.bs.length) p o = R
set_option maxRecDepth 100000 in
set_option maxHeartbeats 6400000 in
theorem symbols_u (c : Cx) (w : World) (ob : Option Nat) (p : Nat) (o : List Int) (gs gd : Nat) (ls ld : List Int) (h : UAt c w ob p o) (hs : TabIn c w ob gs ls) (ht : TabIn c w ob gd ld) (hls : ls.length ≤ 320) (hld : ld.length ≤ 320) :
    Calls Tryd.prog 22 #[.pointer (some ⟨c.gu, 0, none⟩), .agg #[.pointer (some ⟨gs, 0, none⟩), .pointer (some ⟨gd, 0, none⟩)]] w (GaveO c w ob (loopM (symM c.bs ls ld c.lim) (8 * c.bs.length) p o)) := by
  obtain ⟨R, hR⟩ : ∃ R, loopM (symM c.bs ls ld c.lim) (8 * c.bs.length) p o = R := ⟨_, rfl⟩
  rw [hR]
  have hb0 : Below w.heap.size w (w.alloc (.cells #[.pointer (some ⟨gs, 0, none⟩), .pointer (some ⟨gd, 0, none⟩)] 35)) := bnew w _
  have hm0 := Mv.new (c := c) (ob := ob) hb0
  have hfit := h.fit
  have HS : Hid (SymAt c w (w.alloc (.cells #[.pointer (some ⟨gs, 0, none⟩), .pointer (some ⟨gd, 0, none⟩)] 35)) ob w.heap.size gs gd ls ld R (8 * c.bs.length + 1 - p)) :=
    Lib.hid ⟨ob, p, o, by omega, h.below hb0, hm0, BoxAt.new h gs gd, hs.mv hm0, ht.mv hm0, hR⟩
  have HB0 := Lib.hid (fun u ob' (hu : Mv c w ob u ob') => h.mvBelow hu)
  obtain ⟨gc, hgc⟩ : ∃ gc, w.heap.size = gc := ⟨_, rfl⟩
  have HGC := Lib.hid hgc
  clear h hs ht hR hb0 hm0 hfit
  go_enter Tryd.func22, Tryd.ntmps22
  go_wp2_with fail
  rw [hgc] at HS
  clear hgc
  go_loopg [4] (8 * c.bs.length + 1 - p) (fun m s wr => s = .int .i64 0 ∧ Hid (SymAt c w wr ob gc gs gd ls ld R m))
  case atStart => exact ⟨rfl, HS⟩
  case round =>
    obtain ⟨rfl, HX⟩ := hrel
    obtain ⟨ob', p', o', hm, hU, hM, hX, h1, h2, hR⟩ := HX.out
    have hgt : p' ≤ 8 * c.bs.length := hU.fit
    obtain ⟨b0, b1⟩ := hX.cells
    obtain ⟨v, fs, fd, c0, _, _, _, _, _, _, _⟩ := hU.cells
    have hbd : Below wr.heap.size wr wr.drew := bdrawn (Below.refl _ _) 1
    have hmd := Mv.new (c := c) (ob := ob') hbd
    have HN := Lib.hid ((next_u c wr.drew ob' p' o' gs ls (hU.below hbd) (h1.mv hmd) hls).mono fun _ _ => GaveI.one)
    have HM := Lib.hid (hM.then hmd)
    have HX1 := Lib.hid (hX.mv hmd)
    have HT1 := Lib.hid (h1.mv hmd)
    have HT2 := Lib.hid (h2.mv hmd)
    have HR := Lib.hid hR
    have hls2 := hls
    clear hU hM hX h1 h2 hR HX hbd hmd HS
    go_wp2_with fail
    go_region_with (go_at_call 25; refine HN.out.mono ?_; rintro e w1 ⟨s, x, rfl, HG⟩)
    all_goals
      rcases HG.out with ⟨rfl, q, hR1, hU, hM⟩ | ⟨rfl, hR1, hx, hb⟩
      · have hpq := next_mono hR1
        have hsl : s = 0 ∨ s < ls.length := (next_ok hR1).choose_spec.2.2.2.2
        have HU := Lib.hid hU
        have HM1 := Lib.hid (HM.out.then hM)
        have hX2 := HX1.out.mv hM
        have HX2 := Lib.hid hX2
        have HS1 := Lib.hid (HT1.out.mv hM)
        have HS2 := Lib.hid (HT2.out.mv hM)
        have HRn := Lib.hid hR1
        have hfq := hU.fit
        clear hU hM hR1 HG HN HM HX1 HT1 HT2 b0 b1 c0
        by_cases e256 : s = 256
        · subst e256
          have HE : Hid (GaveO c w ob R (.returned (.int .i64 0)) w1) := Lib.hid (Or.inl ⟨o', q, ob', by rw [← HR.out, loop_end (symM_end HRn.out)], rfl, HU.out, HM1.out⟩)
          go_wp2_with fail
          go_ret
          exact HE.out
        have d1 : ((s : Int) == 256) = false := by rw [beq_eq_false_iff_ne]; omega
        by_cases hlt : s < 256
        · have d2 : decide ((s : Int) < 256) = true := decide_eq_true (by omega)
          have HP := Lib.hid (put_u c w1 ob' q o' s (by omega) HU.out)
          have HF : Hid (symM c.bs ls ld c.lim p' o' = bnd (putM c.lim s q o') fun o' r => .ok ((false, o'), r)) := Lib.hid (symM_put HRn.out hlt)
          have hm8 : (s : Int) % 256 = (s : Int) := by omega
          have hs256 : s ≤ 255 := by omega
          go_wp2_with fail
          refine HP.out.mono ?_
          rintro e w2 (⟨o2, r, ob2, hR2, rfl, hU2, hM2⟩ | ⟨x, hR2, hx, rfl, hb⟩)
          · have hr := put_mono hR2
            have hfr := hU2.fit
            have HE : Hid (SymAt c w w2 ob gc gs gd ls ld R (8 * c.bs.length + 1 - r)) := Lib.hid ⟨ob2, r, o2, by omega, hU2, HM1.out.then hM2, HX2.out.mv hM2, HS1.out.mv hM2, HS2.out.mv hM2, (loop_on (p := p') (o := o') (q := r) (o' := o2) (by rw [HF.out, hR2]; rfl) (by omega) hfr).symm.trans HR.out⟩
            clear hU2 hM2 hR2
            go_wp2_with fail
            go_roundg (8 * c.bs.length + 1 - r)
            case measure => omega
            case rel => exact ⟨rfl, HE⟩
          · have hn := nz hx
            have HE : Hid (GaveO c w ob R (.returned (.int .i64 (x : Nat))) w2) := Lib.hid (Or.inr ⟨x, by rw [← HR.out, loop_er (by rw [HF.out, hR2]; rfl)], hx, rfl, (HB0.out _ _ HM1.out).trans hb⟩)
            clear hR2 hx hb
            go_wp2_with fail
            go_ret
            exact HE.out
        · have d2 : decide ((s : Int) < 256) = false := decide_eq_false (by omega)
          have HP := Lib.hid (back_u c w1 ob' q o' gs gd ld s (by omega) (by omega) HU.out HS2.out hld)
          have HF : Hid (symM c.bs ls ld c.lim p' o' = bnd (backM c.bs ld c.lim s q o') fun o' r => .ok ((false, o'), r)) := Lib.hid (symM_back HRn.out (by omega))
          obtain ⟨b0, b1⟩ := hX2.cells
          clear hX2
          go_wp2_with fail
          refine HP.out.mono ?_
          rintro e w2 (⟨o2, r, ob2, hR2, rfl, hU2, hM2⟩ | ⟨x, hR2, hx, rfl, hb⟩)
          · have hr := back_mono hR2
            have hfr := hU2.fit
            have HE : Hid (SymAt c w w2 ob gc gs gd ls ld R (8 * c.bs.length + 1 - r)) := Lib.hid ⟨ob2, r, o2, by omega, hU2, HM1.out.then hM2, HX2.out.mv hM2, HS1.out.mv hM2, HS2.out.mv hM2, (loop_on (p := p') (o := o') (q := r) (o' := o2) (by rw [HF.out, hR2]; rfl) (by omega) hfr).symm.trans HR.out⟩
            clear hU2 hM2 hR2
            go_wp2_with fail
            go_roundg (8 * c.bs.length + 1 - r)
            case measure => omega
            case rel => exact ⟨rfl, HE⟩
          · have hn := nz hx
            have HE : Hid (GaveO c w ob R (.returned (.int .i64 (x : Nat))) w2) := Lib.hid (Or.inr ⟨x, by rw [← HR.out, loop_er (by rw [HF.out, hR2]; rfl)], hx, rfl, (HB0.out _ _ HM1.out).trans hb⟩)
            clear hR2 hx hb
            go_wp2_with fail
            go_ret
            exact HE.out
      · have hn := nz hx
        have hn2 := nz' hx
        have HE : Hid (GaveO c w ob R (.returned (.int .i64 (x : Nat))) w1) := Lib.hid (Or.inr ⟨x, by rw [← HR.out, loop_er (symM_er hR1)], hx, rfl, (HB0.out _ _ HM.out).trans hb⟩)
        clear hR1 hx hb HG HN
        go_wp2_with fail
        go_ret
        exact HE.out

end Go.Proofs.YtifkldllhbcmkaaDoor
