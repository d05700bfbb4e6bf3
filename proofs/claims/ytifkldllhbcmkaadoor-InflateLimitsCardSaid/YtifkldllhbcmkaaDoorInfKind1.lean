/- Kind 1: withFixed. -/
import Derived.Test.YtifkldllhbcmkaaDoorInfFixed
namespace Go.Proofs.YtifkldllhbcmkaaDoor
open Go.RowKit
set_option linter.unusedVariables false
set_option linter.unusedSimpArgs false

/-- The codes of Kind 1 are kept now. -/
theorem UAt.fix {c : Cx} {w w1 : World} {ob : Option Nat} {p : Nat} {o : List Int} {gs gd : Nat} (h : UAt c w ob p o) (hb : Below w.heap.size w w1) (t1 : TabAt (fun k => w.heap.size ≤ k) w1 gs fixS) (t2 : TabAt (fun k => w.heap.size ≤ k) w1 gd fixD) :
    let W := (w1.setCell ⟨c.gu, 3, none⟩ (.pointer (some ⟨gs, 0, none⟩))).setCell ⟨c.gu, 4, none⟩ (.pointer (some ⟨gd, 0, none⟩))
    UAt c W ob p o ∧ Mv c w ob W ob ∧ TabIn c W ob gs fixS ∧ TabIn c W ob gd fixD := by
  intro W
  have hW : W = (w1.setCell ⟨c.gu, 3, none⟩ (.pointer (some ⟨gs, 0, none⟩))).setCell ⟨c.gu, 4, none⟩ (.pointer (some ⟨gd, 0, none⟩)) := rfl
  have hgu := h.gu
  have hob := h.ob
  have h1 := h.below hb
  have b2 := c.b2
  have hC : Ch (fun k => k = c.gu) w1 W := by
    rw [hW]
    exact (Ch.set (F := fun k => k = c.gu) w1 c.gu 3 _ rfl).then (Ch.set (F := fun k => k = c.gu) _ c.gu 4 _ rfl)
  have hM1 : Mv c w1 ob W ob := ⟨hC.weak fun i hi => Or.inl hi, fun _ h => Or.inl h⟩
  have hM : Mv c w ob W ob := (Mv.new hb).then hM1
  have k1 := (TabIn.new t1 hgu fun k hk => (hob k hk).2).mv hM1
  have k2 := (TabIn.new t2 hgu fun k hk => (hob k hk).2).mv hM1
  refine ⟨?_, hM, k1, k2⟩
  obtain ⟨⟨v, fs, fd, e1, e2, e3, e4⟩, e5, e6, e7⟩ := h1
  refine ⟨⟨v, some ⟨gs, 0, none⟩, some ⟨gd, 0, none⟩, ?_, e2, own_kept' e3 fun k hk hv => hC.block k hk (by have := hob k (by rw [← e2]; exact hv); omega), Or.inr ⟨gs, gd, rfl, rfl, k1, k2⟩⟩, e5.ch hC (by omega) fun k hk => by omega, e6, e7⟩
  have f1 := heap_setCell_same w1 c.gu 3 _ _ (.pointer (some ⟨gs, 0, none⟩)) e1
  exact heap_setCell_same _ c.gu 4 _ _ (.pointer (some ⟨gd, 0, none⟩)) f1
theorem eqp_none (u : World) : (Op.equalIn 9999 33 (.pointer none) (.pointer none)).run Tryd.prog u = .ok true u := run_equalIn_pointer_nil u 9998 _ none (by kernel_rfl)
theorem eqp_some (a : Addr) (u : World) : (Op.equalIn 9999 33 (.pointer (some a)) (.pointer none)).run Tryd.prog u = .ok false u := run_equalIn_pointer_nil u 9998 _ (some a) (by kernel_rfl)
set_option maxHeartbeats 3200000 in
theorem withFixed_u (c : Cx) (w : World) (ob : Option Nat) (p : Nat) (o : List Int) (h : UAt c w ob p o) :
    Calls Tryd.prog 15 #[.pointer (some ⟨c.gu, 0, none⟩)] w (GaveO c w ob (loopM (symM c.bs fixS fixD c.lim) (8 * c.bs.length) p o)) := by
  obtain ⟨v, fs, fd, c0, c1, c2, c3, c4, hv, hO, hF⟩ := h.cells
  have HB0 := Lib.hid (fun u ob' (hu : Mv c w ob u ob') => h.mvBelow hu)
  rcases hF with ⟨rfl, rfl⟩ | ⟨gs, gd, rfl, rfl, h1, h2⟩
  · have H1 := Lib.hid (fixed_any w)
    have q1 := eqp_none
    have HFix := Lib.hid (fun w1 gs gd hb t1 t2 => h.fix (w1 := w1) (gs := gs) (gd := gd) hb t1 t2)
    have HH := Lib.hid h
    have hgu := h.gu
    clear hO h
    go_enter Tryd.func15, Tryd.ntmps15
    go_wp2_with fail
    refine H1.out.mono ?_
    rintro e w1 ⟨gs, gd, rfl, hb, t1, t2⟩
    obtain ⟨hU, hM, k1, k2⟩ := HFix.out w1 gs gd hb t1 t2
    have hU1 := HH.out.below hb
    have d3 := (hb.cell (p := ⟨c.gu, 3, none⟩) hgu).trans c3
    have d4 := (hb.cell (p := ⟨c.gu, 4, none⟩) hgu).trans c4
    have f3 := hU1.frozen 3
    have f4 := hU1.frozen 4
    have H2 := Lib.hid (symbols_u c _ ob p o gs gd fixS fixD hU k1 k2 (by rw [fixS_len]; omega) (by rw [fixD_len]; omega))
    have HM := Lib.hid hM
    clear hU hM k1 k2 hU1 hb t1 t2 H1 HFix
    go_wp2_with fail
    refine H2.out.mono ?_
    rintro e w2 (⟨o2, r, ob2, hR2, rfl, hU2, hM2⟩ | ⟨x, hR2, hx, rfl, hb⟩)
    · have HE : Hid (GaveO c w ob (loopM (symM c.bs fixS fixD c.lim) (8 * c.bs.length) p o) (.returned (.int .i64 0)) w2) := Lib.hid (Or.inl ⟨o2, r, ob2, hR2, rfl, hU2, HM.out.then hM2⟩)
      clear hR2 hU2 hM2 H2
      go_wp2_with fail
      go_ret
      exact HE.out
    · have HE : Hid (GaveO c w ob (loopM (symM c.bs fixS fixD c.lim) (8 * c.bs.length) p o) (.returned (.int .i64 (x : Nat))) w2) := Lib.hid (Or.inr ⟨x, hR2, hx, rfl, (HB0.out _ _ HM.out).trans hb⟩)
      clear hR2 hx hb H2
      go_wp2_with fail
      go_ret
      exact HE.out
  · have H1 := Lib.hid (symbols_u c w ob p o gs gd fixS fixD h h1 h2 (by rw [fixS_len]; omega) (by rw [fixD_len]; omega))
    have q1 := eqp_some
    clear h h1 h2 hO
    go_enter Tryd.func15, Tryd.ntmps15
    go_wp2_with fail
    refine H1.out.mono ?_
    rintro e w2 hG
    rcases hG with ⟨o2, r, ob2, hR2, rfl, hU2, hM2⟩ | ⟨x, hR2, hx, rfl, hb⟩
    · have HE : Hid (GaveO c w ob (loopM (symM c.bs fixS fixD c.lim) (8 * c.bs.length) p o) (.returned (.int .i64 0)) w2) := Lib.hid (Or.inl ⟨o2, r, ob2, hR2, rfl, hU2, hM2⟩)
      clear hR2 hU2 hM2 H1
      go_wp2_with fail
      go_ret
      exact HE.out
    · have HE : Hid (GaveO c w ob (loopM (symM c.bs fixS fixD c.lim) (8 * c.bs.length) p o) (.returned (.int .i64 (x : Nat))) w2) := Lib.hid (Or.inr ⟨x, hR2, hx, rfl, hb⟩)
      clear hR2 hx hb H1
      go_wp2_with fail
      go_ret
      exact HE.out

end Go.Proofs.YtifkldllhbcmkaaDoor
