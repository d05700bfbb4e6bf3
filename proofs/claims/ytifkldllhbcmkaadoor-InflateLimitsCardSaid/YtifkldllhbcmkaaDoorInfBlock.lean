/- A block: withTold, block. -/
import Derived.Test.YtifkldllhbcmkaaDoorInfTold
namespace Go.Proofs.YtifkldllhbcmkaaDoor
open Go.RowKit
set_option linter.unusedVariables false
set_option linter.unusedSimpArgs false

def toldK (bs : List Int) (lim p : Nat) (o : List Int) : Rs (List Int) := bnd (toldM bs p) fun t q => loopM (symM bs t.1 t.2 lim) (8 * bs.length) q o
set_option maxHeartbeats 3200000 in
theorem withTold_u (c : Cx) (w : World) (ob : Option Nat) (p : Nat) (o : List Int) (h : UAt c w ob p o) (hO : OrdAt c.B w) :
    Calls Tryd.prog 16 #[.pointer (some ⟨c.gu, 0, none⟩)] w (GaveO c w ob (toldK c.bs c.lim p o)) := by
  have H1 := Lib.hid (toldCodes_u c w ob p o h hO)
  have HB0 := Lib.hid (fun u ob' (hu : Mv c w ob u ob') => h.mvBelow hu)
  have hBw : c.B ≤ w.heap.size := by have := h.gu; have := c.b1; have := c.b2; omega
  clear h hO
  go_enter Tryd.func16, Tryd.ntmps16
  go_wp2_with fail
  refine H1.out.mono ?_
  rintro e w1 (⟨ls, ld, q, gs, gd, hR, rfl, hU, hM, t1, t2, l1, l2⟩ | ⟨x, P, Q, hR, hx, rfl, hb⟩)
  · have hb1 : Below w1.heap.size w1 (w1.alloc (.cells #[.pointer (some ⟨gs, 0, none⟩), .pointer (some ⟨gd, 0, none⟩)] 35)) := bnew w1 _
    have hm1 := Mv.new (c := c) (ob := ob) hb1
    have H2 := Lib.hid (symbols_u c _ ob q o gs gd ls ld (hU.below hb1) (t1.mv hm1) (t2.mv hm1) l1 l2)
    have HM := Lib.hid (hM.then hm1)
    have HF : Hid (toldK c.bs c.lim p o = loopM (symM c.bs ls ld c.lim) (8 * c.bs.length) q o) := Lib.hid (by unfold toldK; rw [hR, bnd_ok])
    clear hR hU hM t1 t2 H1 hb1 hm1
    go_wp2_with fail
    refine H2.out.mono ?_
    rintro e w2 (⟨o2, r, ob2, hR2, rfl, hU2, hM2⟩ | ⟨x, hR2, hx, rfl, hb⟩)
    · have HE : Hid (GaveO c w ob (toldK c.bs c.lim p o) (.returned (.int .i64 0)) w2) := Lib.hid (Or.inl ⟨o2, r, ob2, by rw [HF.out, hR2], rfl, hU2, HM.out.then hM2⟩)
      clear hR2 hU2 hM2 H2
      go_wp2_with fail
      go_ret
      exact HE.out
    · have HE : Hid (GaveO c w ob (toldK c.bs c.lim p o) (.returned (.int .i64 (x : Nat))) w2) := Lib.hid (Or.inr ⟨x, by rw [HF.out, hR2], hx, rfl, (HB0.out _ _ HM.out).trans hb⟩)
      clear hR2 hx hb H2
      go_wp2_with fail
      go_ret
      exact HE.out
  · have hn := nz hx
    have HE : Hid (GaveO c w ob (toldK c.bs c.lim p o) (.returned (.int .i64 (x : Nat))) (w1.alloc (.cells #[.pointer P, .pointer Q] 35))) := Lib.hid (Or.inr ⟨x, by unfold toldK; rw [hR]; rfl, hx, rfl, hb.alloc (by have := hb.size; omega) _⟩)
    clear hR hx hb H1
    go_wp2_with fail
    go_ret
    exact HE.out
theorem kind_told (bs : List Int) (lim p : Nat) (o : List Int) : kindM bs lim 2 p o = toldK bs lim p o := rfl
theorem kind_fixed (bs : List Int) (lim p : Nat) (o : List Int) : kindM bs lim 1 p o = loopM (symM bs fixS fixD lim) (8 * bs.length) p o := rfl
theorem kind_stored (bs : List Int) (lim p : Nat) (o : List Int) : kindM bs lim 0 p o = storedM bs lim p o := rfl
/-- What came out and whether it was the last block, or an error. -/
def GaveL (c : Cx) (w : World) (ob : Option Nat) (R : Rs (Bool × List Int)) (e : Ending) (w' : World) : Prop :=
  (∃ l o q ob', R = .ok ((l, o), q) ∧ e = .returned (.tuple #[.bool l, .int .i64 0]) ∧ UAt c w' ob' q o ∧ Mv c w ob w' ob') ∨ (∃ x b, R = .error x ∧ (x = 2 ∨ x = 4 ∨ x = 8) ∧ e = .returned (.tuple #[.bool b, .int .i64 (x : Nat)]) ∧ Below c.B w w')
theorem block_end {c : Cx} {w wi w' : World} {ob ob1 : Option Nat} {p q r l k : Nat} {o : List Int} {e : Ending} (h1 : takeM c.bs 1 p = .ok (l, q)) (h2 : takeM c.bs 2 q = .ok (k, r)) (hB : Below c.B w wi) (hM : Mv c w ob wi ob1)
    (g : GaveO c wi ob1 (kindM c.bs c.lim k r o) e w') : ∃ x : Nat, e = .returned (.int .i64 x) ∧ GaveL c w ob (blockM c.bs c.lim p o) (.returned (.tuple #[.bool (decide (l = 1)), .int .i64 (x : Nat)])) w' := by
  have hb : blockM c.bs c.lim p o = bnd (kindM c.bs c.lim k r o) fun o' s => .ok ((decide (l = 1), o'), s) := by unfold blockM; rw [h1, bnd_ok, h2, bnd_ok]
  rcases g with ⟨o2, s, ob2, h3, h4, h5, h6⟩ | ⟨x, h3, h4, h5, h6⟩
  · exact ⟨0, h4, Or.inl ⟨_, o2, s, ob2, by rw [hb, h3]; rfl, rfl, h5, hM.then h6⟩⟩
  · exact ⟨x, h5, Or.inr ⟨x, _, by rw [hb, h3]; rfl, h4, rfl, hB.trans h6⟩⟩
set_option maxHeartbeats 6400000 in
theorem block_u (c : Cx) (w : World) (ob : Option Nat) (p : Nat) (o : List Int) (h : UAt c w ob p o) (hO : OrdAt c.B w) :
    Calls Tryd.prog 10 #[.pointer (some ⟨c.gu, 0, none⟩)] w (GaveL c w ob (blockM c.bs c.lim p o)) := by
  have H1 := Lib.hid (take_b c w ob p o 1 (by omega) h)
  have HB := Lib.hid (fun u (hc : Ch (fun k => k = c.gb) w u) => h.mvBelow (Mv.bits (ob := ob) hc))
  have HU := Lib.hid (fun u q hb hc => h.bitsMv (w' := u) (q := q) hb hc)
  have HO := Lib.hid (fun wi (hb : Below c.B w wi) => hO.below hb)
  clear h hO
  go_enter Tryd.func10, Tryd.ntmps10
  go_wp2_with fail
  refine H1.out.mono ?_
  rintro e w1 (⟨l, q, hR1, rfl, hb1, hc1⟩ | ⟨x, hR, hx, rfl, hb⟩)
  · have hl := (take_lt hR1).1
    have HR1 := Lib.hid hR1
    have HC1 := Lib.hid hc1
    have H2 := Lib.hid (take_b c w1 ob q o 2 (by omega) (HU.out w1 q hb1 hc1))
    have dl : ((l : Int) == 1) = decide (l = 1) := by
      by_cases hl1 : l = 1
      · subst hl1; rfl
      · rw [decide_eq_false hl1, beq_eq_false_iff_ne]; omega
    clear hR1 hb1 hc1 H1
    obtain ⟨bl, hbl⟩ : ∃ bl, decide (l = 1) = bl := ⟨_, rfl⟩
    have HBL := Lib.hid hbl
    rw [hbl] at dl
    clear hbl
    go_wp2_with fail
    refine H2.out.mono ?_
    rintro e w2 (⟨k, r, hR2, rfl, hb2, hc2⟩ | ⟨x, hR, hx, rfl, hb⟩)
    · have hk := (take_lt hR2).1
      have hC2 := HC1.out.then hc2
      have hu2 := HU.out w2 r hb2 hC2
      have HE0 := Lib.hid (fun e w' (g : GaveO c w2 ob (kindM c.bs c.lim k r o) e w') => block_end (p := p) (o := o) HR1.out hR2 (HB.out _ hC2) (Mv.bits hC2) g)
      rw [HBL.out] at HE0
      have hO2 := HO.out w2 (HB.out _ hC2)
      clear H2
      by_cases hk0 : k = 0
      · subst hk0
        have H3 := Lib.hid ((stored_u c w2 ob r o hu2).mono fun e w' g => HE0.out e w' g)
        clear hR2 hb2 hc2 hC2 hu2 hO2 HE0
        go_wp2_with fail
        refine H3.out.mono ?_
        rintro e w3 ⟨x, rfl, hG⟩
        have HE := Lib.hid hG
        clear hG H3
        go_wp2_with fail
        go_ret2
        exact HE.out
      by_cases hk1 : k = 1
      · subst hk1
        have H3 := Lib.hid ((withFixed_u c w2 ob r o hu2).mono fun e w' g => HE0.out e w' g)
        clear hR2 hb2 hc2 hC2 hu2 hO2 HE0
        go_wp2_with fail
        refine H3.out.mono ?_
        rintro e w3 ⟨x, rfl, hG⟩
        have HE := Lib.hid hG
        clear hG H3
        go_wp2_with fail
        go_ret2
        exact HE.out
      by_cases hk2 : k = 2
      · subst hk2
        have H3 := Lib.hid ((withTold_u c w2 ob r o hu2 hO2).mono fun e w' g => HE0.out e w' g)
        clear hR2 hb2 hc2 hC2 hu2 hO2 HE0
        go_wp2_with fail
        refine H3.out.mono ?_
        rintro e w3 ⟨x, rfl, hG⟩
        have HE := Lib.hid hG
        clear hG H3
        go_wp2_with fail
        go_ret2
        exact HE.out
      · obtain rfl : k = 3 := by omega
        have HE : Hid (GaveL c w ob (blockM c.bs c.lim p o) (.returned (.tuple #[.bool bl, .int .i64 4])) w2) := Lib.hid (Or.inr ⟨4, bl, by unfold blockM; rw [HR1.out, bnd_ok, hR2, bnd_ok]; rfl, by omega, rfl, HB.out _ hC2⟩)
        clear hR2 hb2 hc2 hC2 hu2 hO2 HE0
        go_wp2_with fail
        go_ret2
        exact HE.out
    · have hn := nz hx
      have HE : Hid (GaveL c w ob (blockM c.bs c.lim p o) (.returned (.tuple #[.bool false, .int .i64 (x : Nat)])) w2) := Lib.hid (Or.inr ⟨x, false, by unfold blockM; rw [HR1.out, bnd_ok, hR]; rfl, hx, rfl, HB.out _ (HC1.out.then hb)⟩)
      clear hR hx hb H2
      go_wp2_with fail
      go_ret2
      exact HE.out
  · have hn := nz hx
    have HE : Hid (GaveL c w ob (blockM c.bs c.lim p o) (.returned (.tuple #[.bool false, .int .i64 (x : Nat)])) w1) := Lib.hid (Or.inr ⟨x, false, by unfold blockM; rw [hR]; rfl, hx, rfl, HB.out _ hb⟩)
    clear hR hx hb H1
    go_wp2_with fail
    go_ret2
    exact HE.out

end Go.Proofs.YtifkldllhbcmkaaDoor
