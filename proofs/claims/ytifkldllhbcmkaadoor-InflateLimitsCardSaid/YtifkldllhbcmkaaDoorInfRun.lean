/- Inflate, walked. -/
import Derived.Test.YtifkldllhbcmkaaDoorInfInflate
namespace Go.Proofs.YtifkldllhbcmkaaDoor
open Go.RowKit
set_option linter.unusedVariables false
set_option linter.unusedSimpArgs false

/-- Between two blocks, or behind the last one. -/
def BlAt (c : Cx) (w wr : World) (R : Rs (List Int)) (b : Bool) (m : Nat) : Prop :=
  ∃ ob p o, m + p = 8 * c.bs.length + 1 ∧ UAt c wr ob p o ∧ Below w.heap.size w wr ∧ (b = false → loopM (blockM c.bs c.lim) (8 * c.bs.length) p o = R) ∧ (b = true → R = .ok (o, p))
set_option maxHeartbeats 6400000 in
theorem inflate_any (F : Nat → Prop) (A : Option Addr) (n cap : Nat) (l : List Int) (lim : Nat) (w : World) (hl : BAt8 F w A n cap l) (hn : n ≤ 1000000) (hlim : lim ≤ 1048576) (hO : OrdAt w.heap.size w) :
    Calls Tryd.prog 7 #[.slice A n cap, .int .i64 (lim : Nat)] w (Inflated w l lim) := by
  have H1 := Lib.hid (read_any F A n cap l w hl hn)
  have hlen := hl.len
  have HO := Lib.hid hO
  have d1 : decide ((lim : Int) < 0) = false := decide_eq_false (by omega)
  have d2 : decide (1048576 < (lim : Int)) = false := decide_eq_false (by omega)
  have hlh := Lib.hid hlim
  clear hl hO
  go_enter Tryd.func7, Tryd.ntmps7
  go_wp2_with fail
  refine H1.out.mono ?_
  rintro e w1 ⟨g, rfl, hg, hb, hB⟩
  have hgl := hb.lt
  obtain ⟨c, hc⟩ : ∃ c : Cx, c = { B := w.heap.size, gb := g, gu := w1.heap.size, bs := l, lim := lim, b1 := hg, b2 := hgl, hbs := by omega, hlim := hlh.out } := ⟨_, rfl⟩
  have cB : c.B = w.heap.size := by rw [hc]
  have cgb : c.gb = g := by rw [hc]
  have cgu : c.gu = w1.heap.size := by rw [hc]
  have cbs : c.bs = l := by rw [hc]
  have clim : c.lim = lim := by rw [hc]
  clear hc
  have hb1 : Below w1.heap.size w1 (w1.alloc (.cells #[.pointer (some ⟨g, 0, none⟩), .slice none 0 0, .int .i64 (lim : Nat), .pointer none, .pointer none] 37)) := bnew w1 _
  have HS : Hid (BlAt c w (w1.alloc (.cells #[.pointer (some ⟨g, 0, none⟩), .slice none 0 0, .int .i64 (lim : Nat), .pointer none, .pointer none] 37)) (inflM l lim) false (8 * c.bs.length + 1)) := Lib.hid (by
    refine ⟨none, 0, [], by omega, ⟨⟨.slice none 0 0, none, none, ?_, rfl, World.ownsRow_nil _ _ _ _, Or.inl ⟨rfl, rfl⟩⟩, ?_, Byte8.nil, Nat.zero_le _⟩, hB.trans (hb1.mono hB.size), fun _ => ?_, fun h => (by cases h)⟩
    · rw [cgu]
      unfold uC
      rw [cgb, clim]
      exact heap_alloc_new w1 _
    · rw [cgb, cbs, cB]; exact hb.below hb1
    · rw [cbs, clim]; rfl)
  have HOC := Lib.hid (fun wr (hbw : Below w.heap.size w wr) => show OrdAt c.B wr by rw [cB]; exact HO.out.below hbw)
  have HCB := Lib.hid cB
  have HCL := Lib.hid (And.intro cbs clim)
  have cguH := Lib.hid cgu
  obtain ⟨R, hR⟩ : ∃ R, inflM l lim = R := ⟨_, rfl⟩
  have HR := Lib.hid hR
  rw [hR] at HS
  clear hb hB hgl cB cgb cbs clim hb1 H1 hg hR
  go_wp2_with fail
  rw [← cgu]
  clear cgu
  go_loopg [8] (8 * c.bs.length + 1) (fun m b wr => ∃ q : Bool, b = .bool q ∧ Hid (BlAt c w wr R q m))
  case atStart => exact ⟨false, rfl, HS⟩
  case round =>
    obtain ⟨q, rfl, HX⟩ := hrel
    obtain ⟨ob, p, o, hm, hU, hBw, hF, hT⟩ := HX.out
    have HU := Lib.hid hU
    have HBw := Lib.hid hBw
    cases q with
    | false =>
      have H2 := Lib.hid (block_u c wr ob p o hU (HOC.out wr hBw))
      have HF := Lib.hid (hF rfl)
      clear hU hBw hF hT HX HS
      go_wp2_with fail
      refine H2.out.mono ?_
      rintro e w2 (⟨b, o2, q2, ob2, hR2, rfl, hU2, hM2⟩ | ⟨x, b, hR2, hx, rfl, hb⟩)
      · have hlt := block_lt hR2
        have hfit := hU2.fit
        have hB2 := HU.out.mvBelow hM2
        have HE : Hid (BlAt c w w2 R b (8 * c.bs.length + 1 - q2)) := Lib.hid (by
          rw [HCB.out] at hB2
          refine ⟨ob2, q2, o2, by omega, hU2, HBw.out.trans hB2, fun h => ?_, fun h => ?_⟩
          · subst h
            exact (loop_on hR2 hlt hfit).symm.trans HF.out
          · subst h
            exact HF.out.symm.trans (loop_end hR2))
        clear hR2 hU2 hM2 H2 hB2
        go_wp2_with fail
        go_roundg (8 * c.bs.length + 1 - q2)
        case measure => omega
        case rel => exact ⟨b, rfl, HE⟩
      · have hn := nz hx
        have HE : Hid (Inflated w l lim (.returned (.tuple #[.slice none 0 0, .int .i64 0, .int .i64 (x : Nat)])) w2) := Lib.hid (by
          rw [HCB.out] at hb
          exact ⟨HBw.out.trans hb, Or.inr ⟨x, HR.out.trans (HF.out.symm.trans (loop_er hR2)), hx, rfl⟩⟩)
        clear hR2 hx hb H2
        go_wp2_with fail
        go_ret3
        exact HE.out
    | true =>
      have hR2 := hT rfl
      obtain ⟨v, fs, fd, c0, c1, _, _, _, hv, hOw, _⟩ := hU.cells
      obtain ⟨A2, cap2, rfl, hcap2, hmax2⟩ := own_slice hOw
      have HA := Lib.hid (fun k => Calls.quiet_of_same (w := wr) (n := k) ((at_any _ (wr.drewN k) c.gb c.bs p (hU.bits.drewN k) c.hbs).mono fun _ _ ⟨a, b⟩ => ⟨a, b.symm⟩))
      have hby := bytes_own hOw hU.by8
      have e1 := c.b1
      have e2 := c.b2
      have e3 := HCB.out
      have hbw := hby.weak (G := fun k => w.heap.size ≤ k) fun k _ hk => by omega
      have HE : Hid (∀ k, Inflated w l lim (.returned (.tuple #[.slice A2 o.length cap2, .int .i64 (((p + 7) / 8 : Nat) : Int), .int .i64 0])) (wr.drewN k)) := Lib.hid (fun k => ⟨HBw.out.trans (bdrawn (Below.refl _ _) k |>.mono HBw.out.size), Or.inl ⟨o, p, A2, o.length, cap2, HR.out.trans hR2, rfl, hbw.below (bdrawn (Below.refl _ _) k), by rw [← HCL.out.2]; exact hU.lim, by rw [← HCL.out.1]; exact hU.fit⟩⟩)
      clear hU hBw hF hT HX HS hOw hR2 hmax2 hcap2 hby e1 e2 e3 hbw
      generalize (p + 7) / 8 = Y at *
      go_wp2_with fail
      go_quiet ((go_at_call 11; exact HA.out _))
      go_wp2_with fail
      go_ret3
      exact HE.out _

end Go.Proofs.YtifkldllhbcmkaaDoor
