/- The unpacker's back: bytes copied, one by one. -/
import Derived.Test.YtifkldllhbcmkaaDoorInfPut
namespace Go.Proofs.YtifkldllhbcmkaaDoor
open Go.RowKit
set_option linter.unusedVariables false
set_option linter.unusedSimpArgs false

theorem dist_pos {bs ld : List Int} {p v q : Nat} (h : distM bs ld p = .ok (v, q)) : 1 ≤ v := by
  unfold distM at h
  rcases (nextM bs ld p).two with ⟨x, hx⟩ | ⟨s, r, hx⟩
  · rw [hx] at h; cases h
  · rw [hx, bnd_ok] at h
    split at h
    · cases h
    · rcases (farM bs s 2 r).two with ⟨x, hx⟩ | ⟨m, r, hx⟩
      · rw [hx] at h; cases h
      · rw [hx, bnd_ok] at h
        simp only [Except.ok.injEq, Prod.mk.injEq] at h
        omega
/-- A block of one's own beside the unpacker. -/
structure BoxAt (c : Cx) (w : World) (ob : Option Nat) (g gs gd : Nat) : Prop where
  aside : Offs c w ob (fun k => k = g)
  is : w.heap[g]? = some (.cells #[.pointer (some ⟨gs, 0, none⟩), .pointer (some ⟨gd, 0, none⟩)] 35 (0, 0))
theorem BoxAt.mv {c : Cx} {w w' : World} {ob ob' : Option Nat} {g gs gd : Nat} (h : BoxAt c w ob g gs gd) (m : Mv c w ob w' ob') : BoxAt c w' ob' g gs gd :=
  ⟨h.aside.mv m, (m.ch.block g (h.aside g rfl).2.2.2.1 (h.aside.off g rfl)).trans h.is⟩
theorem BoxAt.new {c : Cx} {w : World} {ob : Option Nat} {p : Nat} {o : List Int} (h : UAt c w ob p o) (gs gd : Nat) : BoxAt c (w.alloc (.cells #[.pointer (some ⟨gs, 0, none⟩), .pointer (some ⟨gd, 0, none⟩)] 35)) ob w.heap.size gs gd :=
  ⟨fun k hk => by
    subst hk
    have := h.gu
    have := c.b1
    have := c.b2
    exact ⟨by omega, by omega, fun e => by have := h.ob _ e; omega, by simp, by omega⟩, heap_alloc_new w _⟩
theorem BoxAt.cells {c : Cx} {w : World} {ob : Option Nat} {g gs gd : Nat} (h : BoxAt c w ob g gs gd) : w.cell? ⟨g, 0, none⟩ = some (.pointer (some ⟨gs, 0, none⟩)) ∧ w.cell? ⟨g, 1, none⟩ = some (.pointer (some ⟨gd, 0, none⟩)) :=
  ⟨cell_of_row w g 0 _ _ (0, 0) h.is, cell_of_row w g 1 _ _ (0, 0) h.is⟩
set_option maxHeartbeats 6400000 in
theorem back_u (c : Cx) (w : World) (ob : Option Nat) (p : Nat) (o : List Int) (gs gd : Nat) (ld : List Int) (s : Nat) (hs : 257 ≤ s) (hs2 : s ≤ 400) (h : UAt c w ob p o) (ht : TabIn c w ob gd ld) (hl : ld.length ≤ 320) :
    Calls Tryd.prog 27 #[.pointer (some ⟨c.gu, 0, none⟩), .agg #[.pointer (some ⟨gs, 0, none⟩), .pointer (some ⟨gd, 0, none⟩)], .int .i64 (s : Nat)] w (GaveO c w ob (backM c.bs ld c.lim s p o)) := by
  have hb0 : Below w.heap.size w (w.alloc (.cells #[.pointer (some ⟨gs, 0, none⟩), .pointer (some ⟨gd, 0, none⟩)] 35)) := bnew w _
  have H1 := Lib.hid (length_u c _ ob p o s hs hs2 (h.below hb0))
  have HM0 := Lib.hid (Mv.new (c := c) (ob := ob) hb0)
  have HB0 := Lib.hid (fun u (hu : Below c.B _ u) => (h.newBelow hb0).trans hu)
  have HX := Lib.hid (BoxAt.new h gs gd)
  have HT := Lib.hid (ht.mv (Mv.new (c := c) (ob := ob) hb0))
  have HBM := Lib.hid (fun u ob' (hu : Mv c w ob u ob') => h.mvBelow hu)
  have hlim := c.hlim
  have hlo := h.lim
  clear hb0 h ht
  go_enter Tryd.func27, Tryd.ntmps27
  go_wp2_with fail
  refine H1.out.mono ?_
  rintro e w1 (⟨n, q, hR1, rfl, hU, hM⟩ | ⟨x, hR, hx, rfl, hb⟩)
  · have HU1 := Lib.hid hU
    have HM1 := Lib.hid (HM0.out.then hM)
    have HX1 := Lib.hid (HX.out.mv hM)
    have hn := length_lt hs hR1
    have HT1 := Lib.hid (HT.out.mv hM)
    have H2 := Lib.hid (distance_u c w1 ob q o gs gd ld hU HT1.out hl)
    obtain ⟨b0, b1⟩ := HX1.out.cells
    have HF : Hid (backM c.bs ld c.lim s p o = bnd (distM c.bs ld q) fun d r => if o.length < d then .error 4 else if c.lim - o.length < n then .error 8 else .ok (copyL o (o.length - d) n, r)) := Lib.hid (by unfold backM; rw [hR1]; rfl)
    clear hU hM H1 HX HT HM0 hR1
    go_wp2_with fail
    refine H2.out.mono ?_
    rintro e w2 (⟨d, r, hR2, rfl, hU, hM⟩ | ⟨x, hR, hx, rfl, hb⟩)
    · have hd := dist_pos hR2
      have hd2 := dist_lt hR2
      have HU2 := Lib.hid hU
      have HM2 := Lib.hid (HM1.out.then hM)
      have HF2 : Hid (backM c.bs ld c.lim s p o = if o.length < d then .error 4 else if c.lim - o.length < n then .error 8 else .ok (copyL o (o.length - d) n, r)) := Lib.hid (by rw [HF.out, hR2]; rfl)
      obtain ⟨v, fs, fd, c0, c1, _, _, _, hv, hO, _⟩ := hU.cells
      obtain ⟨A, cap, rfl, hcap, hmax⟩ := own_slice hO
      have hmax' := hmax
      unfold maxLen at hmax'
      clear hU hM hR2 H2 HF HX1 HM1 HT1 hO
      by_cases h4 : o.length < d
      · have d1 : decide ((o.length : Int) < (d : Int)) = true := decide_eq_true (by omega)
        have HE : Hid (GaveO c w ob (backM c.bs ld c.lim s p o) (.returned (.int .i64 4)) w2) := Lib.hid (Or.inr ⟨4, by rw [HF2.out, if_pos h4], by omega, rfl, HBM.out _ _ HM2.out⟩)
        go_wp2_with fail
        go_ret
        exact HE.out
      have d1 : decide ((o.length : Int) < (d : Int)) = false := decide_eq_false (by omega)
      by_cases h8 : c.lim - o.length < n
      · have H3 := Lib.hid (room_u c w2 ob r o n (by omega) HU2.out false (by rw [eq_comm, decide_eq_false_iff_not]; omega))
        go_wp2_with fail
        refine H3.out.mono ?_
        rintro e w3 ⟨rfl, hb3⟩
        have HE : Hid (GaveO c w ob (backM c.bs ld c.lim s p o) (.returned (.int .i64 8)) w3) := Lib.hid (Or.inr ⟨8, by rw [HF2.out, if_neg h4, if_pos h8], by omega, rfl, HBM.out _ _ (HM2.out.then (Mv.new hb3))⟩)
        clear hb3
        go_wp2_with fail
        go_ret
        exact HE.out
      have H3 := Lib.hid (room_u c w2 ob r o n (by omega) HU2.out true (by rw [eq_comm, decide_eq_true_iff]; omega))
      go_wp2_with fail
      refine H3.out.mono ?_
      rintro e w3 ⟨rfl, hb3⟩
      obtain ⟨f, hf⟩ : ∃ f, o.length - d = f := ⟨_, rfl⟩
      have hf1 : (o.length : Int) - (d : Int) = (f : Int) := by omega
      have k1 := (hb3.cell (p := ⟨c.gu, 1, none⟩) HU2.out.gu).trans c1
      have HU3 := Lib.hid (HU2.out.below hb3)
      have HM3 := Lib.hid (HM2.out.then (Mv.new hb3))
      have HF3 : Hid (backM c.bs ld c.lim s p o = .ok (copyL o f n, r)) := Lib.hid (by rw [HF2.out, if_neg h4, if_neg h8, hf])
      have hfo : f < o.length := by omega
      have hno : o.length + n ≤ c.lim := by omega
      clear hb3 c0 c1 H3 HU2 HM2 HF2 hf d1 h4 h8
      go_wp2_with fail
      clear k1 hf1
      go_loopw [49] (fun i wr => ∃ k : Nat, i = .int .i64 k ∧ k ≤ n ∧ Hid (∃ ob', UAt c wr ob' r (copyL o f k) ∧ Mv c w ob wr ob')) (fun i _ => n - (intOf i).toNat)
      case atStart => exact ⟨0, rfl, by omega, Lib.hid ⟨ob, HU3.out, HM3.out⟩⟩
      case round =>
        obtain ⟨k, rfl, hk, HI⟩ := hrel
        obtain ⟨ob', hU, hM⟩ := HI.out
        have HU := Lib.hid hU
        have HM := Lib.hid hM
        clear hM HI
        by_cases hlt : k < n
        · have hlen := copyL_len o f k
          obtain ⟨v, fs, fd, c0, c1, _, _, _, hv, hO, _⟩ := hU.cells
          have f1 := hU.frozen 1
          have hgu := hU.gu
          obtain ⟨A2, cap2, rfl, hcap2, hmax2⟩ := own_slice hO
          have h8l := hU.by8
          obtain ⟨bb, oo, rfl, hbb, hbl, hc⟩ := (bytes_own hO h8l).lies (by omega)
          have cj := hc (f + k) (by omega)
          have hy := h8l (f + k)
          obtain ⟨y, hy1⟩ : ∃ y : Nat, gI (copyL o f k) (f + k) = (y : Int) := ⟨(gI (copyL o f k) (f + k)).toNat, by omega⟩
          rw [hy1] at cj hy
          have HN : Hid (copyL o f (k + 1) = copyL o f k ++ [(y : Int)]) := Lib.hid (by rw [copyL, hy1])
          have h8n : Hid (Byte8 (copyL o f (k + 1))) := Lib.hid (copyL_byte (by have := HU3.out.by8; exact this) f (k + 1))
          have hlen1 : Hid ((copyL o f (k + 1)).length = o.length + (k + 1)) := Lib.hid (copyL_len o f (k + 1))
          have HO := Lib.hid hO
          obtain ⟨i0, hi, hz0, hz1, hz2⟩ := info_parts info8
          generalize hq2 : copyL o f (k + 1) = o2 at *
          have HQ := Lib.hid hq2
          clear hq2
          generalize copyL o f k = o1 at *
          generalize hL : o1.length = L at *
          have HS := Lib.hid (fun (u : World) (hu : u.heap[c.gu]? = wr.heap[c.gu]?) => show u.cell? ⟨c.gu, 1, none⟩ = some (.slice (some ⟨bb, oo, none⟩) L cap2) ∧ u.frozen? ⟨c.gu, 1, none⟩ = false from
            ⟨(World.cell?_of_block (a := ⟨c.gu, 1, none⟩) hu).trans c1, (World.frozen?_of_block (a := ⟨c.gu, 1, none⟩) hu).trans f1⟩)
          have HG := Lib.hid (fun (u wa : World) (hwa : Below wr.heap.size wr wa) (hu : wa.grownBy u ob') => HU.out.grown hwa hu)
          have HE := Lib.hid (fun (u wa : World) (g cap2 : Nat) (hwa : Below wr.heap.size wr wa) (hu : wa.grownBy u ob')
            (hr : u.ownsRow (c.gu + 1) 5 1 (.slice (some ⟨g, 0, none⟩) (L + 1) cap2) (L + 1) (o1.map u8I ++ [.int .u8 (y : Nat)])) (hat : ob' = some g ∨ wr.heap.size ≤ g) (hlt : g < u.heap.size) =>
            show ∃ ob', UAt c (u.setCell ⟨c.gu, 1, none⟩ (.slice (some ⟨g, 0, none⟩) (L + 1) cap2)) ob' r o2 ∧ Mv c w ob (u.setCell ⟨c.gu, 1, none⟩ (.slice (some ⟨g, 0, none⟩) (L + 1) cap2)) ob' from by
              obtain ⟨k1, k2⟩ := HU.out.grow (o2 := o2) hwa hu (by rw [HN.out, List.map_append]; exact hr) (by rw [hlen1.out]; omega) hat hlt h8n.out (by rw [hlen1.out]; omega)
              exact ⟨some g, k1, HM.out.then k2⟩)
          obtain ⟨a, ha⟩ : ∃ a, f + k = a := ⟨_, rfl⟩
          have ha1 : (f : Int) + (k : Int) = (a : Int) := by omega
          rw [ha] at cj
          have haL : a < L := by omega
          have haL1 : (a : Int) < (L : Int) := by omega
          have haL0 : 0 ≤ (a : Int) := by omega
          have haw : IntKind.i64.wrap (a : Int) = (a : Int) := by rw [IntKind.wrap_i64]; omega
          have hat0 : (a : Int).toNat = a := by omega
          have d1 : decide ((k : Int) < (n : Int)) = true := decide_eq_true (by omega)
          have hmx := hmax2
          unfold maxLen at hmx
          have hLm : L ≤ 2000000 := by omega
          clear hc hU hy1 hO h8n hlen1 HN HM ha hlen h8l
          go_wp2_with fail
          go_region_law ((refine step_append_lies _ (by rfl) _ _ _ (by rfl) (c.gu + 1) 5 i0 _ 1 1 Tryd.underlying22 hi hz0 hz1 hz2 rfl (by decide) (.slice (some ⟨bb, oo, none⟩) L cap2) L (o1.map u8I) (by rfl) (show _ from (HO.out.alloc (.cells #[.int .u8 (y : Nat)] 5))) ⟨wr.heap.size, 0, none⟩ 1 1 [.int .u8 (y : Nat)] (by rfl) (by rfl) (World.news_of_block (cs := #[.int .u8 (y : Nat)]) (t := 5) (fr := (0, 0)) (heap_alloc_new wr _)) (by simp [Value.oneCell']) (by decide) (by unfold maxLen; omega) (by omega) (by simp; omega) (wr.heap.size + 1) (by simp) ?_; intro g cap3 w9 k1 k2 k3 k4; have k2' := (show ((wr.alloc (.cells #[.int .u8 (y : Nat)] 5)).drewN 1).grownBy w9 ob' by rw [← hv]; exact k2); obtain ⟨e1, e2⟩ := HS.out w9 (HG.out w9 _ (bdrawn (bnew wr _) 1) k2')))
          all_goals
            have HR := Lib.hid (HE.out w9 _ g cap3 (bdrawn (bnew wr _) 1) k2' k1 (by
              rcases k3 with k3 | k3
              · exact Or.inl (by rw [← hv]; exact k3)
              · exact Or.inr (by omega)) k4)
            clear k1 k2 k3 k4 k2'
            go_wp2_with fail
            go_roundw
            case rel => exact ⟨k + 1, by go_num, by omega, by rw [HQ.out]; exact HR⟩
            case measure => first | (simp [intOf]; done) | (simp [intOf]; omega)
        · obtain rfl : k = n := by omega
          have d1 : decide ((k : Int) < (k : Int)) = false := decide_eq_false (by omega)
          have HE : Hid (GaveO c w ob (backM c.bs ld c.lim s p o) (.returned (.int .i64 0)) wr) := Lib.hid (Or.inl ⟨_, r, ob', HF3.out, rfl, HU.out, HM.out⟩)
          clear hU HU HM
          go_wp2_with fail
          go_ret
          exact HE.out
    · have hn := nz hx
      have HE : Hid (GaveO c w ob (backM c.bs ld c.lim s p o) (.returned (.int .i64 (x : Nat))) w2) := Lib.hid (Or.inr ⟨x, by rw [HF.out, hR]; rfl, hx, rfl, (HBM.out _ _ HM1.out).trans hb⟩)
      clear hR hx hb
      go_wp2_with fail
      go_ret
      exact HE.out
  · have hn := nz hx
    have HE : Hid (GaveO c w ob (backM c.bs ld c.lim s p o) (.returned (.int .i64 (x : Nat))) w1) := Lib.hid (Or.inr ⟨x, by unfold backM; rw [hR]; rfl, hx, rfl, HB0.out _ hb⟩)
    clear hR hx hb
    go_wp2_with fail
    go_ret
    exact HE.out

end Go.Proofs.YtifkldllhbcmkaaDoor
