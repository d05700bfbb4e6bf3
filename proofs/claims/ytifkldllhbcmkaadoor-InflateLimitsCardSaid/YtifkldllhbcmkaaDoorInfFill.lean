/- A row of lengths filled. -/
import Derived.Test.YtifkldllhbcmkaaDoorInfRep
namespace Go.Proofs.YtifkldllhbcmkaaDoor
open Go.RowKit
set_option linter.unusedVariables false
set_option linter.unusedSimpArgs false

def GaveF (c : Cx) (w0 w : World) (gr many : Nat) (R : Rs (List Int)) (e : Ending) (w' : World) : Prop :=
  (∃ row q, R = .ok (row, q) ∧ e = .returned (.int .i64 0) ∧ BitsAt (fun k => c.B ≤ k ∧ k < c.gb) w' c.gb c.bs q ∧ Ch (fun k => k = c.gb) w0 w' ∧ RowIs w' gr row ∧ row.length = many ∧ Fine row) ∨ (∃ x, R = .error x ∧ (x = 2 ∨ x = 4 ∨ x = 8) ∧ e = .returned (.int .i64 (x : Nat)) ∧ Ch (fun k => k = c.gb) w0 w')
theorem rowM_er {bs lc row : List Int} {many p e : Nat} (h0 : row.length < many) (h : nextM bs lc p = .error e) : rowM bs lc many p row = .error e := by unfold rowM; rw [if_neg (by omega), h]; rfl
theorem rowM_ok {bs lc row : List Int} {many p s q : Nat} (h0 : row.length < many) (h : nextM bs lc p = .ok (s, q)) : rowM bs lc many p row = bnd (repM bs row s q) fun v r => if many - row.length < v.2 then .error 4 else .ok ((false, row ++ List.replicate v.2 v.1), r) := by unfold rowM; rw [if_neg (by omega), h]; rfl
theorem rep_ok {bs row : List Int} {s p q t : Nat} {v : Int} (h : repM bs row s p = .ok ((v, t), q)) (hf : Fine row) (hs : s < 19) : 1 ≤ t ∧ t ≤ 200 ∧ 0 ≤ v ∧ v ≤ 15 ∧ p ≤ q := by
  unfold repM at h
  split at h
  · cases h
  · rcases (takeM bs (repB s) p).two with ⟨x, hx⟩ | ⟨m, r, hx⟩
    · rw [hx] at h; cases h
    · have h1 := take_lt hx
      have h2 := repA_le s
      have h3 : 2 ^ repB s ≤ 2 ^ 7 := Nat.pow_le_pow_right (by decide) (repB_le s)
      rw [hx, bnd_ok] at h
      simp only [Except.ok.injEq, Prod.mk.injEq] at h
      obtain ⟨⟨rfl, rfl⟩, rfl⟩ := h
      have h4 : 0 ≤ repL row s ∧ repL row s ≤ 15 := by
        unfold repL
        split
        · exact hf _
        · split
          · omega
          · omega
      omega
theorem Fine.more {row : List Int} (h : Fine row) {v : Int} (h0 : 0 ≤ v) (h1 : v ≤ 15) (t : Nat) : Fine (row ++ List.replicate t v) := fun j => by
  by_cases c : j < row.length
  · rw [gI_app_left _ _ _ c]; exact h j
  · rw [gI_app_right _ _ _ (by omega)]
    by_cases d : j - row.length < t
    · have := gI_some (List.replicate t v) (j - row.length) (by simpa using d)
      rw [List.getElem?_replicate, if_pos d] at this
      injection this with this
      omega
    · rw [gI_end _ _ (by simp; omega)]; omega
/-- Between two symbols of the row. -/
structure Fl (c : Cx) (w0 w wr : World) (ob : Option Nat) (gr many : Nat) (R : Rs (List Int)) (lc row : List Int) (q : Nat) : Prop where
  bits : BitsAt (fun k => c.B ≤ k ∧ k < c.gb) wr c.gb c.bs q
  ch0 : Ch (fun k => k = c.gb) w0 wr
  ch : Ch (fun k => k = c.gb ∨ k = gr) w wr
  cells : RowIs wr gr row
  le : row.length ≤ many
  fine : Fine row
  r : loopM (rowM c.bs lc many) (8 * c.bs.length) q row = R
set_option maxRecDepth 100000 in
set_option maxHeartbeats 6400000 in
theorem fill_u (c : Cx) (w0 w : World) (ob : Option Nat) (p0 p : Nat) (o : List Int) (gr g many : Nat) (lc : List Int) (G : Nat → Prop) (h0 : UAt c w0 ob p0 o) (hb : BitsAt (fun k => c.B ≤ k ∧ k < c.gb) w c.gb c.bs p) (ch0 : Ch (fun k => k = c.gb) w0 w) (hgr : w0.heap.size ≤ gr)
    (hrow : RowIs w gr []) (ht : TabAt G w g lc) (hG : ∀ k, G k → k ≠ c.gu ∧ k ≠ c.gb ∧ ob ≠ some k ∧ k < w.heap.size ∧ c.B ≤ k ∧ k ≠ gr) (hlc : lc.length = 19) (hm : many ≤ 316) :
    Calls Tryd.prog 30 #[.pointer (some ⟨c.gu, 0, none⟩), .pointer (some ⟨gr, 0, none⟩), .pointer (some ⟨g, 0, none⟩), .int .i64 (many : Nat)] w (GaveF c w0 w gr many (loopM (rowM c.bs lc many) (8 * c.bs.length) p [])) := by
  obtain ⟨R, hR⟩ : ∃ R, loopM (rowM c.bs lc many) (8 * c.bs.length) p [] = R := ⟨_, rfl⟩
  rw [hR]
  have HS : Hid (Fl c w0 w w ob gr many R lc [] p) := Lib.hid ⟨hb, ch0, Ch.refl _ _, hrow, by simp, fine_of' _ (by simp), hR⟩
  have HU := Lib.hid (fun u q (hb : BitsAt (fun k => c.B ≤ k ∧ k < c.gb) u c.gb c.bs q) (hc : Ch (fun k => k = c.gb) w0 u) => h0.bitsMv hb hc)
  have HT := Lib.hid (fun u (hc : Ch (fun k => k = c.gb ∨ k = gr) w u) => show TabIn c u ob g lc from ⟨G, ht.ch hc (fun k hk => by have := hG k hk; omega), fun k hk => by
    obtain ⟨a1, a2, a3, a4, a5, _⟩ := hG k hk
    exact ⟨a1, a2, a3, Nat.lt_of_lt_of_le a4 hc.size, a5⟩⟩)
  have HB := Lib.hid (fun u (hc : Ch (fun k => k = c.gb) w0 u) => h0.mvBelow (Mv.bits (ob := ob) hc))
  have hgu := h0.gu
  have b2 := c.b2
  have hg1 : Hid (gr ≠ c.gb) := Lib.hid (by omega)
  have hg2 : Hid (w0.heap.size ≤ gr) := Lib.hid hgr
  have hgu := Lib.hid hgu
  clear h0 hb ch0 hrow ht hG hR b2 hgr
  go_enter Tryd.func30, Tryd.ntmps30
  go_wp2_with fail
  go_loopg [8] many (fun m s wr => s = .int .i64 0 ∧ Hid (∃ row q, m + row.length = many ∧ Fl c w0 w wr ob gr many R lc row q))
  case atStart => exact ⟨rfl, Lib.hid ⟨_, _, by simp, HS.out⟩⟩
  case round =>
    obtain ⟨rfl, HX⟩ := hrel
    obtain ⟨row, q, hmm, hF⟩ := HX.out
    have HF := Lib.hid hF
    have cn := RowIs.n hF.cells
    have hle := hF.le
    have hfine := Lib.hid hF.fine
    obtain ⟨L, hL⟩ : ∃ L, row.length = L := ⟨_, rfl⟩
    rw [hL] at cn hle hmm
    have hLH := Lib.hid hL
    have hu := HU.out wr q hF.bits hF.ch0
    obtain ⟨v0, fs, fd, c0, _, _, _, _, _, _, _⟩ := hu.cells
    have H1 := Lib.hid (next_b c wr ob q o g lc hu (HT.out wr hF.ch) (by omega))
    clear HX HS hF hu hL
    by_cases hlt : L < many
    · have d1 : decide ((L : Int) < (many : Int)) = true := decide_eq_true (by omega)
      have d1' : decide (L < many) = true := decide_eq_true hlt
      go_wp2_with fail
      refine H1.out.mono ?_
      rintro e w1 (⟨s, q1, hR1, rfl, hb1, hc1⟩ | ⟨x, hR1, hx, rfl, hb1⟩)
      · have hsl : s = 0 ∨ s < lc.length := (next_ok hR1).choose_spec.2.2.2.2
        have hpq := next_mono hR1
        have hch1 := Lib.hid (HF.out.ch0.then hc1)
        have hch2 := Lib.hid (HF.out.ch.then (hc1.weak fun i hi => Or.inl hi))
        have hr1 := HF.out.cells.block (hc1.block gr HF.out.cells.lt (by have := hg1.out; omega))
        have hRow1 := Lib.hid hr1
        have HRM : Hid (rowM c.bs lc many q row = bnd (repM c.bs row s q1) fun v r => if many - row.length < v.2 then .error 4 else .ok ((false, row ++ List.replicate v.2 v.1), r)) := Lib.hid (rowM_ok (by rw [hLH.out]; exact hlt) hR1)
        have H2 := Lib.hid (repeat_b c w1 ob q1 o gr row s (by omega) (HU.out w1 q1 hb1 hch1.out) hr1 (by rw [hLH.out]; omega))
        clear hb1 hc1 hR1 hr1 H1 c0
        go_wp2_with fail
        refine H2.out.mono ?_
        rintro e w2 (⟨v, t, q2, hR2, rfl, hb2, hc2⟩ | ⟨x, hR2, hx, rfl, hb2⟩)
        · obtain ⟨t1, t2, v0', v1', hq2⟩ := rep_ok hR2 hfine.out (by omega)
          have hch3 := Lib.hid (hch1.out.then hc2)
          have hch4 := Lib.hid (hch2.out.then (hc2.weak fun i hi => Or.inl hi))
          have hr2 := hRow1.out.block (hc2.block gr hRow1.out.lt (by have := hg1.out; omega))
          have hRow2 := Lib.hid hr2
          have cn2 := RowIs.n hr2
          rw [hLH.out] at cn2
          have hB2 := Lib.hid hb2
          have HRM2 : Hid (rowM c.bs lc many q row = if many - L < t then .error 4 else .ok ((false, row ++ List.replicate t v), q2)) := Lib.hid (by rw [HRM.out, hR2, bnd_ok, hLH.out])
          clear hb2 hc2 hR2 hr2 H2 hch1 hch2 hRow1 HRM cn
          by_cases hbig : many - L < t
          · have d2 : decide (((many : Int) - (L : Int)) < (t : Int)) = true := decide_eq_true (by omega)
            have HE : Hid (GaveF c w0 w gr many R (.returned (.int .i64 4)) w2) := Lib.hid (Or.inr ⟨4, by rw [← HF.out.r, loop_er (by rw [HRM2.out, if_pos hbig])], by omega, rfl, hch3.out⟩)
            go_wp2_with fail
            go_ret
            exact HE.out
          · have d2 : decide (((many : Int) - (L : Int)) < (t : Int)) = false := decide_eq_false (by omega)
            go_wp2_with fail
            go_loopw [51] (fun i wx => ∃ j : Nat, i = .int .i64 j ∧ j ≤ t ∧ Hid (RowIs wx gr (row ++ List.replicate j v) ∧ BitsAt (fun k => c.B ≤ k ∧ k < c.gb) wx c.gb c.bs q2 ∧ Ch (fun k => k = c.gb) w0 wx ∧ Ch (fun k => k = c.gb ∨ k = gr) w wx)) (fun i _ => t - (intOf i).toNat)
            case atStart => exact ⟨0, rfl, by omega, Lib.hid ⟨by simpa using hRow2.out, hB2.out, hch3.out, hch4.out⟩⟩
            case round =>
              obtain ⟨j, rfl, hj, HI⟩ := hrel
              by_cases hlt2 : j < t
              · have hlen : (row ++ List.replicate j v).length = L + j := by rw [List.length_append, List.length_replicate, hLH.out]
                obtain ⟨K, hK⟩ : ∃ K, L + j = K := ⟨_, rfl⟩
                rw [hK] at hlen
                have hK3 : K < 316 := by omega
                have k1 := RowIs.n HI.out.1
                have k2 := RowIs.at HI.out.1 K hK3
                have f1 := Cells.frozen HI.out.1 K
                have f2 := Cells.frozen HI.out.1 316
                rw [hlen] at k1
                have hK4 : (K : Int) < 316 := by omega
                have hKw : IntKind.i64.wrap (K : Int) = (K : Int) := by rw [IntKind.wrap_i64]; omega
                have hne : K ≠ 316 := by omega
                have hne2 : 316 ≠ K := by omega
                have d5 : decide ((j : Int) < (t : Int)) = true := decide_eq_true (by omega)
                have HP : Hid (∀ n : Nat, RowIs (((wr.drewN n).setCell ⟨gr, K, none⟩ (.int .i64 v)).setCell ⟨gr, 316, none⟩ (.int .i64 ((K : Int) + 1))) gr (row ++ List.replicate (j + 1) v) ∧ BitsAt (fun k => c.B ≤ k ∧ k < c.gb) (((wr.drewN n).setCell ⟨gr, K, none⟩ (.int .i64 v)).setCell ⟨gr, 316, none⟩ (.int .i64 ((K : Int) + 1))) c.gb c.bs q2 ∧ Ch (fun k => k = c.gb) w0 (((wr.drewN n).setCell ⟨gr, K, none⟩ (.int .i64 v)).setCell ⟨gr, 316, none⟩ (.int .i64 ((K : Int) + 1))) ∧ Ch (fun k => k = c.gb ∨ k = gr) w (((wr.drewN n).setCell ⟨gr, K, none⟩ (.int .i64 v)).setCell ⟨gr, 316, none⟩ (.int .i64 ((K : Int) + 1)))) := Lib.hid (fun n => by
                  obtain ⟨i1, i2, i3, i4⟩ := HI.out
                  have hC : Ch (fun k => k = gr) wr (((wr.drewN n).setCell ⟨gr, K, none⟩ (.int .i64 v)).setCell ⟨gr, 316, none⟩ (.int .i64 ((K : Int) + 1))) := ((Ch.of_below (bdrawn (Below.refl _ _) n)).then (Ch.set (F := fun k => k = gr) _ gr K _ rfl)).then (Ch.set (F := fun k => k = gr) _ gr 316 _ rfl)
                  have hput := RowIs.put (w := wr.drewN n) (i1.below (bdrawn (Below.refl _ _) n)) v (by rw [hlen]; exact hK3)
                  rw [hlen, List.append_assoc, ← List.replicate_succ'] at hput
                  have hg1' := hg1.out
                  have hg2' := hg2.out
                  exact ⟨hput, i2.ch hC (by omega) (fun k hk => by have := c.b2; have := hgu.out; omega), i3.trans hC (fun i hi => Or.inr (by omega)), i4.then (hC.weak fun i hi => Or.inr hi)⟩)
                clear hK hlen HI
                go_wp2_with fail
                go_region
                go_wp2_with fail
                go_roundw
                case rel => exact ⟨j + 1, by go_num, by omega, Lib.hid (HP.out 1)⟩
                case measure => first | (simp [intOf]; done) | (simp [intOf]; omega)
              · obtain rfl : j = t := by omega
                have d5 : decide ((j : Int) < (j : Int)) = false := decide_eq_false (by omega)
                obtain ⟨i1, i2, i3, i4⟩ := HI.out
                have HN : Hid (Fl c w0 w wr ob gr many R lc (row ++ List.replicate j v) q2) := Lib.hid ⟨i2, i3, i4, i1, by rw [List.length_append, List.length_replicate, hLH.out]; omega, hfine.out.more v0' v1' j,
                  (loop_on (p := q) (o := row) (q := q2) (o' := row ++ List.replicate j v) (by rw [HRM2.out, if_neg hbig]) (by omega) i2.fit).symm.trans HF.out.r⟩
                have hL2 : Hid ((row ++ List.replicate j v).length = L + j) := Lib.hid (by rw [List.length_append, List.length_replicate, hLH.out])
                clear HI i1 i2 i3 i4
                go_wp2_with fail
                go_roundg (many - (L + j))
                case measure => omega
                case rel => exact ⟨rfl, Lib.hid ⟨_, _, by rw [hL2.out]; omega, HN.out⟩⟩
        · have hn := nz hx
          have HE : Hid (GaveF c w0 w gr many R (.returned (.int .i64 (x : Nat))) w2) := Lib.hid (Or.inr ⟨x, by rw [← HF.out.r, loop_er (by rw [HRM.out, hR2]; rfl)], hx, rfl, hch1.out.then hb2⟩)
          clear hR2 hx hb2 H2
          go_wp2_with fail
          go_ret
          exact HE.out
      · have hn := nz hx
        have HE : Hid (GaveF c w0 w gr many R (.returned (.int .i64 (x : Nat))) w1) := Lib.hid (Or.inr ⟨x, by rw [← HF.out.r, loop_er (rowM_er (by rw [hLH.out]; exact hlt) hR1)], hx, rfl, HF.out.ch0.then hb1⟩)
        clear hR1 hx hb1 H1
        go_wp2_with fail
        go_ret
        exact HE.out
    · have d1 : decide ((L : Int) < (many : Int)) = false := decide_eq_false (by omega)
      have d1' : decide (L < many) = false := decide_eq_false hlt
      have HE : Hid (GaveF c w0 w gr many R (.returned (.int .i64 0)) wr) := Lib.hid (Or.inl ⟨row, q, by rw [← HF.out.r, loop_end (step := rowM c.bs lc many) (q := q) (o' := row) (by unfold rowM; rw [if_pos (by rw [hLH.out]; omega)])], rfl, HF.out.bits, HF.out.ch0, HF.out.cells, by rw [hLH.out]; omega, HF.out.fine⟩)
      clear H1
      go_wp2_with fail
      go_ret
      exact HE.out

end Go.Proofs.YtifkldllhbcmkaaDoor
