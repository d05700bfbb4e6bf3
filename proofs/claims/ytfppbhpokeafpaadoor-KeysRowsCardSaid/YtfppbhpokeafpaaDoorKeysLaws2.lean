/- The laws KeysPlays and KeysRows of layer 10, walked. -/
import Derived.Test.YtfppbhpokeafpaaDoorKeysPlay
namespace Go.Proofs.YtfppbhpokeafpaaDoor
open Go.RowKit

/-- The slice v has n values, those of f, in a block from B on. -/
def RowG (w : World) (B : Nat) (v : Value) (n : Nat) (f : Nat → Value) : Prop :=
  ∃ A cap, v = .slice A n cap ∧ n ≤ cap ∧ cap ≤ maxLen ∧ ∀ i, i < n → ∃ g, A = some ⟨g, 0, none⟩ ∧ B ≤ g ∧ g < w.heap.size ∧ w.cell? ⟨g, i, none⟩ = some (f i)
theorem rowG_down {w : World} {B : Nat} {v : Value} {l : List Nat} (h : w.ownsRow B 9 1 v l.length (l.map nmV)) : RowG w B v l.length (fun i => .string (nm (l.getD i 0))) := by
  have hcopy := h
  rcases h.2 with ⟨rfl, h0⟩ | ⟨g, cap, cur, rfl, hB, hg, hnc, hm, _, _⟩
  · exact ⟨none, 0, by rw [h0], by omega, by unfold maxLen; omega, fun i hi => absurd hi (by omega)⟩
  · refine ⟨some ⟨g, 0, none⟩, cap, rfl, hnc, hm, fun i hi => ⟨g, rfl, hB, (Array.getElem?_eq_some_iff.1 hg).1, ?_⟩⟩
    show _ = some (Value.string (nm (l.getD i 0)))
    rw [hcopy.cellAt i (by omega), List.getElem?_map, List.getElem?_eq_getElem hi, List.getD_eq_getElem?_getD, List.getElem?_eq_getElem hi]
    rfl

set_option maxHeartbeats 3200000 in
theorem plays_walk (v : Value) (l : List Step) (h : Int) (_ : (Lit.int .u8 h).wf = true) (w : World) (hT : ∃ A, NmTab A w) (hv : OpsAt w v l) :
    Calls Tryd.prog 3 #[v, .int .u8 h] w fun e w' => e = .returned (.bool true) ∧ Below w.heap.size w w' := by
  rename_i hwf
  obtain ⟨h0, h1⟩ := u8_bd hwf
  obtain ⟨A, hT⟩ := hT
  have HT := Lib.hid hT
  clear hwf hT
  by_cases hl : l.length ≤ 200
  · have HP := Lib.hid (play_any A v l w HT.out hv hl)
    obtain ⟨B, cap, rfl, c1, c2, c3⟩ := hv
    clear c3 c2 c1
    go_enter Tryd.func3, Tryd.ntmps3
    go_wp2_with fail
    refine HP.out.mono ?_
    rintro e w1 ⟨x, L, rfl, hi⟩
    have HI := Lib.hid hi
    have HR := Lib.hid (read_any _ _ h w1 hi.keys h0 h1)
    have HRR := Lib.hid (refRead x L _ h _ w1 hi.row hi.lst h0 h1)
    clear hi HP
    generalize hS : stF l l.length = S at *
    have HS := Lib.hid hS
    clear hS
    generalize readF S h = r at *
    go_wp2_with fail
    refine (HR.out).mono ?_
    rintro e w' ⟨rfl, rfl⟩
    go_wp2_with fail
    refine (HRR.out).mono ?_
    rintro e w' ⟨rfl, rfl⟩
    go_wp2_with fail
    refine (refNames w1).mono ?_
    rintro e w2 ⟨v2, rfl, hv2, hb2⟩
    have hk2 : KeysAt w2 w.heap.size S := by rw [← HS.out]; exact HI.out.keys.below hb2
    have hnx2 : Below w.heap.size w w2 := HI.out.bel.trans (hb2.mono HI.out.bel.size)
    have HD := Lib.hid (down_any A S _ w2 (HT.out.below hnx2) hk2)
    have HV2 := Lib.hid hv2
    have HX2 := Lib.hid (HI.out.row.below hb2)
    have HLS := Lib.hid (show Lst L S by rw [← HS.out]; exact HI.out.lst)
    clear hk2 hb2
    obtain ⟨g2, cap2, rfl, hg2, hc2, hm2, hcell2⟩ := rowAt_names hv2
    clear hv2 hcell2 HI HS HR HRR
    go_wp2_with fail
    refine HD.out.mono ?_
    rintro e w3 ⟨v3, rfl, hown3, hb3⟩
    obtain ⟨A3, cap3, rfl, n3, m3, hcell3⟩ := rowG_down hown3
    obtain ⟨g4, cap4, e4, hg4, hc4, hm4, hcell4⟩ := rowAt_names (HV2.out.later hb3)
    injection e4 with e4 _ e5
    injection e4 with e4
    injection e4 with e4 _ _
    subst e4 e5
    have HC3 := Lib.hid hcell3
    have HC4 := Lib.hid hcell4
    have HX3 := Lib.hid (HX2.out.below hb3)
    have hb := hnx2.trans (hb3.mono hnx2.size)
    have HV := Lib.hid (HT.out.below hb)
    have hdl := dn_le S 40
    have HDP := Lib.hid (dn_pos S)
    clear hcell3 hcell4 hown3 hb3 HD HV2 HX2 hnx2
    obtain ⟨n, hn⟩ : ∃ n, (dn S 40).length = n := ⟨_, rfl⟩
    rw [hn] at hdl n3 HDP HC3 ⊢
    have HN := Lib.hid hn
    clear hn
    unfold maxLen at m3
    go_wp2_with fail
    go_loopw [9, 11] (fun a i wr => ∃ k m : Nat, i = .int .i64 k ∧ k ≤ 40 ∧ a = .int .i64 (dn S k).length ∧ wr = w3.drewN m) (fun _ i _ => 40 - (intOf i).toNat)
    case atStart => exact ⟨0, 0, rfl, by omega, rfl, rfl⟩
    case round =>
      obtain ⟨k, m, rfl, hk, rfl, rfl⟩ := hrel
      by_cases hlt : k < 40
      · have HIN := Lib.hid (fun b hb => refIn (k : Int) _ L b _ (w3.drewN m) (show RowI (w3.drewN m) _ _ L from HX3.out) hb)
        cases hs : S k with
        | true =>
          have HQ := Lib.hid (HIN.out true (decide_eq_true ((HLS.out k).1 hs)))
          obtain ⟨p1, p2⟩ := HDP.out k hlt hs
          have HY := Lib.hid (show (dn S (k + 1)).length = (dn S k).length + 1 by rw [dn_yes S k hs]; simp)
          obtain ⟨g3, rfl, _, hg3, d3⟩ := HC3.out _ p1
          have d4 := HC4.out k hlt
          rw [p2] at d3
          clear p2 hs
          generalize (dn S k).length = q at *
          have hself := str_self (nm k)
          generalize nm k = N at *
          go_wp2_with fail
          refine (HQ.out).mono ?_
          rintro e w' ⟨rfl, rfl⟩
          have hge : decide (n ≤ q) = false := decide_eq_false (by omega)
          go_wp2_with fail
          go_quiet (fail)
          go_wp2_with fail
          go_roundw
          case rel => exact ⟨k + 1, _, by go_num, by omega, by rw [HY.out]; go_num, rfl⟩
          case measure => simp [intOf]; omega
        | false =>
          have HQ := Lib.hid (HIN.out false (decide_eq_false (fun hm => by have := (HLS.out k).2 hm; rw [hs] at this; cases this)))
          have HY := Lib.hid (show (dn S (k + 1)).length = (dn S k).length by rw [dn_no S k hs])
          clear hs
          generalize (dn S k).length = q at *
          go_wp2_with fail
          refine (HQ.out).mono ?_
          rintro e w' ⟨rfl, rfl⟩
          go_wp2_with fail
          go_roundw
          case rel => exact ⟨k + 1, m, by go_num, by omega, by rw [HY.out], rfl⟩
          case measure => simp [intOf]; omega
      · obtain rfl : k = 40 := by omega
        rw [HN.out]
        go_wp2_with fail
        refine (lives10 A _ (HV.out.below (w' := w3.drewN m) ⟨rfl, rfl, rfl, Nat.le_refl _, fun _ _ => rfl⟩)).mono ?_
        rintro e w4 ⟨rfl, hb4⟩
        go_wp2_with fail
        go_ret
        exact ⟨rfl, (below_drawn hb m).trans (hb4.mono hb.size)⟩
  · obtain ⟨B, cap, rfl, c1, c2, c3⟩ := hv
    have hl2 : 200 < l.length := by omega
    unfold maxLen at c2
    clear c3 hl
    go_enter Tryd.func3, Tryd.ntmps3
    go_wp2_with fail
    refine (lives10 A _ HT.out).mono ?_
    rintro e w4 ⟨rfl, hb4⟩
    go_wp2_with fail
    go_ret
    exact ⟨rfl, hb4⟩
end Go.Proofs.YtfppbhpokeafpaaDoor
