/- InflateLimits, walked. -/
import Derived.Test.YtifkldllhbcmkaaDoorInfLawBack
import Derived.Test.YtifkldllhbcmkaaDoorInfRel
namespace Go.Proofs.YtifkldllhbcmkaaDoor
open Go.RowKit
set_option linter.unusedVariables false
set_option linter.unusedSimpArgs false

set_option maxRecDepth 100000 in
set_option maxHeartbeats 6400000 in
theorem limits_walk (v : Value) (l : List Int) (v2 : Value) (y : List Int) (limit : Int) (hlim : (Lit.int .i64 limit).wf = true) (w : World) (hO : OrdAt w.heap.size w) (hv : BytesV w v l) (hv2 : BytesV w v2 y) :
    Calls Tryd.prog 4 #[v, v2, .int .i64 limit] w fun e w' => e = .returned (.bool true) ∧ Below w.heap.size w w' := by
  obtain ⟨A, n, cap, rfl, hI⟩ := hv
  obtain ⟨B, ny, capy, rfl, hJ⟩ := hv2
  have hm := hI.max
  have hf := hI.fit
  have hmb := hJ.max
  have hfb := hJ.fit
  unfold maxLen at hm hmb
  have HL := Lib.hid (fun u hu => lives_on hO u hu)
  by_cases hbig : 400 < n
  · have d1 : decide ((400 : Int) < (n : Int)) = true := decide_eq_true (by omega)
    have HL1 := Lib.hid (HL.out w (Below.refl _ _))
    clear hI hJ hO HL
    go_enter Tryd.func4, Tryd.ntmps4
    go_wp2_with fail
    refine HL1.out.mono ?_
    rintro e w1 ⟨rfl, hb⟩
    go_wp2_with fail
    go_ret
    exact ⟨rfl, hb⟩
  have d1 : decide ((400 : Int) < (n : Int)) = false := decide_eq_false (by omega)
  by_cases hbig2 : 100 < ny
  · have d2 : decide ((100 : Int) < (ny : Int)) = true := decide_eq_true (by omega)
    have HL1 := Lib.hid (HL.out w (Below.refl _ _))
    clear hI hJ hO HL
    go_enter Tryd.func4, Tryd.ntmps4
    go_wp2_with fail
    refine HL1.out.mono ?_
    rintro e w1 ⟨rfl, hb⟩
    go_wp2_with fail
    go_ret
    exact ⟨rfl, hb⟩
  have d2 : decide ((100 : Int) < (ny : Int)) = false := decide_eq_false (by omega)
  by_cases h0 : limit < 0
  · have d3 : decide (limit < 0) = true := decide_eq_true h0
    have HL1 := Lib.hid (HL.out w (Below.refl _ _))
    clear hI hJ hO HL h0
    go_enter Tryd.func4, Tryd.ntmps4
    go_wp2_with fail
    refine HL1.out.mono ?_
    rintro e w1 ⟨rfl, hb⟩
    go_wp2_with fail
    go_ret
    exact ⟨rfl, hb⟩
  have d3 : decide (limit < 0) = false := decide_eq_false h0
  by_cases h3 : 3000 < limit
  · have d4 : decide (3000 < limit) = true := decide_eq_true h3
    have HL1 := Lib.hid (HL.out w (Below.refl _ _))
    clear hI hJ hO HL h0 h3
    go_enter Tryd.func4, Tryd.ntmps4
    go_wp2_with fail
    refine HL1.out.mono ?_
    rintro e w1 ⟨rfl, hb⟩
    go_wp2_with fail
    go_ret
    exact ⟨rfl, hb⟩
  obtain ⟨lim, rfl⟩ : ∃ lim : Nat, limit = (lim : Int) := ⟨limit.toNat, by omega⟩
  have d4 : decide (3000 < (lim : Int)) = false := decide_eq_false h3
  have hlim3 : lim ≤ 3000 := by omega
  have hnn : n ≤ 400 := by omega
  have hny : ny ≤ 100 := by omega
  have hlen := hI.len
  have hleny := hJ.len
  have H1 := Lib.hid (inflate_any _ A n cap l lim w hI (by omega) (by omega) hO)
  have H2 := Lib.hid (fun u (hu : Below w.heap.size w u) => inflate_any _ A n cap l (lim + 1) u (hI.below hu) (by omega) (by omega) (hO.later (B := 0) hu))
  have hl1 : (lim : Int) + 1 = ((lim + 1 : Nat) : Int) := by omega
  have HI := Lib.hid hI
  have HJ := Lib.hid hJ
  have HO := Lib.hid hO
  have HM := Lib.hid (infl_more l lim)
  obtain ⟨L1, hL1⟩ : ∃ L1, lim + 1 = L1 := ⟨_, rfl⟩
  rw [hL1] at H2 HM hl1
  clear hI hJ hO hbig hbig2 h0 h3 hL1
  go_enter Tryd.func4, Tryd.ntmps4
  go_wp2_with fail
  refine H1.out.mono ?_
  rintro e w1 ⟨hb1, hG⟩
  have HB1 := Lib.hid hb1
  have H3 := Lib.hid (H2.out w1 hb1)
  clear hb1 H1 H2
  rcases hG with ⟨o, p, A1, n1, c1, h1, rfl, h2, hol, hpl⟩ | ⟨x, h1, hx, rfl⟩
  · have h5 := HM.out.1 o p h1
    have hn1 : n1 ≤ lim := by have := h2.len; omega
    have hn1l := h2.len
    have HO1 := Lib.hid h2
    obtain ⟨P, hP⟩ : ∃ P, (p + 7) / 8 = P := ⟨_, rfl⟩
    have hPn : P ≤ n := by omega
    have HIB := Lib.hid (show inflM (l.take P ++ y) lim = .ok (o, p) by rw [← hP]; exact infl_behind l y lim p o h1 hpl)
    have HPP := Lib.hid hP
    rw [hP]
    have H5 := Lib.hid h5
    clear h1 h2 h5 hpl hol hP HM
    go_wp2_with fail
    refine H3.out.mono ?_
    rintro e w2 ⟨hb2, hG⟩
    rcases hG with ⟨o2, p2, A2, n2, c2, h1, rfl, h2, _, _⟩ | ⟨x, h1, _⟩
    · rw [H5.out] at h1
      simp only [Except.ok.injEq, Prod.mk.injEq] at h1
      obtain ⟨rfl, rfl⟩ := h1
      have hn2 : n2 = n1 := by rw [← h2.len, hn1l]
      subst hn2
      rw [HPP.out]
      have HB2 := Lib.hid (HB1.out.trans (hb2.mono HB1.out.size))
      have HO2 := Lib.hid (HO1.out.below hb2)
      have q1 := conv_of h2
      have q2 := conv_of HO2.out
      have e1 : decide ((lim : Int) < (n2 : Int)) = false := decide_eq_false (by omega)
      have e1' : decide (lim < n2) = false := decide_eq_false (by omega)
      have e2 : decide ((P : Int) < 0) = false := decide_eq_false (by omega)
      have e3 : decide ((n : Int) < (P : Int)) = false := decide_eq_false (by omega)
      have e3' : decide (n < P) = false := decide_eq_false (by omega)
      obtain ⟨A5, c5, k5, hB5⟩ := cut_h (HI.out.below HB2.out) (P : Int) P rfl hPn
      have HB5 := Lib.hid hB5
      have HJ2 := Lib.hid (HJ.out.below HB2.out)
      have HE0 := Lib.hid (World.ownsRow_nil w2 w2.heap.size 5 1)
      clear h2 hb2 hB5 H3 HO1 hn1
      go_wp2_with (first
        | (at_builtin
           refine wpList_append_u8 (P := Tryd.prog) w2.heap.size 5 22 infoB8 Tryd.underlying22 rfl (.tmp 119) (.tmp 122) rfl _ 0 [] rfl HE0.out rfl HB5.out (by omega) (Nat.le_refl _) ?_
           intro v3 w3 hown3 hb3
           have HB3 := Lib.hid hb3
           have hown3' : w3.ownsRow w2.heap.size 5 1 v3 P ((l.take P).map u8I) := by simpa using hown3
           clear hown3
           have HO3 := Lib.hid hown3'
           have HY3 := Lib.hid (HJ2.out.below hb3)
           obtain ⟨A3, cap3, rfl, hn3, hm3⟩ := own_slice hown3'
           clear hown3' hb3)
        | (at_builtin
           refine wpList_append_u8 (P := Tryd.prog) w2.heap.size 5 22 infoB8 Tryd.underlying22 rfl (.tmp 123) (.tmp 124) rfl _ P (l.take P) rfl HO3.out rfl HY3.out (by omega) HB3.out.size ?_
           intro v4 w4 hown4 hb4
           have HB4 := Lib.hid (HB3.out.trans hb4)
           have HO4 := Lib.hid hown4
           obtain ⟨A4, cap4, rfl, hn4, hm4⟩ := own_slice hown4
           clear hown4 hb4))
      have hBT := bytes_own HO4.out (HB5.out.bd.app HJ2.out.bd)
      have HBw4 := Lib.hid (HB2.out.trans (HB4.out.mono HB2.out.size))
      have H6 := Lib.hid (inflate_any _ A4 (P + ny) cap4 (l.take P ++ y) lim w4 hBT (by omega) (by omega) (HO.out.later (B := 0) HBw4.out))
      have HO5 := Lib.hid (HO2.out.below HB4.out)
      clear hBT HO4 HO3 HY3 HE0 HB5 HJ2 q1 q2
      go_wp2_with fail
      refine H6.out.mono ?_
      rintro e w5 ⟨hb5, hG⟩
      rcases hG with ⟨o5, p5, A6, n6, c6, h1, rfl, h2, _, _⟩ | ⟨x, h1, _⟩
      · rw [HIB.out] at h1
        simp only [Except.ok.injEq, Prod.mk.injEq] at h1
        obtain ⟨rfl, rfl⟩ := h1
        have hn6 : n6 = n2 := by rw [← h2.len, hn1l]
        subst hn6
        rw [HPP.out]
        have q3 := conv_of h2
        have q4 := conv_of (HO5.out.below hb5)
        have HL5 := Lib.hid (HL.out w5 (HBw4.out.trans (hb5.mono HBw4.out.size)))
        clear h2 hb5 H6
        go_wp2_with fail
        refine HL5.out.mono ?_
        rintro e w6 ⟨rfl, hb6⟩
        go_wp2_with fail
        go_ret
        exact ⟨rfl, hb6⟩
      · rw [HIB.out] at h1
        cases h1
    · rw [H5.out] at h1
      cases h1
  · have hHM := HM.out.2 x h1
    have e1 : decide ((lim : Int) < 0) = false := decide_eq_false (by omega)
    have e3 : decide ((n : Int) < 0) = false := decide_eq_false (by omega)
    have hcase : (x = 2 ∨ x = 4) ∧ inflM l L1 = .error x ∨ x = 8 := by
      rcases hx with rfl | rfl | rfl
      · rcases hHM with h | h
        · cases h
        · exact Or.inl ⟨Or.inl rfl, h⟩
      · rcases hHM with h | h
        · cases h
        · exact Or.inl ⟨Or.inr rfl, h⟩
      · exact Or.inr rfl
    clear hHM HM hx h1
    rcases hcase with ⟨hx, h5⟩ | rfl
    · have H5 := Lib.hid h5
      clear h5
      rcases hx with rfl | rfl
      all_goals
        go_wp2_with fail
        refine H3.out.mono ?_
        rintro e w2 ⟨hb2, hG⟩
        have HB2 := Lib.hid (HB1.out.trans (hb2.mono HB1.out.size))
        rcases hG with ⟨o2, p2, A2, n2, c2, h1, _⟩ | ⟨x, h1, _, rfl⟩
        · rw [H5.out] at h1
          cases h1
        · rw [H5.out] at h1
          injection h1 with h1
          subst h1
          have HL2 := Lib.hid (HL.out w2 HB2.out)
          clear hb2 H3
          go_wp2_with fail
          refine HL2.out.mono ?_
          rintro e w3 ⟨rfl, hb3⟩
          go_wp2_with fail
          go_ret
          exact ⟨rfl, hb3⟩
    · go_wp2_with fail
      refine H3.out.mono ?_
      rintro e w2 ⟨hb2, hG⟩
      have HB2 := Lib.hid (HB1.out.trans (hb2.mono HB1.out.size))
      have HL2 := Lib.hid (HL.out w2 HB2.out)
      rcases hG with ⟨o2, p2, A2, n2, c2, h1, rfl, _, _, _⟩ | ⟨x, h1, _, rfl⟩
      · clear h1 hb2 H3
        go_wp2_with fail
        refine HL2.out.mono ?_
        rintro e w3 ⟨rfl, hb3⟩
        go_wp2_with fail
        go_ret
        exact ⟨rfl, hb3⟩
      · clear h1 hb2 H3
        go_wp2_with fail
        refine HL2.out.mono ?_
        rintro e w3 ⟨rfl, hb3⟩
        go_wp2_with fail
        go_ret
        exact ⟨rfl, hb3⟩

end Go.Proofs.YtifkldllhbcmkaaDoor
