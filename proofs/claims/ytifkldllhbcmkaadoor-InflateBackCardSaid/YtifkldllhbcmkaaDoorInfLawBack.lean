/- InflateBack, walked. -/
import Derived.Test.YtifkldllhbcmkaaDoorInfBackMath
import Derived.Test.YtifkldllhbcmkaaDoorBytesOpen
namespace Go.Proofs.YtifkldllhbcmkaaDoor
open Go.RowKit
set_option linter.unusedVariables false
set_option linter.unusedSimpArgs false

theorem headL_byte (last n : Nat) (h1 : last ≤ 1) (h2 : n ≤ 65535) : Byte8 (headL last n) := byte8_of _ fun x hx => by
  unfold headL at hx
  simp only [List.mem_cons, List.not_mem_nil, or_false] at hx
  omega
theorem stoR_byte (b : List Int) (h : Byte8 b) : Byte8 (stoR b) := by
  by_cases c : 65535 < b.length
  · rw [stoR_on c]
    exact ((headL_byte 0 65535 (by omega) (Nat.le_refl _)).app (h.take _)).app (stoR_byte (b.drop 65535) (h.drop _))
  · rw [stoR_end c]
    exact (headL_byte 1 b.length (by omega) (by omega)).app h
  termination_by b.length
  decreasing_by simp; omega
theorem OrdAt.later {B : Nat} {w w' : World} (h : OrdAt w.heap.size w) (hb : Below w.heap.size w w') : OrdAt w'.heap.size w' := ⟨Nat.lt_of_lt_of_le h.low hb.size, (h.below hb).is⟩
theorem lives_on {w : World} (hO : OrdAt w.heap.size w) (u : World) (hu : Below w.heap.size w u) : Calls Tryd.prog 5 #[] u fun e w' => e = .returned (.bool true) ∧ Below w.heap.size w w' :=
  (lives15 u (hO.later (B := 0) hu)).mono fun _ _ ⟨he, hb⟩ => ⟨he, hu.trans (hb.mono hu.size)⟩
theorem infl_back (l more : List Int) : inflM (stoR l ++ more) l.length = .ok (l, 8 * (stoR l).length) := by
  have := back_ok l.length l (Nat.le_refl _) (stoR l ++ more) more [] 0 l.length rfl (Nat.zero_le _) (by simp)
  rw [Nat.zero_add] at this
  exact this
theorem infl_long (l more : List Int) (lim : Nat) (h : l.length = lim + 1) : inflM (stoR l ++ more) lim = .error 8 :=
  back_long l.length l (Nat.le_refl _) (stoR l ++ more) more [] 0 lim rfl (Nat.zero_le _) (by simpa using h) (by omega)
theorem infl_cut (l : List Int) (k : Nat) (h : k < (stoR l).length) : inflM ((stoR l).take k) l.length = .error 2 :=
  back_cut l.length l (Nat.le_refl _) ((stoR l).take k) [] 0 l.length k rfl h (Nat.zero_le _) (by simp)
set_option maxRecDepth 100000 in
set_option maxHeartbeats 6400000 in
theorem back_walk (v : Value) (l : List Int) (v2 : Value) (y : List Int) (cut : Int) (hcut : (Lit.int .i64 cut).wf = true) (w : World) (hO : OrdAt w.heap.size w) (hv : BytesV w v l) (hv2 : BytesV w v2 y) :
    Calls Tryd.prog 3 #[v, v2, .int .i64 cut] w fun e w' => e = .returned (.bool true) ∧ Below w.heap.size w w' := by
  obtain ⟨A, n, cap, rfl, hI⟩ := hv
  obtain ⟨B, ny, capy, rfl, hJ⟩ := hv2
  have hm := hI.max
  have hf := hI.fit
  have hmb := hJ.max
  have hfb := hJ.fit
  unfold maxLen at hm hmb
  have HL := Lib.hid (fun u hu => lives_on hO u hu)
  by_cases hbig : 70000 < n
  · have d1 : decide ((70000 : Int) < (n : Int)) = true := decide_eq_true (by omega)
    have HL1 := Lib.hid (HL.out w (Below.refl _ _))
    clear hI hJ hO HL
    go_enter Tryd.func3, Tryd.ntmps3
    go_wp2_with fail
    refine HL1.out.mono ?_
    rintro e w1 ⟨rfl, hb⟩
    go_wp2_with fail
    go_ret
    exact ⟨rfl, hb⟩
  have d1 : decide ((70000 : Int) < (n : Int)) = false := decide_eq_false (by omega)
  by_cases hbig2 : 1000 < ny
  · have d2 : decide ((1000 : Int) < (ny : Int)) = true := decide_eq_true (by omega)
    have HL1 := Lib.hid (HL.out w (Below.refl _ _))
    clear hI hJ hO HL
    go_enter Tryd.func3, Tryd.ntmps3
    go_wp2_with fail
    refine HL1.out.mono ?_
    rintro e w1 ⟨rfl, hb⟩
    go_wp2_with fail
    go_ret
    exact ⟨rfl, hb⟩
  have d2 : decide ((1000 : Int) < (ny : Int)) = false := decide_eq_false (by omega)
  have hlen := hI.len
  have hleny := hJ.len
  have H1 := Lib.hid (store_any (fun k => k < w.heap.size) A n cap l w (hI.weak fun k hk _ => hk) (fun k hk => hk) (by omega))
  have HI := Lib.hid hI
  have HJ := Lib.hid hJ
  have HO := Lib.hid hO
  obtain ⟨S, hS⟩ : ∃ S, stoR l = S := ⟨_, rfl⟩
  have HS := Lib.hid hS
  have hSl : S.length = n + 5 * ((n - 1) / 65535 + 1) := by rw [← hS, stoR_len, hlen]
  rw [hS] at H1
  obtain ⟨Q, hQ⟩ : ∃ Q, (n - 1) / 65535 = Q := ⟨_, rfl⟩
  rw [hQ] at hSl
  have hQ2 : Q ≤ 1 := by omega
  obtain ⟨ns, hns⟩ : ∃ ns, S.length = ns := ⟨_, rfl⟩
  have HQ := Lib.hid hQ
  have hns5 : 5 ≤ ns := by omega
  have hnsu : ns ≤ 70010 := by omega
  have hNS := Lib.hid hns
  have hnse : Hid (ns = n + 5 * (Q + 1)) := Lib.hid (by omega)
  have hnn : n ≤ 70000 := by omega
  have hny : ny ≤ 1000 := by omega
  clear hI hJ hO hS hQ hSl hbig hbig2
  go_enter Tryd.func3, Tryd.ntmps3
  go_wp2_with fail
  refine H1.out.mono ?_
  rintro e w1 ⟨v1, rfl, ho1, hb1⟩
  have h8S : Byte8 S := by rw [← HS.out]; exact stoR_byte l HI.out.bd
  rw [hns] at ho1
  obtain ⟨A1, c1, rfl, hn1, hm1⟩ := own_slice ho1
  unfold maxLen at hm1
  have HBS := Lib.hid (bytes_own ho1 h8S)
  have HB1 := Lib.hid hb1
  have HJ1 := Lib.hid (HJ.out.below hb1)
  clear ho1 hb1 H1 hns
  have HO0 := Lib.hid (World.ownsRow_nil w1 w1.heap.size 5 1)
  go_wp2_with (first
    | (at_builtin
       refine wpList_append_u8 (P := Tryd.prog) w1.heap.size 5 22 infoB8 Tryd.underlying22 rfl (.tmp 29) (.tmp 30) rfl _ 0 [] rfl HO0.out rfl HBS.out (by omega) (Nat.le_refl _) ?_
       intro v2 w2 hown2 hb2
       have HB2 := Lib.hid hb2
       have hown2' : w2.ownsRow w1.heap.size 5 1 v2 ns (S.map u8I) := by simpa using hown2
       clear hown2
       have hown2 := hown2'
       clear hown2'
       have HO2 := Lib.hid hown2
       have HY2 := Lib.hid (HJ1.out.below hb2)
       obtain ⟨A2, cap2, rfl, hn2, hm2⟩ := own_slice hown2
       clear hown2 hb2)
    | (at_builtin
       refine wpList_append_u8 (P := Tryd.prog) w1.heap.size 5 22 infoB8 Tryd.underlying22 rfl (.tmp 31) (.tmp 32) rfl _ ns S rfl HO2.out rfl HY2.out (by omega) HB2.out.size ?_
       intro v3 w3 hown3 hb3
       have HB3 := Lib.hid (HB2.out.trans hb3)
       have HO3 := Lib.hid hown3
       obtain ⟨A3, cap3, rfl, hn3, hm3⟩ := own_slice hown3
       clear hown3 hb3))
  have h8T : Byte8 (S ++ y) := h8S.app HJ.out.bd
  have hBT := bytes_own HO3.out h8T
  have HBw3 := Lib.hid (HB1.out.trans (HB3.out.mono HB1.out.size))
  have H2 := Lib.hid (inflate_any _ A3 (ns + ny) cap3 (S ++ y) n w3 hBT (by omega) (by omega) (HO.out.later (B := 0) HBw3.out))
  have HBT := Lib.hid hBT
  have HI3 := Lib.hid (HI.out.below HBw3.out)
  have HS3 := Lib.hid (HBS.out.below HB3.out)
  have hIB := Lib.hid (show inflM (S ++ y) n = .ok (l, 8 * ns) by rw [← HS.out, ← hlen, infl_back, HS.out, hNS.out])
  clear h8T hBT HO3 HO2 HY2 HJ1 HB2 HO0
  go_wp2_with fail
  refine H2.out.mono ?_
  rintro e w4 ⟨hb4, hG⟩
  rcases hG with ⟨o4, p4, A4, n4, c4, h1, rfl, h3, _, _⟩ | ⟨x, h1, _⟩
  · rw [hIB.out] at h1
    simp only [Except.ok.injEq, Prod.mk.injEq] at h1
    obtain ⟨rfl, rfl⟩ := h1
    have hn4 : n4 = n := by rw [← h3.len, hlen]
    subst hn4
    have q1 := conv_of h3
    have q2 := conv_of (HI3.out.below hb4)
    have hz : (8 * ns + 7) / 8 = ns := by omega
    rw [hz]
    have HBw4 := Lib.hid (HBw3.out.trans (hb4.mono HBw3.out.size))
    have HBT4 := Lib.hid (HBT.out.below hb4)
    have HS4 := Lib.hid (HS3.out.below hb4)
    clear h3 hb4 H2 hz HBT HS3 HI3
    have HQ2 := HQ.out
    have hQi := Lib.hid (show (((n4 - 1 : Nat) : Int) / 65535) = (Q : Int) by rw [← HQ2]; omega)
    obtain ⟨N1, hN1⟩ : ∃ N1, n4 - 1 = N1 := ⟨_, rfl⟩
    rw [hN1] at hQi
    have hQm := Lib.hid (show (if (0 : Int) < (n4 : Int) - 1 then (n4 : Int) - 1 else 0) = (N1 : Int) by split <;> omega)
    have hQm2 := Lib.hid (show (if (n4 : Int) - 1 < 0 then (0 : Int) else (n4 : Int) - 1) = (N1 : Int) by split <;> omega)
    have HN1 := Lib.hid hN1
    clear HQ2 hN1
    obtain ⟨ms, hms⟩ : ∃ ms, ns - 1 = ms := ⟨_, rfl⟩
    have hmi : (ns : Int) - 1 = (ms : Int) := by omega
    have hmsn : ms < ns := by omega
    obtain ⟨MN, hMN⟩ : ∃ MN : Int, (if (ms : Int) < cut then (ms : Int) else cut) = MN := ⟨_, rfl⟩
    have hMN2 : (if cut < (ms : Int) then cut else (ms : Int)) = MN := by rw [← hMN]; split <;> split <;> omega
    have hMNle : MN ≤ (ms : Int) := by rw [← hMN]; split <;> omega
    obtain ⟨K, hK⟩ : ∃ K : Nat, K = MN.toNat := ⟨_, rfl⟩
    have hK1 : (if (0 : Int) < MN then MN else 0) = (K : Int) := by split <;> omega
    have hK2 : (if MN < 0 then (0 : Int) else MN) = (K : Int) := by split <;> omega
    have hKs : K < ns := by omega
    have hbd : -9223372036854775808 ≤ cut ∧ cut ≤ 9223372036854775807 := bounds_i64 hcut
    obtain ⟨hbd1, hbd2⟩ := hbd
    clear hK hms
    by_cases h0 : n4 = 0
    · have d3 : decide ((0 : Int) < (n4 : Int)) = false := decide_eq_false (by omega)
      have d3' : decide (0 < n4) = false := decide_eq_false (by omega)
      clear h0
      have hC0 := cut_h HS4.out (K : Int) K rfl (by omega)
      obtain ⟨A9, c9, k9, hC9⟩ := hC0
      have HCut := Lib.hid (inflate_any _ A9 K c9 (S.take K) n4 w4 hC9 (by omega) (by omega) (HO.out.later (B := 0) HBw4.out))
      have hIC := Lib.hid (show inflM (S.take K) n4 = .error 2 by rw [← HS.out, ← hlen]; exact infl_cut l K (by rw [HS.out, hNS.out]; exact hKs))
      clear hC9
      go_wp2_with fail
      refine HCut.out.mono ?_
      rintro e w8 ⟨hb8, hG8⟩
      rcases hG8 with ⟨o8, p8, A8, n8, c8, h8, _⟩ | ⟨x8, h8, _, rfl⟩
      · rw [hIC.out] at h8
        cases h8
      · rw [hIC.out] at h8
        injection h8 with h8
        subst h8
        have HL8 := Lib.hid (HL.out w8 (HBw4.out.trans (hb8.mono HBw4.out.size)))
        have hq2 := hQm.out
        have hq3 := hQm2.out
        have hq6 : (if (1 : Int) < (n4 : Int) then (n4 : Int) - 1 else 0) = (N1 : Int) := by have := HN1.out; split <;> omega
        have hq7 : (if 1 < n4 then (n4 : Int) - 1 else 0) = (N1 : Int) := by have := HN1.out; split <;> omega
        have hq8 : (if (0 : Int) < (N1 : Int) then (N1 : Int) else 0) = (N1 : Int) := by split <;> omega
        have hq9 : (if 0 < N1 then (N1 : Int) else 0) = (N1 : Int) := by split <;> omega
        have d9 : ((ns : Int) == (n4 : Int) + 5 * ((N1 : Int) / 65535 + 1)) = true := by
          have := hQi.out
          have := hnse.out
          rw [beq_iff_eq]; omega
        have hN1l : N1 ≤ 70000 := by have := HN1.out; omega
        clear hb8 HCut
        go_wp2_with fail
        refine HL8.out.mono ?_
        rintro e w9 ⟨rfl, hb9⟩
        go_wp2_with fail
        go_ret
        exact ⟨rfl, hb9⟩
    · have d3 : decide ((0 : Int) < (n4 : Int)) = true := decide_eq_true (by omega)
      have d3' : decide (0 < n4) = true := decide_eq_true (by omega)
      have hn1 : (n4 : Int) - 1 = (N1 : Int) := by have := HN1.out; omega
      have H3 := Lib.hid (inflate_any _ A3 (ns + ny) cap3 (S ++ y) N1 w4 HBT4.out (by omega) (by have := HN1.out; omega) (HO.out.later (B := 0) HBw4.out))
      have hIL := Lib.hid (show inflM (S ++ y) N1 = .error 8 by rw [← HS.out]; exact infl_long l y N1 (by have := HN1.out; omega))
      go_wp2_with fail
      refine H3.out.mono ?_
      rintro e w5 ⟨hb5, hG⟩
      rcases hG with ⟨o5, p5, A5, n5, c5, h1, _⟩ | ⟨x, h1, _, rfl⟩
      · rw [hIL.out] at h1
        cases h1
      · rw [hIL.out] at h1
        injection h1 with h1
        subst h1
        have HBw5 := Lib.hid (HBw4.out.trans (hb5.mono HBw4.out.size))
        have HS5 := Lib.hid (HS4.out.below hb5)
        clear hb5 H3 q1 q2 HBT4
        have hC0 := cut_h HS5.out (K : Int) K rfl (by omega)
        obtain ⟨A9, c9, k9, hC9⟩ := hC0
        have HCut := Lib.hid (inflate_any _ A9 K c9 (S.take K) n4 w5 hC9 (by omega) (by omega) (HO.out.later (B := 0) HBw5.out))
        have hIC := Lib.hid (show inflM (S.take K) n4 = .error 2 by rw [← HS.out, ← hlen]; exact infl_cut l K (by rw [HS.out, hNS.out]; exact hKs))
        clear hC9
        go_wp2_with fail
        refine HCut.out.mono ?_
        rintro e w8 ⟨hb8, hG8⟩
        rcases hG8 with ⟨o8, p8, A8, n8, c8, h8, _⟩ | ⟨x8, h8, _, rfl⟩
        · rw [hIC.out] at h8
          cases h8
        · rw [hIC.out] at h8
          injection h8 with h8
          subst h8
          have HL8 := Lib.hid (HL.out w8 (HBw5.out.trans (hb8.mono HBw5.out.size)))
          have hq2 := hQm.out
          have hq3 := hQm2.out
          have hq6 : (if (1 : Int) < (n4 : Int) then (n4 : Int) - 1 else 0) = (N1 : Int) := by have := HN1.out; split <;> omega
          have hq7 : (if 1 < n4 then (n4 : Int) - 1 else 0) = (N1 : Int) := by have := HN1.out; split <;> omega
          have hq8 : (if (0 : Int) < (N1 : Int) then (N1 : Int) else 0) = (N1 : Int) := by split <;> omega
          have hq9 : (if 0 < N1 then (N1 : Int) else 0) = (N1 : Int) := by split <;> omega
          have d9 : ((ns : Int) == (n4 : Int) + 5 * ((N1 : Int) / 65535 + 1)) = true := by
            have := hQi.out
            have := hnse.out
            rw [beq_iff_eq]; omega
          have hN1l : N1 ≤ 70000 := by have := HN1.out; omega
          clear hb8 HCut
          go_wp2_with fail
          refine HL8.out.mono ?_
          rintro e w9 ⟨rfl, hb9⟩
          go_wp2_with fail
          go_ret
          exact ⟨rfl, hb9⟩
  · rw [hIB.out] at h1
    cases h1

end Go.Proofs.YtifkldllhbcmkaaDoor
