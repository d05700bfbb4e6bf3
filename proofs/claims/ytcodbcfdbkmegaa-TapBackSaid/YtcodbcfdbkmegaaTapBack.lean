/- TapBack walked. -/
import Derived.Test.YtcodbcfdbkmegaaTapWrite
import Derived.Test.YtcodbcfdbkmegaaTapLaws
import Derived.Test.YtcodbcfdbkmegaaTapSealed
import Derived.Test.YtcodbcfdbkmegaaAdlerOpen
import Derived.Test.YtcodbcfdbkmegaaHeldTail
namespace Go.Proofs.Ytcodbcfdbkmegaa
open Go.RowKit
set_option linter.unusedVariables false
set_option linter.unusedSimpArgs false

theorem gI_set (l : List Int) (i j : Nat) (x : Int) (hi : i < l.length) : gI (l.set i x) j = if j = i then x else gI l j := by
  unfold gI
  rw [List.getD_eq_getElem?_getD, List.getD_eq_getElem?_getD, List.getElem?_set]
  by_cases e : j = i
  · subst e
    rw [if_pos rfl, if_pos rfl, if_pos hi]
    rfl
  · rw [if_neg (fun h => e h.symm), if_neg e]
theorem sld_cut (f : Int) (l : List Int) : ((sldL f l).take (l.length + 1)).drop 1 = l := by
  unfold sldL
  rw [List.take_append_of_le_length (by simp), List.take_of_length_le (by simp)]
  rfl
theorem file_parse (L : List (List Int)) (h1 : L.length ≤ 4096) (h2 : ∀ j, j < L.length → (gL L j).length ≤ 65535) (h3 : sizeL L ≤ 1048576) : parseM (fileL L) = .ok L := by
  unfold parseM
  rw [if_neg (by rw [fileL_len]; omega)]
  exact tap_back L [] 0 (by omega) h2
theorem parse_file (l : List Int) (hb : Byte8 l) (hn : l.length ≤ 1048576) (L : List (List Int)) (h : parseM l = .ok L) : fileL L = l ∧ FitsP L := by
  unfold parseM at h
  rw [if_neg (by omega)] at h
  obtain ⟨h1, h2, h3⟩ := tap_read l hb _ 0 0 L rfl (Nat.zero_le _) (Nat.zero_le _) h
  rw [List.drop_zero] at h1
  exact ⟨h1, by omega, h2, by rw [← fileL_len, h1]; exact hn⟩
theorem back_lives (v0 : Value) (L : List (List Int)) (v1 : Value) (l : List Int) (at' : Int) (hat : (Lit.int .i64 at').wf = true) (w : World) (h0 : PartsV w v0 L) (h1 : BytesV w v1 l) (hbig : 100 < L.length ∨ 20000 < l.length) : Calls Try.prog 6 #[v0, v1, .int .i64 at'] w fun e w' => e = .returned (.bool true) ∧ Below w.heap.size w w' := by
  obtain ⟨A, n, cap, rfl, hl⟩ := h0
  obtain ⟨B, m, cb, rfl, hb⟩ := h1
  have hlen := hl.len
  have hf := hl.fit
  have hm := hl.max
  have hlenb := hb.len
  have hfb := hb.fit
  have hmb := hb.max
  unfold maxLen at hm hmb
  obtain ⟨q1, h1⟩ : ∃ q, decide (100 < (n : Int)) = q := ⟨_, rfl⟩
  obtain ⟨q2, h2⟩ : ∃ q, decide (20000 < (m : Int)) = q := ⟨_, rfl⟩
  have h1' : decide (100 < n) = q1 := by rw [← h1]; exact decide_eq_decide.2 (by omega)
  have h2' : decide (20000 < m) = q2 := by rw [← h2]; exact decide_eq_decide.2 (by omega)
  have hq : (q1 || q2) = true := by
    rw [← h1', ← h2']
    rcases hbig with a | a
    · rw [decide_eq_true (show 100 < n by omega)]; rfl
    · rw [decide_eq_true (show 20000 < m by omega), Bool.or_true]
  clear hl hb hbig
  cases q1 <;> cases q2
  all_goals first
    | (cases hq; done)
    | (go_enter Try.func6, Try.ntmps6
       go_wp2_with fail
       refine (lives18 _).mono ?_
       rintro e w1 ⟨rfl, hb⟩
       go_wp2_with fail
       go_ret
       exact ⟨rfl, hb⟩)
set_option maxRecDepth 100000 in
set_option maxHeartbeats 6400000 in
theorem back_walk (v0 : Value) (L : List (List Int)) (v1 : Value) (l : List Int) (at' : Int) (hat : (Lit.int .i64 at').wf = true) (w : World) (h0 : PartsV w v0 L) (h1 : BytesV w v1 l) : Calls Try.prog 6 #[v0, v1, .int .i64 at'] w fun e w' => e = .returned (.bool true) ∧ Below w.heap.size w w' := by
  by_cases hbig : 100 < L.length ∨ 20000 < l.length
  · exact back_lives v0 L v1 l at' hat w h0 h1 hbig
  obtain ⟨A, n, cap, rfl, hl⟩ := h0
  obtain ⟨B, m, cb, rfl, hb⟩ := h1
  have hlen := hl.len
  have hf := hl.fit
  have hm := hl.max
  have hlenb := hb.len
  have hfb := hb.fit
  have hmb := hb.max
  unfold maxLen at hm hmb
  have hatb : -9223372036854775808 ≤ at' ∧ at' ≤ 9223372036854775807 := bounds_i64 hat
  obtain ⟨a0, a1⟩ := hatb
  have hn : n ≤ 100 := by omega
  have hmm : m ≤ 20000 := by omega
  have d1 : decide (100 < (n : Int)) = false := decide_eq_false (by omega)
  have d1' : decide (100 < n) = false := decide_eq_false (by omega)
  have d2 : decide (20000 < (m : Int)) = false := decide_eq_false (by omega)
  have d2' : decide (20000 < m) = false := decide_eq_false (by omega)
  have HL := Lib.hid hl
  have HB := Lib.hid hb
  -- what is sealed, and where the other byte stands
  obtain ⟨M, hM⟩ : ∃ M, m + 2 = M := ⟨_, rfl⟩
  obtain ⟨K, hK⟩ : ∃ K, m + 1 = K := ⟨_, rfl⟩
  have hMi : (m : Int) + 2 = (M : Int) := by omega
  have hM0 : 0 < M := by omega
  have hM0' : (0 : Int) < (M : Int) := by omega
  have hKi : (m : Int) + 1 = (K : Int) := by omega
  have hMK : (M : Int) - 1 = (K : Int) := by omega
  have wM : IntKind.i64.wrap (M : Int) = (M : Int) := by rw [IntKind.wrap_i64]; omega
  have wK : IntKind.i64.wrap (K : Int) = (K : Int) := by rw [IntKind.wrap_i64]; omega
  have HK1 : Hid (K - 1 = m) := Lib.hid (by omega)
  obtain ⟨m1, hm1⟩ : ∃ m1 : Int, (if (K : Int) < at' then (K : Int) else at') = m1 := ⟨_, rfl⟩
  have hm1b : m1 ≤ K := by rw [← hm1]; split <;> omega
  have hm1c : min at' (K : Int) = m1 := by rw [← hm1]; split <;> omega
  obtain ⟨I, hI⟩ : ∃ I : Nat, (if (0 : Int) < m1 then m1 else 0) = (I : Int) := ⟨(if (0 : Int) < m1 then m1 else 0).toNat, by split <;> omega⟩
  have hIc : max 0 m1 = (I : Int) := by rw [← hI]; split <;> omega
  have hIM : I < M := by have : (I : Int) ≤ K := by rw [← hI]; split <;> omega
                         omega
  have hsl : (sldL 7 l).length = M := by rw [sldL_len]; omega
  have h70 : Hid (gI (sldL 7 l) 0 = 7) := Lib.hid rfl
  have H8s := Lib.hid (sld_byte8 7 l (by decide) (by decide) hb.bd)
  have HCut : Hid (((sldL 7 l).take K).drop 1 = l) := Lib.hid (by rw [← hK, ← hlenb]; exact sld_cut 7 l)
  have HRq : Hid ((decide (0 < (sldL 7 l).length) && (sumX (sldL 7 l) == 0)) = true) := Lib.hid (by rw [hsl, sld_sum, decide_eq_true (by omega)]; rfl)
  obtain ⟨y, hy⟩ : ∃ y, gI (sldL 7 l) I = y := ⟨_, rfl⟩
  have hyb := H8s.out I
  rw [hy] at hyb
  obtain ⟨y0, y1⟩ := hyb
  obtain ⟨x, hx⟩ : ∃ x, (y + 1) % 256 = x := ⟨_, rfl⟩
  have hxb : 0 ≤ x ∧ x ≤ 255 ∧ x ≠ y := by omega
  obtain ⟨x0, x1, xy⟩ := hxb
  have hyI := Lib.hid hy
  have H8t : Hid (Byte8 ((sldL 7 l).set I x)) := Lib.hid (fun j => by
    rw [gI_set _ _ _ _ (by omega)]
    split
    · exact ⟨x0, x1⟩
    · exact H8s.out j)
  have HRn : Hid ((decide (0 < ((sldL 7 l).set I x).length) && (sumX ((sldL 7 l).set I x) == 0)) = false) := Lib.hid (by
    rw [Bool.and_eq_false_iff]
    refine Or.inr ?_
    rw [beq_eq_false_iff_ne]
    exact sum_spoilt _ I x (by omega) (H8s.out I) x0 x1 (by rw [hy]; exact xy) (sld_sum 7 l))
  obtain ⟨T, hT⟩ : ∃ T, strOfNums l = T := ⟨_, rfl⟩
  have HT := Lib.hid hT
  have hTT : (T.toList == T.toList) = true := beq_self_eq_true _
  have HSe : Hid (∀ u, Below w.heap.size w u → Calls Try.prog 19 #[.int .u8 7, .slice B m cb] u (Sealed8 u 7 l M)) := Lib.hid (fun u hu => by rw [← hM]; exact sealed_any _ B m cb l 7 u (hb.below hu) (by omega) (by decide) (by decide))
  have h8b := hb.bd
  have H8b := Lib.hid h8b
  have HM := Lib.hid hM
  have HKm := Lib.hid hK
  clear hl hb hbig hat hsl hy hT h8b hM hK
  go_enter Try.func6, Try.ntmps6
  go_wp2_with fail
  clear d1 d1' d2 d2'
  go_loop [7] (fun i => ∃ k : Nat, i = .int .i64 k ∧ k ≤ n ∧ Hid (∀ j, j < k → (gL L j).length ≤ 5000)) (fun i => n - (intOf i).toNat)
  case atStart => exact ⟨0, rfl, by omega, Lib.hid (fun j hj => absurd hj (by omega))⟩
  case round =>
    obtain ⟨k, rfl, hk, HZ⟩ := hrel
    by_cases hlt : k < n
    · obtain ⟨b, o, Aj, cj, rfl, hbl, ck, hB⟩ := parts_len HL.out k hlt
      obtain ⟨z, hzz⟩ : ∃ z, (gL L k).length = z := ⟨_, rfl⟩
      rw [hzz] at ck hB
      have hcf := hB.fit
      have hcm := hB.max
      unfold maxLen at hcm
      have HZZ := Lib.hid hzz
      clear hB hzz
      by_cases hl5 : 5000 < z
      · have d3 : decide (5000 < (z : Int)) = true := decide_eq_true (by omega)
        have d3' : decide (5000 < z) = true := decide_eq_true hl5
        have HLv := Lib.hid (lives18 w)
        go_wp2_with fail
        refine HLv.out.mono ?_
        rintro e w1 ⟨rfl, hb⟩
        go_wp2_with fail
        go_ret
        exact ⟨rfl, hb⟩
      · have d3 : decide (5000 < (z : Int)) = false := decide_eq_false (by omega)
        have d3' : decide (5000 < z) = false := decide_eq_false hl5
        have HN : Hid (∀ j, j < k + 1 → (gL L j).length ≤ 5000) := Lib.hid (fun j hj => by
          by_cases e : j = k
          · rw [e, HZZ.out]; omega
          · exact HZ.out j (by omega))
        clear HZ
        go_wp2_with fail
        go_round
        case rel => exact ⟨k + 1, by go_num, by omega, HN⟩
        case measure => simp [intOf]; omega
    · have hsz : sizeL L ≤ 5002 * n := size_le L 5000 (fun j hj => HZ.out j (by omega)) n hlen.symm
      have hF : FitsP L := ⟨by omega, fun j hj => by have := HZ.out j (by omega); omega, by omega⟩
      obtain ⟨N, hN⟩ : ∃ N, sizeL L = N := ⟨_, rfl⟩
      have hN1 : N ≤ 1000000 := by omega
      have H1 : Hid (Calls Try.prog 12 #[.slice A n cap] w fun x w' => ∃ B c, x = .returned (.tuple #[.slice B N c, .int .i64 0]) ∧ w'.ownsRow w.heap.size 5 1 (.slice B N c) N ((fileL L).map u8I) ∧ Below w.heap.size w w') := Lib.hid ((write_yes _ A n cap L w HL.out hF).mono fun x w' h => by rw [← hN]; exact h)
      have H8 := Lib.hid (fileL_byte8 L fun j hj => by
        obtain ⟨_, _, _, _, _, _, _, hB⟩ := parts_len HL.out j (by omega)
        exact hB.bd)
      have HP := Lib.hid (file_parse L (by omega) hF.2.1 hF.2.2)
      have qn : ∀ u, (binOp .neq 26 .nilIface .nilIface).run Try.prog u = .ok (.bool false) u := fun _ => rfl
      have qe : ∀ u, (binOp .eql 26 .nilIface .nilIface).run Try.prog u = .ok (.bool true) u := fun _ => rfl
      clear hF hN hsz HZ
      go_wp2_with fail
      refine H1.out.mono ?_
      rintro x8 w1 ⟨B1, c1, rfl, ho1, hb1⟩
      have hB1 := bytes_own ho1 H8.out
      have hf1 := hB1.fit
      have hm1' := hB1.max
      unfold maxLen at hm1'
      have K2 := Lib.hid (parse_yes _ B1 N c1 _ w1 hB1 (Or.inl hN1) L HP.out)
      have HB1 := Lib.hid hb1
      clear ho1 hb1 hB1 H1
      go_wp2_with fail
      refine K2.out.mono ?_
      rintro x8 w2 ⟨B2, n2, c2, rfl, hp2, hb2⟩
      obtain rfl : n = n2 := HL.out.len.symm.trans hp2.len
      have hf2 := hp2.fit
      have hm2 := hp2.max
      unfold maxLen at hm2
      have HB2 := Lib.hid (HB1.out.trans (hb2.mono HB1.out.size))
      have K3 := Lib.hid (same_yes _ _ A B2 n cap c2 L w2 (HL.out.below HB2.out) hp2)
      clear hp2 hb2 K2
      go_wp2_with fail
      refine K3.out.mono ?_
      rintro x8 w3 ⟨rfl, j3, rfl⟩
      have HB3 := Lib.hid (bdrawn HB2.out j3)
      generalize w2.drewN j3 = w3 at *
      clear K3
      cases hR : parseM l with
      | ok Q =>
        obtain ⟨hQ1, hQ2⟩ := parse_file l H8b.out (by omega) Q hR
        have HQ1 := Lib.hid hQ1
        have hq3 : sizeL Q = m := by rw [← fileL_len, hQ1]; exact hlenb
        have K4 := Lib.hid (parse_yes _ B m cb l w3 (HB.out.below HB3.out) (Or.inl (by omega)) Q hR)
        have K5 : Hid (∀ (u : World) (G : Nat → Prop) (A4 : Option Addr) (n4 c4 : Nat), Parts G u A4 n4 c4 Q → Calls Try.prog 12 #[.slice A4 n4 c4] u fun x w' => ∃ B c, x = .returned (.tuple #[.slice B m c, .int .i64 0]) ∧ w'.ownsRow u.heap.size 5 1 (.slice B m c) m (l.map u8I) ∧ Below u.heap.size u w') := Lib.hid (fun u G A4 n4 c4 h => (write_yes G A4 n4 c4 Q u h hQ2).mono fun x w' h => by
          rw [← hQ1]
          rw [hQ1, ← hq3]
          have h' := h
          rw [show Wrote u Q (fun v => .tuple #[v, .int .i64 0]) = fun x w' => ∃ A c, x = .returned (.tuple #[.slice A (sizeL Q) c, .int .i64 0]) ∧ w'.ownsRow u.heap.size 5 1 (.slice A (sizeL Q) c) (sizeL Q) ((fileL Q).map u8I) ∧ Below u.heap.size u w' from rfl, hQ1] at h'
          exact h')
        clear hR hQ1 hQ2 hq3
        go_wp2_with fail
        refine K4.out.mono ?_
        rintro x8 w4 ⟨B4, n4, c4, rfl, hp4, hb4⟩
        have K6 := Lib.hid (K5.out w4 _ B4 n4 c4 hp4)
        have HB4 := Lib.hid (HB3.out.trans (hb4.mono HB3.out.size))
        have hf4 := hp4.fit
        have hm4 := hp4.max
        unfold maxLen at hm4
        clear hp4 hb4 K4 K5
        go_wp2_with fail
        refine K6.out.mono ?_
        rintro x8 w5 ⟨B5, c5, rfl, ho5, hb5⟩
        have HB5 := Lib.hid (HB4.out.trans (hb5.mono HB4.out.size))
        have hB5 := bytes_own ho5 H8b.out
        have r1 := conv_of hB5
        have r2 := conv_of (HB.out.below HB5.out)
        rw [HT.out] at r1 r2
        clear ho5 hb5 K6 hB5
        have HWr := Lib.hid (HSe.out w5 HB5.out)
        go_wp2_with fail
        refine HWr.out.mono ?_
        rintro x u1 ⟨g, rfl, hgl, hC, hb⟩
        have HC := Lib.hid hC
        have HBu := Lib.hid (HB5.out.trans (hb.mono HB5.out.size))
        have hglt := hC.lt
        have c0 := hC.cell 0 (by omega)
        rw [h70.out] at c0
        have hS8 := BAt8.of_cells8 hC (by rw [sldL_len]; omega) (by unfold maxLen; omega) H8s.out
        obtain ⟨A', c', hcut, hB'⟩ := cut_lh hS8 1 (K : Nat) 1 K rfl rfl (by omega) (by omega)
        rw [HK1.out] at hcut hB'
        rw [HCut.out] at hB'
        have q1 := conv_of (hB'.below (Below.refl _ _).drew)
        have q2 := conv_of ((HB.out.below HBu.out).below (Below.refl _ _).drew)
        rw [HT.out] at q1 q2
        have hf' := hB'.fit
        have hm' := hB'.max
        unfold maxLen at hm'
        have HRt := Lib.hid (right_any _ _ _ _ _ true u1.drew (hS8.below (Below.refl _ _).drew) HRq.out)
        have hcI := hC.cell I hIM
        have hzI := hC.frozen I
        rw [hyI.out] at hcI
        have hCd := Lib.hid (show Cells u1.drew g 5 M (fun j => .int .u8 (gI (sldL 7 l) j)) from hC.below (Below.refl _ _).drew)
        have HG0 : Hid (w.heap.size ≤ g) := Lib.hid (Nat.le_trans HB5.out.size hgl)
        clear hb hC hS8 hB' HWr HB5 hgl
        go_wp2_with fail
        first | refine wp_region_noPanic ?_ | skip
        refine wp_region_U (n := 27) (S := (fun u => u.cell? ⟨g, 0, none⟩ = some (.int .u8 7) ∧ (convert 22 9 (.slice A' m c')).run Try.prog u = .ok (.string T) u ∧ (convert 22 9 (.slice B m cb)).run Try.prog u = .ok (.string T) u)) (by kernel_rfl) (by kernel_rfl) ⟨c0, q1, q2⟩ (fun hHeld => ?_)
        refine wpAnyU_take (i := 0) (v := ?v1) rfl (by kernel_rfl) (by kernel_rfl) (by kernel_rfl) (by kernel_rfl) (fun _ _ _ h => h) (Or.inl ⟨by rfl, ?hy1⟩) (by assumption) ?rest1
        case hy1 => (intro w hSw; (try dsimp only at hSw); go_simp; try with_reducible rfl)
        try simp only [Act.put, List.getElem_toArray, List.getElem_cons_succ, List.getElem_cons_zero, List.setIfInBounds_toArray, List.set_cons_zero, List.set_cons_succ]
        refine wpAnyU_ready (i := 1) (by kernel_rfl) (by kernel_rfl) rfl (fun K hK => ?_)
        go_simp
        refine (HRt.out).mono ?_
        rintro e w' ⟨rfl, rfl⟩
        go_wp2_with fail
        refine hK.out _ _ (⟨c0, q1, q2⟩) (fun hHeld => ?_)
        clear hK K
        try simp only [Act.put, List.getElem_toArray, List.getElem_cons_succ, List.getElem_cons_zero, List.setIfInBounds_toArray, List.set_cons_zero, List.set_cons_succ]
        refine wpAnyU_take (i := 2) (v := ?v2) rfl (by kernel_rfl) (by kernel_rfl) (by kernel_rfl) (by kernel_rfl) (fun _ _ _ h => h) (Or.inl ⟨by rfl, ?hy2⟩) (by assumption) ?rest2
        case hy2 => (intro w hSw; (try dsimp only at hSw); go_simp; try with_reducible rfl)
        try simp only [Act.put, List.getElem_toArray, List.getElem_cons_succ, List.getElem_cons_zero, List.setIfInBounds_toArray, List.set_cons_zero, List.set_cons_succ]
        refine wpAnyU_take (i := 3) (v := ?v3) rfl (by kernel_rfl) (by kernel_rfl) (by kernel_rfl) (by kernel_rfl) (fun _ _ _ h => h) (Or.inl ⟨by rfl, ?hy3⟩) (by assumption) ?rest3
        case hy3 => (intro w hSw; (try dsimp only at hSw); go_simp; try with_reducible rfl)
        try simp only [Act.put, List.getElem_toArray, List.getElem_cons_succ, List.getElem_cons_zero, List.setIfInBounds_toArray, List.set_cons_zero, List.set_cons_succ]
        refine wpAnyU_take (i := 4) (v := ?v4) rfl (by kernel_rfl) (by kernel_rfl) (by kernel_rfl) (by kernel_rfl) (fun _ _ _ h => h) (Or.inl ⟨by rfl, ?hy4⟩) (by assumption) ?rest4
        case hy4 => (intro w hSw; (try dsimp only at hSw); go_simp; try with_reducible rfl)
        try simp only [Act.put, List.getElem_toArray, List.getElem_cons_succ, List.getElem_cons_zero, List.setIfInBounds_toArray, List.set_cons_zero, List.set_cons_succ]
        refine wpAnyU_take (i := 5) (v := ?v5) rfl (by kernel_rfl) (by kernel_rfl) (by kernel_rfl) (by kernel_rfl) (fun _ _ _ h => h) (Or.inl ⟨by rfl, ?hy5⟩) (by assumption) ?rest5
        case hy5 => (intro w hSw; (try dsimp only at hSw); go_simp; try with_reducible rfl)
        try simp only [Act.put, List.getElem_toArray, List.getElem_cons_succ, List.getElem_cons_zero, List.setIfInBounds_toArray, List.set_cons_zero, List.set_cons_succ]
        refine wpAnyU_take (i := 6) (v := ?v6) rfl (by kernel_rfl) (by kernel_rfl) (by kernel_rfl) (by kernel_rfl) (fun _ _ _ h => h) (Or.inl ⟨by rfl, ?hy6⟩) (by assumption) ?rest6
        case hy6 => (intro w hSw; (try dsimp only at hSw); go_simp; try with_reducible rfl)
        try simp only [Act.put, List.getElem_toArray, List.getElem_cons_succ, List.getElem_cons_zero, List.setIfInBounds_toArray, List.set_cons_zero, List.set_cons_succ]
        refine wpAnyU_take (i := 7) (v := ?v7) rfl (by kernel_rfl) (by kernel_rfl) (by kernel_rfl) (by kernel_rfl) (fun _ _ _ h => h) (Or.inl ⟨by rfl, ?hy7⟩) (by assumption) ?rest7
        case hy7 => (intro w hSw; (try dsimp only at hSw); go_simp; try with_reducible rfl)
        try simp only [Act.put, List.getElem_toArray, List.getElem_cons_succ, List.getElem_cons_zero, List.setIfInBounds_toArray, List.set_cons_zero, List.set_cons_succ]
        refine wpAnyU_take (i := 8) (v := ?v8) rfl (by kernel_rfl) (by kernel_rfl) (by kernel_rfl) (by kernel_rfl) (fun _ _ _ h => h) (Or.inl ⟨by rfl, ?hy8⟩) (by assumption) ?rest8
        case hy8 => (intro w hSw; (try dsimp only at hSw); go_simp; try with_reducible rfl)
        try simp only [Act.put, List.getElem_toArray, List.getElem_cons_succ, List.getElem_cons_zero, List.setIfInBounds_toArray, List.set_cons_zero, List.set_cons_succ]
        refine wpAnyU_take (i := 9) (v := ?v9) rfl (by kernel_rfl) (by kernel_rfl) (by kernel_rfl) (by kernel_rfl) (fun _ _ _ h => h) (Or.inl ⟨by rfl, ?hy9⟩) (by assumption) ?rest9
        case hy9 => (intro w hSw; (try dsimp only at hSw); go_simp; try with_reducible rfl)
        try simp only [Act.put, List.getElem_toArray, List.getElem_cons_succ, List.getElem_cons_zero, List.setIfInBounds_toArray, List.set_cons_zero, List.set_cons_succ]
        refine wpAnyU_take (i := 10) (v := ?v10) rfl (by kernel_rfl) (by kernel_rfl) (by kernel_rfl) (by kernel_rfl) (fun _ _ _ h => h) (Or.inl ⟨by rfl, ?hy10⟩) (by assumption) ?rest10
        case hy10 => (intro w hSw; (try dsimp only at hSw); go_simp; try with_reducible rfl)
        try simp only [Act.put, List.getElem_toArray, List.getElem_cons_succ, List.getElem_cons_zero, List.setIfInBounds_toArray, List.set_cons_zero, List.set_cons_succ]
        refine wpAnyU_take (i := 11) (v := ?v11) rfl (by kernel_rfl) (by kernel_rfl) (by kernel_rfl) (by kernel_rfl) (fun _ _ _ h => h) (Or.inl ⟨by rfl, ?hy11⟩) (by assumption) ?rest11
        case hy11 => (intro w hSw; (try dsimp only at hSw); go_simp; try with_reducible rfl)
        try simp only [Act.put, List.getElem_toArray, List.getElem_cons_succ, List.getElem_cons_zero, List.setIfInBounds_toArray, List.set_cons_zero, List.set_cons_succ]
        refine wpAnyU_take (i := 12) (v := ?v12) rfl (by kernel_rfl) (by kernel_rfl) (by kernel_rfl) (by kernel_rfl) (fun _ _ _ h => h) (Or.inl ⟨by rfl, ?hy12⟩) (by assumption) ?rest12
        case hy12 => (intro w hSw; (try dsimp only at hSw); go_simp; try with_reducible rfl)
        try simp only [Act.put, List.getElem_toArray, List.getElem_cons_succ, List.getElem_cons_zero, List.setIfInBounds_toArray, List.set_cons_zero, List.set_cons_succ]
        refine wpAnyU_take (i := 13) (v := ?v13) rfl (by kernel_rfl) (by kernel_rfl) (by kernel_rfl) (by kernel_rfl) (fun _ _ _ h => h) (Or.inl ⟨by rfl, ?hy13⟩) (by assumption) ?rest13
        case hy13 => (intro w hSw; (try dsimp only at hSw); go_simp; try with_reducible rfl)
        try simp only [Act.put, List.getElem_toArray, List.getElem_cons_succ, List.getElem_cons_zero, List.setIfInBounds_toArray, List.set_cons_zero, List.set_cons_succ]
        refine wpAnyU_take (i := 14) (v := ?v14) rfl (by kernel_rfl) (by kernel_rfl) (by kernel_rfl) (by kernel_rfl) (fun _ _ _ h => h) (Or.inl ⟨by rfl, ?hy14⟩) (by assumption) ?rest14
        case hy14 => (intro w hSw; (try dsimp only at hSw); go_simp; try with_reducible rfl)
        try simp only [Act.put, List.getElem_toArray, List.getElem_cons_succ, List.getElem_cons_zero, List.setIfInBounds_toArray, List.set_cons_zero, List.set_cons_succ]
        refine wpAnyU_take (i := 15) (v := ?v15) rfl (by kernel_rfl) (by kernel_rfl) (by kernel_rfl) (by kernel_rfl) (fun _ _ _ h => h) (Or.inl ⟨by rfl, ?hy15⟩) (by assumption) ?rest15
        case hy15 => (intro w hSw; (try dsimp only at hSw); go_simp; try with_reducible rfl)
        try simp only [Act.put, List.getElem_toArray, List.getElem_cons_succ, List.getElem_cons_zero, List.setIfInBounds_toArray, List.set_cons_zero, List.set_cons_succ]
        refine wpAnyU_take (i := 16) (v := ?v16) rfl (by kernel_rfl) (by kernel_rfl) (by kernel_rfl) (by kernel_rfl) (fun _ _ _ h => h) (Or.inl ⟨by rfl, ?hy16⟩) (by assumption) ?rest16
        case hy16 => (intro w hSw; (try dsimp only at hSw); go_simp; try with_reducible rfl)
        try simp only [Act.put, List.getElem_toArray, List.getElem_cons_succ, List.getElem_cons_zero, List.setIfInBounds_toArray, List.set_cons_zero, List.set_cons_succ]
        refine wpAnyU_take (i := 17) (v := ?v17) rfl (by kernel_rfl) (by kernel_rfl) (by kernel_rfl) (by kernel_rfl) (fun _ _ _ h => h) (Or.inl ⟨by rfl, ?hy17⟩) (by assumption) ?rest17
        case hy17 => (intro w hSw; (try dsimp only at hSw); go_simp; try with_reducible rfl)
        try simp only [Act.put, List.getElem_toArray, List.getElem_cons_succ, List.getElem_cons_zero, List.setIfInBounds_toArray, List.set_cons_zero, List.set_cons_succ]
        refine wpAnyU_take (i := 18) (v := ?v18) rfl (by kernel_rfl) (by kernel_rfl) (by kernel_rfl) (by kernel_rfl) (fun _ _ _ h => h) (Or.inl ⟨by rfl, ?hy18⟩) (by assumption) ?rest18
        case hy18 => (intro w hSw; (try dsimp only at hSw); go_simp; try with_reducible rfl)
        try simp only [Act.put, List.getElem_toArray, List.getElem_cons_succ, List.getElem_cons_zero, List.setIfInBounds_toArray, List.set_cons_zero, List.set_cons_succ]
        refine wpAnyU_take (i := 19) (v := ?v19) rfl (by kernel_rfl) (by kernel_rfl) (by kernel_rfl) (by kernel_rfl) (fun _ _ _ h => h) (Or.inl ⟨by rfl, ?hy19⟩) (by assumption) ?rest19
        case hy19 => (intro w hSw; (try dsimp only at hSw); go_simp; try with_reducible rfl)
        try simp only [Act.put, List.getElem_toArray, List.getElem_cons_succ, List.getElem_cons_zero, List.setIfInBounds_toArray, List.set_cons_zero, List.set_cons_succ]
        refine wpAnyU_take (i := 20) (v := ?v20) rfl (by kernel_rfl) (by kernel_rfl) (by kernel_rfl) (by kernel_rfl) (fun _ _ _ h => h) (Or.inl ⟨by rfl, ?hy20⟩) (by assumption) ?rest20
        case hy20 => (intro w hSw; (try dsimp only at hSw); go_simp; try with_reducible rfl)
        try simp only [Act.put, List.getElem_toArray, List.getElem_cons_succ, List.getElem_cons_zero, List.setIfInBounds_toArray, List.set_cons_zero, List.set_cons_succ]
        refine wpAnyU_take (i := 21) (v := ?v21) rfl (by kernel_rfl) (by kernel_rfl) (by kernel_rfl) (by kernel_rfl) (fun _ _ _ h => h) (Or.inl ⟨by rfl, ?hy21⟩) (by assumption) ?rest21
        case hy21 => (intro w hSw; (try dsimp only at hSw); go_simp; try with_reducible rfl)
        try simp only [Act.put, List.getElem_toArray, List.getElem_cons_succ, List.getElem_cons_zero, List.setIfInBounds_toArray, List.set_cons_zero, List.set_cons_succ]
        refine wpAnyU_take (i := 22) (v := ?v22) rfl (by kernel_rfl) (by kernel_rfl) (by kernel_rfl) (by kernel_rfl) (fun _ _ _ h => h) (Or.inl ⟨by rfl, ?hy22⟩) (by assumption) ?rest22
        case hy22 => (intro w hSw; (try dsimp only at hSw); go_simp; try with_reducible rfl)
        try simp only [Act.put, List.getElem_toArray, List.getElem_cons_succ, List.getElem_cons_zero, List.setIfInBounds_toArray, List.set_cons_zero, List.set_cons_succ]
        refine wpAnyU_take (i := 23) (v := ?v23) rfl (by kernel_rfl) (by kernel_rfl) (by kernel_rfl) (by kernel_rfl) (fun _ _ _ h => h) (Or.inl ⟨by rfl, ?hy23⟩) (by assumption) ?rest23
        case hy23 => (intro w hSw; (try dsimp only at hSw); go_simp; try with_reducible rfl)
        try simp only [Act.put, List.getElem_toArray, List.getElem_cons_succ, List.getElem_cons_zero, List.setIfInBounds_toArray, List.set_cons_zero, List.set_cons_succ]
        refine wpAnyU_take (i := 24) (v := ?v24) rfl (by kernel_rfl) (by kernel_rfl) (by kernel_rfl) (by kernel_rfl) (fun _ _ _ h => h) (Or.inl ⟨by rfl, ?hy24⟩) (by assumption) ?rest24
        case hy24 => (intro w hSw; (try dsimp only at hSw); go_simp; try with_reducible rfl)
        try simp only [Act.put, List.getElem_toArray, List.getElem_cons_succ, List.getElem_cons_zero, List.setIfInBounds_toArray, List.set_cons_zero, List.set_cons_succ]
        refine wpAnyU_take (i := 25) (v := ?v25) rfl (by kernel_rfl) (by kernel_rfl) (by kernel_rfl) (by kernel_rfl) (fun _ _ _ h => h) (Or.inl ⟨by rfl, ?hy25⟩) (by assumption) ?rest25
        case hy25 => (intro w hSw; (try dsimp only at hSw); go_simp; try with_reducible rfl)
        try simp only [Act.put, List.getElem_toArray, List.getElem_cons_succ, List.getElem_cons_zero, List.setIfInBounds_toArray, List.set_cons_zero, List.set_cons_succ]
        refine wpAnyU_take (i := 26) (v := ?v26) rfl (by kernel_rfl) (by kernel_rfl) (by kernel_rfl) (by kernel_rfl) (fun _ _ _ h => h) (Or.inl ⟨by rfl, ?hy26⟩) (by assumption) ?rest26
        case hy26 => (intro w hSw; (try dsimp only at hSw); go_simp; try with_reducible rfl)
        try simp only [Act.put, List.getElem_toArray, List.getElem_cons_succ, List.getElem_cons_zero, List.setIfInBounds_toArray, List.set_cons_zero, List.set_cons_succ]
        refine wpAnyU_tail rfl (by kernel_rfl) ?_
        simp only [List.drop_succ_cons, List.drop_zero]
        go_wp2_with fail
        go_wp2_with fail
        refine NoPanic.normal ?_
        have hcI' : u1.drew.cell? ⟨g, I, none⟩ = some (.int .u8 y) := hcI
        have hzI' : u1.drew.frozen? ⟨g, I, none⟩ = false := hzI
        clear c0 q1 q2 hcut
        have HCs : Hid (Cells (u1.drew.setCell ⟨g, I, none⟩ (.int .u8 x)) g 5 M (fun j => .int .u8 (gI ((sldL 7 l).set I x) j))) := Lib.hid ((hCd.out.set I (.int .u8 x)).congr fun j _ => by
          unfold upd
          dsimp only
          rw [gI_set _ _ _ _ (by rw [sldL_len]; omega)]
          by_cases e : j = I
          · rw [if_pos e, if_pos e]
          · rw [if_neg e, if_neg e])
        have HBs : Hid (Below w.heap.size w (u1.drew.setCell ⟨g, I, none⟩ (.int .u8 x))) := Lib.hid (HBu.out.drew.setCell (by have := HG0.out; omega) _)
        have HRf := Lib.hid (right_any _ _ _ _ _ false _ (BAt8.of_cells8 HCs.out (by rw [List.length_set, sldL_len]; omega) (by unfold maxLen; omega) H8t.out) HRn.out)
        have HLv := Lib.hid (lives_on HBs.out)
        go_wp2_with fail
        refine HRf.out.mono ?_
        rintro x9 u9 ⟨rfl, rfl⟩
        go_wp2_with fail
        refine HLv.out.mono ?_
        rintro x9 u9 ⟨rfl, hb9⟩
        go_wp2_with fail
        go_ret
        exact ⟨rfl, hb9⟩
      | error e =>
        obtain ⟨e, f⟩ := e
        have K4 := Lib.hid (parse_no _ B m cb l w3 (HB.out.below HB3.out) (Or.inl (by omega)) e f hR)
        clear hR
        go_wp2_with fail
        refine K4.out.mono ?_
        rintro x8 w4 ⟨k4, rfl, hfa, hb4⟩
        have HB5 := Lib.hid (HB3.out.trans (hb4.mono HB3.out.size))
        have qx : ∀ u, (binOp .eql 26 (.iface 54 (.pointer (some ⟨k4, 0, none⟩))) .nilIface).run Try.prog u = .ok (.bool false) u := fun _ => rfl
        clear hfa hb4 K4
        have HWr := Lib.hid (HSe.out w4 HB5.out)
        go_wp2_with fail
        refine HWr.out.mono ?_
        rintro x u1 ⟨g, rfl, hgl, hC, hb⟩
        have HC := Lib.hid hC
        have HBu := Lib.hid (HB5.out.trans (hb.mono HB5.out.size))
        have hglt := hC.lt
        have c0 := hC.cell 0 (by omega)
        rw [h70.out] at c0
        have hS8 := BAt8.of_cells8 hC (by rw [sldL_len]; omega) (by unfold maxLen; omega) H8s.out
        obtain ⟨A', c', hcut, hB'⟩ := cut_lh hS8 1 (K : Nat) 1 K rfl rfl (by omega) (by omega)
        rw [HK1.out] at hcut hB'
        rw [HCut.out] at hB'
        have q1 := conv_of (hB'.below (Below.refl _ _).drew)
        have q2 := conv_of ((HB.out.below HBu.out).below (Below.refl _ _).drew)
        rw [HT.out] at q1 q2
        have hf' := hB'.fit
        have hm' := hB'.max
        unfold maxLen at hm'
        have HRt := Lib.hid (right_any _ _ _ _ _ true u1.drew (hS8.below (Below.refl _ _).drew) HRq.out)
        have hcI := hC.cell I hIM
        have hzI := hC.frozen I
        rw [hyI.out] at hcI
        have hCd := Lib.hid (show Cells u1.drew g 5 M (fun j => .int .u8 (gI (sldL 7 l) j)) from hC.below (Below.refl _ _).drew)
        have HG0 : Hid (w.heap.size ≤ g) := Lib.hid (Nat.le_trans HB5.out.size hgl)
        clear hb hC hS8 hB' HWr HB5 hgl
        go_wp2_with fail
        first | refine wp_region_noPanic ?_ | skip
        refine wp_region_U (n := 27) (S := (fun u => u.cell? ⟨g, 0, none⟩ = some (.int .u8 7) ∧ (convert 22 9 (.slice A' m c')).run Try.prog u = .ok (.string T) u ∧ (convert 22 9 (.slice B m cb)).run Try.prog u = .ok (.string T) u)) (by kernel_rfl) (by kernel_rfl) ⟨c0, q1, q2⟩ (fun hHeld => ?_)
        refine wpAnyU_take (i := 0) (v := ?v27) rfl (by kernel_rfl) (by kernel_rfl) (by kernel_rfl) (by kernel_rfl) (fun _ _ _ h => h) (Or.inl ⟨by rfl, ?hy27⟩) (by assumption) ?rest27
        case hy27 => (intro w hSw; (try dsimp only at hSw); go_simp; try with_reducible rfl)
        try simp only [Act.put, List.getElem_toArray, List.getElem_cons_succ, List.getElem_cons_zero, List.setIfInBounds_toArray, List.set_cons_zero, List.set_cons_succ]
        refine wpAnyU_ready (i := 1) (by kernel_rfl) (by kernel_rfl) rfl (fun K hK => ?_)
        go_simp
        refine (HRt.out).mono ?_
        rintro e w' ⟨rfl, rfl⟩
        go_wp2_with fail
        refine hK.out _ _ (⟨c0, q1, q2⟩) (fun hHeld => ?_)
        clear hK K
        try simp only [Act.put, List.getElem_toArray, List.getElem_cons_succ, List.getElem_cons_zero, List.setIfInBounds_toArray, List.set_cons_zero, List.set_cons_succ]
        refine wpAnyU_take (i := 2) (v := ?v28) rfl (by kernel_rfl) (by kernel_rfl) (by kernel_rfl) (by kernel_rfl) (fun _ _ _ h => h) (Or.inl ⟨by rfl, ?hy28⟩) (by assumption) ?rest28
        case hy28 => (intro w hSw; (try dsimp only at hSw); go_simp; try with_reducible rfl)
        try simp only [Act.put, List.getElem_toArray, List.getElem_cons_succ, List.getElem_cons_zero, List.setIfInBounds_toArray, List.set_cons_zero, List.set_cons_succ]
        refine wpAnyU_take (i := 3) (v := ?v29) rfl (by kernel_rfl) (by kernel_rfl) (by kernel_rfl) (by kernel_rfl) (fun _ _ _ h => h) (Or.inl ⟨by rfl, ?hy29⟩) (by assumption) ?rest29
        case hy29 => (intro w hSw; (try dsimp only at hSw); go_simp; try with_reducible rfl)
        try simp only [Act.put, List.getElem_toArray, List.getElem_cons_succ, List.getElem_cons_zero, List.setIfInBounds_toArray, List.set_cons_zero, List.set_cons_succ]
        refine wpAnyU_take (i := 4) (v := ?v30) rfl (by kernel_rfl) (by kernel_rfl) (by kernel_rfl) (by kernel_rfl) (fun _ _ _ h => h) (Or.inl ⟨by rfl, ?hy30⟩) (by assumption) ?rest30
        case hy30 => (intro w hSw; (try dsimp only at hSw); go_simp; try with_reducible rfl)
        try simp only [Act.put, List.getElem_toArray, List.getElem_cons_succ, List.getElem_cons_zero, List.setIfInBounds_toArray, List.set_cons_zero, List.set_cons_succ]
        refine wpAnyU_take (i := 5) (v := ?v31) rfl (by kernel_rfl) (by kernel_rfl) (by kernel_rfl) (by kernel_rfl) (fun _ _ _ h => h) (Or.inl ⟨by rfl, ?hy31⟩) (by assumption) ?rest31
        case hy31 => (intro w hSw; (try dsimp only at hSw); go_simp; try with_reducible rfl)
        try simp only [Act.put, List.getElem_toArray, List.getElem_cons_succ, List.getElem_cons_zero, List.setIfInBounds_toArray, List.set_cons_zero, List.set_cons_succ]
        refine wpAnyU_take (i := 6) (v := ?v32) rfl (by kernel_rfl) (by kernel_rfl) (by kernel_rfl) (by kernel_rfl) (fun _ _ _ h => h) (Or.inl ⟨by rfl, ?hy32⟩) (by assumption) ?rest32
        case hy32 => (intro w hSw; (try dsimp only at hSw); go_simp; try with_reducible rfl)
        try simp only [Act.put, List.getElem_toArray, List.getElem_cons_succ, List.getElem_cons_zero, List.setIfInBounds_toArray, List.set_cons_zero, List.set_cons_succ]
        refine wpAnyU_take (i := 7) (v := ?v33) rfl (by kernel_rfl) (by kernel_rfl) (by kernel_rfl) (by kernel_rfl) (fun _ _ _ h => h) (Or.inl ⟨by rfl, ?hy33⟩) (by assumption) ?rest33
        case hy33 => (intro w hSw; (try dsimp only at hSw); go_simp; try with_reducible rfl)
        try simp only [Act.put, List.getElem_toArray, List.getElem_cons_succ, List.getElem_cons_zero, List.setIfInBounds_toArray, List.set_cons_zero, List.set_cons_succ]
        refine wpAnyU_take (i := 8) (v := ?v34) rfl (by kernel_rfl) (by kernel_rfl) (by kernel_rfl) (by kernel_rfl) (fun _ _ _ h => h) (Or.inl ⟨by rfl, ?hy34⟩) (by assumption) ?rest34
        case hy34 => (intro w hSw; (try dsimp only at hSw); go_simp; try with_reducible rfl)
        try simp only [Act.put, List.getElem_toArray, List.getElem_cons_succ, List.getElem_cons_zero, List.setIfInBounds_toArray, List.set_cons_zero, List.set_cons_succ]
        refine wpAnyU_take (i := 9) (v := ?v35) rfl (by kernel_rfl) (by kernel_rfl) (by kernel_rfl) (by kernel_rfl) (fun _ _ _ h => h) (Or.inl ⟨by rfl, ?hy35⟩) (by assumption) ?rest35
        case hy35 => (intro w hSw; (try dsimp only at hSw); go_simp; try with_reducible rfl)
        try simp only [Act.put, List.getElem_toArray, List.getElem_cons_succ, List.getElem_cons_zero, List.setIfInBounds_toArray, List.set_cons_zero, List.set_cons_succ]
        refine wpAnyU_take (i := 10) (v := ?v36) rfl (by kernel_rfl) (by kernel_rfl) (by kernel_rfl) (by kernel_rfl) (fun _ _ _ h => h) (Or.inl ⟨by rfl, ?hy36⟩) (by assumption) ?rest36
        case hy36 => (intro w hSw; (try dsimp only at hSw); go_simp; try with_reducible rfl)
        try simp only [Act.put, List.getElem_toArray, List.getElem_cons_succ, List.getElem_cons_zero, List.setIfInBounds_toArray, List.set_cons_zero, List.set_cons_succ]
        refine wpAnyU_take (i := 11) (v := ?v37) rfl (by kernel_rfl) (by kernel_rfl) (by kernel_rfl) (by kernel_rfl) (fun _ _ _ h => h) (Or.inl ⟨by rfl, ?hy37⟩) (by assumption) ?rest37
        case hy37 => (intro w hSw; (try dsimp only at hSw); go_simp; try with_reducible rfl)
        try simp only [Act.put, List.getElem_toArray, List.getElem_cons_succ, List.getElem_cons_zero, List.setIfInBounds_toArray, List.set_cons_zero, List.set_cons_succ]
        refine wpAnyU_take (i := 12) (v := ?v38) rfl (by kernel_rfl) (by kernel_rfl) (by kernel_rfl) (by kernel_rfl) (fun _ _ _ h => h) (Or.inl ⟨by rfl, ?hy38⟩) (by assumption) ?rest38
        case hy38 => (intro w hSw; (try dsimp only at hSw); go_simp; try with_reducible rfl)
        try simp only [Act.put, List.getElem_toArray, List.getElem_cons_succ, List.getElem_cons_zero, List.setIfInBounds_toArray, List.set_cons_zero, List.set_cons_succ]
        refine wpAnyU_take (i := 13) (v := ?v39) rfl (by kernel_rfl) (by kernel_rfl) (by kernel_rfl) (by kernel_rfl) (fun _ _ _ h => h) (Or.inl ⟨by rfl, ?hy39⟩) (by assumption) ?rest39
        case hy39 => (intro w hSw; (try dsimp only at hSw); go_simp; try with_reducible rfl)
        try simp only [Act.put, List.getElem_toArray, List.getElem_cons_succ, List.getElem_cons_zero, List.setIfInBounds_toArray, List.set_cons_zero, List.set_cons_succ]
        refine wpAnyU_take (i := 14) (v := ?v40) rfl (by kernel_rfl) (by kernel_rfl) (by kernel_rfl) (by kernel_rfl) (fun _ _ _ h => h) (Or.inl ⟨by rfl, ?hy40⟩) (by assumption) ?rest40
        case hy40 => (intro w hSw; (try dsimp only at hSw); go_simp; try with_reducible rfl)
        try simp only [Act.put, List.getElem_toArray, List.getElem_cons_succ, List.getElem_cons_zero, List.setIfInBounds_toArray, List.set_cons_zero, List.set_cons_succ]
        refine wpAnyU_take (i := 15) (v := ?v41) rfl (by kernel_rfl) (by kernel_rfl) (by kernel_rfl) (by kernel_rfl) (fun _ _ _ h => h) (Or.inl ⟨by rfl, ?hy41⟩) (by assumption) ?rest41
        case hy41 => (intro w hSw; (try dsimp only at hSw); go_simp; try with_reducible rfl)
        try simp only [Act.put, List.getElem_toArray, List.getElem_cons_succ, List.getElem_cons_zero, List.setIfInBounds_toArray, List.set_cons_zero, List.set_cons_succ]
        refine wpAnyU_take (i := 16) (v := ?v42) rfl (by kernel_rfl) (by kernel_rfl) (by kernel_rfl) (by kernel_rfl) (fun _ _ _ h => h) (Or.inl ⟨by rfl, ?hy42⟩) (by assumption) ?rest42
        case hy42 => (intro w hSw; (try dsimp only at hSw); go_simp; try with_reducible rfl)
        try simp only [Act.put, List.getElem_toArray, List.getElem_cons_succ, List.getElem_cons_zero, List.setIfInBounds_toArray, List.set_cons_zero, List.set_cons_succ]
        refine wpAnyU_take (i := 17) (v := ?v43) rfl (by kernel_rfl) (by kernel_rfl) (by kernel_rfl) (by kernel_rfl) (fun _ _ _ h => h) (Or.inl ⟨by rfl, ?hy43⟩) (by assumption) ?rest43
        case hy43 => (intro w hSw; (try dsimp only at hSw); go_simp; try with_reducible rfl)
        try simp only [Act.put, List.getElem_toArray, List.getElem_cons_succ, List.getElem_cons_zero, List.setIfInBounds_toArray, List.set_cons_zero, List.set_cons_succ]
        refine wpAnyU_take (i := 18) (v := ?v44) rfl (by kernel_rfl) (by kernel_rfl) (by kernel_rfl) (by kernel_rfl) (fun _ _ _ h => h) (Or.inl ⟨by rfl, ?hy44⟩) (by assumption) ?rest44
        case hy44 => (intro w hSw; (try dsimp only at hSw); go_simp; try with_reducible rfl)
        try simp only [Act.put, List.getElem_toArray, List.getElem_cons_succ, List.getElem_cons_zero, List.setIfInBounds_toArray, List.set_cons_zero, List.set_cons_succ]
        refine wpAnyU_take (i := 19) (v := ?v45) rfl (by kernel_rfl) (by kernel_rfl) (by kernel_rfl) (by kernel_rfl) (fun _ _ _ h => h) (Or.inl ⟨by rfl, ?hy45⟩) (by assumption) ?rest45
        case hy45 => (intro w hSw; (try dsimp only at hSw); go_simp; try with_reducible rfl)
        try simp only [Act.put, List.getElem_toArray, List.getElem_cons_succ, List.getElem_cons_zero, List.setIfInBounds_toArray, List.set_cons_zero, List.set_cons_succ]
        refine wpAnyU_take (i := 20) (v := ?v46) rfl (by kernel_rfl) (by kernel_rfl) (by kernel_rfl) (by kernel_rfl) (fun _ _ _ h => h) (Or.inl ⟨by rfl, ?hy46⟩) (by assumption) ?rest46
        case hy46 => (intro w hSw; (try dsimp only at hSw); go_simp; try with_reducible rfl)
        try simp only [Act.put, List.getElem_toArray, List.getElem_cons_succ, List.getElem_cons_zero, List.setIfInBounds_toArray, List.set_cons_zero, List.set_cons_succ]
        refine wpAnyU_take (i := 21) (v := ?v47) rfl (by kernel_rfl) (by kernel_rfl) (by kernel_rfl) (by kernel_rfl) (fun _ _ _ h => h) (Or.inl ⟨by rfl, ?hy47⟩) (by assumption) ?rest47
        case hy47 => (intro w hSw; (try dsimp only at hSw); go_simp; try with_reducible rfl)
        try simp only [Act.put, List.getElem_toArray, List.getElem_cons_succ, List.getElem_cons_zero, List.setIfInBounds_toArray, List.set_cons_zero, List.set_cons_succ]
        refine wpAnyU_take (i := 22) (v := ?v48) rfl (by kernel_rfl) (by kernel_rfl) (by kernel_rfl) (by kernel_rfl) (fun _ _ _ h => h) (Or.inl ⟨by rfl, ?hy48⟩) (by assumption) ?rest48
        case hy48 => (intro w hSw; (try dsimp only at hSw); go_simp; try with_reducible rfl)
        try simp only [Act.put, List.getElem_toArray, List.getElem_cons_succ, List.getElem_cons_zero, List.setIfInBounds_toArray, List.set_cons_zero, List.set_cons_succ]
        refine wpAnyU_take (i := 23) (v := ?v49) rfl (by kernel_rfl) (by kernel_rfl) (by kernel_rfl) (by kernel_rfl) (fun _ _ _ h => h) (Or.inl ⟨by rfl, ?hy49⟩) (by assumption) ?rest49
        case hy49 => (intro w hSw; (try dsimp only at hSw); go_simp; try with_reducible rfl)
        try simp only [Act.put, List.getElem_toArray, List.getElem_cons_succ, List.getElem_cons_zero, List.setIfInBounds_toArray, List.set_cons_zero, List.set_cons_succ]
        refine wpAnyU_take (i := 24) (v := ?v50) rfl (by kernel_rfl) (by kernel_rfl) (by kernel_rfl) (by kernel_rfl) (fun _ _ _ h => h) (Or.inl ⟨by rfl, ?hy50⟩) (by assumption) ?rest50
        case hy50 => (intro w hSw; (try dsimp only at hSw); go_simp; try with_reducible rfl)
        try simp only [Act.put, List.getElem_toArray, List.getElem_cons_succ, List.getElem_cons_zero, List.setIfInBounds_toArray, List.set_cons_zero, List.set_cons_succ]
        refine wpAnyU_take (i := 25) (v := ?v51) rfl (by kernel_rfl) (by kernel_rfl) (by kernel_rfl) (by kernel_rfl) (fun _ _ _ h => h) (Or.inl ⟨by rfl, ?hy51⟩) (by assumption) ?rest51
        case hy51 => (intro w hSw; (try dsimp only at hSw); go_simp; try with_reducible rfl)
        try simp only [Act.put, List.getElem_toArray, List.getElem_cons_succ, List.getElem_cons_zero, List.setIfInBounds_toArray, List.set_cons_zero, List.set_cons_succ]
        refine wpAnyU_take (i := 26) (v := ?v52) rfl (by kernel_rfl) (by kernel_rfl) (by kernel_rfl) (by kernel_rfl) (fun _ _ _ h => h) (Or.inl ⟨by rfl, ?hy52⟩) (by assumption) ?rest52
        case hy52 => (intro w hSw; (try dsimp only at hSw); go_simp; try with_reducible rfl)
        try simp only [Act.put, List.getElem_toArray, List.getElem_cons_succ, List.getElem_cons_zero, List.setIfInBounds_toArray, List.set_cons_zero, List.set_cons_succ]
        refine wpAnyU_tail rfl (by kernel_rfl) ?_
        simp only [List.drop_succ_cons, List.drop_zero]
        go_wp2_with fail
        go_wp2_with fail
        refine NoPanic.normal ?_
        have hcI' : u1.drew.cell? ⟨g, I, none⟩ = some (.int .u8 y) := hcI
        have hzI' : u1.drew.frozen? ⟨g, I, none⟩ = false := hzI
        clear c0 q1 q2 hcut
        have HCs : Hid (Cells (u1.drew.setCell ⟨g, I, none⟩ (.int .u8 x)) g 5 M (fun j => .int .u8 (gI ((sldL 7 l).set I x) j))) := Lib.hid ((hCd.out.set I (.int .u8 x)).congr fun j _ => by
          unfold upd
          dsimp only
          rw [gI_set _ _ _ _ (by rw [sldL_len]; omega)]
          by_cases e : j = I
          · rw [if_pos e, if_pos e]
          · rw [if_neg e, if_neg e])
        have HBs : Hid (Below w.heap.size w (u1.drew.setCell ⟨g, I, none⟩ (.int .u8 x))) := Lib.hid (HBu.out.drew.setCell (by have := HG0.out; omega) _)
        have HRf := Lib.hid (right_any _ _ _ _ _ false _ (BAt8.of_cells8 HCs.out (by rw [List.length_set, sldL_len]; omega) (by unfold maxLen; omega) H8t.out) HRn.out)
        have HLv := Lib.hid (lives_on HBs.out)
        go_wp2_with fail
        refine HRf.out.mono ?_
        rintro x9 u9 ⟨rfl, rfl⟩
        go_wp2_with fail
        refine HLv.out.mono ?_
        rintro x9 u9 ⟨rfl, hb9⟩
        go_wp2_with fail
        go_ret
        exact ⟨rfl, hb9⟩

end Go.Proofs.Ytcodbcfdbkmegaa
