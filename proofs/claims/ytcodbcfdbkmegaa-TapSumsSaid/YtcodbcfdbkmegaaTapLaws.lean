/- TapSums and TapReads walked. -/
import Derived.Test.YtcodbcfdbkmegaaTapLives
namespace Go.Proofs.Ytcodbcfdbkmegaa
open Go.RowKit
set_option linter.unusedVariables false
set_option linter.unusedSimpArgs false

theorem lives_on {w w1 : World} (h : Below w.heap.size w w1) : Calls Try.prog 7 #[] w1 fun e w' => e = .returned (.bool true) ∧ Below w.heap.size w w' := by
  refine (lives18 w1).mono ?_
  rintro e w' ⟨rfl, hb⟩
  exact ⟨rfl, h.trans (hb.mono h.size)⟩
theorem sums_walk (v : Value) (l : List Int) (w : World) (h : BytesV w v l) : Calls Try.prog 5 #[v] w fun e w' => e = .returned (.bool true) ∧ Below w.heap.size w w' := by
  obtain ⟨A, n, cap, rfl, hB⟩ := h
  have hlen := hB.len
  have hf := hB.fit
  have hm := hB.max
  unfold maxLen at hm
  by_cases hbig : 20000 < n
  · have d : decide (20000 < (n : Int)) = true := decide_eq_true (by omega)
    have d' : decide (20000 < n) = true := decide_eq_true hbig
    clear hB
    go_enter Try.func5, Try.ntmps5
    go_wp2_with fail
    refine (lives18 _).mono ?_
    rintro e w1 ⟨rfl, hb⟩
    go_wp2_with fail
    go_ret
    exact ⟨rfl, hb⟩
  have d : decide (20000 < (n : Int)) = false := decide_eq_false (by omega)
  have d' : decide (20000 < n) = false := decide_eq_false hbig
  obtain ⟨V, hV⟩ : ∃ V, sumX l = V := ⟨_, rfl⟩
  have H1 := Lib.hid (rsum_any _ A n cap l V w hB hV)
  have H2 := Lib.hid (fun (u : World) (hu : Below w.heap.size w u) => sum_any _ A n cap l V u (hB.below hu) hV)
  have hVb := sumX_bd l
  rw [hV] at hVb
  obtain ⟨v0, v1⟩ := hVb
  obtain ⟨q1, h1⟩ : ∃ q, decide (0 < n) = q := ⟨_, rfl⟩
  obtain ⟨q2, h2⟩ : ∃ q, (V == 0) = q := ⟨_, rfl⟩
  have H3 := Lib.hid (fun (u : World) (hu : Below w.heap.size w u) => right_any _ A n cap l (q1 && q2) u (hB.below hu) (by rw [hlen, hV, h1, h2]))
  have h1' : decide ((0 : Int) < (n : Int)) = q1 := by rw [← h1]; exact decide_eq_decide.2 (by omega)
  clear hB hV hbig
  cases q1 <;> cases q2
  all_goals
    go_enter Try.func5, Try.ntmps5
    go_wp2_with fail
    refine H1.out.mono ?_
    rintro e w1 ⟨rfl, hb⟩
    have HK2 := Lib.hid (H2.out w1 hb)
    have HK3 := Lib.hid (H3.out w1 hb)
    have HL := Lib.hid (lives_on hb)
    clear hb
    go_wp2_with fail
    refine (HK2.out).mono ?_
    rintro e w' ⟨rfl, rfl⟩
    go_wp2_with fail
    refine (HK3.out).mono ?_
    rintro e w' ⟨rfl, rfl⟩
    go_wp2_with fail
    refine HL.out.mono ?_
    rintro e w2 ⟨rfl, hb2⟩
    go_wp2_with fail
    go_ret
    exact ⟨rfl, hb2⟩
set_option maxHeartbeats 1600000 in
theorem reads_walk (v : Value) (l : List Int) (w : World) (h : BytesV w v l) : Calls Try.prog 3 #[v] w fun e w' => e = .returned (.bool true) ∧ Below w.heap.size w w' := by
  obtain ⟨A, n, cap, rfl, hB⟩ := h
  have hlen := hB.len
  have hf := hB.fit
  have hm := hB.max
  unfold maxLen at hm
  obtain ⟨q1, h1⟩ : ∃ q, decide (20000 < (n : Int)) = q := ⟨_, rfl⟩
  obtain ⟨q2, h2⟩ : ∃ q, decide ((n : Int) ≤ 1048576) = q := ⟨_, rfl⟩
  obtain ⟨q3, h3⟩ : ∃ q, decide (1100000 < (n : Int)) = q := ⟨_, rfl⟩
  have h1' : decide (20000 < n) = q1 := by rw [← h1]; exact decide_eq_decide.2 (by omega)
  have h2' : decide (n ≤ 1048576) = q2 := by rw [← h2]; exact decide_eq_decide.2 (by omega)
  have h3' : decide (1100000 < n) = q3 := by rw [← h3]; exact decide_eq_decide.2 (by omega)
  by_cases hbig : (20000 < n ∧ n ≤ 1048576) ∨ 1100000 < n
  · have hq : ((q1 && q2) || q3) = true := by
      rw [← h1', ← h2', ← h3']
      rcases hbig with ⟨a, b⟩ | a
      · rw [decide_eq_true a, decide_eq_true b]; rfl
      · rw [decide_eq_true a, Bool.or_true]
    clear hB hbig
    cases q1 <;> cases q2 <;> cases q3
    all_goals first
      | (cases hq; done)
      | (go_enter Try.func3, Try.ntmps3
         go_wp2_with fail
         refine (lives18 _).mono ?_
         rintro e w1 ⟨rfl, hb⟩
         go_wp2_with fail
         go_ret
         exact ⟨rfl, hb⟩)
  have hq : ((q1 && q2) || q3) = false := by
    rw [← h1', ← h2', ← h3', Bool.or_eq_false_iff, Bool.and_eq_false_iff]
    refine ⟨?_, decide_eq_false (by omega)⟩
    by_cases a : 20000 < n
    · exact Or.inr (decide_eq_false (by omega))
    · exact Or.inl (decide_eq_false a)
  have hn : n ≤ 1000000 ∨ 1048576 < n := by omega
  cases hR : parseM l with
  | ok L =>
    have H1 := Lib.hid (parse_yes _ A n cap l w hB hn L hR)
    have H2 := Lib.hid (fun (u : World) (hu : Below w.heap.size w u) => rparse_yes _ A n cap l u (hB.below hu) hn L hR)
    have q0 : ∀ u, (binOp .eql 26 .nilIface .nilIface).run Try.prog u = .ok (.bool true) u := fun _ => rfl
    clear hB hR hbig hn
    cases q1 <;> cases q2 <;> cases q3
    all_goals first
      | (cases hq; done)
      | (go_enter Try.func3, Try.ntmps3
         go_wp2_with fail
         refine H1.out.mono ?_
         rintro e w1 ⟨A1, n1, c1, rfl, hp1, hb1⟩
         have HK2 := Lib.hid (H2.out w1 hb1)
         have HP1 := Lib.hid hp1
         have HB1 := Lib.hid hb1
         have hf1 := hp1.fit
         have hm1 := hp1.max
         unfold maxLen at hm1
         clear hp1 hb1 H1 H2
         go_wp2_with fail
         refine HK2.out.mono ?_
         rintro e w2 ⟨A2, n2, c2, rfl, hp2, hb2⟩
         obtain rfl : n1 = n2 := HP1.out.len.symm.trans hp2.len
         have HS := Lib.hid (same_yes _ _ A1 A2 n1 c1 c2 L w2 (HP1.out.below hb2) hp2)
         have HB2 := Lib.hid (HB1.out.trans (hb2.mono HB1.out.size))
         have hf2 := hp2.fit
         have hm2 := hp2.max
         unfold maxLen at hm2
         clear hp2 hb2 HK2
         go_wp2_with fail
         refine HS.out.mono ?_
         rintro e w3 ⟨rfl, k, rfl⟩
         have HL := Lib.hid (lives_on (bdrawn HB2.out k))
         go_wp2_with fail
         refine HL.out.mono ?_
         rintro e w4 ⟨rfl, hb4⟩
         go_wp2_with fail
         go_ret
         exact ⟨rfl, hb4⟩)
  | error x =>
    obtain ⟨e, f⟩ := x
    have he := parseM_er hR
    have H1 := Lib.hid (parse_no _ A n cap l w hB hn e f hR)
    have H2 := Lib.hid (fun (u : World) (hu : Below w.heap.size w u) => rparse_no _ A n cap l u (hB.below hu) hn e f hR)
    have e0 : (e == 0) = false := by rw [beq_eq_false_iff_ne]; exact he.1
    clear hB hR hbig hn he
    cases q1 <;> cases q2 <;> cases q3
    all_goals first
      | (cases hq; done)
      | (go_enter Try.func3, Try.ntmps3
         go_wp2_with fail
         refine H1.out.mono ?_
         rintro x w1 ⟨k, rfl, hfa, hb1⟩
         have HK2 := Lib.hid (H2.out w1 hb1)
         have HFA := Lib.hid hfa
         have HB1 := Lib.hid hb1
         clear hfa hb1 H1 H2
         go_wp2_with fail
         refine HK2.out.mono ?_
         rintro x w2 ⟨rfl, hb2⟩
         have HY := Lib.hid (why_any w2 k e (f : Nat) (HFA.out.below hb2))
         have HB2 := Lib.hid (HB1.out.trans (hb2.mono HB1.out.size))
         clear hb2 HK2
         go_wp2_with fail
         refine HY.out.mono ?_
         rintro x w3 ⟨rfl, j, rfl⟩
         have HL := Lib.hid (lives_on (bdrawn HB2.out j))
         go_wp2_with fail
         refine HL.out.mono ?_
         rintro x w4 ⟨rfl, hb4⟩
         go_wp2_with fail
         go_ret
         exact ⟨rfl, hb4⟩)

end Go.Proofs.Ytcodbcfdbkmegaa
