/- The laws of layer 14, walked: the first two. -/
import Derived.Test.YtpechajekechlaaHuffNext
import Derived.Test.YtpechajekechlaaHuffSound
import Derived.Test.YtpechajekechlaaHuffNumbers
namespace Go.Proofs.Ytpechajekechlaa
open Go.RowKit

theorem fine_of (l : List Int) (h : ∀ x ∈ l, 0 ≤ x ∧ x ≤ 15) : Fine l := fun j => by
  by_cases hj : j < l.length
  · exact h _ (List.mem_of_getElem? (gI_some l j hj))
  · rw [gI_end l j (by omega)]; omega
theorem IAt.new (w : World) (l : List Int) (ty : TypeId) (cs : Array Value) (n : Nat) (hc : cs = (l.map i64I).toArray) (hn : l.length = n) (hm : n ≤ maxLen) : IAt (fun _ => True) (w.alloc (.cells cs ty)) (some ⟨w.heap.size, 0, none⟩) n n l :=
  ⟨hn, Nat.le_refl _, hm, fun h => (by cases h), fun _ => ⟨_, 0, rfl, trivial, by simp, fun j hj => by
    have := i64I_at l j (by omega)
    rw [Nat.zero_add, cell_of_row _ w.heap.size j _ _ (0, 0) (heap_alloc_new w _), hc]
    simpa using this⟩⟩
theorem ex_ok : Lg [2, 1, 3, 3] 0 := Or.inr ⟨by decide, fine_of _ (by decide), Or.inl ⟨rfl, Or.inl (by decide +kernel)⟩⟩
theorem ex_codes : codesL [2, 1, 3, 3] 0 = [2, 0, 6, 7] := by decide +kernel
set_option maxHeartbeats 800000 in
theorem lives14 (w : World) : Calls Try.prog 7 #[] w fun e w' => e = .returned (.bool true) ∧ Below w.heap.size w w' := by
  have H := Lib.hid (codes_any _ _ _ _ 0 _ (IAt.new w [2, 1, 3, 3] 3 #[.int .i64 2, .int .i64 1, .int .i64 3, .int .i64 3] 4 rfl rfl (by unfold maxLen; omega)) ex_ok)
  go_enter Try.func7, Try.ntmps7
  go_wp2_with fail
  refine H.out.mono ?_
  rintro e w1 ⟨A, n, cap, rfl, hI, hb⟩
  rw [ex_codes] at hI
  have hl := hI.len
  have hn : n = 4 := by rw [← hl]; rfl
  subst hn
  have hB := Lib.hid ((bnew w _).trans (hb.mono (by simp)))
  obtain ⟨b, o, rfl, _, _, hc⟩ := hI.lies (by decide)
  have c0 := hc 0 (by decide)
  have c1 := hc 1 (by decide)
  have c2 := hc 2 (by decide)
  have c3 := hc 3 (by decide)
  have hf := hI.fit
  have hm := hI.max
  unfold maxLen at hm
  simp [gI] at c0 c1 c2 c3
  clear hc hI hb hl
  go_wp2_with fail
  go_ret
  exact ⟨rfl, hB.out⟩
theorem lives_on {w : World} (u : World) (hu : Below w.heap.size w u) : Calls Try.prog 7 #[] u fun e w' => e = .returned (.bool true) ∧ Below w.heap.size w w' :=
  (lives14 u).mono fun _ _ ⟨he, hb⟩ => ⟨he, hu.trans (hb.mono hu.size)⟩
theorem none_ok : Lg [] 0 := Or.inr ⟨by decide, fine_of _ (by decide), Or.inl ⟨rfl, Or.inr (Or.inl (by decide +kernel))⟩⟩
theorem none_read : readR [] [1] 0 = (0, 0, 4) := by decide +kernel
set_option maxHeartbeats 3200000 in
theorem nils_walk (n : Int) (_ : (Lit.int .i64 n).wf = true) (w : World) :
    Calls Try.prog 6 #[.int .i64 n] w fun e w' => e = .returned (.bool true) ∧ Below w.heap.size w w' := by
  have HB := Lib.hid (fun k => bdrawn (Below.refl w.heap.size w) k)
  go_enter Try.func6, Try.ntmps6
  go_wp2_with fail
  refine (align_nil _).mono ?_
  rintro e w' ⟨rfl, rfl⟩
  go_wp2_with fail
  refine (take_nil n _).mono ?_
  rintro e w1 ⟨rfl, k1, rfl⟩
  go_wp2_with fail
  refine (bytes_nil n _).mono ?_
  rintro e w2 ⟨rfl, k2, rfl⟩
  have HB1 := Lib.hid (bdrawn (HB.out k1) k2)
  generalize (w.drewN k1).drewN k2 = u at *
  have H3 := Lib.hid (read_any (fun _ => True) none 0 0 [] u (BAt8.empty _ _) (by omega))
  have H4 := Lib.hid (fun x => new_any none 0 0 [] 0 x (IAt.empty _ _) none_ok)
  go_wp2_with fail
  refine H3.out.mono ?_
  rintro e w3 ⟨g3, rfl, hg3, hb3, hB3⟩
  have HB3 := Lib.hid (HB1.out.trans (hB3.mono HB1.out.size))
  clear hb3 hg3 H3 hB3
  go_wp2_with fail
  refine (next_nilT _ _).mono ?_
  rintro e w' ⟨rfl, rfl⟩
  go_wp2_with fail
  refine (H4.out _).mono ?_
  rintro e w4 ⟨P, rfl, hB4, _, hP⟩
  obtain ⟨gt, rfl, ht⟩ := hP rfl
  have HB4 := Lib.hid (HB3.out.trans (hB4.mono HB3.out.size))
  have HT := Lib.hid ht
  clear hB4 ht hP H4
  go_wp2_with fail
  refine (next_nilR _ _).mono ?_
  rintro e w' ⟨rfl, rfl⟩
  have H5 := Lib.hid (read_any (fun _ => True) (some ⟨w4.heap.size, 0, none⟩) 1 1 [1] (w4.alloc (.cells #[.int .u8 1] 5)) (BAt8.new w4 [1] 5 (0, 0) _ 1 rfl rfl (by unfold maxLen; omega) (by decide)) (by omega))
  go_wp2_with fail
  refine H5.out.mono ?_
  rintro e w5 ⟨g5, rfl, hg5, hb5, hB5⟩
  have hB5' : Below w4.heap.size w4 w5 := (bnew w4 _).trans (hB5.mono (by simp))
  have HB5 := Lib.hid (HB4.out.trans (hB5'.mono HB4.out.size))
  have hT5 : TabAt (fun k => k < g5) w5 gt [] := (HT.out.weak (G := fun k => k < g5) fun k hk _ => by simp at hg5; omega).below hB5'
  have H6 := Lib.hid (next_any _ _ gt g5 [] [1] 0 w5 hT5 hb5 (fun k hk => by omega) (by decide) (by decide))
  rw [none_read] at H6
  clear hb5 hB5 hB5' hT5 H5
  go_wp2_with fail
  refine H6.out.mono ?_
  rintro e w6 ⟨rfl, _, hC6⟩
  have HB6 := Lib.hid (HB5.out.trans (hC6.below (B := w.heap.size) (fun k hk => by have := HB4.out.size; simp at hg5; omega) HB5.out.size))
  clear hC6 H6
  go_wp2_with fail
  refine (at_nil _).mono ?_
  rintro e w' ⟨rfl, rfl⟩
  go_wp2_with fail
  refine (lives_on w6 HB6.out).mono ?_
  rintro e w7 ⟨rfl, hB7⟩
  go_wp2_with fail
  go_ret
  exact ⟨rfl, hB7⟩
set_option maxHeartbeats 3200000 in
theorem codes_walk (v : Value) (l : List Int) (w : World) (hv : IntsV w v l) :
    Calls Try.prog 3 #[v] w fun e w' => e = .returned (.bool true) ∧ Below w.heap.size w w' := by
  obtain ⟨A, n, cap, rfl, hI⟩ := hv
  have hm := hI.max
  have hf := hI.fit
  unfold maxLen at hm
  by_cases hbig : 1000 < n
  · have d1 : decide ((1000 : Int) < (n : Int)) = true := decide_eq_true (by omega)
    clear hI
    go_enter Try.func3, Try.ntmps3
    go_wp2_with fail
    refine (lives_on w (Below.refl _ _)).mono ?_
    rintro e w1 ⟨rfl, hb⟩
    go_wp2_with fail
    go_ret
    exact ⟨rfl, hb⟩
  have d1 : decide ((1000 : Int) < (n : Int)) = false := decide_eq_false (by omega)
  obtain ⟨e, he⟩ := Lg.some l
  have H1 := Lib.hid (codes_any A n cap l e w hI he)
  have H2 := Lib.hid (fun u (hu : Below w.heap.size w u) => new_any A n cap l e u (hI.below hu) he)
  have H3 := Lib.hid (fun u (hu : Below w.heap.size w u) => sound_any A n cap l e u (hI.below hu) he)
  have H4 := Lib.hid (fun u (hu : Below w.heap.size w u) (h0 : e = 0) => numbers_any A n cap l u (hI.below hu) (by rw [← h0]; exact he))
  have hlen := hI.len
  have hcs := he.cases
  have HE := Lib.hid he
  clear hI he
  go_enter Try.func3, Try.ntmps3
  go_wp2_with fail
  refine H1.out.mono ?_
  rintro e1 w1 ⟨A1, n1, c1, rfl, hC1, hb1⟩
  have HC1 := Lib.hid hC1
  have HB1 := Lib.hid hb1
  have hl1 := hC1.len
  have hf1 := hC1.fit
  have hm1 := hC1.max
  unfold maxLen at hm1
  clear hC1 hb1 H1
  go_wp2_with fail
  refine (H2.out w1 HB1.out).mono ?_
  rintro e2 w2 ⟨P, rfl, hb2, hP1, hP2⟩
  have HB2 := Lib.hid (HB1.out.trans (hb2.mono HB1.out.size))
  have HC2 := Lib.hid (HC1.out.below hb2)
  clear hb2 H2 HC1
  go_wp2_with fail
  refine (H3.out w2 HB2.out).mono ?_
  rintro e3 w' ⟨rfl, rfl⟩
  by_cases h0 : e = 0
  · obtain ⟨gt, rfl, _⟩ := hP2 h0
    have H5 := Lib.hid (H4.out w2 HB2.out h0)
    subst h0
    clear hP1 hP2 hcs H3 H4
    unfold codesL at HC2 hl1
    rw [if_pos rfl] at HC2 hl1
    rw [lstF_len, hlen] at hl1
    subst hl1
    go_wp2_with fail
    refine H5.out.mono ?_
    rintro e5 w5 ⟨A5, n5, c5, rfl, hC5, hb5⟩
    have HC5 := Lib.hid hC5
    have HB5 := Lib.hid (HB2.out.trans (hb5.mono HB2.out.size))
    have HC3 := Lib.hid (HC2.out.below hb5)
    have hl5 := hC5.len
    have hf5 := hC5.fit
    have hm5 := hC5.max
    unfold maxLen at hm5
    unfold codesL at HC5 hl5
    rw [if_pos rfl] at HC5 hl5
    rw [lstF_len, hlen] at hl5
    subst hl5
    clear hC5 hb5 H5
    have HD := Lib.hid (fun m => bdrawn (Below.refl w5.heap.size w5) m)
    go_wp2_with fail
    go_loopw [9] (fun i wr => ∃ k : Nat, i = .int .i64 k ∧ k ≤ n ∧ Hid (Below w5.heap.size w5 wr)) (fun i _ => n - (intOf i).toNat)
    case atStart => exact ⟨0, rfl, by omega, HD.out 0⟩
    case round =>
      obtain ⟨k, rfl, hk, HW⟩ := hrel
      by_cases hlt : k < n
      · obtain ⟨b, o, rfl, _, hbl, hc⟩ := (HC3.out.below HW.out).lies (by omega)
        have c0 := hc k hlt
        obtain ⟨b', o', rfl, _, hbl', hc'⟩ := (HC5.out.below HW.out).lies (by omega)
        have c0' := hc' k hlt
        generalize gI (lstF (fun i => ((codeC (lnN l) l.length i : Nat) : Int)) l.length) k = x at c0 c0'
        have HW2 := Lib.hid (fun m => bdrawn HW.out m)
        clear hc hc'
        go_wp2_with fail
        go_quiet (fail)
        go_wp2_with fail
        go_roundw
        case rel => exact ⟨k + 1, by go_num, by omega, Lib.hid (HW2.out _)⟩
        case measure => first | (simp [intOf]; done) | (simp [intOf]; omega)
      · obtain rfl : k = n := by omega
        go_wp2_with fail
        refine (lives_on wr (HB5.out.trans (HW.out.mono HB5.out.size))).mono ?_
        rintro e6 w6 ⟨rfl, hb⟩
        go_wp2_with fail
        go_ret
        exact ⟨rfl, hb⟩
  · obtain rfl := hP1 h0
    clear hP1 hP2 H4 H3
    have hn1 : n1 = 0 := by
      unfold codesL at hl1
      rw [if_neg h0] at hl1
      simpa using hl1.symm
    subst hn1
    have he4 : e = 1 ∨ e = 4 := by omega
    clear hcs HC2 HE hl1
    rcases he4 with rfl | rfl
    all_goals
      go_wp2_with fail
      refine (lives_on w2 HB2.out).mono ?_
      rintro e6 w6 ⟨rfl, hb⟩
      go_wp2_with fail
      go_ret
      exact ⟨rfl, hb⟩

end Go.Proofs.Ytpechajekechlaa
