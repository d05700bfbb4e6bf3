/- MicroTimes, MicroReads, lives: their walks. -/
import Derived.Test.YthmkfojjlcinkaaDoorMicroP
import Derived.Test.YthmkfojjlcinkaaDoorMicroTime
import Derived.Test.YthmkfojjlcinkaaDoorMicroDoc
namespace Go.Proofs.YthmkfojjlcinkaaDoor
open Go.RowKit

theorem own_nil (w : World) : Own w (.slice none 0 0) [] 0 w.heap.size := ⟨World.ownsRow_nil w _ _ _, Nat.le_refl _, Nat.le_refl _⟩
theorem prog_new (set ix : Int) (c : Nat) (w : World) (hc : c < 256) (hM : Modes w) : Calls Tryd.prog 6 #[.slice none 0 0, .int .i64 set, .int .i64 ix, .int .u8 c] w fun e w' => ∃ v, e = .returned v ∧ Steps w' v (progS [] set ix c) ∧ Below w.heap.size w w' :=
  (program_is w.heap.size _ [] 0 w (own_nil w) (by decide) set ix c hc hM).mono fun e w' ⟨v, he, hO, hP⟩ => ⟨v, he, hO.steps, hP.new⟩

theorem ok_at {set ix : Int} (h : (List.range 256).all (fun c => okT set ix c) = true) (c : Nat) (hc : c < 256) :
    timeS true (progS [] set ix c) = timeT set (decide (ix = 1) || decide (ix = 2)) c true ∧ timeS false (progS [] set ix c) = timeT set (decide (ix = 1) || decide (ix = 2)) c false ∧ shortS (progS [] set ix c) = true := by
  have := List.all_eq_true.1 h c (List.mem_range.2 hc)
  unfold okT at this
  simp only [Bool.and_eq_true, decide_eq_true_eq] at this
  exact ⟨this.1.1, this.1.2, this.2⟩
theorem prog_ok (set ix : Int) (c : Nat) (hc : c < 256) (b : Bool) (hb : (decide (ix = 1) || decide (ix = 2)) = b) :
    timeS true (progS [] set ix c) = timeT set b c true ∧ timeS false (progS [] set ix c) = timeT set b c false ∧ shortS (progS [] set ix c) = true := by
  by_cases n0 : set = 0
  · subst n0
    cases b with
    | true =>
      have e : progS [] 0 ix c = progS [] 0 1 c := by
        unfold progS
        rw [if_pos rfl, if_pos rfl, hb]; rfl
      rw [e]
      exact ok_at ok01 c hc
    | false =>
      have e : progS [] 0 ix c = progS [] 0 0 c := by
        unfold progS
        rw [if_pos rfl, if_pos rfl, hb]; rfl
      rw [e]
      exact ok_at ok00 c hc
  by_cases n1 : set = 1
  · subst n1; exact ok_at ok10 c hc
  by_cases n2 : set = 2
  · subst n2; exact ok_at ok20 c hc
  by_cases n3 : set = 3
  · subst n3; exact ok_at ok30 c hc
  · have e : progS [] set ix c = [] := by unfold progS; simp only [if_neg n0, if_neg n1, if_neg n2, if_neg n3]
    have t : ∀ m, timeT set b c m = 0 := fun m => by unfold timeT; simp only [if_neg n0, if_neg n1, if_neg n2, if_neg n3]
    rw [e, t, t]
    exact ⟨rfl, rfl, rfl⟩
theorem fet_ok (ix : Int) (c : Nat) (hc : c < 256) (h0 : 0 ≤ ix) (h2 : ix ≤ 2) : fetS (progS [] 0 ix c) = (argC c : Int) + (if 0 < ix ∧ memC c = true then 1 else 0) := by
  have e : ix = 0 ∨ ix = 1 ∨ ix = 2 := by omega
  clear h0 h2
  rcases e with rfl | rfl | rfl
  · have := List.all_eq_true.1 okF0 c (List.mem_range.2 hc)
    exact of_decide_eq_true this
  · have := List.all_eq_true.1 okF1 c (List.mem_range.2 hc)
    exact of_decide_eq_true this
  · have := List.all_eq_true.1 okF1 c (List.mem_range.2 hc)
    have := of_decide_eq_true this
    rw [show progS [] 0 2 c = progS [] 0 1 c from rfl, this]
    simp

set_option maxRecDepth 100000 in
set_option maxHeartbeats 1600000 in
theorem lives8 (w : World) (hM : Modes w) : Calls Tryd.prog 9 #[] w fun e w' => e = .returned (.bool true) ∧ Below w.heap.size w w' := by
  obtain ⟨L, hL⟩ : ∃ L, progS [] 0 0 198 = L := ⟨_, rfl⟩
  have HT := Lib.hid (show timeS true L = 3 by rw [← hL]; decide +kernel)
  have HF := Lib.hid (show fetS L = 1 by rw [← hL]; decide +kernel)
  have HS := Lib.hid (show shortS L = true by rw [← hL]; decide +kernel)
  have HP := Lib.hid (show Calls Tryd.prog 6 #[.slice none 0 0, .int .i64 0, .int .i64 0, .int .u8 198] w fun e w' => ∃ v, e = .returned v ∧ Steps w' v L ∧ Below w.heap.size w w' from hL ▸ prog_new 0 0 198 w (by decide) hM)
  clear hL hM
  go_enter Tryd.func9, Tryd.ntmps9
  go_wp2_with fail
  refine HP.out.mono ?_
  rintro e w1 ⟨v, rfl, hS, hb1⟩
  go_wp2_with fail
  refine (timeIs true _ _ _ _ hS HS.out HT.out).mono ?_
  rintro e w2 ⟨rfl, hb2⟩
  go_wp2_with fail
  refine (fetchesIs _ _ _ _ (hS.below hb2) HS.out HF.out).mono ?_
  rintro e w3 ⟨rfl, hb3⟩
  go_wp2_with fail
  go_ret
  exact ⟨rfl, below_step (below_step hb1 hb2) hb3⟩

set_option maxRecDepth 100000 in
set_option maxHeartbeats 1600000 in
theorem times_at (set ix : Int) (c : Nat) (w : World) (hc : c < 256) (hM : Modes w) (b : Bool) (f : (ix == 1) = true ∧ b = true ∨ (ix == 1) = false ∧ (ix == 2) = b) : Calls Tryd.prog 3 #[.int .i64 set, .int .i64 ix, .int .u8 c] w fun e w' => e = .returned (.bool true) ∧ Below w.heap.size w w' := by
  have hb : (decide (ix = 1) || decide (ix = 2)) = b := by
    rcases f with ⟨f1, rfl⟩ | ⟨f1, rfl⟩
    · simp at f1; simp [f1]
    · simp at f1; rw [Bool.eq_iff_iff]; simp [f1]
  obtain ⟨t1, t2, hs⟩ := prog_ok set ix c hc b hb
  have HP := Lib.hid (prog_new set ix c w hc hM)
  obtain ⟨L, hL⟩ : ∃ L, progS [] set ix c = L := ⟨_, rfl⟩
  rw [hL] at t1 t2 hs HP
  obtain ⟨r1, hr1⟩ : ∃ r, timeT set b c true = r := ⟨_, rfl⟩
  obtain ⟨r2, hr2⟩ : ∃ r, timeT set b c false = r := ⟨_, rfl⟩
  rw [hr1] at t1
  rw [hr2] at t2
  have H1 := Lib.hid t1
  have H2 := Lib.hid t2
  have HS := Lib.hid hs
  have D1 := Lib.hid hr1
  have D2 := Lib.hid hr2
  have HM := Lib.hid hM
  clear t1 t2 hs hr1 hr2 hL hM hb
  rcases f with ⟨f1, rfl⟩ | ⟨f1, f2⟩
  all_goals
    go_enter Tryd.func3, Tryd.ntmps3
    go_wp2_with fail
    refine HP.out.mono ?_
    rintro e w1 ⟨v, rfl, hS, hb1⟩
    go_wp2_with fail
    refine (timeIs true _ _ _ _ hS HS.out H1.out).mono ?_
    rintro e w2 ⟨rfl, hb2⟩
    go_wp2_with fail
    refine (docTime _ _ true _ c _ hc D1.out).mono ?_
    rintro e w3 ⟨rfl, hb3⟩
    go_wp2_with fail
    refine (timeIs false _ _ _ _ ((hS.below hb2).below hb3) HS.out H2.out).mono ?_
    rintro e w4 ⟨rfl, hb4⟩
    go_wp2_with fail
    refine (docTime _ _ false _ c _ hc D2.out).mono ?_
    rintro e w5 ⟨rfl, hb5⟩
    go_wp2_with fail
    refine (lives8 _ ((((HM.out.below hb1).below hb2).below hb3).below hb4 |>.below hb5)).mono ?_
    rintro e w6 ⟨rfl, hb6⟩
    go_wp2_with fail
    go_ret
    exact ⟨rfl, below_step (below_step (below_step (below_step (below_step hb1 hb2) hb3) hb4) hb5) hb6⟩
theorem u8_nat {a : Int} (h : (Lit.int .u8 a).wf = true) : ∃ c : Nat, a = (c : Int) ∧ c < 256 := by
  obtain ⟨h0, h1⟩ := u8_bd h
  exact ⟨a.toNat, by omega, by omega⟩
theorem times_walk (set ix a : Int) (_ : (Lit.int .i64 set).wf = true) (_ : (Lit.int .i64 ix).wf = true) (h : (Lit.int .u8 a).wf = true) (w : World) (hM : Modes w) : Calls Tryd.prog 3 #[.int .i64 set, .int .i64 ix, .int .u8 a] w fun e w' => e = .returned (.bool true) ∧ Below w.heap.size w w' := by
  obtain ⟨c, rfl, hc⟩ := u8_nat h
  cases f1 : (ix == 1) with
  | true => exact times_at set ix c w hc hM true (Or.inl ⟨f1, rfl⟩)
  | false => exact times_at set ix c w hc hM (ix == 2) (Or.inr ⟨f1, rfl⟩)

end Go.Proofs.YthmkfojjlcinkaaDoor
