/- The document's Time of layer 8: its contract. -/
import Derived.Test.YthmkfojjlcinkaaDoorMicroMore
namespace Go.Proofs.YthmkfojjlcinkaaDoor
open Go.RowKit
set_option linter.unusedVariables false

theorem plainT8_bd (c : Nat) (hc : c < 256) : 4 ≤ plainT8 c ∧ plainT8 c ≤ 19 := by
  have := all256 (f := fun c => decide (4 ≤ plainT8 c) && decide (plainT8 c ≤ 19)) (by decide +kernel) c hc
  simpa using this
theorem lessT_bd (c : Nat) (hc : c < 256) : 0 ≤ lessT c ∧ lessT c ≤ 7 := by
  have := all256 (f := fun c => decide (0 ≤ lessT c) && decide (lessT c ≤ 7)) (by decide +kernel) c hc
  simpa using this
theorem moreT8_bd (c : Nat) (hc : c < 256) : 8 ≤ moreT8 c ∧ moreT8 c ≤ 21 := by
  have := all256 (f := fun c => decide (8 ≤ moreT8 c) && decide (moreT8 c ≤ 21)) (by decide +kernel) c hc
  simpa using this
theorem plain8Is (c : Nat) (r : Int) (w : World) (hc : c < 256) (h : plainT8 c = r) : Calls Tryd.prog 20 #[.int .u8 c] w fun e w' => e = .returned (.int .i64 r) ∧ Below w.heap.size w w' := by
  subst h; exact plain8 c w hc
theorem less8Is (c : Nat) (r : Int) (w : World) (hc : c < 256) (h : lessT c = r) : Calls Tryd.prog 21 #[.int .u8 c] w fun e w' => e = .returned (.int .i64 r) ∧ w = w' := by
  subst h; exact less8 c w hc
theorem more8Is (c : Nat) (r : Int) (w : World) (hc : c < 256) (h : moreT8 c = r) : Calls Tryd.prog 22 #[.int .u8 c] w fun e w' => e = .returned (.int .i64 r) ∧ Below w.heap.size w w' := by
  subst h; exact more8 c w hc

set_option maxRecDepth 100000 in
set_option maxHeartbeats 1600000 in
theorem doc0nt (c : Nat) (w : World) (hc : c < 256) : Calls Tryd.prog 8 #[.int .i64 0, .bool false, .int .u8 c, .bool true] w fun e w' => e = .returned (.int .i64 (timeT 0 false c true)) ∧ Below w.heap.size w w' := by
  obtain ⟨p0, p1⟩ := plainT8_bd c hc
  obtain ⟨l0, l1⟩ := lessT_bd c hc
  have HT : timeT 0 false c true = plainT8 c - 4 - 0 + 0 := by
    unfold timeT; rw [if_pos rfl, if_pos rfl, if_neg (by simp), if_neg (by simp)]
  rw [HT]
  obtain ⟨P, hP⟩ : ∃ P, plainT8 c = P := ⟨_, rfl⟩
  obtain ⟨Q, hQ⟩ : ∃ Q, lessT c = Q := ⟨_, rfl⟩
  have HP := Lib.hid hP
  have HQ := Lib.hid hQ
  rw [hP]
  rw [hP] at p0 p1
  rw [hQ] at l0 l1
  have c0 : (0 : Int) ≤ c := by omega
  have cv : IntKind.i64.wrap (c : Int) = c := IntWalk.i64_in _ (by omega)
  clear HT hP hQ
  go_enter Tryd.func8, Tryd.ntmps8
  go_wp2_with fail
  refine (plain8Is c P _ hc HP.out).mono ?_
  rintro e w1 ⟨rfl, hb1⟩
  go_wp2_with fail
  go_ret
  refine ⟨?_, hb1⟩
  show Ending.returned (.int .i64 _) = _
  congr 2
  all_goals omega
set_option maxRecDepth 100000 in
set_option maxHeartbeats 1600000 in
theorem doc0st (c : Nat) (w : World) (hc : c < 256) (h : c = 54) : Calls Tryd.prog 8 #[.int .i64 0, .bool true, .int .u8 c, .bool true] w fun e w' => e = .returned (.int .i64 (timeT 0 true c true)) ∧ Below w.heap.size w w' := by
  obtain ⟨p0, p1⟩ := plainT8_bd c hc
  obtain ⟨l0, l1⟩ := lessT_bd c hc
  have HT : timeT 0 true c true = plainT8 c - 4 - 0 + 5 := by
    unfold timeT; rw [if_pos rfl, if_pos rfl, if_pos ⟨rfl, h⟩]
  rw [HT]
  obtain ⟨P, hP⟩ : ∃ P, plainT8 c = P := ⟨_, rfl⟩
  obtain ⟨Q, hQ⟩ : ∃ Q, lessT c = Q := ⟨_, rfl⟩
  have HP := Lib.hid hP
  have HQ := Lib.hid hQ
  rw [hP]
  rw [hP] at p0 p1
  rw [hQ] at l0 l1
  have c0 : (0 : Int) ≤ c := by omega
  have cv : IntKind.i64.wrap (c : Int) = c := IntWalk.i64_in _ (by omega)
  have f54 : ((c : Int) == 54) = true := by rw [beq_iff_eq]; omega
  clear HT hP hQ h
  go_enter Tryd.func8, Tryd.ntmps8
  go_wp2_with fail
  refine (plain8Is c P _ hc HP.out).mono ?_
  rintro e w1 ⟨rfl, hb1⟩
  go_wp2_with fail
  go_ret
  refine ⟨?_, hb1⟩
  show Ending.returned (.int .i64 _) = _
  congr 2
  all_goals omega
set_option maxRecDepth 100000 in
set_option maxHeartbeats 1600000 in
theorem doc0mt (c : Nat) (w : World) (hc : c < 256) (h : ¬ c = 54) (hm : memC c = true) : Calls Tryd.prog 8 #[.int .i64 0, .bool true, .int .u8 c, .bool true] w fun e w' => e = .returned (.int .i64 (timeT 0 true c true)) ∧ Below w.heap.size w w' := by
  obtain ⟨p0, p1⟩ := plainT8_bd c hc
  obtain ⟨l0, l1⟩ := lessT_bd c hc
  have HT : timeT 0 true c true = plainT8 c - 4 - 0 + 8 := by
    unfold timeT; rw [if_pos rfl, if_pos rfl, if_neg (by simp [h]), if_pos ⟨rfl, hm⟩]
  rw [HT]
  obtain ⟨P, hP⟩ : ∃ P, plainT8 c = P := ⟨_, rfl⟩
  obtain ⟨Q, hQ⟩ : ∃ Q, lessT c = Q := ⟨_, rfl⟩
  have HP := Lib.hid hP
  have HQ := Lib.hid hQ
  rw [hP]
  rw [hP] at p0 p1
  rw [hQ] at l0 l1
  have c0 : (0 : Int) ≤ c := by omega
  have cv : IntKind.i64.wrap (c : Int) = c := IntWalk.i64_in _ (by omega)
  have f54 : ((c : Int) == 54) = false := (eqc c 54).trans (by simp; omega)
  have HM := Lib.hid hm
  clear HT hP hQ h hm
  go_enter Tryd.func8, Tryd.ntmps8
  go_wp2_with fail
  refine (plain8Is c P _ hc HP.out).mono ?_
  rintro e w1 ⟨rfl, hb1⟩
  go_wp2_with fail
  refine (refMemIs c true _ hc HM.out).mono ?_
  rintro e w2 ⟨rfl, hb2⟩
  go_wp2_with fail
  go_ret
  refine ⟨?_, below_step hb1 hb2⟩
  show Ending.returned (.int .i64 _) = _
  congr 2
  all_goals omega
set_option maxRecDepth 100000 in
set_option maxHeartbeats 1600000 in
theorem doc0ot (c : Nat) (w : World) (hc : c < 256) (h : ¬ c = 54) (hm : memC c = false) : Calls Tryd.prog 8 #[.int .i64 0, .bool true, .int .u8 c, .bool true] w fun e w' => e = .returned (.int .i64 (timeT 0 true c true)) ∧ Below w.heap.size w w' := by
  obtain ⟨p0, p1⟩ := plainT8_bd c hc
  obtain ⟨l0, l1⟩ := lessT_bd c hc
  have HT : timeT 0 true c true = plainT8 c - 4 - 0 + 0 := by
    unfold timeT; rw [if_pos rfl, if_pos rfl, if_neg (by simp [h]), if_neg (by simp [hm])]
  rw [HT]
  obtain ⟨P, hP⟩ : ∃ P, plainT8 c = P := ⟨_, rfl⟩
  obtain ⟨Q, hQ⟩ : ∃ Q, lessT c = Q := ⟨_, rfl⟩
  have HP := Lib.hid hP
  have HQ := Lib.hid hQ
  rw [hP]
  rw [hP] at p0 p1
  rw [hQ] at l0 l1
  have c0 : (0 : Int) ≤ c := by omega
  have cv : IntKind.i64.wrap (c : Int) = c := IntWalk.i64_in _ (by omega)
  have f54 : ((c : Int) == 54) = false := (eqc c 54).trans (by simp; omega)
  have HM := Lib.hid hm
  clear HT hP hQ h hm
  go_enter Tryd.func8, Tryd.ntmps8
  go_wp2_with fail
  refine (plain8Is c P _ hc HP.out).mono ?_
  rintro e w1 ⟨rfl, hb1⟩
  go_wp2_with fail
  refine (refMemIs c false _ hc HM.out).mono ?_
  rintro e w2 ⟨rfl, hb2⟩
  go_wp2_with fail
  go_ret
  refine ⟨?_, below_step hb1 hb2⟩
  show Ending.returned (.int .i64 _) = _
  congr 2
  all_goals omega
set_option maxRecDepth 100000 in
set_option maxHeartbeats 1600000 in
theorem doc0nf (c : Nat) (w : World) (hc : c < 256) : Calls Tryd.prog 8 #[.int .i64 0, .bool false, .int .u8 c, .bool false] w fun e w' => e = .returned (.int .i64 (timeT 0 false c false)) ∧ Below w.heap.size w w' := by
  obtain ⟨p0, p1⟩ := plainT8_bd c hc
  obtain ⟨l0, l1⟩ := lessT_bd c hc
  have HT : timeT 0 false c false = plainT8 c - 4 - lessT c + 0 := by
    unfold timeT; rw [if_pos rfl, if_neg (by decide), if_neg (by simp), if_neg (by simp)]
  rw [HT]
  obtain ⟨P, hP⟩ : ∃ P, plainT8 c = P := ⟨_, rfl⟩
  obtain ⟨Q, hQ⟩ : ∃ Q, lessT c = Q := ⟨_, rfl⟩
  have HP := Lib.hid hP
  have HQ := Lib.hid hQ
  rw [hP, hQ]
  rw [hP] at p0 p1
  rw [hQ] at l0 l1
  have c0 : (0 : Int) ≤ c := by omega
  have cv : IntKind.i64.wrap (c : Int) = c := IntWalk.i64_in _ (by omega)
  clear HT hP hQ
  go_enter Tryd.func8, Tryd.ntmps8
  go_wp2_with fail
  refine (plain8Is c P _ hc HP.out).mono ?_
  rintro e w1 ⟨rfl, hb1⟩
  go_wp2_with fail
  refine (less8Is c Q _ hc HQ.out).mono ?_
  rintro e w' ⟨rfl, rfl⟩
  go_wp2_with fail
  go_ret
  refine ⟨?_, hb1⟩
  show Ending.returned (.int .i64 _) = _
  congr 2
  all_goals omega
set_option maxRecDepth 100000 in
set_option maxHeartbeats 1600000 in
theorem doc0sf (c : Nat) (w : World) (hc : c < 256) (h : c = 54) : Calls Tryd.prog 8 #[.int .i64 0, .bool true, .int .u8 c, .bool false] w fun e w' => e = .returned (.int .i64 (timeT 0 true c false)) ∧ Below w.heap.size w w' := by
  obtain ⟨p0, p1⟩ := plainT8_bd c hc
  obtain ⟨l0, l1⟩ := lessT_bd c hc
  have HT : timeT 0 true c false = plainT8 c - 4 - lessT c + 5 := by
    unfold timeT; rw [if_pos rfl, if_neg (by decide), if_pos ⟨rfl, h⟩]
  rw [HT]
  obtain ⟨P, hP⟩ : ∃ P, plainT8 c = P := ⟨_, rfl⟩
  obtain ⟨Q, hQ⟩ : ∃ Q, lessT c = Q := ⟨_, rfl⟩
  have HP := Lib.hid hP
  have HQ := Lib.hid hQ
  rw [hP, hQ]
  rw [hP] at p0 p1
  rw [hQ] at l0 l1
  have c0 : (0 : Int) ≤ c := by omega
  have cv : IntKind.i64.wrap (c : Int) = c := IntWalk.i64_in _ (by omega)
  have f54 : ((c : Int) == 54) = true := by rw [beq_iff_eq]; omega
  clear HT hP hQ h
  go_enter Tryd.func8, Tryd.ntmps8
  go_wp2_with fail
  refine (plain8Is c P _ hc HP.out).mono ?_
  rintro e w1 ⟨rfl, hb1⟩
  go_wp2_with fail
  refine (less8Is c Q _ hc HQ.out).mono ?_
  rintro e w' ⟨rfl, rfl⟩
  go_wp2_with fail
  go_ret
  refine ⟨?_, hb1⟩
  show Ending.returned (.int .i64 _) = _
  congr 2
  all_goals omega
set_option maxRecDepth 100000 in
set_option maxHeartbeats 1600000 in
theorem doc0mf (c : Nat) (w : World) (hc : c < 256) (h : ¬ c = 54) (hm : memC c = true) : Calls Tryd.prog 8 #[.int .i64 0, .bool true, .int .u8 c, .bool false] w fun e w' => e = .returned (.int .i64 (timeT 0 true c false)) ∧ Below w.heap.size w w' := by
  obtain ⟨p0, p1⟩ := plainT8_bd c hc
  obtain ⟨l0, l1⟩ := lessT_bd c hc
  have HT : timeT 0 true c false = plainT8 c - 4 - lessT c + 8 := by
    unfold timeT; rw [if_pos rfl, if_neg (by decide), if_neg (by simp [h]), if_pos ⟨rfl, hm⟩]
  rw [HT]
  obtain ⟨P, hP⟩ : ∃ P, plainT8 c = P := ⟨_, rfl⟩
  obtain ⟨Q, hQ⟩ : ∃ Q, lessT c = Q := ⟨_, rfl⟩
  have HP := Lib.hid hP
  have HQ := Lib.hid hQ
  rw [hP, hQ]
  rw [hP] at p0 p1
  rw [hQ] at l0 l1
  have c0 : (0 : Int) ≤ c := by omega
  have cv : IntKind.i64.wrap (c : Int) = c := IntWalk.i64_in _ (by omega)
  have f54 : ((c : Int) == 54) = false := (eqc c 54).trans (by simp; omega)
  have HM := Lib.hid hm
  clear HT hP hQ h hm
  go_enter Tryd.func8, Tryd.ntmps8
  go_wp2_with fail
  refine (plain8Is c P _ hc HP.out).mono ?_
  rintro e w1 ⟨rfl, hb1⟩
  go_wp2_with fail
  refine (less8Is c Q _ hc HQ.out).mono ?_
  rintro e w' ⟨rfl, rfl⟩
  go_wp2_with fail
  refine (refMemIs c true _ hc HM.out).mono ?_
  rintro e w2 ⟨rfl, hb2⟩
  go_wp2_with fail
  go_ret
  refine ⟨?_, below_step hb1 hb2⟩
  show Ending.returned (.int .i64 _) = _
  congr 2
  all_goals omega
set_option maxRecDepth 100000 in
set_option maxHeartbeats 1600000 in
theorem doc0of (c : Nat) (w : World) (hc : c < 256) (h : ¬ c = 54) (hm : memC c = false) : Calls Tryd.prog 8 #[.int .i64 0, .bool true, .int .u8 c, .bool false] w fun e w' => e = .returned (.int .i64 (timeT 0 true c false)) ∧ Below w.heap.size w w' := by
  obtain ⟨p0, p1⟩ := plainT8_bd c hc
  obtain ⟨l0, l1⟩ := lessT_bd c hc
  have HT : timeT 0 true c false = plainT8 c - 4 - lessT c + 0 := by
    unfold timeT; rw [if_pos rfl, if_neg (by decide), if_neg (by simp [h]), if_neg (by simp [hm])]
  rw [HT]
  obtain ⟨P, hP⟩ : ∃ P, plainT8 c = P := ⟨_, rfl⟩
  obtain ⟨Q, hQ⟩ : ∃ Q, lessT c = Q := ⟨_, rfl⟩
  have HP := Lib.hid hP
  have HQ := Lib.hid hQ
  rw [hP, hQ]
  rw [hP] at p0 p1
  rw [hQ] at l0 l1
  have c0 : (0 : Int) ≤ c := by omega
  have cv : IntKind.i64.wrap (c : Int) = c := IntWalk.i64_in _ (by omega)
  have f54 : ((c : Int) == 54) = false := (eqc c 54).trans (by simp; omega)
  have HM := Lib.hid hm
  clear HT hP hQ h hm
  go_enter Tryd.func8, Tryd.ntmps8
  go_wp2_with fail
  refine (plain8Is c P _ hc HP.out).mono ?_
  rintro e w1 ⟨rfl, hb1⟩
  go_wp2_with fail
  refine (less8Is c Q _ hc HQ.out).mono ?_
  rintro e w' ⟨rfl, rfl⟩
  go_wp2_with fail
  refine (refMemIs c false _ hc HM.out).mono ?_
  rintro e w2 ⟨rfl, hb2⟩
  go_wp2_with fail
  go_ret
  refine ⟨?_, below_step hb1 hb2⟩
  show Ending.returned (.int .i64 _) = _
  congr 2
  all_goals omega
set_option maxRecDepth 100000 in
set_option maxHeartbeats 1600000 in
theorem doc1a (c : Nat) (w : World) (hc : c < 256) (ix met : Bool) (h : c % 8 = 6) (h1 : c / 64 = 1) : Calls Tryd.prog 8 #[.int .i64 1, .bool ix, .int .u8 c, .bool met] w fun e w' => e = .returned (.int .i64 (timeT 1 ix c met)) ∧ Below w.heap.size w w' := by
  have HR := Lib.hid (show timeT 1 ix c met = 4 by unfold timeT; rw [if_neg (by decide), if_pos rfl, if_pos h, if_pos h1])
  have c0 : (0 : Int) ≤ c := by omega
  have cv : IntKind.i64.wrap (c : Int) = c := IntWalk.i64_in _ (by omega)
  obtain ⟨m, hm⟩ : ∃ m, c % 8 = m := ⟨_, rfl⟩
  have wm : (c : Int).tmod 8 = (m : Int) := by rw [Int.tmod_eq_emod_of_nonneg (by omega)]; omega
  obtain ⟨d, hd⟩ : ∃ d, c / 64 = d := ⟨_, rfl⟩
  have wd : IntKind.i64.wrap ((c : Int) / 64) = (d : Int) := by rw [IntWalk.i64_in _ (by omega)]; omega
  have wd2 : (c : Int) / 64 = (d : Int) := by omega
  have m6 : ((m : Int) == 6) = true := by rw [beq_iff_eq]; omega
  have d1 : ((d : Int) == 1) = true := by rw [beq_iff_eq]; omega
  clear h h1 hm hd
  go_enter Tryd.func8, Tryd.ntmps8
  go_wp2_with fail
  go_ret
  exact ⟨by rw [HR.out]; rfl, Below.refl _ _⟩
set_option maxRecDepth 100000 in
set_option maxHeartbeats 1600000 in
theorem doc1b (c : Nat) (w : World) (hc : c < 256) (ix met : Bool) (h : c % 8 = 6) (h1 : ¬ c / 64 = 1) : Calls Tryd.prog 8 #[.int .i64 1, .bool ix, .int .u8 c, .bool met] w fun e w' => e = .returned (.int .i64 (timeT 1 ix c met)) ∧ Below w.heap.size w w' := by
  have HR := Lib.hid (show timeT 1 ix c met = 7 by unfold timeT; rw [if_neg (by decide), if_pos rfl, if_pos h, if_neg h1])
  have c0 : (0 : Int) ≤ c := by omega
  have cv : IntKind.i64.wrap (c : Int) = c := IntWalk.i64_in _ (by omega)
  obtain ⟨m, hm⟩ : ∃ m, c % 8 = m := ⟨_, rfl⟩
  have wm : (c : Int).tmod 8 = (m : Int) := by rw [Int.tmod_eq_emod_of_nonneg (by omega)]; omega
  obtain ⟨d, hd⟩ : ∃ d, c / 64 = d := ⟨_, rfl⟩
  have wd : IntKind.i64.wrap ((c : Int) / 64) = (d : Int) := by rw [IntWalk.i64_in _ (by omega)]; omega
  have wd2 : (c : Int) / 64 = (d : Int) := by omega
  have m6 : ((m : Int) == 6) = true := by rw [beq_iff_eq]; omega
  have d1 : ((d : Int) == 1) = false := (eqc d 1).trans (by simp; omega)
  clear h h1 hm hd
  go_enter Tryd.func8, Tryd.ntmps8
  go_wp2_with fail
  go_ret
  exact ⟨by rw [HR.out]; rfl, Below.refl _ _⟩
set_option maxRecDepth 100000 in
set_option maxHeartbeats 1600000 in
theorem doc1c (c : Nat) (w : World) (hc : c < 256) (ix met : Bool) (h : ¬ c % 8 = 6) : Calls Tryd.prog 8 #[.int .i64 1, .bool ix, .int .u8 c, .bool met] w fun e w' => e = .returned (.int .i64 (timeT 1 ix c met)) ∧ Below w.heap.size w w' := by
  have HR := Lib.hid (show timeT 1 ix c met = 0 by unfold timeT; rw [if_neg (by decide), if_pos rfl, if_neg h])
  have c0 : (0 : Int) ≤ c := by omega
  have cv : IntKind.i64.wrap (c : Int) = c := IntWalk.i64_in _ (by omega)
  obtain ⟨m, hm⟩ : ∃ m, c % 8 = m := ⟨_, rfl⟩
  have wm : (c : Int).tmod 8 = (m : Int) := by rw [Int.tmod_eq_emod_of_nonneg (by omega)]; omega
  have m6 : ((m : Int) == 6) = false := (eqc m 6).trans (by simp; omega)
  clear h hm
  go_enter Tryd.func8, Tryd.ntmps8
  go_wp2_with fail
  go_ret
  exact ⟨by rw [HR.out]; rfl, Below.refl _ _⟩
set_option maxRecDepth 100000 in
set_option maxHeartbeats 1600000 in
theorem doc3a (c : Nat) (w : World) (hc : c < 256) (ix met : Bool) (h1 : c / 64 = 1) : Calls Tryd.prog 8 #[.int .i64 3, .bool ix, .int .u8 c, .bool met] w fun e w' => e = .returned (.int .i64 (timeT 3 ix c met)) ∧ Below w.heap.size w w' := by
  have HR := Lib.hid (show timeT 3 ix c met = 4 by unfold timeT; rw [if_neg (by decide), if_neg (by decide), if_pos rfl, if_pos h1])
  have c0 : (0 : Int) ≤ c := by omega
  have cv : IntKind.i64.wrap (c : Int) = c := IntWalk.i64_in _ (by omega)
  obtain ⟨d, hd⟩ : ∃ d, c / 64 = d := ⟨_, rfl⟩
  have wd : IntKind.i64.wrap ((c : Int) / 64) = (d : Int) := by rw [IntWalk.i64_in _ (by omega)]; omega
  have wd2 : (c : Int) / 64 = (d : Int) := by omega
  have d1 : ((d : Int) == 1) = true := by rw [beq_iff_eq]; omega
  clear h1 hd
  go_enter Tryd.func8, Tryd.ntmps8
  go_wp2_with fail
  go_ret
  exact ⟨by rw [HR.out]; rfl, Below.refl _ _⟩
set_option maxRecDepth 100000 in
set_option maxHeartbeats 1600000 in
theorem doc3b (c : Nat) (w : World) (hc : c < 256) (ix met : Bool) (h1 : ¬ c / 64 = 1) : Calls Tryd.prog 8 #[.int .i64 3, .bool ix, .int .u8 c, .bool met] w fun e w' => e = .returned (.int .i64 (timeT 3 ix c met)) ∧ Below w.heap.size w w' := by
  have HR := Lib.hid (show timeT 3 ix c met = 7 by unfold timeT; rw [if_neg (by decide), if_neg (by decide), if_pos rfl, if_neg h1])
  have c0 : (0 : Int) ≤ c := by omega
  have cv : IntKind.i64.wrap (c : Int) = c := IntWalk.i64_in _ (by omega)
  obtain ⟨d, hd⟩ : ∃ d, c / 64 = d := ⟨_, rfl⟩
  have wd : IntKind.i64.wrap ((c : Int) / 64) = (d : Int) := by rw [IntWalk.i64_in _ (by omega)]; omega
  have wd2 : (c : Int) / 64 = (d : Int) := by omega
  have d1 : ((d : Int) == 1) = false := (eqc d 1).trans (by simp; omega)
  clear h1 hd
  go_enter Tryd.func8, Tryd.ntmps8
  go_wp2_with fail
  go_ret
  exact ⟨by rw [HR.out]; rfl, Below.refl _ _⟩
set_option maxRecDepth 100000 in
set_option maxHeartbeats 1600000 in
theorem doc2a (c : Nat) (w : World) (hc : c < 256) (ix : Bool) : Calls Tryd.prog 8 #[.int .i64 2, .bool ix, .int .u8 c, .bool true] w fun e w' => e = .returned (.int .i64 (timeT 2 ix c true)) ∧ Below w.heap.size w w' := by
  have HR := Lib.hid (show timeT 2 ix c true = moreT8 c - 8 by unfold timeT; rw [if_neg (by decide), if_neg (by decide), if_neg (by decide), if_pos rfl, if_neg (by simp)])
  have c0 : (0 : Int) ≤ c := by omega
  have cv : IntKind.i64.wrap (c : Int) = c := IntWalk.i64_in _ (by omega)
  obtain ⟨b0, b1⟩ := moreT8_bd c hc
  obtain ⟨M, hM⟩ : ∃ M, moreT8 c = M := ⟨_, rfl⟩
  have HM := Lib.hid hM
  rw [hM] at b0 b1
  have HR := Lib.hid (show timeT 2 ix c true = M - 8 by rw [HR.out, hM])
  clear hM
  go_enter Tryd.func8, Tryd.ntmps8
  go_wp2_with fail
  refine (more8Is c M _ hc HM.out).mono ?_
  rintro e w1 ⟨rfl, hb1⟩
  go_wp2_with fail
  go_ret
  exact ⟨by rw [HR.out]; rfl, hb1⟩
set_option maxRecDepth 100000 in
set_option maxHeartbeats 1600000 in
theorem doc2b (c : Nat) (w : World) (hc : c < 256) (ix : Bool) (h : moreT8 c - 8 = 13) : Calls Tryd.prog 8 #[.int .i64 2, .bool ix, .int .u8 c, .bool false] w fun e w' => e = .returned (.int .i64 (timeT 2 ix c false)) ∧ Below w.heap.size w w' := by
  have HR := Lib.hid (show timeT 2 ix c false = 8 by unfold timeT; rw [if_neg (by decide), if_neg (by decide), if_neg (by decide), if_pos rfl, if_pos ⟨rfl, h⟩])
  have c0 : (0 : Int) ≤ c := by omega
  have cv : IntKind.i64.wrap (c : Int) = c := IntWalk.i64_in _ (by omega)
  obtain ⟨b0, b1⟩ := moreT8_bd c hc
  obtain ⟨M, hM⟩ : ∃ M, moreT8 c = M := ⟨_, rfl⟩
  have HM := Lib.hid hM
  rw [hM] at b0 b1
  have q : M = 21 := by omega
  subst q
  clear hM h
  go_enter Tryd.func8, Tryd.ntmps8
  go_wp2_with fail
  refine (more8Is c 21 _ hc HM.out).mono ?_
  rintro e w1 ⟨rfl, hb1⟩
  go_wp2_with fail
  go_ret
  exact ⟨by rw [HR.out]; rfl, hb1⟩
set_option maxRecDepth 100000 in
set_option maxHeartbeats 1600000 in
theorem doc2c (c : Nat) (w : World) (hc : c < 256) (ix : Bool) (h : ¬ moreT8 c - 8 = 13) : Calls Tryd.prog 8 #[.int .i64 2, .bool ix, .int .u8 c, .bool false] w fun e w' => e = .returned (.int .i64 (timeT 2 ix c false)) ∧ Below w.heap.size w w' := by
  have HR := Lib.hid (show timeT 2 ix c false = moreT8 c - 8 by unfold timeT; rw [if_neg (by decide), if_neg (by decide), if_neg (by decide), if_pos rfl, if_neg (by simp [h])])
  have c0 : (0 : Int) ≤ c := by omega
  have cv : IntKind.i64.wrap (c : Int) = c := IntWalk.i64_in _ (by omega)
  obtain ⟨b0, b1⟩ := moreT8_bd c hc
  obtain ⟨M, hM⟩ : ∃ M, moreT8 c = M := ⟨_, rfl⟩
  have HM := Lib.hid hM
  rw [hM] at b0 b1
  have HR := Lib.hid (show timeT 2 ix c false = M - 8 by rw [HR.out, hM])
  have q : (M - 8 == 13) = false := by rw [beq_eq_false_iff_ne]; omega
  clear hM h
  go_enter Tryd.func8, Tryd.ntmps8
  go_wp2_with fail
  refine (more8Is c M _ hc HM.out).mono ?_
  rintro e w1 ⟨rfl, hb1⟩
  go_wp2_with fail
  go_ret
  exact ⟨by rw [HR.out]; rfl, hb1⟩
set_option maxRecDepth 100000 in
set_option maxHeartbeats 1600000 in
theorem docN (set : Int) (ix met : Bool) (c : Nat) (w : World) (hc : c < 256) (n0 : ¬ set = 0) (n1 : ¬ set = 1) (n2 : ¬ set = 2) (n3 : ¬ set = 3) : Calls Tryd.prog 8 #[.int .i64 set, .bool ix, .int .u8 c, .bool met] w fun e w' => e = .returned (.int .i64 (timeT set ix c met)) ∧ Below w.heap.size w w' := by
  have HR := Lib.hid (show timeT set ix c met = 0 by unfold timeT; simp only [if_neg n0, if_neg n1, if_neg n2, if_neg n3])
  have f0 : (set == 0) = false := by simpa using n0
  have f1 : (set == 1) = false := by simpa using n1
  have f2 : (set == 2) = false := by simpa using n2
  have f3 : (set == 3) = false := by simpa using n3
  clear n0 n1 n2 n3
  go_enter Tryd.func8, Tryd.ntmps8
  go_wp2_with fail
  go_ret
  exact ⟨by rw [HR.out]; rfl, Below.refl _ _⟩
theorem docTime (set : Int) (ix met : Bool) (r : Int) (c : Nat) (w : World) (hc : c < 256) (hr : timeT set ix c met = r) : Calls Tryd.prog 8 #[.int .i64 set, .bool ix, .int .u8 c, .bool met] w fun e w' => e = .returned (.int .i64 r) ∧ Below w.heap.size w w' := by
  subst hr
  by_cases n0 : set = 0
  · subst n0
    cases ix with
    | false => cases met with
      | true => exact doc0nt c w hc
      | false => exact doc0nf c w hc
    | true =>
      by_cases h : c = 54
      · cases met with
        | true => exact doc0st c w hc h
        | false => exact doc0sf c w hc h
      · cases hm : memC c with
        | true => cases met with
          | true => exact doc0mt c w hc h hm
          | false => exact doc0mf c w hc h hm
        | false => cases met with
          | true => exact doc0ot c w hc h hm
          | false => exact doc0of c w hc h hm
  by_cases n1 : set = 1
  · subst n1
    by_cases h : c % 8 = 6
    · by_cases h1 : c / 64 = 1
      · exact doc1a c w hc ix met h h1
      · exact doc1b c w hc ix met h h1
    · exact doc1c c w hc ix met h
  by_cases n2 : set = 2
  · subst n2
    cases met with
    | true => exact doc2a c w hc ix
    | false =>
      by_cases h : moreT8 c - 8 = 13
      · exact doc2b c w hc ix h
      · exact doc2c c w hc ix h
  by_cases n3 : set = 3
  · subst n3
    by_cases h1 : c / 64 = 1
    · exact doc3a c w hc ix met h1
    · exact doc3b c w hc ix met h1
  exact docN set ix met c w hc n0 n1 n2 n3

end Go.Proofs.YthmkfojjlcinkaaDoor
