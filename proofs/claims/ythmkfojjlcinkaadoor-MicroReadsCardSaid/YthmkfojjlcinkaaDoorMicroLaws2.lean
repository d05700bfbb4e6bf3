/- MicroReads, MicroAll: their walks. -/
import Derived.Test.YthmkfojjlcinkaaDoorMicroLaws
namespace Go.Proofs.YthmkfojjlcinkaaDoor
open Go.RowKit
set_option linter.unusedVariables false

theorem refArgsIs (c n : Nat) (w : World) (hc : c < 256) (h : argC c = n) : Calls Tryd.prog 10 #[.int .u8 c] w fun e w' => e = .returned (.int .i64 (n : Int)) ∧ Below w.heap.size w w' := by
  subst h; exact refArgs c w hc

set_option maxRecDepth 100000 in
set_option maxHeartbeats 1600000 in
theorem readsA (ix : Int) (c : Nat) (w : World) (hc : c < 256) (hM : Modes w) (h : ix < 0) : Calls Tryd.prog 5 #[.int .i64 ix, .int .u8 c] w fun e w' => e = .returned (.bool true) ∧ Below w.heap.size w w' := by
  obtain ⟨n, hn⟩ : ∃ n, argC c = n := ⟨_, rfl⟩
  have h2 := argC_le c hc
  have hf := fet_ok 0 c hc (by decide) (by decide)
  have hr : (argC c : Int) + (if (0 : Int) < 0 ∧ memC c = true then 1 else 0) = (n : Int) := by rw [hn]; simp
  rw [hr] at hf
  have hs := (prog_ok 0 0 c hc _ rfl).2.2
  have HP := Lib.hid (prog_new 0 0 c w hc hM)
  have HPr := Lib.hid (fun u (k : Modes u) => prog_new 0 0 c u hc k)
  obtain ⟨L, hL⟩ : ∃ L, progS [] 0 0 c = L := ⟨_, rfl⟩
  rw [hL] at hf hs HP
  have HPr := Lib.hid (fun u (k : Modes u) => hL ▸ HPr.out u k)
  rw [hn] at h2
  have HF := Lib.hid hf
  have HS := Lib.hid hs
  have HM := Lib.hid hM
  have HR := Lib.hid hr
  have HN := Lib.hid hn
  clear hf hs hM hr hn hL HP
  go_enter Tryd.func5, Tryd.ntmps5
  go_wp2_with fail
  refine (refArgsIs c n _ hc HN.out).mono ?_
  rintro e w1 ⟨rfl, hb1⟩
  go_wp2_with fail
  refine (HPr.out _ (HM.out.below hb1)).mono ?_
  rintro e w2 ⟨v, rfl, hS, hb2⟩
  go_wp2_with fail
  refine (fetchesIs _ _ _ _ hS HS.out HF.out).mono ?_
  rintro e w3 ⟨rfl, hb3⟩
  go_wp2_with fail
  refine (bytes_any 0 c _ _ hc HR.out).mono ?_
  rintro e w4 ⟨rfl, hb4⟩
  go_wp2_with fail
  refine (lives8 _ ((((HM.out.below hb1).below hb2).below hb3).below hb4)).mono ?_
  rintro e w5 ⟨rfl, hb5⟩
  go_wp2_with fail
  go_ret
  exact ⟨rfl, (below_step (below_step (below_step (below_step hb1 hb2) hb3) hb4) hb5)⟩
set_option maxRecDepth 100000 in
set_option maxHeartbeats 1600000 in
theorem readsB (ix : Int) (c : Nat) (w : World) (hc : c < 256) (hM : Modes w) (h : ix = 0) : Calls Tryd.prog 5 #[.int .i64 ix, .int .u8 c] w fun e w' => e = .returned (.bool true) ∧ Below w.heap.size w w' := by
  obtain ⟨n, hn⟩ : ∃ n, argC c = n := ⟨_, rfl⟩
  have h2 := argC_le c hc
  have hf := fet_ok 0 c hc (by decide) (by decide)
  have hr : (argC c : Int) + (if (0 : Int) < 0 ∧ memC c = true then 1 else 0) = (n : Int) := by rw [hn]; simp
  rw [hr] at hf
  have hs := (prog_ok 0 0 c hc _ rfl).2.2
  have HP := Lib.hid (prog_new 0 0 c w hc hM)
  have HPr := Lib.hid (fun u (k : Modes u) => prog_new 0 0 c u hc k)
  obtain ⟨L, hL⟩ : ∃ L, progS [] 0 0 c = L := ⟨_, rfl⟩
  rw [hL] at hf hs HP
  have HPr := Lib.hid (fun u (k : Modes u) => hL ▸ HPr.out u k)
  rw [hn] at h2
  have HF := Lib.hid hf
  have HS := Lib.hid hs
  have HM := Lib.hid hM
  have HR := Lib.hid hr
  have HN := Lib.hid hn
  clear hf hs hM hr hn hL HP
  subst h
  go_enter Tryd.func5, Tryd.ntmps5
  go_wp2_with fail
  refine (refArgsIs c n _ hc HN.out).mono ?_
  rintro e w1 ⟨rfl, hb1⟩
  go_wp2_with fail
  refine (HPr.out _ (HM.out.below hb1)).mono ?_
  rintro e w2 ⟨v, rfl, hS, hb2⟩
  go_wp2_with fail
  refine (fetchesIs _ _ _ _ hS HS.out HF.out).mono ?_
  rintro e w3 ⟨rfl, hb3⟩
  go_wp2_with fail
  refine (bytes_any 0 c _ _ hc HR.out).mono ?_
  rintro e w4 ⟨rfl, hb4⟩
  go_wp2_with fail
  refine (lives8 _ ((((HM.out.below hb1).below hb2).below hb3).below hb4)).mono ?_
  rintro e w5 ⟨rfl, hb5⟩
  go_wp2_with fail
  go_ret
  exact ⟨rfl, (below_step (below_step (below_step (below_step hb1 hb2) hb3) hb4) hb5)⟩
set_option maxRecDepth 100000 in
set_option maxHeartbeats 1600000 in
theorem readsCt (ix : Int) (c : Nat) (w : World) (hc : c < 256) (hM : Modes w) (h : ix = 1) (hm : memC c = true) : Calls Tryd.prog 5 #[.int .i64 ix, .int .u8 c] w fun e w' => e = .returned (.bool true) ∧ Below w.heap.size w w' := by
  obtain ⟨n, hn⟩ : ∃ n, argC c = n := ⟨_, rfl⟩
  have h2 := argC_le c hc
  have hf := fet_ok 1 c hc (by decide) (by decide)
  have hr : (argC c : Int) + (if (0 : Int) < 1 ∧ memC c = true then 1 else 0) = (n : Int) + 1 := by rw [hn, hm]; simp
  rw [hr] at hf
  have hs := (prog_ok 0 1 c hc _ rfl).2.2
  have HP := Lib.hid (prog_new 0 1 c w hc hM)
  have HPr := Lib.hid (fun u (k : Modes u) => prog_new 0 1 c u hc k)
  obtain ⟨L, hL⟩ : ∃ L, progS [] 0 1 c = L := ⟨_, rfl⟩
  rw [hL] at hf hs HP
  have HPr := Lib.hid (fun u (k : Modes u) => hL ▸ HPr.out u k)
  rw [hn] at h2
  have HF := Lib.hid hf
  have HS := Lib.hid hs
  have HM := Lib.hid hM
  have HR := Lib.hid hr
  have HN := Lib.hid hn
  have HMm := Lib.hid hm
  clear hf hs hM hr hn hL HP hm
  subst h
  go_enter Tryd.func5, Tryd.ntmps5
  go_wp2_with fail
  refine (refArgsIs c n _ hc HN.out).mono ?_
  rintro e w1 ⟨rfl, hb1⟩
  go_wp2_with fail
  refine (refMemIs c true _ hc HMm.out).mono ?_
  rintro e w2 ⟨rfl, hb2⟩
  go_wp2_with fail
  refine (HPr.out _ ((HM.out.below hb1).below hb2)).mono ?_
  rintro e w3 ⟨v, rfl, hS, hb3⟩
  go_wp2_with fail
  refine (fetchesIs _ _ _ _ hS HS.out HF.out).mono ?_
  rintro e w4 ⟨rfl, hb4⟩
  go_wp2_with fail
  refine (bytes_any 1 c _ _ hc HR.out).mono ?_
  rintro e w5 ⟨rfl, hb5⟩
  go_wp2_with fail
  refine (lives8 _ (((((HM.out.below hb1).below hb2).below hb3).below hb4).below hb5)).mono ?_
  rintro e w6 ⟨rfl, hb6⟩
  go_wp2_with fail
  go_ret
  exact ⟨rfl, (below_step (below_step (below_step (below_step (below_step hb1 hb2) hb3) hb4) hb5) hb6)⟩
set_option maxRecDepth 100000 in
set_option maxHeartbeats 1600000 in
theorem readsDt (ix : Int) (c : Nat) (w : World) (hc : c < 256) (hM : Modes w) (h : ix = 2) (hm : memC c = true) : Calls Tryd.prog 5 #[.int .i64 ix, .int .u8 c] w fun e w' => e = .returned (.bool true) ∧ Below w.heap.size w w' := by
  obtain ⟨n, hn⟩ : ∃ n, argC c = n := ⟨_, rfl⟩
  have h2 := argC_le c hc
  have hf := fet_ok 2 c hc (by decide) (by decide)
  have hr : (argC c : Int) + (if (0 : Int) < 2 ∧ memC c = true then 1 else 0) = (n : Int) + 1 := by rw [hn, hm]; simp
  rw [hr] at hf
  have hs := (prog_ok 0 2 c hc _ rfl).2.2
  have HP := Lib.hid (prog_new 0 2 c w hc hM)
  have HPr := Lib.hid (fun u (k : Modes u) => prog_new 0 2 c u hc k)
  obtain ⟨L, hL⟩ : ∃ L, progS [] 0 2 c = L := ⟨_, rfl⟩
  rw [hL] at hf hs HP
  have HPr := Lib.hid (fun u (k : Modes u) => hL ▸ HPr.out u k)
  rw [hn] at h2
  have HF := Lib.hid hf
  have HS := Lib.hid hs
  have HM := Lib.hid hM
  have HR := Lib.hid hr
  have HN := Lib.hid hn
  have HMm := Lib.hid hm
  clear hf hs hM hr hn hL HP hm
  subst h
  go_enter Tryd.func5, Tryd.ntmps5
  go_wp2_with fail
  refine (refArgsIs c n _ hc HN.out).mono ?_
  rintro e w1 ⟨rfl, hb1⟩
  go_wp2_with fail
  refine (refMemIs c true _ hc HMm.out).mono ?_
  rintro e w2 ⟨rfl, hb2⟩
  go_wp2_with fail
  refine (HPr.out _ ((HM.out.below hb1).below hb2)).mono ?_
  rintro e w3 ⟨v, rfl, hS, hb3⟩
  go_wp2_with fail
  refine (fetchesIs _ _ _ _ hS HS.out HF.out).mono ?_
  rintro e w4 ⟨rfl, hb4⟩
  go_wp2_with fail
  refine (bytes_any 2 c _ _ hc HR.out).mono ?_
  rintro e w5 ⟨rfl, hb5⟩
  go_wp2_with fail
  refine (lives8 _ (((((HM.out.below hb1).below hb2).below hb3).below hb4).below hb5)).mono ?_
  rintro e w6 ⟨rfl, hb6⟩
  go_wp2_with fail
  go_ret
  exact ⟨rfl, (below_step (below_step (below_step (below_step (below_step hb1 hb2) hb3) hb4) hb5) hb6)⟩
set_option maxRecDepth 100000 in
set_option maxHeartbeats 1600000 in
theorem readsEt (ix : Int) (c : Nat) (w : World) (hc : c < 256) (hM : Modes w) (h : 2 < ix) (hm : memC c = true) : Calls Tryd.prog 5 #[.int .i64 ix, .int .u8 c] w fun e w' => e = .returned (.bool true) ∧ Below w.heap.size w w' := by
  obtain ⟨n, hn⟩ : ∃ n, argC c = n := ⟨_, rfl⟩
  have h2 := argC_le c hc
  have hf := fet_ok 2 c hc (by decide) (by decide)
  have hr : (argC c : Int) + (if (0 : Int) < 2 ∧ memC c = true then 1 else 0) = (n : Int) + 1 := by rw [hn, hm]; simp
  rw [hr] at hf
  have hs := (prog_ok 0 2 c hc _ rfl).2.2
  have HP := Lib.hid (prog_new 0 2 c w hc hM)
  have HPr := Lib.hid (fun u (k : Modes u) => prog_new 0 2 c u hc k)
  obtain ⟨L, hL⟩ : ∃ L, progS [] 0 2 c = L := ⟨_, rfl⟩
  rw [hL] at hf hs HP
  have HPr := Lib.hid (fun u (k : Modes u) => hL ▸ HPr.out u k)
  rw [hn] at h2
  have HF := Lib.hid hf
  have HS := Lib.hid hs
  have HM := Lib.hid hM
  have HR := Lib.hid hr
  have HN := Lib.hid hn
  have HMm := Lib.hid hm
  clear hf hs hM hr hn hL HP hm
  go_enter Tryd.func5, Tryd.ntmps5
  go_wp2_with fail
  refine (refArgsIs c n _ hc HN.out).mono ?_
  rintro e w1 ⟨rfl, hb1⟩
  go_wp2_with fail
  refine (refMemIs c true _ hc HMm.out).mono ?_
  rintro e w2 ⟨rfl, hb2⟩
  go_wp2_with fail
  refine (HPr.out _ ((HM.out.below hb1).below hb2)).mono ?_
  rintro e w3 ⟨v, rfl, hS, hb3⟩
  go_wp2_with fail
  refine (fetchesIs _ _ _ _ hS HS.out HF.out).mono ?_
  rintro e w4 ⟨rfl, hb4⟩
  go_wp2_with fail
  refine (bytes_any 2 c _ _ hc HR.out).mono ?_
  rintro e w5 ⟨rfl, hb5⟩
  go_wp2_with fail
  refine (lives8 _ (((((HM.out.below hb1).below hb2).below hb3).below hb4).below hb5)).mono ?_
  rintro e w6 ⟨rfl, hb6⟩
  go_wp2_with fail
  go_ret
  exact ⟨rfl, (below_step (below_step (below_step (below_step (below_step hb1 hb2) hb3) hb4) hb5) hb6)⟩
set_option maxRecDepth 100000 in
set_option maxHeartbeats 1600000 in
theorem readsCf (ix : Int) (c : Nat) (w : World) (hc : c < 256) (hM : Modes w) (h : ix = 1) (hm : memC c = false) : Calls Tryd.prog 5 #[.int .i64 ix, .int .u8 c] w fun e w' => e = .returned (.bool true) ∧ Below w.heap.size w w' := by
  obtain ⟨n, hn⟩ : ∃ n, argC c = n := ⟨_, rfl⟩
  have h2 := argC_le c hc
  have hf := fet_ok 1 c hc (by decide) (by decide)
  have hr : (argC c : Int) + (if (0 : Int) < 1 ∧ memC c = true then 1 else 0) = (n : Int) := by rw [hn, hm]; simp
  rw [hr] at hf
  have hs := (prog_ok 0 1 c hc _ rfl).2.2
  have HP := Lib.hid (prog_new 0 1 c w hc hM)
  have HPr := Lib.hid (fun u (k : Modes u) => prog_new 0 1 c u hc k)
  obtain ⟨L, hL⟩ : ∃ L, progS [] 0 1 c = L := ⟨_, rfl⟩
  rw [hL] at hf hs HP
  have HPr := Lib.hid (fun u (k : Modes u) => hL ▸ HPr.out u k)
  rw [hn] at h2
  have HF := Lib.hid hf
  have HS := Lib.hid hs
  have HM := Lib.hid hM
  have HR := Lib.hid hr
  have HN := Lib.hid hn
  have HMm := Lib.hid hm
  clear hf hs hM hr hn hL HP hm
  subst h
  go_enter Tryd.func5, Tryd.ntmps5
  go_wp2_with fail
  refine (refArgsIs c n _ hc HN.out).mono ?_
  rintro e w1 ⟨rfl, hb1⟩
  go_wp2_with fail
  refine (refMemIs c false _ hc HMm.out).mono ?_
  rintro e w2 ⟨rfl, hb2⟩
  go_wp2_with fail
  refine (HPr.out _ ((HM.out.below hb1).below hb2)).mono ?_
  rintro e w3 ⟨v, rfl, hS, hb3⟩
  go_wp2_with fail
  refine (fetchesIs _ _ _ _ hS HS.out HF.out).mono ?_
  rintro e w4 ⟨rfl, hb4⟩
  go_wp2_with fail
  refine (bytes_any 1 c _ _ hc HR.out).mono ?_
  rintro e w5 ⟨rfl, hb5⟩
  go_wp2_with fail
  refine (lives8 _ (((((HM.out.below hb1).below hb2).below hb3).below hb4).below hb5)).mono ?_
  rintro e w6 ⟨rfl, hb6⟩
  go_wp2_with fail
  go_ret
  exact ⟨rfl, (below_step (below_step (below_step (below_step (below_step hb1 hb2) hb3) hb4) hb5) hb6)⟩
set_option maxRecDepth 100000 in
set_option maxHeartbeats 1600000 in
theorem readsDf (ix : Int) (c : Nat) (w : World) (hc : c < 256) (hM : Modes w) (h : ix = 2) (hm : memC c = false) : Calls Tryd.prog 5 #[.int .i64 ix, .int .u8 c] w fun e w' => e = .returned (.bool true) ∧ Below w.heap.size w w' := by
  obtain ⟨n, hn⟩ : ∃ n, argC c = n := ⟨_, rfl⟩
  have h2 := argC_le c hc
  have hf := fet_ok 2 c hc (by decide) (by decide)
  have hr : (argC c : Int) + (if (0 : Int) < 2 ∧ memC c = true then 1 else 0) = (n : Int) := by rw [hn, hm]; simp
  rw [hr] at hf
  have hs := (prog_ok 0 2 c hc _ rfl).2.2
  have HP := Lib.hid (prog_new 0 2 c w hc hM)
  have HPr := Lib.hid (fun u (k : Modes u) => prog_new 0 2 c u hc k)
  obtain ⟨L, hL⟩ : ∃ L, progS [] 0 2 c = L := ⟨_, rfl⟩
  rw [hL] at hf hs HP
  have HPr := Lib.hid (fun u (k : Modes u) => hL ▸ HPr.out u k)
  rw [hn] at h2
  have HF := Lib.hid hf
  have HS := Lib.hid hs
  have HM := Lib.hid hM
  have HR := Lib.hid hr
  have HN := Lib.hid hn
  have HMm := Lib.hid hm
  clear hf hs hM hr hn hL HP hm
  subst h
  go_enter Tryd.func5, Tryd.ntmps5
  go_wp2_with fail
  refine (refArgsIs c n _ hc HN.out).mono ?_
  rintro e w1 ⟨rfl, hb1⟩
  go_wp2_with fail
  refine (refMemIs c false _ hc HMm.out).mono ?_
  rintro e w2 ⟨rfl, hb2⟩
  go_wp2_with fail
  refine (HPr.out _ ((HM.out.below hb1).below hb2)).mono ?_
  rintro e w3 ⟨v, rfl, hS, hb3⟩
  go_wp2_with fail
  refine (fetchesIs _ _ _ _ hS HS.out HF.out).mono ?_
  rintro e w4 ⟨rfl, hb4⟩
  go_wp2_with fail
  refine (bytes_any 2 c _ _ hc HR.out).mono ?_
  rintro e w5 ⟨rfl, hb5⟩
  go_wp2_with fail
  refine (lives8 _ (((((HM.out.below hb1).below hb2).below hb3).below hb4).below hb5)).mono ?_
  rintro e w6 ⟨rfl, hb6⟩
  go_wp2_with fail
  go_ret
  exact ⟨rfl, (below_step (below_step (below_step (below_step (below_step hb1 hb2) hb3) hb4) hb5) hb6)⟩
set_option maxRecDepth 100000 in
set_option maxHeartbeats 1600000 in
theorem readsEf (ix : Int) (c : Nat) (w : World) (hc : c < 256) (hM : Modes w) (h : 2 < ix) (hm : memC c = false) : Calls Tryd.prog 5 #[.int .i64 ix, .int .u8 c] w fun e w' => e = .returned (.bool true) ∧ Below w.heap.size w w' := by
  obtain ⟨n, hn⟩ : ∃ n, argC c = n := ⟨_, rfl⟩
  have h2 := argC_le c hc
  have hf := fet_ok 2 c hc (by decide) (by decide)
  have hr : (argC c : Int) + (if (0 : Int) < 2 ∧ memC c = true then 1 else 0) = (n : Int) := by rw [hn, hm]; simp
  rw [hr] at hf
  have hs := (prog_ok 0 2 c hc _ rfl).2.2
  have HP := Lib.hid (prog_new 0 2 c w hc hM)
  have HPr := Lib.hid (fun u (k : Modes u) => prog_new 0 2 c u hc k)
  obtain ⟨L, hL⟩ : ∃ L, progS [] 0 2 c = L := ⟨_, rfl⟩
  rw [hL] at hf hs HP
  have HPr := Lib.hid (fun u (k : Modes u) => hL ▸ HPr.out u k)
  rw [hn] at h2
  have HF := Lib.hid hf
  have HS := Lib.hid hs
  have HM := Lib.hid hM
  have HR := Lib.hid hr
  have HN := Lib.hid hn
  have HMm := Lib.hid hm
  clear hf hs hM hr hn hL HP hm
  go_enter Tryd.func5, Tryd.ntmps5
  go_wp2_with fail
  refine (refArgsIs c n _ hc HN.out).mono ?_
  rintro e w1 ⟨rfl, hb1⟩
  go_wp2_with fail
  refine (refMemIs c false _ hc HMm.out).mono ?_
  rintro e w2 ⟨rfl, hb2⟩
  go_wp2_with fail
  refine (HPr.out _ ((HM.out.below hb1).below hb2)).mono ?_
  rintro e w3 ⟨v, rfl, hS, hb3⟩
  go_wp2_with fail
  refine (fetchesIs _ _ _ _ hS HS.out HF.out).mono ?_
  rintro e w4 ⟨rfl, hb4⟩
  go_wp2_with fail
  refine (bytes_any 2 c _ _ hc HR.out).mono ?_
  rintro e w5 ⟨rfl, hb5⟩
  go_wp2_with fail
  refine (lives8 _ (((((HM.out.below hb1).below hb2).below hb3).below hb4).below hb5)).mono ?_
  rintro e w6 ⟨rfl, hb6⟩
  go_wp2_with fail
  go_ret
  exact ⟨rfl, (below_step (below_step (below_step (below_step (below_step hb1 hb2) hb3) hb4) hb5) hb6)⟩
theorem reads_walk (ix a : Int) (_ : (Lit.int .i64 ix).wf = true) (h : (Lit.int .u8 a).wf = true) (w : World) (hM : Modes w) : Calls Tryd.prog 5 #[.int .i64 ix, .int .u8 a] w fun e w' => e = .returned (.bool true) ∧ Below w.heap.size w w' := by
  obtain ⟨c, rfl, hc⟩ := u8_nat h
  by_cases h0 : ix < 0
  · exact readsA ix c w hc hM h0
  by_cases h1 : ix = 0
  · exact readsB ix c w hc hM h1
  cases hm : memC c with
  | true =>
    by_cases h2 : ix = 1
    · exact readsCt ix c w hc hM h2 hm
    by_cases h3 : ix = 2
    · exact readsDt ix c w hc hM h3 hm
    · exact readsEt ix c w hc hM (by omega) hm
  | false =>
    by_cases h2 : ix = 1
    · exact readsCf ix c w hc hM h2 hm
    by_cases h3 : ix = 2
    · exact readsDf ix c w hc hM h3 hm
    · exact readsEf ix c w hc hM (by omega) hm

end Go.Proofs.YthmkfojjlcinkaaDoor
