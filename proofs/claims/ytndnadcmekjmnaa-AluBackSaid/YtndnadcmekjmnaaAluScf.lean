/- The document's Scf and Ccf: their contracts. -/
import Derived.Test.YtndnadcmekjmnaaAluRef
import Derived.StillTailTactics
namespace Go.Proofs.Ytndnadcmekjmnaa
open Go.RowKit

set_option maxHeartbeats 3200000 in
theorem refScf_any (a f q : Int) (w : World) (a0 : 0 ≤ a) (a1 : a ≤ 255) (f0 : 0 ≤ f) (f1 : f ≤ 255) (q0 : 0 ≤ q) (q1 : q ≤ 255) :
    Calls Try.prog 32 #[.int .u8 a, .int .u8 f, .int .u8 q] w fun e w' => e = .returned (.int .u8 (scfF a f q)) ∧ Below w.heap.size w w' := by
  go_enter Try.func32, Try.ntmps32
  go_wp2_with fail
  refine (bits_any _ _ f0 f1).mono ?_
  rintro e w1 ⟨v, rfl, hv, hb1⟩
  obtain ⟨g, cap, rfl, hg, hc, hm, hcell⟩ := bits_cells hv
  have HC := Lib.hid hcell
  clear hv hcell
  go_wp2_with fail
  refine (bits_any _ _ q0 q1).mono ?_
  rintro e w2 ⟨v, rfl, hv, hb2⟩
  obtain ⟨g2, cap2, rfl, hg2, hc2, hm2, hcell⟩ := bits_cells hv
  have HC2 := Lib.hid hcell
  clear hv hcell
  go_wp2_with fail
  refine (bits_any _ _ a0 a1).mono ?_
  rintro e w3 ⟨v, rfl, hv, hb3⟩
  obtain ⟨g3, cap3, rfl, hg3, hc3, hm3, hcell⟩ := bits_cells hv
  have hb23 := below_step hb2 hb3
  have f0c := (hb23.cell (p := ⟨g, 0, none⟩) hg).trans (HC.out 0 (by decide))
  have f1c := (hb23.cell (p := ⟨g, 1, none⟩) hg).trans (HC.out 1 (by decide))
  have f2c := (hb23.cell (p := ⟨g, 2, none⟩) hg).trans (HC.out 2 (by decide))
  have f4c := (hb23.cell (p := ⟨g, 4, none⟩) hg).trans (HC.out 4 (by decide))
  have f5c := (hb23.cell (p := ⟨g, 5, none⟩) hg).trans (HC.out 5 (by decide))
  have q2c := (hb3.cell (p := ⟨g2, 2, none⟩) hg2).trans (HC2.out 2 (by decide))
  have q4c := (hb3.cell (p := ⟨g2, 4, none⟩) hg2).trans (HC2.out 4 (by decide))
  have a2c := hcell 2 (by decide)
  have a4c := hcell 4 (by decide)
  clear hv hcell HC HC2
  have hb := below_step (below_step hb1 hb2) hb3
  have HF : flagsOf (bitN f 0) (bitN f 1) (!(bitN f 2 == bitN q 2) || bitN a 2) false (!(bitN f 4 == bitN q 4) || bitN a 4) (bitN f 5) false true = scfF a f q := rfl
  clear hb1 hb2 hb3 hb23
  generalize hd2 : (bitN f 2 == bitN q 2) = d2 at HF
  generalize hd4 : (bitN f 4 == bitN q 4) = d4 at HF
  cases d2 <;> cases d4
  all_goals
    simp only [Bool.not_false, Bool.not_true, Bool.true_or, Bool.false_or] at HF
    have HF := Lib.hid HF
    go_wp2_with fail
    go_still_tail 33, (by kernel_rfl)
    change wpList _ _ _ _ _ w3.drew
    have hb' : Below w.heap.size w w3.drew := hb.drew
    generalize w3.drew = w4 at *
    go_wp2_with fail
    refine (flags_is _ _ _ _ _ _ _ _ _ _ HF.out).mono ?_
    rintro e w5 ⟨rfl, hb5⟩
    go_wp2_with fail
    go_ret
    exact ⟨rfl, below_step hb' hb5⟩

set_option maxHeartbeats 3200000 in
theorem refCcf_any (a f q : Int) (w : World) (a0 : 0 ≤ a) (a1 : a ≤ 255) (f0 : 0 ≤ f) (f1 : f ≤ 255) (q0 : 0 ≤ q) (q1 : q ≤ 255) :
    Calls Try.prog 34 #[.int .u8 a, .int .u8 f, .int .u8 q] w fun e w' => e = .returned (.int .u8 (ccfF a f q)) ∧ Below w.heap.size w w' := by
  go_enter Try.func34, Try.ntmps34
  go_wp2_with fail
  refine (bits_any _ _ f0 f1).mono ?_
  rintro e w1 ⟨v, rfl, hv, hb1⟩
  obtain ⟨g, cap, rfl, hg, hc, hm, hcell⟩ := bits_cells hv
  have HC := Lib.hid hcell
  clear hv hcell
  go_wp2_with fail
  refine (bits_any _ _ q0 q1).mono ?_
  rintro e w2 ⟨v, rfl, hv, hb2⟩
  obtain ⟨g2, cap2, rfl, hg2, hc2, hm2, hcell⟩ := bits_cells hv
  have HC2 := Lib.hid hcell
  clear hv hcell
  go_wp2_with fail
  refine (bits_any _ _ a0 a1).mono ?_
  rintro e w3 ⟨v, rfl, hv, hb3⟩
  obtain ⟨g3, cap3, rfl, hg3, hc3, hm3, hcell⟩ := bits_cells hv
  have hb23 := below_step hb2 hb3
  have f0c := (hb23.cell (p := ⟨g, 0, none⟩) hg).trans (HC.out 0 (by decide))
  have f1c := (hb23.cell (p := ⟨g, 1, none⟩) hg).trans (HC.out 1 (by decide))
  have f2c := (hb23.cell (p := ⟨g, 2, none⟩) hg).trans (HC.out 2 (by decide))
  have f4c := (hb23.cell (p := ⟨g, 4, none⟩) hg).trans (HC.out 4 (by decide))
  have f5c := (hb23.cell (p := ⟨g, 5, none⟩) hg).trans (HC.out 5 (by decide))
  have f7c := (hb23.cell (p := ⟨g, 7, none⟩) hg).trans (HC.out 7 (by decide))
  have q2c := (hb3.cell (p := ⟨g2, 2, none⟩) hg2).trans (HC2.out 2 (by decide))
  have q4c := (hb3.cell (p := ⟨g2, 4, none⟩) hg2).trans (HC2.out 4 (by decide))
  have a2c := hcell 2 (by decide)
  have a4c := hcell 4 (by decide)
  clear hv hcell HC HC2
  have hb := below_step (below_step hb1 hb2) hb3
  have HF : flagsOf (bitN f 0) (bitN f 1) (!(bitN f 2 == bitN q 2) || bitN a 2) (bitN f 7) (!(bitN f 4 == bitN q 4) || bitN a 4) (bitN f 5) false (!bitN f 7) = ccfF a f q := rfl
  clear hb1 hb2 hb3 hb23
  generalize hd2 : (bitN f 2 == bitN q 2) = d2 at HF
  generalize hd4 : (bitN f 4 == bitN q 4) = d4 at HF
  cases d2 <;> cases d4
  all_goals
    simp only [Bool.not_false, Bool.not_true, Bool.true_or, Bool.false_or] at HF
    have HF := Lib.hid HF
    go_wp2_with fail
    go_still_tail 40, (by kernel_rfl)
    change wpList _ _ _ _ _ w3.drew
    have hb' : Below w.heap.size w w3.drew := hb.drew
    generalize w3.drew = w4 at *
    go_wp2_with fail
    refine (flags_is _ _ _ _ _ _ _ _ _ _ HF.out).mono ?_
    rintro e w5 ⟨rfl, hb5⟩
    go_wp2_with fail
    go_ret
    exact ⟨rfl, below_step hb' hb5⟩

end Go.Proofs.Ytndnadcmekjmnaa
