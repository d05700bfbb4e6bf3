/- WireFaults walked. -/
import Derived.Test.YtliohkgaonnioaaDoorWireText
import Derived.LaidEqlPtr
namespace Go.Proofs.YtliohkgaonnioaaDoor
open Go.RowKit
set_option linter.unusedVariables false
set_option linter.unusedSimpArgs false

theorem lives_on {w w1 : World} (h : Below w.heap.size w w1) : Calls Tryd.prog 18 #[] w1 fun e w' => e = .returned (.bool true) ∧ Below w.heap.size w w' := by
  refine (lives17 w1).mono ?_
  rintro e w' ⟨rfl, hb⟩
  exact ⟨rfl, h.trans (hb.mono h.size)⟩
theorem itoa_nat (n : Nat) : Lib.itoa (n : Int) = Lib.decDigits n := by
  unfold Lib.itoa
  rw [if_neg (by omega), Int.toNat_natCast]
set_option maxRecDepth 100000 in
set_option maxHeartbeats 6400000 in
theorem faults_walk (n x : Int) (hn : (Lit.int .i64 n).wf = true) (hx : (Lit.int .i64 x).wf = true) (w : World) (ht : Pows w) : Calls Tryd.prog 3 #[.int .i64 n, .int .i64 x] w fun e w' => e = .returned (.bool true) ∧ Below w.heap.size w w' := by
  obtain ⟨n0, n1⟩ := bounds_i64 hn
  obtain ⟨x0, x1⟩ := bounds_i64 hx
  obtain ⟨m1, hm1⟩ : ∃ m1 : Int, (if (100 : Int) < n then (100 : Int) else n) = m1 := ⟨_, rfl⟩
  obtain ⟨E, hE⟩ : ∃ E : Nat, (if (1 : Int) < m1 then m1 else 1) = (E : Int) := ⟨(if (1 : Int) < m1 then m1 else 1).toNat, by split <;> omega⟩
  have E1 : 1 ≤ E := by split at hE <;> omega
  have E100 : E ≤ 100 := by split at hE <;> split at hm1 <;> omega
  obtain ⟨m2, hm2⟩ : ∃ m2 : Int, (if (1000000 : Int) < x then (1000000 : Int) else x) = m2 := ⟨_, rfl⟩
  obtain ⟨Q, hQ⟩ : ∃ Q : Nat, (if (0 : Int) < m2 then m2 else 0) = (Q : Int) := ⟨(if (0 : Int) < m2 then m2 else 0).toNat, by split <;> omega⟩
  have Q1 : Q ≤ 1000000 := by split at hQ <;> split at hm2 <;> omega
  have hm1' : min n 100 = m1 := by rw [← hm1]; split <;> omega
  have hE' : max 1 m1 = (E : Int) := by rw [← hE]; split <;> omega
  have hm2' : min x 1000000 = m2 := by rw [← hm2]; split <;> omega
  have hQ' : max 0 m2 = (Q : Int) := by rw [← hQ]; split <;> omega
  obtain ⟨T1, hT1⟩ : ∃ T1, strL (Lib.decDigits E) = T1 := ⟨_, rfl⟩
  obtain ⟨T2, hT2⟩ : ∃ T2, strL (Lib.decDigits Q) = T2 := ⟨_, rfl⟩
  have s1 : T1.size ≤ 2000000 := by rw [← hT1, strL_size]; have := dec_len_le E; omega
  have s2 : T2.size ≤ 2000000 := by rw [← hT2, strL_size]; have := dec_len_le Q; omega
  have HD1 := Lib.hid (fun w => digits_any E w (by omega))
  have HD2 := Lib.hid (fun w => digits_any Q w (by omega))
  rw [hT1] at HD1
  rw [hT2] at HD2
  have HT1 := Lib.hid (show strL (Lib.itoa (E : Int)) = T1 by rw [itoa_nat, hT1])
  have HT2 := Lib.hid (show strL (Lib.itoa (Q : Int)) = T2 by rw [itoa_nat, hT2])
  have H0 := Lib.hid (open_any _ _ 2 2 [1, 2] _ (BAt8.new w [1, 2] 5 (0, 0) #[.int .u8 1, .int .u8 2] 2 rfl rfl (by unfold maxLen; omega) (by decide)) (by omega))
  have HB0 := Lib.hid (bnew w (.cells #[.int .u8 1, .int .u8 2] 5))
  have HP := Lib.hid ht
  clear hT1 hT2 ht
  go_enter Tryd.func3, Tryd.ntmps3
  go_wp2_with fail
  clear hm1 hm2 hE hQ hm1' hm2' hE' hQ'
  refine H0.out.mono ?_
  rintro e w1 ⟨g, rfl, hg, hr, hb1⟩
  have HB1 := Lib.hid (HB0.out.trans (hb1.mono HB0.out.size))
  have hg0 : w.heap.size ≤ g := by simp at hg; omega
  have HF := Lib.hid (fail_new _ w1 g [1, 2] 0 0 hr (E : Int) (Q : Int) (by omega))
  clear hr hb1 H0 HB0
  go_wp2_with fail
  refine HF.out.mono ?_
  rintro e w2 ⟨rfl, hr, hc⟩
  have HB2 : Hid (Below w.heap.size w w2) := Lib.hid (HB1.out.trans (hc.below (fun i hi => by omega) HB1.out.size))
  have HE := Lib.hid (end_bad _ w2 g [1, 2] 0 (E : Int) (Q : Int) hr (by omega))
  clear hr hc HF HB1
  go_wp2_with fail
  refine HE.out.mono ?_
  rintro e w3 ⟨k, rfl, hk, hf, hb3⟩
  have HB3 := Lib.hid (HB2.out.trans (hb3.mono HB2.out.size))
  have qa : ∀ u, (Instr.typeAssert (.iface 30 (.pointer (some ⟨k, 0, none⟩))) 28 30 true).run Tryd.prog u = .ok (.tuple #[.pointer (some ⟨k, 0, none⟩), .bool true]) u := fun _ => rfl
  have qe : ∀ u, (binOp .eql 30 (.pointer (some ⟨k, 0, none⟩)) (.pointer (some ⟨k, 0, none⟩))).run Tryd.prog u = .ok (.bool true) u := fun u => by
    obtain ⟨i, hi⟩ : ∃ i, Tryd.prog.info? 33 = some i := Option.isSome_iff_exists.1 (by kernel_rfl)
    exact run_eql_ptr_same (w := u) _ Tryd.underlying30 hi
  have qn : ∀ u, (binOp .eql 28 .nilIface .nilIface).run Tryd.prog u = .ok (.bool true) u := fun _ => rfl
  have c0 := cell_of_row w3 k 0 _ _ (0, 0) hf
  have c1 := cell_of_row w3 k 1 _ _ (0, 0) hf
  simp at c0 c1
  have HX := Lib.hid (error_any w3 k (E : Int) (Q : Int) T1 T2 hf (HP.out.below HB3.out) (by omega) (by omega) (by omega) (by omega) HT1.out HT2.out s1 s2)
  clear hk hf hb3 HE HB2
  go_wp2_with fail
  refine HX.out.mono ?_
  rintro e w4 ⟨rfl, hb4⟩
  have HB4 := Lib.hid (HB3.out.trans (hb4.mono HB3.out.size))
  clear hb4 HX c0 c1 HB3
  go_wp2_with fail
  refine (HD1.out _).mono ?_
  rintro e w' ⟨rfl, rfl⟩
  go_wp2_with fail
  refine (HD2.out _).mono ?_
  rintro e w' ⟨rfl, rfl⟩
  go_wp2_with fail
  refine (fail_nil _ _ _).mono ?_
  rintro e w' ⟨rfl, rfl⟩
  go_wp2_with fail
  refine (only_any _ _).mono ?_
  rintro e w' ⟨rfl, rfl⟩
  go_wp2_with fail
  refine (why_nil _).mono ?_
  rintro e w' ⟨rfl, rfl⟩
  go_wp2_with fail
  refine (error_nil _).mono ?_
  rintro e w' ⟨rfl, rfl⟩
  go_wp2_with fail
  refine (read_nil 1 (by decide) (by decide) _).mono ?_
  rintro e w5 ⟨rfl, k5, rfl⟩
  have HB5 := Lib.hid (bdrawn HB4.out k5)
  generalize w4.drewN k5 = w5 at *
  go_wp2_with fail
  refine (signed_nil _).mono ?_
  rintro e w6 ⟨rfl, k6, rfl⟩
  have HB6 := Lib.hid (bdrawn HB5.out k6)
  generalize w5.drewN k6 = w6 at *
  go_wp2_with fail
  refine (take_nil _).mono ?_
  rintro e w7 ⟨rfl, k7, rfl⟩
  have HB7 := Lib.hid (bdrawn HB6.out k7)
  generalize w6.drewN k7 = w7 at *
  go_wp2_with fail
  refine (numbers_nil _).mono ?_
  rintro e w8 ⟨rfl, k8, rfl⟩
  have HB8 := Lib.hid (bdrawn HB7.out k8)
  generalize w7.drewN k8 = w8 at *
  go_wp2_with fail
  refine (at_nil _).mono ?_
  rintro e w' ⟨rfl, rfl⟩
  go_wp2_with fail
  refine (left_nil _).mono ?_
  rintro e w9 ⟨rfl, k9, rfl⟩
  have HB9 := Lib.hid (bdrawn HB8.out k9)
  generalize w8.drewN k9 = w9 at *
  go_wp2_with fail
  refine (bad_nil _).mono ?_
  rintro e w' ⟨rfl, rfl⟩
  go_wp2_with fail
  refine (end_nil _).mono ?_
  rintro e w10 ⟨rfl, k10, rfl⟩
  have HL := Lib.hid (lives_on (bdrawn HB9.out k10))
  generalize w9.drewN k10 = w10 at *
  go_wp2_with fail
  refine HL.out.mono ?_
  rintro e w11 ⟨rfl, hb11⟩
  go_wp2_with fail
  go_ret
  exact ⟨rfl, hb11⟩

end Go.Proofs.YtliohkgaonnioaaDoor
