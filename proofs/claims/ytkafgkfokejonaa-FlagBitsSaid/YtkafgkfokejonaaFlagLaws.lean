/- The laws of layer 1, walked. -/
import Derived.Test.YtkafgkfokejonaaFlagLives
namespace Go.Proofs.Ytkafgkfokejonaa
open Go.RowKit

theorem read_show (b : Int) (h0 : 0 ≤ b) (h1 : b ≤ 255) : readV (showS b).data.toList = b ∧ readE (showS b).data.toList = 0 ∧ (showS b).size = 8 := by
  have h : ∀ n : Fin 256, readV (showS (n.val : Int)).data.toList = (n.val : Int) ∧ readE (showS (n.val : Int)).data.toList = 0 ∧ (showS (n.val : Int)).size = 8 := by decide +kernel
  exact fin256 (P := fun b => readV (showS b).data.toList = b ∧ readE (showS b).data.toList = 0 ∧ (showS b).size = 8) h b h0 h1

theorem read_is (s : ByteArray) (v e : Int) (w : World) (hs : s.size ≤ maxLen) (hv : readV s.data.toList = v) (he : readE s.data.toList = e) :
    Calls Try.prog 21 #[.string s] w fun e' w' => e' = .returned (.tuple #[.int .u8 v, .int .i64 e]) ∧ Below w.heap.size w w' := by
  rw [← hv, ← he]; exact read_any s w hs

set_option maxHeartbeats 800000 in
theorem flagBack_walk (a0 : Int) (w0 : (Lit.int .u8 a0).wf = true) (w : World) :
    Calls Try.prog 7 #[.int .u8 a0] w fun e w' => e = .returned (.bool true) ∧ Below w.heap.size w w' := by
  obtain ⟨h0, h1⟩ := u8_bd w0
  clear w0
  obtain ⟨r1, r2, r3⟩ := read_show a0 h0 h1
  have R1 := Lib.hid r1
  have R2 := Lib.hid r2
  have R3 := Lib.hid r3
  clear r1 r2 r3
  go_enter Try.func7, Try.ntmps7
  go_wp2_with fail
  refine (show_any _ _ h0 h1).mono ?_
  rintro e w1 ⟨rfl, hb1⟩
  go_wp2_with fail
  refine (read_is _ _ _ _ (by rw [R3.out]; decide) R1.out R2.out).mono ?_
  rintro e w2 ⟨rfl, hb2⟩
  go_wp2_with fail
  refine (show_any _ _ h0 h1).mono ?_
  rintro e w3 ⟨rfl, hb3⟩
  have r3 := R3.out
  go_wp2_with fail
  refine (lives_any _).mono ?_
  rintro e w4 ⟨rfl, hb4⟩
  go_wp2_with fail
  go_ret
  exact ⟨rfl, below_step (below_step (below_step hb1 hb2) hb3) hb4⟩

set_option maxHeartbeats 800000 in
theorem flagBytes_walk (a0 : Int) (w0 : (Lit.int .u8 a0).wf = true) (w : World) :
    Calls Try.prog 3 #[.int .u8 a0] w fun e w' => e = .returned (.bool true) ∧ Below w.heap.size w w' := by
  obtain ⟨h0, h1⟩ := u8_bd w0
  clear w0
  obtain ⟨r1, r2⟩ := of_flags a0 h0 h1
  have R1 := Lib.hid r1
  have R2 := Lib.hid r2
  clear r1 r2
  go_enter Try.func3, Try.ntmps3
  go_wp2_with fail
  refine (even_any _ _ h0 h1).mono ?_
  rintro e w' ⟨rfl, rfl⟩
  go_wp2_with fail
  refine (refEven_any _ _ h0 h1).mono ?_
  rintro e w1 ⟨rfl, hb1⟩
  go_wp2_with fail
  refine (of_any _ _).mono ?_
  rintro e w' ⟨rfl, rfl⟩
  go_wp2_with fail
  refine (refOf_any _ _ h0 h1).mono ?_
  rintro e w2 ⟨rfl, hb2⟩
  rw [R1.out]
  go_wp2_with fail
  refine (ofP_any _ _ h0 h1).mono ?_
  rintro e w' ⟨rfl, rfl⟩
  go_wp2_with fail
  refine (refOfP_any _ _ h0 h1).mono ?_
  rintro e w3 ⟨rfl, hb3⟩
  rw [R2.out]
  go_wp2_with fail
  refine (lives_any _).mono ?_
  rintro e w4 ⟨rfl, hb4⟩
  go_wp2_with fail
  go_ret
  exact ⟨rfl, below_step (below_step (below_step hb1 hb2) hb3) hb4⟩

theorem cond_pair (f : Int) (k : Nat) (h : k < 8) (he : k % 2 = 0) : (condB f (k : Int) == condB f ((k : Int) + 1)) = false := by
  have : k = 0 ∨ k = 2 ∨ k = 4 ∨ k = 6 := by omega
  rcases this with rfl | rfl | rfl | rfl
  · show (condB f 0 == condB f 1) = false; rw [condB_0, condB_1]; cases bitN f 1 <;> rfl
  · show (condB f 2 == condB f 3) = false; rw [condB_2, condB_3]; cases bitN f 7 <;> rfl
  · show (condB f 4 == condB f 5) = false; rw [condB_4, condB_5]; cases bitN f 5 <;> rfl
  · show (condB f 6 == condB f 7) = false; rw [condB_6, condB_7]; cases bitN f 0 <;> rfl

set_option maxHeartbeats 800000 in
theorem flagConds_walk (a0 a1 : Int) (w0 : (Lit.int .u8 a0).wf = true) (_w1 : (Lit.int .i64 a1).wf = true) (w : World) :
    Calls Try.prog 5 #[.int .u8 a0, .int .i64 a1] w fun e w' => e = .returned (.bool true) ∧ Below w.heap.size w w' := by
  obtain ⟨h0, h1⟩ := u8_bd w0
  clear w0 _w1
  go_enter Try.func5, Try.ntmps5
  go_wp2_with fail
  refine (cond_any _ _ _ h0 h1).mono ?_
  rintro e w1 ⟨rfl, hb1⟩
  go_wp2_with fail
  refine (refCond_any _ _ _ h0 h1).mono ?_
  rintro e w2 ⟨rfl, hb2⟩
  have hb := below_step hb1 hb2
  clear hb1 hb2
  generalize condB a0 a1 = c
  go_wp2_with fail
  go_loopw [5] (fun i wr => ∃ k : Nat, k ≤ 8 ∧ k % 2 = 0 ∧ i = .int .i64 k ∧ Below w.heap.size w wr) (fun i _ => 8 - (intOf i).toNat)
  case atStart => exact ⟨0, by omega, by omega, rfl, hb⟩
  case round =>
    obtain ⟨k, hk, hev, rfl, hnx⟩ := hrel
    have HEV := Lib.hid hev; clear hev
    by_cases hlt : k < 8
    · have hp := cond_pair a0 k hlt HEV.out
      go_wp2_with fail
      refine (cond_any _ _ _ h0 h1).mono ?_
      rintro e w3 ⟨rfl, hb3⟩
      go_wp2_with fail
      refine (cond_any _ _ _ h0 h1).mono ?_
      rintro e w4 ⟨rfl, hb4⟩
      go_wp2_with fail
      go_roundw
      case rel => exact ⟨k + 2, by have := HEV.out; omega, by have := HEV.out; omega, by go_num, below_step (below_step hnx hb3) hb4⟩
      case measure => simp [intOf]; omega
    · go_wp2_with fail
      refine (lives_any _).mono ?_
      rintro e w3 ⟨rfl, hb3⟩
      go_wp2_with fail
      go_ret
      exact ⟨rfl, below_step hnx hb3⟩

end Go.Proofs.Ytkafgkfokejonaa
