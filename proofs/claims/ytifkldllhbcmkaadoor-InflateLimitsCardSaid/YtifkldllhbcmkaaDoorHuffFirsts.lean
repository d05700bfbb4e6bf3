/- huff's firsts and places. -/
import Derived.Test.YtifkldllhbcmkaaDoorHuffCount
import Derived.ChangeAlike
namespace Go.Proofs.YtifkldllhbcmkaaDoor
open Go.RowKit
attribute [local simp ↓ high] arrAlloc_as1 arrAlloc_as2 arrStore_as1 arrStore_as2 arrLoad_as1 arrLoad_as2 arrEql_as arrBuild_as

/-- Within 'firsts' and 'places': the entries of f up to k are there. -/
structure Upto (w wr : World) (N f : Nat → Nat) (k : Nat) : Prop where
  cs : ArrAt wr w.heap.size 74 (toI N)
  res : ArrAt wr (w.heap.size + 1) 73 (fun _ => 0)
  fs : ArrAt wr (w.heap.size + 1 + 1) 73 (fun j => if j ≤ k then toI f j else 0)
  bel : Below w.heap.size w wr
theorem Upto.start (w : World) (N f : Nat → Nat) (h0 : f 0 = 0) : Upto w (((w.alloc (.cells (arrA (toI N)) 74)).alloc (.cells (arrA fun _ => 0) 73)).alloc (.cells (arrA fun _ => 0) 73)) N f 0 := by
  have h1 := ArrAt.new w 74 (toI N)
  have h2 := ArrAt.new (w.alloc (.cells (arrA (toI N)) 74)) 73 fun _ => 0
  have h3 := ArrAt.new ((w.alloc (.cells (arrA (toI N)) 74)).alloc (.cells (arrA fun _ => 0) 73)) 73 fun _ => 0
  have e : (w.alloc (.cells (arrA (toI N)) 74)).heap.size = w.heap.size + 1 := by simp
  have e2 : ((w.alloc (.cells (arrA (toI N)) 74)).alloc (.cells (arrA fun _ => 0) 73)).heap.size = w.heap.size + 1 + 1 := by simp
  rw [e] at h2
  rw [e2] at h3
  refine ⟨Cells.below (Cells.below h1 (bnew _ _)) (bnew _ _), Cells.below h2 (bnew _ _), h3.congr fun j _ => ?_, ((bnew w _).alloc (by simp) _).alloc (by simp; omega) _⟩
  by_cases c : j ≤ 0
  · obtain rfl : j = 0 := by omega
    rw [if_pos c]; unfold toI; rw [h0]; rfl
  · rw [if_neg c]
theorem Upto.next {w wr : World} {N f : Nat → Nat} {k : Nat} (h : Upto w wr N f k) (v : Int) (hv : v = toI f (k + 1)) : Upto w (wr.setCell ⟨w.heap.size + 1 + 1, k + 1, none⟩ (.int .i64 v)) N f (k + 1) := by
  obtain ⟨h1, h2, h3, h4⟩ := h
  refine ⟨Cells.block h1 (Below.heap_setCell _ _ _ _ (show w.heap.size ≠ w.heap.size + 1 + 1 by omega)), Cells.block h2 (Below.heap_setCell _ _ _ _ (show w.heap.size + 1 ≠ w.heap.size + 1 + 1 by omega)), ArrAt.congr (ArrAt.set h3 (k + 1) _) fun j hj => ?_, h4.setCell (show w.heap.size ≤ w.heap.size + 1 + 1 by omega) _⟩
  by_cases c : j = k + 1
  · subst c; rw [updN_same, if_pos (Nat.le_refl _), hv]
  · rw [updN_other _ _ _ _ c]
    by_cases d : j ≤ k
    · rw [if_pos d, if_pos (by omega)]
    · rw [if_neg d, if_neg (by omega)]
theorem Upto.drew {w wr : World} {N f : Nat → Nat} {k : Nat} (h : Upto w wr N f k) (n : Nat) : Upto w (wr.drewN n) N f k := ⟨h.cs, h.res, h.fs, bdrawn h.bel n⟩
theorem Upto.drew1 {w wr : World} {N f : Nat → Nat} {k : Nat} (h : Upto w wr N f k) : Upto w wr.drew N f k := ⟨h.cs, h.res, h.fs, ⟨h.bel.os, h.bel.tape, h.bel.output, h.bel.size, h.bel.block⟩⟩
theorem Upto.all {w wr : World} {N f : Nat → Nat} (h : Upto w wr N f 15) : ArrAt wr (w.heap.size + 1 + 1) 73 (toI f) := h.fs.congr fun j hj => if_pos (by omega)
set_option maxHeartbeats 1600000 in
theorem places_any (N : Nat → Nat) (hN : ∀ t, t ≤ 16 → plc N t ≤ 1000) (w : World) :
    Calls Tryd.prog 36 #[.agg (arrA (toI N))] w fun e w' => e = .returned (.agg (arrA (toI (plc N)))) ∧ Below w.heap.size w w' := by
  have a1 := run_arrAlloc1
  have HS := Lib.hid (Upto.start w N (plc N) rfl)
  go_enter Tryd.func36, Tryd.ntmps36
  go_wp2_with fail
  go_loopw [4] (fun i wr => ∃ k : Nat, i = .int .i64 (k + 1 : Nat) ∧ k ≤ 15 ∧ Hid (Upto w wr N (plc N) k)) (fun i _ => 16 - (intOf i).toNat)
  case atStart => exact ⟨0, rfl, by omega, HS⟩
  case round =>
    obtain ⟨k, rfl, hk, HI⟩ := hrel
    by_cases hlt : k < 15
    · have c1 := HI.out.fs.cells k (by omega)
      have c2 := HI.out.cs.cells k (by omega)
      have c3 := HI.out.fs.cells (k + 1) (by omega)
      have f1 := Cells.frozen HI.out.fs (k + 1)
      rw [if_pos (Nat.le_refl _)] at c1
      rw [if_neg (by omega)] at c3
      have hE := hN (k + 1) (by omega)
      rw [plc] at hE
      obtain ⟨a, ha⟩ : ∃ a, plc N k = a := ⟨_, rfl⟩
      obtain ⟨b, hb⟩ : ∃ b, N k = b := ⟨_, rfl⟩
      have HP := Lib.hid (HI.out.next ((a : Int) + b) (by unfold toI; rw [plc, ha, hb]; omega))
      unfold toI at c1 c2
      rw [ha] at c1 hE
      rw [hb] at c2 hE
      clear ha hb
      have d1 : decide (((k + 1 : Nat) : Int) ≤ 15) = true := decide_eq_true (by omega)
      obtain ⟨m, hm⟩ : ∃ m, k + 1 = m := ⟨_, rfl⟩
      rw [hm] at HP c3 f1 d1
      have hm1 : ((m : Int) - 1) = (k : Int) := by omega
      rw [hm]
      have hm2 : m ≤ 15 := by omega
      have HM := Lib.hid hm
      clear hm HI
      go_wp2_with fail
      go_region
      go_wp2_with fail
      have HM2 := HM.out
      refine ⟨⟨m, by go_num, hm2, Lib.hid ?_⟩, by simp [intOf]; omega⟩
      rw [← HM2] at HP ⊢
      exact HP.out.drew1
    · obtain rfl : k = 15 := by omega
      obtain ⟨W, hs, hW, hC⟩ := run_arrStore1 HI.out.res (toI (plc N))
      have ld := run_arrLoad1 HI.out.all
      have HW := Lib.hid hW
      have HB := Lib.hid (HI.out.bel.trans (hC.below (fun k hk => by omega) HI.out.bel.size))
      clear hW hC HI
      go_wp2_with fail
      exact bodyPost_ret (results_arr1 rfl _ HW.out rfl) rfl ⟨rfl, HB.out⟩

end Go.Proofs.YtifkldllhbcmkaaDoor
