/- Texts put together: TzxBlkC, TzxBlkD, TzxBlkE, TzxWk, TzxTape, TzxBlock, TzxAhd, WireEnd, TzxParse. -/
import Derived.Test.YthlaglhlmbkniaaBas5
import Derived.Test.YthlaglhlmbkniaaBas2
import Derived.Test.YthlaglhlmbkniaaBas1
import Derived.Test.YthlaglhlmbkniaaBas3
import Derived.Deep.LoopGhost
import Derived.Test.YthlaglhlmbkniaaBas6
/- tzx.block, case by case: blocks of lists. -/
namespace Go.Proofs.Ythlaglhlmbkniaa
open Go.RowKit
set_option linter.unusedVariables false
set_option linter.unusedSimpArgs false
set_option maxRecDepth 100000
attribute [local simp ↓ high] blkLoad_as blkStore_as blkAlloc_as blkBuild_as

set_option maxHeartbeats 1200000 in
theorem block_19 (F : Nat → Prop) (w : World) (g : Nat) (l : List Int) (s : Rst) (h : RS F w g l s) (hF : ∀ i, F i → i < w.heap.size) (hl : l.length ≤ 1000000) (h8 : Hid (Byte8 l)) (hid : numV l s 1 = 19) :
    Calls Try.prog 38 #[.pointer (some ⟨g, 0, none⟩)] w (BlkE F w g l (takS l (takS l (takS l s 1) 1) (2 * (numV l (takS l s 1) 1).toNat)) 19) := by
  have HM := Lib.hid (fun u t (hr : Hid (RS F u g l t)) => num_any F u g l t hr hl 1 1 rfl (by decide) (by decide))
  have hV := numV_bd h8.out (takS l s 1) 1
  obtain ⟨N, hN⟩ : ∃ N : Nat, numV l (takS l s 1) 1 = N := ⟨(numV l (takS l s 1) 1).toNat, by omega⟩
  have hN2 : N < 256 := by have h2 : numV l (takS l s 1) 1 < 256 := hV.2; omega
  have HNN := Lib.hid hN
  have hbd : ∀ (A : Option Addr) (n c : Nat) u, (blkBuild #[(0, .int .i64 19), (13, .slice A n c)]).run Try.prog u = .ok (.agg (bcs [(0, .int .i64 19), (13, .slice A n c)])) u := fun A n c u => run_build u _ _ _ (show Try.prog.built 30 [(0, .int .i64 19), (13, .slice A n c)] = some (bcs [(0, .int .i64 19), (13, .slice A n c)]) by kernel_rfl)
  have HV : Hid (∀ (G : Nat → Prop) u (A : Option Addr) (n c : Nat) ts, IAt G u A n c ts → BV G u (bcs [(0, .int .i64 19), (13, .slice A n c)]) ⟨19, ts, []⟩) := Lib.hid fun G u A n c ts hi => bv_ts hi (by kernel_rfl) (by kernel_rfl) (by kernel_rfl) (by kernel_rfl)
  have HL := Lib.hid (fun u t (hr : Hid (RS F u g l t)) hFu => nums_any F u g l t hr hFu hl N 2 (by decide) (by decide))
  have HS : Hid (takS l (takS l (takS l s 1) 1) (2 * N) = takS l (takS l (takS l s 1) 1) (2 * (numV l (takS l s 1) 1).toNat)) := Lib.hid (by rw [hN, Int.toNat_natCast])
  clear hN hV
  have hal := run_blkAlloc
  have h0 : RS F ((w.alloc (.cells #[.pointer (some ⟨g, 0, none⟩)] 64)).alloc (.cells blkZ 30)) g l s := (h.below (bnew w _)).below (bnew _ _)
  have HA := Lib.hid (at_s F _ g l s (Lib.hid h0))
  have HN := Lib.hid (num_any F _ g l s (Lib.hid h0) hl 1 1 rfl (by decide) (by decide))
  rw [hid] at HN
  have HB := Lib.hid (fun u (hr : RS F u g l (takS l s 1)) hc => Bk.new (id := 19) h hF hr hc)
  have HF := Lib.hid hF
  obtain ⟨b1, hb1⟩ : ∃ b1, w.heap.size = b1 := ⟨_, rfl⟩
  clear h hF h0 hid
  go_enter Try.func38, Try.ntmps38
  go_wp2_with fail
  refine HA.out.mono ?_
  rintro x w1 ⟨rfl, rfl⟩
  go_wp2_with fail
  refine HN.out.mono ?_
  rintro x w2 ⟨rfl, hr2, hc2⟩
  have HK := Lib.hid (HB.out w2 hr2 hc2)
  obtain ⟨b4, hb4⟩ : ∃ b4, w2.heap.size = b4 := ⟨_, rfl⟩
  obtain ⟨W2, hW2⟩ : ∃ W2, w2.alloc (.cells #[.int .i64 19] 3) = W2 := ⟨_, rfl⟩
  rw [hW2, hb1, hb4] at HK
  obtain ⟨c1, c4⟩ := HK.out.cells
  have K0 := Lib.hid HK.out.drew
  clear hr2 hc2 HA HN HB
  go_wp2_with fail
  clear hW2 hb4 hb1
  first | refine wp_region_noPanic ?_ | skip
  refine wp_region_U (n := 6) (S := (fun u : World => u.cell? ⟨b1, 0, none⟩ = some (.pointer (some ⟨g, 0, none⟩)) ∧ u.cell? ⟨b4, 0, none⟩ = some (.int .i64 19))) (by kernel_rfl) (by kernel_rfl) (⟨c1, c4⟩) (fun hHeld => ?_)
  refine wpAnyU_take (i := 0) (v := ?v1) rfl (by kernel_rfl) (by kernel_rfl) (by kernel_rfl) (by kernel_rfl) (fun _ _ _ h => h) (Or.inl ⟨by rfl, ?hy1⟩) (by assumption) ?rest1
  case hy1 => (intro w hSw; (try dsimp only at hSw); go_simp; try with_reducible rfl)
  try simp only [Act.put, List.getElem_toArray, List.getElem_cons_succ, List.getElem_cons_zero, List.setIfInBounds_toArray, List.set_cons_zero, List.set_cons_succ]
  refine wpAnyU_take (i := 1) (v := ?v2) rfl (by kernel_rfl) (by kernel_rfl) (by kernel_rfl) (by kernel_rfl) (fun _ _ _ h => h) (Or.inl ⟨by rfl, ?hy2⟩) (by assumption) ?rest2
  case hy2 => (intro w hSw; (try dsimp only at hSw); go_simp; try with_reducible rfl)
  try simp only [Act.put, List.getElem_toArray, List.getElem_cons_succ, List.getElem_cons_zero, List.setIfInBounds_toArray, List.set_cons_zero, List.set_cons_succ]
  refine wpAnyU_take (i := 2) (v := ?v3) rfl (by kernel_rfl) (by kernel_rfl) (by kernel_rfl) (by kernel_rfl) (fun _ _ _ h => h) (Or.inl ⟨by rfl, ?hy3⟩) (by assumption) ?rest3
  case hy3 => (intro w hSw; (try dsimp only at hSw); go_simp; try with_reducible rfl)
  try simp only [Act.put, List.getElem_toArray, List.getElem_cons_succ, List.getElem_cons_zero, List.setIfInBounds_toArray, List.set_cons_zero, List.set_cons_succ]
  refine wpAnyU_ready (i := 3) (by kernel_rfl) (by kernel_rfl) rfl (fun K hK => ?_)
  go_simp
  refine (((HM.out _ _ (Lib.hid K0.out.rs)))).mono ?_
  rintro e w' ⟨rfl, hr, hc⟩
  go_wp2_with fail
  refine hK.out _ _ ((K0.out.rd hr hc).cells) (fun hHeld => ?_)
  clear hK K
  try simp only [Act.put, List.getElem_toArray, List.getElem_cons_succ, List.getElem_cons_zero, List.setIfInBounds_toArray, List.set_cons_zero, List.set_cons_succ]
  have K1 := Lib.hid (K0.out.rd hr hc)
  clear hr hc
  rw [HNN.out]
  refine wpAnyU_ready (i := 4) (by kernel_rfl) (by kernel_rfl) rfl (fun K hK => ?_)
  go_simp
  refine (((HL.out _ _ (Lib.hid K1.out.rs) (Lib.hid fun i hi => Nat.lt_of_lt_of_le (HF.out i hi) K1.out.ch.size)))).mono ?_
  rintro e w' ⟨A, n, c, ts, rfl, hi, hr, hc⟩
  go_wp2_with fail
  refine hK.out _ _ ((K1.out.rd hr hc).cells) (fun hHeld => ?_)
  clear hK K
  try simp only [Act.put, List.getElem_toArray, List.getElem_cons_succ, List.getElem_cons_zero, List.setIfInBounds_toArray, List.set_cons_zero, List.set_cons_succ]
  have K2 : Hid (Bk F w w' g l (takS l (takS l (takS l s 1) 1) (2 * (numV l (takS l s 1) 1).toNat)) b1 (b1 + 1) b4 19) := Lib.hid (HS.out ▸ K1.out.rd hr hc)
  have HB := Lib.hid (HV.out _ _ A n c ts hi)
  have hst := run_blkStore K2.out.c2 HB.out.size HB.out.one
  have HE := Lib.hid (K2.out.made HB.out (fun k _ hk => by have h1 := K1.out.ch.size; have h2 := K1.out.c2.lt; omega) rfl)
  have hbd1 := hbd A n c
  clear hbd hr hc hi
  generalize bcs [(0, .int .i64 19), (13, .slice A n c)] = cs at *
  refine wpAnyU_take (i := 5) (v := ?v4) rfl (by kernel_rfl) (by kernel_rfl) (by kernel_rfl) (by kernel_rfl) (fun _ _ _ h => h) (Or.inl ⟨by rfl, ?hy4⟩) (by assumption) ?rest4
  case hy4 => (intro w hSw; (try dsimp only at hSw); go_simp; try with_reducible rfl)
  try simp only [Act.put, List.getElem_toArray, List.getElem_cons_succ, List.getElem_cons_zero, List.setIfInBounds_toArray, List.set_cons_zero, List.set_cons_succ]
  refine wpAnyU_tail rfl (by kernel_rfl) ?_
  simp only [List.drop_succ_cons, List.drop_zero]
  go_wp2_with fail
  refine NoPanic.normal ?_
  go_wp2_with fail
  exact bodyPost_ret (results_blk rfl _ HE.out.2 rfl) rfl HE.out.1
set_option maxHeartbeats 1200000 in
theorem block_51 (F : Nat → Prop) (w : World) (g : Nat) (l : List Int) (s : Rst) (h : RS F w g l s) (hF : ∀ i, F i → i < w.heap.size) (hl : l.length ≤ 1000000) (h8 : Hid (Byte8 l)) (hid : numV l s 1 = 51) :
    Calls Try.prog 38 #[.pointer (some ⟨g, 0, none⟩)] w (BlkE F w g l (takS l (takS l (takS l s 1) 1) (1 * (3 * (numV l (takS l s 1) 1).toNat))) 51) := by
  have HM := Lib.hid (fun u t (hr : Hid (RS F u g l t)) => num_any F u g l t hr hl 1 1 rfl (by decide) (by decide))
  have hV := numV_bd h8.out (takS l s 1) 1
  obtain ⟨N, hN⟩ : ∃ N : Nat, numV l (takS l s 1) 1 = N := ⟨(numV l (takS l s 1) 1).toNat, by omega⟩
  have hN2 : N < 256 := by have h2 : numV l (takS l s 1) 1 < 256 := hV.2; omega
  have HNN := Lib.hid hN
  have hbd : ∀ (A : Option Addr) (n c : Nat) u, (blkBuild #[(0, .int .i64 51), (13, .slice A n c)]).run Try.prog u = .ok (.agg (bcs [(0, .int .i64 51), (13, .slice A n c)])) u := fun A n c u => run_build u _ _ _ (show Try.prog.built 30 [(0, .int .i64 51), (13, .slice A n c)] = some (bcs [(0, .int .i64 51), (13, .slice A n c)]) by kernel_rfl)
  have HV : Hid (∀ (G : Nat → Prop) u (A : Option Addr) (n c : Nat) ts, IAt G u A n c ts → BV G u (bcs [(0, .int .i64 51), (13, .slice A n c)]) ⟨51, ts, []⟩) := Lib.hid fun G u A n c ts hi => bv_ts hi (by kernel_rfl) (by kernel_rfl) (by kernel_rfl) (by kernel_rfl)
  obtain ⟨M, hM⟩ : ∃ M, 3 * N = M := ⟨_, rfl⟩
  have HW : Hid (IntKind.i64.wrap (3 * (N : Int)) = (M : Int)) := Lib.hid (by rw [IntKind.wrap_i64, ← hM]; omega)
  have HL := Lib.hid (fun u t (hr : Hid (RS F u g l t)) hFu => nums_any F u g l t hr hFu hl M 1 (by decide) (by decide))
  have HS : Hid (takS l (takS l (takS l s 1) 1) (1 * M) = takS l (takS l (takS l s 1) 1) (1 * (3 * (numV l (takS l s 1) 1).toNat))) := Lib.hid (by rw [hN, Int.toNat_natCast, hM])
  clear hN hV hM
  have hal := run_blkAlloc
  have h0 : RS F ((w.alloc (.cells #[.pointer (some ⟨g, 0, none⟩)] 64)).alloc (.cells blkZ 30)) g l s := (h.below (bnew w _)).below (bnew _ _)
  have HA := Lib.hid (at_s F _ g l s (Lib.hid h0))
  have HN := Lib.hid (num_any F _ g l s (Lib.hid h0) hl 1 1 rfl (by decide) (by decide))
  rw [hid] at HN
  have HB := Lib.hid (fun u (hr : RS F u g l (takS l s 1)) hc => Bk.new (id := 51) h hF hr hc)
  have HF := Lib.hid hF
  obtain ⟨b1, hb1⟩ : ∃ b1, w.heap.size = b1 := ⟨_, rfl⟩
  clear h hF h0 hid
  go_enter Try.func38, Try.ntmps38
  go_wp2_with fail
  refine HA.out.mono ?_
  rintro x w1 ⟨rfl, rfl⟩
  go_wp2_with fail
  refine HN.out.mono ?_
  rintro x w2 ⟨rfl, hr2, hc2⟩
  have HK := Lib.hid (HB.out w2 hr2 hc2)
  obtain ⟨b4, hb4⟩ : ∃ b4, w2.heap.size = b4 := ⟨_, rfl⟩
  obtain ⟨W2, hW2⟩ : ∃ W2, w2.alloc (.cells #[.int .i64 51] 3) = W2 := ⟨_, rfl⟩
  rw [hW2, hb1, hb4] at HK
  obtain ⟨c1, c4⟩ := HK.out.cells
  have K0 := Lib.hid HK.out.drew
  clear hr2 hc2 HA HN HB
  go_wp2_with fail
  clear hW2 hb4 hb1
  first | refine wp_region_noPanic ?_ | skip
  refine wp_region_U (n := 7) (S := (fun u : World => u.cell? ⟨b1, 0, none⟩ = some (.pointer (some ⟨g, 0, none⟩)) ∧ u.cell? ⟨b4, 0, none⟩ = some (.int .i64 51))) (by kernel_rfl) (by kernel_rfl) (⟨c1, c4⟩) (fun hHeld => ?_)
  refine wpAnyU_take (i := 0) (v := ?v5) rfl (by kernel_rfl) (by kernel_rfl) (by kernel_rfl) (by kernel_rfl) (fun _ _ _ h => h) (Or.inl ⟨by rfl, ?hy5⟩) (by assumption) ?rest5
  case hy5 => (intro w hSw; (try dsimp only at hSw); go_simp; try with_reducible rfl)
  try simp only [Act.put, List.getElem_toArray, List.getElem_cons_succ, List.getElem_cons_zero, List.setIfInBounds_toArray, List.set_cons_zero, List.set_cons_succ]
  refine wpAnyU_take (i := 1) (v := ?v6) rfl (by kernel_rfl) (by kernel_rfl) (by kernel_rfl) (by kernel_rfl) (fun _ _ _ h => h) (Or.inl ⟨by rfl, ?hy6⟩) (by assumption) ?rest6
  case hy6 => (intro w hSw; (try dsimp only at hSw); go_simp; try with_reducible rfl)
  try simp only [Act.put, List.getElem_toArray, List.getElem_cons_succ, List.getElem_cons_zero, List.setIfInBounds_toArray, List.set_cons_zero, List.set_cons_succ]
  refine wpAnyU_take (i := 2) (v := ?v7) rfl (by kernel_rfl) (by kernel_rfl) (by kernel_rfl) (by kernel_rfl) (fun _ _ _ h => h) (Or.inl ⟨by rfl, ?hy7⟩) (by assumption) ?rest7
  case hy7 => (intro w hSw; (try dsimp only at hSw); go_simp; try with_reducible rfl)
  try simp only [Act.put, List.getElem_toArray, List.getElem_cons_succ, List.getElem_cons_zero, List.setIfInBounds_toArray, List.set_cons_zero, List.set_cons_succ]
  refine wpAnyU_ready (i := 3) (by kernel_rfl) (by kernel_rfl) rfl (fun K hK => ?_)
  go_simp
  refine (((HM.out _ _ (Lib.hid K0.out.rs)))).mono ?_
  rintro e w' ⟨rfl, hr, hc⟩
  go_wp2_with fail
  refine hK.out _ _ ((K0.out.rd hr hc).cells) (fun hHeld => ?_)
  clear hK K
  try simp only [Act.put, List.getElem_toArray, List.getElem_cons_succ, List.getElem_cons_zero, List.setIfInBounds_toArray, List.set_cons_zero, List.set_cons_succ]
  have K1 := Lib.hid (K0.out.rd hr hc)
  clear hr hc
  rw [HNN.out]
  refine wpAnyU_take (i := 4) (v := ?v8) rfl (by kernel_rfl) (by kernel_rfl) (by kernel_rfl) (by kernel_rfl) (fun _ _ _ h => h) (Or.inl ⟨by rfl, ?hy8⟩) (by assumption) ?rest8
  case hy8 => (intro w hSw; (try dsimp only at hSw); go_simp; try with_reducible rfl)
  try simp only [Act.put, List.getElem_toArray, List.getElem_cons_succ, List.getElem_cons_zero, List.setIfInBounds_toArray, List.set_cons_zero, List.set_cons_succ]
  rw [HW.out]
  refine wpAnyU_ready (i := 5) (by kernel_rfl) (by kernel_rfl) rfl (fun K hK => ?_)
  go_simp
  refine (((HL.out _ _ (Lib.hid K1.out.rs) (Lib.hid fun i hi => Nat.lt_of_lt_of_le (HF.out i hi) K1.out.ch.size)))).mono ?_
  rintro e w' ⟨A, n, c, ts, rfl, hi, hr, hc⟩
  go_wp2_with fail
  refine hK.out _ _ ((K1.out.rd hr hc).cells) (fun hHeld => ?_)
  clear hK K
  try simp only [Act.put, List.getElem_toArray, List.getElem_cons_succ, List.getElem_cons_zero, List.setIfInBounds_toArray, List.set_cons_zero, List.set_cons_succ]
  have K2 : Hid (Bk F w w' g l (takS l (takS l (takS l s 1) 1) (1 * (3 * (numV l (takS l s 1) 1).toNat))) b1 (b1 + 1) b4 51) := Lib.hid (HS.out ▸ K1.out.rd hr hc)
  have HB := Lib.hid (HV.out _ _ A n c ts hi)
  have hst := run_blkStore K2.out.c2 HB.out.size HB.out.one
  have HE := Lib.hid (K2.out.made HB.out (fun k _ hk => by have h1 := K1.out.ch.size; have h2 := K1.out.c2.lt; omega) rfl)
  have hbd1 := hbd A n c
  clear hbd hr hc hi
  generalize bcs [(0, .int .i64 51), (13, .slice A n c)] = cs at *
  refine wpAnyU_take (i := 6) (v := ?v9) rfl (by kernel_rfl) (by kernel_rfl) (by kernel_rfl) (by kernel_rfl) (fun _ _ _ h => h) (Or.inl ⟨by rfl, ?hy9⟩) (by assumption) ?rest9
  case hy9 => (intro w hSw; (try dsimp only at hSw); go_simp; try with_reducible rfl)
  try simp only [Act.put, List.getElem_toArray, List.getElem_cons_succ, List.getElem_cons_zero, List.setIfInBounds_toArray, List.set_cons_zero, List.set_cons_succ]
  refine wpAnyU_tail rfl (by kernel_rfl) ?_
  simp only [List.drop_succ_cons, List.drop_zero]
  go_wp2_with fail
  refine NoPanic.normal ?_
  go_wp2_with fail
  exact bodyPost_ret (results_blk rfl _ HE.out.2 rfl) rfl HE.out.1
set_option maxHeartbeats 1200000 in
theorem block_38 (F : Nat → Prop) (w : World) (g : Nat) (l : List Int) (s : Rst) (h : RS F w g l s) (hF : ∀ i, F i → i < w.heap.size) (hl : l.length ≤ 1000000) (h8 : Hid (Byte8 l)) (hid : numV l s 1 = 38) :
    Calls Try.prog 38 #[.pointer (some ⟨g, 0, none⟩)] w (BlkE F w g l (listS (fun t => takS l t 2) (numV l (takS l s 1) 2).toNat (takS l (takS l s 1) 2)) 38) := by
  have HM := Lib.hid (fun u t (hr : Hid (RS F u g l t)) => num_any F u g l t hr hl 2 2 rfl (by decide) (by decide))
  have hV := numV_bd h8.out (takS l s 1) 2
  obtain ⟨N, hN⟩ : ∃ N : Nat, numV l (takS l s 1) 2 = N := ⟨(numV l (takS l s 1) 2).toNat, by omega⟩
  have hN2 : N < 65536 := by have h2 : numV l (takS l s 1) 2 < 65536 := hV.2; omega
  have HNN := Lib.hid hN
  have hbd : ∀ (A : Option Addr) (n c : Nat) u, (blkBuild #[(0, .int .i64 38), (13, .slice A n c)]).run Try.prog u = .ok (.agg (bcs [(0, .int .i64 38), (13, .slice A n c)])) u := fun A n c u => run_build u _ _ _ (show Try.prog.built 30 [(0, .int .i64 38), (13, .slice A n c)] = some (bcs [(0, .int .i64 38), (13, .slice A n c)]) by kernel_rfl)
  have HV : Hid (∀ (G : Nat → Prop) u (A : Option Addr) (n c : Nat) ts, IAt G u A n c ts → BV G u (bcs [(0, .int .i64 38), (13, .slice A n c)]) ⟨38, ts, []⟩) := Lib.hid fun G u A n c ts hi => bv_ts hi (by kernel_rfl) (by kernel_rfl) (by kernel_rfl) (by kernel_rfl)
  have hmf : ∀ (fn : Fn) (first cap : Array Value) (w : World), (Instr.makeFunc fn first cap).run Try.prog w = .ok (.func fn first cap) w := fun _ _ _ _ => rfl
  have HL := Lib.hid (fun u t (hr : Hid (RS F u g l t)) hFu => listI_any F u g l t hr hFu hl N (by omega) _ rfl)
  have HS : Hid (listS (fun t => takS l t 2) N (takS l (takS l s 1) 2) = listS (fun t => takS l t 2) (numV l (takS l s 1) 2).toNat (takS l (takS l s 1) 2)) := Lib.hid (by rw [hN, Int.toNat_natCast])
  clear hN hV
  have hal := run_blkAlloc
  have h0 : RS F ((w.alloc (.cells #[.pointer (some ⟨g, 0, none⟩)] 64)).alloc (.cells blkZ 30)) g l s := (h.below (bnew w _)).below (bnew _ _)
  have HA := Lib.hid (at_s F _ g l s (Lib.hid h0))
  have HN := Lib.hid (num_any F _ g l s (Lib.hid h0) hl 1 1 rfl (by decide) (by decide))
  rw [hid] at HN
  have HB := Lib.hid (fun u (hr : RS F u g l (takS l s 1)) hc => Bk.new (id := 38) h hF hr hc)
  have HF := Lib.hid hF
  obtain ⟨b1, hb1⟩ : ∃ b1, w.heap.size = b1 := ⟨_, rfl⟩
  clear h hF h0 hid
  go_enter Try.func38, Try.ntmps38
  go_wp2_with fail
  refine HA.out.mono ?_
  rintro x w1 ⟨rfl, rfl⟩
  go_wp2_with fail
  refine HN.out.mono ?_
  rintro x w2 ⟨rfl, hr2, hc2⟩
  have HK := Lib.hid (HB.out w2 hr2 hc2)
  obtain ⟨b4, hb4⟩ : ∃ b4, w2.heap.size = b4 := ⟨_, rfl⟩
  obtain ⟨W2, hW2⟩ : ∃ W2, w2.alloc (.cells #[.int .i64 38] 3) = W2 := ⟨_, rfl⟩
  rw [hW2, hb1, hb4] at HK
  obtain ⟨c1, c4⟩ := HK.out.cells
  have K0 := Lib.hid HK.out.drew
  clear hr2 hc2 HA HN HB
  go_wp2_with fail
  clear hW2 hb4 hb1
  first | refine wp_region_noPanic ?_ | skip
  refine wp_region_U (n := 8) (S := (fun u : World => u.cell? ⟨b1, 0, none⟩ = some (.pointer (some ⟨g, 0, none⟩)) ∧ u.cell? ⟨b4, 0, none⟩ = some (.int .i64 38))) (by kernel_rfl) (by kernel_rfl) (⟨c1, c4⟩) (fun hHeld => ?_)
  refine wpAnyU_take (i := 0) (v := ?v10) rfl (by kernel_rfl) (by kernel_rfl) (by kernel_rfl) (by kernel_rfl) (fun _ _ _ h => h) (Or.inl ⟨by rfl, ?hy10⟩) (by assumption) ?rest10
  case hy10 => (intro w hSw; (try dsimp only at hSw); go_simp; try with_reducible rfl)
  try simp only [Act.put, List.getElem_toArray, List.getElem_cons_succ, List.getElem_cons_zero, List.setIfInBounds_toArray, List.set_cons_zero, List.set_cons_succ]
  refine wpAnyU_take (i := 1) (v := ?v11) rfl (by kernel_rfl) (by kernel_rfl) (by kernel_rfl) (by kernel_rfl) (fun _ _ _ h => h) (Or.inl ⟨by rfl, ?hy11⟩) (by assumption) ?rest11
  case hy11 => (intro w hSw; (try dsimp only at hSw); go_simp; try with_reducible rfl)
  try simp only [Act.put, List.getElem_toArray, List.getElem_cons_succ, List.getElem_cons_zero, List.setIfInBounds_toArray, List.set_cons_zero, List.set_cons_succ]
  refine wpAnyU_take (i := 2) (v := ?v12) rfl (by kernel_rfl) (by kernel_rfl) (by kernel_rfl) (by kernel_rfl) (fun _ _ _ h => h) (Or.inl ⟨by rfl, ?hy12⟩) (by assumption) ?rest12
  case hy12 => (intro w hSw; (try dsimp only at hSw); go_simp; try with_reducible rfl)
  try simp only [Act.put, List.getElem_toArray, List.getElem_cons_succ, List.getElem_cons_zero, List.setIfInBounds_toArray, List.set_cons_zero, List.set_cons_succ]
  refine wpAnyU_take (i := 4) (v := ?v13) rfl (by kernel_rfl) (by kernel_rfl) (by kernel_rfl) (by kernel_rfl) (fun _ _ _ h => h) (Or.inl ⟨by rfl, ?hy13⟩) (by assumption) ?rest13
  case hy13 => (intro w hSw; (try dsimp only at hSw); go_simp; try with_reducible rfl)
  try simp only [Act.put, List.getElem_toArray, List.getElem_cons_succ, List.getElem_cons_zero, List.setIfInBounds_toArray, List.set_cons_zero, List.set_cons_succ]
  refine wpAnyU_take (i := 5) (v := ?v14) rfl (by kernel_rfl) (by kernel_rfl) (by kernel_rfl) (by kernel_rfl) (fun _ _ _ h => h) (Or.inl ⟨by rfl, ?hy14⟩) (by assumption) ?rest14
  case hy14 => (intro w hSw; (try dsimp only at hSw); go_simp; try with_reducible rfl)
  try simp only [Act.put, List.getElem_toArray, List.getElem_cons_succ, List.getElem_cons_zero, List.setIfInBounds_toArray, List.set_cons_zero, List.set_cons_succ]
  refine wpAnyU_ready (i := 3) (by kernel_rfl) (by kernel_rfl) rfl (fun K hK => ?_)
  go_simp
  refine (((HM.out _ _ (Lib.hid K0.out.rs)))).mono ?_
  rintro e w' ⟨rfl, hr, hc⟩
  go_wp2_with fail
  refine hK.out _ _ ((K0.out.rd hr hc).cells) (fun hHeld => ?_)
  clear hK K
  try simp only [Act.put, List.getElem_toArray, List.getElem_cons_succ, List.getElem_cons_zero, List.setIfInBounds_toArray, List.set_cons_zero, List.set_cons_succ]
  have K1 := Lib.hid (K0.out.rd hr hc)
  clear hr hc
  rw [HNN.out]
  refine wpAnyU_ready (i := 6) (by kernel_rfl) (by kernel_rfl) rfl (fun K hK => ?_)
  go_simp
  refine (((HL.out _ _ (Lib.hid K1.out.rs) (Lib.hid fun i hi => Nat.lt_of_lt_of_le (HF.out i hi) K1.out.ch.size)))).mono ?_
  rintro e w' ⟨A, n, c, ts, rfl, hi, hr, hc⟩
  go_wp2_with fail
  refine hK.out _ _ ((K1.out.rd hr hc).cells) (fun hHeld => ?_)
  clear hK K
  try simp only [Act.put, List.getElem_toArray, List.getElem_cons_succ, List.getElem_cons_zero, List.setIfInBounds_toArray, List.set_cons_zero, List.set_cons_succ]
  have K2 : Hid (Bk F w w' g l (listS (fun t => takS l t 2) (numV l (takS l s 1) 2).toNat (takS l (takS l s 1) 2)) b1 (b1 + 1) b4 38) := Lib.hid (HS.out ▸ K1.out.rd hr hc)
  have HB := Lib.hid (HV.out _ _ A n c ts hi)
  have hst := run_blkStore K2.out.c2 HB.out.size HB.out.one
  have HE := Lib.hid (K2.out.made HB.out (fun k _ hk => by have h1 := K1.out.ch.size; have h2 := K1.out.c2.lt; omega) rfl)
  have hbd1 := hbd A n c
  clear hbd hr hc hi
  generalize bcs [(0, .int .i64 38), (13, .slice A n c)] = cs at *
  refine wpAnyU_take (i := 7) (v := ?v15) rfl (by kernel_rfl) (by kernel_rfl) (by kernel_rfl) (by kernel_rfl) (fun _ _ _ h => h) (Or.inl ⟨by rfl, ?hy15⟩) (by assumption) ?rest15
  case hy15 => (intro w hSw; (try dsimp only at hSw); go_simp; try with_reducible rfl)
  try simp only [Act.put, List.getElem_toArray, List.getElem_cons_succ, List.getElem_cons_zero, List.setIfInBounds_toArray, List.set_cons_zero, List.set_cons_succ]
  refine wpAnyU_tail rfl (by kernel_rfl) ?_
  simp only [List.drop_succ_cons, List.drop_zero]
  go_wp2_with fail
  refine NoPanic.normal ?_
  go_wp2_with fail
  exact bodyPost_ret (results_blk rfl _ HE.out.2 rfl) rfl HE.out.1

end Go.Proofs.Ythlaglhlmbkniaa
/- tzx.block, case by case: blocks of lists. -/
namespace Go.Proofs.Ythlaglhlmbkniaa
open Go.RowKit
set_option linter.unusedVariables false
set_option linter.unusedSimpArgs false
set_option maxRecDepth 100000
attribute [local simp ↓ high] blkLoad_as blkStore_as blkAlloc_as blkBuild_as

theorem one_int (w : World) (v : Int) : IAt (fun k => w.heap.size ≤ k) (w.alloc (.cells #[.int .i64 v] 3)) (some ⟨w.heap.size, 0, none⟩) 1 1 [v] :=
  ⟨rfl, Nat.le_refl _, by unfold maxLen; omega, fun h => (by cases h), fun _ => ⟨w.heap.size, 0, rfl, Nat.le_refl _, by simp, fun j hj => by
    obtain rfl : j = 0 := by omega
    exact cell_of_row _ _ 0 _ _ (0, 0) (heap_alloc_new w _)⟩⟩
set_option maxHeartbeats 1200000 in
theorem block_35 (F : Nat → Prop) (w : World) (g : Nat) (l : List Int) (s : Rst) (h : RS F w g l s) (hF : ∀ i, F i → i < w.heap.size) (hl : l.length ≤ 1000000) (h8 : Hid (Byte8 l)) (hid : numV l s 1 = 35) :
    Calls Try.prog 38 #[.pointer (some ⟨g, 0, none⟩)] w (BlkE F w g l (takS l (takS l s 1) 2) 35) := by
  have HSg := Lib.hid (fun u t (hr : Hid (RS F u g l t)) => signed_any F u g l t hr hl)
  have hbd : ∀ (A : Option Addr) (n c : Nat) u, (blkBuild #[(0, .int .i64 35), (13, .slice A n c)]).run Try.prog u = .ok (.agg (bcs [(0, .int .i64 35), (13, .slice A n c)])) u := fun A n c u => run_build u _ _ _ (show Try.prog.built 30 [(0, .int .i64 35), (13, .slice A n c)] = some (bcs [(0, .int .i64 35), (13, .slice A n c)]) by kernel_rfl)
  have HV : Hid (∀ (G : Nat → Prop) u (A : Option Addr) (n c : Nat) ts, IAt G u A n c ts → BV G u (bcs [(0, .int .i64 35), (13, .slice A n c)]) ⟨35, ts, []⟩) := Lib.hid fun G u A n c ts hi => bv_ts hi (by kernel_rfl) (by kernel_rfl) (by kernel_rfl) (by kernel_rfl)
  have hal := run_blkAlloc
  have h0 : RS F ((w.alloc (.cells #[.pointer (some ⟨g, 0, none⟩)] 64)).alloc (.cells blkZ 30)) g l s := (h.below (bnew w _)).below (bnew _ _)
  have HA := Lib.hid (at_s F _ g l s (Lib.hid h0))
  have HN := Lib.hid (num_any F _ g l s (Lib.hid h0) hl 1 1 rfl (by decide) (by decide))
  rw [hid] at HN
  have HB := Lib.hid (fun u (hr : RS F u g l (takS l s 1)) hc => Bk.new (id := 35) h hF hr hc)
  have HF := Lib.hid hF
  obtain ⟨b1, hb1⟩ : ∃ b1, w.heap.size = b1 := ⟨_, rfl⟩
  clear h hF h0 hid
  go_enter Try.func38, Try.ntmps38
  go_wp2_with fail
  refine HA.out.mono ?_
  rintro x w1 ⟨rfl, rfl⟩
  go_wp2_with fail
  refine HN.out.mono ?_
  rintro x w2 ⟨rfl, hr2, hc2⟩
  have HK := Lib.hid (HB.out w2 hr2 hc2)
  obtain ⟨b4, hb4⟩ : ∃ b4, w2.heap.size = b4 := ⟨_, rfl⟩
  obtain ⟨W2, hW2⟩ : ∃ W2, w2.alloc (.cells #[.int .i64 35] 3) = W2 := ⟨_, rfl⟩
  rw [hW2, hb1, hb4] at HK
  obtain ⟨c1, c4⟩ := HK.out.cells
  have K0 := Lib.hid HK.out.drew
  clear hr2 hc2 HA HN HB
  go_wp2_with fail
  clear hW2 hb4 hb1
  first | refine wp_region_noPanic ?_ | skip
  refine wp_region_U (n := 5) (S := (fun u : World => u.cell? ⟨b1, 0, none⟩ = some (.pointer (some ⟨g, 0, none⟩)) ∧ u.cell? ⟨b4, 0, none⟩ = some (.int .i64 35))) (by kernel_rfl) (by kernel_rfl) (⟨c1, c4⟩) (fun hHeld => ?_)
  refine wpAnyU_take (i := 0) (v := ?v1) rfl (by kernel_rfl) (by kernel_rfl) (by kernel_rfl) (by kernel_rfl) (fun _ _ _ h => h) (Or.inl ⟨by rfl, ?hy1⟩) (by assumption) ?rest1
  case hy1 => (intro w hSw; (try dsimp only at hSw); go_simp; try with_reducible rfl)
  try simp only [Act.put, List.getElem_toArray, List.getElem_cons_succ, List.getElem_cons_zero, List.setIfInBounds_toArray, List.set_cons_zero, List.set_cons_succ]
  refine wpAnyU_take (i := 1) (v := ?v2) rfl (by kernel_rfl) (by kernel_rfl) (by kernel_rfl) (by kernel_rfl) (fun _ _ _ h => h) (Or.inl ⟨by rfl, ?hy2⟩) (by assumption) ?rest2
  case hy2 => (intro w hSw; (try dsimp only at hSw); go_simp; try with_reducible rfl)
  try simp only [Act.put, List.getElem_toArray, List.getElem_cons_succ, List.getElem_cons_zero, List.setIfInBounds_toArray, List.set_cons_zero, List.set_cons_succ]
  refine wpAnyU_ready (i := 2) (by kernel_rfl) (by kernel_rfl) rfl (fun K hK => ?_)
  go_simp
  refine (((HSg.out _ _ (Lib.hid K0.out.rs)))).mono ?_
  rintro e w' ⟨v, rfl, hr, hc⟩
  go_wp2_with fail
  refine hK.out _ _ ((K0.out.rd hr hc).cells) (fun hHeld => ?_)
  clear hK K
  try simp only [Act.put, List.getElem_toArray, List.getElem_cons_succ, List.getElem_cons_zero, List.setIfInBounds_toArray, List.set_cons_zero, List.set_cons_succ]
  have K1 := Lib.hid (K0.out.rd hr hc)
  have K2 := Lib.hid (K1.out.below (bnew w' (.cells #[.int .i64 v] 3)))
  have hS := K2.out.cells
  clear hr hc
  refine wpAnyU_ready (i := 3) (by kernel_rfl) (by kernel_rfl) rfl (fun K hK => ?_)
  go_simp
  refine hK.out _ _ hS (fun hHeld => ?_)
  clear hK K
  try simp only [Act.put, List.getElem_toArray, List.getElem_cons_succ, List.getElem_cons_zero, List.setIfInBounds_toArray, List.set_cons_zero, List.set_cons_succ]
  have HB := Lib.hid (HV.out _ _ _ 1 1 _ (one_int w' v))
  have hst := run_blkStore K2.out.c2 HB.out.size HB.out.one
  have HE := Lib.hid (K2.out.made HB.out (fun k _ hk => by have h1 := K1.out.ch.size; have h2 := K1.out.c2.lt; omega) rfl)
  have hbd1 := hbd (some ⟨w'.heap.size, 0, none⟩) 1 1
  clear hbd
  generalize bcs [(0, .int .i64 35), (13, .slice (some ⟨w'.heap.size, 0, none⟩) 1 1)] = cs at *
  refine wpAnyU_take (i := 4) (v := ?v3) rfl (by kernel_rfl) (by kernel_rfl) (by kernel_rfl) (by kernel_rfl) (fun _ _ _ h => h) (Or.inl ⟨by rfl, ?hy3⟩) (by assumption) ?rest3
  case hy3 => (intro w hSw; (try dsimp only at hSw); go_simp; try with_reducible rfl)
  try simp only [Act.put, List.getElem_toArray, List.getElem_cons_succ, List.getElem_cons_zero, List.setIfInBounds_toArray, List.set_cons_zero, List.set_cons_succ]
  refine wpAnyU_tail rfl (by kernel_rfl) ?_
  simp only [List.drop_succ_cons, List.drop_zero]
  go_wp2_with fail
  refine NoPanic.normal ?_
  go_wp2_with fail
  exact bodyPost_ret (results_blk rfl _ HE.out.2 rfl) rfl HE.out.1

end Go.Proofs.Ythlaglhlmbkniaa
/- tzx.block, case by case: blocks of lists. -/
namespace Go.Proofs.Ythlaglhlmbkniaa
open Go.RowKit
set_option linter.unusedVariables false
set_option linter.unusedSimpArgs false
set_option maxRecDepth 100000
attribute [local simp ↓ high] blkLoad_as blkStore_as blkAlloc_as blkBuild_as

variable {P : Program} {ops : Array Oper} {Q : Exit → Act → World → Prop} {md : Region.Mode} {S : World → Prop} {n : Nat}
/-- Two that may come up: whichever comes first. -/
theorem wpAnyU_two {i j : Nat} {oi oj : Oper} {fuel : Nat} {listed : Array Bool} {a : Act} {w : World} (hr : Region.ready md ops listed = [i, j]) (hin : decide (i < n) = true) (hjn : decide (j < n) = true) (hoi : ops[i]? = some oi) (hoj : ops[j]? = some oj)
    (h1 : ∀ K' : Act → World → Prop, Shut (∀ a w, S w → (S w → wpAnyU P md ops n Q S fuel (listed.setIfInBounds i true) a w) → K' a w) → if Region.wanted oi (yielded ops a.tmps) = true then Oper.wp P oi a w K' Q else K' (a.put oi.dst undef) w)
    (h2 : ∀ K' : Act → World → Prop, Shut (∀ a w, S w → (S w → wpAnyU P md ops n Q S fuel (listed.setIfInBounds j true) a w) → K' a w) → if Region.wanted oj (yielded ops a.tmps) = true then Oper.wp P oj a w K' Q else K' (a.put oj.dst undef) w) :
    wpAnyU P md ops n Q S (fuel + 1) listed a w := fun hT inv => by
  have hi : i ∈ Region.ready md ops listed := by rw [hr]; simp
  have hj : j ∈ Region.ready md ops listed := by rw [hr]; simp
  have inv1 := inv.set hi (of_decide_eq_true hin)
  have inv2 := inv.set hj (of_decide_eq_true hjn)
  refine ⟨fun h0 => (by rw [hr] at h0; cases h0), fun k hk => ?_⟩
  rw [hr] at hk
  have hk' : k = i ∨ k = j := by simpa using hk
  rcases hk' with rfl | rfl
  · exact wpOp_step hoi (fun K' hK => h1 K' (fun a w hS hW => hK a w ⟨fun _ => hS, hW hS hT inv1⟩))
  · exact wpOp_step hoj (fun K' hK => h2 K' (fun a w hS hW => hK a w ⟨fun _ => hS, hW hS hT inv2⟩))
theorem one_item (w : World) (v : Int) (D : Option Addr) (m c : Nat) : ItAt (fun k => w.heap.size ≤ k) (w.alloc (.cells #[.int .i64 v, .slice D m c] 32)) (some ⟨w.heap.size, 0, none⟩) 1 1 [v] :=
  ⟨rfl, Nat.le_refl _, by unfold maxLen; omega, fun _ => ⟨w.heap.size, 0, rfl, Nat.le_refl _, by simp, fun j hj => by
    obtain rfl : j = 0 := by omega
    exact ⟨cell_of_row _ _ 0 _ _ (0, 0) (heap_alloc_new w _), D, m, c, cell_of_row _ _ 1 _ _ (0, 0) (heap_alloc_new w _)⟩⟩⟩
set_option maxHeartbeats 1200000 in
theorem block_53 (F : Nat → Prop) (w : World) (g : Nat) (l : List Int) (s : Rst) (h : RS F w g l s) (hF : ∀ i, F i → i < w.heap.size) (hl : l.length ≤ 1000000) (h8 : Hid (Byte8 l)) (hid : numV l s 1 = 53) :
    Calls Try.prog 38 #[.pointer (some ⟨g, 0, none⟩)] w (BlkE F w g l (dataS l (takS l (takS l s 1) 16) 4) 53) := by
  have HT := Lib.hid (fun u t (hr : Hid (RS F u g l t)) => take_any F u g l t hr hl 16 (Or.inr (by decide)))
  have HD := Lib.hid (fun u t (hr : Hid (RS F u g l t)) => data_any F u g l t hr hl h8 4 4 rfl (by decide) (by decide))
  have hbd : ∀ (A : Option Addr) (n c : Nat) (B : Option Addr) (m d : Nat) u, (blkBuild #[(0, .int .i64 53), (14, .slice A n c), (12, .slice B m d)]).run Try.prog u = .ok (.agg (bcs [(0, .int .i64 53), (14, .slice A n c), (12, .slice B m d)])) u := fun A n c B m d u => run_build u _ _ _ (show Try.prog.built 30 [(0, .int .i64 53), (14, .slice A n c), (12, .slice B m d)] = some (bcs [(0, .int .i64 53), (14, .slice A n c), (12, .slice B m d)]) by kernel_rfl)
  have HV : Hid (∀ (G : Nat → Prop) u (A : Option Addr) (n c : Nat) (B : Option Addr) (m d : Nat) ns, ItAt G u A n c ns → BV G u (bcs [(0, .int .i64 53), (14, .slice A n c), (12, .slice B m d)]) ⟨53, [], ns⟩) := Lib.hid fun G u A n c B m d ns hi => bv_ns hi (by kernel_rfl) (by kernel_rfl) (by kernel_rfl) (by kernel_rfl)
  have hal := run_blkAlloc
  have h0 : RS F ((w.alloc (.cells #[.pointer (some ⟨g, 0, none⟩)] 64)).alloc (.cells blkZ 30)) g l s := (h.below (bnew w _)).below (bnew _ _)
  have HA := Lib.hid (at_s F _ g l s (Lib.hid h0))
  have HN := Lib.hid (num_any F _ g l s (Lib.hid h0) hl 1 1 rfl (by decide) (by decide))
  rw [hid] at HN
  have HB := Lib.hid (fun u (hr : RS F u g l (takS l s 1)) hc => Bk.new (id := 53) h hF hr hc)
  have HF := Lib.hid hF
  obtain ⟨b1, hb1⟩ : ∃ b1, w.heap.size = b1 := ⟨_, rfl⟩
  clear h hF h0 hid
  go_enter Try.func38, Try.ntmps38
  go_wp2_with fail
  refine HA.out.mono ?_
  rintro x w1 ⟨rfl, rfl⟩
  go_wp2_with fail
  refine HN.out.mono ?_
  rintro x w2 ⟨rfl, hr2, hc2⟩
  have HK := Lib.hid (HB.out w2 hr2 hc2)
  obtain ⟨b4, hb4⟩ : ∃ b4, w2.heap.size = b4 := ⟨_, rfl⟩
  obtain ⟨W2, hW2⟩ : ∃ W2, w2.alloc (.cells #[.int .i64 53] 3) = W2 := ⟨_, rfl⟩
  rw [hW2, hb1, hb4] at HK
  obtain ⟨c1, c4⟩ := HK.out.cells
  have K0 := Lib.hid HK.out.drew
  clear hr2 hc2 HA HN HB
  go_wp2_with fail
  clear hW2 hb4 hb1
  first | refine wp_region_noPanic ?_ | skip
  refine wp_region_U (n := 8) (S := (fun u : World => u.cell? ⟨b1, 0, none⟩ = some (.pointer (some ⟨g, 0, none⟩)) ∧ u.cell? ⟨b4, 0, none⟩ = some (.int .i64 53))) (by kernel_rfl) (by kernel_rfl) (⟨c1, c4⟩) (fun hHeld => ?_)
  refine wpAnyU_take (i := 0) (v := ?v1) rfl (by kernel_rfl) (by kernel_rfl) (by kernel_rfl) (by kernel_rfl) (fun _ _ _ h => h) (Or.inl ⟨by rfl, ?hy1⟩) (by assumption) ?rest1
  case hy1 => (intro w hSw; (try dsimp only at hSw); go_simp; try with_reducible rfl)
  try simp only [Act.put, List.getElem_toArray, List.getElem_cons_succ, List.getElem_cons_zero, List.setIfInBounds_toArray, List.set_cons_zero, List.set_cons_succ]
  refine wpAnyU_take (i := 1) (v := ?v2) rfl (by kernel_rfl) (by kernel_rfl) (by kernel_rfl) (by kernel_rfl) (fun _ _ _ h => h) (Or.inl ⟨by rfl, ?hy2⟩) (by assumption) ?rest2
  case hy2 => (intro w hSw; (try dsimp only at hSw); go_simp; try with_reducible rfl)
  try simp only [Act.put, List.getElem_toArray, List.getElem_cons_succ, List.getElem_cons_zero, List.setIfInBounds_toArray, List.set_cons_zero, List.set_cons_succ]
  refine wpAnyU_take (i := 5) (v := ?v3) rfl (by kernel_rfl) (by kernel_rfl) (by kernel_rfl) (by kernel_rfl) (fun _ _ _ h => h) (Or.inl ⟨by rfl, ?hy3⟩) (by assumption) ?rest3
  case hy3 => (intro w hSw; (try dsimp only at hSw); go_simp; try with_reducible rfl)
  try simp only [Act.put, List.getElem_toArray, List.getElem_cons_succ, List.getElem_cons_zero, List.setIfInBounds_toArray, List.set_cons_zero, List.set_cons_succ]
  refine wpAnyU_ready (i := 2) (by kernel_rfl) (by kernel_rfl) rfl (fun K hK => ?_)
  go_simp
  refine (((HT.out _ _ (Lib.hid K0.out.rs)))).mono ?_
  rintro e w' ⟨D, m, c, rfl, _, hr, hc⟩
  go_wp2_with fail
  refine hK.out _ _ ((K0.out.rd hr hc).cells) (fun hHeld => ?_)
  clear hK K
  try simp only [Act.put, List.getElem_toArray, List.getElem_cons_succ, List.getElem_cons_zero, List.setIfInBounds_toArray, List.set_cons_zero, List.set_cons_succ]
  have K1 := Lib.hid (K0.out.rd hr hc)
  clear hr hc
  refine wpAnyU_take (i := 3) (v := ?v4) rfl (by kernel_rfl) (by kernel_rfl) (by kernel_rfl) (by kernel_rfl) (fun _ _ _ h => h) (Or.inl ⟨by rfl, ?hy4⟩) (by assumption) ?rest4
  case hy4 => (intro w hSw; (try dsimp only at hSw); go_simp; try with_reducible rfl)
  try simp only [Act.put, List.getElem_toArray, List.getElem_cons_succ, List.getElem_cons_zero, List.setIfInBounds_toArray, List.set_cons_zero, List.set_cons_succ]
  refine wpAnyU_two (i := 4) (j := 6) (by kernel_rfl) (by kernel_rfl) (by kernel_rfl) rfl rfl (fun K hK => ?_) (fun K hK => ?_)
  · have K2 := Lib.hid (K1.out.below (bnew w' (.cells #[.int .i64 0, .slice D m c] 32)))
    have HI := Lib.hid (one_item w' 0 D m c)
    have hS := K2.out.cells
    go_simp
    refine hK.out _ _ hS (fun hHeld => ?_)
    clear hK K
    try simp only [Act.put, List.getElem_toArray, List.getElem_cons_succ, List.getElem_cons_zero, List.setIfInBounds_toArray, List.set_cons_zero, List.set_cons_succ]
    have HGz : Hid (∀ k, w'.heap.size ≤ k → w.heap.size ≤ k ∧ k ≠ b1 + 1 ∧ k ≠ g) := Lib.hid fun k hk => by have h1 := K1.out.ch.size; have h2 := K1.out.c2.lt; have h3 := K1.out.rs.lt; omega
    generalize (some (⟨w'.heap.size, 0, none⟩ : Addr)) = P at *
    have K3 := K2
    clear hS K1
    refine wpAnyU_ready (i := 6) (by kernel_rfl) (by kernel_rfl) rfl (fun K hK => ?_)
    go_simp
    refine (((HD.out _ _ (Lib.hid K3.out.rs)))).mono ?_
    rintro e w' ⟨B, m2, d, rfl, hr, hc⟩
    go_wp2_with fail
    refine hK.out _ _ ((K3.out.rd hr hc).cells) (fun hHeld => ?_)
    clear hK K
    try simp only [Act.put, List.getElem_toArray, List.getElem_cons_succ, List.getElem_cons_zero, List.setIfInBounds_toArray, List.set_cons_zero, List.set_cons_succ]
    have K4 := Lib.hid (K3.out.rd hr hc)
    have HB := Lib.hid ((HV.out _ _ P 1 1 B m2 d _ HI.out).ch hc fun k hk => (HGz.out k hk).2.2)
    have hst := run_blkStore K4.out.c2 HB.out.size HB.out.one
    have HE := Lib.hid (K4.out.made HB.out (fun k _ hk => ⟨(HGz.out k hk).1, (HGz.out k hk).2.1⟩) rfl)
    have hbd1 := hbd P 1 1 B m2 d
    clear hbd hr hc
    generalize bcs [(0, .int .i64 53), (14, .slice P 1 1), (12, .slice B m2 d)] = cs at *
    refine wpAnyU_take (i := 7) (v := ?v5) rfl (by kernel_rfl) (by kernel_rfl) (by kernel_rfl) (by kernel_rfl) (fun _ _ _ h => h) (Or.inl ⟨by rfl, ?hy5⟩) (by assumption) ?rest5
    case hy5 => (intro w hSw; (try dsimp only at hSw); go_simp; try with_reducible rfl)
    try simp only [Act.put, List.getElem_toArray, List.getElem_cons_succ, List.getElem_cons_zero, List.setIfInBounds_toArray, List.set_cons_zero, List.set_cons_succ]
    refine wpAnyU_tail rfl (by kernel_rfl) ?_
    simp only [List.drop_succ_cons, List.drop_zero]
    go_wp2_with fail
    refine NoPanic.normal ?_
    go_wp2_with fail
    exact bodyPost_ret (results_blk rfl _ HE.out.2 rfl) rfl HE.out.1
  · go_simp
    refine (HD.out _ _ (Lib.hid K1.out.rs)).mono ?_
    rintro e w' ⟨B, m2, d, rfl, hr, hc⟩
    go_wp2_with fail
    have K2 := Lib.hid (K1.out.rd hr hc)
    have hS2 := K2.out.cells
    refine hK.out _ _ hS2 (fun hHeld => ?_)
    clear hK K
    try simp only [Act.put, List.getElem_toArray, List.getElem_cons_succ, List.getElem_cons_zero, List.setIfInBounds_toArray, List.set_cons_zero, List.set_cons_succ]
    have K3 := Lib.hid (K2.out.below (bnew w' (.cells #[.int .i64 0, .slice D m c] 32)))
    have HI := Lib.hid (one_item w' 0 D m c)
    have hS := K3.out.cells
    clear hr hc K1
    refine wpAnyU_ready (i := 4) (by kernel_rfl) (by kernel_rfl) rfl (fun K hK => ?_)
    go_simp
    refine hK.out _ _ hS (fun hHeld => ?_)
    clear hK K
    try simp only [Act.put, List.getElem_toArray, List.getElem_cons_succ, List.getElem_cons_zero, List.setIfInBounds_toArray, List.set_cons_zero, List.set_cons_succ]
    have HGz : Hid (∀ k, w'.heap.size ≤ k → w.heap.size ≤ k ∧ k ≠ b1 + 1) := Lib.hid fun k hk => by have h1 := K2.out.ch.size; have h2 := K2.out.c2.lt; omega
    generalize (some (⟨w'.heap.size, 0, none⟩ : Addr)) = P at *
    clear hS hS2
    have HB := Lib.hid (HV.out _ _ P 1 1 B m2 d _ HI.out)
    have hst := run_blkStore K3.out.c2 HB.out.size HB.out.one
    have HE := Lib.hid (K3.out.made HB.out (fun k _ hk => HGz.out k hk) rfl)
    have hbd1 := hbd P 1 1 B m2 d
    clear hbd
    generalize bcs [(0, .int .i64 53), (14, .slice P 1 1), (12, .slice B m2 d)] = cs at *
    refine wpAnyU_take (i := 7) (v := ?v6) rfl (by kernel_rfl) (by kernel_rfl) (by kernel_rfl) (by kernel_rfl) (fun _ _ _ h => h) (Or.inl ⟨by rfl, ?hy6⟩) (by assumption) ?rest6
    case hy6 => (intro w hSw; (try dsimp only at hSw); go_simp; try with_reducible rfl)
    try simp only [Act.put, List.getElem_toArray, List.getElem_cons_succ, List.getElem_cons_zero, List.setIfInBounds_toArray, List.set_cons_zero, List.set_cons_succ]
    refine wpAnyU_tail rfl (by kernel_rfl) ?_
    simp only [List.drop_succ_cons, List.drop_zero]
    go_wp2_with fail
    refine NoPanic.normal ?_
    go_wp2_with fail
    exact bodyPost_ret (results_blk rfl _ HE.out.2 rfl) rfl HE.out.1

end Go.Proofs.Ythlaglhlmbkniaa
/- What a block makes of a reader's state: a fault stays, the place goes on, and what stands behind a fault plays no part. No program is named here. -/
namespace Go.Proofs.Ythlaglhlmbkniaa
open Go.RowKit
set_option linter.unusedVariables false

/-- The state may be: where it stands, and its fault's place, are in the file. -/
def InF (l : List Int) (s : Rst) : Prop := s.p ≤ l.length ∧ 0 ≤ s.f ∧ s.f ≤ l.length
/-- No fault, or one that hangs on nothing behind it. -/
def Firm (s : Rst) : Prop := s.e ≠ 2 ∧ s.e ≠ 5
/-- One state comes of another: a fault stays, the place goes on. -/
structure Rr (l : List Int) (s t : Rst) : Prop where
  stay : s.e ≠ 0 → t = s
  on : s.p ≤ t.p
  inF : InF l s → InF l t
theorem Rr.refl (l : List Int) (s : Rst) : Rr l s s := ⟨fun _ => rfl, Nat.le_refl _, id⟩
theorem Rr.trans {l : List Int} {s t u : Rst} (h : Rr l s t) (k : Rr l t u) : Rr l s u :=
  ⟨fun x => by
    have e := h.stay x
    rw [k.stay (by rw [e]; exact x), e], Nat.le_trans h.on k.on, fun x => k.inF (h.inF x)⟩
theorem Rr.firm {l : List Int} {s t : Rst} (h : Rr l s t) (k : Firm t) : Firm s := by
  by_cases x : s.e = 0
  · unfold Firm; omega
  · rw [h.stay x] at k; exact k
theorem Rr.ite {l : List Int} {s t u : Rst} {c : Prop} [Decidable c] (h : Rr l s t) (k : Rr l s u) : Rr l s (if c then t else u) := by
  split
  · exact h
  · exact k
theorem Rr.fail {l : List Int} {s t : Rst} (h : Rr l s t) (e f : Int) (hf : InF l s → 0 ≤ f ∧ f ≤ l.length) : Rr l s (failS t e f) := by
  by_cases x : t.e = 0
  · have y : s.e = 0 := Classical.byContradiction fun z => z (by rw [← h.stay z]; exact x)
    rw [failS_ok x]
    exact ⟨fun z => absurd y z, h.on, fun z => ⟨(h.inF z).1, hf z⟩⟩
  · rw [failS_bad x]; exact h
theorem rr_tak (l : List Int) (s : Rst) (n : Nat) : Rr l s (takS l s n) := by
  by_cases x : s.e = 0
  · by_cases y : s.p + n ≤ l.length
    · rw [takS_yes x y]
      exact ⟨fun z => absurd x z, Nat.le_add_right _ _, fun z => ⟨y, z.2⟩⟩
    · rw [takS_no x y]
      exact ⟨fun z => absurd x z, Nat.le_refl _, fun z => ⟨z.1, by have := z.1; exact ⟨by show (0 : Int) ≤ (s.p : Int); omega, by show (s.p : Int) ≤ (l.length : Int); omega⟩⟩⟩
  · rw [takS_bad x]; exact Rr.refl l s
theorem at_in {l : List Int} {s : Rst} (h : InF l s) : 0 ≤ (s.p : Int) ∧ (s.p : Int) ≤ l.length := by have := h.1; omega
theorem rr_data (l : List Int) (s : Rst) (n : Nat) : Rr l s (dataS l s n) := (rr_tak l s n).trans (rr_tak l _ _)
theorem rr_only (l : List Int) (s : Rst) (n : Int) : Rr l s (onlyS l s n) := by
  unfold onlyS
  exact Rr.ite (rr_tak l s 4) ((rr_tak l s 4).fail _ _ fun x => at_in x)
theorem rr_list {l : List Int} {one : Rst → Rst} (h : ∀ t, Rr l t (one t)) : ∀ (k : Nat) (s : Rst), Rr l s (listS one k s)
  | 0, s => Rr.refl l s
  | k + 1, s => Rr.ite ((h s).trans (rr_list h k (one s))) (Rr.refl l s)
theorem rr_item {l : List Int} {one : Rst → Rst} (h : ∀ t, Rr l t (one t)) (s : Rst) : Rr l s (itemS l one s) := (h s).trans (rr_data l _ 1)
theorem rr_items {l : List Int} {one : Rst → Rst} (h : ∀ t, Rr l t (one t)) (s : Rst) : Rr l s (itemsS l one s) := (rr_tak l s 1).trans (rr_list (rr_item h) _ _)
theorem rr_meas {l : List Int} {rest : Rst → Rst} (h : ∀ t, Rr l t (rest t)) {begin : Nat} {s : Rst} (hb : InF l s → begin ≤ l.length) (n : Nat) : Rr l s (measS' l rest begin s n) := by
  have h1 := (rr_tak l s n).trans (h _)
  unfold measS'
  exact Rr.ite h1 (h1.fail _ _ fun x => by have := hb x; omega)
theorem rr_symb (l : List Int) (long : Nat) (s : Rst) : Rr l s (symbS l long s) := (rr_tak l s 1).trans (rr_tak l _ _)
theorem rr_alph (l : List Int) (many long : Nat) (s : Rst) : Rr l s (alphS l many long s) := rr_list (rr_symb l long) many s
theorem rr_rep1 (l : List Int) (many : Int) (s : Rst) : Rr l s (if many ≤ numV l s 1 then failS (takS l s 1) 5 s.p else takS l s 1) := Rr.ite ((rr_tak l s 1).fail _ _ fun x => at_in x) (rr_tak l s 1)
theorem rr_rep (l : List Int) (many : Int) (s : Rst) : Rr l s (repS l many s) := (rr_rep1 l many s).trans (rr_tak l _ 2)
open Classical in
theorem rr_stream (l : List Int) (s : Rst) (count : Nat) (many : Int) (n : Nat) : Rr l s (streamS l s count many n) := by
  unfold streamS
  exact Rr.ite ((rr_tak l s _).fail _ _ fun x => at_in x) (rr_tak l s _)
theorem rr_glue (l : List Int) (s : Rst) : Rr l s (glueS l s) := Rr.ite ((rr_tak l s 9).fail _ _ fun x => at_in x) (rr_tak l s 9)
theorem rr_level (l : List Int) (s : Rst) : Rr l s (levelS l s) := (rr_only l s 1).trans (Rr.ite ((rr_tak l _ 1).fail _ _ fun x => at_in x) (rr_tak l _ 1))
theorem rr_turbo (l : List Int) (s : Rst) : Rr l s (turboS l s) :=
  ((((((((rr_tak l s 2).trans (rr_tak l _ 2)).trans (rr_tak l _ 2)).trans (rr_tak l _ 2)).trans (rr_tak l _ 2)).trans (rr_tak l _ 2)).trans (rr_tak l _ 1)).trans (rr_tak l _ 2)).trans (rr_data l _ 3)
theorem rr_packT (l : List Int) (s : Rst) : Rr l s (packT l s) := ((((rr_tak l s 4).trans (rr_tak l _ 2)).trans (rr_tak l _ 3)).trans (rr_tak l _ 1)).trans (rr_tak l _ 4)
theorem rr_pack1 (l : List Int) {begin : Nat} {s : Rst} (hb : InF l s → begin ≤ l.length) : Rr l s (if numV l s 4 < 10 then failS (packT l s) 4 begin else packT l s) := Rr.ite ((rr_packT l s).fail _ _ fun x => by have := hb x; omega) (rr_packT l s)
theorem rr_packed (l : List Int) {begin : Nat} {s : Rst} (hb : InF l s → begin ≤ l.length) : Rr l s (packedS l begin s) := (rr_pack1 l hb).trans (rr_tak l _ _)
theorem rr_genT (l : List Int) (s : Rst) : Rr l s (genT l s) := ((((((rr_tak l s 2).trans (rr_tak l _ 4)).trans (rr_tak l _ 1)).trans (rr_tak l _ 1)).trans (rr_tak l _ 4)).trans (rr_tak l _ 1)).trans (rr_tak l _ 1)
theorem rr_genA (l : List Int) (v : Gen) (s : Rst) : Rr l s (genA l v s) := Rr.ite ((rr_alph l _ _ s).trans (rr_list (rr_rep l _) _ _)) (Rr.refl l s)
theorem rr_genB (l : List Int) (v : Gen) (s : Rst) : Rr l s (genB l v s) := Rr.ite ((rr_alph l _ _ s).trans (rr_stream l _ _ _ _)) (Rr.refl l s)
theorem rr_general (l : List Int) (s : Rst) : Rr l s (generalS l s) := ((rr_genT l s).trans (rr_genA l _ _)).trans (rr_genB l _ _)
theorem rr_kind (l : List Int) {begin : Nat} (id : Int) {s : Rst} (hb : InF l s → begin ≤ l.length) : Rr l s (kindS l begin id s) := by
  have t := fun s n => rr_tak l s n
  have d := fun s n => rr_data l s n
  unfold kindS
  refine Rr.ite ((t _ 2).trans (d _ 2)) (Rr.ite (rr_turbo l s) (Rr.ite ((t _ 2).trans (t _ 2)) (Rr.ite ((t _ 1).trans (t _ _)) (Rr.ite (((((t _ 2).trans (t _ 2)).trans (t _ 1)).trans (t _ 2)).trans (d _ 3)) ?_))))
  refine Rr.ite ((((t _ 2).trans (t _ 2)).trans (t _ 1)).trans (d _ 3)) (Rr.ite (rr_packed l hb) (Rr.ite (rr_meas (rr_general l) hb 4) (Rr.ite (t _ 2) (Rr.ite (d _ 1) (Rr.ite (Rr.refl l s) (Rr.ite (t _ 2) (Rr.ite (t _ 2) ?_)))))))
  refine Rr.ite ((t _ 2).trans (rr_list (fun u => t u 2) _ _)) (Rr.ite (rr_meas (rr_items fun u => t u 2) hb 2) (Rr.ite (rr_only l s 0) (Rr.ite (rr_level l s) (Rr.ite ((t _ 1).trans (d _ 1)) (Rr.ite (rr_meas (rr_items fun u => t u 1) hb 2) ?_)))))
  exact Rr.ite ((t _ 1).trans (t _ _)) (Rr.ite (t _ 8) (Rr.ite ((t _ 16).trans (d _ 4)) (Rr.ite (rr_glue l s) (d _ 4))))
theorem rr_block (l : List Int) (s : Rst) : Rr l s (blockS l s) :=
  (rr_tak l s 1).trans (rr_kind l _ fun x => Nat.le_trans (rr_tak l s 1).on x.1)
/-- A block has its ID at least. -/
theorem block_on {l : List Int} {s : Rst} (h0 : s.e = 0) (h : s.p < l.length) : s.p < (blockS l s).p := by
  have h1 := (rr_kind l (begin := s.p) (numV l s 1) (s := takS l s 1) fun x => Nat.le_trans (rr_tak l s 1).on x.1).on
  rw [takS_yes h0 (show s.p + 1 ≤ l.length by omega)] at h1
  have h2 : s.p + 1 ≤ (blockS l s).p := by unfold blockS; rw [takS_yes h0 (show s.p + 1 ≤ l.length by omega)]; exact h1
  omega

/-! What stands behind plays no part. -/
section
variable {l m : List Int}
theorem tak_sm {s : Rst} {n : Nat} (h : Firm (takS l s n)) : takS (l ++ m) s n = takS l s n := by
  by_cases x : s.e = 0
  · by_cases y : s.p + n ≤ l.length
    · rw [takS_yes x y, takS_yes x (by rw [List.length_append]; omega)]
    · rw [takS_no x y] at h; exact absurd rfl h.1
  · rw [takS_bad x, takS_bad x]
theorem takB_sm {s : Rst} {n : Nat} (h : Firm (takS l s n)) : takB (l ++ m) s n = takB l s n := by
  by_cases x : s.e = 0
  · by_cases y : s.p + n ≤ l.length
    · rw [takB_yes x y, takB_yes x (by rw [List.length_append]; omega), List.drop_append_of_le_length (by omega), List.take_append_of_le_length (by rw [List.length_drop]; omega)]
    · rw [takS_no x y] at h; exact absurd rfl h.1
  · rw [takB_bad x, takB_bad x]
theorem num_sm {s : Rst} {n : Nat} (h : Firm (takS l s n)) : numV (l ++ m) s n = numV l s n := by unfold numV; rw [takB_sm h]
theorem firm_fail {s : Rst} {e f : Int} (h : Firm (failS s e f)) : Firm s := by
  by_cases x : s.e = 0
  · unfold Firm; omega
  · rw [failS_bad x] at h; exact h
theorem firm_ite {s : Rst} {e f : Int} {c : Prop} [Decidable c] (h : Firm (if c then failS s e f else s)) : Firm s := by
  by_cases x : c
  · rw [if_pos x] at h; exact firm_fail h
  · rw [if_neg x] at h; exact h
theorem firm_ite' {s : Rst} {e f : Int} {c : Prop} [Decidable c] (h : Firm (if c then s else failS s e f)) : Firm s := by
  by_cases x : c
  · rw [if_pos x] at h; exact h
  · rw [if_neg x] at h; exact firm_fail h
theorem back (n : Nat) {s : Rst} (h : Firm (takS l s n)) : Firm s := (rr_tak l s n).firm h
theorem ite_sm {a b a' b' : Rst} {c : Prop} [Decidable c] (h : Firm (if c then a else b)) (h1 : Firm a → a' = a) (h2 : Firm b → b' = b) : (if c then a' else b') = (if c then a else b) := by
  by_cases x : c
  · rw [if_pos x] at h; rw [if_pos x, if_pos x]; exact h1 h
  · rw [if_neg x] at h; rw [if_neg x, if_neg x]; exact h2 h
/-- One step behind another: a state is the same, and what comes of it. -/
theorem tak2 {s s' : Rst} {n : Nat} (h : Firm (takS l s n)) (k : Firm s → s' = s) : takS (l ++ m) s' n = takS l s n := by rw [k (back n h), tak_sm h]
theorem data_sm {s : Rst} {n : Nat} (h : Firm (dataS l s n)) : dataS (l ++ m) s n = dataS l s n := by
  have h2 : Firm (takS l (takS l s n) (numV l s n).toNat) := h
  have h1 := back _ h2
  unfold dataS
  rw [num_sm h1, tak_sm h1, tak_sm h2]
theorem data2 {s s' : Rst} {n : Nat} (h : Firm (dataS l s n)) (k : Firm s → s' = s) : dataS (l ++ m) s' n = dataS l s n := by rw [k ((rr_data l s n).firm h), data_sm h]
theorem only_sm {s : Rst} {n : Int} (h : Firm (onlyS l s n)) : onlyS (l ++ m) s n = onlyS l s n := by
  unfold onlyS at h ⊢
  have h1 := firm_ite' h
  rw [num_sm h1, tak_sm h1]
theorem list_sm {one one' : Rst → Rst} (hr : ∀ t, Rr l t (one t)) (hs : ∀ t, Firm (one t) → one' t = one t) : ∀ (k : Nat) (s : Rst), Firm (listS one k s) → listS one' k s = listS one k s
  | 0, s, _ => rfl
  | k + 1, s, h => by
    unfold listS at h ⊢
    refine ite_sm h (fun h => ?_) fun _ => rfl
    rw [hs s ((rr_list hr k (one s)).firm h)]
    exact list_sm hr hs k (one s) h
theorem item_sm {one one' : Rst → Rst} (hr : ∀ t, Rr l t (one t)) (hs : ∀ t, Firm (one t) → one' t = one t) (s : Rst) (h : Firm (itemS l one s)) : itemS (l ++ m) one' s = itemS l one s := data2 h (hs s)
theorem items_sm {one one' : Rst → Rst} (hr : ∀ t, Rr l t (one t)) (hs : ∀ t, Firm (one t) → one' t = one t) (s : Rst) (h : Firm (itemsS l one s)) : itemsS (l ++ m) one' s = itemsS l one s := by
  unfold itemsS at h ⊢
  have h1 := (rr_list (rr_item hr) _ _).firm h
  rw [num_sm h1, tak_sm h1]
  exact list_sm (rr_item hr) (item_sm hr hs) _ _ h
theorem meas_sm {rest rest' : Rst → Rst} (hr : ∀ t, Rr l t (rest t)) (hs : ∀ t, Firm (rest t) → rest' t = rest t) {begin : Nat} {s : Rst} {n : Nat} (h : Firm (measS' l rest begin s n)) : measS' (l ++ m) rest' begin s n = measS' l rest begin s n := by
  unfold measS' at h ⊢
  have h1 := firm_ite' h
  have h2 := (hr _).firm h1
  rw [num_sm h2, tak_sm h2, hs _ h1]
theorem symb_sm (long : Nat) (s : Rst) (h : Firm (symbS l long s)) : symbS (l ++ m) long s = symbS l long s := tak2 h fun h => tak_sm h
theorem alph_sm {many long : Nat} {s : Rst} (h : Firm (alphS l many long s)) : alphS (l ++ m) many long s = alphS l many long s := list_sm (rr_symb l long) (symb_sm long) many s h
theorem rep_sm (many : Int) (s : Rst) (h : Firm (repS l many s)) : repS (l ++ m) many s = repS l many s := by
  unfold repS at h ⊢
  have h1 := firm_ite (back _ h)
  rw [num_sm h1, tak_sm h1, tak_sm h]
open Classical in
theorem stream_sm {s : Rst} {count : Nat} {many : Int} {n : Nat} (h : Firm (streamS l s count many n)) : streamS (l ++ m) s count many n = streamS l s count many n := by
  unfold streamS at h ⊢
  have h1 := firm_ite h
  rw [takB_sm h1, tak_sm h1]
theorem glue_sm {s : Rst} (h : Firm (glueS l s)) : glueS (l ++ m) s = glueS l s := by
  unfold glueS at h ⊢
  have h1 := firm_ite h
  rw [takB_sm h1, tak_sm h1]
theorem level_sm {s : Rst} (h : Firm (levelS l s)) : levelS (l ++ m) s = levelS l s := by
  unfold levelS at h ⊢
  have h1 := firm_ite h
  have h2 := back _ h1
  rw [only_sm h2, num_sm h1, tak_sm h1]
theorem turbo_sm {s : Rst} (h : Firm (turboS l s)) : turboS (l ++ m) s = turboS l s :=
  data2 h fun h => tak2 h fun h => tak2 h fun h => tak2 h fun h => tak2 h fun h => tak2 h fun h => tak2 h fun h => tak2 h fun h => tak_sm h
theorem packT_sm {s : Rst} (h : Firm (packT l s)) : packT (l ++ m) s = packT l s := tak2 h fun h => tak2 h fun h => tak2 h fun h => tak2 h fun h => tak_sm h
theorem packed_sm {begin : Nat} {s : Rst} (h : Firm (packedS l begin s)) : packedS (l ++ m) begin s = packedS l begin s := by
  unfold packedS at h ⊢
  have h1 := firm_ite (back _ h)
  have h2 : Firm (takS l (takS l (takS l (takS l (takS l s 4) 2) 3) 1) 4) := h1
  rw [num_sm (back _ (back _ (back _ (back _ h2)))), packT_sm h1, tak_sm h]
theorem gen_sm {s : Rst} (h : Firm (genT l s)) : genT (l ++ m) s = genT l s ∧ genV (l ++ m) s = genV l s := by
  have h7 : Firm (takS l (takS l (takS l (takS l (takS l (takS l (takS l s 2) 4) 1) 1) 4) 1) 1) := h
  have h6 := back _ h7
  have h5 := back _ h6
  have h4 := back _ h5
  have h3 := back _ h4
  have h2 := back _ h3
  have h1 := back _ h2
  unfold genT genV
  rw [tak_sm h1, num_sm h2, tak_sm h2, num_sm h3, tak_sm h3, num_sm h4, tak_sm h4, num_sm h5, tak_sm h5, num_sm h6, tak_sm h6, num_sm h7, tak_sm h7]
  exact ⟨rfl, rfl⟩
theorem genA_sm {v : Gen} {s : Rst} (h : Firm (genA l v s)) : genA (l ++ m) v s = genA l v s := by
  unfold genA at h ⊢
  refine ite_sm h (fun h => ?_) fun _ => rfl
  rw [alph_sm ((rr_list (rr_rep l _) _ _).firm h)]
  exact list_sm (rr_rep l _) (rep_sm _) _ _ h
theorem genB_sm {v : Gen} {s : Rst} (h : Firm (genB l v s)) : genB (l ++ m) v s = genB l v s := by
  unfold genB at h ⊢
  refine ite_sm h (fun h => ?_) fun _ => rfl
  rw [alph_sm ((rr_stream l _ _ _ _).firm h), stream_sm h]
theorem general_sm (s : Rst) (h : Firm (generalS l s)) : generalS (l ++ m) s = generalS l s := by
  unfold generalS at h ⊢
  have h1 := (rr_genB l _ _).firm h
  have h2 := (rr_genA l _ _).firm h1
  rw [(gen_sm h2).1, (gen_sm h2).2, genA_sm h1, genB_sm h]
theorem kind_sm {begin : Nat} {id : Int} {s : Rst} (h : Firm (kindS l begin id s)) : kindS (l ++ m) begin id s = kindS l begin id s := by
  have hit : ∀ n, ∀ t : Rst, Firm (takS l t n) → takS (l ++ m) t n = takS l t n := fun n t h => tak_sm h
  unfold kindS at h ⊢
  refine ite_sm h (fun h => data2 h fun h => tak_sm h) fun h => ite_sm h (fun h => turbo_sm h) fun h => ite_sm h (fun h => tak2 h fun h => tak_sm h) fun h => ite_sm h (fun h => ?_) fun h => ite_sm h (fun h => data2 h fun h => tak2 h fun h => tak2 h fun h => tak2 h fun h => tak_sm h) fun h => ?_
  · rw [num_sm (back _ h), tak_sm (back _ h), tak_sm h]
  refine ite_sm h (fun h => data2 h fun h => tak2 h fun h => tak2 h fun h => tak_sm h) fun h => ite_sm h (fun h => packed_sm h) fun h => ite_sm h (fun h => meas_sm (rr_general l) general_sm h) fun h => ite_sm h (fun h => tak_sm h) fun h => ite_sm h (fun h => data_sm h) fun h => ite_sm h (fun _ => rfl) fun h => ite_sm h (fun h => tak_sm h) fun h => ite_sm h (fun h => tak_sm h) fun h => ?_
  refine ite_sm h (fun h => ?_) fun h => ite_sm h (fun h => meas_sm (rr_items fun u => rr_tak l u 2) (items_sm (fun u => rr_tak l u 2) (hit 2)) h) fun h => ite_sm h (fun h => only_sm h) fun h => ite_sm h (fun h => level_sm h) fun h => ite_sm h (fun h => data2 h fun h => tak_sm h) fun h => ite_sm h (fun h => meas_sm (rr_items fun u => rr_tak l u 1) (items_sm (fun u => rr_tak l u 1) (hit 1)) h) fun h => ?_
  · have h1 := (rr_list (fun u => rr_tak l u 2) _ _).firm h
    rw [num_sm h1, tak_sm h1]
    exact list_sm (fun u => rr_tak l u 2) (hit 2) _ _ h
  refine ite_sm h (fun h => ?_) fun h => ite_sm h (fun h => tak_sm h) fun h => ite_sm h (fun h => data2 h fun h => tak_sm h) fun h => ite_sm h (fun h => glue_sm h) fun h => data_sm h
  rw [num_sm (back _ h), tak_sm (back _ h), tak_sm h]
theorem block_sm {s : Rst} (h : Firm (blockS l s)) : blockS (l ++ m) s = blockS l s := by
  unfold blockS at h ⊢
  have h1 := (rr_kind l (begin := s.p) (numV l s 1) (s := takS l s 1) fun x => Nat.le_trans (rr_tak l s 1).on x.1).firm h
  rw [num_sm h1, tak_sm h1]
  exact kind_sm h
end

end Go.Proofs.Ythlaglhlmbkniaa
/- tzx.tape: its contract, by that of block. -/
namespace Go.Proofs.Ythlaglhlmbkniaa
open Go.RowKit
set_option linter.unusedVariables false
set_option linter.unusedSimpArgs false
set_option maxRecDepth 100000

theorem foldB18 (a0 a1 a2 a3 a4 a5 a6 a7 a8 a9 a10 a11 a12 a13 a14 a15 a16 a17 : Value) : Array.foldl (fun (a : Array Value) (x : Value × Nat) => a.setIfInBounds x.2 x.1) #[.int .i64 0, .int .i64 0, .int .i64 0, .int .i64 0, .int .i64 0, .int .i64 0, .int .i64 0, .int .i64 0, .int .i64 0, .int .i64 0, .int .i64 0, .int .i64 0, .slice none 0 0, .slice none 0 0, .slice none 0 0, .slice none 0 0, .slice none 0 0, .slice none 0 0] (#[a0, a1, a2, a3, a4, a5, a6, a7, a8, a9, a10, a11, a12, a13, a14, a15, a16, a17] : Array Value).zipIdx 0 18 = #[a0, a1, a2, a3, a4, a5, a6, a7, a8, a9, a10, a11, a12, a13, a14, a15, a16, a17] := by kernel_rfl
theorem foldB (cs : Array Value) (h : cs.size = 18) : Array.foldl (fun (a : Array Value) (x : Value × Nat) => a.setIfInBounds x.2 x.1) #[.int .i64 0, .int .i64 0, .int .i64 0, .int .i64 0, .int .i64 0, .int .i64 0, .int .i64 0, .int .i64 0, .int .i64 0, .int .i64 0, .int .i64 0, .int .i64 0, .slice none 0 0, .slice none 0 0, .slice none 0 0, .slice none 0 0, .slice none 0 0, .slice none 0 0] cs.zipIdx 0 18 = cs := by
  obtain ⟨l⟩ := cs
  match l, h with
  | [a0, a1, a2, a3, a4, a5, a6, a7, a8, a9, a10, a11, a12, a13, a14, a15, a16, a17], _ => exact foldB18 a0 a1 a2 a3 a4 a5 a6 a7 a8 a9 a10 a11 a12 a13 a14 a15 a16 a17
/-- block's contract, wherever the loop calls it. -/
def BlkOk (F : Nat → Prop) (blk : Rst → Rst) (w : World) (g : Nat) (l : List Int) : Prop := ∀ (u : World) (k : Nat), onS blk l (s0F l) k → RS F u g l (itS blk (s0F l) k) → Ch (fun i => i = g) w u → Calls Try.prog 38 #[.pointer (some ⟨g, 0, none⟩)] u (BlkE F u g l (itS blk (s0F l) (k + 1)) (gI l (itS blk (s0F l) k).p))
def BlkOn (blk : Rst → Rst) (l : List Int) : Prop := ∀ k, onS blk l (s0F l) k → (itS blk (s0F l) (k + 1)).e = 0 → (itS blk (s0F l) k).p < (itS blk (s0F l) (k + 1)).p
/-- The tape and its result's place, made. -/
theorem Tq.new {F : Nat → Prop} {w w1 : World} {g : Nat} {l : List Int} {s : Rst} (h : RS F w1 g l s) (hc : Ch (fun i => i = g) (w.alloc (.cells #[.int .i64 0, .int .i64 0, .slice none 0 0] 43)) w1) (hg : g < w.heap.size) (hF : ∀ i, F i → i < w.heap.size) (M m : Int) :
    Tq F w (w1.alloc (.cells #[.int .i64 M, .int .i64 m, .slice none 0 0] 43)) g w.heap.size w1.heap.size l s M m none 0 0 [] none 0 0 [] := by
  have hsz := hc.size
  simp at hsz
  refine ⟨h.below (bnew w1 _), ?_, heap_alloc_new _ _, Blks.nil _ _ _ (by simp), World.ownsRow_nil _ _ _ _, ?_, hg, Nat.le_refl _, by omega, hF⟩
  · exact ((bnew w1 _).block _ (by omega)).trans ((hc.block _ (by simp) (by omega)).trans (heap_alloc_new w _))
  · exact ((Ch.of_below (bnew w _)).then hc).less ((bnew w1 _).mono (by omega))
/- own_int -/
attribute [local simp] foldB
attribute [local simp ↓ high] blkLoad_as blkStore_as blkAlloc_as blkBuild_as
set_option maxHeartbeats 6400000 in
theorem tape_any (F : Nat → Prop) (blk : Rst → Rst) (w : World) (g : Nat) (l : List Int) (h : RS F w g l ⟨0, 0, 0⟩) (hF : ∀ i, F i → i < w.heap.size) (hl : l.length ≤ 1000000) (hB : BlkOk F blk w g l) (hP : BlkOn blk l) :
    Calls Try.prog 25 #[.pointer (some ⟨g, 0, none⟩)] w (TapeE F blk w g l) := by
  have H := Lib.hid (h.below (bnew w (.cells #[.int .i64 0, .int .i64 0, .slice none 0 0] 43)))
  have HG := Lib.hid (And.intro h.lt hF)
  have HB := Lib.hid hB
  have HP := Lib.hid hP
  obtain ⟨s1, hs1⟩ : ∃ s1, takS l ⟨0, 0, 0⟩ 8 = s1 := ⟨_, rfl⟩
  obtain ⟨s2, hs2⟩ : ∃ s2, takS l s1 1 = s2 := ⟨_, rfl⟩
  obtain ⟨s3, hs3⟩ : ∃ s3, takS l s2 1 = s3 := ⟨_, rfl⟩
  obtain ⟨M, hM⟩ : ∃ M, numV l s1 1 = M := ⟨_, rfl⟩
  obtain ⟨m, hm⟩ : ∃ m, numV l s2 1 = m := ⟨_, rfl⟩
  have HMm : Hid (maj l = M ∧ mnr l = m ∧ s0F l = s3) := Lib.hid (by unfold maj mnr s0F; rw [hs1, hs2, hs3]; exact ⟨hM, hm, rfl⟩)
  have H1 : Hid (Calls Try.prog 33 #[.pointer (some ⟨g, 0, none⟩), .int .i64 8] (w.alloc (.cells #[.int .i64 0, .int .i64 0, .slice none 0 0] 43)) (GotB F (takB l ⟨0, 0, 0⟩ 8) _ g l s1)) := Lib.hid (by
    have := take_any F _ g l _ H hl 8 (Or.inr (by decide))
    rw [show Int.toNat 8 = 8 from rfl, hs1] at this
    exact this)
  have H2 := Lib.hid (fun u hr => num_any F u g l s1 hr hl 1 1 rfl (by decide) (by decide))
  have H3 := Lib.hid (fun u hr => num_any F u g l s2 hr hl 1 1 rfl (by decide) (by decide))
  rw [hM, hs2] at H2
  rw [hm, hs3] at H3
  clear h hF hB hP hs1 hs2 hs3 hM hm
  go_enter Try.func25, Try.ntmps25
  go_wp2_with fail
  refine H1.out.mono ?_
  rintro e w1 ⟨A1, n1, c1, rfl, hb1, hr1, hc1⟩
  have HR1 := Lib.hid hr1
  have HC1 := Lib.hid hc1
  clear hb1 hr1 hc1 H1
  go_wp2_with fail
  refine (H2.out _ HR1).mono ?_
  rintro e w2 ⟨rfl, hr2, hc2⟩
  have HR2 := Lib.hid hr2
  have HC2 := Lib.hid (HC1.out.then hc2)
  clear hr2 hc2 H2 HR1 HC1
  go_wp2_with fail
  refine (H3.out _ HR2).mono ?_
  rintro e w3 ⟨rfl, hr3, hc3⟩
  have HS0 := Lib.hid (Tq.new hr3 (HC2.out.then hc3) HG.out.1 HG.out.2 M m)
  have e3 : s3 = itS blk (s0F l) 0 := HMm.out.2.2.symm
  rw [e3] at HS0
  clear hr3 hc3 H3 HR2 HC2 e3
  obtain ⟨g0, hg0⟩ : ∃ g0, w.heap.size = g0 := ⟨_, rfl⟩
  obtain ⟨gt, hgt⟩ : ∃ gt, w3.heap.size = gt := ⟨_, rfl⟩
  rw [hg0, hgt] at HS0
  go_wp2_with fail
  clear hg0 hgt
  go_loopg [4] (measS l (itS blk (s0F l) 0)) (fun mm v wr => ∃ k A ca B c L bs, v = .slice A k ca ∧ mm = measS l (itS blk (s0F l) k) ∧ k ≤ 4096 ∧ Hid (Tq F w wr g g0 gt l (itS blk (s0F l) k) M m B k c L A k ca bs) ∧ Hid (Pu blk l k L bs))
  case atStart => exact ⟨0, none, 0, none, 0, [], [], rfl, rfl, by omega, HS0, Lib.hid (Pu.nil blk l)⟩
  case round =>
    obtain ⟨k, A, ca, B, c, L, bs, rfl, hmm, hk, HA, HU⟩ := hrel
    have HM := Lib.hid hmm
    obtain ⟨D, hD⟩ : ∃ D, leftN l (itS blk (s0F l) k) = D := ⟨_, rfl⟩
    have HLf := Lib.hid (left_s F wr g l _ (Lib.hid HA.out.rs) hl D hD)
    unfold leftN at hD
    clear hmm
    by_cases hon : (itS blk (s0F l) k).e = 0 ∧ (itS blk (s0F l) k).p < l.length
    · rw [if_pos hon.1] at hD
      have d1 : decide ((0 : Int) < (D : Int)) = true := decide_eq_true (by omega)
      have d1' : decide (0 < D) = true := decide_eq_true (by omega)
      have HON := Lib.hid hon
      clear hD hon
      go_wp2_with fail
      refine HLf.out.mono ?_
      rintro x w1 ⟨rfl, k1, rfl⟩
      have HA1 := Lib.hid (HA.out.below (bdrawn (Below.refl _ _) k1))
      clear HA HLf
      generalize wr.drewN k1 = w1 at *
      obtain ⟨⟨cm0, cm1, ct⟩, _, _⟩ := HA1.out.all
      clear cm0 cm1
      by_cases hmany : k = 4096
      · have HEnd : Hid (Ends blk l (s0F l) k) := Lib.hid ⟨HU.out.on, fun x => x.2.2 hmany⟩
        have d2 : ((k : Int) == 4096) = true := by rw [beq_iff_eq]; omega
        have d2' : decide ((k : Int) = 4096) = true := decide_eq_true (by omega)
        have d2'' : (k == 4096) = true := by rw [beq_iff_eq]; exact hmany
        clear hmany
        have HAt := Lib.hid (at_s F w1 g l _ (Lib.hid HA1.out.rs))
        have HFl := Lib.hid (fail_any F w1 g l _ (Lib.hid HA1.out.rs) 8 ((itS blk (s0F l) k).p : Nat) (by decide))
        go_wp2_with fail
        refine HAt.out.mono ?_
        rintro x w2 ⟨rfl, rfl⟩
        go_wp2_with fail
        refine HFl.out.mono ?_
        rintro x w2 ⟨rfl, hr2, hc2⟩
        have HA2 : Hid (Tq F w w2 g g0 gt l (finS l (itS blk (s0F l) k)) M m B k c L A k ca bs) := Lib.hid (by
          have e : failS (itS blk (s0F l) k) 8 ((itS blk (s0F l) k).p : Nat) = finS l (itS blk (s0F l) k) := by
            rw [failS_ok HON.out.1]; unfold finS; rw [if_pos HON.out]
          rw [← e]
          exact HA1.out.rd hr2 hc2)
        clear hr2 hc2 HFl HAt HA1 ct
        have HSd := Lib.hid (sound_any _ w2 B k c L HA2.out.row.at (by omega))
        obtain ⟨⟨cm0, cm1, ct⟩, _, _⟩ := HA2.out.all
        clear cm0 cm1
        go_wp2_with fail
        refine HSd.out.mono ?_
        rintro x w5 ⟨r, e, rfl, hsi, hb5⟩
        have HA5 := Lib.hid (HA2.out.below hb5)
        have HSI := Lib.hid hsi
        clear ct hsi hb5 HSd
        by_cases he : e = 0
        · subst he
          have HT : Hid (TapeIs blk l k (finS l (itS blk (s0F l) k))) := Lib.hid ⟨L, r, 0, HEnd.out, HU.out.n, HU.out.id, HSI.out, by unfold endS; rw [if_pos rfl]⟩
          have HR : Hid (TapeE F blk w g l (.returned (.agg #[.int .i64 M, .int .i64 m, .slice B k c])) (tpPut w5 g0 M m B k c)) := Lib.hid (by
            have h1 := HA5.out
            rw [← HMm.out.1, ← HMm.out.2.1] at h1 ⊢
            exact h1.made HT.out)
          have HH := Lib.hid (tpPut_heap HA5.out.res M m B k c)
          obtain ⟨⟨a0, a1, a2⟩, ⟨b0, b1, b2⟩, f0, f1, f2⟩ := HA5.out.all
          go_wp2_with fail
          exact bodyPost_ret (results_tp1 rfl _ HH.out rfl) rfl HR.out
        · have hrk : r < k := by
            rcases HSI.out.kind with x | ⟨x, _⟩
            · exact absurd x he
            · rw [HU.out.n] at x; exact x
          obtain ⟨bb, bo, rfl, _, _, hbc⟩ := (ints_own HA5.out.beg).lies (by omega)
          have cb := hbc r hrk
          have dn : (e != 0) = true := by rw [bne_iff_ne]; exact he
          obtain ⟨Y, hY⟩ : ∃ Y, gI bs r = Y := ⟨_, rfl⟩
          rw [hY] at cb
          have HF5 := Lib.hid (fail_any F w5 g l _ (Lib.hid HA5.out.rs) e Y he)
          have HYb : Hid (Y = ((itS blk (s0F l) r).p : Nat)) := Lib.hid (by rw [← hY]; exact HU.out.bg r hrk)
          have HE := Lib.hid he
          clear hbc hY he
          go_wp2_with fail
          refine HF5.out.mono ?_
          rintro x w6 ⟨rfl, hr6, hc6⟩
          have HA6 := Lib.hid (HA5.out.rd hr6 hc6)
          have HT : Hid (TapeIs blk l k (failS (finS l (itS blk (s0F l) k)) e Y)) := Lib.hid ⟨L, r, e, HEnd.out, HU.out.n, HU.out.id, HSI.out, by unfold endS; rw [if_neg HE.out, HYb.out]⟩
          clear hr6 hc6 HF5 HA5 cb
          have HR : Hid (TapeE F blk w g l (.returned (.agg #[.int .i64 M, .int .i64 m, .slice B k c])) (tpPut w6 g0 M m B k c)) := Lib.hid (by
            have h1 := HA6.out
            rw [← HMm.out.1, ← HMm.out.2.1] at h1 ⊢
            exact h1.made HT.out)
          have HH := Lib.hid (tpPut_heap HA6.out.res M m B k c)
          obtain ⟨⟨a0, a1, a2⟩, ⟨b0, b1, b2⟩, f0, f1, f2⟩ := HA6.out.all
          go_wp2_with fail
          exact bodyPost_ret (results_tp1 rfl _ HH.out rfl) rfl HR.out
      · have HOn : Hid (onS blk l (s0F l) k) := Lib.hid ⟨HON.out.1, HON.out.2, hmany⟩
        have d2 : ((k : Int) == 4096) = false := by rw [beq_eq_false_iff_ne]; omega
        have d2' : decide ((k : Int) = 4096) = false := decide_eq_false (by omega)
        have d2'' : (k == 4096) = false := by rw [beq_eq_false_iff_ne]; exact hmany
        have HAt := Lib.hid (at_s F w1 g l _ (Lib.hid HA1.out.rs))
        obtain ⟨P, hP⟩ : ∃ P, (itS blk (s0F l) k).p = P := ⟨_, rfl⟩
        rw [hP] at HAt
        have HPp := Lib.hid hP
        have hlow := Lib.hid (show gt + 1 ≤ w1.heap.size from HA1.out.low)
        obtain ⟨A0, ca0, eA, hka, hca⟩ := own_slice HA1.out.beg
        injection eA with eA1 eA2 eA3
        subst eA1 eA3
        clear hP eA2
        go_wp2_with fail
        refine HAt.out.mono ?_
        rintro x w2 ⟨rfl, rfl⟩
        clear HAt ct
        go_wp2_with (at_builtin; refine wpList_append_int 22 infoI64 Try.underlying22 rfl (.tmp 25) (.tmp 28) rfl A k ca bs rfl HA1.out.beg P _ rfl hlow.out rfl (by omega) ?_; intro g3 c3 w3 k1 k2 k3; have HA3 := Lib.hid (HA1.out.begun k1 k2 k3); obtain ⟨A9, ca9, e9, hk3, hc3⟩ := own_slice k1; injection e9 with e91 e92 e93; subst e91 e93; clear e92; obtain ⟨⟨cm0, cm1, ct⟩, _, _⟩ := HA3.out.all; clear cm0 cm1 k1 k2 k3)
        have hgl := Lib.hid HA3.out.low
        have HC := Lib.hid (HB.out w3.drew k HOn.out (HA3.out.rs.below (Below.refl _ _).drew) (HA3.out.ch.less ((Below.refl w3.heap.size w3).drew.mono HA3.out.ch.size)))
        have HGT := Lib.hid (show gt ≠ g by have := HA3.out.o1; have := HA3.out.o2; have := HA3.out.o3; omega)
        first | refine wp_region_noPanic ?_ | skip
        refine wp_region_U (n := 5) (S := (fun u => u.cell? ⟨gt, 2, none⟩ = some (.slice B k c))) (by kernel_rfl) (by kernel_rfl) (ct) (fun hHeld => ?_)
        refine wpAnyU_take (i := 0) (v := ?v1) rfl (by kernel_rfl) (by kernel_rfl) (by kernel_rfl) (by kernel_rfl) (fun _ _ _ h => h) (Or.inl ⟨by rfl, ?hy1⟩) (by assumption) ?rest1
        case hy1 => (intro w hSw; (try dsimp only at hSw); go_simp; try with_reducible rfl)
        try simp only [Act.put, List.getElem_toArray, List.getElem_cons_succ, List.getElem_cons_zero, List.setIfInBounds_toArray, List.set_cons_zero, List.set_cons_succ]
        refine wpAnyU_take (i := 1) (v := ?v2) rfl (by kernel_rfl) (by kernel_rfl) (by kernel_rfl) (by kernel_rfl) (fun _ _ _ h => h) (Or.inl ⟨by rfl, ?hy2⟩) (by assumption) ?rest2
        case hy2 => (intro w hSw; (try dsimp only at hSw); go_simp; try with_reducible rfl)
        try simp only [Act.put, List.getElem_toArray, List.getElem_cons_succ, List.getElem_cons_zero, List.setIfInBounds_toArray, List.set_cons_zero, List.set_cons_succ]
        refine wpAnyU_take (i := 2) (v := ?v3) rfl (by kernel_rfl) (by kernel_rfl) (by kernel_rfl) (by kernel_rfl) (fun _ _ _ h => h) (Or.inl ⟨by rfl, ?hy3⟩) (by assumption) ?rest3
        case hy3 => (intro w hSw; (try dsimp only at hSw); go_simp; try with_reducible rfl)
        try simp only [Act.put, List.getElem_toArray, List.getElem_cons_succ, List.getElem_cons_zero, List.setIfInBounds_toArray, List.set_cons_zero, List.set_cons_succ]
        refine wpAnyU_ready (i := 3) (by kernel_rfl) (by kernel_rfl) rfl (fun K hK => ?_)
        go_simp
        refine (HC.out).mono ?_
        rintro e w' ⟨cs, b, rfl, hbi, hbv, hbr, hbc⟩
        go_wp2_with fail
        refine hK.out _ _ ((World.cell?_of_block (a := ⟨gt, 2, none⟩) (hbc.block gt hgl.out HGT.out)).trans ct) (fun hHeld => ?_)
        clear hK K
        try simp only [Act.put, List.getElem_toArray, List.getElem_cons_succ, List.getElem_cons_zero, List.setIfInBounds_toArray, List.set_cons_zero, List.set_cons_succ]
        have hbs := hbv.size
        have ct' : w'.cell? ⟨gt, 2, none⟩ = some (.slice B k c) := (World.cell?_of_block (a := ⟨gt, 2, none⟩) (hbc.block gt hgl.out HGT.out)).trans ct
        have hS5 : (w'.alloc (.cells cs 30)).cell? ⟨gt, 2, none⟩ = some (.slice B k c) := (World.cell?_of_block (a := ⟨gt, 2, none⟩) ((bnew w' _).block gt (Nat.lt_of_lt_of_le hgl.out hbc.size))).trans ct'
        refine wpAnyU_ready (i := 4) (by kernel_rfl) (by kernel_rfl) rfl (fun K hK => ?_)
        go_simp
        refine hK.out _ _ hS5 (fun hHeld => ?_)
        clear hK K
        try simp only [Act.put, List.getElem_toArray, List.getElem_cons_succ, List.getElem_cons_zero, List.setIfInBounds_toArray, List.set_cons_zero, List.set_cons_succ]
        refine wpAnyU_tail rfl (by kernel_rfl) ?_
        simp only [List.drop_succ_cons, List.drop_zero]
        change wpList _ _ _ _ _ (w'.alloc (.cells cs 30))
        have hcd : Ch (fun i => i = g) w3 w' := (Ch.of_below (Below.refl w3.heap.size w3).drew).then hbc
        have HA4 := Lib.hid (HA3.out.rd hbr hcd)
        have HBV : Hid (BV (fun i => w3.heap.size ≤ i) w' cs b) := Lib.hid hbv
        have HGG : Hid (∀ i, i < w'.heap.size → w3.heap.size ≤ i → (gt < i ∧ (Value.slice (some ⟨g3, 0, none⟩) (k + 1) c3).ownBlock ≠ some i) ∧ (Value.slice B k c).ownBlock ≠ some i) := Lib.hid (fun i _ h2 => ⟨⟨by have := hgl.out; omega, fun e => by have := (own_low HA3.out.beg i e).2; omega⟩, fun e => by have := (HA3.out.row.blk i e).2; omega⟩)
        have HID : Hid (b.id = gI l (itS blk (s0F l) k).p) := Lib.hid hbi
        clear hbv hbr hbc hbi hcd ct' ct HC hS5 hbs
        go_wp2_with (at_builtin; refine wpList_append_blks 24 infoBlk Try.underlying24 rfl (.tmp 31) (.tmp 34) rfl B k c L rfl HA4.out.row cs b HBV.out HGG.out _ rfl rfl (by omega) ?_; intro g4 c4 w4 hx4 hc4; have hf4 := hx4.fit; have hm4 := hx4.max; unfold maxLen at hm4; have HN := HA4.out.blocked hx4 hc4; obtain ⟨⟨n1, n2⟩, hn3⟩ := HN; have HT5 := Lib.hid hn3; clear hx4 hc4 hn3)
        go_wp2_with fail
        refine NoPanic.normal ?_
        have HU5 := Lib.hid (HU.out.next HOn.out b HID.out)
        rw [HPp.out] at HU5
        go_wp2_with fail
        go_roundg (measS l (itS blk (s0F l) (k + 1)))
        case measure => exact HM.out ▸ meas_lt HON.out.1 HON.out.2 (HP.out k HOn.out)
        case rel => exact ⟨k + 1, _, c3, _, c4, _, _, rfl, rfl, by omega, HT5, HU5⟩
    · have HEnd : Hid (Ends blk l (s0F l) k) := Lib.hid ⟨HU.out.on, fun x => hon ⟨x.1, x.2.1⟩⟩
      have hD0 : D = 0 := by
        by_cases he : (itS blk (s0F l) k).e = 0
        · rw [if_pos he] at hD
          have := fun x => hon ⟨he, x⟩
          omega
        · rw [if_neg he] at hD
          exact hD.symm
      subst hD0
      go_wp2_with fail
      refine HLf.out.mono ?_
      rintro x w1 ⟨rfl, k1, rfl⟩
      have HA2 : Hid (Tq F w (wr.drewN k1) g g0 gt l (finS l (itS blk (s0F l) k)) M m B k c L A k ca bs) := Lib.hid (by
        have e : finS l (itS blk (s0F l) k) = itS blk (s0F l) k := by unfold finS; rw [if_neg hon]
        rw [e]
        exact HA.out.below (bdrawn (Below.refl _ _) k1))
      clear HA HLf hD hon
      generalize wr.drewN k1 = w2 at *
      have HSd := Lib.hid (sound_any _ w2 B k c L HA2.out.row.at (by omega))
      obtain ⟨⟨cm0, cm1, ct⟩, _, _⟩ := HA2.out.all
      clear cm0 cm1
      go_wp2_with fail
      refine HSd.out.mono ?_
      rintro x w5 ⟨r, e, rfl, hsi, hb5⟩
      have HA5 := Lib.hid (HA2.out.below hb5)
      have HSI := Lib.hid hsi
      clear ct hsi hb5 HSd
      by_cases he : e = 0
      · subst he
        have HT : Hid (TapeIs blk l k (finS l (itS blk (s0F l) k))) := Lib.hid ⟨L, r, 0, HEnd.out, HU.out.n, HU.out.id, HSI.out, by unfold endS; rw [if_pos rfl]⟩
        have HR : Hid (TapeE F blk w g l (.returned (.agg #[.int .i64 M, .int .i64 m, .slice B k c])) (tpPut w5 g0 M m B k c)) := Lib.hid (by
          have h1 := HA5.out
          rw [← HMm.out.1, ← HMm.out.2.1] at h1 ⊢
          exact h1.made HT.out)
        have HH := Lib.hid (tpPut_heap HA5.out.res M m B k c)
        obtain ⟨⟨a0, a1, a2⟩, ⟨b0, b1, b2⟩, f0, f1, f2⟩ := HA5.out.all
        go_wp2_with fail
        exact bodyPost_ret (results_tp1 rfl _ HH.out rfl) rfl HR.out
      · have hrk : r < k := by
          rcases HSI.out.kind with x | ⟨x, _⟩
          · exact absurd x he
          · rw [HU.out.n] at x; exact x
        obtain ⟨bb, bo, rfl, _, _, hbc⟩ := (ints_own HA5.out.beg).lies (by omega)
        have cb := hbc r hrk
        have dn : (e != 0) = true := by rw [bne_iff_ne]; exact he
        obtain ⟨Y, hY⟩ : ∃ Y, gI bs r = Y := ⟨_, rfl⟩
        rw [hY] at cb
        have HF5 := Lib.hid (fail_any F w5 g l _ (Lib.hid HA5.out.rs) e Y he)
        have HYb : Hid (Y = ((itS blk (s0F l) r).p : Nat)) := Lib.hid (by rw [← hY]; exact HU.out.bg r hrk)
        have HE := Lib.hid he
        clear hbc hY he
        go_wp2_with fail
        refine HF5.out.mono ?_
        rintro x w6 ⟨rfl, hr6, hc6⟩
        have HA6 := Lib.hid (HA5.out.rd hr6 hc6)
        have HT : Hid (TapeIs blk l k (failS (finS l (itS blk (s0F l) k)) e Y)) := Lib.hid ⟨L, r, e, HEnd.out, HU.out.n, HU.out.id, HSI.out, by unfold endS; rw [if_neg HE.out, HYb.out]⟩
        clear hr6 hc6 HF5 HA5 cb
        have HR : Hid (TapeE F blk w g l (.returned (.agg #[.int .i64 M, .int .i64 m, .slice B k c])) (tpPut w6 g0 M m B k c)) := Lib.hid (by
          have h1 := HA6.out
          rw [← HMm.out.1, ← HMm.out.2.1] at h1 ⊢
          exact h1.made HT.out)
        have HH := Lib.hid (tpPut_heap HA6.out.res M m B k c)
        obtain ⟨⟨a0, a1, a2⟩, ⟨b0, b1, b2⟩, f0, f1, f2⟩ := HA6.out.all
        go_wp2_with fail
        exact bodyPost_ret (results_tp1 rfl _ HH.out rfl) rfl HR.out

end Go.Proofs.Ythlaglhlmbkniaa
/- tzx.block, whatever the ID: what it leaves of the reader is blockS. -/
namespace Go.Proofs.Ythlaglhlmbkniaa
open Go.RowKit
set_option linter.unusedVariables false

theorem block_any (F : Nat → Prop) (w : World) (g : Nat) (l : List Int) (s : Rst) (h : RS F w g l s) (hF : ∀ i, F i → i < w.heap.size) (hl : l.length ≤ 1000000) (h8 : Hid (Byte8 l)) :
    Calls Try.prog 38 #[.pointer (some ⟨g, 0, none⟩)] w (BlkE F w g l (blockS l s) (numV l s 1)) := by
  obtain ⟨id, hid⟩ : ∃ id, numV l s 1 = id := ⟨_, rfl⟩
  unfold blockS
  rw [hid]
  unfold kindS
  by_cases e16 : id = 16
  · rw [if_pos e16]
    subst e16
    exact block_16 F w g l s h hF hl h8 hid
  rw [if_neg e16]
  by_cases e17 : id = 17
  · rw [if_pos e17]
    subst e17
    exact block_17 F w g l s h hF hl h8 hid
  rw [if_neg e17]
  by_cases e18 : id = 18
  · rw [if_pos e18]
    subst e18
    exact block_18 F w g l s h hF hl h8 hid
  rw [if_neg e18]
  by_cases e19 : id = 19
  · rw [if_pos e19]
    subst e19
    exact block_19 F w g l s h hF hl h8 hid
  rw [if_neg e19]
  by_cases e20 : id = 20
  · rw [if_pos e20]
    subst e20
    exact block_20 F w g l s h hF hl h8 hid
  rw [if_neg e20]
  by_cases e21 : id = 21
  · rw [if_pos e21]
    subst e21
    exact block_21 F w g l s h hF hl h8 hid
  rw [if_neg e21]
  by_cases e24 : id = 24
  · rw [if_pos e24]
    subst e24
    exact block_24 F w g l s h hF hl h8 hid
  rw [if_neg e24]
  by_cases e25 : id = 25
  · rw [if_pos e25]
    subst e25
    exact block_25 F w g l s h hF hl h8 hid
  rw [if_neg e25]
  by_cases e32 : id = 32
  · rw [if_pos e32]
    subst e32
    exact block_32 F w g l s h hF hl h8 hid
  rw [if_neg e32]
  by_cases e33 : id = 33 ∨ id = 48
  · rw [if_pos e33]
    rcases e33 with e33 | e33
    · subst e33; exact block_33 F w g l s h hF hl h8 hid
    · subst e33; exact block_48 F w g l s h hF hl h8 hid
  rw [if_neg e33]
  by_cases e34 : id = 34 ∨ id = 37 ∨ id = 39
  · rw [if_pos e34]
    exact block_0 F w g l s h hF hl id hid e34
  rw [if_neg e34]
  by_cases e35 : id = 35
  · rw [if_pos e35]
    subst e35
    exact block_35 F w g l s h hF hl h8 hid
  rw [if_neg e35]
  by_cases e36 : id = 36
  · rw [if_pos e36]
    subst e36
    exact block_36 F w g l s h hF hl h8 hid
  rw [if_neg e36]
  by_cases e38 : id = 38
  · rw [if_pos e38]
    subst e38
    exact block_38 F w g l s h hF hl h8 hid
  rw [if_neg e38]
  by_cases e40 : id = 40
  · rw [if_pos e40]
    subst e40
    exact block_40 F w g l s h hF hl h8 hid
  rw [if_neg e40]
  by_cases e42 : id = 42
  · rw [if_pos e42]
    subst e42
    exact block_42 F w g l s h hF hl h8 hid
  rw [if_neg e42]
  by_cases e43 : id = 43
  · rw [if_pos e43]
    subst e43
    exact block_43 F w g l s h hF hl h8 hid
  rw [if_neg e43]
  by_cases e49 : id = 49
  · rw [if_pos e49]
    subst e49
    exact block_49 F w g l s h hF hl h8 hid
  rw [if_neg e49]
  by_cases e50 : id = 50
  · rw [if_pos e50]
    subst e50
    exact block_50 F w g l s h hF hl h8 hid
  rw [if_neg e50]
  by_cases e51 : id = 51
  · rw [if_pos e51]
    subst e51
    exact block_51 F w g l s h hF hl h8 hid
  rw [if_neg e51]
  by_cases e52 : id = 52
  · rw [if_pos e52]
    subst e52
    exact block_52 F w g l s h hF hl h8 hid
  rw [if_neg e52]
  by_cases e53 : id = 53
  · rw [if_pos e53]
    subst e53
    exact block_53 F w g l s h hF hl h8 hid
  rw [if_neg e53]
  by_cases e90 : id = 90
  · rw [if_pos e90]
    subst e90
    exact block_90 F w g l s h hF hl h8 hid
  rw [if_neg e90]
  exact block_else F w g l s h hF hl h8 id hid e16 e17 e18 e19 e20 e21 e24 e25 e32 (by omega) (by omega) e35 e36 (by omega) e38 (by omega) e40 e42 e43 (by omega) e49 e50 e51 e52 e53 e90

/-- What the loop asks of block. -/
theorem block_ok (G : Nat → Prop) (u : World) (g : Nat) (l : List Int) (hl : l.length ≤ 1000000) (h8 : Byte8 l) (hg : g < u.heap.size) (hG : ∀ i, G i → i < u.heap.size) : BlkOk G (blockS l) u g l := fun v k hon hr hc => by
  have := block_any G v g l (itS (blockS l) (s0F l) k) hr (fun i hi => Nat.lt_of_lt_of_le (hG i hi) hc.size) hl (Lib.hid h8)
  rw [numV_one hon.1 hon.2.1] at this
  exact this

end Go.Proofs.Ythlaglhlmbkniaa
/- What comes of a file: places in it, and what stands behind a fault plays no part. No program is named here. -/
namespace Go.Proofs.Ythlaglhlmbkniaa
open Go.RowKit
set_option linter.unusedVariables false

theorem s0_in (l : List Int) : InF l (s0F l) := (((rr_tak l ⟨0, 0, 0⟩ 8).trans (rr_tak l _ 1)).trans (rr_tak l _ 1)).inF ⟨Nat.zero_le _, Int.le_refl _, Int.natCast_nonneg _⟩
theorem it_rr (l : List Int) (s : Rst) : ∀ k, Rr l s (itS (blockS l) s k)
  | 0 => Rr.refl l s
  | k + 1 => (it_rr l s k).trans (rr_block l _)
theorem it_in (l : List Int) (k : Nat) : InF l (itS (blockS l) (s0F l) k) := (it_rr l _ k).inF (s0_in l)
theorem block_prog (l : List Int) (k : Nat) (h : onS (blockS l) l (s0F l) k) : (itS (blockS l) (s0F l) k).p < (itS (blockS l) (s0F l) (k + 1)).p := block_on h.1 h.2.1
theorem fin_in {l : List Int} {s : Rst} (h : InF l s) : InF l (finS l s) := by
  unfold finS
  split
  · exact ⟨h.1, at_in h⟩
  · exact h
/-- A fault's place is in the file. -/
theorem out_place {l : List Int} {e f : Int} (h : OutIs (blockS l) l (.er e f)) : 0 ≤ f ∧ f ≤ l.length := by
  rcases h with ⟨_, h⟩ | ⟨_, n, s, ⟨L, r, x, h1, h2, h3, h4, h5⟩, h6⟩
  · injection h with _ h
    subst h
    exact ⟨Int.le_refl _, Int.natCast_nonneg _⟩
  · have hs : InF l s := by
      rw [h5]
      unfold endS
      split
      · exact fin_in (it_in l n)
      · have h7 := fin_in (it_in l n)
        unfold failS
        split
        · exact h7
        · exact ⟨h7.1, at_in (it_in l r)⟩
    rcases h6 with ⟨_, h6⟩ | ⟨_, h6⟩
    · cases h6
    · injection h6 with _ h6
      subst h6
      exact hs.2
/-- Of a file that is read each block has a byte at least, behind the first ten. -/
theorem out_blocks {l : List Int} {M m : Int} {n : Nat} (h : OutIs (blockS l) l (.ok M m n)) : n + 10 ≤ l.length := by
  rcases h with ⟨_, h⟩ | ⟨_, n', s, ⟨L, r, x, h1, h2, h3, h4, h5⟩, h6⟩
  · cases h
  · rcases h6 with ⟨h0, h6⟩ | ⟨_, h6⟩
    · injection h6 with _ _ h6
      subst h6
      have he : (itS (blockS l) (s0F l) n).e = 0 := by
        refine Classical.byContradiction fun y => ?_
        have hf : finS l (itS (blockS l) (s0F l) n) = itS (blockS l) (s0F l) n := by unfold finS; rw [if_neg fun z => y z.1]
        rw [h5] at h0
        unfold endS at h0
        rw [hf] at h0
        split at h0
        · exact y h0
        · rw [failS_bad y] at h0; exact y h0
      have h00 : (s0F l).e = 0 := Classical.byContradiction fun z => z (by rw [← (it_rr l (s0F l) n).stay z]; exact he)
      have hp : (s0F l).p = 10 := by
        have key : ∀ (t : Rst) (k : Nat), (takS l t k).e = 0 → t.e = 0 ∧ (takS l t k).p = t.p + k := fun t k h => by
          by_cases x : t.e = 0
          · by_cases y : t.p + k ≤ l.length
            · rw [takS_yes x y]; exact ⟨x, rfl⟩
            · rw [takS_no x y] at h; cases h
          · rw [takS_bad x] at h; exact absurd h x
        obtain ⟨a1, b1⟩ := key _ _ h00
        obtain ⟨a2, b2⟩ := key _ _ a1
        obtain ⟨a3, b3⟩ := key _ _ a2
        have b1' : (s0F l).p = (takS l (takS l ⟨0, 0, 0⟩ 8) 1).p + 1 := b1
        rw [b2, b3] at b1'
        exact b1'
      have hk : ∀ k, k ≤ n → 10 + k ≤ (itS (blockS l) (s0F l) k).p := by
        intro k
        induction k with
        | zero => intro _; show 10 + 0 ≤ (s0F l).p; omega
        | succ k ih =>
          intro hk
          have := ih (by omega)
          have := block_prog l k (h1.1 k (by omega))
          omega
      have := hk n (Nat.le_refl _)
      have := (it_in l n).1
      omega
    · cases h6
theorem take8 {l m : List Int} (h : 8 ≤ l.length) : (l ++ m).take 8 = l.take 8 := List.take_append_of_le_length h
theorem sgn_len {l : List Int} (h : l.take 8 = sgn) : 8 ≤ l.length := by
  have := congrArg List.length h
  rw [List.length_take] at this
  have e : sgn.length = 8 := rfl
  omega
/-- A fault that is none of those stays, whatever stands behind. -/
theorem out_ahead {l : List Int} {E f : Int} (h : OutIs (blockS l) l (.er E f)) (h2 : E ≠ 2) (h5 : E ≠ 5) (h6 : E ≠ 6) (h8 : E ≠ 8) (h3 : E = 3 → 8 ≤ l.length) (m : List Int) {o : Out} (h' : OutIs (blockS (l ++ m)) (l ++ m) o) : o = .er E f := by
  rcases h with ⟨k1, k2⟩ | ⟨k1, n, s, ⟨L, r, x, a1, a2, a3, a4, a5⟩, a6⟩
  · injection k2 with k2 k3
    rw [← take8 (m := m) (h3 k2)] at k1
    rcases h' with ⟨_, h'⟩ | ⟨h', _⟩
    · rw [h', k2, k3]
    · exact absurd h' k1
  · have hs : s.e = E ∧ s.f = f ∧ s.e ≠ 0 := by
      rcases a6 with ⟨_, a6⟩ | ⟨a6, a7⟩
      · cases a6
      · injection a7 with b1 b2
        exact ⟨b1.symm, b2.symm, a6⟩
    obtain ⟨hE, hf, h0⟩ := hs
    -- the fault is that of the state behind the last block
    obtain ⟨t, ht⟩ : ∃ t, itS (blockS l) (s0F l) n = t := ⟨_, rfl⟩
    have hst : t.e ≠ 0 ∧ s = t := by
      rw [a5] at h0 hE ⊢
      unfold endS at h0 hE ⊢
      rw [ht] at h0 hE ⊢
      by_cases hc : t.e = 0 ∧ t.p < l.length
      · have e1 : finS l t = ⟨t.p, 8, t.p⟩ := by unfold finS; rw [if_pos hc]
        rw [e1, failS_bad (show (8 : Int) ≠ 0 by decide)] at hE
        rw [ite_self] at hE
        exact absurd hE.symm h8
      · have e1 : finS l t = t := by unfold finS; rw [if_neg hc]
        rw [e1] at h0 hE ⊢
        by_cases hx : x = 0
        · rw [if_pos hx] at h0 ⊢
          exact ⟨h0, rfl⟩
        · rw [if_neg hx] at h0 hE ⊢
          by_cases he : t.e = 0
          · rw [failS_ok he] at hE
            have hE' : x = E := hE
            rcases a4.kind with y | ⟨_, y | y⟩
            · exact absurd y hx
            · exact absurd (hE'.symm.trans y) h5
            · exact absurd (hE'.symm.trans y) h6
          · rw [failS_bad he]; exact ⟨he, rfl⟩
    obtain ⟨hte, rfl⟩ := hst
    have hfirm : Firm s := ⟨by rw [hE]; exact h2, by rw [hE]; exact h5⟩
    have hk : ∀ k, k ≤ n → Firm (itS (blockS l) (s0F l) k) := by
      intro k hk
      by_cases e : k = n
      · subst e; rw [ht]; exact hfirm
      · have := (a1.1 k (by omega)).1
        unfold Firm
        omega
    have hz : s0F (l ++ m) = s0F l := by
      have h1 : Firm (takS l (takS l (takS l ⟨0, 0, 0⟩ 8) 1) 1) := hk 0 (Nat.zero_le _)
      unfold s0F
      rw [tak_sm (back _ (back _ h1)), tak_sm (back _ h1), tak_sm h1]
    have hit : ∀ k, k ≤ n → itS (blockS (l ++ m)) (s0F (l ++ m)) k = itS (blockS l) (s0F l) k := by
      intro k
      induction k with
      | zero => intro _; exact hz
      | succ k ih =>
        intro h
        have e := ih (by omega)
        show blockS (l ++ m) (itS (blockS (l ++ m)) (s0F (l ++ m)) k) = blockS l (itS (blockS l) (s0F l) k)
        rw [e]
        exact block_sm (hk (k + 1) h)
    have hend : Ends (blockS (l ++ m)) (l ++ m) (s0F (l ++ m)) n := by
      refine ⟨fun k hkn => ?_, fun hon => ?_⟩
      · have := a1.1 k hkn
        unfold onS at this ⊢
        rw [hit k (by omega)]
        exact ⟨this.1, by rw [List.length_append]; omega, this.2.2⟩
      · have := hon.1
        rw [hit n (Nat.le_refl _), ht] at this
        exact hte this
    rcases h' with ⟨h', _⟩ | ⟨_, n', s', ⟨L', r', x', b1, b2, b3, b4, b5⟩, b6⟩
    · exact absurd ((take8 (sgn_len k1)).trans k1) h'
    · have hn : n' = n := b1.one hend
      subst hn
      have hs' : s' = s := by
        rw [b5]
        unfold endS
        rw [hit _ (Nat.le_refl _), ht]
        have e1 : finS (l ++ m) s = s := by unfold finS; rw [if_neg fun z => hte z.1]
        rw [e1, failS_bad hte, ite_self]
      subst hs'
      rcases b6 with ⟨b6, _⟩ | ⟨_, b6⟩
      · exact absurd b6 hte
      · rw [b6, hE, hf]

end Go.Proofs.Ythlaglhlmbkniaa
/- wire's Read and Why, a reader's End. -/
namespace Go.Proofs.Ythlaglhlmbkniaa
open Go.RowKit
set_option linter.unusedVariables false
set_option linter.unusedSimpArgs false
set_option maxRecDepth 100000

def Opened (w : World) (l : List Int) (x : Ending) (w' : World) : Prop := ∃ g, x = .returned (.pointer (some ⟨g, 0, none⟩)) ∧ w.heap.size ≤ g ∧ RdAt (fun k => w.heap.size ≤ k ∧ k < g) w' g l 0 0 0 ∧ Below w.heap.size w w'
set_option maxHeartbeats 800000 in
theorem open_any (F : Nat → Prop) (A : Option Addr) (n cap : Nat) (l : List Int) (w : World) (hl : BAt8 F w A n cap l) (hn : n ≤ 1000000) :
    Calls Try.prog 24 #[.slice A n cap] w (Opened w l) := by
  have H := Lib.hid (clone_any F A n cap l w hl hn)
  clear hl
  go_enter Try.func24, Try.ntmps24
  go_wp2_with fail
  refine H.out.mono ?_
  rintro e w1 ⟨A1, c1, rfl, hB, hb⟩
  have HR : Hid (Opened w l (.returned (.pointer (some ⟨w1.heap.size, 0, none⟩))) (w1.alloc (.cells #[.slice A1 n c1, .int .i64 0, .int .i64 0, .int .i64 0] 77))) :=
    Lib.hid ⟨_, rfl, hb.size, ⟨by omega, by omega, A1, n, c1, heap_alloc_new _ _, (hB.weak fun k hk h => ⟨h, hk⟩).below (bnew _ _)⟩, hb.alloc hb.size _⟩
  clear hB hb
  go_wp2_with fail
  go_ret
  exact HR.out
/-- A fault e at f, in a block of its own. -/
def FaultAt (w : World) (k : Nat) (e f : Int) : Prop := w.heap[k]? = some (.cells #[.int .i64 e, .int .i64 f] 51 (0, 0))
theorem FaultAt.lt {w : World} {k : Nat} {e f : Int} (h : FaultAt w k e f) : k < w.heap.size := (Array.getElem?_eq_some_iff.1 h).1
theorem FaultAt.below {w w' : World} {k : Nat} {e f : Int} (h : FaultAt w k e f) (hb : Below w.heap.size w w') : FaultAt w' k e f := (hb.block k h.lt).trans h
theorem end_ok (F : Nat → Prop) (w : World) (g : Nat) (l : List Int) (p : Nat) (f : Int) (h : RdAt F w g l p 0 f) (hp : p = l.length) (hl : l.length ≤ 1000000) : Calls Try.prog 26 #[.pointer (some ⟨g, 0, none⟩)] w (Looks .nilIface w) := by
  have H1 := Lib.hid (bad_any F w g l p 0 f h true rfl)
  have H2 := Lib.hid (left_any F w g l p f h 0 (by omega) hl)
  clear h hp
  go_enter Try.func26, Try.ntmps26
  go_wp2_with fail
  refine (H1.out).mono ?_
  rintro e w' ⟨rfl, rfl⟩
  go_wp2_with fail
  refine H2.out.mono ?_
  rintro e w1 ⟨rfl, k, rfl⟩
  go_wp2_with fail
  go_ret
  exact ⟨rfl, k, rfl⟩
def Faulty (w : World) (e f : Int) (x : Ending) (w' : World) : Prop := ∃ k, x = .returned (.iface 48 (.pointer (some ⟨k, 0, none⟩))) ∧ w.heap.size ≤ k ∧ FaultAt w' k e f ∧ Below w.heap.size w w'
theorem end_bad (F : Nat → Prop) (w : World) (g : Nat) (l : List Int) (p : Nat) (e f : Int) (h : RdAt F w g l p e f) (he : e ≠ 0) : Calls Try.prog 26 #[.pointer (some ⟨g, 0, none⟩)] w (Faulty w e f) := by
  have H1 := Lib.hid (bad_any F w g l p e f h false (by simpa using he))
  have HR : Hid (Faulty w e f (.returned (.iface 48 (.pointer (some ⟨w.heap.size, 0, none⟩)))) (w.alloc (.cells #[.int .i64 e, .int .i64 f] 51))) := Lib.hid ⟨_, rfl, Nat.le_refl _, heap_alloc_new _ _, bnew w _⟩
  obtain ⟨h1, h2, A, n, cap, h3, h4⟩ := h
  have c2 := cell_of_row w g 2 _ _ (0, 0) h3
  have c3 := cell_of_row w g 3 _ _ (0, 0) h3
  simp at c2 c3
  have hg := (Array.getElem?_eq_some_iff.1 h3).1
  clear h1 h2 h3 h4 he
  go_enter Try.func26, Try.ntmps26
  go_wp2_with fail
  refine (H1.out).mono ?_
  rintro e w' ⟨rfl, rfl⟩
  go_wp2_with fail
  go_ret
  exact HR.out
theorem asked_any (v : Value) (w : World) : Calls Try.prog 27 #[.iface 48 v] w fun e w' => e = .returned v ∧ w = w' := by
  have q : ∀ u, (Instr.typeAssert (.iface 48 v) 45 48 true).run Try.prog u = .ok (.tuple #[v, .bool true]) u := fun _ => rfl
  go_enter Try.func27, Try.ntmps27
  go_wp2_with fail
  go_ret
  exact ⟨rfl, rfl⟩
theorem why_any (w : World) (k : Nat) (e f : Int) (h : FaultAt w k e f) : Calls Try.prog 16 #[.iface 48 (.pointer (some ⟨k, 0, none⟩))] w (Looks (.tuple #[.int .i64 e, .int .i64 f]) w) := by
  have q : ∀ u, (binOp .eql 45 (.iface 48 (.pointer (some ⟨k, 0, none⟩))) .nilIface).run Try.prog u = .ok (.bool false) u := fun _ => rfl
  have HA := Lib.hid (asked_any (.pointer (some ⟨k, 0, none⟩)))
  have c0 := cell_of_row w k 0 _ _ (0, 0) h
  have c1 := cell_of_row w k 1 _ _ (0, 0) h
  simp at c0 c1
  clear h
  go_enter Try.func16, Try.ntmps16
  go_wp2_with fail
  refine (HA.out _).mono ?_
  rintro e w' ⟨rfl, rfl⟩
  go_wp2_with fail
  go_quiet (fail)
  go_wp2_with fail
  go_ret2
  exact ⟨rfl, _, rfl⟩

end Go.Proofs.Ythlaglhlmbkniaa
/- tzx.Parse: its contract, by that of block. -/
namespace Go.Proofs.Ythlaglhlmbkniaa
open Go.RowKit
set_option linter.unusedVariables false
set_option linter.unusedSimpArgs false
set_option maxRecDepth 100000

/-- A file's answer: a tape, or a fault of its own. -/
def OutE (w : World) (o : Out) (x : Ending) (w' : World) : Prop := match o with
  | .ok M m n => ∃ B c, x = .returned (.tuple #[.agg #[.int .i64 M, .int .i64 m, .slice B n c], .nilIface]) ∧ Below w.heap.size w w'
  | .er e f => ∃ k, x = .returned (.tuple #[.agg #[.int .i64 0, .int .i64 0, .slice none 0 0], .iface 48 (.pointer (some ⟨k, 0, none⟩))]) ∧ w.heap.size ≤ k ∧ FaultAt w' k e f ∧ Below w.heap.size w w'
def ParseE (blk : Rst → Rst) (w : World) (l : List Int) (x : Ending) (w' : World) : Prop := ∃ o, OutIs blk l o ∧ OutE w o x w'
set_option maxHeartbeats 3200000 in
theorem parse_any (F : Nat → Prop) (A : Option Addr) (n cap : Nat) (l : List Int) (w : World) (hl : BAt8 F w A n cap l) (hn : n ≤ 1000000) (blk : Rst → Rst) (hB : ∀ (G : Nat → Prop) (u : World) (g : Nat), g < u.heap.size → (∀ i, G i → i < u.heap.size) → BlkOk G blk u g l) (hP : BlkOn blk l) :
    Calls Try.prog 15 #[.slice A n cap] w (ParseE blk w l) := by
  have kc := fun (w : World) (C : Array Value) (n c : Nat) => Lib.run_convert_bytes_const (P := Try.prog) w 25 5 C n c Try.underlying25 Try.underlying5
  have hlen := hl.len
  have hf := hl.fit
  have hm := hl.max
  unfold maxLen at hm
  have d : decide (1048576 < (n : Int)) = false := decide_eq_false (by omega)
  have d' : decide (1048576 < n) = false := decide_eq_false (by omega)
  have HL := Lib.hid hl
  have HB := Lib.hid hB
  have HP := Lib.hid hP
  have HW1 : Hid (Below w.heap.size w (w.alloc (.cells #[.int .i64 0, .int .i64 0, .slice none 0 0] 43))) := Lib.hid (bnew w _)
  have HPx := Lib.hid (fun fr q hq => prefix_any F _ _ A _ n cap 8 8 l sgn (hl.below (HW1.out.trans ((bnew _ (.cells #[.int .u8 90, .int .u8 88, .int .u8 84, .int .u8 97, .int .u8 112, .int .u8 101, .int .u8 33, .int .u8 26] 5 fr)).mono HW1.out.size))) (BAt8.new (w.alloc (.cells #[.int .i64 0, .int .i64 0, .slice none 0 0] 43)) sgn 5 fr #[.int .u8 90, .int .u8 88, .int .u8 84, .int .u8 97, .int .u8 112, .int .u8 101, .int .u8 33, .int .u8 26] 8 rfl rfl (by unfold maxLen; omega) (by decide)) q hq)
  have hz1 : (w.alloc (.cells #[.int .i64 0, .int .i64 0, .slice none 0 0] 43)).heap.size = w.heap.size + 1 := by simp
  simp only [hz1] at HPx
  have kc1 := kc (w.alloc (.cells #[.int .i64 0, .int .i64 0, .slice none 0 0] 43)) #[.int .u8 90, .int .u8 88, .int .u8 84, .int .u8 97, .int .u8 112, .int .u8 101, .int .u8 33, .int .u8 26] 8 8
  simp only [hz1] at kc1
  clear kc
  clear hl hB hP hz1
  by_cases hp : l.take 8 = sgn
  · have HQ := Lib.hid (fun fr => HPx.out fr true ⟨fun _ => hp, fun _ => rfl⟩)
    have HPp := Lib.hid hp
    clear hp HPx
    go_enter Try.func15, Try.ntmps15
    go_wp2_with fail
    refine (HQ.out _).mono ?_
    rintro x w1 ⟨rfl, rfl⟩
    clear kc1 HQ
    obtain ⟨W2, hW2⟩ : ∃ W2, (w.alloc (.cells #[.int .i64 0, .int .i64 0, .slice none 0 0] 43)).alloc (.cells #[.int .u8 90, .int .u8 88, .int .u8 84, .int .u8 97, .int .u8 112, .int .u8 101, .int .u8 33, .int .u8 26] 5 (8, 9)) = W2 := ⟨_, rfl⟩
    have HZ2 : Hid (W2.heap[w.heap.size]? = some (.cells #[.int .i64 0, .int .i64 0, .slice none 0 0] 43 (0, 0)) ∧ Below w.heap.size w W2) := Lib.hid (by
      rw [← hW2]
      exact ⟨((bnew _ _).block _ (by simp)).trans (heap_alloc_new w _), HW1.out.trans ((bnew _ _).mono HW1.out.size)⟩)
    have HRd := Lib.hid (open_any F A n cap l W2 (HL.out.below HZ2.out.2) hn)
    go_wp2_with fail
    clear hW2
    refine HRd.out.mono ?_
    rintro x w3 ⟨g, rfl, hg, hr3, hb3⟩
    have HT := Lib.hid (tape_any _ blk w3 g l (show RS _ w3 g l ⟨0, 0, 0⟩ from hr3) (fun i hi => by have := hr3.lt; omega) (by omega) (HB.out _ w3 g hr3.lt fun i hi => by have := hr3.lt; omega) HP.out)
    have HZ3 : Hid (w3.heap[w.heap.size]? = some (.cells #[.int .i64 0, .int .i64 0, .slice none 0 0] 43 (0, 0)) ∧ Below w.heap.size w w3 ∧ w.heap.size < g) := Lib.hid ⟨(hb3.block _ (Array.getElem?_eq_some_iff.1 HZ2.out.1).1).trans HZ2.out.1, HZ2.out.2.trans (hb3.mono HZ2.out.2.size), by have := (Array.getElem?_eq_some_iff.1 HZ2.out.1).1; omega⟩
    clear hr3 hb3 hg HRd HL
    go_wp2_with fail
    refine HT.out.mono ?_
    rintro x w4 ⟨N, s, B, c, rfl, hti, hr4, hc4⟩
    have HZ4 : Hid (w4.heap[w.heap.size]? = some (.cells #[.int .i64 0, .int .i64 0, .slice none 0 0] 43 (0, 0)) ∧ Below w.heap.size w w4) := Lib.hid ⟨(hc4.block _ (Array.getElem?_eq_some_iff.1 HZ3.out.1).1 (by have := HZ3.out.2.2; omega)).trans HZ3.out.1, HZ3.out.2.1.trans (hc4.below (fun k hk => by have := HZ3.out.2.2; omega) HZ3.out.2.1.size)⟩
    have HTI := Lib.hid hti
    obtain ⟨M, hM⟩ : ∃ M, maj l = M := ⟨_, rfl⟩
    obtain ⟨m, hm'⟩ : ∃ m, mnr l = m := ⟨_, rfl⟩
    rw [hM, hm']
    have HMm := Lib.hid (And.intro hM hm')
    have HB5 : Hid (Below w4.heap.size w4 (w4.alloc (.cells #[.int .i64 M, .int .i64 m, .slice B N c] 43))) := Lib.hid (bnew w4 _)
    have HZ5 : Hid ((w4.alloc (.cells #[.int .i64 M, .int .i64 m, .slice B N c] 43)).heap[w.heap.size]? = some (.cells #[.int .i64 0, .int .i64 0, .slice none 0 0] 43 (0, 0)) ∧ Below w.heap.size w (w4.alloc (.cells #[.int .i64 M, .int .i64 m, .slice B N c] 43))) := Lib.hid ⟨(HB5.out.block _ (Array.getElem?_eq_some_iff.1 HZ4.out.1).1).trans HZ4.out.1, HZ4.out.2.trans (HB5.out.mono HZ4.out.2.size)⟩
    have HR5 := Lib.hid (hr4.below HB5.out)
    have HT5 : Hid ((w4.alloc (.cells #[.int .i64 M, .int .i64 m, .slice B N c] 43)).heap[w4.heap.size]? = some (.cells #[.int .i64 M, .int .i64 m, .slice B N c] 43 (0, 0))) := Lib.hid (heap_alloc_new w4 _)
    clear hti hr4 hc4 hM hm' HT
    by_cases he : s.e = 0
    · have hp : s.p = l.length := by
        have h1 := HTI.out.full he
        have h2 := HR5.out.fit
        omega
      have HE := Lib.hid (by
        have := HR5.out
        unfold RS at this
        rw [he] at this
        exact end_ok _ _ g l s.p s.f this hp (by omega))
      have q : ∀ u, (binOp .neq 45 .nilIface .nilIface).run Try.prog u = .ok (.bool false) u := fun _ => rfl
      have HO : Hid (OutIs blk l (.ok M m N)) := Lib.hid (Or.inr ⟨HPp.out, N, s, HTI.out, Or.inl ⟨he, by rw [HMm.out.1, HMm.out.2]⟩⟩)
      clear he hp
      go_wp2_with fail
      refine HE.out.mono ?_
      rintro x w5 ⟨rfl, k5, rfl⟩
      obtain ⟨W5, hW5⟩ : ∃ W5, (w4.alloc (.cells #[.int .i64 M, .int .i64 m, .slice B N c] 43)).drewN k5 = W5 := ⟨_, rfl⟩
      have HZ6 : Hid (W5.heap[w.heap.size]? = some (.cells #[.int .i64 0, .int .i64 0, .slice none 0 0] 43 (0, 0)) ∧ Below w.heap.size w W5) := Lib.hid (by rw [← hW5]; exact ⟨HZ5.out.1, bdrawn HZ5.out.2 k5⟩)
      have HT6 : Hid (W5.heap[w4.heap.size]? = some (.cells #[.int .i64 M, .int .i64 m, .slice B N c] 43 (0, 0))) := Lib.hid (by rw [← hW5]; exact HT5.out)
      try rw [hW5]
      clear hW5 HE HT5 HZ5 HR5 HB5
      obtain ⟨gt, hgt⟩ : ∃ gt, w4.heap.size = gt := ⟨_, rfl⟩
      rw [hgt] at HT6
      have a0 := cell_of_row W5 gt 0 _ _ (0, 0) HT6.out
      have a1 := cell_of_row W5 gt 1 _ _ (0, 0) HT6.out
      have a2 := cell_of_row W5 gt 2 _ _ (0, 0) HT6.out
      simp at a0 a1 a2
      have b0 := cell_of_row W5 _ 0 _ _ (0, 0) HZ6.out.1
      have b1 := cell_of_row W5 _ 1 _ _ (0, 0) HZ6.out.1
      have b2 := cell_of_row W5 _ 2 _ _ (0, 0) HZ6.out.1
      simp at b0 b1 b2
      have f0 := frozen_of_row W5 _ 0 _ _ HZ6.out.1
      have f1 := frozen_of_row W5 _ 1 _ _ HZ6.out.1
      have f2 := frozen_of_row W5 _ 2 _ _ HZ6.out.1
      have HH := Lib.hid (tpPut_heap HZ6.out.1 M m B N c)
      have HR : Hid (ParseE blk w l (.returned (.tuple #[.agg #[.int .i64 M, .int .i64 m, .slice B N c], .nilIface])) (tpPut W5 w.heap.size M m B N c)) := Lib.hid ⟨_, HO.out, B, c, rfl, HZ6.out.2.trans ((tpPut_ch W5 w.heap.size M m B N c).below (fun k hk => by omega) HZ6.out.2.size)⟩
      go_wp2_with fail
      exact bodyPost_ret (results_tp2 rfl _ HH.out rfl .nilIface rfl) rfl HR.out
    · have HE := Lib.hid (end_bad _ _ g l s.p s.e s.f HR5.out he)
      have HO : Hid (OutIs blk l (.er s.e s.f)) := Lib.hid (Or.inr ⟨HPp.out, N, s, HTI.out, Or.inr ⟨he, rfl⟩⟩)
      clear he
      go_wp2_with fail
      refine HE.out.mono ?_
      rintro x W5 ⟨k5, rfl, hk5, hf5, hb5⟩
      have q : ∀ u, (binOp .neq 45 (.iface 48 (.pointer (some ⟨k5, 0, none⟩))) .nilIface).run Try.prog u = .ok (.bool true) u := fun _ => rfl
      have HZ6 : Hid (W5.heap[w.heap.size]? = some (.cells #[.int .i64 0, .int .i64 0, .slice none 0 0] 43 (0, 0)) ∧ Below w.heap.size w W5) := Lib.hid ⟨(hb5.block _ (Array.getElem?_eq_some_iff.1 HZ5.out.1).1).trans HZ5.out.1, HZ5.out.2.trans (hb5.mono HZ5.out.2.size)⟩
      have HF5 := Lib.hid hf5
      have HK5 : Hid (w.heap.size < k5) := Lib.hid (Nat.lt_of_lt_of_le (Array.getElem?_eq_some_iff.1 HZ5.out.1).1 hk5)
      clear hk5 hf5 hb5 HE HT5 HZ5 HR5 HB5
      have b0 := cell_of_row W5 _ 0 _ _ (0, 0) HZ6.out.1
      have b1 := cell_of_row W5 _ 1 _ _ (0, 0) HZ6.out.1
      have b2 := cell_of_row W5 _ 2 _ _ (0, 0) HZ6.out.1
      simp at b0 b1 b2
      have f0 := frozen_of_row W5 _ 0 _ _ HZ6.out.1
      have f1 := frozen_of_row W5 _ 1 _ _ HZ6.out.1
      have f2 := frozen_of_row W5 _ 2 _ _ HZ6.out.1
      have HH := Lib.hid (tpPut_heap HZ6.out.1 0 0 none 0 0)
      have HR : Hid (ParseE blk w l (.returned (.tuple #[.agg #[.int .i64 0, .int .i64 0, .slice none 0 0], .iface 48 (.pointer (some ⟨k5, 0, none⟩))])) (tpPut W5 w.heap.size 0 0 none 0 0)) := Lib.hid ⟨_, HO.out, k5, rfl, Nat.le_of_lt HK5.out, ((tpPut_ch W5 w.heap.size 0 0 none 0 0).block k5 HF5.out.lt (by have := HK5.out; omega)).trans HF5.out, HZ6.out.2.trans ((tpPut_ch W5 w.heap.size 0 0 none 0 0).below (fun k hk => by omega) HZ6.out.2.size)⟩
      go_wp2_with fail
      exact bodyPost_ret (results_tp2 rfl _ HH.out rfl (.iface 48 (.pointer (some ⟨k5, 0, none⟩))) rfl) rfl HR.out
  · have HQ := Lib.hid (fun fr => HPx.out fr false ⟨fun x => (by cases x), fun x => absurd x hp⟩)
    have HO : Hid (OutIs blk l (.er 3 0)) := Lib.hid (Or.inl ⟨hp, rfl⟩)
    clear hp HPx
    go_enter Try.func15, Try.ntmps15
    go_wp2_with fail
    refine (HQ.out _).mono ?_
    rintro x w1 ⟨rfl, rfl⟩
    clear kc1 HQ
    have HH : Hid ((((w.alloc (.cells #[.int .i64 0, .int .i64 0, .slice none 0 0] 43)).alloc (.cells #[.int .u8 90, .int .u8 88, .int .u8 84, .int .u8 97, .int .u8 112, .int .u8 101, .int .u8 33, .int .u8 26] 5 (8, 9))).alloc (.cells #[.int .i64 3, .int .i64 0] 51)).heap[w.heap.size]? = some (.cells #[.int .i64 0, .int .i64 0, .slice none 0 0] 43 (0, 0))) := Lib.hid (((bnew _ _).block _ (by simp; omega)).trans (((bnew _ _).block _ (by simp)).trans (heap_alloc_new w _)))
    have HR : Hid (ParseE blk w l (.returned (.tuple #[.agg #[.int .i64 0, .int .i64 0, .slice none 0 0], .iface 48 (.pointer (some ⟨w.heap.size + 1 + 1, 0, none⟩))])) (((w.alloc (.cells #[.int .i64 0, .int .i64 0, .slice none 0 0] 43)).alloc (.cells #[.int .u8 90, .int .u8 88, .int .u8 84, .int .u8 97, .int .u8 112, .int .u8 101, .int .u8 33, .int .u8 26] 5 (8, 9))).alloc (.cells #[.int .i64 3, .int .i64 0] 51))) := Lib.hid ⟨_, HO.out, w.heap.size + 1 + 1, rfl, by omega, by
        have := heap_alloc_new ((w.alloc (.cells #[.int .i64 0, .int .i64 0, .slice none 0 0] 43)).alloc (.cells #[.int .u8 90, .int .u8 88, .int .u8 84, .int .u8 97, .int .u8 112, .int .u8 101, .int .u8 33, .int .u8 26] 5 (8, 9))) (.cells #[.int .i64 3, .int .i64 0] 51)
        simpa [FaultAt] using this, ((bnew w _).alloc (by simp) _).alloc (by simp; omega) _⟩
    go_wp2_with fail
    exact bodyPost_ret (results_tp2 rfl _ HH.out rfl (.iface 48 (.pointer (some ⟨w.heap.size + 1 + 1, 0, none⟩))) rfl) rfl HR.out

end Go.Proofs.Ythlaglhlmbkniaa
