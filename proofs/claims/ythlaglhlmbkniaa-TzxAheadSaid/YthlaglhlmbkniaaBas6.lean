/- Texts put together: TzxBlkA, TzxGlue, TzxBlkB. -/
import Derived.Test.YthlaglhlmbkniaaBas5
import Derived.Test.YthlaglhlmbkniaaBas2
/- tzx.block, case by case: blocks of numbers and bytes. -/
namespace Go.Proofs.Ythlaglhlmbkniaa
open Go.RowKit
set_option linter.unusedVariables false
set_option linter.unusedSimpArgs false
set_option maxRecDepth 100000
attribute [local simp ↓ high] blkLoad_as blkStore_as blkAlloc_as blkBuild_as

set_option maxHeartbeats 1200000 in
theorem block_32 (F : Nat → Prop) (w : World) (g : Nat) (l : List Int) (s : Rst) (h : RS F w g l s) (hF : ∀ i, F i → i < w.heap.size) (hl : l.length ≤ 1000000) (h8 : Hid (Byte8 l)) (hid : numV l s 1 = 32) :
    Calls Try.prog 38 #[.pointer (some ⟨g, 0, none⟩)] w (BlkE F w g l (takS l (takS l s 1) 2) 32) := by
  have HN2 := Lib.hid (fun u t (hr : Hid (RS F u g l t)) => num_any F u g l t hr hl 2 2 rfl (by decide) (by decide))
  have hbd : ∀ (x0 : Int) u, (blkBuild #[(0, .int .i64 32), (1, .int .i64 x0)]).run Try.prog u = .ok (.agg (bcs [(0, .int .i64 32), (1, .int .i64 x0)])) u := fun x0 u => run_build u _ _ _ (show Try.prog.built 30 [(0, .int .i64 32), (1, .int .i64 x0)] = some (bcs [(0, .int .i64 32), (1, .int .i64 x0)]) by kernel_rfl)
  have HV : Hid (∀ (x0 : Int) u, BV (fun _ => False) u (bcs [(0, .int .i64 32), (1, .int .i64 x0)]) ⟨32, [], []⟩) := Lib.hid fun x0 u => bv_of (by kernel_rfl) (by kernel_rfl) (by kernel_rfl) (by kernel_rfl)
  have hal := run_blkAlloc
  have h0 : RS F ((w.alloc (.cells #[.pointer (some ⟨g, 0, none⟩)] 64)).alloc (.cells blkZ 30)) g l s := (h.below (bnew w _)).below (bnew _ _)
  have HA := Lib.hid (at_s F _ g l s (Lib.hid h0))
  have HN := Lib.hid (num_any F _ g l s (Lib.hid h0) hl 1 1 rfl (by decide) (by decide))
  rw [hid] at HN
  have HB := Lib.hid (fun u (hr : RS F u g l (takS l s 1)) hc => Bk.new (id := 32) h hF hr hc)
  have HF := Lib.hid hF
  obtain ⟨b1, hb1⟩ : ∃ b1, w.heap.size = b1 := ⟨_, rfl⟩
  clear h hF h0 hid
  go_enter Try.func38, Try.ntmps38
  go_wp2_with fail
  refine HA.out.mono ?_
  rintro x w1 ⟨rfl, rfl⟩
  go_wp2_with fail
  refine HN.out.mono ?_
  rintro x w2 ⟨rfl, hr2, hc2⟩
  have HK := Lib.hid (HB.out w2 hr2 hc2)
  obtain ⟨b4, hb4⟩ : ∃ b4, w2.heap.size = b4 := ⟨_, rfl⟩
  obtain ⟨W2, hW2⟩ : ∃ W2, w2.alloc (.cells #[.int .i64 32] 3) = W2 := ⟨_, rfl⟩
  rw [hW2, hb1, hb4] at HK
  obtain ⟨c1, c4⟩ := HK.out.cells
  have K0 := Lib.hid HK.out.drew
  clear hr2 hc2 HA HN HB
  go_wp2_with fail
  clear hW2 hb4 hb1
  first | refine wp_region_noPanic ?_ | skip
  refine wp_region_U (n := 4) (S := (fun u : World => u.cell? ⟨b1, 0, none⟩ = some (.pointer (some ⟨g, 0, none⟩)) ∧ u.cell? ⟨b4, 0, none⟩ = some (.int .i64 32))) (by kernel_rfl) (by kernel_rfl) (⟨c1, c4⟩) (fun hHeld => ?_)
  refine wpAnyU_take (i := 0) (v := ?v1) rfl (by kernel_rfl) (by kernel_rfl) (by kernel_rfl) (by kernel_rfl) (fun _ _ _ h => h) (Or.inl ⟨by rfl, ?hy1⟩) (by assumption) ?rest1
  case hy1 => (intro w hSw; (try dsimp only at hSw); go_simp; try with_reducible rfl)
  try simp only [Act.put, List.getElem_toArray, List.getElem_cons_succ, List.getElem_cons_zero, List.setIfInBounds_toArray, List.set_cons_zero, List.set_cons_succ]
  refine wpAnyU_take (i := 1) (v := ?v2) rfl (by kernel_rfl) (by kernel_rfl) (by kernel_rfl) (by kernel_rfl) (fun _ _ _ h => h) (Or.inl ⟨by rfl, ?hy2⟩) (by assumption) ?rest2
  case hy2 => (intro w hSw; (try dsimp only at hSw); go_simp; try with_reducible rfl)
  try simp only [Act.put, List.getElem_toArray, List.getElem_cons_succ, List.getElem_cons_zero, List.setIfInBounds_toArray, List.set_cons_zero, List.set_cons_succ]
  refine wpAnyU_ready (i := 2) (by kernel_rfl) (by kernel_rfl) rfl (fun K hK => ?_)
  go_simp
  refine (((HN2.out _ _ (Lib.hid K0.out.rs)))).mono ?_
  rintro e w' ⟨rfl, hr, hc⟩
  go_wp2_with fail
  refine hK.out _ _ ((K0.out.rd hr hc).cells) (fun hHeld => ?_)
  clear hK K
  try simp only [Act.put, List.getElem_toArray, List.getElem_cons_succ, List.getElem_cons_zero, List.setIfInBounds_toArray, List.set_cons_zero, List.set_cons_succ]
  have K1 := Lib.hid (K0.out.rd hr hc)
  clear hr hc
  generalize numV l _ _ = x0
  have HB := Lib.hid (HV.out x0 w')
  have hst := run_blkStore K1.out.c2 HB.out.size HB.out.one
  have HE := Lib.hid (K1.out.made HB.out (fun k _ hk => hk.elim) rfl)
  have hbd1 := hbd x0
  clear hbd
  generalize bcs [(0, .int .i64 32), (1, .int .i64 x0)] = cs at *
  refine wpAnyU_take (i := 3) (v := ?v3) rfl (by kernel_rfl) (by kernel_rfl) (by kernel_rfl) (by kernel_rfl) (fun _ _ _ h => h) (Or.inl ⟨by rfl, ?hy3⟩) (by assumption) ?rest3
  case hy3 => (intro w hSw; (try dsimp only at hSw); go_simp; try with_reducible rfl)
  try simp only [Act.put, List.getElem_toArray, List.getElem_cons_succ, List.getElem_cons_zero, List.setIfInBounds_toArray, List.set_cons_zero, List.set_cons_succ]
  refine wpAnyU_tail rfl (by kernel_rfl) ?_
  simp only [List.drop_succ_cons, List.drop_zero]
  go_wp2_with fail
  refine NoPanic.normal ?_
  go_wp2_with fail
  exact bodyPost_ret (results_blk rfl _ HE.out.2 rfl) rfl HE.out.1
set_option maxHeartbeats 1200000 in
theorem block_16 (F : Nat → Prop) (w : World) (g : Nat) (l : List Int) (s : Rst) (h : RS F w g l s) (hF : ∀ i, F i → i < w.heap.size) (hl : l.length ≤ 1000000) (h8 : Hid (Byte8 l)) (hid : numV l s 1 = 16) :
    Calls Try.prog 38 #[.pointer (some ⟨g, 0, none⟩)] w (BlkE F w g l (dataS l (takS l (takS l s 1) 2) 2) 16) := by
  have HN2 := Lib.hid (fun u t (hr : Hid (RS F u g l t)) => num_any F u g l t hr hl 2 2 rfl (by decide) (by decide))
  have HD2 := Lib.hid (fun u t (hr : Hid (RS F u g l t)) => data_any F u g l t hr hl h8 2 2 rfl (by decide) (by decide))
  have hbd : ∀ (x0 : Int) (A : Option Addr) (n c : Nat) u, (blkBuild #[(0, .int .i64 16), (1, .int .i64 x0), (12, .slice A n c)]).run Try.prog u = .ok (.agg (bcs [(0, .int .i64 16), (1, .int .i64 x0), (12, .slice A n c)])) u := fun x0 A n c u => run_build u _ _ _ (show Try.prog.built 30 [(0, .int .i64 16), (1, .int .i64 x0), (12, .slice A n c)] = some (bcs [(0, .int .i64 16), (1, .int .i64 x0), (12, .slice A n c)]) by kernel_rfl)
  have HV : Hid (∀ (x0 : Int) (A : Option Addr) (n c : Nat) u, BV (fun _ => False) u (bcs [(0, .int .i64 16), (1, .int .i64 x0), (12, .slice A n c)]) ⟨16, [], []⟩) := Lib.hid fun x0 A n c u => bv_of (by kernel_rfl) (by kernel_rfl) (by kernel_rfl) (by kernel_rfl)
  have hal := run_blkAlloc
  have h0 : RS F ((w.alloc (.cells #[.pointer (some ⟨g, 0, none⟩)] 64)).alloc (.cells blkZ 30)) g l s := (h.below (bnew w _)).below (bnew _ _)
  have HA := Lib.hid (at_s F _ g l s (Lib.hid h0))
  have HN := Lib.hid (num_any F _ g l s (Lib.hid h0) hl 1 1 rfl (by decide) (by decide))
  rw [hid] at HN
  have HB := Lib.hid (fun u (hr : RS F u g l (takS l s 1)) hc => Bk.new (id := 16) h hF hr hc)
  have HF := Lib.hid hF
  obtain ⟨b1, hb1⟩ : ∃ b1, w.heap.size = b1 := ⟨_, rfl⟩
  clear h hF h0 hid
  go_enter Try.func38, Try.ntmps38
  go_wp2_with fail
  refine HA.out.mono ?_
  rintro x w1 ⟨rfl, rfl⟩
  go_wp2_with fail
  refine HN.out.mono ?_
  rintro x w2 ⟨rfl, hr2, hc2⟩
  have HK := Lib.hid (HB.out w2 hr2 hc2)
  obtain ⟨b4, hb4⟩ : ∃ b4, w2.heap.size = b4 := ⟨_, rfl⟩
  obtain ⟨W2, hW2⟩ : ∃ W2, w2.alloc (.cells #[.int .i64 16] 3) = W2 := ⟨_, rfl⟩
  rw [hW2, hb1, hb4] at HK
  obtain ⟨c1, c4⟩ := HK.out.cells
  have K0 := Lib.hid HK.out.drew
  clear hr2 hc2 HA HN HB
  go_wp2_with fail
  clear hW2 hb4 hb1
  first | refine wp_region_noPanic ?_ | skip
  refine wp_region_U (n := 6) (S := (fun u : World => u.cell? ⟨b1, 0, none⟩ = some (.pointer (some ⟨g, 0, none⟩)) ∧ u.cell? ⟨b4, 0, none⟩ = some (.int .i64 16))) (by kernel_rfl) (by kernel_rfl) (⟨c1, c4⟩) (fun hHeld => ?_)
  refine wpAnyU_take (i := 0) (v := ?v4) rfl (by kernel_rfl) (by kernel_rfl) (by kernel_rfl) (by kernel_rfl) (fun _ _ _ h => h) (Or.inl ⟨by rfl, ?hy4⟩) (by assumption) ?rest4
  case hy4 => (intro w hSw; (try dsimp only at hSw); go_simp; try with_reducible rfl)
  try simp only [Act.put, List.getElem_toArray, List.getElem_cons_succ, List.getElem_cons_zero, List.setIfInBounds_toArray, List.set_cons_zero, List.set_cons_succ]
  refine wpAnyU_take (i := 1) (v := ?v5) rfl (by kernel_rfl) (by kernel_rfl) (by kernel_rfl) (by kernel_rfl) (fun _ _ _ h => h) (Or.inl ⟨by rfl, ?hy5⟩) (by assumption) ?rest5
  case hy5 => (intro w hSw; (try dsimp only at hSw); go_simp; try with_reducible rfl)
  try simp only [Act.put, List.getElem_toArray, List.getElem_cons_succ, List.getElem_cons_zero, List.setIfInBounds_toArray, List.set_cons_zero, List.set_cons_succ]
  refine wpAnyU_take (i := 3) (v := ?v6) rfl (by kernel_rfl) (by kernel_rfl) (by kernel_rfl) (by kernel_rfl) (fun _ _ _ h => h) (Or.inl ⟨by rfl, ?hy6⟩) (by assumption) ?rest6
  case hy6 => (intro w hSw; (try dsimp only at hSw); go_simp; try with_reducible rfl)
  try simp only [Act.put, List.getElem_toArray, List.getElem_cons_succ, List.getElem_cons_zero, List.setIfInBounds_toArray, List.set_cons_zero, List.set_cons_succ]
  refine wpAnyU_ready (i := 2) (by kernel_rfl) (by kernel_rfl) rfl (fun K hK => ?_)
  go_simp
  refine (((HN2.out _ _ (Lib.hid K0.out.rs)))).mono ?_
  rintro e w' ⟨rfl, hr, hc⟩
  go_wp2_with fail
  refine hK.out _ _ ((K0.out.rd hr hc).cells) (fun hHeld => ?_)
  clear hK K
  try simp only [Act.put, List.getElem_toArray, List.getElem_cons_succ, List.getElem_cons_zero, List.setIfInBounds_toArray, List.set_cons_zero, List.set_cons_succ]
  have K1 := Lib.hid (K0.out.rd hr hc)
  clear hr hc
  generalize numV l _ _ = x0
  refine wpAnyU_ready (i := 4) (by kernel_rfl) (by kernel_rfl) rfl (fun K hK => ?_)
  go_simp
  refine (((HD2.out _ _ (Lib.hid K1.out.rs)))).mono ?_
  rintro e w' ⟨A, n, c, rfl, hr, hc⟩
  go_wp2_with fail
  refine hK.out _ _ ((K1.out.rd hr hc).cells) (fun hHeld => ?_)
  clear hK K
  try simp only [Act.put, List.getElem_toArray, List.getElem_cons_succ, List.getElem_cons_zero, List.setIfInBounds_toArray, List.set_cons_zero, List.set_cons_succ]
  have K2 := Lib.hid (K1.out.rd hr hc)
  clear hr hc
  have HB := Lib.hid (HV.out x0 A n c w')
  have hst := run_blkStore K2.out.c2 HB.out.size HB.out.one
  have HE := Lib.hid (K2.out.made HB.out (fun k _ hk => hk.elim) rfl)
  have hbd1 := hbd x0 A n c
  clear hbd
  generalize bcs [(0, .int .i64 16), (1, .int .i64 x0), (12, .slice A n c)] = cs at *
  refine wpAnyU_take (i := 5) (v := ?v7) rfl (by kernel_rfl) (by kernel_rfl) (by kernel_rfl) (by kernel_rfl) (fun _ _ _ h => h) (Or.inl ⟨by rfl, ?hy7⟩) (by assumption) ?rest7
  case hy7 => (intro w hSw; (try dsimp only at hSw); go_simp; try with_reducible rfl)
  try simp only [Act.put, List.getElem_toArray, List.getElem_cons_succ, List.getElem_cons_zero, List.setIfInBounds_toArray, List.set_cons_zero, List.set_cons_succ]
  refine wpAnyU_tail rfl (by kernel_rfl) ?_
  simp only [List.drop_succ_cons, List.drop_zero]
  go_wp2_with fail
  refine NoPanic.normal ?_
  go_wp2_with fail
  exact bodyPost_ret (results_blk rfl _ HE.out.2 rfl) rfl HE.out.1
set_option maxHeartbeats 1200000 in
theorem block_18 (F : Nat → Prop) (w : World) (g : Nat) (l : List Int) (s : Rst) (h : RS F w g l s) (hF : ∀ i, F i → i < w.heap.size) (hl : l.length ≤ 1000000) (h8 : Hid (Byte8 l)) (hid : numV l s 1 = 18) :
    Calls Try.prog 38 #[.pointer (some ⟨g, 0, none⟩)] w (BlkE F w g l (takS l (takS l (takS l s 1) 2) 2) 18) := by
  have HN2 := Lib.hid (fun u t (hr : Hid (RS F u g l t)) => num_any F u g l t hr hl 2 2 rfl (by decide) (by decide))
  have hbd : ∀ (x0 : Int) (x1 : Int) u, (blkBuild #[(0, .int .i64 18), (7, .int .i64 x0), (8, .int .i64 x1)]).run Try.prog u = .ok (.agg (bcs [(0, .int .i64 18), (7, .int .i64 x0), (8, .int .i64 x1)])) u := fun x0 x1 u => run_build u _ _ _ (show Try.prog.built 30 [(0, .int .i64 18), (7, .int .i64 x0), (8, .int .i64 x1)] = some (bcs [(0, .int .i64 18), (7, .int .i64 x0), (8, .int .i64 x1)]) by kernel_rfl)
  have HV : Hid (∀ (x0 : Int) (x1 : Int) u, BV (fun _ => False) u (bcs [(0, .int .i64 18), (7, .int .i64 x0), (8, .int .i64 x1)]) ⟨18, [], []⟩) := Lib.hid fun x0 x1 u => bv_of (by kernel_rfl) (by kernel_rfl) (by kernel_rfl) (by kernel_rfl)
  have hal := run_blkAlloc
  have h0 : RS F ((w.alloc (.cells #[.pointer (some ⟨g, 0, none⟩)] 64)).alloc (.cells blkZ 30)) g l s := (h.below (bnew w _)).below (bnew _ _)
  have HA := Lib.hid (at_s F _ g l s (Lib.hid h0))
  have HN := Lib.hid (num_any F _ g l s (Lib.hid h0) hl 1 1 rfl (by decide) (by decide))
  rw [hid] at HN
  have HB := Lib.hid (fun u (hr : RS F u g l (takS l s 1)) hc => Bk.new (id := 18) h hF hr hc)
  have HF := Lib.hid hF
  obtain ⟨b1, hb1⟩ : ∃ b1, w.heap.size = b1 := ⟨_, rfl⟩
  clear h hF h0 hid
  go_enter Try.func38, Try.ntmps38
  go_wp2_with fail
  refine HA.out.mono ?_
  rintro x w1 ⟨rfl, rfl⟩
  go_wp2_with fail
  refine HN.out.mono ?_
  rintro x w2 ⟨rfl, hr2, hc2⟩
  have HK := Lib.hid (HB.out w2 hr2 hc2)
  obtain ⟨b4, hb4⟩ : ∃ b4, w2.heap.size = b4 := ⟨_, rfl⟩
  obtain ⟨W2, hW2⟩ : ∃ W2, w2.alloc (.cells #[.int .i64 18] 3) = W2 := ⟨_, rfl⟩
  rw [hW2, hb1, hb4] at HK
  obtain ⟨c1, c4⟩ := HK.out.cells
  have K0 := Lib.hid HK.out.drew
  clear hr2 hc2 HA HN HB
  go_wp2_with fail
  clear hW2 hb4 hb1
  first | refine wp_region_noPanic ?_ | skip
  refine wp_region_U (n := 6) (S := (fun u : World => u.cell? ⟨b1, 0, none⟩ = some (.pointer (some ⟨g, 0, none⟩)) ∧ u.cell? ⟨b4, 0, none⟩ = some (.int .i64 18))) (by kernel_rfl) (by kernel_rfl) (⟨c1, c4⟩) (fun hHeld => ?_)
  refine wpAnyU_take (i := 0) (v := ?v8) rfl (by kernel_rfl) (by kernel_rfl) (by kernel_rfl) (by kernel_rfl) (fun _ _ _ h => h) (Or.inl ⟨by rfl, ?hy8⟩) (by assumption) ?rest8
  case hy8 => (intro w hSw; (try dsimp only at hSw); go_simp; try with_reducible rfl)
  try simp only [Act.put, List.getElem_toArray, List.getElem_cons_succ, List.getElem_cons_zero, List.setIfInBounds_toArray, List.set_cons_zero, List.set_cons_succ]
  refine wpAnyU_take (i := 1) (v := ?v9) rfl (by kernel_rfl) (by kernel_rfl) (by kernel_rfl) (by kernel_rfl) (fun _ _ _ h => h) (Or.inl ⟨by rfl, ?hy9⟩) (by assumption) ?rest9
  case hy9 => (intro w hSw; (try dsimp only at hSw); go_simp; try with_reducible rfl)
  try simp only [Act.put, List.getElem_toArray, List.getElem_cons_succ, List.getElem_cons_zero, List.setIfInBounds_toArray, List.set_cons_zero, List.set_cons_succ]
  refine wpAnyU_take (i := 3) (v := ?v10) rfl (by kernel_rfl) (by kernel_rfl) (by kernel_rfl) (by kernel_rfl) (fun _ _ _ h => h) (Or.inl ⟨by rfl, ?hy10⟩) (by assumption) ?rest10
  case hy10 => (intro w hSw; (try dsimp only at hSw); go_simp; try with_reducible rfl)
  try simp only [Act.put, List.getElem_toArray, List.getElem_cons_succ, List.getElem_cons_zero, List.setIfInBounds_toArray, List.set_cons_zero, List.set_cons_succ]
  refine wpAnyU_ready (i := 2) (by kernel_rfl) (by kernel_rfl) rfl (fun K hK => ?_)
  go_simp
  refine (((HN2.out _ _ (Lib.hid K0.out.rs)))).mono ?_
  rintro e w' ⟨rfl, hr, hc⟩
  go_wp2_with fail
  refine hK.out _ _ ((K0.out.rd hr hc).cells) (fun hHeld => ?_)
  clear hK K
  try simp only [Act.put, List.getElem_toArray, List.getElem_cons_succ, List.getElem_cons_zero, List.setIfInBounds_toArray, List.set_cons_zero, List.set_cons_succ]
  have K1 := Lib.hid (K0.out.rd hr hc)
  clear hr hc
  generalize numV l _ _ = x0
  refine wpAnyU_ready (i := 4) (by kernel_rfl) (by kernel_rfl) rfl (fun K hK => ?_)
  go_simp
  refine (((HN2.out _ _ (Lib.hid K1.out.rs)))).mono ?_
  rintro e w' ⟨rfl, hr, hc⟩
  go_wp2_with fail
  refine hK.out _ _ ((K1.out.rd hr hc).cells) (fun hHeld => ?_)
  clear hK K
  try simp only [Act.put, List.getElem_toArray, List.getElem_cons_succ, List.getElem_cons_zero, List.setIfInBounds_toArray, List.set_cons_zero, List.set_cons_succ]
  have K2 := Lib.hid (K1.out.rd hr hc)
  clear hr hc
  generalize numV l _ _ = x1
  have HB := Lib.hid (HV.out x0 x1 w')
  have hst := run_blkStore K2.out.c2 HB.out.size HB.out.one
  have HE := Lib.hid (K2.out.made HB.out (fun k _ hk => hk.elim) rfl)
  have hbd1 := hbd x0 x1
  clear hbd
  generalize bcs [(0, .int .i64 18), (7, .int .i64 x0), (8, .int .i64 x1)] = cs at *
  refine wpAnyU_take (i := 5) (v := ?v11) rfl (by kernel_rfl) (by kernel_rfl) (by kernel_rfl) (by kernel_rfl) (fun _ _ _ h => h) (Or.inl ⟨by rfl, ?hy11⟩) (by assumption) ?rest11
  case hy11 => (intro w hSw; (try dsimp only at hSw); go_simp; try with_reducible rfl)
  try simp only [Act.put, List.getElem_toArray, List.getElem_cons_succ, List.getElem_cons_zero, List.setIfInBounds_toArray, List.set_cons_zero, List.set_cons_succ]
  refine wpAnyU_tail rfl (by kernel_rfl) ?_
  simp only [List.drop_succ_cons, List.drop_zero]
  go_wp2_with fail
  refine NoPanic.normal ?_
  go_wp2_with fail
  exact bodyPost_ret (results_blk rfl _ HE.out.2 rfl) rfl HE.out.1
set_option maxHeartbeats 1200000 in
theorem block_20 (F : Nat → Prop) (w : World) (g : Nat) (l : List Int) (s : Rst) (h : RS F w g l s) (hF : ∀ i, F i → i < w.heap.size) (hl : l.length ≤ 1000000) (h8 : Hid (Byte8 l)) (hid : numV l s 1 = 20) :
    Calls Try.prog 38 #[.pointer (some ⟨g, 0, none⟩)] w (BlkE F w g l (dataS l (takS l (takS l (takS l (takS l (takS l s 1) 2) 2) 1) 2) 3) 20) := by
  have HN1 := Lib.hid (fun u t (hr : Hid (RS F u g l t)) => num_any F u g l t hr hl 1 1 rfl (by decide) (by decide))
  have HN2 := Lib.hid (fun u t (hr : Hid (RS F u g l t)) => num_any F u g l t hr hl 2 2 rfl (by decide) (by decide))
  have HD3 := Lib.hid (fun u t (hr : Hid (RS F u g l t)) => data_any F u g l t hr hl h8 3 3 rfl (by decide) (by decide))
  have hbd : ∀ (x0 : Int) (x1 : Int) (x2 : Int) (x3 : Int) (A : Option Addr) (n c : Nat) u, (blkBuild #[(0, .int .i64 20), (5, .int .i64 x0), (6, .int .i64 x1), (9, .int .i64 x2), (1, .int .i64 x3), (12, .slice A n c)]).run Try.prog u = .ok (.agg (bcs [(0, .int .i64 20), (5, .int .i64 x0), (6, .int .i64 x1), (9, .int .i64 x2), (1, .int .i64 x3), (12, .slice A n c)])) u := fun x0 x1 x2 x3 A n c u => run_build u _ _ _ (show Try.prog.built 30 [(0, .int .i64 20), (5, .int .i64 x0), (6, .int .i64 x1), (9, .int .i64 x2), (1, .int .i64 x3), (12, .slice A n c)] = some (bcs [(0, .int .i64 20), (5, .int .i64 x0), (6, .int .i64 x1), (9, .int .i64 x2), (1, .int .i64 x3), (12, .slice A n c)]) by kernel_rfl)
  have HV : Hid (∀ (x0 : Int) (x1 : Int) (x2 : Int) (x3 : Int) (A : Option Addr) (n c : Nat) u, BV (fun _ => False) u (bcs [(0, .int .i64 20), (5, .int .i64 x0), (6, .int .i64 x1), (9, .int .i64 x2), (1, .int .i64 x3), (12, .slice A n c)]) ⟨20, [], []⟩) := Lib.hid fun x0 x1 x2 x3 A n c u => bv_of (by kernel_rfl) (by kernel_rfl) (by kernel_rfl) (by kernel_rfl)
  have hal := run_blkAlloc
  have h0 : RS F ((w.alloc (.cells #[.pointer (some ⟨g, 0, none⟩)] 64)).alloc (.cells blkZ 30)) g l s := (h.below (bnew w _)).below (bnew _ _)
  have HA := Lib.hid (at_s F _ g l s (Lib.hid h0))
  have HN := Lib.hid (num_any F _ g l s (Lib.hid h0) hl 1 1 rfl (by decide) (by decide))
  rw [hid] at HN
  have HB := Lib.hid (fun u (hr : RS F u g l (takS l s 1)) hc => Bk.new (id := 20) h hF hr hc)
  have HF := Lib.hid hF
  obtain ⟨b1, hb1⟩ : ∃ b1, w.heap.size = b1 := ⟨_, rfl⟩
  clear h hF h0 hid
  go_enter Try.func38, Try.ntmps38
  go_wp2_with fail
  refine HA.out.mono ?_
  rintro x w1 ⟨rfl, rfl⟩
  go_wp2_with fail
  refine HN.out.mono ?_
  rintro x w2 ⟨rfl, hr2, hc2⟩
  have HK := Lib.hid (HB.out w2 hr2 hc2)
  obtain ⟨b4, hb4⟩ : ∃ b4, w2.heap.size = b4 := ⟨_, rfl⟩
  obtain ⟨W2, hW2⟩ : ∃ W2, w2.alloc (.cells #[.int .i64 20] 3) = W2 := ⟨_, rfl⟩
  rw [hW2, hb1, hb4] at HK
  obtain ⟨c1, c4⟩ := HK.out.cells
  have K0 := Lib.hid HK.out.drew
  clear hr2 hc2 HA HN HB
  go_wp2_with fail
  clear hW2 hb4 hb1
  first | refine wp_region_noPanic ?_ | skip
  refine wp_region_U (n := 12) (S := (fun u : World => u.cell? ⟨b1, 0, none⟩ = some (.pointer (some ⟨g, 0, none⟩)) ∧ u.cell? ⟨b4, 0, none⟩ = some (.int .i64 20))) (by kernel_rfl) (by kernel_rfl) (⟨c1, c4⟩) (fun hHeld => ?_)
  refine wpAnyU_take (i := 0) (v := ?v12) rfl (by kernel_rfl) (by kernel_rfl) (by kernel_rfl) (by kernel_rfl) (fun _ _ _ h => h) (Or.inl ⟨by rfl, ?hy12⟩) (by assumption) ?rest12
  case hy12 => (intro w hSw; (try dsimp only at hSw); go_simp; try with_reducible rfl)
  try simp only [Act.put, List.getElem_toArray, List.getElem_cons_succ, List.getElem_cons_zero, List.setIfInBounds_toArray, List.set_cons_zero, List.set_cons_succ]
  refine wpAnyU_take (i := 1) (v := ?v13) rfl (by kernel_rfl) (by kernel_rfl) (by kernel_rfl) (by kernel_rfl) (fun _ _ _ h => h) (Or.inl ⟨by rfl, ?hy13⟩) (by assumption) ?rest13
  case hy13 => (intro w hSw; (try dsimp only at hSw); go_simp; try with_reducible rfl)
  try simp only [Act.put, List.getElem_toArray, List.getElem_cons_succ, List.getElem_cons_zero, List.setIfInBounds_toArray, List.set_cons_zero, List.set_cons_succ]
  refine wpAnyU_take (i := 3) (v := ?v14) rfl (by kernel_rfl) (by kernel_rfl) (by kernel_rfl) (by kernel_rfl) (fun _ _ _ h => h) (Or.inl ⟨by rfl, ?hy14⟩) (by assumption) ?rest14
  case hy14 => (intro w hSw; (try dsimp only at hSw); go_simp; try with_reducible rfl)
  try simp only [Act.put, List.getElem_toArray, List.getElem_cons_succ, List.getElem_cons_zero, List.setIfInBounds_toArray, List.set_cons_zero, List.set_cons_succ]
  refine wpAnyU_take (i := 5) (v := ?v15) rfl (by kernel_rfl) (by kernel_rfl) (by kernel_rfl) (by kernel_rfl) (fun _ _ _ h => h) (Or.inl ⟨by rfl, ?hy15⟩) (by assumption) ?rest15
  case hy15 => (intro w hSw; (try dsimp only at hSw); go_simp; try with_reducible rfl)
  try simp only [Act.put, List.getElem_toArray, List.getElem_cons_succ, List.getElem_cons_zero, List.setIfInBounds_toArray, List.set_cons_zero, List.set_cons_succ]
  refine wpAnyU_take (i := 7) (v := ?v16) rfl (by kernel_rfl) (by kernel_rfl) (by kernel_rfl) (by kernel_rfl) (fun _ _ _ h => h) (Or.inl ⟨by rfl, ?hy16⟩) (by assumption) ?rest16
  case hy16 => (intro w hSw; (try dsimp only at hSw); go_simp; try with_reducible rfl)
  try simp only [Act.put, List.getElem_toArray, List.getElem_cons_succ, List.getElem_cons_zero, List.setIfInBounds_toArray, List.set_cons_zero, List.set_cons_succ]
  refine wpAnyU_take (i := 9) (v := ?v17) rfl (by kernel_rfl) (by kernel_rfl) (by kernel_rfl) (by kernel_rfl) (fun _ _ _ h => h) (Or.inl ⟨by rfl, ?hy17⟩) (by assumption) ?rest17
  case hy17 => (intro w hSw; (try dsimp only at hSw); go_simp; try with_reducible rfl)
  try simp only [Act.put, List.getElem_toArray, List.getElem_cons_succ, List.getElem_cons_zero, List.setIfInBounds_toArray, List.set_cons_zero, List.set_cons_succ]
  refine wpAnyU_ready (i := 2) (by kernel_rfl) (by kernel_rfl) rfl (fun K hK => ?_)
  go_simp
  refine (((HN2.out _ _ (Lib.hid K0.out.rs)))).mono ?_
  rintro e w' ⟨rfl, hr, hc⟩
  go_wp2_with fail
  refine hK.out _ _ ((K0.out.rd hr hc).cells) (fun hHeld => ?_)
  clear hK K
  try simp only [Act.put, List.getElem_toArray, List.getElem_cons_succ, List.getElem_cons_zero, List.setIfInBounds_toArray, List.set_cons_zero, List.set_cons_succ]
  have K1 := Lib.hid (K0.out.rd hr hc)
  clear hr hc
  generalize numV l _ _ = x0
  refine wpAnyU_ready (i := 4) (by kernel_rfl) (by kernel_rfl) rfl (fun K hK => ?_)
  go_simp
  refine (((HN2.out _ _ (Lib.hid K1.out.rs)))).mono ?_
  rintro e w' ⟨rfl, hr, hc⟩
  go_wp2_with fail
  refine hK.out _ _ ((K1.out.rd hr hc).cells) (fun hHeld => ?_)
  clear hK K
  try simp only [Act.put, List.getElem_toArray, List.getElem_cons_succ, List.getElem_cons_zero, List.setIfInBounds_toArray, List.set_cons_zero, List.set_cons_succ]
  have K2 := Lib.hid (K1.out.rd hr hc)
  clear hr hc
  generalize numV l _ _ = x1
  refine wpAnyU_ready (i := 6) (by kernel_rfl) (by kernel_rfl) rfl (fun K hK => ?_)
  go_simp
  refine (((HN1.out _ _ (Lib.hid K2.out.rs)))).mono ?_
  rintro e w' ⟨rfl, hr, hc⟩
  go_wp2_with fail
  refine hK.out _ _ ((K2.out.rd hr hc).cells) (fun hHeld => ?_)
  clear hK K
  try simp only [Act.put, List.getElem_toArray, List.getElem_cons_succ, List.getElem_cons_zero, List.setIfInBounds_toArray, List.set_cons_zero, List.set_cons_succ]
  have K3 := Lib.hid (K2.out.rd hr hc)
  clear hr hc
  generalize numV l _ _ = x2
  refine wpAnyU_ready (i := 8) (by kernel_rfl) (by kernel_rfl) rfl (fun K hK => ?_)
  go_simp
  refine (((HN2.out _ _ (Lib.hid K3.out.rs)))).mono ?_
  rintro e w' ⟨rfl, hr, hc⟩
  go_wp2_with fail
  refine hK.out _ _ ((K3.out.rd hr hc).cells) (fun hHeld => ?_)
  clear hK K
  try simp only [Act.put, List.getElem_toArray, List.getElem_cons_succ, List.getElem_cons_zero, List.setIfInBounds_toArray, List.set_cons_zero, List.set_cons_succ]
  have K4 := Lib.hid (K3.out.rd hr hc)
  clear hr hc
  generalize numV l _ _ = x3
  refine wpAnyU_ready (i := 10) (by kernel_rfl) (by kernel_rfl) rfl (fun K hK => ?_)
  go_simp
  refine (((HD3.out _ _ (Lib.hid K4.out.rs)))).mono ?_
  rintro e w' ⟨A, n, c, rfl, hr, hc⟩
  go_wp2_with fail
  refine hK.out _ _ ((K4.out.rd hr hc).cells) (fun hHeld => ?_)
  clear hK K
  try simp only [Act.put, List.getElem_toArray, List.getElem_cons_succ, List.getElem_cons_zero, List.setIfInBounds_toArray, List.set_cons_zero, List.set_cons_succ]
  have K5 := Lib.hid (K4.out.rd hr hc)
  clear hr hc
  have HB := Lib.hid (HV.out x0 x1 x2 x3 A n c w')
  have hst := run_blkStore K5.out.c2 HB.out.size HB.out.one
  have HE := Lib.hid (K5.out.made HB.out (fun k _ hk => hk.elim) rfl)
  have hbd1 := hbd x0 x1 x2 x3 A n c
  clear hbd
  generalize bcs [(0, .int .i64 20), (5, .int .i64 x0), (6, .int .i64 x1), (9, .int .i64 x2), (1, .int .i64 x3), (12, .slice A n c)] = cs at *
  refine wpAnyU_take (i := 11) (v := ?v18) rfl (by kernel_rfl) (by kernel_rfl) (by kernel_rfl) (by kernel_rfl) (fun _ _ _ h => h) (Or.inl ⟨by rfl, ?hy18⟩) (by assumption) ?rest18
  case hy18 => (intro w hSw; (try dsimp only at hSw); go_simp; try with_reducible rfl)
  try simp only [Act.put, List.getElem_toArray, List.getElem_cons_succ, List.getElem_cons_zero, List.setIfInBounds_toArray, List.set_cons_zero, List.set_cons_succ]
  refine wpAnyU_tail rfl (by kernel_rfl) ?_
  simp only [List.drop_succ_cons, List.drop_zero]
  go_wp2_with fail
  refine NoPanic.normal ?_
  go_wp2_with fail
  exact bodyPost_ret (results_blk rfl _ HE.out.2 rfl) rfl HE.out.1
set_option maxHeartbeats 1200000 in
theorem block_21 (F : Nat → Prop) (w : World) (g : Nat) (l : List Int) (s : Rst) (h : RS F w g l s) (hF : ∀ i, F i → i < w.heap.size) (hl : l.length ≤ 1000000) (h8 : Hid (Byte8 l)) (hid : numV l s 1 = 21) :
    Calls Try.prog 38 #[.pointer (some ⟨g, 0, none⟩)] w (BlkE F w g l (dataS l (takS l (takS l (takS l (takS l s 1) 2) 2) 1) 3) 21) := by
  have HN1 := Lib.hid (fun u t (hr : Hid (RS F u g l t)) => num_any F u g l t hr hl 1 1 rfl (by decide) (by decide))
  have HN2 := Lib.hid (fun u t (hr : Hid (RS F u g l t)) => num_any F u g l t hr hl 2 2 rfl (by decide) (by decide))
  have HD3 := Lib.hid (fun u t (hr : Hid (RS F u g l t)) => data_any F u g l t hr hl h8 3 3 rfl (by decide) (by decide))
  have hbd : ∀ (x0 : Int) (x1 : Int) (x2 : Int) (A : Option Addr) (n c : Nat) u, (blkBuild #[(0, .int .i64 21), (10, .int .i64 x0), (1, .int .i64 x1), (9, .int .i64 x2), (12, .slice A n c)]).run Try.prog u = .ok (.agg (bcs [(0, .int .i64 21), (10, .int .i64 x0), (1, .int .i64 x1), (9, .int .i64 x2), (12, .slice A n c)])) u := fun x0 x1 x2 A n c u => run_build u _ _ _ (show Try.prog.built 30 [(0, .int .i64 21), (10, .int .i64 x0), (1, .int .i64 x1), (9, .int .i64 x2), (12, .slice A n c)] = some (bcs [(0, .int .i64 21), (10, .int .i64 x0), (1, .int .i64 x1), (9, .int .i64 x2), (12, .slice A n c)]) by kernel_rfl)
  have HV : Hid (∀ (x0 : Int) (x1 : Int) (x2 : Int) (A : Option Addr) (n c : Nat) u, BV (fun _ => False) u (bcs [(0, .int .i64 21), (10, .int .i64 x0), (1, .int .i64 x1), (9, .int .i64 x2), (12, .slice A n c)]) ⟨21, [], []⟩) := Lib.hid fun x0 x1 x2 A n c u => bv_of (by kernel_rfl) (by kernel_rfl) (by kernel_rfl) (by kernel_rfl)
  have hal := run_blkAlloc
  have h0 : RS F ((w.alloc (.cells #[.pointer (some ⟨g, 0, none⟩)] 64)).alloc (.cells blkZ 30)) g l s := (h.below (bnew w _)).below (bnew _ _)
  have HA := Lib.hid (at_s F _ g l s (Lib.hid h0))
  have HN := Lib.hid (num_any F _ g l s (Lib.hid h0) hl 1 1 rfl (by decide) (by decide))
  rw [hid] at HN
  have HB := Lib.hid (fun u (hr : RS F u g l (takS l s 1)) hc => Bk.new (id := 21) h hF hr hc)
  have HF := Lib.hid hF
  obtain ⟨b1, hb1⟩ : ∃ b1, w.heap.size = b1 := ⟨_, rfl⟩
  clear h hF h0 hid
  go_enter Try.func38, Try.ntmps38
  go_wp2_with fail
  refine HA.out.mono ?_
  rintro x w1 ⟨rfl, rfl⟩
  go_wp2_with fail
  refine HN.out.mono ?_
  rintro x w2 ⟨rfl, hr2, hc2⟩
  have HK := Lib.hid (HB.out w2 hr2 hc2)
  obtain ⟨b4, hb4⟩ : ∃ b4, w2.heap.size = b4 := ⟨_, rfl⟩
  obtain ⟨W2, hW2⟩ : ∃ W2, w2.alloc (.cells #[.int .i64 21] 3) = W2 := ⟨_, rfl⟩
  rw [hW2, hb1, hb4] at HK
  obtain ⟨c1, c4⟩ := HK.out.cells
  have K0 := Lib.hid HK.out.drew
  clear hr2 hc2 HA HN HB
  go_wp2_with fail
  clear hW2 hb4 hb1
  first | refine wp_region_noPanic ?_ | skip
  refine wp_region_U (n := 10) (S := (fun u : World => u.cell? ⟨b1, 0, none⟩ = some (.pointer (some ⟨g, 0, none⟩)) ∧ u.cell? ⟨b4, 0, none⟩ = some (.int .i64 21))) (by kernel_rfl) (by kernel_rfl) (⟨c1, c4⟩) (fun hHeld => ?_)
  refine wpAnyU_take (i := 0) (v := ?v19) rfl (by kernel_rfl) (by kernel_rfl) (by kernel_rfl) (by kernel_rfl) (fun _ _ _ h => h) (Or.inl ⟨by rfl, ?hy19⟩) (by assumption) ?rest19
  case hy19 => (intro w hSw; (try dsimp only at hSw); go_simp; try with_reducible rfl)
  try simp only [Act.put, List.getElem_toArray, List.getElem_cons_succ, List.getElem_cons_zero, List.setIfInBounds_toArray, List.set_cons_zero, List.set_cons_succ]
  refine wpAnyU_take (i := 1) (v := ?v20) rfl (by kernel_rfl) (by kernel_rfl) (by kernel_rfl) (by kernel_rfl) (fun _ _ _ h => h) (Or.inl ⟨by rfl, ?hy20⟩) (by assumption) ?rest20
  case hy20 => (intro w hSw; (try dsimp only at hSw); go_simp; try with_reducible rfl)
  try simp only [Act.put, List.getElem_toArray, List.getElem_cons_succ, List.getElem_cons_zero, List.setIfInBounds_toArray, List.set_cons_zero, List.set_cons_succ]
  refine wpAnyU_take (i := 3) (v := ?v21) rfl (by kernel_rfl) (by kernel_rfl) (by kernel_rfl) (by kernel_rfl) (fun _ _ _ h => h) (Or.inl ⟨by rfl, ?hy21⟩) (by assumption) ?rest21
  case hy21 => (intro w hSw; (try dsimp only at hSw); go_simp; try with_reducible rfl)
  try simp only [Act.put, List.getElem_toArray, List.getElem_cons_succ, List.getElem_cons_zero, List.setIfInBounds_toArray, List.set_cons_zero, List.set_cons_succ]
  refine wpAnyU_take (i := 5) (v := ?v22) rfl (by kernel_rfl) (by kernel_rfl) (by kernel_rfl) (by kernel_rfl) (fun _ _ _ h => h) (Or.inl ⟨by rfl, ?hy22⟩) (by assumption) ?rest22
  case hy22 => (intro w hSw; (try dsimp only at hSw); go_simp; try with_reducible rfl)
  try simp only [Act.put, List.getElem_toArray, List.getElem_cons_succ, List.getElem_cons_zero, List.setIfInBounds_toArray, List.set_cons_zero, List.set_cons_succ]
  refine wpAnyU_take (i := 7) (v := ?v23) rfl (by kernel_rfl) (by kernel_rfl) (by kernel_rfl) (by kernel_rfl) (fun _ _ _ h => h) (Or.inl ⟨by rfl, ?hy23⟩) (by assumption) ?rest23
  case hy23 => (intro w hSw; (try dsimp only at hSw); go_simp; try with_reducible rfl)
  try simp only [Act.put, List.getElem_toArray, List.getElem_cons_succ, List.getElem_cons_zero, List.setIfInBounds_toArray, List.set_cons_zero, List.set_cons_succ]
  refine wpAnyU_ready (i := 2) (by kernel_rfl) (by kernel_rfl) rfl (fun K hK => ?_)
  go_simp
  refine (((HN2.out _ _ (Lib.hid K0.out.rs)))).mono ?_
  rintro e w' ⟨rfl, hr, hc⟩
  go_wp2_with fail
  refine hK.out _ _ ((K0.out.rd hr hc).cells) (fun hHeld => ?_)
  clear hK K
  try simp only [Act.put, List.getElem_toArray, List.getElem_cons_succ, List.getElem_cons_zero, List.setIfInBounds_toArray, List.set_cons_zero, List.set_cons_succ]
  have K1 := Lib.hid (K0.out.rd hr hc)
  clear hr hc
  generalize numV l _ _ = x0
  refine wpAnyU_ready (i := 4) (by kernel_rfl) (by kernel_rfl) rfl (fun K hK => ?_)
  go_simp
  refine (((HN2.out _ _ (Lib.hid K1.out.rs)))).mono ?_
  rintro e w' ⟨rfl, hr, hc⟩
  go_wp2_with fail
  refine hK.out _ _ ((K1.out.rd hr hc).cells) (fun hHeld => ?_)
  clear hK K
  try simp only [Act.put, List.getElem_toArray, List.getElem_cons_succ, List.getElem_cons_zero, List.setIfInBounds_toArray, List.set_cons_zero, List.set_cons_succ]
  have K2 := Lib.hid (K1.out.rd hr hc)
  clear hr hc
  generalize numV l _ _ = x1
  refine wpAnyU_ready (i := 6) (by kernel_rfl) (by kernel_rfl) rfl (fun K hK => ?_)
  go_simp
  refine (((HN1.out _ _ (Lib.hid K2.out.rs)))).mono ?_
  rintro e w' ⟨rfl, hr, hc⟩
  go_wp2_with fail
  refine hK.out _ _ ((K2.out.rd hr hc).cells) (fun hHeld => ?_)
  clear hK K
  try simp only [Act.put, List.getElem_toArray, List.getElem_cons_succ, List.getElem_cons_zero, List.setIfInBounds_toArray, List.set_cons_zero, List.set_cons_succ]
  have K3 := Lib.hid (K2.out.rd hr hc)
  clear hr hc
  generalize numV l _ _ = x2
  refine wpAnyU_ready (i := 8) (by kernel_rfl) (by kernel_rfl) rfl (fun K hK => ?_)
  go_simp
  refine (((HD3.out _ _ (Lib.hid K3.out.rs)))).mono ?_
  rintro e w' ⟨A, n, c, rfl, hr, hc⟩
  go_wp2_with fail
  refine hK.out _ _ ((K3.out.rd hr hc).cells) (fun hHeld => ?_)
  clear hK K
  try simp only [Act.put, List.getElem_toArray, List.getElem_cons_succ, List.getElem_cons_zero, List.setIfInBounds_toArray, List.set_cons_zero, List.set_cons_succ]
  have K4 := Lib.hid (K3.out.rd hr hc)
  clear hr hc
  have HB := Lib.hid (HV.out x0 x1 x2 A n c w')
  have hst := run_blkStore K4.out.c2 HB.out.size HB.out.one
  have HE := Lib.hid (K4.out.made HB.out (fun k _ hk => hk.elim) rfl)
  have hbd1 := hbd x0 x1 x2 A n c
  clear hbd
  generalize bcs [(0, .int .i64 21), (10, .int .i64 x0), (1, .int .i64 x1), (9, .int .i64 x2), (12, .slice A n c)] = cs at *
  refine wpAnyU_take (i := 9) (v := ?v24) rfl (by kernel_rfl) (by kernel_rfl) (by kernel_rfl) (by kernel_rfl) (fun _ _ _ h => h) (Or.inl ⟨by rfl, ?hy24⟩) (by assumption) ?rest24
  case hy24 => (intro w hSw; (try dsimp only at hSw); go_simp; try with_reducible rfl)
  try simp only [Act.put, List.getElem_toArray, List.getElem_cons_succ, List.getElem_cons_zero, List.setIfInBounds_toArray, List.set_cons_zero, List.set_cons_succ]
  refine wpAnyU_tail rfl (by kernel_rfl) ?_
  simp only [List.drop_succ_cons, List.drop_zero]
  go_wp2_with fail
  refine NoPanic.normal ?_
  go_wp2_with fail
  exact bodyPost_ret (results_blk rfl _ HE.out.2 rfl) rfl HE.out.1
set_option maxHeartbeats 1200000 in
theorem block_33 (F : Nat → Prop) (w : World) (g : Nat) (l : List Int) (s : Rst) (h : RS F w g l s) (hF : ∀ i, F i → i < w.heap.size) (hl : l.length ≤ 1000000) (h8 : Hid (Byte8 l)) (hid : numV l s 1 = 33) :
    Calls Try.prog 38 #[.pointer (some ⟨g, 0, none⟩)] w (BlkE F w g l (dataS l (takS l s 1) 1) 33) := by
  have HD1 := Lib.hid (fun u t (hr : Hid (RS F u g l t)) => data_any F u g l t hr hl h8 1 1 rfl (by decide) (by decide))
  have hbd : ∀ (A : Option Addr) (n c : Nat) u, (blkBuild #[(0, .int .i64 33), (12, .slice A n c)]).run Try.prog u = .ok (.agg (bcs [(0, .int .i64 33), (12, .slice A n c)])) u := fun A n c u => run_build u _ _ _ (show Try.prog.built 30 [(0, .int .i64 33), (12, .slice A n c)] = some (bcs [(0, .int .i64 33), (12, .slice A n c)]) by kernel_rfl)
  have HV : Hid (∀ (A : Option Addr) (n c : Nat) u, BV (fun _ => False) u (bcs [(0, .int .i64 33), (12, .slice A n c)]) ⟨33, [], []⟩) := Lib.hid fun A n c u => bv_of (by kernel_rfl) (by kernel_rfl) (by kernel_rfl) (by kernel_rfl)
  have hal := run_blkAlloc
  have h0 : RS F ((w.alloc (.cells #[.pointer (some ⟨g, 0, none⟩)] 64)).alloc (.cells blkZ 30)) g l s := (h.below (bnew w _)).below (bnew _ _)
  have HA := Lib.hid (at_s F _ g l s (Lib.hid h0))
  have HN := Lib.hid (num_any F _ g l s (Lib.hid h0) hl 1 1 rfl (by decide) (by decide))
  rw [hid] at HN
  have HB := Lib.hid (fun u (hr : RS F u g l (takS l s 1)) hc => Bk.new (id := 33) h hF hr hc)
  have HF := Lib.hid hF
  obtain ⟨b1, hb1⟩ : ∃ b1, w.heap.size = b1 := ⟨_, rfl⟩
  clear h hF h0 hid
  go_enter Try.func38, Try.ntmps38
  go_wp2_with fail
  refine HA.out.mono ?_
  rintro x w1 ⟨rfl, rfl⟩
  go_wp2_with fail
  refine HN.out.mono ?_
  rintro x w2 ⟨rfl, hr2, hc2⟩
  have HK := Lib.hid (HB.out w2 hr2 hc2)
  obtain ⟨b4, hb4⟩ : ∃ b4, w2.heap.size = b4 := ⟨_, rfl⟩
  obtain ⟨W2, hW2⟩ : ∃ W2, w2.alloc (.cells #[.int .i64 33] 3) = W2 := ⟨_, rfl⟩
  rw [hW2, hb1, hb4] at HK
  obtain ⟨c1, c4⟩ := HK.out.cells
  have K0 := Lib.hid HK.out.drew
  clear hr2 hc2 HA HN HB
  go_wp2_with fail
  clear hW2 hb4 hb1
  first | refine wp_region_noPanic ?_ | skip
  refine wp_region_U (n := 4) (S := (fun u : World => u.cell? ⟨b1, 0, none⟩ = some (.pointer (some ⟨g, 0, none⟩)) ∧ u.cell? ⟨b4, 0, none⟩ = some (.int .i64 33))) (by kernel_rfl) (by kernel_rfl) (⟨c1, c4⟩) (fun hHeld => ?_)
  refine wpAnyU_take (i := 0) (v := ?v25) rfl (by kernel_rfl) (by kernel_rfl) (by kernel_rfl) (by kernel_rfl) (fun _ _ _ h => h) (Or.inl ⟨by rfl, ?hy25⟩) (by assumption) ?rest25
  case hy25 => (intro w hSw; (try dsimp only at hSw); go_simp; try with_reducible rfl)
  try simp only [Act.put, List.getElem_toArray, List.getElem_cons_succ, List.getElem_cons_zero, List.setIfInBounds_toArray, List.set_cons_zero, List.set_cons_succ]
  refine wpAnyU_take (i := 1) (v := ?v26) rfl (by kernel_rfl) (by kernel_rfl) (by kernel_rfl) (by kernel_rfl) (fun _ _ _ h => h) (Or.inl ⟨by rfl, ?hy26⟩) (by assumption) ?rest26
  case hy26 => (intro w hSw; (try dsimp only at hSw); go_simp; try with_reducible rfl)
  try simp only [Act.put, List.getElem_toArray, List.getElem_cons_succ, List.getElem_cons_zero, List.setIfInBounds_toArray, List.set_cons_zero, List.set_cons_succ]
  refine wpAnyU_ready (i := 2) (by kernel_rfl) (by kernel_rfl) rfl (fun K hK => ?_)
  go_simp
  refine (((HD1.out _ _ (Lib.hid K0.out.rs)))).mono ?_
  rintro e w' ⟨A, n, c, rfl, hr, hc⟩
  go_wp2_with fail
  refine hK.out _ _ ((K0.out.rd hr hc).cells) (fun hHeld => ?_)
  clear hK K
  try simp only [Act.put, List.getElem_toArray, List.getElem_cons_succ, List.getElem_cons_zero, List.setIfInBounds_toArray, List.set_cons_zero, List.set_cons_succ]
  have K1 := Lib.hid (K0.out.rd hr hc)
  clear hr hc
  have HB := Lib.hid (HV.out A n c w')
  have hst := run_blkStore K1.out.c2 HB.out.size HB.out.one
  have HE := Lib.hid (K1.out.made HB.out (fun k _ hk => hk.elim) rfl)
  have hbd1 := hbd A n c
  clear hbd
  generalize bcs [(0, .int .i64 33), (12, .slice A n c)] = cs at *
  refine wpAnyU_take (i := 3) (v := ?v27) rfl (by kernel_rfl) (by kernel_rfl) (by kernel_rfl) (by kernel_rfl) (fun _ _ _ h => h) (Or.inl ⟨by rfl, ?hy27⟩) (by assumption) ?rest27
  case hy27 => (intro w hSw; (try dsimp only at hSw); go_simp; try with_reducible rfl)
  try simp only [Act.put, List.getElem_toArray, List.getElem_cons_succ, List.getElem_cons_zero, List.setIfInBounds_toArray, List.set_cons_zero, List.set_cons_succ]
  refine wpAnyU_tail rfl (by kernel_rfl) ?_
  simp only [List.drop_succ_cons, List.drop_zero]
  go_wp2_with fail
  refine NoPanic.normal ?_
  go_wp2_with fail
  exact bodyPost_ret (results_blk rfl _ HE.out.2 rfl) rfl HE.out.1
set_option maxHeartbeats 1200000 in
theorem block_48 (F : Nat → Prop) (w : World) (g : Nat) (l : List Int) (s : Rst) (h : RS F w g l s) (hF : ∀ i, F i → i < w.heap.size) (hl : l.length ≤ 1000000) (h8 : Hid (Byte8 l)) (hid : numV l s 1 = 48) :
    Calls Try.prog 38 #[.pointer (some ⟨g, 0, none⟩)] w (BlkE F w g l (dataS l (takS l s 1) 1) 48) := by
  have HD1 := Lib.hid (fun u t (hr : Hid (RS F u g l t)) => data_any F u g l t hr hl h8 1 1 rfl (by decide) (by decide))
  have hbd : ∀ (A : Option Addr) (n c : Nat) u, (blkBuild #[(0, .int .i64 48), (12, .slice A n c)]).run Try.prog u = .ok (.agg (bcs [(0, .int .i64 48), (12, .slice A n c)])) u := fun A n c u => run_build u _ _ _ (show Try.prog.built 30 [(0, .int .i64 48), (12, .slice A n c)] = some (bcs [(0, .int .i64 48), (12, .slice A n c)]) by kernel_rfl)
  have HV : Hid (∀ (A : Option Addr) (n c : Nat) u, BV (fun _ => False) u (bcs [(0, .int .i64 48), (12, .slice A n c)]) ⟨48, [], []⟩) := Lib.hid fun A n c u => bv_of (by kernel_rfl) (by kernel_rfl) (by kernel_rfl) (by kernel_rfl)
  have hal := run_blkAlloc
  have h0 : RS F ((w.alloc (.cells #[.pointer (some ⟨g, 0, none⟩)] 64)).alloc (.cells blkZ 30)) g l s := (h.below (bnew w _)).below (bnew _ _)
  have HA := Lib.hid (at_s F _ g l s (Lib.hid h0))
  have HN := Lib.hid (num_any F _ g l s (Lib.hid h0) hl 1 1 rfl (by decide) (by decide))
  rw [hid] at HN
  have HB := Lib.hid (fun u (hr : RS F u g l (takS l s 1)) hc => Bk.new (id := 48) h hF hr hc)
  have HF := Lib.hid hF
  obtain ⟨b1, hb1⟩ : ∃ b1, w.heap.size = b1 := ⟨_, rfl⟩
  clear h hF h0 hid
  go_enter Try.func38, Try.ntmps38
  go_wp2_with fail
  refine HA.out.mono ?_
  rintro x w1 ⟨rfl, rfl⟩
  go_wp2_with fail
  refine HN.out.mono ?_
  rintro x w2 ⟨rfl, hr2, hc2⟩
  have HK := Lib.hid (HB.out w2 hr2 hc2)
  obtain ⟨b4, hb4⟩ : ∃ b4, w2.heap.size = b4 := ⟨_, rfl⟩
  obtain ⟨W2, hW2⟩ : ∃ W2, w2.alloc (.cells #[.int .i64 48] 3) = W2 := ⟨_, rfl⟩
  rw [hW2, hb1, hb4] at HK
  obtain ⟨c1, c4⟩ := HK.out.cells
  have K0 := Lib.hid HK.out.drew
  clear hr2 hc2 HA HN HB
  go_wp2_with fail
  clear hW2 hb4 hb1
  first | refine wp_region_noPanic ?_ | skip
  refine wp_region_U (n := 4) (S := (fun u : World => u.cell? ⟨b1, 0, none⟩ = some (.pointer (some ⟨g, 0, none⟩)) ∧ u.cell? ⟨b4, 0, none⟩ = some (.int .i64 48))) (by kernel_rfl) (by kernel_rfl) (⟨c1, c4⟩) (fun hHeld => ?_)
  refine wpAnyU_take (i := 0) (v := ?v28) rfl (by kernel_rfl) (by kernel_rfl) (by kernel_rfl) (by kernel_rfl) (fun _ _ _ h => h) (Or.inl ⟨by rfl, ?hy28⟩) (by assumption) ?rest28
  case hy28 => (intro w hSw; (try dsimp only at hSw); go_simp; try with_reducible rfl)
  try simp only [Act.put, List.getElem_toArray, List.getElem_cons_succ, List.getElem_cons_zero, List.setIfInBounds_toArray, List.set_cons_zero, List.set_cons_succ]
  refine wpAnyU_take (i := 1) (v := ?v29) rfl (by kernel_rfl) (by kernel_rfl) (by kernel_rfl) (by kernel_rfl) (fun _ _ _ h => h) (Or.inl ⟨by rfl, ?hy29⟩) (by assumption) ?rest29
  case hy29 => (intro w hSw; (try dsimp only at hSw); go_simp; try with_reducible rfl)
  try simp only [Act.put, List.getElem_toArray, List.getElem_cons_succ, List.getElem_cons_zero, List.setIfInBounds_toArray, List.set_cons_zero, List.set_cons_succ]
  refine wpAnyU_ready (i := 2) (by kernel_rfl) (by kernel_rfl) rfl (fun K hK => ?_)
  go_simp
  refine (((HD1.out _ _ (Lib.hid K0.out.rs)))).mono ?_
  rintro e w' ⟨A, n, c, rfl, hr, hc⟩
  go_wp2_with fail
  refine hK.out _ _ ((K0.out.rd hr hc).cells) (fun hHeld => ?_)
  clear hK K
  try simp only [Act.put, List.getElem_toArray, List.getElem_cons_succ, List.getElem_cons_zero, List.setIfInBounds_toArray, List.set_cons_zero, List.set_cons_succ]
  have K1 := Lib.hid (K0.out.rd hr hc)
  clear hr hc
  have HB := Lib.hid (HV.out A n c w')
  have hst := run_blkStore K1.out.c2 HB.out.size HB.out.one
  have HE := Lib.hid (K1.out.made HB.out (fun k _ hk => hk.elim) rfl)
  have hbd1 := hbd A n c
  clear hbd
  generalize bcs [(0, .int .i64 48), (12, .slice A n c)] = cs at *
  refine wpAnyU_take (i := 3) (v := ?v30) rfl (by kernel_rfl) (by kernel_rfl) (by kernel_rfl) (by kernel_rfl) (fun _ _ _ h => h) (Or.inl ⟨by rfl, ?hy30⟩) (by assumption) ?rest30
  case hy30 => (intro w hSw; (try dsimp only at hSw); go_simp; try with_reducible rfl)
  try simp only [Act.put, List.getElem_toArray, List.getElem_cons_succ, List.getElem_cons_zero, List.setIfInBounds_toArray, List.set_cons_zero, List.set_cons_succ]
  refine wpAnyU_tail rfl (by kernel_rfl) ?_
  simp only [List.drop_succ_cons, List.drop_zero]
  go_wp2_with fail
  refine NoPanic.normal ?_
  go_wp2_with fail
  exact bodyPost_ret (results_blk rfl _ HE.out.2 rfl) rfl HE.out.1
set_option maxHeartbeats 1200000 in
theorem block_36 (F : Nat → Prop) (w : World) (g : Nat) (l : List Int) (s : Rst) (h : RS F w g l s) (hF : ∀ i, F i → i < w.heap.size) (hl : l.length ≤ 1000000) (h8 : Hid (Byte8 l)) (hid : numV l s 1 = 36) :
    Calls Try.prog 38 #[.pointer (some ⟨g, 0, none⟩)] w (BlkE F w g l (takS l (takS l s 1) 2) 36) := by
  have HN2 := Lib.hid (fun u t (hr : Hid (RS F u g l t)) => num_any F u g l t hr hl 2 2 rfl (by decide) (by decide))
  have hbd : ∀ (x0 : Int) u, (blkBuild #[(0, .int .i64 36), (8, .int .i64 x0)]).run Try.prog u = .ok (.agg (bcs [(0, .int .i64 36), (8, .int .i64 x0)])) u := fun x0 u => run_build u _ _ _ (show Try.prog.built 30 [(0, .int .i64 36), (8, .int .i64 x0)] = some (bcs [(0, .int .i64 36), (8, .int .i64 x0)]) by kernel_rfl)
  have HV : Hid (∀ (x0 : Int) u, BV (fun _ => False) u (bcs [(0, .int .i64 36), (8, .int .i64 x0)]) ⟨36, [], []⟩) := Lib.hid fun x0 u => bv_of (by kernel_rfl) (by kernel_rfl) (by kernel_rfl) (by kernel_rfl)
  have hal := run_blkAlloc
  have h0 : RS F ((w.alloc (.cells #[.pointer (some ⟨g, 0, none⟩)] 64)).alloc (.cells blkZ 30)) g l s := (h.below (bnew w _)).below (bnew _ _)
  have HA := Lib.hid (at_s F _ g l s (Lib.hid h0))
  have HN := Lib.hid (num_any F _ g l s (Lib.hid h0) hl 1 1 rfl (by decide) (by decide))
  rw [hid] at HN
  have HB := Lib.hid (fun u (hr : RS F u g l (takS l s 1)) hc => Bk.new (id := 36) h hF hr hc)
  have HF := Lib.hid hF
  obtain ⟨b1, hb1⟩ : ∃ b1, w.heap.size = b1 := ⟨_, rfl⟩
  clear h hF h0 hid
  go_enter Try.func38, Try.ntmps38
  go_wp2_with fail
  refine HA.out.mono ?_
  rintro x w1 ⟨rfl, rfl⟩
  go_wp2_with fail
  refine HN.out.mono ?_
  rintro x w2 ⟨rfl, hr2, hc2⟩
  have HK := Lib.hid (HB.out w2 hr2 hc2)
  obtain ⟨b4, hb4⟩ : ∃ b4, w2.heap.size = b4 := ⟨_, rfl⟩
  obtain ⟨W2, hW2⟩ : ∃ W2, w2.alloc (.cells #[.int .i64 36] 3) = W2 := ⟨_, rfl⟩
  rw [hW2, hb1, hb4] at HK
  obtain ⟨c1, c4⟩ := HK.out.cells
  have K0 := Lib.hid HK.out.drew
  clear hr2 hc2 HA HN HB
  go_wp2_with fail
  clear hW2 hb4 hb1
  first | refine wp_region_noPanic ?_ | skip
  refine wp_region_U (n := 4) (S := (fun u : World => u.cell? ⟨b1, 0, none⟩ = some (.pointer (some ⟨g, 0, none⟩)) ∧ u.cell? ⟨b4, 0, none⟩ = some (.int .i64 36))) (by kernel_rfl) (by kernel_rfl) (⟨c1, c4⟩) (fun hHeld => ?_)
  refine wpAnyU_take (i := 0) (v := ?v31) rfl (by kernel_rfl) (by kernel_rfl) (by kernel_rfl) (by kernel_rfl) (fun _ _ _ h => h) (Or.inl ⟨by rfl, ?hy31⟩) (by assumption) ?rest31
  case hy31 => (intro w hSw; (try dsimp only at hSw); go_simp; try with_reducible rfl)
  try simp only [Act.put, List.getElem_toArray, List.getElem_cons_succ, List.getElem_cons_zero, List.setIfInBounds_toArray, List.set_cons_zero, List.set_cons_succ]
  refine wpAnyU_take (i := 1) (v := ?v32) rfl (by kernel_rfl) (by kernel_rfl) (by kernel_rfl) (by kernel_rfl) (fun _ _ _ h => h) (Or.inl ⟨by rfl, ?hy32⟩) (by assumption) ?rest32
  case hy32 => (intro w hSw; (try dsimp only at hSw); go_simp; try with_reducible rfl)
  try simp only [Act.put, List.getElem_toArray, List.getElem_cons_succ, List.getElem_cons_zero, List.setIfInBounds_toArray, List.set_cons_zero, List.set_cons_succ]
  refine wpAnyU_ready (i := 2) (by kernel_rfl) (by kernel_rfl) rfl (fun K hK => ?_)
  go_simp
  refine (((HN2.out _ _ (Lib.hid K0.out.rs)))).mono ?_
  rintro e w' ⟨rfl, hr, hc⟩
  go_wp2_with fail
  refine hK.out _ _ ((K0.out.rd hr hc).cells) (fun hHeld => ?_)
  clear hK K
  try simp only [Act.put, List.getElem_toArray, List.getElem_cons_succ, List.getElem_cons_zero, List.setIfInBounds_toArray, List.set_cons_zero, List.set_cons_succ]
  have K1 := Lib.hid (K0.out.rd hr hc)
  clear hr hc
  generalize numV l _ _ = x0
  have HB := Lib.hid (HV.out x0 w')
  have hst := run_blkStore K1.out.c2 HB.out.size HB.out.one
  have HE := Lib.hid (K1.out.made HB.out (fun k _ hk => hk.elim) rfl)
  have hbd1 := hbd x0
  clear hbd
  generalize bcs [(0, .int .i64 36), (8, .int .i64 x0)] = cs at *
  refine wpAnyU_take (i := 3) (v := ?v33) rfl (by kernel_rfl) (by kernel_rfl) (by kernel_rfl) (by kernel_rfl) (fun _ _ _ h => h) (Or.inl ⟨by rfl, ?hy33⟩) (by assumption) ?rest33
  case hy33 => (intro w hSw; (try dsimp only at hSw); go_simp; try with_reducible rfl)
  try simp only [Act.put, List.getElem_toArray, List.getElem_cons_succ, List.getElem_cons_zero, List.setIfInBounds_toArray, List.set_cons_zero, List.set_cons_succ]
  refine wpAnyU_tail rfl (by kernel_rfl) ?_
  simp only [List.drop_succ_cons, List.drop_zero]
  go_wp2_with fail
  refine NoPanic.normal ?_
  go_wp2_with fail
  exact bodyPost_ret (results_blk rfl _ HE.out.2 rfl) rfl HE.out.1
set_option maxHeartbeats 1200000 in
theorem block_49 (F : Nat → Prop) (w : World) (g : Nat) (l : List Int) (s : Rst) (h : RS F w g l s) (hF : ∀ i, F i → i < w.heap.size) (hl : l.length ≤ 1000000) (h8 : Hid (Byte8 l)) (hid : numV l s 1 = 49) :
    Calls Try.prog 38 #[.pointer (some ⟨g, 0, none⟩)] w (BlkE F w g l (dataS l (takS l (takS l s 1) 1) 1) 49) := by
  have HN1 := Lib.hid (fun u t (hr : Hid (RS F u g l t)) => num_any F u g l t hr hl 1 1 rfl (by decide) (by decide))
  have HD1 := Lib.hid (fun u t (hr : Hid (RS F u g l t)) => data_any F u g l t hr hl h8 1 1 rfl (by decide) (by decide))
  have hbd : ∀ (x0 : Int) (A : Option Addr) (n c : Nat) u, (blkBuild #[(0, .int .i64 49), (8, .int .i64 x0), (12, .slice A n c)]).run Try.prog u = .ok (.agg (bcs [(0, .int .i64 49), (8, .int .i64 x0), (12, .slice A n c)])) u := fun x0 A n c u => run_build u _ _ _ (show Try.prog.built 30 [(0, .int .i64 49), (8, .int .i64 x0), (12, .slice A n c)] = some (bcs [(0, .int .i64 49), (8, .int .i64 x0), (12, .slice A n c)]) by kernel_rfl)
  have HV : Hid (∀ (x0 : Int) (A : Option Addr) (n c : Nat) u, BV (fun _ => False) u (bcs [(0, .int .i64 49), (8, .int .i64 x0), (12, .slice A n c)]) ⟨49, [], []⟩) := Lib.hid fun x0 A n c u => bv_of (by kernel_rfl) (by kernel_rfl) (by kernel_rfl) (by kernel_rfl)
  have hal := run_blkAlloc
  have h0 : RS F ((w.alloc (.cells #[.pointer (some ⟨g, 0, none⟩)] 64)).alloc (.cells blkZ 30)) g l s := (h.below (bnew w _)).below (bnew _ _)
  have HA := Lib.hid (at_s F _ g l s (Lib.hid h0))
  have HN := Lib.hid (num_any F _ g l s (Lib.hid h0) hl 1 1 rfl (by decide) (by decide))
  rw [hid] at HN
  have HB := Lib.hid (fun u (hr : RS F u g l (takS l s 1)) hc => Bk.new (id := 49) h hF hr hc)
  have HF := Lib.hid hF
  obtain ⟨b1, hb1⟩ : ∃ b1, w.heap.size = b1 := ⟨_, rfl⟩
  clear h hF h0 hid
  go_enter Try.func38, Try.ntmps38
  go_wp2_with fail
  refine HA.out.mono ?_
  rintro x w1 ⟨rfl, rfl⟩
  go_wp2_with fail
  refine HN.out.mono ?_
  rintro x w2 ⟨rfl, hr2, hc2⟩
  have HK := Lib.hid (HB.out w2 hr2 hc2)
  obtain ⟨b4, hb4⟩ : ∃ b4, w2.heap.size = b4 := ⟨_, rfl⟩
  obtain ⟨W2, hW2⟩ : ∃ W2, w2.alloc (.cells #[.int .i64 49] 3) = W2 := ⟨_, rfl⟩
  rw [hW2, hb1, hb4] at HK
  obtain ⟨c1, c4⟩ := HK.out.cells
  have K0 := Lib.hid HK.out.drew
  clear hr2 hc2 HA HN HB
  go_wp2_with fail
  clear hW2 hb4 hb1
  first | refine wp_region_noPanic ?_ | skip
  refine wp_region_U (n := 6) (S := (fun u : World => u.cell? ⟨b1, 0, none⟩ = some (.pointer (some ⟨g, 0, none⟩)) ∧ u.cell? ⟨b4, 0, none⟩ = some (.int .i64 49))) (by kernel_rfl) (by kernel_rfl) (⟨c1, c4⟩) (fun hHeld => ?_)
  refine wpAnyU_take (i := 0) (v := ?v34) rfl (by kernel_rfl) (by kernel_rfl) (by kernel_rfl) (by kernel_rfl) (fun _ _ _ h => h) (Or.inl ⟨by rfl, ?hy34⟩) (by assumption) ?rest34
  case hy34 => (intro w hSw; (try dsimp only at hSw); go_simp; try with_reducible rfl)
  try simp only [Act.put, List.getElem_toArray, List.getElem_cons_succ, List.getElem_cons_zero, List.setIfInBounds_toArray, List.set_cons_zero, List.set_cons_succ]
  refine wpAnyU_take (i := 1) (v := ?v35) rfl (by kernel_rfl) (by kernel_rfl) (by kernel_rfl) (by kernel_rfl) (fun _ _ _ h => h) (Or.inl ⟨by rfl, ?hy35⟩) (by assumption) ?rest35
  case hy35 => (intro w hSw; (try dsimp only at hSw); go_simp; try with_reducible rfl)
  try simp only [Act.put, List.getElem_toArray, List.getElem_cons_succ, List.getElem_cons_zero, List.setIfInBounds_toArray, List.set_cons_zero, List.set_cons_succ]
  refine wpAnyU_take (i := 3) (v := ?v36) rfl (by kernel_rfl) (by kernel_rfl) (by kernel_rfl) (by kernel_rfl) (fun _ _ _ h => h) (Or.inl ⟨by rfl, ?hy36⟩) (by assumption) ?rest36
  case hy36 => (intro w hSw; (try dsimp only at hSw); go_simp; try with_reducible rfl)
  try simp only [Act.put, List.getElem_toArray, List.getElem_cons_succ, List.getElem_cons_zero, List.setIfInBounds_toArray, List.set_cons_zero, List.set_cons_succ]
  refine wpAnyU_ready (i := 2) (by kernel_rfl) (by kernel_rfl) rfl (fun K hK => ?_)
  go_simp
  refine (((HN1.out _ _ (Lib.hid K0.out.rs)))).mono ?_
  rintro e w' ⟨rfl, hr, hc⟩
  go_wp2_with fail
  refine hK.out _ _ ((K0.out.rd hr hc).cells) (fun hHeld => ?_)
  clear hK K
  try simp only [Act.put, List.getElem_toArray, List.getElem_cons_succ, List.getElem_cons_zero, List.setIfInBounds_toArray, List.set_cons_zero, List.set_cons_succ]
  have K1 := Lib.hid (K0.out.rd hr hc)
  clear hr hc
  generalize numV l _ _ = x0
  refine wpAnyU_ready (i := 4) (by kernel_rfl) (by kernel_rfl) rfl (fun K hK => ?_)
  go_simp
  refine (((HD1.out _ _ (Lib.hid K1.out.rs)))).mono ?_
  rintro e w' ⟨A, n, c, rfl, hr, hc⟩
  go_wp2_with fail
  refine hK.out _ _ ((K1.out.rd hr hc).cells) (fun hHeld => ?_)
  clear hK K
  try simp only [Act.put, List.getElem_toArray, List.getElem_cons_succ, List.getElem_cons_zero, List.setIfInBounds_toArray, List.set_cons_zero, List.set_cons_succ]
  have K2 := Lib.hid (K1.out.rd hr hc)
  clear hr hc
  have HB := Lib.hid (HV.out x0 A n c w')
  have hst := run_blkStore K2.out.c2 HB.out.size HB.out.one
  have HE := Lib.hid (K2.out.made HB.out (fun k _ hk => hk.elim) rfl)
  have hbd1 := hbd x0 A n c
  clear hbd
  generalize bcs [(0, .int .i64 49), (8, .int .i64 x0), (12, .slice A n c)] = cs at *
  refine wpAnyU_take (i := 5) (v := ?v37) rfl (by kernel_rfl) (by kernel_rfl) (by kernel_rfl) (by kernel_rfl) (fun _ _ _ h => h) (Or.inl ⟨by rfl, ?hy37⟩) (by assumption) ?rest37
  case hy37 => (intro w hSw; (try dsimp only at hSw); go_simp; try with_reducible rfl)
  try simp only [Act.put, List.getElem_toArray, List.getElem_cons_succ, List.getElem_cons_zero, List.setIfInBounds_toArray, List.set_cons_zero, List.set_cons_succ]
  refine wpAnyU_tail rfl (by kernel_rfl) ?_
  simp only [List.drop_succ_cons, List.drop_zero]
  go_wp2_with fail
  refine NoPanic.normal ?_
  go_wp2_with fail
  exact bodyPost_ret (results_blk rfl _ HE.out.2 rfl) rfl HE.out.1
set_option maxHeartbeats 1200000 in
theorem block_52 (F : Nat → Prop) (w : World) (g : Nat) (l : List Int) (s : Rst) (h : RS F w g l s) (hF : ∀ i, F i → i < w.heap.size) (hl : l.length ≤ 1000000) (h8 : Hid (Byte8 l)) (hid : numV l s 1 = 52) :
    Calls Try.prog 38 #[.pointer (some ⟨g, 0, none⟩)] w (BlkE F w g l (takS l (takS l s 1) 8) 52) := by
  have HT8 := Lib.hid (fun u t (hr : Hid (RS F u g l t)) => take_any F u g l t hr hl 8 (Or.inr (by decide)))
  have hbd : ∀ (A : Option Addr) (n c : Nat) u, (blkBuild #[(0, .int .i64 52), (12, .slice A n c)]).run Try.prog u = .ok (.agg (bcs [(0, .int .i64 52), (12, .slice A n c)])) u := fun A n c u => run_build u _ _ _ (show Try.prog.built 30 [(0, .int .i64 52), (12, .slice A n c)] = some (bcs [(0, .int .i64 52), (12, .slice A n c)]) by kernel_rfl)
  have HV : Hid (∀ (A : Option Addr) (n c : Nat) u, BV (fun _ => False) u (bcs [(0, .int .i64 52), (12, .slice A n c)]) ⟨52, [], []⟩) := Lib.hid fun A n c u => bv_of (by kernel_rfl) (by kernel_rfl) (by kernel_rfl) (by kernel_rfl)
  have hal := run_blkAlloc
  have h0 : RS F ((w.alloc (.cells #[.pointer (some ⟨g, 0, none⟩)] 64)).alloc (.cells blkZ 30)) g l s := (h.below (bnew w _)).below (bnew _ _)
  have HA := Lib.hid (at_s F _ g l s (Lib.hid h0))
  have HN := Lib.hid (num_any F _ g l s (Lib.hid h0) hl 1 1 rfl (by decide) (by decide))
  rw [hid] at HN
  have HB := Lib.hid (fun u (hr : RS F u g l (takS l s 1)) hc => Bk.new (id := 52) h hF hr hc)
  have HF := Lib.hid hF
  obtain ⟨b1, hb1⟩ : ∃ b1, w.heap.size = b1 := ⟨_, rfl⟩
  clear h hF h0 hid
  go_enter Try.func38, Try.ntmps38
  go_wp2_with fail
  refine HA.out.mono ?_
  rintro x w1 ⟨rfl, rfl⟩
  go_wp2_with fail
  refine HN.out.mono ?_
  rintro x w2 ⟨rfl, hr2, hc2⟩
  have HK := Lib.hid (HB.out w2 hr2 hc2)
  obtain ⟨b4, hb4⟩ : ∃ b4, w2.heap.size = b4 := ⟨_, rfl⟩
  obtain ⟨W2, hW2⟩ : ∃ W2, w2.alloc (.cells #[.int .i64 52] 3) = W2 := ⟨_, rfl⟩
  rw [hW2, hb1, hb4] at HK
  obtain ⟨c1, c4⟩ := HK.out.cells
  have K0 := Lib.hid HK.out.drew
  clear hr2 hc2 HA HN HB
  go_wp2_with fail
  clear hW2 hb4 hb1
  first | refine wp_region_noPanic ?_ | skip
  refine wp_region_U (n := 4) (S := (fun u : World => u.cell? ⟨b1, 0, none⟩ = some (.pointer (some ⟨g, 0, none⟩)) ∧ u.cell? ⟨b4, 0, none⟩ = some (.int .i64 52))) (by kernel_rfl) (by kernel_rfl) (⟨c1, c4⟩) (fun hHeld => ?_)
  refine wpAnyU_take (i := 0) (v := ?v38) rfl (by kernel_rfl) (by kernel_rfl) (by kernel_rfl) (by kernel_rfl) (fun _ _ _ h => h) (Or.inl ⟨by rfl, ?hy38⟩) (by assumption) ?rest38
  case hy38 => (intro w hSw; (try dsimp only at hSw); go_simp; try with_reducible rfl)
  try simp only [Act.put, List.getElem_toArray, List.getElem_cons_succ, List.getElem_cons_zero, List.setIfInBounds_toArray, List.set_cons_zero, List.set_cons_succ]
  refine wpAnyU_take (i := 1) (v := ?v39) rfl (by kernel_rfl) (by kernel_rfl) (by kernel_rfl) (by kernel_rfl) (fun _ _ _ h => h) (Or.inl ⟨by rfl, ?hy39⟩) (by assumption) ?rest39
  case hy39 => (intro w hSw; (try dsimp only at hSw); go_simp; try with_reducible rfl)
  try simp only [Act.put, List.getElem_toArray, List.getElem_cons_succ, List.getElem_cons_zero, List.setIfInBounds_toArray, List.set_cons_zero, List.set_cons_succ]
  refine wpAnyU_ready (i := 2) (by kernel_rfl) (by kernel_rfl) rfl (fun K hK => ?_)
  go_simp
  refine (((HT8.out _ _ (Lib.hid K0.out.rs)))).mono ?_
  rintro e w' ⟨A, n, c, rfl, _, hr, hc⟩
  go_wp2_with fail
  refine hK.out _ _ ((K0.out.rd hr hc).cells) (fun hHeld => ?_)
  clear hK K
  try simp only [Act.put, List.getElem_toArray, List.getElem_cons_succ, List.getElem_cons_zero, List.setIfInBounds_toArray, List.set_cons_zero, List.set_cons_succ]
  have K1 := Lib.hid (K0.out.rd hr hc)
  clear hr hc
  have HB := Lib.hid (HV.out A n c w')
  have hst := run_blkStore K1.out.c2 HB.out.size HB.out.one
  have HE := Lib.hid (K1.out.made HB.out (fun k _ hk => hk.elim) rfl)
  have hbd1 := hbd A n c
  clear hbd
  generalize bcs [(0, .int .i64 52), (12, .slice A n c)] = cs at *
  refine wpAnyU_take (i := 3) (v := ?v40) rfl (by kernel_rfl) (by kernel_rfl) (by kernel_rfl) (by kernel_rfl) (fun _ _ _ h => h) (Or.inl ⟨by rfl, ?hy40⟩) (by assumption) ?rest40
  case hy40 => (intro w hSw; (try dsimp only at hSw); go_simp; try with_reducible rfl)
  try simp only [Act.put, List.getElem_toArray, List.getElem_cons_succ, List.getElem_cons_zero, List.setIfInBounds_toArray, List.set_cons_zero, List.set_cons_succ]
  refine wpAnyU_tail rfl (by kernel_rfl) ?_
  simp only [List.drop_succ_cons, List.drop_zero]
  go_wp2_with fail
  refine NoPanic.normal ?_
  go_wp2_with fail
  exact bodyPost_ret (results_blk rfl _ HE.out.2 rfl) rfl HE.out.1
set_option maxHeartbeats 1200000 in
theorem block_else (F : Nat → Prop) (w : World) (g : Nat) (l : List Int) (s : Rst) (h : RS F w g l s) (hF : ∀ i, F i → i < w.heap.size) (hl : l.length ≤ 1000000) (h8 : Hid (Byte8 l)) (id : Int) (hid : numV l s 1 = id) (e16 : id ≠ 16) (e17 : id ≠ 17) (e18 : id ≠ 18) (e19 : id ≠ 19) (e20 : id ≠ 20) (e21 : id ≠ 21) (e24 : id ≠ 24) (e25 : id ≠ 25) (e32 : id ≠ 32) (e33 : id ≠ 33) (e34 : id ≠ 34) (e35 : id ≠ 35) (e36 : id ≠ 36) (e37 : id ≠ 37) (e38 : id ≠ 38) (e39 : id ≠ 39) (e40 : id ≠ 40) (e42 : id ≠ 42) (e43 : id ≠ 43) (e48 : id ≠ 48) (e49 : id ≠ 49) (e50 : id ≠ 50) (e51 : id ≠ 51) (e52 : id ≠ 52) (e53 : id ≠ 53) (e90 : id ≠ 90) :
    Calls Try.prog 38 #[.pointer (some ⟨g, 0, none⟩)] w (BlkE F w g l (dataS l (takS l s 1) 4) id) := by
  have HD4 := Lib.hid (fun u t (hr : Hid (RS F u g l t)) => data_any F u g l t hr hl h8 4 4 rfl (by decide) (by decide))
  have hbd : ∀ (A : Option Addr) (n c : Nat) u, (blkBuild #[(0, .int .i64 id), (12, .slice A n c)]).run Try.prog u = .ok (.agg (bcs [(0, .int .i64 id), (12, .slice A n c)])) u := fun A n c u => run_build u _ _ _ (show Try.prog.built 30 [(0, .int .i64 id), (12, .slice A n c)] = some (bcs [(0, .int .i64 id), (12, .slice A n c)]) by kernel_rfl)
  have HV : Hid (∀ (A : Option Addr) (n c : Nat) u, BV (fun _ => False) u (bcs [(0, .int .i64 id), (12, .slice A n c)]) ⟨id, [], []⟩) := Lib.hid fun A n c u => bv_of (by kernel_rfl) (by kernel_rfl) (by kernel_rfl) (by kernel_rfl)
  have hal := run_blkAlloc
  have h0 : RS F ((w.alloc (.cells #[.pointer (some ⟨g, 0, none⟩)] 64)).alloc (.cells blkZ 30)) g l s := (h.below (bnew w _)).below (bnew _ _)
  have HA := Lib.hid (at_s F _ g l s (Lib.hid h0))
  have HN := Lib.hid (num_any F _ g l s (Lib.hid h0) hl 1 1 rfl (by decide) (by decide))
  rw [hid] at HN
  have HB := Lib.hid (fun u (hr : RS F u g l (takS l s 1)) hc => Bk.new (id := id) h hF hr hc)
  have HF := Lib.hid hF
  obtain ⟨b1, hb1⟩ : ∃ b1, w.heap.size = b1 := ⟨_, rfl⟩
  clear h hF h0 hid
  go_enter Try.func38, Try.ntmps38
  go_wp2_with fail
  refine HA.out.mono ?_
  rintro x w1 ⟨rfl, rfl⟩
  go_wp2_with fail
  refine HN.out.mono ?_
  rintro x w2 ⟨rfl, hr2, hc2⟩
  have HK := Lib.hid (HB.out w2 hr2 hc2)
  obtain ⟨b4, hb4⟩ : ∃ b4, w2.heap.size = b4 := ⟨_, rfl⟩
  obtain ⟨W2, hW2⟩ : ∃ W2, w2.alloc (.cells #[.int .i64 id] 3) = W2 := ⟨_, rfl⟩
  rw [hW2, hb1, hb4] at HK
  obtain ⟨c1, c4⟩ := HK.out.cells
  have K0 := Lib.hid HK.out.drew
  clear hr2 hc2 HA HN HB
  go_wp2_with fail
  clear hW2 hb4 hb1
  first | refine wp_region_noPanic ?_ | skip
  refine wp_region_U (n := 4) (S := (fun u : World => u.cell? ⟨b1, 0, none⟩ = some (.pointer (some ⟨g, 0, none⟩)) ∧ u.cell? ⟨b4, 0, none⟩ = some (.int .i64 id))) (by kernel_rfl) (by kernel_rfl) (⟨c1, c4⟩) (fun hHeld => ?_)
  refine wpAnyU_take (i := 0) (v := ?v41) rfl (by kernel_rfl) (by kernel_rfl) (by kernel_rfl) (by kernel_rfl) (fun _ _ _ h => h) (Or.inl ⟨by rfl, ?hy41⟩) (by assumption) ?rest41
  case hy41 => (intro w hSw; (try dsimp only at hSw); go_simp; try with_reducible rfl)
  try simp only [Act.put, List.getElem_toArray, List.getElem_cons_succ, List.getElem_cons_zero, List.setIfInBounds_toArray, List.set_cons_zero, List.set_cons_succ]
  refine wpAnyU_take (i := 1) (v := ?v42) rfl (by kernel_rfl) (by kernel_rfl) (by kernel_rfl) (by kernel_rfl) (fun _ _ _ h => h) (Or.inl ⟨by rfl, ?hy42⟩) (by assumption) ?rest42
  case hy42 => (intro w hSw; (try dsimp only at hSw); go_simp; try with_reducible rfl)
  try simp only [Act.put, List.getElem_toArray, List.getElem_cons_succ, List.getElem_cons_zero, List.setIfInBounds_toArray, List.set_cons_zero, List.set_cons_succ]
  refine wpAnyU_ready (i := 2) (by kernel_rfl) (by kernel_rfl) rfl (fun K hK => ?_)
  go_simp
  refine (((HD4.out _ _ (Lib.hid K0.out.rs)))).mono ?_
  rintro e w' ⟨A, n, c, rfl, hr, hc⟩
  go_wp2_with fail
  refine hK.out _ _ ((K0.out.rd hr hc).cells) (fun hHeld => ?_)
  clear hK K
  try simp only [Act.put, List.getElem_toArray, List.getElem_cons_succ, List.getElem_cons_zero, List.setIfInBounds_toArray, List.set_cons_zero, List.set_cons_succ]
  have K1 := Lib.hid (K0.out.rd hr hc)
  clear hr hc
  have HB := Lib.hid (HV.out A n c w')
  have hst := run_blkStore K1.out.c2 HB.out.size HB.out.one
  have HE := Lib.hid (K1.out.made HB.out (fun k _ hk => hk.elim) rfl)
  have hbd1 := hbd A n c
  clear hbd
  generalize bcs [(0, .int .i64 id), (12, .slice A n c)] = cs at *
  refine wpAnyU_take (i := 3) (v := ?v43) rfl (by kernel_rfl) (by kernel_rfl) (by kernel_rfl) (by kernel_rfl) (fun _ _ _ h => h) (Or.inl ⟨by rfl, ?hy43⟩) (by assumption) ?rest43
  case hy43 => (intro w hSw; (try dsimp only at hSw); go_simp; try with_reducible rfl)
  try simp only [Act.put, List.getElem_toArray, List.getElem_cons_succ, List.getElem_cons_zero, List.setIfInBounds_toArray, List.set_cons_zero, List.set_cons_succ]
  refine wpAnyU_tail rfl (by kernel_rfl) ?_
  simp only [List.drop_succ_cons, List.drop_zero]
  go_wp2_with fail
  refine NoPanic.normal ?_
  go_wp2_with fail
  exact bodyPost_ret (results_blk rfl _ HE.out.2 rfl) rfl HE.out.1

end Go.Proofs.Ythlaglhlmbkniaa
/- tzx.glueBlock: its contract. -/
namespace Go.Proofs.Ythlaglhlmbkniaa
open Go.RowKit
set_option linter.unusedVariables false
set_option linter.unusedSimpArgs false
set_option maxRecDepth 100000
attribute [local simp ↓ high] blkLoad_as blkStore_as blkAlloc_as blkBuild_as

theorem glu_eq (b : List Int) (hb : Byte8 b) (q : Bool) (hq : q = true ↔ b = gluL) : ((strOfNums b).toList == [88, 84, 97, 112, 101, 33, 26]) = q := by
  have e : (strOfNums gluL).toList = [88, 84, 97, 112, 101, 33, 26] := by rw [ByteArray.toList_eq]; rfl
  rw [← e]
  cases q with
  | true =>
    rw [hq.1 rfl]
    exact beq_self_eq_true _
  | false =>
    refine str_ne fun e2 => ?_
    have := hq.2 (str_one hb (byte8_of _ (by decide)) e2)
    cases this
set_option maxHeartbeats 3200000 in
theorem glue_any (F : Nat → Prop) (w : World) (g : Nat) (l : List Int) (s : Rst) (h : Hid (RS F w g l s)) (hF : Hid (∀ i, F i → i < w.heap.size)) (hl : l.length ≤ 1000000) (h8 : Hid (Byte8 l)) :
    Calls Try.prog 58 #[.pointer (some ⟨g, 0, none⟩)] w (BlkE F w g l (glueS l s) 90) := by
  have hal := run_blkAlloc
  have HA := Lib.hid (fun u t (hr : Hid (RS F u g l t)) => at_s F u g l t hr)
  have HTk := Lib.hid (fun u t (hr : Hid (RS F u g l t)) => take_any F u g l t hr hl 9 (Or.inr (by decide)))
  have e9 : Int.toNat 9 = 9 := rfl
  rw [e9] at HTk
  have HFl := Lib.hid (fun u t (P : Nat) (hr : Hid (RS F u g l t)) => fail_any F u g l t hr 3 (P : Nat) (by decide))
  have H0 := Lib.hid (R0.new h.out hF.out)
  have hbd : ∀ (A : Option Addr) (n c : Nat) u, (blkBuild #[(0, .int .i64 90), (12, .slice A n c)]).run Try.prog u = .ok (.agg (bcs [(0, .int .i64 90), (12, .slice A n c)])) u := fun A n c u => run_build u _ _ _ (show Try.prog.built 30 [(0, .int .i64 90), (12, .slice A n c)] = some _ by kernel_rfl)
  have HV : Hid (∀ (A : Option Addr) (n c : Nat) u, BV (fun _ => False) u (bcs [(0, .int .i64 90), (12, .slice A n c)]) ⟨90, [], []⟩) := Lib.hid fun A n c u => bv_of (by kernel_rfl) (by kernel_rfl) (by kernel_rfl) (by kernel_rfl)
  have HC12 : Hid (∀ (A : Option Addr) (n c : Nat), (bcs [(0, .int .i64 90), (12, .slice A n c)])[12]? = some (.slice A n c)) := Lib.hid fun A n c => by kernel_rfl
  obtain ⟨b2, hb2⟩ : ∃ b2, w.heap.size = b2 := ⟨_, rfl⟩
  rw [hb2] at H0
  obtain ⟨bs, hbs⟩ : ∃ bs, takB l s 9 = bs := ⟨_, rfl⟩
  have HG : Hid (glueS l s = if bs.length < 7 ∨ bs.take 7 ≠ gluL then failS (takS l s 9) 3 s.p else takS l s 9) := Lib.hid (by unfold glueS; rw [hbs])
  have HBS := Lib.hid hbs
  clear h hF hbs e9
  go_enter Try.func58, Try.ntmps58
  go_wp2_with fail
  clear hb2
  refine (HA.out _ _ (Lib.hid H0.out.rs)).mono ?_
  rintro x u0 ⟨rfl, rfl⟩
  go_wp2_with fail
  refine (HTk.out _ _ (Lib.hid H0.out.rs)).mono ?_
  rintro x u2 ⟨A, n, c, rfl, hB, hr, hc⟩
  rw [HBS.out] at hB
  have K2 := Lib.hid (H0.out.rd hr hc)
  have hst := run_blkStore (BIn.new u2 (cs := blkZ) rfl) (bcs_size _) (HV.out A n c w).one
  have K6 := Lib.hid (K2.out.var (bcs_size [(0, .int .i64 90), (12, .slice A n c)]))
  have hbel : Below u2.heap.size u2 ((u2.alloc (.cells blkZ 30)).setRow u2.heap.size (bcs [(0, .int .i64 90), (12, .slice A n c)])) := (bnew u2 _).trans (((BIn.new u2 (cs := blkZ) rfl).put (cs := bcs [(0, .int .i64 90), (12, .slice A n c)]) (bcs_size _)).2.below (fun k hk => by rw [hk]; exact Nat.le_refl _) (by simp))
  obtain ⟨W6, hW6⟩ : ∃ W6, (u2.alloc (.cells blkZ 30)).setRow u2.heap.size (bcs [(0, .int .i64 90), (12, .slice A n c)]) = W6 := ⟨_, rfl⟩
  obtain ⟨b3, hb3⟩ : ∃ b3, u2.heap.size = b3 := ⟨_, rfl⟩
  rw [hW6] at hst K6 hbel
  have hB6 := hB.below hbel
  rw [hb3] at hst K6
  have HB := Lib.hid (HV.out A n c)
  have c12 := K6.out.c3.cell (HC12.out A n c)
  have hbd1 := hbd A n c
  have hlen := hB.len
  have hfit := hB.fit
  have hmax := hB.max
  unfold maxLen at hmax
  clear hbd hr hc hW6 hB hbel
  generalize bcs [(0, .int .i64 90), (12, .slice A n c)] = cs at *
  have hld := run_blkLoad K6.out.c3.mid
  by_cases h7 : n < 7
  · have d : decide ((n : Int) < 7) = true := decide_eq_true (by omega)
    have d' : decide (n < 7) = true := decide_eq_true h7
    have HG2 : Hid (glueS l s = failS (takS l s 9) 3 s.p) := Lib.hid (by rw [HG.out, if_pos (Or.inl (by omega))])
    clear hB6 h7 hlen
    go_wp2_with fail
    clear hb3 hst hbd1 hld
    refine (HFl.out _ _ _ (Lib.hid K6.out.r0.rs)).mono ?_
    rintro x u7 ⟨rfl, hr, hc⟩
    have K7 := Lib.hid (K6.out.rd hr hc)
    clear hr hc c12
    have hld := run_blkLoad K7.out.c3.mid
    have hst := run_blkStore K7.out.r0.c2 (HB.out w).size (HB.out w).one
    have HE : Hid (BlkE F w g l (failS (takS l s 9) 3 s.p) 90 (.returned (.agg _)) _ ∧ BIn _ b2 _) := Lib.hid (K7.out.r0.made (HB.out _))
    have HE2 : Hid (BlkE F w g l (glueS l s) 90 (.returned (.agg _)) _ ∧ BIn _ b2 _) := Lib.hid (HG2.out ▸ HE.out)
    clear HE HG HG2
    go_wp2_with fail
    exact bodyPost_ret (results_blk rfl _ HE2.out.2 rfl) rfl HE2.out.1
  · have d : decide ((n : Int) < 7) = false := decide_eq_false (by omega)
    have d' : decide (n < 7) = false := decide_eq_false h7
    obtain ⟨A', c', hcut, hB7⟩ := cut_h hB6 7 7 rfl (by omega)
    have q7 := conv_of hB7
    have h87 := hB7.bd
    obtain ⟨T, hT⟩ : ∃ T, strOfNums (bs.take 7) = T := ⟨_, rfl⟩
    by_cases hq : bs.take 7 = gluL
    · have hg := glu_eq _ h87 true ⟨fun _ => hq, fun _ => rfl⟩
      rw [hT] at hg q7
      have HG2 : Hid (glueS l s = takS l s 9) := Lib.hid (by rw [HG.out, if_neg (fun x => x.elim (fun y => by omega) (fun y => y hq))])
      have hst2 := run_blkStore K6.out.r0.c2 (HB.out w).size (HB.out w).one
      have HE : Hid (BlkE F w g l (takS l s 9) 90 (.returned (.agg _)) _ ∧ BIn _ b2 _) := Lib.hid (K6.out.r0.made (HB.out _))
      have HE2 : Hid (BlkE F w g l (glueS l s) 90 (.returned (.agg _)) _ ∧ BIn _ b2 _) := Lib.hid (HG2.out ▸ HE.out)
      clear HE HG HG2 hB6 h7 hlen hB7 h87 hT hq
      go_wp2_with fail
      exact bodyPost_ret (results_blk rfl _ HE2.out.2 rfl) rfl HE2.out.1
    · have hg := glu_eq _ h87 false ⟨fun x => (by cases x), fun x => absurd x hq⟩
      rw [hT] at hg q7
      have HG2 : Hid (glueS l s = failS (takS l s 9) 3 s.p) := Lib.hid (by rw [HG.out, if_pos (Or.inr hq)])
      clear hB6 h7 hlen hB7 h87 hT hq
      go_wp2_with fail
      clear hb3 hst hbd1 hld
      refine (HFl.out _ _ _ (Lib.hid K6.out.r0.rs)).mono ?_
      rintro x u7 ⟨rfl, hr, hc⟩
      have K7 := Lib.hid (K6.out.rd hr hc)
      clear hr hc c12
      have hld := run_blkLoad K7.out.c3.mid
      have hst := run_blkStore K7.out.r0.c2 (HB.out w).size (HB.out w).one
      have HE : Hid (BlkE F w g l (failS (takS l s 9) 3 s.p) 90 (.returned (.agg _)) _ ∧ BIn _ b2 _) := Lib.hid (K7.out.r0.made (HB.out _))
      have HE2 : Hid (BlkE F w g l (glueS l s) 90 (.returned (.agg _)) _ ∧ BIn _ b2 _) := Lib.hid (HG2.out ▸ HE.out)
      clear HE HG HG2
      go_wp2_with fail
      exact bodyPost_ret (results_blk rfl _ HE2.out.2 rfl) rfl HE2.out.1

end Go.Proofs.Ythlaglhlmbkniaa
/- tzx.block, case by case: blocks of which another function reads the rest. -/
namespace Go.Proofs.Ythlaglhlmbkniaa
open Go.RowKit
set_option linter.unusedVariables false
set_option linter.unusedSimpArgs false
set_option maxRecDepth 100000
attribute [local simp ↓ high] blkLoad_as blkStore_as blkAlloc_as blkBuild_as

set_option maxHeartbeats 1200000 in
theorem block_17 (F : Nat → Prop) (w : World) (g : Nat) (l : List Int) (s : Rst) (h : RS F w g l s) (hF : ∀ i, F i → i < w.heap.size) (hl : l.length ≤ 1000000) (h8 : Hid (Byte8 l)) (hid : numV l s 1 = 17) :
    Calls Try.prog 38 #[.pointer (some ⟨g, 0, none⟩)] w (BlkE F w g l (turboS l (takS l s 1)) 17) := by
  have HT := Lib.hid (fun u t (hr : Hid (RS F u g l t)) hFu => turbo_any F u g l t hr hFu hl h8)
  have hal := run_blkAlloc
  have h0 : RS F ((w.alloc (.cells #[.pointer (some ⟨g, 0, none⟩)] 64)).alloc (.cells blkZ 30)) g l s := (h.below (bnew w _)).below (bnew _ _)
  have HA := Lib.hid (at_s F _ g l s (Lib.hid h0))
  have HN := Lib.hid (num_any F _ g l s (Lib.hid h0) hl 1 1 rfl (by decide) (by decide))
  rw [hid] at HN
  have HB := Lib.hid (fun u (hr : RS F u g l (takS l s 1)) hc => Bk.new (id := 17) h hF hr hc)
  have HF := Lib.hid hF
  obtain ⟨b1, hb1⟩ : ∃ b1, w.heap.size = b1 := ⟨_, rfl⟩
  clear h hF h0 hid
  go_enter Try.func38, Try.ntmps38
  go_wp2_with fail
  refine HA.out.mono ?_
  rintro x w1 ⟨rfl, rfl⟩
  go_wp2_with fail
  refine HN.out.mono ?_
  rintro x w2 ⟨rfl, hr2, hc2⟩
  have HK := Lib.hid (HB.out w2 hr2 hc2)
  obtain ⟨b4, hb4⟩ : ∃ b4, w2.heap.size = b4 := ⟨_, rfl⟩
  obtain ⟨W2, hW2⟩ : ∃ W2, w2.alloc (.cells #[.int .i64 17] 3) = W2 := ⟨_, rfl⟩
  rw [hW2, hb1, hb4] at HK
  obtain ⟨c1, c4⟩ := HK.out.cells
  have hF2 : Hid (∀ i, F i → i < W2.heap.size) := Lib.hid fun i hi => Nat.lt_of_lt_of_le (HF.out i hi) HK.out.ch.size
  have hG2 : Hid (∀ k, W2.heap.size ≤ k → w.heap.size ≤ k ∧ k ≠ b1 + 1) := Lib.hid fun k hk => by have h1 := HK.out.ch.size; have h2 := HK.out.c2.lt; omega
  have n1 : b1 ≠ g := by have h1 := HK.out.o1; have h2 := HK.out.o2; omega
  have n4 : b4 ≠ g := by have h1 := HK.out.o1; have h2 := HK.out.o2; have h3 := HK.out.o3; have h4 := HK.out.o4; omega
  clear hr2 hc2 HA HN HB
  go_wp2_with fail
  clear hW2 hb4 hb1
  refine (HT.out _ _ (Lib.hid HK.out.rs) hF2).mono ?_
  rintro x u2 ⟨cs, b, rfl, hid2, hv, hr, hc⟩
  have K1 := Lib.hid (HK.out.rd hr hc)
  have hst := run_blkStore K1.out.c2 hv.size hv.one
  have HE := Lib.hid (K1.out.made hv (fun k _ hk => hG2.out k hk) hid2)
  clear hid2 hv hr hc
  go_wp2_with fail
  exact bodyPost_ret (results_blk rfl _ HE.out.2 rfl) rfl HE.out.1
set_option maxHeartbeats 1200000 in
theorem block_24 (F : Nat → Prop) (w : World) (g : Nat) (l : List Int) (s : Rst) (h : RS F w g l s) (hF : ∀ i, F i → i < w.heap.size) (hl : l.length ≤ 1000000) (h8 : Hid (Byte8 l)) (hid : numV l s 1 = 24) :
    Calls Try.prog 38 #[.pointer (some ⟨g, 0, none⟩)] w (BlkE F w g l (packedS l s.p (takS l s 1)) 24) := by
  have HT := Lib.hid (fun u t (hr : Hid (RS F u g l t)) hFu => packed_any F u g l t hr hFu hl h8 s.p)
  have hal := run_blkAlloc
  have h0 : RS F ((w.alloc (.cells #[.pointer (some ⟨g, 0, none⟩)] 64)).alloc (.cells blkZ 30)) g l s := (h.below (bnew w _)).below (bnew _ _)
  have HA := Lib.hid (at_s F _ g l s (Lib.hid h0))
  have HN := Lib.hid (num_any F _ g l s (Lib.hid h0) hl 1 1 rfl (by decide) (by decide))
  rw [hid] at HN
  have HB := Lib.hid (fun u (hr : RS F u g l (takS l s 1)) hc => Bk.new (id := 24) h hF hr hc)
  have HF := Lib.hid hF
  obtain ⟨b1, hb1⟩ : ∃ b1, w.heap.size = b1 := ⟨_, rfl⟩
  clear h hF h0 hid
  go_enter Try.func38, Try.ntmps38
  go_wp2_with fail
  refine HA.out.mono ?_
  rintro x w1 ⟨rfl, rfl⟩
  go_wp2_with fail
  refine HN.out.mono ?_
  rintro x w2 ⟨rfl, hr2, hc2⟩
  have HK := Lib.hid (HB.out w2 hr2 hc2)
  obtain ⟨b4, hb4⟩ : ∃ b4, w2.heap.size = b4 := ⟨_, rfl⟩
  obtain ⟨W2, hW2⟩ : ∃ W2, w2.alloc (.cells #[.int .i64 24] 3) = W2 := ⟨_, rfl⟩
  rw [hW2, hb1, hb4] at HK
  obtain ⟨c1, c4⟩ := HK.out.cells
  have hF2 : Hid (∀ i, F i → i < W2.heap.size) := Lib.hid fun i hi => Nat.lt_of_lt_of_le (HF.out i hi) HK.out.ch.size
  have hG2 : Hid (∀ k, W2.heap.size ≤ k → w.heap.size ≤ k ∧ k ≠ b1 + 1) := Lib.hid fun k hk => by have h1 := HK.out.ch.size; have h2 := HK.out.c2.lt; omega
  have n1 : b1 ≠ g := by have h1 := HK.out.o1; have h2 := HK.out.o2; omega
  have n4 : b4 ≠ g := by have h1 := HK.out.o1; have h2 := HK.out.o2; have h3 := HK.out.o3; have h4 := HK.out.o4; omega
  clear hr2 hc2 HA HN HB
  go_wp2_with fail
  clear hW2 hb4 hb1
  refine (HT.out _ _ (Lib.hid HK.out.rs) hF2).mono ?_
  rintro x u2 ⟨cs, b, rfl, hid2, hv, hr, hc⟩
  have K1 := Lib.hid (HK.out.rd hr hc)
  have hst := run_blkStore K1.out.c2 hv.size hv.one
  have HE := Lib.hid (K1.out.made hv (fun k _ hk => hG2.out k hk) hid2)
  clear hid2 hv hr hc
  go_wp2_with fail
  exact bodyPost_ret (results_blk rfl _ HE.out.2 rfl) rfl HE.out.1
set_option maxHeartbeats 1200000 in
theorem block_43 (F : Nat → Prop) (w : World) (g : Nat) (l : List Int) (s : Rst) (h : RS F w g l s) (hF : ∀ i, F i → i < w.heap.size) (hl : l.length ≤ 1000000) (h8 : Hid (Byte8 l)) (hid : numV l s 1 = 43) :
    Calls Try.prog 38 #[.pointer (some ⟨g, 0, none⟩)] w (BlkE F w g l (levelS l (takS l s 1)) 43) := by
  have HT := Lib.hid (fun u t (hr : Hid (RS F u g l t)) hFu => level_any F u g l t hr hFu hl h8)
  have hal := run_blkAlloc
  have h0 : RS F ((w.alloc (.cells #[.pointer (some ⟨g, 0, none⟩)] 64)).alloc (.cells blkZ 30)) g l s := (h.below (bnew w _)).below (bnew _ _)
  have HA := Lib.hid (at_s F _ g l s (Lib.hid h0))
  have HN := Lib.hid (num_any F _ g l s (Lib.hid h0) hl 1 1 rfl (by decide) (by decide))
  rw [hid] at HN
  have HB := Lib.hid (fun u (hr : RS F u g l (takS l s 1)) hc => Bk.new (id := 43) h hF hr hc)
  have HF := Lib.hid hF
  obtain ⟨b1, hb1⟩ : ∃ b1, w.heap.size = b1 := ⟨_, rfl⟩
  clear h hF h0 hid
  go_enter Try.func38, Try.ntmps38
  go_wp2_with fail
  refine HA.out.mono ?_
  rintro x w1 ⟨rfl, rfl⟩
  go_wp2_with fail
  refine HN.out.mono ?_
  rintro x w2 ⟨rfl, hr2, hc2⟩
  have HK := Lib.hid (HB.out w2 hr2 hc2)
  obtain ⟨b4, hb4⟩ : ∃ b4, w2.heap.size = b4 := ⟨_, rfl⟩
  obtain ⟨W2, hW2⟩ : ∃ W2, w2.alloc (.cells #[.int .i64 43] 3) = W2 := ⟨_, rfl⟩
  rw [hW2, hb1, hb4] at HK
  obtain ⟨c1, c4⟩ := HK.out.cells
  have hF2 : Hid (∀ i, F i → i < W2.heap.size) := Lib.hid fun i hi => Nat.lt_of_lt_of_le (HF.out i hi) HK.out.ch.size
  have hG2 : Hid (∀ k, W2.heap.size ≤ k → w.heap.size ≤ k ∧ k ≠ b1 + 1) := Lib.hid fun k hk => by have h1 := HK.out.ch.size; have h2 := HK.out.c2.lt; omega
  have n1 : b1 ≠ g := by have h1 := HK.out.o1; have h2 := HK.out.o2; omega
  have n4 : b4 ≠ g := by have h1 := HK.out.o1; have h2 := HK.out.o2; have h3 := HK.out.o3; have h4 := HK.out.o4; omega
  clear hr2 hc2 HA HN HB
  go_wp2_with fail
  clear hW2 hb4 hb1
  refine (HT.out _ _ (Lib.hid HK.out.rs) hF2).mono ?_
  rintro x u2 ⟨cs, b, rfl, hid2, hv, hr, hc⟩
  have K1 := Lib.hid (HK.out.rd hr hc)
  have hst := run_blkStore K1.out.c2 hv.size hv.one
  have HE := Lib.hid (K1.out.made hv (fun k _ hk => hG2.out k hk) hid2)
  clear hid2 hv hr hc
  go_wp2_with fail
  exact bodyPost_ret (results_blk rfl _ HE.out.2 rfl) rfl HE.out.1
set_option maxHeartbeats 1200000 in
theorem block_90 (F : Nat → Prop) (w : World) (g : Nat) (l : List Int) (s : Rst) (h : RS F w g l s) (hF : ∀ i, F i → i < w.heap.size) (hl : l.length ≤ 1000000) (h8 : Hid (Byte8 l)) (hid : numV l s 1 = 90) :
    Calls Try.prog 38 #[.pointer (some ⟨g, 0, none⟩)] w (BlkE F w g l (glueS l (takS l s 1)) 90) := by
  have HT := Lib.hid (fun u t (hr : Hid (RS F u g l t)) hFu => glue_any F u g l t hr hFu hl h8)
  have hal := run_blkAlloc
  have h0 : RS F ((w.alloc (.cells #[.pointer (some ⟨g, 0, none⟩)] 64)).alloc (.cells blkZ 30)) g l s := (h.below (bnew w _)).below (bnew _ _)
  have HA := Lib.hid (at_s F _ g l s (Lib.hid h0))
  have HN := Lib.hid (num_any F _ g l s (Lib.hid h0) hl 1 1 rfl (by decide) (by decide))
  rw [hid] at HN
  have HB := Lib.hid (fun u (hr : RS F u g l (takS l s 1)) hc => Bk.new (id := 90) h hF hr hc)
  have HF := Lib.hid hF
  obtain ⟨b1, hb1⟩ : ∃ b1, w.heap.size = b1 := ⟨_, rfl⟩
  clear h hF h0 hid
  go_enter Try.func38, Try.ntmps38
  go_wp2_with fail
  refine HA.out.mono ?_
  rintro x w1 ⟨rfl, rfl⟩
  go_wp2_with fail
  refine HN.out.mono ?_
  rintro x w2 ⟨rfl, hr2, hc2⟩
  have HK := Lib.hid (HB.out w2 hr2 hc2)
  obtain ⟨b4, hb4⟩ : ∃ b4, w2.heap.size = b4 := ⟨_, rfl⟩
  obtain ⟨W2, hW2⟩ : ∃ W2, w2.alloc (.cells #[.int .i64 90] 3) = W2 := ⟨_, rfl⟩
  rw [hW2, hb1, hb4] at HK
  obtain ⟨c1, c4⟩ := HK.out.cells
  have hF2 : Hid (∀ i, F i → i < W2.heap.size) := Lib.hid fun i hi => Nat.lt_of_lt_of_le (HF.out i hi) HK.out.ch.size
  have hG2 : Hid (∀ k, W2.heap.size ≤ k → w.heap.size ≤ k ∧ k ≠ b1 + 1) := Lib.hid fun k hk => by have h1 := HK.out.ch.size; have h2 := HK.out.c2.lt; omega
  have n1 : b1 ≠ g := by have h1 := HK.out.o1; have h2 := HK.out.o2; omega
  have n4 : b4 ≠ g := by have h1 := HK.out.o1; have h2 := HK.out.o2; have h3 := HK.out.o3; have h4 := HK.out.o4; omega
  clear hr2 hc2 HA HN HB
  go_wp2_with fail
  clear hW2 hb4 hb1
  refine (HT.out _ _ (Lib.hid HK.out.rs) hF2).mono ?_
  rintro x u2 ⟨cs, b, rfl, hid2, hv, hr, hc⟩
  have K1 := Lib.hid (HK.out.rd hr hc)
  have hst := run_blkStore K1.out.c2 hv.size hv.one
  have HE := Lib.hid (K1.out.made hv (fun k _ hk => hG2.out k hk) hid2)
  clear hid2 hv hr hc
  go_wp2_with fail
  exact bodyPost_ret (results_blk rfl _ HE.out.2 rfl) rfl HE.out.1
set_option maxHeartbeats 1200000 in
theorem block_42 (F : Nat → Prop) (w : World) (g : Nat) (l : List Int) (s : Rst) (h : RS F w g l s) (hF : ∀ i, F i → i < w.heap.size) (hl : l.length ≤ 1000000) (h8 : Hid (Byte8 l)) (hid : numV l s 1 = 42) :
    Calls Try.prog 38 #[.pointer (some ⟨g, 0, none⟩)] w (BlkE F w g l (onlyS l (takS l s 1) 0) 42) := by
  have HT := Lib.hid (fun u t (hr : Hid (RS F u g l t)) => only_any F u g l t hr hl 0)
  have hbd : ∀ u, (blkBuild #[(0, .int .i64 42)]).run Try.prog u = .ok (.agg (bcs [(0, .int .i64 42)])) u := fun u => run_build u _ _ _ (show Try.prog.built 30 [(0, .int .i64 42)] = some (bcs [(0, .int .i64 42)]) by kernel_rfl)
  have HV : Hid (∀ u, BV (fun _ => False) u (bcs [(0, .int .i64 42)]) ⟨42, [], []⟩) := Lib.hid fun u => bv_of (by kernel_rfl) (by kernel_rfl) (by kernel_rfl) (by kernel_rfl)
  have hal := run_blkAlloc
  have h0 : RS F ((w.alloc (.cells #[.pointer (some ⟨g, 0, none⟩)] 64)).alloc (.cells blkZ 30)) g l s := (h.below (bnew w _)).below (bnew _ _)
  have HA := Lib.hid (at_s F _ g l s (Lib.hid h0))
  have HN := Lib.hid (num_any F _ g l s (Lib.hid h0) hl 1 1 rfl (by decide) (by decide))
  rw [hid] at HN
  have HB := Lib.hid (fun u (hr : RS F u g l (takS l s 1)) hc => Bk.new (id := 42) h hF hr hc)
  have HF := Lib.hid hF
  obtain ⟨b1, hb1⟩ : ∃ b1, w.heap.size = b1 := ⟨_, rfl⟩
  clear h hF h0 hid
  go_enter Try.func38, Try.ntmps38
  go_wp2_with fail
  refine HA.out.mono ?_
  rintro x w1 ⟨rfl, rfl⟩
  go_wp2_with fail
  refine HN.out.mono ?_
  rintro x w2 ⟨rfl, hr2, hc2⟩
  have HK := Lib.hid (HB.out w2 hr2 hc2)
  obtain ⟨b4, hb4⟩ : ∃ b4, w2.heap.size = b4 := ⟨_, rfl⟩
  obtain ⟨W2, hW2⟩ : ∃ W2, w2.alloc (.cells #[.int .i64 42] 3) = W2 := ⟨_, rfl⟩
  rw [hW2, hb1, hb4] at HK
  obtain ⟨c1, c4⟩ := HK.out.cells
  have hF2 : Hid (∀ i, F i → i < W2.heap.size) := Lib.hid fun i hi => Nat.lt_of_lt_of_le (HF.out i hi) HK.out.ch.size
  have hG2 : Hid (∀ k, W2.heap.size ≤ k → w.heap.size ≤ k ∧ k ≠ b1 + 1) := Lib.hid fun k hk => by have h1 := HK.out.ch.size; have h2 := HK.out.c2.lt; omega
  have n1 : b1 ≠ g := by have h1 := HK.out.o1; have h2 := HK.out.o2; omega
  have n4 : b4 ≠ g := by have h1 := HK.out.o1; have h2 := HK.out.o2; have h3 := HK.out.o3; have h4 := HK.out.o4; omega
  clear hr2 hc2 HA HN HB
  go_wp2_with fail
  clear hW2 hb4 hb1
  refine (HT.out _ _ (Lib.hid HK.out.rs)).mono ?_
  rintro x u2 ⟨rfl, hr, hc⟩
  have K1 := Lib.hid (HK.out.rd hr hc)
  clear c1 c4
  obtain ⟨c1, c4⟩ := K1.out.cells
  have HB := Lib.hid (HV.out u2)
  have hst := run_blkStore K1.out.c2 HB.out.size HB.out.one
  have HE := Lib.hid (K1.out.made HB.out (fun k _ hk => hk.elim) rfl)
  clear hr hc
  go_wp2_with fail
  exact bodyPost_ret (results_blk rfl _ HE.out.2 rfl) rfl HE.out.1
set_option maxHeartbeats 1200000 in
theorem block_25 (F : Nat → Prop) (w : World) (g : Nat) (l : List Int) (s : Rst) (h : RS F w g l s) (hF : ∀ i, F i → i < w.heap.size) (hl : l.length ≤ 1000000) (h8 : Hid (Byte8 l)) (hid : numV l s 1 = 25) :
    Calls Try.prog 38 #[.pointer (some ⟨g, 0, none⟩)] w (BlkE F w g l (measS' l (generalS l) s.p (takS l s 1) 4) 25) := by
  have hmf : ∀ (fn : Fn) (first cap : Array Value) (w : World), (Instr.makeFunc fn first cap).run Try.prog w = .ok (.func fn first cap) w := fun _ _ _ _ => rfl
  have hal := run_blkAlloc
  have h0 : RS F ((w.alloc (.cells #[.pointer (some ⟨g, 0, none⟩)] 64)).alloc (.cells blkZ 30)) g l s := (h.below (bnew w _)).below (bnew _ _)
  have HA := Lib.hid (at_s F _ g l s (Lib.hid h0))
  have HN := Lib.hid (num_any F _ g l s (Lib.hid h0) hl 1 1 rfl (by decide) (by decide))
  rw [hid] at HN
  have HB := Lib.hid (fun u (hr : RS F u g l (takS l s 1)) hc => Bk.new (id := 25) h hF hr hc)
  have HF := Lib.hid hF
  obtain ⟨b1, hb1⟩ : ∃ b1, w.heap.size = b1 := ⟨_, rfl⟩
  clear h hF h0 hid
  go_enter Try.func38, Try.ntmps38
  go_wp2_with fail
  refine HA.out.mono ?_
  rintro x w1 ⟨rfl, rfl⟩
  go_wp2_with fail
  refine HN.out.mono ?_
  rintro x w2 ⟨rfl, hr2, hc2⟩
  have HK := Lib.hid (HB.out w2 hr2 hc2)
  obtain ⟨b4, hb4⟩ : ∃ b4, w2.heap.size = b4 := ⟨_, rfl⟩
  obtain ⟨W2, hW2⟩ : ∃ W2, w2.alloc (.cells #[.int .i64 25] 3) = W2 := ⟨_, rfl⟩
  rw [hW2, hb1, hb4] at HK
  obtain ⟨c1, c4⟩ := HK.out.cells
  have hF2 : Hid (∀ i, F i → i < W2.heap.size) := Lib.hid fun i hi => Nat.lt_of_lt_of_le (HF.out i hi) HK.out.ch.size
  have hG2 : Hid (∀ k, W2.heap.size ≤ k → w.heap.size ≤ k ∧ k ≠ b1 + 1) := Lib.hid fun k hk => by have h1 := HK.out.ch.size; have h2 := HK.out.c2.lt; omega
  have n1 : b1 ≠ g := by have h1 := HK.out.o1; have h2 := HK.out.o2; omega
  have n4 : b4 ≠ g := by have h1 := HK.out.o1; have h2 := HK.out.o2; have h3 := HK.out.o3; have h4 := HK.out.o4; omega
  clear hr2 hc2 HA HN HB
  have HM := Lib.hid (meas_g F W2 g l (takS l s 1) (generalS l) s.p 4 4 rfl (by decide) (by decide) 25 (.pointer (some ⟨b1, 0, none⟩)) (Lib.hid HK.out.rs) hF2 hl (Lib.hid fun u t hr hch => clos_g F u g l t b1 hr (Lib.hid fun i hi => Nat.lt_of_lt_of_le (hF2.out i hi) hch.out.size) hl h8 (cell_rd hch.out c1 n1)))
  go_wp2_with fail
  clear hW2 hb4 hb1
  refine HM.out.mono ?_
  rintro x u2 ⟨cs, b, rfl, hid2, hv, hr, hc⟩
  have K1 := Lib.hid (HK.out.rd hr hc)
  have hst := run_blkStore K1.out.c2 hv.size hv.one
  have HE := Lib.hid (K1.out.made hv (fun k _ hk => hG2.out k hk) hid2)
  clear hid2 hv hr hc
  go_wp2_with fail
  exact bodyPost_ret (results_blk rfl _ HE.out.2 rfl) rfl HE.out.1
set_option maxHeartbeats 1200000 in
theorem block_40 (F : Nat → Prop) (w : World) (g : Nat) (l : List Int) (s : Rst) (h : RS F w g l s) (hF : ∀ i, F i → i < w.heap.size) (hl : l.length ≤ 1000000) (h8 : Hid (Byte8 l)) (hid : numV l s 1 = 40) :
    Calls Try.prog 38 #[.pointer (some ⟨g, 0, none⟩)] w (BlkE F w g l (measS' l (itemsS l fun t => takS l t 2) s.p (takS l s 1) 2) 40) := by
  have hmf : ∀ (fn : Fn) (first cap : Array Value) (w : World), (Instr.makeFunc fn first cap).run Try.prog w = .ok (.func fn first cap) w := fun _ _ _ _ => rfl
  have hal := run_blkAlloc
  have h0 : RS F ((w.alloc (.cells #[.pointer (some ⟨g, 0, none⟩)] 64)).alloc (.cells blkZ 30)) g l s := (h.below (bnew w _)).below (bnew _ _)
  have HA := Lib.hid (at_s F _ g l s (Lib.hid h0))
  have HN := Lib.hid (num_any F _ g l s (Lib.hid h0) hl 1 1 rfl (by decide) (by decide))
  rw [hid] at HN
  have HB := Lib.hid (fun u (hr : RS F u g l (takS l s 1)) hc => Bk.new (id := 40) h hF hr hc)
  have HF := Lib.hid hF
  obtain ⟨b1, hb1⟩ : ∃ b1, w.heap.size = b1 := ⟨_, rfl⟩
  clear h hF h0 hid
  go_enter Try.func38, Try.ntmps38
  go_wp2_with fail
  refine HA.out.mono ?_
  rintro x w1 ⟨rfl, rfl⟩
  go_wp2_with fail
  refine HN.out.mono ?_
  rintro x w2 ⟨rfl, hr2, hc2⟩
  have HK := Lib.hid (HB.out w2 hr2 hc2)
  obtain ⟨b4, hb4⟩ : ∃ b4, w2.heap.size = b4 := ⟨_, rfl⟩
  obtain ⟨W2, hW2⟩ : ∃ W2, w2.alloc (.cells #[.int .i64 40] 3) = W2 := ⟨_, rfl⟩
  rw [hW2, hb1, hb4] at HK
  obtain ⟨c1, c4⟩ := HK.out.cells
  have hF2 : Hid (∀ i, F i → i < W2.heap.size) := Lib.hid fun i hi => Nat.lt_of_lt_of_le (HF.out i hi) HK.out.ch.size
  have hG2 : Hid (∀ k, W2.heap.size ≤ k → w.heap.size ≤ k ∧ k ≠ b1 + 1) := Lib.hid fun k hk => by have h1 := HK.out.ch.size; have h2 := HK.out.c2.lt; omega
  have n1 : b1 ≠ g := by have h1 := HK.out.o1; have h2 := HK.out.o2; omega
  have n4 : b4 ≠ g := by have h1 := HK.out.o1; have h2 := HK.out.o2; have h3 := HK.out.o3; have h4 := HK.out.o4; omega
  clear hr2 hc2 HA HN HB
  have HM := Lib.hid (meas_c F W2 g l (takS l s 1) (itemsS l fun t => takS l t 2) s.p 2 2 rfl (by decide) (by decide) 40 (.pointer (some ⟨b4, 0, none⟩)) (.pointer (some ⟨b1, 0, none⟩)) (Lib.hid HK.out.rs) hF2 hl (Lib.hid fun u t hr hch => clos_c F u g l t b4 b1 40 hr (Lib.hid fun i hi => Nat.lt_of_lt_of_le (hF2.out i hi) hch.out.size) hl h8 (cell_rd hch.out c4 n4) (cell_rd hch.out c1 n1) n4 n1))
  go_wp2_with fail
  clear hW2 hb4 hb1
  refine HM.out.mono ?_
  rintro x u2 ⟨cs, b, rfl, hid2, hv, hr, hc⟩
  have K1 := Lib.hid (HK.out.rd hr hc)
  have hst := run_blkStore K1.out.c2 hv.size hv.one
  have HE := Lib.hid (K1.out.made hv (fun k _ hk => hG2.out k hk) hid2)
  clear hid2 hv hr hc
  go_wp2_with fail
  exact bodyPost_ret (results_blk rfl _ HE.out.2 rfl) rfl HE.out.1
theorem run_store_func (P : Program) (w : World) (a : Addr) (m : Mode) (fn : Fn) (first cap : Array Value) : (store a (.func fn first cap) m).run P w = stored P w a (.func fn first cap) m := run_store P w a _ m rfl
attribute [local simp] run_store_func
set_option maxHeartbeats 1200000 in
theorem block_50 (F : Nat → Prop) (w : World) (g : Nat) (l : List Int) (s : Rst) (h : RS F w g l s) (hF : ∀ i, F i → i < w.heap.size) (hl : l.length ≤ 1000000) (h8 : Hid (Byte8 l)) (hid : numV l s 1 = 50) :
    Calls Try.prog 38 #[.pointer (some ⟨g, 0, none⟩)] w (BlkE F w g l (measS' l (itemsS l fun t => takS l t 1) s.p (takS l s 1) 2) 50) := by
  have hmf : ∀ (fn : Fn) (first cap : Array Value) (w : World), (Instr.makeFunc fn first cap).run Try.prog w = .ok (.func fn first cap) w := fun _ _ _ _ => rfl
  have hal := run_blkAlloc
  have h0 : RS F ((w.alloc (.cells #[.pointer (some ⟨g, 0, none⟩)] 64)).alloc (.cells blkZ 30)) g l s := (h.below (bnew w _)).below (bnew _ _)
  have HA := Lib.hid (at_s F _ g l s (Lib.hid h0))
  have HN := Lib.hid (num_any F _ g l s (Lib.hid h0) hl 1 1 rfl (by decide) (by decide))
  rw [hid] at HN
  have HB := Lib.hid (fun u (hr : RS F u g l (takS l s 1)) hc => Bk.new (id := 50) h hF hr hc)
  have HF := Lib.hid hF
  obtain ⟨b1, hb1⟩ : ∃ b1, w.heap.size = b1 := ⟨_, rfl⟩
  clear h hF h0 hid
  go_enter Try.func38, Try.ntmps38
  go_wp2_with fail
  refine HA.out.mono ?_
  rintro x w1 ⟨rfl, rfl⟩
  go_wp2_with fail
  refine HN.out.mono ?_
  rintro x w2 ⟨rfl, hr2, hc2⟩
  have HK := Lib.hid (HB.out w2 hr2 hc2)
  obtain ⟨b4, hb4⟩ : ∃ b4, w2.heap.size = b4 := ⟨_, rfl⟩
  obtain ⟨W2, hW2⟩ : ∃ W2, w2.alloc (.cells #[.int .i64 50] 3) = W2 := ⟨_, rfl⟩
  rw [hW2, hb1, hb4] at HK
  obtain ⟨c1, c4⟩ := HK.out.cells
  have hF2 : Hid (∀ i, F i → i < W2.heap.size) := Lib.hid fun i hi => Nat.lt_of_lt_of_le (HF.out i hi) HK.out.ch.size
  have hG2 : Hid (∀ k, W2.heap.size ≤ k → w.heap.size ≤ k ∧ k ≠ b1 + 1) := Lib.hid fun k hk => by have h1 := HK.out.ch.size; have h2 := HK.out.c2.lt; omega
  have n1 : b1 ≠ g := by have h1 := HK.out.o1; have h2 := HK.out.o2; omega
  have n4 : b4 ≠ g := by have h1 := HK.out.o1; have h2 := HK.out.o2; have h3 := HK.out.o3; have h4 := HK.out.o4; omega
  clear hr2 hc2 HA HN HB
  have hb5 := bnew W2 (.cells #[.func (.func 56) #[] #[.pointer (some ⟨b1, 0, none⟩)]] 79)
  have HK5 := Lib.hid (HK.out.below hb5)
  have c5 : (W2.alloc (.cells #[.func (.func 56) #[] #[.pointer (some ⟨b1, 0, none⟩)]] 79)).cell? ⟨W2.heap.size, 0, none⟩ = some (.func (.func 56) #[] #[.pointer (some ⟨b1, 0, none⟩)]) := cell_of_row _ _ 0 _ _ (0, 0) (heap_alloc_new W2 _)
  have n5 : W2.heap.size ≠ g := by have h1 := HK.out.rs.lt; omega
  obtain ⟨W5, hW5⟩ : ∃ W5, W2.alloc (.cells #[.func (.func 56) #[] #[.pointer (some ⟨b1, 0, none⟩)]] 79) = W5 := ⟨_, rfl⟩
  rw [hW5] at HK5 c5
  obtain ⟨c15, c45⟩ := HK5.out.cells
  have hF5 : Hid (∀ i, F i → i < W5.heap.size) := Lib.hid fun i hi => Nat.lt_of_lt_of_le (HF.out i hi) HK5.out.ch.size
  have hG5 : Hid (∀ k, W5.heap.size ≤ k → w.heap.size ≤ k ∧ k ≠ b1 + 1) := Lib.hid fun k hk => by have h1 := HK5.out.ch.size; have h2 := HK5.out.c2.lt; omega
  have HM := Lib.hid (meas_a F W5 g l (takS l s 1) (itemsS l fun t => takS l t 1) s.p 2 2 rfl (by decide) (by decide) 50 (.pointer (some ⟨b4, 0, none⟩)) (.pointer (some ⟨b1, 0, none⟩)) (.pointer (some ⟨W2.heap.size, 0, none⟩)) (Lib.hid HK5.out.rs) hF5 hl (Lib.hid fun u t hr hch => clos_a F u g l t b4 b1 W2.heap.size 50 hr (Lib.hid fun i hi => Nat.lt_of_lt_of_le (hF5.out i hi) hch.out.size) hl h8 (cell_rd hch.out c45 n4) (cell_rd hch.out c15 n1) (cell_rd hch.out c5 n5) n5 n4 n1))
  have cz5 : (W2.alloc (.cells #[.nilFunc] 79)).cell? ⟨W2.heap.size, 0, none⟩ = some .nilFunc := cell_of_row _ _ 0 _ _ (0, 0) (heap_alloc_new W2 _)
  have fz5 : (W2.alloc (.cells #[.nilFunc] 79)).frozen? ⟨W2.heap.size, 0, none⟩ = false := frozen_of_row _ _ 0 _ _ (heap_alloc_new W2 _)
  clear hb5
  go_wp2_with fail
  clear hW2 hb4 hb1 hW5
  refine HM.out.mono ?_
  rintro x u2 ⟨cs, b, rfl, hid2, hv, hr, hc⟩
  have K1 := Lib.hid (HK5.out.rd hr hc)
  have hst := run_blkStore K1.out.c2 hv.size hv.one
  have HE := Lib.hid (K1.out.made hv (fun k _ hk => hG5.out k hk) hid2)
  clear hid2 hv hr hc
  go_wp2_with fail
  exact bodyPost_ret (results_blk rfl _ HE.out.2 rfl) rfl HE.out.1

end Go.Proofs.Ythlaglhlmbkniaa
