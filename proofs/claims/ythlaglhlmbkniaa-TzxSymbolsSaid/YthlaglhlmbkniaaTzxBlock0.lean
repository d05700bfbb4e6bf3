/- tzx.block: blocks that have an ID alone. -/
import Derived.Test.YthlaglhlmbkniaaTzxBk
namespace Go.Proofs.Ythlaglhlmbkniaa
open Go.RowKit
set_option linter.unusedVariables false
set_option linter.unusedSimpArgs false
set_option maxRecDepth 100000
attribute [local simp ↓ high] blkLoad_as blkStore_as blkAlloc_as blkBuild_as

set_option maxHeartbeats 3200000 in
theorem block_0 (F : Nat → Prop) (w : World) (g : Nat) (l : List Int) (s : Rst) (h : RS F w g l s) (hF : ∀ i, F i → i < w.heap.size) (hl : l.length ≤ 1000000) (id : Int) (hid : numV l s 1 = id) (hi : id = 34 ∨ id = 37 ∨ id = 39) :
    Calls Try.prog 38 #[.pointer (some ⟨g, 0, none⟩)] w (BlkE F w g l (takS l s 1) id) := by
  have hal := run_blkAlloc
  have h0 : RS F ((w.alloc (.cells #[.pointer (some ⟨g, 0, none⟩)] 64)).alloc (.cells blkZ 30)) g l s := (h.below (bnew w _)).below (bnew _ _)
  have HA := Lib.hid (at_s F _ g l s (Lib.hid h0))
  have HN := Lib.hid (num_any F _ g l s (Lib.hid h0) hl 1 1 rfl (by decide) (by decide))
  rw [hid] at HN
  have HB := Lib.hid (fun u (hr : RS F u g l (takS l s 1)) hc => Bk.new (id := id) h hF hr hc)
  have hbd : ∀ u, (blkBuild #[(0, .int .i64 id)]).run Try.prog u = .ok (.agg (bcs [(0, .int .i64 id)])) u := fun u => run_build u _ _ _ (show Try.prog.built 30 [(0, .int .i64 id)] = some (bcs [(0, .int .i64 id)]) by kernel_rfl)
  have HV : Hid (∀ u, BV (fun _ => False) u (bcs [(0, .int .i64 id)]) ⟨id, [], []⟩) := Lib.hid fun u => bv_of (by kernel_rfl) (by kernel_rfl) (by kernel_rfl) (by kernel_rfl)
  clear h hF h0 hid
  rcases hi with rfl | rfl | rfl
  all_goals
    go_enter Try.func38, Try.ntmps38
    go_wp2_with fail
    refine HA.out.mono ?_
    rintro x w1 ⟨rfl, rfl⟩
    go_wp2_with fail
    refine HN.out.mono ?_
    rintro x w2 ⟨rfl, hr2, hc2⟩
    have HK := Lib.hid (HB.out w2 hr2 hc2)
    obtain ⟨c1, c4⟩ := HK.out.cells
    have hst := run_blkStore HK.out.c2 (HV.out w2).size (HV.out w2).one
    have HE := Lib.hid (HK.out.made (HV.out _) (fun k _ hk => hk.elim) rfl)
    clear hr2 hc2
    go_wp2_with fail
    exact bodyPost_ret (results_blk rfl _ HE.out.2 rfl) rfl HE.out.1

end Go.Proofs.Ythlaglhlmbkniaa
