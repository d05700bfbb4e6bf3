/- Blocks as a tape. -/
import Derived.Test.YtcodbcfdbkmegaaTapBlks
namespace Go.Proofs.Ytcodbcfdbkmegaa
open Go.RowKit
set_option linter.unusedVariables false
set_option linter.unusedSimpArgs false

attribute [local simp ↓ high] blk_as
attribute [local simp] fold18
set_option maxRecDepth 100000 in
set_option maxHeartbeats 3200000 in
theorem tape_yes (F : Nat → Prop) (A : Option Addr) (n cap : Nat) (L : List (List Int)) (w : World) (hl : Parts F w A n cap L) (hF : FitsP L) : Calls Try.prog 13 #[.slice A n cap] w (Taped w L) := by
  have hlen := hl.len
  have hf := hl.fit
  have hm := hl.max
  unfold maxLen at hm
  have HL := Lib.hid hl
  have HP := Lib.hid hF
  have hn4 : n ≤ 4096 := by rw [← hlen]; exact hF.1
  have H := Lib.hid (fun (u : World) (hu : Below w.heap.size w u) => fits_any F A n cap L true u (hl.below hu) ⟨fun _ => hF, fun _ => rfl⟩)
  have H0 := Lib.hid (H.out _ (bnew w (.cells #[.int .i64 0, .int .i64 0, .slice none 0 0] 40)))
  obtain ⟨g0, hg0⟩ : ∃ g0, w.heap.size = g0 := ⟨_, rfl⟩
  obtain ⟨g, hg⟩ : ∃ g, g0 + 1 = g := ⟨_, rfl⟩
  have HS : Hid (Tp w ((w.alloc (.cells #[.int .i64 0, .int .i64 0, .slice none 0 0] 40)).alloc (.cells #[.int .i64 1, .int .i64 20, .slice none 0 0] 40)) g0 g L 0 none 0) := Lib.hid (by
    subst hg hg0
    refine ⟨?_, ?_, ⟨by simp, Nat.le_refl _, Nat.zero_le _, by simp, [], World.ownsRow_nil _ _ _ _, fun j hj => absurd hj (by omega)⟩, (bnew w _).alloc (by simp) _, rfl, rfl⟩
    · exact ((bnew (w.alloc _) _).block w.heap.size (by simp)).trans (heap_alloc_new w _)
    · have := heap_alloc_new (w.alloc (.cells #[.int .i64 0, .int .i64 0, .slice none 0 0] 40)) (.cells #[.int .i64 1, .int .i64 20, .slice none 0 0] 40)
      simpa using this)
  clear hl hF H
  go_enter Try.func13, Try.ntmps13
  go_wp2_with fail
  refine (H0.out).mono ?_
  rintro e w' ⟨rfl, rfl⟩
  go_wp2_with fail
  go_loopw [14] (fun i wr => ∃ (k : Nat) (B : Option Addr) (c : Nat), i = .int .i64 k ∧ k ≤ n ∧ Hid (Tp w wr g0 g L k B c)) (fun i _ => n - (intOf i).toNat)
  case atStart => exact ⟨0, none, 0, rfl, by omega, HS⟩
  case round =>
    obtain ⟨k, B, c, rfl, hk, HT⟩ := hrel
    by_cases hlt : k < n
    · obtain ⟨b, o, Aj, cj, rfl, hbl, ck0, hB⟩ := parts_len HL.out k hlt
      have hz := HP.out.2.1 k (by omega)
      obtain ⟨z, hzz⟩ : ∃ z, (gL L k).length = z := ⟨_, rfl⟩
      rw [hzz] at ck0 hB hz
      have hcf := hB.fit
      have hcm := hB.max
      unfold maxLen at hcm
      have ck : wr.cell? ⟨b, o + k, none⟩ = some (.slice Aj z cj) := (HT.out.bel.cell (p := ⟨b, o + k, none⟩) hbl).trans ck0
      have ct := cell_of_row wr g 2 _ _ (0, 0) HT.out.tp
      simp at ct
      have HC := Lib.hid (clone_any F Aj z cj (gL L k) wr.drew (hB.below HT.out.bel.drew) (by omega))
      have hgl := (Array.getElem?_eq_some_iff.1 HT.out.tp).1
      clear hB ck0
      go_wp2_with fail
      first | refine wp_region_noPanic ?_ | skip
      refine wp_region_U (n := 6) (S := (fun u => u.cell? ⟨g, 2, none⟩ = some (.slice B k c))) (by kernel_rfl) (by kernel_rfl) (ct) (fun hHeld => ?_)
      refine wpAnyU_take (i := 0) (v := ?v1) rfl (by kernel_rfl) (by kernel_rfl) (by kernel_rfl) (by kernel_rfl) (fun _ _ _ h => h) (Or.inl ⟨by rfl, ?hy1⟩) (by assumption) ?rest1
      case hy1 => (intro w hSw; (try dsimp only at hSw); go_simp; try with_reducible rfl)
      try simp only [Act.put, List.getElem_toArray, List.getElem_cons_succ, List.getElem_cons_zero, List.setIfInBounds_toArray, List.set_cons_zero, List.set_cons_succ]
      refine wpAnyU_take (i := 1) (v := ?v2) rfl (by kernel_rfl) (by kernel_rfl) (by kernel_rfl) (by kernel_rfl) (fun _ _ _ h => h) (Or.inl ⟨by rfl, ?hy2⟩) (by assumption) ?rest2
      case hy2 => (intro w hSw; (try dsimp only at hSw); go_simp; try with_reducible rfl)
      try simp only [Act.put, List.getElem_toArray, List.getElem_cons_succ, List.getElem_cons_zero, List.setIfInBounds_toArray, List.set_cons_zero, List.set_cons_succ]
      refine wpAnyU_take (i := 2) (v := ?v3) rfl (by kernel_rfl) (by kernel_rfl) (by kernel_rfl) (by kernel_rfl) (fun _ _ _ h => h) (Or.inl ⟨by rfl, ?hy3⟩) (by assumption) ?rest3
      case hy3 => (intro w hSw; (try dsimp only at hSw); go_simp; try with_reducible rfl)
      try simp only [Act.put, List.getElem_toArray, List.getElem_cons_succ, List.getElem_cons_zero, List.setIfInBounds_toArray, List.set_cons_zero, List.set_cons_succ]
      refine wpAnyU_ready (i := 3) (by kernel_rfl) (by kernel_rfl) rfl (fun K hK => ?_)
      go_simp
      refine (HC.out).mono ?_
      rintro e w' ⟨D, cd, rfl, hBd, hbd⟩
      go_wp2_with fail
      refine hK.out _ _ ((hbd.cell (p := ⟨g, 2, none⟩) hgl).trans ct) (fun hHeld => ?_)
      clear hK K
      try simp only [Act.put, List.getElem_toArray, List.getElem_cons_succ, List.getElem_cons_zero, List.setIfInBounds_toArray, List.set_cons_zero, List.set_cons_succ]
      have hbld := run_blk D z cd
      refine wpAnyU_take (i := 4) (v := ?v4) rfl (by kernel_rfl) (by kernel_rfl) (by kernel_rfl) (by kernel_rfl) (fun _ _ _ h => h) (Or.inl ⟨by rfl, ?hy4⟩) (by assumption) ?rest4
      case hy4 => (intro w hSw; (try dsimp only at hSw); go_simp; try with_reducible rfl)
      try simp only [Act.put, List.getElem_toArray, List.getElem_cons_succ, List.getElem_cons_zero, List.setIfInBounds_toArray, List.set_cons_zero, List.set_cons_succ]
      have hS5 : (w'.alloc (.cells (blkA D z cd) 50)).cell? ⟨g, 2, none⟩ = some (.slice B k c) := (((Below.refl wr.heap.size wr).drew.trans hbd).alloc hbd.size _).cell (p := ⟨g, 2, none⟩) hgl |>.trans ct
      refine wpAnyU_ready (i := 5) (by kernel_rfl) (by kernel_rfl) rfl (fun K hK => ?_)
      go_simp
      refine hK.out _ _ hS5 (fun hHeld => ?_)
      clear hK K
      try simp only [Act.put, List.getElem_toArray, List.getElem_cons_succ, List.getElem_cons_zero, List.setIfInBounds_toArray, List.set_cons_zero, List.set_cons_succ]
      refine wpAnyU_tail rfl (by kernel_rfl) ?_
      simp only [List.drop_succ_cons, List.drop_zero]
      change wpList _ _ _ _ _ (w'.alloc (.cells (blkA D z cd) 50))
      have hfd := hBd.fit
      have hmd := hBd.max
      unfold maxLen at hmd
      have hbd' : Below wr.heap.size wr w' := (Below.refl _ _).drew.trans hbd
      have HRow := Lib.hid (HT.out.row.keep (w' := w') hbd'.size fun i hi _ => hbd'.block i hi)
      have HBD : Hid (BAt8 (fun i => wr.heap.size ≤ i) w' D z cd (gL L k)) := Lib.hid hBd
      have HG : Hid (∀ i, i < w'.heap.size → wr.heap.size ≤ i → g + 1 ≤ i ∧ (Value.slice B k c).ownBlock ≠ some i) := Lib.hid (fun i _ h2 => ⟨by omega, fun e => by have := (HT.out.row.blk i e).2; omega⟩)
      have HX := Lib.hid hbd'
      have HTK := Lib.hid (take_gL L k (by omega))
      clear hBd hbd hbd' hS5 hbld ct
      go_wp2_with (at_builtin; refine wpList_append_blks 38 infoBlk Try.underlying38 rfl (.tmp 19) (.tmp 23) rfl B k c (L.take k) rfl HRow.out D z cd (gL L k) HBD.out HG.out rfl (by omega) ?_; intro g5 c5 w4 hx4 hb4; have hf4 := hx4.fit; have hm4 := hx4.max; unfold maxLen at hm4; have HN := HT.out.next HX.out (show Blks (g + 1) w4 _ (k + 1) c5 (L.take (k + 1)) by rw [HTK.out]; exact hx4) hb4; obtain ⟨⟨n1, n2⟩, hn3⟩ := HN; have HT5 := Lib.hid hn3; clear hx4 hb4 hn3)
      go_wp2_with fail
      refine NoPanic.normal ?_
      go_wp2_with fail
      go_roundw
      case rel => exact ⟨k + 1, _, c5, by go_num, by omega, HT5⟩
      case measure => simp [intOf]; omega
    · have hkn : k = L.length := by omega
      have HR := Lib.hid (HT.out.made hkn)
      have HH := Lib.hid (tpPut_heap HT.out.res 1 20 B k c)
      obtain ⟨⟨a0, a1, a2⟩, ⟨b0, b1, b2⟩, f0, f1, f2⟩ := HT.out.all
      clear hkn HT
      go_wp2_with fail
      exact bodyPost_ret (results_tp2 rfl _ HH.out rfl (.int .i64 0) rfl) rfl HR.out
theorem tape_no (F : Nat → Prop) (A : Option Addr) (n cap : Nat) (L : List (List Int)) (w : World) (hl : Parts F w A n cap L) (hF : ¬ FitsP L) : Calls Try.prog 13 #[.slice A n cap] w fun x w' => x = .returned (.tuple #[.agg #[.int .i64 0, .int .i64 0, .slice none 0 0], .int .i64 8]) ∧ Below w.heap.size w w' := by
  have H := Lib.hid (fun (u : World) (hu : Below w.heap.size w u) => fits_any F A n cap L false u (hl.below hu) ⟨fun h => (by cases h), fun h => absurd h hF⟩)
  have H0 := Lib.hid (H.out _ (bnew w (.cells #[.int .i64 0, .int .i64 0, .slice none 0 0] 40)))
  clear hl hF H
  go_enter Try.func13, Try.ntmps13
  go_wp2_with fail
  refine (H0.out).mono ?_
  rintro e w' ⟨rfl, rfl⟩
  go_wp2_with fail
  exact bodyPost_ret (results_tp2 rfl _ (heap_alloc_new w _) rfl (.int .i64 8) rfl) rfl ⟨rfl, bnew w _⟩

end Go.Proofs.Ytcodbcfdbkmegaa
