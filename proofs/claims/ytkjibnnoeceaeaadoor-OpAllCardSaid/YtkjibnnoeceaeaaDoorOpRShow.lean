/- The document's Show: its contract. -/
import Derived.Test.YtkjibnnoeceaeaaDoorOpMoreL
namespace Go.Proofs.YtkjibnnoeceaeaaDoor
open Go.RowKit

theorem bitsF_le (c : Nat) (m : List UInt8) (hm : m.length ≤ 8) : (bitsF c m).length ≤ 20 := by
  have h1 := turns0L_le (c / 8)
  have h2 := ofBitsL_le (c / 64)
  unfold bitsF
  split
  · simp only [List.length_append, List.length_cons, List.length_nil]; omega
  · simp only [List.length_append, List.length_cons, List.length_nil]; omega
/-- The document's instruction in a box of the call's own. -/
structure BxAt (w : World) (x : In) (u : World) : Prop where
  i0 : u.cell? ⟨w.heap.size, 0, none⟩ = some (.int .i64 x.set)
  i1 : u.cell? ⟨w.heap.size, 1, none⟩ = some (.int .i64 x.ix)
  i2 : u.cell? ⟨w.heap.size, 2, none⟩ = some (.int .u8 x.code)
  i3 : u.cell? ⟨w.heap.size, 3, none⟩ = some (.int .u8 x.d)
  i4 : u.cell? ⟨w.heap.size, 4, none⟩ = some (.int .u16 x.n)
  i5 : u.cell? ⟨w.heap.size, 5, none⟩ = some (.int .i64 x.len)
  lt : w.heap.size < u.heap.size
  below : Below w.heap.size w u
theorem BxAt.later {w : World} {x : In} {u u' : World} (h : BxAt w x u) (hb : Below u.heap.size u u') : BxAt w x u' where
  i0 := (hb.cell (p := ⟨w.heap.size, 0, none⟩) h.lt).trans h.i0
  i1 := (hb.cell (p := ⟨w.heap.size, 1, none⟩) h.lt).trans h.i1
  i2 := (hb.cell (p := ⟨w.heap.size, 2, none⟩) h.lt).trans h.i2
  i3 := (hb.cell (p := ⟨w.heap.size, 3, none⟩) h.lt).trans h.i3
  i4 := (hb.cell (p := ⟨w.heap.size, 4, none⟩) h.lt).trans h.i4
  i5 := (hb.cell (p := ⟨w.heap.size, 5, none⟩) h.lt).trans h.i5
  lt := Nat.lt_of_lt_of_le h.lt hb.size
  below := below_step h.below hb
theorem BxAt.drew {w : World} {x : In} {u : World} (h : BxAt w x u) : BxAt w x u.drew := h.later (Below.refl _ _).drew
theorem bx_made (w : World) (x : In) (t : TypeId) : BxAt w x (w.alloc (.cells x.arr t)) := by
  have key : ∀ j v, x.arr[j]? = some v → (w.alloc (.cells x.arr t)).cell? ⟨w.heap.size, j, none⟩ = some v := fun j v hv => box_at (Below.refl _ _) j v hv
  exact ⟨key 0 _ rfl, key 1 _ rfl, key 2 _ rfl, key 3 _ rfl, key 4 _ rfl, key 5 _ rfl, by simp, balloc w _⟩
theorem idxF_le (c : Nat) (ix : Int) (d : Nat) (hc : c < 256) (hd : d < 256) : (idxF (plainL c) ix d c).length ≤ 100 := by
  have h20 := plainL_le c hc
  have h8 := awL_len ix d hd
  have hs := swapF_le (plainL c) hlL (awL ix d)
  have key : ∀ nm, (List.range 256).all (fun c => decide ((joinW nm ((wordsGo (plainL c) [] []).drop 1) 1 ((wordsGo (plainL c) [] []).headD [])).length ≤ 100)) = true → (joinW nm ((wordsGo (plainL c) [] []).drop 1) 1 ((wordsGo (plainL c) [] []).headD [])).length ≤ 100 := by
    intro nm h
    have := all256 h c hc
    simpa using this
  have kk : (joinW (nameL ix) ((wordsGo (plainL c) [] []).drop 1) 1 ((wordsGo (plainL c) [] []).headD [])).length ≤ 100 := by
    unfold nameL
    split
    · exact key _ (by decide +kernel)
    · exact key _ (by decide +kernel)
  unfold idxF
  split
  · omega
  split
  · omega
  · exact kk
theorem moreL_le (c : Nat) (hc : c < 256) : (moreL c).length ≤ 20 := by
  have := all256 (f := fun c => decide ((moreL c).length ≤ 20)) (by decide +kernel) c hc
  simpa using this

set_option maxRecDepth 100000 in
set_option maxHeartbeats 1600000 in
theorem refShow0x (x : In) (pc : Nat) (w : World) (ok : x.Ok) (hpc : pc < 65536) (l0 : 0 ≤ x.len) (l8 : x.len ≤ 8) (hs : x.set = 0) (h1 : (x.ix == 1) = true) : Calls Tryd.prog 13 #[.agg x.arr, .int .u16 pc] w fun e w' => e = .returned (.string (strL (filF (idxF (plainL x.code) x.ix x.d x.code) x.n (tgtN x pc)))) ∧ Below w.heap.size w w' := by
  have e0 : (x.set == 0) = true := by rw [hs]; rfl
  have HP := Lib.hid (fun w => refPlain x.code w ok.code)
  have p20 := plainL_le x.code ok.code
  have HI := Lib.hid (fun w => refIdx (plainL x.code) x w (by omega) ok.d (words_few x.code ok.code))
  have i150 := idxF_le x.code x.ix x.d ok.code ok.d
  have HF := Lib.hid (fun w => refFil (idxF (plainL x.code) x.ix x.d x.code) x pc w (by omega) ok.n hpc l0 l8)
  have K := Lib.hid (bx_made w x 29)
  clear hs ok hpc l0 l8 p20 i150
  unfold In.arr at *
  go_enter Tryd.func13, Tryd.ntmps13
  go_wp2_with fail
  refine (HP.out _).mono ?_
  rintro e w1 ⟨rfl, hb1⟩
  have k := K.out.later hb1
  clear hb1 K
  have i0 := k.i0
  have i1 := k.i1
  have i2 := k.i2
  have i3 := k.i3
  have i4 := k.i4
  have i5 := k.i5
  have K := Lib.hid k
  clear k
  go_wp2_with fail
  refine (HI.out _).mono ?_
  rintro e w2 ⟨rfl, hb2⟩
  have k := K.out.later hb2
  clear hb2 K i0 i1 i2 i3 i4 i5
  have i0 := k.i0
  have i1 := k.i1
  have i2 := k.i2
  have i3 := k.i3
  have i4 := k.i4
  have i5 := k.i5
  have K := Lib.hid k
  clear k
  go_wp2_with fail
  refine (HF.out _).mono ?_
  rintro e w3 ⟨rfl, hb3⟩
  go_wp2_with fail
  go_ret
  exact ⟨rfl, below_step K.out.below hb3⟩
set_option maxRecDepth 100000 in
set_option maxHeartbeats 1600000 in
theorem refShow0y (x : In) (pc : Nat) (w : World) (ok : x.Ok) (hpc : pc < 65536) (l0 : 0 ≤ x.len) (l8 : x.len ≤ 8) (hs : x.set = 0) (h1 : (x.ix == 1) = false) (h2 : (x.ix == 2) = true) : Calls Tryd.prog 13 #[.agg x.arr, .int .u16 pc] w fun e w' => e = .returned (.string (strL (filF (idxF (plainL x.code) x.ix x.d x.code) x.n (tgtN x pc)))) ∧ Below w.heap.size w w' := by
  have e0 : (x.set == 0) = true := by rw [hs]; rfl
  have HP := Lib.hid (fun w => refPlain x.code w ok.code)
  have p20 := plainL_le x.code ok.code
  have HI := Lib.hid (fun w => refIdx (plainL x.code) x w (by omega) ok.d (words_few x.code ok.code))
  have i150 := idxF_le x.code x.ix x.d ok.code ok.d
  have HF := Lib.hid (fun w => refFil (idxF (plainL x.code) x.ix x.d x.code) x pc w (by omega) ok.n hpc l0 l8)
  have K := Lib.hid (bx_made w x 29)
  clear hs ok hpc l0 l8 p20 i150
  unfold In.arr at *
  go_enter Tryd.func13, Tryd.ntmps13
  go_wp2_with fail
  refine (HP.out _).mono ?_
  rintro e w1 ⟨rfl, hb1⟩
  have k := K.out.later hb1
  clear hb1 K
  have i0 := k.i0
  have i1 := k.i1
  have i2 := k.i2
  have i3 := k.i3
  have i4 := k.i4
  have i5 := k.i5
  have K := Lib.hid k
  clear k
  go_wp2_with fail
  refine (HI.out _).mono ?_
  rintro e w2 ⟨rfl, hb2⟩
  have k := K.out.later hb2
  clear hb2 K i0 i1 i2 i3 i4 i5
  have i0 := k.i0
  have i1 := k.i1
  have i2 := k.i2
  have i3 := k.i3
  have i4 := k.i4
  have i5 := k.i5
  have K := Lib.hid k
  clear k
  go_wp2_with fail
  refine (HF.out _).mono ?_
  rintro e w3 ⟨rfl, hb3⟩
  go_wp2_with fail
  go_ret
  exact ⟨rfl, below_step K.out.below hb3⟩
set_option maxRecDepth 100000 in
set_option maxHeartbeats 1600000 in
theorem refShow0n (x : In) (pc : Nat) (w : World) (ok : x.Ok) (hpc : pc < 65536) (l0 : 0 ≤ x.len) (l8 : x.len ≤ 8) (hs : x.set = 0) (h1 : (x.ix == 1) = false) (h2 : (x.ix == 2) = false) : Calls Tryd.prog 13 #[.agg x.arr, .int .u16 pc] w fun e w' => e = .returned (.string (strL (filF (plainL x.code) x.n (tgtN x pc)))) ∧ Below w.heap.size w w' := by
  have e0 : (x.set == 0) = true := by rw [hs]; rfl
  have HP := Lib.hid (fun w => refPlain x.code w ok.code)
  have p20 := plainL_le x.code ok.code
  have HF := Lib.hid (fun w => refFil (plainL x.code) x pc w (by omega) ok.n hpc l0 l8)
  have K := Lib.hid (bx_made w x 29)
  clear hs ok hpc l0 l8 p20
  unfold In.arr at *
  go_enter Tryd.func13, Tryd.ntmps13
  go_wp2_with fail
  refine (HP.out _).mono ?_
  rintro e w1 ⟨rfl, hb1⟩
  have k := K.out.later hb1
  clear hb1 K
  have i0 := k.i0
  have i1 := k.i1
  have i2 := k.i2
  have i3 := k.i3
  have i4 := k.i4
  have i5 := k.i5
  have K := Lib.hid k
  clear k
  go_wp2_with fail
  refine (HF.out _).mono ?_
  rintro e w3 ⟨rfl, hb3⟩
  go_wp2_with fail
  go_ret
  exact ⟨rfl, below_step K.out.below hb3⟩
set_option maxRecDepth 100000 in
set_option maxHeartbeats 1600000 in
theorem refShow1 (x : In) (pc : Nat) (w : World) (ok : x.Ok) (hs : x.set = 1) : Calls Tryd.prog 13 #[.agg x.arr, .int .u16 pc] w fun e w' => e = .returned (.string (strL (bitsF x.code (regsL.getD (x.code % 8) [])))) ∧ Below w.heap.size w w' := by
  have e0 : (x.set == 0) = false := by rw [hs]; rfl
  have e1 : (x.set == 1) = true := by rw [hs]; rfl
  obtain ⟨z, hz⟩ : ∃ z, x.code % 8 = z := ⟨_, rfl⟩
  rw [hz]
  have wz : (x.code : Int).tmod 8 = (z : Int) := by rw [Int.tmod_eq_emod_of_nonneg (by omega)]; omega
  have hcc := ok.code
  have wcv : IntKind.i64.wrap (x.code : Int) = x.code := IntWalk.i64_in _ (by omega)
  have c0 : (0 : Int) ≤ x.code := by omega
  have z0 : (0 : Int) ≤ z := by omega
  have z8 : (z : Int) < 8 := by omega
  have z8n : z < 8 := by omega
  obtain ⟨R, hR⟩ : ∃ R, regsL.getD z [] = R := ⟨_, rfl⟩
  rw [hR]
  have HR := Lib.hid (fun g u (h : TabS g 8 regsL u) => lists_at h z z8n R hR)
  have rl : R.length ≤ 100 := by rw [← hR]; exact Nat.le_trans (regsL_le _) (by decide)
  have HB := Lib.hid (fun w => refBits x.code R w ok.code rl)
  obtain ⟨T, hT⟩ : ∃ T, strL (bitsF x.code R) = T := ⟨_, rfl⟩
  rw [hT] at HB
  rw [hT]
  have HU := Lib.hid (show ∀ u, BxAt w x u → (fun u => (u.cell? ⟨w.heap.size, 2, none⟩ = some (.int .u8 x.code)) ∧ BxAt w x u) u from fun u hu => ⟨hu.i2, hu⟩)
  have K := Lib.hid (bx_made w x 29)
  clear hs ok hR hT hz z8n rl hcc
  unfold In.arr at *
  go_enter Tryd.func13, Tryd.ntmps13
  go_upto_region 1 with (fail)
  have k := K.out
  clear K
  generalize w.alloc (.cells #[.int .i64 x.set, .int .i64 x.ix, .int .u8 x.code, .int .u8 x.d, .int .u16 x.n, .int .i64 x.len] 29) = w1 at k ⊢
  have i0 := k.i0
  have hS1 := HU.out _ k.drew
  clear k
  go_wp2_with fail
  clear i0
  first | refine wp_region_noPanic ?_ | skip
  refine wp_region_held_drew (S := (fun u => (u.cell? ⟨w.heap.size, 2, none⟩ = some (.int .u8 x.code)) ∧ BxAt w x u)) (by kernel_rfl) hS1 (fun hHeld => ?_)
  refine wpAnyH_take (i := 0) (v := ?v1) rfl (by kernel_rfl) (by kernel_rfl) (by kernel_rfl) (fun _ _ _ h => h) (Or.inl ⟨by rfl, ?hy1⟩) (by assumption) ?rest1
  case hy1 => (intro w hSw; (try dsimp only at hSw); go_simp; (try with_reducible rfl))
  try simp only [Act.put, List.getElem_toArray, List.getElem_cons_succ, List.getElem_cons_zero, List.setIfInBounds_toArray, List.set_cons_zero, List.set_cons_succ]
  refine wpAnyH_take (i := 3) (v := ?v2) rfl (by kernel_rfl) (by kernel_rfl) (by kernel_rfl) (fun _ _ _ h => h) (Or.inl ⟨by rfl, ?hy2⟩) (by assumption) ?rest2
  case hy2 => (intro w hSw; (try dsimp only at hSw); go_simp; (try with_reducible rfl))
  try simp only [Act.put, List.getElem_toArray, List.getElem_cons_succ, List.getElem_cons_zero, List.setIfInBounds_toArray, List.set_cons_zero, List.set_cons_succ]
  refine wpAnyH_take (i := 1) (v := ?v3) rfl (by kernel_rfl) (by kernel_rfl) (by kernel_rfl) (fun _ _ _ h => h) (Or.inl ⟨by rfl, ?hy3⟩) (by assumption) ?rest3
  case hy3 => (intro w hSw; (try dsimp only at hSw); go_simp; (try with_reducible rfl))
  try simp only [Act.put, List.getElem_toArray, List.getElem_cons_succ, List.getElem_cons_zero, List.setIfInBounds_toArray, List.set_cons_zero, List.set_cons_succ]
  refine wpAnyH_take (i := 4) (v := ?v4) rfl (by kernel_rfl) (by kernel_rfl) (by kernel_rfl) (fun _ _ _ h => h) (Or.inl ⟨by rfl, ?hy4⟩) (by assumption) ?rest4
  case hy4 => (intro w hSw; (try dsimp only at hSw); go_simp; (try with_reducible rfl))
  try simp only [Act.put, List.getElem_toArray, List.getElem_cons_succ, List.getElem_cons_zero, List.setIfInBounds_toArray, List.set_cons_zero, List.set_cons_succ]
  refine wpAnyH_take (i := 5) (v := ?v5) rfl (by kernel_rfl) (by kernel_rfl) (by kernel_rfl) (fun _ _ _ h => h) (Or.inl ⟨by rfl, ?hy5⟩) (by assumption) ?rest5
  case hy5 => (intro w hSw; (try dsimp only at hSw); go_simp; (try with_reducible rfl))
  try simp only [Act.put, List.getElem_toArray, List.getElem_cons_succ, List.getElem_cons_zero, List.setIfInBounds_toArray, List.set_cons_zero, List.set_cons_succ]
  refine wpAnyH_take (i := 6) (v := ?v6) rfl (by kernel_rfl) (by kernel_rfl) (by kernel_rfl) (fun _ _ _ h => h) (Or.inl ⟨by rfl, ?hy6⟩) (by assumption) ?rest6
  case hy6 => (intro w hSw; (try dsimp only at hSw); go_simp; (try with_reducible rfl))
  try simp only [Act.put, List.getElem_toArray, List.getElem_cons_succ, List.getElem_cons_zero, List.setIfInBounds_toArray, List.set_cons_zero, List.set_cons_succ]
  refine wpAnyH_ready (rs := [2]) (by kernel_rfl) (by simp) ?_
  refine (AllReadyH.cons (o := _) rfl (fun K hK => ?_) AllReadyH.nil)
  go_simp
  refine (ref_regs _).mono ?_
  intro e wd1 hE1
  obtain ⟨gA, rfl, hgA, hTA, hb1⟩ := hE1
  have hS2 : (fun u => (u.cell? ⟨w.heap.size, 2, none⟩ = some (.int .u8 x.code)) ∧ BxAt w x u) wd1 := HU.out _ (hS1.2.later hb1)
  go_wp2_with fail
  refine hK.out _ _ hS2 (fun hHeld => ?_)
  clear hK K
  try simp only [Act.put, List.getElem_toArray, List.getElem_cons_succ, List.getElem_cons_zero, List.setIfInBounds_toArray, List.set_cons_zero, List.set_cons_succ]
  refine wpAnyH_take (i := 7) (v := ?v7) rfl (by kernel_rfl) (by kernel_rfl) (by kernel_rfl) (fun _ _ _ h => h) (Or.inl ⟨by rfl, ?hy7⟩) (by assumption) ?rest7
  case hy7 => (intro w hSw; (try dsimp only at hSw); go_simp; (try with_reducible rfl))
  try simp only [Act.put, List.getElem_toArray, List.getElem_cons_succ, List.getElem_cons_zero, List.setIfInBounds_toArray, List.set_cons_zero, List.set_cons_succ]
  refine wpAnyH_ready (rs := [8]) (by kernel_rfl) (by simp) ?_
  refine (AllReadyH.cons (o := _) rfl (fun K hK => ?_) AllReadyH.nil)
  have ckA := HR.out gA _ hTA
  go_simp
  refine hK.out _ _ (by assumption) (fun hHeld => ?_)
  clear hK K
  try simp only [Act.put, List.getElem_toArray, List.getElem_cons_succ, List.getElem_cons_zero, List.setIfInBounds_toArray, List.set_cons_zero, List.set_cons_succ]
  refine wpAnyH_ready (rs := [9]) (by kernel_rfl) (by simp) ?_
  refine (AllReadyH.cons (o := _) rfl (fun K hK => ?_) AllReadyH.nil)
  go_simp
  refine (HB.out _).mono ?_
  intro e wd2 hE2
  obtain ⟨rfl, hb2⟩ := hE2
  have hS3 : (fun u => (u.cell? ⟨w.heap.size, 2, none⟩ = some (.int .u8 x.code)) ∧ BxAt w x u) wd2 := HU.out _ (hS2.2.later hb2)
  go_wp2_with fail
  refine hK.out _ _ hS3 (fun hHeld => ?_)
  clear hK K
  try simp only [Act.put, List.getElem_toArray, List.getElem_cons_succ, List.getElem_cons_zero, List.setIfInBounds_toArray, List.set_cons_zero, List.set_cons_succ]
  refine wpAnyH_take (i := 10) (v := ?v8) rfl (by kernel_rfl) (by kernel_rfl) (by kernel_rfl) (fun _ _ _ h => h) (Or.inl ⟨by rfl, ?hy8⟩) (by assumption) ?rest8
  case hy8 => (intro w hSw; (try dsimp only at hSw); go_simp; (try with_reducible rfl))
  try simp only [Act.put, List.getElem_toArray, List.getElem_cons_succ, List.getElem_cons_zero, List.setIfInBounds_toArray, List.set_cons_zero, List.set_cons_succ]
  refine wpAnyH_done (by kernel_rfl) ?_ _
  first | refine NoPanic.normal ?_ | skip
  have B := Lib.hid hS3.2.below
  go_wp2_with fail
  go_ret
  exact ⟨rfl, B.out⟩
set_option maxRecDepth 100000 in
set_option maxHeartbeats 1600000 in
theorem refShow2 (x : In) (pc : Nat) (w : World) (ok : x.Ok) (hpc : pc < 65536) (l0 : 0 ≤ x.len) (l8 : x.len ≤ 8) (hs : x.set = 2) : Calls Tryd.prog 13 #[.agg x.arr, .int .u16 pc] w fun e w' => e = .returned (.string (strL (filF (moreL x.code) x.n (tgtN x pc)))) ∧ Below w.heap.size w w' := by
  have e0 : (x.set == 0) = false := by rw [hs]; rfl
  have e1 : (x.set == 1) = false := by rw [hs]; rfl
  have e2 : (x.set == 2) = true := by rw [hs]; rfl
  have m20 := moreL_le x.code ok.code
  obtain ⟨M, hM⟩ : ∃ M, moreL x.code = M := ⟨_, rfl⟩
  rw [hM] at m20 ⊢
  obtain ⟨F, hF⟩ : ∃ F, filF M x.n (tgtN x pc) = F := ⟨_, rfl⟩
  rw [hF]
  have HU := Lib.hid (show ∀ u, BxAt w x u → (fun u => (u.cell? ⟨w.heap.size, 0, none⟩ = some (.int .i64 x.set) ∧ u.cell? ⟨w.heap.size, 1, none⟩ = some (.int .i64 x.ix) ∧ u.cell? ⟨w.heap.size, 2, none⟩ = some (.int .u8 x.code) ∧ u.cell? ⟨w.heap.size, 3, none⟩ = some (.int .u8 x.d) ∧ u.cell? ⟨w.heap.size, 4, none⟩ = some (.int .u16 x.n) ∧ u.cell? ⟨w.heap.size, 5, none⟩ = some (.int .i64 x.len)) ∧ BxAt w x u) u from fun u hu => ⟨⟨hu.i0, hu.i1, hu.i2, hu.i3, hu.i4, hu.i5⟩, hu⟩)
  have C0 := Lib.hid (show ∀ u, (fun u => (u.cell? ⟨w.heap.size, 0, none⟩ = some (.int .i64 x.set) ∧ u.cell? ⟨w.heap.size, 1, none⟩ = some (.int .i64 x.ix) ∧ u.cell? ⟨w.heap.size, 2, none⟩ = some (.int .u8 x.code) ∧ u.cell? ⟨w.heap.size, 3, none⟩ = some (.int .u8 x.d) ∧ u.cell? ⟨w.heap.size, 4, none⟩ = some (.int .u16 x.n) ∧ u.cell? ⟨w.heap.size, 5, none⟩ = some (.int .i64 x.len)) ∧ BxAt w x u) u → Calls Tryd.prog 30 #[.int .u8 x.code] u fun e w' => e = .returned (.string (strL M)) ∧ (fun u => (u.cell? ⟨w.heap.size, 0, none⟩ = some (.int .i64 x.set) ∧ u.cell? ⟨w.heap.size, 1, none⟩ = some (.int .i64 x.ix) ∧ u.cell? ⟨w.heap.size, 2, none⟩ = some (.int .u8 x.code) ∧ u.cell? ⟨w.heap.size, 3, none⟩ = some (.int .u8 x.d) ∧ u.cell? ⟨w.heap.size, 4, none⟩ = some (.int .u16 x.n) ∧ u.cell? ⟨w.heap.size, 5, none⟩ = some (.int .i64 x.len)) ∧ BxAt w x u) w' from fun u hu => hM ▸ (refMore x.code u ok.code).mono fun _ _ ⟨he, hb⟩ => ⟨he, HU.out _ (hu.2.later hb)⟩)
  have C1 := Lib.hid (show ∀ u, (fun u => (u.cell? ⟨w.heap.size, 0, none⟩ = some (.int .i64 x.set) ∧ u.cell? ⟨w.heap.size, 1, none⟩ = some (.int .i64 x.ix) ∧ u.cell? ⟨w.heap.size, 2, none⟩ = some (.int .u8 x.code) ∧ u.cell? ⟨w.heap.size, 3, none⟩ = some (.int .u8 x.d) ∧ u.cell? ⟨w.heap.size, 4, none⟩ = some (.int .u16 x.n) ∧ u.cell? ⟨w.heap.size, 5, none⟩ = some (.int .i64 x.len)) ∧ BxAt w x u) u → Calls Tryd.prog 27 #[.string (strL M), .agg x.arr, .int .u16 pc] u fun e w' => e = .returned (.string (strL F)) ∧ (fun u => (u.cell? ⟨w.heap.size, 0, none⟩ = some (.int .i64 x.set) ∧ u.cell? ⟨w.heap.size, 1, none⟩ = some (.int .i64 x.ix) ∧ u.cell? ⟨w.heap.size, 2, none⟩ = some (.int .u8 x.code) ∧ u.cell? ⟨w.heap.size, 3, none⟩ = some (.int .u8 x.d) ∧ u.cell? ⟨w.heap.size, 4, none⟩ = some (.int .u16 x.n) ∧ u.cell? ⟨w.heap.size, 5, none⟩ = some (.int .i64 x.len)) ∧ BxAt w x u) w' from fun u hu => hF ▸ (refFil M x pc u (by omega) ok.n hpc l0 l8).mono fun _ _ ⟨he, hb⟩ => ⟨he, HU.out _ (hu.2.later hb)⟩)
  have K := Lib.hid (bx_made w x 29)
  clear hs ok hpc l0 l8 m20 hM hF
  unfold In.arr at *
  go_enter Tryd.func13, Tryd.ntmps13
  go_upto_region 1 with (fail)
  have k := K.out
  clear K
  generalize w.alloc (.cells #[.int .i64 x.set, .int .i64 x.ix, .int .u8 x.code, .int .u8 x.d, .int .u16 x.n, .int .i64 x.len] 29) = w1 at k ⊢
  have i0 := k.i0
  have hS1 := HU.out _ k.drew
  clear k
  go_wp2_with fail
  clear i0
  go_region_held3 (fun u => (u.cell? ⟨w.heap.size, 0, none⟩ = some (.int .i64 x.set) ∧ u.cell? ⟨w.heap.size, 1, none⟩ = some (.int .i64 x.ix) ∧ u.cell? ⟨w.heap.size, 2, none⟩ = some (.int .u8 x.code) ∧ u.cell? ⟨w.heap.size, 3, none⟩ = some (.int .u8 x.d) ∧ u.cell? ⟨w.heap.size, 4, none⟩ = some (.int .u16 x.n) ∧ u.cell? ⟨w.heap.size, 5, none⟩ = some (.int .i64 x.len)) ∧ BxAt w x u) (assumption) ((first | (go_at_call 30; refine (C0.out _ (by assumption)).mono ?_; rintro e w' ⟨rfl, hE⟩) | (go_at_call 27; refine (C1.out _ (by assumption)).mono ?_; rintro e w' ⟨rfl, hE⟩)))
  have B := Lib.hid hE.2.below
  clear hE hS1
  go_wp2_with fail
  go_ret
  exact ⟨rfl, B.out⟩
set_option maxRecDepth 100000 in
set_option maxHeartbeats 1600000 in
theorem refShow3a (x : In) (pc : Nat) (w : World) (ok : x.Ok) (hs : x.set = 3) (q1 : ((x.code : Int) / 64 != 1) = false) : Calls Tryd.prog 13 #[.agg x.arr, .int .u16 pc] w fun e w' => e = .returned (.string (strL (bitsF x.code (awL x.ix x.d)))) ∧ Below w.heap.size w w' := by
  have e0 : (x.set == 0) = false := by rw [hs]; rfl
  have e1 : (x.set == 1) = false := by rw [hs]; rfl
  have e2 : (x.set == 2) = false := by rw [hs]; rfl
  have e3 : (x.set == 3) = true := by rw [hs]; rfl
  have a8 := awL_len x.ix x.d ok.d
  obtain ⟨Y, hY⟩ : ∃ Y, awL x.ix x.d = Y := ⟨_, rfl⟩
  rw [hY] at a8
  rw [hY]
  obtain ⟨T, hT⟩ : ∃ T, bitsF x.code Y = T := ⟨_, rfl⟩
  have hTl : T.length ≤ 20 := by rw [← hT]; exact bitsF_le x.code _ (by omega)
  rw [hT]
  have HU := Lib.hid (show ∀ u, BxAt w x u → (fun u => (u.cell? ⟨w.heap.size, 1, none⟩ = some (.int .i64 x.ix) ∧ u.cell? ⟨w.heap.size, 2, none⟩ = some (.int .u8 x.code) ∧ u.cell? ⟨w.heap.size, 3, none⟩ = some (.int .u8 x.d)) ∧ BxAt w x u) u from fun u hu => ⟨⟨hu.i1, hu.i2, hu.i3⟩, hu⟩)
  have C0 := Lib.hid (show ∀ u, (fun u => (u.cell? ⟨w.heap.size, 1, none⟩ = some (.int .i64 x.ix) ∧ u.cell? ⟨w.heap.size, 2, none⟩ = some (.int .u8 x.code) ∧ u.cell? ⟨w.heap.size, 3, none⟩ = some (.int .u8 x.d)) ∧ BxAt w x u) u → Calls Tryd.prog 31 #[.int .i64 x.ix, .int .u8 x.d] u fun e w' => e = .returned (.string (strL Y)) ∧ (fun u => (u.cell? ⟨w.heap.size, 1, none⟩ = some (.int .i64 x.ix) ∧ u.cell? ⟨w.heap.size, 2, none⟩ = some (.int .u8 x.code) ∧ u.cell? ⟨w.heap.size, 3, none⟩ = some (.int .u8 x.d)) ∧ BxAt w x u) w' from fun u hu => hY ▸ (refAway x.ix x.d u ok.d).mono fun _ _ ⟨he, hw⟩ => ⟨he, hw ▸ hu⟩)
  have C1 := Lib.hid (show ∀ u, (fun u => (u.cell? ⟨w.heap.size, 1, none⟩ = some (.int .i64 x.ix) ∧ u.cell? ⟨w.heap.size, 2, none⟩ = some (.int .u8 x.code) ∧ u.cell? ⟨w.heap.size, 3, none⟩ = some (.int .u8 x.d)) ∧ BxAt w x u) u → Calls Tryd.prog 28 #[.int .u8 x.code, .string (strL Y)] u fun e w' => e = .returned (.string (strL T)) ∧ (fun u => (u.cell? ⟨w.heap.size, 1, none⟩ = some (.int .i64 x.ix) ∧ u.cell? ⟨w.heap.size, 2, none⟩ = some (.int .u8 x.code) ∧ u.cell? ⟨w.heap.size, 3, none⟩ = some (.int .u8 x.d)) ∧ BxAt w x u) w' from fun u hu => hT ▸ (refBits x.code Y u ok.code (by omega)).mono fun _ _ ⟨he, hb⟩ => ⟨he, HU.out _ (hu.2.later hb)⟩)
  have K := Lib.hid (bx_made w x 29)
  have cc0 : (0 : Int) ≤ x.code := by omega
  have cc1 : (x.code : Int) ≤ 255 := by have := ok.code; omega
  clear hs ok a8 hT hY
  unfold In.arr at *
  go_enter Tryd.func13, Tryd.ntmps13
  go_upto_region 1 with (fail)
  have k := K.out
  clear K
  generalize w.alloc (.cells #[.int .i64 x.set, .int .i64 x.ix, .int .u8 x.code, .int .u8 x.d, .int .u16 x.n, .int .i64 x.len] 29) = w1 at k ⊢
  have i0 := k.i0
  have hS1 := HU.out _ k.drew
  clear k
  go_wp2_with fail
  clear i0
  go_region_held3 (fun u => (u.cell? ⟨w.heap.size, 1, none⟩ = some (.int .i64 x.ix) ∧ u.cell? ⟨w.heap.size, 2, none⟩ = some (.int .u8 x.code) ∧ u.cell? ⟨w.heap.size, 3, none⟩ = some (.int .u8 x.d)) ∧ BxAt w x u) (assumption) ((first | (go_at_call 31; refine (C0.out _ (by assumption)).mono ?_; rintro e w' ⟨rfl, hE⟩) | (go_at_call 28; refine (C1.out _ (by assumption)).mono ?_; rintro e w' ⟨rfl, hF⟩)))
  have k := hF.2
  clear hF hE hS1
  have i2 := k.i2
  have B := Lib.hid k.below
  clear k
  go_wp2_with fail
  go_ret
  exact ⟨rfl, B.out⟩
set_option maxRecDepth 100000 in
set_option maxHeartbeats 1600000 in
theorem refShow3b (x : In) (pc : Nat) (w : World) (ok : x.Ok) (hs : x.set = 3) (q1 : ((x.code : Int) / 64 != 1) = true) (q6 : ((x.code : Int) % 8 != 6) = false) : Calls Tryd.prog 13 #[.agg x.arr, .int .u16 pc] w fun e w' => e = .returned (.string (strL (bitsF x.code (awL x.ix x.d)))) ∧ Below w.heap.size w w' := by
  have e0 : (x.set == 0) = false := by rw [hs]; rfl
  have e1 : (x.set == 1) = false := by rw [hs]; rfl
  have e2 : (x.set == 2) = false := by rw [hs]; rfl
  have e3 : (x.set == 3) = true := by rw [hs]; rfl
  have a8 := awL_len x.ix x.d ok.d
  obtain ⟨Y, hY⟩ : ∃ Y, awL x.ix x.d = Y := ⟨_, rfl⟩
  rw [hY] at a8
  rw [hY]
  obtain ⟨T, hT⟩ : ∃ T, bitsF x.code Y = T := ⟨_, rfl⟩
  have hTl : T.length ≤ 20 := by rw [← hT]; exact bitsF_le x.code _ (by omega)
  rw [hT]
  have HU := Lib.hid (show ∀ u, BxAt w x u → (fun u => (u.cell? ⟨w.heap.size, 1, none⟩ = some (.int .i64 x.ix) ∧ u.cell? ⟨w.heap.size, 2, none⟩ = some (.int .u8 x.code) ∧ u.cell? ⟨w.heap.size, 3, none⟩ = some (.int .u8 x.d)) ∧ BxAt w x u) u from fun u hu => ⟨⟨hu.i1, hu.i2, hu.i3⟩, hu⟩)
  have C0 := Lib.hid (show ∀ u, (fun u => (u.cell? ⟨w.heap.size, 1, none⟩ = some (.int .i64 x.ix) ∧ u.cell? ⟨w.heap.size, 2, none⟩ = some (.int .u8 x.code) ∧ u.cell? ⟨w.heap.size, 3, none⟩ = some (.int .u8 x.d)) ∧ BxAt w x u) u → Calls Tryd.prog 31 #[.int .i64 x.ix, .int .u8 x.d] u fun e w' => e = .returned (.string (strL Y)) ∧ (fun u => (u.cell? ⟨w.heap.size, 1, none⟩ = some (.int .i64 x.ix) ∧ u.cell? ⟨w.heap.size, 2, none⟩ = some (.int .u8 x.code) ∧ u.cell? ⟨w.heap.size, 3, none⟩ = some (.int .u8 x.d)) ∧ BxAt w x u) w' from fun u hu => hY ▸ (refAway x.ix x.d u ok.d).mono fun _ _ ⟨he, hw⟩ => ⟨he, hw ▸ hu⟩)
  have C1 := Lib.hid (show ∀ u, (fun u => (u.cell? ⟨w.heap.size, 1, none⟩ = some (.int .i64 x.ix) ∧ u.cell? ⟨w.heap.size, 2, none⟩ = some (.int .u8 x.code) ∧ u.cell? ⟨w.heap.size, 3, none⟩ = some (.int .u8 x.d)) ∧ BxAt w x u) u → Calls Tryd.prog 28 #[.int .u8 x.code, .string (strL Y)] u fun e w' => e = .returned (.string (strL T)) ∧ (fun u => (u.cell? ⟨w.heap.size, 1, none⟩ = some (.int .i64 x.ix) ∧ u.cell? ⟨w.heap.size, 2, none⟩ = some (.int .u8 x.code) ∧ u.cell? ⟨w.heap.size, 3, none⟩ = some (.int .u8 x.d)) ∧ BxAt w x u) w' from fun u hu => hT ▸ (refBits x.code Y u ok.code (by omega)).mono fun _ _ ⟨he, hb⟩ => ⟨he, HU.out _ (hu.2.later hb)⟩)
  have K := Lib.hid (bx_made w x 29)
  have cc0 : (0 : Int) ≤ x.code := by omega
  have cc1 : (x.code : Int) ≤ 255 := by have := ok.code; omega
  clear hs ok a8 hT hY
  unfold In.arr at *
  go_enter Tryd.func13, Tryd.ntmps13
  go_upto_region 1 with (fail)
  have k := K.out
  clear K
  generalize w.alloc (.cells #[.int .i64 x.set, .int .i64 x.ix, .int .u8 x.code, .int .u8 x.d, .int .u16 x.n, .int .i64 x.len] 29) = w1 at k ⊢
  have i0 := k.i0
  have hS1 := HU.out _ k.drew
  clear k
  go_wp2_with fail
  clear i0
  go_region_held3 (fun u => (u.cell? ⟨w.heap.size, 1, none⟩ = some (.int .i64 x.ix) ∧ u.cell? ⟨w.heap.size, 2, none⟩ = some (.int .u8 x.code) ∧ u.cell? ⟨w.heap.size, 3, none⟩ = some (.int .u8 x.d)) ∧ BxAt w x u) (assumption) ((first | (go_at_call 31; refine (C0.out _ (by assumption)).mono ?_; rintro e w' ⟨rfl, hE⟩) | (go_at_call 28; refine (C1.out _ (by assumption)).mono ?_; rintro e w' ⟨rfl, hF⟩)))
  have k := hF.2
  clear hF hE hS1
  have i2 := k.i2
  have B := Lib.hid k.below
  clear k
  go_wp2_with fail
  go_ret
  exact ⟨rfl, B.out⟩
set_option maxRecDepth 100000 in
set_option maxHeartbeats 1600000 in
theorem refShow3c (x : In) (pc : Nat) (w : World) (ok : x.Ok) (hs : x.set = 3) (q1 : ((x.code : Int) / 64 != 1) = true) (q6 : ((x.code : Int) % 8 != 6) = true) : Calls Tryd.prog 13 #[.agg x.arr, .int .u16 pc] w fun e w' => e = .returned (.string (strL (bitsF x.code (awL x.ix x.d) ++ [44] ++ regsL.getD (x.code % 8) []))) ∧ Below w.heap.size w w' := by
  have e0 : (x.set == 0) = false := by rw [hs]; rfl
  have e1 : (x.set == 1) = false := by rw [hs]; rfl
  have e2 : (x.set == 2) = false := by rw [hs]; rfl
  have e3 : (x.set == 3) = true := by rw [hs]; rfl
  have a8 := awL_len x.ix x.d ok.d
  obtain ⟨Y, hY⟩ : ∃ Y, awL x.ix x.d = Y := ⟨_, rfl⟩
  rw [hY] at a8
  rw [hY]
  obtain ⟨T, hT⟩ : ∃ T, bitsF x.code Y = T := ⟨_, rfl⟩
  have hTl : T.length ≤ 20 := by rw [← hT]; exact bitsF_le x.code _ (by omega)
  rw [hT]
  have HU := Lib.hid (show ∀ u, BxAt w x u → (fun u => (u.cell? ⟨w.heap.size, 1, none⟩ = some (.int .i64 x.ix) ∧ u.cell? ⟨w.heap.size, 2, none⟩ = some (.int .u8 x.code) ∧ u.cell? ⟨w.heap.size, 3, none⟩ = some (.int .u8 x.d)) ∧ BxAt w x u) u from fun u hu => ⟨⟨hu.i1, hu.i2, hu.i3⟩, hu⟩)
  have C0 := Lib.hid (show ∀ u, (fun u => (u.cell? ⟨w.heap.size, 1, none⟩ = some (.int .i64 x.ix) ∧ u.cell? ⟨w.heap.size, 2, none⟩ = some (.int .u8 x.code) ∧ u.cell? ⟨w.heap.size, 3, none⟩ = some (.int .u8 x.d)) ∧ BxAt w x u) u → Calls Tryd.prog 31 #[.int .i64 x.ix, .int .u8 x.d] u fun e w' => e = .returned (.string (strL Y)) ∧ (fun u => (u.cell? ⟨w.heap.size, 1, none⟩ = some (.int .i64 x.ix) ∧ u.cell? ⟨w.heap.size, 2, none⟩ = some (.int .u8 x.code) ∧ u.cell? ⟨w.heap.size, 3, none⟩ = some (.int .u8 x.d)) ∧ BxAt w x u) w' from fun u hu => hY ▸ (refAway x.ix x.d u ok.d).mono fun _ _ ⟨he, hw⟩ => ⟨he, hw ▸ hu⟩)
  have C1 := Lib.hid (show ∀ u, (fun u => (u.cell? ⟨w.heap.size, 1, none⟩ = some (.int .i64 x.ix) ∧ u.cell? ⟨w.heap.size, 2, none⟩ = some (.int .u8 x.code) ∧ u.cell? ⟨w.heap.size, 3, none⟩ = some (.int .u8 x.d)) ∧ BxAt w x u) u → Calls Tryd.prog 28 #[.int .u8 x.code, .string (strL Y)] u fun e w' => e = .returned (.string (strL T)) ∧ (fun u => (u.cell? ⟨w.heap.size, 1, none⟩ = some (.int .i64 x.ix) ∧ u.cell? ⟨w.heap.size, 2, none⟩ = some (.int .u8 x.code) ∧ u.cell? ⟨w.heap.size, 3, none⟩ = some (.int .u8 x.d)) ∧ BxAt w x u) w' from fun u hu => hT ▸ (refBits x.code Y u ok.code (by omega)).mono fun _ _ ⟨he, hb⟩ => ⟨he, HU.out _ (hu.2.later hb)⟩)
  have K := Lib.hid (bx_made w x 29)
  have cc0 : (0 : Int) ≤ x.code := by omega
  have cc1 : (x.code : Int) ≤ 255 := by have := ok.code; omega
  have q6n : ¬ x.code % 8 = 6 := by rw [bne_iff_ne] at q6; omega
  obtain ⟨z, hz⟩ : ∃ z, x.code % 8 = z := ⟨_, rfl⟩
  have wz : (x.code : Int).tmod 8 = (z : Int) := by rw [Int.tmod_eq_emod_of_nonneg (by omega)]; omega
  have hcc := ok.code
  have wcv : IntKind.i64.wrap (x.code : Int) = x.code := IntWalk.i64_in _ (by omega)
  have c0 : (0 : Int) ≤ x.code := by omega
  have z0 : (0 : Int) ≤ z := by omega
  have z8 : (z : Int) < 8 := by omega
  have z8n : z < 8 := by omega
  obtain ⟨R, hR⟩ : ∃ R, regsL.getD z [] = R := ⟨_, rfl⟩
  have HR := Lib.hid (fun g u (h : TabS g 8 regsL u) => lists_at h z z8n R hR)
  have r1 : (strL R).size ≤ 4 := strL_le _ _ (by rw [← hR]; exact regsL_le _)
  have t1 : (strL T).size ≤ 20 := strL_le _ _ hTl
  have HZ := Lib.hid (show strL T ++ ⟨#[44]⟩ ++ strL R = strL (T ++ [44] ++ regsL.getD (x.code % 8) []) by rw [hz, hR]; show strL T ++ strL [44] ++ strL R = _; rw [strL_app, strL_app])
  obtain ⟨V, hV⟩ : ∃ V, strL (T ++ [44] ++ regsL.getD (x.code % 8) []) = V := ⟨_, rfl⟩
  rw [hV] at HZ
  rw [hV]
  have HU3 := Lib.hid (show ∀ u, BxAt w x u → (fun u => (u.cell? ⟨w.heap.size, 2, none⟩ = some (.int .u8 x.code)) ∧ BxAt w x u) u from fun u hu => ⟨hu.i2, hu⟩)
  have g1 : ¬ (9223372036854775807 < (strL T).size + 1) := by omega
  have g2 : ¬ (9223372036854775807 < (strL T).size + 1 + (strL R).size) := by omega
  have z6a : ((z : Int) == 6) = false := by rw [beq_eq_false_iff_ne]; omega
  have z6b : ((z : Int) != 6) = true := by rw [bne_iff_ne]; omega
  clear hR hz hV hcc q6n
  clear hs ok a8 hT hY
  unfold In.arr at *
  go_enter Tryd.func13, Tryd.ntmps13
  go_upto_region 1 with (fail)
  have k := K.out
  clear K
  generalize w.alloc (.cells #[.int .i64 x.set, .int .i64 x.ix, .int .u8 x.code, .int .u8 x.d, .int .u16 x.n, .int .i64 x.len] 29) = w1 at k ⊢
  have i0 := k.i0
  have hS1 := HU.out _ k.drew
  clear k
  go_wp2_with fail
  clear i0
  go_region_held3 (fun u => (u.cell? ⟨w.heap.size, 1, none⟩ = some (.int .i64 x.ix) ∧ u.cell? ⟨w.heap.size, 2, none⟩ = some (.int .u8 x.code) ∧ u.cell? ⟨w.heap.size, 3, none⟩ = some (.int .u8 x.d)) ∧ BxAt w x u) (assumption) ((first | (go_at_call 31; refine (C0.out _ (by assumption)).mono ?_; rintro e w' ⟨rfl, hE⟩) | (go_at_call 28; refine (C1.out _ (by assumption)).mono ?_; rintro e w' ⟨rfl, hF⟩)))
  have k := hF.2
  clear hF hE hS1
  have i2 := k.i2
  have hS1 := HU3.out _ k.drew
  clear k
  go_wp2_with fail
  clear i2
  first | refine wp_region_noPanic ?_ | skip
  refine wp_region_held_drew (S := (fun u => (u.cell? ⟨w.heap.size, 2, none⟩ = some (.int .u8 x.code)) ∧ BxAt w x u)) (by kernel_rfl) hS1 (fun hHeld => ?_)
  refine wpAnyH_take (i := 0) (v := ?v1) rfl (by kernel_rfl) (by kernel_rfl) (by kernel_rfl) (fun _ _ _ h => h) (Or.inl ⟨by rfl, ?hy1⟩) (by assumption) ?rest1
  case hy1 => (intro w hSw; (try dsimp only at hSw); go_simp; (try with_reducible rfl))
  try simp only [Act.put, List.getElem_toArray, List.getElem_cons_succ, List.getElem_cons_zero, List.setIfInBounds_toArray, List.set_cons_zero, List.set_cons_succ]
  refine wpAnyH_take (i := 3) (v := ?v2) rfl (by kernel_rfl) (by kernel_rfl) (by kernel_rfl) (fun _ _ _ h => h) (Or.inl ⟨by rfl, ?hy2⟩) (by assumption) ?rest2
  case hy2 => (intro w hSw; (try dsimp only at hSw); go_simp; (try with_reducible rfl))
  try simp only [Act.put, List.getElem_toArray, List.getElem_cons_succ, List.getElem_cons_zero, List.setIfInBounds_toArray, List.set_cons_zero, List.set_cons_succ]
  refine wpAnyH_take (i := 1) (v := ?v3) rfl (by kernel_rfl) (by kernel_rfl) (by kernel_rfl) (fun _ _ _ h => h) (Or.inl ⟨by rfl, ?hy3⟩) (by assumption) ?rest3
  case hy3 => (intro w hSw; (try dsimp only at hSw); go_simp; (try with_reducible rfl))
  try simp only [Act.put, List.getElem_toArray, List.getElem_cons_succ, List.getElem_cons_zero, List.setIfInBounds_toArray, List.set_cons_zero, List.set_cons_succ]
  refine wpAnyH_take (i := 4) (v := ?v4) rfl (by kernel_rfl) (by kernel_rfl) (by kernel_rfl) (fun _ _ _ h => h) (Or.inl ⟨by rfl, ?hy4⟩) (by assumption) ?rest4
  case hy4 => (intro w hSw; (try dsimp only at hSw); go_simp; (try with_reducible rfl))
  try simp only [Act.put, List.getElem_toArray, List.getElem_cons_succ, List.getElem_cons_zero, List.setIfInBounds_toArray, List.set_cons_zero, List.set_cons_succ]
  refine wpAnyH_take (i := 5) (v := ?v5) rfl (by kernel_rfl) (by kernel_rfl) (by kernel_rfl) (fun _ _ _ h => h) (Or.inl ⟨by rfl, ?hy5⟩) (by assumption) ?rest5
  case hy5 => (intro w hSw; (try dsimp only at hSw); go_simp; (try with_reducible rfl))
  try simp only [Act.put, List.getElem_toArray, List.getElem_cons_succ, List.getElem_cons_zero, List.setIfInBounds_toArray, List.set_cons_zero, List.set_cons_succ]
  refine wpAnyH_take (i := 6) (v := ?v6) rfl (by kernel_rfl) (by kernel_rfl) (by kernel_rfl) (fun _ _ _ h => h) (Or.inl ⟨by rfl, ?hy6⟩) (by assumption) ?rest6
  case hy6 => (intro w hSw; (try dsimp only at hSw); go_simp; (try with_reducible rfl))
  try simp only [Act.put, List.getElem_toArray, List.getElem_cons_succ, List.getElem_cons_zero, List.setIfInBounds_toArray, List.set_cons_zero, List.set_cons_succ]
  refine wpAnyH_ready (rs := [2]) (by kernel_rfl) (by simp) ?_
  refine (AllReadyH.cons (o := _) rfl (fun K hK => ?_) AllReadyH.nil)
  go_simp
  refine (ref_regs _).mono ?_
  intro e wd1 hE1
  obtain ⟨gA, rfl, hgA, hTA, hb1⟩ := hE1
  have hS2 : (fun u => (u.cell? ⟨w.heap.size, 2, none⟩ = some (.int .u8 x.code)) ∧ BxAt w x u) wd1 := HU3.out _ (hS1.2.later hb1)
  go_wp2_with fail
  refine hK.out _ _ hS2 (fun hHeld => ?_)
  clear hK K
  try simp only [Act.put, List.getElem_toArray, List.getElem_cons_succ, List.getElem_cons_zero, List.setIfInBounds_toArray, List.set_cons_zero, List.set_cons_succ]
  refine wpAnyH_take (i := 7) (v := ?v7) rfl (by kernel_rfl) (by kernel_rfl) (by kernel_rfl) (fun _ _ _ h => h) (Or.inl ⟨by rfl, ?hy7⟩) (by assumption) ?rest7
  case hy7 => (intro w hSw; (try dsimp only at hSw); go_simp; (try with_reducible rfl))
  try simp only [Act.put, List.getElem_toArray, List.getElem_cons_succ, List.getElem_cons_zero, List.setIfInBounds_toArray, List.set_cons_zero, List.set_cons_succ]
  refine wpAnyH_ready (rs := [8]) (by kernel_rfl) (by simp) ?_
  refine (AllReadyH.cons (o := _) rfl (fun K hK => ?_) AllReadyH.nil)
  have ckA := HR.out gA _ hTA
  go_simp
  refine hK.out _ _ (by assumption) (fun hHeld => ?_)
  clear hK K
  try simp only [Act.put, List.getElem_toArray, List.getElem_cons_succ, List.getElem_cons_zero, List.setIfInBounds_toArray, List.set_cons_zero, List.set_cons_succ]
  refine wpAnyH_take (i := 9) (v := ?v8) rfl (by kernel_rfl) (by kernel_rfl) (by kernel_rfl) (fun _ _ _ h => h) (Or.inl ⟨by rfl, ?hy8⟩) (by assumption) ?rest8
  case hy8 => (intro w hSw; (try dsimp only at hSw); go_simp; (try with_reducible rfl))
  try simp only [Act.put, List.getElem_toArray, List.getElem_cons_succ, List.getElem_cons_zero, List.setIfInBounds_toArray, List.set_cons_zero, List.set_cons_succ]
  refine wpAnyH_take (i := 10) (v := ?v9) rfl (by kernel_rfl) (by kernel_rfl) (by kernel_rfl) (fun _ _ _ h => h) (Or.inl ⟨by rfl, ?hy9⟩) (by assumption) ?rest9
  case hy9 => (intro w hSw; (try dsimp only at hSw); go_simp; (try with_reducible rfl))
  try simp only [Act.put, List.getElem_toArray, List.getElem_cons_succ, List.getElem_cons_zero, List.setIfInBounds_toArray, List.set_cons_zero, List.set_cons_succ]
  refine wpAnyH_done (by kernel_rfl) ?_ _
  first | refine NoPanic.normal ?_ | skip
  have B := Lib.hid hS2.2.below
  go_wp2_with fail
  go_ret
  exact ⟨by rw [← HZ.out]; rfl, B.out⟩
set_option maxRecDepth 100000 in
set_option maxHeartbeats 1600000 in
theorem refShow4 (x : In) (pc : Nat) (w : World) (hs : x.set = 4) : Calls Tryd.prog 13 #[.agg x.arr, .int .u16 pc] w fun e w' => e = .returned (.string (strL ([112, 114, 101, 102, 105, 120, 32] ++ nameL x.ix))) ∧ Below w.heap.size w w' := by
  have e0 : (x.set == 0) = false := by rw [hs]; rfl
  have e1 : (x.set == 1) = false := by rw [hs]; rfl
  have e2 : (x.set == 2) = false := by rw [hs]; rfl
  have e3 : (x.set == 3) = false := by rw [hs]; rfl
  have e4 : (x.set == 4) = true := by rw [hs]; rfl
  have n2 : (strL (nameL x.ix)).size ≤ 2 := strL_le _ _ (Nat.le_of_eq (nameL_len _))
  obtain ⟨V, hV⟩ : ∃ V, strL ([112, 114, 101, 102, 105, 120, 32] ++ nameL x.ix) = V := ⟨_, rfl⟩
  have HZ := Lib.hid (show (⟨#[112, 114, 101, 102, 105, 120, 32]⟩ : ByteArray) ++ strL (nameL x.ix) = V by rw [← hV]; show strL [112, 114, 101, 102, 105, 120, 32] ++ _ = _; rw [strL_app])
  rw [hV]
  clear hs hV
  unfold In.arr
  go_enter Tryd.func13, Tryd.ntmps13
  go_wp2_with fail
  refine (refName _ _).mono ?_
  rintro e w' ⟨rfl, rfl⟩
  go_wp2_with fail
  go_ret
  exact ⟨by rw [← HZ.out]; rfl, balloc w _⟩
set_option maxRecDepth 100000 in
set_option maxHeartbeats 1600000 in
theorem refShowE (x : In) (pc : Nat) (w : World) (h0 : (x.set == 0) = false) (h1 : (x.set == 1) = false) (h2 : (x.set == 2) = false) (h3 : (x.set == 3) = false) (h4 : (x.set == 4) = false) : Calls Tryd.prog 13 #[.agg x.arr, .int .u16 pc] w fun e w' => e = .returned (.string ⟨#[]⟩) ∧ Below w.heap.size w w' := by
  unfold In.arr
  go_enter Tryd.func13, Tryd.ntmps13
  go_wp2_with fail
  go_ret
  exact ⟨rfl, balloc w _⟩
theorem refShowAny (x : In) (pc : Nat) (w : World) (ok : x.Ok) (hpc : pc < 65536) (l0 : 0 ≤ x.len) (l8 : x.len ≤ 8) : Calls Tryd.prog 13 #[.agg x.arr, .int .u16 pc] w fun e w' => e = .returned (.string (strL (refShow x.set x.ix x.code x.d x.n (tgtN x pc)))) ∧ Below w.heap.size w w' := by
  unfold refShow
  by_cases s0 : x.set = 0
  · rw [if_pos s0]
    by_cases i1 : x.ix = 1
    · rw [show hasI x.ix = true by simp [hasI, i1], if_pos rfl]
      exact refShow0x x pc w ok hpc l0 l8 s0 (by simpa using i1)
    by_cases i2 : x.ix = 2
    · rw [show hasI x.ix = true by simp [hasI, i2], if_pos rfl]
      exact refShow0y x pc w ok hpc l0 l8 s0 (by simpa using i1) (by simpa using i2)
    · rw [show hasI x.ix = false by simp [hasI, i1, i2], if_neg (by decide)]
      exact refShow0n x pc w ok hpc l0 l8 s0 (by simpa using i1) (by simpa using i2)
  rw [if_neg s0]
  by_cases s1 : x.set = 1
  · rw [if_pos s1]; exact refShow1 x pc w ok s1
  rw [if_neg s1]
  by_cases s2 : x.set = 2
  · rw [if_pos s2]; exact refShow2 x pc w ok hpc l0 l8 s2
  rw [if_neg s2]
  by_cases s3 : x.set = 3
  · rw [if_pos s3]
    by_cases q1 : x.code / 64 = 1
    · rw [if_neg (by omega)]
      exact refShow3a x pc w ok s3 (by rw [bne_eq_false_iff_eq]; omega)
    by_cases q6 : x.code % 8 = 6
    · rw [if_neg (by omega)]
      exact refShow3b x pc w ok s3 (by rw [bne_iff_ne]; omega) (by rw [bne_eq_false_iff_eq]; omega)
    · rw [if_pos ⟨q1, q6⟩]
      exact refShow3c x pc w ok s3 (by rw [bne_iff_ne]; omega) (by rw [bne_iff_ne]; omega)
  rw [if_neg s3]
  by_cases s4 : x.set = 4
  · rw [if_pos s4]; exact refShow4 x pc w s4
  rw [if_neg s4]
  exact refShowE x pc w (by simpa using s0) (by simpa using s1) (by simpa using s2) (by simpa using s3) (by simpa using s4)

end Go.Proofs.YtkjibnnoeceaeaaDoor
