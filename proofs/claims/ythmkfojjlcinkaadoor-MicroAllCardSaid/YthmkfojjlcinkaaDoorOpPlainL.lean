/- The document's Plain, Args, Memory: their contracts. -/
import Derived.Test.YthmkfojjlcinkaaDoorOpRefLists
import Derived.Test.YthmkfojjlcinkaaDoorOpHas
import Derived.Deep.RegionHeld3
namespace Go.Proofs.YthmkfojjlcinkaaDoor
open Go.RowKit
set_option maxRecDepth 100000 in
set_option maxHeartbeats 1600000 in
theorem refPlainA (c : Nat) (w : World) (h1 : c < 64) : Calls Tryd.prog 23 #[.int .u8 c] w fun e w' => e = .returned (.string (strL (firstL.getD c []))) ∧ Below w.heap.size w w' := by
  obtain ⟨R, hR⟩ : ∃ R, firstL.getD c [] = R := ⟨_, rfl⟩
  rw [hR]
  have HR := Lib.hid hR
  clear hR
  have c0 : (0 : Int) ≤ c := by omega
  have cv : IntKind.i64.wrap (c : Int) = c := IntWalk.i64_in _ (by omega)
  go_enter Tryd.func23, Tryd.ntmps23
  go_wp2_with fail
  refine (ref_first _).mono ?_
  rintro e w1 ⟨g, rfl, hg, hT, hb⟩
  have ck := lists_at hT c (by omega) R HR.out
  clear hT
  go_wp2_with fail
  go_ret
  exact ⟨rfl, hb⟩
set_option maxRecDepth 100000 in
set_option maxHeartbeats 1600000 in
theorem refPlainZ (c : Nat) (w : World) (h1 : 192 ≤ c) (h2 : c < 256) : Calls Tryd.prog 23 #[.int .u8 c] w fun e w' => e = .returned (.string (strL (lastL.getD (c - 192) []))) ∧ Below w.heap.size w w' := by
  obtain ⟨R, hR⟩ : ∃ R, lastL.getD (c - 192) [] = R := ⟨_, rfl⟩
  rw [hR]
  have HR := Lib.hid hR
  clear hR
  have c0 : (0 : Int) ≤ c := by omega
  have cv : IntKind.i64.wrap (c : Int) = c := IntWalk.i64_in _ (by omega)
  go_enter Tryd.func23, Tryd.ntmps23
  go_wp2_with fail
  refine (ref_last _).mono ?_
  rintro e w1 ⟨g, rfl, hg, hT, hb⟩
  have ck := lists_at hT (c - 192) (by omega) R HR.out
  clear hT
  go_wp2_with fail
  go_ret
  exact ⟨rfl, hb⟩
set_option maxRecDepth 100000 in
set_option maxHeartbeats 1600000 in
theorem refPlainH (w : World) : Calls Tryd.prog 23 #[.int .u8 118] w fun e w' => e = .returned (.string (strL [104, 97, 108, 116])) ∧ w = w' := by
  go_enter Tryd.func23, Tryd.ntmps23
  go_wp2_with fail
  go_ret
  exact ⟨rfl, rfl⟩
set_option maxRecDepth 100000 in
set_option maxHeartbeats 1600000 in
theorem refPlainB (c : Nat) (w : World) (h1 : 64 ≤ c) (h2 : c < 128) (h3 : ((c : Int) == 118) = false) : Calls Tryd.prog 23 #[.int .u8 c] w fun e w' => e = .returned (.string (strL ([108, 100, 32] ++ regsL.getD (c / 8 % 8) [] ++ [44] ++ regsL.getD (c % 8) []))) ∧ Below w.heap.size w w' := by
  obtain ⟨q, hq⟩ : ∃ q, c / 8 = q := ⟨_, rfl⟩
  obtain ⟨y, hy⟩ : ∃ y, q % 8 = y := ⟨_, rfl⟩
  obtain ⟨z, hz⟩ : ∃ z, c % 8 = z := ⟨_, rfl⟩
  rw [hq, hy, hz]
  have wq : IntKind.i64.wrap ((c : Int) / 8) = (q : Int) := by rw [IntWalk.i64_in _ (by omega)]; omega
  have wy : (q : Int).tmod 8 = (y : Int) := by rw [Int.tmod_eq_emod_of_nonneg (by omega)]; omega
  have wz : (c : Int).tmod 8 = (z : Int) := by rw [Int.tmod_eq_emod_of_nonneg (by omega)]; omega
  have wcv : IntKind.i64.wrap (c : Int) = c := IntWalk.i64_in _ (by omega)
  have c0 : (0 : Int) ≤ c := by omega
  have q0 : (0 : Int) ≤ q := by omega
  have y0 : (0 : Int) ≤ y := by omega
  have y8 : (y : Int) < 8 := by omega
  have z0 : (0 : Int) ≤ z := by omega
  have z8 : (z : Int) < 8 := by omega
  have y8n : y < 8 := by omega
  have z8n : z < 8 := by omega
  obtain ⟨R, hR⟩ : ∃ R, regsL.getD y [] = R := ⟨_, rfl⟩
  obtain ⟨V, hV⟩ : ∃ V, regsL.getD z [] = V := ⟨_, rfl⟩
  rw [hR, hV]
  have r1 : (strL R).size ≤ 6 := strL_le _ _ (by rw [← hR]; exact Nat.le_trans (regsL_le _) (by decide))
  have v1 : (strL V).size ≤ 4 := strL_le _ _ (by rw [← hV]; exact regsL_le _)
  have HR := Lib.hid (fun g u (h : TabS g 8 regsL u) => lists_at h y y8n R hR)
  have HV := Lib.hid (fun g u (h : TabS g 8 regsL u) => lists_at h z z8n V hV)
  obtain ⟨T, hTT⟩ : ∃ T, strL ([108, 100, 32] ++ R ++ [44] ++ V) = T := ⟨_, rfl⟩
  rw [hTT]
  have HZ := Lib.hid (show (⟨#[108, 100, 32]⟩ : ByteArray) ++ strL R ++ ⟨#[44]⟩ ++ strL V = T by rw [← hTT]; show strL [108, 100, 32] ++ strL R ++ strL [44] ++ strL V = _; rw [strL_app, strL_app, strL_app])
  have g1 : ¬ (9223372036854775807 < 3 + (strL R).size) := by omega
  have g2 : ¬ (9223372036854775807 < 3 + (strL R).size + 1) := by omega
  have g3 : ¬ (9223372036854775807 < 3 + (strL R).size + 1 + (strL V).size) := by omega
  have hS0 : (fun u => Below w.heap.size w u) w.drew := (Below.refl _ _).drew
  clear hR hV hq hy hz y8n z8n hTT
  go_enter Tryd.func23, Tryd.ntmps23
  go_wp2_with fail
  first | refine wp_region_noPanic ?_ | skip
  refine wp_region_held_drew (S := (fun u => Below w.heap.size w u)) (by kernel_rfl) hS0 (fun hHeld => ?_)
  refine wpAnyH_take (i := 1) (v := ?v1) rfl (by kernel_rfl) (by kernel_rfl) (by kernel_rfl) (fun _ _ _ h => h) (Or.inl ⟨by rfl, ?hy1⟩) (by assumption) ?rest1
  case hy1 => (intro w hSw; (try dsimp only at hSw); go_simp; (try with_reducible rfl))
  try simp only [Act.put, List.getElem_toArray, List.getElem_cons_succ, List.getElem_cons_zero, List.setIfInBounds_toArray, List.set_cons_zero, List.set_cons_succ]
  refine wpAnyH_take (i := 9) (v := ?v2) rfl (by kernel_rfl) (by kernel_rfl) (by kernel_rfl) (fun _ _ _ h => h) (Or.inl ⟨by rfl, ?hy2⟩) (by assumption) ?rest2
  case hy2 => (intro w hSw; (try dsimp only at hSw); go_simp; (try with_reducible rfl))
  try simp only [Act.put, List.getElem_toArray, List.getElem_cons_succ, List.getElem_cons_zero, List.setIfInBounds_toArray, List.set_cons_zero, List.set_cons_succ]
  refine wpAnyH_take (i := 2) (v := ?v3) rfl (by kernel_rfl) (by kernel_rfl) (by kernel_rfl) (fun _ _ _ h => h) (Or.inl ⟨by rfl, ?hy3⟩) (by assumption) ?rest3
  case hy3 => (intro w hSw; (try dsimp only at hSw); go_simp; (try with_reducible rfl))
  try simp only [Act.put, List.getElem_toArray, List.getElem_cons_succ, List.getElem_cons_zero, List.setIfInBounds_toArray, List.set_cons_zero, List.set_cons_succ]
  refine wpAnyH_take (i := 10) (v := ?v4) rfl (by kernel_rfl) (by kernel_rfl) (by kernel_rfl) (fun _ _ _ h => h) (Or.inl ⟨by rfl, ?hy4⟩) (by assumption) ?rest4
  case hy4 => (intro w hSw; (try dsimp only at hSw); go_simp; (try with_reducible rfl))
  try simp only [Act.put, List.getElem_toArray, List.getElem_cons_succ, List.getElem_cons_zero, List.setIfInBounds_toArray, List.set_cons_zero, List.set_cons_succ]
  refine wpAnyH_take (i := 3) (v := ?v5) rfl (by kernel_rfl) (by kernel_rfl) (by kernel_rfl) (fun _ _ _ h => h) (Or.inl ⟨by rfl, ?hy5⟩) (by assumption) ?rest5
  case hy5 => (intro w hSw; (try dsimp only at hSw); go_simp; (try with_reducible rfl))
  try simp only [Act.put, List.getElem_toArray, List.getElem_cons_succ, List.getElem_cons_zero, List.setIfInBounds_toArray, List.set_cons_zero, List.set_cons_succ]
  refine wpAnyH_ready (rs := [0]) (by kernel_rfl) (by simp) ?_
  refine (AllReadyH.cons (o := _) rfl (fun K hK => ?_) AllReadyH.nil)
  go_simp
  refine (ref_regs _).mono ?_
  intro e wd1 hE1
  obtain ⟨gA, rfl, hgA, hTA, hb1⟩ := hE1
  have hS2 : (fun u => Below w.heap.size w u) wd1 := below_step (show Below w.heap.size w _ by assumption) hb1
  go_wp2_with fail
  refine hK.out _ _ hS2 (fun hHeld => ?_)
  clear hK K
  try simp only [Act.put, List.getElem_toArray, List.getElem_cons_succ, List.getElem_cons_zero, List.setIfInBounds_toArray, List.set_cons_zero, List.set_cons_succ]
  refine wpAnyH_take (i := 4) (v := ?v6) rfl (by kernel_rfl) (by kernel_rfl) (by kernel_rfl) (fun _ _ _ h => h) (Or.inl ⟨by rfl, ?hy6⟩) (by assumption) ?rest6
  case hy6 => (intro w hSw; (try dsimp only at hSw); go_simp; (try with_reducible rfl))
  try simp only [Act.put, List.getElem_toArray, List.getElem_cons_succ, List.getElem_cons_zero, List.setIfInBounds_toArray, List.set_cons_zero, List.set_cons_succ]
  refine wpAnyH_ready (rs := [5, 8]) (by kernel_rfl) (by simp) ?_
  refine (AllReadyH.cons (o := _) rfl (fun K hK => ?_) (AllReadyH.cons (o := _) rfl (fun K hK => ?_) AllReadyH.nil))
  · skip
    have ckA := HR.out gA _ hTA
    go_simp
    refine hK.out _ _ (by assumption) (fun hHeld => ?_)
    clear hK K
    try simp only [Act.put, List.getElem_toArray, List.getElem_cons_succ, List.getElem_cons_zero, List.setIfInBounds_toArray, List.set_cons_zero, List.set_cons_succ]
    refine wpAnyH_take (i := 6) (v := ?v7) rfl (by kernel_rfl) (by kernel_rfl) (by kernel_rfl) (fun _ _ _ h => h) (Or.inl ⟨by rfl, ?hy7⟩) (by assumption) ?rest7
    case hy7 => (intro w hSw; (try dsimp only at hSw); go_simp; (try with_reducible rfl))
    try simp only [Act.put, List.getElem_toArray, List.getElem_cons_succ, List.getElem_cons_zero, List.setIfInBounds_toArray, List.set_cons_zero, List.set_cons_succ]
    refine wpAnyH_take (i := 7) (v := ?v8) rfl (by kernel_rfl) (by kernel_rfl) (by kernel_rfl) (fun _ _ _ h => h) (Or.inl ⟨by rfl, ?hy8⟩) (by assumption) ?rest8
    case hy8 => (intro w hSw; (try dsimp only at hSw); go_simp; (try with_reducible rfl))
    try simp only [Act.put, List.getElem_toArray, List.getElem_cons_succ, List.getElem_cons_zero, List.setIfInBounds_toArray, List.set_cons_zero, List.set_cons_succ]
    refine wpAnyH_ready (rs := [8]) (by kernel_rfl) (by simp) ?_
    refine (AllReadyH.cons (o := _) rfl (fun K hK => ?_) AllReadyH.nil)
    go_simp
    refine (ref_regs _).mono ?_
    intro e wd2 hE2
    obtain ⟨gB, rfl, hgB, hTB, hb2⟩ := hE2
    have hTA_2 := (hTA).below (Nat.lt_of_lt_of_le hgA (by first | exact Nat.le_refl _ | exact hSzA)) hb2
    have hS3 : (fun u => Below w.heap.size w u) wd2 := below_step (show Below w.heap.size w _ by assumption) hb2
    go_wp2_with fail
    refine hK.out _ _ hS3 (fun hHeld => ?_)
    clear hK K
    try simp only [Act.put, List.getElem_toArray, List.getElem_cons_succ, List.getElem_cons_zero, List.setIfInBounds_toArray, List.set_cons_zero, List.set_cons_succ]
    refine wpAnyH_take (i := 11) (v := ?v9) rfl (by kernel_rfl) (by kernel_rfl) (by kernel_rfl) (fun _ _ _ h => h) (Or.inl ⟨by rfl, ?hy9⟩) (by assumption) ?rest9
    case hy9 => (intro w hSw; (try dsimp only at hSw); go_simp; (try with_reducible rfl))
    try simp only [Act.put, List.getElem_toArray, List.getElem_cons_succ, List.getElem_cons_zero, List.setIfInBounds_toArray, List.set_cons_zero, List.set_cons_succ]
    refine wpAnyH_ready (rs := [12]) (by kernel_rfl) (by simp) ?_
    refine (AllReadyH.cons (o := _) rfl (fun K hK => ?_) AllReadyH.nil)
    have ckB := HV.out gB _ hTB
    go_simp
    refine hK.out _ _ (by assumption) (fun hHeld => ?_)
    clear hK K
    try simp only [Act.put, List.getElem_toArray, List.getElem_cons_succ, List.getElem_cons_zero, List.setIfInBounds_toArray, List.set_cons_zero, List.set_cons_succ]
    refine wpAnyH_take (i := 13) (v := ?v10) rfl (by kernel_rfl) (by kernel_rfl) (by kernel_rfl) (fun _ _ _ h => h) (Or.inl ⟨by rfl, ?hy10⟩) (by assumption) ?rest10
    case hy10 => (intro w hSw; (try dsimp only at hSw); go_simp; (try with_reducible rfl))
    try simp only [Act.put, List.getElem_toArray, List.getElem_cons_succ, List.getElem_cons_zero, List.setIfInBounds_toArray, List.set_cons_zero, List.set_cons_succ]
    refine wpAnyH_take (i := 14) (v := ?v11) rfl (by kernel_rfl) (by kernel_rfl) (by kernel_rfl) (fun _ _ _ h => h) (Or.inl ⟨by rfl, ?hy11⟩) (by assumption) ?rest11
    case hy11 => (intro w hSw; (try dsimp only at hSw); go_simp; (try with_reducible rfl))
    try simp only [Act.put, List.getElem_toArray, List.getElem_cons_succ, List.getElem_cons_zero, List.setIfInBounds_toArray, List.set_cons_zero, List.set_cons_succ]
    refine wpAnyH_done (by kernel_rfl) ?_ _
    first | refine NoPanic.normal ?_ | skip
    have HB := Lib.hid (show Below w.heap.size w wd2 by assumption)
    skip
    go_wp2_with fail
    go_ret
    exact ⟨by rw [← HZ.out]; rfl, HB.out⟩
  · skip
    go_simp
    refine (ref_regs _).mono ?_
    intro e wd2 hE2
    obtain ⟨gB, rfl, hgB, hTB, hb2⟩ := hE2
    have hTA_2 := (hTA).below (Nat.lt_of_lt_of_le hgA (by first | exact Nat.le_refl _ | exact hSzA)) hb2
    have hS3 : (fun u => Below w.heap.size w u) wd2 := below_step (show Below w.heap.size w _ by assumption) hb2
    go_wp2_with fail
    refine hK.out _ _ hS3 (fun hHeld => ?_)
    clear hK K
    try simp only [Act.put, List.getElem_toArray, List.getElem_cons_succ, List.getElem_cons_zero, List.setIfInBounds_toArray, List.set_cons_zero, List.set_cons_succ]
    refine wpAnyH_take (i := 11) (v := ?v12) rfl (by kernel_rfl) (by kernel_rfl) (by kernel_rfl) (fun _ _ _ h => h) (Or.inl ⟨by rfl, ?hy12⟩) (by assumption) ?rest12
    case hy12 => (intro w hSw; (try dsimp only at hSw); go_simp; (try with_reducible rfl))
    try simp only [Act.put, List.getElem_toArray, List.getElem_cons_succ, List.getElem_cons_zero, List.setIfInBounds_toArray, List.set_cons_zero, List.set_cons_succ]
    refine wpAnyH_ready (rs := [5, 12]) (by kernel_rfl) (by simp) ?_
    refine (AllReadyH.cons (o := _) rfl (fun K hK => ?_) (AllReadyH.cons (o := _) rfl (fun K hK => ?_) AllReadyH.nil))
    · skip
      have ckA := HR.out gA _ hTA_2
      go_simp
      refine hK.out _ _ (by assumption) (fun hHeld => ?_)
      clear hK K
      try simp only [Act.put, List.getElem_toArray, List.getElem_cons_succ, List.getElem_cons_zero, List.setIfInBounds_toArray, List.set_cons_zero, List.set_cons_succ]
      refine wpAnyH_take (i := 6) (v := ?v13) rfl (by kernel_rfl) (by kernel_rfl) (by kernel_rfl) (fun _ _ _ h => h) (Or.inl ⟨by rfl, ?hy13⟩) (by assumption) ?rest13
      case hy13 => (intro w hSw; (try dsimp only at hSw); go_simp; (try with_reducible rfl))
      try simp only [Act.put, List.getElem_toArray, List.getElem_cons_succ, List.getElem_cons_zero, List.setIfInBounds_toArray, List.set_cons_zero, List.set_cons_succ]
      refine wpAnyH_take (i := 7) (v := ?v14) rfl (by kernel_rfl) (by kernel_rfl) (by kernel_rfl) (fun _ _ _ h => h) (Or.inl ⟨by rfl, ?hy14⟩) (by assumption) ?rest14
      case hy14 => (intro w hSw; (try dsimp only at hSw); go_simp; (try with_reducible rfl))
      try simp only [Act.put, List.getElem_toArray, List.getElem_cons_succ, List.getElem_cons_zero, List.setIfInBounds_toArray, List.set_cons_zero, List.set_cons_succ]
      refine wpAnyH_ready (rs := [12]) (by kernel_rfl) (by simp) ?_
      refine (AllReadyH.cons (o := _) rfl (fun K hK => ?_) AllReadyH.nil)
      have ckB := HV.out gB _ hTB
      go_simp
      refine hK.out _ _ (by assumption) (fun hHeld => ?_)
      clear hK K
      try simp only [Act.put, List.getElem_toArray, List.getElem_cons_succ, List.getElem_cons_zero, List.setIfInBounds_toArray, List.set_cons_zero, List.set_cons_succ]
      refine wpAnyH_take (i := 13) (v := ?v15) rfl (by kernel_rfl) (by kernel_rfl) (by kernel_rfl) (fun _ _ _ h => h) (Or.inl ⟨by rfl, ?hy15⟩) (by assumption) ?rest15
      case hy15 => (intro w hSw; (try dsimp only at hSw); go_simp; (try with_reducible rfl))
      try simp only [Act.put, List.getElem_toArray, List.getElem_cons_succ, List.getElem_cons_zero, List.setIfInBounds_toArray, List.set_cons_zero, List.set_cons_succ]
      refine wpAnyH_take (i := 14) (v := ?v16) rfl (by kernel_rfl) (by kernel_rfl) (by kernel_rfl) (fun _ _ _ h => h) (Or.inl ⟨by rfl, ?hy16⟩) (by assumption) ?rest16
      case hy16 => (intro w hSw; (try dsimp only at hSw); go_simp; (try with_reducible rfl))
      try simp only [Act.put, List.getElem_toArray, List.getElem_cons_succ, List.getElem_cons_zero, List.setIfInBounds_toArray, List.set_cons_zero, List.set_cons_succ]
      refine wpAnyH_done (by kernel_rfl) ?_ _
      first | refine NoPanic.normal ?_ | skip
      have HB := Lib.hid (show Below w.heap.size w wd2 by assumption)
      skip
      go_wp2_with fail
      go_ret
      exact ⟨by rw [← HZ.out]; rfl, HB.out⟩
    · skip
      have ckB := HV.out gB _ hTB
      go_simp
      refine hK.out _ _ (by assumption) (fun hHeld => ?_)
      clear hK K
      try simp only [Act.put, List.getElem_toArray, List.getElem_cons_succ, List.getElem_cons_zero, List.setIfInBounds_toArray, List.set_cons_zero, List.set_cons_succ]
      refine wpAnyH_ready (rs := [5]) (by kernel_rfl) (by simp) ?_
      refine (AllReadyH.cons (o := _) rfl (fun K hK => ?_) AllReadyH.nil)
      have ckA := HR.out gA _ hTA_2
      go_simp
      refine hK.out _ _ (by assumption) (fun hHeld => ?_)
      clear hK K
      try simp only [Act.put, List.getElem_toArray, List.getElem_cons_succ, List.getElem_cons_zero, List.setIfInBounds_toArray, List.set_cons_zero, List.set_cons_succ]
      refine wpAnyH_take (i := 6) (v := ?v17) rfl (by kernel_rfl) (by kernel_rfl) (by kernel_rfl) (fun _ _ _ h => h) (Or.inl ⟨by rfl, ?hy17⟩) (by assumption) ?rest17
      case hy17 => (intro w hSw; (try dsimp only at hSw); go_simp; (try with_reducible rfl))
      try simp only [Act.put, List.getElem_toArray, List.getElem_cons_succ, List.getElem_cons_zero, List.setIfInBounds_toArray, List.set_cons_zero, List.set_cons_succ]
      refine wpAnyH_take (i := 7) (v := ?v18) rfl (by kernel_rfl) (by kernel_rfl) (by kernel_rfl) (fun _ _ _ h => h) (Or.inl ⟨by rfl, ?hy18⟩) (by assumption) ?rest18
      case hy18 => (intro w hSw; (try dsimp only at hSw); go_simp; (try with_reducible rfl))
      try simp only [Act.put, List.getElem_toArray, List.getElem_cons_succ, List.getElem_cons_zero, List.setIfInBounds_toArray, List.set_cons_zero, List.set_cons_succ]
      refine wpAnyH_take (i := 13) (v := ?v19) rfl (by kernel_rfl) (by kernel_rfl) (by kernel_rfl) (fun _ _ _ h => h) (Or.inl ⟨by rfl, ?hy19⟩) (by assumption) ?rest19
      case hy19 => (intro w hSw; (try dsimp only at hSw); go_simp; (try with_reducible rfl))
      try simp only [Act.put, List.getElem_toArray, List.getElem_cons_succ, List.getElem_cons_zero, List.setIfInBounds_toArray, List.set_cons_zero, List.set_cons_succ]
      refine wpAnyH_take (i := 14) (v := ?v20) rfl (by kernel_rfl) (by kernel_rfl) (by kernel_rfl) (fun _ _ _ h => h) (Or.inl ⟨by rfl, ?hy20⟩) (by assumption) ?rest20
      case hy20 => (intro w hSw; (try dsimp only at hSw); go_simp; (try with_reducible rfl))
      try simp only [Act.put, List.getElem_toArray, List.getElem_cons_succ, List.getElem_cons_zero, List.setIfInBounds_toArray, List.set_cons_zero, List.set_cons_succ]
      refine wpAnyH_done (by kernel_rfl) ?_ _
      first | refine NoPanic.normal ?_ | skip
      have HB := Lib.hid (show Below w.heap.size w wd2 by assumption)
      skip
      go_wp2_with fail
      go_ret
      exact ⟨by rw [← HZ.out]; rfl, HB.out⟩
set_option maxRecDepth 100000 in
set_option maxHeartbeats 1600000 in
theorem refPlainC (c : Nat) (w : World) (h1 : 128 ≤ c) (h2 : c < 192) : Calls Tryd.prog 23 #[.int .u8 c] w fun e w' => e = .returned (.string (strL (opersL.getD (c / 8 % 8) [] ++ regsL.getD (c % 8) []))) ∧ Below w.heap.size w w' := by
  obtain ⟨q, hq⟩ : ∃ q, c / 8 = q := ⟨_, rfl⟩
  obtain ⟨y, hy⟩ : ∃ y, q % 8 = y := ⟨_, rfl⟩
  obtain ⟨z, hz⟩ : ∃ z, c % 8 = z := ⟨_, rfl⟩
  rw [hq, hy, hz]
  have wq : IntKind.i64.wrap ((c : Int) / 8) = (q : Int) := by rw [IntWalk.i64_in _ (by omega)]; omega
  have wy : (q : Int).tmod 8 = (y : Int) := by rw [Int.tmod_eq_emod_of_nonneg (by omega)]; omega
  have wz : (c : Int).tmod 8 = (z : Int) := by rw [Int.tmod_eq_emod_of_nonneg (by omega)]; omega
  have wcv : IntKind.i64.wrap (c : Int) = c := IntWalk.i64_in _ (by omega)
  have c0 : (0 : Int) ≤ c := by omega
  have q0 : (0 : Int) ≤ q := by omega
  have y0 : (0 : Int) ≤ y := by omega
  have y8 : (y : Int) < 8 := by omega
  have z0 : (0 : Int) ≤ z := by omega
  have z8 : (z : Int) < 8 := by omega
  have y8n : y < 8 := by omega
  have z8n : z < 8 := by omega
  obtain ⟨R, hR⟩ : ∃ R, opersL.getD y [] = R := ⟨_, rfl⟩
  obtain ⟨V, hV⟩ : ∃ V, regsL.getD z [] = V := ⟨_, rfl⟩
  rw [hR, hV]
  have r1 : (strL R).size ≤ 6 := strL_le _ _ (by rw [← hR]; exact opersL_le _)
  have v1 : (strL V).size ≤ 4 := strL_le _ _ (by rw [← hV]; exact regsL_le _)
  have HR := Lib.hid (fun g u (h : TabS g 8 opersL u) => lists_at h y y8n R hR)
  have HV := Lib.hid (fun g u (h : TabS g 8 regsL u) => lists_at h z z8n V hV)
  obtain ⟨T, hTT⟩ : ∃ T, strL (R ++ V) = T := ⟨_, rfl⟩
  rw [hTT]
  have HZ := Lib.hid (show strL R ++ strL V = T by rw [← hTT]; rw [strL_app])
  have g1 : ¬ (9223372036854775807 < (strL R).size + (strL V).size) := by omega
  have h3 : ((c : Int) == 118) = false := by rw [beq_eq_false_iff_ne]; omega
  have hS0 : (fun u => Below w.heap.size w u) w.drew := (Below.refl _ _).drew
  clear hR hV hq hy hz y8n z8n hTT
  go_enter Tryd.func23, Tryd.ntmps23
  go_wp2_with fail
  first | refine wp_region_noPanic ?_ | skip
  refine wp_region_held_drew (S := (fun u => Below w.heap.size w u)) (by kernel_rfl) hS0 (fun hHeld => ?_)
  refine wpAnyH_take (i := 1) (v := ?v1) rfl (by kernel_rfl) (by kernel_rfl) (by kernel_rfl) (fun _ _ _ h => h) (Or.inl ⟨by rfl, ?hy1⟩) (by assumption) ?rest1
  case hy1 => (intro w hSw; (try dsimp only at hSw); go_simp; (try with_reducible rfl))
  try simp only [Act.put, List.getElem_toArray, List.getElem_cons_succ, List.getElem_cons_zero, List.setIfInBounds_toArray, List.set_cons_zero, List.set_cons_succ]
  refine wpAnyH_take (i := 7) (v := ?v2) rfl (by kernel_rfl) (by kernel_rfl) (by kernel_rfl) (fun _ _ _ h => h) (Or.inl ⟨by rfl, ?hy2⟩) (by assumption) ?rest2
  case hy2 => (intro w hSw; (try dsimp only at hSw); go_simp; (try with_reducible rfl))
  try simp only [Act.put, List.getElem_toArray, List.getElem_cons_succ, List.getElem_cons_zero, List.setIfInBounds_toArray, List.set_cons_zero, List.set_cons_succ]
  refine wpAnyH_take (i := 2) (v := ?v3) rfl (by kernel_rfl) (by kernel_rfl) (by kernel_rfl) (fun _ _ _ h => h) (Or.inl ⟨by rfl, ?hy3⟩) (by assumption) ?rest3
  case hy3 => (intro w hSw; (try dsimp only at hSw); go_simp; (try with_reducible rfl))
  try simp only [Act.put, List.getElem_toArray, List.getElem_cons_succ, List.getElem_cons_zero, List.setIfInBounds_toArray, List.set_cons_zero, List.set_cons_succ]
  refine wpAnyH_take (i := 8) (v := ?v4) rfl (by kernel_rfl) (by kernel_rfl) (by kernel_rfl) (fun _ _ _ h => h) (Or.inl ⟨by rfl, ?hy4⟩) (by assumption) ?rest4
  case hy4 => (intro w hSw; (try dsimp only at hSw); go_simp; (try with_reducible rfl))
  try simp only [Act.put, List.getElem_toArray, List.getElem_cons_succ, List.getElem_cons_zero, List.setIfInBounds_toArray, List.set_cons_zero, List.set_cons_succ]
  refine wpAnyH_take (i := 3) (v := ?v5) rfl (by kernel_rfl) (by kernel_rfl) (by kernel_rfl) (fun _ _ _ h => h) (Or.inl ⟨by rfl, ?hy5⟩) (by assumption) ?rest5
  case hy5 => (intro w hSw; (try dsimp only at hSw); go_simp; (try with_reducible rfl))
  try simp only [Act.put, List.getElem_toArray, List.getElem_cons_succ, List.getElem_cons_zero, List.setIfInBounds_toArray, List.set_cons_zero, List.set_cons_succ]
  refine wpAnyH_ready (rs := [0]) (by kernel_rfl) (by simp) ?_
  refine (AllReadyH.cons (o := _) rfl (fun K hK => ?_) AllReadyH.nil)
  go_simp
  refine (ref_operations _).mono ?_
  intro e wd1 hE1
  obtain ⟨gA, rfl, hgA, hTA, hb1⟩ := hE1
  have hS2 : (fun u => Below w.heap.size w u) wd1 := below_step (show Below w.heap.size w _ by assumption) hb1
  go_wp2_with fail
  refine hK.out _ _ hS2 (fun hHeld => ?_)
  clear hK K
  try simp only [Act.put, List.getElem_toArray, List.getElem_cons_succ, List.getElem_cons_zero, List.setIfInBounds_toArray, List.set_cons_zero, List.set_cons_succ]
  refine wpAnyH_take (i := 4) (v := ?v6) rfl (by kernel_rfl) (by kernel_rfl) (by kernel_rfl) (fun _ _ _ h => h) (Or.inl ⟨by rfl, ?hy6⟩) (by assumption) ?rest6
  case hy6 => (intro w hSw; (try dsimp only at hSw); go_simp; (try with_reducible rfl))
  try simp only [Act.put, List.getElem_toArray, List.getElem_cons_succ, List.getElem_cons_zero, List.setIfInBounds_toArray, List.set_cons_zero, List.set_cons_succ]
  refine wpAnyH_ready (rs := [5, 6]) (by kernel_rfl) (by simp) ?_
  refine (AllReadyH.cons (o := _) rfl (fun K hK => ?_) (AllReadyH.cons (o := _) rfl (fun K hK => ?_) AllReadyH.nil))
  · skip
    have ckA := HR.out gA _ hTA
    go_simp
    refine hK.out _ _ (by assumption) (fun hHeld => ?_)
    clear hK K
    try simp only [Act.put, List.getElem_toArray, List.getElem_cons_succ, List.getElem_cons_zero, List.setIfInBounds_toArray, List.set_cons_zero, List.set_cons_succ]
    refine wpAnyH_ready (rs := [6]) (by kernel_rfl) (by simp) ?_
    refine (AllReadyH.cons (o := _) rfl (fun K hK => ?_) AllReadyH.nil)
    go_simp
    refine (ref_regs _).mono ?_
    intro e wd2 hE2
    obtain ⟨gB, rfl, hgB, hTB, hb2⟩ := hE2
    have hTA_2 := (hTA).below (Nat.lt_of_lt_of_le hgA (by first | exact Nat.le_refl _ | exact hSzA)) hb2
    have hS3 : (fun u => Below w.heap.size w u) wd2 := below_step (show Below w.heap.size w _ by assumption) hb2
    go_wp2_with fail
    refine hK.out _ _ hS3 (fun hHeld => ?_)
    clear hK K
    try simp only [Act.put, List.getElem_toArray, List.getElem_cons_succ, List.getElem_cons_zero, List.setIfInBounds_toArray, List.set_cons_zero, List.set_cons_succ]
    refine wpAnyH_take (i := 9) (v := ?v7) rfl (by kernel_rfl) (by kernel_rfl) (by kernel_rfl) (fun _ _ _ h => h) (Or.inl ⟨by rfl, ?hy7⟩) (by assumption) ?rest7
    case hy7 => (intro w hSw; (try dsimp only at hSw); go_simp; (try with_reducible rfl))
    try simp only [Act.put, List.getElem_toArray, List.getElem_cons_succ, List.getElem_cons_zero, List.setIfInBounds_toArray, List.set_cons_zero, List.set_cons_succ]
    refine wpAnyH_ready (rs := [10]) (by kernel_rfl) (by simp) ?_
    refine (AllReadyH.cons (o := _) rfl (fun K hK => ?_) AllReadyH.nil)
    have ckB := HV.out gB _ hTB
    go_simp
    refine hK.out _ _ (by assumption) (fun hHeld => ?_)
    clear hK K
    try simp only [Act.put, List.getElem_toArray, List.getElem_cons_succ, List.getElem_cons_zero, List.setIfInBounds_toArray, List.set_cons_zero, List.set_cons_succ]
    refine wpAnyH_take (i := 11) (v := ?v8) rfl (by kernel_rfl) (by kernel_rfl) (by kernel_rfl) (fun _ _ _ h => h) (Or.inl ⟨by rfl, ?hy8⟩) (by assumption) ?rest8
    case hy8 => (intro w hSw; (try dsimp only at hSw); go_simp; (try with_reducible rfl))
    try simp only [Act.put, List.getElem_toArray, List.getElem_cons_succ, List.getElem_cons_zero, List.setIfInBounds_toArray, List.set_cons_zero, List.set_cons_succ]
    refine wpAnyH_take (i := 12) (v := ?v9) rfl (by kernel_rfl) (by kernel_rfl) (by kernel_rfl) (fun _ _ _ h => h) (Or.inl ⟨by rfl, ?hy9⟩) (by assumption) ?rest9
    case hy9 => (intro w hSw; (try dsimp only at hSw); go_simp; (try with_reducible rfl))
    try simp only [Act.put, List.getElem_toArray, List.getElem_cons_succ, List.getElem_cons_zero, List.setIfInBounds_toArray, List.set_cons_zero, List.set_cons_succ]
    refine wpAnyH_done (by kernel_rfl) ?_ _
    first | refine NoPanic.normal ?_ | skip
    have HB := Lib.hid (show Below w.heap.size w wd2 by assumption)
    skip
    go_wp2_with fail
    go_ret
    exact ⟨by rw [← HZ.out]; rfl, HB.out⟩
  · skip
    go_simp
    refine (ref_regs _).mono ?_
    intro e wd2 hE2
    obtain ⟨gB, rfl, hgB, hTB, hb2⟩ := hE2
    have hTA_2 := (hTA).below (Nat.lt_of_lt_of_le hgA (by first | exact Nat.le_refl _ | exact hSzA)) hb2
    have hS3 : (fun u => Below w.heap.size w u) wd2 := below_step (show Below w.heap.size w _ by assumption) hb2
    go_wp2_with fail
    refine hK.out _ _ hS3 (fun hHeld => ?_)
    clear hK K
    try simp only [Act.put, List.getElem_toArray, List.getElem_cons_succ, List.getElem_cons_zero, List.setIfInBounds_toArray, List.set_cons_zero, List.set_cons_succ]
    refine wpAnyH_take (i := 9) (v := ?v10) rfl (by kernel_rfl) (by kernel_rfl) (by kernel_rfl) (fun _ _ _ h => h) (Or.inl ⟨by rfl, ?hy10⟩) (by assumption) ?rest10
    case hy10 => (intro w hSw; (try dsimp only at hSw); go_simp; (try with_reducible rfl))
    try simp only [Act.put, List.getElem_toArray, List.getElem_cons_succ, List.getElem_cons_zero, List.setIfInBounds_toArray, List.set_cons_zero, List.set_cons_succ]
    refine wpAnyH_ready (rs := [5, 10]) (by kernel_rfl) (by simp) ?_
    refine (AllReadyH.cons (o := _) rfl (fun K hK => ?_) (AllReadyH.cons (o := _) rfl (fun K hK => ?_) AllReadyH.nil))
    · skip
      have ckA := HR.out gA _ hTA_2
      go_simp
      refine hK.out _ _ (by assumption) (fun hHeld => ?_)
      clear hK K
      try simp only [Act.put, List.getElem_toArray, List.getElem_cons_succ, List.getElem_cons_zero, List.setIfInBounds_toArray, List.set_cons_zero, List.set_cons_succ]
      refine wpAnyH_ready (rs := [10]) (by kernel_rfl) (by simp) ?_
      refine (AllReadyH.cons (o := _) rfl (fun K hK => ?_) AllReadyH.nil)
      have ckB := HV.out gB _ hTB
      go_simp
      refine hK.out _ _ (by assumption) (fun hHeld => ?_)
      clear hK K
      try simp only [Act.put, List.getElem_toArray, List.getElem_cons_succ, List.getElem_cons_zero, List.setIfInBounds_toArray, List.set_cons_zero, List.set_cons_succ]
      refine wpAnyH_take (i := 11) (v := ?v11) rfl (by kernel_rfl) (by kernel_rfl) (by kernel_rfl) (fun _ _ _ h => h) (Or.inl ⟨by rfl, ?hy11⟩) (by assumption) ?rest11
      case hy11 => (intro w hSw; (try dsimp only at hSw); go_simp; (try with_reducible rfl))
      try simp only [Act.put, List.getElem_toArray, List.getElem_cons_succ, List.getElem_cons_zero, List.setIfInBounds_toArray, List.set_cons_zero, List.set_cons_succ]
      refine wpAnyH_take (i := 12) (v := ?v12) rfl (by kernel_rfl) (by kernel_rfl) (by kernel_rfl) (fun _ _ _ h => h) (Or.inl ⟨by rfl, ?hy12⟩) (by assumption) ?rest12
      case hy12 => (intro w hSw; (try dsimp only at hSw); go_simp; (try with_reducible rfl))
      try simp only [Act.put, List.getElem_toArray, List.getElem_cons_succ, List.getElem_cons_zero, List.setIfInBounds_toArray, List.set_cons_zero, List.set_cons_succ]
      refine wpAnyH_done (by kernel_rfl) ?_ _
      first | refine NoPanic.normal ?_ | skip
      have HB := Lib.hid (show Below w.heap.size w wd2 by assumption)
      skip
      go_wp2_with fail
      go_ret
      exact ⟨by rw [← HZ.out]; rfl, HB.out⟩
    · skip
      have ckB := HV.out gB _ hTB
      go_simp
      refine hK.out _ _ (by assumption) (fun hHeld => ?_)
      clear hK K
      try simp only [Act.put, List.getElem_toArray, List.getElem_cons_succ, List.getElem_cons_zero, List.setIfInBounds_toArray, List.set_cons_zero, List.set_cons_succ]
      refine wpAnyH_ready (rs := [5]) (by kernel_rfl) (by simp) ?_
      refine (AllReadyH.cons (o := _) rfl (fun K hK => ?_) AllReadyH.nil)
      have ckA := HR.out gA _ hTA_2
      go_simp
      refine hK.out _ _ (by assumption) (fun hHeld => ?_)
      clear hK K
      try simp only [Act.put, List.getElem_toArray, List.getElem_cons_succ, List.getElem_cons_zero, List.setIfInBounds_toArray, List.set_cons_zero, List.set_cons_succ]
      refine wpAnyH_take (i := 11) (v := ?v13) rfl (by kernel_rfl) (by kernel_rfl) (by kernel_rfl) (fun _ _ _ h => h) (Or.inl ⟨by rfl, ?hy13⟩) (by assumption) ?rest13
      case hy13 => (intro w hSw; (try dsimp only at hSw); go_simp; (try with_reducible rfl))
      try simp only [Act.put, List.getElem_toArray, List.getElem_cons_succ, List.getElem_cons_zero, List.setIfInBounds_toArray, List.set_cons_zero, List.set_cons_succ]
      refine wpAnyH_take (i := 12) (v := ?v14) rfl (by kernel_rfl) (by kernel_rfl) (by kernel_rfl) (fun _ _ _ h => h) (Or.inl ⟨by rfl, ?hy14⟩) (by assumption) ?rest14
      case hy14 => (intro w hSw; (try dsimp only at hSw); go_simp; (try with_reducible rfl))
      try simp only [Act.put, List.getElem_toArray, List.getElem_cons_succ, List.getElem_cons_zero, List.setIfInBounds_toArray, List.set_cons_zero, List.set_cons_succ]
      refine wpAnyH_done (by kernel_rfl) ?_ _
      first | refine NoPanic.normal ?_ | skip
      have HB := Lib.hid (show Below w.heap.size w wd2 by assumption)
      skip
      go_wp2_with fail
      go_ret
      exact ⟨by rw [← HZ.out]; rfl, HB.out⟩
theorem refPlain (c : Nat) (w : World) (hc : c < 256) : Calls Tryd.prog 23 #[.int .u8 c] w fun e w' => e = .returned (.string (strL (plainL c))) ∧ Below w.heap.size w w' := by
  unfold plainL
  by_cases h1 : c < 64
  · rw [if_pos h1]; exact refPlainA c w h1
  rw [if_neg h1]
  by_cases h2 : 192 ≤ c
  · rw [if_pos h2]; exact refPlainZ c w h2 hc
  rw [if_neg h2]
  by_cases h3 : c = 118
  · rw [if_pos h3]; subst h3
    exact (refPlainH w).mono fun _ _ ⟨he, hw⟩ => ⟨he, hw ▸ Below.refl _ _⟩
  rw [if_neg h3]
  by_cases h4 : c < 128
  · rw [if_pos h4]; exact refPlainB c w (by omega) h4 (by rw [beq_eq_false_iff_ne]; omega)
  · rw [if_neg h4]; exact refPlainC c w (by omega) (by omega)
theorem plainL_le (c : Nat) (hc : c < 256) : (plainL c).length ≤ 20 := by
  have := all256 (f := fun c => decide ((plainL c).length ≤ 20)) (by decide +kernel) c hc
  simpa using this
set_option maxHeartbeats 800000 in
theorem refMemory (c : Nat) (w : World) (hc : c < 256) : Calls Tryd.prog 11 #[.int .u8 c] w fun e w' => e = .returned (.bool (memC c)) ∧ Below w.heap.size w w' := by
  have HP := Lib.hid (fun w => refPlain c w hc)
  have HH := Lib.hid (fun w => refHasIs (plainL c) hlL (memC c) w (by have := plainL_le c hc; omega) (by decide) (by decide) (memC_ref c hc))
  go_enter Tryd.func11, Tryd.ntmps11
  go_wp2_with fail
  refine (HP.out _).mono ?_
  rintro e w1 ⟨rfl, hb1⟩
  go_wp2_with fail
  refine (HH.out _).mono ?_
  rintro e w' ⟨rfl, rfl⟩
  go_wp2_with fail
  go_ret
  exact ⟨rfl, hb1⟩
theorem refMemIs (c : Nat) (r : Bool) (w : World) (hc : c < 256) (h : memC c = r) : Calls Tryd.prog 11 #[.int .u8 c] w fun e w' => e = .returned (.bool r) ∧ Below w.heap.size w w' := by
  subst h; exact refMemory c w hc

set_option maxHeartbeats 800000 in
theorem refArgsP221 (c : Nat) (w : World) (hc : c < 256) (hW : hasF (plainL c) [87] = true) (q221 : ((c : Int) == 221) = true) : Calls Tryd.prog 10 #[.int .u8 c] w fun e w' => e = .returned (.int .i64 0) ∧ Below w.heap.size w w' := by
  have l20 := plainL_le c hc
  have HP := Lib.hid (fun w => refPlain c w hc)
  have HW := Lib.hid (fun w => refHasIs (plainL c) [87] true w (by omega) (by decide) (by decide) hW)
  clear l20 hW
  go_enter Tryd.func10, Tryd.ntmps10
  go_wp2_with fail
  refine (HP.out _).mono ?_
  rintro e w1 ⟨rfl, hb1⟩
  go_wp2_with fail
  refine (HW.out _).mono ?_
  rintro e w' ⟨rfl, rfl⟩
  go_wp2_with fail
  go_ret
  exact ⟨rfl, hb1⟩
set_option maxHeartbeats 800000 in
theorem refArgsP237 (c : Nat) (w : World) (hc : c < 256) (hW : hasF (plainL c) [87] = true) (q221 : ((c : Int) == 221) = false) (q237 : ((c : Int) == 237) = true) : Calls Tryd.prog 10 #[.int .u8 c] w fun e w' => e = .returned (.int .i64 0) ∧ Below w.heap.size w w' := by
  have l20 := plainL_le c hc
  have HP := Lib.hid (fun w => refPlain c w hc)
  have HW := Lib.hid (fun w => refHasIs (plainL c) [87] true w (by omega) (by decide) (by decide) hW)
  clear l20 hW
  go_enter Tryd.func10, Tryd.ntmps10
  go_wp2_with fail
  refine (HP.out _).mono ?_
  rintro e w1 ⟨rfl, hb1⟩
  go_wp2_with fail
  refine (HW.out _).mono ?_
  rintro e w' ⟨rfl, rfl⟩
  go_wp2_with fail
  go_ret
  exact ⟨rfl, hb1⟩
set_option maxHeartbeats 800000 in
theorem refArgsP253 (c : Nat) (w : World) (hc : c < 256) (hW : hasF (plainL c) [87] = true) (q221 : ((c : Int) == 221) = false) (q237 : ((c : Int) == 237) = false) (q253 : ((c : Int) == 253) = true) : Calls Tryd.prog 10 #[.int .u8 c] w fun e w' => e = .returned (.int .i64 0) ∧ Below w.heap.size w w' := by
  have l20 := plainL_le c hc
  have HP := Lib.hid (fun w => refPlain c w hc)
  have HW := Lib.hid (fun w => refHasIs (plainL c) [87] true w (by omega) (by decide) (by decide) hW)
  clear l20 hW
  go_enter Tryd.func10, Tryd.ntmps10
  go_wp2_with fail
  refine (HP.out _).mono ?_
  rintro e w1 ⟨rfl, hb1⟩
  go_wp2_with fail
  refine (HW.out _).mono ?_
  rintro e w' ⟨rfl, rfl⟩
  go_wp2_with fail
  go_ret
  exact ⟨rfl, hb1⟩
set_option maxHeartbeats 800000 in
theorem refArgsW (c : Nat) (w : World) (hc : c < 256) (hW : hasF (plainL c) [87] = true) (q221 : ((c : Int) == 221) = false) (q237 : ((c : Int) == 237) = false) (q253 : ((c : Int) == 253) = false) : Calls Tryd.prog 10 #[.int .u8 c] w fun e w' => e = .returned (.int .i64 2) ∧ Below w.heap.size w w' := by
  have l20 := plainL_le c hc
  have HP := Lib.hid (fun w => refPlain c w hc)
  have HW := Lib.hid (fun w => refHasIs (plainL c) [87] true w (by omega) (by decide) (by decide) hW)
  clear l20 hW
  go_enter Tryd.func10, Tryd.ntmps10
  go_wp2_with fail
  refine (HP.out _).mono ?_
  rintro e w1 ⟨rfl, hb1⟩
  go_wp2_with fail
  refine (HW.out _).mono ?_
  rintro e w' ⟨rfl, rfl⟩
  go_wp2_with fail
  go_ret
  exact ⟨rfl, hb1⟩
set_option maxHeartbeats 800000 in
theorem refArgsN (c : Nat) (w : World) (hc : c < 256) (hW : hasF (plainL c) [87] = false) (hN : hasF (plainL c) [78] = true) : Calls Tryd.prog 10 #[.int .u8 c] w fun e w' => e = .returned (.int .i64 1) ∧ Below w.heap.size w w' := by
  have l20 := plainL_le c hc
  have HP := Lib.hid (fun w => refPlain c w hc)
  have HW := Lib.hid (fun w => refHasIs (plainL c) [87] false w (by omega) (by decide) (by decide) hW)
  have HN := Lib.hid (fun w => refHasIs (plainL c) [78] true w (by omega) (by decide) (by decide) hN)
  clear l20 hW hN
  go_enter Tryd.func10, Tryd.ntmps10
  go_wp2_with fail
  refine (HP.out _).mono ?_
  rintro e w1 ⟨rfl, hb1⟩
  go_wp2_with fail
  refine (HW.out _).mono ?_
  rintro e w' ⟨rfl, rfl⟩
  go_wp2_with fail
  refine (HN.out _).mono ?_
  rintro e w' ⟨rfl, rfl⟩
  go_wp2_with fail
  go_ret
  exact ⟨rfl, hb1⟩
set_option maxHeartbeats 800000 in
theorem refArgsE (c : Nat) (w : World) (hc : c < 256) (hW : hasF (plainL c) [87] = false) (hN : hasF (plainL c) [78] = false) (hE : hasF (plainL c) [69] = true) : Calls Tryd.prog 10 #[.int .u8 c] w fun e w' => e = .returned (.int .i64 1) ∧ Below w.heap.size w w' := by
  have l20 := plainL_le c hc
  have HP := Lib.hid (fun w => refPlain c w hc)
  have HW := Lib.hid (fun w => refHasIs (plainL c) [87] false w (by omega) (by decide) (by decide) hW)
  have HN := Lib.hid (fun w => refHasIs (plainL c) [78] false w (by omega) (by decide) (by decide) hN)
  have HE := Lib.hid (fun w => refHasIs (plainL c) [69] true w (by omega) (by decide) (by decide) hE)
  clear l20 hW hN hE
  go_enter Tryd.func10, Tryd.ntmps10
  go_wp2_with fail
  refine (HP.out _).mono ?_
  rintro e w1 ⟨rfl, hb1⟩
  go_wp2_with fail
  refine (HW.out _).mono ?_
  rintro e w' ⟨rfl, rfl⟩
  go_wp2_with fail
  refine (HN.out _).mono ?_
  rintro e w' ⟨rfl, rfl⟩
  go_wp2_with fail
  refine (HE.out _).mono ?_
  rintro e w' ⟨rfl, rfl⟩
  go_wp2_with fail
  go_ret
  exact ⟨rfl, hb1⟩
set_option maxHeartbeats 800000 in
theorem refArgs0 (c : Nat) (w : World) (hc : c < 256) (hW : hasF (plainL c) [87] = false) (hN : hasF (plainL c) [78] = false) (hE : hasF (plainL c) [69] = false) : Calls Tryd.prog 10 #[.int .u8 c] w fun e w' => e = .returned (.int .i64 0) ∧ Below w.heap.size w w' := by
  have l20 := plainL_le c hc
  have HP := Lib.hid (fun w => refPlain c w hc)
  have HW := Lib.hid (fun w => refHasIs (plainL c) [87] false w (by omega) (by decide) (by decide) hW)
  have HN := Lib.hid (fun w => refHasIs (plainL c) [78] false w (by omega) (by decide) (by decide) hN)
  have HE := Lib.hid (fun w => refHasIs (plainL c) [69] false w (by omega) (by decide) (by decide) hE)
  clear l20 hW hN hE
  go_enter Tryd.func10, Tryd.ntmps10
  go_wp2_with fail
  refine (HP.out _).mono ?_
  rintro e w1 ⟨rfl, hb1⟩
  go_wp2_with fail
  refine (HW.out _).mono ?_
  rintro e w' ⟨rfl, rfl⟩
  go_wp2_with fail
  refine (HN.out _).mono ?_
  rintro e w' ⟨rfl, rfl⟩
  go_wp2_with fail
  refine (HE.out _).mono ?_
  rintro e w' ⟨rfl, rfl⟩
  go_wp2_with fail
  go_ret
  exact ⟨rfl, hb1⟩
theorem refArgs (c : Nat) (w : World) (hc : c < 256) : Calls Tryd.prog 10 #[.int .u8 c] w fun e w' => e = .returned (.int .i64 ((argC c : Nat) : Int)) ∧ Below w.heap.size w w' := by
  have key : ∀ n m : Nat, n ≠ m → ((n : Int) == (m : Int)) = false := fun n m h => by rw [beq_eq_false_iff_ne]; omega
  have keyt : ∀ n m : Nat, n = m → ((n : Int) == (m : Int)) = true := fun n m h => by rw [beq_iff_eq]; omega
  rw [← argC_ref c hc]
  unfold refArg
  cases hW : hasF (plainL c) [87] with
  | true =>
    rw [if_pos rfl]
    by_cases h1 : c = 221
    · rw [if_pos (Or.inl h1)]; exact refArgsP221 c w hc hW (keyt _ 221 h1)
    by_cases h2 : c = 237
    · rw [if_pos (Or.inr (Or.inl h2))]; exact refArgsP237 c w hc hW (key _ 221 h1) (keyt _ 237 h2)
    by_cases h3 : c = 253
    · rw [if_pos (Or.inr (Or.inr h3))]; exact refArgsP253 c w hc hW (key _ 221 h1) (key _ 237 h2) (keyt _ 253 h3)
    rw [if_neg (by omega)]; exact refArgsW c w hc hW (key _ 221 h1) (key _ 237 h2) (key _ 253 h3)
  | false =>
    rw [if_neg (by decide)]
    cases hN : hasF (plainL c) [78] with
    | true => rw [Bool.true_or, if_pos rfl]; exact refArgsN c w hc hW hN
    | false =>
      rw [Bool.false_or]
      cases hE : hasF (plainL c) [69] with
      | true => rw [if_pos rfl]; exact refArgsE c w hc hW hN hE
      | false => rw [if_neg (by decide)]; exact refArgs0 c w hc hW hN hE


end Go.Proofs.YthmkfojjlcinkaaDoor
