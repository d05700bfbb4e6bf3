/- Texts put together: CpuWorkD, CpuCycle, CpuOk, OpArgs, MicroSteps, CpuGo, CpuAccess. -/
import Derived.Test.YtcfkpeemhleleaaGreatDoorBas2
import Derived.Test.YtcfkpeemhleleaaGreatDoorBas1
import Derived.LoopTactic
import Derived.Deep.LoopGhost
/- The other works, and work itself: their contracts. -/
namespace Go.Proofs.YtcfkpeemhleleaaGreatDoor
open Go.RowKit
set_option maxRecDepth 100000
set_option linter.unusedVariables false
set_option linter.unusedSimpArgs false
variable {w0 : World} {b f base : Nat} {x : Cp} {v : Value} {y : Fl} {va : Value}

def onceMoreS (x : Cp) : Cp := { x with r := { x.r with pc := w16 (x.r.pc - 2), wz := w16 (w16 (x.r.pc - 2) + 1) } }
def stepS (x : Cp) (n : Int) : Cp := addToS (addToS x 2 n) 0 (-1)
def copiedS (x : Cp) (n : Int) : Cp := putFS (stepS (addToS x 1 n) n) (copyF x.r.a x.latch (pairS (stepS (addToS x 1 n) n) 0) x.r.f)
/-- The other works. -/
def workO (x : Cp) (g n : Int) : Cp :=
  if g = 248 then { x with r := exAf x.r } else if g = 256 then { x with r := exx x.r } else if g = 264 then { x with r := exDe x.r } else if g = 272 then { x with r := { x.r with halt := true } }
  else if g = 280 then { x with r := { x.r with iff1 := false, iff2 := false } } else if g = 288 then { x with r := { x.r with iff1 := true, iff2 := true, hold := true } }
  else if g = 312 then copiedS x n else if g = 344 then putFS (onceMoreS x) (againF x.r.f (w16 (x.r.pc - 2))) else x

theorem putPairV_ok (r : Rg) (ok : r.Ok) (k i n : Int) (n16 : B16 n) : (putPairV r k i n).Ok := by
  have a : B8 (n / 256) := by unfold B16 at n16; unfold B8; omega
  have c : B8 (n % 256) := by unfold B8; omega
  unfold putPairV
  repeat' split
  all_goals first | exact ok | exact { ok with b := a, c := c } | exact { ok with d := a, e := c } | exact { ok with ix := n16 } | exact { ok with iy := n16 } | exact { ok with h := a, l := c } | exact { ok with sp := n16 }
theorem addToS_ok (ok : x.Ok) (k n : Int) : (addToS x k n).Ok := ⟨putPairV_ok _ ok.r _ _ _ (w16_bd _), ok.addr, ok.latch, ok.dist⟩
theorem stepS_ok (ok : x.Ok) (n : Int) : (stepS x n).Ok := addToS_ok (addToS_ok ok _ _) _ _
theorem putPairV_af (r : Rg) (k i n : Int) : (putPairV r k i n).a = r.a ∧ (putPairV r k i n).f = r.f := by
  unfold putPairV
  repeat' split
  all_goals exact ⟨rfl, rfl⟩
set_option maxHeartbeats 1600000 in
theorem onceMore_any (w : World) (h : Mc w0 w b f base x v y va) :
    Calls Tryz.prog 147 #[.pointer (some ⟨b, 0, none⟩)] w fun e w' => e = .returned (.tuple #[]) ∧ Mc w0 w' b f base (onceMoreS x) v y va := by
  have e1 : IntKind.u16.wrap (x.r.pc - 2) = w16 (x.r.pc - 2) := wrap16 _
  have h1 := h.set 22 (.int .u16 (w16 (x.r.pc - 2))) { x with r := { x.r with pc := w16 (x.r.pc - 2) } } (by decide) rfl rfl
  have e2 : IntKind.u16.wrap (w16 (x.r.pc - 2) + 1) = w16 (w16 (x.r.pc - 2) + 1) := wrap16 _
  have H := Lib.hid (h1.set 23 (.int .u16 (w16 (w16 (x.r.pc - 2) + 1))) (onceMoreS x) (by decide) rfl rfl)
  have c1 := h.cell 22 _ rfl
  have f1 := h.free 22
  have c2 := h.cell 23 _ rfl
  have f2 := h.free 23
  generalize w16 (w16 (x.r.pc - 2) + 1) = p at *
  generalize w16 (x.r.pc - 2) = q at *
  clear h h1
  go_enter Tryz.func147, Tryz.ntmps147
  go_wp2_with fail
  go_end0
  exact ⟨rfl, H.out⟩
set_option maxHeartbeats 1600000 in
theorem blockOn_any (n : Int) (w : World) (h : Mc w0 w b f base x v y va) (ok : x.Ok) (hn : n = 1 ∨ n = -1) :
    Calls Tryz.prog 143 #[.pointer (some ⟨b, 0, none⟩), .int .i64 n] w fun e w' => e = .returned (.tuple #[]) ∧ Mc w0 w' b f base (stepS x n) v y va := by
  have H := Lib.hid (addTo_any 2 n w h ok hn)
  have H2 := Lib.hid (fun u (hu : Mc w0 u b f base (addToS x 2 n) v y va) => addTo_any 0 (-1) u hu (addToS_ok ok _ _) (by decide))
  clear h hn
  go_enter Tryz.func143, Tryz.ntmps143
  go_wp2_with fail
  refine H.out.mono ?_
  rintro e w' ⟨rfl, hm⟩
  have H3 := Lib.hid (H2.out _ hm)
  clear hm
  go_wp2_with fail
  refine H3.out.mono ?_
  rintro e w' ⟨rfl, hm⟩
  go_wp2_with fail
  go_end0
  exact ⟨rfl, hm⟩
set_option maxHeartbeats 1600000 in
theorem workO248 (n : Int) (w : World) (h : Mc w0 w b f base x v y va) (ok : x.Ok) :
    Calls Tryz.prog 85 #[.pointer (some ⟨b, 0, none⟩), .int .i64 248, .int .i64 n] w fun e w' => e = .returned (.tuple #[]) ∧ Mc w0 w' b f base (workO x 248 n) v y va := by
  rw [show workO x 248 n = { x with r := exAf x.r } by unfold workO; simp]
  have H := Lib.hid ((exAf_any b x.r w h.reg).mono (R' := fun e w' => e = .returned (.tuple #[]) ∧ Mc w0 w' b f base { x with r := exAf x.r } v y va) fun _ _ ⟨he, hw, hr⟩ => ⟨he, h.puts _ hw hr⟩)
  clear h
  go_enter Tryz.func85, Tryz.ntmps85
  go_wp2_with fail
  refine H.out.mono ?_
  rintro e w' ⟨rfl, hm⟩
  go_wp2_with fail
  go_end0
  exact ⟨rfl, hm⟩
set_option maxHeartbeats 1600000 in
theorem workO256 (n : Int) (w : World) (h : Mc w0 w b f base x v y va) (ok : x.Ok) :
    Calls Tryz.prog 85 #[.pointer (some ⟨b, 0, none⟩), .int .i64 256, .int .i64 n] w fun e w' => e = .returned (.tuple #[]) ∧ Mc w0 w' b f base (workO x 256 n) v y va := by
  rw [show workO x 256 n = { x with r := exx x.r } by unfold workO; simp]
  have H := Lib.hid ((exx_any b x.r w h.reg).mono (R' := fun e w' => e = .returned (.tuple #[]) ∧ Mc w0 w' b f base { x with r := exx x.r } v y va) fun _ _ ⟨he, hw, hr⟩ => ⟨he, h.puts _ hw hr⟩)
  clear h
  go_enter Tryz.func85, Tryz.ntmps85
  go_wp2_with fail
  refine H.out.mono ?_
  rintro e w' ⟨rfl, hm⟩
  go_wp2_with fail
  go_end0
  exact ⟨rfl, hm⟩
set_option maxHeartbeats 1600000 in
theorem workO264 (n : Int) (w : World) (h : Mc w0 w b f base x v y va) (ok : x.Ok) :
    Calls Tryz.prog 85 #[.pointer (some ⟨b, 0, none⟩), .int .i64 264, .int .i64 n] w fun e w' => e = .returned (.tuple #[]) ∧ Mc w0 w' b f base (workO x 264 n) v y va := by
  rw [show workO x 264 n = { x with r := exDe x.r } by unfold workO; simp]
  have H := Lib.hid ((exDe_any b x.r w h.reg).mono (R' := fun e w' => e = .returned (.tuple #[]) ∧ Mc w0 w' b f base { x with r := exDe x.r } v y va) fun _ _ ⟨he, hw, hr⟩ => ⟨he, h.puts _ hw hr⟩)
  clear h
  go_enter Tryz.func85, Tryz.ntmps85
  go_wp2_with fail
  refine H.out.mono ?_
  rintro e w' ⟨rfl, hm⟩
  go_wp2_with fail
  go_end0
  exact ⟨rfl, hm⟩
set_option maxHeartbeats 1600000 in
theorem workO272 (n : Int) (w : World) (h : Mc w0 w b f base x v y va) (ok : x.Ok) :
    Calls Tryz.prog 85 #[.pointer (some ⟨b, 0, none⟩), .int .i64 272, .int .i64 n] w fun e w' => e = .returned (.tuple #[]) ∧ Mc w0 w' b f base (workO x 272 n) v y va := by
  rw [show workO x 272 n = { x with r := { x.r with halt := true } } by unfold workO; simp]
  have c0 := h.cell 26 _ rfl
  have f0 := h.free 26
  have h1 := h.set 26 (.bool true) { x with r := { x.r with halt := true } } (by decide) rfl rfl
  have H := Lib.hid h1
  clear h h1
  go_enter Tryz.func85, Tryz.ntmps85
  go_wp2_with fail
  go_end0
  exact ⟨rfl, H.out⟩
set_option maxHeartbeats 1600000 in
theorem workO280 (n : Int) (w : World) (h : Mc w0 w b f base x v y va) (ok : x.Ok) :
    Calls Tryz.prog 85 #[.pointer (some ⟨b, 0, none⟩), .int .i64 280, .int .i64 n] w fun e w' => e = .returned (.tuple #[]) ∧ Mc w0 w' b f base (workO x 280 n) v y va := by
  rw [show workO x 280 n = { x with r := { x.r with iff1 := false, iff2 := false } } by unfold workO; simp]
  have c0 := h.cell 24 _ rfl
  have f0 := h.free 24
  have h1 := h.set 24 (.bool false) { x with r := { x.r with iff1 := false } } (by decide) rfl rfl
  have c1 := h.cell 25 _ rfl
  have f1 := h.free 25
  have h2 := h1.set 25 (.bool false) { x with r := { x.r with iff1 := false, iff2 := false } } (by decide) rfl rfl
  have H := Lib.hid h2
  clear h h1 h2
  go_enter Tryz.func85, Tryz.ntmps85
  go_wp2_with fail
  go_end0
  exact ⟨rfl, H.out⟩
set_option maxHeartbeats 1600000 in
theorem workO288 (n : Int) (w : World) (h : Mc w0 w b f base x v y va) (ok : x.Ok) :
    Calls Tryz.prog 85 #[.pointer (some ⟨b, 0, none⟩), .int .i64 288, .int .i64 n] w fun e w' => e = .returned (.tuple #[]) ∧ Mc w0 w' b f base (workO x 288 n) v y va := by
  rw [show workO x 288 n = { x with r := { x.r with iff1 := true, iff2 := true, hold := true } } by unfold workO; simp]
  have c0 := h.cell 24 _ rfl
  have f0 := h.free 24
  have h1 := h.set 24 (.bool true) { x with r := { x.r with iff1 := true } } (by decide) rfl rfl
  have c1 := h.cell 25 _ rfl
  have f1 := h.free 25
  have h2 := h1.set 25 (.bool true) { x with r := { x.r with iff1 := true, iff2 := true } } (by decide) rfl rfl
  have c2 := h.cell 27 _ rfl
  have f2 := h.free 27
  have h3 := h2.set 27 (.bool true) { x with r := { x.r with iff1 := true, iff2 := true, hold := true } } (by decide) rfl rfl
  have H := Lib.hid h3
  clear h h1 h2 h3
  go_enter Tryz.func85, Tryz.ntmps85
  go_wp2_with fail
  go_end0
  exact ⟨rfl, H.out⟩
set_option maxHeartbeats 1600000 in
theorem workO312 (n : Int) (w : World) (h : Mc w0 w b f base x v y va) (ok : x.Ok) (hn : n = 1 ∨ n = -1) :
    Calls Tryz.prog 85 #[.pointer (some ⟨b, 0, none⟩), .int .i64 312, .int .i64 n] w fun e w' => e = .returned (.tuple #[]) ∧ Mc w0 w' b f base (workO x 312 n) v y va := by
  obtain ⟨z, hz⟩ : ∃ z, stepS (addToS x 1 n) n = z := ⟨_, rfl⟩
  have zok : z.Ok := hz ▸ stepS_ok (addToS_ok ok _ _) _
  have za : z.r.a = x.r.a ∧ z.r.f = x.r.f ∧ z.latch = x.latch := by
    subst hz
    unfold stepS addToS putPairS
    exact ⟨((putPairV_af _ _ _ _).1.trans (putPairV_af _ _ _ _).1).trans (putPairV_af _ _ _ _).1, ((putPairV_af _ _ _ _).2.trans (putPairV_af _ _ _ _).2).trans (putPairV_af _ _ _ _).2, rfl⟩
  obtain ⟨p, hp⟩ : ∃ p, pairS z 0 = p := ⟨_, rfl⟩
  have p16 := pairS_bd zok 0
  rw [hp] at p16
  obtain ⟨q, hq⟩ : ∃ q, copyF z.r.a z.latch p z.r.f = q := ⟨_, rfl⟩
  rw [show workO x 312 n = putFS z q by unfold workO copiedS; simp [hz, hp, ← hq, za.1, za.2.1, za.2.2]]
  have H1 := Lib.hid (addTo_any 1 n w h ok hn)
  have H2 := Lib.hid (fun u (hu : Mc w0 u b f base (addToS x 1 n) v y va) => blockOn_any n u hu (addToS_ok ok _ _) hn)
  rw [hz] at H2
  have HP := Lib.hid (fun u (hu : Mc w0 u b f base z v y va) => pairC_any 0 u hu zok)
  rw [hp] at HP
  have HY := Lib.hid (fun u => copy_any z.r.a z.latch p z.r.f u p16.1 zok.r.f.1 zok.r.f.2)
  rw [hq] at HY
  have HC := Lib.hid (fun (u : World) (hu : Mc w0 u b f base z v y va) => show u.cell? ⟨b, 0, none⟩ = some (.int .u8 z.r.a) ∧ u.cell? ⟨b, 42, none⟩ = some (.int .u8 z.latch) ∧ u.cell? ⟨b, 1, none⟩ = some (.int .u8 z.r.f) from ⟨hu.cell 0 _ rfl, hu.cell 42 _ rfl, hu.cell 1 _ rfl⟩)
  clear h hn hz za hp hq p16
  go_enter Tryz.func85, Tryz.ntmps85
  go_wp2_with fail
  refine H1.out.mono ?_
  rintro e w' ⟨rfl, hm⟩
  have H3 := Lib.hid (H2.out _ hm)
  clear hm
  go_wp2_with fail
  refine H3.out.mono ?_
  rintro e w' ⟨rfl, hm⟩
  have H4 := Lib.hid hm.drew
  have HS := HC.out _ hm
  have HP2 := Lib.hid (HP.out _ hm.drew)
  clear hm
  go_wp2_with fail
  first | refine wp_region_noPanic ?_ | skip
  refine wp_region_U (n := 16) (S := (fun u => u.cell? ⟨b, 0, none⟩ = some (.int .u8 z.r.a) ∧ u.cell? ⟨b, 42, none⟩ = some (.int .u8 z.latch) ∧ u.cell? ⟨b, 1, none⟩ = some (.int .u8 z.r.f))) (by kernel_rfl) (by kernel_rfl) HS (fun hHeld => ?_)
  refine wpAnyU_take (i := 0) (v := ?v1) rfl (by kernel_rfl) (by kernel_rfl) (by kernel_rfl) (by kernel_rfl) (fun _ _ _ h => h) (Or.inl ⟨by rfl, ?hy1⟩) (by assumption) ?rest1
  case hy1 => (intro w hSw; (try dsimp only at hSw); go_simp; try with_reducible rfl)
  try simp only [Act.put, List.getElem_toArray, List.getElem_cons_succ, List.getElem_cons_zero, List.setIfInBounds_toArray, List.set_cons_zero, List.set_cons_succ]
  refine wpAnyU_take (i := 1) (v := ?v2) rfl (by kernel_rfl) (by kernel_rfl) (by kernel_rfl) (by kernel_rfl) (fun _ _ _ h => h) (Or.inl ⟨by rfl, ?hy2⟩) (by assumption) ?rest2
  case hy2 => (intro w hSw; (try dsimp only at hSw); go_simp; try with_reducible rfl)
  try simp only [Act.put, List.getElem_toArray, List.getElem_cons_succ, List.getElem_cons_zero, List.setIfInBounds_toArray, List.set_cons_zero, List.set_cons_succ]
  refine wpAnyU_take (i := 2) (v := ?v3) rfl (by kernel_rfl) (by kernel_rfl) (by kernel_rfl) (by kernel_rfl) (fun _ _ _ h => h) (Or.inl ⟨by rfl, ?hy3⟩) (by assumption) ?rest3
  case hy3 => (intro w hSw; (try dsimp only at hSw); go_simp; try with_reducible rfl)
  try simp only [Act.put, List.getElem_toArray, List.getElem_cons_succ, List.getElem_cons_zero, List.setIfInBounds_toArray, List.set_cons_zero, List.set_cons_succ]
  refine wpAnyU_take (i := 3) (v := ?v4) rfl (by kernel_rfl) (by kernel_rfl) (by kernel_rfl) (by kernel_rfl) (fun _ _ _ h => h) (Or.inl ⟨by rfl, ?hy4⟩) (by assumption) ?rest4
  case hy4 => (intro w hSw; (try dsimp only at hSw); go_simp; try with_reducible rfl)
  try simp only [Act.put, List.getElem_toArray, List.getElem_cons_succ, List.getElem_cons_zero, List.setIfInBounds_toArray, List.set_cons_zero, List.set_cons_succ]
  refine wpAnyU_take (i := 4) (v := ?v5) rfl (by kernel_rfl) (by kernel_rfl) (by kernel_rfl) (by kernel_rfl) (fun _ _ _ h => h) (Or.inl ⟨by rfl, ?hy5⟩) (by assumption) ?rest5
  case hy5 => (intro w hSw; (try dsimp only at hSw); go_simp; try with_reducible rfl)
  try simp only [Act.put, List.getElem_toArray, List.getElem_cons_succ, List.getElem_cons_zero, List.setIfInBounds_toArray, List.set_cons_zero, List.set_cons_succ]
  refine wpAnyU_take (i := 5) (v := ?v6) rfl (by kernel_rfl) (by kernel_rfl) (by kernel_rfl) (by kernel_rfl) (fun _ _ _ h => h) (Or.inl ⟨by rfl, ?hy6⟩) (by assumption) ?rest6
  case hy6 => (intro w hSw; (try dsimp only at hSw); go_simp; try with_reducible rfl)
  try simp only [Act.put, List.getElem_toArray, List.getElem_cons_succ, List.getElem_cons_zero, List.setIfInBounds_toArray, List.set_cons_zero, List.set_cons_succ]
  refine wpAnyU_take (i := 6) (v := ?v7) rfl (by kernel_rfl) (by kernel_rfl) (by kernel_rfl) (by kernel_rfl) (fun _ _ _ h => h) (Or.inl ⟨by rfl, ?hy7⟩) (by assumption) ?rest7
  case hy7 => (intro w hSw; (try dsimp only at hSw); go_simp; try with_reducible rfl)
  try simp only [Act.put, List.getElem_toArray, List.getElem_cons_succ, List.getElem_cons_zero, List.setIfInBounds_toArray, List.set_cons_zero, List.set_cons_succ]
  refine wpAnyU_take (i := 7) (v := ?v8) rfl (by kernel_rfl) (by kernel_rfl) (by kernel_rfl) (by kernel_rfl) (fun _ _ _ h => h) (Or.inl ⟨by rfl, ?hy8⟩) (by assumption) ?rest8
  case hy8 => (intro w hSw; (try dsimp only at hSw); go_simp; try with_reducible rfl)
  try simp only [Act.put, List.getElem_toArray, List.getElem_cons_succ, List.getElem_cons_zero, List.setIfInBounds_toArray, List.set_cons_zero, List.set_cons_succ]
  refine wpAnyU_take (i := 8) (v := ?v9) rfl (by kernel_rfl) (by kernel_rfl) (by kernel_rfl) (by kernel_rfl) (fun _ _ _ h => h) (Or.inl ⟨by rfl, ?hy9⟩) (by assumption) ?rest9
  case hy9 => (intro w hSw; (try dsimp only at hSw); go_simp; try with_reducible rfl)
  try simp only [Act.put, List.getElem_toArray, List.getElem_cons_succ, List.getElem_cons_zero, List.setIfInBounds_toArray, List.set_cons_zero, List.set_cons_succ]
  refine wpAnyU_take (i := 9) (v := ?v10) rfl (by kernel_rfl) (by kernel_rfl) (by kernel_rfl) (by kernel_rfl) (fun _ _ _ h => h) (Or.inl ⟨by rfl, ?hy10⟩) (by assumption) ?rest10
  case hy10 => (intro w hSw; (try dsimp only at hSw); go_simp; try with_reducible rfl)
  try simp only [Act.put, List.getElem_toArray, List.getElem_cons_succ, List.getElem_cons_zero, List.setIfInBounds_toArray, List.set_cons_zero, List.set_cons_succ]
  refine wpAnyU_take (i := 11) (v := ?v11) rfl (by kernel_rfl) (by kernel_rfl) (by kernel_rfl) (by kernel_rfl) (fun _ _ _ h => h) (Or.inl ⟨by rfl, ?hy11⟩) (by assumption) ?rest11
  case hy11 => (intro w hSw; (try dsimp only at hSw); go_simp; try with_reducible rfl)
  try simp only [Act.put, List.getElem_toArray, List.getElem_cons_succ, List.getElem_cons_zero, List.setIfInBounds_toArray, List.set_cons_zero, List.set_cons_succ]
  refine wpAnyU_take (i := 12) (v := ?v12) rfl (by kernel_rfl) (by kernel_rfl) (by kernel_rfl) (by kernel_rfl) (fun _ _ _ h => h) (Or.inl ⟨by rfl, ?hy12⟩) (by assumption) ?rest12
  case hy12 => (intro w hSw; (try dsimp only at hSw); go_simp; try with_reducible rfl)
  try simp only [Act.put, List.getElem_toArray, List.getElem_cons_succ, List.getElem_cons_zero, List.setIfInBounds_toArray, List.set_cons_zero, List.set_cons_succ]
  refine wpAnyU_take (i := 13) (v := ?v13) rfl (by kernel_rfl) (by kernel_rfl) (by kernel_rfl) (by kernel_rfl) (fun _ _ _ h => h) (Or.inl ⟨by rfl, ?hy13⟩) (by assumption) ?rest13
  case hy13 => (intro w hSw; (try dsimp only at hSw); go_simp; try with_reducible rfl)
  try simp only [Act.put, List.getElem_toArray, List.getElem_cons_succ, List.getElem_cons_zero, List.setIfInBounds_toArray, List.set_cons_zero, List.set_cons_succ]
  refine wpAnyU_take (i := 14) (v := ?v14) rfl (by kernel_rfl) (by kernel_rfl) (by kernel_rfl) (by kernel_rfl) (fun _ _ _ h => h) (Or.inl ⟨by rfl, ?hy14⟩) (by assumption) ?rest14
  case hy14 => (intro w hSw; (try dsimp only at hSw); go_simp; try with_reducible rfl)
  try simp only [Act.put, List.getElem_toArray, List.getElem_cons_succ, List.getElem_cons_zero, List.setIfInBounds_toArray, List.set_cons_zero, List.set_cons_succ]
  refine wpAnyU_ready (i := 10) (by kernel_rfl) (by kernel_rfl) rfl (fun K hK => ?_)
  go_simp
  refine (HP2.out).mono ?_
  rintro e w' ⟨rfl, hm⟩
  go_wp2_with fail
  refine hK.out _ _ (HC.out _ (H4.out.drews hm)) (fun hHeld => ?_)
  clear hK K
  try simp only [Act.put, List.getElem_toArray, List.getElem_cons_succ, List.getElem_cons_zero, List.setIfInBounds_toArray, List.set_cons_zero, List.set_cons_succ]
  have H5 := Lib.hid (H4.out.drews hm)
  clear hm
  refine wpAnyU_ready (i := 15) (by kernel_rfl) (by kernel_rfl) rfl (fun K hK => ?_)
  go_simp
  refine (HY.out _).mono ?_
  rintro e w' ⟨rfl, hb⟩
  go_wp2_with fail
  refine hK.out _ _ (HC.out _ (H5.out.below hb)) (fun hHeld => ?_)
  clear hK K
  try simp only [Act.put, List.getElem_toArray, List.getElem_cons_succ, List.getElem_cons_zero, List.setIfInBounds_toArray, List.set_cons_zero, List.set_cons_succ]
  have H6 := Lib.hid (putF_any q _ (H5.out.below hb))
  clear hb
  refine wpAnyU_tail rfl (by kernel_rfl) ?_
  simp only [List.drop_succ_cons, List.drop_zero]
  go_wp2_with fail
  refine H6.out.mono ?_
  rintro e w' ⟨rfl, hm⟩
  go_wp2_with fail
  refine NoPanic.normal ?_
  go_wp2_with fail
  go_end0
  exact ⟨rfl, hm⟩
set_option maxHeartbeats 1600000 in
theorem workO344 (n : Int) (w : World) (h : Mc w0 w b f base x v y va) (ok : x.Ok) :
    Calls Tryz.prog 85 #[.pointer (some ⟨b, 0, none⟩), .int .i64 344, .int .i64 n] w fun e w' => e = .returned (.tuple #[]) ∧ Mc w0 w' b f base (workO x 344 n) v y va := by
  obtain ⟨z, hz⟩ : ∃ z, onceMoreS x = z := ⟨_, rfl⟩
  have zf : z.r.f = x.r.f ∧ z.r.pc = w16 (x.r.pc - 2) := by subst hz; exact ⟨rfl, rfl⟩
  obtain ⟨q, hq⟩ : ∃ q, againF z.r.f z.r.pc = q := ⟨_, rfl⟩
  rw [show workO x 344 n = putFS z q by unfold workO; simp [hz, ← hq, zf.1, zf.2]]
  have f8 : B8 z.r.f := by rw [zf.1]; exact ok.r.f
  have p16 : B16 z.r.pc := by rw [zf.2]; exact w16_bd _
  have H1 := Lib.hid (onceMore_any w h)
  rw [hz] at H1
  have HY := Lib.hid (fun u => again_any z.r.f z.r.pc u f8.1 f8.2 p16.1 p16.2)
  rw [hq] at HY
  have HC := Lib.hid (fun (u : World) (hu : Mc w0 u b f base z v y va) => show u.cell? ⟨b, 1, none⟩ = some (.int .u8 z.r.f) ∧ u.cell? ⟨b, 22, none⟩ = some (.int .u16 z.r.pc) from ⟨hu.cell 1 _ rfl, hu.cell 22 _ rfl⟩)
  clear h hz zf hq p16 f8
  go_enter Tryz.func85, Tryz.ntmps85
  go_wp2_with fail
  refine H1.out.mono ?_
  rintro e w' ⟨rfl, hm⟩
  have H4 := Lib.hid (putF_any q _ hm.drew)
  have HS := HC.out _ hm
  clear hm
  go_wp2_with fail
  first | refine wp_region_noPanic ?_ | skip
  refine wp_region_U (n := 10) (S := (fun u => u.cell? ⟨b, 1, none⟩ = some (.int .u8 z.r.f) ∧ u.cell? ⟨b, 22, none⟩ = some (.int .u16 z.r.pc))) (by kernel_rfl) (by kernel_rfl) HS (fun hHeld => ?_)
  refine wpAnyU_take (i := 0) (v := ?v15) rfl (by kernel_rfl) (by kernel_rfl) (by kernel_rfl) (by kernel_rfl) (fun _ _ _ h => h) (Or.inl ⟨by rfl, ?hy15⟩) (by assumption) ?rest15
  case hy15 => (intro w hSw; (try dsimp only at hSw); go_simp; try with_reducible rfl)
  try simp only [Act.put, List.getElem_toArray, List.getElem_cons_succ, List.getElem_cons_zero, List.setIfInBounds_toArray, List.set_cons_zero, List.set_cons_succ]
  refine wpAnyU_take (i := 1) (v := ?v16) rfl (by kernel_rfl) (by kernel_rfl) (by kernel_rfl) (by kernel_rfl) (fun _ _ _ h => h) (Or.inl ⟨by rfl, ?hy16⟩) (by assumption) ?rest16
  case hy16 => (intro w hSw; (try dsimp only at hSw); go_simp; try with_reducible rfl)
  try simp only [Act.put, List.getElem_toArray, List.getElem_cons_succ, List.getElem_cons_zero, List.setIfInBounds_toArray, List.set_cons_zero, List.set_cons_succ]
  refine wpAnyU_take (i := 2) (v := ?v17) rfl (by kernel_rfl) (by kernel_rfl) (by kernel_rfl) (by kernel_rfl) (fun _ _ _ h => h) (Or.inl ⟨by rfl, ?hy17⟩) (by assumption) ?rest17
  case hy17 => (intro w hSw; (try dsimp only at hSw); go_simp; try with_reducible rfl)
  try simp only [Act.put, List.getElem_toArray, List.getElem_cons_succ, List.getElem_cons_zero, List.setIfInBounds_toArray, List.set_cons_zero, List.set_cons_succ]
  refine wpAnyU_take (i := 3) (v := ?v18) rfl (by kernel_rfl) (by kernel_rfl) (by kernel_rfl) (by kernel_rfl) (fun _ _ _ h => h) (Or.inl ⟨by rfl, ?hy18⟩) (by assumption) ?rest18
  case hy18 => (intro w hSw; (try dsimp only at hSw); go_simp; try with_reducible rfl)
  try simp only [Act.put, List.getElem_toArray, List.getElem_cons_succ, List.getElem_cons_zero, List.setIfInBounds_toArray, List.set_cons_zero, List.set_cons_succ]
  refine wpAnyU_take (i := 4) (v := ?v19) rfl (by kernel_rfl) (by kernel_rfl) (by kernel_rfl) (by kernel_rfl) (fun _ _ _ h => h) (Or.inl ⟨by rfl, ?hy19⟩) (by assumption) ?rest19
  case hy19 => (intro w hSw; (try dsimp only at hSw); go_simp; try with_reducible rfl)
  try simp only [Act.put, List.getElem_toArray, List.getElem_cons_succ, List.getElem_cons_zero, List.setIfInBounds_toArray, List.set_cons_zero, List.set_cons_succ]
  refine wpAnyU_take (i := 5) (v := ?v20) rfl (by kernel_rfl) (by kernel_rfl) (by kernel_rfl) (by kernel_rfl) (fun _ _ _ h => h) (Or.inl ⟨by rfl, ?hy20⟩) (by assumption) ?rest20
  case hy20 => (intro w hSw; (try dsimp only at hSw); go_simp; try with_reducible rfl)
  try simp only [Act.put, List.getElem_toArray, List.getElem_cons_succ, List.getElem_cons_zero, List.setIfInBounds_toArray, List.set_cons_zero, List.set_cons_succ]
  refine wpAnyU_take (i := 6) (v := ?v21) rfl (by kernel_rfl) (by kernel_rfl) (by kernel_rfl) (by kernel_rfl) (fun _ _ _ h => h) (Or.inl ⟨by rfl, ?hy21⟩) (by assumption) ?rest21
  case hy21 => (intro w hSw; (try dsimp only at hSw); go_simp; try with_reducible rfl)
  try simp only [Act.put, List.getElem_toArray, List.getElem_cons_succ, List.getElem_cons_zero, List.setIfInBounds_toArray, List.set_cons_zero, List.set_cons_succ]
  refine wpAnyU_take (i := 7) (v := ?v22) rfl (by kernel_rfl) (by kernel_rfl) (by kernel_rfl) (by kernel_rfl) (fun _ _ _ h => h) (Or.inl ⟨by rfl, ?hy22⟩) (by assumption) ?rest22
  case hy22 => (intro w hSw; (try dsimp only at hSw); go_simp; try with_reducible rfl)
  try simp only [Act.put, List.getElem_toArray, List.getElem_cons_succ, List.getElem_cons_zero, List.setIfInBounds_toArray, List.set_cons_zero, List.set_cons_succ]
  refine wpAnyU_take (i := 8) (v := ?v23) rfl (by kernel_rfl) (by kernel_rfl) (by kernel_rfl) (by kernel_rfl) (fun _ _ _ h => h) (Or.inl ⟨by rfl, ?hy23⟩) (by assumption) ?rest23
  case hy23 => (intro w hSw; (try dsimp only at hSw); go_simp; try with_reducible rfl)
  try simp only [Act.put, List.getElem_toArray, List.getElem_cons_succ, List.getElem_cons_zero, List.setIfInBounds_toArray, List.set_cons_zero, List.set_cons_succ]
  refine wpAnyU_ready (i := 9) (by kernel_rfl) (by kernel_rfl) rfl (fun K hK => ?_)
  go_simp
  refine (HY.out _).mono ?_
  rintro e w' ⟨rfl, rfl⟩
  go_wp2_with fail
  refine hK.out _ _ (by assumption) (fun hHeld => ?_)
  clear hK K
  try simp only [Act.put, List.getElem_toArray, List.getElem_cons_succ, List.getElem_cons_zero, List.setIfInBounds_toArray, List.set_cons_zero, List.set_cons_succ]
  refine wpAnyU_tail rfl (by kernel_rfl) ?_
  simp only [List.drop_succ_cons, List.drop_zero]
  go_wp2_with fail
  refine H4.out.mono ?_
  rintro e w' ⟨rfl, hm⟩
  go_wp2_with fail
  refine NoPanic.normal ?_
  go_wp2_with fail
  go_end0
  exact ⟨rfl, hm⟩
theorem workO_any (g n : Int) (w : World) (h : Mc w0 w b f base x v y va) (ok : x.Ok) (hn : g = 312 → n = 1 ∨ n = -1) (hg : g = 248 ∨ g = 256 ∨ g = 264 ∨ g = 272 ∨ g = 280 ∨ g = 288 ∨ g = 312 ∨ g = 344) :
    Calls Tryz.prog 85 #[.pointer (some ⟨b, 0, none⟩), .int .i64 g, .int .i64 n] w fun e w' => e = .returned (.tuple #[]) ∧ Mc w0 w' b f base (workO x g n) v y va := by
  rcases hg with rfl | rfl | rfl | rfl | rfl | rfl | rfl | rfl
  · exact workO248 n w h ok
  · exact workO256 n w h ok
  · exact workO264 n w h ok
  · exact workO272 n w h ok
  · exact workO280 n w h ok
  · exact workO288 n w h ok
  · exact workO312 n w h ok (hn rfl)
  · exact workO344 n w h ok

/-- A work. -/
def workS (x : Cp) (s : Sp) : Cp := if s.w - s.w % 8 < 128 then workB x (s.w - s.w % 8) (s.w % 8) s.n else if s.w - s.w % 8 < 248 then workW x (s.w - s.w % 8) s.n else workO x (s.w - s.w % 8) s.n
/-- A work that is known here. -/
def goodW (s : Sp) : Bool := [0, 40, 56, 64, 72, 120, 128, 136, 144, 168, 176, 184, 192, 200, 208, 216, 224, 232, 240, 248, 256, 264, 272, 280, 288, 312, 344].contains (s.w - s.w % 8) && (!(s.w - s.w % 8 == 240) || (decide (0 ≤ s.n) && decide (s.n ≤ 65535))) && (!(s.w - s.w % 8 == 312) || (s.n == 1 || s.n == -1))
set_option maxHeartbeats 3200000 in
theorem work_any' (s : Sp) (w : World) (h : Mc w0 w b f base x v y va) (ok : x.Ok) (hs : goodW s = true) :
    Calls Tryz.prog 58 #[.pointer (some ⟨b, 0, none⟩), .agg #[.int .i64 s.k, .int .i64 s.a, .int .i64 s.w, .int .i64 s.n]] w fun e w' => e = .returned (.tuple #[]) ∧ Mc w0 w' b f base (workS x s) v y va := by
  obtain ⟨sk, sa, sw, sn⟩ := s
  obtain ⟨g, hg⟩ : ∃ g, sw - sw % 8 = g := ⟨_, rfl⟩
  obtain ⟨k, hk⟩ : ∃ k, sw % 8 = k := ⟨_, rfl⟩
  have k0 : 0 ≤ k := by omega
  have k7 : k ≤ 7 := by omega
  simp only [goodW, hg, Bool.and_eq_true, Bool.or_eq_true, Bool.not_eq_true', beq_eq_false_iff_ne, beq_iff_eq, decide_eq_true_eq, List.contains_iff_mem, List.mem_cons, List.not_mem_nil, or_false] at hs
  obtain ⟨⟨hs1, hs2⟩, hs3⟩ := hs
  have g0 : 0 ≤ g := by omega
  have g1 : g < 500 := by omega
  have g8 : g % 8 = 0 := by omega
  rw [show workS x ⟨sk, sa, sw, sn⟩ = (if g < 128 then workB x g k sn else if g < 248 then workW x g sn else workO x g sn) from by subst hk; subst hg; rfl]
  have H := Lib.hid (h.alloc (.cells #[.int .i64 sk, .int .i64 sa, .int .i64 sw, .int .i64 sn] 61))
  have HS := Lib.hid (split_is sw g k (w.alloc (.cells #[.int .i64 sk, .int .i64 sa, .int .i64 sw, .int .i64 sn] 61)) g0 g1 g8 k0 k7 (by omega))
  by_cases c1 : g < 128
  · rw [if_pos c1]
    have d1 : decide (g < 128) = true := decide_eq_true c1
    have HW := Lib.hid (workB_any g k sn _ H.out ok k0 k7 (by omega))
    clear h hg hk k0 k7 g0 g1 g8 hs1 hs2 hs3 c1
    go_enter Tryz.func58, Tryz.ntmps58
    go_wp2_with fail
    refine (HS.out).mono ?_
    rintro e w' ⟨rfl, rfl⟩
    go_wp2_with fail
    refine HW.out.mono ?_
    rintro e w' ⟨rfl, hm⟩
    go_wp2_with fail
    go_end0
    exact ⟨rfl, hm⟩
  · rw [if_neg c1]
    have d1 : decide (g < 128) = false := decide_eq_false c1
    by_cases c2 : g < 248
    · rw [if_pos c2]
      have d2 : decide (g < 248) = true := decide_eq_true c2
      have HW := Lib.hid (workW_any g sn _ H.out ok (fun e => by rcases hs2 with z | z; exact absurd e z; exact z) (by omega))
      clear h hg hk k0 k7 g0 g1 g8 hs1 hs2 hs3 c1 c2
      go_enter Tryz.func58, Tryz.ntmps58
      go_wp2_with fail
      refine (HS.out).mono ?_
      rintro e w' ⟨rfl, rfl⟩
      go_wp2_with fail
      refine HW.out.mono ?_
      rintro e w' ⟨rfl, hm⟩
      go_wp2_with fail
      go_end0
      exact ⟨rfl, hm⟩
    · rw [if_neg c2]
      have d2 : decide (g < 248) = false := decide_eq_false c2
      have HW := Lib.hid (workO_any g sn _ H.out ok (fun e => by rcases hs3 with z | z; exact absurd e z; exact z) (by omega))
      clear h hg hk k0 k7 g0 g1 g8 hs1 hs2 hs3 c1 c2
      go_enter Tryz.func58, Tryz.ntmps58
      go_wp2_with fail
      refine (HS.out).mono ?_
      rintro e w' ⟨rfl, rfl⟩
      go_wp2_with fail
      refine HW.out.mono ?_
      rintro e w' ⟨rfl, hm⟩
      go_wp2_with fail
      go_end0
      exact ⟨rfl, hm⟩

end Go.Proofs.YtcfkpeemhleleaaGreatDoor
/- The cycle of a step: its contract. -/
namespace Go.Proofs.YtcfkpeemhleleaaGreatDoor
open Go.RowKit
set_option maxRecDepth 100000
set_option linter.unusedVariables false
set_option linter.unusedSimpArgs false
variable {w0 : World} {b f base : Nat} {x : Cp} {v : Value} {y : Fl} {va : Value}

/-- The cycle of a step. -/
def cycleS (x : Cp) (s : Sp) : Cp :=
  if s.k = 0 then startS { placeS x s.a with waits := s.n - 1 } 8 4 (placeA x s.a) 1 else if s.k = 1 then startS (placeS x s.a) 8 1 (placeA x s.a) 3
  else if s.k = 2 then startS (placeS x s.a) 8 2 (placeA x s.a) 3 else startS (placeS x s.a) 8 3 (placeA x s.a) 4
abbrev boxL (s : Sp) : Array Value := #[.int .i64 s.k, .int .i64 s.a, .int .i64 s.w, .int .i64 s.n]
set_option maxHeartbeats 3200000 in
theorem cycleOf_any (s : Sp) (w : World) (h : Mc w0 w b f base x v y va) (ok : x.Ok) (k0 : 0 ≤ s.k) (k4 : s.k ≤ 4) (a0 : 0 ≤ s.a) (a9 : s.a ≤ 9) (n0 : 0 ≤ s.n) (n1 : s.n ≤ 100) :
    Calls Tryz.prog 60 #[.pointer (some ⟨b, 0, none⟩), .agg (boxL s)] w fun e w' => e = .returned (.tuple #[]) ∧ Mc w0 w' b f base (cycleS x s) v y va := by
  obtain ⟨k, a, sw, n⟩ := s
  dsimp only at k0 k4 a0 a9 n0 n1
  obtain ⟨p, hp⟩ : ∃ p, placeA x a = p := ⟨_, rfl⟩
  obtain ⟨z, hz⟩ : ∃ z, placeS x a = z := ⟨_, rfl⟩
  rw [show cycleS x ⟨k, a, sw, n⟩ = (if k = 0 then startS { z with waits := n - 1 } 8 4 p 1 else if k = 1 then startS z 8 1 p 3 else if k = 2 then startS z 8 2 p 3 else startS z 8 3 p 4) by unfold cycleS; dsimp only; rw [hp, hz]]
  have H1 := Lib.hid (place_any a (w.alloc (.cells #[.int .i64 k, .int .i64 a, .int .i64 sw, .int .i64 n] 61)) (h.alloc _) ok a0 a9)
  rw [hp, hz] at H1
  have hne : w.heap.size ≠ b := Nat.ne_of_gt h.blk
  have HS := Lib.hid (fun kd len u (hu : Mc w0 u b f base z v y va) => start_any 8 kd p len u hu)
  have HW := Lib.hid (fun u (hu : Mc w0 u b f base z v y va) => show Calls Tryz.prog 29 #[.pointer (some ⟨b, 0, none⟩), .int .i64 8, .int .i64 4, .int .u16 p, .int .i64 1] (u.setCell ⟨b, 40, none⟩ (.int .i64 (n - 1))) fun e w' => e = .returned (.tuple #[]) ∧ Mc w0 w' b f base (startS { z with waits := n - 1 } 8 4 p 1) v y va from
    start_any 8 4 p 1 _ (hu.set 40 (.int .i64 (n - 1)) { z with waits := n - 1 } (by decide) rfl rfl))
  have HK := Lib.hid (fun u (hu : Kb b (w.alloc (.cells #[.int .i64 k, .int .i64 a, .int .i64 sw, .int .i64 n] 61)) u) => show u.cell? ⟨w.heap.size, 0, none⟩ = some (.int .i64 k) ∧ u.cell? ⟨w.heap.size, 3, none⟩ = some (.int .i64 n) from
    ⟨(hu.cell (p := ⟨w.heap.size, 0, none⟩) (by simp) hne).trans (by go_simp), (hu.cell (p := ⟨w.heap.size, 3, none⟩) (by simp) hne).trans (by go_simp)⟩)
  clear h hp hz a0 a9
  have hc : k = 0 ∨ k = 1 ∨ k = 2 ∨ k = 3 ∨ k = 4 := by omega
  clear k0 k4
  rcases hc with rfl | rfl | rfl | rfl | rfl
  · go_enter Tryz.func60, Tryz.ntmps60
    go_wp2_with fail
    refine H1.out.mono ?_
    rintro e w' ⟨rfl, hm, hk⟩
    obtain ⟨c0, c3⟩ := HK.out _ hk
    have c40 := hm.cell 40 _ rfl
    have f40 := hm.free 40
    have H2 := Lib.hid (HW.out _ hm)
    clear hm hk HK HS HW
    go_wp2_with fail
    refine H2.out.mono ?_
    rintro e w' ⟨rfl, hm⟩
    go_wp2_with fail
    go_end0
    exact ⟨rfl, hm⟩
  · go_enter Tryz.func60, Tryz.ntmps60
    go_wp2_with fail
    refine H1.out.mono ?_
    rintro e w' ⟨rfl, hm, hk⟩
    obtain ⟨c0, c3⟩ := HK.out _ hk
    have H2 := Lib.hid (HS.out 1 3 _ hm)
    clear hm hk HK HS HW
    go_wp2_with fail
    refine H2.out.mono ?_
    rintro e w' ⟨rfl, hm⟩
    go_wp2_with fail
    go_end0
    exact ⟨rfl, hm⟩
  · go_enter Tryz.func60, Tryz.ntmps60
    go_wp2_with fail
    refine H1.out.mono ?_
    rintro e w' ⟨rfl, hm, hk⟩
    obtain ⟨c0, c3⟩ := HK.out _ hk
    have H2 := Lib.hid (HS.out 2 3 _ hm)
    clear hm hk HK HS HW
    go_wp2_with fail
    refine H2.out.mono ?_
    rintro e w' ⟨rfl, hm⟩
    go_wp2_with fail
    go_end0
    exact ⟨rfl, hm⟩
  · go_enter Tryz.func60, Tryz.ntmps60
    go_wp2_with fail
    refine H1.out.mono ?_
    rintro e w' ⟨rfl, hm, hk⟩
    obtain ⟨c0, c3⟩ := HK.out _ hk
    have H2 := Lib.hid (HS.out 3 4 _ hm)
    clear hm hk HK HS HW
    go_wp2_with fail
    refine H2.out.mono ?_
    rintro e w' ⟨rfl, hm⟩
    go_wp2_with fail
    go_end0
    exact ⟨rfl, hm⟩
  · go_enter Tryz.func60, Tryz.ntmps60
    go_wp2_with fail
    refine H1.out.mono ?_
    rintro e w' ⟨rfl, hm, hk⟩
    obtain ⟨c0, c3⟩ := HK.out _ hk
    have H2 := Lib.hid (HS.out 3 4 _ hm)
    clear hm hk HK HS HW
    go_wp2_with fail
    refine H2.out.mono ?_
    rintro e w' ⟨rfl, hm⟩
    go_wp2_with fail
    go_end0
    exact ⟨rfl, hm⟩

end Go.Proofs.YtcfkpeemhleleaaGreatDoor
/- What the pieces leave of the processor: bounds, and what they don't touch. -/
namespace Go.Proofs.YtcfkpeemhleleaaGreatDoor
open Go.RowKit
variable {x z : Cp}

/-- Of x the registers, the latch, the distance and whether F was reckoned alone are others. -/
def Only (x z : Cp) : Prop := ∃ r l k d, z = { x with r := r, latch := l, reck := k, dist := d }
theorem Only.refl (x : Cp) : Only x x := ⟨x.r, x.latch, x.reck, x.dist, rfl⟩
theorem Only.trans {x y z : Cp} (h : Only x y) (k : Only y z) : Only x z := by
  obtain ⟨r, l, q, d, rfl⟩ := h
  obtain ⟨r', l', q', d', rfl⟩ := k
  exact ⟨r', l', q', d', rfl⟩
theorem only_r (x : Cp) (r : Rg) : Only x { x with r := r } := ⟨r, x.latch, x.reck, x.dist, rfl⟩
theorem only_ite {c : Prop} [Decidable c] {x a b : Cp} (h1 : Only x a) (h2 : Only x b) : Only x (if c then a else b) := by split <;> assumption
theorem ok_ite {c : Prop} [Decidable c] {a b : Cp} (h1 : c → a.Ok) (h2 : ¬ c → b.Ok) : Cp.Ok (if c then a else b) := by
  split
  · exact h1 (by assumption)
  · exact h2 (by assumption)
theorem only_F (x : Cp) (g : Int) : Only x (putFS x g) := ⟨_, x.latch, true, x.dist, rfl⟩
theorem only_AF (x : Cp) (a g : Int) : Only x (putAFS x a g) := ⟨_, x.latch, true, x.dist, rfl⟩
theorem only_reg (x : Cp) (k n : Int) : Only x (putRegS x k n) := by
  unfold putRegS
  split
  · exact ⟨x.r, n, x.reck, x.dist, rfl⟩
  · exact only_r _ _
theorem only_pair (x : Cp) (k n : Int) : Only x (putPairS x k n) := only_r _ _
theorem only_add (x : Cp) (k n : Int) : Only x (addToS x k n) := only_r _ _
theorem only_adj (x : Cp) (k : Int) : Only x (adjS x k) := by
  unfold adjS
  repeat' split
  all_goals first | exact only_AF _ _ _ | exact only_F _ _
theorem only_B (x : Cp) (g k n : Int) : Only x (workB x g k n) := by
  unfold workB
  repeat' split
  all_goals first | exact only_AF _ _ _ | exact only_reg _ _ _ | exact (only_reg _ _ _).trans (only_F _ _) | exact only_adj _ _ | exact only_r _ _ | exact Only.refl _
theorem only_W (x : Cp) (g n : Int) : Only x (workW x g n) := by
  unfold workW
  repeat' refine only_ite ?_ ?_
  all_goals first | exact only_add _ _ _ | exact (only_pair _ _ _).trans (only_F _ _) | exact only_pair _ _ _ | exact only_r _ _ | exact Only.refl _
theorem only_O (x : Cp) (g n : Int) : Only x (workO x g n) := by
  unfold workO
  repeat' refine only_ite ?_ ?_
  all_goals first | exact only_r _ _ | exact ((only_add _ _ _).trans ((only_add _ _ _).trans (only_add _ _ _))).trans (only_F _ _) | exact (only_r _ _).trans (only_F _ _) | exact Only.refl _
theorem only_work (x : Cp) (s : Sp) : Only x (workS x s) := by
  unfold workS
  split
  · exact only_B _ _ _ _
  split
  · exact only_W _ _ _
  · exact only_O _ _ _
theorem Only.same (h : Only x z) : z.nmi = x.nmi ∧ z.aim = x.aim ∧ z.kind = x.kind ∧ z.addr = x.addr ∧ z.k = x.k ∧ z.len = x.len ∧ z.asked = x.asked ∧ z.held = x.held ∧ z.steps = x.steps ∧ z.next = x.next ∧ z.waits = x.waits ∧ z.ix = x.ix := by
  obtain ⟨r, l, k, d, rfl⟩ := h
  exact ⟨rfl, rfl, rfl, rfl, rfl, rfl, rfl, rfl, rfl, rfl, rfl, rfl⟩

theorem putV_ok (r : Rg) (ok : r.Ok) (k i n : Int) (n8 : B8 n) : (putV r k i n).Ok := by
  have h1 : B16 (n * 256 + r.ix % 256) := by unfold B8 at n8; unfold B16; omega
  have h2 : B16 (n * 256 + r.iy % 256) := by unfold B8 at n8; unfold B16; omega
  have h3 : B16 (r.ix / 256 * 256 + n) := by have := ok.ix; unfold B16 at *; unfold B8 at n8; omega
  have h4 : B16 (r.iy / 256 * 256 + n) := by have := ok.iy; unfold B16 at *; unfold B8 at n8; omega
  unfold putV putHi putLo
  repeat' split
  all_goals first | exact ok | exact { ok with b := n8 } | exact { ok with c := n8 } | exact { ok with d := n8 } | exact { ok with e := n8 } | exact { ok with ix := h1 } | exact { ok with iy := h2 } | exact { ok with h := n8 } | exact { ok with ix := h3 } | exact { ok with iy := h4 } | exact { ok with l := n8 } | exact { ok with a := n8 }
theorem Cp.Ok.withR (ok : x.Ok) {r : Rg} (hr : r.Ok) : Cp.Ok { x with r := r } := ⟨hr, ok.addr, ok.latch, ok.dist⟩
theorem F_ok (ok : x.Ok) {g : Int} (g8 : B8 g) : (putFS x g).Ok := ⟨{ ok.r with f := g8 }, ok.addr, ok.latch, ok.dist⟩
theorem AF_ok (ok : x.Ok) {a g : Int} (a8 : B8 a) (g8 : B8 g) : (putAFS x a g).Ok := ⟨{ ok.r with a := a8, f := g8 }, ok.addr, ok.latch, ok.dist⟩
theorem reg_ok (ok : x.Ok) (k : Int) {n : Int} (n8 : B8 n) : (putRegS x k n).Ok := by
  unfold putRegS
  split
  · exact ⟨ok.r, ok.addr, n8, ok.dist⟩
  · exact ok.withR (putV_ok _ ok.r _ _ _ n8)
theorem pair_ok (ok : x.Ok) (k : Int) {n : Int} (n16 : B16 n) : (putPairS x k n).Ok := ok.withR (putPairV_ok _ ok.r _ _ _ n16)
theorem wz_ok (ok : x.Ok) {n : Int} (n16 : B16 n) : (wzS x n).Ok := ok.withR { ok.r with wz := n16 }
theorem pc_ok (ok : x.Ok) {n : Int} (n16 : B16 n) : (pcS x n).Ok := ok.withR { ok.r with pc := n16 }
theorem doV_bd (k a b f : Int) (ha : B8 a) (hf : B8 f) : B8 (doV k a b f).1 ∧ B8 (doV k a b f).2 := by
  unfold doV
  split
  · exact ⟨addR_bd _ _ _, flags_bd _ _ _ _ _ _ _ _⟩
  split
  · exact ⟨addR_bd _ _ _, flags_bd _ _ _ _ _ _ _ _⟩
  split
  · exact ⟨subR_bd _ _ _, flags_bd _ _ _ _ _ _ _ _⟩
  split
  · exact ⟨subR_bd _ _ _, flags_bd _ _ _ _ _ _ _ _⟩
  split
  · exact ⟨andR_bd _ _, flags_bd _ _ _ _ _ _ _ _⟩
  split
  · exact ⟨xorR_bd _ _, flags_bd _ _ _ _ _ _ _ _⟩
  split
  · exact ⟨orR_bd _ _, flags_bd _ _ _ _ _ _ _ _⟩
  split
  · exact ⟨ha, flags_bd _ _ _ _ _ _ _ _⟩
  · exact ⟨ha, hf⟩
theorem accV4_bd (k a f : Int) (ha : B8 a) (hf : B8 f) : B8 (accV4 k a f).1 ∧ B8 (accV4 k a f).2 := by
  unfold accV4
  split
  · exact ⟨turnV_bd _ _ _, flags_bd _ _ _ _ _ _ _ _⟩
  · exact ⟨ha, hf⟩
theorem adj_ok (ok : x.Ok) (k : Int) : (adjS x k).Ok := by
  have h1 := accV4_bd k x.r.a x.r.f ok.r.a ok.r.f
  have h2 : B8 (255 - x.r.a) := by have := ok.r.a; unfold B8 at *; omega
  unfold adjS
  repeat' split
  · exact AF_ok ok h1.1 h1.2
  · exact AF_ok ok (daaR_bd _ _) (flags_bd _ _ _ _ _ _ _ _)
  · exact AF_ok ok h2 (flags_bd _ _ _ _ _ _ _ _)
  · exact F_ok ok (flags_bd _ _ _ _ _ _ _ _)
  · exact F_ok ok (flags_bd _ _ _ _ _ _ _ _)
theorem B_ok (ok : x.Ok) (g k n : Int) : (workB x g k n).Ok := by
  have h1 := doV_bd k x.r.a (regS x n) x.r.f ok.r.a ok.r.f
  have h2 := regS_bd ok n
  have h3 : B8 (w8 (x.r.b - 1)) := by unfold w8 B8; omega
  unfold workB
  repeat' split
  · exact AF_ok ok h1.1 h1.2
  · exact reg_ok ok _ h2
  · exact F_ok (reg_ok ok _ (addR_bd _ _ _)) (flags_bd _ _ _ _ _ _ _ _)
  · exact F_ok (reg_ok ok _ (subR_bd _ _ _)) (flags_bd _ _ _ _ _ _ _ _)
  · exact adj_ok ok _
  · exact ok.withR { ok.r with b := h3 }
  · exact ok
theorem W_ok (ok : x.Ok) (g n : Int) (hn : g = 240 → B16 n) : (workW x g n).Ok := by
  have h1 : B16 (x.r.a * 256 + x.r.wz % 256) := by have := ok.r.a; unfold B8 at this; unfold B16; omega
  have h5 : B16 (pairS x 2) := pairS_bd ok 2
  unfold workW
  refine ok_ite (fun _ => addToS_ok ok _ _) (fun _ => ?_)
  refine ok_ite (fun _ => addToS_ok ok _ _) (fun _ => ?_)
  refine ok_ite (fun _ => F_ok (pair_ok ok _ (wadd_bd _ _ _)) (flags_bd _ _ _ _ _ _ _ _)) (fun _ => ?_)
  refine ok_ite (fun _ => wz_ok ok (pairS_bd ok _)) (fun _ => ?_)
  refine ok_ite (fun _ => wz_ok ok (w16_bd _)) (fun _ => ?_)
  refine ok_ite (fun _ => wz_ok ok h1) (fun _ => ?_)
  refine ok_ite (fun _ => wz_ok ok (plusW_bd _ _)) (fun _ => ?_)
  refine ok_ite (fun _ => ok.withR { ok.r with sp := h5 }) (fun _ => ?_)
  refine ok_ite (fun _ => pair_ok ok _ ok.r.wz) (fun _ => ?_)
  refine ok_ite (fun _ => pc_ok ok ok.r.wz) (fun _ => ?_)
  refine ok_ite (fun _ => pc_ok ok (pairS_bd ok _)) (fun _ => ?_)
  refine ok_ite (fun _ => wz_ok (pc_ok ok (plusW_bd _ _)) (plusW_bd _ _)) (fun _ => ?_)
  exact ok_ite (fun h => wz_ok (pc_ok ok (hn h)) (hn h)) (fun _ => ok)
theorem O_ok (ok : x.Ok) (g n : Int) : (workO x g n).Ok := by
  have h1 : (exAf x.r).Ok := { ok.r with a := ok.r.a2, a2 := ok.r.a, f := ok.r.f2, f2 := ok.r.f }
  have h2 : (exx x.r).Ok := { ok.r with b := ok.r.b2, b2 := ok.r.b, c := ok.r.c2, c2 := ok.r.c, d := ok.r.d2, d2 := ok.r.d, e := ok.r.e2, e2 := ok.r.e, h := ok.r.h2, h2 := ok.r.h, l := ok.r.l2, l2 := ok.r.l }
  have h3 : (exDe x.r).Ok := { ok.r with d := ok.r.h, h := ok.r.d, e := ok.r.l, l := ok.r.e }
  have h4 : (onceMoreS x).Ok := ⟨{ ok.r with pc := w16_bd _, wz := w16_bd _ }, ok.addr, ok.latch, ok.dist⟩
  unfold workO
  refine ok_ite (fun _ => ok.withR h1) (fun _ => ?_)
  refine ok_ite (fun _ => ok.withR h2) (fun _ => ?_)
  refine ok_ite (fun _ => ok.withR h3) (fun _ => ?_)
  refine ok_ite (fun _ => ok.withR { ok.r with }) (fun _ => ?_)
  refine ok_ite (fun _ => ok.withR { ok.r with }) (fun _ => ?_)
  refine ok_ite (fun _ => ok.withR { ok.r with }) (fun _ => ?_)
  refine ok_ite (fun _ => F_ok (stepS_ok (addToS_ok ok _ _) _) (flags_bd _ _ _ _ _ _ _ _)) (fun _ => ?_)
  exact ok_ite (fun _ => F_ok h4 (flags_bd _ _ _ _ _ _ _ _)) (fun _ => ok)
theorem work_ok (ok : x.Ok) (s : Sp) (hs : goodW s = true) : (workS x s).Ok := by
  unfold workS
  split
  · exact B_ok ok _ _ _
  split
  · refine W_ok ok _ _ (fun e => ?_)
    simp only [goodW, e, Bool.and_eq_true, Bool.or_eq_true, Bool.not_eq_true', beq_self_eq_true, decide_eq_true_eq] at hs
    have h2 := hs.1.2
    simp only [Bool.true_eq_false, false_or] at h2
    exact h2
  · exact O_ok ok _ _
/-- A step that is known here. -/
def goodS (s : Sp) : Bool :=
  if s.k = 5 then goodW s else if s.k = 6 then [0, 8, 16].contains (s.w - s.w % 8) else decide (0 ≤ s.k) && decide (s.k ≤ 4) && decide (0 ≤ s.a) && decide (s.a ≤ 9) && decide (0 ≤ s.n) && decide (s.n ≤ 100) &&
    (if s.k = 0 then decide (1 ≤ s.n) else if s.k = 1 ∨ s.k = 3 then [0, 8, 16, 24, 32, 40, 48, 56].contains (s.w - s.w % 8) else [0, 8, 16, 48, 56, 64, 72, 80].contains (s.w - s.w % 8))
theorem all_plain : (List.range 256).all (fun c => c == 203 || c == 221 || c == 237 || c == 253 || (progS [] 0 0 c).all goodS) = true := by decide +kernel
theorem good_ldir : (progS [] 2 0 176).all goodS = true := by decide +kernel
theorem only_put (x : Cp) (g k n : Int) : Only x (putByteS x g k n) := by
  unfold putByteS
  repeat' split
  all_goals first | exact only_reg _ _ _ | exact only_r _ _ | exact ⟨x.r, x.latch, x.reck, n, rfl⟩ | exact Only.refl _
theorem only_behind (x : Cp) (a : Int) : Only x (behindS x a) := by
  unfold behindS
  repeat' split
  all_goals first | exact only_r _ _ | exact Only.refl _
theorem put_ok (ok : x.Ok) (g k : Int) {n : Int} (n8 : B8 n) : (putByteS x g k n).Ok := by
  have h1 : B16 (x.r.wz / 256 * 256 + n) := by have := ok.r.wz; unfold B16 at *; unfold B8 at n8; omega
  have h2 : B16 (n * 256 + x.r.wz % 256) := by unfold B16; unfold B8 at n8; omega
  have h3 : B16 (x.r.sp / 256 * 256 + n) := by have := ok.r.sp; unfold B16 at *; unfold B8 at n8; omega
  have h4 : B16 (n * 256 + x.r.sp % 256) := by unfold B16; unfold B8 at n8; omega
  unfold putByteS
  repeat' split
  · exact reg_ok ok _ n8
  · exact ok.withR (putV_ok _ ok.r _ _ _ n8)
  · exact ok.withR { ok.r with f := n8 }
  · exact wz_ok ok h1
  · exact wz_ok ok h2
  · exact ⟨ok.r, ok.addr, ok.latch, n8⟩
  · exact ok.withR { ok.r with sp := h3 }
  · exact ok.withR { ok.r with sp := h4 }
  · exact ok
theorem behind_ok (ok : x.Ok) (a : Int) : (behindS x a).Ok := by
  unfold behindS
  repeat' split
  · exact ok.withR { ok.r with pc := w16_bd _ }
  · exact ok.withR { ok.r with sp := w16_bd _ }
  · exact ok
/-- The steps up to the next one that takes time. -/
def goL : List Sp → Cp → Cp
  | [], x => finishS x
  | s :: l, x =>
    if s.k = 5 then goL l (workS { x with next := x.next + 1 } s)
    else if s.k = 6 then (if metS { x with next := x.next + 1 } (s.w - s.w % 8) (s.w % 8) = true then goL l { x with next := x.next + 1 } else finishS { x with next := x.next + 1 })
    else cycleS { x with next := x.next + 1 } s
theorem next_ok (ok : x.Ok) : Cp.Ok { x with next := x.next + 1 } := ⟨ok.r, ok.addr, ok.latch, ok.dist⟩
theorem finish_ok (ok : x.Ok) : (finishS x).Ok := by
  refine ⟨{ ok.r with q := ?_ }, ok.addr, ok.latch, ok.dist⟩
  show B8 (if x.reck = true then x.r.f else 0)
  split
  · exact ok.r.f
  · exact ⟨by decide, by decide⟩
theorem start_ok (ok : x.Ok) (what kind : Int) {addr : Int} (len : Int) (h : B16 addr) : (startS x what kind addr len).Ok := ⟨ok.r, h, ok.latch, ok.dist⟩
theorem cycle_ok (ok : x.Ok) (s : Sp) : (cycleS x s).Ok := by
  have h1 := placeA_bd ok s.a
  have h2 := placeS_ok ok s.a
  unfold cycleS
  repeat' split
  · exact start_ok (x := { placeS x s.a with waits := s.n - 1 }) ⟨h2.r, h2.addr, h2.latch, h2.dist⟩ _ _ _ h1
  · exact start_ok h2 _ _ _ h1
  · exact start_ok h2 _ _ _ h1
  · exact start_ok h2 _ _ _ h1
end Go.Proofs.YtcfkpeemhleleaaGreatDoor
/- op.Args: its contract. -/
namespace Go.Proofs.YtcfkpeemhleleaaGreatDoor
open Go.RowKit


end Go.Proofs.YtcfkpeemhleleaaGreatDoor
/- Rows of steps, read. -/
namespace Go.Proofs.YtcfkpeemhleleaaGreatDoor
open Go.RowKit
set_option linter.unusedVariables false

/-- v has the steps L, wherever they lie. -/
def Steps (w : World) (v : Value) (L : List Sp) : Prop :=
  ∃ A cap, v = .slice A L.length cap ∧ L.length ≤ cap ∧ cap ≤ maxLen ∧ (0 < L.length → ∃ g, A = some ⟨g, 0, none⟩ ∧ g < w.heap.size ∧ ∀ i a, (flat L)[i]? = some a → w.cell? ⟨g, i, none⟩ = some a)
theorem Steps.below {w w' : World} {v : Value} {L : List Sp} (h : Steps w v L) (hb : Below w.heap.size w w') : Steps w' v L := by
  obtain ⟨A, cap, e, h1, h2, hx⟩ := h
  refine ⟨A, cap, e, h1, h2, fun hp => ?_⟩
  obtain ⟨g, e, hg, hc⟩ := hx hp
  exact ⟨g, e, Nat.lt_of_lt_of_le hg hb.size, fun i a hi => (hb.cell (p := ⟨g, i, none⟩) hg).trans (hc i a hi)⟩
theorem Own.steps {w : World} {v : Value} {L : List Sp} {c base : Nat} (h : Own w v L c base) : Steps w v L := by
  have hr := h.row
  rcases hr.2 with ⟨rfl, h0⟩ | ⟨g, cap, cur, rfl, _, hg, hnc, hm, _, _⟩
  · exact ⟨none, 0, by rw [h0], by omega, Nat.zero_le _, fun hp => absurd hp (by omega)⟩
  · refine ⟨some ⟨g, 0, none⟩, cap, rfl, hnc, hm, fun _ => ⟨g, rfl, (Array.getElem?_eq_some_iff.1 hg).1, fun i a hi => ?_⟩⟩
    have := hr.cells (g := g) rfl i a hi
    rw [Go.WideShapes.add_plain, Nat.zero_add] at this
    exact this
theorem flat_get : ∀ (L : List Sp) (k : Nat) (h : k < L.length), (flat L)[k * 4]? = some (.int .i64 L[k].k) ∧ (flat L)[k * 4 + 1]? = some (.int .i64 L[k].a) ∧ (flat L)[k * 4 + 2]? = some (.int .i64 L[k].w) ∧ (flat L)[k * 4 + 3]? = some (.int .i64 L[k].n)
  | s :: l, 0, _ => ⟨rfl, rfl, rfl, rfl⟩
  | s :: l, k + 1, h => by
    have := flat_get l k (by simpa using h)
    have e : (k + 1) * 4 = k * 4 + 1 + 1 + 1 + 1 := by omega
    rw [e]
    exact this
/-- The cells of the step k. -/
theorem Steps.at {w : World} {g : Nat} {L : List Sp} (h : ∀ i a, (flat L)[i]? = some a → w.cell? ⟨g, i, none⟩ = some a) (k : Nat) (hk : k < L.length) :
    w.cell? ⟨g, k * 4, none⟩ = some (.int .i64 L[k].k) ∧ w.cell? ⟨g, k * 4 + 1, none⟩ = some (.int .i64 L[k].a) ∧ w.cell? ⟨g, k * 4 + 2, none⟩ = some (.int .i64 L[k].w) ∧ w.cell? ⟨g, k * 4 + 3, none⟩ = some (.int .i64 L[k].n) := by
  obtain ⟨h0, h1, h2, h3⟩ := flat_get L k hk
  exact ⟨h _ _ h0, h _ _ h1, h _ _ h2, h _ _ h3⟩

theorem short_at (L : List Sp) (h : shortS L = true) : L.length ≤ 20 ∧ ∀ k (hk : k < L.length), 0 ≤ costS L[k] ∧ costS L[k] ≤ 100 := by
  unfold shortS at h
  rw [Bool.and_eq_true] at h
  refine ⟨of_decide_eq_true h.1, fun k hk => ?_⟩
  have := List.all_eq_true.1 h.2 L[k] (List.getElem_mem hk)
  rw [Bool.and_eq_true] at this
  exact ⟨of_decide_eq_true this.1, of_decide_eq_true this.2⟩

end Go.Proofs.YtcfkpeemhleleaaGreatDoor
/- The steps up to the next one that takes time: the contract. -/
namespace Go.Proofs.YtcfkpeemhleleaaGreatDoor
open Go.RowKit
set_option maxRecDepth 100000
set_option linter.unusedVariables false
set_option linter.unusedSimpArgs false
variable {w0 : World} {b f base : Nat} {x : Cp} {v : Value} {y : Fl} {va : Value}

theorem Mc.row_at {w : World} {A : Option Addr} {m cap : Nat} (h : Mc w0 w b f base x (.slice A m cap) y va) (k : Nat) (hk : k < x.steps.length) :
    ∃ g, A = some ⟨g, 0, none⟩ ∧ g < w.heap.size ∧ w.cell? ⟨g, k * 4, none⟩ = some (.int .i64 x.steps[k].k) ∧ w.cell? ⟨g, k * 4 + 1, none⟩ = some (.int .i64 x.steps[k].a) ∧ w.cell? ⟨g, k * 4 + 2, none⟩ = some (.int .i64 x.steps[k].w) ∧ w.cell? ⟨g, k * 4 + 3, none⟩ = some (.int .i64 x.steps[k].n) := by
  obtain ⟨A', cap', e, _, _, hx⟩ := h.row.steps
  injection e with e1 e2 e3
  subst e1
  obtain ⟨g, rfl, hg, hc⟩ := hx (by omega)
  exact ⟨g, rfl, hg, Steps.at hc k hk⟩
theorem goL_work (s : Sp) (l : List Sp) (x : Cp) (h : s.k = 5) : goL (s :: l) x = goL l (workS { x with next := x.next + 1 } s) := by rw [goL, if_pos h]
theorem goL_met (s : Sp) (l : List Sp) (x : Cp) (h : s.k = 6) (hm : metS { x with next := x.next + 1 } (s.w - s.w % 8) (s.w % 8) = true) : goL (s :: l) x = goL l { x with next := x.next + 1 } := by rw [goL, if_neg (by omega), if_pos h, if_pos hm]
theorem goL_unmet (s : Sp) (l : List Sp) (x : Cp) (h : s.k = 6) (hm : metS { x with next := x.next + 1 } (s.w - s.w % 8) (s.w % 8) = false) : goL (s :: l) x = finishS { x with next := x.next + 1 } := by rw [goL, if_neg (by omega), if_pos h, hm]; rfl
theorem goL_cycle (s : Sp) (l : List Sp) (x : Cp) (h5 : ¬ s.k = 5) (h6 : ¬ s.k = 6) : goL (s :: l) x = cycleS { x with next := x.next + 1 } s := by rw [goL, if_neg h5, if_neg h6]

set_option maxHeartbeats 6400000 in
theorem goOn_any (n : Nat) (w : World) (h : Mc w0 w b f base x v y va) (ok : x.Ok) (hn : x.next = n) (hle : n ≤ x.steps.length) (hg : ∀ s ∈ x.steps, goodS s = true) :
    Calls Tryz.prog 45 #[.pointer (some ⟨b, 0, none⟩)] w fun e w' => e = .returned (.tuple #[]) ∧ Mx w0 w' b f base (goL (x.steps.drop n) x) y := by
  obtain ⟨A, cap, rfl, hc, hmx, -⟩ := h.row.steps
  have h60 := h.row.few
  obtain ⟨L, hL⟩ : ∃ L, x.steps = L := ⟨_, rfl⟩
  rw [hL] at hc h60 hg hle h ⊢
  obtain ⟨R, hR⟩ : ∃ R, goL (L.drop n) x = R := ⟨_, rfl⟩
  rw [hR]
  unfold maxLen at hmx
  have HG := Lib.hid hg
  have HS := Lib.hid (show ∃ z : Cp, z.next = (n : Int) ∧ z.steps = L ∧ z.Ok ∧ Mc w0 w b f base z (.slice A L.length cap) y va ∧ goL (L.drop n) z = R from ⟨x, hn, hL, ok, h, hR⟩)
  clear hg h hL hR hn ok
  go_enter Tryz.func45, Tryz.ntmps45
  go_wp2_with fail
  go_loopg [2] (L.length - n) (fun m s wr => ∃ (k : Nat), m = L.length - k ∧ k ≤ L.length ∧ Hid (∃ z : Cp, z.next = (k : Int) ∧ z.steps = L ∧ z.Ok ∧ Mc w0 wr b f base z (.slice A L.length cap) y va ∧ goL (L.drop k) z = R))
  case atStart => exact ⟨n, rfl, hle, HS⟩
  case round =>
    obtain ⟨k, rfl, hk, HX⟩ := hrel
    obtain ⟨z, zn, zs, zok, hm, hz⟩ := HX.out
    clear HX HS hle
    have c38 := hm.cell 38 _ rfl
    have c39 := hm.cell 39 _ rfl
    rw [zn] at c39
    have z39 := hm.free 39
    by_cases hlt : k < L.length
    · have hblk := hm.blk
      obtain ⟨g, rfl, hgb, d0, d1, d2, d3⟩ := hm.row_at k (by rw [zs]; exact hlt)
      have hgood := HG.out L[k] (List.getElem_mem hlt)
      simp only [zs] at d0 d1 d2 d3
      obtain ⟨s, hs⟩ : ∃ s, L[k] = s := ⟨_, rfl⟩
      rw [hs] at hgood d0 d1 d2 d3
      have hdrop : L.drop k = s :: L.drop (k + 1) := by rw [List.drop_eq_getElem_cons hlt, hs]
      rw [hdrop] at hz
      obtain ⟨q, hq⟩ : ∃ q : Cp, { z with next := z.next + 1 } = q := ⟨_, rfl⟩
      have hqe : q = { z with next := (k : Int) + 1 } := by rw [← hq, zn]
      have qok : q.Ok := hq ▸ next_ok zok
      have qs : q.steps = L := by rw [← hq]; exact zs
      have qn : q.next = ((k + 1 : Nat) : Int) := by rw [← hq]; show z.next + 1 = _; rw [zn]; omega
      obtain ⟨sk, sa, sw, sn⟩ := s
      dsimp only at d0 d1 d2 d3
      have HM := Lib.hid (show Mc w0 ((wr.setCell ⟨b, 39, none⟩ (.int .i64 ((k : Int) + 1))).alloc (.cells #[.int .i64 sk, .int .i64 sa, .int .i64 sw, .int .i64 sn] 61)).drew.drew b f base q (.slice (some ⟨g, 0, none⟩) L.length cap) y va by
        rw [hqe]; exact ((hm.set 39 (.int .i64 ((k : Int) + 1)) { z with next := (k : Int) + 1 } (by decide) rfl rfl).alloc _).drew.drew)
      have hlt2 : (k : Int) < L.length := by omega
      have HL := Lib.hid (show ∀ z : Cp, Only q z → z.next = ((k + 1 : Nat) : Int) ∧ z.steps = L from fun z hz => by
        have e := hz.same
        exact ⟨e.2.2.2.2.2.2.2.2.2.1.trans qn, e.2.2.2.2.2.2.2.2.1.trans qs⟩)
      clear hm hqe hdrop zok zn zs hs HG
      by_cases h5 : sk = 5
      · rw [goL_work _ _ _ h5, hq] at hz
        rw [show goodS ⟨sk, sa, sw, sn⟩ = goodW ⟨sk, sa, sw, sn⟩ by unfold goodS; rw [if_pos h5]] at hgood
        have HW := Lib.hid (work_any' ⟨sk, sa, sw, sn⟩ _ HM.out qok hgood)
        have HR := Lib.hid (show ∀ u, Mc w0 u b f base (workS q ⟨sk, sa, sw, sn⟩) (.slice (some ⟨g, 0, none⟩) L.length cap) y va → ∃ z : Cp, z.next = ((k + 1 : Nat) : Int) ∧ z.steps = L ∧ z.Ok ∧ Mc w0 u b f base z (.slice (some ⟨g, 0, none⟩) L.length cap) y va ∧ goL (L.drop (k + 1)) z = R from
          fun u hu => ⟨_, (HL.out _ (only_work q _)).1, (HL.out _ (only_work q _)).2, work_ok qok _ hgood, hu, hz⟩)
        clear hz hgood HL qs qn hq
        subst h5
        go_wp2_with fail
        go_region
        go_wp2_with fail
        go_region
        go_wp2_with fail
        refine HW.out.mono ?_
        rintro e w' ⟨rfl, hm⟩
        have HX := Lib.hid (HR.out _ hm)
        clear hm HR HW HM
        go_wp2_with fail
        go_roundg (L.length - (k + 1))
        case measure => omega
        case rel => exact ⟨k + 1, rfl, by omega, HX⟩
      · by_cases h6 : sk = 6
        · obtain ⟨m, hm⟩ : ∃ m, metS q (sw - sw % 8) (sw % 8) = m := ⟨_, rfl⟩
          rw [show goodS ⟨sk, sa, sw, sn⟩ = [0, 8, 16].contains (sw - sw % 8) by unfold goodS; rw [if_neg h5, if_pos h6]] at hgood
          simp only [List.contains_iff_mem, List.mem_cons, List.not_mem_nil, or_false] at hgood
          have HW := Lib.hid (met_any (sw - sw % 8) (sw % 8) sw _ HM.out qok hgood (by omega) (by omega) (by omega))
          rw [hm] at HW
          cases m with
          | true =>
            rw [goL_met _ _ _ h6 (by rw [hq]; exact hm), hq] at hz
            have HR := Lib.hid (show ∀ u, Mc w0 u b f base q (.slice (some ⟨g, 0, none⟩) L.length cap) y va → ∃ z : Cp, z.next = ((k + 1 : Nat) : Int) ∧ z.steps = L ∧ z.Ok ∧ Mc w0 u b f base z (.slice (some ⟨g, 0, none⟩) L.length cap) y va ∧ goL (L.drop (k + 1)) z = R from
              fun u hu => ⟨q, qn, qs, qok, hu, hz⟩)
            clear hz hgood HL qs qn hq hm h5
            subst h6
            go_wp2_with fail
            go_region
            go_wp2_with fail
            go_region
            go_wp2_with fail
            refine HW.out.mono ?_
            rintro e w' ⟨rfl, hm⟩
            have HX := Lib.hid (HR.out _ hm)
            clear hm HR HW HM
            go_wp2_with fail
            go_roundg (L.length - (k + 1))
            case measure => omega
            case rel => exact ⟨k + 1, rfl, by omega, HX⟩
          | false =>
            rw [goL_unmet _ _ _ h6 (by rw [hq]; exact hm), hq] at hz
            have HF := Lib.hid (fun u (hu : Mc w0 u b f base q (.slice (some ⟨g, 0, none⟩) L.length cap) y va) => finish_any u hu)
            rw [hz] at HF
            clear hz hgood HL qs qn hq hm h5
            subst h6
            go_wp2_with fail
            go_region
            go_wp2_with fail
            go_region
            go_wp2_with fail
            refine HW.out.mono ?_
            rintro e w' ⟨rfl, hm⟩
            have HX := Lib.hid (HF.out _ hm)
            clear hm HF HW HM
            go_wp2_with fail
            refine HX.out.mono ?_
            rintro e w' ⟨rfl, hm⟩
            go_wp2_with fail
            refine bodyPost_ret (results_none rfl _ _ _) rfl ?_
            exact ⟨rfl, hm⟩
        · rw [goL_cycle _ _ _ h5 h6, hq] at hz
          unfold goodS at hgood
          rw [if_neg h5, if_neg h6] at hgood
          simp only [Bool.and_eq_true, decide_eq_true_eq] at hgood
          obtain ⟨⟨⟨⟨⟨⟨k0, k4⟩, a0⟩, a9⟩, n0⟩, n1⟩, -⟩ := hgood
          have HW := Lib.hid (cycleOf_any ⟨sk, sa, sw, sn⟩ _ HM.out qok k0 k4 a0 a9 n0 n1)
          rw [hz] at HW
          have e5 : (sk == 5) = false := by simpa using h5
          have e6 : (sk == 6) = false := by simpa using h6
          clear hz HL qs qn hq h5 h6 k0 k4 a0 a9 n0 n1
          go_wp2_with fail
          go_region
          go_wp2_with fail
          go_region
          go_wp2_with fail
          refine HW.out.mono ?_
          rintro e w' ⟨rfl, hm⟩
          have HX := Lib.hid hm.mx
          clear hm HW HM
          go_wp2_with fail
          refine bodyPost_ret (results_none rfl _ _ _) rfl ?_
          exact ⟨rfl, HX.out⟩
    · obtain rfl : k = L.length := by omega
      rw [List.drop_length] at hz
      have HF := Lib.hid (finish_any wr.drew hm.drew)
      rw [show finishS z = R from hz] at HF
      clear hm hz zs zok hlt HG
      go_wp2_with fail
      go_region
      go_wp2_with fail
      refine HF.out.mono ?_
      rintro e w' ⟨rfl, hm⟩
      go_wp2_with fail
      go_end0
      exact ⟨rfl, hm⟩

end Go.Proofs.YtcfkpeemhleleaaGreatDoor
/- What a step does at its cycle's end: the contract. -/
namespace Go.Proofs.YtcfkpeemhleleaaGreatDoor
open Go.RowKit
set_option maxRecDepth 100000
set_option linter.unusedVariables false
set_option linter.unusedSimpArgs false
variable {w0 : World} {b f base : Nat} {x : Cp} {v : Value} {y : Fl} {va : Value}

/-- The instruction goes on. -/
def goX (x : Cp) : Cp := goL (x.steps.drop x.next.toNat) x
/-- The processor, and the bus, behind a step's access. -/
def accX (x : Cp) (M : Nat → Int) (s : Sp) : Cp :=
  if s.k = 0 then (if 0 < x.waits then startS { x with waits := x.waits - 1 } 8 4 x.addr 1 else goX x)
  else if s.k = 1 then goX (behindS (putByteS x (s.w - s.w % 8) (s.w % 8) (M x.addr.toNat)) s.a) else if s.k = 3 then goX (putByteS x (s.w - s.w % 8) (s.w % 8) 255) else goX x
def accY (x : Cp) (y : Fl) (s : Sp) : Fl :=
  if s.k = 2 then wrS y x.addr.toNat (byteS x (s.w - s.w % 8) (s.w % 8)) else if s.k = 3 then actS y false x.addr 255 else if s.k = 4 then actS y true x.addr (byteS x (s.w - s.w % 8) (s.w % 8)) else y
/-- The steps are known here, and next is one of them, or behind them. -/
structure Cp.In (x : Cp) : Prop where
  ok : x.Ok
  next : x.next = (x.next.toNat : Int)
  le : x.next.toNat ≤ x.steps.length
  good : ∀ s ∈ x.steps, goodS s = true
theorem Cp.In.only {x z : Cp} (h : x.In) (o : Only x z) (ok : z.Ok) : z.In := by
  have e := o.same
  have en : z.next = x.next := e.2.2.2.2.2.2.2.2.2.1
  have es : z.steps = x.steps := e.2.2.2.2.2.2.2.2.1
  exact ⟨ok, by rw [en]; exact h.next, by rw [en, es]; exact h.le, by rw [es]; exact h.good⟩
theorem goX_any (w : World) (h : Mc w0 w b f base x v y va) (hi : x.In) :
    Calls Tryz.prog 45 #[.pointer (some ⟨b, 0, none⟩)] w fun e w' => e = .returned (.tuple #[]) ∧ Mx w0 w' b f base (goX x) y :=
  goOn_any x.next.toNat w h hi.ok hi.next hi.le hi.good

set_option maxHeartbeats 3200000 in
theorem access0 (s : Sp) (w : World) (h : Mc w0 w b f base x v y va) (hi : x.In) (h0 : s.k = 0) (hw0 : 0 ≤ x.waits) (hw1 : x.waits ≤ 100) :
    Calls Tryz.prog 35 #[.pointer (some ⟨b, 0, none⟩), busV f, .agg (boxL s)] w fun e w' => e = .returned (.tuple #[]) ∧ Mx w0 w' b f base (accX x y.M s) (accY x y s) := by
  obtain ⟨sk, sa, sw, sn⟩ := s
  dsimp only at h0
  subst h0
  rw [show accX x y.M ⟨0, sa, sw, sn⟩ = (if 0 < x.waits then startS { x with waits := x.waits - 1 } 8 4 x.addr 1 else goX x) from rfl, show accY x y ⟨0, sa, sw, sn⟩ = y from rfl]
  have hm := h.alloc (.cells #[.int .i64 0, .int .i64 sa, .int .i64 sw, .int .i64 sn] 61)
  have c33 := h.cell 33 _ rfl
  have c40 := h.cell 40 _ rfl
  have f40 := h.free 40
  have hblk := h.blk
  by_cases hw : 0 < x.waits
  · rw [if_pos hw]
    have h2 := (h.set 40 (.int .i64 (x.waits - 1)) { x with waits := x.waits - 1 } (by decide) rfl rfl).alloc (.cells #[.int .i64 0, .int .i64 sa, .int .i64 sw, .int .i64 sn] 61)
    have H := Lib.hid (start_any 8 4 x.addr 1 _ h2)
    clear h h2 hm hi
    go_enter Tryz.func35, Tryz.ntmps35
    go_wp2_with fail
    refine H.out.mono ?_
    rintro e w' ⟨rfl, hm⟩
    have HX := Lib.hid hm.mx
    clear hm
    go_wp2_with fail
    refine bodyPost_ret (results_none rfl _ _ _) rfl ?_
    exact ⟨rfl, HX.out⟩
  · rw [if_neg hw]
    have e0 : x.waits = 0 := by omega
    rw [e0] at c40
    have H := Lib.hid (goX_any _ hm hi)
    clear h hm hi e0 hw hw0 hw1
    go_enter Tryz.func35, Tryz.ntmps35
    go_wp2_with fail
    refine H.out.mono ?_
    rintro e w' ⟨rfl, hm⟩
    go_wp2_with fail
    go_end0
    exact ⟨rfl, hm⟩
theorem addr_nat (ok : x.Ok) : ∃ a : Nat, x.addr = (a : Int) ∧ x.addr.toNat = a ∧ a < 65536 := by
  have := ok.addr
  unfold B16 at this
  exact ⟨x.addr.toNat, by omega, rfl, by omega⟩
set_option maxHeartbeats 3200000 in
theorem access1 (s : Sp) (w : World) (h : Mc w0 w b f base x v y va) (hi : x.In) (h0 : s.k = 1) (hs : goodS s = true) (hM : ∀ a, B8 (y.M a)) :
    Calls Tryz.prog 35 #[.pointer (some ⟨b, 0, none⟩), busV f, .agg (boxL s)] w fun e w' => e = .returned (.tuple #[]) ∧ Mx w0 w' b f base (accX x y.M s) (accY x y s) := by
  obtain ⟨sk, sa, sw, sn⟩ := s
  dsimp only at h0
  subst h0
  obtain ⟨a, ha, hn, hlt⟩ := addr_nat hi.ok
  obtain ⟨n, hnn⟩ : ∃ n, y.M a = n := ⟨_, rfl⟩
  have n8 := hM a
  rw [hnn] at n8
  obtain ⟨z, hz⟩ : ∃ z, putByteS x (sw - sw % 8) (sw % 8) n = z := ⟨_, rfl⟩
  have zi : z.In := hz ▸ hi.only (only_put _ _ _ _) (put_ok hi.ok _ _ n8)
  have zi2 : (behindS z sa).In := zi.only (only_behind _ _) (behind_ok zi.ok _)
  rw [show accX x y.M ⟨1, sa, sw, sn⟩ = goX (behindS z sa) by unfold accX; simp only [hn, hnn, hz]; rfl, show accY x y ⟨1, sa, sw, sn⟩ = y from rfl]
  have hm := h.alloc (.cells #[.int .i64 1, .int .i64 sa, .int .i64 sw, .int .i64 sn] 61)
  have c33 := h.cell 33 _ rfl
  rw [ha] at c33
  have hblk := h.blk
  have hb1 := fun n => busN_Read n ⟨f, 0, none⟩
  have hb2 := fun n => bus_Read n ⟨f, 0, none⟩
  have hne : w.heap.size ≠ b := Nat.ne_of_gt h.blk
  simp only [goodS, show ¬ ((1 : Int) = 5) by decide, show ¬ ((1 : Int) = 6) by decide, show ¬ ((1 : Int) = 0) by decide, if_false, true_or, if_true, Bool.and_eq_true, List.contains_iff_mem, List.mem_cons, List.not_mem_nil, or_false] at hs
  have HR := Lib.hid (flRead a _ hm.drew hlt)
  rw [hnn] at HR
  have HP := Lib.hid (putByte_cpu (sw - sw % 8) (sw % 8) sw n _ hm.drew hi.ok n8 hs.2 (by omega) (by omega) (by omega))
  rw [hz] at HP
  have HB := Lib.hid (fun u (hu : Mc w0 u b f base z v y va) => behind_any sa u hu)
  have HG := Lib.hid (fun u (hu : Mc w0 u b f base (behindS z sa) v y va) => goX_any u hu zi2)
  have HK := Lib.hid (fun u (hu : Kb b (w.alloc (.cells #[.int .i64 1, .int .i64 sa, .int .i64 sw, .int .i64 sn] 61)).drew u) => show u.cell? ⟨w.heap.size, 1, none⟩ = some (.int .i64 sa) from
    (hu.cell (p := ⟨w.heap.size, 1, none⟩) (by simp) hne).trans (by go_simp))
  clear h hm hi zi zi2 hz ha hn n8 hM hs hnn
  go_enter Tryz.func35, Tryz.ntmps35
  go_wp2_with fail
  first | refine wp_region_noPanic ?_ | skip
  refine wp_region_U (n := 6) (S := (fun u => u.cell? ⟨w.heap.size, 2, none⟩ = some (.int .i64 sw))) (by kernel_rfl) (by kernel_rfl) (by go_simp) (fun hHeld => ?_)
  refine wpAnyU_take (i := 0) (v := ?v1) rfl (by kernel_rfl) (by kernel_rfl) (by kernel_rfl) (by kernel_rfl) (fun _ _ _ h => h) (Or.inl ⟨by rfl, ?hy1⟩) (by assumption) ?rest1
  case hy1 => (intro w hSw; (try dsimp only at hSw); go_simp; try with_reducible rfl)
  try simp only [Act.put, List.getElem_toArray, List.getElem_cons_succ, List.getElem_cons_zero, List.setIfInBounds_toArray, List.set_cons_zero, List.set_cons_succ]
  refine wpAnyU_take (i := 1) (v := ?v2) rfl (by kernel_rfl) (by kernel_rfl) (by kernel_rfl) (by kernel_rfl) (fun _ _ _ h => h) (Or.inl ⟨by rfl, ?hy2⟩) (by assumption) ?rest2
  case hy2 => (intro w hSw; (try dsimp only at hSw); go_simp; try with_reducible rfl)
  try simp only [Act.put, List.getElem_toArray, List.getElem_cons_succ, List.getElem_cons_zero, List.setIfInBounds_toArray, List.set_cons_zero, List.set_cons_succ]
  refine wpAnyU_take (i := 2) (v := ?v3) rfl (by kernel_rfl) (by kernel_rfl) (by kernel_rfl) (by kernel_rfl) (fun _ _ _ h => h) (Or.inl ⟨by rfl, ?hy3⟩) (by assumption) ?rest3
  case hy3 => (intro w hSw; (try dsimp only at hSw); go_simp; try with_reducible rfl)
  try simp only [Act.put, List.getElem_toArray, List.getElem_cons_succ, List.getElem_cons_zero, List.setIfInBounds_toArray, List.set_cons_zero, List.set_cons_succ]
  refine wpAnyU_take (i := 3) (v := ?v4) rfl (by kernel_rfl) (by kernel_rfl) (by kernel_rfl) (by kernel_rfl) (fun _ _ _ h => h) (Or.inl ⟨by rfl, ?hy4⟩) (by assumption) ?rest4
  case hy4 => (intro w hSw; (try dsimp only at hSw); go_simp; try with_reducible rfl)
  try simp only [Act.put, List.getElem_toArray, List.getElem_cons_succ, List.getElem_cons_zero, List.setIfInBounds_toArray, List.set_cons_zero, List.set_cons_succ]
  refine wpAnyU_take (i := 4) (v := ?v5) rfl (by kernel_rfl) (by kernel_rfl) (by kernel_rfl) (by kernel_rfl) (fun _ _ _ h => h) (Or.inl ⟨by rfl, ?hy5⟩) (by assumption) ?rest5
  case hy5 => (intro w hSw; (try dsimp only at hSw); go_simp; try with_reducible rfl)
  try simp only [Act.put, List.getElem_toArray, List.getElem_cons_succ, List.getElem_cons_zero, List.setIfInBounds_toArray, List.set_cons_zero, List.set_cons_succ]
  refine wpAnyU_ready (i := 5) (by kernel_rfl) (by kernel_rfl) rfl (fun K hK => ?_)
  go_simp
  refine (HR.out).mono ?_
  rintro e w' ⟨rfl, rfl⟩
  go_wp2_with fail
  refine hK.out _ _ (by assumption) (fun hHeld => ?_)
  clear hK K
  try simp only [Act.put, List.getElem_toArray, List.getElem_cons_succ, List.getElem_cons_zero, List.setIfInBounds_toArray, List.set_cons_zero, List.set_cons_succ]
  refine wpAnyU_tail rfl (by kernel_rfl) ?_
  simp only [List.drop_succ_cons, List.drop_zero]
  go_wp2_with fail
  refine HP.out.mono ?_
  rintro e w' ⟨rfl, hm, hk⟩
  have c1 := HK.out _ hk
  have HB2 := Lib.hid (HB.out _ hm)
  clear hm hk HK HB
  go_wp2_with fail
  refine NoPanic.normal ?_
  go_wp2_with fail
  refine HB2.out.mono ?_
  rintro e w' ⟨rfl, hm⟩
  have HG2 := Lib.hid (HG.out _ hm)
  clear hm HG
  go_wp2_with fail
  refine HG2.out.mono ?_
  rintro e w' ⟨rfl, hm⟩
  go_wp2_with fail
  go_end0
  exact ⟨rfl, hm⟩
set_option maxHeartbeats 3200000 in
theorem access2 (s : Sp) (w : World) (h : Mc w0 w b f base x v y va) (hi : x.In) (h0 : s.k = 2) (hs : goodS s = true) :
    Calls Tryz.prog 35 #[.pointer (some ⟨b, 0, none⟩), busV f, .agg (boxL s)] w fun e w' => e = .returned (.tuple #[]) ∧ Mx w0 w' b f base (accX x y.M s) (accY x y s) := by
  obtain ⟨sk, sa, sw, sn⟩ := s
  dsimp only at h0
  subst h0
  obtain ⟨a, ha, hn, hlt⟩ := addr_nat hi.ok
  obtain ⟨n, hnn⟩ : ∃ n, byteS x (sw - sw % 8) (sw % 8) = n := ⟨_, rfl⟩
  rw [show accX x y.M ⟨2, sa, sw, sn⟩ = goX x from rfl, show accY x y ⟨2, sa, sw, sn⟩ = wrS y a n by unfold accY; simp only [hn, hnn]; rfl]
  have hm := h.alloc (.cells #[.int .i64 2, .int .i64 sa, .int .i64 sw, .int .i64 sn] 61)
  have c33 := h.cell 33 _ rfl
  rw [ha] at c33
  have hblk := h.blk
  have hb1 := fun n => busN_Write n ⟨f, 0, none⟩
  have hb2 := fun n => bus_Write n ⟨f, 0, none⟩
  simp only [goodS, show ¬ ((2 : Int) = 5) by decide, show ¬ ((2 : Int) = 6) by decide, show ¬ ((2 : Int) = 0) by decide, show ¬ ((2 : Int) = 1 ∨ (2 : Int) = 3) by decide, if_false, Bool.and_eq_true, List.contains_iff_mem, List.mem_cons, List.not_mem_nil, or_false] at hs
  have HY := Lib.hid (byteOf_any (sw - sw % 8) (sw % 8) sw _ hm.drew hi.ok hs.2 (by omega) (by omega) (by omega))
  rw [hnn] at HY
  have HM := Lib.hid hm.drew
  have HW := Lib.hid (fun u (hu : Mc w0 u b f base x v y va) => flWrite a n u hu hlt)
  have HG := Lib.hid (fun u (hu : Mc w0 u b f base x v (wrS y a n) va) => goX_any u hu hi)
  have HK := Lib.hid (fun u (hu : ∃ m, u = (w.alloc (.cells #[.int .i64 2, .int .i64 sa, .int .i64 sw, .int .i64 sn] 61)).drew.drewN m) => show u.cell? ⟨w.heap.size, 2, none⟩ = some (.int .i64 sw) from by
    obtain ⟨m, rfl⟩ := hu
    go_simp)
  clear h hm hi ha hn hs hnn
  go_enter Tryz.func35, Tryz.ntmps35
  go_wp2_with fail
  first | refine wp_region_noPanic ?_ | skip
  refine wp_region_U (n := 9) (S := (fun u => u.cell? ⟨w.heap.size, 2, none⟩ = some (.int .i64 sw))) (by kernel_rfl) (by kernel_rfl) (by go_simp) (fun hHeld => ?_)
  refine wpAnyU_take (i := 0) (v := ?v6) rfl (by kernel_rfl) (by kernel_rfl) (by kernel_rfl) (by kernel_rfl) (fun _ _ _ h => h) (Or.inl ⟨by rfl, ?hy6⟩) (by assumption) ?rest6
  case hy6 => (intro w hSw; (try dsimp only at hSw); go_simp; try with_reducible rfl)
  try simp only [Act.put, List.getElem_toArray, List.getElem_cons_succ, List.getElem_cons_zero, List.setIfInBounds_toArray, List.set_cons_zero, List.set_cons_succ]
  refine wpAnyU_take (i := 1) (v := ?v7) rfl (by kernel_rfl) (by kernel_rfl) (by kernel_rfl) (by kernel_rfl) (fun _ _ _ h => h) (Or.inl ⟨by rfl, ?hy7⟩) (by assumption) ?rest7
  case hy7 => (intro w hSw; (try dsimp only at hSw); go_simp; try with_reducible rfl)
  try simp only [Act.put, List.getElem_toArray, List.getElem_cons_succ, List.getElem_cons_zero, List.setIfInBounds_toArray, List.set_cons_zero, List.set_cons_succ]
  refine wpAnyU_take (i := 2) (v := ?v8) rfl (by kernel_rfl) (by kernel_rfl) (by kernel_rfl) (by kernel_rfl) (fun _ _ _ h => h) (Or.inl ⟨by rfl, ?hy8⟩) (by assumption) ?rest8
  case hy8 => (intro w hSw; (try dsimp only at hSw); go_simp; try with_reducible rfl)
  try simp only [Act.put, List.getElem_toArray, List.getElem_cons_succ, List.getElem_cons_zero, List.setIfInBounds_toArray, List.set_cons_zero, List.set_cons_succ]
  refine wpAnyU_take (i := 3) (v := ?v9) rfl (by kernel_rfl) (by kernel_rfl) (by kernel_rfl) (by kernel_rfl) (fun _ _ _ h => h) (Or.inl ⟨by rfl, ?hy9⟩) (by assumption) ?rest9
  case hy9 => (intro w hSw; (try dsimp only at hSw); go_simp; try with_reducible rfl)
  try simp only [Act.put, List.getElem_toArray, List.getElem_cons_succ, List.getElem_cons_zero, List.setIfInBounds_toArray, List.set_cons_zero, List.set_cons_succ]
  refine wpAnyU_take (i := 4) (v := ?v10) rfl (by kernel_rfl) (by kernel_rfl) (by kernel_rfl) (by kernel_rfl) (fun _ _ _ h => h) (Or.inl ⟨by rfl, ?hy10⟩) (by assumption) ?rest10
  case hy10 => (intro w hSw; (try dsimp only at hSw); go_simp; try with_reducible rfl)
  try simp only [Act.put, List.getElem_toArray, List.getElem_cons_succ, List.getElem_cons_zero, List.setIfInBounds_toArray, List.set_cons_zero, List.set_cons_succ]
  refine wpAnyU_take (i := 6) (v := ?v11) rfl (by kernel_rfl) (by kernel_rfl) (by kernel_rfl) (by kernel_rfl) (fun _ _ _ h => h) (Or.inl ⟨by rfl, ?hy11⟩) (by assumption) ?rest11
  case hy11 => (intro w hSw; (try dsimp only at hSw); go_simp; try with_reducible rfl)
  try simp only [Act.put, List.getElem_toArray, List.getElem_cons_succ, List.getElem_cons_zero, List.setIfInBounds_toArray, List.set_cons_zero, List.set_cons_succ]
  refine wpAnyU_take (i := 7) (v := ?v12) rfl (by kernel_rfl) (by kernel_rfl) (by kernel_rfl) (by kernel_rfl) (fun _ _ _ h => h) (Or.inl ⟨by rfl, ?hy12⟩) (by assumption) ?rest12
  case hy12 => (intro w hSw; (try dsimp only at hSw); go_simp; try with_reducible rfl)
  try simp only [Act.put, List.getElem_toArray, List.getElem_cons_succ, List.getElem_cons_zero, List.setIfInBounds_toArray, List.set_cons_zero, List.set_cons_succ]
  refine wpAnyU_take (i := 8) (v := ?v13) rfl (by kernel_rfl) (by kernel_rfl) (by kernel_rfl) (by kernel_rfl) (fun _ _ _ h => h) (Or.inl ⟨by rfl, ?hy13⟩) (by assumption) ?rest13
  case hy13 => (intro w hSw; (try dsimp only at hSw); go_simp; try with_reducible rfl)
  try simp only [Act.put, List.getElem_toArray, List.getElem_cons_succ, List.getElem_cons_zero, List.setIfInBounds_toArray, List.set_cons_zero, List.set_cons_succ]
  refine wpAnyU_ready (i := 5) (by kernel_rfl) (by kernel_rfl) rfl (fun K hK => ?_)
  go_simp
  refine (HY.out).mono ?_
  rintro e w' ⟨rfl, hm⟩
  go_wp2_with fail
  refine hK.out _ _ (HK.out _ hm) (fun hHeld => ?_)
  clear hK K
  try simp only [Act.put, List.getElem_toArray, List.getElem_cons_succ, List.getElem_cons_zero, List.setIfInBounds_toArray, List.set_cons_zero, List.set_cons_succ]
  have HW2 := Lib.hid (HW.out _ (HM.out.drews hm))
  clear hm
  refine wpAnyU_tail rfl (by kernel_rfl) ?_
  simp only [List.drop_succ_cons, List.drop_zero]
  go_wp2_with fail
  refine HW2.out.mono ?_
  rintro e w' ⟨rfl, hm⟩
  have HG2 := Lib.hid (HG.out _ hm)
  clear hm HG
  go_wp2_with fail
  refine NoPanic.normal ?_
  go_wp2_with fail
  refine HG2.out.mono ?_
  rintro e w' ⟨rfl, hm⟩
  go_wp2_with fail
  go_end0
  exact ⟨rfl, hm⟩
set_option maxHeartbeats 3200000 in
theorem access4 (s : Sp) (w : World) (h : Mc w0 w b f base x v y va) (hi : x.In) (h0 : s.k = 4) (hs : goodS s = true) (hl : y.acts.length ≤ 100000) :
    Calls Tryz.prog 35 #[.pointer (some ⟨b, 0, none⟩), busV f, .agg (boxL s)] w fun e w' => e = .returned (.tuple #[]) ∧ Mx w0 w' b f base (accX x y.M s) (accY x y s) := by
  obtain ⟨sk, sa, sw, sn⟩ := s
  dsimp only at h0
  subst h0
  obtain ⟨n, hnn⟩ : ∃ n, byteS x (sw - sw % 8) (sw % 8) = n := ⟨_, rfl⟩
  rw [show accX x y.M ⟨4, sa, sw, sn⟩ = goX x from rfl, show accY x y ⟨4, sa, sw, sn⟩ = actS y true x.addr n by unfold accY; simp only [hnn]; rfl]
  have hm := h.alloc (.cells #[.int .i64 4, .int .i64 sa, .int .i64 sw, .int .i64 sn] 61)
  have c33 := h.cell 33 _ rfl
  have hblk := h.blk
  have hb1 := fun n => busN_Out n ⟨f, 0, none⟩
  have hb2 := fun n => bus_Out n ⟨f, 0, none⟩
  simp only [goodS, show ¬ ((4 : Int) = 5) by decide, show ¬ ((4 : Int) = 6) by decide, show ¬ ((4 : Int) = 0) by decide, show ¬ ((4 : Int) = 1 ∨ (4 : Int) = 3) by decide, if_false, Bool.and_eq_true, List.contains_iff_mem, List.mem_cons, List.not_mem_nil, or_false] at hs
  have HY := Lib.hid (byteOf_any (sw - sw % 8) (sw % 8) sw _ hm.drew hi.ok hs.2 (by omega) (by omega) (by omega))
  rw [hnn] at HY
  have HM := Lib.hid hm.drew
  have HW := Lib.hid (fun u (hu : Mc w0 u b f base x v y va) => flOut x.addr n u hu hl)
  have HG := Lib.hid (fun u v va (hu : Mc w0 u b f base x v (actS y true x.addr n) va) => goX_any u hu hi)
  have HK := Lib.hid (fun u (hu : ∃ m, u = (w.alloc (.cells #[.int .i64 4, .int .i64 sa, .int .i64 sw, .int .i64 sn] 61)).drew.drewN m) => show u.cell? ⟨w.heap.size, 2, none⟩ = some (.int .i64 sw) from by
    obtain ⟨m, rfl⟩ := hu
    go_simp)
  clear h hm hi hs hnn
  go_enter Tryz.func35, Tryz.ntmps35
  go_wp2_with fail
  first | refine wp_region_noPanic ?_ | skip
  refine wp_region_U (n := 9) (S := (fun u => u.cell? ⟨w.heap.size, 2, none⟩ = some (.int .i64 sw))) (by kernel_rfl) (by kernel_rfl) (by go_simp) (fun hHeld => ?_)
  refine wpAnyU_take (i := 0) (v := ?v14) rfl (by kernel_rfl) (by kernel_rfl) (by kernel_rfl) (by kernel_rfl) (fun _ _ _ h => h) (Or.inl ⟨by rfl, ?hy14⟩) (by assumption) ?rest14
  case hy14 => (intro w hSw; (try dsimp only at hSw); go_simp; try with_reducible rfl)
  try simp only [Act.put, List.getElem_toArray, List.getElem_cons_succ, List.getElem_cons_zero, List.setIfInBounds_toArray, List.set_cons_zero, List.set_cons_succ]
  refine wpAnyU_take (i := 1) (v := ?v15) rfl (by kernel_rfl) (by kernel_rfl) (by kernel_rfl) (by kernel_rfl) (fun _ _ _ h => h) (Or.inl ⟨by rfl, ?hy15⟩) (by assumption) ?rest15
  case hy15 => (intro w hSw; (try dsimp only at hSw); go_simp; try with_reducible rfl)
  try simp only [Act.put, List.getElem_toArray, List.getElem_cons_succ, List.getElem_cons_zero, List.setIfInBounds_toArray, List.set_cons_zero, List.set_cons_succ]
  refine wpAnyU_take (i := 2) (v := ?v16) rfl (by kernel_rfl) (by kernel_rfl) (by kernel_rfl) (by kernel_rfl) (fun _ _ _ h => h) (Or.inl ⟨by rfl, ?hy16⟩) (by assumption) ?rest16
  case hy16 => (intro w hSw; (try dsimp only at hSw); go_simp; try with_reducible rfl)
  try simp only [Act.put, List.getElem_toArray, List.getElem_cons_succ, List.getElem_cons_zero, List.setIfInBounds_toArray, List.set_cons_zero, List.set_cons_succ]
  refine wpAnyU_take (i := 3) (v := ?v17) rfl (by kernel_rfl) (by kernel_rfl) (by kernel_rfl) (by kernel_rfl) (fun _ _ _ h => h) (Or.inl ⟨by rfl, ?hy17⟩) (by assumption) ?rest17
  case hy17 => (intro w hSw; (try dsimp only at hSw); go_simp; try with_reducible rfl)
  try simp only [Act.put, List.getElem_toArray, List.getElem_cons_succ, List.getElem_cons_zero, List.setIfInBounds_toArray, List.set_cons_zero, List.set_cons_succ]
  refine wpAnyU_take (i := 4) (v := ?v18) rfl (by kernel_rfl) (by kernel_rfl) (by kernel_rfl) (by kernel_rfl) (fun _ _ _ h => h) (Or.inl ⟨by rfl, ?hy18⟩) (by assumption) ?rest18
  case hy18 => (intro w hSw; (try dsimp only at hSw); go_simp; try with_reducible rfl)
  try simp only [Act.put, List.getElem_toArray, List.getElem_cons_succ, List.getElem_cons_zero, List.setIfInBounds_toArray, List.set_cons_zero, List.set_cons_succ]
  refine wpAnyU_take (i := 6) (v := ?v19) rfl (by kernel_rfl) (by kernel_rfl) (by kernel_rfl) (by kernel_rfl) (fun _ _ _ h => h) (Or.inl ⟨by rfl, ?hy19⟩) (by assumption) ?rest19
  case hy19 => (intro w hSw; (try dsimp only at hSw); go_simp; try with_reducible rfl)
  try simp only [Act.put, List.getElem_toArray, List.getElem_cons_succ, List.getElem_cons_zero, List.setIfInBounds_toArray, List.set_cons_zero, List.set_cons_succ]
  refine wpAnyU_take (i := 7) (v := ?v20) rfl (by kernel_rfl) (by kernel_rfl) (by kernel_rfl) (by kernel_rfl) (fun _ _ _ h => h) (Or.inl ⟨by rfl, ?hy20⟩) (by assumption) ?rest20
  case hy20 => (intro w hSw; (try dsimp only at hSw); go_simp; try with_reducible rfl)
  try simp only [Act.put, List.getElem_toArray, List.getElem_cons_succ, List.getElem_cons_zero, List.setIfInBounds_toArray, List.set_cons_zero, List.set_cons_succ]
  refine wpAnyU_take (i := 8) (v := ?v21) rfl (by kernel_rfl) (by kernel_rfl) (by kernel_rfl) (by kernel_rfl) (fun _ _ _ h => h) (Or.inl ⟨by rfl, ?hy21⟩) (by assumption) ?rest21
  case hy21 => (intro w hSw; (try dsimp only at hSw); go_simp; try with_reducible rfl)
  try simp only [Act.put, List.getElem_toArray, List.getElem_cons_succ, List.getElem_cons_zero, List.setIfInBounds_toArray, List.set_cons_zero, List.set_cons_succ]
  refine wpAnyU_ready (i := 5) (by kernel_rfl) (by kernel_rfl) rfl (fun K hK => ?_)
  go_simp
  refine (HY.out).mono ?_
  rintro e w' ⟨rfl, hm⟩
  go_wp2_with fail
  refine hK.out _ _ (HK.out _ hm) (fun hHeld => ?_)
  clear hK K
  try simp only [Act.put, List.getElem_toArray, List.getElem_cons_succ, List.getElem_cons_zero, List.setIfInBounds_toArray, List.set_cons_zero, List.set_cons_succ]
  have HW2 := Lib.hid (HW.out _ (HM.out.drews hm))
  clear hm
  refine wpAnyU_tail rfl (by kernel_rfl) ?_
  simp only [List.drop_succ_cons, List.drop_zero]
  go_wp2_with fail
  refine HW2.out.mono ?_
  rintro e w' ⟨rfl, hm, -⟩
  obtain ⟨v1, va1, hm⟩ := hm
  have HG2 := Lib.hid (HG.out _ _ _ hm)
  clear hm HG
  go_wp2_with fail
  refine NoPanic.normal ?_
  go_wp2_with fail
  refine HG2.out.mono ?_
  rintro e w' ⟨rfl, hm⟩
  go_wp2_with fail
  go_end0
  exact ⟨rfl, hm⟩
set_option maxHeartbeats 3200000 in
theorem access3 (s : Sp) (w : World) (h : Mc w0 w b f base x v y va) (hi : x.In) (h0 : s.k = 3) (hs : goodS s = true) (hl : y.acts.length ≤ 100000) :
    Calls Tryz.prog 35 #[.pointer (some ⟨b, 0, none⟩), busV f, .agg (boxL s)] w fun e w' => e = .returned (.tuple #[]) ∧ Mx w0 w' b f base (accX x y.M s) (accY x y s) := by
  obtain ⟨sk, sa, sw, sn⟩ := s
  dsimp only at h0
  subst h0
  obtain ⟨z, hz⟩ : ∃ z, putByteS x (sw - sw % 8) (sw % 8) 255 = z := ⟨_, rfl⟩
  have zi : z.In := hz ▸ hi.only (only_put _ _ _ _) (put_ok hi.ok _ _ ⟨by decide, by decide⟩)
  rw [show accX x y.M ⟨3, sa, sw, sn⟩ = goX z by unfold accX; simp only [hz]; rfl, show accY x y ⟨3, sa, sw, sn⟩ = actS y false x.addr 255 from rfl]
  have hm := h.alloc (.cells #[.int .i64 3, .int .i64 sa, .int .i64 sw, .int .i64 sn] 61)
  have c33 := h.cell 33 _ rfl
  have hblk := h.blk
  have hb1 := fun n => busN_In n ⟨f, 0, none⟩
  have hb2 := fun n => bus_In n ⟨f, 0, none⟩
  simp only [goodS, show ¬ ((3 : Int) = 5) by decide, show ¬ ((3 : Int) = 6) by decide, show ¬ ((3 : Int) = 0) by decide, show ¬ ((3 : Int) = 1) by decide, false_or, if_false, if_true, Bool.and_eq_true, List.contains_iff_mem, List.mem_cons, List.not_mem_nil, or_false] at hs
  have HI := Lib.hid (flIn x.addr _ hm.drew hl)
  have hnf : w.heap.size ≠ f := Nat.ne_of_gt h.fblk
  have hnv : va.ownBlock ≠ some w.heap.size := fun e => by have := (h.acts.lt _ e).2; omega
  have HK := Lib.hid (fun u (hu : Kf f va (w.alloc (.cells #[.int .i64 3, .int .i64 sa, .int .i64 sw, .int .i64 sn] 61)).drew u) => show u.cell? ⟨w.heap.size, 2, none⟩ = some (.int .i64 sw) from
    (World.cell?_of_block (w := (w.alloc (.cells #[.int .i64 3, .int .i64 sa, .int .i64 sw, .int .i64 sn] 61)).drew) (a := ⟨w.heap.size, 2, none⟩) (hu.block _ (by simp) hnf hnv)).trans (by go_simp))
  have HP := Lib.hid (fun u v1 va1 (hu : Mc w0 u b f base x v1 (actS y false x.addr 255) va1) => putByte_cpu (sw - sw % 8) (sw % 8) sw 255 u hu hi.ok ⟨by decide, by decide⟩ hs.2 (by omega) (by omega) (by omega))
  rw [hz] at HP
  have HG := Lib.hid (fun u v1 va1 (hu : Mc w0 u b f base z v1 (actS y false x.addr 255) va1) => goX_any u hu zi)
  clear h hm hi zi hz hs hnf hnv
  go_enter Tryz.func35, Tryz.ntmps35
  go_wp2_with fail
  first | refine wp_region_noPanic ?_ | skip
  refine wp_region_U (n := 6) (S := (fun u => u.cell? ⟨w.heap.size, 2, none⟩ = some (.int .i64 sw))) (by kernel_rfl) (by kernel_rfl) (by go_simp) (fun hHeld => ?_)
  refine wpAnyU_take (i := 0) (v := ?v22) rfl (by kernel_rfl) (by kernel_rfl) (by kernel_rfl) (by kernel_rfl) (fun _ _ _ h => h) (Or.inl ⟨by rfl, ?hy22⟩) (by assumption) ?rest22
  case hy22 => (intro w hSw; (try dsimp only at hSw); go_simp; try with_reducible rfl)
  try simp only [Act.put, List.getElem_toArray, List.getElem_cons_succ, List.getElem_cons_zero, List.setIfInBounds_toArray, List.set_cons_zero, List.set_cons_succ]
  refine wpAnyU_take (i := 1) (v := ?v23) rfl (by kernel_rfl) (by kernel_rfl) (by kernel_rfl) (by kernel_rfl) (fun _ _ _ h => h) (Or.inl ⟨by rfl, ?hy23⟩) (by assumption) ?rest23
  case hy23 => (intro w hSw; (try dsimp only at hSw); go_simp; try with_reducible rfl)
  try simp only [Act.put, List.getElem_toArray, List.getElem_cons_succ, List.getElem_cons_zero, List.setIfInBounds_toArray, List.set_cons_zero, List.set_cons_succ]
  refine wpAnyU_take (i := 2) (v := ?v24) rfl (by kernel_rfl) (by kernel_rfl) (by kernel_rfl) (by kernel_rfl) (fun _ _ _ h => h) (Or.inl ⟨by rfl, ?hy24⟩) (by assumption) ?rest24
  case hy24 => (intro w hSw; (try dsimp only at hSw); go_simp; try with_reducible rfl)
  try simp only [Act.put, List.getElem_toArray, List.getElem_cons_succ, List.getElem_cons_zero, List.setIfInBounds_toArray, List.set_cons_zero, List.set_cons_succ]
  refine wpAnyU_take (i := 3) (v := ?v25) rfl (by kernel_rfl) (by kernel_rfl) (by kernel_rfl) (by kernel_rfl) (fun _ _ _ h => h) (Or.inl ⟨by rfl, ?hy25⟩) (by assumption) ?rest25
  case hy25 => (intro w hSw; (try dsimp only at hSw); go_simp; try with_reducible rfl)
  try simp only [Act.put, List.getElem_toArray, List.getElem_cons_succ, List.getElem_cons_zero, List.setIfInBounds_toArray, List.set_cons_zero, List.set_cons_succ]
  refine wpAnyU_take (i := 4) (v := ?v26) rfl (by kernel_rfl) (by kernel_rfl) (by kernel_rfl) (by kernel_rfl) (fun _ _ _ h => h) (Or.inl ⟨by rfl, ?hy26⟩) (by assumption) ?rest26
  case hy26 => (intro w hSw; (try dsimp only at hSw); go_simp; try with_reducible rfl)
  try simp only [Act.put, List.getElem_toArray, List.getElem_cons_succ, List.getElem_cons_zero, List.setIfInBounds_toArray, List.set_cons_zero, List.set_cons_succ]
  refine wpAnyU_ready (i := 5) (by kernel_rfl) (by kernel_rfl) rfl (fun K hK => ?_)
  go_simp
  refine (HI.out).mono ?_
  rintro e w' ⟨rfl, hm, hk⟩
  go_wp2_with fail
  refine hK.out _ _ (HK.out _ hk) (fun hHeld => ?_)
  clear hK K
  try simp only [Act.put, List.getElem_toArray, List.getElem_cons_succ, List.getElem_cons_zero, List.setIfInBounds_toArray, List.set_cons_zero, List.set_cons_succ]
  obtain ⟨v1, va1, hm⟩ := hm
  have HP2 := Lib.hid (HP.out _ _ _ hm)
  clear hm hk HK HP
  refine wpAnyU_tail rfl (by kernel_rfl) ?_
  simp only [List.drop_succ_cons, List.drop_zero]
  go_wp2_with fail
  refine HP2.out.mono ?_
  rintro e w' ⟨rfl, hm, -⟩
  have HG2 := Lib.hid (HG.out _ _ _ hm)
  clear hm HG
  go_wp2_with fail
  refine NoPanic.normal ?_
  go_wp2_with fail
  refine HG2.out.mono ?_
  rintro e w' ⟨rfl, hm⟩
  go_wp2_with fail
  go_end0
  exact ⟨rfl, hm⟩
theorem access_any (s : Sp) (w : World) (h : Mc w0 w b f base x v y va) (hi : x.In) (hk : s.k ≠ 5) (hk6 : s.k ≠ 6) (hs : goodS s = true) (hw0 : 0 ≤ x.waits) (hw1 : x.waits ≤ 100) (hM : ∀ a, B8 (y.M a)) (hl : y.acts.length ≤ 100000) :
    Calls Tryz.prog 35 #[.pointer (some ⟨b, 0, none⟩), busV f, .agg (boxL s)] w fun e w' => e = .returned (.tuple #[]) ∧ Mx w0 w' b f base (accX x y.M s) (accY x y s) := by
  have hc : s.k = 0 ∨ s.k = 1 ∨ s.k = 2 ∨ s.k = 3 ∨ s.k = 4 := by
    have hs' := hs
    unfold goodS at hs'
    rw [if_neg hk, if_neg hk6] at hs'
    simp only [Bool.and_eq_true, decide_eq_true_eq] at hs'
    obtain ⟨⟨⟨⟨⟨⟨k0, k4⟩, _⟩, _⟩, _⟩, _⟩, _⟩ := hs'
    omega
  rcases hc with e | e | e | e | e
  · exact access0 s w h hi e hw0 hw1
  · exact access1 s w h hi e hs hM
  · exact access2 s w h hi e hs
  · exact access3 s w h hi e hs hl
  · exact access4 s w h hi e hs hl

end Go.Proofs.YtcfkpeemhleleaaGreatDoor
