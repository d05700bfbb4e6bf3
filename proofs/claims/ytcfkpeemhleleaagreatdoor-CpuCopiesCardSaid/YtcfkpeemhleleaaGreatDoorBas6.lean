/- Texts put together: CpuFirst, CpuEnd, CpuRun, CpuTime, CpuInstr, CpuLdir, CpuMake, RegRef, RegRefPut, RegStep, CpuNew, CpuNil, CpuLives, OpenMix, RegOpenK, CpuOpen, CpuCalls. -/
import Derived.Test.YtcfkpeemhleleaaGreatDoorBas3
import Derived.Test.YtcfkpeemhleleaaGreatDoorBas5
import Derived.Test.YtcfkpeemhleleaaGreatDoorBas1
import Derived.Deep.QuietTactic
import Derived.BigQuiet
import Derived.Outline
import Derived.Deep.DeepCutAuto
import Derived.Laws.CopyRow
import Derived.Laws.CopyOwn
import Derived.Lib.SliceRun
import Derived.ProofKit
import Derived.OpenShut
import Derived.ChangeArms
import Derived.ChangeSame
import Derived.ChangeOld
import Derived.Below
import Derived.Test.YtcfkpeemhleleaaGreatDoorRows
import Derived.Lib.LaidTab
import Derived.Stop.LaidErr
import Derived.LaidMore
import Derived.MakeChecks
/- An instruction's first byte, and the one behind 237: their contracts. -/
namespace Go.Proofs.YtcfkpeemhleleaaGreatDoor
open Go.RowKit
set_option maxRecDepth 100000
set_option linter.unusedVariables false
set_option linter.unusedSimpArgs false
variable {w0 : World} {b f base : Nat} {x : Cp} {v : Value} {y : Fl} {va : Value}

theorem cut_own (v : Value) : (cutV v).ownBlock = v.ownBlock := by
  cases v with
  | slice a l c => cases a <;> simp [cutV, Value.ownBlock]
  | _ => rfl
theorem Own.cut0 {u : World} {v : Value} {L : List Sp} {c base : Nat} (h : Own u v L c base) : Own u (cutV v) [] 0 base := ⟨h.cut.row, h.cut.size, Nat.le_refl _⟩
/-- The steps are another program, put where the last ones lay. -/
theorem Mc.prog {w w' : World} (h : Mc w0 w b f base x v y va) {v' : Value} {L' : List Sp} (hO : Own w' v' L' 60 base) (hP : Put w w' (cutV v) v') : Mc w0 (w'.setCell ⟨b, 38, none⟩ v') b f base { x with steps := L' } v' y va := by
  have hblk : ∀ k, k < base → w'.heap[k]? = w.heap[k]? := fun k hk => hP.block k (Nat.lt_of_lt_of_le hk h.hb) (fun e => by rw [cut_own] at e; have := (h.row.row.lt k e).1; omega)
  have hne : ∀ k, va.ownBlock = some k → w'.heap[k]? = w.heap[k]? := fun k hk => hP.block k (h.acts.lt k hk).2 (fun e => by
    rw [cut_own] at e
    rcases own_own h.row.row h.acts (by decide) with z | z
    · rw [z] at e; cases e
    · exact z (e.trans hk.symm))
  have h1 : ∀ k, k ≠ b → (w'.setCell ⟨b, 38, none⟩ v').heap[k]? = w'.heap[k]? := fun k hk => Below.heap_setCell _ _ _ _ hk
  have hsz : (w'.setCell ⟨b, 38, none⟩ v').heap.size = w'.heap.size := by simp [World.setCell]
  have hlt : w.heap.size ≤ (w'.setCell ⟨b, 38, none⟩ v').heap.size := by rw [hsz]; exact hP.size
  have hcell : ∀ i, w'.cell? ⟨b, i, none⟩ = w.cell? ⟨b, i, none⟩ := fun i => World.cell?_of_block (a := ⟨b, i, none⟩) (hblk b h.lb)
  refine ⟨fun i a hi => ?_, fun i => ?_, h.fl.block ((h1 f h.ne.symm).trans (hblk f h.lf)), h.lb, h.lf, h.ne, Nat.le_trans h.hb hlt, ⟨own_keep hO.row (fun k hk => h1 k (by have := (hO.row.lt k hk).1; have := h.lb; omega)), by rw [hsz]; exact hO.size, hO.few⟩,
    own_keep h.acts (fun k hk' => (h1 k (by have := (h.acts.lt k hk').1; have := h.lb; omega)).trans (hne k hk')), modes_block h.modes ((h1 _ h.mg.2.1).trans (hblk _ h.mg.1)) hlt, h.mg,
    h.fr.trans ⟨hP.os, hP.tape, hP.output, hlt, fun k hk hb _ => (h1 k hb).trans (hblk k hk)⟩⟩
  · rw [Nat.zero_add]
    by_cases e : 38 = i
    · subst e
      have hi' : some v' = some a := hi
      injection hi' with hi'
      subst hi'
      exact World.cell?_setCell_same _ _ _ ((hcell 38).trans (h.cell 38 _ rfl))
    · rw [World.cell?_setCell_other _ _ _ _ (by intro hh; injection hh with _ h2; exact e h2), hcell]
      refine h.cell i a ?_
      rw [← hi]
      have e1 : ({ x with steps := L' } : Cp).cells v' = (x.cells v).set 38 v' := rfl
      rw [e1, List.getElem?_set_ne e]
  · rw [World.frozen?_setCell, World.frozen?_of_block (w := w) (a := ⟨b, i, none⟩) (hblk b h.lb)]; exact h.free i
/-- A program, put where the last one lay. -/
theorem progM (set : Int) (c : Nat) (w : World) (h : Mc w0 w b f base x v y va) (hp : set = 0 ∧ c < 256 ∨ set = 2 ∧ c = 176) :
    Calls Tryz.prog 44 #[cutV v, .int .i64 set, .int .i64 0, .int .u8 c] w fun e w' => ∃ A n m, e = .returned (.slice A n m) ∧ Mc w0 (w'.setCell ⟨b, 38, none⟩ (.slice A n m)) b f base { x with steps := progS [] set 0 c } (.slice A n m) y va ∧ (∀ j, w'.cell? ⟨b, j, none⟩ = w.cell? ⟨b, j, none⟩) ∧ (∀ j, w'.frozen? ⟨b, j, none⟩ = false) := by
  have hP : Calls Tryz.prog 44 #[cutV v, .int .i64 set, .int .i64 0, .int .u8 c] w (Gives w (cutV v) (progS [] set 0 c) (0 + 10) base) := by
    rcases hp with ⟨rfl, hc⟩ | ⟨rfl, rfl⟩
    · exact program0c base (cutV v) [] 0 w h.row.cut0 (by decide) 0 0 c hc h.modes rfl (by decide) (by decide)
    · exact program_ldir base (cutV v) [] 0 w h.row.cut0 (by decide) 0 h.modes
  refine hP.mono fun e w' ⟨v', he, hO, hP⟩ => ?_
  have hblk : w'.heap[b]? = w.heap[b]? := hP.block b h.blk (fun e => by rw [cut_own] at e; have := (h.row.row.lt b e).1; have := h.lb; omega)
  obtain ⟨A, m, rfl, -, -, -⟩ := hO.steps
  exact ⟨A, _, m, he, h.prog (hO.mono (by decide)) hP, fun j => World.cell?_of_block (a := ⟨b, j, none⟩) hblk, fun j => (World.frozen?_of_block (w := w) (a := ⟨b, j, none⟩) hblk).trans (h.free j)⟩

/-- Behind a fetch of an instruction's first byte, where no index counts. -/
def fetchS (x : Cp) : Cp := { x with r := { x.r with r := tickV x.r.r, pc := w16 (x.r.pc + 1), pre := 0 }, ix := 0 }
def firstP (x : Cp) (c : Nat) : Cp := goX { fetchS x with steps := progS [] 0 0 c }
def firstM (x : Cp) : Cp := startS (fetchS x) 3 0 (w16 (x.r.pc + 1)) 4
theorem tickV_bd (n : Int) (h : B8 n) : B8 (tickV n) := by
  unfold tickV
  unfold B8 at *
  split <;> omega
theorem fetch_ok (ok : x.Ok) : (fetchS x).Ok := by
  have h1 : B8 (tickV x.r.r) := tickV_bd _ ok.r.r
  have h2 : B16 (w16 (x.r.pc + 1)) := w16_bd _
  have h3 : B8 0 := ⟨by decide, by decide⟩
  exact ⟨{ ok.r with r := h1, pc := h2, pre := h3 }, ok.addr, ok.latch, ok.dist⟩
theorem plain_good (c : Nat) (hc : c < 256) (h : c ≠ 203 ∧ c ≠ 221 ∧ c ≠ 237 ∧ c ≠ 253) : ∀ s ∈ progS [] 0 0 c, goodS s = true := by
  have := List.all_eq_true.1 all_plain c (List.mem_range.2 hc)
  simp only [Bool.or_eq_true, beq_iff_eq] at this
  rcases this with (((e | e) | e) | e) | e
  · exact absurd e h.1
  · exact absurd e h.2.1
  · exact absurd e h.2.2.1
  · exact absurd e h.2.2.2
  · exact List.all_eq_true.1 e
set_option maxHeartbeats 3200000 in
theorem firstP_any (c : Nat) (w : World) (h : Mc w0 w b f base x v y va) (ok : x.Ok) (hc : c < 256) (hn : x.next = 0) (hh : x.r.halt = false) (hp : x.r.pre = 0) (h4 : c ≠ 203 ∧ c ≠ 221 ∧ c ≠ 237 ∧ c ≠ 253) :
    Calls Tryz.prog 30 #[.pointer (some ⟨b, 0, none⟩), .int .u8 c] w fun e w' => e = .returned (.tuple #[]) ∧ Mx w0 w' b f base (firstP x c) y := by
  obtain ⟨x1, h1e⟩ : ∃ x1, tickS x = x1 := ⟨_, rfl⟩
  obtain ⟨q, hq⟩ : ∃ q, w16 (x.r.pc + 1) = q := ⟨_, rfl⟩
  have H1 := Lib.hid (tickM w h ok)
  rw [h1e] at H1
  have hx : x1.r.halt = false ∧ x1.r.pre = 0 ∧ IntKind.u16.wrap (x1.r.pc + 1) = q := by subst h1e; exact ⟨hh, hp, (wrap16 _).trans hq⟩
  have HN := Lib.hid (fun u (hu : Mc w0 u b f base x1 v y va) => show u.cell? ⟨b, 26, none⟩ = some (.bool false) ∧ u.cell? ⟨b, 22, none⟩ = some (.int .u16 x1.r.pc) ∧ u.cell? ⟨b, 29, none⟩ = some (.int .u8 0) ∧ u.cell? ⟨b, 41, none⟩ = some (.int .i64 x1.ix) ∧ u.frozen? ⟨b, 22, none⟩ = false ∧ u.frozen? ⟨b, 29, none⟩ = false ∧ u.frozen? ⟨b, 41, none⟩ = false from
    ⟨(hu.cell 26 _ rfl).trans (by rw [hx.1]), hu.cell 22 _ rfl, (hu.cell 29 _ rfl).trans (by rw [hx.2.1]), hu.cell 41 _ rfl, hu.free 22, hu.free 29, hu.free 41⟩)
  have hwr := hx.2.2
  have hz : ({ x1 with r := { x1.r with pc := q, pre := 0 }, ix := 0 } : Cp) = fetchS x := by subst h1e; subst hq; rfl
  obtain ⟨z, hze⟩ : ∃ z, fetchS x = z := ⟨_, rfl⟩
  have HZ := Lib.hid (fun u (hu : Mc w0 u b f base x1 v y va) => show Mc w0 (((u.setCell ⟨b, 22, none⟩ (.int .u16 q)).setCell ⟨b, 41, none⟩ (.int .i64 0)).setCell ⟨b, 29, none⟩ (.int .u8 0)) b f base z v y va from by
    have a1 := hu.set 22 (.int .u16 q) { x1 with r := { x1.r with pc := q } } (by decide) rfl rfl
    have a2 := a1.set 41 (.int .i64 0) { x1 with r := { x1.r with pc := q }, ix := 0 } (by decide) rfl rfl
    have a3 := a2.set 29 (.int .u8 0) { x1 with r := { x1.r with pc := q, pre := 0 }, ix := 0 } (by decide) rfl rfl
    rw [hz, hze] at a3
    exact a3)
  have zix : z.ix = 0 := by subst hze; rfl
  have zi : Cp.In { z with steps := progS [] 0 0 c } := by
    subst hze
    have hn' : (fetchS x).next = 0 := hn
    refine ⟨⟨(fetch_ok ok).r, (fetch_ok ok).addr, (fetch_ok ok).latch, (fetch_ok ok).dist⟩, ?_, ?_, plain_good c hc h4⟩
    · show (fetchS x).next = _; rw [hn']; rfl
    · show (fetchS x).next.toNat ≤ _; rw [hn']; exact Nat.zero_le _
  rw [show firstP x c = goX { z with steps := progS [] 0 0 c } by unfold firstP; rw [hze]]
  have HP := Lib.hid (fun u (hu : Mc w0 u b f base z v y va) => progM 0 c u hu (Or.inl ⟨rfl, hc⟩))
  have HV := Lib.hid (fun u (hu : Mc w0 u b f base z v y va) => show u.cell? ⟨b, 38, none⟩ = some v ∧ u.cell? ⟨b, 41, none⟩ = some (.int .i64 0) from ⟨hu.cell 38 _ rfl, (hu.cell 41 _ rfl).trans (by rw [zix])⟩)
  have HG := Lib.hid (fun u v' (hu : Mc w0 u b f base { z with steps := progS [] 0 0 c } v' y va) => goX_any u hu zi)
  have HI := Lib.hid (fun u => index_cpu 0 u (by decide) (by decide))
  rw [show indexS 0 = 0 from rfl] at HI
  have d1 : ((c : Int) == 203) = false := by rw [beq_eq_false_iff_ne]; omega
  have d2 : ((c : Int) == 237) = false := by rw [beq_eq_false_iff_ne]; omega
  have d3 : ((c : Int) == 221) = false := by rw [beq_eq_false_iff_ne]; omega
  have d4 : ((c : Int) == 253) = false := by rw [beq_eq_false_iff_ne]; omega
  have HF := h.row.row.2
  clear h ok hn hh hp h4 h1e hq hz hze zix zi hx
  rcases HF with ⟨rfl, _⟩ | ⟨g, cap, cur, rfl, _, _, hle, hmax, _, _⟩
  · go_enter Tryz.func30, Tryz.ntmps30
    go_wp2_with fail
    refine H1.out.mono ?_
    rintro e w1 ⟨rfl, hm⟩
    obtain ⟨n1, n2, n3, n4, n5, n6, n7⟩ := HN.out _ hm
    have HZ2 := Lib.hid (HZ.out _ hm)
    clear hm HN HZ
    go_wp2_with fail
    refine (HI.out _).mono ?_
    rintro e w' ⟨rfl, rfl⟩
    go_wp2_with fail
    obtain ⟨m1, m2⟩ := HV.out _ HZ2.out
    have HP2 := Lib.hid (HP.out _ HZ2.out.drew)
    dsimp only [cutV] at HP2
    first | refine wp_region_noPanic ?_ | skip
    refine wp_region_U (n := 12) (S := (fun u => u.cell? ⟨b, 38, none⟩ = some (.slice none 0 0) ∧ u.cell? ⟨b, 41, none⟩ = some (.int .i64 0))) (by kernel_rfl) (by kernel_rfl) ⟨m1, m2⟩ (fun hHeld => ?_)
    refine wpAnyU_take (i := 0) (v := ?v1) rfl (by kernel_rfl) (by kernel_rfl) (by kernel_rfl) (by kernel_rfl) (fun _ _ _ h => h) (Or.inl ⟨by rfl, ?hy1⟩) (by assumption) ?rest1
    case hy1 => (intro w hSw; (try dsimp only at hSw); go_simp; try with_reducible rfl)
    try simp only [Act.put, List.getElem_toArray, List.getElem_cons_succ, List.getElem_cons_zero, List.setIfInBounds_toArray, List.set_cons_zero, List.set_cons_succ]
    refine wpAnyU_take (i := 1) (v := ?v2) rfl (by kernel_rfl) (by kernel_rfl) (by kernel_rfl) (by kernel_rfl) (fun _ _ _ h => h) (Or.inl ⟨by rfl, ?hy2⟩) (by assumption) ?rest2
    case hy2 => (intro w hSw; (try dsimp only at hSw); go_simp; try with_reducible rfl)
    try simp only [Act.put, List.getElem_toArray, List.getElem_cons_succ, List.getElem_cons_zero, List.setIfInBounds_toArray, List.set_cons_zero, List.set_cons_succ]
    refine wpAnyU_take (i := 2) (v := ?v3) rfl (by kernel_rfl) (by kernel_rfl) (by kernel_rfl) (by kernel_rfl) (fun _ _ _ h => h) (Or.inl ⟨by rfl, ?hy3⟩) (by assumption) ?rest3
    case hy3 => (intro w hSw; (try dsimp only at hSw); go_simp; try with_reducible rfl)
    try simp only [Act.put, List.getElem_toArray, List.getElem_cons_succ, List.getElem_cons_zero, List.setIfInBounds_toArray, List.set_cons_zero, List.set_cons_succ]
    refine wpAnyU_take (i := 3) (v := ?v4) rfl (by kernel_rfl) (by kernel_rfl) (by kernel_rfl) (by kernel_rfl) (fun _ _ _ h => h) (Or.inl ⟨by rfl, ?hy4⟩) (by assumption) ?rest4
    case hy4 => (intro w hSw; (try dsimp only at hSw); go_simp; try with_reducible rfl)
    try simp only [Act.put, List.getElem_toArray, List.getElem_cons_succ, List.getElem_cons_zero, List.setIfInBounds_toArray, List.set_cons_zero, List.set_cons_succ]
    refine wpAnyU_take (i := 4) (v := ?v5) rfl (by kernel_rfl) (by kernel_rfl) (by kernel_rfl) (by kernel_rfl) (fun _ _ _ h => h) (Or.inl ⟨by rfl, ?hy5⟩) (by assumption) ?rest5
    case hy5 => (intro w hSw; (try dsimp only at hSw); go_simp; try with_reducible rfl)
    try simp only [Act.put, List.getElem_toArray, List.getElem_cons_succ, List.getElem_cons_zero, List.setIfInBounds_toArray, List.set_cons_zero, List.set_cons_succ]
    refine wpAnyU_take (i := 5) (v := ?v6) rfl (by kernel_rfl) (by kernel_rfl) (by kernel_rfl) (by kernel_rfl) (fun _ _ _ h => h) (Or.inl ⟨by rfl, ?hy6⟩) (by assumption) ?rest6
    case hy6 => (intro w hSw; (try dsimp only at hSw); go_simp; try with_reducible rfl)
    try simp only [Act.put, List.getElem_toArray, List.getElem_cons_succ, List.getElem_cons_zero, List.setIfInBounds_toArray, List.set_cons_zero, List.set_cons_succ]
    refine wpAnyU_take (i := 6) (v := ?v7) rfl (by kernel_rfl) (by kernel_rfl) (by kernel_rfl) (by kernel_rfl) (fun _ _ _ h => h) (Or.inl ⟨by rfl, ?hy7⟩) (by assumption) ?rest7
    case hy7 => (intro w hSw; (try dsimp only at hSw); go_simp; try with_reducible rfl)
    try simp only [Act.put, List.getElem_toArray, List.getElem_cons_succ, List.getElem_cons_zero, List.setIfInBounds_toArray, List.set_cons_zero, List.set_cons_succ]
    refine wpAnyU_take (i := 7) (v := ?v8) rfl (by kernel_rfl) (by kernel_rfl) (by kernel_rfl) (by kernel_rfl) (fun _ _ _ h => h) (Or.inl ⟨by rfl, ?hy8⟩) (by assumption) ?rest8
    case hy8 => (intro w hSw; (try dsimp only at hSw); go_simp; try with_reducible rfl)
    try simp only [Act.put, List.getElem_toArray, List.getElem_cons_succ, List.getElem_cons_zero, List.setIfInBounds_toArray, List.set_cons_zero, List.set_cons_succ]
    refine wpAnyU_take (i := 8) (v := ?v9) rfl (by kernel_rfl) (by kernel_rfl) (by kernel_rfl) (by kernel_rfl) (fun _ _ _ h => h) (Or.inl ⟨by rfl, ?hy9⟩) (by assumption) ?rest9
    case hy9 => (intro w hSw; (try dsimp only at hSw); go_simp; try with_reducible rfl)
    try simp only [Act.put, List.getElem_toArray, List.getElem_cons_succ, List.getElem_cons_zero, List.setIfInBounds_toArray, List.set_cons_zero, List.set_cons_succ]
    refine wpAnyU_take (i := 9) (v := ?v10) rfl (by kernel_rfl) (by kernel_rfl) (by kernel_rfl) (by kernel_rfl) (fun _ _ _ h => h) (Or.inl ⟨by rfl, ?hy10⟩) (by assumption) ?rest10
    case hy10 => (intro w hSw; (try dsimp only at hSw); go_simp; try with_reducible rfl)
    try simp only [Act.put, List.getElem_toArray, List.getElem_cons_succ, List.getElem_cons_zero, List.setIfInBounds_toArray, List.set_cons_zero, List.set_cons_succ]
    refine wpAnyU_take (i := 10) (v := ?v11) rfl (by kernel_rfl) (by kernel_rfl) (by kernel_rfl) (by kernel_rfl) (fun _ _ _ h => h) (Or.inl ⟨by rfl, ?hy11⟩) (by assumption) ?rest11
    case hy11 => (intro w hSw; (try dsimp only at hSw); go_simp; try with_reducible rfl)
    try simp only [Act.put, List.getElem_toArray, List.getElem_cons_succ, List.getElem_cons_zero, List.setIfInBounds_toArray, List.set_cons_zero, List.set_cons_succ]
    refine wpAnyU_ready (i := 11) (by kernel_rfl) (by kernel_rfl) rfl (fun K hK => ?_)
    go_simp
    refine (HP2.out).mono ?_
    rintro e w' ⟨A, l, m, rfl, hm, hc1, hf1⟩
    go_wp2_with fail
    refine hK.out _ _ ⟨(hc1 38).trans m1, (hc1 41).trans m2⟩ (fun hHeld => ?_)
    clear hK K
    try simp only [Act.put, List.getElem_toArray, List.getElem_cons_succ, List.getElem_cons_zero, List.setIfInBounds_toArray, List.set_cons_zero, List.set_cons_succ]
    have HG2 := Lib.hid (HG.out _ _ hm)
    have p1 := (hc1 38).trans m1
    have p2 := hf1 38
    clear hm HG hc1 hf1
    refine wpAnyU_tail rfl (by kernel_rfl) ?_
    simp only [List.drop_succ_cons, List.drop_zero]
    go_wp2_with fail
    go_wp2_with fail
    refine NoPanic.normal ?_
    go_wp2_with fail
    refine HG2.out.mono ?_
    rintro e w' ⟨rfl, hm⟩
    go_wp2_with fail
    go_end0
    exact ⟨rfl, hm⟩
  · go_enter Tryz.func30, Tryz.ntmps30
    go_wp2_with fail
    refine H1.out.mono ?_
    rintro e w1 ⟨rfl, hm⟩
    obtain ⟨n1, n2, n3, n4, n5, n6, n7⟩ := HN.out _ hm
    have HZ2 := Lib.hid (HZ.out _ hm)
    clear hm HN HZ
    go_wp2_with fail
    refine (HI.out _).mono ?_
    rintro e w' ⟨rfl, rfl⟩
    go_wp2_with fail
    obtain ⟨m1, m2⟩ := HV.out _ HZ2.out
    have HP2 := Lib.hid (HP.out _ HZ2.out.drew)
    dsimp only [cutV] at HP2
    first | refine wp_region_noPanic ?_ | skip
    refine wp_region_U (n := 12) (S := (fun u => u.cell? ⟨b, 38, none⟩ = some (.slice (some ⟨g, 0, none⟩) x.steps.length cap) ∧ u.cell? ⟨b, 41, none⟩ = some (.int .i64 0))) (by kernel_rfl) (by kernel_rfl) ⟨m1, m2⟩ (fun hHeld => ?_)
    refine wpAnyU_take (i := 0) (v := ?v12) rfl (by kernel_rfl) (by kernel_rfl) (by kernel_rfl) (by kernel_rfl) (fun _ _ _ h => h) (Or.inl ⟨by rfl, ?hy12⟩) (by assumption) ?rest12
    case hy12 => (intro w hSw; (try dsimp only at hSw); go_simp; try with_reducible rfl)
    try simp only [Act.put, List.getElem_toArray, List.getElem_cons_succ, List.getElem_cons_zero, List.setIfInBounds_toArray, List.set_cons_zero, List.set_cons_succ]
    refine wpAnyU_take (i := 1) (v := ?v13) rfl (by kernel_rfl) (by kernel_rfl) (by kernel_rfl) (by kernel_rfl) (fun _ _ _ h => h) (Or.inl ⟨by rfl, ?hy13⟩) (by assumption) ?rest13
    case hy13 => (intro w hSw; (try dsimp only at hSw); go_simp; try with_reducible rfl)
    try simp only [Act.put, List.getElem_toArray, List.getElem_cons_succ, List.getElem_cons_zero, List.setIfInBounds_toArray, List.set_cons_zero, List.set_cons_succ]
    refine wpAnyU_take (i := 2) (v := ?v14) rfl (by kernel_rfl) (by kernel_rfl) (by kernel_rfl) (by kernel_rfl) (fun _ _ _ h => h) (Or.inl ⟨by rfl, ?hy14⟩) (by assumption) ?rest14
    case hy14 => (intro w hSw; (try dsimp only at hSw); go_simp; try with_reducible rfl)
    try simp only [Act.put, List.getElem_toArray, List.getElem_cons_succ, List.getElem_cons_zero, List.setIfInBounds_toArray, List.set_cons_zero, List.set_cons_succ]
    refine wpAnyU_take (i := 3) (v := ?v15) rfl (by kernel_rfl) (by kernel_rfl) (by kernel_rfl) (by kernel_rfl) (fun _ _ _ h => h) (Or.inl ⟨by rfl, ?hy15⟩) (by assumption) ?rest15
    case hy15 => (intro w hSw; (try dsimp only at hSw); go_simp; try with_reducible rfl)
    try simp only [Act.put, List.getElem_toArray, List.getElem_cons_succ, List.getElem_cons_zero, List.setIfInBounds_toArray, List.set_cons_zero, List.set_cons_succ]
    refine wpAnyU_take (i := 4) (v := ?v16) rfl (by kernel_rfl) (by kernel_rfl) (by kernel_rfl) (by kernel_rfl) (fun _ _ _ h => h) (Or.inl ⟨by rfl, ?hy16⟩) (by assumption) ?rest16
    case hy16 => (intro w hSw; (try dsimp only at hSw); go_simp; try with_reducible rfl)
    try simp only [Act.put, List.getElem_toArray, List.getElem_cons_succ, List.getElem_cons_zero, List.setIfInBounds_toArray, List.set_cons_zero, List.set_cons_succ]
    refine wpAnyU_take (i := 5) (v := ?v17) rfl (by kernel_rfl) (by kernel_rfl) (by kernel_rfl) (by kernel_rfl) (fun _ _ _ h => h) (Or.inl ⟨by rfl, ?hy17⟩) (by assumption) ?rest17
    case hy17 => (intro w hSw; (try dsimp only at hSw); go_simp; try with_reducible rfl)
    try simp only [Act.put, List.getElem_toArray, List.getElem_cons_succ, List.getElem_cons_zero, List.setIfInBounds_toArray, List.set_cons_zero, List.set_cons_succ]
    refine wpAnyU_take (i := 6) (v := ?v18) rfl (by kernel_rfl) (by kernel_rfl) (by kernel_rfl) (by kernel_rfl) (fun _ _ _ h => h) (Or.inl ⟨by rfl, ?hy18⟩) (by assumption) ?rest18
    case hy18 => (intro w hSw; (try dsimp only at hSw); go_simp; try with_reducible rfl)
    try simp only [Act.put, List.getElem_toArray, List.getElem_cons_succ, List.getElem_cons_zero, List.setIfInBounds_toArray, List.set_cons_zero, List.set_cons_succ]
    refine wpAnyU_take (i := 7) (v := ?v19) rfl (by kernel_rfl) (by kernel_rfl) (by kernel_rfl) (by kernel_rfl) (fun _ _ _ h => h) (Or.inl ⟨by rfl, ?hy19⟩) (by assumption) ?rest19
    case hy19 => (intro w hSw; (try dsimp only at hSw); go_simp; try with_reducible rfl)
    try simp only [Act.put, List.getElem_toArray, List.getElem_cons_succ, List.getElem_cons_zero, List.setIfInBounds_toArray, List.set_cons_zero, List.set_cons_succ]
    refine wpAnyU_take (i := 8) (v := ?v20) rfl (by kernel_rfl) (by kernel_rfl) (by kernel_rfl) (by kernel_rfl) (fun _ _ _ h => h) (Or.inl ⟨by rfl, ?hy20⟩) (by assumption) ?rest20
    case hy20 => (intro w hSw; (try dsimp only at hSw); go_simp; try with_reducible rfl)
    try simp only [Act.put, List.getElem_toArray, List.getElem_cons_succ, List.getElem_cons_zero, List.setIfInBounds_toArray, List.set_cons_zero, List.set_cons_succ]
    refine wpAnyU_take (i := 9) (v := ?v21) rfl (by kernel_rfl) (by kernel_rfl) (by kernel_rfl) (by kernel_rfl) (fun _ _ _ h => h) (Or.inl ⟨by rfl, ?hy21⟩) (by assumption) ?rest21
    case hy21 => (intro w hSw; (try dsimp only at hSw); go_simp; try with_reducible rfl)
    try simp only [Act.put, List.getElem_toArray, List.getElem_cons_succ, List.getElem_cons_zero, List.setIfInBounds_toArray, List.set_cons_zero, List.set_cons_succ]
    refine wpAnyU_take (i := 10) (v := ?v22) rfl (by kernel_rfl) (by kernel_rfl) (by kernel_rfl) (by kernel_rfl) (fun _ _ _ h => h) (Or.inl ⟨by rfl, ?hy22⟩) (by assumption) ?rest22
    case hy22 => (intro w hSw; (try dsimp only at hSw); go_simp; try with_reducible rfl)
    try simp only [Act.put, List.getElem_toArray, List.getElem_cons_succ, List.getElem_cons_zero, List.setIfInBounds_toArray, List.set_cons_zero, List.set_cons_succ]
    refine wpAnyU_ready (i := 11) (by kernel_rfl) (by kernel_rfl) rfl (fun K hK => ?_)
    go_simp
    refine (HP2.out).mono ?_
    rintro e w' ⟨A, l, m, rfl, hm, hc1, hf1⟩
    go_wp2_with fail
    refine hK.out _ _ ⟨(hc1 38).trans m1, (hc1 41).trans m2⟩ (fun hHeld => ?_)
    clear hK K
    try simp only [Act.put, List.getElem_toArray, List.getElem_cons_succ, List.getElem_cons_zero, List.setIfInBounds_toArray, List.set_cons_zero, List.set_cons_succ]
    have HG2 := Lib.hid (HG.out _ _ hm)
    have p1 := (hc1 38).trans m1
    have p2 := hf1 38
    clear hm HG hc1 hf1
    refine wpAnyU_tail rfl (by kernel_rfl) ?_
    simp only [List.drop_succ_cons, List.drop_zero]
    go_wp2_with fail
    go_wp2_with fail
    refine NoPanic.normal ?_
    go_wp2_with fail
    refine HG2.out.mono ?_
    rintro e w' ⟨rfl, hm⟩
    go_wp2_with fail
    go_end0
    exact ⟨rfl, hm⟩
set_option maxHeartbeats 3200000 in
theorem firstM_any (w : World) (h : Mc w0 w b f base x v y va) (ok : x.Ok) (hh : x.r.halt = false) (hp : x.r.pre = 0) :
    Calls Tryz.prog 30 #[.pointer (some ⟨b, 0, none⟩), .int .u8 237] w fun e w' => e = .returned (.tuple #[]) ∧ Mx w0 w' b f base (firstM x) y := by
  obtain ⟨x1, h1e⟩ : ∃ x1, tickS x = x1 := ⟨_, rfl⟩
  obtain ⟨q, hq⟩ : ∃ q, w16 (x.r.pc + 1) = q := ⟨_, rfl⟩
  have H1 := Lib.hid (tickM w h ok)
  rw [h1e] at H1
  have hx : x1.r.halt = false ∧ x1.r.pre = 0 ∧ IntKind.u16.wrap (x1.r.pc + 1) = q := by subst h1e; exact ⟨hh, hp, (wrap16 _).trans hq⟩
  have HN := Lib.hid (fun u (hu : Mc w0 u b f base x1 v y va) => show u.cell? ⟨b, 26, none⟩ = some (.bool false) ∧ u.cell? ⟨b, 22, none⟩ = some (.int .u16 x1.r.pc) ∧ u.cell? ⟨b, 29, none⟩ = some (.int .u8 0) ∧ u.cell? ⟨b, 41, none⟩ = some (.int .i64 x1.ix) ∧ u.frozen? ⟨b, 22, none⟩ = false ∧ u.frozen? ⟨b, 29, none⟩ = false ∧ u.frozen? ⟨b, 41, none⟩ = false from
    ⟨(hu.cell 26 _ rfl).trans (by rw [hx.1]), hu.cell 22 _ rfl, (hu.cell 29 _ rfl).trans (by rw [hx.2.1]), hu.cell 41 _ rfl, hu.free 22, hu.free 29, hu.free 41⟩)
  have hwr := hx.2.2
  have hz : ({ x1 with r := { x1.r with pc := q, pre := 0 }, ix := 0 } : Cp) = fetchS x := by subst h1e; subst hq; rfl
  obtain ⟨z, hze⟩ : ∃ z, fetchS x = z := ⟨_, rfl⟩
  rw [show firstM x = startS z 3 0 q 4 by unfold firstM; rw [hze, hq]]
  have HZ := Lib.hid (fun u (hu : Mc w0 u b f base x1 v y va) => show Calls Tryz.prog 29 #[.pointer (some ⟨b, 0, none⟩), .int .i64 3, .int .i64 0, .int .u16 q, .int .i64 4] ((((u.setCell ⟨b, 22, none⟩ (.int .u16 q)).setCell ⟨b, 41, none⟩ (.int .i64 0)).setCell ⟨b, 29, none⟩ (.int .u8 0)).setCell ⟨b, 41, none⟩ (.int .i64 0)) fun e w' => e = .returned (.tuple #[]) ∧ Mx w0 w' b f base (startS z 3 0 q 4) y from by
    have a1 := hu.set 22 (.int .u16 q) { x1 with r := { x1.r with pc := q } } (by decide) rfl rfl
    have a2 := a1.set 41 (.int .i64 0) { x1 with r := { x1.r with pc := q }, ix := 0 } (by decide) rfl rfl
    have a3 := a2.set 29 (.int .u8 0) { x1 with r := { x1.r with pc := q, pre := 0 }, ix := 0 } (by decide) rfl rfl
    rw [hz, hze] at a3
    have a4 := a3.set 41 (.int .i64 0) z (by decide) rfl (by subst hze; rfl)
    exact (start_any 3 0 q 4 _ a4).mono fun _ _ ⟨h1, h2⟩ => ⟨h1, h2.mx⟩)
  have HI := Lib.hid (fun u => index_cpu 0 u (by decide) (by decide))
  rw [show indexS 0 = 0 from rfl] at HI
  clear h ok hh hp h1e hq hz hze hx
  go_enter Tryz.func30, Tryz.ntmps30
  go_wp2_with fail
  refine H1.out.mono ?_
  rintro e w1 ⟨rfl, hm⟩
  obtain ⟨n1, n2, n3, n4, n5, n6, n7⟩ := HN.out _ hm
  have HZ2 := Lib.hid (HZ.out _ hm)
  clear hm HN HZ
  go_wp2_with fail
  refine (HI.out _).mono ?_
  rintro e w' ⟨rfl, rfl⟩
  go_wp2_with fail
  refine HZ2.out.mono ?_
  rintro e w' ⟨rfl, hm⟩
  go_wp2_with fail
  go_end0
  exact ⟨rfl, hm⟩
/-- Behind the fetch of the code behind 237. -/
def secondS (x : Cp) : Cp := { x with r := { x.r with r := tickV x.r.r, pc := w16 (x.r.pc + 1) } }
def secondP (x : Cp) : Cp := goX { secondS x with steps := progS [] 2 0 176 }
theorem second_ok (ok : x.Ok) : (secondS x).Ok := by
  have h1 : B8 (tickV x.r.r) := tickV_bd _ ok.r.r
  have h2 : B16 (w16 (x.r.pc + 1)) := w16_bd _
  exact ⟨{ ok.r with r := h1, pc := h2 }, ok.addr, ok.latch, ok.dist⟩
set_option maxHeartbeats 3200000 in
theorem second_any (w : World) (h : Mc w0 w b f base x v y va) (ok : x.Ok) (hn : x.next = 0) (hi : x.ix = 0) :
    Calls Tryz.prog 31 #[.pointer (some ⟨b, 0, none⟩), .int .i64 2, .int .u8 176] w fun e w' => e = .returned (.tuple #[]) ∧ Mx w0 w' b f base (secondP x) y := by
  obtain ⟨x1, h1e⟩ : ∃ x1, tickS x = x1 := ⟨_, rfl⟩
  obtain ⟨q, hq⟩ : ∃ q, w16 (x.r.pc + 1) = q := ⟨_, rfl⟩
  have H1 := Lib.hid (tickM w h ok)
  rw [h1e] at H1
  have hwr : IntKind.u16.wrap (x1.r.pc + 1) = q := by subst h1e; exact (wrap16 _).trans hq
  have HN := Lib.hid (fun u (hu : Mc w0 u b f base x1 v y va) => show u.cell? ⟨b, 22, none⟩ = some (.int .u16 x1.r.pc) ∧ u.frozen? ⟨b, 22, none⟩ = false from ⟨hu.cell 22 _ rfl, hu.free 22⟩)
  have hz : ({ x1 with r := { x1.r with pc := q } } : Cp) = secondS x := by subst h1e; subst hq; rfl
  obtain ⟨z, hze⟩ : ∃ z, secondS x = z := ⟨_, rfl⟩
  have HZ := Lib.hid (fun u (hu : Mc w0 u b f base x1 v y va) => show Mc w0 (u.setCell ⟨b, 22, none⟩ (.int .u16 q)) b f base z v y va from by
    have a1 := hu.set 22 (.int .u16 q) { x1 with r := { x1.r with pc := q } } (by decide) rfl rfl
    rw [hz, hze] at a1
    exact a1)
  have zix : z.ix = 0 := by subst hze; exact hi
  have zi : Cp.In { z with steps := progS [] 2 0 176 } := by
    subst hze
    have hn' : (secondS x).next = 0 := hn
    refine ⟨⟨(second_ok ok).r, (second_ok ok).addr, (second_ok ok).latch, (second_ok ok).dist⟩, ?_, ?_, List.all_eq_true.1 good_ldir⟩
    · show (secondS x).next = _; rw [hn']; rfl
    · show (secondS x).next.toNat ≤ _; rw [hn']; exact Nat.zero_le _
  rw [show secondP x = goX { z with steps := progS [] 2 0 176 } by unfold secondP; rw [hze]]
  have HP := Lib.hid (fun u (hu : Mc w0 u b f base z v y va) => progM 2 176 u hu (Or.inr ⟨rfl, rfl⟩))
  have HV := Lib.hid (fun u (hu : Mc w0 u b f base z v y va) => show u.cell? ⟨b, 38, none⟩ = some v ∧ u.cell? ⟨b, 41, none⟩ = some (.int .i64 0) from ⟨hu.cell 38 _ rfl, (hu.cell 41 _ rfl).trans (by rw [zix])⟩)
  have HG := Lib.hid (fun u v' (hu : Mc w0 u b f base { z with steps := progS [] 2 0 176 } v' y va) => goX_any u hu zi)
  have HF := h.row.row.2
  clear h ok hn hi h1e hq hz hze zix zi
  rcases HF with ⟨rfl, _⟩ | ⟨g, cap, cur, rfl, _, _, hle, hmax, _, _⟩
  · go_enter Tryz.func31, Tryz.ntmps31
    go_wp2_with fail
    refine H1.out.mono ?_
    rintro e w1 ⟨rfl, hm⟩
    obtain ⟨n2, n5⟩ := HN.out _ hm
    have HZ2 := Lib.hid (HZ.out _ hm)
    clear hm HN HZ
    go_wp2_with fail
    obtain ⟨m1, m2⟩ := HV.out _ HZ2.out
    have HP2 := Lib.hid (HP.out _ HZ2.out.drew)
    dsimp only [cutV] at HP2
    first | refine wp_region_noPanic ?_ | skip
    refine wp_region_U (n := 13) (S := (fun u => u.cell? ⟨b, 38, none⟩ = some (.slice none 0 0) ∧ u.cell? ⟨b, 41, none⟩ = some (.int .i64 0))) (by kernel_rfl) (by kernel_rfl) ⟨m1, m2⟩ (fun hHeld => ?_)
    refine wpAnyU_take (i := 0) (v := ?v23) rfl (by kernel_rfl) (by kernel_rfl) (by kernel_rfl) (by kernel_rfl) (fun _ _ _ h => h) (Or.inl ⟨by rfl, ?hy23⟩) (by assumption) ?rest23
    case hy23 => (intro w hSw; (try dsimp only at hSw); go_simp; try with_reducible rfl)
    try simp only [Act.put, List.getElem_toArray, List.getElem_cons_succ, List.getElem_cons_zero, List.setIfInBounds_toArray, List.set_cons_zero, List.set_cons_succ]
    refine wpAnyU_take (i := 1) (v := ?v24) rfl (by kernel_rfl) (by kernel_rfl) (by kernel_rfl) (by kernel_rfl) (fun _ _ _ h => h) (Or.inl ⟨by rfl, ?hy24⟩) (by assumption) ?rest24
    case hy24 => (intro w hSw; (try dsimp only at hSw); go_simp; try with_reducible rfl)
    try simp only [Act.put, List.getElem_toArray, List.getElem_cons_succ, List.getElem_cons_zero, List.setIfInBounds_toArray, List.set_cons_zero, List.set_cons_succ]
    refine wpAnyU_take (i := 2) (v := ?v25) rfl (by kernel_rfl) (by kernel_rfl) (by kernel_rfl) (by kernel_rfl) (fun _ _ _ h => h) (Or.inl ⟨by rfl, ?hy25⟩) (by assumption) ?rest25
    case hy25 => (intro w hSw; (try dsimp only at hSw); go_simp; try with_reducible rfl)
    try simp only [Act.put, List.getElem_toArray, List.getElem_cons_succ, List.getElem_cons_zero, List.setIfInBounds_toArray, List.set_cons_zero, List.set_cons_succ]
    refine wpAnyU_take (i := 3) (v := ?v26) rfl (by kernel_rfl) (by kernel_rfl) (by kernel_rfl) (by kernel_rfl) (fun _ _ _ h => h) (Or.inl ⟨by rfl, ?hy26⟩) (by assumption) ?rest26
    case hy26 => (intro w hSw; (try dsimp only at hSw); go_simp; try with_reducible rfl)
    try simp only [Act.put, List.getElem_toArray, List.getElem_cons_succ, List.getElem_cons_zero, List.setIfInBounds_toArray, List.set_cons_zero, List.set_cons_succ]
    refine wpAnyU_take (i := 4) (v := ?v27) rfl (by kernel_rfl) (by kernel_rfl) (by kernel_rfl) (by kernel_rfl) (fun _ _ _ h => h) (Or.inl ⟨by rfl, ?hy27⟩) (by assumption) ?rest27
    case hy27 => (intro w hSw; (try dsimp only at hSw); go_simp; try with_reducible rfl)
    try simp only [Act.put, List.getElem_toArray, List.getElem_cons_succ, List.getElem_cons_zero, List.setIfInBounds_toArray, List.set_cons_zero, List.set_cons_succ]
    refine wpAnyU_take (i := 5) (v := ?v28) rfl (by kernel_rfl) (by kernel_rfl) (by kernel_rfl) (by kernel_rfl) (fun _ _ _ h => h) (Or.inl ⟨by rfl, ?hy28⟩) (by assumption) ?rest28
    case hy28 => (intro w hSw; (try dsimp only at hSw); go_simp; try with_reducible rfl)
    try simp only [Act.put, List.getElem_toArray, List.getElem_cons_succ, List.getElem_cons_zero, List.setIfInBounds_toArray, List.set_cons_zero, List.set_cons_succ]
    refine wpAnyU_take (i := 6) (v := ?v29) rfl (by kernel_rfl) (by kernel_rfl) (by kernel_rfl) (by kernel_rfl) (fun _ _ _ h => h) (Or.inl ⟨by rfl, ?hy29⟩) (by assumption) ?rest29
    case hy29 => (intro w hSw; (try dsimp only at hSw); go_simp; try with_reducible rfl)
    try simp only [Act.put, List.getElem_toArray, List.getElem_cons_succ, List.getElem_cons_zero, List.setIfInBounds_toArray, List.set_cons_zero, List.set_cons_succ]
    refine wpAnyU_take (i := 7) (v := ?v30) rfl (by kernel_rfl) (by kernel_rfl) (by kernel_rfl) (by kernel_rfl) (fun _ _ _ h => h) (Or.inl ⟨by rfl, ?hy30⟩) (by assumption) ?rest30
    case hy30 => (intro w hSw; (try dsimp only at hSw); go_simp; try with_reducible rfl)
    try simp only [Act.put, List.getElem_toArray, List.getElem_cons_succ, List.getElem_cons_zero, List.setIfInBounds_toArray, List.set_cons_zero, List.set_cons_succ]
    refine wpAnyU_take (i := 8) (v := ?v31) rfl (by kernel_rfl) (by kernel_rfl) (by kernel_rfl) (by kernel_rfl) (fun _ _ _ h => h) (Or.inl ⟨by rfl, ?hy31⟩) (by assumption) ?rest31
    case hy31 => (intro w hSw; (try dsimp only at hSw); go_simp; try with_reducible rfl)
    try simp only [Act.put, List.getElem_toArray, List.getElem_cons_succ, List.getElem_cons_zero, List.setIfInBounds_toArray, List.set_cons_zero, List.set_cons_succ]
    refine wpAnyU_take (i := 9) (v := ?v32) rfl (by kernel_rfl) (by kernel_rfl) (by kernel_rfl) (by kernel_rfl) (fun _ _ _ h => h) (Or.inl ⟨by rfl, ?hy32⟩) (by assumption) ?rest32
    case hy32 => (intro w hSw; (try dsimp only at hSw); go_simp; try with_reducible rfl)
    try simp only [Act.put, List.getElem_toArray, List.getElem_cons_succ, List.getElem_cons_zero, List.setIfInBounds_toArray, List.set_cons_zero, List.set_cons_succ]
    refine wpAnyU_take (i := 10) (v := ?v33) rfl (by kernel_rfl) (by kernel_rfl) (by kernel_rfl) (by kernel_rfl) (fun _ _ _ h => h) (Or.inl ⟨by rfl, ?hy33⟩) (by assumption) ?rest33
    case hy33 => (intro w hSw; (try dsimp only at hSw); go_simp; try with_reducible rfl)
    try simp only [Act.put, List.getElem_toArray, List.getElem_cons_succ, List.getElem_cons_zero, List.setIfInBounds_toArray, List.set_cons_zero, List.set_cons_succ]
    refine wpAnyU_take (i := 11) (v := ?v34) rfl (by kernel_rfl) (by kernel_rfl) (by kernel_rfl) (by kernel_rfl) (fun _ _ _ h => h) (Or.inl ⟨by rfl, ?hy34⟩) (by assumption) ?rest34
    case hy34 => (intro w hSw; (try dsimp only at hSw); go_simp; try with_reducible rfl)
    try simp only [Act.put, List.getElem_toArray, List.getElem_cons_succ, List.getElem_cons_zero, List.setIfInBounds_toArray, List.set_cons_zero, List.set_cons_succ]
    refine wpAnyU_ready (i := 12) (by kernel_rfl) (by kernel_rfl) rfl (fun K hK => ?_)
    go_simp
    refine (HP2.out).mono ?_
    rintro e w' ⟨A, l, m, rfl, hm, hc1, hf1⟩
    go_wp2_with fail
    refine hK.out _ _ ⟨(hc1 38).trans m1, (hc1 41).trans m2⟩ (fun hHeld => ?_)
    clear hK K
    try simp only [Act.put, List.getElem_toArray, List.getElem_cons_succ, List.getElem_cons_zero, List.setIfInBounds_toArray, List.set_cons_zero, List.set_cons_succ]
    have HG2 := Lib.hid (HG.out _ _ hm)
    have p1 := (hc1 38).trans m1
    have p2 := hf1 38
    clear hm HG hc1 hf1
    refine wpAnyU_tail rfl (by kernel_rfl) ?_
    simp only [List.drop_succ_cons, List.drop_zero]
    go_wp2_with fail
    go_wp2_with fail
    refine NoPanic.normal ?_
    go_wp2_with fail
    refine HG2.out.mono ?_
    rintro e w' ⟨rfl, hm⟩
    go_wp2_with fail
    go_end0
    exact ⟨rfl, hm⟩
  · go_enter Tryz.func31, Tryz.ntmps31
    go_wp2_with fail
    refine H1.out.mono ?_
    rintro e w1 ⟨rfl, hm⟩
    obtain ⟨n2, n5⟩ := HN.out _ hm
    have HZ2 := Lib.hid (HZ.out _ hm)
    clear hm HN HZ
    go_wp2_with fail
    obtain ⟨m1, m2⟩ := HV.out _ HZ2.out
    have HP2 := Lib.hid (HP.out _ HZ2.out.drew)
    dsimp only [cutV] at HP2
    first | refine wp_region_noPanic ?_ | skip
    refine wp_region_U (n := 13) (S := (fun u => u.cell? ⟨b, 38, none⟩ = some (.slice (some ⟨g, 0, none⟩) x.steps.length cap) ∧ u.cell? ⟨b, 41, none⟩ = some (.int .i64 0))) (by kernel_rfl) (by kernel_rfl) ⟨m1, m2⟩ (fun hHeld => ?_)
    refine wpAnyU_take (i := 0) (v := ?v35) rfl (by kernel_rfl) (by kernel_rfl) (by kernel_rfl) (by kernel_rfl) (fun _ _ _ h => h) (Or.inl ⟨by rfl, ?hy35⟩) (by assumption) ?rest35
    case hy35 => (intro w hSw; (try dsimp only at hSw); go_simp; try with_reducible rfl)
    try simp only [Act.put, List.getElem_toArray, List.getElem_cons_succ, List.getElem_cons_zero, List.setIfInBounds_toArray, List.set_cons_zero, List.set_cons_succ]
    refine wpAnyU_take (i := 1) (v := ?v36) rfl (by kernel_rfl) (by kernel_rfl) (by kernel_rfl) (by kernel_rfl) (fun _ _ _ h => h) (Or.inl ⟨by rfl, ?hy36⟩) (by assumption) ?rest36
    case hy36 => (intro w hSw; (try dsimp only at hSw); go_simp; try with_reducible rfl)
    try simp only [Act.put, List.getElem_toArray, List.getElem_cons_succ, List.getElem_cons_zero, List.setIfInBounds_toArray, List.set_cons_zero, List.set_cons_succ]
    refine wpAnyU_take (i := 2) (v := ?v37) rfl (by kernel_rfl) (by kernel_rfl) (by kernel_rfl) (by kernel_rfl) (fun _ _ _ h => h) (Or.inl ⟨by rfl, ?hy37⟩) (by assumption) ?rest37
    case hy37 => (intro w hSw; (try dsimp only at hSw); go_simp; try with_reducible rfl)
    try simp only [Act.put, List.getElem_toArray, List.getElem_cons_succ, List.getElem_cons_zero, List.setIfInBounds_toArray, List.set_cons_zero, List.set_cons_succ]
    refine wpAnyU_take (i := 3) (v := ?v38) rfl (by kernel_rfl) (by kernel_rfl) (by kernel_rfl) (by kernel_rfl) (fun _ _ _ h => h) (Or.inl ⟨by rfl, ?hy38⟩) (by assumption) ?rest38
    case hy38 => (intro w hSw; (try dsimp only at hSw); go_simp; try with_reducible rfl)
    try simp only [Act.put, List.getElem_toArray, List.getElem_cons_succ, List.getElem_cons_zero, List.setIfInBounds_toArray, List.set_cons_zero, List.set_cons_succ]
    refine wpAnyU_take (i := 4) (v := ?v39) rfl (by kernel_rfl) (by kernel_rfl) (by kernel_rfl) (by kernel_rfl) (fun _ _ _ h => h) (Or.inl ⟨by rfl, ?hy39⟩) (by assumption) ?rest39
    case hy39 => (intro w hSw; (try dsimp only at hSw); go_simp; try with_reducible rfl)
    try simp only [Act.put, List.getElem_toArray, List.getElem_cons_succ, List.getElem_cons_zero, List.setIfInBounds_toArray, List.set_cons_zero, List.set_cons_succ]
    refine wpAnyU_take (i := 5) (v := ?v40) rfl (by kernel_rfl) (by kernel_rfl) (by kernel_rfl) (by kernel_rfl) (fun _ _ _ h => h) (Or.inl ⟨by rfl, ?hy40⟩) (by assumption) ?rest40
    case hy40 => (intro w hSw; (try dsimp only at hSw); go_simp; try with_reducible rfl)
    try simp only [Act.put, List.getElem_toArray, List.getElem_cons_succ, List.getElem_cons_zero, List.setIfInBounds_toArray, List.set_cons_zero, List.set_cons_succ]
    refine wpAnyU_take (i := 6) (v := ?v41) rfl (by kernel_rfl) (by kernel_rfl) (by kernel_rfl) (by kernel_rfl) (fun _ _ _ h => h) (Or.inl ⟨by rfl, ?hy41⟩) (by assumption) ?rest41
    case hy41 => (intro w hSw; (try dsimp only at hSw); go_simp; try with_reducible rfl)
    try simp only [Act.put, List.getElem_toArray, List.getElem_cons_succ, List.getElem_cons_zero, List.setIfInBounds_toArray, List.set_cons_zero, List.set_cons_succ]
    refine wpAnyU_take (i := 7) (v := ?v42) rfl (by kernel_rfl) (by kernel_rfl) (by kernel_rfl) (by kernel_rfl) (fun _ _ _ h => h) (Or.inl ⟨by rfl, ?hy42⟩) (by assumption) ?rest42
    case hy42 => (intro w hSw; (try dsimp only at hSw); go_simp; try with_reducible rfl)
    try simp only [Act.put, List.getElem_toArray, List.getElem_cons_succ, List.getElem_cons_zero, List.setIfInBounds_toArray, List.set_cons_zero, List.set_cons_succ]
    refine wpAnyU_take (i := 8) (v := ?v43) rfl (by kernel_rfl) (by kernel_rfl) (by kernel_rfl) (by kernel_rfl) (fun _ _ _ h => h) (Or.inl ⟨by rfl, ?hy43⟩) (by assumption) ?rest43
    case hy43 => (intro w hSw; (try dsimp only at hSw); go_simp; try with_reducible rfl)
    try simp only [Act.put, List.getElem_toArray, List.getElem_cons_succ, List.getElem_cons_zero, List.setIfInBounds_toArray, List.set_cons_zero, List.set_cons_succ]
    refine wpAnyU_take (i := 9) (v := ?v44) rfl (by kernel_rfl) (by kernel_rfl) (by kernel_rfl) (by kernel_rfl) (fun _ _ _ h => h) (Or.inl ⟨by rfl, ?hy44⟩) (by assumption) ?rest44
    case hy44 => (intro w hSw; (try dsimp only at hSw); go_simp; try with_reducible rfl)
    try simp only [Act.put, List.getElem_toArray, List.getElem_cons_succ, List.getElem_cons_zero, List.setIfInBounds_toArray, List.set_cons_zero, List.set_cons_succ]
    refine wpAnyU_take (i := 10) (v := ?v45) rfl (by kernel_rfl) (by kernel_rfl) (by kernel_rfl) (by kernel_rfl) (fun _ _ _ h => h) (Or.inl ⟨by rfl, ?hy45⟩) (by assumption) ?rest45
    case hy45 => (intro w hSw; (try dsimp only at hSw); go_simp; try with_reducible rfl)
    try simp only [Act.put, List.getElem_toArray, List.getElem_cons_succ, List.getElem_cons_zero, List.setIfInBounds_toArray, List.set_cons_zero, List.set_cons_succ]
    refine wpAnyU_take (i := 11) (v := ?v46) rfl (by kernel_rfl) (by kernel_rfl) (by kernel_rfl) (by kernel_rfl) (fun _ _ _ h => h) (Or.inl ⟨by rfl, ?hy46⟩) (by assumption) ?rest46
    case hy46 => (intro w hSw; (try dsimp only at hSw); go_simp; try with_reducible rfl)
    try simp only [Act.put, List.getElem_toArray, List.getElem_cons_succ, List.getElem_cons_zero, List.setIfInBounds_toArray, List.set_cons_zero, List.set_cons_succ]
    refine wpAnyU_ready (i := 12) (by kernel_rfl) (by kernel_rfl) rfl (fun K hK => ?_)
    go_simp
    refine (HP2.out).mono ?_
    rintro e w' ⟨A, l, m, rfl, hm, hc1, hf1⟩
    go_wp2_with fail
    refine hK.out _ _ ⟨(hc1 38).trans m1, (hc1 41).trans m2⟩ (fun hHeld => ?_)
    clear hK K
    try simp only [Act.put, List.getElem_toArray, List.getElem_cons_succ, List.getElem_cons_zero, List.setIfInBounds_toArray, List.set_cons_zero, List.set_cons_succ]
    have HG2 := Lib.hid (HG.out _ _ hm)
    have p1 := (hc1 38).trans m1
    have p2 := hf1 38
    clear hm HG hc1 hf1
    refine wpAnyU_tail rfl (by kernel_rfl) ?_
    simp only [List.drop_succ_cons, List.drop_zero]
    go_wp2_with fail
    go_wp2_with fail
    refine NoPanic.normal ?_
    go_wp2_with fail
    refine HG2.out.mono ?_
    rintro e w' ⟨rfl, hm⟩
    go_wp2_with fail
    go_end0
    exact ⟨rfl, hm⟩

end Go.Proofs.YtcfkpeemhleleaaGreatDoor
/- A cycle's last T-state, and a T-state: their contracts. -/
namespace Go.Proofs.YtcfkpeemhleleaaGreatDoor
open Go.RowKit
set_option maxRecDepth 100000
set_option linter.unusedVariables false
set_option linter.unusedSimpArgs false
variable {w0 : World} {b f base : Nat} {x z : Cp} {v : Value} {y y' : Fl} {va : Value}

set_option maxHeartbeats 3200000 in
theorem end1 (c : Nat) (w : World) (h : Mc w0 w b f base x v y va) (ok : x.Ok) (h1 : x.aim = 1) (hc : y.M x.addr.toNat = (c : Int))
    (hE : ∀ u, Mc w0 u b f base x v y va → Calls Tryz.prog 30 #[.pointer (some ⟨b, 0, none⟩), .int .u8 c] u fun e w' => e = .returned (.tuple #[]) ∧ Mx w0 w' b f base z y') :
    Calls Tryz.prog 24 #[.pointer (some ⟨b, 0, none⟩), busV f] w fun e w' => e = .returned (.tuple #[]) ∧ Mx w0 w' b f base z y' := by
  obtain ⟨a, ha, hn, hlt⟩ := addr_nat ok
  rw [hn] at hc
  have c1 := h.cell 31 _ rfl
  rw [h1] at c1
  have HS : w.cell? ⟨b, 33, none⟩ = some (.int .u16 a) := by rw [← ha]; exact h.cell 33 _ rfl
  have HR := Lib.hid (flRead a _ h.drew hlt)
  rw [hc] at HR
  have HF := Lib.hid (hE _ h.drew)
  have hb1 := fun n => busN_Read n ⟨f, 0, none⟩
  have hb2 := fun n => bus_Read n ⟨f, 0, none⟩
  clear h hE ha hn hc h1 ok
  go_enter Tryz.func24, Tryz.ntmps24
  go_wp2_with fail
  first | refine wp_region_noPanic ?_ | skip
  refine wp_region_U (n := 11) (S := (fun u => u.cell? ⟨b, 33, none⟩ = some (.int .u16 a))) (by kernel_rfl) (by kernel_rfl) HS (fun hHeld => ?_)
  refine wpAnyU_take (i := 0) (v := ?v1) rfl (by kernel_rfl) (by kernel_rfl) (by kernel_rfl) (by kernel_rfl) (fun _ _ _ h => h) (Or.inl ⟨by rfl, ?hy1⟩) (by assumption) ?rest1
  case hy1 => (intro w hSw; (try dsimp only at hSw); go_simp; try with_reducible rfl)
  try simp only [Act.put, List.getElem_toArray, List.getElem_cons_succ, List.getElem_cons_zero, List.setIfInBounds_toArray, List.set_cons_zero, List.set_cons_succ]
  refine wpAnyU_take (i := 1) (v := ?v2) rfl (by kernel_rfl) (by kernel_rfl) (by kernel_rfl) (by kernel_rfl) (fun _ _ _ h => h) (Or.inl ⟨by rfl, ?hy2⟩) (by assumption) ?rest2
  case hy2 => (intro w hSw; (try dsimp only at hSw); go_simp; try with_reducible rfl)
  try simp only [Act.put, List.getElem_toArray, List.getElem_cons_succ, List.getElem_cons_zero, List.setIfInBounds_toArray, List.set_cons_zero, List.set_cons_succ]
  refine wpAnyU_take (i := 2) (v := ?v3) rfl (by kernel_rfl) (by kernel_rfl) (by kernel_rfl) (by kernel_rfl) (fun _ _ _ h => h) (Or.inl ⟨by rfl, ?hy3⟩) (by assumption) ?rest3
  case hy3 => (intro w hSw; (try dsimp only at hSw); go_simp; try with_reducible rfl)
  try simp only [Act.put, List.getElem_toArray, List.getElem_cons_succ, List.getElem_cons_zero, List.setIfInBounds_toArray, List.set_cons_zero, List.set_cons_succ]
  refine wpAnyU_take (i := 3) (v := ?v4) rfl (by kernel_rfl) (by kernel_rfl) (by kernel_rfl) (by kernel_rfl) (fun _ _ _ h => h) (Or.inl ⟨by rfl, ?hy4⟩) (by assumption) ?rest4
  case hy4 => (intro w hSw; (try dsimp only at hSw); go_simp; try with_reducible rfl)
  try simp only [Act.put, List.getElem_toArray, List.getElem_cons_succ, List.getElem_cons_zero, List.setIfInBounds_toArray, List.set_cons_zero, List.set_cons_succ]
  refine wpAnyU_take (i := 4) (v := ?v5) rfl (by kernel_rfl) (by kernel_rfl) (by kernel_rfl) (by kernel_rfl) (fun _ _ _ h => h) (Or.inl ⟨by rfl, ?hy5⟩) (by assumption) ?rest5
  case hy5 => (intro w hSw; (try dsimp only at hSw); go_simp; try with_reducible rfl)
  try simp only [Act.put, List.getElem_toArray, List.getElem_cons_succ, List.getElem_cons_zero, List.setIfInBounds_toArray, List.set_cons_zero, List.set_cons_succ]
  refine wpAnyU_take (i := 5) (v := ?v6) rfl (by kernel_rfl) (by kernel_rfl) (by kernel_rfl) (by kernel_rfl) (fun _ _ _ h => h) (Or.inl ⟨by rfl, ?hy6⟩) (by assumption) ?rest6
  case hy6 => (intro w hSw; (try dsimp only at hSw); go_simp; try with_reducible rfl)
  try simp only [Act.put, List.getElem_toArray, List.getElem_cons_succ, List.getElem_cons_zero, List.setIfInBounds_toArray, List.set_cons_zero, List.set_cons_succ]
  refine wpAnyU_take (i := 6) (v := ?v7) rfl (by kernel_rfl) (by kernel_rfl) (by kernel_rfl) (by kernel_rfl) (fun _ _ _ h => h) (Or.inl ⟨by rfl, ?hy7⟩) (by assumption) ?rest7
  case hy7 => (intro w hSw; (try dsimp only at hSw); go_simp; try with_reducible rfl)
  try simp only [Act.put, List.getElem_toArray, List.getElem_cons_succ, List.getElem_cons_zero, List.setIfInBounds_toArray, List.set_cons_zero, List.set_cons_succ]
  refine wpAnyU_take (i := 7) (v := ?v8) rfl (by kernel_rfl) (by kernel_rfl) (by kernel_rfl) (by kernel_rfl) (fun _ _ _ h => h) (Or.inl ⟨by rfl, ?hy8⟩) (by assumption) ?rest8
  case hy8 => (intro w hSw; (try dsimp only at hSw); go_simp; try with_reducible rfl)
  try simp only [Act.put, List.getElem_toArray, List.getElem_cons_succ, List.getElem_cons_zero, List.setIfInBounds_toArray, List.set_cons_zero, List.set_cons_succ]
  refine wpAnyU_take (i := 8) (v := ?v9) rfl (by kernel_rfl) (by kernel_rfl) (by kernel_rfl) (by kernel_rfl) (fun _ _ _ h => h) (Or.inl ⟨by rfl, ?hy9⟩) (by assumption) ?rest9
  case hy9 => (intro w hSw; (try dsimp only at hSw); go_simp; try with_reducible rfl)
  try simp only [Act.put, List.getElem_toArray, List.getElem_cons_succ, List.getElem_cons_zero, List.setIfInBounds_toArray, List.set_cons_zero, List.set_cons_succ]
  refine wpAnyU_take (i := 9) (v := ?v10) rfl (by kernel_rfl) (by kernel_rfl) (by kernel_rfl) (by kernel_rfl) (fun _ _ _ h => h) (Or.inl ⟨by rfl, ?hy10⟩) (by assumption) ?rest10
  case hy10 => (intro w hSw; (try dsimp only at hSw); go_simp; try with_reducible rfl)
  try simp only [Act.put, List.getElem_toArray, List.getElem_cons_succ, List.getElem_cons_zero, List.setIfInBounds_toArray, List.set_cons_zero, List.set_cons_succ]
  refine wpAnyU_ready (i := 10) (by kernel_rfl) (by kernel_rfl) rfl (fun K hK => ?_)
  go_simp
  refine (HR.out).mono ?_
  rintro e w' ⟨rfl, rfl⟩
  go_wp2_with fail
  refine hK.out _ _ (by assumption) (fun hHeld => ?_)
  clear hK K
  try simp only [Act.put, List.getElem_toArray, List.getElem_cons_succ, List.getElem_cons_zero, List.setIfInBounds_toArray, List.set_cons_zero, List.set_cons_succ]
  refine wpAnyU_tail rfl (by kernel_rfl) ?_
  simp only [List.drop_succ_cons, List.drop_zero]
  go_wp2_with fail
  refine HF.out.mono ?_
  rintro e w' ⟨rfl, hm⟩
  have HX := Lib.hid hm
  clear hm
  go_wp2_with fail
  refine NoPanic.normal ?_
  go_wp2_with fail
  go_end0
  exact ⟨rfl, HX.out⟩
set_option maxHeartbeats 3200000 in
theorem end3 (c : Nat) (w : World) (h : Mc w0 w b f base x v y va) (ok : x.Ok) (h1 : x.aim = 3) (hc : y.M x.addr.toNat = (c : Int))
    (hE : ∀ u, Mc w0 u b f base x v y va → Calls Tryz.prog 31 #[.pointer (some ⟨b, 0, none⟩), .int .i64 2, .int .u8 c] u fun e w' => e = .returned (.tuple #[]) ∧ Mx w0 w' b f base z y') :
    Calls Tryz.prog 24 #[.pointer (some ⟨b, 0, none⟩), busV f] w fun e w' => e = .returned (.tuple #[]) ∧ Mx w0 w' b f base z y' := by
  obtain ⟨a, ha, hn, hlt⟩ := addr_nat ok
  rw [hn] at hc
  have c1 := h.cell 31 _ rfl
  rw [h1] at c1
  have HS : w.cell? ⟨b, 33, none⟩ = some (.int .u16 a) := by rw [← ha]; exact h.cell 33 _ rfl
  have HR := Lib.hid (flRead a _ h.drew hlt)
  rw [hc] at HR
  have HF := Lib.hid (hE _ h.drew)
  have hb1 := fun n => busN_Read n ⟨f, 0, none⟩
  have hb2 := fun n => bus_Read n ⟨f, 0, none⟩
  clear h hE ha hn hc h1 ok
  go_enter Tryz.func24, Tryz.ntmps24
  go_wp2_with fail
  first | refine wp_region_noPanic ?_ | skip
  refine wp_region_U (n := 11) (S := (fun u => u.cell? ⟨b, 33, none⟩ = some (.int .u16 a))) (by kernel_rfl) (by kernel_rfl) HS (fun hHeld => ?_)
  refine wpAnyU_take (i := 0) (v := ?v11) rfl (by kernel_rfl) (by kernel_rfl) (by kernel_rfl) (by kernel_rfl) (fun _ _ _ h => h) (Or.inl ⟨by rfl, ?hy11⟩) (by assumption) ?rest11
  case hy11 => (intro w hSw; (try dsimp only at hSw); go_simp; try with_reducible rfl)
  try simp only [Act.put, List.getElem_toArray, List.getElem_cons_succ, List.getElem_cons_zero, List.setIfInBounds_toArray, List.set_cons_zero, List.set_cons_succ]
  refine wpAnyU_take (i := 1) (v := ?v12) rfl (by kernel_rfl) (by kernel_rfl) (by kernel_rfl) (by kernel_rfl) (fun _ _ _ h => h) (Or.inl ⟨by rfl, ?hy12⟩) (by assumption) ?rest12
  case hy12 => (intro w hSw; (try dsimp only at hSw); go_simp; try with_reducible rfl)
  try simp only [Act.put, List.getElem_toArray, List.getElem_cons_succ, List.getElem_cons_zero, List.setIfInBounds_toArray, List.set_cons_zero, List.set_cons_succ]
  refine wpAnyU_take (i := 2) (v := ?v13) rfl (by kernel_rfl) (by kernel_rfl) (by kernel_rfl) (by kernel_rfl) (fun _ _ _ h => h) (Or.inl ⟨by rfl, ?hy13⟩) (by assumption) ?rest13
  case hy13 => (intro w hSw; (try dsimp only at hSw); go_simp; try with_reducible rfl)
  try simp only [Act.put, List.getElem_toArray, List.getElem_cons_succ, List.getElem_cons_zero, List.setIfInBounds_toArray, List.set_cons_zero, List.set_cons_succ]
  refine wpAnyU_take (i := 3) (v := ?v14) rfl (by kernel_rfl) (by kernel_rfl) (by kernel_rfl) (by kernel_rfl) (fun _ _ _ h => h) (Or.inl ⟨by rfl, ?hy14⟩) (by assumption) ?rest14
  case hy14 => (intro w hSw; (try dsimp only at hSw); go_simp; try with_reducible rfl)
  try simp only [Act.put, List.getElem_toArray, List.getElem_cons_succ, List.getElem_cons_zero, List.setIfInBounds_toArray, List.set_cons_zero, List.set_cons_succ]
  refine wpAnyU_take (i := 4) (v := ?v15) rfl (by kernel_rfl) (by kernel_rfl) (by kernel_rfl) (by kernel_rfl) (fun _ _ _ h => h) (Or.inl ⟨by rfl, ?hy15⟩) (by assumption) ?rest15
  case hy15 => (intro w hSw; (try dsimp only at hSw); go_simp; try with_reducible rfl)
  try simp only [Act.put, List.getElem_toArray, List.getElem_cons_succ, List.getElem_cons_zero, List.setIfInBounds_toArray, List.set_cons_zero, List.set_cons_succ]
  refine wpAnyU_take (i := 5) (v := ?v16) rfl (by kernel_rfl) (by kernel_rfl) (by kernel_rfl) (by kernel_rfl) (fun _ _ _ h => h) (Or.inl ⟨by rfl, ?hy16⟩) (by assumption) ?rest16
  case hy16 => (intro w hSw; (try dsimp only at hSw); go_simp; try with_reducible rfl)
  try simp only [Act.put, List.getElem_toArray, List.getElem_cons_succ, List.getElem_cons_zero, List.setIfInBounds_toArray, List.set_cons_zero, List.set_cons_succ]
  refine wpAnyU_take (i := 6) (v := ?v17) rfl (by kernel_rfl) (by kernel_rfl) (by kernel_rfl) (by kernel_rfl) (fun _ _ _ h => h) (Or.inl ⟨by rfl, ?hy17⟩) (by assumption) ?rest17
  case hy17 => (intro w hSw; (try dsimp only at hSw); go_simp; try with_reducible rfl)
  try simp only [Act.put, List.getElem_toArray, List.getElem_cons_succ, List.getElem_cons_zero, List.setIfInBounds_toArray, List.set_cons_zero, List.set_cons_succ]
  refine wpAnyU_take (i := 7) (v := ?v18) rfl (by kernel_rfl) (by kernel_rfl) (by kernel_rfl) (by kernel_rfl) (fun _ _ _ h => h) (Or.inl ⟨by rfl, ?hy18⟩) (by assumption) ?rest18
  case hy18 => (intro w hSw; (try dsimp only at hSw); go_simp; try with_reducible rfl)
  try simp only [Act.put, List.getElem_toArray, List.getElem_cons_succ, List.getElem_cons_zero, List.setIfInBounds_toArray, List.set_cons_zero, List.set_cons_succ]
  refine wpAnyU_take (i := 8) (v := ?v19) rfl (by kernel_rfl) (by kernel_rfl) (by kernel_rfl) (by kernel_rfl) (fun _ _ _ h => h) (Or.inl ⟨by rfl, ?hy19⟩) (by assumption) ?rest19
  case hy19 => (intro w hSw; (try dsimp only at hSw); go_simp; try with_reducible rfl)
  try simp only [Act.put, List.getElem_toArray, List.getElem_cons_succ, List.getElem_cons_zero, List.setIfInBounds_toArray, List.set_cons_zero, List.set_cons_succ]
  refine wpAnyU_take (i := 9) (v := ?v20) rfl (by kernel_rfl) (by kernel_rfl) (by kernel_rfl) (by kernel_rfl) (fun _ _ _ h => h) (Or.inl ⟨by rfl, ?hy20⟩) (by assumption) ?rest20
  case hy20 => (intro w hSw; (try dsimp only at hSw); go_simp; try with_reducible rfl)
  try simp only [Act.put, List.getElem_toArray, List.getElem_cons_succ, List.getElem_cons_zero, List.setIfInBounds_toArray, List.set_cons_zero, List.set_cons_succ]
  refine wpAnyU_ready (i := 10) (by kernel_rfl) (by kernel_rfl) rfl (fun K hK => ?_)
  go_simp
  refine (HR.out).mono ?_
  rintro e w' ⟨rfl, rfl⟩
  go_wp2_with fail
  refine hK.out _ _ (by assumption) (fun hHeld => ?_)
  clear hK K
  try simp only [Act.put, List.getElem_toArray, List.getElem_cons_succ, List.getElem_cons_zero, List.setIfInBounds_toArray, List.set_cons_zero, List.set_cons_succ]
  refine wpAnyU_tail rfl (by kernel_rfl) ?_
  simp only [List.drop_succ_cons, List.drop_zero]
  go_wp2_with fail
  refine HF.out.mono ?_
  rintro e w' ⟨rfl, hm⟩
  have HX := Lib.hid hm
  clear hm
  go_wp2_with fail
  refine NoPanic.normal ?_
  go_wp2_with fail
  go_end0
  exact ⟨rfl, HX.out⟩
set_option maxHeartbeats 3200000 in
theorem end8 (n : Nat) (w : World) (h : Mc w0 w b f base x v y va) (h1 : x.aim = 8) (hn : x.next = ((n + 1 : Nat) : Int)) (hlt : n < x.steps.length)
    (hE : ∀ u, Mc w0 u b f base x v y va → Calls Tryz.prog 35 #[.pointer (some ⟨b, 0, none⟩), busV f, .agg (boxL x.steps[n])] u fun e w' => e = .returned (.tuple #[]) ∧ Mx w0 w' b f base z y') :
    Calls Tryz.prog 24 #[.pointer (some ⟨b, 0, none⟩), busV f] w fun e w' => e = .returned (.tuple #[]) ∧ Mx w0 w' b f base z y' := by
  obtain ⟨A, cap, rfl, hcap, hmx, -⟩ := h.row.steps
  obtain ⟨g, rfl, hgb, d0, d1, d2, d3⟩ := h.row_at n hlt
  have h60 := h.row.few
  have c1 := h.cell 31 _ rfl
  rw [h1] at c1
  have c39 := h.cell 39 _ rfl
  rw [hn] at c39
  have c38 := h.cell 38 _ rfl
  unfold maxLen at hmx
  have HF := Lib.hid (hE _ h.drew)
  obtain ⟨s, hs⟩ : ∃ s, x.steps[n] = s := ⟨_, rfl⟩
  rw [hs] at HF d0 d1 d2 d3
  have hn1 : ((n + 1 : Nat) : Int) = (n : Int) + 1 := by omega
  rw [hn1] at c39
  have n60 : (n : Int) ≤ 60 := by omega
  have nlt : (n : Int) < x.steps.length := by omega
  have hwr : IntKind.i64.wrap (n : Int) = (n : Int) := IntWalk.i64_in _ (by omega)
  clear h hE h1 hs hgb hn hn1
  generalize x.steps.length = m at *
  have HS : w.cell? ⟨b, 39, none⟩ = some (.int .i64 ((n : Int) + 1)) ∧ w.cell? ⟨b, 38, none⟩ = some (.slice (some ⟨g, 0, none⟩) m cap) ∧ w.cell? ⟨g, n * 4, none⟩ = some (.int .i64 s.k) ∧ w.cell? ⟨g, n * 4 + 1, none⟩ = some (.int .i64 s.a) ∧ w.cell? ⟨g, n * 4 + 2, none⟩ = some (.int .i64 s.w) ∧ w.cell? ⟨g, n * 4 + 3, none⟩ = some (.int .i64 s.n) := ⟨c39, c38, d0, d1, d2, d3⟩
  clear c39 c38 d0 d1 d2 d3
  go_enter Tryz.func24, Tryz.ntmps24
  go_wp2_with fail
  first | refine wp_region_noPanic ?_ | skip
  refine wp_region_U (n := 13) (S := (fun u => u.cell? ⟨b, 39, none⟩ = some (.int .i64 ((n : Int) + 1)) ∧ u.cell? ⟨b, 38, none⟩ = some (.slice (some ⟨g, 0, none⟩) m cap) ∧ u.cell? ⟨g, n * 4, none⟩ = some (.int .i64 s.k) ∧ u.cell? ⟨g, n * 4 + 1, none⟩ = some (.int .i64 s.a) ∧ u.cell? ⟨g, n * 4 + 2, none⟩ = some (.int .i64 s.w) ∧ u.cell? ⟨g, n * 4 + 3, none⟩ = some (.int .i64 s.n))) (by kernel_rfl) (by kernel_rfl) HS (fun hHeld => ?_)
  refine wpAnyU_take (i := 0) (v := ?v21) rfl (by kernel_rfl) (by kernel_rfl) (by kernel_rfl) (by kernel_rfl) (fun _ _ _ h => h) (Or.inl ⟨by rfl, ?hy21⟩) (by assumption) ?rest21
  case hy21 => (intro w hSw; (try dsimp only at hSw); go_simp; try with_reducible rfl)
  try simp only [Act.put, List.getElem_toArray, List.getElem_cons_succ, List.getElem_cons_zero, List.setIfInBounds_toArray, List.set_cons_zero, List.set_cons_succ]
  refine wpAnyU_take (i := 1) (v := ?v22) rfl (by kernel_rfl) (by kernel_rfl) (by kernel_rfl) (by kernel_rfl) (fun _ _ _ h => h) (Or.inl ⟨by rfl, ?hy22⟩) (by assumption) ?rest22
  case hy22 => (intro w hSw; (try dsimp only at hSw); go_simp; try with_reducible rfl)
  try simp only [Act.put, List.getElem_toArray, List.getElem_cons_succ, List.getElem_cons_zero, List.setIfInBounds_toArray, List.set_cons_zero, List.set_cons_succ]
  refine wpAnyU_take (i := 2) (v := ?v23) rfl (by kernel_rfl) (by kernel_rfl) (by kernel_rfl) (by kernel_rfl) (fun _ _ _ h => h) (Or.inl ⟨by rfl, ?hy23⟩) (by assumption) ?rest23
  case hy23 => (intro w hSw; (try dsimp only at hSw); go_simp; try with_reducible rfl)
  try simp only [Act.put, List.getElem_toArray, List.getElem_cons_succ, List.getElem_cons_zero, List.setIfInBounds_toArray, List.set_cons_zero, List.set_cons_succ]
  refine wpAnyU_take (i := 3) (v := ?v24) rfl (by kernel_rfl) (by kernel_rfl) (by kernel_rfl) (by kernel_rfl) (fun _ _ _ h => h) (Or.inl ⟨by rfl, ?hy24⟩) (by assumption) ?rest24
  case hy24 => (intro w hSw; (try dsimp only at hSw); go_simp; try with_reducible rfl)
  try simp only [Act.put, List.getElem_toArray, List.getElem_cons_succ, List.getElem_cons_zero, List.setIfInBounds_toArray, List.set_cons_zero, List.set_cons_succ]
  refine wpAnyU_take (i := 4) (v := ?v25) rfl (by kernel_rfl) (by kernel_rfl) (by kernel_rfl) (by kernel_rfl) (fun _ _ _ h => h) (Or.inl ⟨by rfl, ?hy25⟩) (by assumption) ?rest25
  case hy25 => (intro w hSw; (try dsimp only at hSw); go_simp; try with_reducible rfl)
  try simp only [Act.put, List.getElem_toArray, List.getElem_cons_succ, List.getElem_cons_zero, List.setIfInBounds_toArray, List.set_cons_zero, List.set_cons_succ]
  refine wpAnyU_take (i := 5) (v := ?v26) rfl (by kernel_rfl) (by kernel_rfl) (by kernel_rfl) (by kernel_rfl) (fun _ _ _ h => h) (Or.inl ⟨by rfl, ?hy26⟩) (by assumption) ?rest26
  case hy26 => (intro w hSw; (try dsimp only at hSw); go_simp; try with_reducible rfl)
  try simp only [Act.put, List.getElem_toArray, List.getElem_cons_succ, List.getElem_cons_zero, List.setIfInBounds_toArray, List.set_cons_zero, List.set_cons_succ]
  refine wpAnyU_take (i := 6) (v := ?v27) rfl (by kernel_rfl) (by kernel_rfl) (by kernel_rfl) (by kernel_rfl) (fun _ _ _ h => h) (Or.inl ⟨by rfl, ?hy27⟩) (by assumption) ?rest27
  case hy27 => (intro w hSw; (try dsimp only at hSw); go_simp; try with_reducible rfl)
  try simp only [Act.put, List.getElem_toArray, List.getElem_cons_succ, List.getElem_cons_zero, List.setIfInBounds_toArray, List.set_cons_zero, List.set_cons_succ]
  refine wpAnyU_take (i := 7) (v := ?v28) rfl (by kernel_rfl) (by kernel_rfl) (by kernel_rfl) (by kernel_rfl) (fun _ _ _ h => h) (Or.inl ⟨by rfl, ?hy28⟩) (by assumption) ?rest28
  case hy28 => (intro w hSw; (try dsimp only at hSw); go_simp; try with_reducible rfl)
  try simp only [Act.put, List.getElem_toArray, List.getElem_cons_succ, List.getElem_cons_zero, List.setIfInBounds_toArray, List.set_cons_zero, List.set_cons_succ]
  refine wpAnyU_take (i := 8) (v := ?v29) rfl (by kernel_rfl) (by kernel_rfl) (by kernel_rfl) (by kernel_rfl) (fun _ _ _ h => h) (Or.inl ⟨by rfl, ?hy29⟩) (by assumption) ?rest29
  case hy29 => (intro w hSw; (try dsimp only at hSw); go_simp; try with_reducible rfl)
  try simp only [Act.put, List.getElem_toArray, List.getElem_cons_succ, List.getElem_cons_zero, List.setIfInBounds_toArray, List.set_cons_zero, List.set_cons_succ]
  refine wpAnyU_take (i := 9) (v := ?v30) rfl (by kernel_rfl) (by kernel_rfl) (by kernel_rfl) (by kernel_rfl) (fun _ _ _ h => h) (Or.inl ⟨by rfl, ?hy30⟩) (by assumption) ?rest30
  case hy30 => (intro w hSw; (try dsimp only at hSw); go_simp; try with_reducible rfl)
  try simp only [Act.put, List.getElem_toArray, List.getElem_cons_succ, List.getElem_cons_zero, List.setIfInBounds_toArray, List.set_cons_zero, List.set_cons_succ]
  refine wpAnyU_take (i := 10) (v := ?v31) rfl (by kernel_rfl) (by kernel_rfl) (by kernel_rfl) (by kernel_rfl) (fun _ _ _ h => h) (Or.inl ⟨by rfl, ?hy31⟩) (by assumption) ?rest31
  case hy31 => (intro w hSw; (try dsimp only at hSw); go_simp; try with_reducible rfl)
  try simp only [Act.put, List.getElem_toArray, List.getElem_cons_succ, List.getElem_cons_zero, List.setIfInBounds_toArray, List.set_cons_zero, List.set_cons_succ]
  refine wpAnyU_take (i := 11) (v := ?v32) rfl (by kernel_rfl) (by kernel_rfl) (by kernel_rfl) (by kernel_rfl) (fun _ _ _ h => h) (Or.inl ⟨by rfl, ?hy32⟩) (by assumption) ?rest32
  case hy32 => (intro w hSw; (try dsimp only at hSw); go_simp; try with_reducible rfl)
  try simp only [Act.put, List.getElem_toArray, List.getElem_cons_succ, List.getElem_cons_zero, List.setIfInBounds_toArray, List.set_cons_zero, List.set_cons_succ]
  refine wpAnyU_take (i := 12) (v := ?v33) rfl (by kernel_rfl) (by kernel_rfl) (by kernel_rfl) (by kernel_rfl) (fun _ _ _ h => h) (Or.inl ⟨by rfl, ?hy33⟩) (by assumption) ?rest33
  case hy33 => (intro w hSw; (try dsimp only at hSw); go_simp; try with_reducible rfl)
  try simp only [Act.put, List.getElem_toArray, List.getElem_cons_succ, List.getElem_cons_zero, List.setIfInBounds_toArray, List.set_cons_zero, List.set_cons_succ]
  refine wpAnyU_tail rfl (by kernel_rfl) ?_
  simp only [List.drop_succ_cons, List.drop_zero]
  go_wp2_with fail
  refine HF.out.mono ?_
  rintro e w' ⟨rfl, hm⟩
  have HX := Lib.hid hm
  clear hm
  go_wp2_with fail
  refine NoPanic.normal ?_
  go_wp2_with fail
  go_end0
  exact ⟨rfl, HX.out⟩
set_option maxHeartbeats 3200000 in
theorem tickB (w : World) (h : Mc w0 w b f base x v y va) (hn : x.nmi = false) (hl : y.line = false) (h0 : x.aim = 0) :
    Calls Tryz.prog 16 #[.pointer (some ⟨b, 0, none⟩), busV f] w fun e w' => e = .returned (.tuple #[]) ∧ Mc w0 w' b f base { beginS x with k := 1 } v y va := by
  have c1 := h.cell 31 _ rfl
  rw [h0] at c1
  have HB := Lib.hid (begin_any w h hn hl)
  have HI := Lib.hid (fun u (hu : Mc w0 u b f base (beginS x) v y va) => isHeld_any u hu rfl rfl)
  have HK := Lib.hid (fun u (hu : Mc w0 u b f base (beginS x) v y va) => show u.cell? ⟨b, 34, none⟩ = some (.int .i64 0) ∧ u.cell? ⟨b, 35, none⟩ = some (.int .i64 4) ∧ u.frozen? ⟨b, 34, none⟩ = false from ⟨hu.cell 34 _ rfl, hu.cell 35 _ rfl, hu.free 34⟩)
  have HE := Lib.hid (fun u (hu : Mc w0 u b f base (beginS x) v y va) => show Mc w0 ((u.setCell ⟨b, 34, none⟩ (.int .i64 1)).drew) b f base { beginS x with k := 1 } v y va from (hu.set 34 (.int .i64 1) { beginS x with k := 1 } (by decide) rfl rfl).drew)
  clear h hn hl h0
  go_enter Tryz.func16, Tryz.ntmps16
  go_wp2_with fail
  refine HB.out.mono ?_
  rintro e w' ⟨rfl, hm⟩
  have HI2 := Lib.hid (HI.out _ hm)
  clear hm HI
  go_wp2_with fail
  refine HI2.out.mono ?_
  rintro e w' ⟨rfl, hm⟩
  obtain ⟨k1, k2, k3⟩ := HK.out _ hm
  have HE2 := Lib.hid (HE.out _ hm)
  clear hm HK HE
  go_wp2_with fail
  go_region
  go_wp2_with fail
  go_end0
  exact ⟨rfl, HE2.out⟩
set_option maxHeartbeats 3200000 in
theorem tickN (w : World) (h : Mc w0 w b f base x v y va) (h0 : x.aim ≠ 0) (ha : x.asked = false) (hd : x.held = 0) (k0 : 0 ≤ x.k) (k1 : x.k ≤ 1000) (hk : x.k + 1 ≠ x.len) :
    Calls Tryz.prog 16 #[.pointer (some ⟨b, 0, none⟩), busV f] w fun e w' => e = .returned (.tuple #[]) ∧ Mc w0 w' b f base { x with k := x.k + 1 } v y va := by
  have c1 := h.cell 31 _ rfl
  have d1 : (x.aim == 0) = false := by simpa using h0
  have HI := Lib.hid (isHeld_any w h ha hd)
  have HK := Lib.hid (fun u (hu : Mc w0 u b f base x v y va) => show u.cell? ⟨b, 34, none⟩ = some (.int .i64 x.k) ∧ u.cell? ⟨b, 35, none⟩ = some (.int .i64 x.len) ∧ u.frozen? ⟨b, 34, none⟩ = false from ⟨hu.cell 34 _ rfl, hu.cell 35 _ rfl, hu.free 34⟩)
  have HE := Lib.hid (fun u (hu : Mc w0 u b f base x v y va) => show Mc w0 ((u.setCell ⟨b, 34, none⟩ (.int .i64 (x.k + 1))).drew) b f base { x with k := x.k + 1 } v y va from (hu.set 34 (.int .i64 (x.k + 1)) { x with k := x.k + 1 } (by decide) rfl rfl).drew)
  have d2 : (x.k + 1 == x.len) = false := by simpa using hk
  clear h h0 ha hd hk
  generalize x.aim = q at *
  generalize x.len = l at *
  go_enter Tryz.func16, Tryz.ntmps16
  go_wp2_with fail
  refine HI.out.mono ?_
  rintro e w' ⟨rfl, hm⟩
  obtain ⟨e1, e2, e3⟩ := HK.out _ hm
  have HE2 := Lib.hid (HE.out _ hm)
  clear hm HK HE
  go_wp2_with fail
  go_region
  go_wp2_with fail
  go_end0
  exact ⟨rfl, HE2.out⟩
set_option maxHeartbeats 3200000 in
theorem tickE (w : World) (h : Mc w0 w b f base x v y va) (h0 : x.aim ≠ 0) (ha : x.asked = false) (hd : x.held = 0) (k0 : 0 ≤ x.k) (k1 : x.k ≤ 1000) (hk : x.k + 1 = x.len)
    (hE : ∀ u, Mc w0 u b f base { x with k := x.k + 1 } v y va → Calls Tryz.prog 24 #[.pointer (some ⟨b, 0, none⟩), busV f] u fun e w' => e = .returned (.tuple #[]) ∧ Mx w0 w' b f base z y') :
    Calls Tryz.prog 16 #[.pointer (some ⟨b, 0, none⟩), busV f] w fun e w' => e = .returned (.tuple #[]) ∧ Mx w0 w' b f base z y' := by
  have c1 := h.cell 31 _ rfl
  have d1 : (x.aim == 0) = false := by simpa using h0
  have HI := Lib.hid (isHeld_any w h ha hd)
  have HK := Lib.hid (fun u (hu : Mc w0 u b f base x v y va) => show u.cell? ⟨b, 34, none⟩ = some (.int .i64 x.k) ∧ u.cell? ⟨b, 35, none⟩ = some (.int .i64 (x.k + 1)) ∧ u.frozen? ⟨b, 34, none⟩ = false from ⟨hu.cell 34 _ rfl, (hu.cell 35 _ rfl).trans (by rw [hk]), hu.free 34⟩)
  have HE := Lib.hid (fun u (hu : Mc w0 u b f base x v y va) => hE _ (show Mc w0 ((u.setCell ⟨b, 34, none⟩ (.int .i64 (x.k + 1))).drew) b f base { x with k := x.k + 1 } v y va from (hu.set 34 (.int .i64 (x.k + 1)) { x with k := x.k + 1 } (by decide) rfl rfl).drew))
  clear h h0 ha hd hk hE
  generalize x.aim = q at *
  go_enter Tryz.func16, Tryz.ntmps16
  go_wp2_with fail
  refine HI.out.mono ?_
  rintro e w' ⟨rfl, hm⟩
  obtain ⟨e1, e2, e3⟩ := HK.out _ hm
  have HE2 := Lib.hid (HE.out _ hm)
  clear hm HK HE
  go_wp2_with fail
  go_region
  go_wp2_with fail
  refine HE2.out.mono ?_
  rintro e w' ⟨rfl, hm⟩
  go_wp2_with fail
  go_end0
  exact ⟨rfl, hm⟩

end Go.Proofs.YtcfkpeemhleleaaGreatDoor
/- T-states, one behind the other; Step of the flat bus: its contract. -/
namespace Go.Proofs.YtcfkpeemhleleaaGreatDoor
open Go.RowKit
set_option maxRecDepth 100000
set_option linter.unusedVariables false
set_option linter.unusedSimpArgs false
variable {w0 : World} {b f base : Nat} {x z x' : Cp} {v : Value} {y u y' : Fl} {va : Value}

/-- In a cycle, k T-states of which are over. -/
structure Cp.Cyc (x : Cp) : Prop where
  aim : x.aim ≠ 0
  asked : x.asked = false
  held : x.held = 0
  k0 : 0 ≤ x.k
  k1 : x.k ≤ 1000
/-- The last T-state of a cycle is to come. -/
structure Cp.Last (x : Cp) : Prop where
  cyc : x.Cyc
  k : x.k + 1 = x.len
  ok : x.Ok
abbrev kS (x : Cp) : Cp := { x with k := x.k + 1 }
/-- One T-state. -/
inductive Tik : Cp → Fl → Cp → Fl → Prop
  | begin {x : Cp} {y : Fl} : x.nmi = false → y.line = false → x.aim = 0 → Tik x y { beginS x with k := 1 } y
  | within {x : Cp} {y : Fl} : x.Cyc → x.k + 1 ≠ x.len → Tik x y (kS x) y
  | plain {x : Cp} {y : Fl} (c : Nat) : x.Last → x.aim = 1 → y.M x.addr.toNat = (c : Int) → c < 256 → (c ≠ 203 ∧ c ≠ 221 ∧ c ≠ 237 ∧ c ≠ 253) → x.next = 0 → x.r.halt = false → x.r.pre = 0 → Tik x y (firstP (kS x) c) y
  | more {x : Cp} {y : Fl} : x.Last → x.aim = 1 → y.M x.addr.toNat = 237 → x.r.halt = false → x.r.pre = 0 → Tik x y (firstM (kS x)) y
  | ldir {x : Cp} {y : Fl} : x.Last → x.aim = 3 → y.M x.addr.toNat = 176 → x.next = 0 → x.ix = 0 → Tik x y (secondP (kS x)) y
  | step {x : Cp} {y : Fl} (n : Nat) (hlt : n < x.steps.length) : x.Last → x.aim = 8 → x.next = ((n + 1 : Nat) : Int) → x.In → x.steps[n].k ≠ 5 → x.steps[n].k ≠ 6 → 0 ≤ x.waits → x.waits ≤ 100 → (∀ a, B8 (y.M a)) → y.acts.length ≤ 100000 → Tik x y (accX (kS x) y.M x.steps[n]) (accY (kS x) y x.steps[n])
theorem kS_ok (ok : x.Ok) : (kS x).Ok := ⟨ok.r, ok.addr, ok.latch, ok.dist⟩
theorem kS_in (h : x.In) : (kS x).In := ⟨kS_ok h.ok, h.next, h.le, h.good⟩
theorem tik_any (ht : Tik x y z u) (w : World) (h : Mc w0 w b f base x v y va) :
    Calls Tryz.prog 16 #[.pointer (some ⟨b, 0, none⟩), busV f] w fun e w' => e = .returned (.tuple #[]) ∧ Mx w0 w' b f base z u := by
  cases ht with
  | begin h1 h2 h3 => exact (tickB w h h1 h2 h3).mono fun _ _ ⟨a, c⟩ => ⟨a, c.mx⟩
  | within h1 h2 => exact (tickN w h h1.aim h1.asked h1.held h1.k0 h1.k1 h2).mono fun _ _ ⟨a, c⟩ => ⟨a, c.mx⟩
  | plain c h1 h2 h3 h4 h5 h6 h7 h8 =>
    exact tickE w h h1.cyc.aim h1.cyc.asked h1.cyc.held h1.cyc.k0 h1.cyc.k1 h1.k fun p hp => end1 c p hp (kS_ok h1.ok) h2 h3 fun q hq => firstP_any c q hq (kS_ok h1.ok) h4 h6 h7 h8 h5
  | more h1 h2 h3 h4 h5 =>
    exact tickE w h h1.cyc.aim h1.cyc.asked h1.cyc.held h1.cyc.k0 h1.cyc.k1 h1.k fun p hp => end1 237 p hp (kS_ok h1.ok) h2 h3 fun q hq => firstM_any q hq (kS_ok h1.ok) h4 h5
  | ldir h1 h2 h3 h4 h5 =>
    exact tickE w h h1.cyc.aim h1.cyc.asked h1.cyc.held h1.cyc.k0 h1.cyc.k1 h1.k fun p hp => end3 176 p hp (kS_ok h1.ok) h2 h3 fun q hq => second_any q hq (kS_ok h1.ok) h4 h5
  | step n hlt h1 h2 h3 h4 h5 h6 h7 h8 h9 h10 =>
    exact tickE w h h1.cyc.aim h1.cyc.asked h1.cyc.held h1.cyc.k0 h1.cyc.k1 h1.k fun p hp => end8 n p hp h2 h3 hlt fun q hq => access_any x.steps[n] q hq (kS_in h4) h5 h6 (h4.good _ (List.getElem_mem hlt)) h7 h8 h9 h10
/-- One T-state later. -/
def later (y : Fl) : Fl := { y with t := y.t + 1 }
/-- T-states till the instruction's end. -/
inductive Run : Cp → Fl → Nat → Cp → Fl → Prop
  | done {x : Cp} {y : Fl} : x.aim = 0 → Run x y 0 x y
  | more {x : Cp} {y : Fl} {z : Cp} {u : Fl} {n : Nat} {x' : Cp} {y' : Fl} : x.aim ≠ 0 → Tik x y z u → 0 ≤ u.t → u.t ≤ 1000000000 → Run z (later u) n x' y' → Run x y (n + 1) x' y'

theorem Mx.later {w : World} (h : Mx w0 w b f base x y) : ∃ v va, Mc w0 w b f base x v y va ∧ w.cell? ⟨f, 65538, none⟩ = some (.int .u64 y.t) ∧ w.frozen? ⟨f, 65538, none⟩ = false ∧ Mx w0 (w.setCell ⟨f, 65538, none⟩ (.int .u64 (y.t + 1))) b f base x (later y) := by
  obtain ⟨v, va, h⟩ := h
  exact ⟨v, va, h, h.fl.cell 65538 (by decide), h.fl.frozen 65538, v, va, h.fset 65538 _ _ (fset_t y va (y.t + 1)) rfl⟩
set_option maxHeartbeats 6400000 in
theorem step_any (n : Nat) (w : World) (h : Mx w0 w b f base x y) (ht : Tik x y z u) (t0 : 0 ≤ u.t) (t1 : u.t ≤ 1000000000) (hr : Run z (later u) n x' y') (hn : n ≤ 100000) :
    Calls Tryz.prog 11 #[.pointer (some ⟨f, 0, none⟩), .pointer (some ⟨b, 0, none⟩)] w fun e w' => e = .returned (.int .i64 ((n + 1 : Nat) : Int)) ∧ Mx w0 w' b f base x' y' := by
  have HS := Lib.hid (show ∃ xa ya, Mx w0 w b f base xa ya ∧ ((0 : Nat) = 0 ∧ (∃ z u, Tik xa ya z u ∧ 0 ≤ u.t ∧ u.t ≤ 1000000000 ∧ Run z (later u) n x' y') ∨ (0 : Nat) ≠ 0 ∧ Run xa ya (n + 1) x' y') from ⟨x, y, h, Or.inl ⟨rfl, z, u, ht, t0, t1, hr⟩⟩)
  clear h ht hr t0 t1
  go_enter Tryz.func11, Tryz.ntmps11
  go_wp2_with fail
  go_loopg [5] (n + 1) (fun m s wr => ∃ j : Nat, s = .int .i64 (j : Int) ∧ j + m = n + 1 ∧ Hid (∃ xa ya, Mx w0 wr b f base xa ya ∧ (j = 0 ∧ (∃ z u, Tik xa ya z u ∧ 0 ≤ u.t ∧ u.t ≤ 1000000000 ∧ Run z (later u) n x' y') ∨ j ≠ 0 ∧ Run xa ya m x' y')))
  case atStart => exact ⟨0, rfl, by omega, Lib.hid (by have := HS.out; simpa using this)⟩
  case round =>
    obtain ⟨j, rfl, hj, HX⟩ := hrel
    obtain ⟨xa, ya, hm, hc⟩ := HX.out
    clear HX
    rcases hc with ⟨j0, z1, u1, hk, u0, u9, hrun⟩ | ⟨j0, hrun⟩
    · subst j0
      obtain ⟨va1, va2, hmc⟩ := hm
      have HK := Lib.hid (tik_any hk wr hmc)
      have HR := Lib.hid hrun
      clear hmc hk hrun
      go_wp2_with fail
      refine HK.out.mono ?_
      rintro e w' ⟨rfl, hm⟩
      obtain ⟨v1, va1, -, c8, f8, hl⟩ := hm.later
      have HL := Lib.hid hl
      clear hm hl HK
      go_wp2_with fail
      go_roundg n
      case measure => omega
      case rel => exact ⟨1, rfl, by omega, Lib.hid ⟨z1, later u1, HL.out, Or.inr ⟨by omega, HR.out⟩⟩⟩
    · cases hrun with
      | done h0 =>
        obtain ⟨va1, va2, hmc⟩ := hm
        have HD := Lib.hid (done_any wr hmc)
        rw [h0] at HD
        have HM := Lib.hid hmc.mx
        have dj : ((j : Int) == 0) = false := by rw [beq_eq_false_iff_ne]; omega
        obtain rfl : j = n + 1 := by omega
        clear hmc h0 j0
        go_wp2_with fail
        refine HD.out.mono ?_
        rintro e w' ⟨rfl, rfl⟩
        go_wp2_with fail
        go_ret
        exact ⟨rfl, HM.out⟩
      | @more _ _ z1 u1 m _ _ h0 hk u0 u9 hrun =>
        obtain ⟨va1, va2, hmc⟩ := hm
        have HD := Lib.hid (done_any wr hmc)
        rw [show (xa.aim == 0) = false by simpa using h0] at HD
        have HK := Lib.hid (tik_any hk wr hmc)
        have HR := Lib.hid hrun
        have dj : ((j : Int) == 0) = false := by rw [beq_eq_false_iff_ne]; omega
        clear hmc hk hrun h0
        go_wp2_with fail
        refine HD.out.mono ?_
        rintro e w' ⟨rfl, rfl⟩
        go_wp2_with fail
        refine HK.out.mono ?_
        rintro e w' ⟨rfl, hm⟩
        obtain ⟨v1, va1, -, c8, f8, hl⟩ := hm.later
        have HL := Lib.hid hl
        clear hm hl HK
        go_wp2_with fail
        go_roundg m
        case measure => omega
        case rel => exact ⟨j + 1, by go_num, by omega, Lib.hid ⟨z1, later u1, HL.out, Or.inr ⟨by omega, HR.out⟩⟩⟩

end Go.Proofs.YtcfkpeemhleleaaGreatDoor
/- How long an instruction's steps take. No walk. -/
namespace Go.Proofs.YtcfkpeemhleleaaGreatDoor
open Go.RowKit
variable {x z x' : Cp} {y u y' : Fl} {n : Nat}

theorem Run.aim (h : Run x y n x' y') : x'.aim = 0 := by
  induction h with
  | done h => exact h
  | more _ _ _ _ _ ih => exact ih
theorem Run.cast (h : Run x y n x' y') {m : Nat} (e : n = m) : Run x y m x' y' := e ▸ h
theorem tik_t (h : Tik x y z u) : u.t = y.t := by
  cases h with
  | step n hlt => 
    unfold accY
    repeat' split
    all_goals rfl
  | _ => rfl
theorem Run.t (h : Run x y n x' y') : y'.t = y.t + n := by
  induction h with
  | done _ => simp
  | more _ ht _ _ _ ih =>
    rw [ih]
    show _ + 1 + _ = _
    rw [tik_t ht]
    omega
/-- T-states of a cycle at which nothing is done. -/
theorem run_within : ∀ (m : Nat) (x : Cp) (y : Fl), x.Cyc → x.k + m < x.len → x.len ≤ 500 → 0 ≤ y.t → y.t + m ≤ 1000000000 → Run { x with k := x.k + m } { y with t := y.t + m } n x' y' → Run x y (m + n) x' y'
  | 0, x, y, _, _, _, _, _, h => by
    rw [Nat.zero_add]
    have e1 : ({ x with k := x.k + ((0 : Nat) : Int) } : Cp) = x := by simp
    have e2 : ({ y with t := y.t + ((0 : Nat) : Int) } : Fl) = y := by simp
    rwa [e1, e2] at h
  | m + 1, x, y, hc, hk, hl, t0, t1, h => by
    refine Run.cast (Run.more hc.aim (Tik.within hc (by omega)) t0 (by omega) (run_within m (kS x) (later y) ⟨hc.aim, hc.asked, hc.held, ?_, ?_⟩ ?_ hl ?_ ?_ ?_)) (by omega)
    · have := hc.k0; show 0 ≤ x.k + 1; omega
    · show x.k + 1 ≤ 1000; omega
    · show x.k + 1 + _ < x.len; omega
    · show 0 ≤ y.t + 1; omega
    · show y.t + 1 + _ ≤ _; omega
    · have e1 : ({ kS x with k := (kS x).k + (m : Int) } : Cp) = { x with k := x.k + ((m + 1 : Nat) : Int) } := by
        show ({ x with k := x.k + 1 + (m : Int) } : Cp) = _
        rw [show x.k + 1 + (m : Int) = x.k + ((m + 1 : Nat) : Int) by omega]
      have e2 : ({ later y with t := (later y).t + (m : Int) } : Fl) = { y with t := y.t + ((m + 1 : Nat) : Int) } := by
        show ({ y with t := y.t + 1 + (m : Int) } : Fl) = _
        rw [show y.t + 1 + (m : Int) = y.t + ((m + 1 : Nat) : Int) by omega]
      rw [e1, e2]
      exact h
/-- A processor and a bus amid an instruction. -/
structure Sys (x : Cp) (y : Fl) : Prop where
  inn : x.In
  mem : ∀ a, B8 (y.M a)
  acts : y.acts.length + (x.steps.length - x.next.toNat) ≤ 1000
  t0 : 0 ≤ y.t
  t1 : y.t + 200 * ((x.steps.length : Int) - x.next) ≤ 1000000
/-- The cycle of a step, all T-states of which are over. -/
def endC (x : Cp) (s : Sp) (len : Int) : Cp := { cycleS { x with next := x.next + 1 } s with k := len }
theorem cycle_same (x : Cp) (s : Sp) : (cycleS x s).aim = 8 ∧ (cycleS x s).asked = false ∧ (cycleS x s).held = 0 ∧ (cycleS x s).k = 0 ∧ (cycleS x s).steps = x.steps ∧ (cycleS x s).next = x.next ∧ (cycleS x s).ix = x.ix := by
  unfold cycleS placeS
  repeat' split
  all_goals exact ⟨rfl, rfl, rfl, rfl, rfl, rfl, rfl⟩
theorem cycle_len (x : Cp) (s : Sp) (k1 : 1 ≤ s.k) (k4 : s.k ≤ 4) : (cycleS x s).len = costS s := by
  unfold cycleS costS
  have : s.k = 1 ∨ s.k = 2 ∨ s.k = 3 ∨ s.k = 4 := by omega
  rcases this with e | e | e | e <;> simp [e, startS]
theorem cycle_waits (x : Cp) (s : Sp) (k1 : 1 ≤ s.k) (k4 : s.k ≤ 4) : (cycleS x s).waits = x.waits := by
  unfold cycleS
  rw [if_neg (by omega)]
  unfold placeS
  repeat' split
  all_goals rfl
theorem drop_get {α : Type} {l r : List α} {s : α} {n : Nat} (h : l.drop n = s :: r) : ∃ hlt : n < l.length, l[n] = s ∧ l.drop (n + 1) = r := by
  have hlt : n < l.length := by
    rcases Nat.lt_or_ge n l.length with h' | h'
    · exact h'
    · rw [List.drop_eq_nil_of_le h'] at h; cases h
  rw [List.drop_eq_getElem_cons hlt] at h
  injection h with h1 h2
  exact ⟨hlt, h1, h2⟩
theorem cyc_in (hi : x.In) {s : Sp} {l : List Sp} (hd : x.steps.drop x.next.toNat = s :: l) : Cp.In (cycleS { x with next := x.next + 1 } s) ∧ (cycleS { x with next := x.next + 1 } s).next = ((x.next.toNat + 1 : Nat) : Int) := by
  obtain ⟨hlt, hs, _⟩ := drop_get hd
  have e := cycle_same { x with next := x.next + 1 } s
  have hn := hi.next
  have en : (cycleS { x with next := x.next + 1 } s).next = ((x.next.toNat + 1 : Nat) : Int) := by rw [e.2.2.2.2.2.1]; show x.next + 1 = _; omega
  refine ⟨⟨cycle_ok (next_ok hi.ok) s, by rw [en]; rfl, ?_, ?_⟩, en⟩
  · rw [en, e.2.2.2.2.1]; exact hlt
  · rw [e.2.2.2.2.1]; exact hi.good
theorem go_timed {s : Sp} {l : List Sp} (hy : Sys x y) (hd : x.steps.drop x.next.toNat = s :: l) (hw0 : 0 ≤ x.waits) (hw1 : x.waits ≤ 100) (k1 : 1 ≤ s.k) (k4 : s.k ≤ 4) {c : Nat} (hc : costS s = c)
    (hr : Run (accX (endC x s c) y.M s) (later (accY (endC x s c) { y with t := y.t + ((c : Int) - 1) } s)) n x' y') : Run (goL (s :: l) x) y (c + n) x' y' := by
  have hc3 : c = 3 ∨ c = 4 := by
    unfold costS at hc
    have : s.k = 1 ∨ s.k = 2 ∨ s.k = 3 ∨ s.k = 4 := by omega
    rcases this with e | e | e | e <;> simp [e] at hc <;> omega
  rw [goL_cycle s l x (by omega) (by omega)]
  obtain ⟨hlt, hs, hl⟩ := drop_get hd
  obtain ⟨ci, cn⟩ := cyc_in hy.inn hd
  have e := cycle_same { x with next := x.next + 1 } s
  have el := cycle_len { x with next := x.next + 1 } s k1 k4
  have ew : (cycleS { x with next := x.next + 1 } s).waits = x.waits := cycle_waits { x with next := x.next + 1 } s k1 k4
  have hM := hy.mem
  have hA := hy.acts
  have ht0 := hy.t0
  have ht1 := hy.t1
  have hnx := hy.inn.next
  unfold endC at hr
  obtain ⟨z, hz⟩ : ∃ z, cycleS { x with next := x.next + 1 } s = z := ⟨_, rfl⟩
  rw [hz] at hr e el ew ci cn ⊢
  obtain ⟨e1, e2, e3, e4, e5, e6, e7⟩ := e
  have es : z.steps = x.steps := e5
  refine Run.cast (run_within (n := n + 1) (c - 1) z y ⟨by rw [e1]; decide, e2, e3, by omega, by omega⟩ ?_ ?_ ht0 ?_ ?_) (show c - 1 + (n + 1) = c + n by omega)
  · rw [el, e4, hc]; omega
  · rw [el, hc]; omega
  · omega
  · have hzl : x.next.toNat < z.steps.length := by rw [es]; exact hlt
    have hzs : z.steps[x.next.toNat] = s := by simp only [es]; exact hs
    have hkc : z.k + ((c - 1 : Nat) : Int) + 1 = c := by rw [e4]; omega
    have hS := Tik.step (x := { z with k := z.k + ((c - 1 : Nat) : Int) }) (y := { y with t := y.t + ((c - 1 : Nat) : Int) }) x.next.toNat hzl
      ⟨⟨by show z.aim ≠ 0; rw [e1]; decide, e2, e3, by show 0 ≤ z.k + _; omega, by show z.k + _ ≤ 1000; omega⟩, by show z.k + _ + 1 = z.len; rw [el, hc, hkc], ⟨ci.ok.r, ci.ok.addr, ci.ok.latch, ci.ok.dist⟩⟩
      e1 cn ⟨⟨ci.ok.r, ci.ok.addr, ci.ok.latch, ci.ok.dist⟩, ci.next, ci.le, ci.good⟩ (by show z.steps[x.next.toNat].k ≠ 5; rw [hzs]; omega) (by show z.steps[x.next.toNat].k ≠ 6; rw [hzs]; omega) (by show 0 ≤ z.waits; rw [ew]; exact hw0) (by show z.waits ≤ 100; rw [ew]; exact hw1) hM (by show y.acts.length ≤ _; omega)
    have eq1 : (kS { z with k := z.k + ((c - 1 : Nat) : Int) } : Cp) = { z with k := (c : Int) } := by show ({ z with k := z.k + ((c - 1 : Nat) : Int) + 1 } : Cp) = _; rw [hkc]
    have eq2 : ((c - 1 : Nat) : Int) = (c : Int) - 1 := by omega
    rw [eq1] at hS
    have hS' : Tik { z with k := z.k + ((c - 1 : Nat) : Int) } { y with t := y.t + ((c - 1 : Nat) : Int) } (accX { z with k := (c : Int) } y.M s) (accY { z with k := (c : Int) } { y with t := y.t + ((c - 1 : Nat) : Int) } s) := by
      rw [← hzs]; exact hS
    have ut : (accY { z with k := (c : Int) } { y with t := y.t + ((c - 1 : Nat) : Int) } s).t = y.t + ((c - 1 : Nat) : Int) := by
      have := tik_t hS'
      exact this
    refine Run.more (by show z.aim ≠ 0; rw [e1]; decide) hS' (by rw [ut]; omega) (by rw [ut]; omega) ?_
    rw [eq2]
    exact hr

/-- T-states of waiting. -/
theorem wait_run : ∀ (m : Nat) (p : Cp) (a : Int) (y : Fl), p.In → B16 a → (∀ a, B8 (y.M a)) → y.acts.length ≤ 100000 → 0 ≤ y.t → y.t + m + 1 ≤ 1000000000 → m ≤ 100 → (∃ (k : Nat) (hk : k < p.steps.length), p.next = ((k + 1 : Nat) : Int) ∧ p.steps[k].k = 0) →
    Run (goX { startS { p with waits := 0 } 8 4 a 1 with k := 1 }) { y with t := y.t + ((m : Int) + 1) } n x' y' → Run (startS { p with waits := (m : Int) } 8 4 a 1) y (m + 1 + n) x' y'
  | m, p, a, y, hi, ha, hM, hA, t0, t1, hm, hk, h => by
    obtain ⟨k, hlt, hn, hs⟩ := hk
    have hin : Cp.In (startS { p with waits := (m : Int) } 8 4 a 1) := ⟨⟨hi.ok.r, ha, hi.ok.latch, hi.ok.dist⟩, hi.next, hi.le, hi.good⟩
    have hS := Tik.step (x := startS { p with waits := (m : Int) } 8 4 a 1) (y := y) k hlt ⟨⟨show (8 : Int) ≠ 0 by decide, rfl, rfl, show (0 : Int) ≤ 0 by decide, show (0 : Int) ≤ 1000 by decide⟩, rfl, hin.ok⟩ rfl hn hin (by show p.steps[k].k ≠ 5; omega) (by show p.steps[k].k ≠ 6; omega) (by show (0 : Int) ≤ m; omega) (by show (m : Int) ≤ 100; omega) hM hA
    obtain ⟨q, hq⟩ : ∃ q, p.steps[k] = q := ⟨_, rfl⟩
    have hq' : (startS { p with waits := (m : Int) } 8 4 a 1).steps[k] = q := hq
    rw [hq'] at hS
    rw [hq] at hs
    have eX : accX (kS (startS { p with waits := (m : Int) } 8 4 a 1)) y.M q = (if 0 < (m : Int) then startS { p with waits := (m : Int) - 1 } 8 4 a 1 else goX (kS (startS { p with waits := (m : Int) } 8 4 a 1))) := by
      unfold accX
      rw [if_pos hs]
      rfl
    have eY : accY (kS (startS { p with waits := (m : Int) } 8 4 a 1)) y q = y := by
      unfold accY
      rw [if_neg (by omega), if_neg (by omega), if_neg (by omega)]
    rw [eX, eY] at hS
    cases m with
    | zero =>
      rw [if_neg (by decide)] at hS
      refine Run.cast (Run.more (show (8 : Int) ≠ 0 by decide) hS t0 (by omega) ?_) (show n + 1 = 0 + 1 + n by omega)
      exact h
    | succ m =>
      rw [if_pos (by omega), show ((m + 1 : Nat) : Int) - 1 = (m : Int) by omega] at hS
      refine Run.cast (Run.more (show (8 : Int) ≠ 0 by decide) hS t0 (by omega) (wait_run m p a (later y) hi ha hM hA (by show 0 ≤ y.t + 1; omega) (by show y.t + 1 + _ + 1 ≤ _; omega) (by omega) ⟨k, hlt, hn, by rw [hq]; exact hs⟩ ?_)) (show m + 1 + n + 1 = m + 1 + 1 + n by omega)
      have e2 : ({ later y with t := (later y).t + ((m : Int) + 1) } : Fl) = { y with t := y.t + (((m + 1 : Nat) : Int) + 1) } := by
        show ({ y with t := y.t + 1 + ((m : Int) + 1) } : Fl) = _
        rw [show y.t + 1 + ((m : Int) + 1) = y.t + (((m + 1 : Nat) : Int) + 1) by omega]
      rw [e2]
      exact h
/-- Behind the waiting of a step. -/
def endW (x : Cp) (s : Sp) : Cp := { startS { placeS { x with next := x.next + 1 } s.a with waits := 0 } 8 4 (placeA { x with next := x.next + 1 } s.a) 1 with k := 1 }
theorem place_in (hi : x.In) (a : Int) : (placeS x a).In := by
  have e : (placeS x a).steps = x.steps ∧ (placeS x a).next = x.next := by
    unfold placeS
    split <;> exact ⟨rfl, rfl⟩
  exact ⟨placeS_ok hi.ok a, by rw [e.2]; exact hi.next, by rw [e.1, e.2]; exact hi.le, by rw [e.1]; exact hi.good⟩
theorem next_in (hi : x.In) (hlt : x.next.toNat < x.steps.length) : Cp.In { x with next := x.next + 1 } := by
  have := hi.next
  refine ⟨next_ok hi.ok, ?_, ?_, hi.good⟩
  · show x.next + 1 = ((x.next + 1).toNat : Int); omega
  · show (x.next + 1).toNat ≤ x.steps.length; omega
theorem go_wait {s : Sp} {l : List Sp} (hy : Sys x y) (hd : x.steps.drop x.next.toNat = s :: l) (h0 : s.k = 0) {c : Nat} (hc : s.n = c) (c1 : 1 ≤ c) (c9 : c ≤ 100)
    (hr : Run (goX (endW x s)) { y with t := y.t + (c : Int) } n x' y') : Run (goL (s :: l) x) y (c + n) x' y' := by
  rw [goL_cycle s l x (by omega) (by omega)]
  obtain ⟨hlt, hs, hl⟩ := drop_get hd
  have hnx := hy.inn.next
  have ht0 := hy.t0
  have ht1 := hy.t1
  have hA := hy.acts
  have hin := next_in hy.inn hlt
  have hp := place_in hin s.a
  have ha := placeA_bd hin.ok s.a
  have e : cycleS { x with next := x.next + 1 } s = startS { placeS { x with next := x.next + 1 } s.a with waits := ((c - 1 : Nat) : Int) } 8 4 (placeA { x with next := x.next + 1 } s.a) 1 := by
    unfold cycleS
    rw [if_pos h0, hc, show (c : Int) - 1 = ((c - 1 : Nat) : Int) by omega]
  rw [e]
  have es : (placeS { x with next := x.next + 1 } s.a).steps = x.steps ∧ (placeS { x with next := x.next + 1 } s.a).next = x.next + 1 := by
    unfold placeS
    split <;> exact ⟨rfl, rfl⟩
  unfold endW at hr
  obtain ⟨p, hpe⟩ : ∃ p, placeS { x with next := x.next + 1 } s.a = p := ⟨_, rfl⟩
  rw [hpe] at hr hp es ⊢
  refine Run.cast (wait_run (c - 1) p _ y hp ha hy.mem (by omega) ht0 (by omega) (by omega) ⟨x.next.toNat, by rw [es.1]; exact hlt, by rw [es.2]; omega, by simp only [es.1, hs]; exact h0⟩ ?_) (show c - 1 + 1 + n = c + n by omega)
  rw [show ((c - 1 : Nat) : Int) + 1 = (c : Int) by omega]
  exact hr
/-- The processor, and the bus, behind a step that takes time. -/
def nextX (x : Cp) (y : Fl) (s : Sp) : Cp :=
  if s.k = 0 then endW x s else if s.k = 1 then behindS (putByteS (endC x s (costS s)) (s.w - s.w % 8) (s.w % 8) (y.M (endC x s (costS s)).addr.toNat)) s.a
  else if s.k = 3 then putByteS (endC x s (costS s)) (s.w - s.w % 8) (s.w % 8) 255 else endC x s (costS s)
def nextY (x : Cp) (y : Fl) (s : Sp) : Fl := if s.k = 0 then { y with t := y.t + s.n } else later (accY (endC x s (costS s)) { y with t := y.t + (costS s - 1) } s)
/-- One step that takes time: how the instruction goes on behind it. -/
theorem timed_ex {s : Sp} {l : List Sp} (hy : Sys x y) (hd : x.steps.drop x.next.toNat = s :: l) (hw0 : 0 ≤ x.waits) (hw1 : x.waits ≤ 100) (h5 : s.k ≠ 5) (h6 : s.k ≠ 6) :
    ∃ x2 y2 c, (x2 = nextX x y s ∧ y2 = nextY x y s) ∧ costS s = ((c : Nat) : Int) ∧ Sys x2 y2 ∧ x2.steps.drop x2.next.toNat = l ∧ 0 ≤ x2.waits ∧ x2.waits ≤ 100 ∧ ∀ n x' y', Run (goL l x2) y2 n x' y' → Run (goL (s :: l) x) y (c + n) x' y' := by
  obtain ⟨hlt, hs, hl⟩ := drop_get hd
  have hg := hy.inn.good s (by rw [← hs]; exact List.getElem_mem hlt)
  unfold goodS at hg
  rw [if_neg h5, if_neg h6] at hg
  simp only [Bool.and_eq_true, decide_eq_true_eq] at hg
  obtain ⟨⟨⟨⟨⟨⟨k0, k4⟩, a0⟩, a9⟩, n0⟩, n1⟩, hw⟩ := hg
  have hnx := hy.inn.next
  have ht0 := hy.t0
  have ht1 := hy.t1
  have hA := hy.acts
  by_cases h0 : s.k = 0
  · rw [if_pos h0, decide_eq_true_eq] at hw
    have hin := next_in hy.inn hlt
    have hp := place_in hin s.a
    have ha := placeA_bd hin.ok s.a
    have es : (placeS { x with next := x.next + 1 } s.a).steps = x.steps ∧ (placeS { x with next := x.next + 1 } s.a).next = x.next + 1 := by
      unfold placeS
      split <;> exact ⟨rfl, rfl⟩
    have e1 : (endW x s).steps = x.steps := es.1
    have e2 : (endW x s).next = x.next + 1 := es.2
    refine ⟨endW x s, { y with t := y.t + ((s.n.toNat : Nat) : Int) }, s.n.toNat, ⟨by unfold nextX; rw [if_pos h0], by unfold nextY; rw [if_pos h0, show ((s.n.toNat : Nat) : Int) = s.n by omega]⟩, by unfold costS; rw [if_pos h0]; omega, ⟨⟨⟨hp.ok.r, ha, hp.ok.latch, hp.ok.dist⟩, hp.next, hp.le, hp.good⟩, hy.mem, ?_, ?_, ?_⟩, ?_, show (0 : Int) ≤ 0 by decide, show (0 : Int) ≤ 100 by decide, fun n x' y' h => go_wait hy hd h0 (by omega) (by omega) (by omega) ?_⟩
    · rw [e1, e2]; show y.acts.length + _ ≤ _; omega
    · show 0 ≤ y.t + _; omega
    · rw [e1, e2]; show y.t + _ + _ ≤ _; omega
    · rw [e1, e2, show (x.next + 1).toNat = x.next.toNat + 1 by omega]; exact hl
    · unfold goX
      rw [e1, e2, show (x.next + 1).toNat = x.next.toNat + 1 by omega, hl]
      exact h
  · have k1 : 1 ≤ s.k := by omega
    have hc3 : costS s = 3 ∨ costS s = 4 := by
      unfold costS
      have : s.k = 1 ∨ s.k = 2 ∨ s.k = 3 ∨ s.k = 4 := by omega
      rcases this with e | e | e | e <;> simp [e]
    obtain ⟨c, hc⟩ : ∃ c : Nat, costS s = (c : Int) := ⟨(costS s).toNat, by omega⟩
    obtain ⟨ci, cn⟩ := cyc_in hy.inn hd
    have cs := cycle_same { x with next := x.next + 1 } s
    have cw := cycle_waits { x with next := x.next + 1 } s k1 k4
    have zi : (endC x s c).In := ⟨⟨ci.ok.r, ci.ok.addr, ci.ok.latch, ci.ok.dist⟩, ci.next, ci.le, ci.good⟩
    have zs : (endC x s c).steps = x.steps := cs.2.2.2.2.1
    have zn : (endC x s c).next = ((x.next.toNat + 1 : Nat) : Int) := cn
    have zw : (endC x s c).waits = x.waits := cw
    have hT := fun n x' y' => go_timed (n := n) (x' := x') (y' := y') hy hd hw0 hw1 k1 k4 hc
    have hNX : nextX x y s = (if s.k = 1 then behindS (putByteS (endC x s c) (s.w - s.w % 8) (s.w % 8) (y.M (endC x s c).addr.toNat)) s.a else if s.k = 3 then putByteS (endC x s c) (s.w - s.w % 8) (s.w % 8) 255 else endC x s c) := by unfold nextX; rw [if_neg h0, hc]
    have hNY : nextY x y s = later (accY (endC x s c) { y with t := y.t + ((c : Int) - 1) } s) := by unfold nextY; rw [if_neg h0, hc]
    obtain ⟨z, hz⟩ : ∃ z, endC x s c = z := ⟨_, rfl⟩
    rw [hz] at zi zs zn zw hT hNX hNY
    obtain ⟨z2, hzo, hz2i, hX, hz2⟩ : ∃ z2, Only z z2 ∧ z2.In ∧ accX z y.M s = goX z2 ∧ z2 = nextX x y s := by
      rw [hNX]
      unfold accX
      rw [if_neg h0]
      split
      · exact ⟨_, (only_put _ _ _ _).trans (only_behind _ _), zi.only ((only_put _ _ _ _).trans (only_behind _ _)) (behind_ok (put_ok zi.ok _ _ (hy.mem _)) _), rfl, rfl⟩
      split
      · exact ⟨_, only_put _ _ _ _, zi.only (only_put _ _ _ _) (put_ok zi.ok _ _ ⟨by decide, by decide⟩), rfl, rfl⟩
      · exact ⟨_, Only.refl _, zi, rfl, rfl⟩
    have zo := hzo.same
    have z2n : z2.next = ((x.next.toNat + 1 : Nat) : Int) := zo.2.2.2.2.2.2.2.2.2.1.trans zn
    have z2s : z2.steps = x.steps := zo.2.2.2.2.2.2.2.2.1.trans zs
    have z2w : z2.waits = x.waits := zo.2.2.2.2.2.2.2.2.2.2.1.trans zw
    have hY : (∀ a, B8 ((accY z { y with t := y.t + ((c : Int) - 1) } s).M a)) ∧ (accY z { y with t := y.t + ((c : Int) - 1) } s).acts.length ≤ y.acts.length + 1 ∧ (accY z { y with t := y.t + ((c : Int) - 1) } s).t = y.t + ((c : Int) - 1) := by
      unfold accY
      repeat' split
      · refine ⟨fun a => ?_, by show y.acts.length ≤ _; omega, rfl⟩
        show B8 (updN _ _ _ a)
        unfold updN
        split
        · exact byteS_bd zi.ok _ _
        · exact hy.mem a
      · exact ⟨hy.mem, by simp [actS], rfl⟩
      · exact ⟨hy.mem, by simp [actS], rfl⟩
      · exact ⟨hy.mem, by show y.acts.length ≤ _; omega, rfl⟩
    obtain ⟨y2, hy2⟩ : ∃ y2, accY z { y with t := y.t + ((c : Int) - 1) } s = y2 := ⟨_, rfl⟩
    rw [hy2] at hY hT hNY
    refine ⟨z2, later y2, c, ⟨hz2, hNY.symm⟩, hc, ⟨hz2i, hY.1, ?_, ?_, ?_⟩, ?_, by rw [z2w]; exact hw0, by rw [z2w]; exact hw1, fun n x' y' h => hT n x' y' ?_⟩
    · rw [z2s, z2n]
      have := hY.2.1
      show y2.acts.length + _ ≤ _
      omega
    · show 0 ≤ y2.t + 1; rw [hY.2.2]; omega
    · rw [z2s, z2n]; show y2.t + 1 + _ ≤ _; rw [hY.2.2]; omega
    · rw [z2s, z2n, Int.toNat_natCast]; exact hl
    · rw [hX]
      unfold goX
      rw [z2s, z2n, Int.toNat_natCast, hl]
      exact h
theorem timeS_no : ∀ l : List Sp, (∀ s ∈ l, s.k ≠ 6) → timeS false l = timeS true l
  | [], _ => rfl
  | s :: l, h => by
    simp only [timeS]
    rw [if_neg (fun e => h s (List.mem_cons_self ..) e.1), if_neg (fun e => by cases e.2), timeS_no l fun t ht => h t (List.mem_cons_of_mem _ ht)]
/-- At most one condition stands among them. -/
def oneU : List Sp → Bool
  | [] => true
  | s :: l => if s.k = 6 then l.all (fun t => t.k != 6) else oneU l
theorem one_plain : (List.range 256).all (fun c => oneU (progS [] 0 0 c)) = true := by decide +kernel
theorem one_no : ∀ l : List Sp, (∀ s ∈ l, s.k ≠ 6) → oneU l = true
  | [], _ => rfl
  | s :: l, h => by
    unfold oneU
    rw [if_neg (h s (List.mem_cons_self ..))]
    exact one_no l fun t ht => h t (List.mem_cons_of_mem _ ht)
/-- Steps take their time. -/
theorem time_run : ∀ (l : List Sp) (x : Cp) (y : Fl), Sys x y → x.steps.drop x.next.toNat = l → 0 ≤ x.waits → x.waits ≤ 100 → oneU l = true → ∃ n x' y', Run (goL l x) y n x' y' ∧ ((n : Int) = timeS true l ∨ (n : Int) = timeS false l)
  | [], x, y, _, _, _, _, _ => ⟨0, _, _, Run.done rfl, Or.inl rfl⟩
  | s :: l, x, y, hy, hd, hw0, hw1, hu => by
    obtain ⟨hlt, hs, hl⟩ := drop_get hd
    have hg := hy.inn.good s (by rw [← hs]; exact List.getElem_mem hlt)
    have hnx := hy.inn.next
    have hin := next_in hy.inn hlt
    have hA := hy.acts
    have ht0 := hy.t0
    have ht1 := hy.t1
    have hsys : ∀ z, z.In → z.steps = x.steps → z.next = x.next + 1 → Sys z y ∧ z.steps.drop z.next.toNat = l := fun z hz es en => by
      refine ⟨⟨hz, hy.mem, ?_, ht0, ?_⟩, ?_⟩
      · rw [es, en]; omega
      · rw [es, en]; omega
      · rw [es, en, show (x.next + 1).toNat = x.next.toNat + 1 by omega]; exact hl
    by_cases h5 : s.k = 5
    · unfold goodS at hg
      rw [if_pos h5] at hg
      have ho := only_work { x with next := x.next + 1 } s
      have e := ho.same
      have hz := hin.only ho (work_ok hin.ok s hg)
      obtain ⟨h1, h2⟩ := hsys _ hz e.2.2.2.2.2.2.2.2.1 e.2.2.2.2.2.2.2.2.2.1
      have e11 := e.2.2.2.2.2.2.2.2.2.2.1
      unfold oneU at hu
      rw [if_neg (by omega)] at hu
      obtain ⟨n, x', y', hr, ht⟩ := time_run l _ y h1 h2 (by rw [e11]; exact hw0) (by rw [e11]; exact hw1) hu
      refine ⟨n, x', y', by rw [goL_work s l x h5]; exact hr, ?_⟩
      have c0 : costS s = 0 := by unfold costS; simp [h5]
      have t1' : timeS true (s :: l) = timeS true l := by simp [timeS, h5, c0]
      have t2' : timeS false (s :: l) = timeS false l := by simp [timeS, h5, c0]
      rw [t1', t2']
      exact ht
    · by_cases h6 : s.k = 6
      · unfold oneU at hu
        rw [if_pos h6] at hu
        have hno : ∀ t ∈ l, t.k ≠ 6 := fun t ht => by
          have := List.all_eq_true.1 hu t ht
          simpa using this
        cases hm : metS { x with next := x.next + 1 } (s.w - s.w % 8) (s.w % 8) with
        | true =>
          obtain ⟨h1, h2⟩ := hsys _ hin rfl rfl
          obtain ⟨n, x', y', hr, ht⟩ := time_run l _ y h1 h2 hw0 hw1 (one_no l hno)
          refine ⟨n, x', y', by rw [goL_met s l x h6 hm]; exact hr, Or.inl ?_⟩
          rw [timeS_no l hno] at ht
          have c0 : costS s = 0 := by unfold costS; simp [h6]
          have t1' : timeS true (s :: l) = timeS true l := by simp [timeS, h6, c0]
          rw [t1']
          rcases ht with h | h <;> exact h
        | false =>
          refine ⟨0, _, _, by rw [goL_unmet s l x h6 hm]; exact Run.done rfl, Or.inr ?_⟩
          simp [timeS, h6]
      · obtain ⟨x2, y2, c, -, hc, hy2, hd2, w0', w1', hr2⟩ := timed_ex hy hd hw0 hw1 h5 h6
        unfold oneU at hu
        rw [if_neg h6] at hu
        obtain ⟨n, x', y', hr, ht⟩ := time_run l x2 y2 hy2 hd2 w0' w1' hu
        refine ⟨c + n, x', y', hr2 n x' y' hr, ?_⟩
        have t1' : ∀ m, timeS m (s :: l) = c + timeS m l := fun m => by simp only [timeS]; rw [if_neg (fun e => h6 e.1), hc]
        rw [t1', t1']
        rcases ht with h | h
        · left; rw [← h]; omega
        · right; rw [← h]; omega

/-- The same, with what it is. -/
theorem timed_is {s : Sp} {l : List Sp} (hy : Sys x y) (hd : x.steps.drop x.next.toNat = s :: l) (hw : 0 ≤ x.waits ∧ x.waits ≤ 100) (h5 : s.k ≠ 5) (h6 : s.k ≠ 6) {c : Nat} (hc : costS s = (c : Int)) :
    Sys (nextX x y s) (nextY x y s) ∧ (nextX x y s).steps.drop (nextX x y s).next.toNat = l ∧ (0 ≤ (nextX x y s).waits ∧ (nextX x y s).waits ≤ 100) ∧ ∀ n x' y', Run (goL l (nextX x y s)) (nextY x y s) n x' y' → Run (goL (s :: l) x) y (c + n) x' y' := by
  obtain ⟨x2, y2, c', ⟨rfl, rfl⟩, hc', h1, h2, h3, h4, h⟩ := timed_ex hy hd hw.1 hw.2 h5 h6
  obtain rfl : c' = c := by omega
  exact ⟨h1, h2, ⟨h3, h4⟩, h⟩
theorem work_is {s : Sp} {l : List Sp} (hy : Sys x y) (hd : x.steps.drop x.next.toNat = s :: l) (hw : 0 ≤ x.waits ∧ x.waits ≤ 100) (h5 : s.k = 5) :
    Sys (workS { x with next := x.next + 1 } s) y ∧ (workS { x with next := x.next + 1 } s).steps.drop (workS { x with next := x.next + 1 } s).next.toNat = l ∧ (0 ≤ (workS { x with next := x.next + 1 } s).waits ∧ (workS { x with next := x.next + 1 } s).waits ≤ 100) ∧ ∀ n x' y', Run (goL l (workS { x with next := x.next + 1 } s)) y n x' y' → Run (goL (s :: l) x) y n x' y' := by
  obtain ⟨hlt, hs, hl⟩ := drop_get hd
  have hg := hy.inn.good s (by rw [← hs]; exact List.getElem_mem hlt)
  unfold goodS at hg
  rw [if_pos h5] at hg
  have hnx := hy.inn.next
  have hin := next_in hy.inn hlt
  have hA := hy.acts
  have ht1 := hy.t1
  have ho := only_work { x with next := x.next + 1 } s
  have e := ho.same
  have hz := hin.only ho (work_ok hin.ok s hg)
  have en := e.2.2.2.2.2.2.2.2.2.1
  have es := e.2.2.2.2.2.2.2.2.1
  have ew := e.2.2.2.2.2.2.2.2.2.2.1
  refine ⟨⟨hz, hy.mem, ?_, hy.t0, ?_⟩, ?_, by rw [ew]; exact hw, fun n x' y' h => by rw [goL_work s l x h5]; exact h⟩
  · rw [es, en]; show _ + (x.steps.length - (x.next + 1).toNat) ≤ _; omega
  · rw [es, en]; show _ + 200 * ((x.steps.length : Int) - (x.next + 1)) ≤ _; omega
  · rw [es, en]; show x.steps.drop (x.next + 1).toNat = l; rw [show (x.next + 1).toNat = x.next.toNat + 1 by omega]; exact hl
theorem met_is {s : Sp} {l : List Sp} (hy : Sys x y) (hd : x.steps.drop x.next.toNat = s :: l) (hw : 0 ≤ x.waits ∧ x.waits ≤ 100) (h6 : s.k = 6) (hm : metS { x with next := x.next + 1 } (s.w - s.w % 8) (s.w % 8) = true) :
    Sys { x with next := x.next + 1 } y ∧ ({ x with next := x.next + 1 } : Cp).steps.drop ({ x with next := x.next + 1 } : Cp).next.toNat = l ∧ (0 ≤ ({ x with next := x.next + 1 } : Cp).waits ∧ ({ x with next := x.next + 1 } : Cp).waits ≤ 100) ∧ ∀ n x' y', Run (goL l { x with next := x.next + 1 }) y n x' y' → Run (goL (s :: l) x) y n x' y' := by
  obtain ⟨hlt, hs, hl⟩ := drop_get hd
  have hnx := hy.inn.next
  have hin := next_in hy.inn hlt
  have hA := hy.acts
  have ht1 := hy.t1
  refine ⟨⟨hin, hy.mem, ?_, hy.t0, ?_⟩, ?_, hw, fun n x' y' h => by rw [goL_met s l x h6 hm]; exact h⟩
  · show _ + (x.steps.length - (x.next + 1).toNat) ≤ _; omega
  · show _ + 200 * ((x.steps.length : Int) - (x.next + 1)) ≤ _; omega
  · show x.steps.drop (x.next + 1).toNat = l; rw [show (x.next + 1).toNat = x.next.toNat + 1 by omega]; exact hl

end Go.Proofs.YtcfkpeemhleleaaGreatDoor
/- Whole instructions: any plain one's time; ld a,n, call, ret, ldir exactly. No walk. -/
namespace Go.Proofs.YtcfkpeemhleleaaGreatDoor
open Go.RowKit
set_option maxRecDepth 100000
variable {x z x' : Cp} {y u y' : Fl} {n : Nat}

/-- Between two instructions, and nothing interrupts. -/
structure Cp.Idle (x : Cp) : Prop where
  aim : x.aim = 0
  nmi : x.nmi = false
  next : x.next = 0
  w : 0 ≤ x.waits ∧ x.waits ≤ 100
  ok : x.Ok
  halt : x.r.halt = false
  pre : x.r.pre = 0
/-- A bus that asks for nothing. -/
structure Fl.Calm (y : Fl) : Prop where
  line : y.line = false
  mem : ∀ a, B8 (y.M a)
  acts : y.acts.length ≤ 900
  t0 : 0 ≤ y.t
  t1 : y.t ≤ 100000
theorem time_plain (c : Nat) (hc : c < 256) : timeS true (progS [] 0 0 c) = timeT 0 false c true ∧ timeS false (progS [] 0 0 c) = timeT 0 false c false ∧ (progS [] 0 0 c).length ≤ 20 := by
  have := List.all_eq_true.1 ok00 c (List.mem_range.2 hc)
  simp only [okT, Bool.and_eq_true, decide_eq_true_eq] at this
  exact ⟨this.1.1, this.1.2, (short_at _ this.2).1⟩
/-- Behind the fetch of a plain code. -/
def F0 (x : Cp) (c : Nat) : Cp := { fetchS { beginS x with k := 4 } with steps := progS [] 0 0 c }
/-- Behind the fetch of 237. -/
def F1 (x : Cp) : Cp := { secondS { startS (fetchS { beginS x with k := 4 }) 3 0 (w16 (x.r.pc + 1)) 4 with k := 4 } with steps := progS [] 2 0 176 }
theorem begin_ok (h : x.Idle) : (beginS x).Ok := ⟨{ h.ok.r with }, h.ok.r.pc, h.ok.latch, h.ok.dist⟩
theorem start_run {X : Cp} (h : x.Idle) (hb : y.Calm) (ht : Tik { beginS x with k := 3 } { y with t := y.t + 3 } X { y with t := y.t + 3 }) {n : Nat} (hr : Run X { y with t := y.t + 4 } n x' y') :
    ∃ z u, Tik x y z u ∧ 0 ≤ u.t ∧ u.t ≤ 1000000000 ∧ Run z (later u) (3 + n) x' y' := by
  have t0 := hb.t0
  have t1 := hb.t1
  refine ⟨_, _, Tik.begin h.nmi hb.line h.aim, t0, by omega, ?_⟩
  refine Run.cast (run_within (n := n + 1) 2 { beginS x with k := 1 } (later y) ⟨show (1 : Int) ≠ 0 by decide, rfl, rfl, show (0 : Int) ≤ 1 by decide, show (1 : Int) ≤ 1000 by decide⟩ (show (1 : Int) + 2 < 4 by decide) (show (4 : Int) ≤ 500 by decide) (show 0 ≤ y.t + 1 by omega) (show y.t + 1 + 2 ≤ _ by omega) ?_) (show 2 + (n + 1) = 3 + n by omega)
  have e1 : ({ ({ beginS x with k := 1 } : Cp) with k := ({ beginS x with k := 1 } : Cp).k + ((2 : Nat) : Int) } : Cp) = { beginS x with k := 3 } := rfl
  have e2 : ({ later y with t := (later y).t + ((2 : Nat) : Int) } : Fl) = { y with t := y.t + 3 } := by
    show ({ y with t := y.t + 1 + ((2 : Nat) : Int) } : Fl) = _
    rw [show y.t + 1 + ((2 : Nat) : Int) = y.t + 3 by omega]
  have e3 : later { y with t := y.t + 3 } = { y with t := y.t + 4 } := by
    show ({ y with t := y.t + 3 + 1 } : Fl) = _
    rw [show y.t + 3 + 1 = y.t + 4 by omega]
  rw [e1, e2]
  refine Run.more (show (1 : Int) ≠ 0 by decide) ht (show 0 ≤ y.t + 3 by omega) (show y.t + 3 ≤ _ by omega) ?_
  rw [e3]
  exact hr
theorem start_last (h : x.Idle) : ({ beginS x with k := 3 } : Cp).Last :=
  ⟨⟨show (1 : Int) ≠ 0 by decide, rfl, rfl, show (0 : Int) ≤ 3 by decide, show (3 : Int) ≤ 1000 by decide⟩, rfl, ⟨(begin_ok h).r, (begin_ok h).addr, (begin_ok h).latch, (begin_ok h).dist⟩⟩
theorem start_is (h : x.Idle) (hb : y.Calm) (c : Nat) (hc : y.M x.r.pc.toNat = (c : Int)) (c256 : c < 256) (h4 : c ≠ 203 ∧ c ≠ 221 ∧ c ≠ 237 ∧ c ≠ 253) :
    Sys (F0 x c) { y with t := y.t + 4 } ∧ (F0 x c).steps.drop (F0 x c).next.toNat = progS [] 0 0 c ∧ (0 ≤ (F0 x c).waits ∧ (F0 x c).waits ≤ 100) ∧
    ∀ n x' y', Run (goL (progS [] 0 0 c) (F0 x c)) { y with t := y.t + 4 } n x' y' → ∃ z u, Tik x y z u ∧ 0 ≤ u.t ∧ u.t ≤ 1000000000 ∧ Run z (later u) (3 + n) x' y' := by
  have t0 := hb.t0
  have t1 := hb.t1
  have ha := hb.acts
  have hl := (time_plain c c256).2.2
  have hk : ({ beginS x with k := 4 } : Cp).Ok := ⟨(begin_ok h).r, (begin_ok h).addr, (begin_ok h).latch, (begin_ok h).dist⟩
  have hf := fetch_ok hk
  have en : (F0 x c).next = 0 := h.next
  have es : (F0 x c).steps = progS [] 0 0 c := rfl
  have ed : (F0 x c).steps.drop (F0 x c).next.toNat = progS [] 0 0 c := by rw [en, es]; rfl
  refine ⟨⟨⟨⟨hf.r, hf.addr, hf.latch, hf.dist⟩, by rw [en]; rfl, by rw [en]; exact Nat.zero_le _, plain_good c c256 h4⟩, hb.mem, ?_, ?_, ?_⟩, ed, h.w, fun n x' y' hr => start_run h hb (Tik.plain c (start_last h) rfl hc c256 h4 h.next h.halt h.pre) ?_⟩
  · rw [en, es]; show y.acts.length + _ ≤ _; omega
  · show 0 ≤ y.t + 4; omega
  · rw [en, es]; show y.t + 4 + _ ≤ _; omega
  · show Run (goX (F0 x c)) _ n x' y'
    unfold goX
    rw [ed]
    exact hr
/-- Each plain code takes its time. -/
theorem plain_time (h : x.Idle) (hb : y.Calm) (c : Nat) (hc : y.M x.r.pc.toNat = (c : Int)) (c256 : c < 256) (h4 : c ≠ 203 ∧ c ≠ 221 ∧ c ≠ 237 ∧ c ≠ 253) :
    ∃ z u n x' y', Tik x y z u ∧ 0 ≤ u.t ∧ u.t ≤ 1000000000 ∧ Run z (later u) n x' y' ∧ n ≤ 100000 ∧ (((n + 1 : Nat) : Int) = 4 + timeT 0 false c true ∨ ((n + 1 : Nat) : Int) = 4 + timeT 0 false c false) := by
  obtain ⟨hs, hd, hw, hr⟩ := start_is h hb c hc c256 h4
  have ho : oneU (progS [] 0 0 c) = true := List.all_eq_true.1 one_plain c (List.mem_range.2 c256)
  obtain ⟨n, x', y', h1, h2⟩ := time_run _ _ _ hs hd hw.1 hw.2 ho
  obtain ⟨z, u, a1, a2, a3, a4⟩ := hr n x' y' h1
  obtain ⟨e1, e2, e3⟩ := time_plain c c256
  rw [e1, e2] at h2
  refine ⟨z, u, 3 + n, x', y', a1, a2, a3, a4, ?_, ?_⟩
  · have : (List.range 256).all (fun c => decide (timeT 0 false c true ≤ 50000) && decide (timeT 0 false c false ≤ 50000)) = true := by decide +kernel
    have := List.all_eq_true.1 this c (List.mem_range.2 c256)
    simp only [Bool.and_eq_true, decide_eq_true_eq] at this
    omega
  · rcases h2 with e | e
    · left; omega
    · right; omega

/-- What counts of a processor amid an instruction. -/
structure Co where
  r : Rg
  latch : Int
  dist : Int
  reck : Bool
  nmi : Bool
  ix : Int
def coreC (x : Cp) : Co := ⟨x.r, x.latch, x.dist, x.reck, x.nmi, x.ix⟩
theorem core_f0 (x : Cp) (c : Nat) : coreC (F0 x c) = ⟨{ x.r with r := tickV x.r.r, pc := w16 (x.r.pc + 1), pre := 0, hold := false }, x.latch, x.dist, false, x.nmi, 0⟩ := rfl
theorem core_f1 (x : Cp) : coreC (F1 x) = ⟨{ x.r with r := tickV (tickV x.r.r), pc := w16 (w16 (x.r.pc + 1) + 1), pre := 0, hold := false }, x.latch, x.dist, false, x.nmi, 0⟩ := rfl
theorem core_latch (x : Cp) (y : Fl) (hi : x.ix = 0) : coreC (nextX x y (sRead 1 6)) = { coreC x with latch := y.M (x.r.h * 256 + x.r.l).toNat } := by
  have e : (endC x (sRead 1 6) (costS (sRead 1 6))).addr = x.r.h * 256 + x.r.l := by
    show placeA { x with next := x.next + 1 } 1 = _
    unfold placeA pairS pairV
    simp [hi]
  show coreC (putByteS (endC x (sRead 1 6) (costS (sRead 1 6))) 0 6 (y.M (endC x (sRead 1 6) (costS (sRead 1 6))).addr.toNat)) = _
  rw [e]
  rfl
theorem prog62 : progS [] 0 0 62 = [sRead 0 7] := by kernel_rfl
theorem prog205 : progS [] 0 0 205 = [sRead 0 24, sRead 0 32, sWait 9 1, sWrite 5 72, sWrite 5 64, sWork 216 0] := by kernel_rfl
theorem prog201 : progS [] 0 0 201 = [sRead 4 24, sRead 4 32, sWork 216 0] := by kernel_rfl
theorem prog176 : progS [] 2 0 176 = [sRead 1 6, sWrite 3 6, sWait 9 2, sWork 312 1, sUnless 16, sWait 9 5, sWork 344 0] := by kernel_rfl
/-- The end of an instruction: idle again, with its registers. -/
theorem fin_is {x y} (hs : Sys x y) (hw : 0 ≤ x.waits ∧ x.waits ≤ 100) (hn : x.nmi = false) (hh : x.r.halt = false) (hp : x.r.pre = 0) :
    Run (goL [] x) y 0 (finishS x) y ∧ (finishS x).Idle ∧ (finishS x).r = { x.r with q := if x.reck then x.r.f else 0 } :=
  ⟨Run.done rfl, ⟨rfl, hn, rfl, hw, finish_ok hs.inn.ok, hh, hp⟩, rfl⟩
/-- What a whole instruction has done. -/
structure Did (x : Cp) (y : Fl) (n : Nat) (r : Rg) (M : Nat → Int) (x' : Cp) (y' : Fl) : Prop where
  run : ∃ z u, Tik x y z u ∧ 0 ≤ u.t ∧ u.t ≤ 1000000000 ∧ Run z (later u) n x' y'
  idle : x'.Idle
  r : x'.r = r
  M : y'.M = M
  acts : y'.acts = y.acts
  line : y'.line = y.line
theorem Did.t {r : Rg} {M : Nat → Int} (h : Did x y n r M x' y') : y'.t = y.t + (n + 1 : Nat) := by
  obtain ⟨z, u, h1, _, _, h4⟩ := h.run
  rw [h4.t]
  show u.t + 1 + _ = _
  rw [tik_t h1]
  omega
/-- A processor and a bus amid an instruction, the steps l ahead, with what counts of them. -/
structure At (x : Cp) (y : Fl) (l : List Sp) (c : Co) (M : Nat → Int) (ac : List Pa) (li : Bool) : Prop where
  sys : Sys x y
  drop : x.steps.drop x.next.toNat = l
  w : 0 ≤ x.waits ∧ x.waits ≤ 100
  core : coreC x = c
  M : y.M = M
  acts : y.acts = ac
  line : y.line = li
end Go.Proofs.YtcfkpeemhleleaaGreatDoor
namespace Go.Proofs.YtcfkpeemhleleaaGreatDoor
open Go.RowKit
set_option maxRecDepth 100000
variable {x z x' : Cp} {y u y' : Fl} {n : Nat}
variable {l : List Sp} {r : Rg} {lt d : Int} {k nm : Bool} {i : Int} {M M' : Nat → Int} {ac : List Pa} {li : Bool} {c c' : Co}
theorem At.timed {s : Sp} {m : Nat} (h : At x y (s :: l) c M ac li) (h5 : s.k ≠ 5) (h6 : s.k ≠ 6) (hc : costS s = (m : Int)) (hk : coreC (nextX x y s) = c') (hM : (nextY x y s).M = M' ∧ (nextY x y s).acts = y.acts ∧ (nextY x y s).line = y.line) :
    ∃ x2 y2, At x2 y2 l c' M' ac li ∧ ∀ n x' y', Run (goL l x2) y2 n x' y' → Run (goL (s :: l) x) y (m + n) x' y' := by
  obtain ⟨h1, h2, h3, h4⟩ := timed_is h.sys h.drop h.w h5 h6 hc
  exact ⟨_, _, ⟨h1, h2, h3, hk, hM.1, hM.2.1.trans h.acts, hM.2.2.trans h.line⟩, h4⟩
theorem At.pcA (h : At x y (sRead 0 7 :: l) ⟨r, lt, d, k, nm, i⟩ M ac li) : ∃ x2 y2, At x2 y2 l ⟨{ r with a := M r.pc.toNat, pc := w16 (r.pc + 1) }, lt, d, k, nm, i⟩ M ac li ∧ ∀ n x' y', Run (goL l x2) y2 n x' y' → Run (goL (sRead 0 7 :: l) x) y (3 + n) x' y' := by
  refine h.timed (by decide) (by decide) rfl ?_ ⟨h.M, rfl, rfl⟩
  have hc := h.core
  have hM := h.M
  clear h
  injection hc with h1 h2 h3 h4 h5 h6
  subst h1 h2 h3 h4 h5 h6 hM
  rfl
theorem At.pcZ (h : At x y (sRead 0 24 :: l) ⟨r, lt, d, k, nm, i⟩ M ac li) : ∃ x2 y2, At x2 y2 l ⟨{ r with wz := r.wz / 256 * 256 + M r.pc.toNat, pc := w16 (r.pc + 1) }, lt, d, k, nm, i⟩ M ac li ∧ ∀ n x' y', Run (goL l x2) y2 n x' y' → Run (goL (sRead 0 24 :: l) x) y (3 + n) x' y' := by
  refine h.timed (by decide) (by decide) rfl ?_ ⟨h.M, rfl, rfl⟩
  have hc := h.core
  have hM := h.M
  clear h
  injection hc with h1 h2 h3 h4 h5 h6
  subst h1 h2 h3 h4 h5 h6 hM
  rfl
theorem At.pcW (h : At x y (sRead 0 32 :: l) ⟨r, lt, d, k, nm, i⟩ M ac li) : ∃ x2 y2, At x2 y2 l ⟨{ r with wz := M r.pc.toNat * 256 + r.wz % 256, pc := w16 (r.pc + 1) }, lt, d, k, nm, i⟩ M ac li ∧ ∀ n x' y', Run (goL l x2) y2 n x' y' → Run (goL (sRead 0 32 :: l) x) y (3 + n) x' y' := by
  refine h.timed (by decide) (by decide) rfl ?_ ⟨h.M, rfl, rfl⟩
  have hc := h.core
  have hM := h.M
  clear h
  injection hc with h1 h2 h3 h4 h5 h6
  subst h1 h2 h3 h4 h5 h6 hM
  rfl
theorem At.spZ (h : At x y (sRead 4 24 :: l) ⟨r, lt, d, k, nm, i⟩ M ac li) : ∃ x2 y2, At x2 y2 l ⟨{ r with wz := r.wz / 256 * 256 + M r.sp.toNat, sp := w16 (r.sp + 1) }, lt, d, k, nm, i⟩ M ac li ∧ ∀ n x' y', Run (goL l x2) y2 n x' y' → Run (goL (sRead 4 24 :: l) x) y (3 + n) x' y' := by
  refine h.timed (by decide) (by decide) rfl ?_ ⟨h.M, rfl, rfl⟩
  have hc := h.core
  have hM := h.M
  clear h
  injection hc with h1 h2 h3 h4 h5 h6
  subst h1 h2 h3 h4 h5 h6 hM
  rfl
theorem At.spW (h : At x y (sRead 4 32 :: l) ⟨r, lt, d, k, nm, i⟩ M ac li) : ∃ x2 y2, At x2 y2 l ⟨{ r with wz := M r.sp.toNat * 256 + r.wz % 256, sp := w16 (r.sp + 1) }, lt, d, k, nm, i⟩ M ac li ∧ ∀ n x' y', Run (goL l x2) y2 n x' y' → Run (goL (sRead 4 32 :: l) x) y (3 + n) x' y' := by
  refine h.timed (by decide) (by decide) rfl ?_ ⟨h.M, rfl, rfl⟩
  have hc := h.core
  have hM := h.M
  clear h
  injection hc with h1 h2 h3 h4 h5 h6
  subst h1 h2 h3 h4 h5 h6 hM
  rfl
theorem At.wait {m : Nat} (h : At x y (sWait 9 m :: l) c M ac li) : ∃ x2 y2, At x2 y2 l c M ac li ∧ ∀ n x' y', Run (goL l x2) y2 n x' y' → Run (goL (sWait 9 m :: l) x) y (m + n) x' y' :=
  h.timed (show (0 : Int) ≠ 5 by decide) (show (0 : Int) ≠ 6 by decide) rfl h.core ⟨h.M, rfl, rfl⟩
theorem At.pushH (h : At x y (sWrite 5 72 :: l) ⟨r, lt, d, k, nm, i⟩ M ac li) : ∃ x2 y2, At x2 y2 l ⟨{ r with sp := w16 (r.sp - 1) }, lt, d, k, nm, i⟩ (updN M (w16 (r.sp - 1)).toNat (r.pc / 256)) ac li ∧ ∀ n x' y', Run (goL l x2) y2 n x' y' → Run (goL (sWrite 5 72 :: l) x) y (3 + n) x' y' := by
  have hc := h.core
  have hM := h.M
  refine h.timed (M' := updN M (w16 (r.sp - 1)).toNat (r.pc / 256)) (by decide) (by decide) rfl ?_ ⟨?_, rfl, rfl⟩
  all_goals
    clear h
    injection hc with h1 h2 h3 h4 h5 h6
    subst h1 h2 h3 h4 h5 h6 hM
    rfl
theorem At.pushL (h : At x y (sWrite 5 64 :: l) ⟨r, lt, d, k, nm, i⟩ M ac li) : ∃ x2 y2, At x2 y2 l ⟨{ r with sp := w16 (r.sp - 1) }, lt, d, k, nm, i⟩ (updN M (w16 (r.sp - 1)).toNat (r.pc % 256)) ac li ∧ ∀ n x' y', Run (goL l x2) y2 n x' y' → Run (goL (sWrite 5 64 :: l) x) y (3 + n) x' y' := by
  have hc := h.core
  have hM := h.M
  refine h.timed (M' := updN M (w16 (r.sp - 1)).toNat (r.pc % 256)) (by decide) (by decide) rfl ?_ ⟨?_, rfl, rfl⟩
  all_goals
    clear h
    injection hc with h1 h2 h3 h4 h5 h6
    subst h1 h2 h3 h4 h5 h6 hM
    rfl
theorem At.latch (h : At x y (sRead 1 6 :: l) ⟨r, lt, d, k, nm, 0⟩ M ac li) : ∃ x2 y2, At x2 y2 l ⟨r, M (r.h * 256 + r.l).toNat, d, k, nm, 0⟩ M ac li ∧ ∀ n x' y', Run (goL l x2) y2 n x' y' → Run (goL (sRead 1 6 :: l) x) y (3 + n) x' y' := by
  refine h.timed (by decide) (by decide) rfl ?_ ⟨h.M, rfl, rfl⟩
  have hc := h.core
  have hM := h.M
  clear h
  injection hc with h1 h2 h3 h4 h5 h6
  rw [core_latch x y h6]
  subst h1 h3 h4 h5 hM
  unfold coreC
  rw [h6]
theorem At.store (h : At x y (sWrite 3 6 :: l) ⟨r, lt, d, k, nm, i⟩ M ac li) : ∃ x2 y2, At x2 y2 l ⟨r, lt, d, k, nm, i⟩ (updN M (r.d * 256 + r.e).toNat lt) ac li ∧ ∀ n x' y', Run (goL l x2) y2 n x' y' → Run (goL (sWrite 3 6 :: l) x) y (3 + n) x' y' := by
  have hc := h.core
  have hM := h.M
  refine h.timed (M' := updN M (r.d * 256 + r.e).toNat lt) (by decide) (by decide) rfl hc ⟨?_, rfl, rfl⟩
  clear h
  injection hc with h1 h2 h3 h4 h5 h6
  subst h1 h2 h3 h4 h5 h6 hM
  rfl
theorem At.work {s : Sp} (h : At x y (s :: l) c M ac li) (h5 : s.k = 5) (hk : coreC (workS { x with next := x.next + 1 } s) = c') : ∃ x2, At x2 y l c' M ac li ∧ ∀ n x' y', Run (goL l x2) y n x' y' → Run (goL (s :: l) x) y n x' y' := by
  obtain ⟨h1, h2, h3, h4⟩ := work_is h.sys h.drop h.w h5
  exact ⟨_, ⟨h1, h2, h3, hk, h.M, h.acts, h.line⟩, h4⟩
theorem At.jump (h : At x y (sWork 216 0 :: l) ⟨r, lt, d, k, nm, i⟩ M ac li) : ∃ x2, At x2 y l ⟨{ r with pc := r.wz }, lt, d, k, nm, i⟩ M ac li ∧ ∀ n x' y', Run (goL l x2) y n x' y' → Run (goL (sWork 216 0 :: l) x) y n x' y' := by
  refine h.work rfl ?_
  have hc := h.core
  clear h
  injection hc with h1 h2 h3 h4 h5 h6
  subst h1 h2 h3 h4 h5 h6
  rfl
theorem At.fin (h : At x y [] ⟨r, lt, d, k, nm, i⟩ M ac li) (hn : nm = false) (hh : r.halt = false) (hp : r.pre = 0) :
    Run (goL [] x) y 0 (finishS x) y ∧ (finishS x).Idle ∧ (finishS x).r = { r with q := if k then r.f else 0 } := by
  have hc := h.core
  injection hc with h1 h2 h3 h4 h5 h6
  subst h1 h2 h3 h4 h5 h6
  exact fin_is h.sys h.w hn hh hp
end Go.Proofs.YtcfkpeemhleleaaGreatDoor
namespace Go.Proofs.YtcfkpeemhleleaaGreatDoor
open Go.RowKit
set_option maxRecDepth 100000
variable {x z x' : Cp} {y u y' : Fl} {n : Nat}
theorem start_at (h : x.Idle) (hb : y.Calm) (c : Nat) (hc : y.M x.r.pc.toNat = (c : Int)) (c256 : c < 256) (h4 : c ≠ 203 ∧ c ≠ 221 ∧ c ≠ 237 ∧ c ≠ 253) {l : List Sp} (hl : progS [] 0 0 c = l) :
    ∃ x2 y2, At x2 y2 l ⟨{ x.r with r := tickV x.r.r, pc := w16 (x.r.pc + 1), pre := 0, hold := false }, x.latch, x.dist, false, false, 0⟩ y.M y.acts y.line ∧
    ∀ n x' y', Run (goL l x2) y2 n x' y' → ∃ z u, Tik x y z u ∧ 0 ≤ u.t ∧ u.t ≤ 1000000000 ∧ Run z (later u) (3 + n) x' y' := by
  subst hl
  obtain ⟨s0, d0, w0, r0⟩ := start_is h hb c hc c256 h4
  exact ⟨_, _, ⟨s0, d0, w0, by rw [core_f0, h.nmi], rfl, rfl, rfl⟩, r0⟩
theorem lda_run (h : x.Idle) (hb : y.Calm) (hc : y.M x.r.pc.toNat = 62) :
    ∃ x' y', Did x y 6 { x.r with a := y.M (w16 (x.r.pc + 1)).toNat, r := tickV x.r.r, pc := w16 (w16 (x.r.pc + 1) + 1), pre := 0, hold := false, q := 0 } y.M x' y' := by
  obtain ⟨X0, Y0, h0, r0⟩ := start_at h hb 62 hc (by decide) (by decide) prog62
  obtain ⟨X1, Y1, h1, r1⟩ := h0.pcA
  obtain ⟨f1, f2, f3⟩ := h1.fin rfl h.halt rfl
  exact ⟨_, _, r0 _ _ _ (r1 _ _ _ f1), f2, f3, h1.M, h1.acts, h1.line⟩
/-- A call, and what it leaves. -/
def callR (r : Rg) (W : Int) : Rg := { r with r := tickV r.r, pc := W, wz := W, sp := w16 (w16 (r.sp - 1) - 1), pre := 0, hold := false, q := 0 }
theorem call_run (h : x.Idle) (hb : y.Calm) (hc : y.M x.r.pc.toNat = 205) {p1 p2 p3 lo hi : Int} (e1 : w16 (x.r.pc + 1) = p1) (e2 : w16 (p1 + 1) = p2) (e3 : w16 (p2 + 1) = p3) (hlo : y.M p1.toNat = lo) (hhi : y.M p2.toNat = hi) :
    ∃ x' y', Did x y 16 (callR x.r (hi * 256 + (x.r.wz / 256 * 256 + lo) % 256)) (updN (updN y.M (w16 (x.r.sp - 1)).toNat (p3 / 256)) (w16 (w16 (x.r.sp - 1) - 1)).toNat (p3 % 256)) x' y' := by
  subst e1 e2 e3 hlo hhi
  obtain ⟨X0, Y0, h0, r0⟩ := start_at h hb 205 hc (by decide) (by decide) prog205
  obtain ⟨X1, Y1, h1, r1⟩ := h0.pcZ
  obtain ⟨X2, Y2, h2, r2⟩ := h1.pcW
  obtain ⟨X3, Y3, h3, r3⟩ := h2.wait (m := 1)
  obtain ⟨X4, Y4, h4, r4⟩ := h3.pushH
  obtain ⟨X5, Y5, h5, r5⟩ := h4.pushL
  obtain ⟨X6, h6, r6⟩ := h5.jump
  obtain ⟨f1, f2, f3⟩ := h6.fin rfl h.halt rfl
  exact ⟨_, _, r0 _ _ _ (r1 _ _ _ (r2 _ _ _ (r3 _ _ _ (r4 _ _ _ (r5 _ _ _ (r6 _ _ _ f1)))))), f2, f3, h6.M, h6.acts, h6.line⟩
/-- A return, and what it leaves. -/
def retR (r : Rg) (W : Int) : Rg := { r with r := tickV r.r, pc := W, wz := W, sp := w16 (w16 (r.sp + 1) + 1), pre := 0, hold := false, q := 0 }
theorem ret_run (h : x.Idle) (hb : y.Calm) (hc : y.M x.r.pc.toNat = 201) {lo hi : Int} (hlo : y.M x.r.sp.toNat = lo) (hhi : y.M (w16 (x.r.sp + 1)).toNat = hi) :
    ∃ x' y', Did x y 9 (retR x.r (hi * 256 + (x.r.wz / 256 * 256 + lo) % 256)) y.M x' y' := by
  subst hlo hhi
  obtain ⟨X0, Y0, h0, r0⟩ := start_at h hb 201 hc (by decide) (by decide) prog201
  obtain ⟨X1, Y1, h1, r1⟩ := h0.spZ
  obtain ⟨X2, Y2, h2, r2⟩ := h1.spW
  obtain ⟨X6, h6, r6⟩ := h2.jump
  obtain ⟨f1, f2, f3⟩ := h6.fin rfl h.halt rfl
  exact ⟨_, _, r0 _ _ _ (r1 _ _ _ (r2 _ _ _ (r6 _ _ _ f1))), f2, f3, h6.M, h6.acts, h6.line⟩

end Go.Proofs.YtcfkpeemhleleaaGreatDoor
/- Ldir exactly, and as often as BC says. No walk. -/
namespace Go.Proofs.YtcfkpeemhleleaaGreatDoor
open Go.RowKit
set_option maxRecDepth 100000
variable {x z x' : Cp} {y u y' : Fl} {n : Nat}

theorem fm_is (x : Cp) : firstM (kS { beginS x with k := 3 }) = startS (fetchS { beginS x with k := 4 }) 3 0 (w16 (x.r.pc + 1)) 4 := rfl
theorem start_ldir (h : x.Idle) (hb : y.Calm) (hc : y.M x.r.pc.toNat = 237) (hd : y.M (w16 (x.r.pc + 1)).toNat = 176) :
    ∃ x2 y2, At x2 y2 [sRead 1 6, sWrite 3 6, sWait 9 2, sWork 312 1, sUnless 16, sWait 9 5, sWork 344 0] ⟨{ x.r with r := tickV (tickV x.r.r), pc := w16 (w16 (x.r.pc + 1) + 1), pre := 0, hold := false }, x.latch, x.dist, false, false, 0⟩ y.M y.acts y.line ∧
    ∀ n x' y', Run (goL [sRead 1 6, sWrite 3 6, sWait 9 2, sWork 312 1, sUnless 16, sWait 9 5, sWork 344 0] x2) y2 n x' y' → ∃ z u, Tik x y z u ∧ 0 ≤ u.t ∧ u.t ≤ 1000000000 ∧ Run z (later u) (7 + n) x' y' := by
  have t0 := hb.t0
  have t1 := hb.t1
  have ha := hb.acts
  have hk : ({ beginS x with k := 4 } : Cp).Ok := ⟨(begin_ok h).r, (begin_ok h).addr, (begin_ok h).latch, (begin_ok h).dist⟩
  have hs := start_ok (fetch_ok hk) 3 0 4 (w16_bd (x.r.pc + 1))
  have hs4 : ({ startS (fetchS { beginS x with k := 4 }) 3 0 (w16 (x.r.pc + 1)) 4 with k := 4 } : Cp).Ok := ⟨hs.r, hs.addr, hs.latch, hs.dist⟩
  have hf := second_ok hs4
  have en : (F1 x).next = 0 := h.next
  have es : (F1 x).steps = [sRead 1 6, sWrite 3 6, sWait 9 2, sWork 312 1, sUnless 16, sWait 9 5, sWork 344 0] := prog176
  have ed : (F1 x).steps.drop (F1 x).next.toNat = [sRead 1 6, sWrite 3 6, sWait 9 2, sWork 312 1, sUnless 16, sWait 9 5, sWork 344 0] := by rw [en, es]; rfl
  have hg : ∀ s ∈ (F1 x).steps, goodS s = true := List.all_eq_true.1 good_ldir
  refine ⟨F1 x, { y with t := y.t + 8 }, ⟨⟨⟨⟨hf.r, hf.addr, hf.latch, hf.dist⟩, by rw [en]; rfl, by rw [en]; exact Nat.zero_le _, hg⟩, hb.mem, ?_, ?_, ?_⟩, ed, h.w, by rw [core_f1, h.nmi], rfl, rfl, rfl⟩, fun n x' y' hr => ?_⟩
  · rw [en, es]; show y.acts.length + 7 ≤ _; omega
  · show 0 ≤ y.t + 8; omega
  · rw [en, es]; show y.t + 8 + 200 * (7 - 0) ≤ _; omega
  · have := start_run (n := 4 + n) (X := startS (fetchS { beginS x with k := 4 }) 3 0 (w16 (x.r.pc + 1)) 4) (x' := x') (y' := y') h hb (by rw [← fm_is]; exact Tik.more (start_last h) rfl hc h.halt h.pre) ?_
    · rw [show 3 + (4 + n) = 7 + n by omega] at this
      exact this
    · refine Run.cast (run_within (n := n + 1) 3 _ _ ⟨show (3 : Int) ≠ 0 by decide, rfl, rfl, show (0 : Int) ≤ 0 by decide, show (0 : Int) ≤ 1000 by decide⟩ (show (0 : Int) + 3 < 4 by decide) (show (4 : Int) ≤ 500 by decide) (show 0 ≤ y.t + 4 by omega) (show y.t + 4 + 3 ≤ _ by omega) ?_) (show 3 + (n + 1) = 4 + n by omega)
      refine Run.more (show (3 : Int) ≠ 0 by decide) (Tik.ldir ⟨⟨show (3 : Int) ≠ 0 by decide, rfl, rfl, show (0 : Int) ≤ 0 + 3 by decide, show (0 : Int) + 3 ≤ 1000 by decide⟩, rfl, ⟨hs.r, hs.addr, hs.latch, hs.dist⟩⟩ rfl hd h.next rfl) (show 0 ≤ y.t + 4 + 3 by omega) (show y.t + 4 + 3 ≤ _ by omega) ?_
      have e3 : later { ({ y with t := y.t + 4 } : Fl) with t := ({ y with t := y.t + 4 } : Fl).t + ((3 : Nat) : Int) } = { y with t := y.t + 8 } := by
        show ({ y with t := y.t + 4 + ((3 : Nat) : Int) + 1 } : Fl) = _
        rw [show y.t + 4 + ((3 : Nat) : Int) + 1 = y.t + 8 by omega]
      rw [e3]
      show Run (goX (F1 x)) _ n x' y'
      unfold goX
      rw [ed]
      exact hr
end Go.Proofs.YtcfkpeemhleleaaGreatDoor
namespace Go.Proofs.YtcfkpeemhleleaaGreatDoor
open Go.RowKit
set_option maxRecDepth 100000
variable {x z x' : Cp} {y u y' : Fl} {n : Nat}
variable {l : List Sp} {r : Rg} {lt d : Int} {k nm : Bool} {i : Int} {M M' : Nat → Int} {ac : List Pa} {li : Bool} {c c' : Co}
def bcV (r : Rg) : Int := w16 (r.b * 256 + r.c + -1)
def deV (r : Rg) : Int := w16 (r.d * 256 + r.e + 1)
def hlV (r : Rg) : Int := w16 (r.h * 256 + r.l + 1)
/-- Registers behind a byte was copied. -/
def copR (r : Rg) (lt : Int) : Rg := { r with d := deV r / 256, e := deV r % 256, h := hlV r / 256, l := hlV r % 256, b := bcV r / 256, c := bcV r % 256, f := copyF r.a lt (bcV r / 256 * 256 + bcV r % 256) r.f }
theorem At.copied (h : At x y (sWork 312 1 :: l) ⟨r, lt, d, k, nm, 0⟩ M ac li) : ∃ x2, At x2 y l ⟨copR r lt, lt, d, true, nm, 0⟩ M ac li ∧ ∀ n x' y', Run (goL l x2) y n x' y' → Run (goL (sWork 312 1 :: l) x) y n x' y' := by
  refine h.work rfl ?_
  have hc := h.core
  clear h
  obtain ⟨xr, x1, x2, x3, x4, x5, x6, x7, x8, x9, x10, x11, x12, x13, x14, x15⟩ := x
  injection hc with h1 h2 h3 h4 h5 h6
  dsimp only at h1 h2 h3 h4 h5 h6
  subst h1 h2 h3 h4 h5 h6
  rfl
theorem At.unless (h : At x y (sUnless 16 :: l) ⟨r, lt, d, k, nm, i⟩ M ac li) (hm : (r.b * 256 + r.c != 0) = true) : ∃ x2, At x2 y l ⟨r, lt, d, k, nm, i⟩ M ac li ∧ ∀ n x' y', Run (goL l x2) y n x' y' → Run (goL (sUnless 16 :: l) x) y n x' y' := by
  have hc := h.core
  have hme : metS { x with next := x.next + 1 } ((sUnless 16).w - (sUnless 16).w % 8) ((sUnless 16).w % 8) = true := by
    injection hc with h1 h2 h3 h4 h5 h6
    subst h1
    exact hm
  obtain ⟨h1, h2, h3, h4⟩ := met_is h.sys h.drop h.w rfl hme
  exact ⟨_, ⟨h1, h2, h3, hc, h.M, h.acts, h.line⟩, h4⟩
theorem At.stop (h : At x y (sUnless 16 :: l) ⟨r, lt, d, k, nm, i⟩ M ac li) (hn : nm = false) (hh : r.halt = false) (hp : r.pre = 0) (hm : (r.b * 256 + r.c != 0) = false) :
    ∃ x2 : Cp, Run (goL (sUnless 16 :: l) x) y 0 x2 y ∧ x2.Idle ∧ x2.r = { r with q := if k then r.f else 0 } := by
  have hc := h.core
  have hme : metS { x with next := x.next + 1 } ((sUnless 16).w - (sUnless 16).w % 8) ((sUnless 16).w % 8) = false := by
    injection hc with h1 h2 h3 h4 h5 h6
    subst h1
    exact hm
  have ok := h.sys.inn.ok
  have hw := h.w
  injection hc with h1 h2 h3 h4 h5 h6
  subst h1 h2 h3 h4 h5 h6
  exact ⟨finishS { x with next := x.next + 1 }, by rw [goL_unmet _ _ _ rfl hme]; exact Run.done rfl, ⟨rfl, hn, rfl, hw, finish_ok (next_ok ok), hh, hp⟩, rfl⟩
def agR (r : Rg) : Rg := { r with pc := w16 (r.pc - 2), wz := w16 (w16 (r.pc - 2) + 1), f := againF r.f (w16 (r.pc - 2)) }
theorem At.again (h : At x y (sWork 344 0 :: l) ⟨r, lt, d, k, nm, i⟩ M ac li) : ∃ x2, At x2 y l ⟨agR r, lt, d, true, nm, i⟩ M ac li ∧ ∀ n x' y', Run (goL l x2) y n x' y' → Run (goL (sWork 344 0 :: l) x) y n x' y' := by
  refine h.work rfl ?_
  have hc := h.core
  clear h
  injection hc with h1 h2 h3 h4 h5 h6
  subst h1 h2 h3 h4 h5 h6
  rfl
end Go.Proofs.YtcfkpeemhleleaaGreatDoor
namespace Go.Proofs.YtcfkpeemhleleaaGreatDoor
open Go.RowKit
set_option maxRecDepth 100000
variable {x z x' : Cp} {y u y' : Fl} {n : Nat}
/-- Where ldir stands. -/
structure Lp (r : Rg) (at_ src dst bc : Int) : Prop where
  pc : r.pc = at_
  hl : r.h * 256 + r.l = src
  de : r.d * 256 + r.e = dst
  bc : r.b * 256 + r.c = bc
theorem ldir_more (h : x.Idle) (hb : y.Calm) {at_ src dst bc : Int} (hl : Lp x.r at_ src dst bc) (h0 : 0 ≤ at_) (h1 : at_ ≤ 65000) (s0 : 0 ≤ src) (s1 : src ≤ 65500) (d0 : 0 ≤ dst) (d1 : dst ≤ 65500) (b0 : 1 < bc) (b1 : bc ≤ 100) (hc : y.M at_.toNat = 237) (hd : y.M (at_ + 1).toNat = 176) :
    ∃ x' y', Did x y 20 x'.r (updN y.M dst.toNat (y.M src.toNat)) x' y' ∧ Lp x'.r at_ (src + 1) (dst + 1) (bc - 1) := by
  have ep : w16 (x.r.pc + 1) = at_ + 1 := by rw [hl.pc]; unfold w16; omega
  obtain ⟨X0, Y0, g0, r0⟩ := start_ldir h hb (by rw [hl.pc]; exact hc) (by rw [ep]; exact hd)
  obtain ⟨X1, Y1, g1, r1⟩ := g0.latch
  obtain ⟨X2, Y2, g2, r2⟩ := g1.store
  obtain ⟨X3, Y3, g3, r3⟩ := g2.wait (m := 2)
  obtain ⟨X4, g4, r4⟩ := g3.copied
  have hbc : bcV { x.r with r := tickV (tickV x.r.r), pc := w16 (w16 (x.r.pc + 1) + 1), pre := 0, hold := false } = bc - 1 := by
    show w16 (x.r.b * 256 + x.r.c + -1) = _
    rw [hl.bc]; unfold w16; omega
  obtain ⟨X5, g5, r5⟩ := g4.unless (by
    show (bcV _ / 256 * 256 + bcV _ % 256 != 0) = true
    rw [hbc, bne_iff_ne]; omega)
  obtain ⟨X6, Y6, g6, r6⟩ := g5.wait (m := 5)
  obtain ⟨X7, g7, r7⟩ := g6.again
  obtain ⟨f1, f2, f3⟩ := g7.fin rfl h.halt rfl
  have hM : Y6.M = updN y.M dst.toNat (y.M src.toNat) := by
    rw [g6.M]
    show updN y.M (x.r.d * 256 + x.r.e).toNat (y.M (x.r.h * 256 + x.r.l).toNat) = _
    rw [hl.de, hl.hl]
  refine ⟨_, _, ⟨r0 _ _ _ (r1 _ _ _ (r2 _ _ _ (r3 _ _ _ (r4 _ _ _ (r5 _ _ _ (r6 _ _ _ (r7 _ _ _ f1))))))), f2, rfl, hM, g7.acts, g7.line⟩, ?_⟩
  rw [f3]
  refine ⟨?_, ?_, ?_, ?_⟩
  · show w16 (w16 (w16 (x.r.pc + 1) + 1) - 2) = _
    rw [hl.pc]; unfold w16; omega
  · show w16 (x.r.h * 256 + x.r.l + 1) / 256 * 256 + w16 (x.r.h * 256 + x.r.l + 1) % 256 = _
    rw [hl.hl]; unfold w16; omega
  · show w16 (x.r.d * 256 + x.r.e + 1) / 256 * 256 + w16 (x.r.d * 256 + x.r.e + 1) % 256 = _
    rw [hl.de]; unfold w16; omega
  · show w16 (x.r.b * 256 + x.r.c + -1) / 256 * 256 + w16 (x.r.b * 256 + x.r.c + -1) % 256 = _
    rw [hl.bc]; unfold w16; omega
theorem ldir_last (h : x.Idle) (hb : y.Calm) {at_ src dst : Int} (hl : Lp x.r at_ src dst 1) (h0 : 0 ≤ at_) (h1 : at_ ≤ 65000) (s0 : 0 ≤ src) (s1 : src ≤ 65500) (d0 : 0 ≤ dst) (d1 : dst ≤ 65500) (hc : y.M at_.toNat = 237) (hd : y.M (at_ + 1).toNat = 176) :
    ∃ x' y', Did x y 15 x'.r (updN y.M dst.toNat (y.M src.toNat)) x' y' ∧ Lp x'.r (at_ + 2) (src + 1) (dst + 1) 0 := by
  have ep : w16 (x.r.pc + 1) = at_ + 1 := by rw [hl.pc]; unfold w16; omega
  obtain ⟨X0, Y0, g0, r0⟩ := start_ldir h hb (by rw [hl.pc]; exact hc) (by rw [ep]; exact hd)
  obtain ⟨X1, Y1, g1, r1⟩ := g0.latch
  obtain ⟨X2, Y2, g2, r2⟩ := g1.store
  obtain ⟨X3, Y3, g3, r3⟩ := g2.wait (m := 2)
  obtain ⟨X4, g4, r4⟩ := g3.copied
  have hbc : bcV { x.r with r := tickV (tickV x.r.r), pc := w16 (w16 (x.r.pc + 1) + 1), pre := 0, hold := false } = 0 := by
    show w16 (x.r.b * 256 + x.r.c + -1) = _
    rw [hl.bc]; rfl
  obtain ⟨X5, f1, f2, f3⟩ := g4.stop rfl h.halt rfl (by
    show (bcV _ / 256 * 256 + bcV _ % 256 != 0) = false
    rw [hbc]; rfl)
  have hM : Y3.M = updN y.M dst.toNat (y.M src.toNat) := by
    rw [g3.M]
    show updN y.M (x.r.d * 256 + x.r.e).toNat (y.M (x.r.h * 256 + x.r.l).toNat) = _
    rw [hl.de, hl.hl]
  refine ⟨_, _, ⟨r0 _ _ _ (r1 _ _ _ (r2 _ _ _ (r3 _ _ _ (r4 _ _ _ f1)))), f2, rfl, hM, g4.acts, g4.line⟩, ?_⟩
  rw [f3]
  refine ⟨?_, ?_, ?_, ?_⟩
  · show w16 (w16 (x.r.pc + 1) + 1) = _
    rw [hl.pc]; unfold w16; omega
  · show w16 (x.r.h * 256 + x.r.l + 1) / 256 * 256 + w16 (x.r.h * 256 + x.r.l + 1) % 256 = _
    rw [hl.hl]; unfold w16; omega
  · show w16 (x.r.d * 256 + x.r.e + 1) / 256 * 256 + w16 (x.r.d * 256 + x.r.e + 1) % 256 = _
    rw [hl.de]; unfold w16; omega
  · show w16 (x.r.b * 256 + x.r.c + -1) / 256 * 256 + w16 (x.r.b * 256 + x.r.c + -1) % 256 = _
    rw [hl.bc]; rfl

end Go.Proofs.YtcfkpeemhleleaaGreatDoor
/- A bus and a processor that are made. -/
namespace Go.Proofs.YtcfkpeemhleleaaGreatDoor
open Go.RowKit
set_option maxRecDepth 100000

def flatL : List (Nat × (Value → Bool)) := [(65536, isU8z), (2, isNil), (1, isU64z), (1, isBz)]
theorem flatZero_ok : eatO flatL (Tryz.prog.info? 37) = true := by kernel_rfl
def flZ : Fl := ⟨fun _ => 0, [], 0, false⟩
theorem flatZ_at (j : Nat) (v : Value) (hj : j < 65540) (h : atZ flatL j v = true) : v = fC flZ (.slice none 0 0) j := by
  simp only [flatL, atZ] at h
  unfold fC flZ
  by_cases c0 : j < 65536
  · rw [if_pos c0] at h
    rw [of_u8z h, if_pos c0]
  rw [if_neg c0] at h
  rw [if_neg c0]
  by_cases c1 : j - 65536 < 2
  · rw [if_pos c1] at h
    rw [of_nil h]
    have e : j = 65536 ∨ j = 65537 := by omega
    rcases e with rfl | rfl <;> rfl
  rw [if_neg c1] at h
  by_cases c2 : j - 65536 - 2 < 1
  · rw [if_pos c2] at h
    rw [of_u64z h]
    obtain rfl : j = 65538 := by omega
    rfl
  rw [if_neg c2] at h
  have c3 : j - 65536 - 2 - 1 < 1 := by omega
  rw [if_pos c3] at h
  rw [of_bz h]
  obtain rfl : j = 65539 := by omega
  rfl
theorem flatZero : ∃ i A, Tryz.prog.info? 37 = some i ∧ i.zero = some (.agg A) ∧ A.size = 65540 ∧ ∀ j, j < 65540 → A[j]? = some (fC flZ (.slice none 0 0) j) := by
  obtain ⟨i, A, h1, h2, h3, h4⟩ := zero_of _ _ flatZero_ok
  refine ⟨i, A, h1, h2, h3, fun j hj => ?_⟩
  obtain ⟨v, a1, a2⟩ := h4 j hj
  rw [a1, flatZ_at j v hj a2]
theorem fold_at (off : Nat) : ∀ (L : List Value) (k : Nat) (cs : Array Value), off + k + L.length ≤ cs.size → ((L.zipIdx k).foldl (fun cs p => cs.setIfInBounds (off + p.2) p.1) cs).size = cs.size ∧ ∀ j, ((L.zipIdx k).foldl (fun cs p => cs.setIfInBounds (off + p.2) p.1) cs)[j]? = if off + k ≤ j ∧ j < off + k + L.length then L[j - (off + k)]? else cs[j]?
  | [], k, cs, _ => ⟨rfl, fun j => by
    rw [if_neg (by simp only [List.length_nil]; omega)]
    rfl⟩
  | v :: L, k, cs, h => by
    simp only [List.length_cons] at h
    obtain ⟨h1, h2⟩ := fold_at off L (k + 1) (cs.setIfInBounds (off + k) v) (by simp only [Array.size_setIfInBounds]; omega)
    simp only [List.zipIdx_cons, List.foldl_cons, List.length_cons]
    refine ⟨by rw [h1]; simp, fun j => ?_⟩
    rw [h2]
    by_cases c1 : off + (k + 1) ≤ j ∧ j < off + (k + 1) + L.length
    · rw [if_pos c1, if_pos (by omega), show j - (off + k) = (j - (off + (k + 1))) + 1 by omega, List.getElem?_cons_succ]
    · rw [if_neg c1]
      by_cases c2 : j = off + k
      · subst c2
        rw [Array.getElem?_setIfInBounds_self_of_lt (by omega), if_pos (by omega), Nat.sub_self]; rfl
      · rw [Array.getElem?_setIfInBounds_ne (fun e => c2 e.symm), if_neg (by omega)]
def memA (M : Nat → Int) : Array Value := ((List.range 65536).map fun j => Value.int .u8 (M j)).toArray
theorem memA_at (M : Nat → Int) (j : Nat) (h : j < 65536) : (memA M)[j]? = some (.int .u8 (M j)) := by
  unfold memA
  rw [List.getElem?_toArray, List.getElem?_map, List.getElem?_range h]; rfl
theorem memA_len (M : Nat → Int) : (memA M).toList.length = 65536 := by simp [memA]
theorem memA_size (M : Nat → Int) : (memA M).size = 65536 := by simp [memA]
def flatBuild (p : Array (Nat × Value)) : Sem Value := Instr.build 37 p
theorem flatBuild_as (p : Array (Nat × Value)) : Instr.build 37 p = flatBuild p := rfl
theorem flat_places : ((match Tryz.prog.underlying 37 with | some (.struct fs) => fs | _ => (#[] : Array Field)).toList.mapM (fun (f : Field) => (Tryz.prog.info? f.type).map fun (i : TypeInfo) => (f.offset, i.size))) = some [(0, 65536), (65536, 1), (65537, 1), (65538, 1), (65539, 1)] := by kernel_rfl
theorem run_flatBuild0 : ∃ A : Array Value, A.size = 65540 ∧ (∀ j, j < 65540 → A[j]? = some (fC flZ (.slice none 0 0) j)) ∧ ∀ u, (flatBuild #[]).run Tryz.prog u = .ok (.agg A) u := by
  obtain ⟨i, A, h1, h2, h3, h4⟩ := flatZero
  refine ⟨A, h3, h4, fun u => run_build u _ _ _ ?_⟩
  have hp := flat_places
  rw [Tryz.underlying37] at hp
  unfold Program.built
  rw [h1, Tryz.underlying37]
  simp only [h2]
  dsimp only at hp
  rw [hp]
  rfl
theorem run_flatBuild1 (M : Nat → Int) : ∃ A : Array Value, A.size = 65540 ∧ (∀ j, j < 65540 → A[j]? = some (fC { flZ with M := M } (.slice none 0 0) j)) ∧ ∀ u, (flatBuild #[(0, .agg (memA M))]).run Tryz.prog u = .ok (.agg A) u := by
  obtain ⟨i, A, h1, h2, h3, h4⟩ := flatZero
  have hp := flat_places
  rw [Tryz.underlying37] at hp
  have hf := fold_at 0 (memA M).toList 0 A (by rw [memA_len, h3]; decide)
  refine ⟨_, hf.1.trans h3, fun j hj => ?_, fun u => run_build u _ _ _ (show Tryz.prog.built 37 [(0, .agg (memA M))] = some (((memA M).toList.zipIdx 0).foldl (fun cs p => cs.setIfInBounds (0 + p.2) p.1) A) from ?_)⟩
  · rw [hf.2, memA_len]
    by_cases c : j < 65536
    · rw [if_pos (by omega), Array.getElem?_toList, show j - (0 + 0) = j by omega, memA_at M j c, fC_M _ _ _ c]
    · rw [if_neg (by omega), h4 j hj]
      unfold fC
      rw [if_neg c, if_neg c]
  · unfold Program.built
    rw [h1, Tryz.underlying37]
    simp only [h2]
    dsimp only at hp
    rw [hp]
    have hc : (Value.agg (memA M)).cells = memA M := rfl
    have hz : (Value.agg A).cells = A := rfl
    have e : (memA M).zipIdx.foldl (fun cs (p : Value × Nat) => cs.setIfInBounds (0 + p.2) p.1) A = ((memA M).toList.zipIdx 0).foldl (fun cs p => cs.setIfInBounds (0 + p.2) p.1) A := by
      rw [← Array.foldl_toList, Array.toList_zipIdx]
    rw [← e]
    have hsz := memA_size M
    generalize memA M = B at *
    unfold Instr.fill
    simp only [hc, hz]
    have hpl : ([(0, 65536), (65536, 1), (65537, 1), (65538, 1), (65539, 1)] : List (Nat × Nat)).toArray[0]? = some (0, 65536) := rfl
    rw [hpl]
    simp only
    rw [if_neg (by simp only [hsz, h3]; decide)]
    rfl

/-- A new processor. -/
def cpZ (r : Rg) : Cp := ⟨r, false, 0, 0, 0, 0, 0, false, 0, [], 0, 0, 0, 0, 0, false⟩
def cpuBuild (p : Array (Nat × Value)) : Sem Value := Instr.build 49 p
theorem cpuBuild_as (p : Array (Nat × Value)) : Instr.build 49 p = cpuBuild p := rfl
theorem run_cpuBuild (r : Rg) (u : World) : (cpuBuild #[(0, .agg r.cells.toArray)]).run Tryz.prog u = .ok (.agg ((cpZ r).cells (.slice none 0 0)).toArray) u := by kernel_rfl

end Go.Proofs.YtcfkpeemhleleaaGreatDoor
/- The document's List: its contract. -/
namespace Go.Proofs.YtcfkpeemhleleaaGreatDoor
open Go.RowKit

/-- The registers' type: what the walk asks of it. -/
theorem regs_size : (Tryz.prog.info? 24).map (·.size) = some 30 := by kernel_rfl

end Go.Proofs.YtcfkpeemhleleaaGreatDoor
/- The document's Put: its contract. -/
namespace Go.Proofs.YtcfkpeemhleleaaGreatDoor
open Go.RowKit

end Go.Proofs.YtcfkpeemhleleaaGreatDoor
/- All of the registers read at once, and held against each other, as the walk meets it. -/
namespace Go.Proofs.YtcfkpeemhleleaaGreatDoor
open Go.RowKit

def regLoad (v : Value) : Sem Value := Instr.loadAt 24 v
theorem load_as (v : Value) : Instr.loadAt 24 v = regLoad v := rfl
def regEql (a b : Array Value) : Sem Value := binOp .eql 24 (.agg a) (.agg b)
theorem eql_as (a b : Array Value) : binOp .eql 24 (.agg a) (.agg b) = regEql a b := rfl

theorem run_regLoad (u : World) (b : Nat) (x : Rg) (h : u.rangeAt b 0 x.cells) : (regLoad (.pointer (some ⟨b, 0, none⟩))).run Tryz.prog u = .ok (.agg x.cells.toArray) u :=
  run_loadAt_mid u b 0 24 x.cells _ h Tryz.underlying24 rfl regs_size

/-- Two structs held against each other field by field. -/
theorem run_eqFields {P : Program} (w : World) (d : Nat) (xs ys : Array Value) : ∀ (fs : List Field) (us vs : List Value), us.length = fs.length → vs.length = fs.length →
    (∀ (j : Nat) (f : Field) (u v : Value), fs[j]? = some f → us[j]? = some u → vs[j]? = some v → f.name ≠ "_" ∧ (part f.type xs f.offset).run P w = .ok u w ∧ (part f.type ys f.offset).run P w = .ok v w ∧ (Op.equalIn d f.type u v).run P w = .ok (eqV u v) w) →
    (Op.eqFields d xs ys fs).run P w = .ok (eqL us vs) w
  | [], [], [], _, _, _ => by simp [Op.eqFields, eqL]
  | f :: fs, u :: us, v :: vs, hu, hv, h => by
    obtain ⟨h1, h2, h3, h4⟩ := h 0 f u v rfl rfl rfl
    have ih := run_eqFields w d xs ys fs us vs (by simpa using hu) (by simpa using hv) (fun j f u v a b c => h (j + 1) f u v a b c)
    unfold Op.eqFields
    rw [if_pos h1]
    simp only [Sem.run_bind, h2, h3, h4, Result.andThen_ok]
    cases e : eqV u v
    · simp [eqL, e]
    · simp [eqL, e, ih]
  | [], _ :: _, _, h, _, _ => by simp at h
  | [], [], _ :: _, _, h, _ => by simp at h
  | _ :: _, [], _, h, _, _ => by simp at h
  | _ :: _, _ :: _, [], _, h, _ => by simp at h

theorem part_one {P : Program} {t : TypeId} {cs : Array Value} {o : Nat} {v : Value} (w : World) (ht : (∃ k, P.underlying t = some (.int k)) ∨ P.underlying t = some .bool) (hv : cs[o]? = some v) : (part t cs o).run P w = .ok v w := by
  unfold part isAgg
  rcases ht with ⟨k, ht⟩ | ht
  · simp [Sem.run_bind, run_underlying ht, hv]
  · simp [Sem.run_bind, run_underlying ht, hv]
theorem field_int {P : Program} {t : TypeId} {xs ys : Array Value} {o : Nat} {k : IntKind} {a b : Int} (w : World) (ht : P.underlying t = some (.int k)) (hx : xs[o]? = some (.int k a)) (hy : ys[o]? = some (.int k b)) :
    (part t xs o).run P w = .ok (.int k a) w ∧ (part t ys o).run P w = .ok (.int k b) w ∧ (Op.equalIn 9999 t (.int k a) (.int k b)).run P w = .ok (eqV (.int k a) (.int k b)) w :=
  ⟨part_one w (Or.inl ⟨k, ht⟩) hx, part_one w (Or.inl ⟨k, ht⟩) hy, run_equalIn_int w 9998 t k k a b ht⟩
theorem field_bool {P : Program} {t : TypeId} {xs ys : Array Value} {o : Nat} {a b : Bool} (w : World) (ht : P.underlying t = some .bool) (hx : xs[o]? = some (.bool a)) (hy : ys[o]? = some (.bool b)) :
    (part t xs o).run P w = .ok (.bool a) w ∧ (part t ys o).run P w = .ok (.bool b) w ∧ (Op.equalIn 9999 t (.bool a) (.bool b)).run P w = .ok (eqV (.bool a) (.bool b)) w :=
  ⟨part_one w (Or.inr ht) hx, part_one w (Or.inr ht) hy, run_equalIn_bool' w 9998 t a b ht⟩
set_option maxRecDepth 100000 in
theorem run_regEql (x y : Rg) (w : World) : (regEql x.cells.toArray y.cells.toArray).run Tryz.prog w = .ok (.bool (eqR x y)) w := by
  unfold regEql
  have hu : Tryz.prog.underlying 24 = some (.struct (Tryz.prog.fieldsOf 24)) := by unfold Program.fieldsOf; rw [Tryz.underlying24]
  have e : (Op.eqFields 9999 x.cells.toArray y.cells.toArray (Tryz.prog.fieldsOf 24).toList).run Tryz.prog w = .ok (eqL x.cells y.cells) w := by
    have hf0 : Tryz.prog.fieldsOf 24 = (match Tryz.prog.underlying 24 with | some (.struct fs) => fs | _ => #[]) := rfl
    rw [Tryz.underlying24] at hf0
    rw [hf0]
    refine run_eqFields w 9999 _ _ _ _ _ rfl rfl ?_
    intro j f u v hf hu hv
    match j, hf, hu, hv with
    | 0, hf, hu, hv
    | 1, hf, hu, hv
    | 2, hf, hu, hv
    | 3, hf, hu, hv
    | 4, hf, hu, hv
    | 5, hf, hu, hv
    | 6, hf, hu, hv
    | 7, hf, hu, hv
    | 8, hf, hu, hv
    | 9, hf, hu, hv
    | 10, hf, hu, hv
    | 11, hf, hu, hv
    | 12, hf, hu, hv
    | 13, hf, hu, hv
    | 14, hf, hu, hv
    | 15, hf, hu, hv
    | 16, hf, hu, hv
    | 17, hf, hu, hv
    | 18, hf, hu, hv
    | 19, hf, hu, hv
    | 20, hf, hu, hv
    | 21, hf, hu, hv
    | 22, hf, hu, hv
    | 23, hf, hu, hv
    | 24, hf, hu, hv
    | 25, hf, hu, hv
    | 26, hf, hu, hv
    | 27, hf, hu, hv
    | 28, hf, hu, hv
    | 29, hf, hu, hv =>
      injection hf with hf
      injection hu with hu
      injection hv with hv
      subst hf hu hv
      first
        | exact ⟨by decide, field_int w Tryz.underlying5 rfl rfl⟩
        | exact ⟨by decide, field_int w Tryz.underlying22 rfl rfl⟩
        | exact ⟨by decide, field_bool w Tryz.underlying4 rfl rfl⟩
  rw [run_eql_struct, run_equalIn_struct w 9999 24 _ _ hu (by kernel_rfl), e]
  rfl

theorem regs_guard : Tryz.prog.eqGuardType Tryz.prog.depth 24 = false := by kernel_rfl

end Go.Proofs.YtcfkpeemhleleaaGreatDoor
/- New, Copy, Nmi, and what isn't there: their contracts. -/
namespace Go.Proofs.YtcfkpeemhleleaaGreatDoor
open Go.RowKit
set_option maxRecDepth 100000
set_option linter.unusedVariables false
set_option linter.unusedSimpArgs false
attribute [local simp ↓ high] cpuBuild_as load_as eql_as

/-- A bus that is no older than B lies in f. -/
structure Fa (B : Nat) (W w : World) (f : Nat) (y : Fl) : Prop where
  fl : Cells w f 37 65540 (fC y (.slice none 0 0))
  acts : y.acts = []
  lf : B ≤ f
  modes : Modes w
  mg : 0 < B
  below : Below B W w
  hB : B ≤ w.heap.size
theorem Fa.of {B : Nat} {W w w' : World} {f : Nat} {y : Fl} (h : Fa B W w f y) (hb : Below w.heap.size w w') : Fa B W w' f y :=
  ⟨h.fl.below hb, h.acts, h.lf, h.modes.below hb, h.mg, h.below.trans (hb.mono h.hB), Nat.le_trans h.hB hb.size⟩
theorem Fa.drew {B : Nat} {W w : World} {f : Nat} {y : Fl} (h : Fa B W w f y) : Fa B W w.drew f y := h.of (Below.refl _ _).drew
theorem Fa.alloc {B : Nat} {W w : World} {f : Nat} {y : Fl} (h : Fa B W w f y) (o : Obj) : Fa B W (w.alloc o) f y := h.of (balloc w o)
theorem Fa.poke {B : Nat} {W w : World} {f : Nat} {y : Fl} (h : Fa B W w f y) (a : Nat) (n : Int) (ha : a < 65536) : Fa B W (w.setCell ⟨f, a, none⟩ (.int .u8 n)) f (wrS y a n) := by
  have hc := h.fl.set a (.int .u8 n)
  rw [fset_M y _ a n ha] at hc
  have hb : ∀ k, k ≠ f → (w.setCell ⟨f, a, none⟩ (.int .u8 n)).heap[k]? = w.heap[k]? := fun k hk => Below.heap_setCell _ _ _ _ hk
  have hsz : (w.setCell ⟨f, a, none⟩ (.int .u8 n)).heap.size = w.heap.size := by simp [World.setCell]
  exact ⟨hc, h.acts, h.lf, modes_block h.modes (hb _ (by have := h.mg; have := h.lf; omega)) (Nat.le_of_eq hsz.symm), h.mg, h.below.setCell h.lf _, by rw [hsz]; exact h.hB⟩
theorem Fa.other {B : Nat} {W w : World} {f : Nat} {y : Fl} (h : Fa B W w f y) (g j : Nat) (v : Value) (hg : g ≠ f) (hB : B ≤ g) : Fa B W (w.setCell ⟨g, j, none⟩ v) f y := by
  have hb : ∀ k, k ≠ g → (w.setCell ⟨g, j, none⟩ v).heap[k]? = w.heap[k]? := fun k hk => Below.heap_setCell _ _ _ _ hk
  have hsz : (w.setCell ⟨g, j, none⟩ v).heap.size = w.heap.size := by simp [World.setCell]
  exact ⟨h.fl.block (hb f hg.symm), h.acts, h.lf, modes_block h.modes (hb _ (by have := h.mg; omega)) (Nat.le_of_eq hsz.symm), h.mg, h.below.setCell hB _, by rw [hsz]; exact h.hB⟩
theorem RegAt.poke {w : World} {g f : Nat} {x : Rg} (h : RegAt w g x) (hne : g ≠ f) (j : Nat) (v : Value) : RegAt (w.setCell ⟨f, j, none⟩ v) g x := h.block (Below.heap_setCell _ _ _ _ hne) (by simp only [World.setCell, Array.size_modify]; exact h.lt)
theorem Fa.cell {B : Nat} {W w : World} {f : Nat} {y : Fl} (h : Fa B W w f y) (a : Nat) (ha : a < 65536) : w.cell? ⟨f, a, none⟩ = some (.int .u8 (y.M a)) := by
  rw [h.fl.cell a (by omega), fC_M _ _ _ ha]
theorem Fa.free {B : Nat} {W w : World} {f : Nat} {y : Fl} (h : Fa B W w f y) (a : Nat) : w.frozen? ⟨f, a, none⟩ = false := h.fl.frozen a
theorem Fa.lt {B : Nat} {W w : World} {f : Nat} {y : Fl} (h : Fa B W w f y) : f < w.heap.size := h.fl.lt

theorem mc_new {B : Nat} {W w : World} {f : Nat} {y : Fl} (h : Fa B W w f y) (r : Rg) (t : TypeId) :
    Mc ((w.alloc (.cells r.cells.toArray 24)).alloc (.cells ((cpZ r).cells (.slice none 0 0)).toArray t)) ((w.alloc (.cells r.cells.toArray 24)).alloc (.cells ((cpZ r).cells (.slice none 0 0)).toArray t)) (w.heap.size + 1) f (w.heap.size + 2) (cpZ r) (.slice none 0 0) y (.slice none 0 0) := by
  have h1 := (h.alloc (.cells r.cells.toArray 24)).alloc (.cells ((cpZ r).cells (.slice none 0 0)).toArray t)
  have hlt := h.lt
  have hs1 : (w.alloc (.cells r.cells.toArray 24)).heap.size = w.heap.size + 1 := by simp
  have hn : ((w.alloc (.cells r.cells.toArray 24)).alloc (.cells ((cpZ r).cells (.slice none 0 0)).toArray t)).heap[w.heap.size + 1]? = some (.cells ((cpZ r).cells (.slice none 0 0)).toArray t (0, 0)) := by
    rw [← hs1]; exact heap_alloc_new _ _
  have hg := h.mg
  have hB := h.hB
  have hlf := h.lf
  refine ⟨fun j u hj => ?_, fun j => ?_, h1.fl, by omega, by omega, by omega, by simp, ⟨World.ownsRow_nil _ _ _ _, by simp, Nat.zero_le _⟩, ?_, h1.modes, ⟨by omega, by omega, by omega⟩, Fr.refl _ _ _ _⟩
  · rw [Nat.zero_add, cell_of_row _ _ j _ _ (0, 0) hn, List.getElem?_toArray]; exact hj
  · exact frozen_of_row _ _ j _ _ hn
  · rw [h.acts]; exact World.ownsRow_nil _ _ _ _
set_option maxHeartbeats 1600000 in
theorem new_is (r : Rg) (w : World) : Calls Tryz.prog 10 #[.agg r.cells.toArray] w fun e w' => e = .returned (.pointer (some ⟨w.heap.size + 1, 0, none⟩)) ∧ w' = (w.alloc (.cells r.cells.toArray 24)).alloc (.cells ((cpZ r).cells (.slice none 0 0)).toArray 49) := by
  have hl := run_regLoad _ _ r (RegAt.new w r 24).at'
  have hb := run_cpuBuild r
  generalize ((cpZ r).cells (.slice none 0 0)).toArray = C at *
  generalize r.cells.toArray = R at *
  go_enter Tryz.func10, Tryz.ntmps10
  go_wp2_with fail
  go_ret
  exact ⟨rfl, rfl⟩
theorem new_any {B : Nat} {W w : World} {f : Nat} {y : Fl} (h : Fa B W w f y) (r : Rg) : Calls Tryz.prog 10 #[.agg r.cells.toArray] w fun e w' => ∃ b, e = .returned (.pointer (some ⟨b, 0, none⟩)) ∧ B ≤ b ∧ Mc w' w' b f w'.heap.size (cpZ r) (.slice none 0 0) y (.slice none 0 0) ∧ Below B W w' ∧ w.heap.size ≤ b ∧ Below w.heap.size w w' :=
  (new_is r w).mono fun e w' ⟨he, hw⟩ => by
    subst hw
    have hm := mc_new h r 49
    have hsz : ((w.alloc (.cells r.cells.toArray 24)).alloc (.cells ((cpZ r).cells (.slice none 0 0)).toArray 49)).heap.size = w.heap.size + 2 := by simp
    have hB := h.hB
    refine ⟨_, he, by omega, ?_, ((h.alloc _).alloc _).below, by omega, (balloc w _).trans ((balloc (w.alloc (.cells r.cells.toArray 24)) _).mono (by simp))⟩
    rw [hsz]
    exact hm
/-- What was done to both leaves what is older. -/
theorem Fr.old {B b f base : Nat} {W w w' : World} (h : Fr b f base w w') (hb : Below B W w) (h1 : B ≤ b) (h2 : B ≤ f) (h3 : B ≤ base) : Below B W w' :=
  hb.trans ⟨h.os, h.tape, h.output, h.size, fun k hk => h.block k (by omega) (by omega) (by omega)⟩

end Go.Proofs.YtcfkpeemhleleaaGreatDoor
/- What isn't there; a copy: their contracts. -/
namespace Go.Proofs.YtcfkpeemhleleaaGreatDoor
open Go.RowKit
set_option maxRecDepth 100000
set_option linter.unusedVariables false
set_option linter.unusedSimpArgs false

theorem n_nmi (w : World) : Calls Tryz.prog 15 #[.pointer none] w fun e w' => e = .returned (.tuple #[]) ∧ w = w' := by
  go_enter Tryz.func15, Tryz.ntmps15
  go_wp2_with fail
  refine bodyPost_ret (results_none rfl _ _ _) rfl ?_
  exact ⟨rfl, rfl⟩
theorem n_tick (f : Nat) (w : World) : Calls Tryz.prog 16 #[.pointer none, busV f] w fun e w' => e = .returned (.tuple #[]) ∧ w = w' := by
  go_enter Tryz.func16, Tryz.ntmps16
  go_wp2_with fail
  refine bodyPost_ret (results_none rfl _ _ _) rfl ?_
  exact ⟨rfl, rfl⟩
theorem n_done (w : World) : Calls Tryz.prog 13 #[.pointer none] w fun e w' => e = .returned (.bool true) ∧ w = w' := by
  go_enter Tryz.func13, Tryz.ntmps13
  go_wp2_with fail
  go_ret
  exact ⟨rfl, rfl⟩
theorem n_copy (w : World) : Calls Tryz.prog 14 #[.pointer none] w fun e w' => e = .returned (.pointer none) ∧ w = w' := by
  go_enter Tryz.func14, Tryz.ntmps14
  go_wp2_with fail
  go_ret
  exact ⟨rfl, rfl⟩
theorem n_step (f : Nat) (w : World) : Calls Tryz.prog 11 #[.pointer (some ⟨f, 0, none⟩), .pointer none] w fun e w' => e = .returned (.int .i64 0) ∧ w = w' := by
  go_enter Tryz.func11, Tryz.ntmps11
  go_wp2_with fail
  go_ret
  exact ⟨rfl, rfl⟩
theorem n_flat (b : Nat) (w : World) : Calls Tryz.prog 11 #[.pointer none, .pointer (some ⟨b, 0, none⟩)] w fun e w' => e = .returned (.int .i64 0) ∧ w = w' := by
  go_enter Tryz.func11, Tryz.ntmps11
  go_wp2_with fail
  go_ret
  exact ⟨rfl, rfl⟩
theorem clone_nil (w : World) : Calls Tryz.prog 21 #[.slice none 0 0] w fun e w' => e = .returned (.slice none 0 0) ∧ w = w' := by
  have q := fun (u : World) (a : Option Addr) (n c n' c' : Nat) => Lib.run_eql_slice_nil (P := Tryz.prog) u 47 61 a n c n' c' Tryz.underlying47
  go_enter Tryz.func21, Tryz.ntmps21
  go_wp2_with fail
  go_ret
  exact ⟨rfl, rfl⟩

def cpuAlloc (h : Bool) (o : Value) : Sem Value := Instr.alloc 49 h o
theorem cpuAlloc_as (h : Bool) (o : Value) : Instr.alloc 49 h o = cpuAlloc h o := rfl
def cpuLoad (v : Value) : Sem Value := Instr.loadAt 49 v
theorem cpuLoad_as (v : Value) : Instr.loadAt 49 v = cpuLoad v := rfl
def cpuStore (p v : Value) : Sem Unit := Instr.storeAt 49 p v
theorem cpuStore_as (p v : Value) : Instr.storeAt 49 p v = cpuStore p v := rfl
attribute [local simp ↓ high] cpuAlloc_as cpuLoad_as cpuStore_as
theorem cpuZero : (Tryz.prog.info? 49).map (fun i => i.zero) = some (some (.agg ((cpZ Rg.zero).cells (.slice none 0 0)).toArray)) := by kernel_rfl
theorem run_cpuAlloc (u : World) : (cpuAlloc true (.tuple #[])).run Tryz.prog u = .ok (.pointer (some ⟨u.heap.size, 0, none⟩)) (u.alloc (.cells ((cpZ Rg.zero).cells (.slice none 0 0)).toArray 49)) := by
  have h := cpuZero
  cases h1 : Tryz.prog.info? 49 with
  | none => rw [h1] at h; cases h
  | some i =>
    rw [h1] at h
    simp only [Option.map_some, Option.some.injEq] at h
    generalize ((cpZ Rg.zero).cells (.slice none 0 0)).toArray = A at *
    have hc : (Value.agg A).cells = A := rfl
    simp only [cpuAlloc, Instr.alloc, zeroValue, Sem.run_bind, typeInfo, newVar, newRow]
    simp [h1, h, hc]
theorem cells_one (x : Cp) : ((x.cells (.slice none 0 0)).toArray).all (·.oneCell') = true := by
  refine all_oneCell_toArray fun u hu => ?_
  rcases List.mem_append.1 (show u ∈ x.r.cells ++ x.back (.slice none 0 0) from hu) with h | h
  · exact x.r.one u h
  · simp only [Cp.back, List.mem_cons, List.not_mem_nil, or_false] at h
    rcases h with rfl | rfl | rfl | rfl | rfl | rfl | rfl | rfl | rfl | rfl | rfl | rfl | rfl | rfl | rfl
    all_goals rfl
variable {w0 : World} {b f base : Nat} {x : Cp} {y : Fl} {va : Value}
set_option maxHeartbeats 1600000 in
theorem cpuCopy_is (w : World) (h : Mc w0 w b f base x (.slice none 0 0) y va) :
    Calls Tryz.prog 14 #[.pointer (some ⟨b, 0, none⟩)] w fun e w' => e = .returned (.pointer (some ⟨w.heap.size, 0, none⟩)) ∧ Below w.heap.size w w' ∧ w.heap.size < w'.heap.size ∧ w'.cell? ⟨w.heap.size, 22, none⟩ = some (.int .u16 x.r.pc) ∧ w'.cell? ⟨w.heap.size, 31, none⟩ = some (.int .i64 x.aim) := by
  have halloc := run_cpuAlloc w
  have hload : (cpuLoad (.pointer (some ⟨b, 0, none⟩))).run Tryz.prog w = .ok (.agg (x.cells (.slice none 0 0)).toArray) w :=
    run_loadAt_mid (P := Tryz.prog) w b 0 49 (x.cells (.slice none 0 0)) _ h.cpu Tryz.underlying49 rfl (by rw [Cp.len_cells]; kernel_rfl)
  have c38 := h.cell 38 _ rfl
  have hblk := h.blk
  have hg : ∀ j u, (x.cells (.slice none 0 0))[j]? = some u → (x.cells (.slice none 0 0)).toArray[j]? = some u := fun j u hu => by rw [List.getElem?_toArray]; exact hu
  have k22 := hg 22 _ rfl
  have k31 := hg 31 _ rfl
  have k38 := hg 38 _ rfl
  have hone := cells_one x
  have hsz : (x.cells (.slice none 0 0)).toArray.size = 45 := by rw [List.size_toArray, Cp.len_cells]
  have hzz : ((cpZ Rg.zero).cells (.slice none 0 0)).toArray.size = 45 := by rw [List.size_toArray, Cp.len_cells]
  generalize (x.cells (.slice none 0 0)).toArray = A at *
  generalize ((cpZ Rg.zero).cells (.slice none 0 0)).toArray = Z at *
  have hnew : (w.alloc (.cells Z 49)).heap[w.heap.size]? = some (.cells Z 49 (0, 0)) := heap_alloc_new w _
  have hstore : (cpuStore (.pointer (some ⟨w.heap.size, 0, none⟩)) (.agg A)).run Tryz.prog (w.alloc (.cells Z 49)) = .ok () ((w.alloc (.cells Z 49)).setRow w.heap.size A) := by
    have := run_storeVar_row (P := Tryz.prog) (w.alloc (.cells Z 49)) w.heap.size 49 49 Z A hnew (by rw [hsz]; kernel_rfl) (by rw [hzz, hsz]) hone
    simp only [cpuStore, Instr.storeAt, Instr.sureAddr, Sem.run_bind, Sem.run_pure, Result.andThen_ok, this]
  have hb1 : Below w.heap.size w ((w.alloc (.cells Z 49)).setRow w.heap.size A) := below_setRow (balloc w _) (Nat.le_refl _) A
  have hh : ((w.alloc (.cells Z 49)).setRow w.heap.size A).heap[w.heap.size]? = some (.cells A 49 (0, 0)) := setRow_heap _ _ _ _ _ _ hnew
  have hsz1 : ((w.alloc (.cells Z 49)).setRow w.heap.size A).heap.size = w.heap.size + 1 := by simp [World.setRow]
  have HB := Lib.hid hb1
  have HH := Lib.hid hh
  obtain ⟨w1, hw1⟩ : ∃ w1, (w.alloc (.cells Z 49)).setRow w.heap.size A = w1 := ⟨_, rfl⟩
  rw [hw1] at hstore HB HH hsz1
  have c38' : w1.cell? ⟨b, 38, none⟩ = some (.slice none 0 0) := (HB.out.cell (p := ⟨b, 38, none⟩) hblk).trans c38
  have d38 : w1.cell? ⟨w.heap.size, 38, none⟩ = some (.slice none 0 0) := by rw [cell_of_row _ _ _ _ _ (0, 0) HH.out]; exact k38
  have f38 : w1.frozen? ⟨w.heap.size, 38, none⟩ = false := frozen_of_row _ _ _ _ _ HH.out
  have HE := Lib.hid (show Below w.heap.size w (w1.setCell ⟨w.heap.size, 38, none⟩ (.slice none 0 0)) ∧ w.heap.size < (w1.setCell ⟨w.heap.size, 38, none⟩ (.slice none 0 0)).heap.size ∧ (w1.setCell ⟨w.heap.size, 38, none⟩ (.slice none 0 0)).cell? ⟨w.heap.size, 22, none⟩ = some (.int .u16 x.r.pc) ∧ (w1.setCell ⟨w.heap.size, 38, none⟩ (.slice none 0 0)).cell? ⟨w.heap.size, 31, none⟩ = some (.int .i64 x.aim) from
    ⟨HB.out.setCell (Nat.le_refl _) _, by simp only [World.setCell, Array.size_modify]; omega,
      by rw [World.cell?_setCell_other _ _ _ _ (by intro hh; injection hh with _ h2; exact absurd h2 (by decide)), cell_of_row _ _ _ _ _ (0, 0) HH.out]; exact k22,
      by rw [World.cell?_setCell_other _ _ _ _ (by intro hh; injection hh with _ h2; exact absurd h2 (by decide)), cell_of_row _ _ _ _ _ (0, 0) HH.out]; exact k31⟩)
  clear h c38 hg k22 k31 k38 hone hsz hzz hnew hb1 hh hw1
  go_enter Tryz.func14, Tryz.ntmps14
  go_wp2_with fail
  refine (clone_nil _).mono ?_
  rintro e w' ⟨rfl, rfl⟩
  go_wp2_with fail
  go_ret
  exact ⟨rfl, HE.out⟩

end Go.Proofs.YtcfkpeemhleleaaGreatDoor
/- The chapter's example. -/
namespace Go.Proofs.YtcfkpeemhleleaaGreatDoor
open Go.RowKit
set_option maxRecDepth 100000
set_option linter.unusedVariables false
set_option linter.unusedSimpArgs false
def rgBuild (p : Array (Nat × Value)) : Sem Value := Instr.build 24 p
theorem rgBuild_as (p : Array (Nat × Value)) : Instr.build 24 p = rgBuild p := rfl
theorem run_rgBuild0 (u : World) : (rgBuild #[]).run Tryz.prog u = .ok (.agg Rg.zero.cells.toArray) u := by kernel_rfl
attribute [local simp ↓ high] flatBuild_as rgBuild_as
theorem zero_ok12 : Rg.zero.Ok := by
  refine ⟨?_, ?_, ?_, ?_, ?_, ?_, ?_, ?_, ?_, ?_, ?_, ?_, ?_, ?_, ?_, ?_, ?_, ?_, ?_, ?_, ?_, ?_, ?_, ?_, ?_, ?_⟩ <;> exact ⟨by decide, by decide⟩
theorem b8_0 : B8 0 := ⟨by decide, by decide⟩
theorem b16_0 : B16 0 := ⟨by decide, by decide⟩
theorem cpZ_ok {r : Rg} (ok : r.Ok) : (cpZ r).Ok := ⟨ok, b16_0, b8_0, b8_0⟩
theorem cpZ_idle {r : Rg} (ok : r.Ok) (h1 : r.halt = false) (h2 : r.pre = 0) : (cpZ r).Idle := ⟨rfl, rfl, rfl, show (0 : Int) ≤ 0 ∧ (0 : Int) ≤ 100 by decide, cpZ_ok ok, h1, h2⟩
theorem fa_start (w : World) (hm : Modes w) {A : Array Value} (M : Nat → Int) (hA : A.size = 65540) (hAc : ∀ j, j < 65540 → A[j]? = some (fC { flZ with M := M } (.slice none 0 0) j)) :
    Fa w.heap.size w (w.alloc (.cells A 37)) w.heap.size { flZ with M := M } :=
  ⟨Cells.new w A _ _ _ hA hAc, rfl, Nat.le_refl _, hm.alloc _, hm.2, balloc w _, by simp⟩
theorem calm_flZ {y : Fl} (hM : ∀ a, B8 (y.M a)) (ha : y.acts = []) (ht : y.t = 0) (hl : y.line = false) : y.Calm :=
  ⟨hl, hM, by rw [ha]; exact Nat.zero_le _, by rw [ht]; exact Int.le_refl _, by rw [ht]; decide⟩
theorem b8_upd {M : Nat → Int} (h : ∀ a, B8 (M a)) (j : Nat) {n : Int} (hn : B8 n) : ∀ a, B8 (updN M j n a) := fun a => by
  unfold updN
  split
  · exact hn
  · exact h a
set_option maxHeartbeats 3200000 in
theorem lives12_any (w : World) (hm : Modes w) : Calls Tryz.prog 8 #[] w fun e w' => e = .returned (.bool true) ∧ Below w.heap.size w w' := by
  obtain ⟨A, hA, hAc, hb⟩ := run_flatBuild0
  have hr := run_rgBuild0
  have HF := Lib.hid (fa_start w hm (fun _ => 0) hA hAc)
  clear hA hAc hm
  go_enter Tryz.func8, Tryz.ntmps8
  go_upto_region 2 with (fail)
  obtain ⟨f, hf⟩ : ∃ f, w.heap.size = f := ⟨_, rfl⟩
  obtain ⟨w1, hw1⟩ : ∃ w1, w.alloc (.cells A 37) = w1 := ⟨_, rfl⟩
  rw [hw1] at HF ⊢
  rw [hf] at HF ⊢
  have HP := Lib.hid ((HF.out.poke 0 62 (by decide)).poke 1 5 (by decide))
  have c0 := HF.out.cell 0 (by decide)
  have c1 := HF.out.cell 1 (by decide)
  have f0 := HF.out.free 0
  have f1 := HF.out.free 1
  have HN := Lib.hid (new_any HP.out Rg.zero)
  clear HF hw1
  go_wp2_with fail
  refine HN.out.mono ?_
  rintro e w2 ⟨b, rfl, hb2, hmc, hbel, -, -⟩
  have hI := cpZ_idle zero_ok12 rfl rfl
  have hC : (wrS (wrS { flZ with M := fun _ => 0 } 0 62) 1 5).Calm := calm_flZ (b8_upd (b8_upd (fun _ => b8_0) 0 ⟨by decide, by decide⟩) 1 ⟨by decide, by decide⟩) rfl rfl rfl
  obtain ⟨x', y', hd⟩ := lda_run hI hC rfl
  obtain ⟨z, u, h1, h2, h3, h4⟩ := hd.run
  have HS := Lib.hid (step_any 6 w2 hmc.mx h1 h2 h3 h4 (by decide))
  have hra : x'.r.a = 5 := by rw [hd.r]; rfl
  have hrp : x'.r.pc = 2 := by rw [hd.r]; rfl
  have HZ := Lib.hid (fun u (hu : Mx w2 u b f w2.heap.size x' y') => show u.cell? ⟨b, 0, none⟩ = some (.int .u8 5) ∧ u.cell? ⟨b, 22, none⟩ = some (.int .u16 2) ∧ Below f w u from by
    obtain ⟨v, va, hu⟩ := hu
    refine ⟨(hu.cell 0 _ rfl).trans (by rw [hra]), (hu.cell 22 _ rfl).trans (by rw [hrp]), ?_⟩
    have hs := hbel.size
    exact hu.fr.old hbel hb2 (Nat.le_refl _) (by omega))
  clear hmc hbel hI hC hd h1 h2 h3 h4 hra hrp hb2 HP HN
  go_wp2_with fail
  refine HS.out.mono ?_
  rintro e w3 ⟨rfl, hm3⟩
  obtain ⟨d1, d2, hb3⟩ := HZ.out _ hm3
  have HB := Lib.hid (show Below w.heap.size w w3 by rw [hf]; exact hb3)
  clear hm3 hb3 HS HZ
  go_wp2_with fail
  go_ret
  exact ⟨rfl, HB.out⟩

end Go.Proofs.YtcfkpeemhleleaaGreatDoor
/- A struct of integers and bools of one cell each, and an array of two integers, as arguments: opened to their cells and shut again. No program is named here. -/
namespace Go.Proofs.YtcfkpeemhleleaaGreatDoor
open Go.ChangeShapes Go.WideShapes Go.ChangeAt Go.RowKit

def kindD : Option IntKind → TypeDesc
  | some k => .int k
  | none => .bool
def MixOk : Option IntKind → Value → Prop
  | some k, .int k' n => k' = k ∧ (Lit.int k n).wf = true
  | none, .bool _ => True
  | _, _ => False
def mixD {H : Type} : Value → DataW H
  | .int k n => .lit (.int k n)
  | .bool b => .lit (.bool b)
  | _ => .nil
/-- The fields are integers and bools of these kinds, one cell each, in order. -/
def MixFields (P : Program) (fs : Array Field) (ks : List (Option IntKind)) : Prop :=
  fs.size = ks.length ∧ ∀ i (h : i < ks.length), ∃ f, fs[i]? = some f ∧ f.offset = i ∧ P.cellsOf f.type = 1 ∧ P.underlying f.type = some (kindD ks[i])

theorem trod_mix {H : Type} {enc : TypeId × Value → H} {P : Program} {w : World} {base : Nat} {spare : Nat → Bool} {held : Bool} {fuel : Nat} {t : TypeId} {c : Value} {x : DataW H × List MemPlace} {k : Option IntKind}
    (ht : P.underlying t = some (kindD k)) (h : DataW.trod enc P w base spare held fuel t [c] = some x) : MixOk k c ∧ x = (mixD c, []) := by
  cases k with
  | some k =>
    obtain ⟨z, z1, z2, z3⟩ := DataW.trod_int ht h
    have z1 : c = .int k z := by simpa using z1
    subst z1
    exact ⟨⟨rfl, z3⟩, z2⟩
  | none =>
    obtain ⟨z, z1, z2⟩ := DataW.trod_bool ht h
    have z1 : c = .bool z := by simpa using z1
    subst z1
    exact ⟨trivial, z2⟩
theorem trod_mix_mk {H : Type} {enc : TypeId × Value → H} {P : Program} {w : World} {base : Nat} {spare : Nat → Bool} {held : Bool} {t : TypeId} {c : Value} {k : Option IntKind}
    (ht : P.underlying t = some (kindD k)) (h : MixOk k c) : DataW.trod enc P w base spare held 1 t [c] = some (mixD c, []) := by
  match k, c, h with
  | some k, .int k' n, ⟨e, hw⟩ =>
    subst e
    exact trod_int_mk 0 ht hw
  | none, .bool b, _ =>
    unfold DataW.trod
    rw [ht]
    rfl

theorem mapM_at {α β : Type} (g : α → Option β) : ∀ (l : List α) (xs : List β), l.length = xs.length → (∀ i (h1 : i < l.length) (h2 : i < xs.length), g l[i] = some xs[i]) → l.mapM g = some xs
  | [], [], _, _ => rfl
  | a :: l, x :: xs, hl, h => by
    have h0 := h 0 (by simp) (by simp)
    have hr := mapM_at g l xs (by simpa using hl) (fun i h1 h2 => by have := h (i + 1) (by simp; omega) (by simp; omega); simpa using this)
    simp only [List.getElem_cons_zero] at h0
    rw [List.mapM_cons, h0, hr]
    rfl
theorem mixD_flat {H : Type} (vs : List Value) : (vs.map fun v => (mixD (H := H) v, ([] : List MemPlace))).flatMap (·.2) = [] := by
  induction vs with
  | nil => rfl
  | cons v vs ih => simp
theorem mixD_fst {H : Type} (vs : List Value) : (vs.map fun v => (mixD (H := H) v, ([] : List MemPlace))).map (·.1) = vs.map mixD := by
  simp

theorem open_mix {H : Type} {enc : TypeId × Value → H} {P : Program} {w : World} {base b0 : Nat} {spare : Nat → Bool} {held : Bool} {r : Reach} {t : TypeId} {fs : Array Field} {ks : List (Option IntKind)} {v : Value} {d : DataW H} {p : List MemPlace}
    (ht : P.underlying t = some (.struct fs)) (hC : P.cellsOf t = ks.length) (hF : MixFields P fs ks) (hv : Value.okWide P w r b0 t v) (h : DataW.Trod enc P w base spare held t v d p) :
    ∃ vs : List Value, vs.length = ks.length ∧ v = .agg vs.toArray ∧ d = .agg (vs.map mixD) ∧ p = [] ∧ ∀ i (h1 : i < ks.length) (h2 : i < vs.length), MixOk ks[i] vs[i] := by
  obtain ⟨cs, rfl, hsz⟩ := okWide_struct ht hv
  obtain ⟨fuel, hf⟩ := h
  obtain ⟨xs, n, _, hx, hl, hlen, hat⟩ := DataW.trod_struct ht hf
  have hcs : (Value.agg cs).cells = cs := rfl
  rw [hcs] at hat hl
  obtain ⟨hn, hk⟩ := hF
  have key : ∀ i (h : i < ks.length) (hc : i < cs.toList.length) (hxx : i < xs.length), MixOk ks[i] cs.toList[i] ∧ xs[i] = (mixD cs.toList[i], []) := by
    intro i hi hc hxx
    obtain ⟨f, e1, e2, e3, e4⟩ := hk i hi
    have h1 := hat i f e1
    rw [e2, e3, List.drop_eq_getElem_cons hc, List.getElem?_eq_getElem hxx] at h1
    exact trod_mix e4 h1
  have hcl : cs.toList.length = ks.length := by rw [hl, hC]
  have hxl : xs.length = ks.length := by rw [hlen, hn]
  have e : xs = cs.toList.map fun v => (mixD v, []) := by
    apply List.ext_getElem
    · simp only [List.length_map]; omega
    · intro i h1 h2
      rw [List.getElem_map]
      exact (key i (by omega) (by omega) h1).2
  refine ⟨cs.toList, hcl, by simp, ?_, ?_, fun i h1 h2 => (key i h1 h2 (by omega)).1⟩
  · have hd := congrArg Prod.fst hx
    rw [e, mixD_fst] at hd
    exact hd
  · have hp := congrArg Prod.snd hx
    rw [e, mixD_flat] at hp
    exact hp

theorem shut_mix {H : Type} {enc : TypeId × Value → H} {P : Program} {w : World} {base : Nat} {spare : Nat → Bool} {held : Bool} {t : TypeId} {fs : Array Field} {ks : List (Option IntKind)} {vs : List Value}
    (ht : P.underlying t = some (.struct fs)) (hC : P.cellsOf t = ks.length) (hF : MixFields P fs ks) (hz : vs.length = ks.length) (hw : ∀ i (h1 : i < ks.length) (h2 : i < vs.length), MixOk ks[i] vs[i]) :
    DataW.Trod enc P w base spare held t (.agg vs.toArray) (.agg (vs.map mixD)) [] := by
  have hm := trod_struct_mk (enc := enc) (w := w) (base := base) (spare := spare) (held := held) (n := 1) (cs := vs) (xs := vs.map fun v => (mixD v, [])) ht (by rw [hz, hC]) (by
    obtain ⟨hn, hk⟩ := hF
    apply mapM_at
    · simp [hz, hn]
    · intro i h1 h2
      have hi : i < ks.length := by simp only [Array.length_toList] at h1; omega
      obtain ⟨f, e1, e2, e3, e4⟩ := hk i hi
      have ef : fs.toList[i] = f := by
        have := (Array.getElem?_eq_some_iff.1 e1).2
        simpa using this
      have hv : i < vs.length := by omega
      rw [ef, e2, e3, List.drop_eq_getElem_cons hv]
      simp only [List.take_succ_cons, List.take_zero, List.getElem_map]
      exact trod_mix_mk e4 (hw i hi hv))
  rw [mixD_flat, mixD_fst] at hm
  exact ⟨2, hm⟩

end Go.Proofs.YtcfkpeemhleleaaGreatDoor
/- Registers by value as an argument, opened and shut. -/
namespace Go.Proofs.YtcfkpeemhleleaaGreatDoor
open Go.ChangeShapes Go.WideShapes Go.ChangeAt Go.RowKit
set_option linter.unusedVariables false
set_option maxRecDepth 100000

def regK : List (Option IntKind) := [some .u8, some .u8, some .u8, some .u8, some .u8, some .u8, some .u8, some .u8, some .u8, some .u8, some .u8, some .u8, some .u8, some .u8, some .u8, some .u8, some .u8, some .u8, some .u8, some .u16, some .u16, some .u16, some .u16, some .u16, none, none, none, none, some .u8, some .u8]
theorem reg_cells : Tryz.prog.cellsOf 24 = regK.length := by kernel_rfl
theorem reg_fields {fs : Array Field} (h : Tryz.prog.underlying 24 = some (.struct fs)) : MixFields Tryz.prog fs regK := by
  rw [Tryz.underlying24] at h
  injection h with h
  injection h with h
  subst h
  have c8 : Tryz.prog.cellsOf 5 = 1 := by kernel_rfl
  have c16 : Tryz.prog.cellsOf 22 = 1 := by kernel_rfl
  have cb : Tryz.prog.cellsOf 4 = 1 := by kernel_rfl
  refine ⟨rfl, fun i hi => ?_⟩
  match i, hi with
  | 0, _ => exact ⟨_, rfl, rfl, c8, Tryz.underlying5⟩
  | 1, _ => exact ⟨_, rfl, rfl, c8, Tryz.underlying5⟩
  | 2, _ => exact ⟨_, rfl, rfl, c8, Tryz.underlying5⟩
  | 3, _ => exact ⟨_, rfl, rfl, c8, Tryz.underlying5⟩
  | 4, _ => exact ⟨_, rfl, rfl, c8, Tryz.underlying5⟩
  | 5, _ => exact ⟨_, rfl, rfl, c8, Tryz.underlying5⟩
  | 6, _ => exact ⟨_, rfl, rfl, c8, Tryz.underlying5⟩
  | 7, _ => exact ⟨_, rfl, rfl, c8, Tryz.underlying5⟩
  | 8, _ => exact ⟨_, rfl, rfl, c8, Tryz.underlying5⟩
  | 9, _ => exact ⟨_, rfl, rfl, c8, Tryz.underlying5⟩
  | 10, _ => exact ⟨_, rfl, rfl, c8, Tryz.underlying5⟩
  | 11, _ => exact ⟨_, rfl, rfl, c8, Tryz.underlying5⟩
  | 12, _ => exact ⟨_, rfl, rfl, c8, Tryz.underlying5⟩
  | 13, _ => exact ⟨_, rfl, rfl, c8, Tryz.underlying5⟩
  | 14, _ => exact ⟨_, rfl, rfl, c8, Tryz.underlying5⟩
  | 15, _ => exact ⟨_, rfl, rfl, c8, Tryz.underlying5⟩
  | 16, _ => exact ⟨_, rfl, rfl, c8, Tryz.underlying5⟩
  | 17, _ => exact ⟨_, rfl, rfl, c8, Tryz.underlying5⟩
  | 18, _ => exact ⟨_, rfl, rfl, c8, Tryz.underlying5⟩
  | 19, _ => exact ⟨_, rfl, rfl, c16, Tryz.underlying22⟩
  | 20, _ => exact ⟨_, rfl, rfl, c16, Tryz.underlying22⟩
  | 21, _ => exact ⟨_, rfl, rfl, c16, Tryz.underlying22⟩
  | 22, _ => exact ⟨_, rfl, rfl, c16, Tryz.underlying22⟩
  | 23, _ => exact ⟨_, rfl, rfl, c16, Tryz.underlying22⟩
  | 24, _ => exact ⟨_, rfl, rfl, cb, Tryz.underlying4⟩
  | 25, _ => exact ⟨_, rfl, rfl, cb, Tryz.underlying4⟩
  | 26, _ => exact ⟨_, rfl, rfl, cb, Tryz.underlying4⟩
  | 27, _ => exact ⟨_, rfl, rfl, cb, Tryz.underlying4⟩
  | 28, _ => exact ⟨_, rfl, rfl, c8, Tryz.underlying5⟩
  | 29, _ => exact ⟨_, rfl, rfl, c8, Tryz.underlying5⟩
  | n + 30, hi => exact absurd (show n + 30 < 30 from hi) (by omega)
theorem mix_u8 {v : Value} (h : MixOk (some .u8) v) : ∃ n, v = .int .u8 n ∧ B8 n := by
  match v, h with
  | .int k' n, ⟨e, hw⟩ => subst e; exact ⟨n, rfl, u8_bd hw⟩
theorem mix_u16 {v : Value} (h : MixOk (some .u16) v) : ∃ n, v = .int .u16 n ∧ B16 n := by
  match v, h with
  | .int k' n, ⟨e, hw⟩ => subst e; have := bounds_u16 hw; exact ⟨n, rfl, by omega, by omega⟩
theorem mix_bool {v : Value} (h : MixOk none v) : ∃ b, v = .bool b := by
  match v, h with
  | .bool b, _ => exact ⟨b, rfl⟩
theorem wf_u8 {n : Int} (h : B8 n) : (Lit.int .u8 n).wf = true := WalkArith.wf_u8 h
theorem wf_u16 {n : Int} (h : B16 n) : (Lit.int .u16 n).wf = true := WalkArith.wf_u16 h
theorem regs_of (vs : List Value) (hl : vs.length = regK.length) (hw : ∀ i (h1 : i < regK.length) (h2 : i < vs.length), MixOk regK[i] vs[i]) : ∃ x : Rg, vs = x.cells ∧ x.Ok := by
  match vs, hl with
  | [v0, v1, v2, v3, v4, v5, v6, v7, v8, v9, v10, v11, v12, v13, v14, v15, v16, v17, v18, v19, v20, v21, v22, v23, v24, v25, v26, v27, v28, v29], _ =>
    obtain ⟨x0, rfl, o0⟩ := mix_u8 (hw 0 (by decide) (by simp))
    obtain ⟨x1, rfl, o1⟩ := mix_u8 (hw 1 (by decide) (by simp))
    obtain ⟨x2, rfl, o2⟩ := mix_u8 (hw 2 (by decide) (by simp))
    obtain ⟨x3, rfl, o3⟩ := mix_u8 (hw 3 (by decide) (by simp))
    obtain ⟨x4, rfl, o4⟩ := mix_u8 (hw 4 (by decide) (by simp))
    obtain ⟨x5, rfl, o5⟩ := mix_u8 (hw 5 (by decide) (by simp))
    obtain ⟨x6, rfl, o6⟩ := mix_u8 (hw 6 (by decide) (by simp))
    obtain ⟨x7, rfl, o7⟩ := mix_u8 (hw 7 (by decide) (by simp))
    obtain ⟨x8, rfl, o8⟩ := mix_u8 (hw 8 (by decide) (by simp))
    obtain ⟨x9, rfl, o9⟩ := mix_u8 (hw 9 (by decide) (by simp))
    obtain ⟨x10, rfl, o10⟩ := mix_u8 (hw 10 (by decide) (by simp))
    obtain ⟨x11, rfl, o11⟩ := mix_u8 (hw 11 (by decide) (by simp))
    obtain ⟨x12, rfl, o12⟩ := mix_u8 (hw 12 (by decide) (by simp))
    obtain ⟨x13, rfl, o13⟩ := mix_u8 (hw 13 (by decide) (by simp))
    obtain ⟨x14, rfl, o14⟩ := mix_u8 (hw 14 (by decide) (by simp))
    obtain ⟨x15, rfl, o15⟩ := mix_u8 (hw 15 (by decide) (by simp))
    obtain ⟨x16, rfl, o16⟩ := mix_u8 (hw 16 (by decide) (by simp))
    obtain ⟨x17, rfl, o17⟩ := mix_u8 (hw 17 (by decide) (by simp))
    obtain ⟨x18, rfl, o18⟩ := mix_u8 (hw 18 (by decide) (by simp))
    obtain ⟨x19, rfl, o19⟩ := mix_u16 (hw 19 (by decide) (by simp))
    obtain ⟨x20, rfl, o20⟩ := mix_u16 (hw 20 (by decide) (by simp))
    obtain ⟨x21, rfl, o21⟩ := mix_u16 (hw 21 (by decide) (by simp))
    obtain ⟨x22, rfl, o22⟩ := mix_u16 (hw 22 (by decide) (by simp))
    obtain ⟨x23, rfl, o23⟩ := mix_u16 (hw 23 (by decide) (by simp))
    obtain ⟨x24, rfl⟩ := mix_bool (hw 24 (by decide) (by simp))
    obtain ⟨x25, rfl⟩ := mix_bool (hw 25 (by decide) (by simp))
    obtain ⟨x26, rfl⟩ := mix_bool (hw 26 (by decide) (by simp))
    obtain ⟨x27, rfl⟩ := mix_bool (hw 27 (by decide) (by simp))
    obtain ⟨x28, rfl, o28⟩ := mix_u8 (hw 28 (by decide) (by simp))
    obtain ⟨x29, rfl, o29⟩ := mix_u8 (hw 29 (by decide) (by simp))
    exact ⟨⟨x0, x1, x2, x3, x4, x5, x6, x7, x8, x9, x10, x11, x12, x13, x14, x15, x16, x17, x18, x19, x20, x21, x22, x23, x24, x25, x26, x27, x28, x29⟩, rfl, ⟨o0, o1, o2, o3, o4, o5, o6, o7, o8, o9, o10, o11, o12, o13, o14, o15, o16, o17, o18, o19, o20, o21, o22, o23, o28, o29⟩⟩
theorem regs_mix (x : Rg) (ok : x.Ok) : ∀ i (h1 : i < regK.length) (h2 : i < x.cells.length), MixOk regK[i] x.cells[i] := by
  intro i h1 h2
  match i, h1, h2 with
  | 0, _, _ => exact ⟨rfl, wf_u8 ok.a⟩
  | 1, _, _ => exact ⟨rfl, wf_u8 ok.f⟩
  | 2, _, _ => exact ⟨rfl, wf_u8 ok.b⟩
  | 3, _, _ => exact ⟨rfl, wf_u8 ok.c⟩
  | 4, _, _ => exact ⟨rfl, wf_u8 ok.d⟩
  | 5, _, _ => exact ⟨rfl, wf_u8 ok.e⟩
  | 6, _, _ => exact ⟨rfl, wf_u8 ok.h⟩
  | 7, _, _ => exact ⟨rfl, wf_u8 ok.l⟩
  | 8, _, _ => exact ⟨rfl, wf_u8 ok.a2⟩
  | 9, _, _ => exact ⟨rfl, wf_u8 ok.f2⟩
  | 10, _, _ => exact ⟨rfl, wf_u8 ok.b2⟩
  | 11, _, _ => exact ⟨rfl, wf_u8 ok.c2⟩
  | 12, _, _ => exact ⟨rfl, wf_u8 ok.d2⟩
  | 13, _, _ => exact ⟨rfl, wf_u8 ok.e2⟩
  | 14, _, _ => exact ⟨rfl, wf_u8 ok.h2⟩
  | 15, _, _ => exact ⟨rfl, wf_u8 ok.l2⟩
  | 16, _, _ => exact ⟨rfl, wf_u8 ok.i⟩
  | 17, _, _ => exact ⟨rfl, wf_u8 ok.r⟩
  | 18, _, _ => exact ⟨rfl, wf_u8 ok.q⟩
  | 19, _, _ => exact ⟨rfl, wf_u16 ok.ix⟩
  | 20, _, _ => exact ⟨rfl, wf_u16 ok.iy⟩
  | 21, _, _ => exact ⟨rfl, wf_u16 ok.sp⟩
  | 22, _, _ => exact ⟨rfl, wf_u16 ok.pc⟩
  | 23, _, _ => exact ⟨rfl, wf_u16 ok.wz⟩
  | 24, _, _ => exact trivial
  | 25, _, _ => exact trivial
  | 26, _, _ => exact trivial
  | 27, _, _ => exact trivial
  | 28, _, _ => exact ⟨rfl, wf_u8 ok.im⟩
  | 29, _, _ => exact ⟨rfl, wf_u8 ok.pre⟩
  | n + 30, h1, _ => exact absurd (show n + 30 < 30 from h1) (by omega)
theorem open_regs {H : Type} {enc : TypeId × Value → H} {w : World} {base b0 : Nat} {spare : Nat → Bool} {held : Bool} {r : Reach} {v : Value} {d : DataW H} {p : List MemPlace}
    (hv : Value.okWide Tryz.prog w r b0 24 v) (h : DataW.Trod enc Tryz.prog w base spare held 24 v d p) : ∃ x : Rg, v = .agg x.cells.toArray ∧ d = .agg (x.cells.map mixD) ∧ p = [] ∧ x.Ok := by
  obtain ⟨vs, hl, rfl, rfl, rfl, hw⟩ := open_mix Tryz.underlying24 reg_cells (reg_fields Tryz.underlying24) hv h
  obtain ⟨x, rfl, ok⟩ := regs_of vs hl hw
  exact ⟨x, rfl, rfl, rfl, ok⟩
theorem shut_regs {H : Type} {enc : TypeId × Value → H} {w : World} {base : Nat} {spare : Nat → Bool} {held : Bool} {x : Rg} (ok : x.Ok) : DataW.Trod enc Tryz.prog w base spare held 24 (.agg x.cells.toArray) (.agg (x.cells.map mixD)) [] :=
  shut_mix Tryz.underlying24 reg_cells (reg_fields Tryz.underlying24) rfl (regs_mix x ok)

end Go.Proofs.YtcfkpeemhleleaaGreatDoor
/- What the laws of layer 12 take: the table of modes, as the rows list it. -/
namespace Go.Proofs.YtcfkpeemhleleaaGreatDoor
open Go.ChangeShapes Go.WideShapes Go.ChangeAt Go.RowKit

theorem own : ownKnob Tryz.prog.godebug = none := by kernel_rfl
theorem modes_of_laid {W : World} (h : laidMetH Tryz.prog Rows.cpuTimesRow.laid W) : Modes W := by
  rw [MakeChecks.laidMetH_plain _ _ _ (by kernel_rfl)] at h
  have h2 : laidMet Tryz.prog [("squeal/micro.modes", Rows.laid_squeal_micro_modes)] W := h
  have g : Tryz.prog.globalNamed "squeal/micro.modes" = some 0 := by kernel_rfl
  have t := Lib.tabIs_of_head (P := Tryz.prog) (W := W) (name := "squeal/micro.modes") (k := .i64) (zs := [0, 0, 1, 2]) (rest := []) g (by kernel_rfl) Tryz.underlying130 Tryz.underlying3 (by kernel_rfl) (by kernel_rfl) h2
  have c0 : W.cell? ⟨0, 0, none⟩ = some (.int .i64 0) := t.cell g 0 (by decide)
  exact ⟨⟨c0, t.cell g 1 (by decide), t.cell g 2 (by decide), t.cell g 3 (by decide)⟩, World.block_lt_of_cell? W _ c0⟩

end Go.Proofs.YtcfkpeemhleleaaGreatDoor
/- A call and its return: what both make of a processor and a bus. No walk but of registers stored whole. -/
namespace Go.Proofs.YtcfkpeemhleleaaGreatDoor
open Go.RowKit
set_option maxRecDepth 100000
set_option linter.unusedVariables false
set_option linter.unusedSimpArgs false

def memC4 (p t : Nat) : Nat → Int := updN (updN (updN (updN (fun _ => 0) p 205) (p + 1) ((t : Int) % 256)) (p + 2) ((t : Int) / 256)) t 201
theorem memC4_b8 (p t : Nat) (ht : t ≤ 65535) : ∀ a, B8 (memC4 p t a) :=
  b8_upd (b8_upd (b8_upd (b8_upd (fun _ => b8_0) _ ⟨by decide, by decide⟩) _ ⟨by omega, by omega⟩) _ ⟨by omega, by omega⟩) _ ⟨by decide, by decide⟩
theorem calls_math (x : Rg) (ok : x.Ok) (hh : x.halt = false) (hp : x.pre = 0) (ho : x.hold = false) (hq : x.q = 0) (p s t : Nat) (ep : x.pc = p) (es : x.sp = s) (p0 : 100 ≤ p) (p1 : p ≤ 30000) (s0 : 32000 ≤ s) (s1 : s ≤ 40000) (t0 : 50000 ≤ t) (t1 : t ≤ 65000) :
    ∃ x1 y1 x2 y2 r1 M1 r2 M2, Did (cpZ x) { flZ with M := memC4 p t } 16 r1 M1 x1 y1 ∧ Did x1 y1 9 r2 M2 x2 y2 ∧ x2.r = { x with pc := (p : Int) + 3, wz := (p : Int) + 3, r := tickV (tickV x.r) } ∧ y2.M (s - 1) = ((p : Int) + 3) / 256 ∧ y2.M (s - 2) = ((p : Int) + 3) % 256 := by
  have hI := cpZ_idle ok hh hp
  have hC : ({ flZ with M := memC4 p t } : Fl).Calm := calm_flZ (memC4_b8 p t (by omega)) rfl rfl rfl
  have e1 : w16 ((cpZ x).r.pc + 1) = (p : Int) + 1 := by show w16 (x.pc + 1) = _; rw [ep]; unfold w16; omega
  have e2 : w16 ((p : Int) + 1 + 1) = (p : Int) + 2 := by unfold w16; omega
  have e3 : w16 ((p : Int) + 2 + 1) = (p : Int) + 3 := by unfold w16; omega
  have hm0 : memC4 p t p = 205 := by unfold memC4 updN; rw [if_neg (by omega), if_neg (by omega), if_neg (by omega), if_pos rfl]
  have hm1 : memC4 p t (p + 1) = (t : Int) % 256 := by unfold memC4 updN; rw [if_neg (by omega), if_neg (by omega), if_pos rfl]
  have hm2 : memC4 p t (p + 2) = (t : Int) / 256 := by unfold memC4 updN; rw [if_neg (by omega), if_pos rfl]
  have hm3 : memC4 p t t = 201 := by unfold memC4 updN; rw [if_pos rfl]
  obtain ⟨x1, y1, d1⟩ := call_run hI hC (show memC4 p t x.pc.toNat = 205 by rw [ep, Int.toNat_natCast]; exact hm0) e1 e2 e3
    (show memC4 p t ((p : Int) + 1).toNat = (t : Int) % 256 by rw [show ((p : Int) + 1).toNat = p + 1 by omega]; exact hm1) (show memC4 p t ((p : Int) + 2).toNat = (t : Int) / 256 by rw [show ((p : Int) + 2).toNat = p + 2 by omega]; exact hm2)
  have hw : (t : Int) / 256 * 256 + ((cpZ x).r.wz / 256 * 256 + (t : Int) % 256) % 256 = t := by omega
  have hs1 : w16 ((cpZ x).r.sp - 1) = (s : Int) - 1 := by show w16 (x.sp - 1) = _; rw [es]; unfold w16; omega
  have hs2 : w16 ((s : Int) - 1 - 1) = (s : Int) - 2 := by unfold w16; omega
  rw [hw, hs1, hs2, show ((s : Int) - 1).toNat = s - 1 by omega, show ((s : Int) - 2).toNat = s - 2 by omega] at d1
  have hr1 : x1.r = callR x t := d1.r
  have hM1 := d1.M
  have hC1 : y1.Calm := by
    refine ⟨d1.line, ?_, by rw [d1.acts]; exact Nat.zero_le _, by rw [d1.t]; show (0 : Int) ≤ 0 + _; omega, by rw [d1.t]; show (0 : Int) + _ ≤ _; omega⟩
    rw [hM1]
    exact b8_upd (b8_upd (memC4_b8 p t (by omega)) _ ⟨by omega, by omega⟩) _ ⟨by omega, by omega⟩
  have rp : x1.r.pc = t := by rw [hr1]; rfl
  have rs : x1.r.sp = (s : Int) - 2 := by rw [hr1]; show w16 (w16 (x.sp - 1) - 1) = _; rw [es]; unfold w16; omega
  have k1 : y1.M (s - 1) = ((p : Int) + 3) / 256 := by rw [hM1]; unfold updN; rw [if_neg (by omega), if_pos rfl]
  have k2 : y1.M (s - 2) = ((p : Int) + 3) % 256 := by rw [hM1]; unfold updN; rw [if_pos rfl]
  obtain ⟨x2, y2, d2⟩ := ret_run d1.idle hC1 (by rw [rp, Int.toNat_natCast, hM1, updN_other _ _ _ _ (by omega), updN_other _ _ _ _ (by omega)]; exact hm3)
    (lo := ((p : Int) + 3) % 256) (hi := ((p : Int) + 3) / 256) (by rw [rs, show ((s : Int) - 2).toNat = s - 2 by omega]; exact k2) (by rw [rs, show (w16 ((s : Int) - 2 + 1)).toNat = s - 1 by unfold w16; omega]; exact k1)
  have hv : ((p : Int) + 3) / 256 * 256 + (x1.r.wz / 256 * 256 + ((p : Int) + 3) % 256) % 256 = (p : Int) + 3 := by omega
  rw [hv] at d2
  refine ⟨x1, y1, x2, y2, _, _, _, _, d1, d2, ?_, by rw [d2.M]; exact k1, by rw [d2.M]; exact k2⟩
  rw [d2.r, hr1]
  have hsp : w16 (w16 (w16 (w16 (x.sp - 1) - 1) + 1) + 1) = x.sp := by rw [es]; unfold w16; omega
  obtain ⟨a0, a1, a2, a3, a4, a5, a6, a7, a8, a9, a10, a11, a12, a13, a14, a15, a16, a17, a18, a19, a20, a21, a22, a23, a24, a25, a26, a27, a28, a29⟩ := x
  dsimp only at hh hp ho hq hsp
  subst hh hp ho hq
  show ({ (retR _ _ : Rg) with } : Rg) = _
  unfold retR callR
  dsimp only
  rw [hsp]

/-! Registers stored whole in a new block. -/
def rgAlloc (h : Bool) (o : Value) : Sem Value := Instr.alloc 24 h o
theorem rgAlloc_as (h : Bool) (o : Value) : Instr.alloc 24 h o = rgAlloc h o := rfl
def rgStore (p v : Value) : Sem Unit := Instr.storeAt 24 p v
theorem rgStore_as (p v : Value) : Instr.storeAt 24 p v = rgStore p v := rfl
theorem rgZero : (Tryz.prog.info? 24).map (fun i => i.zero) = some (some (.agg Rg.zero.cells.toArray)) := by kernel_rfl
theorem run_rgAlloc (u : World) : (rgAlloc true (.tuple #[])).run Tryz.prog u = .ok (.pointer (some ⟨u.heap.size, 0, none⟩)) (u.alloc (.cells Rg.zero.cells.toArray 24)) := by
  have h := rgZero
  cases h1 : Tryz.prog.info? 24 with
  | none => rw [h1] at h; cases h
  | some i =>
    rw [h1] at h
    simp only [Option.map_some, Option.some.injEq] at h
    generalize Rg.zero.cells.toArray = A at *
    have hc : (Value.agg A).cells = A := rfl
    simp only [rgAlloc, Instr.alloc, zeroValue, Sem.run_bind, typeInfo, newVar, newRow]
    simp [h1, h, hc]
theorem regs_in (w : World) (r : Rg) : ∃ W : World, (rgStore (.pointer (some ⟨w.heap.size, 0, none⟩)) (.agg r.cells.toArray)).run Tryz.prog (w.alloc (.cells Rg.zero.cells.toArray 24)) = .ok () W ∧ RegAt W w.heap.size r ∧ Below w.heap.size w W := by
  have hsz : r.cells.toArray.size = 30 := rfl
  have hzz : Rg.zero.cells.toArray.size = 30 := rfl
  have hone := r.all
  have hget : ∀ (j : Nat) (v : Value), r.cells[j]? = some v → r.cells.toArray[j]? = some v := fun j v hj => by rw [List.getElem?_toArray]; exact hj
  have hnew : (w.alloc (.cells Rg.zero.cells.toArray 24)).heap[w.heap.size]? = some (.cells Rg.zero.cells.toArray 24 (0, 0)) := heap_alloc_new w _
  have hstore : (rgStore (.pointer (some ⟨w.heap.size, 0, none⟩)) (.agg r.cells.toArray)).run Tryz.prog (w.alloc (.cells Rg.zero.cells.toArray 24)) = .ok () ((w.alloc (.cells Rg.zero.cells.toArray 24)).setRow w.heap.size r.cells.toArray) := by
    have := run_storeVar_row (P := Tryz.prog) (w.alloc (.cells Rg.zero.cells.toArray 24)) w.heap.size 24 24 Rg.zero.cells.toArray r.cells.toArray hnew (by rw [hsz]; kernel_rfl) (by rw [hzz, hsz]) hone
    simp only [rgStore, Instr.storeAt, Instr.sureAddr, Sem.run_bind, Sem.run_pure, Result.andThen_ok, this]
  have hh : ((w.alloc (.cells Rg.zero.cells.toArray 24)).setRow w.heap.size r.cells.toArray).heap[w.heap.size]? = some (.cells r.cells.toArray 24 (0, 0)) := setRow_heap _ _ _ _ _ _ hnew
  refine ⟨_, hstore, ⟨(Array.getElem?_eq_some_iff.1 hh).1, fun j v hj => ?_, fun j => frozen_of_row _ _ _ _ _ hh⟩, below_setRow (balloc w _) (Nat.le_refl _) _⟩
  rw [Nat.zero_add, cell_of_row _ _ _ _ _ (0, 0) hh]
  exact hget j v hj
theorem RegAt.fr {w w' : World} {g b f base : Nat} {x : Rg} (h : RegAt w g x) (hf : Fr b f base w w') (h1 : g < base) (h2 : g ≠ b) (h3 : g ≠ f) : RegAt w' g x := h.block (hf.block g h1 h2 h3) (Nat.lt_of_lt_of_le h.lt hf.size)

end Go.Proofs.YtcfkpeemhleleaaGreatDoor
