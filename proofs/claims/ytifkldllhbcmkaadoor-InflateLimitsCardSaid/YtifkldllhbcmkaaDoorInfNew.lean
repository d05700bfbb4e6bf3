/- Two tables made: newCodes. -/
import Derived.Test.YtifkldllhbcmkaaDoorInfSyms
import Derived.Deep.MidRow
namespace Go.Proofs.YtifkldllhbcmkaaDoor
open Go.RowKit
set_option linter.unusedVariables false
set_option linter.unusedSimpArgs false

theorem results_cd2 {fn : Func} {p q : Tmp} (h : fn.results = #[.cell p 35, .tmp q]) (tmps : Array Value) {w : World} {g : Nat} {P Q : Option Addr} (c0 : w.cell? ⟨g, 0, none⟩ = some (.pointer P)) (c1 : w.cell? ⟨g, 1, none⟩ = some (.pointer Q)) (hp : tmps.getD p undef = .pointer (some ⟨g, 0, none⟩)) (e : Value) (hq : tmps.getD q undef = e) :
    (results fn tmps).run Tryd.prog w = .ok (.tuple #[.agg #[.pointer P, .pointer Q], e]) w := by
  have hp' : tmps[p]?.getD undef = .pointer (some ⟨g, 0, none⟩) := by simpa using hp
  have hq' : tmps[q]?.getD undef = e := by simpa using hq
  have hl := run_loadVar_mid (P := Tryd.prog) w g 0 35 [.pointer P, .pointer Q] _ (fun j v hj => by
    match j, hj with
    | 0, hj => simp at hj; subst hj; exact c0
    | 1, hj => simp at hj; subst hj; exact c1) Tryd.underlying35 rfl (by kernel_rfl)
  simp [results, h, hp', hq', asAddr, hl]
theorem results_cd1 {fn : Func} {p : Tmp} (h : fn.results = #[.cell p 35]) (tmps : Array Value) {w : World} {g : Nat} {P Q : Option Addr} (c0 : w.cell? ⟨g, 0, none⟩ = some (.pointer P)) (c1 : w.cell? ⟨g, 1, none⟩ = some (.pointer Q)) (hp : tmps.getD p undef = .pointer (some ⟨g, 0, none⟩)) :
    (results fn tmps).run Tryd.prog w = .ok (.agg #[.pointer P, .pointer Q]) w := by
  have hp' : tmps[p]?.getD undef = .pointer (some ⟨g, 0, none⟩) := by simpa using hp
  have hl := run_loadVar_mid (P := Tryd.prog) w g 0 35 [.pointer P, .pointer Q] _ (fun j v hj => by
    match j, hj with
    | 0, hj => simp at hj; subst hj; exact c0
    | 1, hj => simp at hj; subst hj; exact c1) Tryd.underlying35 rfl (by kernel_rfl)
  simp [results, h, hp', asAddr, hl]
/-- Two cells written. -/
theorem two_set {u : World} {g : Nat} {a b x y : Value} {ty : TypeId} (h : u.heap[g]? = some (.cells #[a, b] ty (0, 0))) : ((u.setCell ⟨g, 0, none⟩ x).setCell ⟨g, 1, none⟩ y).heap[g]? = some (.cells #[x, y] ty (0, 0)) := by
  have h1 := heap_setCell_same u g 0 _ _ x h
  exact heap_setCell_same _ g 1 _ _ y h1
theorem two_ch {u : World} {g : Nat} {x y : Value} {F : Nat → Prop} (hg : F g) : Ch F u ((u.setCell ⟨g, 0, none⟩ x).setCell ⟨g, 1, none⟩ y) := (Ch.set u g 0 x hg).then (Ch.set _ g 1 y hg)
theorem two_cells {u : World} {g : Nat} {x y : Value} {ty : TypeId} (h : u.heap[g]? = some (.cells #[x, y] ty (0, 0))) : u.cell? ⟨g, 0, none⟩ = some x ∧ u.cell? ⟨g, 1, none⟩ = some y := ⟨cell_of_row u g 0 _ _ (0, 0) h, cell_of_row u g 1 _ _ (0, 0) h⟩
def NewCd (w : World) (l ld : List Int) (e : Int) (x : Ending) (w' : World) : Prop := ∃ P Q, x = .returned (.tuple #[.agg #[.pointer P, .pointer Q], .int .i64 e]) ∧ Below w.heap.size w w' ∧
  (e = 0 → ∃ gs gd, P = some ⟨gs, 0, none⟩ ∧ Q = some ⟨gd, 0, none⟩ ∧ TabAt (fun k => w.heap.size ≤ k) w' gs l ∧ TabAt (fun k => w.heap.size ≤ k) w' gd ld)
set_option maxHeartbeats 3200000 in
theorem newCodes_any (A : Option Addr) (n cap : Nat) (l : List Int) (D : Option Addr) (m capd : Nat) (ld : List Int) (e1 e2 e : Int) (w : World) (hI : IAt (fun _ => True) w A n cap l) (hJ : IAt (fun _ => True) w D m capd ld) (h1 : Lg l e1) (h2 : Lg ld e2) (he : (e1 = 0 → e = e2) ∧ (e1 ≠ 0 → e = e1)) :
    Calls Tryd.prog 24 #[.slice A n cap, .slice D m capd] w (NewCd w l ld e) := by
  have HE0 := Lib.hid he
  clear he
  have hb0 : Below w.heap.size w (w.alloc (.cells #[.pointer none, .pointer none] 35)) := bnew w _
  have H1 := Lib.hid (new_any A n cap l e1 _ (hI.below hb0) h1)
  have H2 := Lib.hid (fun u (hu : Below w.heap.size w u) => new_any D m capd ld e2 u (hJ.below hu) h2)
  have HB := Lib.hid hb0
  have k1 := h1.cases
  have k2 := h2.cases
  have hr0 : (w.alloc (.cells #[.pointer none, .pointer none] 35)).heap[w.heap.size]? = some (.cells #[.pointer none, .pointer none] 35 (0, 0)) := heap_alloc_new w _
  have HR := Lib.hid (fun u (hu : Below (w.alloc (.cells #[.pointer none, .pointer none] 35)).heap.size (w.alloc (.cells #[.pointer none, .pointer none] 35)) u) => (hu.block w.heap.size (by simp)).trans hr0)
  clear hI hJ hb0 hr0
  go_enter Tryd.func24, Tryd.ntmps24
  go_wp2_with fail
  refine H1.out.mono ?_
  rintro e w1 ⟨P, rfl, hb1, hP1, hP2⟩
  have hr1 := HR.out w1 hb1
  have c0 := cell_of_row w1 w.heap.size 0 _ _ (0, 0) hr1
  have c1 := cell_of_row w1 w.heap.size 1 _ _ (0, 0) hr1
  have f0 := frozen_of_row w1 w.heap.size 0 _ _ hr1
  have f1 := frozen_of_row w1 w.heap.size 1 _ _ hr1
  simp at c0 c1
  by_cases hz : e1 = 0
  · obtain rfl := HE0.out.1 hz
    subst hz
    obtain ⟨gs, rfl, hT1⟩ := hP2 rfl
    have HB1 := Lib.hid (HB.out.trans (hb1.mono HB.out.size))
    have HT1 := Lib.hid (hT1.weak (G := fun k => w.heap.size + 1 ≤ k ∧ k < w1.heap.size) fun k hk h => ⟨by simpa using h, hk⟩)
    have hbs := hb1.size
    simp at hbs
    have H3 := Lib.hid (H2.out w1 HB1.out)
    have hb1' := Lib.hid hb1
    clear H1 H2 hb1 hP1 hP2 k1 h1 h2 hT1 HE0 c0 c1 f0 f1
    go_wp2_with fail
    refine H3.out.mono ?_
    rintro e' w2 ⟨Q, rfl, hb2, hQ1, hQ2⟩
    have hr2 := HR.out w2 (hb1'.out.trans (hb2.mono hb1'.out.size))
    have c0 := cell_of_row w2 w.heap.size 0 _ _ (0, 0) hr2
    have c1 := cell_of_row w2 w.heap.size 1 _ _ (0, 0) hr2
    have f0 := frozen_of_row w2 w.heap.size 0 _ _ hr2
    have f1 := frozen_of_row w2 w.heap.size 1 _ _ hr2
    simp at c0 c1
    have HB2 := Lib.hid (HB1.out.trans (hb2.mono HB1.out.size))
    have HT2 := Lib.hid (HT1.out.below hb2)
    by_cases hz : e = 0
    · subst hz
      obtain ⟨gd, rfl, hT3⟩ := hQ2 rfl
      have HT3 := Lib.hid hT3
      have hW := Lib.hid (two_cells (two_set (x := .pointer (some ⟨gs, 0, none⟩)) (y := .pointer (some ⟨gd, 0, none⟩)) hr2))
      have hCh := Lib.hid (two_ch (u := w2) (g := w.heap.size) (x := .pointer (some ⟨gs, 0, none⟩)) (y := .pointer (some ⟨gd, 0, none⟩)) (F := fun k => k = w.heap.size) rfl)
      clear hQ1 hQ2 hb2 HR hr1 hr2 k2 H3 hT3
      go_wp2_with fail
      refine bodyPost_ret (results_cd2 rfl _ hW.out.1 hW.out.2 rfl _ rfl) rfl ⟨_, _, rfl, HB2.out.trans (hCh.out.below (fun k hk => by omega) HB2.out.size), fun _ => ⟨gs, gd, rfl, rfl, ?_, ?_⟩⟩
      · exact ((HT2.out.ch hCh.out fun k hk => by omega).weak fun k _ hk => by omega)
      · exact ((HT3.out.ch hCh.out fun k hk => by omega).weak fun k _ hk => by omega)
    · have hc : e = 1 ∨ e = 4 := by omega
      have hW := Lib.hid (two_cells (two_set (x := .pointer none) (y := .pointer none) hr2))
      have hCh := Lib.hid (two_ch (u := w2) (g := w.heap.size) (x := .pointer none) (y := .pointer none) (F := fun k => k = w.heap.size) rfl)
      clear H3 HR hb2 hQ1 hQ2 k2 hr1 hr2
      rcases hc with rfl | rfl
      all_goals
        go_wp2_with fail
        exact bodyPost_ret (results_cd2 rfl _ hW.out.1 hW.out.2 rfl _ rfl) rfl ⟨_, _, rfl, HB2.out.trans (hCh.out.below (fun k hk => by omega) HB2.out.size), fun x => absurd x hz⟩
  · have hc : e1 = 1 ∨ e1 = 4 := by omega
    have HB1 := Lib.hid (HB.out.trans (hb1.mono HB.out.size))
    have hW := Lib.hid (two_cells (two_set (x := .pointer none) (y := .pointer none) hr1))
    have hCh := Lib.hid (two_ch (u := w1) (g := w.heap.size) (x := .pointer none) (y := .pointer none) (F := fun k => k = w.heap.size) rfl)
    clear H1 H2 HR hb1 hP1 hP2 k1 k2 h1 h2 hr1
    obtain rfl := HE0.out.2 hz
    clear HE0
    rcases hc with rfl | rfl
    all_goals
      go_wp2_with fail
      exact bodyPost_ret (results_cd2 rfl _ hW.out.1 hW.out.2 rfl _ rfl) rfl ⟨_, _, rfl, HB1.out.trans (hCh.out.below (fun k hk => by omega) HB1.out.size), fun x => absurd x hz⟩

end Go.Proofs.YtifkldllhbcmkaaDoor
