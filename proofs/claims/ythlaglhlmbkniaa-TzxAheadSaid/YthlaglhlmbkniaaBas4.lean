/- Texts put together: TzxAlph, TzxSymK, TzxSym, TzxBelow. -/
import Derived.Test.YthlaglhlmbkniaaBas3
import Derived.Test.YthlaglhlmbkniaaBas1
import Derived.Test.YthlaglhlmbkniaaBas2
import Derived.LoopTactic
/- tzx.alphabet, rep and the functions that they hand in: their contracts. -/
namespace Go.Proofs.Ythlaglhlmbkniaa
open Go.RowKit
set_option linter.unusedVariables false
set_option linter.unusedSimpArgs false
set_option maxRecDepth 100000

set_option maxHeartbeats 3200000 in
theorem sym_one (F : Nat → Prop) (w : World) (g : Nat) (l : List Int) (s : Rst) (br bl long : Nat) (h : Hid (RS F w g l s)) (hF : Hid (∀ i, F i → i < w.heap.size)) (hl : l.length ≤ 1000000) (h8 : Hid (Byte8 l)) (hlo : long ≤ 1000)
    (cr : w.cell? ⟨br, 0, none⟩ = some (.pointer (some ⟨g, 0, none⟩))) (cl : w.cell? ⟨bl, 0, none⟩ = some (.int .i64 (long : Nat))) (hbr : br ≠ g) (hbl : bl ≠ g) :
    Calls Try.prog 67 #[.pointer (some ⟨br, 0, none⟩), .pointer (some ⟨bl, 0, none⟩)] w (ItE F w g l (symbS l long s)) := by
  have HN := Lib.hid (fun u t (hr : Hid (RS F u g l t)) => num_any F u g l t hr hl 1 1 rfl (by decide) (by decide))
  have HM := Lib.hid (fun u t (hr : Hid (RS F u g l t)) hFu => nums_any F u g l t hr hFu hl long 2 (by decide) (by decide))
  have H0 := Lib.hid (R2.new h.out hF.out 103 (.int .i64 0) (.slice none 0 0))
  have hb0 := bnew w (.cells #[.int .i64 0, .slice none 0 0] 103)
  have cr0 := (hb0.cell (p := ⟨br, 0, none⟩) (blk_lt cr)).trans cr
  have cl0 := (hb0.cell (p := ⟨bl, 0, none⟩) (blk_lt cl)).trans cl
  have HNe := Lib.hid (And.intro hbr hbl)
  obtain ⟨W0, hW0⟩ : ∃ W0, w.alloc (.cells #[.int .i64 0, .slice none 0 0] 103) = W0 := ⟨_, rfl⟩
  obtain ⟨b2, hb2⟩ : ∃ b2, w.heap.size = b2 := ⟨_, rfl⟩
  rw [hW0, hb2] at H0
  rw [hW0] at cr0 cl0
  have K0 := Lib.hid H0.out.drew
  have e2 : ((2 : Nat) : Int) = 2 := rfl
  clear cr cl h hb0 hbr hbl
  go_enter Try.func67, Try.ntmps67
  go_wp2_with fail
  clear hW0 hb2
  first | refine wp_region_noPanic ?_ | skip
  refine wp_region_U (n := 6) (S := (fun u : World => u.cell? ⟨br, 0, none⟩ = some (.pointer (some ⟨g, 0, none⟩)) ∧ u.cell? ⟨bl, 0, none⟩ = some (.int .i64 (long : Nat)))) (by kernel_rfl) (by kernel_rfl) (⟨cr0, cl0⟩) (fun hHeld => ?_)
  refine wpAnyU_take (i := 0) (v := ?v1) rfl (by kernel_rfl) (by kernel_rfl) (by kernel_rfl) (by kernel_rfl) (fun _ _ _ h => h) (Or.inl ⟨by rfl, ?hy1⟩) (by assumption) ?rest1
  case hy1 => (intro w hSw; (try dsimp only at hSw); go_simp; try with_reducible rfl)
  try simp only [Act.put, List.getElem_toArray, List.getElem_cons_succ, List.getElem_cons_zero, List.setIfInBounds_toArray, List.set_cons_zero, List.set_cons_succ]
  refine wpAnyU_take (i := 2) (v := ?v2) rfl (by kernel_rfl) (by kernel_rfl) (by kernel_rfl) (by kernel_rfl) (fun _ _ _ h => h) (Or.inl ⟨by rfl, ?hy2⟩) (by assumption) ?rest2
  case hy2 => (intro w hSw; (try dsimp only at hSw); go_simp; try with_reducible rfl)
  try simp only [Act.put, List.getElem_toArray, List.getElem_cons_succ, List.getElem_cons_zero, List.setIfInBounds_toArray, List.set_cons_zero, List.set_cons_succ]
  refine wpAnyU_take (i := 3) (v := ?v3) rfl (by kernel_rfl) (by kernel_rfl) (by kernel_rfl) (by kernel_rfl) (fun _ _ _ h => h) (Or.inl ⟨by rfl, ?hy3⟩) (by assumption) ?rest3
  case hy3 => (intro w hSw; (try dsimp only at hSw); go_simp; try with_reducible rfl)
  try simp only [Act.put, List.getElem_toArray, List.getElem_cons_succ, List.getElem_cons_zero, List.setIfInBounds_toArray, List.set_cons_zero, List.set_cons_succ]
  refine wpAnyU_ready (i := 1) (by kernel_rfl) (by kernel_rfl) rfl (fun K hK => ?_)
  go_simp
  refine (((HN.out _ _ (Lib.hid K0.out.rs)))).mono ?_
  rintro e w' ⟨rfl, hr, hc⟩
  go_wp2_with fail
  refine hK.out _ _ (⟨cell_rd hc cr0 HNe.out.1, cell_rd hc cl0 HNe.out.2⟩) (fun hHeld => ?_)
  clear hK K
  try simp only [Act.put, List.getElem_toArray, List.getElem_cons_succ, List.getElem_cons_zero, List.setIfInBounds_toArray, List.set_cons_zero, List.set_cons_succ]
  have K1 := Lib.hid (K0.out.rd hr hc)
  have cr1 : w'.cell? ⟨br, 0, none⟩ = some (.pointer (some ⟨g, 0, none⟩)) := cell_rd hc cr0 HNe.out.1
  have cl1 : w'.cell? ⟨bl, 0, none⟩ = some (.int .i64 (long : Nat)) := cell_rd hc cl0 HNe.out.2
  clear hr hc cr0 cl0
  generalize numV l s 1 = v
  have HMs := Lib.hid (HM.out w' _ (Lib.hid K1.out.rs) (Lib.hid fun i hi => Nat.lt_of_lt_of_le (hF.out i hi) K1.out.ch.size))
  refine wpAnyU_ready (i := 4) (by kernel_rfl) (by kernel_rfl) rfl (fun K hK => ?_)
  go_simp
  refine ((HMs.out)).mono ?_
  rintro e w' ⟨A, n, c, ts, rfl, _, hr, hc⟩
  go_wp2_with fail
  refine hK.out _ _ (⟨cell_rd hc cr1 HNe.out.1, cell_rd hc cl1 HNe.out.2⟩) (fun hHeld => ?_)
  clear hK K
  try simp only [Act.put, List.getElem_toArray, List.getElem_cons_succ, List.getElem_cons_zero, List.setIfInBounds_toArray, List.set_cons_zero, List.set_cons_succ]
  have K2 := Lib.hid (K1.out.rd hr hc)
  clear hr hc cr1 cl1
  refine wpAnyU_take (i := 5) (v := ?v4) rfl (by kernel_rfl) (by kernel_rfl) (by kernel_rfl) (by kernel_rfl) (fun _ _ _ h => h) (Or.inl ⟨by rfl, ?hy4⟩) (by assumption) ?rest4
  case hy4 => (intro w hSw; (try dsimp only at hSw); go_simp; try with_reducible rfl)
  try simp only [Act.put, List.getElem_toArray, List.getElem_cons_succ, List.getElem_cons_zero, List.setIfInBounds_toArray, List.set_cons_zero, List.set_cons_succ]
  refine wpAnyU_tail rfl (by kernel_rfl) ?_
  simp only [List.drop_succ_cons, List.drop_zero]
  obtain ⟨a0, a1, f0, f1⟩ := K2.out.cells
  have HE := Lib.hid (K2.out.made (.int .i64 v) (.slice A n c))
  go_wp2_with fail
  refine NoPanic.normal ?_
  go_wp2_with fail
  exact bodyPost_ret (results_p2 rfl Try.underlying103 rfl (by kernel_rfl) _ HE.out.1 rfl) rfl ⟨v, A, n, c, rfl, HE.out.2.1, HE.out.2.2⟩
set_option maxHeartbeats 3200000 in
theorem alph_any (F : Nat → Prop) (w : World) (g : Nat) (l : List Int) (s : Rst) (h : Hid (RS F w g l s)) (hF : Hid (∀ i, F i → i < w.heap.size)) (hl : l.length ≤ 1000000) (h8 : Hid (Byte8 l)) (many long : Nat) (hma : many ≤ 1000) (hlo : long ≤ 1000) :
    Calls Try.prog 59 #[.pointer (some ⟨g, 0, none⟩), .int .i64 (many : Nat), .int .i64 (long : Nat)] w (GotA F w g l (alphS l many long s)) := by
  have hmf : ∀ (fn : Fn) (first cap : Array Value) (w : World), (Instr.makeFunc fn first cap).run Try.prog w = .ok (.func fn first cap) w := fun _ _ _ _ => rfl
  have hg := h.out.lt
  have hb0 := bnew w (.cells #[.pointer (some ⟨g, 0, none⟩)] 64)
  have hb1 := bnew (w.alloc (.cells #[.pointer (some ⟨g, 0, none⟩)] 64)) (.cells #[.int .i64 (long : Nat)] 3)
  have cr0 : ((w.alloc (.cells #[.pointer (some ⟨g, 0, none⟩)] 64)).alloc (.cells #[.int .i64 (long : Nat)] 3)).cell? ⟨w.heap.size, 0, none⟩ = some (.pointer (some ⟨g, 0, none⟩)) := (hb1.cell (p := ⟨w.heap.size, 0, none⟩) (by simp)).trans (cell_of_row _ _ 0 _ _ (0, 0) (heap_alloc_new w _))
  have cl0 : ((w.alloc (.cells #[.pointer (some ⟨g, 0, none⟩)] 64)).alloc (.cells #[.int .i64 (long : Nat)] 3)).cell? ⟨w.heap.size + 1, 0, none⟩ = some (.int .i64 (long : Nat)) := by
    have := cell_of_row _ _ 0 _ _ (0, 0) (heap_alloc_new (w.alloc (.cells #[.pointer (some ⟨g, 0, none⟩)] 64)) (.cells #[.int .i64 (long : Nat)] 3))
    rw [show (w.alloc (.cells #[.pointer (some ⟨g, 0, none⟩)] 64)).heap.size = w.heap.size + 1 by simp] at this
    exact this
  have h0 := (h.out.below hb0).below hb1
  have HC0 : Hid (Ch (fun k => k = g) w ((w.alloc (.cells #[.pointer (some ⟨g, 0, none⟩)] 64)).alloc (.cells #[.int .i64 (long : Nat)] 3))) := Lib.hid ((Ch.of_below hb0).less (hb1.mono (by simp)))
  have HL := Lib.hid (listSym_any F _ g l s (symbS l long) (.pointer (some ⟨w.heap.size, 0, none⟩)) (.pointer (some ⟨w.heap.size + 1, 0, none⟩)) (Lib.hid h0) (Lib.hid fun i hi => Nat.lt_of_lt_of_le (hF.out i hi) HC0.out.size) hl many (by omega) _ rfl (Lib.hid fun u t hr hch => sym_one F u g l t w.heap.size (w.heap.size + 1) long hr (Lib.hid fun i hi => Nat.lt_of_lt_of_le (hF.out i hi) (HC0.out.then hch.out).size) hl h8 hlo (cell_rd hch.out cr0 (by omega)) (cell_rd hch.out cl0 (by omega)) (by omega) (by omega)))
  clear h hg hb0 hb1 h0 cl0
  go_enter Try.func59, Try.ntmps59
  go_wp2_with fail
  refine HL.out.mono ?_
  rintro x w1 ⟨A, n, c, rfl, hr, hc⟩
  have HE : Hid (GotA F w g l (alphS l many long s) (.returned (.slice A n c)) w1) := Lib.hid ⟨A, n, c, rfl, hr, HC0.out.then hc⟩
  clear hr hc
  go_wp2_with fail
  go_ret
  exact HE.out
set_option maxHeartbeats 3200000 in
theorem rep_any (F : Nat → Prop) (w : World) (g : Nat) (l : List Int) (s : Rst) (h : Hid (RS F w g l s)) (hF : Hid (∀ i, F i → i < w.heap.size)) (hl : l.length ≤ 1000000) (many : Int) :
    Calls Try.prog 62 #[.pointer (some ⟨g, 0, none⟩), .int .i64 many] w (RpE F w g l (repS l many s)) := by
  have H0 := Lib.hid (R2.new h.out hF.out 94 (.int .i64 0) (.int .i64 0))
  have HA := Lib.hid (fun u t (hr : Hid (RS F u g l t)) => at_s F u g l t hr)
  have H1 := Lib.hid (fun u t (hr : Hid (RS F u g l t)) => num_any F u g l t hr hl 1 1 rfl (by decide) (by decide))
  have H2 := Lib.hid (fun u t (hr : Hid (RS F u g l t)) => num_any F u g l t hr hl 2 2 rfl (by decide) (by decide))
  have HFl := Lib.hid (fun u t (P : Nat) (hr : Hid (RS F u g l t)) => fail_any F u g l t hr 5 (P : Nat) (by decide))
  obtain ⟨V, hV⟩ : ∃ V, numV l s 1 = V := ⟨_, rfl⟩
  have HR : Hid (repS l many s = takS l (if many ≤ V then failS (takS l s 1) 5 s.p else takS l s 1) 2) := Lib.hid (by unfold repS; rw [hV])
  have HV := Lib.hid hV
  obtain ⟨b2, hb2⟩ : ∃ b2, w.heap.size = b2 := ⟨_, rfl⟩
  rw [hb2] at H0
  clear h hF hV
  go_enter Try.func62, Try.ntmps62
  go_wp2_with fail
  clear hb2
  refine (HA.out _ _ (Lib.hid H0.out.rs)).mono ?_
  rintro x u0 ⟨rfl, rfl⟩
  go_wp2_with fail
  refine (H1.out _ _ (Lib.hid H0.out.rs)).mono ?_
  rintro x u1 ⟨rfl, hr, hc⟩
  have K1 := Lib.hid (H0.out.rd hr hc)
  clear hr hc
  rw [HV.out]
  by_cases hm : many ≤ V
  · have d : decide (many ≤ V) = true := decide_eq_true hm
    have HR2 : Hid (repS l many s = takS l (failS (takS l s 1) 5 s.p) 2) := Lib.hid (by rw [HR.out, if_pos hm])
    clear hm
    go_wp2_with fail
    refine (HFl.out _ _ _ (Lib.hid K1.out.rs)).mono ?_
    rintro x u2 ⟨rfl, hr, hc⟩
    have K2 := Lib.hid (K1.out.rd hr hc)
    clear hr hc
    go_wp2_with fail
    refine (H2.out _ _ (Lib.hid K2.out.rs)).mono ?_
    rintro x u3 ⟨rfl, hr, hc⟩
    have K3 := Lib.hid (K2.out.rd hr hc)
    clear hr hc
    generalize numV l _ _ = T
    obtain ⟨a0, a1, f0, f1⟩ := K3.out.cells
    have HE := Lib.hid (K3.out.made (.int .i64 V) (.int .i64 T))
    go_wp2_with fail
    exact bodyPost_ret (results_p2 rfl Try.underlying94 rfl (by kernel_rfl) _ HE.out.1 rfl) rfl ⟨V, T, rfl, HR2.out ▸ HE.out.2.1, HE.out.2.2⟩
  · have d : decide (many ≤ V) = false := decide_eq_false hm
    have HR2 : Hid (repS l many s = takS l (takS l s 1) 2) := Lib.hid (by rw [HR.out, if_neg hm])
    clear hm
    go_wp2_with fail
    refine (H2.out _ _ (Lib.hid K1.out.rs)).mono ?_
    rintro x u3 ⟨rfl, hr, hc⟩
    have K3 := Lib.hid (K1.out.rd hr hc)
    clear hr hc
    generalize numV l _ _ = T
    obtain ⟨a0, a1, f0, f1⟩ := K3.out.cells
    have HE := Lib.hid (K3.out.made (.int .i64 V) (.int .i64 T))
    go_wp2_with fail
    exact bodyPost_ret (results_p2 rfl Try.underlying94 rfl (by kernel_rfl) _ HE.out.1 rfl) rfl ⟨V, T, rfl, HR2.out ▸ HE.out.2.1, HE.out.2.2⟩
set_option maxHeartbeats 3200000 in
theorem rep_one (F : Nat → Prop) (w : World) (g : Nat) (l : List Int) (s : Rst) (br b3 : Nat) (n : Int) (h : Hid (RS F w g l s)) (hF : Hid (∀ i, F i → i < w.heap.size)) (hl : l.length ≤ 1000000)
    (cr : w.cell? ⟨br, 0, none⟩ = some (.pointer (some ⟨g, 0, none⟩))) (cl : w.cell? ⟨b3, 3, none⟩ = some (.int .i64 n)) (hbr : br ≠ g) (hbl : b3 ≠ g) :
    Calls Try.prog 61 #[.pointer (some ⟨br, 0, none⟩), .pointer (some ⟨b3, 0, none⟩)] w (RpE F w g l (repS l (manyV n) s)) := by
  have HM := Lib.hid (fun u => many_any n u)
  have HRp := Lib.hid (fun u t (hr : Hid (RS F u g l t)) hFu => rep_any F u g l t hr hFu hl (manyV n))
  have H0 := Lib.hid (R2.new h.out hF.out 94 (.int .i64 0) (.int .i64 0))
  have hb0 := bnew w (.cells #[.int .i64 0, .int .i64 0] 94)
  have cr0 := (hb0.cell (p := ⟨br, 0, none⟩) (blk_lt cr)).trans cr
  have cl0 := (hb0.cell (p := ⟨b3, 3, none⟩) (blk_lt cl)).trans cl
  have HNe := Lib.hid (And.intro hbr hbl)
  obtain ⟨W0, hW0⟩ : ∃ W0, w.alloc (.cells #[.int .i64 0, .int .i64 0] 94) = W0 := ⟨_, rfl⟩
  obtain ⟨b2, hb2⟩ : ∃ b2, w.heap.size = b2 := ⟨_, rfl⟩
  rw [hW0, hb2] at H0
  rw [hW0] at cr0 cl0
  have K0 := Lib.hid H0.out.drew
  have hmv : (if n = 0 then 256 else n) = manyV n := rfl
  rw [hmv] at HM
  generalize manyV n = mv at *
  clear cr cl h hb0 hbr hbl hmv
  go_enter Try.func61, Try.ntmps61
  go_wp2_with fail
  clear hW0 hb2
  first | refine wp_region_noPanic ?_ | skip
  refine wp_region_U (n := 5) (S := (fun u : World => u.cell? ⟨br, 0, none⟩ = some (.pointer (some ⟨g, 0, none⟩)) ∧ u.cell? ⟨b3, 3, none⟩ = some (.int .i64 n))) (by kernel_rfl) (by kernel_rfl) (⟨cr0, cl0⟩) (fun hHeld => ?_)
  refine wpAnyU_take (i := 0) (v := ?v5) rfl (by kernel_rfl) (by kernel_rfl) (by kernel_rfl) (by kernel_rfl) (fun _ _ _ h => h) (Or.inl ⟨by rfl, ?hy5⟩) (by assumption) ?rest5
  case hy5 => (intro w hSw; (try dsimp only at hSw); go_simp; try with_reducible rfl)
  try simp only [Act.put, List.getElem_toArray, List.getElem_cons_succ, List.getElem_cons_zero, List.setIfInBounds_toArray, List.set_cons_zero, List.set_cons_succ]
  refine wpAnyU_take (i := 1) (v := ?v6) rfl (by kernel_rfl) (by kernel_rfl) (by kernel_rfl) (by kernel_rfl) (fun _ _ _ h => h) (Or.inl ⟨by rfl, ?hy6⟩) (by assumption) ?rest6
  case hy6 => (intro w hSw; (try dsimp only at hSw); go_simp; try with_reducible rfl)
  try simp only [Act.put, List.getElem_toArray, List.getElem_cons_succ, List.getElem_cons_zero, List.setIfInBounds_toArray, List.set_cons_zero, List.set_cons_succ]
  refine wpAnyU_take (i := 2) (v := ?v7) rfl (by kernel_rfl) (by kernel_rfl) (by kernel_rfl) (by kernel_rfl) (fun _ _ _ h => h) (Or.inl ⟨by rfl, ?hy7⟩) (by assumption) ?rest7
  case hy7 => (intro w hSw; (try dsimp only at hSw); go_simp; try with_reducible rfl)
  try simp only [Act.put, List.getElem_toArray, List.getElem_cons_succ, List.getElem_cons_zero, List.setIfInBounds_toArray, List.set_cons_zero, List.set_cons_succ]
  refine wpAnyU_ready (i := 3) (by kernel_rfl) (by kernel_rfl) rfl (fun K hK => ?_)
  go_simp
  refine (((HM.out _))).mono ?_
  rintro e w' ⟨rfl, rfl⟩
  go_wp2_with fail
  refine hK.out _ _ (⟨cr0, cl0⟩) (fun hHeld => ?_)
  clear hK K
  try simp only [Act.put, List.getElem_toArray, List.getElem_cons_succ, List.getElem_cons_zero, List.setIfInBounds_toArray, List.set_cons_zero, List.set_cons_succ]
  refine wpAnyU_ready (i := 4) (by kernel_rfl) (by kernel_rfl) rfl (fun K hK => ?_)
  go_simp
  refine (((HRp.out _ _ (Lib.hid K0.out.rs) (Lib.hid fun i hi => Nat.lt_of_lt_of_le (hF.out i hi) K0.out.ch.size)))).mono ?_
  rintro e w' ⟨v, t, rfl, hr, hc⟩
  go_wp2_with fail
  refine hK.out _ _ (⟨cell_rd hc cr0 HNe.out.1, cell_rd hc cl0 HNe.out.2⟩) (fun hHeld => ?_)
  clear hK K
  try simp only [Act.put, List.getElem_toArray, List.getElem_cons_succ, List.getElem_cons_zero, List.setIfInBounds_toArray, List.set_cons_zero, List.set_cons_succ]
  have K2 := Lib.hid (K0.out.rd hr hc)
  clear hr hc cr0 cl0
  refine wpAnyU_tail rfl (by kernel_rfl) ?_
  simp only [List.drop_succ_cons, List.drop_zero]
  obtain ⟨a0, a1, f0, f1⟩ := K2.out.cells
  have HE := Lib.hid (K2.out.made (.int .i64 v) (.int .i64 t))
  go_wp2_with fail
  refine NoPanic.normal ?_
  go_wp2_with fail
  exact bodyPost_ret (results_p2 rfl Try.underlying94 rfl (by kernel_rfl) _ HE.out.1 rfl) rfl ⟨v, t, rfl, HE.out.2.1, HE.out.2.2⟩

end Go.Proofs.Ythlaglhlmbkniaa
/- tzx.Symbol: its contract. -/
namespace Go.Proofs.Ythlaglhlmbkniaa
open Go.RowKit
set_option linter.unusedVariables false
set_option linter.unusedSimpArgs false
set_option maxRecDepth 100000

def SymV (l : List Int) (k i : Int) (x : Ending) : Prop := (symOk l k i ∧ x = .returned (.tuple #[.int .i64 (symF l k.toNat i.toNat : Nat), .bool true])) ∨ (¬ symOk l k i ∧ x = .returned (.tuple #[.int .i64 0, .bool false]))
def SymE (l : List Int) (k i : Int) (w : World) (x : Ending) (w' : World) : Prop := SymV l k i x ∧ ∃ n, w' = w.drewN n
theorem SymE.no {l : List Int} {k i : Int} (w : World) (h : ¬ symOk l k i) : SymE l k i w (.returned (.tuple #[.int .i64 0, .bool false])) w := ⟨Or.inr ⟨h, rfl⟩, drew0 w⟩
theorem mask_T (T : Nat) (hT : T < 65536) (s κ : Nat) (hk : κ ≤ 8) : bits .and .i64 ((T : Int) / 2 ^ s) (2 ^ κ - 1) = ((T / 2 ^ s % 2 ^ κ : Nat) : Int) := by
  have h1 : (T : Int) / 2 ^ s = ((T / 2 ^ s : Nat) : Int) := by simp
  have h2 : T / 2 ^ s ≤ T := Nat.div_le_self _ _
  obtain ⟨q, hq⟩ : ∃ q, T / 2 ^ s = q := ⟨_, rfl⟩
  rw [h1, hq, bits_mask .i64 31 (by decide) (fun n h0 h1 => by rw [IntKind.wrap_i64]; omega) κ (by omega) _ (by omega) (by omega)]
  simp
theorem mask_L (T : Nat) (hT : T < 65536) (D m : Int) (s κ : Nat) (hk : κ ≤ 8) (hD : D = 2 ^ s) (hm : m = 2 ^ κ - 1) (V : Nat) (hV : T / 2 ^ s % 2 ^ κ = V) : bits .and .i64 ((T : Int) / D) m = (V : Int) := by
  rw [hD, hm, mask_T T hT s κ hk, hV]
theorem or_bytes (a b : Nat) (ha : a < 256) (hb : b < 256) : bits .or .i64 ((a : Int) * 256) (b : Int) = ((a * 256 + b : Nat) : Int) := by
  rw [bits_join .i64 63 (by decide) (fun n h0 h1 => by rw [IntKind.wrap_i64]; omega) 8 ((a : Int) * 256) b (by omega) (by omega) (by omega) (by omega) (by omega) (by omega)]
  simp
theorem low_byte (a b s m : Nat) (hb : b < 256) (hs : s = 8 + m) (κ : Nat) : (a * 256) / 2 ^ s % 2 ^ κ = (a * 256 + b) / 2 ^ s % 2 ^ κ := by
  rw [hs, bit_low hb]
  have := bit_low (a := a) (b := 0) (m := m) (by decide)
  rw [Nat.add_zero] at this
  rw [this]
set_option maxHeartbeats 3200000 in
theorem symbol_1 (F : Nat → Prop) (w : World) (A : Option Addr) (n cap : Nat) (l : List Int) (h : BAt8 F w A n cap l) (hn : n ≤ 1000000) (ι : Nat) :
    Calls Try.prog 9 #[.slice A n cap, .int .i64 1, .int .i64 (ι : Nat)] w (SymE l 1 ι w) := by
  have hlen := h.len
  by_cases hg : (ι + 1) * 1 ≤ 8 * n
  · have hgI : ((ι : Int) + 1) * 1 ≤ 8 * (n : Int) := by omega
    obtain ⟨p, hp⟩ : ∃ p, ι * 1 / 8 = p := ⟨_, rfl⟩
    have hpn : p < n := by omega
    obtain ⟨b, o, rfl, _, hbl, hc⟩ := h.lies (by omega)
    have cp := hc p hpn
    have hb8 := h.bd
    rw [gN_int hb8] at cp
    have ha := gN_lt hb8 p
    have hbb := gN_lt hb8 (p + 1)
    obtain ⟨a, haa⟩ : ∃ a, gN l p = a := ⟨_, rfl⟩
    obtain ⟨b1, hb1⟩ : ∃ b1, gN l (p + 1) = b1 := ⟨_, rfl⟩
    have HC := Lib.hid (fun hp1 : p + 1 < n => (hc (p + 1) hp1).trans (by rw [gN_int hb8, hb1]))
    rw [haa] at cp ha
    rw [hb1] at hbb
    have hfit := h.fit
    have hmax := h.max
    unfold maxLen at hmax
    have HOK : Hid (symOk l 1 ι) := Lib.hid ⟨by omega, by omega, by omega, Or.inr (by rw [hlen]; omega)⟩
    have HD := Lib.hid (drew0 w)
    have HD2 := Lib.hid (fun m : Nat => (⟨m, rfl⟩ : ∃ n, w.drewN m = w.drewN n))
    have hpi : (ι : Int) / 8 = (p : Int) := by omega
    have HT : Hid (symT l p = a * 256 + b1) := Lib.hid (by unfold symT; rw [haa, hb1])
    have HF : Hid (∀ f, ι * 1 % 8 = f → symF l 1 ι = (a * 256 + b1) / 2 ^ (16 - f - 1) % 2 ^ 1) := Lib.hid (fun f hf => by unfold symF; rw [hp, hf, HT.out])
    have hfc : ι * 1 % 8 = 0 ∨ ι * 1 % 8 = 1 ∨ ι * 1 % 8 = 2 ∨ ι * 1 % 8 = 3 ∨ ι * 1 % 8 = 4 ∨ ι * 1 % 8 = 5 ∨ ι * 1 % 8 = 6 ∨ ι * 1 % 8 = 7 := by omega
    clear h hc haa hb1 hb8 hbl HT
    rcases hfc with hf | hf | hf | hf | hf | hf | hf | hf
    · have hfi : (ι : Int) % 8 = 0 := by omega
      have hV := HF.out 0 hf
      obtain ⟨V, hVV⟩ : ∃ V, (a * 256 + b1) / 2 ^ 15 % 2 ^ 1 = V := ⟨_, rfl⟩
      have HE : Hid (SymV l 1 ι (.returned (.tuple #[.int .i64 (V : Nat), .bool true]))) := Lib.hid (Or.inl ⟨HOK.out, by
        rw [show Int.toNat 1 = 1 from rfl, Int.toNat_natCast, hV.trans hVV]⟩)
      have hl := low_byte a b1 15 7 hbb rfl 1
      have hm0 := mask_L (a * 256) (by omega) 32768 1 15 1 (by decide) (by decide) (by decide) V (hl.trans hVV)
      have hm : bits .and .i64 ((a : Int) * 256 / 32768) 1 = (V : Int) := by rw [← hm0]; simp
      clear hV hl hm0 HF HC hf hVV
      go_enter Try.func9, Try.ntmps9
      go_wp2_with fail
      go_quiet (fail)
      go_wp2_with fail
      go_ret2
      exact ⟨HE.out, HD2.out _⟩
    · have hfi : (ι : Int) % 8 = 1 := by omega
      have hV := HF.out 1 hf
      obtain ⟨V, hVV⟩ : ∃ V, (a * 256 + b1) / 2 ^ 14 % 2 ^ 1 = V := ⟨_, rfl⟩
      have HE : Hid (SymV l 1 ι (.returned (.tuple #[.int .i64 (V : Nat), .bool true]))) := Lib.hid (Or.inl ⟨HOK.out, by
        rw [show Int.toNat 1 = 1 from rfl, Int.toNat_natCast, hV.trans hVV]⟩)
      have hl := low_byte a b1 14 6 hbb rfl 1
      have hm0 := mask_L (a * 256) (by omega) 16384 1 14 1 (by decide) (by decide) (by decide) V (hl.trans hVV)
      have hm : bits .and .i64 ((a : Int) * 256 / 16384) 1 = (V : Int) := by rw [← hm0]; simp
      clear hV hl hm0 HF HC hf hVV
      go_enter Try.func9, Try.ntmps9
      go_wp2_with fail
      go_quiet (fail)
      go_wp2_with fail
      go_ret2
      exact ⟨HE.out, HD2.out _⟩
    · have hfi : (ι : Int) % 8 = 2 := by omega
      have hV := HF.out 2 hf
      obtain ⟨V, hVV⟩ : ∃ V, (a * 256 + b1) / 2 ^ 13 % 2 ^ 1 = V := ⟨_, rfl⟩
      have HE : Hid (SymV l 1 ι (.returned (.tuple #[.int .i64 (V : Nat), .bool true]))) := Lib.hid (Or.inl ⟨HOK.out, by
        rw [show Int.toNat 1 = 1 from rfl, Int.toNat_natCast, hV.trans hVV]⟩)
      have hl := low_byte a b1 13 5 hbb rfl 1
      have hm0 := mask_L (a * 256) (by omega) 8192 1 13 1 (by decide) (by decide) (by decide) V (hl.trans hVV)
      have hm : bits .and .i64 ((a : Int) * 256 / 8192) 1 = (V : Int) := by rw [← hm0]; simp
      clear hV hl hm0 HF HC hf hVV
      go_enter Try.func9, Try.ntmps9
      go_wp2_with fail
      go_quiet (fail)
      go_wp2_with fail
      go_ret2
      exact ⟨HE.out, HD2.out _⟩
    · have hfi : (ι : Int) % 8 = 3 := by omega
      have hV := HF.out 3 hf
      obtain ⟨V, hVV⟩ : ∃ V, (a * 256 + b1) / 2 ^ 12 % 2 ^ 1 = V := ⟨_, rfl⟩
      have HE : Hid (SymV l 1 ι (.returned (.tuple #[.int .i64 (V : Nat), .bool true]))) := Lib.hid (Or.inl ⟨HOK.out, by
        rw [show Int.toNat 1 = 1 from rfl, Int.toNat_natCast, hV.trans hVV]⟩)
      have hl := low_byte a b1 12 4 hbb rfl 1
      have hm0 := mask_L (a * 256) (by omega) 4096 1 12 1 (by decide) (by decide) (by decide) V (hl.trans hVV)
      have hm : bits .and .i64 ((a : Int) * 256 / 4096) 1 = (V : Int) := by rw [← hm0]; simp
      clear hV hl hm0 HF HC hf hVV
      go_enter Try.func9, Try.ntmps9
      go_wp2_with fail
      go_quiet (fail)
      go_wp2_with fail
      go_ret2
      exact ⟨HE.out, HD2.out _⟩
    · have hfi : (ι : Int) % 8 = 4 := by omega
      have hV := HF.out 4 hf
      obtain ⟨V, hVV⟩ : ∃ V, (a * 256 + b1) / 2 ^ 11 % 2 ^ 1 = V := ⟨_, rfl⟩
      have HE : Hid (SymV l 1 ι (.returned (.tuple #[.int .i64 (V : Nat), .bool true]))) := Lib.hid (Or.inl ⟨HOK.out, by
        rw [show Int.toNat 1 = 1 from rfl, Int.toNat_natCast, hV.trans hVV]⟩)
      have hl := low_byte a b1 11 3 hbb rfl 1
      have hm0 := mask_L (a * 256) (by omega) 2048 1 11 1 (by decide) (by decide) (by decide) V (hl.trans hVV)
      have hm : bits .and .i64 ((a : Int) * 256 / 2048) 1 = (V : Int) := by rw [← hm0]; simp
      clear hV hl hm0 HF HC hf hVV
      go_enter Try.func9, Try.ntmps9
      go_wp2_with fail
      go_quiet (fail)
      go_wp2_with fail
      go_ret2
      exact ⟨HE.out, HD2.out _⟩
    · have hfi : (ι : Int) % 8 = 5 := by omega
      have hV := HF.out 5 hf
      obtain ⟨V, hVV⟩ : ∃ V, (a * 256 + b1) / 2 ^ 10 % 2 ^ 1 = V := ⟨_, rfl⟩
      have HE : Hid (SymV l 1 ι (.returned (.tuple #[.int .i64 (V : Nat), .bool true]))) := Lib.hid (Or.inl ⟨HOK.out, by
        rw [show Int.toNat 1 = 1 from rfl, Int.toNat_natCast, hV.trans hVV]⟩)
      have hl := low_byte a b1 10 2 hbb rfl 1
      have hm0 := mask_L (a * 256) (by omega) 1024 1 10 1 (by decide) (by decide) (by decide) V (hl.trans hVV)
      have hm : bits .and .i64 ((a : Int) * 256 / 1024) 1 = (V : Int) := by rw [← hm0]; simp
      clear hV hl hm0 HF HC hf hVV
      go_enter Try.func9, Try.ntmps9
      go_wp2_with fail
      go_quiet (fail)
      go_wp2_with fail
      go_ret2
      exact ⟨HE.out, HD2.out _⟩
    · have hfi : (ι : Int) % 8 = 6 := by omega
      have hV := HF.out 6 hf
      obtain ⟨V, hVV⟩ : ∃ V, (a * 256 + b1) / 2 ^ 9 % 2 ^ 1 = V := ⟨_, rfl⟩
      have HE : Hid (SymV l 1 ι (.returned (.tuple #[.int .i64 (V : Nat), .bool true]))) := Lib.hid (Or.inl ⟨HOK.out, by
        rw [show Int.toNat 1 = 1 from rfl, Int.toNat_natCast, hV.trans hVV]⟩)
      have hl := low_byte a b1 9 1 hbb rfl 1
      have hm0 := mask_L (a * 256) (by omega) 512 1 9 1 (by decide) (by decide) (by decide) V (hl.trans hVV)
      have hm : bits .and .i64 ((a : Int) * 256 / 512) 1 = (V : Int) := by rw [← hm0]; simp
      clear hV hl hm0 HF HC hf hVV
      go_enter Try.func9, Try.ntmps9
      go_wp2_with fail
      go_quiet (fail)
      go_wp2_with fail
      go_ret2
      exact ⟨HE.out, HD2.out _⟩
    · have hfi : (ι : Int) % 8 = 7 := by omega
      have hV := HF.out 7 hf
      obtain ⟨V, hVV⟩ : ∃ V, (a * 256 + b1) / 2 ^ 8 % 2 ^ 1 = V := ⟨_, rfl⟩
      have HE : Hid (SymV l 1 ι (.returned (.tuple #[.int .i64 (V : Nat), .bool true]))) := Lib.hid (Or.inl ⟨HOK.out, by
        rw [show Int.toNat 1 = 1 from rfl, Int.toNat_natCast, hV.trans hVV]⟩)
      have hl := low_byte a b1 8 0 hbb rfl 1
      have hm0 := mask_L (a * 256) (by omega) 256 1 8 1 (by decide) (by decide) (by decide) V (hl.trans hVV)
      have hm : bits .and .i64 (a : Int) 1 = (V : Int) := by
        have e : ((a * 256 : Nat) : Int) / 256 = (a : Int) := by omega
        rw [← hm0, e]
      clear hV hl hm0 HF HC hf hVV
      go_enter Try.func9, Try.ntmps9
      go_wp2_with fail
      go_quiet (fail)
      go_wp2_with fail
      go_ret2
      exact ⟨HE.out, HD2.out _⟩
  · have hb1 : (8 : Int) * n < ((ι : Int) + 1) * 1 := by omega
    have HE := Lib.hid (SymE.no (l := l) (k := 1) (i := ι) w fun x => by
      obtain ⟨_, _, _, x4 | x4⟩ := x
      · omega
      · rw [hlen] at x4; omega)
    clear h hg
    go_enter Try.func9, Try.ntmps9
    go_wp2_with fail
    go_ret2
    exact HE.out
set_option maxHeartbeats 3200000 in
theorem symbol_2 (F : Nat → Prop) (w : World) (A : Option Addr) (n cap : Nat) (l : List Int) (h : BAt8 F w A n cap l) (hn : n ≤ 1000000) (ι : Nat) :
    Calls Try.prog 9 #[.slice A n cap, .int .i64 2, .int .i64 (ι : Nat)] w (SymE l 2 ι w) := by
  have hlen := h.len
  by_cases hg : (ι + 1) * 2 ≤ 8 * n
  · have hgI : ((ι : Int) + 1) * 2 ≤ 8 * (n : Int) := by omega
    obtain ⟨p, hp⟩ : ∃ p, ι * 2 / 8 = p := ⟨_, rfl⟩
    have hpn : p < n := by omega
    obtain ⟨b, o, rfl, _, hbl, hc⟩ := h.lies (by omega)
    have cp := hc p hpn
    have hb8 := h.bd
    rw [gN_int hb8] at cp
    have ha := gN_lt hb8 p
    have hbb := gN_lt hb8 (p + 1)
    obtain ⟨a, haa⟩ : ∃ a, gN l p = a := ⟨_, rfl⟩
    obtain ⟨b1, hb1⟩ : ∃ b1, gN l (p + 1) = b1 := ⟨_, rfl⟩
    have HC := Lib.hid (fun hp1 : p + 1 < n => (hc (p + 1) hp1).trans (by rw [gN_int hb8, hb1]))
    rw [haa] at cp ha
    rw [hb1] at hbb
    have hfit := h.fit
    have hmax := h.max
    unfold maxLen at hmax
    have HOK : Hid (symOk l 2 ι) := Lib.hid ⟨by omega, by omega, by omega, Or.inr (by rw [hlen]; omega)⟩
    have HD := Lib.hid (drew0 w)
    have HD2 := Lib.hid (fun m : Nat => (⟨m, rfl⟩ : ∃ n, w.drewN m = w.drewN n))
    have hpi : (ι : Int) * 2 / 8 = (p : Int) := by omega
    have HT : Hid (symT l p = a * 256 + b1) := Lib.hid (by unfold symT; rw [haa, hb1])
    have HF : Hid (∀ f, ι * 2 % 8 = f → symF l 2 ι = (a * 256 + b1) / 2 ^ (16 - f - 2) % 2 ^ 2) := Lib.hid (fun f hf => by unfold symF; rw [hp, hf, HT.out])
    have hfc : ι * 2 % 8 = 0 ∨ ι * 2 % 8 = 2 ∨ ι * 2 % 8 = 4 ∨ ι * 2 % 8 = 6 := by omega
    clear h hc haa hb1 hb8 hbl HT
    rcases hfc with hf | hf | hf | hf
    · have hfi : (ι : Int) * 2 % 8 = 0 := by omega
      have hV := HF.out 0 hf
      obtain ⟨V, hVV⟩ : ∃ V, (a * 256 + b1) / 2 ^ 14 % 2 ^ 2 = V := ⟨_, rfl⟩
      have HE : Hid (SymV l 2 ι (.returned (.tuple #[.int .i64 (V : Nat), .bool true]))) := Lib.hid (Or.inl ⟨HOK.out, by
        rw [show Int.toNat 2 = 2 from rfl, Int.toNat_natCast, hV.trans hVV]⟩)
      have hl := low_byte a b1 14 6 hbb rfl 2
      have hm0 := mask_L (a * 256) (by omega) 16384 3 14 2 (by decide) (by decide) (by decide) V (hl.trans hVV)
      have hm : bits .and .i64 ((a : Int) * 256 / 16384) 3 = (V : Int) := by rw [← hm0]; simp
      clear hV hl hm0 HF HC hf hVV
      go_enter Try.func9, Try.ntmps9
      go_wp2_with fail
      go_quiet (fail)
      go_wp2_with fail
      go_ret2
      exact ⟨HE.out, HD2.out _⟩
    · have hfi : (ι : Int) * 2 % 8 = 2 := by omega
      have hV := HF.out 2 hf
      obtain ⟨V, hVV⟩ : ∃ V, (a * 256 + b1) / 2 ^ 12 % 2 ^ 2 = V := ⟨_, rfl⟩
      have HE : Hid (SymV l 2 ι (.returned (.tuple #[.int .i64 (V : Nat), .bool true]))) := Lib.hid (Or.inl ⟨HOK.out, by
        rw [show Int.toNat 2 = 2 from rfl, Int.toNat_natCast, hV.trans hVV]⟩)
      have hl := low_byte a b1 12 4 hbb rfl 2
      have hm0 := mask_L (a * 256) (by omega) 4096 3 12 2 (by decide) (by decide) (by decide) V (hl.trans hVV)
      have hm : bits .and .i64 ((a : Int) * 256 / 4096) 3 = (V : Int) := by rw [← hm0]; simp
      clear hV hl hm0 HF HC hf hVV
      go_enter Try.func9, Try.ntmps9
      go_wp2_with fail
      go_quiet (fail)
      go_wp2_with fail
      go_ret2
      exact ⟨HE.out, HD2.out _⟩
    · have hfi : (ι : Int) * 2 % 8 = 4 := by omega
      have hV := HF.out 4 hf
      obtain ⟨V, hVV⟩ : ∃ V, (a * 256 + b1) / 2 ^ 10 % 2 ^ 2 = V := ⟨_, rfl⟩
      have HE : Hid (SymV l 2 ι (.returned (.tuple #[.int .i64 (V : Nat), .bool true]))) := Lib.hid (Or.inl ⟨HOK.out, by
        rw [show Int.toNat 2 = 2 from rfl, Int.toNat_natCast, hV.trans hVV]⟩)
      have hl := low_byte a b1 10 2 hbb rfl 2
      have hm0 := mask_L (a * 256) (by omega) 1024 3 10 2 (by decide) (by decide) (by decide) V (hl.trans hVV)
      have hm : bits .and .i64 ((a : Int) * 256 / 1024) 3 = (V : Int) := by rw [← hm0]; simp
      clear hV hl hm0 HF HC hf hVV
      go_enter Try.func9, Try.ntmps9
      go_wp2_with fail
      go_quiet (fail)
      go_wp2_with fail
      go_ret2
      exact ⟨HE.out, HD2.out _⟩
    · have hfi : (ι : Int) * 2 % 8 = 6 := by omega
      have hV := HF.out 6 hf
      obtain ⟨V, hVV⟩ : ∃ V, (a * 256 + b1) / 2 ^ 8 % 2 ^ 2 = V := ⟨_, rfl⟩
      have HE : Hid (SymV l 2 ι (.returned (.tuple #[.int .i64 (V : Nat), .bool true]))) := Lib.hid (Or.inl ⟨HOK.out, by
        rw [show Int.toNat 2 = 2 from rfl, Int.toNat_natCast, hV.trans hVV]⟩)
      have hl := low_byte a b1 8 0 hbb rfl 2
      have hm0 := mask_L (a * 256) (by omega) 256 3 8 2 (by decide) (by decide) (by decide) V (hl.trans hVV)
      have hm : bits .and .i64 (a : Int) 3 = (V : Int) := by
        have e : ((a * 256 : Nat) : Int) / 256 = (a : Int) := by omega
        rw [← hm0, e]
      clear hV hl hm0 HF HC hf hVV
      go_enter Try.func9, Try.ntmps9
      go_wp2_with fail
      go_quiet (fail)
      go_wp2_with fail
      go_ret2
      exact ⟨HE.out, HD2.out _⟩
  · have hb1 : (8 : Int) * n < ((ι : Int) + 1) * 2 := by omega
    have HE := Lib.hid (SymE.no (l := l) (k := 2) (i := ι) w fun x => by
      obtain ⟨_, _, _, x4 | x4⟩ := x
      · omega
      · rw [hlen] at x4; omega)
    clear h hg
    go_enter Try.func9, Try.ntmps9
    go_wp2_with fail
    go_ret2
    exact HE.out
set_option maxHeartbeats 3200000 in
theorem symbol_3 (F : Nat → Prop) (w : World) (A : Option Addr) (n cap : Nat) (l : List Int) (h : BAt8 F w A n cap l) (hn : n ≤ 1000000) (ι : Nat) :
    Calls Try.prog 9 #[.slice A n cap, .int .i64 3, .int .i64 (ι : Nat)] w (SymE l 3 ι w) := by
  have hlen := h.len
  by_cases hg : (ι + 1) * 3 ≤ 8 * n
  · have hgI : ((ι : Int) + 1) * 3 ≤ 8 * (n : Int) := by omega
    obtain ⟨p, hp⟩ : ∃ p, ι * 3 / 8 = p := ⟨_, rfl⟩
    have hpn : p < n := by omega
    obtain ⟨b, o, rfl, _, hbl, hc⟩ := h.lies (by omega)
    have cp := hc p hpn
    have hb8 := h.bd
    rw [gN_int hb8] at cp
    have ha := gN_lt hb8 p
    have hbb := gN_lt hb8 (p + 1)
    obtain ⟨a, haa⟩ : ∃ a, gN l p = a := ⟨_, rfl⟩
    obtain ⟨b1, hb1⟩ : ∃ b1, gN l (p + 1) = b1 := ⟨_, rfl⟩
    have HC := Lib.hid (fun hp1 : p + 1 < n => (hc (p + 1) hp1).trans (by rw [gN_int hb8, hb1]))
    rw [haa] at cp ha
    rw [hb1] at hbb
    have hfit := h.fit
    have hmax := h.max
    unfold maxLen at hmax
    have HOK : Hid (symOk l 3 ι) := Lib.hid ⟨by omega, by omega, by omega, Or.inr (by rw [hlen]; omega)⟩
    have HD := Lib.hid (drew0 w)
    have HD2 := Lib.hid (fun m : Nat => (⟨m, rfl⟩ : ∃ n, w.drewN m = w.drewN n))
    have hpi : (ι : Int) * 3 / 8 = (p : Int) := by omega
    have HT : Hid (symT l p = a * 256 + b1) := Lib.hid (by unfold symT; rw [haa, hb1])
    have HF : Hid (∀ f, ι * 3 % 8 = f → symF l 3 ι = (a * 256 + b1) / 2 ^ (16 - f - 3) % 2 ^ 3) := Lib.hid (fun f hf => by unfold symF; rw [hp, hf, HT.out])
    have hfc : ι * 3 % 8 = 0 ∨ ι * 3 % 8 = 1 ∨ ι * 3 % 8 = 2 ∨ ι * 3 % 8 = 3 ∨ ι * 3 % 8 = 4 ∨ ι * 3 % 8 = 5 ∨ ι * 3 % 8 = 6 ∨ ι * 3 % 8 = 7 := by omega
    clear h hc haa hb1 hb8 hbl HT
    rcases hfc with hf | hf | hf | hf | hf | hf | hf | hf
    · have hfi : (ι : Int) * 3 % 8 = 0 := by omega
      have hV := HF.out 0 hf
      obtain ⟨V, hVV⟩ : ∃ V, (a * 256 + b1) / 2 ^ 13 % 2 ^ 3 = V := ⟨_, rfl⟩
      have HE : Hid (SymV l 3 ι (.returned (.tuple #[.int .i64 (V : Nat), .bool true]))) := Lib.hid (Or.inl ⟨HOK.out, by
        rw [show Int.toNat 3 = 3 from rfl, Int.toNat_natCast, hV.trans hVV]⟩)
      have hl := low_byte a b1 13 5 hbb rfl 3
      have hm0 := mask_L (a * 256) (by omega) 8192 7 13 3 (by decide) (by decide) (by decide) V (hl.trans hVV)
      have hm : bits .and .i64 ((a : Int) * 256 / 8192) 7 = (V : Int) := by rw [← hm0]; simp
      clear hV hl hm0 HF HC hf hVV
      go_enter Try.func9, Try.ntmps9
      go_wp2_with fail
      go_quiet (fail)
      go_wp2_with fail
      go_ret2
      exact ⟨HE.out, HD2.out _⟩
    · have hfi : (ι : Int) * 3 % 8 = 1 := by omega
      have hV := HF.out 1 hf
      obtain ⟨V, hVV⟩ : ∃ V, (a * 256 + b1) / 2 ^ 12 % 2 ^ 3 = V := ⟨_, rfl⟩
      have HE : Hid (SymV l 3 ι (.returned (.tuple #[.int .i64 (V : Nat), .bool true]))) := Lib.hid (Or.inl ⟨HOK.out, by
        rw [show Int.toNat 3 = 3 from rfl, Int.toNat_natCast, hV.trans hVV]⟩)
      have hl := low_byte a b1 12 4 hbb rfl 3
      have hm0 := mask_L (a * 256) (by omega) 4096 7 12 3 (by decide) (by decide) (by decide) V (hl.trans hVV)
      have hm : bits .and .i64 ((a : Int) * 256 / 4096) 7 = (V : Int) := by rw [← hm0]; simp
      clear hV hl hm0 HF HC hf hVV
      go_enter Try.func9, Try.ntmps9
      go_wp2_with fail
      go_quiet (fail)
      go_wp2_with fail
      go_ret2
      exact ⟨HE.out, HD2.out _⟩
    · have hfi : (ι : Int) * 3 % 8 = 2 := by omega
      have hV := HF.out 2 hf
      obtain ⟨V, hVV⟩ : ∃ V, (a * 256 + b1) / 2 ^ 11 % 2 ^ 3 = V := ⟨_, rfl⟩
      have HE : Hid (SymV l 3 ι (.returned (.tuple #[.int .i64 (V : Nat), .bool true]))) := Lib.hid (Or.inl ⟨HOK.out, by
        rw [show Int.toNat 3 = 3 from rfl, Int.toNat_natCast, hV.trans hVV]⟩)
      have hl := low_byte a b1 11 3 hbb rfl 3
      have hm0 := mask_L (a * 256) (by omega) 2048 7 11 3 (by decide) (by decide) (by decide) V (hl.trans hVV)
      have hm : bits .and .i64 ((a : Int) * 256 / 2048) 7 = (V : Int) := by rw [← hm0]; simp
      clear hV hl hm0 HF HC hf hVV
      go_enter Try.func9, Try.ntmps9
      go_wp2_with fail
      go_quiet (fail)
      go_wp2_with fail
      go_ret2
      exact ⟨HE.out, HD2.out _⟩
    · have hfi : (ι : Int) * 3 % 8 = 3 := by omega
      have hV := HF.out 3 hf
      obtain ⟨V, hVV⟩ : ∃ V, (a * 256 + b1) / 2 ^ 10 % 2 ^ 3 = V := ⟨_, rfl⟩
      have HE : Hid (SymV l 3 ι (.returned (.tuple #[.int .i64 (V : Nat), .bool true]))) := Lib.hid (Or.inl ⟨HOK.out, by
        rw [show Int.toNat 3 = 3 from rfl, Int.toNat_natCast, hV.trans hVV]⟩)
      have hl := low_byte a b1 10 2 hbb rfl 3
      have hm0 := mask_L (a * 256) (by omega) 1024 7 10 3 (by decide) (by decide) (by decide) V (hl.trans hVV)
      have hm : bits .and .i64 ((a : Int) * 256 / 1024) 7 = (V : Int) := by rw [← hm0]; simp
      clear hV hl hm0 HF HC hf hVV
      go_enter Try.func9, Try.ntmps9
      go_wp2_with fail
      go_quiet (fail)
      go_wp2_with fail
      go_ret2
      exact ⟨HE.out, HD2.out _⟩
    · have hfi : (ι : Int) * 3 % 8 = 4 := by omega
      have hV := HF.out 4 hf
      obtain ⟨V, hVV⟩ : ∃ V, (a * 256 + b1) / 2 ^ 9 % 2 ^ 3 = V := ⟨_, rfl⟩
      have HE : Hid (SymV l 3 ι (.returned (.tuple #[.int .i64 (V : Nat), .bool true]))) := Lib.hid (Or.inl ⟨HOK.out, by
        rw [show Int.toNat 3 = 3 from rfl, Int.toNat_natCast, hV.trans hVV]⟩)
      have hl := low_byte a b1 9 1 hbb rfl 3
      have hm0 := mask_L (a * 256) (by omega) 512 7 9 3 (by decide) (by decide) (by decide) V (hl.trans hVV)
      have hm : bits .and .i64 ((a : Int) * 256 / 512) 7 = (V : Int) := by rw [← hm0]; simp
      clear hV hl hm0 HF HC hf hVV
      go_enter Try.func9, Try.ntmps9
      go_wp2_with fail
      go_quiet (fail)
      go_wp2_with fail
      go_ret2
      exact ⟨HE.out, HD2.out _⟩
    · have hfi : (ι : Int) * 3 % 8 = 5 := by omega
      have hV := HF.out 5 hf
      obtain ⟨V, hVV⟩ : ∃ V, (a * 256 + b1) / 2 ^ 8 % 2 ^ 3 = V := ⟨_, rfl⟩
      have HE : Hid (SymV l 3 ι (.returned (.tuple #[.int .i64 (V : Nat), .bool true]))) := Lib.hid (Or.inl ⟨HOK.out, by
        rw [show Int.toNat 3 = 3 from rfl, Int.toNat_natCast, hV.trans hVV]⟩)
      have hl := low_byte a b1 8 0 hbb rfl 3
      have hm0 := mask_L (a * 256) (by omega) 256 7 8 3 (by decide) (by decide) (by decide) V (hl.trans hVV)
      have hm : bits .and .i64 (a : Int) 7 = (V : Int) := by
        have e : ((a * 256 : Nat) : Int) / 256 = (a : Int) := by omega
        rw [← hm0, e]
      clear hV hl hm0 HF HC hf hVV
      go_enter Try.func9, Try.ntmps9
      go_wp2_with fail
      go_quiet (fail)
      go_wp2_with fail
      go_ret2
      exact ⟨HE.out, HD2.out _⟩
    · have hfi : (ι : Int) * 3 % 8 = 6 := by omega
      have hV := HF.out 6 hf
      obtain ⟨V, hVV⟩ : ∃ V, (a * 256 + b1) / 2 ^ 7 % 2 ^ 3 = V := ⟨_, rfl⟩
      have HE : Hid (SymV l 3 ι (.returned (.tuple #[.int .i64 (V : Nat), .bool true]))) := Lib.hid (Or.inl ⟨HOK.out, by
        rw [show Int.toNat 3 = 3 from rfl, Int.toNat_natCast, hV.trans hVV]⟩)
      have cq := HC.out (by omega)
      have hor := or_bytes a b1 ha hbb
      obtain ⟨T, hT⟩ : ∃ T, a * 256 + b1 = T := ⟨_, rfl⟩
      rw [hT] at hor hVV
      have hm := mask_L T (by omega) 128 7 7 3 (by decide) (by decide) (by decide) V hVV
      clear hV hT HF HC hf hVV
      go_enter Try.func9, Try.ntmps9
      go_wp2_with fail
      go_quiet (fail)
      go_wp2_with fail
      go_ret2
      exact ⟨HE.out, HD2.out _⟩
    · have hfi : (ι : Int) * 3 % 8 = 7 := by omega
      have hV := HF.out 7 hf
      obtain ⟨V, hVV⟩ : ∃ V, (a * 256 + b1) / 2 ^ 6 % 2 ^ 3 = V := ⟨_, rfl⟩
      have HE : Hid (SymV l 3 ι (.returned (.tuple #[.int .i64 (V : Nat), .bool true]))) := Lib.hid (Or.inl ⟨HOK.out, by
        rw [show Int.toNat 3 = 3 from rfl, Int.toNat_natCast, hV.trans hVV]⟩)
      have cq := HC.out (by omega)
      have hor := or_bytes a b1 ha hbb
      obtain ⟨T, hT⟩ : ∃ T, a * 256 + b1 = T := ⟨_, rfl⟩
      rw [hT] at hor hVV
      have hm := mask_L T (by omega) 64 7 6 3 (by decide) (by decide) (by decide) V hVV
      clear hV hT HF HC hf hVV
      go_enter Try.func9, Try.ntmps9
      go_wp2_with fail
      go_quiet (fail)
      go_wp2_with fail
      go_ret2
      exact ⟨HE.out, HD2.out _⟩
  · have hb1 : (8 : Int) * n < ((ι : Int) + 1) * 3 := by omega
    have HE := Lib.hid (SymE.no (l := l) (k := 3) (i := ι) w fun x => by
      obtain ⟨_, _, _, x4 | x4⟩ := x
      · omega
      · rw [hlen] at x4; omega)
    clear h hg
    go_enter Try.func9, Try.ntmps9
    go_wp2_with fail
    go_ret2
    exact HE.out
set_option maxHeartbeats 3200000 in
theorem symbol_4 (F : Nat → Prop) (w : World) (A : Option Addr) (n cap : Nat) (l : List Int) (h : BAt8 F w A n cap l) (hn : n ≤ 1000000) (ι : Nat) :
    Calls Try.prog 9 #[.slice A n cap, .int .i64 4, .int .i64 (ι : Nat)] w (SymE l 4 ι w) := by
  have hlen := h.len
  by_cases hg : (ι + 1) * 4 ≤ 8 * n
  · have hgI : ((ι : Int) + 1) * 4 ≤ 8 * (n : Int) := by omega
    obtain ⟨p, hp⟩ : ∃ p, ι * 4 / 8 = p := ⟨_, rfl⟩
    have hpn : p < n := by omega
    obtain ⟨b, o, rfl, _, hbl, hc⟩ := h.lies (by omega)
    have cp := hc p hpn
    have hb8 := h.bd
    rw [gN_int hb8] at cp
    have ha := gN_lt hb8 p
    have hbb := gN_lt hb8 (p + 1)
    obtain ⟨a, haa⟩ : ∃ a, gN l p = a := ⟨_, rfl⟩
    obtain ⟨b1, hb1⟩ : ∃ b1, gN l (p + 1) = b1 := ⟨_, rfl⟩
    have HC := Lib.hid (fun hp1 : p + 1 < n => (hc (p + 1) hp1).trans (by rw [gN_int hb8, hb1]))
    rw [haa] at cp ha
    rw [hb1] at hbb
    have hfit := h.fit
    have hmax := h.max
    unfold maxLen at hmax
    have HOK : Hid (symOk l 4 ι) := Lib.hid ⟨by omega, by omega, by omega, Or.inr (by rw [hlen]; omega)⟩
    have HD := Lib.hid (drew0 w)
    have HD2 := Lib.hid (fun m : Nat => (⟨m, rfl⟩ : ∃ n, w.drewN m = w.drewN n))
    have hpi : (ι : Int) * 4 / 8 = (p : Int) := by omega
    have HT : Hid (symT l p = a * 256 + b1) := Lib.hid (by unfold symT; rw [haa, hb1])
    have HF : Hid (∀ f, ι * 4 % 8 = f → symF l 4 ι = (a * 256 + b1) / 2 ^ (16 - f - 4) % 2 ^ 4) := Lib.hid (fun f hf => by unfold symF; rw [hp, hf, HT.out])
    have hfc : ι * 4 % 8 = 0 ∨ ι * 4 % 8 = 4 := by omega
    clear h hc haa hb1 hb8 hbl HT
    rcases hfc with hf | hf
    · have hfi : (ι : Int) * 4 % 8 = 0 := by omega
      have hV := HF.out 0 hf
      obtain ⟨V, hVV⟩ : ∃ V, (a * 256 + b1) / 2 ^ 12 % 2 ^ 4 = V := ⟨_, rfl⟩
      have HE : Hid (SymV l 4 ι (.returned (.tuple #[.int .i64 (V : Nat), .bool true]))) := Lib.hid (Or.inl ⟨HOK.out, by
        rw [show Int.toNat 4 = 4 from rfl, Int.toNat_natCast, hV.trans hVV]⟩)
      have hl := low_byte a b1 12 4 hbb rfl 4
      have hm0 := mask_L (a * 256) (by omega) 4096 15 12 4 (by decide) (by decide) (by decide) V (hl.trans hVV)
      have hm : bits .and .i64 ((a : Int) * 256 / 4096) 15 = (V : Int) := by rw [← hm0]; simp
      clear hV hl hm0 HF HC hf hVV
      go_enter Try.func9, Try.ntmps9
      go_wp2_with fail
      go_quiet (fail)
      go_wp2_with fail
      go_ret2
      exact ⟨HE.out, HD2.out _⟩
    · have hfi : (ι : Int) * 4 % 8 = 4 := by omega
      have hV := HF.out 4 hf
      obtain ⟨V, hVV⟩ : ∃ V, (a * 256 + b1) / 2 ^ 8 % 2 ^ 4 = V := ⟨_, rfl⟩
      have HE : Hid (SymV l 4 ι (.returned (.tuple #[.int .i64 (V : Nat), .bool true]))) := Lib.hid (Or.inl ⟨HOK.out, by
        rw [show Int.toNat 4 = 4 from rfl, Int.toNat_natCast, hV.trans hVV]⟩)
      have hl := low_byte a b1 8 0 hbb rfl 4
      have hm0 := mask_L (a * 256) (by omega) 256 15 8 4 (by decide) (by decide) (by decide) V (hl.trans hVV)
      have hm : bits .and .i64 (a : Int) 15 = (V : Int) := by
        have e : ((a * 256 : Nat) : Int) / 256 = (a : Int) := by omega
        rw [← hm0, e]
      clear hV hl hm0 HF HC hf hVV
      go_enter Try.func9, Try.ntmps9
      go_wp2_with fail
      go_quiet (fail)
      go_wp2_with fail
      go_ret2
      exact ⟨HE.out, HD2.out _⟩
  · have hb1 : (8 : Int) * n < ((ι : Int) + 1) * 4 := by omega
    have HE := Lib.hid (SymE.no (l := l) (k := 4) (i := ι) w fun x => by
      obtain ⟨_, _, _, x4 | x4⟩ := x
      · omega
      · rw [hlen] at x4; omega)
    clear h hg
    go_enter Try.func9, Try.ntmps9
    go_wp2_with fail
    go_ret2
    exact HE.out
set_option maxHeartbeats 3200000 in
theorem symbol_5 (F : Nat → Prop) (w : World) (A : Option Addr) (n cap : Nat) (l : List Int) (h : BAt8 F w A n cap l) (hn : n ≤ 1000000) (ι : Nat) :
    Calls Try.prog 9 #[.slice A n cap, .int .i64 5, .int .i64 (ι : Nat)] w (SymE l 5 ι w) := by
  have hlen := h.len
  by_cases hg : (ι + 1) * 5 ≤ 8 * n
  · have hgI : ((ι : Int) + 1) * 5 ≤ 8 * (n : Int) := by omega
    obtain ⟨p, hp⟩ : ∃ p, ι * 5 / 8 = p := ⟨_, rfl⟩
    have hpn : p < n := by omega
    obtain ⟨b, o, rfl, _, hbl, hc⟩ := h.lies (by omega)
    have cp := hc p hpn
    have hb8 := h.bd
    rw [gN_int hb8] at cp
    have ha := gN_lt hb8 p
    have hbb := gN_lt hb8 (p + 1)
    obtain ⟨a, haa⟩ : ∃ a, gN l p = a := ⟨_, rfl⟩
    obtain ⟨b1, hb1⟩ : ∃ b1, gN l (p + 1) = b1 := ⟨_, rfl⟩
    have HC := Lib.hid (fun hp1 : p + 1 < n => (hc (p + 1) hp1).trans (by rw [gN_int hb8, hb1]))
    rw [haa] at cp ha
    rw [hb1] at hbb
    have hfit := h.fit
    have hmax := h.max
    unfold maxLen at hmax
    have HOK : Hid (symOk l 5 ι) := Lib.hid ⟨by omega, by omega, by omega, Or.inr (by rw [hlen]; omega)⟩
    have HD := Lib.hid (drew0 w)
    have HD2 := Lib.hid (fun m : Nat => (⟨m, rfl⟩ : ∃ n, w.drewN m = w.drewN n))
    have hpi : (ι : Int) * 5 / 8 = (p : Int) := by omega
    have HT : Hid (symT l p = a * 256 + b1) := Lib.hid (by unfold symT; rw [haa, hb1])
    have HF : Hid (∀ f, ι * 5 % 8 = f → symF l 5 ι = (a * 256 + b1) / 2 ^ (16 - f - 5) % 2 ^ 5) := Lib.hid (fun f hf => by unfold symF; rw [hp, hf, HT.out])
    have hfc : ι * 5 % 8 = 0 ∨ ι * 5 % 8 = 1 ∨ ι * 5 % 8 = 2 ∨ ι * 5 % 8 = 3 ∨ ι * 5 % 8 = 4 ∨ ι * 5 % 8 = 5 ∨ ι * 5 % 8 = 6 ∨ ι * 5 % 8 = 7 := by omega
    clear h hc haa hb1 hb8 hbl HT
    rcases hfc with hf | hf | hf | hf | hf | hf | hf | hf
    · have hfi : (ι : Int) * 5 % 8 = 0 := by omega
      have hV := HF.out 0 hf
      obtain ⟨V, hVV⟩ : ∃ V, (a * 256 + b1) / 2 ^ 11 % 2 ^ 5 = V := ⟨_, rfl⟩
      have HE : Hid (SymV l 5 ι (.returned (.tuple #[.int .i64 (V : Nat), .bool true]))) := Lib.hid (Or.inl ⟨HOK.out, by
        rw [show Int.toNat 5 = 5 from rfl, Int.toNat_natCast, hV.trans hVV]⟩)
      have hl := low_byte a b1 11 3 hbb rfl 5
      have hm0 := mask_L (a * 256) (by omega) 2048 31 11 5 (by decide) (by decide) (by decide) V (hl.trans hVV)
      have hm : bits .and .i64 ((a : Int) * 256 / 2048) 31 = (V : Int) := by rw [← hm0]; simp
      clear hV hl hm0 HF HC hf hVV
      go_enter Try.func9, Try.ntmps9
      go_wp2_with fail
      go_quiet (fail)
      go_wp2_with fail
      go_ret2
      exact ⟨HE.out, HD2.out _⟩
    · have hfi : (ι : Int) * 5 % 8 = 1 := by omega
      have hV := HF.out 1 hf
      obtain ⟨V, hVV⟩ : ∃ V, (a * 256 + b1) / 2 ^ 10 % 2 ^ 5 = V := ⟨_, rfl⟩
      have HE : Hid (SymV l 5 ι (.returned (.tuple #[.int .i64 (V : Nat), .bool true]))) := Lib.hid (Or.inl ⟨HOK.out, by
        rw [show Int.toNat 5 = 5 from rfl, Int.toNat_natCast, hV.trans hVV]⟩)
      have hl := low_byte a b1 10 2 hbb rfl 5
      have hm0 := mask_L (a * 256) (by omega) 1024 31 10 5 (by decide) (by decide) (by decide) V (hl.trans hVV)
      have hm : bits .and .i64 ((a : Int) * 256 / 1024) 31 = (V : Int) := by rw [← hm0]; simp
      clear hV hl hm0 HF HC hf hVV
      go_enter Try.func9, Try.ntmps9
      go_wp2_with fail
      go_quiet (fail)
      go_wp2_with fail
      go_ret2
      exact ⟨HE.out, HD2.out _⟩
    · have hfi : (ι : Int) * 5 % 8 = 2 := by omega
      have hV := HF.out 2 hf
      obtain ⟨V, hVV⟩ : ∃ V, (a * 256 + b1) / 2 ^ 9 % 2 ^ 5 = V := ⟨_, rfl⟩
      have HE : Hid (SymV l 5 ι (.returned (.tuple #[.int .i64 (V : Nat), .bool true]))) := Lib.hid (Or.inl ⟨HOK.out, by
        rw [show Int.toNat 5 = 5 from rfl, Int.toNat_natCast, hV.trans hVV]⟩)
      have hl := low_byte a b1 9 1 hbb rfl 5
      have hm0 := mask_L (a * 256) (by omega) 512 31 9 5 (by decide) (by decide) (by decide) V (hl.trans hVV)
      have hm : bits .and .i64 ((a : Int) * 256 / 512) 31 = (V : Int) := by rw [← hm0]; simp
      clear hV hl hm0 HF HC hf hVV
      go_enter Try.func9, Try.ntmps9
      go_wp2_with fail
      go_quiet (fail)
      go_wp2_with fail
      go_ret2
      exact ⟨HE.out, HD2.out _⟩
    · have hfi : (ι : Int) * 5 % 8 = 3 := by omega
      have hV := HF.out 3 hf
      obtain ⟨V, hVV⟩ : ∃ V, (a * 256 + b1) / 2 ^ 8 % 2 ^ 5 = V := ⟨_, rfl⟩
      have HE : Hid (SymV l 5 ι (.returned (.tuple #[.int .i64 (V : Nat), .bool true]))) := Lib.hid (Or.inl ⟨HOK.out, by
        rw [show Int.toNat 5 = 5 from rfl, Int.toNat_natCast, hV.trans hVV]⟩)
      have hl := low_byte a b1 8 0 hbb rfl 5
      have hm0 := mask_L (a * 256) (by omega) 256 31 8 5 (by decide) (by decide) (by decide) V (hl.trans hVV)
      have hm : bits .and .i64 (a : Int) 31 = (V : Int) := by
        have e : ((a * 256 : Nat) : Int) / 256 = (a : Int) := by omega
        rw [← hm0, e]
      clear hV hl hm0 HF HC hf hVV
      go_enter Try.func9, Try.ntmps9
      go_wp2_with fail
      go_quiet (fail)
      go_wp2_with fail
      go_ret2
      exact ⟨HE.out, HD2.out _⟩
    · have hfi : (ι : Int) * 5 % 8 = 4 := by omega
      have hV := HF.out 4 hf
      obtain ⟨V, hVV⟩ : ∃ V, (a * 256 + b1) / 2 ^ 7 % 2 ^ 5 = V := ⟨_, rfl⟩
      have HE : Hid (SymV l 5 ι (.returned (.tuple #[.int .i64 (V : Nat), .bool true]))) := Lib.hid (Or.inl ⟨HOK.out, by
        rw [show Int.toNat 5 = 5 from rfl, Int.toNat_natCast, hV.trans hVV]⟩)
      have cq := HC.out (by omega)
      have hor := or_bytes a b1 ha hbb
      obtain ⟨T, hT⟩ : ∃ T, a * 256 + b1 = T := ⟨_, rfl⟩
      rw [hT] at hor hVV
      have hm := mask_L T (by omega) 128 31 7 5 (by decide) (by decide) (by decide) V hVV
      clear hV hT HF HC hf hVV
      go_enter Try.func9, Try.ntmps9
      go_wp2_with fail
      go_quiet (fail)
      go_wp2_with fail
      go_ret2
      exact ⟨HE.out, HD2.out _⟩
    · have hfi : (ι : Int) * 5 % 8 = 5 := by omega
      have hV := HF.out 5 hf
      obtain ⟨V, hVV⟩ : ∃ V, (a * 256 + b1) / 2 ^ 6 % 2 ^ 5 = V := ⟨_, rfl⟩
      have HE : Hid (SymV l 5 ι (.returned (.tuple #[.int .i64 (V : Nat), .bool true]))) := Lib.hid (Or.inl ⟨HOK.out, by
        rw [show Int.toNat 5 = 5 from rfl, Int.toNat_natCast, hV.trans hVV]⟩)
      have cq := HC.out (by omega)
      have hor := or_bytes a b1 ha hbb
      obtain ⟨T, hT⟩ : ∃ T, a * 256 + b1 = T := ⟨_, rfl⟩
      rw [hT] at hor hVV
      have hm := mask_L T (by omega) 64 31 6 5 (by decide) (by decide) (by decide) V hVV
      clear hV hT HF HC hf hVV
      go_enter Try.func9, Try.ntmps9
      go_wp2_with fail
      go_quiet (fail)
      go_wp2_with fail
      go_ret2
      exact ⟨HE.out, HD2.out _⟩
    · have hfi : (ι : Int) * 5 % 8 = 6 := by omega
      have hV := HF.out 6 hf
      obtain ⟨V, hVV⟩ : ∃ V, (a * 256 + b1) / 2 ^ 5 % 2 ^ 5 = V := ⟨_, rfl⟩
      have HE : Hid (SymV l 5 ι (.returned (.tuple #[.int .i64 (V : Nat), .bool true]))) := Lib.hid (Or.inl ⟨HOK.out, by
        rw [show Int.toNat 5 = 5 from rfl, Int.toNat_natCast, hV.trans hVV]⟩)
      have cq := HC.out (by omega)
      have hor := or_bytes a b1 ha hbb
      obtain ⟨T, hT⟩ : ∃ T, a * 256 + b1 = T := ⟨_, rfl⟩
      rw [hT] at hor hVV
      have hm := mask_L T (by omega) 32 31 5 5 (by decide) (by decide) (by decide) V hVV
      clear hV hT HF HC hf hVV
      go_enter Try.func9, Try.ntmps9
      go_wp2_with fail
      go_quiet (fail)
      go_wp2_with fail
      go_ret2
      exact ⟨HE.out, HD2.out _⟩
    · have hfi : (ι : Int) * 5 % 8 = 7 := by omega
      have hV := HF.out 7 hf
      obtain ⟨V, hVV⟩ : ∃ V, (a * 256 + b1) / 2 ^ 4 % 2 ^ 5 = V := ⟨_, rfl⟩
      have HE : Hid (SymV l 5 ι (.returned (.tuple #[.int .i64 (V : Nat), .bool true]))) := Lib.hid (Or.inl ⟨HOK.out, by
        rw [show Int.toNat 5 = 5 from rfl, Int.toNat_natCast, hV.trans hVV]⟩)
      have cq := HC.out (by omega)
      have hor := or_bytes a b1 ha hbb
      obtain ⟨T, hT⟩ : ∃ T, a * 256 + b1 = T := ⟨_, rfl⟩
      rw [hT] at hor hVV
      have hm := mask_L T (by omega) 16 31 4 5 (by decide) (by decide) (by decide) V hVV
      clear hV hT HF HC hf hVV
      go_enter Try.func9, Try.ntmps9
      go_wp2_with fail
      go_quiet (fail)
      go_wp2_with fail
      go_ret2
      exact ⟨HE.out, HD2.out _⟩
  · have hb1 : (8 : Int) * n < ((ι : Int) + 1) * 5 := by omega
    have HE := Lib.hid (SymE.no (l := l) (k := 5) (i := ι) w fun x => by
      obtain ⟨_, _, _, x4 | x4⟩ := x
      · omega
      · rw [hlen] at x4; omega)
    clear h hg
    go_enter Try.func9, Try.ntmps9
    go_wp2_with fail
    go_ret2
    exact HE.out
set_option maxHeartbeats 3200000 in
theorem symbol_6 (F : Nat → Prop) (w : World) (A : Option Addr) (n cap : Nat) (l : List Int) (h : BAt8 F w A n cap l) (hn : n ≤ 1000000) (ι : Nat) :
    Calls Try.prog 9 #[.slice A n cap, .int .i64 6, .int .i64 (ι : Nat)] w (SymE l 6 ι w) := by
  have hlen := h.len
  by_cases hg : (ι + 1) * 6 ≤ 8 * n
  · have hgI : ((ι : Int) + 1) * 6 ≤ 8 * (n : Int) := by omega
    obtain ⟨p, hp⟩ : ∃ p, ι * 6 / 8 = p := ⟨_, rfl⟩
    have hpn : p < n := by omega
    obtain ⟨b, o, rfl, _, hbl, hc⟩ := h.lies (by omega)
    have cp := hc p hpn
    have hb8 := h.bd
    rw [gN_int hb8] at cp
    have ha := gN_lt hb8 p
    have hbb := gN_lt hb8 (p + 1)
    obtain ⟨a, haa⟩ : ∃ a, gN l p = a := ⟨_, rfl⟩
    obtain ⟨b1, hb1⟩ : ∃ b1, gN l (p + 1) = b1 := ⟨_, rfl⟩
    have HC := Lib.hid (fun hp1 : p + 1 < n => (hc (p + 1) hp1).trans (by rw [gN_int hb8, hb1]))
    rw [haa] at cp ha
    rw [hb1] at hbb
    have hfit := h.fit
    have hmax := h.max
    unfold maxLen at hmax
    have HOK : Hid (symOk l 6 ι) := Lib.hid ⟨by omega, by omega, by omega, Or.inr (by rw [hlen]; omega)⟩
    have HD := Lib.hid (drew0 w)
    have HD2 := Lib.hid (fun m : Nat => (⟨m, rfl⟩ : ∃ n, w.drewN m = w.drewN n))
    have hpi : (ι : Int) * 6 / 8 = (p : Int) := by omega
    have HT : Hid (symT l p = a * 256 + b1) := Lib.hid (by unfold symT; rw [haa, hb1])
    have HF : Hid (∀ f, ι * 6 % 8 = f → symF l 6 ι = (a * 256 + b1) / 2 ^ (16 - f - 6) % 2 ^ 6) := Lib.hid (fun f hf => by unfold symF; rw [hp, hf, HT.out])
    have hfc : ι * 6 % 8 = 0 ∨ ι * 6 % 8 = 2 ∨ ι * 6 % 8 = 4 ∨ ι * 6 % 8 = 6 := by omega
    clear h hc haa hb1 hb8 hbl HT
    rcases hfc with hf | hf | hf | hf
    · have hfi : (ι : Int) * 6 % 8 = 0 := by omega
      have hV := HF.out 0 hf
      obtain ⟨V, hVV⟩ : ∃ V, (a * 256 + b1) / 2 ^ 10 % 2 ^ 6 = V := ⟨_, rfl⟩
      have HE : Hid (SymV l 6 ι (.returned (.tuple #[.int .i64 (V : Nat), .bool true]))) := Lib.hid (Or.inl ⟨HOK.out, by
        rw [show Int.toNat 6 = 6 from rfl, Int.toNat_natCast, hV.trans hVV]⟩)
      have hl := low_byte a b1 10 2 hbb rfl 6
      have hm0 := mask_L (a * 256) (by omega) 1024 63 10 6 (by decide) (by decide) (by decide) V (hl.trans hVV)
      have hm : bits .and .i64 ((a : Int) * 256 / 1024) 63 = (V : Int) := by rw [← hm0]; simp
      clear hV hl hm0 HF HC hf hVV
      go_enter Try.func9, Try.ntmps9
      go_wp2_with fail
      go_quiet (fail)
      go_wp2_with fail
      go_ret2
      exact ⟨HE.out, HD2.out _⟩
    · have hfi : (ι : Int) * 6 % 8 = 2 := by omega
      have hV := HF.out 2 hf
      obtain ⟨V, hVV⟩ : ∃ V, (a * 256 + b1) / 2 ^ 8 % 2 ^ 6 = V := ⟨_, rfl⟩
      have HE : Hid (SymV l 6 ι (.returned (.tuple #[.int .i64 (V : Nat), .bool true]))) := Lib.hid (Or.inl ⟨HOK.out, by
        rw [show Int.toNat 6 = 6 from rfl, Int.toNat_natCast, hV.trans hVV]⟩)
      have hl := low_byte a b1 8 0 hbb rfl 6
      have hm0 := mask_L (a * 256) (by omega) 256 63 8 6 (by decide) (by decide) (by decide) V (hl.trans hVV)
      have hm : bits .and .i64 (a : Int) 63 = (V : Int) := by
        have e : ((a * 256 : Nat) : Int) / 256 = (a : Int) := by omega
        rw [← hm0, e]
      clear hV hl hm0 HF HC hf hVV
      go_enter Try.func9, Try.ntmps9
      go_wp2_with fail
      go_quiet (fail)
      go_wp2_with fail
      go_ret2
      exact ⟨HE.out, HD2.out _⟩
    · have hfi : (ι : Int) * 6 % 8 = 4 := by omega
      have hV := HF.out 4 hf
      obtain ⟨V, hVV⟩ : ∃ V, (a * 256 + b1) / 2 ^ 6 % 2 ^ 6 = V := ⟨_, rfl⟩
      have HE : Hid (SymV l 6 ι (.returned (.tuple #[.int .i64 (V : Nat), .bool true]))) := Lib.hid (Or.inl ⟨HOK.out, by
        rw [show Int.toNat 6 = 6 from rfl, Int.toNat_natCast, hV.trans hVV]⟩)
      have cq := HC.out (by omega)
      have hor := or_bytes a b1 ha hbb
      obtain ⟨T, hT⟩ : ∃ T, a * 256 + b1 = T := ⟨_, rfl⟩
      rw [hT] at hor hVV
      have hm := mask_L T (by omega) 64 63 6 6 (by decide) (by decide) (by decide) V hVV
      clear hV hT HF HC hf hVV
      go_enter Try.func9, Try.ntmps9
      go_wp2_with fail
      go_quiet (fail)
      go_wp2_with fail
      go_ret2
      exact ⟨HE.out, HD2.out _⟩
    · have hfi : (ι : Int) * 6 % 8 = 6 := by omega
      have hV := HF.out 6 hf
      obtain ⟨V, hVV⟩ : ∃ V, (a * 256 + b1) / 2 ^ 4 % 2 ^ 6 = V := ⟨_, rfl⟩
      have HE : Hid (SymV l 6 ι (.returned (.tuple #[.int .i64 (V : Nat), .bool true]))) := Lib.hid (Or.inl ⟨HOK.out, by
        rw [show Int.toNat 6 = 6 from rfl, Int.toNat_natCast, hV.trans hVV]⟩)
      have cq := HC.out (by omega)
      have hor := or_bytes a b1 ha hbb
      obtain ⟨T, hT⟩ : ∃ T, a * 256 + b1 = T := ⟨_, rfl⟩
      rw [hT] at hor hVV
      have hm := mask_L T (by omega) 16 63 4 6 (by decide) (by decide) (by decide) V hVV
      clear hV hT HF HC hf hVV
      go_enter Try.func9, Try.ntmps9
      go_wp2_with fail
      go_quiet (fail)
      go_wp2_with fail
      go_ret2
      exact ⟨HE.out, HD2.out _⟩
  · have hb1 : (8 : Int) * n < ((ι : Int) + 1) * 6 := by omega
    have HE := Lib.hid (SymE.no (l := l) (k := 6) (i := ι) w fun x => by
      obtain ⟨_, _, _, x4 | x4⟩ := x
      · omega
      · rw [hlen] at x4; omega)
    clear h hg
    go_enter Try.func9, Try.ntmps9
    go_wp2_with fail
    go_ret2
    exact HE.out
set_option maxHeartbeats 3200000 in
theorem symbol_7 (F : Nat → Prop) (w : World) (A : Option Addr) (n cap : Nat) (l : List Int) (h : BAt8 F w A n cap l) (hn : n ≤ 1000000) (ι : Nat) :
    Calls Try.prog 9 #[.slice A n cap, .int .i64 7, .int .i64 (ι : Nat)] w (SymE l 7 ι w) := by
  have hlen := h.len
  by_cases hg : (ι + 1) * 7 ≤ 8 * n
  · have hgI : ((ι : Int) + 1) * 7 ≤ 8 * (n : Int) := by omega
    obtain ⟨p, hp⟩ : ∃ p, ι * 7 / 8 = p := ⟨_, rfl⟩
    have hpn : p < n := by omega
    obtain ⟨b, o, rfl, _, hbl, hc⟩ := h.lies (by omega)
    have cp := hc p hpn
    have hb8 := h.bd
    rw [gN_int hb8] at cp
    have ha := gN_lt hb8 p
    have hbb := gN_lt hb8 (p + 1)
    obtain ⟨a, haa⟩ : ∃ a, gN l p = a := ⟨_, rfl⟩
    obtain ⟨b1, hb1⟩ : ∃ b1, gN l (p + 1) = b1 := ⟨_, rfl⟩
    have HC := Lib.hid (fun hp1 : p + 1 < n => (hc (p + 1) hp1).trans (by rw [gN_int hb8, hb1]))
    rw [haa] at cp ha
    rw [hb1] at hbb
    have hfit := h.fit
    have hmax := h.max
    unfold maxLen at hmax
    have HOK : Hid (symOk l 7 ι) := Lib.hid ⟨by omega, by omega, by omega, Or.inr (by rw [hlen]; omega)⟩
    have HD := Lib.hid (drew0 w)
    have HD2 := Lib.hid (fun m : Nat => (⟨m, rfl⟩ : ∃ n, w.drewN m = w.drewN n))
    have hpi : (ι : Int) * 7 / 8 = (p : Int) := by omega
    have HT : Hid (symT l p = a * 256 + b1) := Lib.hid (by unfold symT; rw [haa, hb1])
    have HF : Hid (∀ f, ι * 7 % 8 = f → symF l 7 ι = (a * 256 + b1) / 2 ^ (16 - f - 7) % 2 ^ 7) := Lib.hid (fun f hf => by unfold symF; rw [hp, hf, HT.out])
    have hfc : ι * 7 % 8 = 0 ∨ ι * 7 % 8 = 1 ∨ ι * 7 % 8 = 2 ∨ ι * 7 % 8 = 3 ∨ ι * 7 % 8 = 4 ∨ ι * 7 % 8 = 5 ∨ ι * 7 % 8 = 6 ∨ ι * 7 % 8 = 7 := by omega
    clear h hc haa hb1 hb8 hbl HT
    rcases hfc with hf | hf | hf | hf | hf | hf | hf | hf
    · have hfi : (ι : Int) * 7 % 8 = 0 := by omega
      have hV := HF.out 0 hf
      obtain ⟨V, hVV⟩ : ∃ V, (a * 256 + b1) / 2 ^ 9 % 2 ^ 7 = V := ⟨_, rfl⟩
      have HE : Hid (SymV l 7 ι (.returned (.tuple #[.int .i64 (V : Nat), .bool true]))) := Lib.hid (Or.inl ⟨HOK.out, by
        rw [show Int.toNat 7 = 7 from rfl, Int.toNat_natCast, hV.trans hVV]⟩)
      have hl := low_byte a b1 9 1 hbb rfl 7
      have hm0 := mask_L (a * 256) (by omega) 512 127 9 7 (by decide) (by decide) (by decide) V (hl.trans hVV)
      have hm : bits .and .i64 ((a : Int) * 256 / 512) 127 = (V : Int) := by rw [← hm0]; simp
      clear hV hl hm0 HF HC hf hVV
      go_enter Try.func9, Try.ntmps9
      go_wp2_with fail
      go_quiet (fail)
      go_wp2_with fail
      go_ret2
      exact ⟨HE.out, HD2.out _⟩
    · have hfi : (ι : Int) * 7 % 8 = 1 := by omega
      have hV := HF.out 1 hf
      obtain ⟨V, hVV⟩ : ∃ V, (a * 256 + b1) / 2 ^ 8 % 2 ^ 7 = V := ⟨_, rfl⟩
      have HE : Hid (SymV l 7 ι (.returned (.tuple #[.int .i64 (V : Nat), .bool true]))) := Lib.hid (Or.inl ⟨HOK.out, by
        rw [show Int.toNat 7 = 7 from rfl, Int.toNat_natCast, hV.trans hVV]⟩)
      have hl := low_byte a b1 8 0 hbb rfl 7
      have hm0 := mask_L (a * 256) (by omega) 256 127 8 7 (by decide) (by decide) (by decide) V (hl.trans hVV)
      have hm : bits .and .i64 (a : Int) 127 = (V : Int) := by
        have e : ((a * 256 : Nat) : Int) / 256 = (a : Int) := by omega
        rw [← hm0, e]
      clear hV hl hm0 HF HC hf hVV
      go_enter Try.func9, Try.ntmps9
      go_wp2_with fail
      go_quiet (fail)
      go_wp2_with fail
      go_ret2
      exact ⟨HE.out, HD2.out _⟩
    · have hfi : (ι : Int) * 7 % 8 = 2 := by omega
      have hV := HF.out 2 hf
      obtain ⟨V, hVV⟩ : ∃ V, (a * 256 + b1) / 2 ^ 7 % 2 ^ 7 = V := ⟨_, rfl⟩
      have HE : Hid (SymV l 7 ι (.returned (.tuple #[.int .i64 (V : Nat), .bool true]))) := Lib.hid (Or.inl ⟨HOK.out, by
        rw [show Int.toNat 7 = 7 from rfl, Int.toNat_natCast, hV.trans hVV]⟩)
      have cq := HC.out (by omega)
      have hor := or_bytes a b1 ha hbb
      obtain ⟨T, hT⟩ : ∃ T, a * 256 + b1 = T := ⟨_, rfl⟩
      rw [hT] at hor hVV
      have hm := mask_L T (by omega) 128 127 7 7 (by decide) (by decide) (by decide) V hVV
      clear hV hT HF HC hf hVV
      go_enter Try.func9, Try.ntmps9
      go_wp2_with fail
      go_quiet (fail)
      go_wp2_with fail
      go_ret2
      exact ⟨HE.out, HD2.out _⟩
    · have hfi : (ι : Int) * 7 % 8 = 3 := by omega
      have hV := HF.out 3 hf
      obtain ⟨V, hVV⟩ : ∃ V, (a * 256 + b1) / 2 ^ 6 % 2 ^ 7 = V := ⟨_, rfl⟩
      have HE : Hid (SymV l 7 ι (.returned (.tuple #[.int .i64 (V : Nat), .bool true]))) := Lib.hid (Or.inl ⟨HOK.out, by
        rw [show Int.toNat 7 = 7 from rfl, Int.toNat_natCast, hV.trans hVV]⟩)
      have cq := HC.out (by omega)
      have hor := or_bytes a b1 ha hbb
      obtain ⟨T, hT⟩ : ∃ T, a * 256 + b1 = T := ⟨_, rfl⟩
      rw [hT] at hor hVV
      have hm := mask_L T (by omega) 64 127 6 7 (by decide) (by decide) (by decide) V hVV
      clear hV hT HF HC hf hVV
      go_enter Try.func9, Try.ntmps9
      go_wp2_with fail
      go_quiet (fail)
      go_wp2_with fail
      go_ret2
      exact ⟨HE.out, HD2.out _⟩
    · have hfi : (ι : Int) * 7 % 8 = 4 := by omega
      have hV := HF.out 4 hf
      obtain ⟨V, hVV⟩ : ∃ V, (a * 256 + b1) / 2 ^ 5 % 2 ^ 7 = V := ⟨_, rfl⟩
      have HE : Hid (SymV l 7 ι (.returned (.tuple #[.int .i64 (V : Nat), .bool true]))) := Lib.hid (Or.inl ⟨HOK.out, by
        rw [show Int.toNat 7 = 7 from rfl, Int.toNat_natCast, hV.trans hVV]⟩)
      have cq := HC.out (by omega)
      have hor := or_bytes a b1 ha hbb
      obtain ⟨T, hT⟩ : ∃ T, a * 256 + b1 = T := ⟨_, rfl⟩
      rw [hT] at hor hVV
      have hm := mask_L T (by omega) 32 127 5 7 (by decide) (by decide) (by decide) V hVV
      clear hV hT HF HC hf hVV
      go_enter Try.func9, Try.ntmps9
      go_wp2_with fail
      go_quiet (fail)
      go_wp2_with fail
      go_ret2
      exact ⟨HE.out, HD2.out _⟩
    · have hfi : (ι : Int) * 7 % 8 = 5 := by omega
      have hV := HF.out 5 hf
      obtain ⟨V, hVV⟩ : ∃ V, (a * 256 + b1) / 2 ^ 4 % 2 ^ 7 = V := ⟨_, rfl⟩
      have HE : Hid (SymV l 7 ι (.returned (.tuple #[.int .i64 (V : Nat), .bool true]))) := Lib.hid (Or.inl ⟨HOK.out, by
        rw [show Int.toNat 7 = 7 from rfl, Int.toNat_natCast, hV.trans hVV]⟩)
      have cq := HC.out (by omega)
      have hor := or_bytes a b1 ha hbb
      obtain ⟨T, hT⟩ : ∃ T, a * 256 + b1 = T := ⟨_, rfl⟩
      rw [hT] at hor hVV
      have hm := mask_L T (by omega) 16 127 4 7 (by decide) (by decide) (by decide) V hVV
      clear hV hT HF HC hf hVV
      go_enter Try.func9, Try.ntmps9
      go_wp2_with fail
      go_quiet (fail)
      go_wp2_with fail
      go_ret2
      exact ⟨HE.out, HD2.out _⟩
    · have hfi : (ι : Int) * 7 % 8 = 6 := by omega
      have hV := HF.out 6 hf
      obtain ⟨V, hVV⟩ : ∃ V, (a * 256 + b1) / 2 ^ 3 % 2 ^ 7 = V := ⟨_, rfl⟩
      have HE : Hid (SymV l 7 ι (.returned (.tuple #[.int .i64 (V : Nat), .bool true]))) := Lib.hid (Or.inl ⟨HOK.out, by
        rw [show Int.toNat 7 = 7 from rfl, Int.toNat_natCast, hV.trans hVV]⟩)
      have cq := HC.out (by omega)
      have hor := or_bytes a b1 ha hbb
      obtain ⟨T, hT⟩ : ∃ T, a * 256 + b1 = T := ⟨_, rfl⟩
      rw [hT] at hor hVV
      have hm := mask_L T (by omega) 8 127 3 7 (by decide) (by decide) (by decide) V hVV
      clear hV hT HF HC hf hVV
      go_enter Try.func9, Try.ntmps9
      go_wp2_with fail
      go_quiet (fail)
      go_wp2_with fail
      go_ret2
      exact ⟨HE.out, HD2.out _⟩
    · have hfi : (ι : Int) * 7 % 8 = 7 := by omega
      have hV := HF.out 7 hf
      obtain ⟨V, hVV⟩ : ∃ V, (a * 256 + b1) / 2 ^ 2 % 2 ^ 7 = V := ⟨_, rfl⟩
      have HE : Hid (SymV l 7 ι (.returned (.tuple #[.int .i64 (V : Nat), .bool true]))) := Lib.hid (Or.inl ⟨HOK.out, by
        rw [show Int.toNat 7 = 7 from rfl, Int.toNat_natCast, hV.trans hVV]⟩)
      have cq := HC.out (by omega)
      have hor := or_bytes a b1 ha hbb
      obtain ⟨T, hT⟩ : ∃ T, a * 256 + b1 = T := ⟨_, rfl⟩
      rw [hT] at hor hVV
      have hm := mask_L T (by omega) 4 127 2 7 (by decide) (by decide) (by decide) V hVV
      clear hV hT HF HC hf hVV
      go_enter Try.func9, Try.ntmps9
      go_wp2_with fail
      go_quiet (fail)
      go_wp2_with fail
      go_ret2
      exact ⟨HE.out, HD2.out _⟩
  · have hb1 : (8 : Int) * n < ((ι : Int) + 1) * 7 := by omega
    have HE := Lib.hid (SymE.no (l := l) (k := 7) (i := ι) w fun x => by
      obtain ⟨_, _, _, x4 | x4⟩ := x
      · omega
      · rw [hlen] at x4; omega)
    clear h hg
    go_enter Try.func9, Try.ntmps9
    go_wp2_with fail
    go_ret2
    exact HE.out
set_option maxHeartbeats 3200000 in
theorem symbol_8 (F : Nat → Prop) (w : World) (A : Option Addr) (n cap : Nat) (l : List Int) (h : BAt8 F w A n cap l) (hn : n ≤ 1000000) (ι : Nat) :
    Calls Try.prog 9 #[.slice A n cap, .int .i64 8, .int .i64 (ι : Nat)] w (SymE l 8 ι w) := by
  have hlen := h.len
  by_cases hg : (ι + 1) * 8 ≤ 8 * n
  · have hgI : ((ι : Int) + 1) * 8 ≤ 8 * (n : Int) := by omega
    obtain ⟨p, hp⟩ : ∃ p, ι * 8 / 8 = p := ⟨_, rfl⟩
    have hpn : p < n := by omega
    obtain ⟨b, o, rfl, _, hbl, hc⟩ := h.lies (by omega)
    have cp := hc p hpn
    have hb8 := h.bd
    rw [gN_int hb8] at cp
    have ha := gN_lt hb8 p
    have hbb := gN_lt hb8 (p + 1)
    obtain ⟨a, haa⟩ : ∃ a, gN l p = a := ⟨_, rfl⟩
    obtain ⟨b1, hb1⟩ : ∃ b1, gN l (p + 1) = b1 := ⟨_, rfl⟩
    have HC := Lib.hid (fun hp1 : p + 1 < n => (hc (p + 1) hp1).trans (by rw [gN_int hb8, hb1]))
    rw [haa] at cp ha
    rw [hb1] at hbb
    have hfit := h.fit
    have hmax := h.max
    unfold maxLen at hmax
    have HOK : Hid (symOk l 8 ι) := Lib.hid ⟨by omega, by omega, by omega, Or.inr (by rw [hlen]; omega)⟩
    have HD := Lib.hid (drew0 w)
    have HD2 := Lib.hid (fun m : Nat => (⟨m, rfl⟩ : ∃ n, w.drewN m = w.drewN n))
    obtain rfl : ι = p := by omega
    have HT : Hid (symT l ι = a * 256 + b1) := Lib.hid (by unfold symT; rw [haa, hb1])
    have HF : Hid (∀ f, ι * 8 % 8 = f → symF l 8 ι = (a * 256 + b1) / 2 ^ (16 - f - 8) % 2 ^ 8) := Lib.hid (fun f hf => by unfold symF; rw [hp, hf, HT.out])
    have hf : ι * 8 % 8 = 0 := by omega
    clear h hc haa hb1 hb8 hbl HT
    · have hV := HF.out 0 hf
      obtain ⟨V, hVV⟩ : ∃ V, (a * 256 + b1) / 2 ^ 8 % 2 ^ 8 = V := ⟨_, rfl⟩
      have HE : Hid (SymV l 8 ι (.returned (.tuple #[.int .i64 (V : Nat), .bool true]))) := Lib.hid (Or.inl ⟨HOK.out, by
        rw [show Int.toNat 8 = 8 from rfl, Int.toNat_natCast, hV.trans hVV]⟩)
      have hl := low_byte a b1 8 0 hbb rfl 8
      have hm0 := mask_L (a * 256) (by omega) 256 255 8 8 (by decide) (by decide) (by decide) V (hl.trans hVV)
      have hm : bits .and .i64 (a : Int) 255 = (V : Int) := by
        have e : ((a * 256 : Nat) : Int) / 256 = (a : Int) := by omega
        rw [← hm0, e]
      clear hV hl hm0 HF HC hf hVV
      go_enter Try.func9, Try.ntmps9
      go_wp2_with fail
      go_quiet (fail)
      go_wp2_with fail
      go_ret2
      exact ⟨HE.out, HD2.out _⟩
  · have hb1 : (8 : Int) * n < ((ι : Int) + 1) * 8 := by omega
    have HE := Lib.hid (SymE.no (l := l) (k := 8) (i := ι) w fun x => by
      obtain ⟨_, _, _, x4 | x4⟩ := x
      · omega
      · rw [hlen] at x4; omega)
    clear h hg
    go_enter Try.func9, Try.ntmps9
    go_wp2_with fail
    go_ret2
    exact HE.out

end Go.Proofs.Ythlaglhlmbkniaa
/- tzx.Symbol, whatever comes in. -/
namespace Go.Proofs.Ythlaglhlmbkniaa
open Go.RowKit
set_option linter.unusedVariables false
set_option linter.unusedSimpArgs false
set_option maxRecDepth 100000

set_option maxHeartbeats 1600000 in
theorem symbol_any (F : Nat → Prop) (w : World) (A : Option Addr) (n cap : Nat) (l : List Int) (h : BAt8 F w A n cap l) (hn : n ≤ 1000000) (k i : Int) :
    Calls Try.prog 9 #[.slice A n cap, .int .i64 k, .int .i64 i] w (SymE l k i w) := by
  by_cases c1 : k < 0
  · have d1 : decide (k < 0) = true := decide_eq_true c1
    have HE := Lib.hid (SymE.no (l := l) (k := k) (i := i) w fun x => by have := x.1; omega)
    clear c1 h
    go_enter Try.func9, Try.ntmps9
    go_wp2_with fail
    go_ret2
    exact HE.out
  have d1 : decide (k < 0) = false := decide_eq_false c1
  by_cases c2 : 8 < k
  · have d2 : decide (8 < k) = true := decide_eq_true c2
    have HE := Lib.hid (SymE.no (l := l) (k := k) (i := i) w fun x => by have := x.2.1; omega)
    clear c1 c2 h
    go_enter Try.func9, Try.ntmps9
    go_wp2_with fail
    go_ret2
    exact HE.out
  have d2 : decide (8 < k) = false := decide_eq_false c2
  by_cases c3 : i < 0
  · have d3 : decide (i < 0) = true := decide_eq_true c3
    have HE := Lib.hid (SymE.no (l := l) (k := k) (i := i) w fun x => by have := x.2.2.1; omega)
    clear c1 c2 c3 h
    go_enter Try.func9, Try.ntmps9
    go_wp2_with fail
    go_ret2
    exact HE.out
  have d3 : decide (i < 0) = false := decide_eq_false c3
  obtain ⟨ι, rfl⟩ : ∃ ι : Nat, i = ι := ⟨i.toNat, by omega⟩
  rcases (show k = 0 ∨ k = 1 ∨ k = 2 ∨ k = 3 ∨ k = 4 ∨ k = 5 ∨ k = 6 ∨ k = 7 ∨ k = 8 by omega) with rfl | rfl | rfl | rfl | rfl | rfl | rfl | rfl | rfl
  · have HE : Hid (SymE l 0 ι w (.returned (.tuple #[.int .i64 0, .bool true])) w) := Lib.hid ⟨Or.inl ⟨⟨by omega, by omega, by omega, Or.inl rfl⟩, by rw [show Int.toNat 0 = 0 from rfl, symF_zero]; rfl⟩, drew0 w⟩
    clear c1 c2 c3 h
    go_enter Try.func9, Try.ntmps9
    go_wp2_with fail
    go_ret2
    exact HE.out
  · exact symbol_1 F w A n cap l h hn ι
  · exact symbol_2 F w A n cap l h hn ι
  · exact symbol_3 F w A n cap l h hn ι
  · exact symbol_4 F w A n cap l h hn ι
  · exact symbol_5 F w A n cap l h hn ι
  · exact symbol_6 F w A n cap l h hn ι
  · exact symbol_7 F w A n cap l h hn ι
  · exact symbol_8 F w A n cap l h hn ι

end Go.Proofs.Ythlaglhlmbkniaa
/- tzx.below, stream: their contracts. -/
namespace Go.Proofs.Ythlaglhlmbkniaa
open Go.RowKit
set_option linter.unusedVariables false
set_option linter.unusedSimpArgs false
set_option maxRecDepth 100000

theorem SymV.val {l : List Int} {n i : Nat} {x : Ending} (h : SymV l n i x) : ∃ (v : Int) (q : Bool), x = .returned (.tuple #[.int .i64 v, .bool q]) ∧ (symOk l n i → v = symF l n i) ∧ (¬ symOk l n i → v = 0) := by
  rcases h with ⟨h1, rfl⟩ | ⟨h1, rfl⟩
  · exact ⟨_, true, rfl, fun _ => by rw [Int.toNat_natCast, Int.toNat_natCast], fun h => absurd h1 h⟩
  · exact ⟨0, false, rfl, fun h => absurd h h1, fun _ => rfl⟩
theorem least_256 {n : Int} {b : Nat} (h : LeastIs n b) (hn : n ≤ 256) : b ≤ 8 := by
  refine Classical.byContradiction fun x => ?_
  have := h.2 8 (by omega)
  have e : (2 : Int) ^ 8 = 256 := by decide
  omega
def BelowE (b : List Int) (count : Nat) (many : Int) (n : Nat) (w : World) (x : Ending) (w' : World) : Prop := ∃ q : Bool, x = .returned (.bool q) ∧ (q = true ↔ belowP b count many n) ∧ ∃ k, w' = w.drewN k
set_option maxHeartbeats 12800000 in
theorem below_any (F : Nat → Prop) (w : World) (A : Option Addr) (m cap : Nat) (l : List Int) (h : BAt8 F w A m cap l) (hm : m ≤ 1000000) (count : Nat) (hco : count ≤ 4294967296) (many : Int) (hm0 : 1 ≤ many) (hm1 : many ≤ 256) (b : Nat) (hnb : leastN many = b) :
    Calls Try.prog 68 #[.slice A m cap, .int .i64 (count : Nat), .int .i64 many] w (BelowE l count many b w) := by
  have HBi := Lib.hid (bits_any many (by omega) w)
  have HS := Lib.hid (fun q k i => symbol_any F (w.drewN q) A m cap l (h.below (bdrawn (Below.refl _ _) q)) hm k i)
  have HD := Lib.hid (drew0 w)
  clear h
  go_enter Try.func68, Try.ntmps68
  go_wp2_with fail
  refine HBi.out.mono ?_
  rintro x w1 ⟨b', rfl, hb, _, rfl⟩
  have hb8 := least_256 hb hm1
  have ebb := (leastN_is hb).symm.trans hnb
  subst ebb
  clear hb HBi hnb
  rcases (show b' = 0 ∨ b' = 1 ∨ b' = 2 ∨ b' = 3 ∨ b' = 4 ∨ b' = 5 ∨ b' = 6 ∨ b' = 7 ∨ b' = 8 by omega) with rfl | rfl | rfl | rfl | rfl | rfl | rfl | rfl | rfl
  · by_cases hp : many = 1
    · subst hp
      have HE : Hid (BelowE l count 1 0 w (.returned (.bool true)) w) := Lib.hid ⟨true, rfl, ⟨fun _ => Or.inl (by decide), fun _ => rfl⟩, HD.out⟩
      go_wp2_with fail
      go_ret
      exact HE.out
    · have d : (many == 1) = false := by rw [beq_eq_false_iff_ne]; exact hp
      have HP : Hid (belowP l count many 0 ↔ ∀ i : Nat, i < count → ∀ v : Int, (symOk l (0 : Nat) i → v = symF l 0 i) → (¬ symOk l (0 : Nat) i → v = 0) → v < many) := Lib.hid ⟨fun x => x.elim (fun y => absurd (y.trans (by decide)) hp) id, Or.inr⟩
      clear hp
      go_wp2_with fail
      go_loopw [18] (fun v wr => ∃ j : Nat, v = .int .i64 j ∧ j ≤ count ∧ Hid (∃ q, wr = w.drewN q) ∧ Hid (∀ i : Nat, i < j → ∀ v : Int, (symOk l (0 : Nat) i → v = symF l 0 i) → (¬ symOk l (0 : Nat) i → v = 0) → v < many)) (fun v _ => count - (intOf v).toNat)
      case atStart => exact ⟨0, rfl, by omega, HD, Lib.hid fun i hi => absurd hi (by omega)⟩
      case round =>
        obtain ⟨j, rfl, hj, HQ, HA⟩ := hrel
        by_cases hlt : j < count
        · obtain ⟨q, rfl⟩ := HQ.out
          have HSy := Lib.hid (HS.out q (0 : Nat) (j : Nat))
          go_wp2_with fail
          refine HSy.out.mono ?_
          rintro x w2 ⟨hsv, q2, rfl⟩
          obtain ⟨v, t, rfl, hv1, hv2⟩ := hsv.val
          have HV := Lib.hid (And.intro hv1 hv2)
          have HQ2 := Lib.hid (show ∃ r, (w.drewN q).drewN q2 = w.drewN r from ⟨q + q2, by unfold World.drewN; simp [Nat.add_assoc]⟩)
          clear hsv hv1 hv2 HSy
          generalize (w.drewN q).drewN q2 = w3 at *
          by_cases hlv : many ≤ v
          · have d3 : decide (many ≤ v) = true := decide_eq_true hlv
            have HE : Hid (BelowE l count many 0 w (.returned (.bool false)) w3) := Lib.hid ⟨false, rfl, ⟨fun x => (by cases x), fun x => by
              have := HP.out.1 x j hlt v HV.out.1 HV.out.2
              omega⟩, HQ2.out⟩
            clear hlv
            go_wp2_with fail
            go_ret
            exact HE.out
          · have d3 : decide (many ≤ v) = false := decide_eq_false hlv
            have HN : Hid (∀ i : Nat, i < j + 1 → ∀ v : Int, (symOk l (0 : Nat) i → v = symF l 0 i) → (¬ symOk l (0 : Nat) i → v = 0) → v < many) := Lib.hid (fun i hi v' h1 h2 => by
              by_cases e : i = j
              · subst e
                have e2 : v' = v := by
                  by_cases ho : symOk l (0 : Nat) i
                  · rw [h1 ho, HV.out.1 ho]
                  · rw [h2 ho, HV.out.2 ho]
                omega
              · exact HA.out i (by omega) v' h1 h2)
            clear hlv
            go_wp2_with fail
            go_roundw
            case rel => exact ⟨j + 1, by go_num, by omega, HQ2, HN⟩
            case measure => simp [intOf]; omega
        · have hjc : j = count := by omega
          have HE : Hid (BelowE l count many 0 w (.returned (.bool true)) wr) := Lib.hid ⟨true, rfl, ⟨fun _ => HP.out.2 (by rw [← hjc]; exact HA.out), fun _ => rfl⟩, HQ.out⟩
          clear hjc
          go_wp2_with fail
          go_ret
          exact HE.out
  · by_cases hp : many = 2
    · subst hp
      have HE : Hid (BelowE l count 2 1 w (.returned (.bool true)) w) := Lib.hid ⟨true, rfl, ⟨fun _ => Or.inl (by decide), fun _ => rfl⟩, HD.out⟩
      go_wp2_with fail
      go_ret
      exact HE.out
    · have d : (many == 2) = false := by rw [beq_eq_false_iff_ne]; exact hp
      have HP : Hid (belowP l count many 1 ↔ ∀ i : Nat, i < count → ∀ v : Int, (symOk l (1 : Nat) i → v = symF l 1 i) → (¬ symOk l (1 : Nat) i → v = 0) → v < many) := Lib.hid ⟨fun x => x.elim (fun y => absurd (y.trans (by decide)) hp) id, Or.inr⟩
      clear hp
      go_wp2_with fail
      go_loopw [18] (fun v wr => ∃ j : Nat, v = .int .i64 j ∧ j ≤ count ∧ Hid (∃ q, wr = w.drewN q) ∧ Hid (∀ i : Nat, i < j → ∀ v : Int, (symOk l (1 : Nat) i → v = symF l 1 i) → (¬ symOk l (1 : Nat) i → v = 0) → v < many)) (fun v _ => count - (intOf v).toNat)
      case atStart => exact ⟨0, rfl, by omega, HD, Lib.hid fun i hi => absurd hi (by omega)⟩
      case round =>
        obtain ⟨j, rfl, hj, HQ, HA⟩ := hrel
        by_cases hlt : j < count
        · obtain ⟨q, rfl⟩ := HQ.out
          have HSy := Lib.hid (HS.out q (1 : Nat) (j : Nat))
          go_wp2_with fail
          refine HSy.out.mono ?_
          rintro x w2 ⟨hsv, q2, rfl⟩
          obtain ⟨v, t, rfl, hv1, hv2⟩ := hsv.val
          have HV := Lib.hid (And.intro hv1 hv2)
          have HQ2 := Lib.hid (show ∃ r, (w.drewN q).drewN q2 = w.drewN r from ⟨q + q2, by unfold World.drewN; simp [Nat.add_assoc]⟩)
          clear hsv hv1 hv2 HSy
          generalize (w.drewN q).drewN q2 = w3 at *
          by_cases hlv : many ≤ v
          · have d3 : decide (many ≤ v) = true := decide_eq_true hlv
            have HE : Hid (BelowE l count many 1 w (.returned (.bool false)) w3) := Lib.hid ⟨false, rfl, ⟨fun x => (by cases x), fun x => by
              have := HP.out.1 x j hlt v HV.out.1 HV.out.2
              omega⟩, HQ2.out⟩
            clear hlv
            go_wp2_with fail
            go_ret
            exact HE.out
          · have d3 : decide (many ≤ v) = false := decide_eq_false hlv
            have HN : Hid (∀ i : Nat, i < j + 1 → ∀ v : Int, (symOk l (1 : Nat) i → v = symF l 1 i) → (¬ symOk l (1 : Nat) i → v = 0) → v < many) := Lib.hid (fun i hi v' h1 h2 => by
              by_cases e : i = j
              · subst e
                have e2 : v' = v := by
                  by_cases ho : symOk l (1 : Nat) i
                  · rw [h1 ho, HV.out.1 ho]
                  · rw [h2 ho, HV.out.2 ho]
                omega
              · exact HA.out i (by omega) v' h1 h2)
            clear hlv
            go_wp2_with fail
            go_roundw
            case rel => exact ⟨j + 1, by go_num, by omega, HQ2, HN⟩
            case measure => simp [intOf]; omega
        · have hjc : j = count := by omega
          have HE : Hid (BelowE l count many 1 w (.returned (.bool true)) wr) := Lib.hid ⟨true, rfl, ⟨fun _ => HP.out.2 (by rw [← hjc]; exact HA.out), fun _ => rfl⟩, HQ.out⟩
          clear hjc
          go_wp2_with fail
          go_ret
          exact HE.out
  · by_cases hp : many = 4
    · subst hp
      have HE : Hid (BelowE l count 4 2 w (.returned (.bool true)) w) := Lib.hid ⟨true, rfl, ⟨fun _ => Or.inl (by decide), fun _ => rfl⟩, HD.out⟩
      go_wp2_with fail
      go_ret
      exact HE.out
    · have d : (many == 4) = false := by rw [beq_eq_false_iff_ne]; exact hp
      have HP : Hid (belowP l count many 2 ↔ ∀ i : Nat, i < count → ∀ v : Int, (symOk l (2 : Nat) i → v = symF l 2 i) → (¬ symOk l (2 : Nat) i → v = 0) → v < many) := Lib.hid ⟨fun x => x.elim (fun y => absurd (y.trans (by decide)) hp) id, Or.inr⟩
      clear hp
      go_wp2_with fail
      go_loopw [18] (fun v wr => ∃ j : Nat, v = .int .i64 j ∧ j ≤ count ∧ Hid (∃ q, wr = w.drewN q) ∧ Hid (∀ i : Nat, i < j → ∀ v : Int, (symOk l (2 : Nat) i → v = symF l 2 i) → (¬ symOk l (2 : Nat) i → v = 0) → v < many)) (fun v _ => count - (intOf v).toNat)
      case atStart => exact ⟨0, rfl, by omega, HD, Lib.hid fun i hi => absurd hi (by omega)⟩
      case round =>
        obtain ⟨j, rfl, hj, HQ, HA⟩ := hrel
        by_cases hlt : j < count
        · obtain ⟨q, rfl⟩ := HQ.out
          have HSy := Lib.hid (HS.out q (2 : Nat) (j : Nat))
          go_wp2_with fail
          refine HSy.out.mono ?_
          rintro x w2 ⟨hsv, q2, rfl⟩
          obtain ⟨v, t, rfl, hv1, hv2⟩ := hsv.val
          have HV := Lib.hid (And.intro hv1 hv2)
          have HQ2 := Lib.hid (show ∃ r, (w.drewN q).drewN q2 = w.drewN r from ⟨q + q2, by unfold World.drewN; simp [Nat.add_assoc]⟩)
          clear hsv hv1 hv2 HSy
          generalize (w.drewN q).drewN q2 = w3 at *
          by_cases hlv : many ≤ v
          · have d3 : decide (many ≤ v) = true := decide_eq_true hlv
            have HE : Hid (BelowE l count many 2 w (.returned (.bool false)) w3) := Lib.hid ⟨false, rfl, ⟨fun x => (by cases x), fun x => by
              have := HP.out.1 x j hlt v HV.out.1 HV.out.2
              omega⟩, HQ2.out⟩
            clear hlv
            go_wp2_with fail
            go_ret
            exact HE.out
          · have d3 : decide (many ≤ v) = false := decide_eq_false hlv
            have HN : Hid (∀ i : Nat, i < j + 1 → ∀ v : Int, (symOk l (2 : Nat) i → v = symF l 2 i) → (¬ symOk l (2 : Nat) i → v = 0) → v < many) := Lib.hid (fun i hi v' h1 h2 => by
              by_cases e : i = j
              · subst e
                have e2 : v' = v := by
                  by_cases ho : symOk l (2 : Nat) i
                  · rw [h1 ho, HV.out.1 ho]
                  · rw [h2 ho, HV.out.2 ho]
                omega
              · exact HA.out i (by omega) v' h1 h2)
            clear hlv
            go_wp2_with fail
            go_roundw
            case rel => exact ⟨j + 1, by go_num, by omega, HQ2, HN⟩
            case measure => simp [intOf]; omega
        · have hjc : j = count := by omega
          have HE : Hid (BelowE l count many 2 w (.returned (.bool true)) wr) := Lib.hid ⟨true, rfl, ⟨fun _ => HP.out.2 (by rw [← hjc]; exact HA.out), fun _ => rfl⟩, HQ.out⟩
          clear hjc
          go_wp2_with fail
          go_ret
          exact HE.out
  · by_cases hp : many = 8
    · subst hp
      have HE : Hid (BelowE l count 8 3 w (.returned (.bool true)) w) := Lib.hid ⟨true, rfl, ⟨fun _ => Or.inl (by decide), fun _ => rfl⟩, HD.out⟩
      go_wp2_with fail
      go_ret
      exact HE.out
    · have d : (many == 8) = false := by rw [beq_eq_false_iff_ne]; exact hp
      have HP : Hid (belowP l count many 3 ↔ ∀ i : Nat, i < count → ∀ v : Int, (symOk l (3 : Nat) i → v = symF l 3 i) → (¬ symOk l (3 : Nat) i → v = 0) → v < many) := Lib.hid ⟨fun x => x.elim (fun y => absurd (y.trans (by decide)) hp) id, Or.inr⟩
      clear hp
      go_wp2_with fail
      go_loopw [18] (fun v wr => ∃ j : Nat, v = .int .i64 j ∧ j ≤ count ∧ Hid (∃ q, wr = w.drewN q) ∧ Hid (∀ i : Nat, i < j → ∀ v : Int, (symOk l (3 : Nat) i → v = symF l 3 i) → (¬ symOk l (3 : Nat) i → v = 0) → v < many)) (fun v _ => count - (intOf v).toNat)
      case atStart => exact ⟨0, rfl, by omega, HD, Lib.hid fun i hi => absurd hi (by omega)⟩
      case round =>
        obtain ⟨j, rfl, hj, HQ, HA⟩ := hrel
        by_cases hlt : j < count
        · obtain ⟨q, rfl⟩ := HQ.out
          have HSy := Lib.hid (HS.out q (3 : Nat) (j : Nat))
          go_wp2_with fail
          refine HSy.out.mono ?_
          rintro x w2 ⟨hsv, q2, rfl⟩
          obtain ⟨v, t, rfl, hv1, hv2⟩ := hsv.val
          have HV := Lib.hid (And.intro hv1 hv2)
          have HQ2 := Lib.hid (show ∃ r, (w.drewN q).drewN q2 = w.drewN r from ⟨q + q2, by unfold World.drewN; simp [Nat.add_assoc]⟩)
          clear hsv hv1 hv2 HSy
          generalize (w.drewN q).drewN q2 = w3 at *
          by_cases hlv : many ≤ v
          · have d3 : decide (many ≤ v) = true := decide_eq_true hlv
            have HE : Hid (BelowE l count many 3 w (.returned (.bool false)) w3) := Lib.hid ⟨false, rfl, ⟨fun x => (by cases x), fun x => by
              have := HP.out.1 x j hlt v HV.out.1 HV.out.2
              omega⟩, HQ2.out⟩
            clear hlv
            go_wp2_with fail
            go_ret
            exact HE.out
          · have d3 : decide (many ≤ v) = false := decide_eq_false hlv
            have HN : Hid (∀ i : Nat, i < j + 1 → ∀ v : Int, (symOk l (3 : Nat) i → v = symF l 3 i) → (¬ symOk l (3 : Nat) i → v = 0) → v < many) := Lib.hid (fun i hi v' h1 h2 => by
              by_cases e : i = j
              · subst e
                have e2 : v' = v := by
                  by_cases ho : symOk l (3 : Nat) i
                  · rw [h1 ho, HV.out.1 ho]
                  · rw [h2 ho, HV.out.2 ho]
                omega
              · exact HA.out i (by omega) v' h1 h2)
            clear hlv
            go_wp2_with fail
            go_roundw
            case rel => exact ⟨j + 1, by go_num, by omega, HQ2, HN⟩
            case measure => simp [intOf]; omega
        · have hjc : j = count := by omega
          have HE : Hid (BelowE l count many 3 w (.returned (.bool true)) wr) := Lib.hid ⟨true, rfl, ⟨fun _ => HP.out.2 (by rw [← hjc]; exact HA.out), fun _ => rfl⟩, HQ.out⟩
          clear hjc
          go_wp2_with fail
          go_ret
          exact HE.out
  · by_cases hp : many = 16
    · subst hp
      have HE : Hid (BelowE l count 16 4 w (.returned (.bool true)) w) := Lib.hid ⟨true, rfl, ⟨fun _ => Or.inl (by decide), fun _ => rfl⟩, HD.out⟩
      go_wp2_with fail
      go_ret
      exact HE.out
    · have d : (many == 16) = false := by rw [beq_eq_false_iff_ne]; exact hp
      have HP : Hid (belowP l count many 4 ↔ ∀ i : Nat, i < count → ∀ v : Int, (symOk l (4 : Nat) i → v = symF l 4 i) → (¬ symOk l (4 : Nat) i → v = 0) → v < many) := Lib.hid ⟨fun x => x.elim (fun y => absurd (y.trans (by decide)) hp) id, Or.inr⟩
      clear hp
      go_wp2_with fail
      go_loopw [18] (fun v wr => ∃ j : Nat, v = .int .i64 j ∧ j ≤ count ∧ Hid (∃ q, wr = w.drewN q) ∧ Hid (∀ i : Nat, i < j → ∀ v : Int, (symOk l (4 : Nat) i → v = symF l 4 i) → (¬ symOk l (4 : Nat) i → v = 0) → v < many)) (fun v _ => count - (intOf v).toNat)
      case atStart => exact ⟨0, rfl, by omega, HD, Lib.hid fun i hi => absurd hi (by omega)⟩
      case round =>
        obtain ⟨j, rfl, hj, HQ, HA⟩ := hrel
        by_cases hlt : j < count
        · obtain ⟨q, rfl⟩ := HQ.out
          have HSy := Lib.hid (HS.out q (4 : Nat) (j : Nat))
          go_wp2_with fail
          refine HSy.out.mono ?_
          rintro x w2 ⟨hsv, q2, rfl⟩
          obtain ⟨v, t, rfl, hv1, hv2⟩ := hsv.val
          have HV := Lib.hid (And.intro hv1 hv2)
          have HQ2 := Lib.hid (show ∃ r, (w.drewN q).drewN q2 = w.drewN r from ⟨q + q2, by unfold World.drewN; simp [Nat.add_assoc]⟩)
          clear hsv hv1 hv2 HSy
          generalize (w.drewN q).drewN q2 = w3 at *
          by_cases hlv : many ≤ v
          · have d3 : decide (many ≤ v) = true := decide_eq_true hlv
            have HE : Hid (BelowE l count many 4 w (.returned (.bool false)) w3) := Lib.hid ⟨false, rfl, ⟨fun x => (by cases x), fun x => by
              have := HP.out.1 x j hlt v HV.out.1 HV.out.2
              omega⟩, HQ2.out⟩
            clear hlv
            go_wp2_with fail
            go_ret
            exact HE.out
          · have d3 : decide (many ≤ v) = false := decide_eq_false hlv
            have HN : Hid (∀ i : Nat, i < j + 1 → ∀ v : Int, (symOk l (4 : Nat) i → v = symF l 4 i) → (¬ symOk l (4 : Nat) i → v = 0) → v < many) := Lib.hid (fun i hi v' h1 h2 => by
              by_cases e : i = j
              · subst e
                have e2 : v' = v := by
                  by_cases ho : symOk l (4 : Nat) i
                  · rw [h1 ho, HV.out.1 ho]
                  · rw [h2 ho, HV.out.2 ho]
                omega
              · exact HA.out i (by omega) v' h1 h2)
            clear hlv
            go_wp2_with fail
            go_roundw
            case rel => exact ⟨j + 1, by go_num, by omega, HQ2, HN⟩
            case measure => simp [intOf]; omega
        · have hjc : j = count := by omega
          have HE : Hid (BelowE l count many 4 w (.returned (.bool true)) wr) := Lib.hid ⟨true, rfl, ⟨fun _ => HP.out.2 (by rw [← hjc]; exact HA.out), fun _ => rfl⟩, HQ.out⟩
          clear hjc
          go_wp2_with fail
          go_ret
          exact HE.out
  · by_cases hp : many = 32
    · subst hp
      have HE : Hid (BelowE l count 32 5 w (.returned (.bool true)) w) := Lib.hid ⟨true, rfl, ⟨fun _ => Or.inl (by decide), fun _ => rfl⟩, HD.out⟩
      go_wp2_with fail
      go_ret
      exact HE.out
    · have d : (many == 32) = false := by rw [beq_eq_false_iff_ne]; exact hp
      have HP : Hid (belowP l count many 5 ↔ ∀ i : Nat, i < count → ∀ v : Int, (symOk l (5 : Nat) i → v = symF l 5 i) → (¬ symOk l (5 : Nat) i → v = 0) → v < many) := Lib.hid ⟨fun x => x.elim (fun y => absurd (y.trans (by decide)) hp) id, Or.inr⟩
      clear hp
      go_wp2_with fail
      go_loopw [18] (fun v wr => ∃ j : Nat, v = .int .i64 j ∧ j ≤ count ∧ Hid (∃ q, wr = w.drewN q) ∧ Hid (∀ i : Nat, i < j → ∀ v : Int, (symOk l (5 : Nat) i → v = symF l 5 i) → (¬ symOk l (5 : Nat) i → v = 0) → v < many)) (fun v _ => count - (intOf v).toNat)
      case atStart => exact ⟨0, rfl, by omega, HD, Lib.hid fun i hi => absurd hi (by omega)⟩
      case round =>
        obtain ⟨j, rfl, hj, HQ, HA⟩ := hrel
        by_cases hlt : j < count
        · obtain ⟨q, rfl⟩ := HQ.out
          have HSy := Lib.hid (HS.out q (5 : Nat) (j : Nat))
          go_wp2_with fail
          refine HSy.out.mono ?_
          rintro x w2 ⟨hsv, q2, rfl⟩
          obtain ⟨v, t, rfl, hv1, hv2⟩ := hsv.val
          have HV := Lib.hid (And.intro hv1 hv2)
          have HQ2 := Lib.hid (show ∃ r, (w.drewN q).drewN q2 = w.drewN r from ⟨q + q2, by unfold World.drewN; simp [Nat.add_assoc]⟩)
          clear hsv hv1 hv2 HSy
          generalize (w.drewN q).drewN q2 = w3 at *
          by_cases hlv : many ≤ v
          · have d3 : decide (many ≤ v) = true := decide_eq_true hlv
            have HE : Hid (BelowE l count many 5 w (.returned (.bool false)) w3) := Lib.hid ⟨false, rfl, ⟨fun x => (by cases x), fun x => by
              have := HP.out.1 x j hlt v HV.out.1 HV.out.2
              omega⟩, HQ2.out⟩
            clear hlv
            go_wp2_with fail
            go_ret
            exact HE.out
          · have d3 : decide (many ≤ v) = false := decide_eq_false hlv
            have HN : Hid (∀ i : Nat, i < j + 1 → ∀ v : Int, (symOk l (5 : Nat) i → v = symF l 5 i) → (¬ symOk l (5 : Nat) i → v = 0) → v < many) := Lib.hid (fun i hi v' h1 h2 => by
              by_cases e : i = j
              · subst e
                have e2 : v' = v := by
                  by_cases ho : symOk l (5 : Nat) i
                  · rw [h1 ho, HV.out.1 ho]
                  · rw [h2 ho, HV.out.2 ho]
                omega
              · exact HA.out i (by omega) v' h1 h2)
            clear hlv
            go_wp2_with fail
            go_roundw
            case rel => exact ⟨j + 1, by go_num, by omega, HQ2, HN⟩
            case measure => simp [intOf]; omega
        · have hjc : j = count := by omega
          have HE : Hid (BelowE l count many 5 w (.returned (.bool true)) wr) := Lib.hid ⟨true, rfl, ⟨fun _ => HP.out.2 (by rw [← hjc]; exact HA.out), fun _ => rfl⟩, HQ.out⟩
          clear hjc
          go_wp2_with fail
          go_ret
          exact HE.out
  · by_cases hp : many = 64
    · subst hp
      have HE : Hid (BelowE l count 64 6 w (.returned (.bool true)) w) := Lib.hid ⟨true, rfl, ⟨fun _ => Or.inl (by decide), fun _ => rfl⟩, HD.out⟩
      go_wp2_with fail
      go_ret
      exact HE.out
    · have d : (many == 64) = false := by rw [beq_eq_false_iff_ne]; exact hp
      have HP : Hid (belowP l count many 6 ↔ ∀ i : Nat, i < count → ∀ v : Int, (symOk l (6 : Nat) i → v = symF l 6 i) → (¬ symOk l (6 : Nat) i → v = 0) → v < many) := Lib.hid ⟨fun x => x.elim (fun y => absurd (y.trans (by decide)) hp) id, Or.inr⟩
      clear hp
      go_wp2_with fail
      go_loopw [18] (fun v wr => ∃ j : Nat, v = .int .i64 j ∧ j ≤ count ∧ Hid (∃ q, wr = w.drewN q) ∧ Hid (∀ i : Nat, i < j → ∀ v : Int, (symOk l (6 : Nat) i → v = symF l 6 i) → (¬ symOk l (6 : Nat) i → v = 0) → v < many)) (fun v _ => count - (intOf v).toNat)
      case atStart => exact ⟨0, rfl, by omega, HD, Lib.hid fun i hi => absurd hi (by omega)⟩
      case round =>
        obtain ⟨j, rfl, hj, HQ, HA⟩ := hrel
        by_cases hlt : j < count
        · obtain ⟨q, rfl⟩ := HQ.out
          have HSy := Lib.hid (HS.out q (6 : Nat) (j : Nat))
          go_wp2_with fail
          refine HSy.out.mono ?_
          rintro x w2 ⟨hsv, q2, rfl⟩
          obtain ⟨v, t, rfl, hv1, hv2⟩ := hsv.val
          have HV := Lib.hid (And.intro hv1 hv2)
          have HQ2 := Lib.hid (show ∃ r, (w.drewN q).drewN q2 = w.drewN r from ⟨q + q2, by unfold World.drewN; simp [Nat.add_assoc]⟩)
          clear hsv hv1 hv2 HSy
          generalize (w.drewN q).drewN q2 = w3 at *
          by_cases hlv : many ≤ v
          · have d3 : decide (many ≤ v) = true := decide_eq_true hlv
            have HE : Hid (BelowE l count many 6 w (.returned (.bool false)) w3) := Lib.hid ⟨false, rfl, ⟨fun x => (by cases x), fun x => by
              have := HP.out.1 x j hlt v HV.out.1 HV.out.2
              omega⟩, HQ2.out⟩
            clear hlv
            go_wp2_with fail
            go_ret
            exact HE.out
          · have d3 : decide (many ≤ v) = false := decide_eq_false hlv
            have HN : Hid (∀ i : Nat, i < j + 1 → ∀ v : Int, (symOk l (6 : Nat) i → v = symF l 6 i) → (¬ symOk l (6 : Nat) i → v = 0) → v < many) := Lib.hid (fun i hi v' h1 h2 => by
              by_cases e : i = j
              · subst e
                have e2 : v' = v := by
                  by_cases ho : symOk l (6 : Nat) i
                  · rw [h1 ho, HV.out.1 ho]
                  · rw [h2 ho, HV.out.2 ho]
                omega
              · exact HA.out i (by omega) v' h1 h2)
            clear hlv
            go_wp2_with fail
            go_roundw
            case rel => exact ⟨j + 1, by go_num, by omega, HQ2, HN⟩
            case measure => simp [intOf]; omega
        · have hjc : j = count := by omega
          have HE : Hid (BelowE l count many 6 w (.returned (.bool true)) wr) := Lib.hid ⟨true, rfl, ⟨fun _ => HP.out.2 (by rw [← hjc]; exact HA.out), fun _ => rfl⟩, HQ.out⟩
          clear hjc
          go_wp2_with fail
          go_ret
          exact HE.out
  · by_cases hp : many = 128
    · subst hp
      have HE : Hid (BelowE l count 128 7 w (.returned (.bool true)) w) := Lib.hid ⟨true, rfl, ⟨fun _ => Or.inl (by decide), fun _ => rfl⟩, HD.out⟩
      go_wp2_with fail
      go_ret
      exact HE.out
    · have d : (many == 128) = false := by rw [beq_eq_false_iff_ne]; exact hp
      have HP : Hid (belowP l count many 7 ↔ ∀ i : Nat, i < count → ∀ v : Int, (symOk l (7 : Nat) i → v = symF l 7 i) → (¬ symOk l (7 : Nat) i → v = 0) → v < many) := Lib.hid ⟨fun x => x.elim (fun y => absurd (y.trans (by decide)) hp) id, Or.inr⟩
      clear hp
      go_wp2_with fail
      go_loopw [18] (fun v wr => ∃ j : Nat, v = .int .i64 j ∧ j ≤ count ∧ Hid (∃ q, wr = w.drewN q) ∧ Hid (∀ i : Nat, i < j → ∀ v : Int, (symOk l (7 : Nat) i → v = symF l 7 i) → (¬ symOk l (7 : Nat) i → v = 0) → v < many)) (fun v _ => count - (intOf v).toNat)
      case atStart => exact ⟨0, rfl, by omega, HD, Lib.hid fun i hi => absurd hi (by omega)⟩
      case round =>
        obtain ⟨j, rfl, hj, HQ, HA⟩ := hrel
        by_cases hlt : j < count
        · obtain ⟨q, rfl⟩ := HQ.out
          have HSy := Lib.hid (HS.out q (7 : Nat) (j : Nat))
          go_wp2_with fail
          refine HSy.out.mono ?_
          rintro x w2 ⟨hsv, q2, rfl⟩
          obtain ⟨v, t, rfl, hv1, hv2⟩ := hsv.val
          have HV := Lib.hid (And.intro hv1 hv2)
          have HQ2 := Lib.hid (show ∃ r, (w.drewN q).drewN q2 = w.drewN r from ⟨q + q2, by unfold World.drewN; simp [Nat.add_assoc]⟩)
          clear hsv hv1 hv2 HSy
          generalize (w.drewN q).drewN q2 = w3 at *
          by_cases hlv : many ≤ v
          · have d3 : decide (many ≤ v) = true := decide_eq_true hlv
            have HE : Hid (BelowE l count many 7 w (.returned (.bool false)) w3) := Lib.hid ⟨false, rfl, ⟨fun x => (by cases x), fun x => by
              have := HP.out.1 x j hlt v HV.out.1 HV.out.2
              omega⟩, HQ2.out⟩
            clear hlv
            go_wp2_with fail
            go_ret
            exact HE.out
          · have d3 : decide (many ≤ v) = false := decide_eq_false hlv
            have HN : Hid (∀ i : Nat, i < j + 1 → ∀ v : Int, (symOk l (7 : Nat) i → v = symF l 7 i) → (¬ symOk l (7 : Nat) i → v = 0) → v < many) := Lib.hid (fun i hi v' h1 h2 => by
              by_cases e : i = j
              · subst e
                have e2 : v' = v := by
                  by_cases ho : symOk l (7 : Nat) i
                  · rw [h1 ho, HV.out.1 ho]
                  · rw [h2 ho, HV.out.2 ho]
                omega
              · exact HA.out i (by omega) v' h1 h2)
            clear hlv
            go_wp2_with fail
            go_roundw
            case rel => exact ⟨j + 1, by go_num, by omega, HQ2, HN⟩
            case measure => simp [intOf]; omega
        · have hjc : j = count := by omega
          have HE : Hid (BelowE l count many 7 w (.returned (.bool true)) wr) := Lib.hid ⟨true, rfl, ⟨fun _ => HP.out.2 (by rw [← hjc]; exact HA.out), fun _ => rfl⟩, HQ.out⟩
          clear hjc
          go_wp2_with fail
          go_ret
          exact HE.out
  · by_cases hp : many = 256
    · subst hp
      have HE : Hid (BelowE l count 256 8 w (.returned (.bool true)) w) := Lib.hid ⟨true, rfl, ⟨fun _ => Or.inl (by decide), fun _ => rfl⟩, HD.out⟩
      go_wp2_with fail
      go_ret
      exact HE.out
    · have d : (many == 256) = false := by rw [beq_eq_false_iff_ne]; exact hp
      have HP : Hid (belowP l count many 8 ↔ ∀ i : Nat, i < count → ∀ v : Int, (symOk l (8 : Nat) i → v = symF l 8 i) → (¬ symOk l (8 : Nat) i → v = 0) → v < many) := Lib.hid ⟨fun x => x.elim (fun y => absurd (y.trans (by decide)) hp) id, Or.inr⟩
      clear hp
      go_wp2_with fail
      go_loopw [18] (fun v wr => ∃ j : Nat, v = .int .i64 j ∧ j ≤ count ∧ Hid (∃ q, wr = w.drewN q) ∧ Hid (∀ i : Nat, i < j → ∀ v : Int, (symOk l (8 : Nat) i → v = symF l 8 i) → (¬ symOk l (8 : Nat) i → v = 0) → v < many)) (fun v _ => count - (intOf v).toNat)
      case atStart => exact ⟨0, rfl, by omega, HD, Lib.hid fun i hi => absurd hi (by omega)⟩
      case round =>
        obtain ⟨j, rfl, hj, HQ, HA⟩ := hrel
        by_cases hlt : j < count
        · obtain ⟨q, rfl⟩ := HQ.out
          have HSy := Lib.hid (HS.out q (8 : Nat) (j : Nat))
          go_wp2_with fail
          refine HSy.out.mono ?_
          rintro x w2 ⟨hsv, q2, rfl⟩
          obtain ⟨v, t, rfl, hv1, hv2⟩ := hsv.val
          have HV := Lib.hid (And.intro hv1 hv2)
          have HQ2 := Lib.hid (show ∃ r, (w.drewN q).drewN q2 = w.drewN r from ⟨q + q2, by unfold World.drewN; simp [Nat.add_assoc]⟩)
          clear hsv hv1 hv2 HSy
          generalize (w.drewN q).drewN q2 = w3 at *
          by_cases hlv : many ≤ v
          · have d3 : decide (many ≤ v) = true := decide_eq_true hlv
            have HE : Hid (BelowE l count many 8 w (.returned (.bool false)) w3) := Lib.hid ⟨false, rfl, ⟨fun x => (by cases x), fun x => by
              have := HP.out.1 x j hlt v HV.out.1 HV.out.2
              omega⟩, HQ2.out⟩
            clear hlv
            go_wp2_with fail
            go_ret
            exact HE.out
          · have d3 : decide (many ≤ v) = false := decide_eq_false hlv
            have HN : Hid (∀ i : Nat, i < j + 1 → ∀ v : Int, (symOk l (8 : Nat) i → v = symF l 8 i) → (¬ symOk l (8 : Nat) i → v = 0) → v < many) := Lib.hid (fun i hi v' h1 h2 => by
              by_cases e : i = j
              · subst e
                have e2 : v' = v := by
                  by_cases ho : symOk l (8 : Nat) i
                  · rw [h1 ho, HV.out.1 ho]
                  · rw [h2 ho, HV.out.2 ho]
                omega
              · exact HA.out i (by omega) v' h1 h2)
            clear hlv
            go_wp2_with fail
            go_roundw
            case rel => exact ⟨j + 1, by go_num, by omega, HQ2, HN⟩
            case measure => simp [intOf]; omega
        · have hjc : j = count := by omega
          have HE : Hid (BelowE l count many 8 w (.returned (.bool true)) wr) := Lib.hid ⟨true, rfl, ⟨fun _ => HP.out.2 (by rw [← hjc]; exact HA.out), fun _ => rfl⟩, HQ.out⟩
          clear hjc
          go_wp2_with fail
          go_ret
          exact HE.out

set_option maxHeartbeats 3200000 in
theorem stream_any (F : Nat → Prop) (w : World) (g : Nat) (l : List Int) (s : Rst) (h : Hid (RS F w g l s)) (hl : l.length ≤ 1000000) (count : Nat) (hco : count ≤ 4294967296) (many : Int) (hm0 : 1 ≤ many) (hm1 : many ≤ 256) (b : Nat) (hnb : leastN many = b) :
    Calls Try.prog 63 #[.pointer (some ⟨g, 0, none⟩), .int .i64 (count : Nat), .int .i64 many] w (GotA F w g l (streamS l s count many b)) := by
  have HA := Lib.hid (at_s F w g l s h)
  have HBi := Lib.hid (bits_any many (by omega) w)
  have HTk := Lib.hid (fun n hn => take_any F w g l s h hl n hn)
  have HBd := Lib.hid (fun u t q (hr : Hid (RS F u g l t)) hq => bad_s F u g l t hr q hq)
  have HFl := Lib.hid (fun u t (P : Nat) (hr : Hid (RS F u g l t)) => fail_any F u g l t hr 5 (P : Nat) (by decide))
  have HBe := Lib.hid (fun G u A n cap bs hB hn => below_any G u A n cap bs hB hn count hco many hm0 hm1 b hnb)
  have HFit := Lib.hid h.out.fit
  clear h
  go_enter Try.func63, Try.ntmps63
  go_wp2_with fail
  refine (HA.out).mono ?_
  rintro e w' ⟨rfl, rfl⟩
  go_wp2_with fail
  refine HBi.out.mono ?_
  rintro x w1 ⟨b', rfl, hb, _, rfl⟩
  have hb8 := least_256 hb hm1
  obtain rfl : b = b' := hnb.symm.trans (leastN_is hb)
  obtain ⟨X, hX⟩ : ∃ X, count * b = X := ⟨_, rfl⟩
  have hXb : X ≤ count * 8 := by rw [← hX]; exact Nat.mul_le_mul_left _ hb8
  have hXi : (count : Int) * (b : Int) = (X : Int) := by rw [← hX]; simp
  obtain ⟨n, hn⟩ : ∃ n, (X + 7) / 8 = n := ⟨_, rfl⟩
  have hni : ((X : Int) + 7) / 8 = (n : Int) := by omega
  have HT := Lib.hid (HTk.out (n : Nat) (Or.inr (by omega)))
  have e1 : Int.toNat (n : Nat) = n := Int.toNat_natCast n
  rw [e1] at HT
  obtain ⟨t, ht⟩ : ∃ t, takS l s n = t := ⟨_, rfl⟩
  obtain ⟨bs, hbs⟩ : ∃ bs, takB l s n = bs := ⟨_, rfl⟩
  have hbl : bs.length ≤ 1000000 := by
    rw [← hbs]
    unfold takB
    split
    · simp
    · split
      · rw [List.length_take, List.length_drop]; omega
      · simp
  have HSt : Hid ((t.e = 0 ∧ ¬ belowP bs count many b → streamS l s count many b = failS t 5 s.p) ∧ (¬ (t.e = 0 ∧ ¬ belowP bs count many b) → streamS l s count many b = t)) := Lib.hid (by
    unfold streamS
    rw [hX, hn, ht, hbs]
    exact ⟨fun x => if_pos x, fun x => if_neg x⟩)
  rw [ht, hbs] at HT
  clear hb HBi HTk hX hn ht hbs e1 hnb
  go_wp2_with fail
  refine HT.out.mono ?_
  rintro x w2 ⟨A, k, c, rfl, hB, hr, hc⟩
  have hk := hB.len
  have HB2 := Lib.hid hB
  have HR := Lib.hid hr
  have HC := Lib.hid hc
  clear hB hr hc HT
  by_cases he : t.e = 0
  · have HBad := Lib.hid (HBd.out w2 t true HR (by rw [he]; rfl))
    have HEe := Lib.hid he
    have HBl := Lib.hid (HBe.out _ w2 A k c bs HB2.out (by omega))
    clear he hk
    go_wp2_with fail
    refine HBad.out.mono ?_
    rintro x w3 ⟨rfl, rfl⟩
    go_wp2_with fail
    refine HBl.out.mono ?_
    rintro x w3 ⟨q, rfl, hq, r, rfl⟩
    have HQ := Lib.hid hq
    have HR3 := Lib.hid (HR.out.drew r)
    have HC3 := Lib.hid (HC.out.drew r)
    clear hq
    generalize w2.drewN r = w3 at *
    cases q
    · have HS2 : Hid (streamS l s count many b = failS t 5 s.p) := Lib.hid (HSt.out.1 ⟨HEe.out, fun x => by have := HQ.out.2 x; cases this⟩)
      go_wp2_with fail
      refine (HFl.out _ _ _ HR3).mono ?_
      rintro x w4 ⟨rfl, hr, hc⟩
      have HE : Hid (GotA F w g l (streamS l s count many b) (.returned (.slice A k c)) w4) := Lib.hid ⟨A, k, c, rfl, HS2.out ▸ hr, HC3.out.then hc⟩
      clear hr hc
      go_wp2_with fail
      go_ret
      exact HE.out
    · have HS2 : Hid (streamS l s count many b = t) := Lib.hid (HSt.out.2 fun x => x.2 (HQ.out.1 (by first | trivial | rfl)))
      have HE : Hid (GotA F w g l (streamS l s count many b) (.returned (.slice A k c)) w3) := Lib.hid ⟨A, k, c, rfl, HS2.out ▸ HR3.out, HC3.out⟩
      go_wp2_with fail
      go_ret
      exact HE.out
  · have HBad := Lib.hid (HBd.out w2 t false HR (by simpa using he))
    have HS2 : Hid (streamS l s count many b = t) := Lib.hid (HSt.out.2 fun x => he x.1)
    have HE : Hid (GotA F w g l (streamS l s count many b) (.returned (.slice A k c)) w2) := Lib.hid ⟨A, k, c, rfl, HS2.out ▸ HR.out, HC.out⟩
    clear he hk
    go_wp2_with fail
    refine HBad.out.mono ?_
    rintro x w3 ⟨rfl, rfl⟩
    go_wp2_with fail
    go_ret
    exact HE.out

end Go.Proofs.Ythlaglhlmbkniaa
