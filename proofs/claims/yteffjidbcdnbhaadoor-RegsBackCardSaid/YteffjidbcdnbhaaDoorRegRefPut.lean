/- The document's Put: its contract. -/
import Derived.Test.YteffjidbcdnbhaaDoorRegRef
import Derived.Deep.DeepCutAuto
namespace Go.Proofs.YteffjidbcdnbhaaDoor
open Go.RowKit

/-- All of the registers read at once. -/
theorem wpList_load_regs {ops : Array Oper} {rest : List Oper} {o : Oper} {a : Act} {w : World} {Q : Exit → Act → World → Prop} {b : Nat} {x : Rg} (h : RegAt w b x) (hgd : o.guard = none) (t : Operand) (ho : o.op = .load 24 t)
    (hx : a.eval t = .pointer (some ⟨b, 0, none⟩)) (hk : wpList Tryd.prog ops Q rest (a.put o.dst (.agg x.cells.toArray)) w) : wpList Tryd.prog ops Q (o :: rest) a w :=
  wpList_load_mid hgd 24 t ho b 0 hx x.cells _ h.at' Tryd.underlying24 rfl regs_size hk
/-- All of the registers written at once. -/
theorem wpList_store_regs {ops : Array Oper} {rest : List Oper} {o : Oper} {a : Act} {w : World} {Q : Exit → Act → World → Prop} {b : Nat} {x : Rg} (y : Rg) (h : RegAt w b x) (hgd : o.guard = none) (t u : Operand) (ho : o.op = .store 24 t u)
    (hx : a.eval t = .pointer (some ⟨b, 0, none⟩)) (hy : a.eval u = .agg y.cells.toArray) (hk : wpList Tryd.prog ops Q rest (a.put o.dst undef) (w.setCells b 0 y.cells)) : wpList Tryd.prog ops Q (o :: rest) a w :=
  wpList_store_mid hgd 24 t u ho b 0 y.cells.toArray hx hy (h.there' y) regs_size y.all hk

theorem new_two (w : World) (x : Rg) (t : TypeId) : RegAt ((w.alloc (.cells x.cells.toArray t)).alloc (.cells Rg.zero.cells.toArray t)) w.heap.size x ∧ RegAt ((w.alloc (.cells x.cells.toArray t)).alloc (.cells Rg.zero.cells.toArray t)) (w.heap.size + 1) Rg.zero ∧ Below w.heap.size w ((w.alloc (.cells x.cells.toArray t)).alloc (.cells Rg.zero.cells.toArray t)) := by
  have h1 := RegAt.new w x t
  have h2 := RegAt.new (w.alloc (.cells x.cells.toArray t)) Rg.zero t
  have e : (w.alloc (.cells x.cells.toArray t)).heap.size = w.heap.size + 1 := by simp
  rw [e] at h2
  exact ⟨h1.below ((Below.refl _ _).alloc (Nat.le_refl _) _), h2, ((Below.refl _ _).alloc (Nat.le_refl _) _).alloc (by simp) _⟩

/-- The result is a struct of registers that lies in a block. -/
theorem results_regs {fn : Func} {p : Tmp} (h : fn.results = #[.cell p 24]) (tmps : Array Value) {w : World} {b : Nat} {x : Rg} (hr : RegAt w b x) (hp : tmps.getD p undef = .pointer (some ⟨b, 0, none⟩)) :
    (results fn tmps).run Tryd.prog w = .ok (.agg x.cells.toArray) w := by
  have hp' : tmps[p]?.getD undef = .pointer (some ⟨b, 0, none⟩) := by simpa using hp
  have hl := run_loadVar_mid (P := Tryd.prog) w b 0 24 x.cells _ hr.at' Tryd.underlying24 rfl regs_size
  simp [results, h, hp', asAddr, hl]

set_option maxRecDepth 100000 in
set_option maxHeartbeats 1600000 in
theorem refPut_no (x : Rg) (k i v : Int) (w : World) (ok : x.Ok) (h : k < 0 ∨ 7 < k ∨ k = 6) : Calls Tryd.prog 11 #[.agg x.cells.toArray, .int .i64 k, .int .i64 i, .int .u8 v] w fun e w' => e = .returned (.agg x.cells.toArray) ∧ Below w.heap.size w w' := by
  have HL := Lib.hid (fun w => list_any x i w ok)
  have K := Lib.hid (new_two w x 24)
  clear ok
  go_enter Tryd.func11, Tryd.ntmps11
  go_upto_region 1 with (fail)
  have k1 : RegAt ((w.alloc (.cells x.cells.toArray 24)).alloc (.cells #[.int .u8 0, .int .u8 0, .int .u8 0, .int .u8 0, .int .u8 0, .int .u8 0, .int .u8 0, .int .u8 0, .int .u8 0, .int .u8 0, .int .u8 0, .int .u8 0, .int .u8 0, .int .u8 0, .int .u8 0, .int .u8 0, .int .u8 0, .int .u8 0, .int .u8 0, .int .u16 0, .int .u16 0, .int .u16 0, .int .u16 0, .int .u16 0, .bool false, .bool false, .bool false, .bool false, .int .u8 0, .int .u8 0] 24)) w.heap.size x ∧ RegAt ((w.alloc (.cells x.cells.toArray 24)).alloc (.cells #[.int .u8 0, .int .u8 0, .int .u8 0, .int .u8 0, .int .u8 0, .int .u8 0, .int .u8 0, .int .u8 0, .int .u8 0, .int .u8 0, .int .u8 0, .int .u8 0, .int .u8 0, .int .u8 0, .int .u8 0, .int .u8 0, .int .u8 0, .int .u8 0, .int .u8 0, .int .u16 0, .int .u16 0, .int .u16 0, .int .u16 0, .int .u16 0, .bool false, .bool false, .bool false, .bool false, .int .u8 0, .int .u8 0] 24)) (w.heap.size + 1) Rg.zero ∧ Below w.heap.size w ((w.alloc (.cells x.cells.toArray 24)).alloc (.cells #[.int .u8 0, .int .u8 0, .int .u8 0, .int .u8 0, .int .u8 0, .int .u8 0, .int .u8 0, .int .u8 0, .int .u8 0, .int .u8 0, .int .u8 0, .int .u8 0, .int .u8 0, .int .u8 0, .int .u8 0, .int .u8 0, .int .u8 0, .int .u8 0, .int .u8 0, .int .u16 0, .int .u16 0, .int .u16 0, .int .u16 0, .int .u16 0, .bool false, .bool false, .bool false, .bool false, .int .u8 0, .int .u8 0] 24)) := K.out
  generalize (w.alloc (.cells x.cells.toArray 24)).alloc (.cells #[.int .u8 0, .int .u8 0, .int .u8 0, .int .u8 0, .int .u8 0, .int .u8 0, .int .u8 0, .int .u8 0, .int .u8 0, .int .u8 0, .int .u8 0, .int .u8 0, .int .u8 0, .int .u8 0, .int .u8 0, .int .u8 0, .int .u8 0, .int .u8 0, .int .u8 0, .int .u16 0, .int .u16 0, .int .u16 0, .int .u16 0, .int .u16 0, .bool false, .bool false, .bool false, .bool false, .int .u8 0, .int .u8 0] 24) = w1 at k1 ⊢
  have K1 := Lib.hid k1
  clear k1 K
  go_wp2_with (refine wpList_load_regs K1.out.1 rfl _ rfl rfl ?_)
  refine (HL.out _).mono ?_
  rintro e w2 ⟨g, rfl, hg, hgc, hb2⟩
  have r2 := K1.out.1.below hb2
  have z2 := K1.out.2.1.below hb2
  have R2 := Lib.hid r2
  have Z2 := Lib.hid z2
  have F2 := Lib.hid (z2.fill x)
  have B2 := Lib.hid ((below_step K1.out.2.2 hb2).trans ((Wrote.setCells (w.heap.size + 1) x.cells 0 w2).below (Nat.le_succ _)))
  clear r2 z2 hgc hb2 hg
  rcases h with h | h | h
  · go_wp2_with (first | refine wpList_load_regs R2.out rfl _ rfl rfl ?_ | refine wpList_store_regs x Z2.out rfl _ _ rfl rfl rfl ?_)
    exact bodyPost_ret (results_regs rfl _ F2.out rfl) rfl ⟨rfl, B2.out⟩
  · have h0 : decide (k < 0) = false := by simp; omega
    go_wp2_with (first | refine wpList_load_regs R2.out rfl _ rfl rfl ?_ | refine wpList_store_regs x Z2.out rfl _ _ rfl rfl rfl ?_)
    exact bodyPost_ret (results_regs rfl _ F2.out rfl) rfl ⟨rfl, B2.out⟩
  · subst h
    go_wp2_with (first | refine wpList_load_regs R2.out rfl _ rfl rfl ?_ | refine wpList_store_regs x Z2.out rfl _ _ rfl rfl rfl ?_)
    exact bodyPost_ret (results_regs rfl _ F2.out rfl) rfl ⟨rfl, B2.out⟩

/-- What the cells of a list of eight bytes are. -/
def Eight (w : World) (g : Nat) (a b c d e f h i : Int) : Prop := w.cell? ⟨g, 0, none⟩ = some (.int .u8 a) ∧ w.cell? ⟨g, 1, none⟩ = some (.int .u8 b) ∧ w.cell? ⟨g, 2, none⟩ = some (.int .u8 c) ∧ w.cell? ⟨g, 3, none⟩ = some (.int .u8 d) ∧ w.cell? ⟨g, 4, none⟩ = some (.int .u8 e) ∧ w.cell? ⟨g, 5, none⟩ = some (.int .u8 f) ∧ w.cell? ⟨g, 6, none⟩ = some (.int .u8 h) ∧ w.cell? ⟨g, 7, none⟩ = some (.int .u8 i)
theorem eight_put {w : World} {g : Nat} {x : Rg} {i : Int} {t : TypeId} (h : w.heap[g]? = some (.cells (listV x i) t (0, 0))) (k : Nat) (v : Int) (hk : k < 8) :
    Eight (w.setCell ⟨g, k, none⟩ (.int .u8 v)) g (if k = 0 then v else x.b) (if k = 1 then v else x.c) (if k = 2 then v else x.d) (if k = 3 then v else x.e) (if k = 4 then v else hiX x i) (if k = 5 then v else loX x i) (if k = 6 then v else 0) (if k = 7 then v else x.a) := by
  have hs := heap_setCell_same w g k (listV x i) t (.int .u8 v) h
  have e : k = 0 ∨ k = 1 ∨ k = 2 ∨ k = 3 ∨ k = 4 ∨ k = 5 ∨ k = 6 ∨ k = 7 := by omega
  unfold Eight
  simp only [cell_of_row _ g _ _ _ _ hs]
  rcases e with rfl | rfl | rfl | rfl | rfl | rfl | rfl | rfl
  all_goals exact ⟨rfl, rfl, rfl, rfl, rfl, rfl, rfl, rfl⟩

end Go.Proofs.YteffjidbcdnbhaaDoor
