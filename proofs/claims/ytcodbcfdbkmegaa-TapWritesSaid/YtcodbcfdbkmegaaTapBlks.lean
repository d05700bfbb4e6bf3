/- A tape's blocks in memory. -/
import Derived.Test.YtcodbcfdbkmegaaTapFits
import Derived.Test.YtcodbcfdbkmegaaClone
import Derived.Test.YtcodbcfdbkmegaaOwnKept
import Derived.Test.YtcodbcfdbkmegaaHeldTail
import Derived.Deep.MidRow
import Derived.Deep.AppendLies
namespace Go.Proofs.Ytcodbcfdbkmegaa
open Go.RowKit
set_option linter.unusedVariables false
set_option linter.unusedSimpArgs false

/-- A tape's block, as cells. -/
def blkA (D : Option Addr) (m c : Nat) : Array Value := #[.int .i64 16, .int .i64 1000, .int .i64 0, .int .i64 0, .int .i64 0, .int .i64 0, .int .i64 0, .int .i64 0, .int .i64 0, .int .i64 0, .int .i64 0, .int .i64 0, .slice D m c, .slice none 0 0, .slice none 0 0, .slice none 0 0, .slice none 0 0, .slice none 0 0]
def blkBuild (parts : Array (Nat × Value)) : Sem Value := Instr.build 50 parts
theorem blk_as (parts : Array (Nat × Value)) : Instr.build 50 parts = blkBuild parts := rfl
theorem run_blk (D : Option Addr) (m c : Nat) (u : World) : (blkBuild #[(0, .int .i64 16), (1, .int .i64 1000), (12, .slice D m c)]).run Try.prog u = .ok (.agg (blkA D m c)) u := by kernel_rfl
theorem fold18 (D : Option Addr) (m c : Nat) : Array.foldl (fun (cs : Array Value) (x : Value × Nat) => cs.setIfInBounds x.2 x.1) #[.int .i64 0, .int .i64 0, .int .i64 0, .int .i64 0, .int .i64 0, .int .i64 0, .int .i64 0, .int .i64 0, .int .i64 0, .int .i64 0, .int .i64 0, .int .i64 0, .slice none 0 0, .slice none 0 0, .slice none 0 0, .slice none 0 0, .slice none 0 0, .slice none 0 0] (blkA D m c).zipIdx 0 (blkA D m c).size = blkA D m c := by kernel_rfl
theorem infoBlk : (Try.prog.info? 50).map (fun i => (i.zero, i.size, i.bytes)) = some (some (.agg #[.int .i64 0, .int .i64 0, .int .i64 0, .int .i64 0, .int .i64 0, .int .i64 0, .int .i64 0, .int .i64 0, .int .i64 0, .int .i64 0, .int .i64 0, .int .i64 0, .slice none 0 0, .slice none 0 0, .slice none 0 0, .slice none 0 0, .slice none 0 0, .slice none 0 0]), 18, 240) := by kernel_rfl
/-- A row of the call's own of such blocks. -/
structure Blks (base : Nat) (w : World) (B : Option Addr) (n c : Nat) (L : List (List Int)) : Prop where
  len : L.length = n
  fit : n ≤ c
  max : c ≤ maxLen
  low : base ≤ w.heap.size
  is : ∃ xs, w.ownsRow base 50 18 (.slice B n c) n xs ∧ ∀ j, j < n → ∃ D cj, xs[18 * j]? = some (.int .i64 16) ∧ xs[18 * j + 1]? = some (.int .i64 1000) ∧ xs[18 * j + 12]? = some (.slice D (gL L j).length cj) ∧ BAt8 (fun k => base ≤ k ∧ (Value.slice B n c).ownBlock ≠ some k) w D (gL L j).length cj (gL L j)
theorem Blks.keep {base : Nat} {w w' : World} {B : Option Addr} {n c : Nat} {L : List (List Int)} (h : Blks base w B n c L) (hs : w.heap.size ≤ w'.heap.size) (hb : ∀ k, k < w.heap.size → base ≤ k → w'.heap[k]? = w.heap[k]?) : Blks base w' B n c L := by
  obtain ⟨h1, h2, h3, h4, xs, h5, h6⟩ := h
  refine ⟨h1, h2, h3, Nat.le_trans h4 hs, xs, own_kept' h5 fun k hk e => hb k hk (own_low h5 k e).1, fun j hj => ?_⟩
  obtain ⟨D, cj, k1, k2, k3, k4⟩ := h6 j hj
  exact ⟨D, cj, k1, k2, k3, k4.keep hs fun k hk hf => hb k hk hf.1⟩
theorem Blks.blk {base : Nat} {w : World} {B : Option Addr} {n c : Nat} {L : List (List Int)} (h : Blks base w B n c L) (k : Nat) (hk : (Value.slice B n c).ownBlock = some k) : base ≤ k ∧ k < w.heap.size := by
  obtain ⟨h1, h2, h3, h4, xs, h5, h6⟩ := h
  exact own_low h5 k hk
theorem Blks.at {base : Nat} {w : World} {B : Option Addr} {n c : Nat} {L : List (List Int)} (h : Blks base w B n c L) (j : Nat) (hj : j < n) : ∃ gB D cj, B = some ⟨gB, 0, none⟩ ∧ gB < w.heap.size ∧ w.cell? ⟨gB, 18 * j, none⟩ = some (.int .i64 16) ∧ w.cell? ⟨gB, 18 * j + 1, none⟩ = some (.int .i64 1000) ∧ w.cell? ⟨gB, 18 * j + 12, none⟩ = some (.slice D (gL L j).length cj) ∧ BAt8 (fun _ => True) w D (gL L j).length cj (gL L j) := by
  obtain ⟨h1, h2, h3, h4, xs, h5, h6⟩ := h
  obtain ⟨D, cj, k1, k2, k3, k4⟩ := h6 j hj
  have hcopy := h5
  rcases h5.2 with ⟨_, h0⟩ | ⟨g, cap', cur, e1, hb, hg, _, _, _, _⟩
  · omega
  · injection e1 with e1 e2 e3
    subst e1 e3
    exact ⟨g, D, cj, rfl, (Array.getElem?_eq_some_iff.1 hg).1, (hcopy.cellAt (18 * j) (by omega)).trans k1, (hcopy.cellAt (18 * j + 1) (by omega)).trans k2, (hcopy.cellAt (18 * j + 12) (by omega)).trans k3, k4.weak fun _ _ _ => trivial⟩
/-- A block put behind such a row. -/
theorem wpList_append_blks {P : Program} {ops : Array Oper} {rest : List Oper} {o : Oper} {a : Act} {Q : Exit → Act → World → Prop} {wr : World} {G : Nat → Prop} {base : Nat} (t : TypeId)
    (hinfo : (P.info? 50).map (fun i => (i.zero, i.size, i.bytes)) = some (some (.agg #[.int .i64 0, .int .i64 0, .int .i64 0, .int .i64 0, .int .i64 0, .int .i64 0, .int .i64 0, .int .i64 0, .int .i64 0, .int .i64 0, .int .i64 0, .int .i64 0, .slice none 0 0, .slice none 0 0, .slice none 0 0, .slice none 0 0, .slice none 0 0, .slice none 0 0]), 18, 240)) (ht : P.underlying t = some (.slice 50))
    (hgd : o.guard = none) (s x : Operand) (ho : o.op = .call { callee := .builtin .append, args := #[s, x], argTypes := #[t, t] })
    (B : Option Addr) (n c : Nat) (L : List (List Int)) (hs : a.eval s = .slice B n c) (h2 : Blks base wr B n c L) (D : Option Addr) (m cd : Nat) (l : List Int) (hB : BAt8 G wr D m cd l)
    (hG : ∀ k, k < wr.heap.size → G k → base ≤ k ∧ (Value.slice B n c).ownBlock ≠ some k) (hx : a.eval x = .slice (some ⟨wr.heap.size, 0, none⟩) 1 1) (hn : n ≤ 1000000)
    (h : ∀ g c' w', Blks base w' (some ⟨g, 0, none⟩) (n + 1) c' (L ++ [l]) → Below base wr w' → wpList P ops Q rest (a.put o.dst (.slice (some ⟨g, 0, none⟩) (n + 1) c')) w') : wpList P ops Q (o :: rest) a (wr.alloc (.cells (blkA D m cd) 50)) := by
  obtain ⟨i0, hi, hz0, hz1, hz2⟩ := info_parts hinfo
  obtain ⟨h1, hfit, hmax, hlow, xs, h5, h6⟩ := h2
  refine wpList_append_lies _ hgd s x t ho base 50 i0 _ 18 240 ht hi hz0 hz1 hz2 rfl (by decide) _ n _ hs (h5.alloc _) ⟨wr.heap.size, 0, none⟩ 1 1 (blkA D m cd).toList hx rfl (World.news_of_block (cs := blkA D m cd) (heap_alloc_new wr _)) (by intro u hu; simp [blkA] at hu; rcases hu with rfl | rfl | rfl | rfl | rfl <;> rfl) (by decide) (by unfold maxLen; omega) (by omega) (by simp; omega) _ rfl ?_
  intro g cap1 w' k1 k2 k3 k4
  obtain ⟨A3, cap3, e3, hn3, hm3⟩ := own_slice k1
  injection e3 with _ _ e3
  subst e3
  have hbel : Below base wr w' := (((Below.refl _ _).alloc (Nat.le_refl _) _).mono hlow).grown k2 (by simp; omega) (fun k hk => (own_low h5 k hk).1)
  have hlx : xs.length = n * 18 := h5.1
  have hold : ∀ k, k < wr.heap.size → (Value.slice B n c).ownBlock ≠ some k → w'.heap[k]? = wr.heap[k]? := fun k hk hf => by
    have e1 := k2.block k (by simp; omega) (fun e => hf e.symm)
    rw [e1]
    exact (bnew wr (.cells (blkA D m cd) 50)).block k hk
  have hne : ∀ k, k < wr.heap.size → (Value.slice B n c).ownBlock ≠ some k → (Value.slice (some ⟨g, 0, none⟩) (n + 1) cap1).ownBlock ≠ some k := fun k hk hf e => by
    simp only [Value.ownBlock, Option.some.injEq] at e
    subst e
    rcases k3 with k3 | k3
    · exact hf k3
    · simp at k3; omega
  have hlm := hB.len
  refine h g cap1 w' ⟨by simp [h1], hn3, hm3, by have := hbel.size; omega, _, k1, fun j hj => ?_⟩ hbel
  by_cases e : j < n
  · obtain ⟨D1, c1, q1, q2, q3, q4⟩ := h6 j e
    rw [gL_left _ _ _ (by omega)]
    refine ⟨D1, c1, by rw [List.getElem?_append_left (by omega)]; exact q1, by rw [List.getElem?_append_left (by omega)]; exact q2, by rw [List.getElem?_append_left (by omega)]; exact q3, ?_⟩
    exact (q4.weak (G := fun k => k < wr.heap.size ∧ base ≤ k ∧ (Value.slice B n c).ownBlock ≠ some k) fun k hk hf => ⟨hk, hf⟩).keep hbel.size (fun k hk hf => hold k hk hf.2.2) |>.weak fun k _ hf => ⟨hf.2.1, hne k hf.1 hf.2.2⟩
  · obtain rfl : j = n := by omega
    rw [gL_last _ _ _ h1.symm, hlm]
    refine ⟨D, cd, ?_, ?_, ?_, ?_⟩
    · rw [List.getElem?_append_right (by omega), hlx, show 18 * j - j * 18 = 0 by omega]; rfl
    · rw [List.getElem?_append_right (by omega), hlx, show 18 * j + 1 - j * 18 = 1 by omega]; rfl
    · rw [List.getElem?_append_right (by omega), hlx, show 18 * j + 12 - j * 18 = 12 by omega]; rfl
    · exact (hB.weak (G := fun k => k < wr.heap.size ∧ base ≤ k ∧ (Value.slice B j c).ownBlock ≠ some k) fun k hk hf => ⟨hk, hG k hk hf⟩).keep hbel.size (fun k hk hf => hold k hk hf.2.2) |>.weak fun k _ hf => ⟨hf.2.1, hne k hf.1 hf.2.2⟩
/-- How far a tape is made: the result's block, the tape's. -/
structure Tp (w wr : World) (g0 g : Nat) (L : List (List Int)) (k : Nat) (B : Option Addr) (c : Nat) : Prop where
  res : wr.heap[g0]? = some (.cells #[.int .i64 0, .int .i64 0, .slice none 0 0] 40 (0, 0))
  tp : wr.heap[g]? = some (.cells #[.int .i64 1, .int .i64 20, .slice B k c] 40 (0, 0))
  row : Blks (g + 1) wr B k c (L.take k)
  bel : Below w.heap.size w wr
  eq0 : g0 = w.heap.size
  eq : g = g0 + 1
theorem Tp.next {w wr w1 w4 : World} {g0 g : Nat} {L : List (List Int)} {k : Nat} {B B' : Option Addr} {c c' : Nat} (h : Tp w wr g0 g L k B c) (hc : Below wr.heap.size wr w1) (hx : Blks (g + 1) w4 B' (k + 1) c' (L.take (k + 1))) (hb : Below (g + 1) w1 w4) :
    (w4.cell? ⟨g, 2, none⟩ = some (.slice B k c) ∧ w4.frozen? ⟨g, 2, none⟩ = false) ∧ Tp w (w4.setCell ⟨g, 2, none⟩ (.slice B' (k + 1) c')) g0 g L (k + 1) B' c' := by
  have hg := (Array.getElem?_eq_some_iff.1 h.tp).1
  have e1 : w4.heap[g]? = some (.cells #[.int .i64 1, .int .i64 20, .slice B k c] 40 (0, 0)) := (hb.block g (Nat.lt_succ_self _)).trans ((hc.block g hg).trans h.tp)
  have e0 : w4.heap[g0]? = some (.cells #[.int .i64 0, .int .i64 0, .slice none 0 0] 40 (0, 0)) := (hb.block g0 (by have := h.eq; omega)).trans ((hc.block g0 (Array.getElem?_eq_some_iff.1 h.res).1).trans h.res)
  have hC := Ch.set (F := fun k => k = g) w4 g 2 (.slice B' (k + 1) c') rfl
  refine ⟨⟨cell_of_row w4 g 2 _ _ (0, 0) e1, frozen_of_row w4 g 2 _ _ e1⟩, ?_, heap_setCell_same w4 g 2 _ _ (.slice B' (k + 1) c') e1, hx.keep hC.size fun i hi hi2 => hC.block i hi (by omega), ?_, h.eq0, h.eq⟩
  · exact (hC.block g0 (Array.getElem?_eq_some_iff.1 e0).1 (by have := h.eq; omega)).trans e0
  · have h1 : Below w.heap.size w w4 := (h.bel.trans (hc.mono h.bel.size)).trans (hb.mono (by have := h.eq0; have := h.eq; omega))
    exact h1.trans (hC.below (fun i hi => by have := h.eq0; have := h.eq; omega) h1.size)
theorem results_tp2 {fn : Func} {p q : Tmp} (h : fn.results = #[.cell p 40, .tmp q]) (tmps : Array Value) {w : World} {g : Nat} {x y : Int} {B : Option Addr} {n c : Nat} (hr : w.heap[g]? = some (.cells #[.int .i64 x, .int .i64 y, .slice B n c] 40 (0, 0))) (hp : tmps.getD p undef = .pointer (some ⟨g, 0, none⟩)) (z : Value) (hq : tmps.getD q undef = z) :
    (results fn tmps).run Try.prog w = .ok (.tuple #[.agg #[.int .i64 x, .int .i64 y, .slice B n c], z]) w := by
  have hp' : tmps[p]?.getD undef = .pointer (some ⟨g, 0, none⟩) := by simpa using hp
  have hq' : tmps[q]?.getD undef = z := by simpa using hq
  have hl := run_loadVar_mid (P := Try.prog) w g 0 40 [.int .i64 x, .int .i64 y, .slice B n c] _ (fun j v hj => by
    match j, hj with
    | 0, hj => simp at hj; subst hj; exact cell_of_row w g 0 _ _ (0, 0) hr
    | 1, hj => simp at hj; subst hj; exact cell_of_row w g 1 _ _ (0, 0) hr
    | 2, hj => simp at hj; subst hj; exact cell_of_row w g 2 _ _ (0, 0) hr) Try.underlying40 rfl (by kernel_rfl)
  simp [results, h, hp', hq', asAddr, hl]
/-- A tape of blocks. -/
def Taped (w : World) (L : List (List Int)) (x : Ending) (w' : World) : Prop := ∃ (B : Option Addr) (c base : Nat), x = .returned (.tuple #[.agg #[.int .i64 1, .int .i64 20, .slice B L.length c], .int .i64 0]) ∧ w.heap.size ≤ base ∧ Blks base w' B L.length c L ∧ Below w.heap.size w w'
def tpPut (w : World) (g : Nat) (x y : Int) (B : Option Addr) (n c : Nat) : World := ((w.setCell ⟨g, 0, none⟩ (.int .i64 x)).setCell ⟨g, 1, none⟩ (.int .i64 y)).setCell ⟨g, 2, none⟩ (.slice B n c)
theorem tpPut_heap {w : World} {g : Nat} {a b d : Value} (h : w.heap[g]? = some (.cells #[a, b, d] 40 (0, 0))) (x y : Int) (B : Option Addr) (n c : Nat) : (tpPut w g x y B n c).heap[g]? = some (.cells #[.int .i64 x, .int .i64 y, .slice B n c] 40 (0, 0)) := by
  have h1 := heap_setCell_same w g 0 _ _ (.int .i64 x) h
  have h2 := heap_setCell_same _ g 1 _ _ (.int .i64 y) h1
  exact heap_setCell_same _ g 2 _ _ (.slice B n c) h2
theorem tpPut_ch (w : World) (g : Nat) (x y : Int) (B : Option Addr) (n c : Nat) : Ch (fun k => k = g) w (tpPut w g x y B n c) :=
  ((Ch.set (F := fun k => k = g) w g 0 (.int .i64 x) rfl).then (Ch.set _ g 1 (.int .i64 y) rfl)).then (Ch.set _ g 2 (.slice B n c) rfl)
theorem Tp.all {w wr : World} {g0 g : Nat} {L : List (List Int)} {k : Nat} {B : Option Addr} {c : Nat} (h : Tp w wr g0 g L k B c) : (wr.cell? ⟨g, 0, none⟩ = some (.int .i64 1) ∧ wr.cell? ⟨g, 1, none⟩ = some (.int .i64 20) ∧ wr.cell? ⟨g, 2, none⟩ = some (.slice B k c)) ∧ (wr.cell? ⟨g0, 0, none⟩ = some (.int .i64 0) ∧ wr.cell? ⟨g0, 1, none⟩ = some (.int .i64 0) ∧ wr.cell? ⟨g0, 2, none⟩ = some (.slice none 0 0)) ∧ (wr.frozen? ⟨g0, 0, none⟩ = false ∧ wr.frozen? ⟨g0, 1, none⟩ = false ∧ wr.frozen? ⟨g0, 2, none⟩ = false) :=
  ⟨⟨cell_of_row wr g 0 _ _ (0, 0) h.tp, cell_of_row wr g 1 _ _ (0, 0) h.tp, cell_of_row wr g 2 _ _ (0, 0) h.tp⟩, ⟨cell_of_row wr g0 0 _ _ (0, 0) h.res, cell_of_row wr g0 1 _ _ (0, 0) h.res, cell_of_row wr g0 2 _ _ (0, 0) h.res⟩, frozen_of_row wr g0 0 _ _ h.res, frozen_of_row wr g0 1 _ _ h.res, frozen_of_row wr g0 2 _ _ h.res⟩
theorem Tp.made {w wr : World} {g0 g : Nat} {L : List (List Int)} {k : Nat} {B : Option Addr} {c : Nat} (h : Tp w wr g0 g L k B c) (hk : k = L.length) : Taped w L (.returned (.tuple #[.agg #[.int .i64 1, .int .i64 20, .slice B k c], .int .i64 0])) (tpPut wr g0 1 20 B k c) := by
  subst hk
  have hC := tpPut_ch wr g0 1 20 B L.length c
  have hr := h.row
  rw [List.take_length] at hr
  exact ⟨B, c, g + 1, rfl, by have := h.eq0; have := h.eq; omega, hr.keep hC.size fun i hi hi2 => hC.block i hi (by have := h.eq; omega), h.bel.trans (hC.below (fun i hi => by have := h.eq0; omega) h.bel.size)⟩

end Go.Proofs.Ytcodbcfdbkmegaa
