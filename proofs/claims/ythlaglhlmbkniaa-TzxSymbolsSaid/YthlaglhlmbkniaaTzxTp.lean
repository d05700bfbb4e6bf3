/- A tape that is being read, in memory. -/
import Derived.Test.YthlaglhlmbkniaaTzxRd
import Derived.Test.YthlaglhlmbkniaaTzxRun
import Derived.Test.YthlaglhlmbkniaaTzxSound
namespace Go.Proofs.Ythlaglhlmbkniaa
open Go.RowKit
set_option linter.unusedVariables false
set_option linter.unusedSimpArgs false
set_option maxRecDepth 100000

/-- What a call of block leaves: a block of that ID, whatever else it holds; the reader in the state s. -/
def BlkE (F : Nat → Prop) (w : World) (g : Nat) (l : List Int) (s : Rst) (id : Int) (x : Ending) (w' : World) : Prop := ∃ cs b, x = .returned (.agg cs) ∧ b.id = id ∧ BV (fun k => w.heap.size ≤ k) w' cs b ∧ RS F w' g l s ∧ Ch (fun k => k = g) w w'
structure Tq (F : Nat → Prop) (w wr : World) (g g0 gt : Nat) (l : List Int) (s : Rst) (M m : Int) (B : Option Addr) (k c : Nat) (L : List Lb) (A : Option Addr) (ka ca : Nat) (bs : List Int) : Prop where
  rs : RS F wr g l s
  res : wr.heap[g0]? = some (.cells #[.int .i64 0, .int .i64 0, .slice none 0 0] 43 (0, 0))
  tp : wr.heap[gt]? = some (.cells #[.int .i64 M, .int .i64 m, .slice B k c] 43 (0, 0))
  row : Blks (fun i => gt < i ∧ (Value.slice A ka ca).ownBlock ≠ some i) (gt + 1) wr B k c L
  beg : wr.ownsRow (gt + 1) 3 1 (.slice A ka ca) ka (bs.map i64I)
  ch : Ch (fun i => i = g) w wr
  o1 : g < w.heap.size
  o2 : w.heap.size ≤ g0
  o3 : g0 < gt
  o4 : ∀ i, F i → i < w.heap.size
theorem Tq.low {F : Nat → Prop} {w wr : World} {g g0 gt : Nat} {l : List Int} {s : Rst} {M m : Int} {B : Option Addr} {k c : Nat} {L : List Lb} {A : Option Addr} {ka ca : Nat} {bs : List Int} (h : Tq F w wr g g0 gt l s M m B k c L A ka ca bs) : gt < wr.heap.size := (Array.getElem?_eq_some_iff.1 h.tp).1
/-- The reader's block alone changed, or nothing that was there. -/
theorem Tq.rd {F : Nat → Prop} {w wr w' : World} {g g0 gt : Nat} {l : List Int} {s s' : Rst} {M m : Int} {B : Option Addr} {k c : Nat} {L : List Lb} {A : Option Addr} {ka ca : Nat} {bs : List Int} (h : Tq F w wr g g0 gt l s M m B k c L A ka ca bs) (hr : RS F w' g l s') (hc : Ch (fun i => i = g) wr w') : Tq F w w' g g0 gt l s' M m B k c L A ka ca bs := by
  have h1 := h.o1
  have h2 := h.o2
  have h3 := h.o3
  have h4 := h.low
  refine ⟨hr, (hc.block g0 (by omega) (by omega)).trans h.res, (hc.block gt h4 (by omega)).trans h.tp, h.row.ch hc fun i hi _ => ?_, own_kept' h.beg fun i hi e => hc.block i hi ?_, h.ch.then hc, h1, h2, h3, h.o4⟩
  · rcases hi with hi | hi <;> omega
  · have := own_low h.beg i e; omega
theorem Tq.below {F : Nat → Prop} {w wr w' : World} {g g0 gt : Nat} {l : List Int} {s : Rst} {M m : Int} {B : Option Addr} {k c : Nat} {L : List Lb} {A : Option Addr} {ka ca : Nat} {bs : List Int} (h : Tq F w wr g g0 gt l s M m B k c L A ka ca bs) (hb : Below wr.heap.size wr w') : Tq F w w' g g0 gt l s M m B k c L A ka ca bs := h.rd (h.rs.below hb) (Ch.of_below hb)
/-- A number was put behind the begins. -/
theorem Tq.begun {F : Nat → Prop} {w wr w' : World} {g g0 gt : Nat} {l : List Int} {s : Rst} {M m : Int} {B : Option Addr} {k c : Nat} {L : List Lb} {A : Option Addr} {ka ca : Nat} {bs : List Int} (h : Tq F w wr g g0 gt l s M m B k c L A ka ca bs) {v : Int} {g' c' : Nat}
    (k1 : w'.ownsRow (gt + 1) 3 1 (.slice (some ⟨g', 0, none⟩) (ka + 1) c') (ka + 1) ((bs ++ [v]).map i64I)) (k2 : Ch (fun i => (Value.slice A ka ca).ownBlock = some i) wr w') (k3 : ∀ i, i < wr.heap.size → (Value.slice A ka ca).ownBlock ≠ some i → (Value.slice (some ⟨g', 0, none⟩) (ka + 1) c').ownBlock ≠ some i) :
    Tq F w w' g g0 gt l s M m B k c L (some ⟨g', 0, none⟩) (ka + 1) c' (bs ++ [v]) := by
  have h1 := h.o1
  have h2 := h.o2
  have h3 := h.o3
  have h4 := h.low
  have ha : ∀ i, (Value.slice A ka ca).ownBlock = some i → gt < i := fun i e => by have := own_low h.beg i e; omega
  obtain ⟨xs, hrow⟩ := h.row.row
  refine ⟨h.rs.ch k2 (fun e => by have := ha _ e; omega) fun i hi e => by have := ha _ e; have := h.o4 i hi; omega, (k2.block g0 (by omega) (fun e => by have := ha _ e; omega)).trans h.res, (k2.block gt h4 (fun e => by have := ha _ e; omega)).trans h.tp, ?_, k1, h.ch.trans k2 fun i hi => Or.inr (by have := ha _ hi; omega), h1, h2, h3, h.o4⟩
  refine (h.row.weak (G := fun i => i < wr.heap.size ∧ gt < i ∧ (Value.slice A ka ca).ownBlock ≠ some i) fun i hi hf => ⟨hi, hf⟩).keep k2.size (fun i hi hf => k2.block i hi ?_) |>.weak fun i _ hf => ⟨hf.2.1, k3 i hf.1 hf.2.2⟩
  rcases hf with hf | hf
  · exact fun e => own_ne hrow h.beg (by decide) i hf e
  · exact hf.2.2
/-- A block was put behind the blocks. -/
theorem Tq.blocked {F : Nat → Prop} {w wr w' : World} {g g0 gt : Nat} {l : List Int} {s : Rst} {M m : Int} {B : Option Addr} {k c : Nat} {L : List Lb} {A : Option Addr} {ka ca : Nat} {bs : List Int} (h : Tq F w wr g g0 gt l s M m B k c L A ka ca bs) {b : Lb} {g' c' : Nat}
    (k1 : Blks (fun i => gt < i ∧ (Value.slice A ka ca).ownBlock ≠ some i) (gt + 1) w' (some ⟨g', 0, none⟩) (k + 1) c' (L ++ [b])) (k2 : Ch (fun i => (Value.slice B k c).ownBlock = some i) wr w') :
    (w'.cell? ⟨gt, 2, none⟩ = some (.slice B k c) ∧ w'.frozen? ⟨gt, 2, none⟩ = false) ∧ Tq F w (w'.setCell ⟨gt, 2, none⟩ (.slice (some ⟨g', 0, none⟩) (k + 1) c')) g g0 gt l s M m (some ⟨g', 0, none⟩) (k + 1) c' (L ++ [b]) A ka ca bs := by
  have h1 := h.o1
  have h2 := h.o2
  have h3 := h.o3
  have h4 := h.low
  have ha : ∀ i, (Value.slice B k c).ownBlock = some i → gt < i := fun i e => by have := h.row.blk i e; omega
  obtain ⟨xs, hrow⟩ := h.row.row
  have e1 : w'.heap[gt]? = some (.cells #[.int .i64 M, .int .i64 m, .slice B k c] 43 (0, 0)) := (k2.block gt h4 (fun e => by have := ha _ e; omega)).trans h.tp
  have hC := Ch.set (F := fun i => i = gt) w' gt 2 (.slice (some ⟨g', 0, none⟩) (k + 1) c') rfl
  have hlt := (Array.getElem?_eq_some_iff.1 e1).1
  refine ⟨⟨cell_of_row w' gt 2 _ _ (0, 0) e1, frozen_of_row w' gt 2 _ _ e1⟩, ?_⟩
  have hbg : w'.ownsRow (gt + 1) 3 1 (.slice A ka ca) ka (bs.map i64I) := own_kept' h.beg fun i hi e => k2.block i hi fun e' => own_ne hrow h.beg (by decide) i e' e
  refine ⟨?_, ?_, heap_setCell_same w' gt 2 _ _ _ e1, k1.ch hC fun i hi _ => ?_, own_kept' hbg fun i hi e => hC.block i hi ?_, ?_, h1, h2, h3, h.o4⟩
  · exact (h.rs.ch k2 (fun e => by have := ha _ e; omega) fun i hi e => by have := ha _ e; have := h.o4 i hi; omega).ch hC (by omega) fun i hi => by have := h.o4 i hi; omega
  · exact (hC.block g0 (by omega) (by omega)).trans ((k2.block g0 (by omega) (fun e => by have := ha _ e; omega)).trans h.res)
  · rcases hi with hi | hi <;> omega
  · have := own_low hbg i e; omega
  · exact (h.ch.trans k2 fun i hi => Or.inr (by have := ha _ hi; omega)).trans hC fun i hi => Or.inr (by omega)
/-- What is known of the blocks that were read. -/
structure Pu (blk : Rst → Rst) (l : List Int) (k : Nat) (L : List Lb) (bs : List Int) : Prop where
  n : L.length = k
  b : bs.length = k
  id : ∀ j, j < k → (gL L j).id = gI l (itS blk (s0F l) j).p
  bg : ∀ j, j < k → gI bs j = ((itS blk (s0F l) j).p : Nat)
  on : ∀ j, j < k → onS blk l (s0F l) j
theorem Pu.nil (blk : Rst → Rst) (l : List Int) : Pu blk l 0 [] [] := ⟨rfl, rfl, fun j hj => absurd hj (by omega), fun j hj => absurd hj (by omega), fun j hj => absurd hj (by omega)⟩
theorem Pu.next {blk : Rst → Rst} {l : List Int} {k : Nat} {L : List Lb} {bs : List Int} (h : Pu blk l k L bs) (hon : onS blk l (s0F l) k) (b : Lb) (hb : b.id = gI l (itS blk (s0F l) k).p) : Pu blk l (k + 1) (L ++ [b]) (bs ++ [((itS blk (s0F l) k).p : Int)]) := by
  refine ⟨by simp [h.n], by simp [h.b], fun j hj => ?_, fun j hj => ?_, fun j hj => ?_⟩
  · by_cases e : j < k
    · rw [gL_left _ _ _ (by rw [h.n]; exact e)]; exact h.id j e
    · obtain rfl : j = k := by omega
      rw [gL_last _ _ _ h.n.symm]; exact hb
  · by_cases e : j < k
    · rw [gI_app_left _ _ _ (by rw [h.b]; exact e)]; exact h.bg j e
    · obtain rfl : j = k := by omega
      rw [gI_app_right _ _ _ (by rw [h.b]; exact Nat.le_refl _), h.b, Nat.sub_self]; rfl
  · by_cases e : j < k
    · exact h.on j e
    · obtain rfl : j = k := by omega
      exact hon
/-- How far it is to the end. -/
def measS (l : List Int) (s : Rst) : Nat := if s.e = 0 then l.length + 1 - s.p else 0
theorem meas_lt {l : List Int} {s s' : Rst} (h0 : s.e = 0) (h1 : s.p < l.length) (h2 : s'.e = 0 → s.p < s'.p) : measS l s' < measS l s := by
  unfold measS
  rw [if_pos h0]
  by_cases e : s'.e = 0
  · rw [if_pos e]; have := h2 e; omega
  · rw [if_neg e]; omega
def tpPut (w : World) (g : Nat) (x y : Int) (B : Option Addr) (n c : Nat) : World := ((w.setCell ⟨g, 0, none⟩ (.int .i64 x)).setCell ⟨g, 1, none⟩ (.int .i64 y)).setCell ⟨g, 2, none⟩ (.slice B n c)
theorem tpPut_heap {w : World} {g : Nat} {a b d : Value} (h : w.heap[g]? = some (.cells #[a, b, d] 43 (0, 0))) (x y : Int) (B : Option Addr) (n c : Nat) : (tpPut w g x y B n c).heap[g]? = some (.cells #[.int .i64 x, .int .i64 y, .slice B n c] 43 (0, 0)) := by
  have h1 := heap_setCell_same w g 0 _ _ (.int .i64 x) h
  have h2 := heap_setCell_same _ g 1 _ _ (.int .i64 y) h1
  exact heap_setCell_same _ g 2 _ _ (.slice B n c) h2
theorem tpPut_ch (w : World) (g : Nat) (x y : Int) (B : Option Addr) (n c : Nat) : Ch (fun k => k = g) w (tpPut w g x y B n c) :=
  ((Ch.set (F := fun k => k = g) w g 0 (.int .i64 x) rfl).then (Ch.set _ g 1 (.int .i64 y) rfl)).then (Ch.set _ g 2 (.slice B n c) rfl)
theorem load_tp {w : World} {g : Nat} {x y : Int} {B : Option Addr} {n c : Nat} (hr : w.heap[g]? = some (.cells #[.int .i64 x, .int .i64 y, .slice B n c] 43 (0, 0))) : (loadVar 43 ⟨g, 0, none⟩).run Try.prog w = .ok (.agg #[.int .i64 x, .int .i64 y, .slice B n c]) w :=
  run_loadVar_mid (P := Try.prog) w g 0 43 [.int .i64 x, .int .i64 y, .slice B n c] _ (fun j v hj => by
    match j, hj with
    | 0, hj => simp at hj; subst hj; exact cell_of_row w g 0 _ _ (0, 0) hr
    | 1, hj => simp at hj; subst hj; exact cell_of_row w g 1 _ _ (0, 0) hr
    | 2, hj => simp at hj; subst hj; exact cell_of_row w g 2 _ _ (0, 0) hr) Try.underlying43 rfl (by kernel_rfl)
theorem results_tp1 {fn : Func} {p : Tmp} (h : fn.results = #[.cell p 43]) (tmps : Array Value) {w : World} {g : Nat} {x y : Int} {B : Option Addr} {n c : Nat} (hr : w.heap[g]? = some (.cells #[.int .i64 x, .int .i64 y, .slice B n c] 43 (0, 0))) (hp : tmps.getD p undef = .pointer (some ⟨g, 0, none⟩)) :
    (results fn tmps).run Try.prog w = .ok (.agg #[.int .i64 x, .int .i64 y, .slice B n c]) w := by
  have hp' : tmps[p]?.getD undef = .pointer (some ⟨g, 0, none⟩) := by simpa using hp
  have hl := load_tp hr
  simp [results, h, hp', asAddr, hl]
theorem results_tp2 {fn : Func} {p q : Tmp} (h : fn.results = #[.cell p 43, .tmp q]) (tmps : Array Value) {w : World} {g : Nat} {x y : Int} {B : Option Addr} {n c : Nat} (hr : w.heap[g]? = some (.cells #[.int .i64 x, .int .i64 y, .slice B n c] 43 (0, 0))) (hp : tmps.getD p undef = .pointer (some ⟨g, 0, none⟩)) (z : Value) (hq : tmps.getD q undef = z) :
    (results fn tmps).run Try.prog w = .ok (.tuple #[.agg #[.int .i64 x, .int .i64 y, .slice B n c], z]) w := by
  have hp' : tmps[p]?.getD undef = .pointer (some ⟨g, 0, none⟩) := by simpa using hp
  have hq' : tmps[q]?.getD undef = z := by simpa using hq
  have hl := load_tp hr
  simp [results, h, hp', hq', asAddr, hl]
theorem Tq.all {F : Nat → Prop} {w wr : World} {g g0 gt : Nat} {l : List Int} {s : Rst} {M m : Int} {B : Option Addr} {k c : Nat} {L : List Lb} {A : Option Addr} {ka ca : Nat} {bs : List Int} (h : Tq F w wr g g0 gt l s M m B k c L A ka ca bs) : (wr.cell? ⟨gt, 0, none⟩ = some (.int .i64 M) ∧ wr.cell? ⟨gt, 1, none⟩ = some (.int .i64 m) ∧ wr.cell? ⟨gt, 2, none⟩ = some (.slice B k c)) ∧ (wr.cell? ⟨g0, 0, none⟩ = some (.int .i64 0) ∧ wr.cell? ⟨g0, 1, none⟩ = some (.int .i64 0) ∧ wr.cell? ⟨g0, 2, none⟩ = some (.slice none 0 0)) ∧ (wr.frozen? ⟨g0, 0, none⟩ = false ∧ wr.frozen? ⟨g0, 1, none⟩ = false ∧ wr.frozen? ⟨g0, 2, none⟩ = false) :=
  ⟨⟨cell_of_row wr gt 0 _ _ (0, 0) h.tp, cell_of_row wr gt 1 _ _ (0, 0) h.tp, cell_of_row wr gt 2 _ _ (0, 0) h.tp⟩, ⟨cell_of_row wr g0 0 _ _ (0, 0) h.res, cell_of_row wr g0 1 _ _ (0, 0) h.res, cell_of_row wr g0 2 _ _ (0, 0) h.res⟩, frozen_of_row wr g0 0 _ _ h.res, frozen_of_row wr g0 1 _ _ h.res, frozen_of_row wr g0 2 _ _ h.res⟩
def TapeE (F : Nat → Prop) (blk : Rst → Rst) (w : World) (g : Nat) (l : List Int) (x : Ending) (w' : World) : Prop := ∃ n s B c, x = .returned (.agg #[.int .i64 (maj l), .int .i64 (mnr l), .slice B n c]) ∧ TapeIs blk l n s ∧ RS F w' g l s ∧ Ch (fun k => k = g) w w'
theorem Tq.made {F : Nat → Prop} {blk : Rst → Rst} {w wr : World} {g g0 gt : Nat} {l : List Int} {s : Rst} {B : Option Addr} {k c : Nat} {L : List Lb} {A : Option Addr} {ka ca : Nat} {bs : List Int} (h : Tq F w wr g g0 gt l s (maj l) (mnr l) B k c L A ka ca bs) (hs : TapeIs blk l k s) : TapeE F blk w g l (.returned (.agg #[.int .i64 (maj l), .int .i64 (mnr l), .slice B k c])) (tpPut wr g0 (maj l) (mnr l) B k c) := by
  have hC := tpPut_ch wr g0 (maj l) (mnr l) B k c
  have h1 := h.o1
  have h2 := h.o2
  exact ⟨k, s, B, c, rfl, hs, h.rs.ch hC (by omega) fun i hi => by have := h.o4 i hi; omega, h.ch.trans hC fun i hi => Or.inr (by omega)⟩

end Go.Proofs.Ythlaglhlmbkniaa
