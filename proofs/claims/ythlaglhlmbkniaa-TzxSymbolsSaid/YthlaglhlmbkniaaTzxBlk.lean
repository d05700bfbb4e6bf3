/- api.Block: as a value of 18 cells, in a block of its own, in a row. -/
import Derived.Test.YthlaglhlmbkniaaTzxSnd
import Derived.Test.YthlaglhlmbkniaaInts
import Derived.Test.YthlaglhlmbkniaaOwnKept
import Derived.Laws.CopyRow
import Derived.Laws.CopyOwn
import Derived.Deep.MidRow
import Derived.Deep.AppendLies
namespace Go.Proofs.Ythlaglhlmbkniaa
open Go.RowKit
set_option maxRecDepth 100000
set_option linter.unusedVariables false
set_option linter.unusedSimpArgs false

/-- A slice of Items: their N, and a slice each (whatever it holds). -/
structure ItAt (F : Nat → Prop) (w : World) (A : Option Addr) (n cap : Nat) (l : List Int) : Prop where
  len : l.length = n
  fit : n ≤ cap
  max : cap ≤ maxLen
  lies : 0 < n → ∃ b o, A = some ⟨b, o, none⟩ ∧ F b ∧ b < w.heap.size ∧ ∀ j, j < n → w.cell? ⟨b, o + j * 2, none⟩ = some (.int .i64 (gI l j)) ∧ ∃ D m c, w.cell? ⟨b, o + j * 2 + 1, none⟩ = some (.slice D m c)
theorem ItAt.keep {F : Nat → Prop} {w w' : World} {A : Option Addr} {n cap : Nat} {l : List Int} (h : ItAt F w A n cap l) (hs : w.heap.size ≤ w'.heap.size) (hb : ∀ k, k < w.heap.size → F k → w'.heap[k]? = w.heap[k]?) : ItAt F w' A n cap l :=
  ⟨h.len, h.fit, h.max, fun hn => by
    obtain ⟨b, o, h1, h2, h3, h4⟩ := h.lies hn
    refine ⟨b, o, h1, h2, Nat.lt_of_lt_of_le h3 hs, fun j hj => ?_⟩
    obtain ⟨h5, D, m, c, h6⟩ := h4 j hj
    exact ⟨(World.cell?_of_block (a := ⟨b, o + j * 2, none⟩) (hb b h3 h2)).trans h5, D, m, c, (World.cell?_of_block (a := ⟨b, o + j * 2 + 1, none⟩) (hb b h3 h2)).trans h6⟩⟩
theorem ItAt.weak {F G : Nat → Prop} {w : World} {A : Option Addr} {n cap : Nat} {l : List Int} (h : ItAt F w A n cap l) (hF : ∀ k, k < w.heap.size → F k → G k) : ItAt G w A n cap l :=
  ⟨h.len, h.fit, h.max, fun hn => by
    obtain ⟨b, o, h1, h2, h3, h4⟩ := h.lies hn
    exact ⟨b, o, h1, hF b h3 h2, h3, h4⟩⟩
theorem ItAt.empty (F : Nat → Prop) (w : World) : ItAt F w none 0 0 [] := ⟨rfl, Nat.le_refl _, Nat.zero_le _, fun h => absurd h (by omega)⟩
/-- A block's value: 18 cells, of which the ID, Times and Items are b's. -/
structure BV (F : Nat → Prop) (w : World) (cs : Array Value) (b : Lb) : Prop where
  size : cs.size = 18
  one : cs.all (·.oneCell') = true
  id : cs[0]? = some (.int .i64 b.id)
  ts : ∃ A n c, cs[13]? = some (.slice A n c) ∧ IAt F w A n c b.ts
  ns : ∃ A n c, cs[14]? = some (.slice A n c) ∧ ItAt F w A n c b.ns
theorem BV.keep {F : Nat → Prop} {w w' : World} {cs : Array Value} {b : Lb} (h : BV F w cs b) (hs : w.heap.size ≤ w'.heap.size) (hb : ∀ k, k < w.heap.size → F k → w'.heap[k]? = w.heap[k]?) : BV F w' cs b := by
  obtain ⟨h1, h2, h3, ⟨A, n, c, h4, h5⟩, A', n', c', h6, h7⟩ := h
  exact ⟨h1, h2, h3, ⟨A, n, c, h4, h5.keep hs hb⟩, A', n', c', h6, h7.keep hs hb⟩
theorem BV.weak {F G : Nat → Prop} {w : World} {cs : Array Value} {b : Lb} (h : BV F w cs b) (hF : ∀ k, k < w.heap.size → F k → G k) : BV G w cs b := by
  obtain ⟨h1, h2, h3, ⟨A, n, c, h4, h5⟩, A', n', c', h6, h7⟩ := h
  exact ⟨h1, h2, h3, ⟨A, n, c, h4, h5.weak hF⟩, A', n', c', h6, h7.weak hF⟩
theorem BV.below {F : Nat → Prop} {w w' : World} {cs : Array Value} {b : Lb} (h : BV F w cs b) (hb : Below w.heap.size w w') : BV F w' cs b := h.keep hb.size fun k hk _ => hb.block k hk
theorem BV.ch {F G : Nat → Prop} {w w' : World} {cs : Array Value} {b : Lb} (h : BV F w cs b) (hb : Ch G w w') (hF : ∀ k, F k → ¬ G k) : BV F w' cs b := h.keep hb.size fun k hk hf => hb.block k hk (hF k hf)
/-- Such a value in a block of its own. -/
def BIn (w : World) (g : Nat) (cs : Array Value) : Prop := w.heap[g]? = some (.cells cs 30 (0, 0)) ∧ cs.size = 18
theorem BIn.lt {w : World} {g : Nat} {cs : Array Value} (h : BIn w g cs) : g < w.heap.size := (Array.getElem?_eq_some_iff.1 h.1).1
theorem BIn.keep {w w' : World} {g : Nat} {cs : Array Value} (h : BIn w g cs) (hb : w'.heap[g]? = w.heap[g]?) : BIn w' g cs := ⟨hb.trans h.1, h.2⟩
theorem BIn.below {w w' : World} {g : Nat} {cs : Array Value} (h : BIn w g cs) (hb : Below w.heap.size w w') : BIn w' g cs := h.keep (hb.block g h.lt)
theorem BIn.ch {G : Nat → Prop} {w w' : World} {g : Nat} {cs : Array Value} (h : BIn w g cs) (hb : Ch G w w') (hG : ¬ G g) : BIn w' g cs := h.keep (hb.block g h.lt hG)
theorem BIn.cell {w : World} {g : Nat} {cs : Array Value} (h : BIn w g cs) {i : Nat} {v : Value} (hv : cs[i]? = some v) : w.cell? ⟨g, i, none⟩ = some v := (cell_of_row w g i _ _ (0, 0) h.1).trans hv
theorem BIn.frozen {w : World} {g : Nat} {cs : Array Value} (h : BIn w g cs) (i : Nat) : w.frozen? ⟨g, i, none⟩ = false := frozen_of_row w g i _ _ h.1
theorem BIn.new (w : World) {cs : Array Value} (h : cs.size = 18) : BIn (w.alloc (.cells cs 30)) w.heap.size cs := ⟨heap_alloc_new w _, h⟩
theorem BIn.set {w : World} {g : Nat} {cs : Array Value} (h : BIn w g cs) (i : Nat) (v : Value) : BIn (w.setCell ⟨g, i, none⟩ v) g (cs.setIfInBounds i v) := ⟨heap_setCell_same w g i _ _ v h.1, by rw [Array.size_setIfInBounds]; exact h.2⟩
theorem BIn.put {w : World} {g : Nat} {cur cs : Array Value} (h : BIn w g cur) (hs : cs.size = 18) : BIn (w.setRow g cs) g cs ∧ Ch (fun k => k = g) w (w.setRow g cs) :=
  ⟨⟨setRow_heap _ _ _ _ _ _ h.1, hs⟩, rfl, rfl, rfl, by simp [World.setRow], fun k _ hk => setRow_other _ _ _ _ hk⟩

/-! Its operations, by names of their own. -/
def blkAlloc (h : Bool) (o : Value) : Sem Value := Instr.alloc 30 h o
theorem blkAlloc_as (h : Bool) (o : Value) : Instr.alloc 30 h o = blkAlloc h o := rfl
def blkStore (p v : Value) : Sem Unit := Instr.storeAt 30 p v
theorem blkStore_as (p v : Value) : Instr.storeAt 30 p v = blkStore p v := rfl
def blkLoad (v : Value) : Sem Value := Instr.loadAt 30 v
theorem blkLoad_as (v : Value) : Instr.loadAt 30 v = blkLoad v := rfl
def blkBuild (l : Array (Nat × Value)) : Sem Value := Instr.build 30 l
theorem blkBuild_as (l : Array (Nat × Value)) : Instr.build 30 l = blkBuild l := rfl
/-- All cells zero. -/
def blkZ : Array Value := #[.int .i64 0, .int .i64 0, .int .i64 0, .int .i64 0, .int .i64 0, .int .i64 0, .int .i64 0, .int .i64 0, .int .i64 0, .int .i64 0, .int .i64 0, .int .i64 0, .slice none 0 0, .slice none 0 0, .slice none 0 0, .slice none 0 0, .slice none 0 0, .slice none 0 0]
theorem blkZ_size : blkZ.size = 18 := rfl
theorem infoBlk : (Try.prog.info? 30).map (fun i => (i.zero, i.size, i.bytes)) = some (some (.agg blkZ), 18, 240) := by kernel_rfl
theorem sizeBlk : (Try.prog.info? 30).map (·.size) = some 18 := by kernel_rfl
theorem run_blkAlloc (u : World) : (blkAlloc true (.tuple #[])).run Try.prog u = .ok (.pointer (some ⟨u.heap.size, 0, none⟩)) (u.alloc (.cells blkZ 30)) := by
  obtain ⟨i, hi, hz, _, _⟩ := info_parts infoBlk
  have hc : (Value.agg blkZ).cells = blkZ := rfl
  simp only [blkAlloc, Instr.alloc, zeroValue, Sem.run_bind, typeInfo, newVar, newRow]
  simp [hi, hz, hc]
theorem run_blkStore {w : World} {g : Nat} {cur cs : Array Value} (h : BIn w g cur) (hs : cs.size = 18) (h1 : cs.all (·.oneCell') = true) : (blkStore (.pointer (some ⟨g, 0, none⟩)) (.agg cs)).run Try.prog w = .ok () (w.setRow g cs) := by
  have := run_storeVar_row (P := Try.prog) w g _ 30 cur cs h.1 (by rw [hs]; exact sizeBlk) (by rw [h.2, hs]) h1
  simp only [blkStore, Instr.storeAt, Instr.sureAddr, Sem.run_bind, Sem.run_pure, Result.andThen_ok, this]
/-- The cells of a block that lies from place o on in block g. -/
def BMid (w : World) (g o : Nat) (cs : Array Value) : Prop := cs.size = 18 ∧ ∀ i, i < 18 → w.cell? ⟨g, o + i, none⟩ = cs[i]?
theorem BIn.mid {w : World} {g : Nat} {cs : Array Value} (h : BIn w g cs) : BMid w g 0 cs := ⟨h.2, fun i _ => by rw [Nat.zero_add]; exact cell_of_row w g i _ _ (0, 0) h.1⟩
theorem BMid.range {w : World} {g o : Nat} {cs : Array Value} (h : BMid w g o cs) : w.rangeAt g o cs.toList := fun j v hj => by
  have hl := (List.getElem?_eq_some_iff.1 hj).1
  rw [h.2 j (by have := h.1; simp at hl; omega), ← Array.getElem?_toList]
  exact hj
theorem run_blkLoad {w : World} {g o : Nat} {cs : Array Value} (h : BMid w g o cs) : (blkLoad (.pointer (some ⟨g, o, none⟩))).run Try.prog w = .ok (.agg cs) w := by
  have := run_loadAt_mid (P := Try.prog) w g o 30 cs.toList _ h.range Try.underlying30 rfl (by rw [Array.length_toList, h.1]; exact sizeBlk)
  rw [Array.toArray_toList] at this
  exact this
theorem results_blk {fn : Func} {p : Tmp} (h : fn.results = #[.cell p 30]) (tmps : Array Value) {w : World} {g : Nat} {cs : Array Value} (hr : BIn w g cs) (hp : tmps.getD p undef = .pointer (some ⟨g, 0, none⟩)) :
    (results fn tmps).run Try.prog w = .ok (.agg cs) w := by
  have hp' : tmps[p]?.getD undef = .pointer (some ⟨g, 0, none⟩) := by simpa using hp
  have hl := run_loadVar_mid (P := Try.prog) w g 0 30 cs.toList _ hr.mid.range Try.underlying30 rfl (by rw [Array.length_toList, hr.2]; exact sizeBlk)
  rw [Array.toArray_toList] at hl
  simp [results, h, hp', asAddr, hl]
/-- A literal's cells. -/
def bcs (l : List (Nat × Value)) : Array Value := l.foldl (fun cs p => cs.setIfInBounds p.1 p.2) blkZ
theorem bcs_size (l : List (Nat × Value)) : (bcs l).size = 18 := by
  have : ∀ (l : List (Nat × Value)) (a : Array Value), (l.foldl (fun cs p => cs.setIfInBounds p.1 p.2) a).size = a.size := by
    intro l
    induction l with
    | nil => intro a; rfl
    | cons x l ih => intro a; rw [List.foldl_cons, ih, Array.size_setIfInBounds]
  unfold bcs
  rw [this]; rfl
/-- A slice of blocks, in a block that F allows, all they hold too. -/
structure BlAt (F : Nat → Prop) (w : World) (B : Option Addr) (n c : Nat) (L : List Lb) : Prop where
  len : L.length = n
  fit : n ≤ c
  max : c ≤ maxLen
  lies : 0 < n → ∃ g, B = some ⟨g, 0, none⟩ ∧ F g ∧ g < w.heap.size ∧ ∀ j, j < n → ∃ cs, BMid w g (j * 18) cs ∧ BV F w cs (gL L j)
theorem BlAt.keep {F : Nat → Prop} {w w' : World} {B : Option Addr} {n c : Nat} {L : List Lb} (h : BlAt F w B n c L) (hs : w.heap.size ≤ w'.heap.size) (hb : ∀ k, k < w.heap.size → F k → w'.heap[k]? = w.heap[k]?) : BlAt F w' B n c L :=
  ⟨h.len, h.fit, h.max, fun hn => by
    obtain ⟨g, h1, h2, h3, h4⟩ := h.lies hn
    refine ⟨g, h1, h2, Nat.lt_of_lt_of_le h3 hs, fun j hj => ?_⟩
    obtain ⟨cs, h5, h6⟩ := h4 j hj
    exact ⟨cs, ⟨h5.1, fun i hi => (World.cell?_of_block (a := ⟨g, j * 18 + i, none⟩) (hb g h3 h2)).trans (h5.2 i hi)⟩, h6.keep hs hb⟩⟩
theorem BlAt.below {F : Nat → Prop} {w w' : World} {B : Option Addr} {n c : Nat} {L : List Lb} (h : BlAt F w B n c L) (hb : Below w.heap.size w w') : BlAt F w' B n c L := h.keep hb.size fun k hk _ => hb.block k hk
theorem BlAt.ch {F G : Nat → Prop} {w w' : World} {B : Option Addr} {n c : Nat} {L : List Lb} (h : BlAt F w B n c L) (hb : Ch G w w') (hF : ∀ k, F k → ¬ G k) : BlAt F w' B n c L := h.keep hb.size fun k hk hf => hb.block k hk (hF k hf)
theorem BlAt.weak {F G : Nat → Prop} {w : World} {B : Option Addr} {n c : Nat} {L : List Lb} (h : BlAt F w B n c L) (hF : ∀ k, k < w.heap.size → F k → G k) : BlAt G w B n c L :=
  ⟨h.len, h.fit, h.max, fun hn => by
    obtain ⟨g, h1, h2, h3, h4⟩ := h.lies hn
    refine ⟨g, h1, hF g h3 h2, h3, fun j hj => ?_⟩
    obtain ⟨cs, h5, h6⟩ := h4 j hj
    exact ⟨cs, h5, h6.weak hF⟩⟩
theorem BlAt.bounds {F : Nat → Prop} {w : World} {B : Option Addr} {n c : Nat} {L : List Lb} (h : BlAt F w B n c L) (j : Nat) (hj : j < n) : ∃ g cs, B = some ⟨g, 0, none⟩ ∧ g < w.heap.size ∧ BMid w g (j * 18) cs ∧ BV F w cs (gL L j) := by
  obtain ⟨g, h1, h2, h3, h4⟩ := h.lies (by omega)
  obtain ⟨cs, h5, h6⟩ := h4 j hj
  exact ⟨g, cs, h1, h3, h5, h6⟩
theorem BlAt.later {F : Nat → Prop} {w : World} {B : Option Addr} {n c : Nat} {L : List Lb} (h : BlAt F w B n c L) (j : Nat) (hj : j < n) : ∃ g cs, B = some ⟨g, 0, none⟩ ∧ ∀ u, Below w.heap.size w u → BMid u g (j * 18) cs ∧ BV F u cs (gL L j) := by
  obtain ⟨g, cs, h1, h2, h3, h4⟩ := h.bounds j hj
  exact ⟨g, cs, h1, fun u hu => ⟨⟨h3.1, fun i hi => (World.cell?_of_block (a := ⟨g, j * 18 + i, none⟩) (hu.block g h2)).trans (h3.2 i hi)⟩, h4.below hu⟩⟩
/-- A row of the call's own of blocks; what they hold lies in other blocks, that F allows. -/
structure Blks (F : Nat → Prop) (base : Nat) (w : World) (B : Option Addr) (n c : Nat) (L : List Lb) : Prop where
  len : L.length = n
  fit : n ≤ c
  max : c ≤ maxLen
  low : base ≤ w.heap.size
  is : ∃ xs, w.ownsRow base 30 18 (.slice B n c) n xs ∧ ∀ j, j < n → ∃ cs, (∀ i, i < 18 → xs[j * 18 + i]? = cs[i]?) ∧ BV (fun k => F k ∧ (Value.slice B n c).ownBlock ≠ some k) w cs (gL L j)
theorem Blks.keep {F : Nat → Prop} {base : Nat} {w w' : World} {B : Option Addr} {n c : Nat} {L : List Lb} (h : Blks F base w B n c L) (hs : w.heap.size ≤ w'.heap.size) (hb : ∀ k, k < w.heap.size → (Value.slice B n c).ownBlock = some k ∨ F k → w'.heap[k]? = w.heap[k]?) : Blks F base w' B n c L := by
  obtain ⟨h1, h2, h3, h4, xs, h5, h6⟩ := h
  refine ⟨h1, h2, h3, Nat.le_trans h4 hs, xs, own_kept' h5 fun k hk e => hb k hk (Or.inl e), fun j hj => ?_⟩
  obtain ⟨cs, k1, k2⟩ := h6 j hj
  exact ⟨cs, k1, k2.keep hs fun k hk hf => hb k hk (Or.inr hf.1)⟩
theorem Blks.below {F : Nat → Prop} {base : Nat} {w w' : World} {B : Option Addr} {n c : Nat} {L : List Lb} (h : Blks F base w B n c L) (hb : Below w.heap.size w w') : Blks F base w' B n c L := h.keep hb.size fun k hk _ => hb.block k hk
theorem Blks.weak {F G : Nat → Prop} {base : Nat} {w : World} {B : Option Addr} {n c : Nat} {L : List Lb} (h : Blks F base w B n c L) (hF : ∀ k, k < w.heap.size → F k → G k) : Blks G base w B n c L := by
  obtain ⟨h1, h2, h3, h4, xs, h5, h6⟩ := h
  refine ⟨h1, h2, h3, h4, xs, h5, fun j hj => ?_⟩
  obtain ⟨cs, k1, k2⟩ := h6 j hj
  exact ⟨cs, k1, k2.weak fun k hk hf => ⟨hF k hk hf.1, hf.2⟩⟩
theorem Blks.blk {F : Nat → Prop} {base : Nat} {w : World} {B : Option Addr} {n c : Nat} {L : List Lb} (h : Blks F base w B n c L) (k : Nat) (hk : (Value.slice B n c).ownBlock = some k) : base ≤ k ∧ k < w.heap.size := by
  obtain ⟨h1, h2, h3, h4, xs, h5, h6⟩ := h
  exact own_low h5 k hk
theorem Blks.ch {F G : Nat → Prop} {base : Nat} {w w' : World} {B : Option Addr} {n c : Nat} {L : List Lb} (h : Blks F base w B n c L) (hb : Ch G w w') (hG : ∀ k, base ≤ k ∨ F k → k < w.heap.size → ¬ G k) : Blks F base w' B n c L :=
  h.keep hb.size fun k hk hf => hb.block k hk (hG k (hf.imp (fun e => (h.blk k e).1) id) hk)
theorem Blks.nil (F : Nat → Prop) (base : Nat) (w : World) (h : base ≤ w.heap.size) : Blks F base w none 0 0 [] := ⟨rfl, Nat.le_refl _, Nat.zero_le _, h, [], World.ownsRow_nil _ _ _ _, fun j hj => absurd hj (by omega)⟩
theorem Blks.at {F : Nat → Prop} {base : Nat} {w : World} {B : Option Addr} {n c : Nat} {L : List Lb} (h : Blks F base w B n c L) : BlAt (fun k => base ≤ k ∨ F k) w B n c L := by
  obtain ⟨h1, h2, h3, h4, xs, h5, h6⟩ := h
  refine ⟨h1, h2, h3, fun hn => ?_⟩
  have hcopy := h5
  rcases h5.2 with ⟨_, h0⟩ | ⟨g, cap', cur, e1, hb, hg, _, _, _, _⟩
  · omega
  · injection e1 with e1 e2 e3
    subst e1 e3
    refine ⟨g, rfl, Or.inl hb, (Array.getElem?_eq_some_iff.1 hg).1, fun j hj => ?_⟩
    obtain ⟨cs, k1, k2⟩ := h6 j hj
    exact ⟨cs, ⟨k2.size, fun i hi => (hcopy.cellAt (j * 18 + i) (by omega)).trans (k1 i hi)⟩, k2.weak fun _ _ hf => Or.inr hf.1⟩
/-- Rows of unlike things don't share a block. -/
theorem own_ne {w : World} {base base' : Nat} {e e' : TypeId} {s s' : Nat} {v v' : Value} {n n' : Nat} {xs xs' : List Value} (h : w.ownsRow base e s v n xs) (h' : w.ownsRow base' e' s' v' n' xs') (he : e ≠ e') (k : Nat) (hk : v.ownBlock = some k) : v'.ownBlock ≠ some k := by
  intro hk'
  rcases h.2 with ⟨rfl, _⟩ | ⟨g, cap, cur, rfl, _, hg, _⟩
  · simp [Value.ownBlock] at hk
  · rcases h'.2 with ⟨rfl, _⟩ | ⟨g', cap', cur', rfl, _, hg', _⟩
    · simp [Value.ownBlock] at hk'
    · simp only [Value.ownBlock, Option.some.injEq] at hk hk'
      subst hk hk'
      rw [hg] at hg'
      injection hg' with hg'
      injection hg' with _ hg'
      exact he hg'
theorem Blks.row {F : Nat → Prop} {base : Nat} {w : World} {B : Option Addr} {n c : Nat} {L : List Lb} (h : Blks F base w B n c L) : ∃ xs, w.ownsRow base 30 18 (.slice B n c) n xs := by
  obtain ⟨h1, h2, h3, h4, xs, h5, h6⟩ := h
  exact ⟨xs, h5⟩
/-- A block put behind such a row: it lies in a block of its own first. -/
theorem wpList_append_blks {P : Program} {ops : Array Oper} {rest : List Oper} {o : Oper} {a : Act} {Q : Exit → Act → World → Prop} {wr : World} {F G : Nat → Prop} {base : Nat} (t : TypeId)
    (hinfo : (P.info? 30).map (fun i => (i.zero, i.size, i.bytes)) = some (some (.agg blkZ), 18, 240)) (ht : P.underlying t = some (.slice 30))
    (hgd : o.guard = none) (s x : Operand) (ho : o.op = .call { callee := .builtin .append, args := #[s, x], argTypes := #[t, t] })
    (B : Option Addr) (n c : Nat) (L : List Lb) (hs : a.eval s = .slice B n c) (h2 : Blks F base wr B n c L) (cs : Array Value) (b : Lb) (hB : BV G wr cs b)
    (hG : ∀ k, k < wr.heap.size → G k → F k ∧ (Value.slice B n c).ownBlock ≠ some k) (bk : Nat) (hbk : bk = wr.heap.size) (hx : a.eval x = .slice (some ⟨bk, 0, none⟩) 1 1) (hn : n ≤ 1000000)
    (h : ∀ g c' w', Blks F base w' (some ⟨g, 0, none⟩) (n + 1) c' (L ++ [b]) → Ch (fun k => (Value.slice B n c).ownBlock = some k) wr w' → wpList P ops Q rest (a.put o.dst (.slice (some ⟨g, 0, none⟩) (n + 1) c')) w') : wpList P ops Q (o :: rest) a (wr.alloc (.cells cs 30)) := by
  subst hbk
  obtain ⟨i0, hi, hz0, hz1, hz2⟩ := info_parts hinfo
  obtain ⟨h1, hfit, hmax, hlow, xs, h5, h6⟩ := h2
  have hcs := hB.size
  have hlc : cs.toList.length = 18 := by rw [Array.length_toList, hcs]
  refine wpList_append_lies _ hgd s x t ho base 30 i0 _ 18 240 ht hi hz0 hz1 hz2 rfl (by decide) _ n _ hs (h5.alloc _) ⟨wr.heap.size, 0, none⟩ 1 1 cs.toList hx (by rw [hlc]) (World.news_of_block (cs := cs) (heap_alloc_new wr _)) (fun u hu => (Array.all_eq_true_iff_forall_mem.1 hB.one) u (by simpa using hu)) (by decide) (by unfold maxLen; omega) (by omega) (by simp; omega) _ rfl ?_
  intro g cap1 w' k1 k2 k3 k4
  obtain ⟨A3, cap3, e3, hn3, hm3⟩ := own_slice k1
  injection e3 with _ _ e3
  subst e3
  have hbel : Below base wr w' := (((Below.refl _ _).alloc (Nat.le_refl _) _).mono hlow).grown k2 (by simp; omega) (fun k hk => (own_low h5 k hk).1)
  have hlx : xs.length = n * 18 := h5.1
  have hold : ∀ k, k < wr.heap.size → (Value.slice B n c).ownBlock ≠ some k → w'.heap[k]? = wr.heap[k]? := fun k hk hf => by
    have e1 := k2.block k (by simp; omega) (fun e => hf e.symm)
    rw [e1]
    exact (bnew wr (.cells cs 30)).block k hk
  have hne : ∀ k, k < wr.heap.size → (Value.slice B n c).ownBlock ≠ some k → (Value.slice (some ⟨g, 0, none⟩) (n + 1) cap1).ownBlock ≠ some k := fun k hk hf e => by
    simp only [Value.ownBlock, Option.some.injEq] at e
    subst e
    rcases k3 with k3 | k3
    · exact hf k3
    · simp at k3; omega
  refine h g cap1 w' ⟨by simp [h1], hn3, hm3, by have := hbel.size; omega, _, k1, fun j hj => ?_⟩ ⟨hbel.os, hbel.tape, hbel.output, hbel.size, fun k hk hf => hold k hk hf⟩
  by_cases e : j < n
  · obtain ⟨cs1, q1, q4⟩ := h6 j e
    rw [gL_left _ _ _ (by omega)]
    refine ⟨cs1, fun i hi => by rw [List.getElem?_append_left (by omega)]; exact q1 i hi, ?_⟩
    exact (q4.weak (G := fun k => k < wr.heap.size ∧ F k ∧ (Value.slice B n c).ownBlock ≠ some k) fun k hk hf => ⟨hk, hf⟩).keep hbel.size (fun k hk hf => hold k hk hf.2.2) |>.weak fun k _ hf => ⟨hf.2.1, hne k hf.1 hf.2.2⟩
  · obtain rfl : j = n := by omega
    rw [gL_last _ _ _ h1.symm]
    refine ⟨cs, fun i hi => ?_, ?_⟩
    · rw [List.getElem?_append_right (by omega), hlx, show j * 18 + i - j * 18 = i by omega, Array.getElem?_toList]
    · exact (hB.weak (G := fun k => k < wr.heap.size ∧ F k ∧ (Value.slice B j c).ownBlock ≠ some k) fun k hk hf => ⟨hk, hG k hk hf⟩).keep hbel.size (fun k hk hf => hold k hk hf.2.2) |>.weak fun k _ hf => ⟨hf.2.1, hne k hf.1 hf.2.2⟩
/-- A number put behind a row of the call's own: which blocks may have changed, and where the row lies now. -/
theorem wpList_append_int {P : Program} {ops : Array Oper} {rest : List Oper} {o : Oper} {a : Act} {Q : Exit → Act → World → Prop} {wr : World} {base : Nat} (t : TypeId)
    (hinfo : (P.info? 3).map (fun i => (i.zero, i.size, i.bytes)) = some (some (.int .i64 0), 1, 8)) (ht : P.underlying t = some (.slice 3))
    (hgd : o.guard = none) (s x : Operand) (ho : o.op = .call { callee := .builtin .append, args := #[s, x], argTypes := #[t, t] })
    (A : Option Addr) (n c : Nat) (xs : List Int) (hs : a.eval s = .slice A n c) (h5 : wr.ownsRow base 3 1 (.slice A n c) n (xs.map i64I)) (v : Int) (bk : Nat) (hbk : bk = wr.heap.size) (hlow : base ≤ wr.heap.size) (hx : a.eval x = .slice (some ⟨bk, 0, none⟩) 1 1) (hn : n ≤ 10000000000)
    (h : ∀ g c' w', w'.ownsRow base 3 1 (.slice (some ⟨g, 0, none⟩) (n + 1) c') (n + 1) ((xs ++ [v]).map i64I) → Ch (fun k => (Value.slice A n c).ownBlock = some k) wr w' → (∀ k, k < wr.heap.size → (Value.slice A n c).ownBlock ≠ some k → (Value.slice (some ⟨g, 0, none⟩) (n + 1) c').ownBlock ≠ some k) → wpList P ops Q rest (a.put o.dst (.slice (some ⟨g, 0, none⟩) (n + 1) c')) w') : wpList P ops Q (o :: rest) a (wr.alloc (.cells #[.int .i64 v] 3)) := by
  subst hbk
  obtain ⟨i0, hi, hz0, hz1, hz2⟩ := info_parts hinfo
  refine wpList_append_lies _ hgd s x t ho base 3 i0 _ 1 8 ht hi hz0 hz1 hz2 rfl (by decide) _ n _ hs (h5.alloc _) ⟨wr.heap.size, 0, none⟩ 1 1 [.int .i64 v] hx rfl (cell_one_new _ _ _) (by intro u hu; simp at hu; subst hu; rfl) (by decide) (by unfold maxLen; omega) (by omega) (by simp; omega) _ rfl ?_
  intro g cap1 w' k1 k2 k3 k4
  have hbel : Below base wr w' := (((Below.refl _ _).alloc (Nat.le_refl _) _).mono hlow).grown k2 (by simp; omega) (fun k hk => (own_low h5 k hk).1)
  refine h g cap1 w' (by rw [List.map_append]; exact k1) ⟨hbel.os, hbel.tape, hbel.output, hbel.size, fun k hk hf => ?_⟩ fun k hk hf e => ?_
  · have e1 := k2.block k (by simp; omega) (fun e => hf e.symm)
    rw [e1]
    exact (bnew wr (.cells #[.int .i64 v] 3)).block k hk
  · simp only [Value.ownBlock, Option.some.injEq] at e
    subst e
    rcases k3 with k3 | k3
    · exact hf k3
    · simp at k3; omega

end Go.Proofs.Ythlaglhlmbkniaa
