/- Texts put together: TzxBlk, TzxFits, TzxLeads, TzxSound, TzxTp, TzxBk, TzxBlock0, TzxBits, TzxModel, Conv, TzxPre, TzxSmall, TzxTurbo. -/
import Derived.Test.YthlaglhlmbkniaaBas1
import Derived.Laws.CopyRow
import Derived.Laws.CopyOwn
import Derived.Deep.MidRow
import Derived.Deep.AppendLies
import Derived.Test.YthlaglhlmbkniaaProg
import Derived.WalkKit
import Derived.LoopTactic
import Derived.BigQuiet
import Derived.RegionTactic
import Derived.ChangeAlike
import Derived.Lib.Hide
import Derived.Lib.BitFns
import Derived.Laws.BitsLemmas
import Derived.Laws.BytesArg
import Derived.Lib.SlBytesConst
/- api.Block: as a value of 18 cells, in a block of its own, in a row. -/
namespace Go.Proofs.Ythlaglhlmbkniaa
open Go.RowKit
set_option maxRecDepth 100000
set_option linter.unusedVariables false
set_option linter.unusedSimpArgs false

/-- A slice of Items: their N, and a slice each (whatever it holds). -/
structure ItAt (F : Nat → Prop) (w : World) (A : Option Addr) (n cap : Nat) (l : List Int) : Prop where
  len : l.length = n
  fit : n ≤ cap
  max : cap ≤ maxLen
  lies : 0 < n → ∃ b o, A = some ⟨b, o, none⟩ ∧ F b ∧ b < w.heap.size ∧ ∀ j, j < n → w.cell? ⟨b, o + j * 2, none⟩ = some (.int .i64 (gI l j)) ∧ ∃ D m c, w.cell? ⟨b, o + j * 2 + 1, none⟩ = some (.slice D m c)
theorem ItAt.keep {F : Nat → Prop} {w w' : World} {A : Option Addr} {n cap : Nat} {l : List Int} (h : ItAt F w A n cap l) (hs : w.heap.size ≤ w'.heap.size) (hb : ∀ k, k < w.heap.size → F k → w'.heap[k]? = w.heap[k]?) : ItAt F w' A n cap l :=
  ⟨h.len, h.fit, h.max, fun hn => by
    obtain ⟨b, o, h1, h2, h3, h4⟩ := h.lies hn
    refine ⟨b, o, h1, h2, Nat.lt_of_lt_of_le h3 hs, fun j hj => ?_⟩
    obtain ⟨h5, D, m, c, h6⟩ := h4 j hj
    exact ⟨(World.cell?_of_block (a := ⟨b, o + j * 2, none⟩) (hb b h3 h2)).trans h5, D, m, c, (World.cell?_of_block (a := ⟨b, o + j * 2 + 1, none⟩) (hb b h3 h2)).trans h6⟩⟩
theorem ItAt.weak {F G : Nat → Prop} {w : World} {A : Option Addr} {n cap : Nat} {l : List Int} (h : ItAt F w A n cap l) (hF : ∀ k, k < w.heap.size → F k → G k) : ItAt G w A n cap l :=
  ⟨h.len, h.fit, h.max, fun hn => by
    obtain ⟨b, o, h1, h2, h3, h4⟩ := h.lies hn
    exact ⟨b, o, h1, hF b h3 h2, h3, h4⟩⟩
theorem ItAt.empty (F : Nat → Prop) (w : World) : ItAt F w none 0 0 [] := ⟨rfl, Nat.le_refl _, Nat.zero_le _, fun h => absurd h (by omega)⟩
/-- A block's value: 18 cells, of which the ID, Times and Items are b's. -/
structure BV (F : Nat → Prop) (w : World) (cs : Array Value) (b : Lb) : Prop where
  size : cs.size = 18
  one : cs.all (·.oneCell') = true
  id : cs[0]? = some (.int .i64 b.id)
  ts : ∃ A n c, cs[13]? = some (.slice A n c) ∧ IAt F w A n c b.ts
  ns : ∃ A n c, cs[14]? = some (.slice A n c) ∧ ItAt F w A n c b.ns
theorem BV.keep {F : Nat → Prop} {w w' : World} {cs : Array Value} {b : Lb} (h : BV F w cs b) (hs : w.heap.size ≤ w'.heap.size) (hb : ∀ k, k < w.heap.size → F k → w'.heap[k]? = w.heap[k]?) : BV F w' cs b := by
  obtain ⟨h1, h2, h3, ⟨A, n, c, h4, h5⟩, A', n', c', h6, h7⟩ := h
  exact ⟨h1, h2, h3, ⟨A, n, c, h4, h5.keep hs hb⟩, A', n', c', h6, h7.keep hs hb⟩
theorem BV.weak {F G : Nat → Prop} {w : World} {cs : Array Value} {b : Lb} (h : BV F w cs b) (hF : ∀ k, k < w.heap.size → F k → G k) : BV G w cs b := by
  obtain ⟨h1, h2, h3, ⟨A, n, c, h4, h5⟩, A', n', c', h6, h7⟩ := h
  exact ⟨h1, h2, h3, ⟨A, n, c, h4, h5.weak hF⟩, A', n', c', h6, h7.weak hF⟩
theorem BV.below {F : Nat → Prop} {w w' : World} {cs : Array Value} {b : Lb} (h : BV F w cs b) (hb : Below w.heap.size w w') : BV F w' cs b := h.keep hb.size fun k hk _ => hb.block k hk
theorem BV.ch {F G : Nat → Prop} {w w' : World} {cs : Array Value} {b : Lb} (h : BV F w cs b) (hb : Ch G w w') (hF : ∀ k, F k → ¬ G k) : BV F w' cs b := h.keep hb.size fun k hk hf => hb.block k hk (hF k hf)
/-- Such a value in a block of its own. -/
def BIn (w : World) (g : Nat) (cs : Array Value) : Prop := w.heap[g]? = some (.cells cs 30 (0, 0)) ∧ cs.size = 18
theorem BIn.lt {w : World} {g : Nat} {cs : Array Value} (h : BIn w g cs) : g < w.heap.size := (Array.getElem?_eq_some_iff.1 h.1).1
theorem BIn.keep {w w' : World} {g : Nat} {cs : Array Value} (h : BIn w g cs) (hb : w'.heap[g]? = w.heap[g]?) : BIn w' g cs := ⟨hb.trans h.1, h.2⟩
theorem BIn.below {w w' : World} {g : Nat} {cs : Array Value} (h : BIn w g cs) (hb : Below w.heap.size w w') : BIn w' g cs := h.keep (hb.block g h.lt)
theorem BIn.ch {G : Nat → Prop} {w w' : World} {g : Nat} {cs : Array Value} (h : BIn w g cs) (hb : Ch G w w') (hG : ¬ G g) : BIn w' g cs := h.keep (hb.block g h.lt hG)
theorem BIn.cell {w : World} {g : Nat} {cs : Array Value} (h : BIn w g cs) {i : Nat} {v : Value} (hv : cs[i]? = some v) : w.cell? ⟨g, i, none⟩ = some v := (cell_of_row w g i _ _ (0, 0) h.1).trans hv
theorem BIn.frozen {w : World} {g : Nat} {cs : Array Value} (h : BIn w g cs) (i : Nat) : w.frozen? ⟨g, i, none⟩ = false := frozen_of_row w g i _ _ h.1
theorem BIn.new (w : World) {cs : Array Value} (h : cs.size = 18) : BIn (w.alloc (.cells cs 30)) w.heap.size cs := ⟨heap_alloc_new w _, h⟩
theorem BIn.set {w : World} {g : Nat} {cs : Array Value} (h : BIn w g cs) (i : Nat) (v : Value) : BIn (w.setCell ⟨g, i, none⟩ v) g (cs.setIfInBounds i v) := ⟨heap_setCell_same w g i _ _ v h.1, by rw [Array.size_setIfInBounds]; exact h.2⟩
theorem BIn.put {w : World} {g : Nat} {cur cs : Array Value} (h : BIn w g cur) (hs : cs.size = 18) : BIn (w.setRow g cs) g cs ∧ Ch (fun k => k = g) w (w.setRow g cs) :=
  ⟨⟨setRow_heap _ _ _ _ _ _ h.1, hs⟩, rfl, rfl, rfl, by simp [World.setRow], fun k _ hk => setRow_other _ _ _ _ hk⟩

/-! Its operations, by names of their own. -/
def blkAlloc (h : Bool) (o : Value) : Sem Value := Instr.alloc 30 h o
theorem blkAlloc_as (h : Bool) (o : Value) : Instr.alloc 30 h o = blkAlloc h o := rfl
def blkStore (p v : Value) : Sem Unit := Instr.storeAt 30 p v
theorem blkStore_as (p v : Value) : Instr.storeAt 30 p v = blkStore p v := rfl
def blkLoad (v : Value) : Sem Value := Instr.loadAt 30 v
theorem blkLoad_as (v : Value) : Instr.loadAt 30 v = blkLoad v := rfl
def blkBuild (l : Array (Nat × Value)) : Sem Value := Instr.build 30 l
theorem blkBuild_as (l : Array (Nat × Value)) : Instr.build 30 l = blkBuild l := rfl
/-- All cells zero. -/
def blkZ : Array Value := #[.int .i64 0, .int .i64 0, .int .i64 0, .int .i64 0, .int .i64 0, .int .i64 0, .int .i64 0, .int .i64 0, .int .i64 0, .int .i64 0, .int .i64 0, .int .i64 0, .slice none 0 0, .slice none 0 0, .slice none 0 0, .slice none 0 0, .slice none 0 0, .slice none 0 0]
theorem infoBlk : (Try.prog.info? 30).map (fun i => (i.zero, i.size, i.bytes)) = some (some (.agg blkZ), 18, 240) := by kernel_rfl
theorem sizeBlk : (Try.prog.info? 30).map (·.size) = some 18 := by kernel_rfl
theorem run_blkAlloc (u : World) : (blkAlloc true (.tuple #[])).run Try.prog u = .ok (.pointer (some ⟨u.heap.size, 0, none⟩)) (u.alloc (.cells blkZ 30)) := by
  obtain ⟨i, hi, hz, _, _⟩ := info_parts infoBlk
  have hc : (Value.agg blkZ).cells = blkZ := rfl
  simp only [blkAlloc, Instr.alloc, zeroValue, Sem.run_bind, typeInfo, newVar, newRow]
  simp [hi, hz, hc]
theorem run_blkStore {w : World} {g : Nat} {cur cs : Array Value} (h : BIn w g cur) (hs : cs.size = 18) (h1 : cs.all (·.oneCell') = true) : (blkStore (.pointer (some ⟨g, 0, none⟩)) (.agg cs)).run Try.prog w = .ok () (w.setRow g cs) := by
  have := run_storeVar_row (P := Try.prog) w g _ 30 cur cs h.1 (by rw [hs]; exact sizeBlk) (by rw [h.2, hs]) h1
  simp only [blkStore, Instr.storeAt, Instr.sureAddr, Sem.run_bind, Sem.run_pure, Result.andThen_ok, this]
/-- The cells of a block that lies from place o on in block g. -/
def BMid (w : World) (g o : Nat) (cs : Array Value) : Prop := cs.size = 18 ∧ ∀ i, i < 18 → w.cell? ⟨g, o + i, none⟩ = cs[i]?
theorem BIn.mid {w : World} {g : Nat} {cs : Array Value} (h : BIn w g cs) : BMid w g 0 cs := ⟨h.2, fun i _ => by rw [Nat.zero_add]; exact cell_of_row w g i _ _ (0, 0) h.1⟩
theorem BMid.range {w : World} {g o : Nat} {cs : Array Value} (h : BMid w g o cs) : w.rangeAt g o cs.toList := fun j v hj => by
  have hl := (List.getElem?_eq_some_iff.1 hj).1
  rw [h.2 j (by have := h.1; simp at hl; omega), ← Array.getElem?_toList]
  exact hj
theorem run_blkLoad {w : World} {g o : Nat} {cs : Array Value} (h : BMid w g o cs) : (blkLoad (.pointer (some ⟨g, o, none⟩))).run Try.prog w = .ok (.agg cs) w := by
  have := run_loadAt_mid (P := Try.prog) w g o 30 cs.toList _ h.range Try.underlying30 rfl (by rw [Array.length_toList, h.1]; exact sizeBlk)
  rw [Array.toArray_toList] at this
  exact this
theorem results_blk {fn : Func} {p : Tmp} (h : fn.results = #[.cell p 30]) (tmps : Array Value) {w : World} {g : Nat} {cs : Array Value} (hr : BIn w g cs) (hp : tmps.getD p undef = .pointer (some ⟨g, 0, none⟩)) :
    (results fn tmps).run Try.prog w = .ok (.agg cs) w := by
  have hp' : tmps[p]?.getD undef = .pointer (some ⟨g, 0, none⟩) := by simpa using hp
  have hl := run_loadVar_mid (P := Try.prog) w g 0 30 cs.toList _ hr.mid.range Try.underlying30 rfl (by rw [Array.length_toList, hr.2]; exact sizeBlk)
  rw [Array.toArray_toList] at hl
  simp [results, h, hp', asAddr, hl]
/-- A literal's cells. -/
def bcs (l : List (Nat × Value)) : Array Value := l.foldl (fun cs p => cs.setIfInBounds p.1 p.2) blkZ
theorem bcs_size (l : List (Nat × Value)) : (bcs l).size = 18 := by
  have : ∀ (l : List (Nat × Value)) (a : Array Value), (l.foldl (fun cs p => cs.setIfInBounds p.1 p.2) a).size = a.size := by
    intro l
    induction l with
    | nil => intro a; rfl
    | cons x l ih => intro a; rw [List.foldl_cons, ih, Array.size_setIfInBounds]
  unfold bcs
  rw [this]; rfl
/-- A slice of blocks, in a block that F allows, all they hold too. -/
structure BlAt (F : Nat → Prop) (w : World) (B : Option Addr) (n c : Nat) (L : List Lb) : Prop where
  len : L.length = n
  fit : n ≤ c
  max : c ≤ maxLen
  lies : 0 < n → ∃ g, B = some ⟨g, 0, none⟩ ∧ F g ∧ g < w.heap.size ∧ ∀ j, j < n → ∃ cs, BMid w g (j * 18) cs ∧ BV F w cs (gL L j)
theorem BlAt.keep {F : Nat → Prop} {w w' : World} {B : Option Addr} {n c : Nat} {L : List Lb} (h : BlAt F w B n c L) (hs : w.heap.size ≤ w'.heap.size) (hb : ∀ k, k < w.heap.size → F k → w'.heap[k]? = w.heap[k]?) : BlAt F w' B n c L :=
  ⟨h.len, h.fit, h.max, fun hn => by
    obtain ⟨g, h1, h2, h3, h4⟩ := h.lies hn
    refine ⟨g, h1, h2, Nat.lt_of_lt_of_le h3 hs, fun j hj => ?_⟩
    obtain ⟨cs, h5, h6⟩ := h4 j hj
    exact ⟨cs, ⟨h5.1, fun i hi => (World.cell?_of_block (a := ⟨g, j * 18 + i, none⟩) (hb g h3 h2)).trans (h5.2 i hi)⟩, h6.keep hs hb⟩⟩
theorem BlAt.below {F : Nat → Prop} {w w' : World} {B : Option Addr} {n c : Nat} {L : List Lb} (h : BlAt F w B n c L) (hb : Below w.heap.size w w') : BlAt F w' B n c L := h.keep hb.size fun k hk _ => hb.block k hk
theorem BlAt.ch {F G : Nat → Prop} {w w' : World} {B : Option Addr} {n c : Nat} {L : List Lb} (h : BlAt F w B n c L) (hb : Ch G w w') (hF : ∀ k, F k → ¬ G k) : BlAt F w' B n c L := h.keep hb.size fun k hk hf => hb.block k hk (hF k hf)
theorem BlAt.weak {F G : Nat → Prop} {w : World} {B : Option Addr} {n c : Nat} {L : List Lb} (h : BlAt F w B n c L) (hF : ∀ k, k < w.heap.size → F k → G k) : BlAt G w B n c L :=
  ⟨h.len, h.fit, h.max, fun hn => by
    obtain ⟨g, h1, h2, h3, h4⟩ := h.lies hn
    refine ⟨g, h1, hF g h3 h2, h3, fun j hj => ?_⟩
    obtain ⟨cs, h5, h6⟩ := h4 j hj
    exact ⟨cs, h5, h6.weak hF⟩⟩
theorem BlAt.bounds {F : Nat → Prop} {w : World} {B : Option Addr} {n c : Nat} {L : List Lb} (h : BlAt F w B n c L) (j : Nat) (hj : j < n) : ∃ g cs, B = some ⟨g, 0, none⟩ ∧ g < w.heap.size ∧ BMid w g (j * 18) cs ∧ BV F w cs (gL L j) := by
  obtain ⟨g, h1, h2, h3, h4⟩ := h.lies (by omega)
  obtain ⟨cs, h5, h6⟩ := h4 j hj
  exact ⟨g, cs, h1, h3, h5, h6⟩
theorem BlAt.later {F : Nat → Prop} {w : World} {B : Option Addr} {n c : Nat} {L : List Lb} (h : BlAt F w B n c L) (j : Nat) (hj : j < n) : ∃ g cs, B = some ⟨g, 0, none⟩ ∧ ∀ u, Below w.heap.size w u → BMid u g (j * 18) cs ∧ BV F u cs (gL L j) := by
  obtain ⟨g, cs, h1, h2, h3, h4⟩ := h.bounds j hj
  exact ⟨g, cs, h1, fun u hu => ⟨⟨h3.1, fun i hi => (World.cell?_of_block (a := ⟨g, j * 18 + i, none⟩) (hu.block g h2)).trans (h3.2 i hi)⟩, h4.below hu⟩⟩
/-- A row of the call's own of blocks; what they hold lies in other blocks, that F allows. -/
structure Blks (F : Nat → Prop) (base : Nat) (w : World) (B : Option Addr) (n c : Nat) (L : List Lb) : Prop where
  len : L.length = n
  fit : n ≤ c
  max : c ≤ maxLen
  low : base ≤ w.heap.size
  is : ∃ xs, w.ownsRow base 30 18 (.slice B n c) n xs ∧ ∀ j, j < n → ∃ cs, (∀ i, i < 18 → xs[j * 18 + i]? = cs[i]?) ∧ BV (fun k => F k ∧ (Value.slice B n c).ownBlock ≠ some k) w cs (gL L j)
theorem Blks.keep {F : Nat → Prop} {base : Nat} {w w' : World} {B : Option Addr} {n c : Nat} {L : List Lb} (h : Blks F base w B n c L) (hs : w.heap.size ≤ w'.heap.size) (hb : ∀ k, k < w.heap.size → (Value.slice B n c).ownBlock = some k ∨ F k → w'.heap[k]? = w.heap[k]?) : Blks F base w' B n c L := by
  obtain ⟨h1, h2, h3, h4, xs, h5, h6⟩ := h
  refine ⟨h1, h2, h3, Nat.le_trans h4 hs, xs, own_kept' h5 fun k hk e => hb k hk (Or.inl e), fun j hj => ?_⟩
  obtain ⟨cs, k1, k2⟩ := h6 j hj
  exact ⟨cs, k1, k2.keep hs fun k hk hf => hb k hk (Or.inr hf.1)⟩
theorem Blks.below {F : Nat → Prop} {base : Nat} {w w' : World} {B : Option Addr} {n c : Nat} {L : List Lb} (h : Blks F base w B n c L) (hb : Below w.heap.size w w') : Blks F base w' B n c L := h.keep hb.size fun k hk _ => hb.block k hk
theorem Blks.weak {F G : Nat → Prop} {base : Nat} {w : World} {B : Option Addr} {n c : Nat} {L : List Lb} (h : Blks F base w B n c L) (hF : ∀ k, k < w.heap.size → F k → G k) : Blks G base w B n c L := by
  obtain ⟨h1, h2, h3, h4, xs, h5, h6⟩ := h
  refine ⟨h1, h2, h3, h4, xs, h5, fun j hj => ?_⟩
  obtain ⟨cs, k1, k2⟩ := h6 j hj
  exact ⟨cs, k1, k2.weak fun k hk hf => ⟨hF k hk hf.1, hf.2⟩⟩
theorem Blks.blk {F : Nat → Prop} {base : Nat} {w : World} {B : Option Addr} {n c : Nat} {L : List Lb} (h : Blks F base w B n c L) (k : Nat) (hk : (Value.slice B n c).ownBlock = some k) : base ≤ k ∧ k < w.heap.size := by
  obtain ⟨h1, h2, h3, h4, xs, h5, h6⟩ := h
  exact own_low h5 k hk
theorem Blks.ch {F G : Nat → Prop} {base : Nat} {w w' : World} {B : Option Addr} {n c : Nat} {L : List Lb} (h : Blks F base w B n c L) (hb : Ch G w w') (hG : ∀ k, base ≤ k ∨ F k → k < w.heap.size → ¬ G k) : Blks F base w' B n c L :=
  h.keep hb.size fun k hk hf => hb.block k hk (hG k (hf.imp (fun e => (h.blk k e).1) id) hk)
theorem Blks.nil (F : Nat → Prop) (base : Nat) (w : World) (h : base ≤ w.heap.size) : Blks F base w none 0 0 [] := ⟨rfl, Nat.le_refl _, Nat.zero_le _, h, [], World.ownsRow_nil _ _ _ _, fun j hj => absurd hj (by omega)⟩
theorem Blks.at {F : Nat → Prop} {base : Nat} {w : World} {B : Option Addr} {n c : Nat} {L : List Lb} (h : Blks F base w B n c L) : BlAt (fun k => base ≤ k ∨ F k) w B n c L := by
  obtain ⟨h1, h2, h3, h4, xs, h5, h6⟩ := h
  refine ⟨h1, h2, h3, fun hn => ?_⟩
  have hcopy := h5
  rcases h5.2 with ⟨_, h0⟩ | ⟨g, cap', cur, e1, hb, hg, _, _, _, _⟩
  · omega
  · injection e1 with e1 e2 e3
    subst e1 e3
    refine ⟨g, rfl, Or.inl hb, (Array.getElem?_eq_some_iff.1 hg).1, fun j hj => ?_⟩
    obtain ⟨cs, k1, k2⟩ := h6 j hj
    exact ⟨cs, ⟨k2.size, fun i hi => (hcopy.cellAt (j * 18 + i) (by omega)).trans (k1 i hi)⟩, k2.weak fun _ _ hf => Or.inr hf.1⟩
/-- Rows of unlike things don't share a block. -/
theorem own_ne {w : World} {base base' : Nat} {e e' : TypeId} {s s' : Nat} {v v' : Value} {n n' : Nat} {xs xs' : List Value} (h : w.ownsRow base e s v n xs) (h' : w.ownsRow base' e' s' v' n' xs') (he : e ≠ e') (k : Nat) (hk : v.ownBlock = some k) : v'.ownBlock ≠ some k := by
  intro hk'
  rcases h.2 with ⟨rfl, _⟩ | ⟨g, cap, cur, rfl, _, hg, _⟩
  · simp [Value.ownBlock] at hk
  · rcases h'.2 with ⟨rfl, _⟩ | ⟨g', cap', cur', rfl, _, hg', _⟩
    · simp [Value.ownBlock] at hk'
    · simp only [Value.ownBlock, Option.some.injEq] at hk hk'
      subst hk hk'
      rw [hg] at hg'
      injection hg' with hg'
      injection hg' with _ hg'
      exact he hg'
theorem Blks.row {F : Nat → Prop} {base : Nat} {w : World} {B : Option Addr} {n c : Nat} {L : List Lb} (h : Blks F base w B n c L) : ∃ xs, w.ownsRow base 30 18 (.slice B n c) n xs := by
  obtain ⟨h1, h2, h3, h4, xs, h5, h6⟩ := h
  exact ⟨xs, h5⟩
/-- A block put behind such a row: it lies in a block of its own first. -/
theorem wpList_append_blks {P : Program} {ops : Array Oper} {rest : List Oper} {o : Oper} {a : Act} {Q : Exit → Act → World → Prop} {wr : World} {F G : Nat → Prop} {base : Nat} (t : TypeId)
    (hinfo : (P.info? 30).map (fun i => (i.zero, i.size, i.bytes)) = some (some (.agg blkZ), 18, 240)) (ht : P.underlying t = some (.slice 30))
    (hgd : o.guard = none) (s x : Operand) (ho : o.op = .call { callee := .builtin .append, args := #[s, x], argTypes := #[t, t] })
    (B : Option Addr) (n c : Nat) (L : List Lb) (hs : a.eval s = .slice B n c) (h2 : Blks F base wr B n c L) (cs : Array Value) (b : Lb) (hB : BV G wr cs b)
    (hG : ∀ k, k < wr.heap.size → G k → F k ∧ (Value.slice B n c).ownBlock ≠ some k) (bk : Nat) (hbk : bk = wr.heap.size) (hx : a.eval x = .slice (some ⟨bk, 0, none⟩) 1 1) (hn : n ≤ 1000000)
    (h : ∀ g c' w', Blks F base w' (some ⟨g, 0, none⟩) (n + 1) c' (L ++ [b]) → Ch (fun k => (Value.slice B n c).ownBlock = some k) wr w' → wpList P ops Q rest (a.put o.dst (.slice (some ⟨g, 0, none⟩) (n + 1) c')) w') : wpList P ops Q (o :: rest) a (wr.alloc (.cells cs 30)) := by
  subst hbk
  obtain ⟨i0, hi, hz0, hz1, hz2⟩ := info_parts hinfo
  obtain ⟨h1, hfit, hmax, hlow, xs, h5, h6⟩ := h2
  have hcs := hB.size
  have hlc : cs.toList.length = 18 := by rw [Array.length_toList, hcs]
  refine wpList_append_lies _ hgd s x t ho base 30 i0 _ 18 240 ht hi hz0 hz1 hz2 rfl (by decide) _ n _ hs (h5.alloc _) ⟨wr.heap.size, 0, none⟩ 1 1 cs.toList hx (by rw [hlc]) (World.news_of_block (cs := cs) (heap_alloc_new wr _)) (fun u hu => (Array.all_eq_true_iff_forall_mem.1 hB.one) u (by simpa using hu)) (by decide) (by unfold maxLen; omega) (by omega) (by simp; omega) _ rfl ?_
  intro g cap1 w' k1 k2 k3 k4
  obtain ⟨A3, cap3, e3, hn3, hm3⟩ := own_slice k1
  injection e3 with _ _ e3
  subst e3
  have hbel : Below base wr w' := (((Below.refl _ _).alloc (Nat.le_refl _) _).mono hlow).grown k2 (by simp; omega) (fun k hk => (own_low h5 k hk).1)
  have hlx : xs.length = n * 18 := h5.1
  have hold : ∀ k, k < wr.heap.size → (Value.slice B n c).ownBlock ≠ some k → w'.heap[k]? = wr.heap[k]? := fun k hk hf => by
    have e1 := k2.block k (by simp; omega) (fun e => hf e.symm)
    rw [e1]
    exact (bnew wr (.cells cs 30)).block k hk
  have hne : ∀ k, k < wr.heap.size → (Value.slice B n c).ownBlock ≠ some k → (Value.slice (some ⟨g, 0, none⟩) (n + 1) cap1).ownBlock ≠ some k := fun k hk hf e => by
    simp only [Value.ownBlock, Option.some.injEq] at e
    subst e
    rcases k3 with k3 | k3
    · exact hf k3
    · simp at k3; omega
  refine h g cap1 w' ⟨by simp [h1], hn3, hm3, by have := hbel.size; omega, _, k1, fun j hj => ?_⟩ ⟨hbel.os, hbel.tape, hbel.output, hbel.size, fun k hk hf => hold k hk hf⟩
  by_cases e : j < n
  · obtain ⟨cs1, q1, q4⟩ := h6 j e
    rw [gL_left _ _ _ (by omega)]
    refine ⟨cs1, fun i hi => by rw [List.getElem?_append_left (by omega)]; exact q1 i hi, ?_⟩
    exact (q4.weak (G := fun k => k < wr.heap.size ∧ F k ∧ (Value.slice B n c).ownBlock ≠ some k) fun k hk hf => ⟨hk, hf⟩).keep hbel.size (fun k hk hf => hold k hk hf.2.2) |>.weak fun k _ hf => ⟨hf.2.1, hne k hf.1 hf.2.2⟩
  · obtain rfl : j = n := by omega
    rw [gL_last _ _ _ h1.symm]
    refine ⟨cs, fun i hi => ?_, ?_⟩
    · rw [List.getElem?_append_right (by omega), hlx, show j * 18 + i - j * 18 = i by omega, Array.getElem?_toList]
    · exact (hB.weak (G := fun k => k < wr.heap.size ∧ F k ∧ (Value.slice B j c).ownBlock ≠ some k) fun k hk hf => ⟨hk, hG k hk hf⟩).keep hbel.size (fun k hk hf => hold k hk hf.2.2) |>.weak fun k _ hf => ⟨hf.2.1, hne k hf.1 hf.2.2⟩
/-- A number put behind a row of the call's own: which blocks may have changed, and where the row lies now. -/
theorem wpList_append_int {P : Program} {ops : Array Oper} {rest : List Oper} {o : Oper} {a : Act} {Q : Exit → Act → World → Prop} {wr : World} {base : Nat} (t : TypeId)
    (hinfo : (P.info? 3).map (fun i => (i.zero, i.size, i.bytes)) = some (some (.int .i64 0), 1, 8)) (ht : P.underlying t = some (.slice 3))
    (hgd : o.guard = none) (s x : Operand) (ho : o.op = .call { callee := .builtin .append, args := #[s, x], argTypes := #[t, t] })
    (A : Option Addr) (n c : Nat) (xs : List Int) (hs : a.eval s = .slice A n c) (h5 : wr.ownsRow base 3 1 (.slice A n c) n (xs.map i64I)) (v : Int) (bk : Nat) (hbk : bk = wr.heap.size) (hlow : base ≤ wr.heap.size) (hx : a.eval x = .slice (some ⟨bk, 0, none⟩) 1 1) (hn : n ≤ 10000000000)
    (h : ∀ g c' w', w'.ownsRow base 3 1 (.slice (some ⟨g, 0, none⟩) (n + 1) c') (n + 1) ((xs ++ [v]).map i64I) → Ch (fun k => (Value.slice A n c).ownBlock = some k) wr w' → (∀ k, k < wr.heap.size → (Value.slice A n c).ownBlock ≠ some k → (Value.slice (some ⟨g, 0, none⟩) (n + 1) c').ownBlock ≠ some k) → wpList P ops Q rest (a.put o.dst (.slice (some ⟨g, 0, none⟩) (n + 1) c')) w') : wpList P ops Q (o :: rest) a (wr.alloc (.cells #[.int .i64 v] 3)) := by
  subst hbk
  obtain ⟨i0, hi, hz0, hz1, hz2⟩ := info_parts hinfo
  refine wpList_append_lies _ hgd s x t ho base 3 i0 _ 1 8 ht hi hz0 hz1 hz2 rfl (by decide) _ n _ hs (h5.alloc _) ⟨wr.heap.size, 0, none⟩ 1 1 [.int .i64 v] hx rfl (cell_one_new _ _ _) (by intro u hu; simp at hu; subst hu; rfl) (by decide) (by unfold maxLen; omega) (by omega) (by simp; omega) _ rfl ?_
  intro g cap1 w' k1 k2 k3 k4
  have hbel : Below base wr w' := (((Below.refl _ _).alloc (Nat.le_refl _) _).mono hlow).grown k2 (by simp; omega) (fun k hk => (own_low h5 k hk).1)
  refine h g cap1 w' (by rw [List.map_append]; exact k1) ⟨hbel.os, hbel.tape, hbel.output, hbel.size, fun k hk hf => ?_⟩ fun k hk hf e => ?_
  · have e1 := k2.block k (by simp; omega) (fun e => hf e.symm)
    rw [e1]
    exact (bnew wr (.cells #[.int .i64 v] 3)).block k hk
  · simp only [Value.ownBlock, Option.some.injEq] at e
    subst e
    rcases k3 with k3 | k3
    · exact hf k3
    · simp at k3; omega

end Go.Proofs.Ythlaglhlmbkniaa
/- tzx.lastOf, nest.fits, leads: their contracts. -/
namespace Go.Proofs.Ythlaglhlmbkniaa
open Go.RowKit
set_option linter.unusedVariables false
set_option linter.unusedSimpArgs false
set_option maxRecDepth 100000

theorem last_any (F : Nat → Prop) (w : World) (B : Option Addr) (n c : Nat) (L : List Lb) (h : BlAt F w B n c L) (hn : n ≤ 1000000) (id : Int) :
    Calls Try.prog 18 #[.slice B n c, .int .i64 id] w fun e w' => ∃ r, e = .returned (.int .i64 r) ∧ LastIs L id r ∧ w = w' := by
  have H := Lib.hid h
  have HL := Lib.hid h.len
  clear h
  go_enter Try.func18, Try.ntmps18
  go_wp2_with fail
  go_loopw [5] (fun i wr => ∃ z : Int, i = .int .i64 z ∧ -1 ≤ z ∧ z < n ∧ wr = w ∧ Hid (∀ j : Nat, z < j → j < n → (gL L j).id ≠ id)) (fun i _ => (intOf i + 1).toNat)
  case atStart => exact ⟨(n : Int) - 1, by go_num, by omega, by omega, rfl, Lib.hid fun j h1 h2 => absurd h1 (by omega)⟩
  case round =>
    obtain ⟨z, rfl, hz1, hz2, rfl, HA⟩ := hrel
    by_cases hz : 0 ≤ z
    · obtain ⟨m, rfl⟩ : ∃ m : Nat, z = m := ⟨z.toNat, by omega⟩
      obtain ⟨g, cs, rfl, hg, hm, hv⟩ := H.out.bounds m (by omega)
      have c0 : wr.cell? ⟨g, m * 18, none⟩ = some (.int .i64 (gL L m).id) := (hm.2 0 (by omega)).trans hv.id
      have hmn : m < n := by omega
      have HI := Lib.hid (show (gL L m).id = (gL L m).id from rfl)
      clear hm hv hg
      generalize hy : (gL L m).id = y at c0
      have HY := Lib.hid hy
      clear hy HI
      by_cases e : y = id
      · have d : (y == id) = true := by rw [e]; exact beq_self_eq_true _
        have HE : Hid (LastIs L id m) := Lib.hid (Or.inr ⟨m, rfl, by rw [HL.out]; exact hmn, by rw [HY.out]; exact e, fun j h1 h2 => HA.out j (by omega) (by rw [← HL.out]; exact h2)⟩)
        clear e
        go_wp2_with fail
        go_ret
        exact ⟨_, rfl, HE.out, rfl⟩
      · have d : (y == id) = false := by rw [beq_eq_false_iff_ne]; exact e
        have HE : Hid (∀ j : Nat, (m : Int) - 1 < j → j < n → (gL L j).id ≠ id) := Lib.hid (fun j h1 h2 => by
          by_cases x : j = m
          · rw [x, HY.out]; exact e
          · exact HA.out j (by omega) h2)
        clear e
        go_wp2_with fail
        go_roundw
        case rel => exact ⟨(m : Int) - 1, by go_num, by omega, by omega, trivial, HE⟩
        case measure => simp [intOf]
    · obtain rfl : z = -1 := by omega
      have HE : Hid (LastIs L id (-1)) := Lib.hid (Or.inl ⟨rfl, fun j h1 => HA.out j (by omega) (by rw [← HL.out]; exact h1)⟩)
      go_wp2_with fail
      go_ret
      exact ⟨_, rfl, HE.out, rfl⟩
/-- A nest in memory. -/
def NestAt (w : World) (g : Nat) (b e last : Int) (o : Bool) : Prop := w.heap[g]? = some (.cells #[.int .i64 b, .int .i64 e, .int .i64 last, .bool o] 58 (0, 0))
theorem NestAt.lt {w : World} {g : Nat} {b e last : Int} {o : Bool} (h : NestAt w g b e last o) : g < w.heap.size := (Array.getElem?_eq_some_iff.1 h).1
theorem NestAt.ch {G : Nat → Prop} {w w' : World} {g : Nat} {b e last : Int} {o : Bool} (h : NestAt w g b e last o) (hc : Ch G w w') (hg : ¬ G g) : NestAt w' g b e last o := (hc.block g h.lt hg).trans h
def Fitted (w : World) (g : Nat) (b e last : Int) (r : Bool × Bool) (x : Ending) (w' : World) : Prop := x = .returned (.bool r.1) ∧ NestAt w' g b e last r.2 ∧ Ch (fun k => k = g) w w'
theorem fits_any (w : World) (g : Nat) (b e last : Int) (o : Bool) (h : NestAt w g b e last o) (i id : Int) :
    Calls Try.prog 19 #[.pointer (some ⟨g, 0, none⟩), .int .i64 i, .int .i64 id] w (Fitted w g b e last (fitF b e last o i id)) := by
  have c0 := cell_of_row w g 0 _ _ (0, 0) h
  have c1 := cell_of_row w g 1 _ _ (0, 0) h
  have c2 := cell_of_row w g 2 _ _ (0, 0) h
  have c3 := cell_of_row w g 3 _ _ (0, 0) h
  simp at c0 c1 c2 c3
  have f3 := frozen_of_row w g 3 _ _ h
  have HN : Hid (NestAt w g b e last o ∧ Ch (fun k => k = g) w w) := Lib.hid ⟨h, Ch.refl _ _⟩
  have HS : Hid (∀ q, NestAt (w.setCell ⟨g, 3, none⟩ (.bool q)) g b e last q ∧ Ch (fun k => k = g) w (w.setCell ⟨g, 3, none⟩ (.bool q))) := Lib.hid fun q => ⟨heap_setCell_same w g 3 _ _ (.bool q) h, Ch.set w g 3 _ rfl⟩
  obtain ⟨R, hR⟩ : ∃ R, fitF b e last o i id = R := ⟨_, rfl⟩
  rw [hR]
  unfold fitF at hR
  have HR := Lib.hid hR
  clear h hR
  by_cases h1 : id = b
  · have d1 : (id == b) = true := by rw [h1]; exact beq_self_eq_true _
    have HR1 := HR.out
    rw [if_pos h1] at HR1
    cases o
    · by_cases h2 : last < i
      · have d2 : decide (last < i) = true := decide_eq_true h2
        rw [if_pos (Or.inr h2)] at HR1
        subst HR1
        clear h1 h2 HR
        go_enter Try.func19, Try.ntmps19
        go_wp2_with fail
        go_ret
        exact ⟨rfl, HN.out⟩
      · have d2 : decide (last < i) = false := decide_eq_false h2
        rw [if_neg (fun x => x.elim (by decide) h2)] at HR1
        subst HR1
        clear h1 h2 HR
        go_enter Try.func19, Try.ntmps19
        go_wp2_with fail
        go_ret
        exact ⟨rfl, HS.out true⟩
    · rw [if_pos (Or.inl rfl)] at HR1
      subst HR1
      clear h1 HR
      go_enter Try.func19, Try.ntmps19
      go_wp2_with fail
      go_ret
      exact ⟨rfl, HN.out⟩
  · have d1 : (id == b) = false := by rw [beq_eq_false_iff_ne]; exact h1
    have HR1 := HR.out
    rw [if_neg h1] at HR1
    by_cases h2 : id = e
    · have d2 : (id == e) = true := by rw [h2]; exact beq_self_eq_true _
      rw [if_pos h2] at HR1
      cases o
      · rw [if_neg (by decide)] at HR1
        subst HR1
        clear h1 h2 HR
        go_enter Try.func19, Try.ntmps19
        go_wp2_with fail
        go_ret
        exact ⟨rfl, HN.out⟩
      · rw [if_pos rfl] at HR1
        subst HR1
        clear h1 h2 HR
        go_enter Try.func19, Try.ntmps19
        go_wp2_with fail
        go_ret
        exact ⟨rfl, HS.out false⟩
    · have d2 : (id == e) = false := by rw [beq_eq_false_iff_ne]; exact h2
      rw [if_neg h2] at HR1
      subst HR1
      clear h1 h2 HR
      go_enter Try.func19, Try.ntmps19
      go_wp2_with fail
      go_ret
      exact ⟨rfl, HN.out⟩
theorem away_any (w : World) (b4 b5 : Nat) (i n : Nat) (c4 : w.cell? ⟨b4, 0, none⟩ = some (.int .i64 (i : Nat))) (c5 : w.cell? ⟨b5, 0, none⟩ = some (.int .i64 (n : Nat))) (hn : n ≤ 1000000) (hi : i < n) (x : Int) :
    Calls Try.prog 28 #[.int .i64 x, .pointer (some ⟨b4, 0, none⟩), .pointer (some ⟨b5, 0, none⟩)] w fun e w' => ∃ q, e = .returned (.bool q) ∧ (q = true ↔ away n i x) ∧ w = w' := by
  have e1 : wrap64 (-(i : Int)) = -(i : Int) := IntWalk.wrap64_in _ (by omega)
  have e2 : wrap64 ((n : Int) - i) = (n : Int) - i := IntWalk.wrap64_in _ (by omega)
  obtain ⟨q1, h1⟩ : ∃ q, decide (x < -(i : Int)) = q := ⟨_, rfl⟩
  obtain ⟨q2, h2⟩ : ∃ q, decide ((n : Int) - i ≤ x) = q := ⟨_, rfl⟩
  have HA : Hid ((q1 || q2) = true ↔ away n i x) := Lib.hid (by unfold away; rw [← h1, ← h2]; simp)
  cases q1 <;> cases q2
  all_goals
    go_enter Try.func28, Try.ntmps28
    go_wp2_with fail
    go_ret
    exact ⟨_, rfl, HA.out, rfl⟩

end Go.Proofs.Ythlaglhlmbkniaa
/- tzx.leads: its contract. -/
namespace Go.Proofs.Ythlaglhlmbkniaa
open Go.RowKit
set_option linter.unusedVariables false
set_option linter.unusedSimpArgs false
set_option maxRecDepth 100000

/-- Three boxes: a block's, two numbers'. -/
structure Led (w w3 : World) (cs : Array Value) (i n : Nat) : Prop where
  b : BIn w3 w.heap.size cs
  ci : w3.cell? ⟨w.heap.size + 1, 0, none⟩ = some (.int .i64 (i : Nat))
  cn : w3.cell? ⟨w.heap.size + 2, 0, none⟩ = some (.int .i64 (n : Nat))
  bel : Below w.heap.size w w3
theorem Led.below {w w3 w4 : World} {cs : Array Value} {i n : Nat} (h : Led w w3 cs i n) (hb : Below w3.heap.size w3 w4) : Led w w4 cs i n :=
  ⟨h.b.below hb, (World.cell?_of_block (a := ⟨w.heap.size + 1, 0, none⟩) (hb.block _ (blk_lt h.ci))).trans h.ci, (World.cell?_of_block (a := ⟨w.heap.size + 2, 0, none⟩) (hb.block _ (blk_lt h.cn))).trans h.cn, h.bel.trans (hb.mono h.bel.size)⟩
theorem Led.new (w : World) {cs : Array Value} (hs : cs.size = 18) (i n : Nat) : Led w (((w.alloc (.cells cs 30)).alloc (.cells #[.int .i64 (i : Nat)] 3)).alloc (.cells #[.int .i64 (n : Nat)] 3)) cs i n := by
  have h0 := BIn.new w hs
  have b1 := bnew (w.alloc (.cells cs 30)) (.cells #[.int .i64 (i : Nat)] 3)
  have b2 := bnew ((w.alloc (.cells cs 30)).alloc (.cells #[.int .i64 (i : Nat)] 3)) (.cells #[.int .i64 (n : Nat)] 3)
  have b0 := bnew w (.cells cs 30)
  have s1 : (w.alloc (.cells cs 30)).heap.size = w.heap.size + 1 := by simp
  have s2 : ((w.alloc (.cells cs 30)).alloc (.cells #[.int .i64 (i : Nat)] 3)).heap.size = w.heap.size + 2 := by simp
  refine ⟨(h0.below b1).below b2, ?_, ?_, (b0.trans (b1.mono (by omega))).trans (b2.mono (by omega))⟩
  · rw [← s1]
    refine (World.cell?_of_block (a := ⟨_, 0, none⟩) (b2.block _ (by simp))).trans ?_
    exact cell_of_row _ _ 0 _ _ (0, 0) (heap_alloc_new _ _)
  · rw [← s2]
    exact cell_of_row _ _ 0 _ _ (0, 0) (heap_alloc_new _ _)
attribute [local simp ↓ high] blkLoad_as blkStore_as blkAlloc_as
set_option maxHeartbeats 1600000 in
theorem leads_any (F : Nat → Prop) (w : World) (cs : Array Value) (b : Lb) (h : BV F w cs b) (i n : Nat) (hi : i < n) (hn : n ≤ 1000000) :
    Calls Try.prog 20 #[.agg cs, .int .i64 (i : Nat), .int .i64 (n : Nat)] w fun x w' => ∃ q, x = .returned (.bool q) ∧ (q = true ↔ ¬ farB b n i) ∧ Below w.heap.size w w' := by
  have hbx : (Value.agg cs).cells = cs := rfl
  have hmf : ∀ (fn : Fn) (first cap : Array Value) (w : World), (Instr.makeFunc fn first cap).run Try.prog w = .ok (.func fn first cap) w := fun _ _ _ _ => rfl
  have hl3 := Led.new w h.size i n
  have HB : Hid (∀ u, Below w.heap.size w u → BV F u cs b) := Lib.hid fun u hu => h.below hu
  obtain ⟨h1, h2, hid, ⟨At, mt, ct, h4, h5⟩, Ai, mi, ci, h6, h7⟩ := h
  have c0 := hl3.b.cell hid
  have c13 := hl3.b.cell h4
  have c14 := hl3.b.cell h6
  have ht1 := h5.fit
  have ht2 := h5.max
  have hi1 := h7.fit
  have hi2 := h7.max
  unfold maxLen at ht2 hi2
  have HT := Lib.hid (fun u (hu : Below w.heap.size w u) => h5.below hu)
  have HI := Lib.hid (fun u (hu : Below w.heap.size w u) => h7.keep hu.size fun k hk _ => hu.block k hk)
  have HL := Lib.hid hl3
  have HTl := Lib.hid h5.len
  have HIl := Lib.hid h7.len
  clear h1 h2 hid h4 h5 h6 h7 hl3 HB
  have HF : Hid (farB b n i ↔ farB b n i) := Lib.hid Iff.rfl
  by_cases k1 : b.id = 35 ∨ b.id = 38
  · have HK : Hid (farB b n i ↔ ∃ j, j < mt ∧ away n i (gI b.ts j)) := Lib.hid (by
      unfold farB
      rw [HTl.out]
      refine ⟨fun x => ?_, fun x => Or.inl ⟨k1, x⟩⟩
      rcases x with x | x
      · exact x.2
      · omega)
    clear HF HI HIl hi1 hi2 c14
    have hq : ∃ q : Bool, (b.id == 35) = q ∧ (q = false → (b.id == 38) = true) := ⟨_, rfl, fun x => by
      rw [beq_eq_false_iff_ne] at x
      rw [beq_iff_eq]
      exact k1.resolve_left x⟩
    obtain ⟨q, d1, d2'⟩ := hq
    generalize b.id = y at *
    clear k1
    have hts : ∃ q2 : Bool, q = false → (y == 38) = q2 := ⟨_, fun _ => rfl⟩
    have hd : Hid (q = false → (y == 38) = true) := Lib.hid d2'
    clear hts d2'
    cases q
    · have d2 := hd.out rfl
      clear hd
      go_enter Try.func20, Try.ntmps20
      go_wp2_with fail
      generalize hW : World.alloc (World.alloc (World.alloc w _) _) _ = W3 at *
      clear hW
      go_loopw [21] (fun v wr => ∃ j : Nat, v = .int .i64 j ∧ j ≤ mt ∧ wr = W3 ∧ Hid (∀ j', j' < j → ¬ away n i (gI b.ts j'))) (fun v _ => mt - (intOf v).toNat)
      case atStart => exact ⟨0, rfl, by omega, rfl, Lib.hid fun j' hj => absurd hj (by omega)⟩
      case round =>
        obtain ⟨j, rfl, hj, rfl, HA⟩ := hrel
        by_cases hlt : j < mt
        · obtain ⟨g, o, rfl, _, _, hk⟩ := (HT.out wr HL.out.bel).lies (by omega)
          have cj : wr.cell? ⟨g, o + j, none⟩ = some (.int .i64 (gI b.ts j)) := hk j hlt
          have HC := Lib.hid (away_any wr _ _ i n HL.out.ci HL.out.cn hn hi (gI b.ts j))
          obtain ⟨x, hx⟩ : ∃ x, gI b.ts j = x := ⟨_, rfl⟩
          rw [hx] at cj HC
          have HX := Lib.hid hx
          clear hk hx
          go_wp2_with fail
          refine HC.out.mono ?_
          rintro e w' ⟨q, rfl, hq, rfl⟩
          have HQ := Lib.hid hq
          clear hq HC
          cases q
          · have HE : Hid (∀ j', j' < j + 1 → ¬ away n i (gI b.ts j')) := Lib.hid fun j' hj' => by
              by_cases e : j' = j
              · rw [e, HX.out]; exact fun y => by have := HQ.out.2 y; cases this
              · exact HA.out j' (by omega)
            go_wp2_with fail
            go_roundw
            case rel => exact ⟨j + 1, by go_num, by omega, trivial, HE⟩
            case measure => simp [intOf]; omega
          · have HE : Hid (farB b n i) := Lib.hid (HK.out.2 ⟨j, hlt, by rw [HX.out]; exact HQ.out.1 rfl⟩)
            go_wp2_with fail
            go_ret
            exact ⟨_, rfl, ⟨fun x => (by cases x), fun x => absurd HE.out x⟩, HL.out.bel⟩
        · have HE : Hid (¬ farB b n i) := Lib.hid fun x => by
            obtain ⟨j', h1, h2⟩ := HK.out.1 x
            exact HA.out j' (by omega) h2
          go_wp2_with fail
          go_ret
          exact ⟨_, rfl, ⟨fun _ => HE.out, fun _ => rfl⟩, HL.out.bel⟩
    · clear hd
      go_enter Try.func20, Try.ntmps20
      go_wp2_with fail
      generalize hW : World.alloc (World.alloc (World.alloc w _) _) _ = W3 at *
      clear hW
      go_loopw [21] (fun v wr => ∃ j : Nat, v = .int .i64 j ∧ j ≤ mt ∧ wr = W3 ∧ Hid (∀ j', j' < j → ¬ away n i (gI b.ts j'))) (fun v _ => mt - (intOf v).toNat)
      case atStart => exact ⟨0, rfl, by omega, rfl, Lib.hid fun j' hj => absurd hj (by omega)⟩
      case round =>
        obtain ⟨j, rfl, hj, rfl, HA⟩ := hrel
        by_cases hlt : j < mt
        · obtain ⟨g, o, rfl, _, _, hk⟩ := (HT.out wr HL.out.bel).lies (by omega)
          have cj : wr.cell? ⟨g, o + j, none⟩ = some (.int .i64 (gI b.ts j)) := hk j hlt
          have HC := Lib.hid (away_any wr _ _ i n HL.out.ci HL.out.cn hn hi (gI b.ts j))
          obtain ⟨x, hx⟩ : ∃ x, gI b.ts j = x := ⟨_, rfl⟩
          rw [hx] at cj HC
          have HX := Lib.hid hx
          clear hk hx
          go_wp2_with fail
          refine HC.out.mono ?_
          rintro e w' ⟨q, rfl, hq, rfl⟩
          have HQ := Lib.hid hq
          clear hq HC
          cases q
          · have HE : Hid (∀ j', j' < j + 1 → ¬ away n i (gI b.ts j')) := Lib.hid fun j' hj' => by
              by_cases e : j' = j
              · rw [e, HX.out]; exact fun y => by have := HQ.out.2 y; cases this
              · exact HA.out j' (by omega)
            go_wp2_with fail
            go_roundw
            case rel => exact ⟨j + 1, by go_num, by omega, trivial, HE⟩
            case measure => simp [intOf]; omega
          · have HE : Hid (farB b n i) := Lib.hid (HK.out.2 ⟨j, hlt, by rw [HX.out]; exact HQ.out.1 rfl⟩)
            go_wp2_with fail
            go_ret
            exact ⟨_, rfl, ⟨fun x => (by cases x), fun x => absurd HE.out x⟩, HL.out.bel⟩
        · have HE : Hid (¬ farB b n i) := Lib.hid fun x => by
            obtain ⟨j', h1, h2⟩ := HK.out.1 x
            exact HA.out j' (by omega) h2
          go_wp2_with fail
          go_ret
          exact ⟨_, rfl, ⟨fun _ => HE.out, fun _ => rfl⟩, HL.out.bel⟩
  · have k2 : b.id ≠ 35 := fun x => k1 (Or.inl x)
    have k3 : b.id ≠ 38 := fun x => k1 (Or.inr x)
    have d1 : (b.id == 35) = false := by rw [beq_eq_false_iff_ne]; exact k2
    have d2 : (b.id == 38) = false := by rw [beq_eq_false_iff_ne]; exact k3
    clear HT HTl ht1 ht2 c13
    by_cases k4 : b.id = 40
    · have d3 : (b.id == 40) = true := by rw [beq_iff_eq]; exact k4
      have HK : Hid (farB b n i ↔ ∃ j, j < mi ∧ away n i (gI b.ns j)) := Lib.hid (by
        unfold farB
        rw [HIl.out]
        refine ⟨fun x => ?_, fun x => Or.inr ⟨k4, x⟩⟩
        rcases x with x | x
        · exact absurd x.1 k1
        · exact x.2)
      clear HF k1 k2 k3 k4
      generalize b.id = y at *
      go_enter Try.func20, Try.ntmps20
      go_wp2_with fail
      generalize hW : World.alloc (World.alloc (World.alloc w _) _) _ = W3 at *
      clear hW
      go_loopw [34] (fun v wr => ∃ j : Nat, v = .int .i64 j ∧ j ≤ mi ∧ Hid (Below W3.heap.size W3 wr) ∧ Hid (∀ j', j' < j → ¬ away n i (gI b.ns j'))) (fun v _ => mi - (intOf v).toNat)
      case atStart => exact ⟨0, rfl, by omega, Lib.hid (Below.refl _ _), Lib.hid fun j' hj => absurd hj (by omega)⟩
      case round =>
        obtain ⟨j, rfl, hj, HBl, HA⟩ := hrel
        have HLr := Lib.hid (HL.out.below HBl.out)
        by_cases hlt : j < mi
        · obtain ⟨g, o, rfl, _, hgl, hk⟩ := (HI.out wr HLr.out.bel).lies (by omega)
          obtain ⟨cj, D, dm, dc, cj2⟩ := hk j hlt
          obtain ⟨x, hx⟩ : ∃ x, gI b.ns j = x := ⟨_, rfl⟩
          rw [hx] at cj
          have HX := Lib.hid hx
          have HbN : Hid (Below wr.heap.size wr (wr.alloc (.cells #[.int .i64 x, .slice D dm dc] 32))) := Lib.hid (bnew wr _)
          have HC := Lib.hid (away_any (wr.alloc (.cells #[.int .i64 x, .slice D dm dc] 32)) _ _ i n (HLr.out.below HbN.out).ci (HLr.out.below HbN.out).cn hn hi x)
          clear hk hx hgl
          go_wp2_with fail
          refine HC.out.mono ?_
          rintro e w' ⟨q, rfl, hq, rfl⟩
          have HQ := Lib.hid hq
          clear hq HC
          cases q
          · have HE : Hid (∀ j', j' < j + 1 → ¬ away n i (gI b.ns j')) := Lib.hid fun j' hj' => by
              by_cases e : j' = j
              · rw [e, HX.out]; exact fun y => by have := HQ.out.2 y; cases this
              · exact HA.out j' (by omega)
            have HB2 := Lib.hid (HBl.out.trans (HbN.out.mono HBl.out.size))
            go_wp2_with fail
            go_roundw
            case rel => exact ⟨j + 1, by go_num, by omega, HB2, HE⟩
            case measure => simp [intOf]; omega
          · have HE : Hid (farB b n i) := Lib.hid (HK.out.2 ⟨j, hlt, by rw [HX.out]; exact HQ.out.1 rfl⟩)
            go_wp2_with fail
            go_ret
            exact ⟨_, rfl, ⟨fun x => (by cases x), fun x => absurd HE.out x⟩, (HLr.out.below HbN.out).bel⟩
        · have HE : Hid (¬ farB b n i) := Lib.hid fun x => by
            obtain ⟨j', h1, h2⟩ := HK.out.1 x
            exact HA.out j' (by omega) h2
          go_wp2_with fail
          go_ret
          exact ⟨_, rfl, ⟨fun _ => HE.out, fun _ => rfl⟩, HLr.out.bel⟩
    · have d3 : (b.id == 40) = false := by rw [beq_eq_false_iff_ne]; exact k4
      have HE : Hid (¬ farB b n i) := Lib.hid (by
        unfold farB
        rintro (x | x)
        · exact k1 x.1
        · exact k4 x.1)
      clear k1 k2 k3 k4 HF
      generalize b.id = y at *
      go_enter Try.func20, Try.ntmps20
      go_wp2_with fail
      go_ret
      exact ⟨_, rfl, ⟨fun _ => HE.out, fun _ => rfl⟩, HL.out.bel⟩

end Go.Proofs.Ythlaglhlmbkniaa
/- tzx.Sound: its contract. -/
namespace Go.Proofs.Ythlaglhlmbkniaa
open Go.RowKit
set_option linter.unusedVariables false
set_option linter.unusedSimpArgs false
set_option maxRecDepth 100000

/-- How far Sound has come: blocks ahead of i are sound, its two nests stand so. -/
structure Snd (w wr : World) (L : List Lb) (i : Nat) (r1 r2 : Int) : Prop where
  n1 : NestAt wr w.heap.size 36 37 r1 (openF L 36 37 i)
  n2 : NestAt wr (w.heap.size + 1) 33 34 r2 (openF L 33 34 i)
  bel : Below w.heap.size w wr
  ok : ∀ j, j < i → wrongF L j = 0
theorem Snd.new (w : World) (L : List Lb) (r1 r2 : Int) : Snd w ((w.alloc (.cells #[.int .i64 36, .int .i64 37, .int .i64 r1, .bool false] 58)).alloc (.cells #[.int .i64 33, .int .i64 34, .int .i64 r2, .bool false] 58)) L 0 r1 r2 := by
  have b1 := bnew (w.alloc (.cells #[.int .i64 36, .int .i64 37, .int .i64 r1, .bool false] 58)) (.cells #[.int .i64 33, .int .i64 34, .int .i64 r2, .bool false] 58)
  have b0 := bnew w (.cells #[.int .i64 36, .int .i64 37, .int .i64 r1, .bool false] 58)
  have s1 : (w.alloc (.cells #[.int .i64 36, .int .i64 37, .int .i64 r1, .bool false] 58)).heap.size = w.heap.size + 1 := by simp
  refine ⟨?_, ?_, b0.trans (b1.mono (by omega)), fun j hj => absurd hj (by omega)⟩
  · exact (b1.block _ (by simp)).trans (heap_alloc_new w _)
  · unfold NestAt
    rw [← s1]
    exact heap_alloc_new _ _
def SoundE (w : World) (L : List Lb) (x : Ending) (w' : World) : Prop := ∃ (r : Nat) (e : Int), x = .returned (.tuple #[.int .i64 (r : Nat), .int .i64 e]) ∧ SoundIs L r e ∧ Below w.heap.size w w'
attribute [local simp ↓ high] blkLoad_as blkStore_as blkAlloc_as
set_option maxHeartbeats 3200000 in
theorem sound_any (F : Nat → Prop) (w : World) (B : Option Addr) (n c : Nat) (L : List Lb) (h : BlAt F w B n c L) (hn : n ≤ 1000000) :
    Calls Try.prog 7 #[.slice B n c] w (SoundE w L) := by
  have HL1 := Lib.hid (last_any F w B n c L h hn 37)
  have HL2 := Lib.hid (fun u (hu : Below w.heap.size w u) => last_any F u B n c L (h.below hu) hn 34)
  have H := Lib.hid (fun j (hj : j < n) => h.later j hj)
  have HN := Lib.hid h.len
  have hal := run_blkAlloc
  clear h
  go_enter Try.func7, Try.ntmps7
  go_wp2_with fail
  refine HL1.out.mono ?_
  rintro e w' ⟨r1, rfl, hr1, rfl⟩
  have HR1 := Lib.hid hr1
  clear hr1 HL1
  go_wp2_with fail
  refine (HL2.out _ (bnew w _)).mono ?_
  rintro e w' ⟨r2, rfl, hr2, rfl⟩
  have HR2 := Lib.hid hr2
  clear hr2 HL2
  have HS := Lib.hid (Snd.new w L r1 r2)
  go_wp2_with fail
  go_loopw [16] (fun v wr => ∃ j : Nat, v = .int .i64 j ∧ j ≤ n ∧ Hid (Snd w wr L j r1 r2)) (fun v _ => n - (intOf v).toNat)
  case atStart => exact ⟨0, rfl, by omega, HS⟩
  case round =>
    obtain ⟨j, rfl, hj, HA⟩ := hrel
    by_cases hlt : j < n
    · obtain ⟨g, cs, rfl, hlat⟩ := H.out j hlt
      have HV := Lib.hid hlat
      obtain ⟨hm, hv⟩ := hlat wr HA.out.bel
      clear hlat
      have hld := run_blkLoad hm
      have hb1 := BIn.new wr (cs := blkZ) rfl
      have hst := run_blkStore hb1 hv.size hv.one
      obtain ⟨hb2, hc2⟩ := hb1.put (cs := cs) hv.size
      obtain ⟨W2, hW2⟩ : ∃ W2, (wr.alloc (.cells blkZ 30)).setRow wr.heap.size cs = W2 := ⟨_, rfl⟩
      rw [hW2] at hst hb2 hc2
      have hc : Below wr.heap.size wr W2 := (bnew wr _).trans (hc2.below (fun k hk => by rw [hk]; exact Nat.le_refl _) (by simp))
      obtain ⟨gb, hgb⟩ : ∃ gb, wr.heap.size = gb := ⟨_, rfl⟩
      have l1 := HA.out.n1.lt
      have l2 := HA.out.n2.lt
      have hC2 : Ch (fun _ => False) wr W2 := Ch.of_below hc
      have N1 := HA.out.n1.ch hC2 id
      have N2 := HA.out.n2.ch hC2 id
      have HB := Lib.hid hb2
      have c0 := hb2.cell hv.id
      have HBl := Lib.hid hc
      have HW := Lib.hid hgb
      obtain ⟨y, hy⟩ : ∃ y, (gL L j).id = y := ⟨_, rfl⟩
      have HY := Lib.hid hy
      have H0 : Hid (cs[0]? = some (.int .i64 y)) := Lib.hid (by rw [← hy]; exact hv.id)
      obtain ⟨R1, hR1⟩ : ∃ R, fitF 36 37 r1 (openF L 36 37 j) j y = R := ⟨_, rfl⟩
      obtain ⟨R2, hR2⟩ : ∃ R, fitF 33 34 r2 (openF L 33 34 j) j y = R := ⟨_, rfl⟩
      have hR2' := hR2
      have HF1 := Lib.hid (fit_is (L := L) (b := 36) (e := 37) (i := j) (by decide) (by rw [HN.out]; exact hlt) HR1.out)
      have HF2 := Lib.hid (fit_is (L := L) (b := 33) (e := 34) (i := j) (by decide) (by rw [HN.out]; exact hlt) HR2.out)
      rw [hy, hR1] at HF1
      rw [hy, hR2] at HF2
      have hf1 := fits_any W2 _ 36 37 r1 _ N1 j y
      rw [hR1] at hf1
      have HC1 := Lib.hid hf1
      have HN2 := Lib.hid N2
      have HG := Lib.hid (show w.heap.size < gb ∧ w.heap.size + 1 < gb by omega)
      rw [hy] at c0
      have hsz : wr.heap.size = gb := hgb
      rw [hgb] at hst hb2 c0 HB
      clear hb1 hm hv hc2 hc hC2 N1 N2 hf1 l1 l2 hgb hy hb2 hW2 hR1 hR2
      obtain ⟨q1, o1⟩ := R1
      have HB2 : Hid (Below w.heap.size w W2) := Lib.hid (HA.out.bel.trans (HBl.out.mono HA.out.bel.size))
      go_wp2_with fail
      clear hsz
      refine HC1.out.mono ?_
      rintro e w3 ⟨rfl, n3, c3⟩
      have HN3 := Lib.hid n3
      have c0' := (HB.out.ch c3 (by have := HG.out; omega)).cell H0.out
      have HB3 := Lib.hid (HB.out.ch c3 (by have := HG.out; omega))
      have hN23 := HN2.out.ch c3 (by omega)
      have HL3 : Hid (Below w.heap.size w w3) := Lib.hid (HB2.out.trans (c3.below (fun k hk => by omega) HB2.out.size))
      clear c3 n3 HC1 hst hld
      cases q1
      · have HE : Hid (SoundIs L j 6) := Lib.hid ⟨HA.out.ok, Or.inl ⟨by rw [HN.out]; exact hlt, wrong_loop (Or.inl (HF1.out.1 (by first | trivial | rfl))), by decide⟩⟩
        go_wp2_with fail
        go_ret2
        exact ⟨j, 6, rfl, HE.out, HL3.out⟩
      · have HC2 := Lib.hid (fits_any w3 _ 33 34 r2 _ hN23 j y)
        have HR := Lib.hid hR2'
        rw [HR.out] at HC2
        clear hN23 hR2'
        obtain ⟨q2, o2⟩ := R2
        go_wp2_with fail
        refine HC2.out.mono ?_
        rintro e w4 ⟨rfl, n4, c4⟩
        have HN24 := Lib.hid n4
        have HN14 := Lib.hid (HN3.out.ch c4 (by omega))
        have HB4 := Lib.hid (HB3.out.ch c4 (by have := HG.out; omega))
        have HL4 : Hid (Below w.heap.size w w4) := Lib.hid (HL3.out.trans (c4.below (fun k hk => by omega) HL3.out.size))
        clear c4 n4 HC2 HR c0'
        have O1 := HF1.out.2 (by first | trivial | rfl)
        cases q2
        · have HE : Hid (SoundIs L j 6) := Lib.hid ⟨HA.out.ok, Or.inl ⟨by rw [HN.out]; exact hlt, wrong_loop (Or.inr (HF2.out.1 (by first | trivial | rfl))), by decide⟩⟩
          clear O1
          go_wp2_with fail
          go_ret2
          exact ⟨j, 6, rfl, HE.out, HL4.out⟩
        · have O2 := HF2.out.2 (by first | trivial | rfl)
          have HO := Lib.hid (And.intro O1 O2)
          clear O1 O2
          have hld4 := run_blkLoad HB4.out.mid
          have HD := Lib.hid (leads_any F w4 cs (gL L j) (HV.out w4 HL4.out).2 j n hlt hn)
          go_wp2_with fail
          refine HD.out.mono ?_
          rintro e w5 ⟨q3, rfl, hq3, hb5⟩
          have HQ := Lib.hid hq3
          have HB5 := Lib.hid hb5
          clear hq3 hb5 hld4 HD
          cases q3
          · have HE : Hid (SoundIs L j 5) := Lib.hid ⟨HA.out.ok, Or.inl ⟨by rw [HN.out]; exact hlt, wrong_far HO.out.1.1 HO.out.2.1 (by
              unfold farBad
              rw [HN.out]
              exact Classical.byContradiction fun x => by have := HQ.out.2 x; cases this), by decide⟩⟩
            go_wp2_with fail
            go_ret2
            exact ⟨j, 5, rfl, HE.out, HL4.out.trans (HB5.out.mono HL4.out.size)⟩
          · have HE : Hid (Snd w w5 L (j + 1) r1 r2) := Lib.hid ⟨by
                have e1 : o1 = openF L 36 37 (j + 1) := HO.out.1.2
                rw [← e1]
                exact (HB5.out.block _ HN14.out.lt).trans HN14.out, by
                have e2 : o2 = openF L 33 34 (j + 1) := HO.out.2.2
                rw [← e2]
                exact (HB5.out.block _ HN24.out.lt).trans HN24.out, HL4.out.trans (HB5.out.mono HL4.out.size), fun j' hj' => by
                by_cases x : j' = j
                · rw [x]
                  refine wrong_no HO.out.1.1 HO.out.2.1 ?_
                  unfold farBad
                  rw [HN.out]
                  exact HQ.out.1 (by first | trivial | rfl)
                · exact HA.out.ok j' (by omega)⟩
            go_wp2_with fail
            go_roundw
            case rel => exact ⟨j + 1, by go_num, by omega, HE⟩
            case measure => simp [intOf]; omega
    · have HE : Hid (SoundIs L 0 0) := Lib.hid ⟨fun j' h' => absurd h' (by omega), Or.inr ⟨rfl, rfl, fun j' h' => HA.out.ok j' (by rw [HN.out] at h'; omega)⟩⟩
      go_wp2_with fail
      go_ret2
      exact ⟨0, 0, rfl, HE.out, HA.out.bel⟩

end Go.Proofs.Ythlaglhlmbkniaa
/- A tape that is being read, in memory. -/
namespace Go.Proofs.Ythlaglhlmbkniaa
open Go.RowKit
set_option linter.unusedVariables false
set_option linter.unusedSimpArgs false
set_option maxRecDepth 100000

/-- What a call of block leaves: a block of that ID, whatever else it holds; the reader in the state s. -/
def BlkE (F : Nat → Prop) (w : World) (g : Nat) (l : List Int) (s : Rst) (id : Int) (x : Ending) (w' : World) : Prop := ∃ cs b, x = .returned (.agg cs) ∧ b.id = id ∧ BV (fun k => w.heap.size ≤ k) w' cs b ∧ RS F w' g l s ∧ Ch (fun k => k = g) w w'
structure Tq (F : Nat → Prop) (w wr : World) (g g0 gt : Nat) (l : List Int) (s : Rst) (M m : Int) (B : Option Addr) (k c : Nat) (L : List Lb) (A : Option Addr) (ka ca : Nat) (bs : List Int) : Prop where
  rs : RS F wr g l s
  res : wr.heap[g0]? = some (.cells #[.int .i64 0, .int .i64 0, .slice none 0 0] 43 (0, 0))
  tp : wr.heap[gt]? = some (.cells #[.int .i64 M, .int .i64 m, .slice B k c] 43 (0, 0))
  row : Blks (fun i => gt < i ∧ (Value.slice A ka ca).ownBlock ≠ some i) (gt + 1) wr B k c L
  beg : wr.ownsRow (gt + 1) 3 1 (.slice A ka ca) ka (bs.map i64I)
  ch : Ch (fun i => i = g) w wr
  o1 : g < w.heap.size
  o2 : w.heap.size ≤ g0
  o3 : g0 < gt
  o4 : ∀ i, F i → i < w.heap.size
theorem Tq.low {F : Nat → Prop} {w wr : World} {g g0 gt : Nat} {l : List Int} {s : Rst} {M m : Int} {B : Option Addr} {k c : Nat} {L : List Lb} {A : Option Addr} {ka ca : Nat} {bs : List Int} (h : Tq F w wr g g0 gt l s M m B k c L A ka ca bs) : gt < wr.heap.size := (Array.getElem?_eq_some_iff.1 h.tp).1
/-- The reader's block alone changed, or nothing that was there. -/
theorem Tq.rd {F : Nat → Prop} {w wr w' : World} {g g0 gt : Nat} {l : List Int} {s s' : Rst} {M m : Int} {B : Option Addr} {k c : Nat} {L : List Lb} {A : Option Addr} {ka ca : Nat} {bs : List Int} (h : Tq F w wr g g0 gt l s M m B k c L A ka ca bs) (hr : RS F w' g l s') (hc : Ch (fun i => i = g) wr w') : Tq F w w' g g0 gt l s' M m B k c L A ka ca bs := by
  have h1 := h.o1
  have h2 := h.o2
  have h3 := h.o3
  have h4 := h.low
  refine ⟨hr, (hc.block g0 (by omega) (by omega)).trans h.res, (hc.block gt h4 (by omega)).trans h.tp, h.row.ch hc fun i hi _ => ?_, own_kept' h.beg fun i hi e => hc.block i hi ?_, h.ch.then hc, h1, h2, h3, h.o4⟩
  · rcases hi with hi | hi <;> omega
  · have := own_low h.beg i e; omega
theorem Tq.below {F : Nat → Prop} {w wr w' : World} {g g0 gt : Nat} {l : List Int} {s : Rst} {M m : Int} {B : Option Addr} {k c : Nat} {L : List Lb} {A : Option Addr} {ka ca : Nat} {bs : List Int} (h : Tq F w wr g g0 gt l s M m B k c L A ka ca bs) (hb : Below wr.heap.size wr w') : Tq F w w' g g0 gt l s M m B k c L A ka ca bs := h.rd (h.rs.below hb) (Ch.of_below hb)
/-- A number was put behind the begins. -/
theorem Tq.begun {F : Nat → Prop} {w wr w' : World} {g g0 gt : Nat} {l : List Int} {s : Rst} {M m : Int} {B : Option Addr} {k c : Nat} {L : List Lb} {A : Option Addr} {ka ca : Nat} {bs : List Int} (h : Tq F w wr g g0 gt l s M m B k c L A ka ca bs) {v : Int} {g' c' : Nat}
    (k1 : w'.ownsRow (gt + 1) 3 1 (.slice (some ⟨g', 0, none⟩) (ka + 1) c') (ka + 1) ((bs ++ [v]).map i64I)) (k2 : Ch (fun i => (Value.slice A ka ca).ownBlock = some i) wr w') (k3 : ∀ i, i < wr.heap.size → (Value.slice A ka ca).ownBlock ≠ some i → (Value.slice (some ⟨g', 0, none⟩) (ka + 1) c').ownBlock ≠ some i) :
    Tq F w w' g g0 gt l s M m B k c L (some ⟨g', 0, none⟩) (ka + 1) c' (bs ++ [v]) := by
  have h1 := h.o1
  have h2 := h.o2
  have h3 := h.o3
  have h4 := h.low
  have ha : ∀ i, (Value.slice A ka ca).ownBlock = some i → gt < i := fun i e => by have := own_low h.beg i e; omega
  obtain ⟨xs, hrow⟩ := h.row.row
  refine ⟨h.rs.ch k2 (fun e => by have := ha _ e; omega) fun i hi e => by have := ha _ e; have := h.o4 i hi; omega, (k2.block g0 (by omega) (fun e => by have := ha _ e; omega)).trans h.res, (k2.block gt h4 (fun e => by have := ha _ e; omega)).trans h.tp, ?_, k1, h.ch.trans k2 fun i hi => Or.inr (by have := ha _ hi; omega), h1, h2, h3, h.o4⟩
  refine (h.row.weak (G := fun i => i < wr.heap.size ∧ gt < i ∧ (Value.slice A ka ca).ownBlock ≠ some i) fun i hi hf => ⟨hi, hf⟩).keep k2.size (fun i hi hf => k2.block i hi ?_) |>.weak fun i _ hf => ⟨hf.2.1, k3 i hf.1 hf.2.2⟩
  rcases hf with hf | hf
  · exact fun e => own_ne hrow h.beg (by decide) i hf e
  · exact hf.2.2
/-- A block was put behind the blocks. -/
theorem Tq.blocked {F : Nat → Prop} {w wr w' : World} {g g0 gt : Nat} {l : List Int} {s : Rst} {M m : Int} {B : Option Addr} {k c : Nat} {L : List Lb} {A : Option Addr} {ka ca : Nat} {bs : List Int} (h : Tq F w wr g g0 gt l s M m B k c L A ka ca bs) {b : Lb} {g' c' : Nat}
    (k1 : Blks (fun i => gt < i ∧ (Value.slice A ka ca).ownBlock ≠ some i) (gt + 1) w' (some ⟨g', 0, none⟩) (k + 1) c' (L ++ [b])) (k2 : Ch (fun i => (Value.slice B k c).ownBlock = some i) wr w') :
    (w'.cell? ⟨gt, 2, none⟩ = some (.slice B k c) ∧ w'.frozen? ⟨gt, 2, none⟩ = false) ∧ Tq F w (w'.setCell ⟨gt, 2, none⟩ (.slice (some ⟨g', 0, none⟩) (k + 1) c')) g g0 gt l s M m (some ⟨g', 0, none⟩) (k + 1) c' (L ++ [b]) A ka ca bs := by
  have h1 := h.o1
  have h2 := h.o2
  have h3 := h.o3
  have h4 := h.low
  have ha : ∀ i, (Value.slice B k c).ownBlock = some i → gt < i := fun i e => by have := h.row.blk i e; omega
  obtain ⟨xs, hrow⟩ := h.row.row
  have e1 : w'.heap[gt]? = some (.cells #[.int .i64 M, .int .i64 m, .slice B k c] 43 (0, 0)) := (k2.block gt h4 (fun e => by have := ha _ e; omega)).trans h.tp
  have hC := Ch.set (F := fun i => i = gt) w' gt 2 (.slice (some ⟨g', 0, none⟩) (k + 1) c') rfl
  have hlt := (Array.getElem?_eq_some_iff.1 e1).1
  refine ⟨⟨cell_of_row w' gt 2 _ _ (0, 0) e1, frozen_of_row w' gt 2 _ _ e1⟩, ?_⟩
  have hbg : w'.ownsRow (gt + 1) 3 1 (.slice A ka ca) ka (bs.map i64I) := own_kept' h.beg fun i hi e => k2.block i hi fun e' => own_ne hrow h.beg (by decide) i e' e
  refine ⟨?_, ?_, heap_setCell_same w' gt 2 _ _ _ e1, k1.ch hC fun i hi _ => ?_, own_kept' hbg fun i hi e => hC.block i hi ?_, ?_, h1, h2, h3, h.o4⟩
  · exact (h.rs.ch k2 (fun e => by have := ha _ e; omega) fun i hi e => by have := ha _ e; have := h.o4 i hi; omega).ch hC (by omega) fun i hi => by have := h.o4 i hi; omega
  · exact (hC.block g0 (by omega) (by omega)).trans ((k2.block g0 (by omega) (fun e => by have := ha _ e; omega)).trans h.res)
  · rcases hi with hi | hi <;> omega
  · have := own_low hbg i e; omega
  · exact (h.ch.trans k2 fun i hi => Or.inr (by have := ha _ hi; omega)).trans hC fun i hi => Or.inr (by omega)
/-- What is known of the blocks that were read. -/
structure Pu (blk : Rst → Rst) (l : List Int) (k : Nat) (L : List Lb) (bs : List Int) : Prop where
  n : L.length = k
  b : bs.length = k
  id : ∀ j, j < k → (gL L j).id = gI l (itS blk (s0F l) j).p
  bg : ∀ j, j < k → gI bs j = ((itS blk (s0F l) j).p : Nat)
  on : ∀ j, j < k → onS blk l (s0F l) j
theorem Pu.nil (blk : Rst → Rst) (l : List Int) : Pu blk l 0 [] [] := ⟨rfl, rfl, fun j hj => absurd hj (by omega), fun j hj => absurd hj (by omega), fun j hj => absurd hj (by omega)⟩
theorem Pu.next {blk : Rst → Rst} {l : List Int} {k : Nat} {L : List Lb} {bs : List Int} (h : Pu blk l k L bs) (hon : onS blk l (s0F l) k) (b : Lb) (hb : b.id = gI l (itS blk (s0F l) k).p) : Pu blk l (k + 1) (L ++ [b]) (bs ++ [((itS blk (s0F l) k).p : Int)]) := by
  refine ⟨by simp [h.n], by simp [h.b], fun j hj => ?_, fun j hj => ?_, fun j hj => ?_⟩
  · by_cases e : j < k
    · rw [gL_left _ _ _ (by rw [h.n]; exact e)]; exact h.id j e
    · obtain rfl : j = k := by omega
      rw [gL_last _ _ _ h.n.symm]; exact hb
  · by_cases e : j < k
    · rw [gI_app_left _ _ _ (by rw [h.b]; exact e)]; exact h.bg j e
    · obtain rfl : j = k := by omega
      rw [gI_app_right _ _ _ (by rw [h.b]; exact Nat.le_refl _), h.b, Nat.sub_self]; rfl
  · by_cases e : j < k
    · exact h.on j e
    · obtain rfl : j = k := by omega
      exact hon
/-- How far it is to the end. -/
def measS (l : List Int) (s : Rst) : Nat := if s.e = 0 then l.length + 1 - s.p else 0
theorem meas_lt {l : List Int} {s s' : Rst} (h0 : s.e = 0) (h1 : s.p < l.length) (h2 : s'.e = 0 → s.p < s'.p) : measS l s' < measS l s := by
  unfold measS
  rw [if_pos h0]
  by_cases e : s'.e = 0
  · rw [if_pos e]; have := h2 e; omega
  · rw [if_neg e]; omega
def tpPut (w : World) (g : Nat) (x y : Int) (B : Option Addr) (n c : Nat) : World := ((w.setCell ⟨g, 0, none⟩ (.int .i64 x)).setCell ⟨g, 1, none⟩ (.int .i64 y)).setCell ⟨g, 2, none⟩ (.slice B n c)
theorem tpPut_heap {w : World} {g : Nat} {a b d : Value} (h : w.heap[g]? = some (.cells #[a, b, d] 43 (0, 0))) (x y : Int) (B : Option Addr) (n c : Nat) : (tpPut w g x y B n c).heap[g]? = some (.cells #[.int .i64 x, .int .i64 y, .slice B n c] 43 (0, 0)) := by
  have h1 := heap_setCell_same w g 0 _ _ (.int .i64 x) h
  have h2 := heap_setCell_same _ g 1 _ _ (.int .i64 y) h1
  exact heap_setCell_same _ g 2 _ _ (.slice B n c) h2
theorem tpPut_ch (w : World) (g : Nat) (x y : Int) (B : Option Addr) (n c : Nat) : Ch (fun k => k = g) w (tpPut w g x y B n c) :=
  ((Ch.set (F := fun k => k = g) w g 0 (.int .i64 x) rfl).then (Ch.set _ g 1 (.int .i64 y) rfl)).then (Ch.set _ g 2 (.slice B n c) rfl)
theorem load_tp {w : World} {g : Nat} {x y : Int} {B : Option Addr} {n c : Nat} (hr : w.heap[g]? = some (.cells #[.int .i64 x, .int .i64 y, .slice B n c] 43 (0, 0))) : (loadVar 43 ⟨g, 0, none⟩).run Try.prog w = .ok (.agg #[.int .i64 x, .int .i64 y, .slice B n c]) w :=
  run_loadVar_mid (P := Try.prog) w g 0 43 [.int .i64 x, .int .i64 y, .slice B n c] _ (fun j v hj => by
    match j, hj with
    | 0, hj => simp at hj; subst hj; exact cell_of_row w g 0 _ _ (0, 0) hr
    | 1, hj => simp at hj; subst hj; exact cell_of_row w g 1 _ _ (0, 0) hr
    | 2, hj => simp at hj; subst hj; exact cell_of_row w g 2 _ _ (0, 0) hr) Try.underlying43 rfl (by kernel_rfl)
theorem results_tp1 {fn : Func} {p : Tmp} (h : fn.results = #[.cell p 43]) (tmps : Array Value) {w : World} {g : Nat} {x y : Int} {B : Option Addr} {n c : Nat} (hr : w.heap[g]? = some (.cells #[.int .i64 x, .int .i64 y, .slice B n c] 43 (0, 0))) (hp : tmps.getD p undef = .pointer (some ⟨g, 0, none⟩)) :
    (results fn tmps).run Try.prog w = .ok (.agg #[.int .i64 x, .int .i64 y, .slice B n c]) w := by
  have hp' : tmps[p]?.getD undef = .pointer (some ⟨g, 0, none⟩) := by simpa using hp
  have hl := load_tp hr
  simp [results, h, hp', asAddr, hl]
theorem results_tp2 {fn : Func} {p q : Tmp} (h : fn.results = #[.cell p 43, .tmp q]) (tmps : Array Value) {w : World} {g : Nat} {x y : Int} {B : Option Addr} {n c : Nat} (hr : w.heap[g]? = some (.cells #[.int .i64 x, .int .i64 y, .slice B n c] 43 (0, 0))) (hp : tmps.getD p undef = .pointer (some ⟨g, 0, none⟩)) (z : Value) (hq : tmps.getD q undef = z) :
    (results fn tmps).run Try.prog w = .ok (.tuple #[.agg #[.int .i64 x, .int .i64 y, .slice B n c], z]) w := by
  have hp' : tmps[p]?.getD undef = .pointer (some ⟨g, 0, none⟩) := by simpa using hp
  have hq' : tmps[q]?.getD undef = z := by simpa using hq
  have hl := load_tp hr
  simp [results, h, hp', hq', asAddr, hl]
theorem Tq.all {F : Nat → Prop} {w wr : World} {g g0 gt : Nat} {l : List Int} {s : Rst} {M m : Int} {B : Option Addr} {k c : Nat} {L : List Lb} {A : Option Addr} {ka ca : Nat} {bs : List Int} (h : Tq F w wr g g0 gt l s M m B k c L A ka ca bs) : (wr.cell? ⟨gt, 0, none⟩ = some (.int .i64 M) ∧ wr.cell? ⟨gt, 1, none⟩ = some (.int .i64 m) ∧ wr.cell? ⟨gt, 2, none⟩ = some (.slice B k c)) ∧ (wr.cell? ⟨g0, 0, none⟩ = some (.int .i64 0) ∧ wr.cell? ⟨g0, 1, none⟩ = some (.int .i64 0) ∧ wr.cell? ⟨g0, 2, none⟩ = some (.slice none 0 0)) ∧ (wr.frozen? ⟨g0, 0, none⟩ = false ∧ wr.frozen? ⟨g0, 1, none⟩ = false ∧ wr.frozen? ⟨g0, 2, none⟩ = false) :=
  ⟨⟨cell_of_row wr gt 0 _ _ (0, 0) h.tp, cell_of_row wr gt 1 _ _ (0, 0) h.tp, cell_of_row wr gt 2 _ _ (0, 0) h.tp⟩, ⟨cell_of_row wr g0 0 _ _ (0, 0) h.res, cell_of_row wr g0 1 _ _ (0, 0) h.res, cell_of_row wr g0 2 _ _ (0, 0) h.res⟩, frozen_of_row wr g0 0 _ _ h.res, frozen_of_row wr g0 1 _ _ h.res, frozen_of_row wr g0 2 _ _ h.res⟩
def TapeE (F : Nat → Prop) (blk : Rst → Rst) (w : World) (g : Nat) (l : List Int) (x : Ending) (w' : World) : Prop := ∃ n s B c, x = .returned (.agg #[.int .i64 (maj l), .int .i64 (mnr l), .slice B n c]) ∧ TapeIs blk l n s ∧ RS F w' g l s ∧ Ch (fun k => k = g) w w'
theorem Tq.made {F : Nat → Prop} {blk : Rst → Rst} {w wr : World} {g g0 gt : Nat} {l : List Int} {s : Rst} {B : Option Addr} {k c : Nat} {L : List Lb} {A : Option Addr} {ka ca : Nat} {bs : List Int} (h : Tq F w wr g g0 gt l s (maj l) (mnr l) B k c L A ka ca bs) (hs : TapeIs blk l k s) : TapeE F blk w g l (.returned (.agg #[.int .i64 (maj l), .int .i64 (mnr l), .slice B k c])) (tpPut wr g0 (maj l) (mnr l) B k c) := by
  have hC := tpPut_ch wr g0 (maj l) (mnr l) B k c
  have h1 := h.o1
  have h2 := h.o2
  exact ⟨k, s, B, c, rfl, hs, h.rs.ch hC (by omega) fun i hi => by have := h.o4 i hi; omega, h.ch.trans hC fun i hi => Or.inr (by omega)⟩

end Go.Proofs.Ythlaglhlmbkniaa
/- tzx.block's state in memory, once an ID is read; its ways that read nothing more. -/
namespace Go.Proofs.Ythlaglhlmbkniaa
open Go.RowKit
set_option linter.unusedVariables false
set_option linter.unusedSimpArgs false
set_option maxRecDepth 100000

/-- The boxes of the reader and of the ID, the result's place. -/
structure Bk (F : Nat → Prop) (w u : World) (g : Nat) (l : List Int) (s : Rst) (b1 b2 b4 : Nat) (id : Int) : Prop where
  rs : RS F u g l s
  c1 : u.heap[b1]? = some (.cells #[.pointer (some ⟨g, 0, none⟩)] 64 (0, 0))
  c2 : BIn u b2 blkZ
  c4 : u.heap[b4]? = some (.cells #[.int .i64 id] 3 (0, 0))
  ch : Ch (fun k => k = g) w u
  o1 : g < w.heap.size
  o2 : w.heap.size ≤ b1
  o3 : b1 < b2
  o4 : b2 < b4
  o5 : ∀ i, F i → i < w.heap.size
theorem Bk.rd {F : Nat → Prop} {w u u' : World} {g : Nat} {l : List Int} {s s' : Rst} {b1 b2 b4 : Nat} {id : Int} (h : Bk F w u g l s b1 b2 b4 id) (hr : RS F u' g l s') (hc : Ch (fun k => k = g) u u') : Bk F w u' g l s' b1 b2 b4 id := by
  have h1 := h.o1
  have h2 := h.o2
  have h3 := h.o3
  have h4 := h.o4
  exact ⟨hr, (hc.block b1 (Array.getElem?_eq_some_iff.1 h.c1).1 (by omega)).trans h.c1, h.c2.ch hc (by omega), (hc.block b4 (Array.getElem?_eq_some_iff.1 h.c4).1 (by omega)).trans h.c4, h.ch.then hc, h1, h2, h3, h4, h.o5⟩
theorem Bk.below {F : Nat → Prop} {w u u' : World} {g : Nat} {l : List Int} {s : Rst} {b1 b2 b4 : Nat} {id : Int} (h : Bk F w u g l s b1 b2 b4 id) (hb : Below u.heap.size u u') : Bk F w u' g l s b1 b2 b4 id := h.rd (h.rs.below hb) (Ch.of_below hb)
theorem Bk.drew {F : Nat → Prop} {w u : World} {g : Nat} {l : List Int} {s : Rst} {b1 b2 b4 : Nat} {id : Int} (h : Bk F w u g l s b1 b2 b4 id) : Bk F w u.drew g l s b1 b2 b4 id := h.below (Below.refl _ _).drew
theorem Bk.cells {F : Nat → Prop} {w u : World} {g : Nat} {l : List Int} {s : Rst} {b1 b2 b4 : Nat} {id : Int} (h : Bk F w u g l s b1 b2 b4 id) : u.cell? ⟨b1, 0, none⟩ = some (.pointer (some ⟨g, 0, none⟩)) ∧ u.cell? ⟨b4, 0, none⟩ = some (.int .i64 id) := ⟨cell_of_row u b1 0 _ _ (0, 0) h.c1, cell_of_row u b4 0 _ _ (0, 0) h.c4⟩
/-- What is built is handed back. -/
theorem Bk.made {F G : Nat → Prop} {w u : World} {g : Nat} {l : List Int} {s : Rst} {b1 b2 b4 : Nat} {id : Int} (h : Bk F w u g l s b1 b2 b4 id) {cs : Array Value} {b : Lb} (hv : BV G u cs b) (hG : ∀ k, k < u.heap.size → G k → w.heap.size ≤ k ∧ k ≠ b2) (hid : b.id = id) :
    BlkE F w g l s id (.returned (.agg cs)) (u.setRow b2 cs) ∧ BIn (u.setRow b2 cs) b2 cs := by
  have h1 := h.o1
  have h2 := h.o2
  have h3 := h.o3
  obtain ⟨k1, k2⟩ := h.c2.put hv.size
  have hw : BV (fun k => w.heap.size ≤ k ∧ k ≠ b2) u cs b := hv.weak hG
  refine ⟨⟨cs, b, rfl, hid, (hw.ch k2 fun k hk => hk.2).weak fun k _ hk => hk.1, h.rs.ch k2 (by omega) (fun i hi => by have := h.o5 i hi; omega), h.ch.trans k2 fun i hi => Or.inr (by omega)⟩, k1⟩
theorem Bk.new {F : Nat → Prop} {w : World} {g : Nat} {l : List Int} {s : Rst} (h : RS F w g l s) (hF : ∀ i, F i → i < w.heap.size) {u : World} {s' : Rst} {id : Int} (hr : RS F u g l s') (hc : Ch (fun k => k = g) ((w.alloc (.cells #[.pointer (some ⟨g, 0, none⟩)] 64)).alloc (.cells blkZ 30)) u) :
    Bk F w (u.alloc (.cells #[.int .i64 id] 3)) g l s' w.heap.size (w.heap.size + 1) u.heap.size id := by
  have hg := h.lt
  have hsz := hc.size
  simp at hsz
  have b0 := bnew w (.cells #[.pointer (some ⟨g, 0, none⟩)] 64)
  have b1 := bnew (w.alloc (.cells #[.pointer (some ⟨g, 0, none⟩)] 64)) (.cells blkZ 30)
  have bu := bnew u (.cells #[.int .i64 id] 3)
  have s1 : (w.alloc (.cells #[.pointer (some ⟨g, 0, none⟩)] 64)).heap.size = w.heap.size + 1 := by simp
  refine ⟨hr.below bu, ?_, ⟨?_, rfl⟩, heap_alloc_new u _, ?_, hg, Nat.le_refl _, by omega, by omega, hF⟩
  · exact (bu.block _ (by omega)).trans ((hc.block _ (by simp; omega) (by omega)).trans ((b1.block _ (by simp)).trans (heap_alloc_new w _)))
  · refine (bu.block _ (by omega)).trans ((hc.block _ (by simp) (by omega)).trans ?_)
    rw [← s1]
    exact heap_alloc_new _ _
  · exact (((Ch.of_below b0).less (b1.mono (by simp))).then hc).less (bu.mono (by omega))
theorem bv_of {F : Nat → Prop} {w : World} {l : List (Nat × Value)} {id : Int} (h1 : (bcs l).all (·.oneCell') = true) (h0 : (bcs l)[0]? = some (.int .i64 id)) (h3 : (bcs l)[13]? = some (.slice none 0 0)) (h4 : (bcs l)[14]? = some (.slice none 0 0)) : BV F w (bcs l) ⟨id, [], []⟩ :=
  ⟨bcs_size l, h1, h0, ⟨none, 0, 0, h3, IAt.empty _ _⟩, none, 0, 0, h4, ItAt.empty _ _⟩
theorem bv_ts {F : Nat → Prop} {w : World} {l : List (Nat × Value)} {id : Int} {A : Option Addr} {n c : Nat} {ts : List Int} (ht : IAt F w A n c ts) (h1 : (bcs l).all (·.oneCell') = true) (h0 : (bcs l)[0]? = some (.int .i64 id)) (h3 : (bcs l)[13]? = some (.slice A n c)) (h4 : (bcs l)[14]? = some (.slice none 0 0)) : BV F w (bcs l) ⟨id, ts, []⟩ :=
  ⟨bcs_size l, h1, h0, ⟨A, n, c, h3, ht⟩, none, 0, 0, h4, ItAt.empty _ _⟩
theorem bv_ns {F : Nat → Prop} {w : World} {l : List (Nat × Value)} {id : Int} {A : Option Addr} {n c : Nat} {ns : List Int} (ht : ItAt F w A n c ns) (h1 : (bcs l).all (·.oneCell') = true) (h0 : (bcs l)[0]? = some (.int .i64 id)) (h3 : (bcs l)[13]? = some (.slice none 0 0)) (h4 : (bcs l)[14]? = some (.slice A n c)) : BV F w (bcs l) ⟨id, [], ns⟩ :=
  ⟨bcs_size l, h1, h0, ⟨none, 0, 0, h3, IAt.empty _ _⟩, A, n, c, h4, ht⟩
theorem numV_one {l : List Int} {s : Rst} (h0 : s.e = 0) (h : s.p < l.length) : numV l s 1 = gI l s.p := by
  unfold numV
  rw [takB_yes h0 (by omega)]
  have e := take_gI (l.drop s.p) 0 (by rw [List.length_drop]; omega)
  rw [List.take_zero, List.nil_append, gI_drop, Nat.add_zero] at e
  have e2 : List.take 1 (l.drop s.p) = [gI l s.p] := e
  rw [e2]
  simp [leV]

end Go.Proofs.Ythlaglhlmbkniaa
/- tzx.block: blocks that have an ID alone. -/
namespace Go.Proofs.Ythlaglhlmbkniaa
open Go.RowKit
set_option linter.unusedVariables false
set_option linter.unusedSimpArgs false
set_option maxRecDepth 100000
attribute [local simp ↓ high] blkLoad_as blkStore_as blkAlloc_as blkBuild_as

set_option maxHeartbeats 3200000 in
theorem block_0 (F : Nat → Prop) (w : World) (g : Nat) (l : List Int) (s : Rst) (h : RS F w g l s) (hF : ∀ i, F i → i < w.heap.size) (hl : l.length ≤ 1000000) (id : Int) (hid : numV l s 1 = id) (hi : id = 34 ∨ id = 37 ∨ id = 39) :
    Calls Try.prog 38 #[.pointer (some ⟨g, 0, none⟩)] w (BlkE F w g l (takS l s 1) id) := by
  have hal := run_blkAlloc
  have h0 : RS F ((w.alloc (.cells #[.pointer (some ⟨g, 0, none⟩)] 64)).alloc (.cells blkZ 30)) g l s := (h.below (bnew w _)).below (bnew _ _)
  have HA := Lib.hid (at_s F _ g l s (Lib.hid h0))
  have HN := Lib.hid (num_any F _ g l s (Lib.hid h0) hl 1 1 rfl (by decide) (by decide))
  rw [hid] at HN
  have HB := Lib.hid (fun u (hr : RS F u g l (takS l s 1)) hc => Bk.new (id := id) h hF hr hc)
  have hbd : ∀ u, (blkBuild #[(0, .int .i64 id)]).run Try.prog u = .ok (.agg (bcs [(0, .int .i64 id)])) u := fun u => run_build u _ _ _ (show Try.prog.built 30 [(0, .int .i64 id)] = some (bcs [(0, .int .i64 id)]) by kernel_rfl)
  have HV : Hid (∀ u, BV (fun _ => False) u (bcs [(0, .int .i64 id)]) ⟨id, [], []⟩) := Lib.hid fun u => bv_of (by kernel_rfl) (by kernel_rfl) (by kernel_rfl) (by kernel_rfl)
  clear h hF h0 hid
  rcases hi with rfl | rfl | rfl
  all_goals
    go_enter Try.func38, Try.ntmps38
    go_wp2_with fail
    refine HA.out.mono ?_
    rintro x w1 ⟨rfl, rfl⟩
    go_wp2_with fail
    refine HN.out.mono ?_
    rintro x w2 ⟨rfl, hr2, hc2⟩
    have HK := Lib.hid (HB.out w2 hr2 hc2)
    obtain ⟨c1, c4⟩ := HK.out.cells
    have hst := run_blkStore HK.out.c2 (HV.out w2).size (HV.out w2).one
    have HE := Lib.hid (HK.out.made (HV.out _) (fun k _ hk => hk.elim) rfl)
    clear hr2 hc2
    go_wp2_with fail
    exact bodyPost_ret (results_blk rfl _ HE.out.2 rfl) rfl HE.out.1

end Go.Proofs.Ythlaglhlmbkniaa
/- Bits of bytes, and how many of them tell one of n. No program is named here. -/
namespace Go.Proofs.Ythlaglhlmbkniaa
open Go.RowKit
set_option linter.unusedVariables false

/-- The fewest bits that tell one of n. -/
def LeastIs (n : Int) (b : Nat) : Prop := n ≤ 2 ^ b ∧ ∀ c : Nat, c < b → (2 : Int) ^ c < n
theorem LeastIs.one {n : Int} {b b' : Nat} (h : LeastIs n b) (h' : LeastIs n b') : b = b' := by
  rcases Nat.lt_trichotomy b b' with x | x | x
  · have := h'.2 b x; have := h.1; omega
  · exact x
  · have := h.2 b' x; have := h'.1; omega
theorem bitLen_is : ∀ (k x : Nat), x < k → x < 2 ^ 64 → x < 2 ^ Lib.bitLen x ∧ ∀ c, c < Lib.bitLen x → 2 ^ c ≤ x
  | 0, x, h, _ => absurd h (by omega)
  | k + 1, x, h, hx => by
    by_cases h0 : x = 0
    · subst h0
      have e : Lib.bitLen 0 = 0 := by decide +kernel
      rw [e]
      exact ⟨by decide, fun c hc => absurd hc (by omega)⟩
    · obtain ⟨h1, h2⟩ := bitLen_is k (x / 2) (by omega) (by omega)
      rw [Lib.bitLen_half x h0 hx]
      refine ⟨?_, fun c hc => ?_⟩
      · rw [Nat.add_comm, Nat.pow_succ]; omega
      · rcases c with _ | c
        · simp; omega
        · have := h2 c (by omega)
          rw [Nat.pow_succ]; omega
theorem least_bitLen (n : Int) (h2 : 2 ≤ n) (h : n ≤ 1000000) : LeastIs n (Lib.bitLen (n - 1).toNat) := by
  obtain ⟨m, hm⟩ : ∃ m : Nat, n - 1 = m := ⟨(n - 1).toNat, by omega⟩
  rw [hm, Int.toNat_natCast]
  obtain ⟨h3, h4⟩ := bitLen_is (m + 1) m (by omega) (by omega)
  refine ⟨?_, fun c hc => ?_⟩
  · have h5 : ((m : Nat) : Int) < ((2 ^ Lib.bitLen m : Nat) : Int) := Int.ofNat_lt.2 h3
    rw [Int.natCast_pow] at h5
    have e : ((2 : Nat) : Int) = 2 := rfl
    rw [e] at h5
    omega
  · have h5 : ((2 ^ c : Nat) : Int) ≤ (m : Int) := Int.ofNat_le.2 (h4 c hc)
    rw [Int.natCast_pow] at h5
    have e : ((2 : Nat) : Int) = 2 := rfl
    rw [e] at h5
    omega
theorem bitLen_few (n : Int) (h2 : 2 ≤ n) (h : n ≤ 1000000) : Lib.bitLen (n - 1).toNat ≤ 20 := Lib.bitLen_le _ 20 (by decide) (by omega)
theorem least_small (n : Int) (h : n < 2) : LeastIs n 0 := ⟨by simp; omega, fun c hc => absurd hc (by omega)⟩

/-! Symbols. -/
def gN (l : List Int) (j : Nat) : Nat := (gI l j).toNat
theorem gN_int {l : List Int} (h : Byte8 l) (j : Nat) : gI l j = (gN l j : Int) := by have := h j; unfold gN; omega
theorem gN_lt {l : List Int} (h : Byte8 l) (j : Nat) : gN l j < 256 := by have := h j; unfold gN; omega
/-- Two bytes from place p on. -/
def symT (l : List Int) (p : Nat) : Nat := gN l p * 256 + gN l (p + 1)
/-- Symbol i of n bits. -/
def symF (l : List Int) (n i : Nat) : Nat := symT l (i * n / 8) / 2 ^ (16 - i * n % 8 - n) % 2 ^ n
/-- Is it wholly there? -/
def symOk (l : List Int) (n i : Int) : Prop := 0 ≤ n ∧ n ≤ 8 ∧ 0 ≤ i ∧ (n = 0 ∨ (i + 1) * n ≤ 8 * l.length)
theorem symF_zero (l : List Int) (i : Nat) : symF l 0 i = 0 := by unfold symF; rw [Nat.pow_zero, Nat.mod_one]
theorem bit_low {a b m : Nat} (hb : b < 256) : (a * 256 + b) / 2 ^ (8 + m) = a / 2 ^ m := by
  rw [Nat.pow_add, ← Nat.div_div_eq_div_mul]
  congr 1
  show (a * 256 + b) / 256 = a
  omega
end Go.Proofs.Ythlaglhlmbkniaa
/- What each block makes of a reader's state. No program is named here. -/
namespace Go.Proofs.Ythlaglhlmbkniaa
open Go.RowKit
set_option linter.unusedVariables false

/-- A length of n bytes, and as many bytes. -/
def dataS (l : List Int) (s : Rst) (n : Nat) : Rst := takS l (takS l s n) (numV l s n).toNat
open Classical in
/-- Four bytes that may be no other number. -/
noncomputable def onlyS (l : List Int) (s : Rst) (n : Int) : Rst := if numV l s 4 = n then takS l s 4 else failS (takS l s 4) 4 s.p
/-- So many things, up to a fault. -/
def listS (one : Rst → Rst) : Nat → Rst → Rst
  | 0, s => s
  | k + 1, s => if s.e = 0 then listS one k (one s) else s
def itemS (l : List Int) (one : Rst → Rst) (s : Rst) : Rst := dataS l (one s) 1
def itemsS (l : List Int) (one : Rst → Rst) (s : Rst) : Rst := listS (itemS l one) (numV l s 1).toNat (takS l s 1)
/-- A length, and what follows, that is as long: else the fault is at begin. -/
def measS' (l : List Int) (rest : Rst → Rst) (begin : Nat) (s : Rst) (n : Nat) : Rst :=
  if ((rest (takS l s n)).p : Int) - (takS l s n).p = numV l s n then rest (takS l s n) else failS (rest (takS l s n)) 4 begin
def symbS (l : List Int) (long : Nat) (s : Rst) : Rst := takS l (takS l s 1) (2 * long)
def alphS (l : List Int) (many long : Nat) (s : Rst) : Rst := listS (symbS l long) many s
def repS (l : List Int) (many : Int) (s : Rst) : Rst := takS l (if many ≤ numV l s 1 then failS (takS l s 1) 5 s.p else takS l s 1) 2
/-- Are so many symbols of n bits all below that number? -/
def belowP (b : List Int) (count : Nat) (many : Int) (n : Nat) : Prop := many = 2 ^ n ∨ ∀ i : Nat, i < count → ∀ v : Int, (symOk b n i → v = symF b n i) → (¬ symOk b n i → v = 0) → v < many
open Classical in
noncomputable def streamS (l : List Int) (s : Rst) (count : Nat) (many : Int) (n : Nat) : Rst :=
  if (takS l s ((count * n + 7) / 8)).e = 0 ∧ ¬ belowP (takB l s ((count * n + 7) / 8)) count many n then failS (takS l s ((count * n + 7) / 8)) 5 s.p else takS l s ((count * n + 7) / 8)
def gluL : List Int := [88, 84, 97, 112, 101, 33, 26]
def glueS (l : List Int) (s : Rst) : Rst := if (takB l s 9).length < 7 ∨ (takB l s 9).take 7 ≠ gluL then failS (takS l s 9) 3 s.p else takS l s 9
noncomputable def levelS (l : List Int) (s : Rst) : Rst := if 1 < numV l (onlyS l s 1) 1 then failS (takS l (onlyS l s 1) 1) 4 (onlyS l s 1).p else takS l (onlyS l s 1) 1
def turboS (l : List Int) (s : Rst) : Rst := dataS l (takS l (takS l (takS l (takS l (takS l (takS l (takS l (takS l s 2) 2) 2) 2) 2) 2) 1) 2) 3
/-- Behind the Count of a packed block. -/
def packT (l : List Int) (s : Rst) : Rst := takS l (takS l (takS l (takS l (takS l s 4) 2) 3) 1) 4
def packedS (l : List Int) (begin : Nat) (s : Rst) : Rst := takS l (if numV l s 4 < 10 then failS (packT l s) 4 begin else packT l s) (numV l s 4 - 10).toNat
def manyV (n : Int) : Int := if n = 0 then 256 else n
theorem manyV_bd {n : Int} (h0 : 0 ≤ n) (h1 : n < 256) : 1 ≤ manyV n ∧ manyV n ≤ 256 := by unfold manyV; split <;> omega
open Classical in
noncomputable def leastN (n : Int) : Nat := if h : ∃ b, LeastIs n b then h.choose else 0
theorem leastN_is {n : Int} {b : Nat} (h : LeastIs n b) : leastN n = b := by
  unfold leastN
  rw [dif_pos ⟨b, h⟩]
  exact LeastIs.one (Exists.choose_spec ⟨b, h⟩) h
/-- A generalised block behind its length: the numbers first. -/
structure Gen where
  reps : Int
  pilot : Int
  sync : Int
  count : Int
  zero : Int
  one : Int
def genT (l : List Int) (s : Rst) : Rst := takS l (takS l (takS l (takS l (takS l (takS l (takS l s 2) 4) 1) 1) 4) 1) 1
def genV (l : List Int) (s : Rst) : Gen :=
  ⟨numV l (takS l s 2) 4, numV l (takS l (takS l s 2) 4) 1, numV l (takS l (takS l (takS l s 2) 4) 1) 1, numV l (takS l (takS l (takS l (takS l s 2) 4) 1) 1) 4, numV l (takS l (takS l (takS l (takS l (takS l s 2) 4) 1) 1) 4) 1, numV l (takS l (takS l (takS l (takS l (takS l (takS l s 2) 4) 1) 1) 4) 1) 1⟩
def genA (l : List Int) (v : Gen) (s : Rst) : Rst := if 0 < v.reps then listS (repS l (manyV v.sync)) v.reps.toNat (alphS l (manyV v.sync).toNat v.pilot.toNat s) else s
noncomputable def genB (l : List Int) (v : Gen) (s : Rst) : Rst := if 0 < v.count then streamS l (alphS l (manyV v.one).toNat v.zero.toNat s) v.count.toNat (manyV v.one) (leastN (manyV v.one)) else s
noncomputable def generalS (l : List Int) (s : Rst) : Rst := genB l (genV l s) (genA l (genV l s) (genT l s))
/-- Block by its ID, behind it; it begins at begin. -/
noncomputable def kindS (l : List Int) (begin : Nat) (id : Int) (s : Rst) : Rst :=
  if id = 16 then dataS l (takS l s 2) 2
  else if id = 17 then turboS l s
  else if id = 18 then takS l (takS l s 2) 2
  else if id = 19 then takS l (takS l s 1) (2 * (numV l s 1).toNat)
  else if id = 20 then dataS l (takS l (takS l (takS l (takS l s 2) 2) 1) 2) 3
  else if id = 21 then dataS l (takS l (takS l (takS l s 2) 2) 1) 3
  else if id = 24 then packedS l begin s
  else if id = 25 then measS' l (generalS l) begin s 4
  else if id = 32 then takS l s 2
  else if id = 33 ∨ id = 48 then dataS l s 1
  else if id = 34 ∨ id = 37 ∨ id = 39 then s
  else if id = 35 then takS l s 2
  else if id = 36 then takS l s 2
  else if id = 38 then listS (fun t => takS l t 2) (numV l s 2).toNat (takS l s 2)
  else if id = 40 then measS' l (itemsS l fun t => takS l t 2) begin s 2
  else if id = 42 then onlyS l s 0
  else if id = 43 then levelS l s
  else if id = 49 then dataS l (takS l s 1) 1
  else if id = 50 then measS' l (itemsS l fun t => takS l t 1) begin s 2
  else if id = 51 then takS l (takS l s 1) (1 * (3 * (numV l s 1).toNat))
  else if id = 52 then takS l s 8
  else if id = 53 then dataS l (takS l s 16) 4
  else if id = 90 then glueS l s
  else dataS l s 4
noncomputable def blockS (l : List Int) (s : Rst) : Rst := kindS l s.p (numV l s 1) (takS l s 1)

end Go.Proofs.Ythlaglhlmbkniaa
/- Bytes as a text. -/
namespace Go.Proofs.Ythlaglhlmbkniaa
open Go.RowKit
set_option maxRecDepth 100000
set_option linter.unusedVariables false
set_option linter.unusedSimpArgs false

theorem conv_of {F : Nat → Prop} {w : World} {A : Option Addr} {n cap : Nat} {l : List Int} (h : BAt8 F w A n cap l) : (convert 25 9 (.slice A n cap)).run Try.prog w = .ok (.string (strOfNums l)) w := by
  rcases A with _ | a
  · have hc := h.nil rfl
    have hf := h.fit
    have hn : n = 0 := by omega
    obtain rfl : l = [] := List.eq_nil_of_length_eq_zero (by rw [h.len]; exact hn)
    exact run_convert_bytes_nil (P := Try.prog) w 25 5 Try.underlying25 Try.underlying5 n cap _ Try.underlying9
  · by_cases hn : n = 0
    · subst hn
      obtain rfl : l = [] := List.eq_nil_of_length_eq_zero h.len
      rw [run_convert_bytes_string w _ _ 5 (some a) 0 cap Try.underlying25 Try.underlying5 Try.underlying9, run_bytesToString w a 0 cap [] (by
        have := run_loadCells_list (P := Try.prog) w a [] (fun j v hj => by simp at hj)
        simpa using this)]
      rfl
    · obtain ⟨b, o, e, _, _, hc⟩ := h.lies (by omega)
      injection e with e
      subst e
      exact run_convert_bytes_arg (P := Try.prog) w 25 5 Try.underlying25 Try.underlying5 b o n cap l h.len (fun i hi => hc i hi) _ Try.underlying9

end Go.Proofs.Ythlaglhlmbkniaa
/- bytes.Equal, bytes.HasPrefix: their contracts. -/
namespace Go.Proofs.Ythlaglhlmbkniaa
open Go.RowKit
set_option linter.unusedVariables false
set_option linter.unusedSimpArgs false
set_option maxRecDepth 100000

theorem u8_one {x y : Int} (hx : 0 ≤ x ∧ x ≤ 255) (hy : 0 ≤ y ∧ y ≤ 255) (h : UInt8.ofNat x.toNat = UInt8.ofNat y.toNat) : x = y := by
  have := congrArg UInt8.toNat h
  rw [UInt8.toNat_ofNat', UInt8.toNat_ofNat'] at this
  omega
theorem nums_one : ∀ (a b : List Int), Byte8 a → Byte8 b → (a.map fun n => UInt8.ofNat n.toNat) = (b.map fun n => UInt8.ofNat n.toNat) → a = b
  | [], [], _, _, _ => rfl
  | [], y :: b, _, _, h => by simp at h
  | x :: a, [], _, _, h => by simp at h
  | x :: a, y :: b, ha, hb, h => by
    rw [List.map_cons, List.map_cons] at h
    injection h with h1 h2
    have e1 : x = y := u8_one (ha 0) (hb 0) h1
    rw [e1, nums_one a b (fun j => ha (j + 1)) (fun j => hb (j + 1)) h2]
theorem str_one {a b : List Int} (ha : Byte8 a) (hb : Byte8 b) (h : strOfNums a = strOfNums b) : a = b := by
  unfold strOfNums at h
  injection h with h
  exact nums_one a b ha hb (by simpa using h)
theorem equal_any (F G : Nat → Prop) (w : World) (A B : Option Addr) (n c m d : Nat) (a b : List Int) (ha : BAt8 F w A n c a) (hb : BAt8 G w B m d b) (q : Bool) (hq : q = true ↔ a = b) :
    Calls Try.prog 31 #[.slice A n c, .slice B m d] w fun x w' => x = .returned (.bool q) ∧ w = w' := by
  have q1 := conv_of ha
  have q2 := conv_of hb
  obtain ⟨T, hT⟩ : ∃ T, strOfNums a = T := ⟨_, rfl⟩
  obtain ⟨U, hU⟩ : ∃ U, strOfNums b = U := ⟨_, rfl⟩
  have hd : (T.toList == U.toList) = q := by
    cases q with
    | true =>
      have e := hq.1 rfl
      subst e
      exact str_eq (hT.symm.trans hU)
    | false =>
      refine str_ne fun e => ?_
      have := hq.2 (str_one ha.bd hb.bd (by rw [hT, hU, e]))
      cases this
  rw [hT] at q1
  rw [hU] at q2
  clear hT hU hq ha hb
  go_enter Try.func31, Try.ntmps31
  go_wp2_with fail
  go_ret
  exact ⟨rfl, rfl⟩
theorem prefix_any (F G : Nat → Prop) (w : World) (A B : Option Addr) (n c m d : Nat) (a b : List Int) (ha : BAt8 F w A n c a) (hb : BAt8 G w B m d b) (q : Bool) (hq : q = true ↔ a.take m = b) :
    Calls Try.prog 23 #[.slice A n c, .slice B m d] w fun x w' => x = .returned (.bool q) ∧ w = w' := by
  by_cases h : m ≤ n
  · obtain ⟨A', c', hcut, hB⟩ := cut_h ha (m : Nat) m rfl h
    have HE := Lib.hid (equal_any F G w A' B m c' m d _ b hB hb q hq)
    have d1 : decide ((m : Int) ≤ (n : Int)) = true := decide_eq_true (by omega)
    have d2 : decide (m ≤ n) = true := decide_eq_true h
    clear ha hb hB hq h
    go_enter Try.func23, Try.ntmps23
    go_wp2_with fail
    refine HE.out.mono ?_
    rintro x w' ⟨rfl, rfl⟩
    go_wp2_with fail
    go_ret
    exact ⟨rfl, rfl⟩
  · have hqf : q = false := by
      cases q with
      | false => rfl
      | true =>
        have e := congrArg List.length (hq.1 rfl)
        rw [List.length_take, ha.len, hb.len] at e
        omega
    subst hqf
    have d1 : decide ((m : Int) ≤ (n : Int)) = false := decide_eq_false (by omega)
    have d2 : decide (m ≤ n) = false := decide_eq_false h
    clear ha hb hq h
    go_enter Try.func23, Try.ntmps23
    go_wp2_with fail
    go_ret
    exact ⟨rfl, rfl⟩

end Go.Proofs.Ythlaglhlmbkniaa
/- tzx.data, only, turboBlock, packedBlock, levelBlock, glueBlock: their contracts. -/
namespace Go.Proofs.Ythlaglhlmbkniaa
open Go.RowKit
set_option linter.unusedVariables false
set_option linter.unusedSimpArgs false
set_option maxRecDepth 100000
attribute [local simp ↓ high] blkLoad_as blkStore_as blkAlloc_as blkBuild_as

/-- Bytes, whichever, are answered; the reader's block alone changed. -/
def GotA (F : Nat → Prop) (w : World) (g : Nat) (l : List Int) (s : Rst) (x : Ending) (w' : World) : Prop := ∃ A n c, x = .returned (.slice A n c) ∧ RS F w' g l s ∧ Ch (fun k => k = g) w w'
theorem GotB.any {F : Nat → Prop} {b : List Int} {w : World} {g : Nat} {l : List Int} {s : Rst} {x : Ending} {w' : World} (h : GotB F b w g l s x w') : GotA F w g l s x w' := by
  obtain ⟨A, n, c, h1, _, h2, h3⟩ := h
  exact ⟨A, n, c, h1, h2, h3⟩
set_option maxHeartbeats 800000 in
theorem data_any (F : Nat → Prop) (w : World) (g : Nat) (l : List Int) (s : Rst) (h : Hid (RS F w g l s)) (hl : l.length ≤ 1000000) (h8 : Hid (Byte8 l)) (n : Int) (m : Nat) (hm : n = m) (h1 : 1 ≤ m) (h4 : m ≤ 4) :
    Calls Try.prog 43 #[.pointer (some ⟨g, 0, none⟩), .int .i64 n] w (GotA F w g l (dataS l s m)) := by
  subst hm
  have HN := Lib.hid (num_any F w g l s h hl (m : Nat) m rfl h1 h4)
  have hv := (numV_bd h8.out s m).1
  have HT := Lib.hid (fun u hr => take_any F u g l (takS l s m) hr hl (numV l s m) (Or.inr hv))
  obtain ⟨V, hV⟩ : ∃ V, numV l s m = V := ⟨_, rfl⟩
  have e : dataS l s m = takS l (takS l s m) V.toNat := by unfold dataS; rw [hV]
  rw [hV] at HN HT
  rw [e]
  clear h hV hv e
  go_enter Try.func43, Try.ntmps43
  go_wp2_with fail
  refine HN.out.mono ?_
  rintro x w1 ⟨rfl, hr, hc⟩
  have HC := Lib.hid hc
  have HR := Lib.hid hr
  clear hr hc HN
  go_wp2_with fail
  refine (HT.out w1 HR).mono ?_
  rintro x w2 ⟨A, k, c, rfl, _, hr, hc⟩
  have HE : Hid (GotA F w g l (takS l (takS l s m) V.toNat) (.returned (.slice A k c)) w2) := Lib.hid ⟨A, k, c, rfl, hr, HC.out.then hc⟩
  clear hr hc
  go_wp2_with fail
  go_ret
  exact HE.out
set_option maxHeartbeats 800000 in
theorem only_any (F : Nat → Prop) (w : World) (g : Nat) (l : List Int) (s : Rst) (h : Hid (RS F w g l s)) (hl : l.length ≤ 1000000) (n : Int) :
    Calls Try.prog 54 #[.pointer (some ⟨g, 0, none⟩), .int .i64 n] w (Got F (.tuple #[]) w g l (onlyS l s n)) := by
  have HA := Lib.hid (at_s F w g l s h)
  have HN := Lib.hid (num_any F w g l s h hl 4 4 rfl (by decide) (by decide))
  have HF := Lib.hid (fun u hr => fail_any F u g l (takS l s 4) hr 4 (s.p : Nat) (by decide))
  obtain ⟨V, hV⟩ : ∃ V, numV l s 4 = V := ⟨_, rfl⟩
  rw [hV] at HN
  by_cases e : V = n
  · have d : (V != n) = false := by rw [e]; simp
    have HO : Hid (onlyS l s n = takS l s 4) := Lib.hid (by unfold onlyS; rw [hV, if_pos e])
    clear h hV e
    go_enter Try.func54, Try.ntmps54
    go_wp2_with fail
    refine (HA.out).mono ?_
    rintro e w' ⟨rfl, rfl⟩
    go_wp2_with fail
    refine HN.out.mono ?_
    rintro x w1 ⟨rfl, hr, hc⟩
    have HE : Hid (Got F (.tuple #[]) w g l (onlyS l s n) (.returned (.tuple #[])) w1) := Lib.hid ⟨rfl, by rw [HO.out]; exact hr, hc⟩
    clear hr hc
    go_wp2_with fail
    go_end0
    exact HE.out
  · have d : (V != n) = true := by rw [bne_iff_ne]; exact e
    have HO : Hid (onlyS l s n = failS (takS l s 4) 4 s.p) := Lib.hid (by unfold onlyS; rw [hV, if_neg e])
    clear h hV e
    go_enter Try.func54, Try.ntmps54
    go_wp2_with fail
    refine (HA.out).mono ?_
    rintro e w' ⟨rfl, rfl⟩
    go_wp2_with fail
    refine HN.out.mono ?_
    rintro x w1 ⟨rfl, hr, hc⟩
    have HR := Lib.hid hr
    have HC := Lib.hid hc
    clear hr hc HN
    go_wp2_with fail
    refine (HF.out w1 HR).mono ?_
    rintro x w2 ⟨rfl, hr, hc⟩
    have HE : Hid (Got F (.tuple #[]) w g l (onlyS l s n) (.returned (.tuple #[])) w2) := Lib.hid ⟨rfl, by rw [HO.out]; exact hr, HC.out.then hc⟩
    clear hr hc
    go_wp2_with fail
    go_end0
    exact HE.out

end Go.Proofs.Ythlaglhlmbkniaa
/- tzx.turboBlock, packedBlock, levelBlock, glueBlock: their contracts. -/
namespace Go.Proofs.Ythlaglhlmbkniaa
open Go.RowKit
set_option linter.unusedVariables false
set_option linter.unusedSimpArgs false
set_option maxRecDepth 100000

/-- The result's place is made. -/
structure R0 (F : Nat → Prop) (w u : World) (g : Nat) (l : List Int) (s : Rst) (b2 : Nat) : Prop where
  rs : RS F u g l s
  c2 : BIn u b2 blkZ
  ch : Ch (fun k => k = g) w u
  o1 : g < w.heap.size
  o2 : w.heap.size ≤ b2
  o5 : ∀ i, F i → i < w.heap.size
theorem R0.rd {F : Nat → Prop} {w u u' : World} {g : Nat} {l : List Int} {s s' : Rst} {b2 : Nat} (h : R0 F w u g l s b2) (hr : RS F u' g l s') (hc : Ch (fun k => k = g) u u') : R0 F w u' g l s' b2 := by
  have h1 := h.o1
  have h2 := h.o2
  exact ⟨hr, h.c2.ch hc (by omega), h.ch.then hc, h1, h2, h.o5⟩
theorem R0.new {F : Nat → Prop} {w : World} {g : Nat} {l : List Int} {s : Rst} (h : RS F w g l s) (hF : ∀ i, F i → i < w.heap.size) : R0 F w (w.alloc (.cells blkZ 30)) g l s w.heap.size := ⟨h.below (bnew w _), BIn.new w rfl, Ch.of_below (bnew w _), h.lt, Nat.le_refl _, hF⟩
theorem R0.made {F : Nat → Prop} {w u : World} {g : Nat} {l : List Int} {s : Rst} {b2 : Nat} (h : R0 F w u g l s b2) {cs : Array Value} {b : Lb} (hv : BV (fun _ => False) u cs b) : BlkE F w g l s b.id (.returned (.agg cs)) (u.setRow b2 cs) ∧ BIn (u.setRow b2 cs) b2 cs := by
  have h1 := h.o1
  have h2 := h.o2
  obtain ⟨k1, k2⟩ := h.c2.put hv.size
  exact ⟨⟨cs, b, rfl, rfl, (hv.ch k2 fun k hk => hk.elim).weak fun k _ hk => hk.elim, h.rs.ch k2 (by omega) (fun i hi => by have := h.o5 i hi; omega), h.ch.trans k2 fun i hi => Or.inr (by omega)⟩, k1⟩
/-- A variable holds a block, besides. -/
structure Rk (F : Nat → Prop) (w u : World) (g : Nat) (l : List Int) (s : Rst) (b2 b3 : Nat) (cs : Array Value) : Prop where
  r0 : R0 F w u g l s b2
  c3 : BIn u b3 cs
  o3 : b2 < b3
theorem Rk.rd {F : Nat → Prop} {w u u' : World} {g : Nat} {l : List Int} {s s' : Rst} {b2 b3 : Nat} {cs : Array Value} (h : Rk F w u g l s b2 b3 cs) (hr : RS F u' g l s') (hc : Ch (fun k => k = g) u u') : Rk F w u' g l s' b2 b3 cs := by
  have h1 := h.r0.o1
  have h2 := h.r0.o2
  have h3 := h.o3
  exact ⟨h.r0.rd hr hc, h.c3.ch hc (by omega), h3⟩
theorem Rk.below {F : Nat → Prop} {w u u' : World} {g : Nat} {l : List Int} {s : Rst} {b2 b3 : Nat} {cs : Array Value} (h : Rk F w u g l s b2 b3 cs) (hb : Below u.heap.size u u') : Rk F w u' g l s b2 b3 cs := h.rd (h.r0.rs.below hb) (Ch.of_below hb)
theorem R0.var {F : Nat → Prop} {w u : World} {g : Nat} {l : List Int} {s : Rst} {b2 : Nat} (h : R0 F w u g l s b2) {cs : Array Value} (hs : cs.size = 18) : Rk F w ((u.alloc (.cells blkZ 30)).setRow u.heap.size cs) g l s b2 u.heap.size cs := by
  have hb1 := BIn.new u (cs := blkZ) rfl
  obtain ⟨hb2, hc2⟩ := hb1.put (cs := cs) hs
  have hb : Below u.heap.size u ((u.alloc (.cells blkZ 30)).setRow u.heap.size cs) := (bnew u _).trans (hc2.below (fun k hk => by rw [hk]; exact Nat.le_refl _) (by simp))
  exact ⟨h.rd (h.rs.below hb) (Ch.of_below hb), hb2, h.c2.lt⟩
theorem Rk.put {F : Nat → Prop} {w u : World} {g : Nat} {l : List Int} {s : Rst} {b2 b3 : Nat} {cs : Array Value} (h : Rk F w u g l s b2 b3 cs) (i : Nat) (v : Value) : Rk F w (u.setCell ⟨b3, i, none⟩ v) g l s b2 b3 (cs.setIfInBounds i v) := by
  have h1 := h.r0.o1
  have h2 := h.r0.o2
  have h3 := h.o3
  have hC := Ch.set (F := fun k => k = b3) u b3 i v rfl
  refine ⟨⟨h.r0.rs.ch hC (by omega) (fun j hj => by have := h.r0.o5 j hj; omega), h.r0.c2.ch hC (by omega), h.r0.ch.trans hC fun j hj => Or.inr (by omega), h1, h2, h.r0.o5⟩, h.c3.set i v, h3⟩
attribute [local simp ↓ high] blkLoad_as blkStore_as blkAlloc_as blkBuild_as
set_option maxHeartbeats 3200000 in
theorem turbo_any (F : Nat → Prop) (w : World) (g : Nat) (l : List Int) (s : Rst) (h : Hid (RS F w g l s)) (hF : Hid (∀ i, F i → i < w.heap.size)) (hl : l.length ≤ 1000000) (h8 : Hid (Byte8 l)) :
    Calls Try.prog 44 #[.pointer (some ⟨g, 0, none⟩)] w (BlkE F w g l (turboS l s) 17) := by
  have hal := run_blkAlloc
  have HN := Lib.hid (fun u t (hr : Hid (RS F u g l t)) => num_any F u g l t hr hl 2 2 rfl (by decide) (by decide))
  have HM := Lib.hid (fun u t (hr : Hid (RS F u g l t)) => num_any F u g l t hr hl 1 1 rfl (by decide) (by decide))
  have HD := Lib.hid (fun u t (hr : Hid (RS F u g l t)) => data_any F u g l t hr hl h8 3 3 rfl (by decide) (by decide))
  have H0 := Lib.hid (R0.new h.out hF.out)
  have hbd : ∀ (x0 x1 x2 x3 x4 x5 x6 x7 : Int) (A : Option Addr) (n c : Nat) u, (blkBuild #[(0, .int .i64 17), (2, .int .i64 x0), (3, .int .i64 x1), (4, .int .i64 x2), (5, .int .i64 x3), (6, .int .i64 x4), (8, .int .i64 x5), (9, .int .i64 x6), (1, .int .i64 x7), (12, .slice A n c)]).run Try.prog u = .ok (.agg (bcs [(0, .int .i64 17), (2, .int .i64 x0), (3, .int .i64 x1), (4, .int .i64 x2), (5, .int .i64 x3), (6, .int .i64 x4), (8, .int .i64 x5), (9, .int .i64 x6), (1, .int .i64 x7), (12, .slice A n c)])) u := fun x0 x1 x2 x3 x4 x5 x6 x7 A n c u => run_build u _ _ _ (show Try.prog.built 30 [(0, .int .i64 17), (2, .int .i64 x0), (3, .int .i64 x1), (4, .int .i64 x2), (5, .int .i64 x3), (6, .int .i64 x4), (8, .int .i64 x5), (9, .int .i64 x6), (1, .int .i64 x7), (12, .slice A n c)] = some _ by kernel_rfl)
  have HV : Hid (∀ (x0 x1 x2 x3 x4 x5 x6 x7 : Int) (A : Option Addr) (n c : Nat) u, BV (fun _ => False) u (bcs [(0, .int .i64 17), (2, .int .i64 x0), (3, .int .i64 x1), (4, .int .i64 x2), (5, .int .i64 x3), (6, .int .i64 x4), (8, .int .i64 x5), (9, .int .i64 x6), (1, .int .i64 x7), (12, .slice A n c)]) ⟨17, [], []⟩) := Lib.hid fun x0 x1 x2 x3 x4 x5 x6 x7 A n c u => bv_of (by kernel_rfl) (by kernel_rfl) (by kernel_rfl) (by kernel_rfl)
  obtain ⟨b2, hb2⟩ : ∃ b2, w.heap.size = b2 := ⟨_, rfl⟩
  rw [hb2] at H0
  clear h hF
  go_enter Try.func44, Try.ntmps44
  go_wp2_with fail
  clear hb2
  refine (HN.out _ _ (Lib.hid H0.out.rs)).mono ?_
  rintro x u0 ⟨rfl, hr, hc⟩
  have H1 := Lib.hid (H0.out.rd hr hc)
  clear hr hc
  generalize numV l _ _ = x0
  go_wp2_with fail
  refine (HN.out _ _ (Lib.hid H1.out.rs)).mono ?_
  rintro x u1 ⟨rfl, hr, hc⟩
  have H2 := Lib.hid (H1.out.rd hr hc)
  clear hr hc
  generalize numV l _ _ = x1
  go_wp2_with fail
  refine (HN.out _ _ (Lib.hid H2.out.rs)).mono ?_
  rintro x u2 ⟨rfl, hr, hc⟩
  have H3 := Lib.hid (H2.out.rd hr hc)
  clear hr hc
  generalize numV l _ _ = x2
  go_wp2_with fail
  refine (HN.out _ _ (Lib.hid H3.out.rs)).mono ?_
  rintro x u3 ⟨rfl, hr, hc⟩
  have H4 := Lib.hid (H3.out.rd hr hc)
  clear hr hc
  generalize numV l _ _ = x3
  go_wp2_with fail
  refine (HN.out _ _ (Lib.hid H4.out.rs)).mono ?_
  rintro x u4 ⟨rfl, hr, hc⟩
  have H5 := Lib.hid (H4.out.rd hr hc)
  clear hr hc
  generalize numV l _ _ = x4
  go_wp2_with fail
  refine (HN.out _ _ (Lib.hid H5.out.rs)).mono ?_
  rintro x u5 ⟨rfl, hr, hc⟩
  have H6 := Lib.hid (H5.out.rd hr hc)
  clear hr hc
  generalize numV l _ _ = x5
  go_wp2_with fail
  refine (HM.out _ _ (Lib.hid H6.out.rs)).mono ?_
  rintro x u6 ⟨rfl, hr, hc⟩
  have H7 := Lib.hid (H6.out.rd hr hc)
  clear hr hc
  generalize numV l _ _ = x6
  go_wp2_with fail
  refine (HN.out _ _ (Lib.hid H7.out.rs)).mono ?_
  rintro x u7 ⟨rfl, hr, hc⟩
  have H8 := Lib.hid (H7.out.rd hr hc)
  clear hr hc
  generalize numV l _ _ = x7
  go_wp2_with fail
  refine (HD.out _ _ (Lib.hid H8.out.rs)).mono ?_
  rintro x u8 ⟨A, n, c, rfl, hr, hc⟩
  have H9 := Lib.hid (H8.out.rd hr hc)
  clear hr hc
  have hst := run_blkStore H9.out.c2 (HV.out x0 x1 x2 x3 x4 x5 x6 x7 A n c w).size (HV.out x0 x1 x2 x3 x4 x5 x6 x7 A n c w).one
  have HE : Hid (BlkE F w g l (turboS l s) 17 (.returned (.agg _)) _ ∧ BIn _ b2 _) := Lib.hid (H9.out.made (HV.out x0 x1 x2 x3 x4 x5 x6 x7 A n c _))
  go_wp2_with fail
  exact bodyPost_ret (results_blk rfl _ HE.out.2 rfl) rfl HE.out.1

end Go.Proofs.Ythlaglhlmbkniaa
