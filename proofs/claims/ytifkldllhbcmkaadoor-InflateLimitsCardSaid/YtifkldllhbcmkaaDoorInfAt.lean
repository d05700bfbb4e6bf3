/- The unpacker in memory, and what a call on it may have changed. -/
import Derived.Test.YtifkldllhbcmkaaDoorInfMath
import Derived.Test.YtifkldllhbcmkaaDoorHuffTakeN
namespace Go.Proofs.YtifkldllhbcmkaaDoor
open Go.RowKit
set_option linter.unusedVariables false

/-- An unpacker's block and its bits' block; where it began; the bytes, the limit. -/
structure Cx where
  B : Nat
  gb : Nat
  gu : Nat
  bs : List Int
  lim : Nat
  b1 : B ≤ gb
  b2 : gb < gu
  hbs : bs.length ≤ 1000000
  hlim : lim ≤ 1048576
/-- What out's block, ob, and the unpacker's own two may not be: a region of tables. -/
def Offs (c : Cx) (w : World) (ob : Option Nat) (G : Nat → Prop) : Prop := ∀ k, G k → k ≠ c.gu ∧ k ≠ c.gb ∧ ob ≠ some k ∧ k < w.heap.size ∧ c.B ≤ k
def TabIn (c : Cx) (w : World) (ob : Option Nat) (g : Nat) (l : List Int) : Prop := ∃ G, TabAt G w g l ∧ Offs c w ob G
/-- What a call may have changed. -/
structure Mv (c : Cx) (w : World) (ob : Option Nat) (w' : World) (ob' : Option Nat) : Prop where
  ch : Ch (fun k => k = c.gu ∨ k = c.gb ∨ ob = some k) w w'
  ob : ∀ k, ob' = some k → ob = some k ∨ w.heap.size ≤ k
theorem Mv.refl (c : Cx) (w : World) (ob : Option Nat) : Mv c w ob w ob := ⟨Ch.refl _ _, fun _ h => Or.inl h⟩
theorem Mv.then {c : Cx} {w w1 w2 : World} {ob ob1 ob2 : Option Nat} (h : Mv c w ob w1 ob1) (k : Mv c w1 ob1 w2 ob2) : Mv c w ob w2 ob2 :=
  ⟨h.ch.trans k.ch fun i hi => by
    rcases hi with x | x | x
    · exact Or.inl (Or.inl x)
    · exact Or.inl (Or.inr (Or.inl x))
    · rcases h.ob i x with y | y
      · exact Or.inl (Or.inr (Or.inr y))
      · exact Or.inr y, fun i hi => by
    rcases k.ob i hi with x | x
    · exact h.ob i x
    · exact Or.inr (Nat.le_trans h.ch.size x)⟩
theorem Mv.bits {c : Cx} {w w' : World} {ob : Option Nat} (h : Ch (fun k => k = c.gb) w w') : Mv c w ob w' ob := ⟨h.weak fun i hi => Or.inr (Or.inl hi), fun _ h => Or.inl h⟩
theorem Mv.new {c : Cx} {w w' : World} {ob : Option Nat} (h : Below w.heap.size w w') : Mv c w ob w' ob := ⟨Ch.of_below h, fun _ h => Or.inl h⟩
theorem Offs.mv {c : Cx} {w w' : World} {ob ob' : Option Nat} {G : Nat → Prop} (h : Offs c w ob G) (m : Mv c w ob w' ob') : Offs c w' ob' G := fun k hk => by
  obtain ⟨h1, h2, h3, h4, h5⟩ := h k hk
  refine ⟨h1, h2, fun e => ?_, Nat.lt_of_lt_of_le h4 m.ch.size, h5⟩
  rcases m.ob k e with x | x
  · exact h3 x
  · omega
theorem Offs.off {c : Cx} {w : World} {ob : Option Nat} {G : Nat → Prop} (h : Offs c w ob G) (k : Nat) (hk : G k) : ¬ (k = c.gu ∨ k = c.gb ∨ ob = some k) := by
  obtain ⟨h1, h2, h3, _⟩ := h k hk
  rintro (x | x | x)
  · exact h1 x
  · exact h2 x
  · exact h3 x
theorem TabIn.mv {c : Cx} {w w' : World} {ob ob' : Option Nat} {g : Nat} {l : List Int} (h : TabIn c w ob g l) (m : Mv c w ob w' ob') : TabIn c w' ob' g l := by
  obtain ⟨G, h1, h2⟩ := h
  exact ⟨G, h1.ch m.ch fun k hk => h2.off k hk, h2.mv m⟩
/-- A table that was just made. -/
theorem TabIn.new {c : Cx} {w w' : World} {ob : Option Nat} {g : Nat} {l : List Int} (h : TabAt (fun k => w.heap.size ≤ k) w' g l) (hu : c.gu < w.heap.size) (ho : ∀ k, ob = some k → k < w.heap.size) : TabIn c w' ob g l :=
  ⟨fun k => w.heap.size ≤ k ∧ k < w'.heap.size, h.weak fun k hk h1 => ⟨h1, hk⟩, fun k hk => ⟨by omega, by have := c.b2; omega, fun e => by have := ho k e; omega, hk.2, by have := c.b1; have := c.b2; omega⟩⟩
/-- The codes of Kind 1 that are kept. -/
def FxAt (c : Cx) (w : World) (ob : Option Nat) (fs fd : Option Addr) : Prop := (fs = none ∧ fd = none) ∨ ∃ gs gd, fs = some ⟨gs, 0, none⟩ ∧ fd = some ⟨gd, 0, none⟩ ∧ TabIn c w ob gs fixS ∧ TabIn c w ob gd fixD
theorem FxAt.mv {c : Cx} {w w' : World} {ob ob' : Option Nat} {fs fd : Option Addr} (h : FxAt c w ob fs fd) (m : Mv c w ob w' ob') : FxAt c w' ob' fs fd := by
  rcases h with h | ⟨gs, gd, h1, h2, h3, h4⟩
  · exact Or.inl h
  · exact Or.inr ⟨gs, gd, h1, h2, h3.mv m, h4.mv m⟩
def uC (c : Cx) (v : Value) (fs fd : Option Addr) : Array Value := #[.pointer (some ⟨c.gb, 0, none⟩), v, .int .i64 (c.lim : Nat), .pointer fs, .pointer fd]
/-- The unpacker: its position, what came out; ob is out's block. -/
structure UAt (c : Cx) (w : World) (ob : Option Nat) (p : Nat) (o : List Int) : Prop where
  is : ∃ v fs fd, w.heap[c.gu]? = some (.cells (uC c v fs fd) 37 (0, 0)) ∧ v.ownBlock = ob ∧ w.ownsRow (c.gu + 1) 5 1 v o.length (o.map u8I) ∧ FxAt c w ob fs fd
  bits : BitsAt (fun k => c.B ≤ k ∧ k < c.gb) w c.gb c.bs p
  by8 : Byte8 o
  lim : o.length ≤ c.lim
theorem UAt.gu {c : Cx} {w : World} {ob : Option Nat} {p : Nat} {o : List Int} (h : UAt c w ob p o) : c.gu < w.heap.size := by
  obtain ⟨v, fs, fd, h1, _⟩ := h.is
  exact (Array.getElem?_eq_some_iff.1 h1).1
theorem UAt.fit {c : Cx} {w : World} {ob : Option Nat} {p : Nat} {o : List Int} (h : UAt c w ob p o) : p ≤ 8 * c.bs.length := h.bits.fit
theorem UAt.ob {c : Cx} {w : World} {ob : Option Nat} {p : Nat} {o : List Int} (h : UAt c w ob p o) (k : Nat) (hk : ob = some k) : c.gu < k ∧ k < w.heap.size := by
  obtain ⟨v, fs, fd, _, h2, h3, _⟩ := h.is
  rcases h3.2 with ⟨rfl, _⟩ | ⟨g, cap, cur, rfl, hb', hgg, _⟩
  · rw [← h2] at hk; simp [Value.ownBlock] at hk
  · rw [← h2] at hk
    simp only [Value.ownBlock, Option.some.injEq] at hk
    subst hk
    exact ⟨by omega, (Array.getElem?_eq_some_iff.1 hgg).1⟩
/-- A row of a call's own, where its block is as it was. -/
theorem own_kept' {w w' : World} {base : Nat} {e : TypeId} {size : Nat} {v : Value} {n : Nat} {xs : List Value} (h : w.ownsRow base e size v n xs) (hg : ∀ k, k < w.heap.size → v.ownBlock = some k → w'.heap[k]? = w.heap[k]?) : w'.ownsRow base e size v n xs := by
  refine ⟨h.1, ?_⟩
  rcases h.2 with hn | ⟨g, cap, cur, rfl, hb', hgg, rest⟩
  · exact .inl hn
  · exact .inr ⟨g, cap, cur, rfl, hb', (hg g (Array.getElem?_eq_some_iff.1 hgg).1 rfl).trans hgg, rest⟩
/-- The bits' position has changed alone. -/
theorem UAt.bitsMv {c : Cx} {w w' : World} {ob : Option Nat} {p q : Nat} {o : List Int} (h : UAt c w ob p o) (hb : BitsAt (fun k => c.B ≤ k ∧ k < c.gb) w' c.gb c.bs q) (hc : Ch (fun k => k = c.gb) w w') : UAt c w' ob q o := by
  have hg := h.gu
  have ho := h.ob
  obtain ⟨⟨v, fs, fd, h1, h2, h3, h4⟩, _, h6, h7⟩ := h
  have b2 := c.b2
  exact ⟨⟨v, fs, fd, (hc.block _ hg (by omega)).trans h1, h2, own_kept' h3 fun k hk hv => hc.block k hk (by have := ho k (by rw [← h2]; exact hv); omega), h4.mv (Mv.bits hc)⟩, hb, h6, h7⟩
/-- New blocks alone. -/
theorem UAt.below {c : Cx} {w w' : World} {ob : Option Nat} {p : Nat} {o : List Int} (h : UAt c w ob p o) (hb : Below w.heap.size w w') : UAt c w' ob p o :=
  h.bitsMv (h.bits.below hb) (Ch.of_below hb)
theorem Mv.below {c : Cx} {w w' : World} {ob ob' : Option Nat} (m : Mv c w ob w' ob') (hu : c.gu < w.heap.size) (ho : ∀ k, ob = some k → c.gu < k) : Below c.B w w' :=
  m.ch.below (fun k hk => by
    have := c.b1
    have := c.b2
    rcases hk with x | x | x
    · omega
    · omega
    · have := ho k x; omega) (by have := c.b1; have := c.b2; omega)
theorem UAt.mvBelow {c : Cx} {w w' : World} {ob ob' : Option Nat} {p : Nat} {o : List Int} (h : UAt c w ob p o) (m : Mv c w ob w' ob') : Below c.B w w' := m.below h.gu fun k hk => (h.ob k hk).1
theorem UAt.newBelow {c : Cx} {w w' : World} {ob : Option Nat} {p : Nat} {o : List Int} (h : UAt c w ob p o) (hb : Below w.heap.size w w') : Below c.B w w' := hb.mono (by have := h.gu; have := c.b1; have := c.b2; omega)
/-- Cells of the unpacker. -/
theorem UAt.cells {c : Cx} {w : World} {ob : Option Nat} {p : Nat} {o : List Int} (h : UAt c w ob p o) : ∃ v fs fd, w.cell? ⟨c.gu, 0, none⟩ = some (.pointer (some ⟨c.gb, 0, none⟩)) ∧ w.cell? ⟨c.gu, 1, none⟩ = some v ∧ w.cell? ⟨c.gu, 2, none⟩ = some (.int .i64 (c.lim : Nat)) ∧ w.cell? ⟨c.gu, 3, none⟩ = some (.pointer fs) ∧ w.cell? ⟨c.gu, 4, none⟩ = some (.pointer fd)
    ∧ v.ownBlock = ob ∧ w.ownsRow (c.gu + 1) 5 1 v o.length (o.map u8I) ∧ FxAt c w ob fs fd := by
  obtain ⟨v, fs, fd, h1, h2, h3, h4⟩ := h.is
  exact ⟨v, fs, fd, cell_of_row w c.gu 0 _ _ (0, 0) h1, cell_of_row w c.gu 1 _ _ (0, 0) h1, cell_of_row w c.gu 2 _ _ (0, 0) h1, cell_of_row w c.gu 3 _ _ (0, 0) h1, cell_of_row w c.gu 4 _ _ (0, 0) h1, h2, h3, h4⟩
theorem UAt.frozen {c : Cx} {w : World} {ob : Option Nat} {p : Nat} {o : List Int} (h : UAt c w ob p o) (j : Nat) : w.frozen? ⟨c.gu, j, none⟩ = false := by
  obtain ⟨v, fs, fd, h1, h2, h3, h4⟩ := h.is
  exact frozen_of_row w c.gu j _ _ h1
/-- A number, or an error. -/
def GaveI (c : Cx) (w : World) (ob : Option Nat) (o : List Int) (R : Rs Nat) (e : Ending) (w' : World) : Prop :=
  (∃ v q, R = .ok (v, q) ∧ e = .returned (.tuple #[.int .i64 (v : Nat), .int .i64 0]) ∧ UAt c w' ob q o ∧ Mv c w ob w' ob) ∨ (∃ x, R = .error x ∧ (x = 2 ∨ x = 4 ∨ x = 8) ∧ e = .returned (.tuple #[.int .i64 0, .int .i64 (x : Nat)]) ∧ Below c.B w w')
/-- What came out, or an error. -/
def GaveO (c : Cx) (w : World) (ob : Option Nat) (R : Rs (List Int)) (e : Ending) (w' : World) : Prop :=
  (∃ o q ob', R = .ok (o, q) ∧ e = .returned (.int .i64 0) ∧ UAt c w' ob' q o ∧ Mv c w ob w' ob') ∨ (∃ x, R = .error x ∧ (x = 2 ∨ x = 4 ∨ x = 8) ∧ e = .returned (.int .i64 (x : Nat)) ∧ Below c.B w w')

end Go.Proofs.YtifkldllhbcmkaaDoor
