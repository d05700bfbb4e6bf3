/- The registers as numbers, for layer 6: plain facts on their cells. No program is named here. -/
import Derived.Test.YteffjidbcdnbhaaDoorKit
import Derived.Deep.MidRow
import Derived.Laws.StructEq
import Derived.Laws.NewBlocks
namespace Go.Proofs.YteffjidbcdnbhaaDoor
open Go.RowKit

structure Rg where
  a : Int
  f : Int
  b : Int
  c : Int
  d : Int
  e : Int
  h : Int
  l : Int
  a2 : Int
  f2 : Int
  b2 : Int
  c2 : Int
  d2 : Int
  e2 : Int
  h2 : Int
  l2 : Int
  i : Int
  r : Int
  q : Int
  ix : Int
  iy : Int
  sp : Int
  pc : Int
  wz : Int
  iff1 : Bool
  iff2 : Bool
  halt : Bool
  hold : Bool
  im : Int
  pre : Int
def Rg.cells (x : Rg) : List Value := [.int .u8 x.a, .int .u8 x.f, .int .u8 x.b, .int .u8 x.c, .int .u8 x.d, .int .u8 x.e, .int .u8 x.h, .int .u8 x.l, .int .u8 x.a2, .int .u8 x.f2, .int .u8 x.b2, .int .u8 x.c2, .int .u8 x.d2, .int .u8 x.e2, .int .u8 x.h2, .int .u8 x.l2, .int .u8 x.i, .int .u8 x.r, .int .u8 x.q, .int .u16 x.ix, .int .u16 x.iy, .int .u16 x.sp, .int .u16 x.pc, .int .u16 x.wz, .bool x.iff1, .bool x.iff2, .bool x.halt, .bool x.hold, .int .u8 x.im, .int .u8 x.pre]
def B8 (n : Int) : Prop := 0 ≤ n ∧ n ≤ 255
def B16 (n : Int) : Prop := 0 ≤ n ∧ n ≤ 65535
structure Rg.Ok (x : Rg) : Prop where
  a : B8 x.a
  f : B8 x.f
  b : B8 x.b
  c : B8 x.c
  d : B8 x.d
  e : B8 x.e
  h : B8 x.h
  l : B8 x.l
  a2 : B8 x.a2
  f2 : B8 x.f2
  b2 : B8 x.b2
  c2 : B8 x.c2
  d2 : B8 x.d2
  e2 : B8 x.e2
  h2 : B8 x.h2
  l2 : B8 x.l2
  i : B8 x.i
  r : B8 x.r
  q : B8 x.q
  ix : B16 x.ix
  iy : B16 x.iy
  sp : B16 x.sp
  pc : B16 x.pc
  wz : B16 x.wz
  im : B8 x.im
  pre : B8 x.pre
theorem Rg.len (x : Rg) : x.cells.length = 30 := rfl
theorem Rg.one (x : Rg) : ∀ v ∈ x.cells, v.oneCell' = true := by
  intro v hv
  simp only [Rg.cells, List.mem_cons, List.not_mem_nil, or_false] at hv
  rcases hv with rfl | rfl | rfl | rfl | rfl | rfl | rfl | rfl | rfl | rfl | rfl | rfl | rfl | rfl | rfl | rfl | rfl | rfl | rfl | rfl | rfl | rfl | rfl | rfl | rfl | rfl | rfl | rfl | rfl | rfl
  all_goals rfl

/-- All registers at nought. -/
def Rg.zero : Rg := ⟨0, 0, 0, 0, 0, 0, 0, 0, 0, 0, 0, 0, 0, 0, 0, 0, 0, 0, 0, 0, 0, 0, 0, 0, false, false, false, false, 0, 0⟩

/-- Two cells held against each other. -/
def eqV : Value → Value → Bool
  | .int _ a, .int _ b => a == b
  | .bool a, .bool b => a == b
  | _, _ => false
def eqL : List Value → List Value → Bool
  | [], _ => true
  | _, [] => true
  | x :: xs, y :: ys => eqV x y && eqL xs ys
def eqR (x y : Rg) : Bool := eqL x.cells y.cells
theorem eqR_self (x : Rg) : eqR x x = true := by simp [eqR, Rg.cells, eqL, eqV]

/-- The registers x lie in block b, and may be written. -/
structure RegAt (w : World) (b : Nat) (x : Rg) : Prop where
  lt : b < w.heap.size
  at' : w.rangeAt b 0 x.cells
  free : ∀ j, w.frozen? ⟨b, j, none⟩ = false
theorem RegAt.cell {w : World} {b : Nat} {x : Rg} (h : RegAt w b x) (j : Nat) (v : Value) (hj : x.cells[j]? = some v) : w.cell? ⟨b, j, none⟩ = some v := by
  have := h.at' j v hj
  rwa [Nat.zero_add] at this
theorem RegAt.block {w w' : World} {b : Nat} {x : Rg} (h : RegAt w b x) (hb : w'.heap[b]? = w.heap[b]?) (hs : b < w'.heap.size) : RegAt w' b x :=
  ⟨hs, fun j v hj => (World.cell?_of_block (w := w) (a := ⟨b, 0 + j, none⟩) hb).trans (h.at' j v hj), fun j => (World.frozen?_of_block (w := w) (a := ⟨b, j, none⟩) hb).trans (h.free j)⟩
theorem RegAt.below {w w' : World} {b : Nat} {x : Rg} (h : RegAt w b x) (hb : Below w.heap.size w w') : RegAt w' b x :=
  h.block (hb.block b h.lt) (Nat.lt_of_lt_of_le h.lt hb.size)
theorem RegAt.drew {w : World} {b : Nat} {x : Rg} (h : RegAt w b x) : RegAt w.drew b x := h.block rfl h.lt

/-- Behind a call that writes into block b alone. -/
structure Wrote (b : Nat) (w w' : World) : Prop where
  os : w'.os = w.os
  tape : w'.tape = w.tape
  output : w'.output = w.output
  size : w'.heap.size = w.heap.size
  block : ∀ k, k ≠ b → w'.heap[k]? = w.heap[k]?
theorem Wrote.refl (b : Nat) (w : World) : Wrote b w w := ⟨rfl, rfl, rfl, rfl, fun _ _ => rfl⟩
theorem Wrote.trans {b : Nat} {w w1 w2 : World} (h : Wrote b w w1) (k : Wrote b w1 w2) : Wrote b w w2 :=
  ⟨k.os.trans h.os, k.tape.trans h.tape, k.output.trans h.output, k.size.trans h.size, fun i hi => (k.block i hi).trans (h.block i hi)⟩
theorem Wrote.setCell (b j : Nat) (w : World) (v : Value) : Wrote b w (w.setCell ⟨b, j, none⟩ v) :=
  ⟨rfl, rfl, rfl, by simp [World.setCell], fun _ h => Below.heap_setCell _ _ _ _ h⟩
theorem Wrote.drew {b : Nat} {w w' : World} (h : Wrote b w w') : Wrote b w w'.drew := ⟨h.os, h.tape, h.output, h.size, h.block⟩
theorem Wrote.below {b B : Nat} {w w' : World} (h : Wrote b w w') (hB : B ≤ b) : Below B w w' :=
  ⟨h.os, h.tape, h.output, Nat.le_of_eq h.size.symm, fun k hk => h.block k (by omega)⟩
theorem RegAt.wrote {w w' : World} {b c : Nat} {x : Rg} (h : RegAt w c x) (hw : Wrote b w w') (hn : c ≠ b) : RegAt w' c x :=
  h.block (hw.block c hn) (by rw [hw.size]; exact h.lt)

/-- One cell written: the registers that lie there then. -/
theorem RegAt.set {w : World} {b : Nat} {x y : Rg} (h : RegAt w b x) (j : Nat) (v : Value) (hj : j < 30) (hy : y.cells = x.cells.set j v) : RegAt (w.setCell ⟨b, j, none⟩ v) b y := by
  refine ⟨by simpa [World.setCell] using h.lt, fun i u hi => ?_, fun i => ?_⟩
  · rw [Nat.zero_add]
    rw [hy] at hi
    by_cases e : j = i
    · subst e
      have hl : j < x.cells.length := hj
      rw [List.getElem?_set_self hl] at hi
      injection hi with hi
      subst hi
      obtain ⟨v', hv'⟩ : ∃ v', w.cell? ⟨b, j, none⟩ = some v' := ⟨_, h.cell j _ (List.getElem?_eq_getElem hl)⟩
      exact World.cell?_setCell_same _ _ _ hv'
    · rw [List.getElem?_set_ne e] at hi
      rw [World.cell?_setCell_other _ _ _ _ (by intro hh; injection hh with _ h2; exact e h2)]
      exact h.cell i u hi
  · rw [World.frozen?_setCell]; exact h.free i

/-- A new block of all the registers' cells. -/
theorem RegAt.new (w : World) (x : Rg) (t : TypeId) : RegAt (w.alloc (.cells x.cells.toArray t)) w.heap.size x := by
  have hh : (w.alloc (.cells x.cells.toArray t)).heap[w.heap.size]? = some (.cells x.cells.toArray t) := heap_alloc_new _ _
  refine ⟨by simp, fun j v hj => ?_, fun j => ?_⟩
  · rw [Nat.zero_add]; simp only [World.cell?, hh]; simpa using hj
  · simp only [World.frozen?, hh]; simp

theorem Rg.all (x : Rg) : x.cells.toArray.all (·.oneCell') = true := all_oneCell_toArray x.one
theorem RegAt.there {w : World} {b : Nat} {x : Rg} (h : RegAt w b x) : w.there b 0 x.cells.toArray.size := fun j hj => by
  rw [Nat.zero_add]
  have hj' : j < x.cells.length := by simpa using hj
  exact ⟨by rw [h.cell j _ (List.getElem?_eq_getElem hj')]; rfl, h.free j⟩
theorem RegAt.there' {w : World} {b : Nat} {x : Rg} (h : RegAt w b x) (y : Rg) : w.there b 0 y.cells.toArray.size := h.there
theorem Wrote.setCells (b : Nat) : ∀ (vs : List Value) (o : Nat) (w : World), Wrote b w (w.setCells b o vs)
  | [], _, w => Wrote.refl b w
  | _ :: vs, o, _ => (Wrote.setCell b o _ _).trans (Wrote.setCells b vs (o + 1) _)
/-- All of a block's cells written. -/
theorem RegAt.fill {w : World} {b : Nat} {x : Rg} (h : RegAt w b x) (y : Rg) : RegAt (w.setCells b 0 y.cells) b y :=
  ⟨by rw [(Wrote.setCells b y.cells 0 w).size]; exact h.lt, World.rangeAt_setCells_same w b 0 y.cells h.there, fun j => by rw [World.frozen?_setCells]; exact h.free j⟩

end Go.Proofs.YteffjidbcdnbhaaDoor
