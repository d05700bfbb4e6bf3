/- A board as plain facts: its state, and what each call makes of it. -/
import Derived.Test.YtkcfacbnbjkheaaDoorKeysMath
import Derived.Test.YtkcfacbnbjkheaaDoorBUla
namespace Go.Proofs.YtkcfacbnbjkheaaDoor
open Go.RowKit

/-- Something that went over the port. -/
structure Ac where
  t : Int
  out : Bool
  port : Int
  v : Int
/-- How a board stands. -/
structure St where
  M : Nat → Int
  S : Nat → Bool
  slow : Bool
  ear : Bool
  log : Bool
  t : Int
  frame : Int
  border : Int
  mic : Bool
  spk : Bool
  pic : Nat → Int
  acts : List Ac
  edges : List Int
def updN (f : Nat → Int) (i : Nat) (v : Int) : Nat → Int := fun j => if j = i then v else f j
theorem updN_same (f : Nat → Int) (i : Nat) (v : Int) : updN f i v i = v := if_pos rfl
theorem updN_other (f : Nat → Int) (i j : Nat) (v : Int) (h : j ≠ i) : updN f i v j = f j := if_neg h
/-- What is fetched at a frame's time: whether, of which address, to which place. -/
def fetOn (f : Int) : Bool := fetB (f - 14338)
def fetA (f : Int) : Nat := (adrV (f - 14338)).toNat
def fetP (f : Int) : Nat := (plcV (f - 14338)).toNat
theorem fet_bd {n : Int} (h : fetB n = true) : 16384 ≤ adrV n ∧ adrV n < 23296 ∧ 0 ≤ plcV n ∧ plcV n < 12288 := by
  obtain ⟨h0, h1, h2, h3⟩ := fetB_of h
  unfold adrV plcV fetC colV pixV
  split <;> omega
theorem fetA_is {f : Int} (h : fetOn f = true) : adrV (f - 14338) = (fetA f : Int) ∧ 16384 ≤ fetA f ∧ fetA f < 23296 := by
  obtain ⟨h0, h1, _⟩ := fet_bd h
  unfold fetA
  omega
theorem fetP_is {f : Int} (h : fetOn f = true) : plcV (f - 14338) = (fetP f : Int) ∧ fetP f < 12288 := by
  obtain ⟨_, _, h0, h1⟩ := fet_bd h
  unfold fetP
  omega
theorem frame_in {f : Int} (h0 : 0 ≤ f) (h1 : f < 69888) : frameV f = f := by unfold frameV; omega

/-- The byte that is on the bus. -/
def floatV (s : St) : Int := if fetOn s.frame = true then s.M (fetA s.frame) else 255
def writeS (s : St) (a : Nat) (v : Int) : St := if a < 16384 then s else { s with M := updN s.M a v }
/-- What comes in at an even port. -/
def inV (s : St) (p : Int) : Int := readF s.S (p / 256) + 160 + if s.ear then 64 else 0
def logS (s : St) (out : Bool) (p v : Int) : St := if s.log then { s with acts := s.acts ++ [⟨s.t, out, p, v⟩] } else s
def inS (s : St) (p : Int) : St := if p % 2 = 0 then logS s false p (inV s p) else s
def inR (s : St) (p : Int) : Int := if p % 2 = 0 then inV s p else floatV s
def paintS (s : St) (v : Int) : St := { s with border := v % 8 }
def micS (s : St) (m : Bool) : St := if m = s.mic then s else { s with mic := m, edges := s.edges ++ [s.t] }
def spkS (s : St) (m : Bool) : St := { s with spk := m }
def outS (s : St) (p v : Int) : St := if p % 2 = 0 then logS (spkS (micS (paintS s v) (v / 8 % 2 == 1)) (v / 16 % 2 == 1)) true p v else s
def nextS (s : St) : St := { s with pic := if fetOn s.frame = true then updN s.pic (fetP s.frame) (s.M (fetA s.frame)) else s.pic, t := s.t + 1, frame := frameV (s.frame + 1) }
/-- A board of a ROM of n bytes, of more behind it, at a time of the frame. -/
def newS (r m : Nat → Int) (k : Nat) (f : Int) : St :=
  { M := fun i => if i < 16384 then r i else if i - 16384 < k then m (i - 16384) else 0, S := fun _ => false, slow := false, ear := false, log := false, t := 0, frame := f, border := 0, mic := false, spk := false, pic := fun _ => 0, acts := [], edges := [] }

/-! Cells. -/
def upd (C : Nat → Value) (j : Nat) (v : Value) : Nat → Value := fun i => if i = j then v else C i
theorem upd_same (C : Nat → Value) (j : Nat) (v : Value) : upd C j v j = v := if_pos rfl
/-- A block of n cells, those of C. -/
def Cells (w : World) (b : Nat) (ty : TypeId) (n : Nat) (C : Nat → Value) : Prop := ∃ A : Array Value, w.heap[b]? = some (.cells A ty (0, 0)) ∧ A.size = n ∧ ∀ j, j < n → A[j]? = some (C j)
theorem Cells.lt {w : World} {b : Nat} {ty : TypeId} {n : Nat} {C : Nat → Value} (h : Cells w b ty n C) : b < w.heap.size := by
  obtain ⟨A, h, _⟩ := h
  exact (Array.getElem?_eq_some_iff.1 h).1
theorem Cells.cell {w : World} {b : Nat} {ty : TypeId} {n : Nat} {C : Nat → Value} (h : Cells w b ty n C) (j : Nat) (hj : j < n) : w.cell? ⟨b, j, none⟩ = some (C j) := by
  obtain ⟨A, h1, h2, h3⟩ := h
  rw [cell_of_row w b j _ _ (0, 0) h1, h3 j hj]
theorem Cells.frozen {w : World} {b : Nat} {ty : TypeId} {n : Nat} {C : Nat → Value} (h : Cells w b ty n C) (j : Nat) : w.frozen? ⟨b, j, none⟩ = false := by
  obtain ⟨A, h1, _⟩ := h
  exact frozen_of_row w b j _ _ h1
theorem Cells.block {w w' : World} {b : Nat} {ty : TypeId} {n : Nat} {C : Nat → Value} (h : Cells w b ty n C) (hb : w'.heap[b]? = w.heap[b]?) : Cells w' b ty n C := by
  obtain ⟨A, h1, h2⟩ := h
  exact ⟨A, hb.trans h1, h2⟩
theorem Cells.below {w w' : World} {b : Nat} {ty : TypeId} {n : Nat} {C : Nat → Value} (h : Cells w b ty n C) (hb : Below w.heap.size w w') : Cells w' b ty n C := h.block (hb.block b h.lt)
theorem Cells.set {w : World} {b : Nat} {ty : TypeId} {n : Nat} {C : Nat → Value} (h : Cells w b ty n C) (j : Nat) (v : Value) : Cells (w.setCell ⟨b, j, none⟩ v) b ty n (upd C j v) := by
  obtain ⟨A, h1, h2, h3⟩ := h
  refine ⟨A.setIfInBounds j v, heap_setCell_same w b j _ _ _ h1, by simpa using h2, fun i hi => ?_⟩
  unfold upd
  by_cases e : j = i
  · subst e
    rw [Array.getElem?_setIfInBounds_self_of_lt (by omega), if_pos rfl]
  · rw [Array.getElem?_setIfInBounds_ne e, if_neg (fun x => e x.symm), h3 i hi]
theorem Cells.congr {w : World} {b : Nat} {ty : TypeId} {n : Nat} {C D : Nat → Value} (h : Cells w b ty n C) (e : ∀ j, j < n → C j = D j) : Cells w b ty n D := by
  obtain ⟨A, h1, h2, h3⟩ := h
  exact ⟨A, h1, h2, fun j hj => by rw [h3 j hj, e j hj]⟩
theorem Cells.new (w : World) (A : Array Value) (ty : TypeId) (n : Nat) (C : Nat → Value) (h2 : A.size = n) (h3 : ∀ j, j < n → A[j]? = some (C j)) : Cells (w.alloc (.cells A ty)) w.heap.size ty n C :=
  ⟨A, heap_alloc_new w _, h2, h3⟩

end Go.Proofs.YtkcfacbnbjkheaaDoor
