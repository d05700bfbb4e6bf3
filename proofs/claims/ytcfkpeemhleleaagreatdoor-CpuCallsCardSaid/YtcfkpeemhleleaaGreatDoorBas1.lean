/- Texts put together: Kit, RegMath, FlagMath, AluMath, WideMath, WideOf, RegSpot, RegByte, Quiet, RegPair, RegEx, StrL, HexMath, OpMath, OpCut, MicroMath, MicroRow, OpMem, MicroCalls, MicroA, MicroB, MicroC, BigCells, TurnMath, BulkMath, CpuMath. -/
import Derived.WalkKit
import Derived.WalkSpells
import Derived.OpenShut
import Derived.Deep.MidRow
import Derived.Laws.StructEq
import Derived.Laws.NewBlocks
import Derived.Laws.BitsLemmas
import Derived.Test.YtcfkpeemhleleaaGreatDoorChecked
import Derived.Lib.Hide
import Derived.Deep.QuietTactic
import Derived.BigQuiet
import Derived.RegionTactic
import Derived.ChangeAlike
import Derived.BigRegion
import Derived.Lib.ItoaNum
import Derived.Lib.AppendIntMem
import Derived.Laws.IdiomStrings
import Derived.Deep.RegionHeld3
import Derived.Deep.AppendLies
import Derived.Laws.CopyRow
/- Small general facts on worlds, rows that a call made and numbers of a byte: no program is named here. -/
namespace Go.Proofs.YtcfkpeemhleleaaGreatDoor
open Go.RowKit

theorem u8_bd {a : Int} (h : (Lit.int .u8 a).wf = true) : 0 ≤ a ∧ a ≤ 255 := by
  have := bounds_u8 h
  omega

theorem below_step {w w1 w2 : World} (h : Below w.heap.size w w1) (k : Below w1.heap.size w1 w2) : Below w.heap.size w w2 := h.trans (k.mono h.size)

/-- The slice v has the values xs, in a block of its own. -/
def RowAt (w : World) (v : Value) (xs : List Value) : Prop :=
  ∃ g cap, v = .slice (some ⟨g, 0, none⟩) xs.length cap ∧ g < w.heap.size ∧ xs.length ≤ cap ∧ cap ≤ maxLen ∧ ∀ i (h : i < xs.length), w.cell? ⟨g, i, none⟩ = some xs[i]

theorem RowAt.later {w w' : World} {v : Value} {xs : List Value} (h : RowAt w v xs) (hb : Below w.heap.size w w') : RowAt w' v xs := by
  obtain ⟨g, cap, hv, hg, hc, hm, hcell⟩ := h
  refine ⟨g, cap, hv, Nat.lt_of_lt_of_le hg hb.size, hc, hm, fun i hi => ?_⟩
  rw [hb.cell (p := ⟨g, i, none⟩) hg]; exact hcell i hi

/-- How the walk asks whether two texts are one. -/
theorem str_ne {a b : ByteArray} (h : ¬ a = b) : (a.toList == b.toList) = false := by
  rw [beq_eq_false_iff_ne, ByteArray.toList_eq, ByteArray.toList_eq]
  intro e
  exact h (ByteArray.ext (Array.toList_inj.1 e))
theorem str_eq {a b : ByteArray} (h : a = b) : (a.toList == b.toList) = true := by subst h; exact beq_self_eq_true _

end Go.Proofs.YtcfkpeemhleleaaGreatDoor
/- The registers as numbers, for layer 6: plain facts on their cells. No program is named here. -/
namespace Go.Proofs.YtcfkpeemhleleaaGreatDoor
open Go.RowKit

structure Rg where
  a : Int
  f : Int
  b : Int
  c : Int
  d : Int
  e : Int
  h : Int
  l : Int
  a2 : Int
  f2 : Int
  b2 : Int
  c2 : Int
  d2 : Int
  e2 : Int
  h2 : Int
  l2 : Int
  i : Int
  r : Int
  q : Int
  ix : Int
  iy : Int
  sp : Int
  pc : Int
  wz : Int
  iff1 : Bool
  iff2 : Bool
  halt : Bool
  hold : Bool
  im : Int
  pre : Int
def Rg.cells (x : Rg) : List Value := [.int .u8 x.a, .int .u8 x.f, .int .u8 x.b, .int .u8 x.c, .int .u8 x.d, .int .u8 x.e, .int .u8 x.h, .int .u8 x.l, .int .u8 x.a2, .int .u8 x.f2, .int .u8 x.b2, .int .u8 x.c2, .int .u8 x.d2, .int .u8 x.e2, .int .u8 x.h2, .int .u8 x.l2, .int .u8 x.i, .int .u8 x.r, .int .u8 x.q, .int .u16 x.ix, .int .u16 x.iy, .int .u16 x.sp, .int .u16 x.pc, .int .u16 x.wz, .bool x.iff1, .bool x.iff2, .bool x.halt, .bool x.hold, .int .u8 x.im, .int .u8 x.pre]
def B8 (n : Int) : Prop := 0 ≤ n ∧ n ≤ 255
def B16 (n : Int) : Prop := 0 ≤ n ∧ n ≤ 65535
structure Rg.Ok (x : Rg) : Prop where
  a : B8 x.a
  f : B8 x.f
  b : B8 x.b
  c : B8 x.c
  d : B8 x.d
  e : B8 x.e
  h : B8 x.h
  l : B8 x.l
  a2 : B8 x.a2
  f2 : B8 x.f2
  b2 : B8 x.b2
  c2 : B8 x.c2
  d2 : B8 x.d2
  e2 : B8 x.e2
  h2 : B8 x.h2
  l2 : B8 x.l2
  i : B8 x.i
  r : B8 x.r
  q : B8 x.q
  ix : B16 x.ix
  iy : B16 x.iy
  sp : B16 x.sp
  pc : B16 x.pc
  wz : B16 x.wz
  im : B8 x.im
  pre : B8 x.pre
theorem Rg.len (x : Rg) : x.cells.length = 30 := rfl
theorem Rg.one (x : Rg) : ∀ v ∈ x.cells, v.oneCell' = true := by
  intro v hv
  simp only [Rg.cells, List.mem_cons, List.not_mem_nil, or_false] at hv
  rcases hv with rfl | rfl | rfl | rfl | rfl | rfl | rfl | rfl | rfl | rfl | rfl | rfl | rfl | rfl | rfl | rfl | rfl | rfl | rfl | rfl | rfl | rfl | rfl | rfl | rfl | rfl | rfl | rfl | rfl | rfl
  all_goals rfl

/-- All registers at nought. -/
def Rg.zero : Rg := ⟨0, 0, 0, 0, 0, 0, 0, 0, 0, 0, 0, 0, 0, 0, 0, 0, 0, 0, 0, 0, 0, 0, 0, 0, false, false, false, false, 0, 0⟩

/-- Two cells held against each other. -/
def eqV : Value → Value → Bool
  | .int _ a, .int _ b => a == b
  | .bool a, .bool b => a == b
  | _, _ => false
def eqL : List Value → List Value → Bool
  | [], _ => true
  | _, [] => true
  | x :: xs, y :: ys => eqV x y && eqL xs ys
def eqR (x y : Rg) : Bool := eqL x.cells y.cells
theorem eqR_self (x : Rg) : eqR x x = true := by simp [eqR, Rg.cells, eqL, eqV]

/-- The registers x lie in block b, and may be written. -/
structure RegAt (w : World) (b : Nat) (x : Rg) : Prop where
  lt : b < w.heap.size
  at' : w.rangeAt b 0 x.cells
  free : ∀ j, w.frozen? ⟨b, j, none⟩ = false
theorem RegAt.cell {w : World} {b : Nat} {x : Rg} (h : RegAt w b x) (j : Nat) (v : Value) (hj : x.cells[j]? = some v) : w.cell? ⟨b, j, none⟩ = some v := by
  have := h.at' j v hj
  rwa [Nat.zero_add] at this
theorem RegAt.block {w w' : World} {b : Nat} {x : Rg} (h : RegAt w b x) (hb : w'.heap[b]? = w.heap[b]?) (hs : b < w'.heap.size) : RegAt w' b x :=
  ⟨hs, fun j v hj => (World.cell?_of_block (w := w) (a := ⟨b, 0 + j, none⟩) hb).trans (h.at' j v hj), fun j => (World.frozen?_of_block (w := w) (a := ⟨b, j, none⟩) hb).trans (h.free j)⟩
theorem RegAt.below {w w' : World} {b : Nat} {x : Rg} (h : RegAt w b x) (hb : Below w.heap.size w w') : RegAt w' b x :=
  h.block (hb.block b h.lt) (Nat.lt_of_lt_of_le h.lt hb.size)
theorem RegAt.drew {w : World} {b : Nat} {x : Rg} (h : RegAt w b x) : RegAt w.drew b x := h.block rfl h.lt

/-- Behind a call that writes into block b alone. -/
structure Wrote (b : Nat) (w w' : World) : Prop where
  os : w'.os = w.os
  tape : w'.tape = w.tape
  output : w'.output = w.output
  size : w'.heap.size = w.heap.size
  block : ∀ k, k ≠ b → w'.heap[k]? = w.heap[k]?
  far : ∀ j, 30 ≤ j → w'.cell? ⟨b, j, none⟩ = w.cell? ⟨b, j, none⟩
theorem Wrote.refl (b : Nat) (w : World) : Wrote b w w := ⟨rfl, rfl, rfl, rfl, fun _ _ => rfl, fun _ _ => rfl⟩
theorem Wrote.trans {b : Nat} {w w1 w2 : World} (h : Wrote b w w1) (k : Wrote b w1 w2) : Wrote b w w2 :=
  ⟨k.os.trans h.os, k.tape.trans h.tape, k.output.trans h.output, k.size.trans h.size, fun i hi => (k.block i hi).trans (h.block i hi), fun j hj => (k.far j hj).trans (h.far j hj)⟩
theorem Wrote.setCell (b j : Nat) (w : World) (v : Value) (hj : j < 30 := by first | decide | omega) : Wrote b w (w.setCell ⟨b, j, none⟩ v) :=
  ⟨rfl, rfl, rfl, by simp [World.setCell], fun _ h => Below.heap_setCell _ _ _ _ h, fun i hi => World.cell?_setCell_other _ _ _ _ (by intro hh; injection hh with _ h2; omega)⟩
theorem Wrote.drew {b : Nat} {w w' : World} (h : Wrote b w w') : Wrote b w w'.drew := ⟨h.os, h.tape, h.output, h.size, h.block, h.far⟩
theorem Wrote.below {b B : Nat} {w w' : World} (h : Wrote b w w') (hB : B ≤ b) : Below B w w' :=
  ⟨h.os, h.tape, h.output, Nat.le_of_eq h.size.symm, fun k hk => h.block k (by omega)⟩
/-- One cell written: the registers that lie there then. -/
theorem RegAt.set {w : World} {b : Nat} {x y : Rg} (h : RegAt w b x) (j : Nat) (v : Value) (hj : j < 30) (hy : y.cells = x.cells.set j v) : RegAt (w.setCell ⟨b, j, none⟩ v) b y := by
  refine ⟨by simpa [World.setCell] using h.lt, fun i u hi => ?_, fun i => ?_⟩
  · rw [Nat.zero_add]
    rw [hy] at hi
    by_cases e : j = i
    · subst e
      have hl : j < x.cells.length := hj
      rw [List.getElem?_set_self hl] at hi
      injection hi with hi
      subst hi
      obtain ⟨v', hv'⟩ : ∃ v', w.cell? ⟨b, j, none⟩ = some v' := ⟨_, h.cell j _ (List.getElem?_eq_getElem hl)⟩
      exact World.cell?_setCell_same _ _ _ hv'
    · rw [List.getElem?_set_ne e] at hi
      rw [World.cell?_setCell_other _ _ _ _ (by intro hh; injection hh with _ h2; exact e h2)]
      exact h.cell i u hi
  · rw [World.frozen?_setCell]; exact h.free i

/-- A new block of all the registers' cells. -/
theorem RegAt.new (w : World) (x : Rg) (t : TypeId) : RegAt (w.alloc (.cells x.cells.toArray t)) w.heap.size x := by
  have hh : (w.alloc (.cells x.cells.toArray t)).heap[w.heap.size]? = some (.cells x.cells.toArray t) := heap_alloc_new _ _
  refine ⟨by simp, fun j v hj => ?_, fun j => ?_⟩
  · rw [Nat.zero_add]; simp only [World.cell?, hh]; simpa using hj
  · simp only [World.frozen?, hh]; simp

theorem Rg.all (x : Rg) : x.cells.toArray.all (·.oneCell') = true := all_oneCell_toArray x.one
theorem RegAt.there {w : World} {b : Nat} {x : Rg} (h : RegAt w b x) : w.there b 0 x.cells.toArray.size := fun j hj => by
  rw [Nat.zero_add]
  have hj' : j < x.cells.length := by simpa using hj
  exact ⟨by rw [h.cell j _ (List.getElem?_eq_getElem hj')]; rfl, h.free j⟩
theorem Wrote.setCells (b : Nat) : ∀ (vs : List Value) (o : Nat) (w : World) (_ : o + vs.length ≤ 30 := by first | exact Nat.le_refl _ | omega), Wrote b w (w.setCells b o vs)
  | [], _, w, _ => Wrote.refl b w
  | _ :: vs, o, _, h => (Wrote.setCell b o _ _ (by simp only [List.length_cons] at h; omega)).trans (Wrote.setCells b vs (o + 1) _ (by simp only [List.length_cons] at h; omega))
/-- All of a block's cells written. -/
theorem RegAt.fill {w : World} {b : Nat} {x : Rg} (h : RegAt w b x) (y : Rg) : RegAt (w.setCells b 0 y.cells) b y :=
  ⟨by rw [(Wrote.setCells b y.cells 0 w).size]; exact h.lt, World.rangeAt_setCells_same w b 0 y.cells h.there, fun j => by rw [World.frozen?_setCells]; exact h.free j⟩

end Go.Proofs.YtcfkpeemhleleaaGreatDoor
/- Plain facts on bytes and their bits, for layer 1: no program is named here. -/
namespace Go.Proofs.YtcfkpeemhleleaaGreatDoor
open Go.RowKit

theorem fin256 {P : Int → Prop} (h : ∀ n : Fin 256, P (n.val : Int)) (b : Int) (h0 : 0 ≤ b) (h1 : b ≤ 255) : P b := by
  have hb := h ⟨b.toNat, by omega⟩
  have e : ((b.toNat : Nat) : Int) = b := Int.toNat_of_nonneg h0
  simp only [e] at hb
  exact hb

/-- Bit i of a byte, of which 0 is the highest. -/
def bitN (b : Int) (i : Nat) : Bool := b / 2 ^ (7 - i) % 2 == 1
def evenTo (b : Int) : Nat → Bool
  | 0 => true
  | k + 1 => if bitN b k then !evenTo b k else evenTo b k
def evenB (b : Int) : Bool := evenTo b 8
def byteStep (n : Int) (x : Bool) : Int := 2 * n + if x then 1 else 0
def byteOf (l : List Bool) : Int := l.foldl byteStep 0
def withB (f b : Int) (o : Bool) : Int := if o then bits .or .u8 f b else bits .andNot .u8 f b
def ofB (b : Int) : Int := withB (bits .and .u8 b 168) 64 (b == 0)
def ofPB (b : Int) : Int := withB (ofB b) 4 (evenB b)
def flagsOf (s z y h x p n c : Bool) : Int := byteOf [s, z, y, h, x, p, n, c]

theorem has_bit (b : Int) (h0 : 0 ≤ b) (h1 : b ≤ 255) (k : Nat) (hk : k < 8) : (bits .and .u8 b (128 / 2 ^ k) != 0) = bitN b k := by
  have h : ∀ n : Fin 256, ∀ k : Fin 8, (bits .and .u8 (n.val : Int) (128 / 2 ^ k.val) != 0) = bitN (n.val : Int) k.val := by decide +kernel
  exact fin256 (P := fun b => (bits .and .u8 b (128 / 2 ^ k) != 0) = bitN b k) (fun n => h n ⟨k, hk⟩) b h0 h1

theorem evenTo_succ (b : Int) (k : Nat) : evenTo b (k + 1) = if bitN b k then !evenTo b k else evenTo b k := rfl
/-- The document's conditions: which bit (0 the highest) the condition k asks for. -/
def condAt : Nat → Nat
  | 0 => 1 | 1 => 1 | 2 => 7 | 3 => 7 | 4 => 5 | 5 => 5 | _ => 0
def condB (f k : Int) : Bool := if 0 ≤ k ∧ k ≤ 7 then bitN f (condAt k.toNat) == (k % 2 == 1) else false
theorem has_64 (b : Int) (h0 : 0 ≤ b) (h1 : b ≤ 255) : (bits .and .u8 b 64 != 0) = bitN b 1 := has_bit b h0 h1 1 (by decide)
theorem has_1 (b : Int) (h0 : 0 ≤ b) (h1 : b ≤ 255) : (bits .and .u8 b 1 != 0) = bitN b 7 := has_bit b h0 h1 7 (by decide)
theorem has_4 (b : Int) (h0 : 0 ≤ b) (h1 : b ≤ 255) : (bits .and .u8 b 4 != 0) = bitN b 5 := has_bit b h0 h1 5 (by decide)
theorem has_128 (b : Int) (h0 : 0 ≤ b) (h1 : b ≤ 255) : (bits .and .u8 b 128 != 0) = bitN b 0 := has_bit b h0 h1 0 (by decide)

theorem condB_0 (f : Int) : condB f 0 = (!bitN f 1) := by cases h : bitN f 1 <;> simp [condB, condAt, h]
theorem condB_1 (f : Int) : condB f 1 = (bitN f 1) := by cases h : bitN f 1 <;> simp [condB, condAt, h]
theorem condB_2 (f : Int) : condB f 2 = (!bitN f 7) := by cases h : bitN f 7 <;> simp [condB, condAt, h]
theorem condB_3 (f : Int) : condB f 3 = (bitN f 7) := by cases h : bitN f 7 <;> simp [condB, condAt, h]
theorem condB_4 (f : Int) : condB f 4 = (!bitN f 5) := by cases h : bitN f 5 <;> simp [condB, condAt, h]
theorem condB_5 (f : Int) : condB f 5 = (bitN f 5) := by cases h : bitN f 5 <;> simp [condB, condAt, h]
theorem condB_6 (f : Int) : condB f 6 = (!bitN f 0) := by cases h : bitN f 0 <;> simp [condB, condAt, h]
theorem condB_7 (f : Int) : condB f 7 = (bitN f 0) := by cases h : bitN f 0 <;> simp [condB, condAt, h]

/-- A byte is put together of its own bits; what is done bit by bit. -/
def asBits (x : BitVec 8) : List Bool := (List.range 8).map (fun i => x.getMsbD i)
theorem byteOf_asBits (x : BitVec 8) : byteOf (asBits x) = (x.toNat : Int) := by
  have h : ∀ n : Fin 256, byteOf (asBits (BitVec.ofFin n)) = ((BitVec.ofFin n : BitVec 8).toNat : Int) := by decide +kernel
  exact h x.toFin
theorem bitN_msb (b : Int) (h0 : 0 ≤ b) (h1 : b ≤ 255) (i : Nat) (hi : i < 8) : bitN b i = (BitVec.ofInt 8 b).getMsbD i := by
  have h : ∀ n : Fin 256, ∀ i : Fin 8, bitN (n.val : Int) i.val = (BitVec.ofInt 8 (n.val : Int)).getMsbD i.val := by decide +kernel
  exact fin256 (P := fun b => bitN b i = (BitVec.ofInt 8 b).getMsbD i) (fun n => h n ⟨i, hi⟩) b h0 h1
theorem wrap_u8_nat (x : BitVec 8) : IntKind.u8.wrap (x.toNat : Int) = (x.toNat : Int) := by
  have h : ∀ n : Fin 256, IntKind.u8.wrap ((BitVec.ofFin n : BitVec 8).toNat : Int) = ((BitVec.ofFin n : BitVec 8).toNat : Int) := by decide +kernel
  exact h x.toFin
theorem map_range8 {f g : Nat → Bool} (h : ∀ i, i < 8 → f i = g i) : (List.range 8).map f = (List.range 8).map g :=
  List.map_congr_left fun i hi => h i (by simpa using hi)
theorem bits_or (f b : Int) (f0 : 0 ≤ f) (f1 : f ≤ 255) (b0 : 0 ≤ b) (b1 : b ≤ 255) : bits .or .u8 f b = byteOf ((List.range 8).map fun i => bitN f i || bitN b i) := by
  rw [map_range8 (g := fun i => (BitVec.ofInt 8 f ||| BitVec.ofInt 8 b).getMsbD i) (fun i hi => by rw [BitVec.getMsbD_or, bitN_msb f f0 f1 i hi, bitN_msb b b0 b1 i hi])]
  exact (wrap_u8_nat _).trans (byteOf_asBits _).symm
theorem bits_and (f b : Int) (f0 : 0 ≤ f) (f1 : f ≤ 255) (b0 : 0 ≤ b) (b1 : b ≤ 255) : bits .and .u8 f b = byteOf ((List.range 8).map fun i => bitN f i && bitN b i) := by
  rw [map_range8 (g := fun i => (BitVec.ofInt 8 f &&& BitVec.ofInt 8 b).getMsbD i) (fun i hi => by rw [BitVec.getMsbD_and, bitN_msb f f0 f1 i hi, bitN_msb b b0 b1 i hi])]
  exact (wrap_u8_nat _).trans (byteOf_asBits _).symm
theorem bits_xor (f b : Int) (f0 : 0 ≤ f) (f1 : f ≤ 255) (b0 : 0 ≤ b) (b1 : b ≤ 255) : bits .xor .u8 f b = byteOf ((List.range 8).map fun i => bitN f i ^^ bitN b i) := by
  rw [map_range8 (g := fun i => (BitVec.ofInt 8 f ^^^ BitVec.ofInt 8 b).getMsbD i) (fun i hi => by rw [BitVec.getMsbD_xor, bitN_msb f f0 f1 i hi, bitN_msb b b0 b1 i hi])]
  exact (wrap_u8_nat _).trans (byteOf_asBits _).symm
theorem of_flags (b : Int) (h0 : 0 ≤ b) (h1 : b ≤ 255) : flagsOf (bitN b 0) (b == 0) (bitN b 2) false (bitN b 4) false false false = ofB b ∧ flagsOf (bitN b 0) (b == 0) (bitN b 2) false (bitN b 4) (evenB b) false false = ofPB b := by
  have h : ∀ n : Fin 256, flagsOf (bitN n.val 0) ((n.val : Int) == 0) (bitN n.val 2) false (bitN n.val 4) false false false = ofB n.val ∧ flagsOf (bitN n.val 0) ((n.val : Int) == 0) (bitN n.val 2) false (bitN n.val 4) (evenB n.val) false false = ofPB n.val := by decide +kernel
  exact fin256 (P := fun b => flagsOf (bitN b 0) (b == 0) (bitN b 2) false (bitN b 4) false false false = ofB b ∧ flagsOf (bitN b 0) (b == 0) (bitN b 2) false (bitN b 4) (evenB b) false false = ofPB b) h b h0 h1

end Go.Proofs.YtcfkpeemhleleaaGreatDoor
/- Plain facts on sums of bytes and their flags, for layer 2: no program is named here. -/
namespace Go.Proofs.YtcfkpeemhleleaaGreatDoor
open Go.RowKit

def cN (c : Bool) : Int := if c then 1 else 0
def sgn (a : Int) : Int := if 128 ≤ a then a - 256 else a
def outB (n : Int) : Bool := decide (n < -128) || decide (127 < n)
def putB (f : Int) (l : List (Int × Bool)) : Int := l.foldl (fun f p => withB f p.1 p.2) f
theorem putB_nil (f : Int) : putB f [] = f := rfl
theorem putB_cons (f : Int) (p : Int × Bool) (l : List (Int × Bool)) : putB f (p :: l) = putB (withB f p.1 p.2) l := rfl
theorem putB_take_succ (f : Int) (l : List (Int × Bool)) (k : Nat) (h : k < l.length) : putB f (l.take (k + 1)) = withB (putB f (l.take k)) l[k].1 l[k].2 := by
  rw [← List.take_append_getElem h]; unfold putB; rw [List.foldl_append]; rfl

def addR (a b : Int) (c : Bool) : Int := (a + b + cN c) % 256
def subR (a b : Int) (c : Bool) : Int := (a - b - cN c) % 256
def addF (a b : Int) (c : Bool) : Int := flagsOf (bitN (addR a b c) 0) (addR a b c == 0) (bitN (addR a b c) 2) (decide (15 < a % 16 + b % 16 + cN c)) (bitN (addR a b c) 4) (outB (sgn a + sgn b + cN c)) false (decide (255 < a + b + cN c))
def subF (a b : Int) (c : Bool) : Int := flagsOf (bitN (subR a b c) 0) (subR a b c == 0) (bitN (subR a b c) 2) (decide (a % 16 - b % 16 - cN c < 0)) (bitN (subR a b c) 4) (outB (sgn a - sgn b - cN c)) true (decide (a - b - cN c < 0))
theorem cN_bd (c : Bool) : 0 ≤ cN c ∧ cN c ≤ 1 := by cases c <;> decide
theorem sgn_bd (a : Int) (h0 : 0 ≤ a) (h1 : a ≤ 255) : -128 ≤ sgn a ∧ sgn a ≤ 127 := by unfold sgn; split <;> omega
theorem addR_bd (a b : Int) (c : Bool) : 0 ≤ addR a b c ∧ addR a b c ≤ 255 := by unfold addR; omega
theorem subR_bd (a b : Int) (c : Bool) : 0 ≤ subR a b c ∧ subR a b c ≤ 255 := by unfold subR; omega

/-- One flag put into a byte of eight flags. -/
theorem with_S (s z y h x p n c o : Bool) : withB (flagsOf s z y h x p n c) 128 o = flagsOf o z y h x p n c := by revert s z y h x p n c o; decide +kernel
theorem with_Z (s z y h x p n c o : Bool) : withB (flagsOf s z y h x p n c) 64 o = flagsOf s o y h x p n c := by revert s z y h x p n c o; decide +kernel
theorem with_Y (s z y h x p n c o : Bool) : withB (flagsOf s z y h x p n c) 32 o = flagsOf s z o h x p n c := by revert s z y h x p n c o; decide +kernel
theorem with_H (s z y h x p n c o : Bool) : withB (flagsOf s z y h x p n c) 16 o = flagsOf s z y o x p n c := by revert s z y h x p n c o; decide +kernel
theorem with_X (s z y h x p n c o : Bool) : withB (flagsOf s z y h x p n c) 8 o = flagsOf s z y h o p n c := by revert s z y h x p n c o; decide +kernel
theorem with_P (s z y h x p n c o : Bool) : withB (flagsOf s z y h x p n c) 4 o = flagsOf s z y h x o n c := by revert s z y h x p n c o; decide +kernel
theorem with_N (s z y h x p n c o : Bool) : withB (flagsOf s z y h x p n c) 2 o = flagsOf s z y h x p o c := by revert s z y h x p n c o; decide +kernel
theorem with_C (s z y h x p n c o : Bool) : withB (flagsOf s z y h x p n c) 1 o = flagsOf s z y h x p n o := by revert s z y h x p n c o; decide +kernel
theorem with_HN (s z y h x p n c o : Bool) : withB (flagsOf s z y h x p n c) 18 o = flagsOf s z y o x p o c := by revert s z y h x p n c o; decide +kernel
theorem flags_self (f : Int) (h0 : 0 ≤ f) (h1 : f ≤ 255) : flagsOf (bitN f 0) (bitN f 1) (bitN f 2) (bitN f 3) (bitN f 4) (bitN f 5) (bitN f 6) (bitN f 7) = f := by
  have h : ∀ n : Fin 256, flagsOf (bitN n.val 0) (bitN n.val 1) (bitN n.val 2) (bitN n.val 3) (bitN n.val 4) (bitN n.val 5) (bitN n.val 6) (bitN n.val 7) = (n.val : Int) := by decide +kernel
  exact fin256 (P := fun f => flagsOf (bitN f 0) (bitN f 1) (bitN f 2) (bitN f 3) (bitN f 4) (bitN f 5) (bitN f 6) (bitN f 7) = f) h f h0 h1
theorem flags_bd (s z y h x p n c : Bool) : 0 ≤ flagsOf s z y h x p n c ∧ flagsOf s z y h x p n c ≤ 255 := by revert s z y h x p n c; decide +kernel
theorem bit_flags (s z y h x p n c : Bool) : bitN (flagsOf s z y h x p n c) 0 = s ∧ bitN (flagsOf s z y h x p n c) 1 = z ∧ bitN (flagsOf s z y h x p n c) 2 = y ∧ bitN (flagsOf s z y h x p n c) 3 = h ∧
    bitN (flagsOf s z y h x p n c) 4 = x ∧ bitN (flagsOf s z y h x p n c) 5 = p ∧ bitN (flagsOf s z y h x p n c) 6 = n ∧ bitN (flagsOf s z y h x p n c) 7 = c := by revert s z y h x p n c; decide +kernel
theorem has_32 (b : Int) (h0 : 0 ≤ b) (h1 : b ≤ 255) : (bits .and .u8 b 32 != 0) = bitN b 2 := has_bit b h0 h1 2 (by decide)
theorem has_16 (b : Int) (h0 : 0 ≤ b) (h1 : b ≤ 255) : (bits .and .u8 b 16 != 0) = bitN b 3 := has_bit b h0 h1 3 (by decide)
theorem has_8 (b : Int) (h0 : 0 ≤ b) (h1 : b ≤ 255) : (bits .and .u8 b 8 != 0) = bitN b 4 := has_bit b h0 h1 4 (by decide)
theorem has_2 (b : Int) (h0 : 0 ≤ b) (h1 : b ≤ 255) : (bits .and .u8 b 2 != 0) = bitN b 6 := has_bit b h0 h1 6 (by decide)

theorem wrap_i8 (a : Int) (h0 : 0 ≤ a) (h1 : a ≤ 255) : IntKind.i8.wrap a = sgn a := by
  have h : ∀ n : Fin 256, IntKind.i8.wrap (n.val : Int) = sgn (n.val : Int) := by decide +kernel
  exact fin256 (P := fun a => IntKind.i8.wrap a = sgn a) h a h0 h1

/-- What alu puts together, as the document's eight flags. -/
theorem add_put (a b : Int) (c : Bool) : putB (ofB (addR a b c)) [(16, decide (15 < a % 16 + b % 16 + cN c)), (4, outB (sgn a + sgn b + cN c)), (1, decide (255 < a + b + cN c))] = addF a b c := by
  rw [← (of_flags _ (addR_bd a b c).1 (addR_bd a b c).2).1]
  simp only [putB_cons, putB_nil, with_H, with_P, with_C, addF]
theorem sub_put (a b : Int) (c : Bool) : putB (ofB (subR a b c)) [(16, decide (a % 16 - b % 16 - cN c < 0)), (4, outB (sgn a - sgn b - cN c)), (2, true), (1, decide (a - b - cN c < 0))] = subF a b c := by
  rw [← (of_flags _ (subR_bd a b c).1 (subR_bd a b c).2).1]
  simp only [putB_cons, putB_nil, with_H, with_P, with_N, with_C, subF]

/-- F with Y and X of a byte; with C of another one. -/
def mixF (f b : Int) : Int := flagsOf (bitN f 0) (bitN f 1) (bitN b 2) (bitN f 3) (bitN b 4) (bitN f 5) (bitN f 6) (bitN f 7)
def keepF (f o : Int) : Int := flagsOf (bitN f 0) (bitN f 1) (bitN f 2) (bitN f 3) (bitN f 4) (bitN f 5) (bitN f 6) (bitN o 7)
theorem addF_bd (a b : Int) (c : Bool) : 0 ≤ addF a b c ∧ addF a b c ≤ 255 := flags_bd _ _ _ _ _ _ _ _
theorem subF_bd (a b : Int) (c : Bool) : 0 ≤ subF a b c ∧ subF a b c ≤ 255 := flags_bd _ _ _ _ _ _ _ _
theorem mix_put (f b : Int) (h0 : 0 ≤ f) (h1 : f ≤ 255) : putB f [(32, bitN b 2), (8, bitN b 4)] = mixF f b := by
  unfold mixF
  generalize bitN b 2 = y
  generalize bitN b 4 = x
  conv => lhs; rw [← flags_self f h0 h1]
  simp only [putB_cons, putB_nil, with_Y, with_X]
theorem keep_put (f o : Int) (h0 : 0 ≤ f) (h1 : f ≤ 255) : putB f [(1, bitN o 7)] = keepF f o := by
  unfold keepF
  generalize bitN o 7 = c
  conv => lhs; rw [← flags_self f h0 h1]
  simp only [putB_cons, putB_nil, with_C]

/-- Bit by bit. -/
def andR (a b : Int) : Int := byteOf ((List.range 8).map fun i => bitN a i && bitN b i)
def xorR (a b : Int) : Int := byteOf ((List.range 8).map fun i => bitN a i ^^ bitN b i)
def orR (a b : Int) : Int := byteOf ((List.range 8).map fun i => bitN a i || bitN b i)
theorem byte8_bd (g : Nat → Bool) : 0 ≤ byteOf ((List.range 8).map g) ∧ byteOf ((List.range 8).map g) ≤ 255 := flags_bd (g 0) (g 1) (g 2) (g 3) (g 4) (g 5) (g 6) (g 7)
theorem bit8 (g : Nat → Bool) (i : Nat) (hi : i < 8) : bitN (byteOf ((List.range 8).map g)) i = g i := by
  obtain ⟨h0, h1, h2, h3, h4, h5, h6, h7⟩ := bit_flags (g 0) (g 1) (g 2) (g 3) (g 4) (g 5) (g 6) (g 7)
  have : i = 0 ∨ i = 1 ∨ i = 2 ∨ i = 3 ∨ i = 4 ∨ i = 5 ∨ i = 6 ∨ i = 7 := by omega
  rcases this with rfl | rfl | rfl | rfl | rfl | rfl | rfl | rfl
  · exact h0
  · exact h1
  · exact h2
  · exact h3
  · exact h4
  · exact h5
  · exact h6
  · exact h7
theorem andR_bd (a b : Int) : 0 ≤ andR a b ∧ andR a b ≤ 255 := byte8_bd _
theorem xorR_bd (a b : Int) : 0 ≤ xorR a b ∧ xorR a b ≤ 255 := byte8_bd _
theorem orR_bd (a b : Int) : 0 ≤ orR a b ∧ orR a b ≤ 255 := byte8_bd _
def joinF (r : Int) (h : Bool) : Int := flagsOf (bitN r 0) (r == 0) (bitN r 2) h (bitN r 4) (evenB r) false false
theorem join_put (r : Int) (h0 : 0 ≤ r) (h1 : r ≤ 255) (o : Bool) : putB (ofPB r) [(16, o)] = joinF r o := by
  rw [← (of_flags r h0 h1).2]
  simp only [putB_cons, putB_nil, with_H, joinF]
theorem join_ofP (r : Int) (h0 : 0 ≤ r) (h1 : r ≤ 255) : ofPB r = joinF r false := by
  rw [← (of_flags r h0 h1).2]; rfl

/-- The eight operations: the answer, and F. -/
def doV (k a b f : Int) : Int × Int :=
  if k = 0 then (addR a b false, addF a b false) else if k = 1 then (addR a b (bitN f 7), addF a b (bitN f 7)) else
  if k = 2 then (subR a b false, subF a b false) else if k = 3 then (subR a b (bitN f 7), subF a b (bitN f 7)) else
  if k = 4 then (andR a b, joinF (andR a b) true) else if k = 5 then (xorR a b, joinF (xorR a b) false) else
  if k = 6 then (orR a b, joinF (orR a b) false) else if k = 7 then (a, mixF (subF a b false) b) else (a, f)
theorem doV_0 (a b f : Int) : doV 0 a b f = (addR a b false, addF a b false) := rfl
theorem doV_1 (a b f : Int) : doV 1 a b f = (addR a b (bitN f 7), addF a b (bitN f 7)) := rfl
theorem doV_2 (a b f : Int) : doV 2 a b f = (subR a b false, subF a b false) := rfl
theorem doV_3 (a b f : Int) : doV 3 a b f = (subR a b (bitN f 7), subF a b (bitN f 7)) := rfl
theorem doV_4 (a b f : Int) : doV 4 a b f = (andR a b, joinF (andR a b) true) := rfl
theorem doV_5 (a b f : Int) : doV 5 a b f = (xorR a b, joinF (xorR a b) false) := rfl
theorem doV_6 (a b f : Int) : doV 6 a b f = (orR a b, joinF (orR a b) false) := rfl
theorem doV_7 (a b f : Int) : doV 7 a b f = (a, mixF (subF a b false) b) := rfl
theorem doV_else (k a b f : Int) (h : k < 0 ∨ 7 < k) : doV k a b f = (a, f) := by
  unfold doV
  rw [if_neg (by omega), if_neg (by omega), if_neg (by omega), if_neg (by omega), if_neg (by omega), if_neg (by omega), if_neg (by omega), if_neg (by omega)]

/-- Cpl, Daa, Scf, Ccf. -/
def cplF (a f : Int) : Int := flagsOf (bitN f 0) (bitN f 1) (bitN (255 - a) 2) true (bitN (255 - a) 4) (bitN f 5) true (bitN f 7)
theorem cpl_put (a f : Int) (h0 : 0 ≤ f) (h1 : f ≤ 255) : putB f [(32, bitN (255 - a) 2), (8, bitN (255 - a) 4), (18, true)] = cplF a f := by
  unfold cplF
  generalize bitN (255 - a) 2 = y
  generalize bitN (255 - a) 4 = x
  conv => lhs; rw [← flags_self f h0 h1]
  simp only [putB_cons, putB_nil, with_Y, with_X, with_HN]
theorem not_u8 (a : Int) (h0 : 0 ≤ a) (h1 : a ≤ 255) : bits .xor .u8 IntKind.u8.max a = 255 - a := by
  have h : ∀ n : Fin 256, bits .xor .u8 IntKind.u8.max (n.val : Int) = 255 - (n.val : Int) := by decide +kernel
  exact fin256 (P := fun a => bits .xor .u8 IntKind.u8.max a = 255 - a) h a h0 h1
def daaD (a f : Int) : Int := (if bitN f 3 || decide (9 < a % 16) then 6 else 0) + (if bitN f 7 || decide (153 < a) then 96 else 0)
def daaR (a f : Int) : Int := if bitN f 6 then (a - daaD a f) % 256 else (a + daaD a f) % 256
def daaH (a f : Int) : Bool := if bitN f 6 then bitN f 3 && decide (a % 16 < 6) else decide (9 < a % 16)
def daaF (a f : Int) : Int := flagsOf (bitN (daaR a f) 0) (daaR a f == 0) (bitN (daaR a f) 2) (daaH a f) (bitN (daaR a f) 4) (evenB (daaR a f)) (bitN f 6) (bitN f 7 || decide (153 < a))
theorem daaR_bd (a f : Int) : 0 ≤ daaR a f ∧ daaR a f ≤ 255 := by unfold daaR; split <;> omega
theorem daa_put (a f : Int) : putB (ofPB (daaR a f)) [(16, daaH a f), (2, bitN f 6), (1, bitN f 7 || decide (153 < a))] = daaF a f := by
  rw [← (of_flags _ (daaR_bd a f).1 (daaR_bd a f).2).2]
  simp only [putB_cons, putB_nil, with_H, with_N, with_C, daaF]
def leakN (a f q : Int) (i : Nat) : Bool := (bitN f i != bitN q i) || bitN a i
def leakR (a f q : Int) : Int := bits .or .u8 (bits .xor .u8 q f) a
theorem leak_bit (a f q : Int) (a0 : 0 ≤ a) (a1 : a ≤ 255) (f0 : 0 ≤ f) (f1 : f ≤ 255) (q0 : 0 ≤ q) (q1 : q ≤ 255) (i : Nat) (hi : i < 8) : 0 ≤ leakR a f q ∧ leakR a f q ≤ 255 ∧ bitN (leakR a f q) i = leakN a f q i := by
  unfold leakR
  have hx := byte8_bd fun i => bitN q i ^^ bitN f i
  rw [bits_xor q f q0 q1 f0 f1, bits_or _ a hx.1 hx.2 a0 a1]
  refine ⟨(byte8_bd _).1, (byte8_bd _).2, ?_⟩
  rw [bit8 _ i hi, bit8 _ i hi]
  unfold leakN
  cases bitN q i <;> cases bitN f i <;> cases bitN a i <;> rfl
def leakF (a f q : Int) : Int := flagsOf (bitN f 0) (bitN f 1) (leakN a f q 2) (bitN f 3) (leakN a f q 4) (bitN f 5) (bitN f 6) (bitN f 7)
theorem leak_put (a f q : Int) (f0 : 0 ≤ f) (f1 : f ≤ 255) : putB f [(32, leakN a f q 2), (8, leakN a f q 4)] = leakF a f q := by
  unfold leakF
  generalize leakN a f q 2 = y
  generalize leakN a f q 4 = x
  conv => lhs; rw [← flags_self f f0 f1]
  simp only [putB_cons, putB_nil, with_Y, with_X]
def scfF (a f q : Int) : Int := flagsOf (bitN f 0) (bitN f 1) (leakN a f q 2) false (leakN a f q 4) (bitN f 5) false true
def ccfF (a f q : Int) : Int := flagsOf (bitN f 0) (bitN f 1) (leakN a f q 2) (bitN f 7) (leakN a f q 4) (bitN f 5) false (!bitN f 7)
theorem scf_put (a f q : Int) : putB (leakF a f q) [(18, false), (1, true)] = scfF a f q := by
  simp only [leakF, putB_cons, putB_nil, with_HN, with_C, scfF]
theorem ccf_put (a f q : Int) : putB (leakF a f q) [(16, bitN f 7), (2, false), (1, !bitN f 7)] = ccfF a f q := by
  simp only [leakF, putB_cons, putB_nil, with_H, with_N, with_C, ccfF]

end Go.Proofs.YtcfkpeemhleleaaGreatDoor
/- Plain facts on sums of words and their flags, for layer 3: no program is named here. -/
namespace Go.Proofs.YtcfkpeemhleleaaGreatDoor
open Go.RowKit

/-- Bit k of a word, of which 0 is the lowest. -/
def bitW (n : Int) (k : Nat) : Bool := n / 2 ^ k % 2 == 1
def sgnW (a : Int) : Int := if 32768 ≤ a then a - 65536 else a
def outW (n : Int) : Bool := decide (n < -32768) || decide (32767 < n)
def wadd (a b : Int) (c : Bool) : Int := (a + b + cN c) % 65536
def waddH (a b : Int) (c : Bool) : Bool := decide (4095 < a % 4096 + b % 4096 + cN c)
def waddC (a b : Int) (c : Bool) : Bool := decide (65535 < a + b + cN c)
def waddP (a b : Int) (c : Bool) : Bool := outW (sgnW a + sgnW b + cN c)
def addWF (a b f : Int) : Int := flagsOf (bitN f 0) (bitN f 1) (bitW (wadd a b false) 13) (waddH a b false) (bitW (wadd a b false) 11) (bitN f 5) false (waddC a b false)
def plusW (w d : Int) : Int := (w + sgn d) % 65536

theorem wadd_bd (a b : Int) (c : Bool) : 0 ≤ wadd a b c ∧ wadd a b c ≤ 65535 := by unfold wadd; omega
theorem plusW_bd (w d : Int) : 0 ≤ plusW w d ∧ plusW w d ≤ 65535 := by unfold plusW; omega
theorem sgnW_bd (a : Int) (h0 : 0 ≤ a) (h1 : a ≤ 65535) : -32768 ≤ sgnW a ∧ sgnW a ≤ 32767 := by unfold sgnW; split <;> omega
theorem wrap_i16 (a : Int) (h0 : 0 ≤ a) (h1 : a ≤ 65535) : IntKind.i16.wrap a = sgnW a := by
  have e : a % 65536 = a := by omega
  simp [sgnW, IntKind.wrap, IntKind.bits, IntKind.signed, e]
theorem hi_S (r : Int) : bitN (r / 256) 0 = bitW r 15 := by unfold bitN bitW; congr 1; omega
theorem hi_Y (r : Int) : bitN (r / 256) 2 = bitW r 13 := by unfold bitN bitW; congr 1; omega
theorem hi_X (r : Int) : bitN (r / 256) 4 = bitW r 11 := by unfold bitN bitW; congr 1; omega
theorem low_W (a : Int) (h0 : 0 ≤ a) (h1 : a ≤ 65535) : bits .and .u16 a 4095 = a % 4096 := by
  obtain ⟨n, rfl⟩ := Int.eq_ofNat_of_zero_le h0
  have hn : n < 65536 := by omega
  have h : n &&& 4095 = n % 4096 := Nat.and_two_pow_sub_one_eq_mod n 12
  show IntKind.u16.wrap ((BitVec.ofInt 16 (n : Int) &&& BitVec.ofInt 16 4095).toNat : Int) = _
  rw [BitVec.toNat_and, BitVec.ofInt_natCast, BitVec.toNat_ofNat, Nat.mod_eq_of_lt (by omega : n < 2 ^ 16), show (BitVec.ofInt 16 4095).toNat = 4095 from by decide, h]
  simp [IntKind.wrap, IntKind.bits, IntKind.signed]
  omega
theorem wrap_u16w (n : Int) : IntKind.u16.wrap n = n % 65536 := by simp [IntKind.wrap, IntKind.bits, IntKind.signed]
theorem wrap_add (a b : Int) (c : Bool) : IntKind.u16.wrap (a + b + cN c) = wadd a b c := wrap_u16w _
theorem wrap_plus (w d : Int) : IntKind.u16.wrap (w + IntKind.u16.wrap (sgn d)) = plusW w d := by
  rw [wrap_u16w, wrap_u16w]; unfold plusW; omega
theorem word_of (h l : Int) (h0 : 0 ≤ h) (h1 : h ≤ 255) (l0 : 0 ≤ l) (l1 : l ≤ 255) : bits .or .u16 (h * 256) l = h * 256 + l :=
  bits_join .u16 16 (by decide) (fun n a b => by simp [IntKind.wrap, IntKind.bits, IntKind.signed]; omega) 8 (h * 256) l (by omega) (by omega) (by omega) l0 (by omega) (by omega)

end Go.Proofs.YtcfkpeemhleleaaGreatDoor
/- wide.Hi, Lo, Of: their contracts. -/
namespace Go.Proofs.YtcfkpeemhleleaaGreatDoor
open Go.RowKit

set_option maxHeartbeats 400000 in
theorem hi_any (a : Int) (w : World) (h0 : 0 ≤ a) (h1 : a ≤ 65535) : Calls Tryz.prog 66 #[.int .u16 a] w fun e w' => e = .returned (.int .u8 (a / 256)) ∧ w = w' := by
  go_enter Tryz.func66, Tryz.ntmps66
  go_wp2_with fail
  go_ret
  exact ⟨rfl, rfl⟩
set_option maxHeartbeats 400000 in
theorem lo_any (a : Int) (w : World) : Calls Tryz.prog 67 #[.int .u16 a] w fun e w' => e = .returned (.int .u8 (a % 256)) ∧ w = w' := by
  go_enter Tryz.func67, Tryz.ntmps67
  go_wp2_with fail
  go_ret
  exact ⟨rfl, rfl⟩
set_option maxHeartbeats 400000 in
theorem word_any (h l : Int) (w : World) (h0 : 0 ≤ h) (h1 : h ≤ 255) (l0 : 0 ≤ l) (l1 : l ≤ 255) : Calls Tryz.prog 49 #[.int .u8 h, .int .u8 l] w fun e w' => e = .returned (.int .u16 (h * 256 + l)) ∧ w = w' := by
  have hw := word_of h l h0 h1 l0 l1
  go_enter Tryz.func49, Tryz.ntmps49
  go_wp2_with fail
  go_ret
  exact ⟨rfl, rfl⟩

end Go.Proofs.YtcfkpeemhleleaaGreatDoor
/- Where a register stands: regs.single, index, word, halves. -/
namespace Go.Proofs.YtcfkpeemhleleaaGreatDoor
open Go.RowKit

/-- A single byte's cell. -/
def offB (k : Int) : Option Nat := if k = 0 then some 2 else if k = 1 then some 3 else if k = 2 then some 4 else if k = 3 then some 5 else if k = 4 then some 6 else if k = 5 then some 7 else if k = 7 then some 0 else none
/-- An index's cell. -/
def offI (i : Int) : Option Nat := if i = 1 then some 19 else if i = 2 then some 20 else none
def spot (b : Nat) (o : Option Nat) : Value := .pointer (o.map fun o => ⟨b, o, none⟩)

set_option maxHeartbeats 800000 in
theorem single_any (b : Nat) (k : Int) (w : World) : Calls Tryz.prog 91 #[.pointer (some ⟨b, 0, none⟩), .int .i64 k] w fun e w' => e = .returned (spot b (offB k)) ∧ w = w' := by
  unfold offB spot
  by_cases h0 : k = 0
  · subst h0
    go_enter Tryz.func91, Tryz.ntmps91
    go_wp2_with fail
    go_ret
    exact ⟨rfl, rfl⟩
  by_cases h1 : k = 1
  · subst h1
    go_enter Tryz.func91, Tryz.ntmps91
    go_wp2_with fail
    go_ret
    exact ⟨rfl, rfl⟩
  by_cases h2 : k = 2
  · subst h2
    go_enter Tryz.func91, Tryz.ntmps91
    go_wp2_with fail
    go_ret
    exact ⟨rfl, rfl⟩
  by_cases h3 : k = 3
  · subst h3
    go_enter Tryz.func91, Tryz.ntmps91
    go_wp2_with fail
    go_ret
    exact ⟨rfl, rfl⟩
  by_cases h4 : k = 4
  · subst h4
    go_enter Tryz.func91, Tryz.ntmps91
    go_wp2_with fail
    go_ret
    exact ⟨rfl, rfl⟩
  by_cases h5 : k = 5
  · subst h5
    go_enter Tryz.func91, Tryz.ntmps91
    go_wp2_with fail
    go_ret
    exact ⟨rfl, rfl⟩
  by_cases h7 : k = 7
  · subst h7
    go_enter Tryz.func91, Tryz.ntmps91
    go_wp2_with fail
    go_ret
    exact ⟨rfl, rfl⟩
  · have e0 : (k == 0) = false := by simpa using h0
    have e1 : (k == 1) = false := by simpa using h1
    have e2 : (k == 2) = false := by simpa using h2
    have e3 : (k == 3) = false := by simpa using h3
    have e4 : (k == 4) = false := by simpa using h4
    have e5 : (k == 5) = false := by simpa using h5
    have e7 : (k == 7) = false := by simpa using h7
    rw [if_neg h0, if_neg h1, if_neg h2, if_neg h3, if_neg h4, if_neg h5, if_neg h7]
    clear h0 h1 h2 h3 h4 h5 h7
    go_enter Tryz.func91, Tryz.ntmps91
    go_wp2_with fail
    go_ret
    exact ⟨rfl, rfl⟩
theorem single_at (b : Nat) (k : Int) (o : Nat) (w : World) (h : offB k = some o) : Calls Tryz.prog 91 #[.pointer (some ⟨b, 0, none⟩), .int .i64 k] w fun e w' => e = .returned (.pointer (some ⟨b, o, none⟩)) ∧ w = w' := by
  have := single_any b k w
  rwa [h] at this
theorem single_no (b : Nat) (k : Int) (w : World) (h : offB k = none) : Calls Tryz.prog 91 #[.pointer (some ⟨b, 0, none⟩), .int .i64 k] w fun e w' => e = .returned (.pointer none) ∧ w = w' := by
  have := single_any b k w
  rwa [h] at this
set_option maxHeartbeats 400000 in
theorem index_any (b : Nat) (i : Int) (w : World) : Calls Tryz.prog 90 #[.pointer (some ⟨b, 0, none⟩), .int .i64 i] w fun e w' => e = .returned (spot b (offI i)) ∧ w = w' := by
  unfold offI spot
  by_cases h1 : i = 1
  · subst h1
    go_enter Tryz.func90, Tryz.ntmps90
    go_wp2_with fail
    go_ret
    exact ⟨rfl, rfl⟩
  by_cases h2 : i = 2
  · subst h2
    go_enter Tryz.func90, Tryz.ntmps90
    go_wp2_with fail
    go_ret
    exact ⟨rfl, rfl⟩
  · have e1 : (i == 1) = false := by simpa using h1
    have e2 : (i == 2) = false := by simpa using h2
    rw [if_neg h1, if_neg h2]
    clear h1 h2
    go_enter Tryz.func90, Tryz.ntmps90
    go_wp2_with fail
    go_ret
    exact ⟨rfl, rfl⟩
theorem index_at (b : Nat) (i : Int) (o : Nat) (w : World) (h : offI i = some o) : Calls Tryz.prog 90 #[.pointer (some ⟨b, 0, none⟩), .int .i64 i] w fun e w' => e = .returned (.pointer (some ⟨b, o, none⟩)) ∧ w = w' := by
  have := index_any b i w
  rwa [h] at this
theorem index_no (b : Nat) (i : Int) (w : World) (h : offI i = none) : Calls Tryz.prog 90 #[.pointer (some ⟨b, 0, none⟩), .int .i64 i] w fun e w' => e = .returned (.pointer none) ∧ w = w' := by
  have := index_any b i w
  rwa [h] at this
/-- A pair's cell, where it is one word. -/
def offW (k i : Int) : Option Nat := if k = 2 then offI i else if k = 3 then some 21 else none
set_option maxHeartbeats 400000 in
theorem wordAt_any (b : Nat) (k i : Int) (w : World) : Calls Tryz.prog 151 #[.pointer (some ⟨b, 0, none⟩), .int .i64 k, .int .i64 i] w fun e w' => e = .returned (spot b (offW k i)) ∧ w = w' := by
  unfold offW
  by_cases h2 : k = 2
  · subst h2
    go_enter Tryz.func151, Tryz.ntmps151
    go_wp2_with fail
    refine (index_any _ _ _).mono ?_
    rintro e w' ⟨rfl, rfl⟩
    go_wp2_with fail
    go_ret
    exact ⟨rfl, rfl⟩
  by_cases h3 : k = 3
  · subst h3
    go_enter Tryz.func151, Tryz.ntmps151
    go_wp2_with fail
    go_ret
    exact ⟨rfl, rfl⟩
  · have e2 : (k == 2) = false := by simpa using h2
    have e3 : (k == 3) = false := by simpa using h3
    rw [if_neg h2, if_neg h3]
    clear h2 h3
    go_enter Tryz.func151, Tryz.ntmps151
    go_wp2_with fail
    go_ret
    exact ⟨rfl, rfl⟩
theorem wordAt_at (b : Nat) (k i : Int) (o : Nat) (w : World) (h : offW k i = some o) : Calls Tryz.prog 151 #[.pointer (some ⟨b, 0, none⟩), .int .i64 k, .int .i64 i] w fun e w' => e = .returned (.pointer (some ⟨b, o, none⟩)) ∧ w = w' := by
  have := wordAt_any b k i w
  rwa [h] at this
theorem wordAt_no (b : Nat) (k i : Int) (w : World) (h : offW k i = none) : Calls Tryz.prog 151 #[.pointer (some ⟨b, 0, none⟩), .int .i64 k, .int .i64 i] w fun e w' => e = .returned (.pointer none) ∧ w = w' := by
  have := wordAt_any b k i w
  rwa [h] at this
/-- A pair's two cells. -/
def offP (k : Int) : Option (Nat × Nat) := if k = 0 then some (2, 3) else if k = 1 then some (4, 5) else if k = 2 then some (6, 7) else none
set_option maxHeartbeats 800000 in
theorem halves_at (b : Nat) (k : Int) (o p : Nat) (w : World) (h : offP k = some (o, p)) : Calls Tryz.prog 152 #[.pointer (some ⟨b, 0, none⟩), .int .i64 k] w fun e w' => e = .returned (.tuple #[.pointer (some ⟨b, o, none⟩), .pointer (some ⟨b, p, none⟩)]) ∧ w = w' := by
  unfold offP at h
  by_cases h0 : k = 0
  · subst h0
    obtain ⟨rfl, rfl⟩ : 2 = o ∧ 3 = p := by simpa using h
    clear h
    go_enter Tryz.func152, Tryz.ntmps152
    go_wp2_with fail
    refine (single_at _ _ 2 _ rfl).mono ?_
    rintro e w' ⟨rfl, rfl⟩
    go_wp2_with fail
    refine (single_at _ _ 3 _ rfl).mono ?_
    rintro e w' ⟨rfl, rfl⟩
    go_wp2_with fail
    go_ret2
    exact ⟨rfl, rfl⟩
  by_cases h1 : k = 1
  · subst h1
    obtain ⟨rfl, rfl⟩ : 4 = o ∧ 5 = p := by simpa using h
    clear h h0
    go_enter Tryz.func152, Tryz.ntmps152
    go_wp2_with fail
    refine (single_at _ _ 4 _ rfl).mono ?_
    rintro e w' ⟨rfl, rfl⟩
    go_wp2_with fail
    refine (single_at _ _ 5 _ rfl).mono ?_
    rintro e w' ⟨rfl, rfl⟩
    go_wp2_with fail
    go_ret2
    exact ⟨rfl, rfl⟩
  by_cases h2 : k = 2
  · subst h2
    obtain ⟨rfl, rfl⟩ : 6 = o ∧ 7 = p := by simpa using h
    clear h h0 h1
    go_enter Tryz.func152, Tryz.ntmps152
    go_wp2_with fail
    refine (single_at _ _ 6 _ rfl).mono ?_
    rintro e w' ⟨rfl, rfl⟩
    go_wp2_with fail
    refine (single_at _ _ 7 _ rfl).mono ?_
    rintro e w' ⟨rfl, rfl⟩
    go_wp2_with fail
    go_ret2
    exact ⟨rfl, rfl⟩
  · rw [if_neg h0, if_neg h1, if_neg h2] at h
    exact absurd h (by simp)
set_option maxHeartbeats 400000 in
theorem halves_no (b : Nat) (k : Int) (w : World) (h0 : k ≠ 0) (h1 : k ≠ 1) (h2 : k ≠ 2) : Calls Tryz.prog 152 #[.pointer (some ⟨b, 0, none⟩), .int .i64 k] w fun e w' => e = .returned (.tuple #[.pointer none, .pointer none]) ∧ w = w' := by
  have e0 : (k == 0) = false := by simpa using h0
  have e1 : (k == 1) = false := by simpa using h1
  have e2 : (k == 2) = false := by simpa using h2
  clear h0 h1 h2
  go_enter Tryz.func152, Tryz.ntmps152
  go_wp2_with fail
  go_ret2
  exact ⟨rfl, rfl⟩
end Go.Proofs.YtcfkpeemhleleaaGreatDoor
/- regs.Byte and PutByte: their contracts. -/
namespace Go.Proofs.YtcfkpeemhleleaaGreatDoor
open Go.RowKit

def hiX (x : Rg) (i : Int) : Int := if i = 1 then x.ix / 256 else if i = 2 then x.iy / 256 else x.h
def loX (x : Rg) (i : Int) : Int := if i = 1 then x.ix % 256 else if i = 2 then x.iy % 256 else x.l
def byteV (x : Rg) (k i : Int) : Int := if k = 0 then x.b else if k = 1 then x.c else if k = 2 then x.d else if k = 3 then x.e else if k = 4 then hiX x i else if k = 5 then loX x i else if k = 7 then x.a else 0
def putHi (x : Rg) (i v : Int) : Rg := if i = 1 then { x with ix := v * 256 + x.ix % 256 } else if i = 2 then { x with iy := v * 256 + x.iy % 256 } else { x with h := v }
def putLo (x : Rg) (i v : Int) : Rg := if i = 1 then { x with ix := x.ix / 256 * 256 + v } else if i = 2 then { x with iy := x.iy / 256 * 256 + v } else { x with l := v }
def putV (x : Rg) (k i v : Int) : Rg := if k = 0 then { x with b := v } else if k = 1 then { x with c := v } else if k = 2 then { x with d := v } else if k = 3 then { x with e := v } else if k = 4 then putHi x i v else if k = 5 then putLo x i v else if k = 7 then { x with a := v } else x

theorem off_of (i : Int) : (i = 1 ∧ offI i = some 19) ∨ (i = 2 ∧ offI i = some 20) ∨ (i ≠ 1 ∧ i ≠ 2 ∧ offI i = none) := by
  by_cases h1 : i = 1
  · left; subst h1; exact ⟨rfl, rfl⟩
  by_cases h2 : i = 2
  · right; left; subst h2; exact ⟨rfl, rfl⟩
  · right; right; exact ⟨h1, h2, by unfold offI; rw [if_neg h1, if_neg h2]⟩
theorem offB_of (k : Int) : (k = 0 ∧ offB k = some 2) ∨ (k = 1 ∧ offB k = some 3) ∨ (k = 2 ∧ offB k = some 4) ∨ (k = 3 ∧ offB k = some 5) ∨ k = 4 ∨ k = 5 ∨ (k = 7 ∧ offB k = some 0) ∨ (k ≠ 0 ∧ k ≠ 1 ∧ k ≠ 2 ∧ k ≠ 3 ∧ k ≠ 4 ∧ k ≠ 5 ∧ k ≠ 7 ∧ offB k = none) := by
  by_cases h0 : k = 0
  · left; subst h0; exact ⟨rfl, rfl⟩
  by_cases h1 : k = 1
  · right; left; subst h1; exact ⟨rfl, rfl⟩
  by_cases h2 : k = 2
  · right; right; left; subst h2; exact ⟨rfl, rfl⟩
  by_cases h3 : k = 3
  · right; right; right; left; subst h3; exact ⟨rfl, rfl⟩
  by_cases h4 : k = 4
  · right; right; right; right; left; exact h4
  by_cases h5 : k = 5
  · right; right; right; right; right; left; exact h5
  by_cases h7 : k = 7
  · right; right; right; right; right; right; left; subst h7; exact ⟨rfl, rfl⟩
  · right; right; right; right; right; right; right
    exact ⟨h0, h1, h2, h3, h4, h5, h7, by unfold offB; rw [if_neg h0, if_neg h1, if_neg h2, if_neg h3, if_neg h4, if_neg h5, if_neg h7]⟩

set_option maxHeartbeats 400000 in
theorem byte_hi (b : Nat) (i : Int) (o : Nat) (n : Int) (w : World) (hi : offI i = some o) (hc : w.cell? ⟨b, o, none⟩ = some (.int .u16 n)) (n0 : 0 ≤ n) (n1 : n ≤ 65535) :
    Calls Tryz.prog 69 #[.pointer (some ⟨b, 0, none⟩), .int .i64 4, .int .i64 i] w fun e w' => e = .returned (.int .u8 (n / 256)) ∧ w = w' := by
  have HI := Lib.hid hi
  clear hi
  go_enter Tryz.func69, Tryz.ntmps69
  go_wp2_with fail
  refine (index_at _ _ o _ HI.out).mono ?_
  rintro e w' ⟨rfl, rfl⟩
  go_wp2_with fail
  refine (hi_any _ _ n0 n1).mono ?_
  rintro e w' ⟨rfl, rfl⟩
  go_wp2_with fail
  go_ret
  exact ⟨rfl, rfl⟩
set_option maxHeartbeats 400000 in
theorem byte_lo (b : Nat) (i : Int) (o : Nat) (n : Int) (w : World) (hi : offI i = some o) (hc : w.cell? ⟨b, o, none⟩ = some (.int .u16 n)) :
    Calls Tryz.prog 69 #[.pointer (some ⟨b, 0, none⟩), .int .i64 5, .int .i64 i] w fun e w' => e = .returned (.int .u8 (n % 256)) ∧ w = w' := by
  have HI := Lib.hid hi
  clear hi
  go_enter Tryz.func69, Tryz.ntmps69
  go_wp2_with fail
  refine (index_at _ _ o _ HI.out).mono ?_
  rintro e w' ⟨rfl, rfl⟩
  go_wp2_with fail
  refine (lo_any _ _).mono ?_
  rintro e w' ⟨rfl, rfl⟩
  go_wp2_with fail
  go_ret
  exact ⟨rfl, rfl⟩
set_option maxHeartbeats 800000 in
theorem byte_at (b : Nat) (k i : Int) (o : Nat) (n : Int) (w : World) (hk : offB k = some o) (h : (k ≠ 4 ∧ k ≠ 5) ∨ offI i = none) (hc : w.cell? ⟨b, o, none⟩ = some (.int .u8 n)) :
    Calls Tryz.prog 69 #[.pointer (some ⟨b, 0, none⟩), .int .i64 k, .int .i64 i] w fun e w' => e = .returned (.int .u8 n) ∧ w = w' := by
  have HK := Lib.hid hk
  clear hk
  rcases hi : offI i with _ | p
  · have HI := Lib.hid hi
    clear hi h
    go_enter Tryz.func69, Tryz.ntmps69
    go_wp2_with fail
    refine (index_no _ _ _ HI.out).mono ?_
    rintro e w' ⟨rfl, rfl⟩
    go_wp2_with fail
    refine (single_at _ _ o _ HK.out).mono ?_
    rintro e w' ⟨rfl, rfl⟩
    go_wp2_with fail
    go_ret
    exact ⟨rfl, rfl⟩
  · have HI := Lib.hid hi
    obtain ⟨h4, h5⟩ : k ≠ 4 ∧ k ≠ 5 := h.resolve_right (by rw [hi]; simp)
    have e4 : (k == 4) = false := by simpa using h4
    have e5 : (k == 5) = false := by simpa using h5
    clear hi h h4 h5
    go_enter Tryz.func69, Tryz.ntmps69
    go_wp2_with fail
    refine (index_at _ _ p _ HI.out).mono ?_
    rintro e w' ⟨rfl, rfl⟩
    go_wp2_with fail
    refine (single_at _ _ o _ HK.out).mono ?_
    rintro e w' ⟨rfl, rfl⟩
    go_wp2_with fail
    go_ret
    exact ⟨rfl, rfl⟩
set_option maxHeartbeats 800000 in
theorem byte_no (b : Nat) (k i : Int) (w : World) (hk : offB k = none) (h4 : k ≠ 4) (h5 : k ≠ 5) :
    Calls Tryz.prog 69 #[.pointer (some ⟨b, 0, none⟩), .int .i64 k, .int .i64 i] w fun e w' => e = .returned (.int .u8 0) ∧ w = w' := by
  have HK := Lib.hid hk
  have e4 : (k == 4) = false := by simpa using h4
  have e5 : (k == 5) = false := by simpa using h5
  clear hk h4 h5
  rcases hi : offI i with _ | p
  · have HI := Lib.hid hi
    clear hi
    go_enter Tryz.func69, Tryz.ntmps69
    go_wp2_with fail
    refine (index_no _ _ _ HI.out).mono ?_
    rintro e w' ⟨rfl, rfl⟩
    go_wp2_with fail
    refine (single_no _ _ _ HK.out).mono ?_
    rintro e w' ⟨rfl, rfl⟩
    go_wp2_with fail
    go_ret
    exact ⟨rfl, rfl⟩
  · have HI := Lib.hid hi
    clear hi
    go_enter Tryz.func69, Tryz.ntmps69
    go_wp2_with fail
    refine (index_at _ _ p _ HI.out).mono ?_
    rintro e w' ⟨rfl, rfl⟩
    go_wp2_with fail
    refine (single_no _ _ _ HK.out).mono ?_
    rintro e w' ⟨rfl, rfl⟩
    go_wp2_with fail
    go_ret
    exact ⟨rfl, rfl⟩
theorem byte_any (b : Nat) (x : Rg) (k i : Int) (w : World) (h : RegAt w b x) (ok : x.Ok) :
    Calls Tryz.prog 69 #[.pointer (some ⟨b, 0, none⟩), .int .i64 k, .int .i64 i] w fun e w' => e = .returned (.int .u8 (byteV x k i)) ∧ w = w' := by
  rcases offB_of k with ⟨rfl, hk⟩ | ⟨rfl, hk⟩ | ⟨rfl, hk⟩ | ⟨rfl, hk⟩ | rfl | rfl | ⟨rfl, hk⟩ | ⟨h0, h1, h2, h3, h4, h5, h7, hk⟩
  · exact byte_at b 0 i 2 _ w hk (Or.inl (by decide)) (h.cell 2 _ rfl)
  · exact byte_at b 1 i 3 _ w hk (Or.inl (by decide)) (h.cell 3 _ rfl)
  · exact byte_at b 2 i 4 _ w hk (Or.inl (by decide)) (h.cell 4 _ rfl)
  · exact byte_at b 3 i 5 _ w hk (Or.inl (by decide)) (h.cell 5 _ rfl)
  · rcases off_of i with ⟨rfl, hi⟩ | ⟨rfl, hi⟩ | ⟨h1, h2, hi⟩
    · exact byte_hi b 1 19 _ w hi (h.cell 19 _ rfl) ok.ix.1 ok.ix.2
    · exact byte_hi b 2 20 _ w hi (h.cell 20 _ rfl) ok.iy.1 ok.iy.2
    · rw [show byteV x 4 i = x.h by simp [byteV, hiX, h1, h2]]
      exact byte_at b 4 i 6 _ w rfl (Or.inr hi) (h.cell 6 _ rfl)
  · rcases off_of i with ⟨rfl, hi⟩ | ⟨rfl, hi⟩ | ⟨h1, h2, hi⟩
    · exact byte_lo b 1 19 _ w hi (h.cell 19 _ rfl)
    · exact byte_lo b 2 20 _ w hi (h.cell 20 _ rfl)
    · rw [show byteV x 5 i = x.l by simp [byteV, loX, h1, h2]]
      exact byte_at b 5 i 7 _ w rfl (Or.inr hi) (h.cell 7 _ rfl)
  · exact byte_at b 7 i 0 _ w hk (Or.inl (by decide)) (h.cell 0 _ rfl)
  · rw [show byteV x k i = 0 by simp [byteV, h0, h1, h2, h3, h4, h5, h7]]
    exact byte_no b k i w hk h4 h5

set_option maxHeartbeats 400000 in
theorem putByte_hi (b : Nat) (i : Int) (o : Nat) (n v : Int) (w : World) (hi : offI i = some o) (hc : w.cell? ⟨b, o, none⟩ = some (.int .u16 n)) (hf : w.frozen? ⟨b, o, none⟩ = false) (v0 : 0 ≤ v) (v1 : v ≤ 255) :
    Calls Tryz.prog 65 #[.pointer (some ⟨b, 0, none⟩), .int .i64 4, .int .i64 i, .int .u8 v] w fun e w' => e = .returned (.tuple #[]) ∧ w' = w.setCell ⟨b, o, none⟩ (.int .u16 (v * 256 + n % 256)) := by
  have HI := Lib.hid hi
  clear hi
  have l0 : 0 ≤ n % 256 := by omega
  have l1 : n % 256 ≤ 255 := by omega
  go_enter Tryz.func65, Tryz.ntmps65
  go_wp2_with fail
  refine (index_at _ _ o _ HI.out).mono ?_
  rintro e w' ⟨rfl, rfl⟩
  go_wp2_with fail
  refine (lo_any _ _).mono ?_
  rintro e w' ⟨rfl, rfl⟩
  go_wp2_with fail
  refine (word_any _ _ _ v0 v1 l0 l1).mono ?_
  rintro e w' ⟨rfl, rfl⟩
  go_wp2_with fail
  refine bodyPost_ret (results_none rfl _ _ _) rfl ?_
  exact ⟨rfl, rfl⟩
set_option maxHeartbeats 400000 in
theorem putByte_lo (b : Nat) (i : Int) (o : Nat) (n v : Int) (w : World) (hi : offI i = some o) (hc : w.cell? ⟨b, o, none⟩ = some (.int .u16 n)) (hf : w.frozen? ⟨b, o, none⟩ = false) (n0 : 0 ≤ n) (n1 : n ≤ 65535) (v0 : 0 ≤ v) (v1 : v ≤ 255) :
    Calls Tryz.prog 65 #[.pointer (some ⟨b, 0, none⟩), .int .i64 5, .int .i64 i, .int .u8 v] w fun e w' => e = .returned (.tuple #[]) ∧ w' = w.setCell ⟨b, o, none⟩ (.int .u16 (n / 256 * 256 + v)) := by
  have HI := Lib.hid hi
  clear hi
  have l0 : 0 ≤ n / 256 := by omega
  have l1 : n / 256 ≤ 255 := by omega
  go_enter Tryz.func65, Tryz.ntmps65
  go_wp2_with fail
  refine (index_at _ _ o _ HI.out).mono ?_
  rintro e w' ⟨rfl, rfl⟩
  go_wp2_with fail
  refine (hi_any _ _ n0 n1).mono ?_
  rintro e w' ⟨rfl, rfl⟩
  go_wp2_with fail
  refine (word_any _ _ _ l0 l1 v0 v1).mono ?_
  rintro e w' ⟨rfl, rfl⟩
  go_wp2_with fail
  refine bodyPost_ret (results_none rfl _ _ _) rfl ?_
  exact ⟨rfl, rfl⟩
set_option maxHeartbeats 800000 in
theorem putByte_at (b : Nat) (k i : Int) (o : Nat) (n v : Int) (w : World) (hk : offB k = some o) (h : (k ≠ 4 ∧ k ≠ 5) ∨ offI i = none) (hc : w.cell? ⟨b, o, none⟩ = some (.int .u8 n)) (hf : w.frozen? ⟨b, o, none⟩ = false) :
    Calls Tryz.prog 65 #[.pointer (some ⟨b, 0, none⟩), .int .i64 k, .int .i64 i, .int .u8 v] w fun e w' => e = .returned (.tuple #[]) ∧ w' = w.setCell ⟨b, o, none⟩ (.int .u8 v) := by
  have HK := Lib.hid hk
  clear hk
  rcases hi : offI i with _ | p
  · have HI := Lib.hid hi
    clear hi h
    go_enter Tryz.func65, Tryz.ntmps65
    go_wp2_with fail
    refine (index_no _ _ _ HI.out).mono ?_
    rintro e w' ⟨rfl, rfl⟩
    go_wp2_with fail
    refine (single_at _ _ o _ HK.out).mono ?_
    rintro e w' ⟨rfl, rfl⟩
    go_wp2_with fail
    go_end0
    exact ⟨rfl, rfl⟩
  · have HI := Lib.hid hi
    obtain ⟨h4, h5⟩ : k ≠ 4 ∧ k ≠ 5 := h.resolve_right (by rw [hi]; simp)
    have e4 : (k == 4) = false := by simpa using h4
    have e5 : (k == 5) = false := by simpa using h5
    clear hi h h4 h5
    go_enter Tryz.func65, Tryz.ntmps65
    go_wp2_with fail
    refine (index_at _ _ p _ HI.out).mono ?_
    rintro e w' ⟨rfl, rfl⟩
    go_wp2_with fail
    refine (single_at _ _ o _ HK.out).mono ?_
    rintro e w' ⟨rfl, rfl⟩
    go_wp2_with fail
    go_end0
    exact ⟨rfl, rfl⟩
set_option maxHeartbeats 800000 in
theorem putByte_no (b : Nat) (k i v : Int) (w : World) (hk : offB k = none) (h4 : k ≠ 4) (h5 : k ≠ 5) :
    Calls Tryz.prog 65 #[.pointer (some ⟨b, 0, none⟩), .int .i64 k, .int .i64 i, .int .u8 v] w fun e w' => e = .returned (.tuple #[]) ∧ w' = w := by
  have HK := Lib.hid hk
  have e4 : (k == 4) = false := by simpa using h4
  have e5 : (k == 5) = false := by simpa using h5
  clear hk h4 h5
  rcases hi : offI i with _ | p
  · have HI := Lib.hid hi
    clear hi
    go_enter Tryz.func65, Tryz.ntmps65
    go_wp2_with fail
    refine (index_no _ _ _ HI.out).mono ?_
    rintro e w' ⟨rfl, rfl⟩
    go_wp2_with fail
    refine (single_no _ _ _ HK.out).mono ?_
    rintro e w' ⟨rfl, rfl⟩
    go_wp2_with fail
    go_end0
    exact ⟨rfl, rfl⟩
  · have HI := Lib.hid hi
    clear hi
    go_enter Tryz.func65, Tryz.ntmps65
    go_wp2_with fail
    refine (index_at _ _ p _ HI.out).mono ?_
    rintro e w' ⟨rfl, rfl⟩
    go_wp2_with fail
    refine (single_no _ _ _ HK.out).mono ?_
    rintro e w' ⟨rfl, rfl⟩
    go_wp2_with fail
    go_end0
    exact ⟨rfl, rfl⟩
/-- What a call that writes registers at b leaves. -/
def Puts (b : Nat) (y : Rg) (w : World) (e : Ending) (w' : World) : Prop := e = .returned (.tuple #[]) ∧ Wrote b w w' ∧ RegAt w' b y
theorem puts_of {b : Nat} {x y : Rg} {w : World} {f : FuncId} {args : Array Value} (h : RegAt w b x) (o : Nat) (v : Value) (ho : o < 30) (hy : y.cells = x.cells.set o v)
    (hc : Calls Tryz.prog f args w fun e w' => e = .returned (.tuple #[]) ∧ w' = w.setCell ⟨b, o, none⟩ v) : Calls Tryz.prog f args w (Puts b y w) :=
  hc.mono fun _ _ ⟨he, hw⟩ => ⟨he, hw ▸ Wrote.setCell _ _ _ _, hw ▸ h.set o v ho hy⟩
theorem putByte_any (b : Nat) (x : Rg) (k i v : Int) (w : World) (h : RegAt w b x) (ok : x.Ok) (v0 : 0 ≤ v) (v1 : v ≤ 255) :
    Calls Tryz.prog 65 #[.pointer (some ⟨b, 0, none⟩), .int .i64 k, .int .i64 i, .int .u8 v] w (Puts b (putV x k i v) w) := by
  rcases offB_of k with ⟨rfl, hk⟩ | ⟨rfl, hk⟩ | ⟨rfl, hk⟩ | ⟨rfl, hk⟩ | rfl | rfl | ⟨rfl, hk⟩ | ⟨h0, h1, h2, h3, h4, h5, h7, hk⟩
  · exact puts_of h 2 _ (by decide) rfl (putByte_at b 0 i 2 _ v w hk (Or.inl (by decide)) (h.cell 2 _ rfl) (h.free _))
  · exact puts_of h 3 _ (by decide) rfl (putByte_at b 1 i 3 _ v w hk (Or.inl (by decide)) (h.cell 3 _ rfl) (h.free _))
  · exact puts_of h 4 _ (by decide) rfl (putByte_at b 2 i 4 _ v w hk (Or.inl (by decide)) (h.cell 4 _ rfl) (h.free _))
  · exact puts_of h 5 _ (by decide) rfl (putByte_at b 3 i 5 _ v w hk (Or.inl (by decide)) (h.cell 5 _ rfl) (h.free _))
  · rcases off_of i with ⟨rfl, hi⟩ | ⟨rfl, hi⟩ | ⟨h1, h2, hi⟩
    · exact puts_of h 19 _ (by decide) rfl (putByte_hi b 1 19 _ v w hi (h.cell 19 _ rfl) (h.free _) v0 v1)
    · exact puts_of h 20 _ (by decide) rfl (putByte_hi b 2 20 _ v w hi (h.cell 20 _ rfl) (h.free _) v0 v1)
    · rw [show putV x 4 i v = { x with h := v } by simp [putV, putHi, h1, h2]]
      exact puts_of h 6 _ (by decide) rfl (putByte_at b 4 i 6 _ v w rfl (Or.inr hi) (h.cell 6 _ rfl) (h.free _))
  · rcases off_of i with ⟨rfl, hi⟩ | ⟨rfl, hi⟩ | ⟨h1, h2, hi⟩
    · exact puts_of h 19 _ (by decide) rfl (putByte_lo b 1 19 _ v w hi (h.cell 19 _ rfl) (h.free _) ok.ix.1 ok.ix.2 v0 v1)
    · exact puts_of h 20 _ (by decide) rfl (putByte_lo b 2 20 _ v w hi (h.cell 20 _ rfl) (h.free _) ok.iy.1 ok.iy.2 v0 v1)
    · rw [show putV x 5 i v = { x with l := v } by simp [putV, putLo, h1, h2]]
      exact puts_of h 7 _ (by decide) rfl (putByte_at b 5 i 7 _ v w rfl (Or.inr hi) (h.cell 7 _ rfl) (h.free _))
  · exact puts_of h 0 _ (by decide) rfl (putByte_at b 7 i 0 _ v w hk (Or.inl (by decide)) (h.cell 0 _ rfl) (h.free _))
  · rw [show putV x k i v = x by simp [putV, h0, h1, h2, h3, h4, h5, h7]]
    exact (putByte_no b k i v w hk h4 h5).mono fun _ _ ⟨he, hw⟩ => ⟨he, hw ▸ Wrote.refl _ _, hw ▸ h⟩

end Go.Proofs.YtcfkpeemhleleaaGreatDoor
/- Small facts on worlds for regions that draw: no program is named here. -/
namespace Go.Proofs.YtcfkpeemhleleaaGreatDoor
open Go.RowKit

/-- A callee that leaves the world alone, as go_quiet asks. -/
theorem quiet_eq {P : Program} {f : FuncId} {args : Array Value} {w : World} {n : Nat} {v : Value} (h : Calls P f args (w.drewN n) fun e w' => e = .returned v ∧ w.drewN n = w') : Calls P f args (w.drewN n) fun e w'' => e = .returned v ∧ ∃ m, w'' = w.drewN m :=
  h.mono fun _ _ ⟨he, hm⟩ => ⟨he, n, hm.symm⟩

end Go.Proofs.YtcfkpeemhleleaaGreatDoor
/- regs.Pair, PutPair, Af, PutAf, Ir, Tick: their contracts. -/
namespace Go.Proofs.YtcfkpeemhleleaaGreatDoor
open Go.RowKit

def pairV (x : Rg) (k i : Int) : Int := if k = 0 then x.b * 256 + x.c else if k = 1 then x.d * 256 + x.e else if k = 2 then (if i = 1 then x.ix else if i = 2 then x.iy else x.h * 256 + x.l) else if k = 3 then x.sp else 0
def putPairV (x : Rg) (k i n : Int) : Rg := if k = 0 then { x with b := n / 256, c := n % 256 } else if k = 1 then { x with d := n / 256, e := n % 256 } else if k = 2 then (if i = 1 then { x with ix := n } else if i = 2 then { x with iy := n } else { x with h := n / 256, l := n % 256 }) else if k = 3 then { x with sp := n } else x

theorem below_drewN (w : World) (n : Nat) : Below w.heap.size w (w.drewN n) := ⟨rfl, rfl, rfl, Nat.le_refl _, fun _ _ => rfl⟩

set_option maxHeartbeats 400000 in
theorem pair_word (b : Nat) (k i : Int) (o : Nat) (n : Int) (w : World) (hk : offW k i = some o) (hc : w.cell? ⟨b, o, none⟩ = some (.int .u16 n)) :
    Calls Tryz.prog 89 #[.pointer (some ⟨b, 0, none⟩), .int .i64 k, .int .i64 i] w fun e w' => e = .returned (.int .u16 n) ∧ ∃ m, w' = w.drewN m := by
  have HK := Lib.hid hk
  clear hk
  go_enter Tryz.func89, Tryz.ntmps89
  go_wp2_with fail
  refine (wordAt_at _ _ _ o _ HK.out).mono ?_
  rintro e w' ⟨rfl, rfl⟩
  go_wp2_with fail
  go_ret
  exact ⟨rfl, 0, rfl⟩
set_option maxHeartbeats 400000 in
theorem pair_two (b : Nat) (k i : Int) (o p : Nat) (m n r : Int) (w : World) (hk : offW k i = none) (hp : offP k = some (o, p)) (ho : w.cell? ⟨b, o, none⟩ = some (.int .u8 m)) (hc : w.cell? ⟨b, p, none⟩ = some (.int .u8 n)) (m8 : B8 m) (n8 : B8 n) (hr : m * 256 + n = r) :
    Calls Tryz.prog 89 #[.pointer (some ⟨b, 0, none⟩), .int .i64 k, .int .i64 i] w fun e w' => e = .returned (.int .u16 r) ∧ ∃ m, w' = w.drewN m := by
  have HK := Lib.hid hk
  have HP := Lib.hid hp
  have M8 := Lib.hid m8
  have N8 := Lib.hid n8
  have HW := Lib.hid (fun w => word_any m n w m8.1 m8.2 n8.1 n8.2)
  rw [hr] at HW
  clear hk hp m8 n8 hr
  go_enter Tryz.func89, Tryz.ntmps89
  go_wp2_with fail
  refine (wordAt_no _ _ _ _ HK.out).mono ?_
  rintro e w' ⟨rfl, rfl⟩
  go_wp2_with fail
  refine (halves_at _ _ o p _ HP.out).mono ?_
  rintro e w' ⟨rfl, rfl⟩
  go_wp2_with fail
  go_quiet ((go_at_call 49; exact quiet_eq (HW.out _)))
  go_wp2_with fail
  go_ret
  exact ⟨rfl, _, rfl⟩
set_option maxHeartbeats 400000 in
theorem pair_no (b : Nat) (k i : Int) (w : World) (hk : offW k i = none) (h0 : k ≠ 0) (h1 : k ≠ 1) (h2 : k ≠ 2) :
    Calls Tryz.prog 89 #[.pointer (some ⟨b, 0, none⟩), .int .i64 k, .int .i64 i] w fun e w' => e = .returned (.int .u16 0) ∧ ∃ m, w' = w.drewN m := by
  have HK := Lib.hid hk
  have HN := Lib.hid (fun w => halves_no b k w h0 h1 h2)
  clear hk h0 h1 h2
  go_enter Tryz.func89, Tryz.ntmps89
  go_wp2_with fail
  refine (wordAt_no _ _ _ _ HK.out).mono ?_
  rintro e w' ⟨rfl, rfl⟩
  go_wp2_with fail
  refine (HN.out _).mono ?_
  rintro e w' ⟨rfl, rfl⟩
  go_wp2_with fail
  go_ret
  exact ⟨rfl, 0, rfl⟩
theorem pairs_of (k i : Int) : (k = 0 ∧ offW k i = none) ∨ (k = 1 ∧ offW k i = none) ∨ (k = 2 ∧ i = 1 ∧ offW k i = some 19) ∨ (k = 2 ∧ i = 2 ∧ offW k i = some 20) ∨ (k = 2 ∧ i ≠ 1 ∧ i ≠ 2 ∧ offW k i = none) ∨ (k = 3 ∧ offW k i = some 21) ∨ (k ≠ 0 ∧ k ≠ 1 ∧ k ≠ 2 ∧ k ≠ 3 ∧ offW k i = none) := by
  by_cases h0 : k = 0
  · left; subst h0; exact ⟨rfl, rfl⟩
  by_cases h1 : k = 1
  · right; left; subst h1; exact ⟨rfl, rfl⟩
  by_cases h2 : k = 2
  · subst h2
    rcases off_of i with ⟨e, h⟩ | ⟨e, h⟩ | ⟨e1, e2, h⟩
    · right; right; left; exact ⟨rfl, e, h⟩
    · right; right; right; left; exact ⟨rfl, e, h⟩
    · right; right; right; right; left; exact ⟨rfl, e1, e2, h⟩
  by_cases h3 : k = 3
  · right; right; right; right; right; left; subst h3; exact ⟨rfl, rfl⟩
  · right; right; right; right; right; right
    exact ⟨h0, h1, h2, h3, by unfold offW; rw [if_neg h2, if_neg h3]⟩
theorem pairD_any (b : Nat) (x : Rg) (k i : Int) (w : World) (h : RegAt w b x) (ok : x.Ok) :
    Calls Tryz.prog 89 #[.pointer (some ⟨b, 0, none⟩), .int .i64 k, .int .i64 i] w fun e w' => e = .returned (.int .u16 (pairV x k i)) ∧ ∃ m, w' = w.drewN m := by
  rcases pairs_of k i with ⟨rfl, hk⟩ | ⟨rfl, hk⟩ | ⟨rfl, rfl, hk⟩ | ⟨rfl, rfl, hk⟩ | ⟨rfl, h1, h2, hk⟩ | ⟨rfl, hk⟩ | ⟨h0, h1, h2, h3, hk⟩
  · exact pair_two b 0 i 2 3 _ _ _ w hk rfl (h.cell 2 _ rfl) (h.cell 3 _ rfl) ok.b ok.c rfl
  · exact pair_two b 1 i 4 5 _ _ _ w hk rfl (h.cell 4 _ rfl) (h.cell 5 _ rfl) ok.d ok.e rfl
  · exact pair_word b 2 1 19 _ w hk (h.cell 19 _ rfl)
  · exact pair_word b 2 2 20 _ w hk (h.cell 20 _ rfl)
  · rw [show pairV x 2 i = x.h * 256 + x.l by simp [pairV, h1, h2]]
    exact pair_two b 2 i 6 7 _ _ _ w hk rfl (h.cell 6 _ rfl) (h.cell 7 _ rfl) ok.h ok.l rfl
  · exact pair_word b 3 i 21 _ w hk (h.cell 21 _ rfl)
  · rw [show pairV x k i = 0 by simp [pairV, h0, h1, h2, h3]]
    exact pair_no b k i w hk h0 h1 h2

set_option maxHeartbeats 400000 in
theorem putPair_word (b : Nat) (k i : Int) (o : Nat) (m n : Int) (w : World) (hk : offW k i = some o) (hc : w.cell? ⟨b, o, none⟩ = some (.int .u16 m)) (hf : w.frozen? ⟨b, o, none⟩ = false) :
    Calls Tryz.prog 139 #[.pointer (some ⟨b, 0, none⟩), .int .i64 k, .int .i64 i, .int .u16 n] w fun e w' => e = .returned (.tuple #[]) ∧ w' = w.setCell ⟨b, o, none⟩ (.int .u16 n) := by
  have HK := Lib.hid hk
  clear hk
  go_enter Tryz.func139, Tryz.ntmps139
  go_wp2_with fail
  refine (wordAt_at _ _ _ o _ HK.out).mono ?_
  rintro e w' ⟨rfl, rfl⟩
  go_wp2_with fail
  refine bodyPost_ret (results_none rfl _ _ _) rfl ?_
  exact ⟨rfl, rfl⟩
set_option maxHeartbeats 800000 in
theorem putPair_two (b : Nat) (k i : Int) (o p : Nat) (u v n : Int) (w : World) (hk : offW k i = none) (hp : offP k = some (o, p)) (ho : w.cell? ⟨b, o, none⟩ = some (.int .u8 u)) (hc : w.cell? ⟨b, p, none⟩ = some (.int .u8 v))
    (hf : w.frozen? ⟨b, o, none⟩ = false) (hg : w.frozen? ⟨b, p, none⟩ = false) (hne : o ≠ p) (n0 : 0 ≤ n) (n1 : n ≤ 65535) :
    Calls Tryz.prog 139 #[.pointer (some ⟨b, 0, none⟩), .int .i64 k, .int .i64 i, .int .u16 n] w fun e w' => e = .returned (.tuple #[]) ∧ w' = (w.setCell ⟨b, o, none⟩ (.int .u8 (n / 256))).setCell ⟨b, p, none⟩ (.int .u8 (n % 256)) := by
  have HK := Lib.hid hk
  have HP := Lib.hid hp
  have hc2 : (w.setCell ⟨b, o, none⟩ (.int .u8 (n / 256))).cell? ⟨b, p, none⟩ = some (.int .u8 v) := by
    rw [World.cell?_setCell_other _ _ _ _ (by intro hh; injection hh with _ h2; exact hne h2)]; exact hc
  clear hk hp
  go_enter Tryz.func139, Tryz.ntmps139
  go_wp2_with fail
  refine (wordAt_no _ _ _ _ HK.out).mono ?_
  rintro e w' ⟨rfl, rfl⟩
  go_wp2_with fail
  refine (halves_at _ _ o p _ HP.out).mono ?_
  rintro e w' ⟨rfl, rfl⟩
  go_wp2_with fail
  refine (hi_any _ _ n0 n1).mono ?_
  rintro e w' ⟨rfl, rfl⟩
  go_wp2_with fail
  refine (lo_any _ _).mono ?_
  rintro e w' ⟨rfl, rfl⟩
  go_wp2_with fail
  go_end0
  exact ⟨rfl, rfl⟩
set_option maxHeartbeats 400000 in
theorem putPair_no (b : Nat) (k i n : Int) (w : World) (hk : offW k i = none) (h0 : k ≠ 0) (h1 : k ≠ 1) (h2 : k ≠ 2) :
    Calls Tryz.prog 139 #[.pointer (some ⟨b, 0, none⟩), .int .i64 k, .int .i64 i, .int .u16 n] w fun e w' => e = .returned (.tuple #[]) ∧ w' = w := by
  have HK := Lib.hid hk
  have HN := Lib.hid (fun w => halves_no b k w h0 h1 h2)
  clear hk h0 h1 h2
  go_enter Tryz.func139, Tryz.ntmps139
  go_wp2_with fail
  refine (wordAt_no _ _ _ _ HK.out).mono ?_
  rintro e w' ⟨rfl, rfl⟩
  go_wp2_with fail
  refine (HN.out _).mono ?_
  rintro e w' ⟨rfl, rfl⟩
  go_wp2_with fail
  go_end0
  exact ⟨rfl, rfl⟩
theorem puts_two {b : Nat} {x z y : Rg} {w : World} {f : FuncId} {args : Array Value} (h : RegAt w b x) (o p : Nat) (u v : Value) (ho : o < 30) (hp : p < 30) (hz : z.cells = x.cells.set o u) (hy : y.cells = z.cells.set p v)
    (hc : Calls Tryz.prog f args w fun e w' => e = .returned (.tuple #[]) ∧ w' = (w.setCell ⟨b, o, none⟩ u).setCell ⟨b, p, none⟩ v) : Calls Tryz.prog f args w (Puts b y w) :=
  hc.mono fun _ _ ⟨he, hw⟩ => ⟨he, hw ▸ (Wrote.setCell _ _ _ _).trans (Wrote.setCell _ _ _ _), hw ▸ (h.set o u ho hz).set p v hp hy⟩
theorem putPair_any (b : Nat) (x : Rg) (k i n : Int) (w : World) (h : RegAt w b x) (n0 : 0 ≤ n) (n1 : n ≤ 65535) :
    Calls Tryz.prog 139 #[.pointer (some ⟨b, 0, none⟩), .int .i64 k, .int .i64 i, .int .u16 n] w (Puts b (putPairV x k i n) w) := by
  rcases pairs_of k i with ⟨rfl, hk⟩ | ⟨rfl, hk⟩ | ⟨rfl, rfl, hk⟩ | ⟨rfl, rfl, hk⟩ | ⟨rfl, h1, h2, hk⟩ | ⟨rfl, hk⟩ | ⟨h0, h1, h2, h3, hk⟩
  · exact puts_two (z := { x with b := n / 256 }) h 2 3 _ _ (by decide) (by decide) rfl rfl (putPair_two b 0 i 2 3 _ _ n w hk rfl (h.cell 2 _ rfl) (h.cell 3 _ rfl) (h.free _) (h.free _) (by decide) n0 n1)
  · exact puts_two (z := { x with d := n / 256 }) h 4 5 _ _ (by decide) (by decide) rfl rfl (putPair_two b 1 i 4 5 _ _ n w hk rfl (h.cell 4 _ rfl) (h.cell 5 _ rfl) (h.free _) (h.free _) (by decide) n0 n1)
  · exact puts_of h 19 _ (by decide) rfl (putPair_word b 2 1 19 _ n w hk (h.cell 19 _ rfl) (h.free _))
  · exact puts_of h 20 _ (by decide) rfl (putPair_word b 2 2 20 _ n w hk (h.cell 20 _ rfl) (h.free _))
  · rw [show putPairV x 2 i n = { x with h := n / 256, l := n % 256 } by simp [putPairV, h1, h2]]
    exact puts_two (z := { x with h := n / 256 }) h 6 7 _ _ (by decide) (by decide) rfl rfl (putPair_two b 2 i 6 7 _ _ n w hk rfl (h.cell 6 _ rfl) (h.cell 7 _ rfl) (h.free _) (h.free _) (by decide) n0 n1)
  · exact puts_of h 21 _ (by decide) rfl (putPair_word b 3 i 21 _ n w hk (h.cell 21 _ rfl) (h.free _))
  · rw [show putPairV x k i n = x by simp [putPairV, h0, h1, h2, h3]]
    exact (putPair_no b k i n w hk h0 h1 h2).mono fun _ _ ⟨he, hw⟩ => ⟨he, hw ▸ Wrote.refl _ _, hw ▸ h⟩

set_option maxHeartbeats 400000 in
theorem ir_any (b : Nat) (x : Rg) (w : World) (h : RegAt w b x) (ok : x.Ok) : Calls Tryz.prog 150 #[.pointer (some ⟨b, 0, none⟩)] w fun e w' => e = .returned (.int .u16 (x.i * 256 + x.r)) ∧ Below w.heap.size w w' := by
  have c0 := h.cell 16 _ rfl
  have c1 := h.cell 17 _ rfl
  have HW := Lib.hid (fun w => word_any x.i x.r w ok.i.1 ok.i.2 ok.r.1 ok.r.2)
  clear h ok
  go_enter Tryz.func150, Tryz.ntmps150
  go_wp2_with fail
  go_quiet ((go_at_call 49; exact quiet_eq (HW.out _)))
  go_wp2_with fail
  go_ret
  exact ⟨rfl, below_drewN _ _⟩
end Go.Proofs.YtcfkpeemhleleaaGreatDoor
/- regs.ExAf, Exx, ExDe, Tick: their contracts. -/
namespace Go.Proofs.YtcfkpeemhleleaaGreatDoor
open Go.RowKit

def exAf (x : Rg) : Rg := { x with a := x.a2, a2 := x.a, f := x.f2, f2 := x.f }
def exx (x : Rg) : Rg := { x with b := x.b2, b2 := x.b, c := x.c2, c2 := x.c, d := x.d2, d2 := x.d, e := x.e2, e2 := x.e, h := x.h2, h2 := x.h, l := x.l2, l2 := x.l }
def exDe (x : Rg) : Rg := { x with d := x.h, h := x.d, e := x.l, l := x.e }
def tickV (r : Int) : Int := if 128 ≤ r then 128 + (r - 127) % 128 else (r + 1) % 128

/-- Two cells that change places. -/
theorem swapped {w : World} {b : Nat} {x : Rg} (h : RegAt w b x) (o p : Nat) (u v : Value) (ho : o < 30) (hp : p < 30) (z y : Rg) (hz : z.cells = x.cells.set o u) (hy : y.cells = z.cells.set p v) :
    RegAt ((w.setCell ⟨b, o, none⟩ u).setCell ⟨b, p, none⟩ v).drew b y ∧ Wrote b w ((w.setCell ⟨b, o, none⟩ u).setCell ⟨b, p, none⟩ v).drew :=
  ⟨((h.set o u ho hz).set p v hp hy).drew, ((Wrote.setCell _ _ _ _).trans (Wrote.setCell _ _ _ _)).drew⟩

set_option maxHeartbeats 1600000 in
theorem exAf_any (b : Nat) (x : Rg) (w : World) (h : RegAt w b x) : Calls Tryz.prog 140 #[.pointer (some ⟨b, 0, none⟩)] w (Puts b (exAf x) w) := by
  unfold Puts
  have H0 := Lib.hid h
  clear h
  have c0 := H0.out.cell 0 _ rfl
  have c1 := H0.out.cell 8 _ rfl
  have f0 := H0.out.free 0
  have f1 := H0.out.free 8
  go_enter Tryz.func140, Tryz.ntmps140
  go_wp2_with fail
  go_region
  have k := swapped H0.out 0 8 (.int .u8 x.a2) (.int .u8 x.a) (by decide) (by decide) { x with a := x.a2 } { x with a := x.a2, a2 := x.a } rfl rfl
  generalize ((w.setCell ⟨b, 0, none⟩ (.int .u8 x.a2)).setCell ⟨b, 8, none⟩ (.int .u8 x.a)).drew = w1 at k ⊢
  have H1 := Lib.hid k.1
  have G1 := Lib.hid k.2
  clear k c0 c1 f0 f1 H0
  have c0 := H1.out.cell 1 _ rfl
  have c1 := H1.out.cell 9 _ rfl
  have f0 := H1.out.free 1
  have f1 := H1.out.free 9
  go_wp2_with fail
  go_region
  have k := swapped H1.out 1 9 (.int .u8 x.f2) (.int .u8 x.f) (by decide) (by decide) { x with a := x.a2, a2 := x.a, f := x.f2 } { x with a := x.a2, a2 := x.a, f := x.f2, f2 := x.f } rfl rfl
  generalize ((w1.setCell ⟨b, 1, none⟩ (.int .u8 x.f2)).setCell ⟨b, 9, none⟩ (.int .u8 x.f)).drew = w2 at k ⊢
  have H2 := Lib.hid k.1
  have G2 := Lib.hid (G1.out.trans k.2)
  clear k c0 c1 f0 f1 H1 G1
  go_wp2_with fail
  go_end0
  exact ⟨rfl, G2.out, H2.out⟩
set_option maxHeartbeats 1600000 in
theorem exx_any (b : Nat) (x : Rg) (w : World) (h : RegAt w b x) : Calls Tryz.prog 141 #[.pointer (some ⟨b, 0, none⟩)] w (Puts b (exx x) w) := by
  unfold Puts
  have H0 := Lib.hid h
  clear h
  have c0 := H0.out.cell 2 _ rfl
  have c1 := H0.out.cell 10 _ rfl
  have f0 := H0.out.free 2
  have f1 := H0.out.free 10
  go_enter Tryz.func141, Tryz.ntmps141
  go_wp2_with fail
  go_region
  have k := swapped H0.out 2 10 (.int .u8 x.b2) (.int .u8 x.b) (by decide) (by decide) { x with b := x.b2 } { x with b := x.b2, b2 := x.b } rfl rfl
  generalize ((w.setCell ⟨b, 2, none⟩ (.int .u8 x.b2)).setCell ⟨b, 10, none⟩ (.int .u8 x.b)).drew = w1 at k ⊢
  have H1 := Lib.hid k.1
  have G1 := Lib.hid k.2
  clear k c0 c1 f0 f1 H0
  have c0 := H1.out.cell 3 _ rfl
  have c1 := H1.out.cell 11 _ rfl
  have f0 := H1.out.free 3
  have f1 := H1.out.free 11
  go_wp2_with fail
  go_region
  have k := swapped H1.out 3 11 (.int .u8 x.c2) (.int .u8 x.c) (by decide) (by decide) { x with b := x.b2, b2 := x.b, c := x.c2 } { x with b := x.b2, b2 := x.b, c := x.c2, c2 := x.c } rfl rfl
  generalize ((w1.setCell ⟨b, 3, none⟩ (.int .u8 x.c2)).setCell ⟨b, 11, none⟩ (.int .u8 x.c)).drew = w2 at k ⊢
  have H2 := Lib.hid k.1
  have G2 := Lib.hid (G1.out.trans k.2)
  clear k c0 c1 f0 f1 H1 G1
  have c0 := H2.out.cell 4 _ rfl
  have c1 := H2.out.cell 12 _ rfl
  have f0 := H2.out.free 4
  have f1 := H2.out.free 12
  go_wp2_with fail
  go_region
  have k := swapped H2.out 4 12 (.int .u8 x.d2) (.int .u8 x.d) (by decide) (by decide) { x with b := x.b2, b2 := x.b, c := x.c2, c2 := x.c, d := x.d2 } { x with b := x.b2, b2 := x.b, c := x.c2, c2 := x.c, d := x.d2, d2 := x.d } rfl rfl
  generalize ((w2.setCell ⟨b, 4, none⟩ (.int .u8 x.d2)).setCell ⟨b, 12, none⟩ (.int .u8 x.d)).drew = w3 at k ⊢
  have H3 := Lib.hid k.1
  have G3 := Lib.hid (G2.out.trans k.2)
  clear k c0 c1 f0 f1 H2 G2
  have c0 := H3.out.cell 5 _ rfl
  have c1 := H3.out.cell 13 _ rfl
  have f0 := H3.out.free 5
  have f1 := H3.out.free 13
  go_wp2_with fail
  go_region
  have k := swapped H3.out 5 13 (.int .u8 x.e2) (.int .u8 x.e) (by decide) (by decide) { x with b := x.b2, b2 := x.b, c := x.c2, c2 := x.c, d := x.d2, d2 := x.d, e := x.e2 } { x with b := x.b2, b2 := x.b, c := x.c2, c2 := x.c, d := x.d2, d2 := x.d, e := x.e2, e2 := x.e } rfl rfl
  generalize ((w3.setCell ⟨b, 5, none⟩ (.int .u8 x.e2)).setCell ⟨b, 13, none⟩ (.int .u8 x.e)).drew = w4 at k ⊢
  have H4 := Lib.hid k.1
  have G4 := Lib.hid (G3.out.trans k.2)
  clear k c0 c1 f0 f1 H3 G3
  have c0 := H4.out.cell 6 _ rfl
  have c1 := H4.out.cell 14 _ rfl
  have f0 := H4.out.free 6
  have f1 := H4.out.free 14
  go_wp2_with fail
  go_region
  have k := swapped H4.out 6 14 (.int .u8 x.h2) (.int .u8 x.h) (by decide) (by decide) { x with b := x.b2, b2 := x.b, c := x.c2, c2 := x.c, d := x.d2, d2 := x.d, e := x.e2, e2 := x.e, h := x.h2 } { x with b := x.b2, b2 := x.b, c := x.c2, c2 := x.c, d := x.d2, d2 := x.d, e := x.e2, e2 := x.e, h := x.h2, h2 := x.h } rfl rfl
  generalize ((w4.setCell ⟨b, 6, none⟩ (.int .u8 x.h2)).setCell ⟨b, 14, none⟩ (.int .u8 x.h)).drew = w5 at k ⊢
  have H5 := Lib.hid k.1
  have G5 := Lib.hid (G4.out.trans k.2)
  clear k c0 c1 f0 f1 H4 G4
  have c0 := H5.out.cell 7 _ rfl
  have c1 := H5.out.cell 15 _ rfl
  have f0 := H5.out.free 7
  have f1 := H5.out.free 15
  go_wp2_with fail
  go_region
  have k := swapped H5.out 7 15 (.int .u8 x.l2) (.int .u8 x.l) (by decide) (by decide) { x with b := x.b2, b2 := x.b, c := x.c2, c2 := x.c, d := x.d2, d2 := x.d, e := x.e2, e2 := x.e, h := x.h2, h2 := x.h, l := x.l2 } { x with b := x.b2, b2 := x.b, c := x.c2, c2 := x.c, d := x.d2, d2 := x.d, e := x.e2, e2 := x.e, h := x.h2, h2 := x.h, l := x.l2, l2 := x.l } rfl rfl
  generalize ((w5.setCell ⟨b, 7, none⟩ (.int .u8 x.l2)).setCell ⟨b, 15, none⟩ (.int .u8 x.l)).drew = w6 at k ⊢
  have H6 := Lib.hid k.1
  have G6 := Lib.hid (G5.out.trans k.2)
  clear k c0 c1 f0 f1 H5 G5
  go_wp2_with fail
  go_end0
  exact ⟨rfl, G6.out, H6.out⟩
set_option maxHeartbeats 1600000 in
theorem exDe_any (b : Nat) (x : Rg) (w : World) (h : RegAt w b x) : Calls Tryz.prog 142 #[.pointer (some ⟨b, 0, none⟩)] w (Puts b (exDe x) w) := by
  unfold Puts
  have H0 := Lib.hid h
  clear h
  have c0 := H0.out.cell 4 _ rfl
  have c1 := H0.out.cell 6 _ rfl
  have f0 := H0.out.free 4
  have f1 := H0.out.free 6
  go_enter Tryz.func142, Tryz.ntmps142
  go_wp2_with fail
  go_region
  have k := swapped H0.out 4 6 (.int .u8 x.h) (.int .u8 x.d) (by decide) (by decide) { x with d := x.h } { x with d := x.h, h := x.d } rfl rfl
  generalize ((w.setCell ⟨b, 4, none⟩ (.int .u8 x.h)).setCell ⟨b, 6, none⟩ (.int .u8 x.d)).drew = w1 at k ⊢
  have H1 := Lib.hid k.1
  have G1 := Lib.hid k.2
  clear k c0 c1 f0 f1 H0
  have c0 := H1.out.cell 5 _ rfl
  have c1 := H1.out.cell 7 _ rfl
  have f0 := H1.out.free 5
  have f1 := H1.out.free 7
  go_wp2_with fail
  go_region
  have k := swapped H1.out 5 7 (.int .u8 x.l) (.int .u8 x.e) (by decide) (by decide) { x with d := x.h, h := x.d, e := x.l } { x with d := x.h, h := x.d, e := x.l, l := x.e } rfl rfl
  generalize ((w1.setCell ⟨b, 5, none⟩ (.int .u8 x.l)).setCell ⟨b, 7, none⟩ (.int .u8 x.e)).drew = w2 at k ⊢
  have H2 := Lib.hid k.1
  have G2 := Lib.hid (G1.out.trans k.2)
  clear k c0 c1 f0 f1 H1 G1
  go_wp2_with fail
  go_end0
  exact ⟨rfl, G2.out, H2.out⟩
theorem tick_is (r : Int) (r0 : 0 ≤ r) (r1 : r ≤ 255) : bits .or .u8 (bits .andNot .u8 r 127) (bits .and .u8 ((r + 1) % 256) 127) = tickV r := by
  have h : ∀ n : Fin 256, bits .or .u8 (bits .andNot .u8 (n.val : Int) 127) (bits .and .u8 (((n.val : Int) + 1) % 256) 127) = tickV (n.val : Int) := by decide +kernel
  exact fin256 (P := fun r => bits .or .u8 (bits .andNot .u8 r 127) (bits .and .u8 ((r + 1) % 256) 127) = tickV r) h r r0 r1
set_option maxHeartbeats 800000 in
theorem tick_any (b : Nat) (x : Rg) (w : World) (h : RegAt w b x) (hr : B8 x.r) : Calls Tryz.prog 40 #[.pointer (some ⟨b, 0, none⟩)] w (Puts b { x with r := tickV x.r } w) := by
  unfold Puts
  have c0 := h.cell 17 _ rfl
  have f0 := h.free 17
  have e := tick_is x.r hr.1 hr.2
  have r0 := hr.1
  have r1 := hr.2
  have k : RegAt (w.setCell ⟨b, 17, none⟩ (.int .u8 (tickV x.r))).drew b { x with r := tickV x.r } ∧ Wrote b w (w.setCell ⟨b, 17, none⟩ (.int .u8 (tickV x.r))).drew := ⟨(RegAt.set (y := { x with r := tickV x.r }) h 17 (.int .u8 (tickV x.r)) (by decide) rfl).drew, (Wrote.setCell _ _ _ _).drew⟩
  have K := Lib.hid k
  clear k h hr
  go_enter Tryz.func40, Tryz.ntmps40
  go_wp2_with fail
  go_region
  go_wp2_with fail
  go_end0
  exact ⟨rfl, K.out.2, K.out.1⟩

end Go.Proofs.YtcfkpeemhleleaaGreatDoor
/- Texts as lists of bytes. No program is named here. -/
namespace Go.Proofs.YtcfkpeemhleleaaGreatDoor
open Go.RowKit


def strL (l : List UInt8) : ByteArray := ⟨l.toArray⟩
theorem strL_size (l : List UInt8) : (strL l).size = l.length := by simp [strL, ByteArray.size]
theorem strL_app (a b : List UInt8) : strL a ++ strL b = strL (a ++ b) := by
  apply ByteArray.ext
  simp [strL]

end Go.Proofs.YtcfkpeemhleleaaGreatDoor
/- Digits of the base 16: plain facts. No program is named here. -/
namespace Go.Proofs.YtcfkpeemhleleaaGreatDoor
open Go.RowKit

end Go.Proofs.YtcfkpeemhleleaaGreatDoor
/- Instructions as text and as bytes: plain facts. No program is named here. -/
namespace Go.Proofs.YtcfkpeemhleleaaGreatDoor
set_option maxRecDepth 100000

def regsL : List (List UInt8) := [[98], [99], [100], [101], [104], [108], [40, 104, 108, 41], [97]]
def opersL : List (List UInt8) := [[97, 100, 100, 32, 97, 44], [97, 100, 99, 32, 97, 44], [115, 117, 98, 32], [115, 98, 99, 32, 97, 44], [97, 110, 100, 32], [120, 111, 114, 32], [111, 114, 32], [99, 112, 32]]
def firstL : List (List UInt8) := [[110, 111, 112], [108, 100, 32, 98, 99, 44, 87], [108, 100, 32, 40, 98, 99, 41, 44, 97], [105, 110, 99, 32, 98, 99], [105, 110, 99, 32, 98], [100, 101, 99, 32, 98], [108, 100, 32, 98, 44, 78], [114, 108, 99, 97], [101, 120, 32, 97, 102, 44, 97, 102, 39], [97, 100, 100, 32, 104, 108, 44, 98, 99], [108, 100, 32, 97, 44, 40, 98, 99, 41], [100, 101, 99, 32, 98, 99], [105, 110, 99, 32, 99], [100, 101, 99, 32, 99], [108, 100, 32, 99, 44, 78], [114, 114, 99, 97], [100, 106, 110, 122, 32, 69], [108, 100, 32, 100, 101, 44, 87], [108, 100, 32, 40, 100, 101, 41, 44, 97], [105, 110, 99, 32, 100, 101], [105, 110, 99, 32, 100], [100, 101, 99, 32, 100], [108, 100, 32, 100, 44, 78], [114, 108, 97], [106, 114, 32, 69], [97, 100, 100, 32, 104, 108, 44, 100, 101], [108, 100, 32, 97, 44, 40, 100, 101, 41], [100, 101, 99, 32, 100, 101], [105, 110, 99, 32, 101], [100, 101, 99, 32, 101], [108, 100, 32, 101, 44, 78], [114, 114, 97], [106, 114, 32, 110, 122, 44, 69], [108, 100, 32, 104, 108, 44, 87], [108, 100, 32, 40, 87, 41, 44, 104, 108], [105, 110, 99, 32, 104, 108], [105, 110, 99, 32, 104], [100, 101, 99, 32, 104], [108, 100, 32, 104, 44, 78], [100, 97, 97], [106, 114, 32, 122, 44, 69], [97, 100, 100, 32, 104, 108, 44, 104, 108], [108, 100, 32, 104, 108, 44, 40, 87, 41], [100, 101, 99, 32, 104, 108], [105, 110, 99, 32, 108], [100, 101, 99, 32, 108], [108, 100, 32, 108, 44, 78], [99, 112, 108], [106, 114, 32, 110, 99, 44, 69], [108, 100, 32, 115, 112, 44, 87], [108, 100, 32, 40, 87, 41, 44, 97], [105, 110, 99, 32, 115, 112], [105, 110, 99, 32, 40, 104, 108, 41], [100, 101, 99, 32, 40, 104, 108, 41], [108, 100, 32, 40, 104, 108, 41, 44, 78], [115, 99, 102], [106, 114, 32, 99, 44, 69], [97, 100, 100, 32, 104, 108, 44, 115, 112], [108, 100, 32, 97, 44, 40, 87, 41], [100, 101, 99, 32, 115, 112], [105, 110, 99, 32, 97], [100, 101, 99, 32, 97], [108, 100, 32, 97, 44, 78], [99, 99, 102]]
def lastL : List (List UInt8) := [[114, 101, 116, 32, 110, 122], [112, 111, 112, 32, 98, 99], [106, 112, 32, 110, 122, 44, 87], [106, 112, 32, 87], [99, 97, 108, 108, 32, 110, 122, 44, 87], [112, 117, 115, 104, 32, 98, 99], [97, 100, 100, 32, 97, 44, 78], [114, 115, 116, 32, 36, 48, 48], [114, 101, 116, 32, 122], [114, 101, 116], [106, 112, 32, 122, 44, 87], [], [99, 97, 108, 108, 32, 122, 44, 87], [99, 97, 108, 108, 32, 87], [97, 100, 99, 32, 97, 44, 78], [114, 115, 116, 32, 36, 48, 56], [114, 101, 116, 32, 110, 99], [112, 111, 112, 32, 100, 101], [106, 112, 32, 110, 99, 44, 87], [111, 117, 116, 32, 40, 78, 41, 44, 97], [99, 97, 108, 108, 32, 110, 99, 44, 87], [112, 117, 115, 104, 32, 100, 101], [115, 117, 98, 32, 78], [114, 115, 116, 32, 36, 49, 48], [114, 101, 116, 32, 99], [101, 120, 120], [106, 112, 32, 99, 44, 87], [105, 110, 32, 97, 44, 40, 78, 41], [99, 97, 108, 108, 32, 99, 44, 87], [99, 97, 108, 108, 32, 87], [115, 98, 99, 32, 97, 44, 78], [114, 115, 116, 32, 36, 49, 56], [114, 101, 116, 32, 112, 111], [112, 111, 112, 32, 104, 108], [106, 112, 32, 112, 111, 44, 87], [101, 120, 32, 40, 115, 112, 41, 44, 104, 108], [99, 97, 108, 108, 32, 112, 111, 44, 87], [112, 117, 115, 104, 32, 104, 108], [97, 110, 100, 32, 78], [114, 115, 116, 32, 36, 50, 48], [114, 101, 116, 32, 112, 101], [106, 112, 32, 104, 108], [106, 112, 32, 112, 101, 44, 87], [101, 120, 32, 100, 101, 44, 104, 108], [99, 97, 108, 108, 32, 112, 101, 44, 87], [99, 97, 108, 108, 32, 87], [120, 111, 114, 32, 78], [114, 115, 116, 32, 36, 50, 56], [114, 101, 116, 32, 112], [112, 111, 112, 32, 97, 102], [106, 112, 32, 112, 44, 87], [100, 105], [99, 97, 108, 108, 32, 112, 44, 87], [112, 117, 115, 104, 32, 97, 102], [111, 114, 32, 78], [114, 115, 116, 32, 36, 51, 48], [114, 101, 116, 32, 109], [108, 100, 32, 115, 112, 44, 104, 108], [106, 112, 32, 109, 44, 87], [101, 105], [99, 97, 108, 108, 32, 109, 44, 87], [99, 97, 108, 108, 32, 87], [99, 112, 32, 78], [114, 115, 116, 32, 36, 51, 56]]
/-- A text's pieces: a byte, the place at an index, the number as a byte and as a word, the place that a distance leads to. -/
inductive Tk where
  | ch (c : UInt8) | aw | n2 | w4 | e4
  deriving DecidableEq
def lit (l : List UInt8) : List Tk := l.map Tk.ch
/-! ### The program's way, over the parts of a code -/
def memC (c : Nat) : Bool :=
  if c / 64 = 0 then c / 8 % 8 == 6 && (4 ≤ c % 8 && c % 8 ≤ 6)
  else if c / 64 = 1 then c != 118 && (c / 8 % 8 == 6 || c % 8 == 6)
  else if c / 64 = 2 then c % 8 == 6 else false
/-! ### The document's way -/
def plainL (c : Nat) : List UInt8 :=
  if c < 64 then firstL.getD c [] else if 192 ≤ c then lastL.getD (c - 192) [] else if c = 118 then [104, 97, 108, 116]
  else if c < 128 then [108, 100, 32] ++ regsL.getD (c / 8 % 8) [] ++ [44] ++ regsL.getD (c % 8) [] else opersL.getD (c / 8 % 8) [] ++ regsL.getD (c % 8) []
/-- Where p stands first in s. -/
def posF (p : List UInt8) : List UInt8 → Option Nat
  | [] => if p = [] then some 0 else none
  | a :: s => if p.isPrefixOf (a :: s) then some 0 else (posF p s).map (· + 1)
def hasF (s p : List UInt8) : Bool := (posF p s).isSome
def hlL : List UInt8 := [40, 104, 108, 41]
def refMem (c : Nat) : Bool := hasF (plainL c) hlL
theorem all256 {f : Nat → Bool} (h : (List.range 256).all f = true) (c : Nat) (hc : c < 256) : f c = true := List.all_eq_true.1 h c (List.mem_range.2 hc)
theorem memC_ref (c : Nat) (h : c < 256) : refMem c = memC c := by
  have := all256 (f := fun c => refMem c == memC c) (by decide +kernel) c h
  simpa using this
end Go.Proofs.YtcfkpeemhleleaaGreatDoor
/- op.cut: its contract; arrays of texts, boxes of the call's own. -/
namespace Go.Proofs.YtcfkpeemhleleaaGreatDoor
open Go.RowKit


/-- The array of texts in block g. -/
def TabS (g n : Nat) (L : List (List UInt8)) (w : World) : Prop := ∀ j, j < n → w.cell? ⟨g, j, none⟩ = some (.string (strL (L.getD j [])))
theorem TabS.below {g n : Nat} {L : List (List UInt8)} {w w' : World} (h : TabS g n L w) (hg : g < w.heap.size) (hb : Below w.heap.size w w') : TabS g n L w' :=
  fun j hj => (hb.cell (p := ⟨g, j, none⟩) hg).trans (h j hj)
/-- A code's parts. -/
abbrev partsV (c : Nat) : Array Value := #[.int .u8 ((c / 64 : Nat) : Int), .int .u8 ((c / 8 % 8 : Nat) : Int), .int .u8 ((c % 8 : Nat) : Int), .int .u8 ((c / 8 % 8 / 2 : Nat) : Int), .int .u8 ((c / 8 % 2 : Nat) : Int)]

theorem strL_le (l : List UInt8) (n : Nat) (h : l.length ≤ n) : (strL l).size ≤ n := by rw [strL_size]; exact h


theorem balloc (w : World) (o : Obj) : Below w.heap.size w (w.alloc o) := (Below.refl _ _).alloc (Nat.le_refl _) _
theorem parts_num (c : Nat) : ((c : Int) / 64 = ((c / 64 : Nat) : Int)) ∧ ((c : Int) / 8 % 8 = ((c / 8 % 8 : Nat) : Int)) ∧ ((c : Int) % 8 = ((c % 8 : Nat) : Int)) ∧ ((c : Int) / 8 % 8 / 2 = ((c / 8 % 8 / 2 : Nat) : Int)) ∧ ((c : Int) / 8 % 2 = ((c / 8 % 2 : Nat) : Int)) := by omega
theorem and1 (n : Nat) (h : n < 256) : bits .and .u8 (n : Int) 1 = (n : Int) % 2 := by
  have h' : n &&& 1 = n % 2 := Nat.and_two_pow_sub_one_eq_mod n 1
  show IntKind.u8.wrap ((BitVec.ofInt 8 (n : Int) &&& BitVec.ofInt 8 1).toNat : Int) = _
  rw [BitVec.toNat_and, BitVec.ofInt_natCast, BitVec.toNat_ofNat, Nat.mod_eq_of_lt (by omega : n < 2 ^ 8), show (BitVec.ofInt 8 1).toNat = 1 from by decide, h']
  simp [IntKind.wrap, IntKind.bits, IntKind.signed]
  omega
set_option maxHeartbeats 400000 in
theorem opCut (c : Nat) (w : World) (hc : c < 256) : Calls Tryz.prog 95 #[.int .u8 c] w fun e w' => e = .returned (.agg (partsV c)) ∧ Below w.heap.size w w' := by
  have H := Lib.hid (parts_num c)
  have hq : bits .and .u8 ((c : Int) / 8 % 8) 1 = (c : Int) / 8 % 2 := by
    have := and1 (c / 8 % 8) (by omega)
    rw [show ((c / 8 % 8 : Nat) : Int) = (c : Int) / 8 % 8 by omega] at this
    rw [this]; omega
  go_enter Tryz.func95, Tryz.ntmps95
  go_wp2_with fail
  refine bodyPost_ret (v := .agg #[.int .u8 ((c : Int) / 64), .int .u8 ((c : Int) / 8 % 8), .int .u8 ((c : Int) % 8), .int .u8 ((c : Int) / 8 % 8 / 2), .int .u8 ((c : Int) / 8 % 2)]) (by simp [results, Tryz.results95, go_sem]) rfl ⟨?_, (Below.refl _ _).alloc (Nat.le_refl _) _⟩
  obtain ⟨h1, h2, h3, h4, h5⟩ := H.out
  rw [h1, h4, h2, h3, h5]

end Go.Proofs.YtcfkpeemhleleaaGreatDoor
/- The program's steps as plain lists. No program is named here. -/
namespace Go.Proofs.YtcfkpeemhleleaaGreatDoor

/-- A step: kind, place, what, number. -/
structure Sp where
  k : Int
  a : Int
  w : Int
  n : Int
abbrev sWait (a n : Int) : Sp := ⟨0, a, 0, n⟩
abbrev sRead (a w : Int) : Sp := ⟨1, a, w, 0⟩
abbrev sWrite (a w : Int) : Sp := ⟨2, a, w, 0⟩
abbrev sIn (a w : Int) : Sp := ⟨3, a, w, 0⟩
abbrev sOut (a w : Int) : Sp := ⟨4, a, w, 0⟩
abbrev sWork (w n : Int) : Sp := ⟨5, 0, w, n⟩
abbrev sUnless (w : Int) : Sp := ⟨6, 0, w, 0⟩

def lowW (p : Int) : Int := if p = 3 then 48 else 2 * p + 1
def highW (p : Int) : Int := if p = 3 then 56 else 2 * p
def sentW (y : Int) : Int := if y = 6 then 80 else y
def wordS (L : List Sp) : List Sp := L ++ [sRead 0 24, sRead 0 32]
def backS (L : List Sp) : List Sp := L ++ [sRead 4 24, sRead 4 32, sWork 216 0]
def pushPcS (L : List Sp) : List Sp := L ++ [sWrite 5 72, sWrite 5 64]
def callS (L : List Sp) : List Sp := pushPcS (L ++ [sWait 9 1]) ++ [sWork 216 0]
def sumS (L : List Sp) (wh p : Int) : List Sp := L ++ [sWait 8 7, sWork 168 2, sWork 176 1, sWork wh p]
def farAS (L : List Sp) (a q : Int) : List Sp := if q = 0 then L ++ [sWrite a 7, sWork 176 1, sWork 184 0] else L ++ [sRead a 7, sWork 176 1]
def farPairS (L : List Sp) (p q : Int) : List Sp := if q = 0 then L ++ [sWrite 7 (lowW p), sWork 176 1, sWrite 7 (highW p)] else L ++ [sRead 7 (lowW p), sWork 176 1, sRead 7 (highW p)]
def popS (L : List Sp) (p : Int) : List Sp := if p = 3 then L ++ [sRead 4 16, sRead 4 7] else L ++ [sRead 4 (lowW p), sRead 4 (highW p)]
def pushS (L : List Sp) (p : Int) : List Sp := if p = 3 then L ++ [sWrite 5 7, sWrite 5 16] else L ++ [sWrite 5 (highW p), sWrite 5 (lowW p)]
def exTopS (L : List Sp) : List Sp := ((L ++ [sRead 4 24, sRead 6 32, sWait 9 1]) ++ [sWrite 6 (highW 2), sWrite 5 (lowW 2), sWait 9 2]) ++ [sWork 208 0]
def storeS (L : List Sp) (ix : Bool) : List Sp := if ix = true then L ++ [sRead 0 40, sWork 192 0, sRead 0 6, sWait 9 2, sWrite 1 6] else L ++ [sRead 0 6, sWrite 1 6]
def changeS (L X : List Sp) : List Sp := ((L ++ [sRead 1 6, sWait 9 1]) ++ X) ++ [sWrite 1 6]
def wayS (L : List Sp) (ix : Bool) : List Sp := if ix = true then L ++ [sRead 0 40, sWait 9 5, sWork 192 0] else L
def thruS (L : List Sp) (x y z : Int) (ix : Bool) : List Sp :=
  if x = 0 then (if z = 4 then changeS (wayS L ix) [sWork 56 6] else changeS (wayS L ix) [sWork 64 6])
  else if x = 2 then wayS L ix ++ [sRead 1 6, sWork y 6]
  else if z = 6 then wayS L ix ++ [sRead 1 (8 + y)] else wayS L ix ++ [sWrite 1 (8 + z)]
def nearS (L : List Sp) (y : Int) : List Sp :=
  if y = 0 then L else if y = 1 then L ++ [sWork 248 0]
  else (if y = 2 then L ++ [sWait 8 1, sWork 120 0, sRead 0 40, sUnless 8] else if y = 3 then L ++ [sRead 0 40] else L ++ [sRead 0 40, sUnless (y - 4)]) ++ [sWait 9 5, sWork 232 0]
def farS (L : List Sp) (p q : Int) : List Sp :=
  if p = 0 then farAS (L ++ [sWork 168 p]) 2 q else if p = 1 then farAS (L ++ [sWork 168 p]) 3 q else if p = 2 then farPairS (wordS L) 2 q else farAS (wordS L) 7 q
def firstS (L : List Sp) (y z p q : Int) : List Sp :=
  if z = 0 then nearS L y else if z = 1 then (if q = 0 then L ++ [sRead 0 (lowW p), sRead 0 (highW p)] else sumS L 144 p)
  else if z = 2 then farS L p q else if z = 3 then (if q = 0 then L ++ [sWait 8 2, sWork 128 p] else L ++ [sWait 8 2, sWork 136 p])
  else if z = 4 then L ++ [sWork 56 y] else if z = 5 then L ++ [sWork 64 y] else if z = 6 then L ++ [sRead 0 y] else L ++ [sWork (72 + y) 0]
def behindPopS (L : List Sp) (p : Int) : List Sp :=
  if p = 0 then backS L else if p = 1 then L ++ [sWork 256 0] else if p = 2 then L ++ [sWork 224 0] else L ++ [sWait 8 2, sWork 200 0]
def othersS (L : List Sp) (y : Int) : List Sp :=
  if y = 0 then wordS L ++ [sWork 216 0] else if y = 1 then L else if y = 2 then (L ++ [sRead 0 24, sWork 184 0, sOut 7 7]) ++ [sWork 176 1, sWork 184 0]
  else if y = 3 then L ++ [sRead 0 24, sWork 184 0, sIn 7 7, sWork 176 1] else if y = 4 then exTopS L else if y = 5 then L ++ [sWork 264 0] else if y = 6 then L ++ [sWork 280 0] else L ++ [sWork 288 0]
def pushOrCallS (L : List Sp) (p q : Int) : List Sp := if q = 0 then pushS (L ++ [sWait 8 1]) p else if p = 0 then callS (wordS L) else L
def lastS (L : List Sp) (y z p q : Int) : List Sp :=
  if z = 0 then backS (L ++ [sWait 8 1, sUnless y]) else if z = 1 then (if q = 0 then popS L p else behindPopS L p)
  else if z = 2 then wordS L ++ [sUnless y, sWork 216 0] else if z = 3 then othersS L y else if z = 4 then callS (wordS L ++ [sUnless y])
  else if z = 5 then pushOrCallS L p q else if z = 6 then L ++ [sRead 0 6, sWork y 6] else pushPcS (L ++ [sWait 8 1]) ++ [sWork 240 (8 * y)]
def plainS (L : List Sp) (c : Nat) (x y z p q : Int) (ix : Bool) : List Sp :=
  if c = 118 then L ++ [sWork 272 0] else if c = 54 then storeS L ix else if memC c = true then thruS L x y z ix
  else if x = 0 then firstS L y z p q else if x = 1 then L ++ [sWork (40 + y) z] else if x = 2 then L ++ [sWork y z] else lastS L y z p q
def onS (x y r : Int) : Sp := if x = 0 then sWork (8 + y) r else if x = 1 then sWork (16 + y) r else if x = 2 then sWork (24 + y) r else sWork (32 + y) r
def bomS (L : List Sp) (x y : Int) : List Sp := if x = 1 then L ++ [sRead 1 6, sWait 9 1, onS x y 6] else changeS L [onS x y 6]
def turnsS (L : List Sp) (x y z : Int) : List Sp := if z = 6 then bomS L x y else L ++ [onS x y z]
def indexedS (L : List Sp) (x y z : Int) : List Sp := if x = 1 then bomS L x y else if z = 6 then bomS L x y else changeS L [onS x y 6, sWork 48 z]
def digitsS (L : List Sp) (wh : Int) : List Sp := (L ++ [sWork 168 2, sWork 176 1, sRead 1 6, sWait 9 4]) ++ [sWork wh 0, sWrite 1 6]
def specialS (L : List Sp) (y : Int) : List Sp := if y < 4 then L ++ [sWait 8 1, sWork (96 + y) 0] else if y = 4 then digitsS L 104 else if y = 5 then digitsS L 112 else L
def onceS (L : List Sp) (z way : Int) : List Sp :=
  if z = 0 then L ++ [sRead 1 6, sWrite 3 6, sWait 9 2, sWork 312 way] else if z = 1 then L ++ [sRead 1 6, sWait 9 5, sWork 320 way, sWork 176 way]
  else if z = 2 then ((L ++ [sWait 8 1, sWork 168 0, sWork 176 way]) ++ [sIn 2 6, sWrite 1 6]) ++ [sWork 120 0, sWork 328 way]
  else ((L ++ [sWait 8 1, sRead 1 6]) ++ [sWork 120 0, sWork 168 0, sWork 176 way]) ++ [sOut 2 6, sWork 336 way]
def againS (L : List Sp) (z : Int) : List Sp :=
  if z = 0 then L ++ [sUnless 16, sWait 9 5, sWork 344 0] else if z = 1 then L ++ [sUnless 24, sWait 9 5, sWork 344 0] else L ++ [sUnless 8, sWait 9 5, sWork 352 0]
def wayN (y : Int) : Int := if y % 2 = 1 then -1 else 1
def blockS (L : List Sp) (y z : Int) : List Sp := if y < 6 then onceS L z (wayN y) else againS (onceS L z (wayN y)) z
def modeN (y : Int) : Int := if y % 4 = 2 then 1 else if y % 4 = 3 then 2 else 0
def middleS (L : List Sp) (y z p q : Int) : List Sp :=
  if z = 0 then L ++ [sWork 168 0, sWork 176 1, sIn 2 6, sWork 88 y] else if z = 1 then L ++ [sWork 168 0, sWork 176 1, sOut 2 (sentW y)]
  else if z = 2 then (if q = 0 then sumS L 160 p else sumS L 152 p) else if z = 3 then farPairS (wordS L) p q else if z = 4 then L ++ [sWork 80 0]
  else if z = 5 then backS L ++ [sWork 304 0] else if z = 6 then L ++ [sWork 296 (modeN y)] else specialS L y
def moreS (L : List Sp) (x y z p q : Int) : List Sp :=
  if x = 1 then middleS L y z p q else if x = 2 then (if 4 ≤ y then (if z ≤ 3 then blockS L y z else L) else L) else L
/-- The steps of a code of a set, behind L. -/
def progS (L : List Sp) (set ix : Int) (c : Nat) : List Sp :=
  let x : Int := ((c / 64 : Nat) : Int); let y : Int := ((c / 8 % 8 : Nat) : Int); let z : Int := ((c % 8 : Nat) : Int); let p : Int := ((c / 8 % 8 / 2 : Nat) : Int); let q : Int := ((c / 8 % 2 : Nat) : Int)
  if set = 0 then plainS L c x y z p q (decide (ix = 1) || decide (ix = 2)) else if set = 1 then turnsS L x y z else if set = 2 then moreS L x y z p q else if set = 3 then indexedS L x y z else L

/-- T-states of a step, of steps. -/
def costS (s : Sp) : Int := if s.k = 0 then s.n else if s.k = 1 then 3 else if s.k = 2 then 3 else if s.k = 3 then 4 else if s.k = 4 then 4 else 0
def timeS (met : Bool) : List Sp → Int
  | [] => 0
  | s :: l => if s.k = 6 ∧ met = false then 0 else costS s + timeS met l
/-- Steps whose waits are short, and few of them. -/
def shortS (L : List Sp) : Bool := decide (L.length ≤ 20) && L.all (fun s => decide (0 ≤ costS s) && decide (costS s ≤ 100))

-- the document's table
def lowT : List Int := [
  4, 10, 7, 6, 4, 4, 7, 4, 4, 11, 7, 6, 4, 4, 7, 4,
  13, 10, 7, 6, 4, 4, 7, 4, 12, 11, 7, 6, 4, 4, 7, 4,
  12, 10, 16, 6, 4, 4, 7, 4, 12, 11, 16, 6, 4, 4, 7, 4,
  12, 10, 13, 6, 11, 11, 10, 4, 12, 11, 13, 6, 4, 4, 7, 4]
def highT : List Int := [
  11, 10, 10, 10, 17, 11, 7, 11, 11, 10, 10, 4, 17, 17, 7, 11,
  11, 10, 10, 11, 17, 11, 7, 11, 11, 4, 10, 11, 17, 4, 7, 11,
  11, 10, 10, 19, 17, 11, 7, 11, 11, 4, 10, 4, 17, 4, 7, 11,
  11, 10, 10, 4, 17, 11, 7, 11, 11, 6, 10, 4, 17, 4, 7, 11]
def lessT (c : Nat) : Int := if c = 16 ∨ c = 32 ∨ c = 40 ∨ c = 48 ∨ c = 56 then 5 else if 192 ≤ c ∧ c % 8 = 0 then 6 else if 192 ≤ c ∧ c % 8 = 4 then 7 else 0
def plainT8 (c : Nat) : Int := if c < 64 then lowT.getD c 0 else if 192 ≤ c then highT.getD (c - 192) 0 else if memC c = true then 7 else 4
def eightT : List Int := [12, 12, 15, 20, 8, 14, 8, 8]
def moreT8 (c : Nat) : Int :=
  if 160 ≤ c ∧ c < 192 ∧ c % 8 < 4 then (if 176 ≤ c then 21 else 16) else if c < 64 ∨ 128 ≤ c then 8 else if c = 103 ∨ c = 111 then 18
  else if c = 71 ∨ c = 79 ∨ c = 87 ∨ c = 95 then 9 else eightT.getD (c % 8) 0
def timeT (set : Int) (ix : Bool) (c : Nat) (met : Bool) : Int :=
  if set = 0 then plainT8 c - 4 - (if met = true then 0 else lessT c) + (if ix = true ∧ c = 54 then 5 else if ix = true ∧ memC c = true then 8 else 0)
  else if set = 1 then (if c % 8 = 6 then (if c / 64 = 1 then 4 else 7) else 0)
  else if set = 3 then (if c / 64 = 1 then 4 else 7)
  else if set = 2 then (if met = false ∧ moreT8 c - 8 = 13 then 8 else moreT8 c - 8) else 0

/-- All codes of a set: the program's steps take the document's time, read as many bytes, and are few. -/
def okT (set ix : Int) (c : Nat) : Bool :=
  decide (timeS true (progS [] set ix c) = timeT set (decide (ix = 1) || decide (ix = 2)) c true) && decide (timeS false (progS [] set ix c) = timeT set (decide (ix = 1) || decide (ix = 2)) c false) && shortS (progS [] set ix c)
theorem ok00 : (List.range 256).all (fun c => okT 0 0 c) = true := by decide +kernel
end Go.Proofs.YtcfkpeemhleleaaGreatDoor
/- Steps as numbers; rows of steps that a call owns; micro.put: its contract. -/
namespace Go.Proofs.YtcfkpeemhleleaaGreatDoor
open Go.RowKit

def flat : List Sp → List Value
  | [] => []
  | s :: l => .int .i64 s.k :: .int .i64 s.a :: .int .i64 s.w :: .int .i64 s.n :: flat l
theorem flat_len : ∀ l : List Sp, (flat l).length = l.length * 4
  | [] => rfl
  | s :: l => by simp only [flat, List.length_cons, flat_len l]; omega
theorem flat_app : ∀ a b : List Sp, flat (a ++ b) = flat a ++ flat b
  | [], b => rfl
  | s :: a, b => by simp only [flat, List.cons_append, flat_app a b]
theorem flat_one : ∀ l : List Sp, ∀ u ∈ flat l, u.oneCell' = true
  | [], u, h => by simp [flat] at h
  | s :: l, u, h => by
    simp only [flat, List.mem_cons] at h
    rcases h with rfl | rfl | rfl | rfl | h
    · rfl
    · rfl
    · rfl
    · rfl
    · exact flat_one l u h
/-- The slice v is the call's own (blocks from base on), and has the steps L, at most c of them. -/
structure Own (u : World) (v : Value) (L : List Sp) (c : Nat) (base : Nat) : Prop where
  row : u.ownsRow base 61 4 v L.length (flat L)
  size : base ≤ u.heap.size
  few : L.length ≤ c
/-- From w to u, as v became v': older blocks are as they were, but v's own; the block of v' is v's own, or a new one. -/
structure Put (w u : World) (v v' : Value) : Prop where
  os : u.os = w.os
  tape : u.tape = w.tape
  output : u.output = w.output
  size : w.heap.size ≤ u.heap.size
  block : ∀ k, k < w.heap.size → v.ownBlock ≠ some k → u.heap[k]? = w.heap[k]?
  own : v'.ownBlock = v.ownBlock ∨ ∃ g, v'.ownBlock = some g ∧ w.heap.size ≤ g
theorem Put.refl (w : World) (v : Value) : Put w w v v := ⟨rfl, rfl, rfl, Nat.le_refl _, fun _ _ _ => rfl, Or.inl rfl⟩
theorem Put.trans {a b c : World} {v v' v'' : Value} (h : Put a b v v') (k : Put b c v' v'') : Put a c v v'' := by
  refine ⟨k.os.trans h.os, k.tape.trans h.tape, k.output.trans h.output, Nat.le_trans h.size k.size, fun i hi hv => ?_, ?_⟩
  · have hi2 : i < b.heap.size := Nat.lt_of_lt_of_le hi h.size
    refine (k.block i hi2 ?_).trans (h.block i hi hv)
    rcases h.own with e | ⟨g, e, hg⟩
    · rw [e]; exact hv
    · rw [e]; intro e'; injection e' with e'; omega
  · rcases k.own with e | ⟨g, e, hg⟩
    · rw [e]; exact h.own
    · exact Or.inr ⟨g, e, Nat.le_trans h.size hg⟩
theorem Put.below {a b c : World} {v v' : Value} (h : Put a b v v') (k : Below b.heap.size b c) : Put a c v v' :=
  h.trans ⟨k.os, k.tape, k.output, k.size, fun i hi _ => k.block i hi, Or.inl rfl⟩
/-- A call whose row was not there at all leaves all older blocks as they were. -/
theorem Put.new {w u : World} {v' : Value} (h : Put w u (.slice none 0 0) v') : Below w.heap.size w u :=
  ⟨h.os, h.tape, h.output, h.size, fun k hk => h.block k hk (by simp [Value.ownBlock])⟩
theorem Own.below {u u' : World} {v : Value} {L : List Sp} {c base : Nat} (h : Own u v L c base) (hb : Below u.heap.size u u') : Own u' v L c base :=
  ⟨h.row.kept (row := none) ⟨hb.os, hb.tape, hb.output, hb.size, fun k hk _ => hb.block k hk⟩ (by cases v.ownBlock <;> simp), Nat.le_trans h.size hb.size, h.few⟩
theorem Own.mono {u : World} {v : Value} {L : List Sp} {c c' base : Nat} (h : Own u v L c base) (hc : c ≤ c') : Own u v L c' base := ⟨h.row, h.size, Nat.le_trans h.few hc⟩

/-- How things stand in the world u of a call: v owns L; behind w0 and v0, where the call began; a box b of the call's own holds C. -/
structure St (u : World) (v : Value) (L : List Sp) (c : Nat) (b : Nat) (C : List Value) (base : Nat) (w0 : World) (v0 : Value) : Prop where
  own : Own u v L c base
  put : Put w0 u v0 v
  box : ∀ i a, C[i]? = some a → u.cell? ⟨b, i, none⟩ = some a
  far : C = [] ∨ (b < u.heap.size ∧ v.ownBlock ≠ some b)
theorem St.start {w : World} {v : Value} {L : List Sp} {c base : Nat} (h : Own w v L c base) : St w v L c 0 [] base w v := ⟨h, Put.refl w v, fun i a h => by simp at h, Or.inl rfl⟩
theorem St.boxed {w : World} {v : Value} {L : List Sp} {c base : Nat} (h : Own w v L c base) (C : List Value) (t : TypeId) : St (w.alloc (.cells C.toArray t)) v L c w.heap.size C base w v := by
  have hb := balloc w (.cells C.toArray t)
  refine ⟨h.below hb, (Put.refl w v).below hb, fun i a hi => ?_, Or.inr ⟨by simp, fun e => ?_⟩⟩
  · rw [cell_of_row _ _ i _ t (0, 0) (heap_alloc_new _ _)]
    simpa using hi
  · have := (h.row.lt _ e).2
    omega
theorem St.below {u u' : World} {v : Value} {L : List Sp} {c b : Nat} {C : List Value} {base : Nat} {w0 : World} {v0 : Value} (h : St u v L c b C base w0 v0) (hb : Below u.heap.size u u') : St u' v L c b C base w0 v0 := by
  refine ⟨h.own.below hb, h.put.below hb, fun i a hi => ?_, ?_⟩
  · have hlt : b < u.heap.size := by
      rcases h.far with rfl | h
      · simp at hi
      · exact h.1
    rw [hb.cell (p := ⟨b, i, none⟩) hlt]
    exact h.box i a hi
  · rcases h.far with e | h
    · exact Or.inl e
    · exact Or.inr ⟨Nat.lt_of_lt_of_le h.1 hb.size, h.2⟩
theorem St.drew {u : World} {v : Value} {L : List Sp} {c b : Nat} {C : List Value} {base : Nat} {w0 : World} {v0 : Value} (h : St u v L c b C base w0 v0) : St u.drew v L c b C base w0 v0 := h.below (Below.refl _ _).drew
theorem St.alloc {u : World} {v : Value} {L : List Sp} {c b : Nat} {C : List Value} {base : Nat} {w0 : World} {v0 : Value} (h : St u v L c b C base w0 v0) (o : Obj) : St (u.alloc o) v L c b C base w0 v0 := h.below (balloc u o)
theorem St.call {u u' : World} {v v' : Value} {L L' : List Sp} {c c' b : Nat} {C : List Value} {base : Nat} {w0 : World} {v0 : Value} (h : St u v L c b C base w0 v0) (hO : Own u' v' L' c' base) (hP : Put u u' v v') : St u' v' L' c' b C base w0 v0 := by
  refine ⟨hO, h.put.trans hP, fun i a hi => ?_, ?_⟩
  · rcases h.far with rfl | ⟨hlt, hne⟩
    · simp at hi
    · rw [World.cell?_of_block (w := u) (w' := u') (a := ⟨b, i, none⟩) (hP.block b hlt hne)]
      exact h.box i a hi
  · rcases h.far with e | ⟨hlt, hne⟩
    · exact Or.inl e
    · refine Or.inr ⟨Nat.lt_of_lt_of_le hlt hP.size, ?_⟩
      rcases hP.own with e | ⟨g, e, hg⟩
      · rw [e]; exact hne
      · rw [e]; intro e'; injection e' with e'; omega
/-- What a call that puts steps behind a row gives. -/
def Gives (w : World) (v : Value) (L' : List Sp) (c' base : Nat) (e : Ending) (w' : World) : Prop := ∃ v', e = .returned v' ∧ Own w' v' L' c' base ∧ Put w w' v v'
theorem St.fin {u : World} {v : Value} {L : List Sp} {c c' b : Nat} {C : List Value} {base : Nat} {w0 : World} {v0 : Value} (h : St u v L c b C base w0 v0) (hc : c ≤ c') : Gives w0 v0 L c' base (.returned v) u := ⟨v, rfl, h.own.mono hc, h.put⟩
/-- The same as it stands in a caller. -/
def Goes (L' : List Sp) (c' b : Nat) (C : List Value) (base : Nat) (w0 : World) (v0 : Value) (e : Ending) (w' : World) : Prop := ∃ v', e = .returned v' ∧ St w' v' L' c' b C base w0 v0
theorem St.goes {u : World} {v : Value} {L L' : List Sp} {c c' b : Nat} {C : List Value} {base : Nat} {w0 : World} {v0 : Value} (h : St u v L c b C base w0 v0) {f : FuncId} {args : Array Value} (hc : Calls Tryz.prog f args u (Gives u v L' c' base)) : Calls Tryz.prog f args u (Goes L' c' b C base w0 v0) :=
  hc.mono fun _ _ ⟨v', he, hO, hP⟩ => ⟨v', he, h.call hO hP⟩

theorem St.then {u : World} {v : Value} {L : List Sp} {c b : Nat} {C : List Value} {base : Nat} {w0 : World} {v0 : Value} (h : St u v L c b C base w0 v0) {f : FuncId} {args : Array Value} {r : Value} (hc : Calls Tryz.prog f args u fun e w' => e = .returned r ∧ Below u.heap.size u w') :
    Calls Tryz.prog f args u fun e w' => e = .returned r ∧ St w' v L c b C base w0 v0 := hc.mono fun _ _ ⟨he, hb⟩ => ⟨he, h.below hb⟩
theorem St.same {u : World} {v : Value} {L : List Sp} {c b : Nat} {C : List Value} {base : Nat} {w0 : World} {v0 : Value} (h : St u v L c b C base w0 v0) {f : FuncId} {args : Array Value} {r : Value} (hc : Calls Tryz.prog f args u fun e w' => e = .returned r ∧ u = w') :
    Calls Tryz.prog f args u fun e w' => e = .returned r ∧ St w' v L c b C base w0 v0 := hc.mono fun _ _ ⟨he, hb⟩ => ⟨he, hb ▸ h⟩
theorem St.box5 {u : World} {v : Value} {L : List Sp} {c b : Nat} {x y z p q : Int} {base : Nat} {w0 : World} {v0 : Value} (h : St u v L c b [.int .i64 x, .int .i64 y, .int .i64 z, .int .i64 p, .int .i64 q] base w0 v0) :
    u.cell? ⟨b, 0, none⟩ = some (.int .i64 x) ∧ u.cell? ⟨b, 1, none⟩ = some (.int .i64 y) ∧ u.cell? ⟨b, 2, none⟩ = some (.int .i64 z) ∧ u.cell? ⟨b, 3, none⟩ = some (.int .i64 p) ∧ u.cell? ⟨b, 4, none⟩ = some (.int .i64 q) :=
  ⟨h.box 0 _ rfl, h.box 1 _ rfl, h.box 2 _ rfl, h.box 3 _ rfl, h.box 4 _ rfl⟩

theorem infoStep : (Tryz.prog.info? 61).map (fun i => (i.zero, i.size, i.bytes)) = some (some (.agg #[.int .i64 0, .int .i64 0, .int .i64 0, .int .i64 0]), 4, 32) := by kernel_rfl

set_option maxHeartbeats 400000 in
theorem put_any (base : Nat) (v : Value) (L X : List Sp) (c : Nat) (w : World) (hO : Own w v L c base) (hc : c ≤ 10000) (ad : Addr) (m k : Nat) (hm : X.length = m) (h0 : 0 < m) (h9 : m ≤ 100)
    (hX : ∀ j u, (flat X)[j]? = some u → w.cell? (ad.add j) = some u) : Calls Tryz.prog 70 #[v, .slice (some ad) m k] w (Gives w v (L ++ X) (c + m) base) := by
  obtain ⟨i0, hi, hz0, hz1, hz2⟩ := info_parts infoStep
  obtain ⟨hr, hs, hf⟩ := hO
  have hl : (flat X).length = m * 4 := by rw [flat_len, hm]
  have hb1 : (L.length + m) * 32 ≤ 140737488355328 := by omega
  have hb2 : L.length + m ≤ maxLen := by unfold maxLen; omega
  have HF := Lib.hid hf
  have HM := Lib.hid hm
  clear hf hc h9 hm
  go_enter Tryz.func70, Tryz.ntmps70
  go_wp2_with (at_builtin; refine wpList_append_lies _ rfl _ _ 47 rfl base 61 i0 _ 4 32 Tryz.underlying47 hi hz0 hz1 hz2 rfl (by decide) v L.length (flat L) rfl hr ad m k (flat X) rfl hl hX (flat_one X) h0 hb2 hb1 hs _ rfl ?_; intro g cap w' h1 h2 h3 h4)
  go_ret
  refine ⟨_, rfl, ⟨?_, Nat.le_trans hs h2.size, ?_⟩, ⟨h2.os, h2.tape, h2.output, h2.size, fun i hi hne => h2.block i hi (fun e => hne e.symm), ?_⟩⟩
  · rw [List.length_append, HM.out, flat_app]; exact h1
  · rw [List.length_append, HM.out]; have := HF.out; omega
  · rcases h3 with e | e
    · exact Or.inl (by rw [e]; rfl)
    · exact Or.inr ⟨g, rfl, by omega⟩

theorem box_news {w : World} {C : List Value} {t : TypeId} : ∀ j u, C[j]? = some u → (w.alloc (.cells C.toArray t)).cell? ((⟨w.heap.size, 0, none⟩ : Addr).add j) = some u := by
  intro j u hu
  rw [Go.WideShapes.add_plain, Nat.zero_add, cell_of_row _ _ j _ t (0, 0) (heap_alloc_new _ _)]
  simpa using hu
/-- 'put' of steps that the statement lists. -/
theorem put_st {u : World} {v : Value} {L : List Sp} {c b : Nat} {C : List Value} {base : Nat} {w0 : World} {v0 : Value} (h : St u v L c b C base w0 v0) (hc : c ≤ 10000) (X : List Sp) (m : Nat) (hm : X.length = m) (h0 : 0 < m) (h9 : m ≤ 100) (t : TypeId) :
    Calls Tryz.prog 70 #[v, .slice (some ⟨u.heap.size, 0, none⟩) m m] (u.alloc (.cells (flat X).toArray t)) (Goes (L ++ X) (c + m) b C base w0 v0) :=
  (h.alloc _).goes (put_any base v L X c _ (h.alloc _).own hc _ m m hm h0 h9 box_news)
theorem put1 {u : World} {v : Value} {L : List Sp} {c b : Nat} {C : List Value} {base : Nat} {w0 : World} {v0 : Value} (h : St u v L c b C base w0 v0) (hc : c ≤ 10000) (k1 a1 w1 n1 : Int) (t : TypeId) :
    Calls Tryz.prog 70 #[v, .slice (some ⟨u.heap.size, 0, none⟩) 1 1] (u.alloc (.cells #[.int .i64 k1, .int .i64 a1, .int .i64 w1, .int .i64 n1] t)) (Goes (L ++ [⟨k1, a1, w1, n1⟩]) (c + 1) b C base w0 v0) :=
  put_st h hc [⟨k1, a1, w1, n1⟩] 1 rfl (by decide) (by decide) t
theorem put2 {u : World} {v : Value} {L : List Sp} {c b : Nat} {C : List Value} {base : Nat} {w0 : World} {v0 : Value} (h : St u v L c b C base w0 v0) (hc : c ≤ 10000) (k1 a1 w1 n1 k2 a2 w2 n2 : Int) (t : TypeId) :
    Calls Tryz.prog 70 #[v, .slice (some ⟨u.heap.size, 0, none⟩) 2 2] (u.alloc (.cells #[.int .i64 k1, .int .i64 a1, .int .i64 w1, .int .i64 n1, .int .i64 k2, .int .i64 a2, .int .i64 w2, .int .i64 n2] t)) (Goes (L ++ [⟨k1, a1, w1, n1⟩, ⟨k2, a2, w2, n2⟩]) (c + 2) b C base w0 v0) :=
  put_st h hc [⟨k1, a1, w1, n1⟩, ⟨k2, a2, w2, n2⟩] 2 rfl (by decide) (by decide) t
theorem put3 {u : World} {v : Value} {L : List Sp} {c b : Nat} {C : List Value} {base : Nat} {w0 : World} {v0 : Value} (h : St u v L c b C base w0 v0) (hc : c ≤ 10000) (k1 a1 w1 n1 k2 a2 w2 n2 k3 a3 w3 n3 : Int) (t : TypeId) :
    Calls Tryz.prog 70 #[v, .slice (some ⟨u.heap.size, 0, none⟩) 3 3] (u.alloc (.cells #[.int .i64 k1, .int .i64 a1, .int .i64 w1, .int .i64 n1, .int .i64 k2, .int .i64 a2, .int .i64 w2, .int .i64 n2, .int .i64 k3, .int .i64 a3, .int .i64 w3, .int .i64 n3] t)) (Goes (L ++ [⟨k1, a1, w1, n1⟩, ⟨k2, a2, w2, n2⟩, ⟨k3, a3, w3, n3⟩]) (c + 3) b C base w0 v0) :=
  put_st h hc [⟨k1, a1, w1, n1⟩, ⟨k2, a2, w2, n2⟩, ⟨k3, a3, w3, n3⟩] 3 rfl (by decide) (by decide) t
theorem put4 {u : World} {v : Value} {L : List Sp} {c b : Nat} {C : List Value} {base : Nat} {w0 : World} {v0 : Value} (h : St u v L c b C base w0 v0) (hc : c ≤ 10000) (k1 a1 w1 n1 k2 a2 w2 n2 k3 a3 w3 n3 k4 a4 w4 n4 : Int) (t : TypeId) :
    Calls Tryz.prog 70 #[v, .slice (some ⟨u.heap.size, 0, none⟩) 4 4] (u.alloc (.cells #[.int .i64 k1, .int .i64 a1, .int .i64 w1, .int .i64 n1, .int .i64 k2, .int .i64 a2, .int .i64 w2, .int .i64 n2, .int .i64 k3, .int .i64 a3, .int .i64 w3, .int .i64 n3, .int .i64 k4, .int .i64 a4, .int .i64 w4, .int .i64 n4] t)) (Goes (L ++ [⟨k1, a1, w1, n1⟩, ⟨k2, a2, w2, n2⟩, ⟨k3, a3, w3, n3⟩, ⟨k4, a4, w4, n4⟩]) (c + 4) b C base w0 v0) :=
  put_st h hc [⟨k1, a1, w1, n1⟩, ⟨k2, a2, w2, n2⟩, ⟨k3, a3, w3, n3⟩, ⟨k4, a4, w4, n4⟩] 4 rfl (by decide) (by decide) t
theorem put5 {u : World} {v : Value} {L : List Sp} {c b : Nat} {C : List Value} {base : Nat} {w0 : World} {v0 : Value} (h : St u v L c b C base w0 v0) (hc : c ≤ 10000) (k1 a1 w1 n1 k2 a2 w2 n2 k3 a3 w3 n3 k4 a4 w4 n4 k5 a5 w5 n5 : Int) (t : TypeId) :
    Calls Tryz.prog 70 #[v, .slice (some ⟨u.heap.size, 0, none⟩) 5 5] (u.alloc (.cells #[.int .i64 k1, .int .i64 a1, .int .i64 w1, .int .i64 n1, .int .i64 k2, .int .i64 a2, .int .i64 w2, .int .i64 n2, .int .i64 k3, .int .i64 a3, .int .i64 w3, .int .i64 n3, .int .i64 k4, .int .i64 a4, .int .i64 w4, .int .i64 n4, .int .i64 k5, .int .i64 a5, .int .i64 w5, .int .i64 n5] t)) (Goes (L ++ [⟨k1, a1, w1, n1⟩, ⟨k2, a2, w2, n2⟩, ⟨k3, a3, w3, n3⟩, ⟨k4, a4, w4, n4⟩, ⟨k5, a5, w5, n5⟩]) (c + 5) b C base w0 v0) :=
  put_st h hc [⟨k1, a1, w1, n1⟩, ⟨k2, a2, w2, n2⟩, ⟨k3, a3, w3, n3⟩, ⟨k4, a4, w4, n4⟩, ⟨k5, a5, w5, n5⟩] 5 rfl (by decide) (by decide) t
/-- 'put' of steps that lie in the box. -/
theorem put_box {u : World} {v : Value} {L X : List Sp} {c b : Nat} {base : Nat} {w0 : World} {v0 : Value} (h : St u v L c b (flat X) base w0 v0) (hc : c ≤ 10000) (m : Nat) (hm : X.length = m) (h0 : 0 < m) (h9 : m ≤ 100) :
    Calls Tryz.prog 70 #[v, .slice (some ⟨b, 0, none⟩) m m] u (Goes (L ++ X) (c + m) b (flat X) base w0 v0) :=
  h.goes (put_any base v L X c _ h.own hc _ m m hm h0 h9 (fun j a hj => by rw [Go.WideShapes.add_plain, Nat.zero_add]; exact h.box j a hj))

set_option maxHeartbeats 400000 in
theorem read_any (at_ to_ : Int) (w : World) : Calls Tryz.prog 92 #[.int .i64 at_, .int .i64 to_] w fun e w' => e = .returned (.agg #[.int .i64 1, .int .i64 at_, .int .i64 to_, .int .i64 0]) ∧ Below w.heap.size w w' := by
  go_enter Tryz.func92, Tryz.ntmps92
  go_wp2_with fail
  exact bodyPost_ret (v := .agg #[.int .i64 1, .int .i64 at_, .int .i64 to_, .int .i64 0]) (by simp [results, Tryz.results92, go_sem]) rfl ⟨rfl, balloc _ _⟩
set_option maxHeartbeats 400000 in
theorem wait_any (at_ n : Int) (w : World) : Calls Tryz.prog 93 #[.int .i64 at_, .int .i64 n] w fun e w' => e = .returned (.agg #[.int .i64 0, .int .i64 at_, .int .i64 0, .int .i64 n]) ∧ Below w.heap.size w w' := by
  go_enter Tryz.func93, Tryz.ntmps93
  go_wp2_with fail
  exact bodyPost_ret (v := .agg #[.int .i64 0, .int .i64 at_, .int .i64 0, .int .i64 n]) (by simp [results, Tryz.results93, go_sem]) rfl ⟨rfl, balloc _ _⟩
set_option maxHeartbeats 400000 in
theorem write_any (at_ to_ : Int) (w : World) : Calls Tryz.prog 94 #[.int .i64 at_, .int .i64 to_] w fun e w' => e = .returned (.agg #[.int .i64 2, .int .i64 at_, .int .i64 to_, .int .i64 0]) ∧ Below w.heap.size w w' := by
  go_enter Tryz.func94, Tryz.ntmps94
  go_wp2_with fail
  exact bodyPost_ret (v := .agg #[.int .i64 2, .int .i64 at_, .int .i64 to_, .int .i64 0]) (by simp [results, Tryz.results94, go_sem]) rfl ⟨rfl, balloc _ _⟩
set_option maxHeartbeats 400000 in
theorem in_any (at_ to_ : Int) (w : World) : Calls Tryz.prog 110 #[.int .i64 at_, .int .i64 to_] w fun e w' => e = .returned (.agg #[.int .i64 3, .int .i64 at_, .int .i64 to_, .int .i64 0]) ∧ Below w.heap.size w w' := by
  go_enter Tryz.func110, Tryz.ntmps110
  go_wp2_with fail
  exact bodyPost_ret (v := .agg #[.int .i64 3, .int .i64 at_, .int .i64 to_, .int .i64 0]) (by simp [results, Tryz.results110, go_sem]) rfl ⟨rfl, balloc _ _⟩
set_option maxHeartbeats 400000 in
theorem out_any (at_ to_ : Int) (w : World) : Calls Tryz.prog 111 #[.int .i64 at_, .int .i64 to_] w fun e w' => e = .returned (.agg #[.int .i64 4, .int .i64 at_, .int .i64 to_, .int .i64 0]) ∧ Below w.heap.size w w' := by
  go_enter Tryz.func111, Tryz.ntmps111
  go_wp2_with fail
  exact bodyPost_ret (v := .agg #[.int .i64 4, .int .i64 at_, .int .i64 to_, .int .i64 0]) (by simp [results, Tryz.results111, go_sem]) rfl ⟨rfl, balloc _ _⟩
set_option maxHeartbeats 400000 in
theorem work_any (wh n : Int) (w : World) : Calls Tryz.prog 71 #[.int .i64 wh, .int .i64 n] w fun e w' => e = .returned (.agg #[.int .i64 5, .int .i64 0, .int .i64 wh, .int .i64 n]) ∧ Below w.heap.size w w' := by
  go_enter Tryz.func71, Tryz.ntmps71
  go_wp2_with fail
  exact bodyPost_ret (v := .agg #[.int .i64 5, .int .i64 0, .int .i64 wh, .int .i64 n]) (by simp [results, Tryz.results71, go_sem]) rfl ⟨rfl, balloc _ _⟩
set_option maxHeartbeats 400000 in
theorem unless_any (wh : Int) (w : World) : Calls Tryz.prog 102 #[.int .i64 wh] w fun e w' => e = .returned (.agg #[.int .i64 6, .int .i64 0, .int .i64 wh, .int .i64 0]) ∧ Below w.heap.size w w' := by
  go_enter Tryz.func102, Tryz.ntmps102
  go_wp2_with fail
  exact bodyPost_ret (v := .agg #[.int .i64 6, .int .i64 0, .int .i64 wh, .int .i64 0]) (by simp [results, Tryz.results102, go_sem]) rfl ⟨rfl, balloc _ _⟩
set_option maxHeartbeats 400000 in
theorem which_any (g n : Int) (w : World) (g0 : 0 ≤ g) (g1 : g ≤ 1000) (n0 : 0 ≤ n) (n1 : n ≤ 100) : Calls Tryz.prog 76 #[.int .i64 g, .int .i64 n] w fun e w' => e = .returned (.int .i64 (g + n)) ∧ w = w' := by
  go_enter Tryz.func76, Tryz.ntmps76
  go_wp2_with fail
  go_ret
  exact ⟨rfl, rfl⟩

end Go.Proofs.YtcfkpeemhleleaaGreatDoor
/- op.cut, Memory: their contracts. -/
namespace Go.Proofs.YtcfkpeemhleleaaGreatDoor
open Go.RowKit

/-- x, y, z, p, q are the parts of c. -/
def Pts (c : Nat) (x y z p q : Int) : Prop := x = ((c / 64 : Nat) : Int) ∧ y = ((c / 8 % 8 : Nat) : Int) ∧ z = ((c % 8 : Nat) : Int) ∧ p = ((c / 8 % 8 / 2 : Nat) : Int) ∧ q = ((c / 8 % 2 : Nat) : Int)
theorem cut_is (c : Nat) (x y z p q : Int) (w : World) (hc : c < 256) (h : Pts c x y z p q) : Calls Tryz.prog 95 #[.int .u8 c] w fun e w' => e = .returned (.agg #[.int .u8 x, .int .u8 y, .int .u8 z, .int .u8 p, .int .u8 q]) ∧ Below w.heap.size w w' := by
  obtain ⟨rfl, rfl, rfl, rfl, rfl⟩ := h
  exact opCut c w hc
theorem pts (c : Nat) : ∃ x y z p q : Int, Pts c x y z p q := ⟨_, _, _, _, _, rfl, rfl, rfl, rfl, rfl⟩
theorem Pts.bd {c : Nat} {x y z p q : Int} (h : Pts c x y z p q) (hc : c < 256) : (0 ≤ x ∧ x ≤ 3) ∧ (0 ≤ y ∧ y ≤ 7) ∧ (0 ≤ z ∧ z ≤ 7) ∧ (0 ≤ p ∧ p ≤ 3) ∧ (0 ≤ q ∧ q ≤ 1) ∧ y = 2 * p + q := by
  obtain ⟨h1, h2, h3, h4, h5⟩ := h; omega

theorem mem_is (c : Nat) (x y z p q : Int) (h : Pts c x y z p q) : memC c = (if x = 0 then y == 6 && (decide (4 ≤ z) && decide (z ≤ 6)) else if x = 1 then c != 118 && (y == 6 || z == 6) else if x = 2 then z == 6 else false) := by
  obtain ⟨h1, h2, h3, h4, h5⟩ := h
  subst h1 h2 h3
  unfold memC
  have e (n k : Nat) : ((n : Int) == (k : Int)) = (n == k) := by rw [Bool.eq_iff_iff, beq_iff_eq, beq_iff_eq]; omega
  have d1 (n k : Nat) : decide ((k : Int) ≤ (n : Int)) = decide (k ≤ n) := by rw [decide_eq_decide]; omega
  have i (n k : Nat) : ((n : Int) = (k : Int)) = (n = k) := by rw [eq_iff_iff]; omega
  have e6 := e (c / 8 % 8) 6
  have e7 := e (c % 8) 6
  have d4 := d1 (c % 8) 4
  have d6 := d1 6 (c % 8)
  have i0 := i (c / 64) 0
  have i1 := i (c / 64) 1
  have i2 := i (c / 64) 2
  simp only [Int.cast_ofNat_Int] at e6 e7 d4 d6 i0 i1 i2
  rw [e6, e7, d4, d6]
  simp only [i0, i1, i2]

set_option maxHeartbeats 800000 in
theorem opMemCore (c : Nat) (x y z p q : Int) (w : World) (hc : c < 256) (h : Pts c x y z p q) (r : Bool) (hr : memC c = r) : Calls Tryz.prog 73 #[.int .u8 c] w fun e w' => e = .returned (.bool r) ∧ Below w.heap.size w w' := by
  obtain ⟨⟨x0, x1⟩, ⟨y0, y1⟩, ⟨z0, z1⟩, -⟩ := h.bd hc
  have hm := mem_is c x y z p q h
  rw [hr] at hm
  clear hr
  have hx : x = 0 ∨ x = 1 ∨ x = 2 ∨ x = 3 := by omega
  rcases hx with rfl | rfl | rfl | rfl
  · simp only [if_true] at hm
    by_cases a : (y == 6) = true
    · by_cases b : decide (4 ≤ z) = true
      · rw [a, b] at hm
        simp only [Bool.true_and] at hm
        have M := Lib.hid hm
        have H := Lib.hid h
        clear hm h
        go_enter Tryz.func73, Tryz.ntmps73
        go_wp2_with fail
        refine (cut_is _ _ _ _ _ _ _ hc H.out).mono ?_
        rintro e w1 ⟨rfl, hb1⟩
        go_wp2_with fail
        go_ret
        exact ⟨by rw [M.out]; rfl, hb1.alloc hb1.size _⟩
      · have b' : decide (4 ≤ z) = false := by simpa using b
        rw [a, b'] at hm
        simp only [Bool.true_and, Bool.false_and] at hm
        have M := Lib.hid hm
        have H := Lib.hid h
        clear hm h b
        go_enter Tryz.func73, Tryz.ntmps73
        go_wp2_with fail
        refine (cut_is _ _ _ _ _ _ _ hc H.out).mono ?_
        rintro e w1 ⟨rfl, hb1⟩
        go_wp2_with fail
        go_ret
        exact ⟨by rw [M.out]; rfl, hb1.alloc hb1.size _⟩
    · have a' : (y == 6) = false := by simpa using a
      rw [a'] at hm
      simp only [Bool.false_and] at hm
      have M := Lib.hid hm
      have H := Lib.hid h
      clear hm h a
      go_enter Tryz.func73, Tryz.ntmps73
      go_wp2_with fail
      refine (cut_is _ _ _ _ _ _ _ hc H.out).mono ?_
      rintro e w1 ⟨rfl, hb1⟩
      go_wp2_with fail
      go_ret
      exact ⟨by rw [M.out]; rfl, hb1.alloc hb1.size _⟩
  · simp only [show ¬ ((1 : Int) = 0) by decide, if_true, if_false] at hm
    by_cases a : c = 118
    · rw [show (c != 118) = false by simp [a]] at hm
      simp only [Bool.false_and] at hm
      have M := Lib.hid hm
      have H := Lib.hid h
      subst a
      clear hm h
      go_enter Tryz.func73, Tryz.ntmps73
      go_wp2_with fail
      refine (cut_is _ _ _ _ _ _ _ hc H.out).mono ?_
      rintro e w1 ⟨rfl, hb1⟩
      go_wp2_with fail
      go_ret
      exact ⟨by rw [M.out]; rfl, hb1.alloc hb1.size _⟩
    · rw [show (c != 118) = true by simp [a]] at hm
      have a' : ((c : Int) == 118) = false := by simp; omega
      have a'' : ((c : Int) != 118) = true := by simp; omega
      simp only [Bool.true_and] at hm
      by_cases b : (y == 6) = true
      · rw [b] at hm
        have M := Lib.hid hm
        have H := Lib.hid h
        clear hm h a
        go_enter Tryz.func73, Tryz.ntmps73
        go_wp2_with fail
        refine (cut_is _ _ _ _ _ _ _ hc H.out).mono ?_
        rintro e w1 ⟨rfl, hb1⟩
        go_wp2_with fail
        go_ret
        exact ⟨by rw [M.out]; rfl, hb1.alloc hb1.size _⟩
      · have b' : (y == 6) = false := by simpa using b
        rw [b'] at hm
        simp only [Bool.false_or] at hm
        have M := Lib.hid hm
        have H := Lib.hid h
        clear hm h b a
        go_enter Tryz.func73, Tryz.ntmps73
        go_wp2_with fail
        refine (cut_is _ _ _ _ _ _ _ hc H.out).mono ?_
        rintro e w1 ⟨rfl, hb1⟩
        go_wp2_with fail
        go_ret
        exact ⟨by rw [M.out]; rfl, hb1.alloc hb1.size _⟩
  · simp only [show ¬ ((2 : Int) = 0) by decide, show ¬ ((2 : Int) = 1) by decide, if_true, if_false] at hm
    have M := Lib.hid hm
    have H := Lib.hid h
    clear hm h
    go_enter Tryz.func73, Tryz.ntmps73
    go_wp2_with fail
    refine (cut_is _ _ _ _ _ _ _ hc H.out).mono ?_
    rintro e w1 ⟨rfl, hb1⟩
    go_wp2_with fail
    go_ret
    exact ⟨by rw [M.out]; rfl, hb1.alloc hb1.size _⟩
  · simp only [show ¬ ((3 : Int) = 0) by decide, show ¬ ((3 : Int) = 1) by decide, show ¬ ((3 : Int) = 2) by decide, if_false] at hm
    have M := Lib.hid hm
    have H := Lib.hid h
    clear hm h
    go_enter Tryz.func73, Tryz.ntmps73
    go_wp2_with fail
    refine (cut_is _ _ _ _ _ _ _ hc H.out).mono ?_
    rintro e w1 ⟨rfl, hb1⟩
    go_wp2_with fail
    go_ret
    exact ⟨by rw [M.out]; rfl, hb1.alloc hb1.size _⟩
theorem opMem (c : Nat) (w : World) (hc : c < 256) : Calls Tryz.prog 73 #[.int .u8 c] w fun e w' => e = .returned (.bool (memC c)) ∧ Below w.heap.size w w' := by
  obtain ⟨x, y, z, p, q, h⟩ := pts c
  exact opMemCore c x y z p q w hc h _ rfl
theorem opMemIs (c : Nat) (r : Bool) (w : World) (hc : c < 256) (h : memC c = r) : Calls Tryz.prog 73 #[.int .u8 c] w fun e w' => e = .returned (.bool r) ∧ Below w.heap.size w w' := by
  subst h; exact opMem c w hc

theorem z8 (z : Int) (h0 : 0 ≤ z) (h1 : z ≤ 7) : z = 0 ∨ z = 1 ∨ z = 2 ∨ z = 3 ∨ z = 4 ∨ z = 5 ∨ z = 6 ∨ z = 7 := by omega
end Go.Proofs.YtcfkpeemhleleaaGreatDoor
/- micro.cut, low, high, sent, onBits: their contracts. -/
namespace Go.Proofs.YtcfkpeemhleleaaGreatDoor
open Go.RowKit

set_option maxHeartbeats 400000 in
theorem low_any (p : Int) (w : World) (p0 : 0 ≤ p) (p1 : p ≤ 3) : Calls Tryz.prog 97 #[.int .i64 p] w fun e w' => e = .returned (.int .i64 (lowW p)) ∧ w = w' := by
  by_cases h : p = 3
  · subst h
    go_enter Tryz.func97, Tryz.ntmps97
    go_wp2_with fail
    go_ret
    exact ⟨rfl, rfl⟩
  · have H := Lib.hid (show lowW p = 2 * p + 1 by unfold lowW; rw [if_neg h])
    have h1 : (p == 3) = false := by simpa using h
    clear h
    go_enter Tryz.func97, Tryz.ntmps97
    go_wp2_with fail
    refine (which_any _ _ _ (by omega) (by omega) (by omega) (by omega)).mono ?_
    rintro e w' ⟨rfl, rfl⟩
    go_wp2_with fail
    go_ret
    exact ⟨by rw [H.out]; rfl, rfl⟩
set_option maxHeartbeats 400000 in
theorem high_any (p : Int) (w : World) (p0 : 0 ≤ p) (p1 : p ≤ 3) : Calls Tryz.prog 98 #[.int .i64 p] w fun e w' => e = .returned (.int .i64 (highW p)) ∧ w = w' := by
  by_cases h : p = 3
  · subst h
    go_enter Tryz.func98, Tryz.ntmps98
    go_wp2_with fail
    go_ret
    exact ⟨rfl, rfl⟩
  · have H := Lib.hid (show highW p = 2 * p by unfold highW; rw [if_neg h])
    have h1 : (p == 3) = false := by simpa using h
    clear h
    go_enter Tryz.func98, Tryz.ntmps98
    go_wp2_with fail
    refine (which_any _ _ _ (by omega) (by omega) (by omega) (by omega)).mono ?_
    rintro e w' ⟨rfl, rfl⟩
    go_wp2_with fail
    go_ret
    exact ⟨by rw [H.out]; rfl, rfl⟩
theorem pts_i (c : Nat) (x y z p q : Int) (h : Pts c x y z p q) : (c : Int) / 64 = x ∧ (c : Int) / 8 % 8 = y ∧ (c : Int) % 8 = z ∧ (c : Int) / 16 % 4 = p ∧ (c : Int) / 8 % 2 = q := by
  obtain ⟨rfl, rfl, rfl, rfl, rfl⟩ := h
  omega
theorem andI (n k m : Nat) (h : n < 256) (hk : 2 ^ k = m + 1) (h9 : m < 256) : bits .and .i64 (n : Int) (m : Int) = (n : Int) % ((m + 1 : Nat) : Int) := by
  have h' : n &&& m = n % (m + 1) := by
    have := Nat.and_two_pow_sub_one_eq_mod n k
    rw [hk, Nat.add_sub_cancel] at this
    exact this
  show IntKind.i64.wrap ((BitVec.ofInt 64 (n : Int) &&& BitVec.ofInt 64 (m : Int)).toNat : Int) = _
  rw [BitVec.toNat_and, BitVec.ofInt_natCast, BitVec.ofInt_natCast, BitVec.toNat_ofNat, BitVec.toNat_ofNat, Nat.mod_eq_of_lt (by omega : n < 2 ^ 64), Nat.mod_eq_of_lt (by omega : m < 2 ^ 64), h', IntWalk.i64_in _ (by have := Nat.mod_le n (m + 1); omega)]
  simp
set_option maxHeartbeats 800000 in
theorem mcut_is (c : Nat) (x y z p q : Int) (w : World) (hc : c < 256) (h : Pts c x y z p q) : Calls Tryz.prog 55 #[.int .u8 c] w fun e w' => e = .returned (.agg #[.int .i64 x, .int .i64 y, .int .i64 z, .int .i64 p, .int .i64 q]) ∧ Below w.heap.size w w' := by
  obtain ⟨rfl, rfl, rfl, rfl, rfl⟩ := pts_i c x y z p q h
  clear h
  have c0 : (0 : Int) ≤ c := by omega
  have cv : IntKind.i64.wrap (c : Int) = c := IntWalk.i64_in _ (by omega)
  have e1 : bits .and .i64 ((c : Int) / 8) 7 = (c : Int) / 8 % 8 := by have := andI (c / 8) 3 7 (by omega) rfl (by omega); rw [show ((c / 8 : Nat) : Int) = (c : Int) / 8 by omega] at this; exact this
  have e2 : bits .and .i64 (c : Int) 7 = (c : Int) % 8 := andI c 3 7 hc rfl (by omega)
  have e3 : bits .and .i64 ((c : Int) / 16) 3 = (c : Int) / 16 % 4 := by have := andI (c / 16) 2 3 (by omega) rfl (by omega); rw [show ((c / 16 : Nat) : Int) = (c : Int) / 16 by omega] at this; exact this
  have e4 : bits .and .i64 ((c : Int) / 8) 1 = (c : Int) / 8 % 2 := by have := andI (c / 8) 1 1 (by omega) rfl (by omega); rw [show ((c / 8 : Nat) : Int) = (c : Int) / 8 by omega] at this; exact this
  go_enter Tryz.func55, Tryz.ntmps55
  go_wp2_with fail
  exact bodyPost_ret (v := .agg #[.int .i64 ((c : Int) / 64), .int .i64 ((c : Int) / 8 % 8), .int .i64 ((c : Int) % 8), .int .i64 ((c : Int) / 16 % 4), .int .i64 ((c : Int) / 8 % 2)]) (by simp [results, Tryz.results55, go_sem]) rfl ⟨rfl, balloc _ _⟩

end Go.Proofs.YtcfkpeemhleleaaGreatDoor
/- micro.word to others: their contracts. -/
namespace Go.Proofs.YtcfkpeemhleleaaGreatDoor
open Go.RowKit

set_option maxRecDepth 100000 in
set_option maxHeartbeats 4000000 in
theorem word_is (base : Nat) (v : Value) (L : List Sp) (c : Nat) (w : World) (hO : Own w v L c base) (hc : c ≤ 9000)    : Calls Tryz.prog 105 #[v] w (Gives w v (wordS L) (c + 2) base) := by
  have h0 := St.start hO
  clear hO
  go_enter Tryz.func105, Tryz.ntmps105
  go_wp2_with (first | (go_at_call 70; (with_reducible refine (put1 (by first | assumption | exact St.drew (by assumption) | exact St.alloc (by assumption) _ | exact St.drew (St.alloc (by assumption) _)) (by omega) _ _ _ _ _).mono ?_); rintro e w' ⟨v', rfl, hSt⟩) | (go_at_call 70; (with_reducible refine (put2 (by first | assumption | exact St.drew (by assumption) | exact St.alloc (by assumption) _ | exact St.drew (St.alloc (by assumption) _)) (by omega) _ _ _ _ _ _ _ _ _).mono ?_); rintro e w' ⟨v', rfl, hSt⟩) | (go_at_call 70; (with_reducible refine (put3 (by first | assumption | exact St.drew (by assumption) | exact St.alloc (by assumption) _ | exact St.drew (St.alloc (by assumption) _)) (by omega) _ _ _ _ _ _ _ _ _ _ _ _ _).mono ?_); rintro e w' ⟨v', rfl, hSt⟩) | (go_at_call 70; (with_reducible refine (put4 (by first | assumption | exact St.drew (by assumption) | exact St.alloc (by assumption) _ | exact St.drew (St.alloc (by assumption) _)) (by omega) _ _ _ _ _ _ _ _ _ _ _ _ _ _ _ _ _).mono ?_); rintro e w' ⟨v', rfl, hSt⟩) | (go_at_call 70; (with_reducible refine (put5 (by first | assumption | exact St.drew (by assumption) | exact St.alloc (by assumption) _ | exact St.drew (St.alloc (by assumption) _)) (by omega) _ _ _ _ _ _ _ _ _ _ _ _ _ _ _ _ _ _ _ _ _).mono ?_); rintro e w' ⟨v', rfl, hSt⟩) | (go_at_call 92; refine (St.then (by first | assumption | exact St.drew (by assumption) | exact St.alloc (by assumption) _ | exact St.drew (St.alloc (by assumption) _)) (read_any _ _ _)).mono ?_; rintro e w' ⟨rfl, hSt⟩))
  go_ret
  exact St.fin (by first | assumption | exact St.drew (by assumption) | exact St.alloc (by assumption) _ | exact St.drew (St.alloc (by assumption) _)) (by omega)
theorem word_st {u : World} {v : Value} {L : List Sp} {c b : Nat} {C : List Value} {base : Nat} {w0 : World} {v0 : Value} (h : St u v L c b C base w0 v0) (hc : c ≤ 9000)    : Calls Tryz.prog 105 #[v] u (Goes (wordS L) (c + 2) b C base w0 v0) :=
  h.goes (word_is base v L c u h.own hc )

set_option maxRecDepth 100000 in
set_option maxHeartbeats 4000000 in
theorem back_is (base : Nat) (v : Value) (L : List Sp) (c : Nat) (w : World) (hO : Own w v L c base) (hc : c ≤ 9000)    : Calls Tryz.prog 101 #[v] w (Gives w v (backS L) (c + 3) base) := by
  have h0 := St.start hO
  clear hO
  go_enter Tryz.func101, Tryz.ntmps101
  go_wp2_with (first | (go_at_call 70; (with_reducible refine (put1 (by first | assumption | exact St.drew (by assumption) | exact St.alloc (by assumption) _ | exact St.drew (St.alloc (by assumption) _)) (by omega) _ _ _ _ _).mono ?_); rintro e w' ⟨v', rfl, hSt⟩) | (go_at_call 70; (with_reducible refine (put2 (by first | assumption | exact St.drew (by assumption) | exact St.alloc (by assumption) _ | exact St.drew (St.alloc (by assumption) _)) (by omega) _ _ _ _ _ _ _ _ _).mono ?_); rintro e w' ⟨v', rfl, hSt⟩) | (go_at_call 70; (with_reducible refine (put3 (by first | assumption | exact St.drew (by assumption) | exact St.alloc (by assumption) _ | exact St.drew (St.alloc (by assumption) _)) (by omega) _ _ _ _ _ _ _ _ _ _ _ _ _).mono ?_); rintro e w' ⟨v', rfl, hSt⟩) | (go_at_call 70; (with_reducible refine (put4 (by first | assumption | exact St.drew (by assumption) | exact St.alloc (by assumption) _ | exact St.drew (St.alloc (by assumption) _)) (by omega) _ _ _ _ _ _ _ _ _ _ _ _ _ _ _ _ _).mono ?_); rintro e w' ⟨v', rfl, hSt⟩) | (go_at_call 70; (with_reducible refine (put5 (by first | assumption | exact St.drew (by assumption) | exact St.alloc (by assumption) _ | exact St.drew (St.alloc (by assumption) _)) (by omega) _ _ _ _ _ _ _ _ _ _ _ _ _ _ _ _ _ _ _ _ _).mono ?_); rintro e w' ⟨v', rfl, hSt⟩) | (go_at_call 92; refine (St.then (by first | assumption | exact St.drew (by assumption) | exact St.alloc (by assumption) _ | exact St.drew (St.alloc (by assumption) _)) (read_any _ _ _)).mono ?_; rintro e w' ⟨rfl, hSt⟩) | (go_at_call 71; refine (St.then (by first | assumption | exact St.drew (by assumption) | exact St.alloc (by assumption) _ | exact St.drew (St.alloc (by assumption) _)) (work_any _ _ _)).mono ?_; rintro e w' ⟨rfl, hSt⟩))
  go_ret
  exact St.fin (by first | assumption | exact St.drew (by assumption) | exact St.alloc (by assumption) _ | exact St.drew (St.alloc (by assumption) _)) (by omega)
theorem back_st {u : World} {v : Value} {L : List Sp} {c b : Nat} {C : List Value} {base : Nat} {w0 : World} {v0 : Value} (h : St u v L c b C base w0 v0) (hc : c ≤ 9000)    : Calls Tryz.prog 101 #[v] u (Goes (backS L) (c + 3) b C base w0 v0) :=
  h.goes (back_is base v L c u h.own hc )

set_option maxRecDepth 100000 in
set_option maxHeartbeats 4000000 in
theorem pushPc_is (base : Nat) (v : Value) (L : List Sp) (c : Nat) (w : World) (hO : Own w v L c base) (hc : c ≤ 9000)    : Calls Tryz.prog 109 #[v] w (Gives w v (pushPcS L) (c + 2) base) := by
  have h0 := St.start hO
  clear hO
  go_enter Tryz.func109, Tryz.ntmps109
  go_wp2_with (first | (go_at_call 70; (with_reducible refine (put1 (by first | assumption | exact St.drew (by assumption) | exact St.alloc (by assumption) _ | exact St.drew (St.alloc (by assumption) _)) (by omega) _ _ _ _ _).mono ?_); rintro e w' ⟨v', rfl, hSt⟩) | (go_at_call 70; (with_reducible refine (put2 (by first | assumption | exact St.drew (by assumption) | exact St.alloc (by assumption) _ | exact St.drew (St.alloc (by assumption) _)) (by omega) _ _ _ _ _ _ _ _ _).mono ?_); rintro e w' ⟨v', rfl, hSt⟩) | (go_at_call 70; (with_reducible refine (put3 (by first | assumption | exact St.drew (by assumption) | exact St.alloc (by assumption) _ | exact St.drew (St.alloc (by assumption) _)) (by omega) _ _ _ _ _ _ _ _ _ _ _ _ _).mono ?_); rintro e w' ⟨v', rfl, hSt⟩) | (go_at_call 70; (with_reducible refine (put4 (by first | assumption | exact St.drew (by assumption) | exact St.alloc (by assumption) _ | exact St.drew (St.alloc (by assumption) _)) (by omega) _ _ _ _ _ _ _ _ _ _ _ _ _ _ _ _ _).mono ?_); rintro e w' ⟨v', rfl, hSt⟩) | (go_at_call 70; (with_reducible refine (put5 (by first | assumption | exact St.drew (by assumption) | exact St.alloc (by assumption) _ | exact St.drew (St.alloc (by assumption) _)) (by omega) _ _ _ _ _ _ _ _ _ _ _ _ _ _ _ _ _ _ _ _ _).mono ?_); rintro e w' ⟨v', rfl, hSt⟩) | (go_at_call 94; refine (St.then (by first | assumption | exact St.drew (by assumption) | exact St.alloc (by assumption) _ | exact St.drew (St.alloc (by assumption) _)) (write_any _ _ _)).mono ?_; rintro e w' ⟨rfl, hSt⟩))
  go_ret
  exact St.fin (by first | assumption | exact St.drew (by assumption) | exact St.alloc (by assumption) _ | exact St.drew (St.alloc (by assumption) _)) (by omega)
theorem pushPc_st {u : World} {v : Value} {L : List Sp} {c b : Nat} {C : List Value} {base : Nat} {w0 : World} {v0 : Value} (h : St u v L c b C base w0 v0) (hc : c ≤ 9000)    : Calls Tryz.prog 109 #[v] u (Goes (pushPcS L) (c + 2) b C base w0 v0) :=
  h.goes (pushPc_is base v L c u h.own hc )

set_option maxRecDepth 100000 in
set_option maxHeartbeats 4000000 in
theorem call_is (base : Nat) (v : Value) (L : List Sp) (c : Nat) (w : World) (hO : Own w v L c base) (hc : c ≤ 8000)    : Calls Tryz.prog 107 #[v] w (Gives w v (callS L) (c + 4) base) := by
  have h0 := St.start hO
  clear hO
  go_enter Tryz.func107, Tryz.ntmps107
  go_wp2_with (first | (go_at_call 70; (with_reducible refine (put1 (by first | assumption | exact St.drew (by assumption) | exact St.alloc (by assumption) _ | exact St.drew (St.alloc (by assumption) _)) (by omega) _ _ _ _ _).mono ?_); rintro e w' ⟨v', rfl, hSt⟩) | (go_at_call 70; (with_reducible refine (put2 (by first | assumption | exact St.drew (by assumption) | exact St.alloc (by assumption) _ | exact St.drew (St.alloc (by assumption) _)) (by omega) _ _ _ _ _ _ _ _ _).mono ?_); rintro e w' ⟨v', rfl, hSt⟩) | (go_at_call 70; (with_reducible refine (put3 (by first | assumption | exact St.drew (by assumption) | exact St.alloc (by assumption) _ | exact St.drew (St.alloc (by assumption) _)) (by omega) _ _ _ _ _ _ _ _ _ _ _ _ _).mono ?_); rintro e w' ⟨v', rfl, hSt⟩) | (go_at_call 70; (with_reducible refine (put4 (by first | assumption | exact St.drew (by assumption) | exact St.alloc (by assumption) _ | exact St.drew (St.alloc (by assumption) _)) (by omega) _ _ _ _ _ _ _ _ _ _ _ _ _ _ _ _ _).mono ?_); rintro e w' ⟨v', rfl, hSt⟩) | (go_at_call 70; (with_reducible refine (put5 (by first | assumption | exact St.drew (by assumption) | exact St.alloc (by assumption) _ | exact St.drew (St.alloc (by assumption) _)) (by omega) _ _ _ _ _ _ _ _ _ _ _ _ _ _ _ _ _ _ _ _ _).mono ?_); rintro e w' ⟨v', rfl, hSt⟩) | (go_at_call 93; refine (St.then (by first | assumption | exact St.drew (by assumption) | exact St.alloc (by assumption) _ | exact St.drew (St.alloc (by assumption) _)) (wait_any _ _ _)).mono ?_; rintro e w' ⟨rfl, hSt⟩) | (go_at_call 71; refine (St.then (by first | assumption | exact St.drew (by assumption) | exact St.alloc (by assumption) _ | exact St.drew (St.alloc (by assumption) _)) (work_any _ _ _)).mono ?_; rintro e w' ⟨rfl, hSt⟩) | (go_at_call 109; refine (pushPc_st (by first | assumption | exact St.drew (by assumption) | exact St.alloc (by assumption) _ | exact St.drew (St.alloc (by assumption) _)) (by omega)).mono ?_; rintro e w' ⟨v', rfl, hSt⟩))
  go_ret
  exact St.fin (by first | assumption | exact St.drew (by assumption) | exact St.alloc (by assumption) _ | exact St.drew (St.alloc (by assumption) _)) (by omega)
theorem call_st {u : World} {v : Value} {L : List Sp} {c b : Nat} {C : List Value} {base : Nat} {w0 : World} {v0 : Value} (h : St u v L c b C base w0 v0) (hc : c ≤ 8000)    : Calls Tryz.prog 107 #[v] u (Goes (callS L) (c + 4) b C base w0 v0) :=
  h.goes (call_is base v L c u h.own hc )

set_option maxRecDepth 100000 in
set_option maxHeartbeats 4000000 in
theorem sum_is (base : Nat) (v : Value) (L : List Sp) (c : Nat) (w : World) (hO : Own w v L c base) (hc : c ≤ 9000) (wh : Int) (p : Int)   : Calls Tryz.prog 99 #[v, .int .i64 wh, .int .i64 p] w (Gives w v (sumS L wh p) (c + 4) base) := by
  have h0 := St.start hO
  clear hO
  go_enter Tryz.func99, Tryz.ntmps99
  go_wp2_with (first | (go_at_call 70; (with_reducible refine (put1 (by first | assumption | exact St.drew (by assumption) | exact St.alloc (by assumption) _ | exact St.drew (St.alloc (by assumption) _)) (by omega) _ _ _ _ _).mono ?_); rintro e w' ⟨v', rfl, hSt⟩) | (go_at_call 70; (with_reducible refine (put2 (by first | assumption | exact St.drew (by assumption) | exact St.alloc (by assumption) _ | exact St.drew (St.alloc (by assumption) _)) (by omega) _ _ _ _ _ _ _ _ _).mono ?_); rintro e w' ⟨v', rfl, hSt⟩) | (go_at_call 70; (with_reducible refine (put3 (by first | assumption | exact St.drew (by assumption) | exact St.alloc (by assumption) _ | exact St.drew (St.alloc (by assumption) _)) (by omega) _ _ _ _ _ _ _ _ _ _ _ _ _).mono ?_); rintro e w' ⟨v', rfl, hSt⟩) | (go_at_call 70; (with_reducible refine (put4 (by first | assumption | exact St.drew (by assumption) | exact St.alloc (by assumption) _ | exact St.drew (St.alloc (by assumption) _)) (by omega) _ _ _ _ _ _ _ _ _ _ _ _ _ _ _ _ _).mono ?_); rintro e w' ⟨v', rfl, hSt⟩) | (go_at_call 70; (with_reducible refine (put5 (by first | assumption | exact St.drew (by assumption) | exact St.alloc (by assumption) _ | exact St.drew (St.alloc (by assumption) _)) (by omega) _ _ _ _ _ _ _ _ _ _ _ _ _ _ _ _ _ _ _ _ _).mono ?_); rintro e w' ⟨v', rfl, hSt⟩) | (go_at_call 93; refine (St.then (by first | assumption | exact St.drew (by assumption) | exact St.alloc (by assumption) _ | exact St.drew (St.alloc (by assumption) _)) (wait_any _ _ _)).mono ?_; rintro e w' ⟨rfl, hSt⟩) | (go_at_call 71; refine (St.then (by first | assumption | exact St.drew (by assumption) | exact St.alloc (by assumption) _ | exact St.drew (St.alloc (by assumption) _)) (work_any _ _ _)).mono ?_; rintro e w' ⟨rfl, hSt⟩))
  go_ret
  exact St.fin (by first | assumption | exact St.drew (by assumption) | exact St.alloc (by assumption) _ | exact St.drew (St.alloc (by assumption) _)) (by omega)
theorem sum_st {u : World} {v : Value} {L : List Sp} {c b : Nat} {C : List Value} {base : Nat} {w0 : World} {v0 : Value} (h : St u v L c b C base w0 v0) (hc : c ≤ 9000) (wh : Int) (p : Int)   : Calls Tryz.prog 99 #[v, .int .i64 wh, .int .i64 p] u (Goes (sumS L wh p) (c + 4) b C base w0 v0) :=
  h.goes (sum_is base v L c u h.own hc wh p)

set_option maxRecDepth 100000 in
set_option maxHeartbeats 4000000 in
theorem farA_is (base : Nat) (v : Value) (L : List Sp) (c : Nat) (w : World) (hO : Own w v L c base) (hc : c ≤ 9000) (a : Int) (q : Int) (q0 : 0 ≤ q) (q1 : q ≤ 1)  : Calls Tryz.prog 153 #[v, .int .i64 a, .int .i64 q] w (Gives w v (farAS L a q) (c + 3) base) := by
  have eq : q = 0 ∨ q = 1 := by omega
  clear q0 q1
  rcases eq with rfl | rfl
  · have h0 := St.start hO
    clear hO
    go_enter Tryz.func153, Tryz.ntmps153
    go_wp2_with (first | (go_at_call 70; (with_reducible refine (put1 (by first | assumption | exact St.drew (by assumption) | exact St.alloc (by assumption) _ | exact St.drew (St.alloc (by assumption) _)) (by omega) _ _ _ _ _).mono ?_); rintro e w' ⟨v', rfl, hSt⟩) | (go_at_call 70; (with_reducible refine (put2 (by first | assumption | exact St.drew (by assumption) | exact St.alloc (by assumption) _ | exact St.drew (St.alloc (by assumption) _)) (by omega) _ _ _ _ _ _ _ _ _).mono ?_); rintro e w' ⟨v', rfl, hSt⟩) | (go_at_call 70; (with_reducible refine (put3 (by first | assumption | exact St.drew (by assumption) | exact St.alloc (by assumption) _ | exact St.drew (St.alloc (by assumption) _)) (by omega) _ _ _ _ _ _ _ _ _ _ _ _ _).mono ?_); rintro e w' ⟨v', rfl, hSt⟩) | (go_at_call 70; (with_reducible refine (put4 (by first | assumption | exact St.drew (by assumption) | exact St.alloc (by assumption) _ | exact St.drew (St.alloc (by assumption) _)) (by omega) _ _ _ _ _ _ _ _ _ _ _ _ _ _ _ _ _).mono ?_); rintro e w' ⟨v', rfl, hSt⟩) | (go_at_call 70; (with_reducible refine (put5 (by first | assumption | exact St.drew (by assumption) | exact St.alloc (by assumption) _ | exact St.drew (St.alloc (by assumption) _)) (by omega) _ _ _ _ _ _ _ _ _ _ _ _ _ _ _ _ _ _ _ _ _).mono ?_); rintro e w' ⟨v', rfl, hSt⟩) | (go_at_call 94; refine (St.then (by first | assumption | exact St.drew (by assumption) | exact St.alloc (by assumption) _ | exact St.drew (St.alloc (by assumption) _)) (write_any _ _ _)).mono ?_; rintro e w' ⟨rfl, hSt⟩) | (go_at_call 92; refine (St.then (by first | assumption | exact St.drew (by assumption) | exact St.alloc (by assumption) _ | exact St.drew (St.alloc (by assumption) _)) (read_any _ _ _)).mono ?_; rintro e w' ⟨rfl, hSt⟩) | (go_at_call 71; refine (St.then (by first | assumption | exact St.drew (by assumption) | exact St.alloc (by assumption) _ | exact St.drew (St.alloc (by assumption) _)) (work_any _ _ _)).mono ?_; rintro e w' ⟨rfl, hSt⟩))
    go_ret
    exact St.fin (by first | assumption | exact St.drew (by assumption) | exact St.alloc (by assumption) _ | exact St.drew (St.alloc (by assumption) _)) (by omega)
  · have h0 := St.start hO
    clear hO
    go_enter Tryz.func153, Tryz.ntmps153
    go_wp2_with (first | (go_at_call 70; (with_reducible refine (put1 (by first | assumption | exact St.drew (by assumption) | exact St.alloc (by assumption) _ | exact St.drew (St.alloc (by assumption) _)) (by omega) _ _ _ _ _).mono ?_); rintro e w' ⟨v', rfl, hSt⟩) | (go_at_call 70; (with_reducible refine (put2 (by first | assumption | exact St.drew (by assumption) | exact St.alloc (by assumption) _ | exact St.drew (St.alloc (by assumption) _)) (by omega) _ _ _ _ _ _ _ _ _).mono ?_); rintro e w' ⟨v', rfl, hSt⟩) | (go_at_call 70; (with_reducible refine (put3 (by first | assumption | exact St.drew (by assumption) | exact St.alloc (by assumption) _ | exact St.drew (St.alloc (by assumption) _)) (by omega) _ _ _ _ _ _ _ _ _ _ _ _ _).mono ?_); rintro e w' ⟨v', rfl, hSt⟩) | (go_at_call 70; (with_reducible refine (put4 (by first | assumption | exact St.drew (by assumption) | exact St.alloc (by assumption) _ | exact St.drew (St.alloc (by assumption) _)) (by omega) _ _ _ _ _ _ _ _ _ _ _ _ _ _ _ _ _).mono ?_); rintro e w' ⟨v', rfl, hSt⟩) | (go_at_call 70; (with_reducible refine (put5 (by first | assumption | exact St.drew (by assumption) | exact St.alloc (by assumption) _ | exact St.drew (St.alloc (by assumption) _)) (by omega) _ _ _ _ _ _ _ _ _ _ _ _ _ _ _ _ _ _ _ _ _).mono ?_); rintro e w' ⟨v', rfl, hSt⟩) | (go_at_call 94; refine (St.then (by first | assumption | exact St.drew (by assumption) | exact St.alloc (by assumption) _ | exact St.drew (St.alloc (by assumption) _)) (write_any _ _ _)).mono ?_; rintro e w' ⟨rfl, hSt⟩) | (go_at_call 92; refine (St.then (by first | assumption | exact St.drew (by assumption) | exact St.alloc (by assumption) _ | exact St.drew (St.alloc (by assumption) _)) (read_any _ _ _)).mono ?_; rintro e w' ⟨rfl, hSt⟩) | (go_at_call 71; refine (St.then (by first | assumption | exact St.drew (by assumption) | exact St.alloc (by assumption) _ | exact St.drew (St.alloc (by assumption) _)) (work_any _ _ _)).mono ?_; rintro e w' ⟨rfl, hSt⟩))
    go_ret
    exact St.fin (by first | assumption | exact St.drew (by assumption) | exact St.alloc (by assumption) _ | exact St.drew (St.alloc (by assumption) _)) (by omega)
theorem farA_st {u : World} {v : Value} {L : List Sp} {c b : Nat} {C : List Value} {base : Nat} {w0 : World} {v0 : Value} (h : St u v L c b C base w0 v0) (hc : c ≤ 9000) (a : Int) (q : Int) (q0 : 0 ≤ q) (q1 : q ≤ 1)  : Calls Tryz.prog 153 #[v, .int .i64 a, .int .i64 q] u (Goes (farAS L a q) (c + 3) b C base w0 v0) :=
  h.goes (farA_is base v L c u h.own hc a q q0 q1)

set_option maxRecDepth 100000 in
set_option maxHeartbeats 4000000 in
theorem farPair_is (base : Nat) (v : Value) (L : List Sp) (c : Nat) (w : World) (hO : Own w v L c base) (hc : c ≤ 9000) (p : Int) (q : Int) (p0 : 0 ≤ p) (p1 : p ≤ 3) (q0 : 0 ≤ q) (q1 : q ≤ 1)  : Calls Tryz.prog 113 #[v, .int .i64 p, .int .i64 q] w (Gives w v (farPairS L p q) (c + 3) base) := by
  have eq : q = 0 ∨ q = 1 := by omega
  clear q0 q1
  rcases eq with rfl | rfl
  · have h0 := St.start hO
    clear hO
    go_enter Tryz.func113, Tryz.ntmps113
    go_wp2_with (first | (go_at_call 70; (with_reducible refine (put1 (by first | assumption | exact St.drew (by assumption) | exact St.alloc (by assumption) _ | exact St.drew (St.alloc (by assumption) _)) (by omega) _ _ _ _ _).mono ?_); rintro e w' ⟨v', rfl, hSt⟩) | (go_at_call 70; (with_reducible refine (put2 (by first | assumption | exact St.drew (by assumption) | exact St.alloc (by assumption) _ | exact St.drew (St.alloc (by assumption) _)) (by omega) _ _ _ _ _ _ _ _ _).mono ?_); rintro e w' ⟨v', rfl, hSt⟩) | (go_at_call 70; (with_reducible refine (put3 (by first | assumption | exact St.drew (by assumption) | exact St.alloc (by assumption) _ | exact St.drew (St.alloc (by assumption) _)) (by omega) _ _ _ _ _ _ _ _ _ _ _ _ _).mono ?_); rintro e w' ⟨v', rfl, hSt⟩) | (go_at_call 70; (with_reducible refine (put4 (by first | assumption | exact St.drew (by assumption) | exact St.alloc (by assumption) _ | exact St.drew (St.alloc (by assumption) _)) (by omega) _ _ _ _ _ _ _ _ _ _ _ _ _ _ _ _ _).mono ?_); rintro e w' ⟨v', rfl, hSt⟩) | (go_at_call 70; (with_reducible refine (put5 (by first | assumption | exact St.drew (by assumption) | exact St.alloc (by assumption) _ | exact St.drew (St.alloc (by assumption) _)) (by omega) _ _ _ _ _ _ _ _ _ _ _ _ _ _ _ _ _ _ _ _ _).mono ?_); rintro e w' ⟨v', rfl, hSt⟩) | (go_at_call 94; refine (St.then (by first | assumption | exact St.drew (by assumption) | exact St.alloc (by assumption) _ | exact St.drew (St.alloc (by assumption) _)) (write_any _ _ _)).mono ?_; rintro e w' ⟨rfl, hSt⟩) | (go_at_call 92; refine (St.then (by first | assumption | exact St.drew (by assumption) | exact St.alloc (by assumption) _ | exact St.drew (St.alloc (by assumption) _)) (read_any _ _ _)).mono ?_; rintro e w' ⟨rfl, hSt⟩) | (go_at_call 71; refine (St.then (by first | assumption | exact St.drew (by assumption) | exact St.alloc (by assumption) _ | exact St.drew (St.alloc (by assumption) _)) (work_any _ _ _)).mono ?_; rintro e w' ⟨rfl, hSt⟩) | (go_at_call 97; refine (St.same (by first | assumption | exact St.drew (by assumption) | exact St.alloc (by assumption) _ | exact St.drew (St.alloc (by assumption) _)) (low_any _ _ (by omega) (by omega))).mono ?_; rintro e w' ⟨rfl, hSt⟩) | (go_at_call 98; refine (St.same (by first | assumption | exact St.drew (by assumption) | exact St.alloc (by assumption) _ | exact St.drew (St.alloc (by assumption) _)) (high_any _ _ (by omega) (by omega))).mono ?_; rintro e w' ⟨rfl, hSt⟩))
    go_ret
    exact St.fin (by first | assumption | exact St.drew (by assumption) | exact St.alloc (by assumption) _ | exact St.drew (St.alloc (by assumption) _)) (by omega)
  · have h0 := St.start hO
    clear hO
    go_enter Tryz.func113, Tryz.ntmps113
    go_wp2_with (first | (go_at_call 70; (with_reducible refine (put1 (by first | assumption | exact St.drew (by assumption) | exact St.alloc (by assumption) _ | exact St.drew (St.alloc (by assumption) _)) (by omega) _ _ _ _ _).mono ?_); rintro e w' ⟨v', rfl, hSt⟩) | (go_at_call 70; (with_reducible refine (put2 (by first | assumption | exact St.drew (by assumption) | exact St.alloc (by assumption) _ | exact St.drew (St.alloc (by assumption) _)) (by omega) _ _ _ _ _ _ _ _ _).mono ?_); rintro e w' ⟨v', rfl, hSt⟩) | (go_at_call 70; (with_reducible refine (put3 (by first | assumption | exact St.drew (by assumption) | exact St.alloc (by assumption) _ | exact St.drew (St.alloc (by assumption) _)) (by omega) _ _ _ _ _ _ _ _ _ _ _ _ _).mono ?_); rintro e w' ⟨v', rfl, hSt⟩) | (go_at_call 70; (with_reducible refine (put4 (by first | assumption | exact St.drew (by assumption) | exact St.alloc (by assumption) _ | exact St.drew (St.alloc (by assumption) _)) (by omega) _ _ _ _ _ _ _ _ _ _ _ _ _ _ _ _ _).mono ?_); rintro e w' ⟨v', rfl, hSt⟩) | (go_at_call 70; (with_reducible refine (put5 (by first | assumption | exact St.drew (by assumption) | exact St.alloc (by assumption) _ | exact St.drew (St.alloc (by assumption) _)) (by omega) _ _ _ _ _ _ _ _ _ _ _ _ _ _ _ _ _ _ _ _ _).mono ?_); rintro e w' ⟨v', rfl, hSt⟩) | (go_at_call 94; refine (St.then (by first | assumption | exact St.drew (by assumption) | exact St.alloc (by assumption) _ | exact St.drew (St.alloc (by assumption) _)) (write_any _ _ _)).mono ?_; rintro e w' ⟨rfl, hSt⟩) | (go_at_call 92; refine (St.then (by first | assumption | exact St.drew (by assumption) | exact St.alloc (by assumption) _ | exact St.drew (St.alloc (by assumption) _)) (read_any _ _ _)).mono ?_; rintro e w' ⟨rfl, hSt⟩) | (go_at_call 71; refine (St.then (by first | assumption | exact St.drew (by assumption) | exact St.alloc (by assumption) _ | exact St.drew (St.alloc (by assumption) _)) (work_any _ _ _)).mono ?_; rintro e w' ⟨rfl, hSt⟩) | (go_at_call 97; refine (St.same (by first | assumption | exact St.drew (by assumption) | exact St.alloc (by assumption) _ | exact St.drew (St.alloc (by assumption) _)) (low_any _ _ (by omega) (by omega))).mono ?_; rintro e w' ⟨rfl, hSt⟩) | (go_at_call 98; refine (St.same (by first | assumption | exact St.drew (by assumption) | exact St.alloc (by assumption) _ | exact St.drew (St.alloc (by assumption) _)) (high_any _ _ (by omega) (by omega))).mono ?_; rintro e w' ⟨rfl, hSt⟩))
    go_ret
    exact St.fin (by first | assumption | exact St.drew (by assumption) | exact St.alloc (by assumption) _ | exact St.drew (St.alloc (by assumption) _)) (by omega)
theorem farPair_st {u : World} {v : Value} {L : List Sp} {c b : Nat} {C : List Value} {base : Nat} {w0 : World} {v0 : Value} (h : St u v L c b C base w0 v0) (hc : c ≤ 9000) (p : Int) (q : Int) (p0 : 0 ≤ p) (p1 : p ≤ 3) (q0 : 0 ≤ q) (q1 : q ≤ 1)  : Calls Tryz.prog 113 #[v, .int .i64 p, .int .i64 q] u (Goes (farPairS L p q) (c + 3) b C base w0 v0) :=
  h.goes (farPair_is base v L c u h.own hc p q p0 p1 q0 q1)

set_option maxRecDepth 100000 in
set_option maxHeartbeats 4000000 in
theorem pop_is (base : Nat) (v : Value) (L : List Sp) (c : Nat) (w : World) (hO : Own w v L c base) (hc : c ≤ 9000) (p : Int) (p0 : 0 ≤ p) (p1 : p ≤ 3)  : Calls Tryz.prog 103 #[v, .int .i64 p] w (Gives w v (popS L p) (c + 2) base) := by
  have ep : p = 0 ∨ p = 1 ∨ p = 2 ∨ p = 3 := by omega
  clear p0 p1
  rcases ep with rfl | rfl | rfl | rfl
  · have h0 := St.start hO
    clear hO
    go_enter Tryz.func103, Tryz.ntmps103
    go_wp2_with (first | (go_at_call 70; (with_reducible refine (put1 (by first | assumption | exact St.drew (by assumption) | exact St.alloc (by assumption) _ | exact St.drew (St.alloc (by assumption) _)) (by omega) _ _ _ _ _).mono ?_); rintro e w' ⟨v', rfl, hSt⟩) | (go_at_call 70; (with_reducible refine (put2 (by first | assumption | exact St.drew (by assumption) | exact St.alloc (by assumption) _ | exact St.drew (St.alloc (by assumption) _)) (by omega) _ _ _ _ _ _ _ _ _).mono ?_); rintro e w' ⟨v', rfl, hSt⟩) | (go_at_call 70; (with_reducible refine (put3 (by first | assumption | exact St.drew (by assumption) | exact St.alloc (by assumption) _ | exact St.drew (St.alloc (by assumption) _)) (by omega) _ _ _ _ _ _ _ _ _ _ _ _ _).mono ?_); rintro e w' ⟨v', rfl, hSt⟩) | (go_at_call 70; (with_reducible refine (put4 (by first | assumption | exact St.drew (by assumption) | exact St.alloc (by assumption) _ | exact St.drew (St.alloc (by assumption) _)) (by omega) _ _ _ _ _ _ _ _ _ _ _ _ _ _ _ _ _).mono ?_); rintro e w' ⟨v', rfl, hSt⟩) | (go_at_call 70; (with_reducible refine (put5 (by first | assumption | exact St.drew (by assumption) | exact St.alloc (by assumption) _ | exact St.drew (St.alloc (by assumption) _)) (by omega) _ _ _ _ _ _ _ _ _ _ _ _ _ _ _ _ _ _ _ _ _).mono ?_); rintro e w' ⟨v', rfl, hSt⟩) | (go_at_call 92; refine (St.then (by first | assumption | exact St.drew (by assumption) | exact St.alloc (by assumption) _ | exact St.drew (St.alloc (by assumption) _)) (read_any _ _ _)).mono ?_; rintro e w' ⟨rfl, hSt⟩) | (go_at_call 97; refine (St.same (by first | assumption | exact St.drew (by assumption) | exact St.alloc (by assumption) _ | exact St.drew (St.alloc (by assumption) _)) (low_any _ _ (by omega) (by omega))).mono ?_; rintro e w' ⟨rfl, hSt⟩) | (go_at_call 98; refine (St.same (by first | assumption | exact St.drew (by assumption) | exact St.alloc (by assumption) _ | exact St.drew (St.alloc (by assumption) _)) (high_any _ _ (by omega) (by omega))).mono ?_; rintro e w' ⟨rfl, hSt⟩))
    go_ret
    exact St.fin (by first | assumption | exact St.drew (by assumption) | exact St.alloc (by assumption) _ | exact St.drew (St.alloc (by assumption) _)) (by omega)
  · have h0 := St.start hO
    clear hO
    go_enter Tryz.func103, Tryz.ntmps103
    go_wp2_with (first | (go_at_call 70; (with_reducible refine (put1 (by first | assumption | exact St.drew (by assumption) | exact St.alloc (by assumption) _ | exact St.drew (St.alloc (by assumption) _)) (by omega) _ _ _ _ _).mono ?_); rintro e w' ⟨v', rfl, hSt⟩) | (go_at_call 70; (with_reducible refine (put2 (by first | assumption | exact St.drew (by assumption) | exact St.alloc (by assumption) _ | exact St.drew (St.alloc (by assumption) _)) (by omega) _ _ _ _ _ _ _ _ _).mono ?_); rintro e w' ⟨v', rfl, hSt⟩) | (go_at_call 70; (with_reducible refine (put3 (by first | assumption | exact St.drew (by assumption) | exact St.alloc (by assumption) _ | exact St.drew (St.alloc (by assumption) _)) (by omega) _ _ _ _ _ _ _ _ _ _ _ _ _).mono ?_); rintro e w' ⟨v', rfl, hSt⟩) | (go_at_call 70; (with_reducible refine (put4 (by first | assumption | exact St.drew (by assumption) | exact St.alloc (by assumption) _ | exact St.drew (St.alloc (by assumption) _)) (by omega) _ _ _ _ _ _ _ _ _ _ _ _ _ _ _ _ _).mono ?_); rintro e w' ⟨v', rfl, hSt⟩) | (go_at_call 70; (with_reducible refine (put5 (by first | assumption | exact St.drew (by assumption) | exact St.alloc (by assumption) _ | exact St.drew (St.alloc (by assumption) _)) (by omega) _ _ _ _ _ _ _ _ _ _ _ _ _ _ _ _ _ _ _ _ _).mono ?_); rintro e w' ⟨v', rfl, hSt⟩) | (go_at_call 92; refine (St.then (by first | assumption | exact St.drew (by assumption) | exact St.alloc (by assumption) _ | exact St.drew (St.alloc (by assumption) _)) (read_any _ _ _)).mono ?_; rintro e w' ⟨rfl, hSt⟩) | (go_at_call 97; refine (St.same (by first | assumption | exact St.drew (by assumption) | exact St.alloc (by assumption) _ | exact St.drew (St.alloc (by assumption) _)) (low_any _ _ (by omega) (by omega))).mono ?_; rintro e w' ⟨rfl, hSt⟩) | (go_at_call 98; refine (St.same (by first | assumption | exact St.drew (by assumption) | exact St.alloc (by assumption) _ | exact St.drew (St.alloc (by assumption) _)) (high_any _ _ (by omega) (by omega))).mono ?_; rintro e w' ⟨rfl, hSt⟩))
    go_ret
    exact St.fin (by first | assumption | exact St.drew (by assumption) | exact St.alloc (by assumption) _ | exact St.drew (St.alloc (by assumption) _)) (by omega)
  · have h0 := St.start hO
    clear hO
    go_enter Tryz.func103, Tryz.ntmps103
    go_wp2_with (first | (go_at_call 70; (with_reducible refine (put1 (by first | assumption | exact St.drew (by assumption) | exact St.alloc (by assumption) _ | exact St.drew (St.alloc (by assumption) _)) (by omega) _ _ _ _ _).mono ?_); rintro e w' ⟨v', rfl, hSt⟩) | (go_at_call 70; (with_reducible refine (put2 (by first | assumption | exact St.drew (by assumption) | exact St.alloc (by assumption) _ | exact St.drew (St.alloc (by assumption) _)) (by omega) _ _ _ _ _ _ _ _ _).mono ?_); rintro e w' ⟨v', rfl, hSt⟩) | (go_at_call 70; (with_reducible refine (put3 (by first | assumption | exact St.drew (by assumption) | exact St.alloc (by assumption) _ | exact St.drew (St.alloc (by assumption) _)) (by omega) _ _ _ _ _ _ _ _ _ _ _ _ _).mono ?_); rintro e w' ⟨v', rfl, hSt⟩) | (go_at_call 70; (with_reducible refine (put4 (by first | assumption | exact St.drew (by assumption) | exact St.alloc (by assumption) _ | exact St.drew (St.alloc (by assumption) _)) (by omega) _ _ _ _ _ _ _ _ _ _ _ _ _ _ _ _ _).mono ?_); rintro e w' ⟨v', rfl, hSt⟩) | (go_at_call 70; (with_reducible refine (put5 (by first | assumption | exact St.drew (by assumption) | exact St.alloc (by assumption) _ | exact St.drew (St.alloc (by assumption) _)) (by omega) _ _ _ _ _ _ _ _ _ _ _ _ _ _ _ _ _ _ _ _ _).mono ?_); rintro e w' ⟨v', rfl, hSt⟩) | (go_at_call 92; refine (St.then (by first | assumption | exact St.drew (by assumption) | exact St.alloc (by assumption) _ | exact St.drew (St.alloc (by assumption) _)) (read_any _ _ _)).mono ?_; rintro e w' ⟨rfl, hSt⟩) | (go_at_call 97; refine (St.same (by first | assumption | exact St.drew (by assumption) | exact St.alloc (by assumption) _ | exact St.drew (St.alloc (by assumption) _)) (low_any _ _ (by omega) (by omega))).mono ?_; rintro e w' ⟨rfl, hSt⟩) | (go_at_call 98; refine (St.same (by first | assumption | exact St.drew (by assumption) | exact St.alloc (by assumption) _ | exact St.drew (St.alloc (by assumption) _)) (high_any _ _ (by omega) (by omega))).mono ?_; rintro e w' ⟨rfl, hSt⟩))
    go_ret
    exact St.fin (by first | assumption | exact St.drew (by assumption) | exact St.alloc (by assumption) _ | exact St.drew (St.alloc (by assumption) _)) (by omega)
  · have h0 := St.start hO
    clear hO
    go_enter Tryz.func103, Tryz.ntmps103
    go_wp2_with (first | (go_at_call 70; (with_reducible refine (put1 (by first | assumption | exact St.drew (by assumption) | exact St.alloc (by assumption) _ | exact St.drew (St.alloc (by assumption) _)) (by omega) _ _ _ _ _).mono ?_); rintro e w' ⟨v', rfl, hSt⟩) | (go_at_call 70; (with_reducible refine (put2 (by first | assumption | exact St.drew (by assumption) | exact St.alloc (by assumption) _ | exact St.drew (St.alloc (by assumption) _)) (by omega) _ _ _ _ _ _ _ _ _).mono ?_); rintro e w' ⟨v', rfl, hSt⟩) | (go_at_call 70; (with_reducible refine (put3 (by first | assumption | exact St.drew (by assumption) | exact St.alloc (by assumption) _ | exact St.drew (St.alloc (by assumption) _)) (by omega) _ _ _ _ _ _ _ _ _ _ _ _ _).mono ?_); rintro e w' ⟨v', rfl, hSt⟩) | (go_at_call 70; (with_reducible refine (put4 (by first | assumption | exact St.drew (by assumption) | exact St.alloc (by assumption) _ | exact St.drew (St.alloc (by assumption) _)) (by omega) _ _ _ _ _ _ _ _ _ _ _ _ _ _ _ _ _).mono ?_); rintro e w' ⟨v', rfl, hSt⟩) | (go_at_call 70; (with_reducible refine (put5 (by first | assumption | exact St.drew (by assumption) | exact St.alloc (by assumption) _ | exact St.drew (St.alloc (by assumption) _)) (by omega) _ _ _ _ _ _ _ _ _ _ _ _ _ _ _ _ _ _ _ _ _).mono ?_); rintro e w' ⟨v', rfl, hSt⟩) | (go_at_call 92; refine (St.then (by first | assumption | exact St.drew (by assumption) | exact St.alloc (by assumption) _ | exact St.drew (St.alloc (by assumption) _)) (read_any _ _ _)).mono ?_; rintro e w' ⟨rfl, hSt⟩) | (go_at_call 97; refine (St.same (by first | assumption | exact St.drew (by assumption) | exact St.alloc (by assumption) _ | exact St.drew (St.alloc (by assumption) _)) (low_any _ _ (by omega) (by omega))).mono ?_; rintro e w' ⟨rfl, hSt⟩) | (go_at_call 98; refine (St.same (by first | assumption | exact St.drew (by assumption) | exact St.alloc (by assumption) _ | exact St.drew (St.alloc (by assumption) _)) (high_any _ _ (by omega) (by omega))).mono ?_; rintro e w' ⟨rfl, hSt⟩))
    go_ret
    exact St.fin (by first | assumption | exact St.drew (by assumption) | exact St.alloc (by assumption) _ | exact St.drew (St.alloc (by assumption) _)) (by omega)
theorem pop_st {u : World} {v : Value} {L : List Sp} {c b : Nat} {C : List Value} {base : Nat} {w0 : World} {v0 : Value} (h : St u v L c b C base w0 v0) (hc : c ≤ 9000) (p : Int) (p0 : 0 ≤ p) (p1 : p ≤ 3)  : Calls Tryz.prog 103 #[v, .int .i64 p] u (Goes (popS L p) (c + 2) b C base w0 v0) :=
  h.goes (pop_is base v L c u h.own hc p p0 p1)

set_option maxRecDepth 100000 in
set_option maxHeartbeats 4000000 in
theorem push_is (base : Nat) (v : Value) (L : List Sp) (c : Nat) (w : World) (hO : Own w v L c base) (hc : c ≤ 9000) (p : Int) (p0 : 0 ≤ p) (p1 : p ≤ 3)  : Calls Tryz.prog 155 #[v, .int .i64 p] w (Gives w v (pushS L p) (c + 2) base) := by
  have ep : p = 0 ∨ p = 1 ∨ p = 2 ∨ p = 3 := by omega
  clear p0 p1
  rcases ep with rfl | rfl | rfl | rfl
  · have h0 := St.start hO
    clear hO
    go_enter Tryz.func155, Tryz.ntmps155
    go_wp2_with (first | (go_at_call 70; (with_reducible refine (put1 (by first | assumption | exact St.drew (by assumption) | exact St.alloc (by assumption) _ | exact St.drew (St.alloc (by assumption) _)) (by omega) _ _ _ _ _).mono ?_); rintro e w' ⟨v', rfl, hSt⟩) | (go_at_call 70; (with_reducible refine (put2 (by first | assumption | exact St.drew (by assumption) | exact St.alloc (by assumption) _ | exact St.drew (St.alloc (by assumption) _)) (by omega) _ _ _ _ _ _ _ _ _).mono ?_); rintro e w' ⟨v', rfl, hSt⟩) | (go_at_call 70; (with_reducible refine (put3 (by first | assumption | exact St.drew (by assumption) | exact St.alloc (by assumption) _ | exact St.drew (St.alloc (by assumption) _)) (by omega) _ _ _ _ _ _ _ _ _ _ _ _ _).mono ?_); rintro e w' ⟨v', rfl, hSt⟩) | (go_at_call 70; (with_reducible refine (put4 (by first | assumption | exact St.drew (by assumption) | exact St.alloc (by assumption) _ | exact St.drew (St.alloc (by assumption) _)) (by omega) _ _ _ _ _ _ _ _ _ _ _ _ _ _ _ _ _).mono ?_); rintro e w' ⟨v', rfl, hSt⟩) | (go_at_call 70; (with_reducible refine (put5 (by first | assumption | exact St.drew (by assumption) | exact St.alloc (by assumption) _ | exact St.drew (St.alloc (by assumption) _)) (by omega) _ _ _ _ _ _ _ _ _ _ _ _ _ _ _ _ _ _ _ _ _).mono ?_); rintro e w' ⟨v', rfl, hSt⟩) | (go_at_call 94; refine (St.then (by first | assumption | exact St.drew (by assumption) | exact St.alloc (by assumption) _ | exact St.drew (St.alloc (by assumption) _)) (write_any _ _ _)).mono ?_; rintro e w' ⟨rfl, hSt⟩) | (go_at_call 97; refine (St.same (by first | assumption | exact St.drew (by assumption) | exact St.alloc (by assumption) _ | exact St.drew (St.alloc (by assumption) _)) (low_any _ _ (by omega) (by omega))).mono ?_; rintro e w' ⟨rfl, hSt⟩) | (go_at_call 98; refine (St.same (by first | assumption | exact St.drew (by assumption) | exact St.alloc (by assumption) _ | exact St.drew (St.alloc (by assumption) _)) (high_any _ _ (by omega) (by omega))).mono ?_; rintro e w' ⟨rfl, hSt⟩))
    go_ret
    exact St.fin (by first | assumption | exact St.drew (by assumption) | exact St.alloc (by assumption) _ | exact St.drew (St.alloc (by assumption) _)) (by omega)
  · have h0 := St.start hO
    clear hO
    go_enter Tryz.func155, Tryz.ntmps155
    go_wp2_with (first | (go_at_call 70; (with_reducible refine (put1 (by first | assumption | exact St.drew (by assumption) | exact St.alloc (by assumption) _ | exact St.drew (St.alloc (by assumption) _)) (by omega) _ _ _ _ _).mono ?_); rintro e w' ⟨v', rfl, hSt⟩) | (go_at_call 70; (with_reducible refine (put2 (by first | assumption | exact St.drew (by assumption) | exact St.alloc (by assumption) _ | exact St.drew (St.alloc (by assumption) _)) (by omega) _ _ _ _ _ _ _ _ _).mono ?_); rintro e w' ⟨v', rfl, hSt⟩) | (go_at_call 70; (with_reducible refine (put3 (by first | assumption | exact St.drew (by assumption) | exact St.alloc (by assumption) _ | exact St.drew (St.alloc (by assumption) _)) (by omega) _ _ _ _ _ _ _ _ _ _ _ _ _).mono ?_); rintro e w' ⟨v', rfl, hSt⟩) | (go_at_call 70; (with_reducible refine (put4 (by first | assumption | exact St.drew (by assumption) | exact St.alloc (by assumption) _ | exact St.drew (St.alloc (by assumption) _)) (by omega) _ _ _ _ _ _ _ _ _ _ _ _ _ _ _ _ _).mono ?_); rintro e w' ⟨v', rfl, hSt⟩) | (go_at_call 70; (with_reducible refine (put5 (by first | assumption | exact St.drew (by assumption) | exact St.alloc (by assumption) _ | exact St.drew (St.alloc (by assumption) _)) (by omega) _ _ _ _ _ _ _ _ _ _ _ _ _ _ _ _ _ _ _ _ _).mono ?_); rintro e w' ⟨v', rfl, hSt⟩) | (go_at_call 94; refine (St.then (by first | assumption | exact St.drew (by assumption) | exact St.alloc (by assumption) _ | exact St.drew (St.alloc (by assumption) _)) (write_any _ _ _)).mono ?_; rintro e w' ⟨rfl, hSt⟩) | (go_at_call 97; refine (St.same (by first | assumption | exact St.drew (by assumption) | exact St.alloc (by assumption) _ | exact St.drew (St.alloc (by assumption) _)) (low_any _ _ (by omega) (by omega))).mono ?_; rintro e w' ⟨rfl, hSt⟩) | (go_at_call 98; refine (St.same (by first | assumption | exact St.drew (by assumption) | exact St.alloc (by assumption) _ | exact St.drew (St.alloc (by assumption) _)) (high_any _ _ (by omega) (by omega))).mono ?_; rintro e w' ⟨rfl, hSt⟩))
    go_ret
    exact St.fin (by first | assumption | exact St.drew (by assumption) | exact St.alloc (by assumption) _ | exact St.drew (St.alloc (by assumption) _)) (by omega)
  · have h0 := St.start hO
    clear hO
    go_enter Tryz.func155, Tryz.ntmps155
    go_wp2_with (first | (go_at_call 70; (with_reducible refine (put1 (by first | assumption | exact St.drew (by assumption) | exact St.alloc (by assumption) _ | exact St.drew (St.alloc (by assumption) _)) (by omega) _ _ _ _ _).mono ?_); rintro e w' ⟨v', rfl, hSt⟩) | (go_at_call 70; (with_reducible refine (put2 (by first | assumption | exact St.drew (by assumption) | exact St.alloc (by assumption) _ | exact St.drew (St.alloc (by assumption) _)) (by omega) _ _ _ _ _ _ _ _ _).mono ?_); rintro e w' ⟨v', rfl, hSt⟩) | (go_at_call 70; (with_reducible refine (put3 (by first | assumption | exact St.drew (by assumption) | exact St.alloc (by assumption) _ | exact St.drew (St.alloc (by assumption) _)) (by omega) _ _ _ _ _ _ _ _ _ _ _ _ _).mono ?_); rintro e w' ⟨v', rfl, hSt⟩) | (go_at_call 70; (with_reducible refine (put4 (by first | assumption | exact St.drew (by assumption) | exact St.alloc (by assumption) _ | exact St.drew (St.alloc (by assumption) _)) (by omega) _ _ _ _ _ _ _ _ _ _ _ _ _ _ _ _ _).mono ?_); rintro e w' ⟨v', rfl, hSt⟩) | (go_at_call 70; (with_reducible refine (put5 (by first | assumption | exact St.drew (by assumption) | exact St.alloc (by assumption) _ | exact St.drew (St.alloc (by assumption) _)) (by omega) _ _ _ _ _ _ _ _ _ _ _ _ _ _ _ _ _ _ _ _ _).mono ?_); rintro e w' ⟨v', rfl, hSt⟩) | (go_at_call 94; refine (St.then (by first | assumption | exact St.drew (by assumption) | exact St.alloc (by assumption) _ | exact St.drew (St.alloc (by assumption) _)) (write_any _ _ _)).mono ?_; rintro e w' ⟨rfl, hSt⟩) | (go_at_call 97; refine (St.same (by first | assumption | exact St.drew (by assumption) | exact St.alloc (by assumption) _ | exact St.drew (St.alloc (by assumption) _)) (low_any _ _ (by omega) (by omega))).mono ?_; rintro e w' ⟨rfl, hSt⟩) | (go_at_call 98; refine (St.same (by first | assumption | exact St.drew (by assumption) | exact St.alloc (by assumption) _ | exact St.drew (St.alloc (by assumption) _)) (high_any _ _ (by omega) (by omega))).mono ?_; rintro e w' ⟨rfl, hSt⟩))
    go_ret
    exact St.fin (by first | assumption | exact St.drew (by assumption) | exact St.alloc (by assumption) _ | exact St.drew (St.alloc (by assumption) _)) (by omega)
  · have h0 := St.start hO
    clear hO
    go_enter Tryz.func155, Tryz.ntmps155
    go_wp2_with (first | (go_at_call 70; (with_reducible refine (put1 (by first | assumption | exact St.drew (by assumption) | exact St.alloc (by assumption) _ | exact St.drew (St.alloc (by assumption) _)) (by omega) _ _ _ _ _).mono ?_); rintro e w' ⟨v', rfl, hSt⟩) | (go_at_call 70; (with_reducible refine (put2 (by first | assumption | exact St.drew (by assumption) | exact St.alloc (by assumption) _ | exact St.drew (St.alloc (by assumption) _)) (by omega) _ _ _ _ _ _ _ _ _).mono ?_); rintro e w' ⟨v', rfl, hSt⟩) | (go_at_call 70; (with_reducible refine (put3 (by first | assumption | exact St.drew (by assumption) | exact St.alloc (by assumption) _ | exact St.drew (St.alloc (by assumption) _)) (by omega) _ _ _ _ _ _ _ _ _ _ _ _ _).mono ?_); rintro e w' ⟨v', rfl, hSt⟩) | (go_at_call 70; (with_reducible refine (put4 (by first | assumption | exact St.drew (by assumption) | exact St.alloc (by assumption) _ | exact St.drew (St.alloc (by assumption) _)) (by omega) _ _ _ _ _ _ _ _ _ _ _ _ _ _ _ _ _).mono ?_); rintro e w' ⟨v', rfl, hSt⟩) | (go_at_call 70; (with_reducible refine (put5 (by first | assumption | exact St.drew (by assumption) | exact St.alloc (by assumption) _ | exact St.drew (St.alloc (by assumption) _)) (by omega) _ _ _ _ _ _ _ _ _ _ _ _ _ _ _ _ _ _ _ _ _).mono ?_); rintro e w' ⟨v', rfl, hSt⟩) | (go_at_call 94; refine (St.then (by first | assumption | exact St.drew (by assumption) | exact St.alloc (by assumption) _ | exact St.drew (St.alloc (by assumption) _)) (write_any _ _ _)).mono ?_; rintro e w' ⟨rfl, hSt⟩) | (go_at_call 97; refine (St.same (by first | assumption | exact St.drew (by assumption) | exact St.alloc (by assumption) _ | exact St.drew (St.alloc (by assumption) _)) (low_any _ _ (by omega) (by omega))).mono ?_; rintro e w' ⟨rfl, hSt⟩) | (go_at_call 98; refine (St.same (by first | assumption | exact St.drew (by assumption) | exact St.alloc (by assumption) _ | exact St.drew (St.alloc (by assumption) _)) (high_any _ _ (by omega) (by omega))).mono ?_; rintro e w' ⟨rfl, hSt⟩))
    go_ret
    exact St.fin (by first | assumption | exact St.drew (by assumption) | exact St.alloc (by assumption) _ | exact St.drew (St.alloc (by assumption) _)) (by omega)
theorem push_st {u : World} {v : Value} {L : List Sp} {c b : Nat} {C : List Value} {base : Nat} {w0 : World} {v0 : Value} (h : St u v L c b C base w0 v0) (hc : c ≤ 9000) (p : Int) (p0 : 0 ≤ p) (p1 : p ≤ 3)  : Calls Tryz.prog 155 #[v, .int .i64 p] u (Goes (pushS L p) (c + 2) b C base w0 v0) :=
  h.goes (push_is base v L c u h.own hc p p0 p1)

end Go.Proofs.YtcfkpeemhleleaaGreatDoor
/- micro.exchangeTop to others: their contracts. -/
namespace Go.Proofs.YtcfkpeemhleleaaGreatDoor
open Go.RowKit

set_option maxRecDepth 100000 in
set_option maxHeartbeats 4000000 in
theorem exchangeTop_is (base : Nat) (v : Value) (L : List Sp) (c : Nat) (w : World) (hO : Own w v L c base) (hc : c ≤ 9000)    : Calls Tryz.prog 154 #[v] w (Gives w v (exTopS L) (c + 7) base) := by
  have h0 := St.start hO
  clear hO
  go_enter Tryz.func154, Tryz.ntmps154
  go_wp2_with (first | (go_at_call 70; (with_reducible refine (put1 (by first | assumption | exact St.drew (by assumption) | exact St.alloc (by assumption) _ | exact St.drew (St.alloc (by assumption) _)) (by omega) _ _ _ _ _).mono ?_); rintro e w' ⟨v', rfl, hSt⟩) | (go_at_call 70; (with_reducible refine (put2 (by first | assumption | exact St.drew (by assumption) | exact St.alloc (by assumption) _ | exact St.drew (St.alloc (by assumption) _)) (by omega) _ _ _ _ _ _ _ _ _).mono ?_); rintro e w' ⟨v', rfl, hSt⟩) | (go_at_call 70; (with_reducible refine (put3 (by first | assumption | exact St.drew (by assumption) | exact St.alloc (by assumption) _ | exact St.drew (St.alloc (by assumption) _)) (by omega) _ _ _ _ _ _ _ _ _ _ _ _ _).mono ?_); rintro e w' ⟨v', rfl, hSt⟩) | (go_at_call 70; (with_reducible refine (put4 (by first | assumption | exact St.drew (by assumption) | exact St.alloc (by assumption) _ | exact St.drew (St.alloc (by assumption) _)) (by omega) _ _ _ _ _ _ _ _ _ _ _ _ _ _ _ _ _).mono ?_); rintro e w' ⟨v', rfl, hSt⟩) | (go_at_call 70; (with_reducible refine (put5 (by first | assumption | exact St.drew (by assumption) | exact St.alloc (by assumption) _ | exact St.drew (St.alloc (by assumption) _)) (by omega) _ _ _ _ _ _ _ _ _ _ _ _ _ _ _ _ _ _ _ _ _).mono ?_); rintro e w' ⟨v', rfl, hSt⟩) | (go_at_call 92; refine (St.then (by first | assumption | exact St.drew (by assumption) | exact St.alloc (by assumption) _ | exact St.drew (St.alloc (by assumption) _)) (read_any _ _ _)).mono ?_; rintro e w' ⟨rfl, hSt⟩) | (go_at_call 94; refine (St.then (by first | assumption | exact St.drew (by assumption) | exact St.alloc (by assumption) _ | exact St.drew (St.alloc (by assumption) _)) (write_any _ _ _)).mono ?_; rintro e w' ⟨rfl, hSt⟩) | (go_at_call 93; refine (St.then (by first | assumption | exact St.drew (by assumption) | exact St.alloc (by assumption) _ | exact St.drew (St.alloc (by assumption) _)) (wait_any _ _ _)).mono ?_; rintro e w' ⟨rfl, hSt⟩) | (go_at_call 71; refine (St.then (by first | assumption | exact St.drew (by assumption) | exact St.alloc (by assumption) _ | exact St.drew (St.alloc (by assumption) _)) (work_any _ _ _)).mono ?_; rintro e w' ⟨rfl, hSt⟩) | (go_at_call 97; refine (St.same (by first | assumption | exact St.drew (by assumption) | exact St.alloc (by assumption) _ | exact St.drew (St.alloc (by assumption) _)) (low_any _ _ (by omega) (by omega))).mono ?_; rintro e w' ⟨rfl, hSt⟩) | (go_at_call 98; refine (St.same (by first | assumption | exact St.drew (by assumption) | exact St.alloc (by assumption) _ | exact St.drew (St.alloc (by assumption) _)) (high_any _ _ (by omega) (by omega))).mono ?_; rintro e w' ⟨rfl, hSt⟩))
  go_ret
  exact St.fin (by first | assumption | exact St.drew (by assumption) | exact St.alloc (by assumption) _ | exact St.drew (St.alloc (by assumption) _)) (by omega)
theorem exchangeTop_st {u : World} {v : Value} {L : List Sp} {c b : Nat} {C : List Value} {base : Nat} {w0 : World} {v0 : Value} (h : St u v L c b C base w0 v0) (hc : c ≤ 9000)    : Calls Tryz.prog 154 #[v] u (Goes (exTopS L) (c + 7) b C base w0 v0) :=
  h.goes (exchangeTop_is base v L c u h.own hc )

set_option maxRecDepth 100000 in
set_option maxHeartbeats 4000000 in
theorem storeNumber_is (base : Nat) (v : Value) (L : List Sp) (c : Nat) (w : World) (hO : Own w v L c base) (hc : c ≤ 9000) (ix : Bool)   : Calls Tryz.prog 72 #[v, .bool ix] w (Gives w v (storeS L ix) (c + 5) base) := by
  cases ix
  · have h0 := St.start hO
    clear hO
    go_enter Tryz.func72, Tryz.ntmps72
    go_wp2_with (first | (go_at_call 70; (with_reducible refine (put1 (by first | assumption | exact St.drew (by assumption) | exact St.alloc (by assumption) _ | exact St.drew (St.alloc (by assumption) _)) (by omega) _ _ _ _ _).mono ?_); rintro e w' ⟨v', rfl, hSt⟩) | (go_at_call 70; (with_reducible refine (put2 (by first | assumption | exact St.drew (by assumption) | exact St.alloc (by assumption) _ | exact St.drew (St.alloc (by assumption) _)) (by omega) _ _ _ _ _ _ _ _ _).mono ?_); rintro e w' ⟨v', rfl, hSt⟩) | (go_at_call 70; (with_reducible refine (put3 (by first | assumption | exact St.drew (by assumption) | exact St.alloc (by assumption) _ | exact St.drew (St.alloc (by assumption) _)) (by omega) _ _ _ _ _ _ _ _ _ _ _ _ _).mono ?_); rintro e w' ⟨v', rfl, hSt⟩) | (go_at_call 70; (with_reducible refine (put4 (by first | assumption | exact St.drew (by assumption) | exact St.alloc (by assumption) _ | exact St.drew (St.alloc (by assumption) _)) (by omega) _ _ _ _ _ _ _ _ _ _ _ _ _ _ _ _ _).mono ?_); rintro e w' ⟨v', rfl, hSt⟩) | (go_at_call 70; (with_reducible refine (put5 (by first | assumption | exact St.drew (by assumption) | exact St.alloc (by assumption) _ | exact St.drew (St.alloc (by assumption) _)) (by omega) _ _ _ _ _ _ _ _ _ _ _ _ _ _ _ _ _ _ _ _ _).mono ?_); rintro e w' ⟨v', rfl, hSt⟩) | (go_at_call 92; refine (St.then (by first | assumption | exact St.drew (by assumption) | exact St.alloc (by assumption) _ | exact St.drew (St.alloc (by assumption) _)) (read_any _ _ _)).mono ?_; rintro e w' ⟨rfl, hSt⟩) | (go_at_call 94; refine (St.then (by first | assumption | exact St.drew (by assumption) | exact St.alloc (by assumption) _ | exact St.drew (St.alloc (by assumption) _)) (write_any _ _ _)).mono ?_; rintro e w' ⟨rfl, hSt⟩) | (go_at_call 93; refine (St.then (by first | assumption | exact St.drew (by assumption) | exact St.alloc (by assumption) _ | exact St.drew (St.alloc (by assumption) _)) (wait_any _ _ _)).mono ?_; rintro e w' ⟨rfl, hSt⟩) | (go_at_call 71; refine (St.then (by first | assumption | exact St.drew (by assumption) | exact St.alloc (by assumption) _ | exact St.drew (St.alloc (by assumption) _)) (work_any _ _ _)).mono ?_; rintro e w' ⟨rfl, hSt⟩))
    go_ret
    exact St.fin (by first | assumption | exact St.drew (by assumption) | exact St.alloc (by assumption) _ | exact St.drew (St.alloc (by assumption) _)) (by omega)
  · have h0 := St.start hO
    clear hO
    go_enter Tryz.func72, Tryz.ntmps72
    go_wp2_with (first | (go_at_call 70; (with_reducible refine (put1 (by first | assumption | exact St.drew (by assumption) | exact St.alloc (by assumption) _ | exact St.drew (St.alloc (by assumption) _)) (by omega) _ _ _ _ _).mono ?_); rintro e w' ⟨v', rfl, hSt⟩) | (go_at_call 70; (with_reducible refine (put2 (by first | assumption | exact St.drew (by assumption) | exact St.alloc (by assumption) _ | exact St.drew (St.alloc (by assumption) _)) (by omega) _ _ _ _ _ _ _ _ _).mono ?_); rintro e w' ⟨v', rfl, hSt⟩) | (go_at_call 70; (with_reducible refine (put3 (by first | assumption | exact St.drew (by assumption) | exact St.alloc (by assumption) _ | exact St.drew (St.alloc (by assumption) _)) (by omega) _ _ _ _ _ _ _ _ _ _ _ _ _).mono ?_); rintro e w' ⟨v', rfl, hSt⟩) | (go_at_call 70; (with_reducible refine (put4 (by first | assumption | exact St.drew (by assumption) | exact St.alloc (by assumption) _ | exact St.drew (St.alloc (by assumption) _)) (by omega) _ _ _ _ _ _ _ _ _ _ _ _ _ _ _ _ _).mono ?_); rintro e w' ⟨v', rfl, hSt⟩) | (go_at_call 70; (with_reducible refine (put5 (by first | assumption | exact St.drew (by assumption) | exact St.alloc (by assumption) _ | exact St.drew (St.alloc (by assumption) _)) (by omega) _ _ _ _ _ _ _ _ _ _ _ _ _ _ _ _ _ _ _ _ _).mono ?_); rintro e w' ⟨v', rfl, hSt⟩) | (go_at_call 92; refine (St.then (by first | assumption | exact St.drew (by assumption) | exact St.alloc (by assumption) _ | exact St.drew (St.alloc (by assumption) _)) (read_any _ _ _)).mono ?_; rintro e w' ⟨rfl, hSt⟩) | (go_at_call 94; refine (St.then (by first | assumption | exact St.drew (by assumption) | exact St.alloc (by assumption) _ | exact St.drew (St.alloc (by assumption) _)) (write_any _ _ _)).mono ?_; rintro e w' ⟨rfl, hSt⟩) | (go_at_call 93; refine (St.then (by first | assumption | exact St.drew (by assumption) | exact St.alloc (by assumption) _ | exact St.drew (St.alloc (by assumption) _)) (wait_any _ _ _)).mono ?_; rintro e w' ⟨rfl, hSt⟩) | (go_at_call 71; refine (St.then (by first | assumption | exact St.drew (by assumption) | exact St.alloc (by assumption) _ | exact St.drew (St.alloc (by assumption) _)) (work_any _ _ _)).mono ?_; rintro e w' ⟨rfl, hSt⟩))
    go_ret
    exact St.fin (by first | assumption | exact St.drew (by assumption) | exact St.alloc (by assumption) _ | exact St.drew (St.alloc (by assumption) _)) (by omega)
theorem storeNumber_st {u : World} {v : Value} {L : List Sp} {c b : Nat} {C : List Value} {base : Nat} {w0 : World} {v0 : Value} (h : St u v L c b C base w0 v0) (hc : c ≤ 9000) (ix : Bool)   : Calls Tryz.prog 72 #[v, .bool ix] u (Goes (storeS L ix) (c + 5) b C base w0 v0) :=
  h.goes (storeNumber_is base v L c u h.own hc ix)

set_option maxRecDepth 100000 in
set_option maxHeartbeats 4000000 in
theorem once_is (base : Nat) (v : Value) (L : List Sp) (c : Nat) (w : World) (hO : Own w v L c base) (hc : c ≤ 9000) (z : Int) (way : Int) (z0 : 0 ≤ z) (z1 : z ≤ 3)  : Calls Tryz.prog 115 #[v, .int .i64 z, .int .i64 way] w (Gives w v (onceS L z way) (c + 7) base) := by
  have ez : z = 0 ∨ z = 1 ∨ z = 2 ∨ z = 3 := by omega
  clear z0 z1
  rcases ez with rfl | rfl | rfl | rfl
  · have h0 := St.start hO
    clear hO
    go_enter Tryz.func115, Tryz.ntmps115
    go_wp2_with (first | (go_at_call 70; (with_reducible refine (put1 (by first | assumption | exact St.drew (by assumption) | exact St.alloc (by assumption) _ | exact St.drew (St.alloc (by assumption) _)) (by omega) _ _ _ _ _).mono ?_); rintro e w' ⟨v', rfl, hSt⟩) | (go_at_call 70; (with_reducible refine (put2 (by first | assumption | exact St.drew (by assumption) | exact St.alloc (by assumption) _ | exact St.drew (St.alloc (by assumption) _)) (by omega) _ _ _ _ _ _ _ _ _).mono ?_); rintro e w' ⟨v', rfl, hSt⟩) | (go_at_call 70; (with_reducible refine (put3 (by first | assumption | exact St.drew (by assumption) | exact St.alloc (by assumption) _ | exact St.drew (St.alloc (by assumption) _)) (by omega) _ _ _ _ _ _ _ _ _ _ _ _ _).mono ?_); rintro e w' ⟨v', rfl, hSt⟩) | (go_at_call 70; (with_reducible refine (put4 (by first | assumption | exact St.drew (by assumption) | exact St.alloc (by assumption) _ | exact St.drew (St.alloc (by assumption) _)) (by omega) _ _ _ _ _ _ _ _ _ _ _ _ _ _ _ _ _).mono ?_); rintro e w' ⟨v', rfl, hSt⟩) | (go_at_call 70; (with_reducible refine (put5 (by first | assumption | exact St.drew (by assumption) | exact St.alloc (by assumption) _ | exact St.drew (St.alloc (by assumption) _)) (by omega) _ _ _ _ _ _ _ _ _ _ _ _ _ _ _ _ _ _ _ _ _).mono ?_); rintro e w' ⟨v', rfl, hSt⟩) | (go_at_call 92; refine (St.then (by first | assumption | exact St.drew (by assumption) | exact St.alloc (by assumption) _ | exact St.drew (St.alloc (by assumption) _)) (read_any _ _ _)).mono ?_; rintro e w' ⟨rfl, hSt⟩) | (go_at_call 94; refine (St.then (by first | assumption | exact St.drew (by assumption) | exact St.alloc (by assumption) _ | exact St.drew (St.alloc (by assumption) _)) (write_any _ _ _)).mono ?_; rintro e w' ⟨rfl, hSt⟩) | (go_at_call 93; refine (St.then (by first | assumption | exact St.drew (by assumption) | exact St.alloc (by assumption) _ | exact St.drew (St.alloc (by assumption) _)) (wait_any _ _ _)).mono ?_; rintro e w' ⟨rfl, hSt⟩) | (go_at_call 71; refine (St.then (by first | assumption | exact St.drew (by assumption) | exact St.alloc (by assumption) _ | exact St.drew (St.alloc (by assumption) _)) (work_any _ _ _)).mono ?_; rintro e w' ⟨rfl, hSt⟩) | (go_at_call 110; refine (St.then (by first | assumption | exact St.drew (by assumption) | exact St.alloc (by assumption) _ | exact St.drew (St.alloc (by assumption) _)) (in_any _ _ _)).mono ?_; rintro e w' ⟨rfl, hSt⟩) | (go_at_call 111; refine (St.then (by first | assumption | exact St.drew (by assumption) | exact St.alloc (by assumption) _ | exact St.drew (St.alloc (by assumption) _)) (out_any _ _ _)).mono ?_; rintro e w' ⟨rfl, hSt⟩))
    go_ret
    exact St.fin (by first | assumption | exact St.drew (by assumption) | exact St.alloc (by assumption) _ | exact St.drew (St.alloc (by assumption) _)) (by omega)
  · have h0 := St.start hO
    clear hO
    go_enter Tryz.func115, Tryz.ntmps115
    go_wp2_with (first | (go_at_call 70; (with_reducible refine (put1 (by first | assumption | exact St.drew (by assumption) | exact St.alloc (by assumption) _ | exact St.drew (St.alloc (by assumption) _)) (by omega) _ _ _ _ _).mono ?_); rintro e w' ⟨v', rfl, hSt⟩) | (go_at_call 70; (with_reducible refine (put2 (by first | assumption | exact St.drew (by assumption) | exact St.alloc (by assumption) _ | exact St.drew (St.alloc (by assumption) _)) (by omega) _ _ _ _ _ _ _ _ _).mono ?_); rintro e w' ⟨v', rfl, hSt⟩) | (go_at_call 70; (with_reducible refine (put3 (by first | assumption | exact St.drew (by assumption) | exact St.alloc (by assumption) _ | exact St.drew (St.alloc (by assumption) _)) (by omega) _ _ _ _ _ _ _ _ _ _ _ _ _).mono ?_); rintro e w' ⟨v', rfl, hSt⟩) | (go_at_call 70; (with_reducible refine (put4 (by first | assumption | exact St.drew (by assumption) | exact St.alloc (by assumption) _ | exact St.drew (St.alloc (by assumption) _)) (by omega) _ _ _ _ _ _ _ _ _ _ _ _ _ _ _ _ _).mono ?_); rintro e w' ⟨v', rfl, hSt⟩) | (go_at_call 70; (with_reducible refine (put5 (by first | assumption | exact St.drew (by assumption) | exact St.alloc (by assumption) _ | exact St.drew (St.alloc (by assumption) _)) (by omega) _ _ _ _ _ _ _ _ _ _ _ _ _ _ _ _ _ _ _ _ _).mono ?_); rintro e w' ⟨v', rfl, hSt⟩) | (go_at_call 92; refine (St.then (by first | assumption | exact St.drew (by assumption) | exact St.alloc (by assumption) _ | exact St.drew (St.alloc (by assumption) _)) (read_any _ _ _)).mono ?_; rintro e w' ⟨rfl, hSt⟩) | (go_at_call 94; refine (St.then (by first | assumption | exact St.drew (by assumption) | exact St.alloc (by assumption) _ | exact St.drew (St.alloc (by assumption) _)) (write_any _ _ _)).mono ?_; rintro e w' ⟨rfl, hSt⟩) | (go_at_call 93; refine (St.then (by first | assumption | exact St.drew (by assumption) | exact St.alloc (by assumption) _ | exact St.drew (St.alloc (by assumption) _)) (wait_any _ _ _)).mono ?_; rintro e w' ⟨rfl, hSt⟩) | (go_at_call 71; refine (St.then (by first | assumption | exact St.drew (by assumption) | exact St.alloc (by assumption) _ | exact St.drew (St.alloc (by assumption) _)) (work_any _ _ _)).mono ?_; rintro e w' ⟨rfl, hSt⟩) | (go_at_call 110; refine (St.then (by first | assumption | exact St.drew (by assumption) | exact St.alloc (by assumption) _ | exact St.drew (St.alloc (by assumption) _)) (in_any _ _ _)).mono ?_; rintro e w' ⟨rfl, hSt⟩) | (go_at_call 111; refine (St.then (by first | assumption | exact St.drew (by assumption) | exact St.alloc (by assumption) _ | exact St.drew (St.alloc (by assumption) _)) (out_any _ _ _)).mono ?_; rintro e w' ⟨rfl, hSt⟩))
    go_ret
    exact St.fin (by first | assumption | exact St.drew (by assumption) | exact St.alloc (by assumption) _ | exact St.drew (St.alloc (by assumption) _)) (by omega)
  · have h0 := St.start hO
    clear hO
    go_enter Tryz.func115, Tryz.ntmps115
    go_wp2_with (first | (go_at_call 70; (with_reducible refine (put1 (by first | assumption | exact St.drew (by assumption) | exact St.alloc (by assumption) _ | exact St.drew (St.alloc (by assumption) _)) (by omega) _ _ _ _ _).mono ?_); rintro e w' ⟨v', rfl, hSt⟩) | (go_at_call 70; (with_reducible refine (put2 (by first | assumption | exact St.drew (by assumption) | exact St.alloc (by assumption) _ | exact St.drew (St.alloc (by assumption) _)) (by omega) _ _ _ _ _ _ _ _ _).mono ?_); rintro e w' ⟨v', rfl, hSt⟩) | (go_at_call 70; (with_reducible refine (put3 (by first | assumption | exact St.drew (by assumption) | exact St.alloc (by assumption) _ | exact St.drew (St.alloc (by assumption) _)) (by omega) _ _ _ _ _ _ _ _ _ _ _ _ _).mono ?_); rintro e w' ⟨v', rfl, hSt⟩) | (go_at_call 70; (with_reducible refine (put4 (by first | assumption | exact St.drew (by assumption) | exact St.alloc (by assumption) _ | exact St.drew (St.alloc (by assumption) _)) (by omega) _ _ _ _ _ _ _ _ _ _ _ _ _ _ _ _ _).mono ?_); rintro e w' ⟨v', rfl, hSt⟩) | (go_at_call 70; (with_reducible refine (put5 (by first | assumption | exact St.drew (by assumption) | exact St.alloc (by assumption) _ | exact St.drew (St.alloc (by assumption) _)) (by omega) _ _ _ _ _ _ _ _ _ _ _ _ _ _ _ _ _ _ _ _ _).mono ?_); rintro e w' ⟨v', rfl, hSt⟩) | (go_at_call 92; refine (St.then (by first | assumption | exact St.drew (by assumption) | exact St.alloc (by assumption) _ | exact St.drew (St.alloc (by assumption) _)) (read_any _ _ _)).mono ?_; rintro e w' ⟨rfl, hSt⟩) | (go_at_call 94; refine (St.then (by first | assumption | exact St.drew (by assumption) | exact St.alloc (by assumption) _ | exact St.drew (St.alloc (by assumption) _)) (write_any _ _ _)).mono ?_; rintro e w' ⟨rfl, hSt⟩) | (go_at_call 93; refine (St.then (by first | assumption | exact St.drew (by assumption) | exact St.alloc (by assumption) _ | exact St.drew (St.alloc (by assumption) _)) (wait_any _ _ _)).mono ?_; rintro e w' ⟨rfl, hSt⟩) | (go_at_call 71; refine (St.then (by first | assumption | exact St.drew (by assumption) | exact St.alloc (by assumption) _ | exact St.drew (St.alloc (by assumption) _)) (work_any _ _ _)).mono ?_; rintro e w' ⟨rfl, hSt⟩) | (go_at_call 110; refine (St.then (by first | assumption | exact St.drew (by assumption) | exact St.alloc (by assumption) _ | exact St.drew (St.alloc (by assumption) _)) (in_any _ _ _)).mono ?_; rintro e w' ⟨rfl, hSt⟩) | (go_at_call 111; refine (St.then (by first | assumption | exact St.drew (by assumption) | exact St.alloc (by assumption) _ | exact St.drew (St.alloc (by assumption) _)) (out_any _ _ _)).mono ?_; rintro e w' ⟨rfl, hSt⟩))
    go_ret
    exact St.fin (by first | assumption | exact St.drew (by assumption) | exact St.alloc (by assumption) _ | exact St.drew (St.alloc (by assumption) _)) (by omega)
  · have h0 := St.start hO
    clear hO
    go_enter Tryz.func115, Tryz.ntmps115
    go_wp2_with (first | (go_at_call 70; (with_reducible refine (put1 (by first | assumption | exact St.drew (by assumption) | exact St.alloc (by assumption) _ | exact St.drew (St.alloc (by assumption) _)) (by omega) _ _ _ _ _).mono ?_); rintro e w' ⟨v', rfl, hSt⟩) | (go_at_call 70; (with_reducible refine (put2 (by first | assumption | exact St.drew (by assumption) | exact St.alloc (by assumption) _ | exact St.drew (St.alloc (by assumption) _)) (by omega) _ _ _ _ _ _ _ _ _).mono ?_); rintro e w' ⟨v', rfl, hSt⟩) | (go_at_call 70; (with_reducible refine (put3 (by first | assumption | exact St.drew (by assumption) | exact St.alloc (by assumption) _ | exact St.drew (St.alloc (by assumption) _)) (by omega) _ _ _ _ _ _ _ _ _ _ _ _ _).mono ?_); rintro e w' ⟨v', rfl, hSt⟩) | (go_at_call 70; (with_reducible refine (put4 (by first | assumption | exact St.drew (by assumption) | exact St.alloc (by assumption) _ | exact St.drew (St.alloc (by assumption) _)) (by omega) _ _ _ _ _ _ _ _ _ _ _ _ _ _ _ _ _).mono ?_); rintro e w' ⟨v', rfl, hSt⟩) | (go_at_call 70; (with_reducible refine (put5 (by first | assumption | exact St.drew (by assumption) | exact St.alloc (by assumption) _ | exact St.drew (St.alloc (by assumption) _)) (by omega) _ _ _ _ _ _ _ _ _ _ _ _ _ _ _ _ _ _ _ _ _).mono ?_); rintro e w' ⟨v', rfl, hSt⟩) | (go_at_call 92; refine (St.then (by first | assumption | exact St.drew (by assumption) | exact St.alloc (by assumption) _ | exact St.drew (St.alloc (by assumption) _)) (read_any _ _ _)).mono ?_; rintro e w' ⟨rfl, hSt⟩) | (go_at_call 94; refine (St.then (by first | assumption | exact St.drew (by assumption) | exact St.alloc (by assumption) _ | exact St.drew (St.alloc (by assumption) _)) (write_any _ _ _)).mono ?_; rintro e w' ⟨rfl, hSt⟩) | (go_at_call 93; refine (St.then (by first | assumption | exact St.drew (by assumption) | exact St.alloc (by assumption) _ | exact St.drew (St.alloc (by assumption) _)) (wait_any _ _ _)).mono ?_; rintro e w' ⟨rfl, hSt⟩) | (go_at_call 71; refine (St.then (by first | assumption | exact St.drew (by assumption) | exact St.alloc (by assumption) _ | exact St.drew (St.alloc (by assumption) _)) (work_any _ _ _)).mono ?_; rintro e w' ⟨rfl, hSt⟩) | (go_at_call 110; refine (St.then (by first | assumption | exact St.drew (by assumption) | exact St.alloc (by assumption) _ | exact St.drew (St.alloc (by assumption) _)) (in_any _ _ _)).mono ?_; rintro e w' ⟨rfl, hSt⟩) | (go_at_call 111; refine (St.then (by first | assumption | exact St.drew (by assumption) | exact St.alloc (by assumption) _ | exact St.drew (St.alloc (by assumption) _)) (out_any _ _ _)).mono ?_; rintro e w' ⟨rfl, hSt⟩))
    go_ret
    exact St.fin (by first | assumption | exact St.drew (by assumption) | exact St.alloc (by assumption) _ | exact St.drew (St.alloc (by assumption) _)) (by omega)
theorem once_st {u : World} {v : Value} {L : List Sp} {c b : Nat} {C : List Value} {base : Nat} {w0 : World} {v0 : Value} (h : St u v L c b C base w0 v0) (hc : c ≤ 9000) (z : Int) (way : Int) (z0 : 0 ≤ z) (z1 : z ≤ 3)  : Calls Tryz.prog 115 #[v, .int .i64 z, .int .i64 way] u (Goes (onceS L z way) (c + 7) b C base w0 v0) :=
  h.goes (once_is base v L c u h.own hc z way z0 z1)

set_option maxRecDepth 100000 in
set_option maxHeartbeats 4000000 in
theorem again_is (base : Nat) (v : Value) (L : List Sp) (c : Nat) (w : World) (hO : Own w v L c base) (hc : c ≤ 9000) (z : Int) (z0 : 0 ≤ z) (z1 : z ≤ 3)  : Calls Tryz.prog 116 #[v, .int .i64 z] w (Gives w v (againS L z) (c + 3) base) := by
  have ez : z = 0 ∨ z = 1 ∨ z = 2 ∨ z = 3 := by omega
  clear z0 z1
  rcases ez with rfl | rfl | rfl | rfl
  · have h0 := St.start hO
    clear hO
    go_enter Tryz.func116, Tryz.ntmps116
    go_wp2_with (first | (go_at_call 70; (with_reducible refine (put1 (by first | assumption | exact St.drew (by assumption) | exact St.alloc (by assumption) _ | exact St.drew (St.alloc (by assumption) _)) (by omega) _ _ _ _ _).mono ?_); rintro e w' ⟨v', rfl, hSt⟩) | (go_at_call 70; (with_reducible refine (put2 (by first | assumption | exact St.drew (by assumption) | exact St.alloc (by assumption) _ | exact St.drew (St.alloc (by assumption) _)) (by omega) _ _ _ _ _ _ _ _ _).mono ?_); rintro e w' ⟨v', rfl, hSt⟩) | (go_at_call 70; (with_reducible refine (put3 (by first | assumption | exact St.drew (by assumption) | exact St.alloc (by assumption) _ | exact St.drew (St.alloc (by assumption) _)) (by omega) _ _ _ _ _ _ _ _ _ _ _ _ _).mono ?_); rintro e w' ⟨v', rfl, hSt⟩) | (go_at_call 70; (with_reducible refine (put4 (by first | assumption | exact St.drew (by assumption) | exact St.alloc (by assumption) _ | exact St.drew (St.alloc (by assumption) _)) (by omega) _ _ _ _ _ _ _ _ _ _ _ _ _ _ _ _ _).mono ?_); rintro e w' ⟨v', rfl, hSt⟩) | (go_at_call 70; (with_reducible refine (put5 (by first | assumption | exact St.drew (by assumption) | exact St.alloc (by assumption) _ | exact St.drew (St.alloc (by assumption) _)) (by omega) _ _ _ _ _ _ _ _ _ _ _ _ _ _ _ _ _ _ _ _ _).mono ?_); rintro e w' ⟨v', rfl, hSt⟩) | (go_at_call 93; refine (St.then (by first | assumption | exact St.drew (by assumption) | exact St.alloc (by assumption) _ | exact St.drew (St.alloc (by assumption) _)) (wait_any _ _ _)).mono ?_; rintro e w' ⟨rfl, hSt⟩) | (go_at_call 71; refine (St.then (by first | assumption | exact St.drew (by assumption) | exact St.alloc (by assumption) _ | exact St.drew (St.alloc (by assumption) _)) (work_any _ _ _)).mono ?_; rintro e w' ⟨rfl, hSt⟩) | (go_at_call 102; refine (St.then (by first | assumption | exact St.drew (by assumption) | exact St.alloc (by assumption) _ | exact St.drew (St.alloc (by assumption) _)) (unless_any _ _)).mono ?_; rintro e w' ⟨rfl, hSt⟩))
    go_ret
    exact St.fin (by first | assumption | exact St.drew (by assumption) | exact St.alloc (by assumption) _ | exact St.drew (St.alloc (by assumption) _)) (by omega)
  · have h0 := St.start hO
    clear hO
    go_enter Tryz.func116, Tryz.ntmps116
    go_wp2_with (first | (go_at_call 70; (with_reducible refine (put1 (by first | assumption | exact St.drew (by assumption) | exact St.alloc (by assumption) _ | exact St.drew (St.alloc (by assumption) _)) (by omega) _ _ _ _ _).mono ?_); rintro e w' ⟨v', rfl, hSt⟩) | (go_at_call 70; (with_reducible refine (put2 (by first | assumption | exact St.drew (by assumption) | exact St.alloc (by assumption) _ | exact St.drew (St.alloc (by assumption) _)) (by omega) _ _ _ _ _ _ _ _ _).mono ?_); rintro e w' ⟨v', rfl, hSt⟩) | (go_at_call 70; (with_reducible refine (put3 (by first | assumption | exact St.drew (by assumption) | exact St.alloc (by assumption) _ | exact St.drew (St.alloc (by assumption) _)) (by omega) _ _ _ _ _ _ _ _ _ _ _ _ _).mono ?_); rintro e w' ⟨v', rfl, hSt⟩) | (go_at_call 70; (with_reducible refine (put4 (by first | assumption | exact St.drew (by assumption) | exact St.alloc (by assumption) _ | exact St.drew (St.alloc (by assumption) _)) (by omega) _ _ _ _ _ _ _ _ _ _ _ _ _ _ _ _ _).mono ?_); rintro e w' ⟨v', rfl, hSt⟩) | (go_at_call 70; (with_reducible refine (put5 (by first | assumption | exact St.drew (by assumption) | exact St.alloc (by assumption) _ | exact St.drew (St.alloc (by assumption) _)) (by omega) _ _ _ _ _ _ _ _ _ _ _ _ _ _ _ _ _ _ _ _ _).mono ?_); rintro e w' ⟨v', rfl, hSt⟩) | (go_at_call 93; refine (St.then (by first | assumption | exact St.drew (by assumption) | exact St.alloc (by assumption) _ | exact St.drew (St.alloc (by assumption) _)) (wait_any _ _ _)).mono ?_; rintro e w' ⟨rfl, hSt⟩) | (go_at_call 71; refine (St.then (by first | assumption | exact St.drew (by assumption) | exact St.alloc (by assumption) _ | exact St.drew (St.alloc (by assumption) _)) (work_any _ _ _)).mono ?_; rintro e w' ⟨rfl, hSt⟩) | (go_at_call 102; refine (St.then (by first | assumption | exact St.drew (by assumption) | exact St.alloc (by assumption) _ | exact St.drew (St.alloc (by assumption) _)) (unless_any _ _)).mono ?_; rintro e w' ⟨rfl, hSt⟩))
    go_ret
    exact St.fin (by first | assumption | exact St.drew (by assumption) | exact St.alloc (by assumption) _ | exact St.drew (St.alloc (by assumption) _)) (by omega)
  · have h0 := St.start hO
    clear hO
    go_enter Tryz.func116, Tryz.ntmps116
    go_wp2_with (first | (go_at_call 70; (with_reducible refine (put1 (by first | assumption | exact St.drew (by assumption) | exact St.alloc (by assumption) _ | exact St.drew (St.alloc (by assumption) _)) (by omega) _ _ _ _ _).mono ?_); rintro e w' ⟨v', rfl, hSt⟩) | (go_at_call 70; (with_reducible refine (put2 (by first | assumption | exact St.drew (by assumption) | exact St.alloc (by assumption) _ | exact St.drew (St.alloc (by assumption) _)) (by omega) _ _ _ _ _ _ _ _ _).mono ?_); rintro e w' ⟨v', rfl, hSt⟩) | (go_at_call 70; (with_reducible refine (put3 (by first | assumption | exact St.drew (by assumption) | exact St.alloc (by assumption) _ | exact St.drew (St.alloc (by assumption) _)) (by omega) _ _ _ _ _ _ _ _ _ _ _ _ _).mono ?_); rintro e w' ⟨v', rfl, hSt⟩) | (go_at_call 70; (with_reducible refine (put4 (by first | assumption | exact St.drew (by assumption) | exact St.alloc (by assumption) _ | exact St.drew (St.alloc (by assumption) _)) (by omega) _ _ _ _ _ _ _ _ _ _ _ _ _ _ _ _ _).mono ?_); rintro e w' ⟨v', rfl, hSt⟩) | (go_at_call 70; (with_reducible refine (put5 (by first | assumption | exact St.drew (by assumption) | exact St.alloc (by assumption) _ | exact St.drew (St.alloc (by assumption) _)) (by omega) _ _ _ _ _ _ _ _ _ _ _ _ _ _ _ _ _ _ _ _ _).mono ?_); rintro e w' ⟨v', rfl, hSt⟩) | (go_at_call 93; refine (St.then (by first | assumption | exact St.drew (by assumption) | exact St.alloc (by assumption) _ | exact St.drew (St.alloc (by assumption) _)) (wait_any _ _ _)).mono ?_; rintro e w' ⟨rfl, hSt⟩) | (go_at_call 71; refine (St.then (by first | assumption | exact St.drew (by assumption) | exact St.alloc (by assumption) _ | exact St.drew (St.alloc (by assumption) _)) (work_any _ _ _)).mono ?_; rintro e w' ⟨rfl, hSt⟩) | (go_at_call 102; refine (St.then (by first | assumption | exact St.drew (by assumption) | exact St.alloc (by assumption) _ | exact St.drew (St.alloc (by assumption) _)) (unless_any _ _)).mono ?_; rintro e w' ⟨rfl, hSt⟩))
    go_ret
    exact St.fin (by first | assumption | exact St.drew (by assumption) | exact St.alloc (by assumption) _ | exact St.drew (St.alloc (by assumption) _)) (by omega)
  · have h0 := St.start hO
    clear hO
    go_enter Tryz.func116, Tryz.ntmps116
    go_wp2_with (first | (go_at_call 70; (with_reducible refine (put1 (by first | assumption | exact St.drew (by assumption) | exact St.alloc (by assumption) _ | exact St.drew (St.alloc (by assumption) _)) (by omega) _ _ _ _ _).mono ?_); rintro e w' ⟨v', rfl, hSt⟩) | (go_at_call 70; (with_reducible refine (put2 (by first | assumption | exact St.drew (by assumption) | exact St.alloc (by assumption) _ | exact St.drew (St.alloc (by assumption) _)) (by omega) _ _ _ _ _ _ _ _ _).mono ?_); rintro e w' ⟨v', rfl, hSt⟩) | (go_at_call 70; (with_reducible refine (put3 (by first | assumption | exact St.drew (by assumption) | exact St.alloc (by assumption) _ | exact St.drew (St.alloc (by assumption) _)) (by omega) _ _ _ _ _ _ _ _ _ _ _ _ _).mono ?_); rintro e w' ⟨v', rfl, hSt⟩) | (go_at_call 70; (with_reducible refine (put4 (by first | assumption | exact St.drew (by assumption) | exact St.alloc (by assumption) _ | exact St.drew (St.alloc (by assumption) _)) (by omega) _ _ _ _ _ _ _ _ _ _ _ _ _ _ _ _ _).mono ?_); rintro e w' ⟨v', rfl, hSt⟩) | (go_at_call 70; (with_reducible refine (put5 (by first | assumption | exact St.drew (by assumption) | exact St.alloc (by assumption) _ | exact St.drew (St.alloc (by assumption) _)) (by omega) _ _ _ _ _ _ _ _ _ _ _ _ _ _ _ _ _ _ _ _ _).mono ?_); rintro e w' ⟨v', rfl, hSt⟩) | (go_at_call 93; refine (St.then (by first | assumption | exact St.drew (by assumption) | exact St.alloc (by assumption) _ | exact St.drew (St.alloc (by assumption) _)) (wait_any _ _ _)).mono ?_; rintro e w' ⟨rfl, hSt⟩) | (go_at_call 71; refine (St.then (by first | assumption | exact St.drew (by assumption) | exact St.alloc (by assumption) _ | exact St.drew (St.alloc (by assumption) _)) (work_any _ _ _)).mono ?_; rintro e w' ⟨rfl, hSt⟩) | (go_at_call 102; refine (St.then (by first | assumption | exact St.drew (by assumption) | exact St.alloc (by assumption) _ | exact St.drew (St.alloc (by assumption) _)) (unless_any _ _)).mono ?_; rintro e w' ⟨rfl, hSt⟩))
    go_ret
    exact St.fin (by first | assumption | exact St.drew (by assumption) | exact St.alloc (by assumption) _ | exact St.drew (St.alloc (by assumption) _)) (by omega)
theorem again_st {u : World} {v : Value} {L : List Sp} {c b : Nat} {C : List Value} {base : Nat} {w0 : World} {v0 : Value} (h : St u v L c b C base w0 v0) (hc : c ≤ 9000) (z : Int) (z0 : 0 ≤ z) (z1 : z ≤ 3)  : Calls Tryz.prog 116 #[v, .int .i64 z] u (Goes (againS L z) (c + 3) b C base w0 v0) :=
  h.goes (again_is base v L c u h.own hc z z0 z1)

set_option maxRecDepth 100000 in
set_option maxHeartbeats 4000000 in
theorem behindPop_is (base : Nat) (v : Value) (L : List Sp) (c : Nat) (w : World) (hO : Own w v L c base) (hc : c ≤ 8000) (p : Int) (p0 : 0 ≤ p) (p1 : p ≤ 3)  : Calls Tryz.prog 104 #[v, .int .i64 p] w (Gives w v (behindPopS L p) (c + 3) base) := by
  have ep : p = 0 ∨ p = 1 ∨ p = 2 ∨ p = 3 := by omega
  clear p0 p1
  rcases ep with rfl | rfl | rfl | rfl
  · have h0 := St.start hO
    clear hO
    go_enter Tryz.func104, Tryz.ntmps104
    go_wp2_with (first | (go_at_call 70; (with_reducible refine (put1 (by first | assumption | exact St.drew (by assumption) | exact St.alloc (by assumption) _ | exact St.drew (St.alloc (by assumption) _)) (by omega) _ _ _ _ _).mono ?_); rintro e w' ⟨v', rfl, hSt⟩) | (go_at_call 70; (with_reducible refine (put2 (by first | assumption | exact St.drew (by assumption) | exact St.alloc (by assumption) _ | exact St.drew (St.alloc (by assumption) _)) (by omega) _ _ _ _ _ _ _ _ _).mono ?_); rintro e w' ⟨v', rfl, hSt⟩) | (go_at_call 70; (with_reducible refine (put3 (by first | assumption | exact St.drew (by assumption) | exact St.alloc (by assumption) _ | exact St.drew (St.alloc (by assumption) _)) (by omega) _ _ _ _ _ _ _ _ _ _ _ _ _).mono ?_); rintro e w' ⟨v', rfl, hSt⟩) | (go_at_call 70; (with_reducible refine (put4 (by first | assumption | exact St.drew (by assumption) | exact St.alloc (by assumption) _ | exact St.drew (St.alloc (by assumption) _)) (by omega) _ _ _ _ _ _ _ _ _ _ _ _ _ _ _ _ _).mono ?_); rintro e w' ⟨v', rfl, hSt⟩) | (go_at_call 70; (with_reducible refine (put5 (by first | assumption | exact St.drew (by assumption) | exact St.alloc (by assumption) _ | exact St.drew (St.alloc (by assumption) _)) (by omega) _ _ _ _ _ _ _ _ _ _ _ _ _ _ _ _ _ _ _ _ _).mono ?_); rintro e w' ⟨v', rfl, hSt⟩) | (go_at_call 93; refine (St.then (by first | assumption | exact St.drew (by assumption) | exact St.alloc (by assumption) _ | exact St.drew (St.alloc (by assumption) _)) (wait_any _ _ _)).mono ?_; rintro e w' ⟨rfl, hSt⟩) | (go_at_call 71; refine (St.then (by first | assumption | exact St.drew (by assumption) | exact St.alloc (by assumption) _ | exact St.drew (St.alloc (by assumption) _)) (work_any _ _ _)).mono ?_; rintro e w' ⟨rfl, hSt⟩) | (go_at_call 101; refine (back_st (by first | assumption | exact St.drew (by assumption) | exact St.alloc (by assumption) _ | exact St.drew (St.alloc (by assumption) _)) (by omega)).mono ?_; rintro e w' ⟨v', rfl, hSt⟩))
    go_ret
    exact St.fin (by first | assumption | exact St.drew (by assumption) | exact St.alloc (by assumption) _ | exact St.drew (St.alloc (by assumption) _)) (by omega)
  · have h0 := St.start hO
    clear hO
    go_enter Tryz.func104, Tryz.ntmps104
    go_wp2_with (first | (go_at_call 70; (with_reducible refine (put1 (by first | assumption | exact St.drew (by assumption) | exact St.alloc (by assumption) _ | exact St.drew (St.alloc (by assumption) _)) (by omega) _ _ _ _ _).mono ?_); rintro e w' ⟨v', rfl, hSt⟩) | (go_at_call 70; (with_reducible refine (put2 (by first | assumption | exact St.drew (by assumption) | exact St.alloc (by assumption) _ | exact St.drew (St.alloc (by assumption) _)) (by omega) _ _ _ _ _ _ _ _ _).mono ?_); rintro e w' ⟨v', rfl, hSt⟩) | (go_at_call 70; (with_reducible refine (put3 (by first | assumption | exact St.drew (by assumption) | exact St.alloc (by assumption) _ | exact St.drew (St.alloc (by assumption) _)) (by omega) _ _ _ _ _ _ _ _ _ _ _ _ _).mono ?_); rintro e w' ⟨v', rfl, hSt⟩) | (go_at_call 70; (with_reducible refine (put4 (by first | assumption | exact St.drew (by assumption) | exact St.alloc (by assumption) _ | exact St.drew (St.alloc (by assumption) _)) (by omega) _ _ _ _ _ _ _ _ _ _ _ _ _ _ _ _ _).mono ?_); rintro e w' ⟨v', rfl, hSt⟩) | (go_at_call 70; (with_reducible refine (put5 (by first | assumption | exact St.drew (by assumption) | exact St.alloc (by assumption) _ | exact St.drew (St.alloc (by assumption) _)) (by omega) _ _ _ _ _ _ _ _ _ _ _ _ _ _ _ _ _ _ _ _ _).mono ?_); rintro e w' ⟨v', rfl, hSt⟩) | (go_at_call 93; refine (St.then (by first | assumption | exact St.drew (by assumption) | exact St.alloc (by assumption) _ | exact St.drew (St.alloc (by assumption) _)) (wait_any _ _ _)).mono ?_; rintro e w' ⟨rfl, hSt⟩) | (go_at_call 71; refine (St.then (by first | assumption | exact St.drew (by assumption) | exact St.alloc (by assumption) _ | exact St.drew (St.alloc (by assumption) _)) (work_any _ _ _)).mono ?_; rintro e w' ⟨rfl, hSt⟩) | (go_at_call 101; refine (back_st (by first | assumption | exact St.drew (by assumption) | exact St.alloc (by assumption) _ | exact St.drew (St.alloc (by assumption) _)) (by omega)).mono ?_; rintro e w' ⟨v', rfl, hSt⟩))
    go_ret
    exact St.fin (by first | assumption | exact St.drew (by assumption) | exact St.alloc (by assumption) _ | exact St.drew (St.alloc (by assumption) _)) (by omega)
  · have h0 := St.start hO
    clear hO
    go_enter Tryz.func104, Tryz.ntmps104
    go_wp2_with (first | (go_at_call 70; (with_reducible refine (put1 (by first | assumption | exact St.drew (by assumption) | exact St.alloc (by assumption) _ | exact St.drew (St.alloc (by assumption) _)) (by omega) _ _ _ _ _).mono ?_); rintro e w' ⟨v', rfl, hSt⟩) | (go_at_call 70; (with_reducible refine (put2 (by first | assumption | exact St.drew (by assumption) | exact St.alloc (by assumption) _ | exact St.drew (St.alloc (by assumption) _)) (by omega) _ _ _ _ _ _ _ _ _).mono ?_); rintro e w' ⟨v', rfl, hSt⟩) | (go_at_call 70; (with_reducible refine (put3 (by first | assumption | exact St.drew (by assumption) | exact St.alloc (by assumption) _ | exact St.drew (St.alloc (by assumption) _)) (by omega) _ _ _ _ _ _ _ _ _ _ _ _ _).mono ?_); rintro e w' ⟨v', rfl, hSt⟩) | (go_at_call 70; (with_reducible refine (put4 (by first | assumption | exact St.drew (by assumption) | exact St.alloc (by assumption) _ | exact St.drew (St.alloc (by assumption) _)) (by omega) _ _ _ _ _ _ _ _ _ _ _ _ _ _ _ _ _).mono ?_); rintro e w' ⟨v', rfl, hSt⟩) | (go_at_call 70; (with_reducible refine (put5 (by first | assumption | exact St.drew (by assumption) | exact St.alloc (by assumption) _ | exact St.drew (St.alloc (by assumption) _)) (by omega) _ _ _ _ _ _ _ _ _ _ _ _ _ _ _ _ _ _ _ _ _).mono ?_); rintro e w' ⟨v', rfl, hSt⟩) | (go_at_call 93; refine (St.then (by first | assumption | exact St.drew (by assumption) | exact St.alloc (by assumption) _ | exact St.drew (St.alloc (by assumption) _)) (wait_any _ _ _)).mono ?_; rintro e w' ⟨rfl, hSt⟩) | (go_at_call 71; refine (St.then (by first | assumption | exact St.drew (by assumption) | exact St.alloc (by assumption) _ | exact St.drew (St.alloc (by assumption) _)) (work_any _ _ _)).mono ?_; rintro e w' ⟨rfl, hSt⟩) | (go_at_call 101; refine (back_st (by first | assumption | exact St.drew (by assumption) | exact St.alloc (by assumption) _ | exact St.drew (St.alloc (by assumption) _)) (by omega)).mono ?_; rintro e w' ⟨v', rfl, hSt⟩))
    go_ret
    exact St.fin (by first | assumption | exact St.drew (by assumption) | exact St.alloc (by assumption) _ | exact St.drew (St.alloc (by assumption) _)) (by omega)
  · have h0 := St.start hO
    clear hO
    go_enter Tryz.func104, Tryz.ntmps104
    go_wp2_with (first | (go_at_call 70; (with_reducible refine (put1 (by first | assumption | exact St.drew (by assumption) | exact St.alloc (by assumption) _ | exact St.drew (St.alloc (by assumption) _)) (by omega) _ _ _ _ _).mono ?_); rintro e w' ⟨v', rfl, hSt⟩) | (go_at_call 70; (with_reducible refine (put2 (by first | assumption | exact St.drew (by assumption) | exact St.alloc (by assumption) _ | exact St.drew (St.alloc (by assumption) _)) (by omega) _ _ _ _ _ _ _ _ _).mono ?_); rintro e w' ⟨v', rfl, hSt⟩) | (go_at_call 70; (with_reducible refine (put3 (by first | assumption | exact St.drew (by assumption) | exact St.alloc (by assumption) _ | exact St.drew (St.alloc (by assumption) _)) (by omega) _ _ _ _ _ _ _ _ _ _ _ _ _).mono ?_); rintro e w' ⟨v', rfl, hSt⟩) | (go_at_call 70; (with_reducible refine (put4 (by first | assumption | exact St.drew (by assumption) | exact St.alloc (by assumption) _ | exact St.drew (St.alloc (by assumption) _)) (by omega) _ _ _ _ _ _ _ _ _ _ _ _ _ _ _ _ _).mono ?_); rintro e w' ⟨v', rfl, hSt⟩) | (go_at_call 70; (with_reducible refine (put5 (by first | assumption | exact St.drew (by assumption) | exact St.alloc (by assumption) _ | exact St.drew (St.alloc (by assumption) _)) (by omega) _ _ _ _ _ _ _ _ _ _ _ _ _ _ _ _ _ _ _ _ _).mono ?_); rintro e w' ⟨v', rfl, hSt⟩) | (go_at_call 93; refine (St.then (by first | assumption | exact St.drew (by assumption) | exact St.alloc (by assumption) _ | exact St.drew (St.alloc (by assumption) _)) (wait_any _ _ _)).mono ?_; rintro e w' ⟨rfl, hSt⟩) | (go_at_call 71; refine (St.then (by first | assumption | exact St.drew (by assumption) | exact St.alloc (by assumption) _ | exact St.drew (St.alloc (by assumption) _)) (work_any _ _ _)).mono ?_; rintro e w' ⟨rfl, hSt⟩) | (go_at_call 101; refine (back_st (by first | assumption | exact St.drew (by assumption) | exact St.alloc (by assumption) _ | exact St.drew (St.alloc (by assumption) _)) (by omega)).mono ?_; rintro e w' ⟨v', rfl, hSt⟩))
    go_ret
    exact St.fin (by first | assumption | exact St.drew (by assumption) | exact St.alloc (by assumption) _ | exact St.drew (St.alloc (by assumption) _)) (by omega)
theorem behindPop_st {u : World} {v : Value} {L : List Sp} {c b : Nat} {C : List Value} {base : Nat} {w0 : World} {v0 : Value} (h : St u v L c b C base w0 v0) (hc : c ≤ 8000) (p : Int) (p0 : 0 ≤ p) (p1 : p ≤ 3)  : Calls Tryz.prog 104 #[v, .int .i64 p] u (Goes (behindPopS L p) (c + 3) b C base w0 v0) :=
  h.goes (behindPop_is base v L c u h.own hc p p0 p1)

set_option maxRecDepth 100000 in
set_option maxHeartbeats 4000000 in
theorem others_is (base : Nat) (v : Value) (L : List Sp) (c : Nat) (w : World) (hO : Own w v L c base) (hc : c ≤ 8000) (y : Int) (y0 : 0 ≤ y) (y1 : y ≤ 7)  : Calls Tryz.prog 106 #[v, .int .i64 y] w (Gives w v (othersS L y) (c + 7) base) := by
  have ey : y = 0 ∨ y = 1 ∨ y = 2 ∨ y = 3 ∨ y = 4 ∨ y = 5 ∨ y = 6 ∨ y = 7 := by omega
  clear y0 y1
  rcases ey with rfl | rfl | rfl | rfl | rfl | rfl | rfl | rfl
  · have h0 := St.start hO
    clear hO
    go_enter Tryz.func106, Tryz.ntmps106
    go_wp2_with (first | (go_at_call 70; (with_reducible refine (put1 (by first | assumption | exact St.drew (by assumption) | exact St.alloc (by assumption) _ | exact St.drew (St.alloc (by assumption) _)) (by omega) _ _ _ _ _).mono ?_); rintro e w' ⟨v', rfl, hSt⟩) | (go_at_call 70; (with_reducible refine (put2 (by first | assumption | exact St.drew (by assumption) | exact St.alloc (by assumption) _ | exact St.drew (St.alloc (by assumption) _)) (by omega) _ _ _ _ _ _ _ _ _).mono ?_); rintro e w' ⟨v', rfl, hSt⟩) | (go_at_call 70; (with_reducible refine (put3 (by first | assumption | exact St.drew (by assumption) | exact St.alloc (by assumption) _ | exact St.drew (St.alloc (by assumption) _)) (by omega) _ _ _ _ _ _ _ _ _ _ _ _ _).mono ?_); rintro e w' ⟨v', rfl, hSt⟩) | (go_at_call 70; (with_reducible refine (put4 (by first | assumption | exact St.drew (by assumption) | exact St.alloc (by assumption) _ | exact St.drew (St.alloc (by assumption) _)) (by omega) _ _ _ _ _ _ _ _ _ _ _ _ _ _ _ _ _).mono ?_); rintro e w' ⟨v', rfl, hSt⟩) | (go_at_call 70; (with_reducible refine (put5 (by first | assumption | exact St.drew (by assumption) | exact St.alloc (by assumption) _ | exact St.drew (St.alloc (by assumption) _)) (by omega) _ _ _ _ _ _ _ _ _ _ _ _ _ _ _ _ _ _ _ _ _).mono ?_); rintro e w' ⟨v', rfl, hSt⟩) | (go_at_call 93; refine (St.then (by first | assumption | exact St.drew (by assumption) | exact St.alloc (by assumption) _ | exact St.drew (St.alloc (by assumption) _)) (wait_any _ _ _)).mono ?_; rintro e w' ⟨rfl, hSt⟩) | (go_at_call 71; refine (St.then (by first | assumption | exact St.drew (by assumption) | exact St.alloc (by assumption) _ | exact St.drew (St.alloc (by assumption) _)) (work_any _ _ _)).mono ?_; rintro e w' ⟨rfl, hSt⟩) | (go_at_call 92; refine (St.then (by first | assumption | exact St.drew (by assumption) | exact St.alloc (by assumption) _ | exact St.drew (St.alloc (by assumption) _)) (read_any _ _ _)).mono ?_; rintro e w' ⟨rfl, hSt⟩) | (go_at_call 110; refine (St.then (by first | assumption | exact St.drew (by assumption) | exact St.alloc (by assumption) _ | exact St.drew (St.alloc (by assumption) _)) (in_any _ _ _)).mono ?_; rintro e w' ⟨rfl, hSt⟩) | (go_at_call 111; refine (St.then (by first | assumption | exact St.drew (by assumption) | exact St.alloc (by assumption) _ | exact St.drew (St.alloc (by assumption) _)) (out_any _ _ _)).mono ?_; rintro e w' ⟨rfl, hSt⟩) | (go_at_call 105; refine (word_st (by first | assumption | exact St.drew (by assumption) | exact St.alloc (by assumption) _ | exact St.drew (St.alloc (by assumption) _)) (by omega)).mono ?_; rintro e w' ⟨v', rfl, hSt⟩) | (go_at_call 154; refine (exchangeTop_st (by first | assumption | exact St.drew (by assumption) | exact St.alloc (by assumption) _ | exact St.drew (St.alloc (by assumption) _)) (by omega)).mono ?_; rintro e w' ⟨v', rfl, hSt⟩))
    go_ret
    exact St.fin (by first | assumption | exact St.drew (by assumption) | exact St.alloc (by assumption) _ | exact St.drew (St.alloc (by assumption) _)) (by omega)
  · have h0 := St.start hO
    clear hO
    go_enter Tryz.func106, Tryz.ntmps106
    go_wp2_with (first | (go_at_call 70; (with_reducible refine (put1 (by first | assumption | exact St.drew (by assumption) | exact St.alloc (by assumption) _ | exact St.drew (St.alloc (by assumption) _)) (by omega) _ _ _ _ _).mono ?_); rintro e w' ⟨v', rfl, hSt⟩) | (go_at_call 70; (with_reducible refine (put2 (by first | assumption | exact St.drew (by assumption) | exact St.alloc (by assumption) _ | exact St.drew (St.alloc (by assumption) _)) (by omega) _ _ _ _ _ _ _ _ _).mono ?_); rintro e w' ⟨v', rfl, hSt⟩) | (go_at_call 70; (with_reducible refine (put3 (by first | assumption | exact St.drew (by assumption) | exact St.alloc (by assumption) _ | exact St.drew (St.alloc (by assumption) _)) (by omega) _ _ _ _ _ _ _ _ _ _ _ _ _).mono ?_); rintro e w' ⟨v', rfl, hSt⟩) | (go_at_call 70; (with_reducible refine (put4 (by first | assumption | exact St.drew (by assumption) | exact St.alloc (by assumption) _ | exact St.drew (St.alloc (by assumption) _)) (by omega) _ _ _ _ _ _ _ _ _ _ _ _ _ _ _ _ _).mono ?_); rintro e w' ⟨v', rfl, hSt⟩) | (go_at_call 70; (with_reducible refine (put5 (by first | assumption | exact St.drew (by assumption) | exact St.alloc (by assumption) _ | exact St.drew (St.alloc (by assumption) _)) (by omega) _ _ _ _ _ _ _ _ _ _ _ _ _ _ _ _ _ _ _ _ _).mono ?_); rintro e w' ⟨v', rfl, hSt⟩) | (go_at_call 93; refine (St.then (by first | assumption | exact St.drew (by assumption) | exact St.alloc (by assumption) _ | exact St.drew (St.alloc (by assumption) _)) (wait_any _ _ _)).mono ?_; rintro e w' ⟨rfl, hSt⟩) | (go_at_call 71; refine (St.then (by first | assumption | exact St.drew (by assumption) | exact St.alloc (by assumption) _ | exact St.drew (St.alloc (by assumption) _)) (work_any _ _ _)).mono ?_; rintro e w' ⟨rfl, hSt⟩) | (go_at_call 92; refine (St.then (by first | assumption | exact St.drew (by assumption) | exact St.alloc (by assumption) _ | exact St.drew (St.alloc (by assumption) _)) (read_any _ _ _)).mono ?_; rintro e w' ⟨rfl, hSt⟩) | (go_at_call 110; refine (St.then (by first | assumption | exact St.drew (by assumption) | exact St.alloc (by assumption) _ | exact St.drew (St.alloc (by assumption) _)) (in_any _ _ _)).mono ?_; rintro e w' ⟨rfl, hSt⟩) | (go_at_call 111; refine (St.then (by first | assumption | exact St.drew (by assumption) | exact St.alloc (by assumption) _ | exact St.drew (St.alloc (by assumption) _)) (out_any _ _ _)).mono ?_; rintro e w' ⟨rfl, hSt⟩) | (go_at_call 105; refine (word_st (by first | assumption | exact St.drew (by assumption) | exact St.alloc (by assumption) _ | exact St.drew (St.alloc (by assumption) _)) (by omega)).mono ?_; rintro e w' ⟨v', rfl, hSt⟩) | (go_at_call 154; refine (exchangeTop_st (by first | assumption | exact St.drew (by assumption) | exact St.alloc (by assumption) _ | exact St.drew (St.alloc (by assumption) _)) (by omega)).mono ?_; rintro e w' ⟨v', rfl, hSt⟩))
    go_ret
    exact St.fin (by first | assumption | exact St.drew (by assumption) | exact St.alloc (by assumption) _ | exact St.drew (St.alloc (by assumption) _)) (by omega)
  · have h0 := St.start hO
    clear hO
    go_enter Tryz.func106, Tryz.ntmps106
    go_wp2_with (first | (go_at_call 70; (with_reducible refine (put1 (by first | assumption | exact St.drew (by assumption) | exact St.alloc (by assumption) _ | exact St.drew (St.alloc (by assumption) _)) (by omega) _ _ _ _ _).mono ?_); rintro e w' ⟨v', rfl, hSt⟩) | (go_at_call 70; (with_reducible refine (put2 (by first | assumption | exact St.drew (by assumption) | exact St.alloc (by assumption) _ | exact St.drew (St.alloc (by assumption) _)) (by omega) _ _ _ _ _ _ _ _ _).mono ?_); rintro e w' ⟨v', rfl, hSt⟩) | (go_at_call 70; (with_reducible refine (put3 (by first | assumption | exact St.drew (by assumption) | exact St.alloc (by assumption) _ | exact St.drew (St.alloc (by assumption) _)) (by omega) _ _ _ _ _ _ _ _ _ _ _ _ _).mono ?_); rintro e w' ⟨v', rfl, hSt⟩) | (go_at_call 70; (with_reducible refine (put4 (by first | assumption | exact St.drew (by assumption) | exact St.alloc (by assumption) _ | exact St.drew (St.alloc (by assumption) _)) (by omega) _ _ _ _ _ _ _ _ _ _ _ _ _ _ _ _ _).mono ?_); rintro e w' ⟨v', rfl, hSt⟩) | (go_at_call 70; (with_reducible refine (put5 (by first | assumption | exact St.drew (by assumption) | exact St.alloc (by assumption) _ | exact St.drew (St.alloc (by assumption) _)) (by omega) _ _ _ _ _ _ _ _ _ _ _ _ _ _ _ _ _ _ _ _ _).mono ?_); rintro e w' ⟨v', rfl, hSt⟩) | (go_at_call 93; refine (St.then (by first | assumption | exact St.drew (by assumption) | exact St.alloc (by assumption) _ | exact St.drew (St.alloc (by assumption) _)) (wait_any _ _ _)).mono ?_; rintro e w' ⟨rfl, hSt⟩) | (go_at_call 71; refine (St.then (by first | assumption | exact St.drew (by assumption) | exact St.alloc (by assumption) _ | exact St.drew (St.alloc (by assumption) _)) (work_any _ _ _)).mono ?_; rintro e w' ⟨rfl, hSt⟩) | (go_at_call 92; refine (St.then (by first | assumption | exact St.drew (by assumption) | exact St.alloc (by assumption) _ | exact St.drew (St.alloc (by assumption) _)) (read_any _ _ _)).mono ?_; rintro e w' ⟨rfl, hSt⟩) | (go_at_call 110; refine (St.then (by first | assumption | exact St.drew (by assumption) | exact St.alloc (by assumption) _ | exact St.drew (St.alloc (by assumption) _)) (in_any _ _ _)).mono ?_; rintro e w' ⟨rfl, hSt⟩) | (go_at_call 111; refine (St.then (by first | assumption | exact St.drew (by assumption) | exact St.alloc (by assumption) _ | exact St.drew (St.alloc (by assumption) _)) (out_any _ _ _)).mono ?_; rintro e w' ⟨rfl, hSt⟩) | (go_at_call 105; refine (word_st (by first | assumption | exact St.drew (by assumption) | exact St.alloc (by assumption) _ | exact St.drew (St.alloc (by assumption) _)) (by omega)).mono ?_; rintro e w' ⟨v', rfl, hSt⟩) | (go_at_call 154; refine (exchangeTop_st (by first | assumption | exact St.drew (by assumption) | exact St.alloc (by assumption) _ | exact St.drew (St.alloc (by assumption) _)) (by omega)).mono ?_; rintro e w' ⟨v', rfl, hSt⟩))
    go_ret
    exact St.fin (by first | assumption | exact St.drew (by assumption) | exact St.alloc (by assumption) _ | exact St.drew (St.alloc (by assumption) _)) (by omega)
  · have h0 := St.start hO
    clear hO
    go_enter Tryz.func106, Tryz.ntmps106
    go_wp2_with (first | (go_at_call 70; (with_reducible refine (put1 (by first | assumption | exact St.drew (by assumption) | exact St.alloc (by assumption) _ | exact St.drew (St.alloc (by assumption) _)) (by omega) _ _ _ _ _).mono ?_); rintro e w' ⟨v', rfl, hSt⟩) | (go_at_call 70; (with_reducible refine (put2 (by first | assumption | exact St.drew (by assumption) | exact St.alloc (by assumption) _ | exact St.drew (St.alloc (by assumption) _)) (by omega) _ _ _ _ _ _ _ _ _).mono ?_); rintro e w' ⟨v', rfl, hSt⟩) | (go_at_call 70; (with_reducible refine (put3 (by first | assumption | exact St.drew (by assumption) | exact St.alloc (by assumption) _ | exact St.drew (St.alloc (by assumption) _)) (by omega) _ _ _ _ _ _ _ _ _ _ _ _ _).mono ?_); rintro e w' ⟨v', rfl, hSt⟩) | (go_at_call 70; (with_reducible refine (put4 (by first | assumption | exact St.drew (by assumption) | exact St.alloc (by assumption) _ | exact St.drew (St.alloc (by assumption) _)) (by omega) _ _ _ _ _ _ _ _ _ _ _ _ _ _ _ _ _).mono ?_); rintro e w' ⟨v', rfl, hSt⟩) | (go_at_call 70; (with_reducible refine (put5 (by first | assumption | exact St.drew (by assumption) | exact St.alloc (by assumption) _ | exact St.drew (St.alloc (by assumption) _)) (by omega) _ _ _ _ _ _ _ _ _ _ _ _ _ _ _ _ _ _ _ _ _).mono ?_); rintro e w' ⟨v', rfl, hSt⟩) | (go_at_call 93; refine (St.then (by first | assumption | exact St.drew (by assumption) | exact St.alloc (by assumption) _ | exact St.drew (St.alloc (by assumption) _)) (wait_any _ _ _)).mono ?_; rintro e w' ⟨rfl, hSt⟩) | (go_at_call 71; refine (St.then (by first | assumption | exact St.drew (by assumption) | exact St.alloc (by assumption) _ | exact St.drew (St.alloc (by assumption) _)) (work_any _ _ _)).mono ?_; rintro e w' ⟨rfl, hSt⟩) | (go_at_call 92; refine (St.then (by first | assumption | exact St.drew (by assumption) | exact St.alloc (by assumption) _ | exact St.drew (St.alloc (by assumption) _)) (read_any _ _ _)).mono ?_; rintro e w' ⟨rfl, hSt⟩) | (go_at_call 110; refine (St.then (by first | assumption | exact St.drew (by assumption) | exact St.alloc (by assumption) _ | exact St.drew (St.alloc (by assumption) _)) (in_any _ _ _)).mono ?_; rintro e w' ⟨rfl, hSt⟩) | (go_at_call 111; refine (St.then (by first | assumption | exact St.drew (by assumption) | exact St.alloc (by assumption) _ | exact St.drew (St.alloc (by assumption) _)) (out_any _ _ _)).mono ?_; rintro e w' ⟨rfl, hSt⟩) | (go_at_call 105; refine (word_st (by first | assumption | exact St.drew (by assumption) | exact St.alloc (by assumption) _ | exact St.drew (St.alloc (by assumption) _)) (by omega)).mono ?_; rintro e w' ⟨v', rfl, hSt⟩) | (go_at_call 154; refine (exchangeTop_st (by first | assumption | exact St.drew (by assumption) | exact St.alloc (by assumption) _ | exact St.drew (St.alloc (by assumption) _)) (by omega)).mono ?_; rintro e w' ⟨v', rfl, hSt⟩))
    go_ret
    exact St.fin (by first | assumption | exact St.drew (by assumption) | exact St.alloc (by assumption) _ | exact St.drew (St.alloc (by assumption) _)) (by omega)
  · have h0 := St.start hO
    clear hO
    go_enter Tryz.func106, Tryz.ntmps106
    go_wp2_with (first | (go_at_call 70; (with_reducible refine (put1 (by first | assumption | exact St.drew (by assumption) | exact St.alloc (by assumption) _ | exact St.drew (St.alloc (by assumption) _)) (by omega) _ _ _ _ _).mono ?_); rintro e w' ⟨v', rfl, hSt⟩) | (go_at_call 70; (with_reducible refine (put2 (by first | assumption | exact St.drew (by assumption) | exact St.alloc (by assumption) _ | exact St.drew (St.alloc (by assumption) _)) (by omega) _ _ _ _ _ _ _ _ _).mono ?_); rintro e w' ⟨v', rfl, hSt⟩) | (go_at_call 70; (with_reducible refine (put3 (by first | assumption | exact St.drew (by assumption) | exact St.alloc (by assumption) _ | exact St.drew (St.alloc (by assumption) _)) (by omega) _ _ _ _ _ _ _ _ _ _ _ _ _).mono ?_); rintro e w' ⟨v', rfl, hSt⟩) | (go_at_call 70; (with_reducible refine (put4 (by first | assumption | exact St.drew (by assumption) | exact St.alloc (by assumption) _ | exact St.drew (St.alloc (by assumption) _)) (by omega) _ _ _ _ _ _ _ _ _ _ _ _ _ _ _ _ _).mono ?_); rintro e w' ⟨v', rfl, hSt⟩) | (go_at_call 70; (with_reducible refine (put5 (by first | assumption | exact St.drew (by assumption) | exact St.alloc (by assumption) _ | exact St.drew (St.alloc (by assumption) _)) (by omega) _ _ _ _ _ _ _ _ _ _ _ _ _ _ _ _ _ _ _ _ _).mono ?_); rintro e w' ⟨v', rfl, hSt⟩) | (go_at_call 93; refine (St.then (by first | assumption | exact St.drew (by assumption) | exact St.alloc (by assumption) _ | exact St.drew (St.alloc (by assumption) _)) (wait_any _ _ _)).mono ?_; rintro e w' ⟨rfl, hSt⟩) | (go_at_call 71; refine (St.then (by first | assumption | exact St.drew (by assumption) | exact St.alloc (by assumption) _ | exact St.drew (St.alloc (by assumption) _)) (work_any _ _ _)).mono ?_; rintro e w' ⟨rfl, hSt⟩) | (go_at_call 92; refine (St.then (by first | assumption | exact St.drew (by assumption) | exact St.alloc (by assumption) _ | exact St.drew (St.alloc (by assumption) _)) (read_any _ _ _)).mono ?_; rintro e w' ⟨rfl, hSt⟩) | (go_at_call 110; refine (St.then (by first | assumption | exact St.drew (by assumption) | exact St.alloc (by assumption) _ | exact St.drew (St.alloc (by assumption) _)) (in_any _ _ _)).mono ?_; rintro e w' ⟨rfl, hSt⟩) | (go_at_call 111; refine (St.then (by first | assumption | exact St.drew (by assumption) | exact St.alloc (by assumption) _ | exact St.drew (St.alloc (by assumption) _)) (out_any _ _ _)).mono ?_; rintro e w' ⟨rfl, hSt⟩) | (go_at_call 105; refine (word_st (by first | assumption | exact St.drew (by assumption) | exact St.alloc (by assumption) _ | exact St.drew (St.alloc (by assumption) _)) (by omega)).mono ?_; rintro e w' ⟨v', rfl, hSt⟩) | (go_at_call 154; refine (exchangeTop_st (by first | assumption | exact St.drew (by assumption) | exact St.alloc (by assumption) _ | exact St.drew (St.alloc (by assumption) _)) (by omega)).mono ?_; rintro e w' ⟨v', rfl, hSt⟩))
    go_ret
    exact St.fin (by first | assumption | exact St.drew (by assumption) | exact St.alloc (by assumption) _ | exact St.drew (St.alloc (by assumption) _)) (by omega)
  · have h0 := St.start hO
    clear hO
    go_enter Tryz.func106, Tryz.ntmps106
    go_wp2_with (first | (go_at_call 70; (with_reducible refine (put1 (by first | assumption | exact St.drew (by assumption) | exact St.alloc (by assumption) _ | exact St.drew (St.alloc (by assumption) _)) (by omega) _ _ _ _ _).mono ?_); rintro e w' ⟨v', rfl, hSt⟩) | (go_at_call 70; (with_reducible refine (put2 (by first | assumption | exact St.drew (by assumption) | exact St.alloc (by assumption) _ | exact St.drew (St.alloc (by assumption) _)) (by omega) _ _ _ _ _ _ _ _ _).mono ?_); rintro e w' ⟨v', rfl, hSt⟩) | (go_at_call 70; (with_reducible refine (put3 (by first | assumption | exact St.drew (by assumption) | exact St.alloc (by assumption) _ | exact St.drew (St.alloc (by assumption) _)) (by omega) _ _ _ _ _ _ _ _ _ _ _ _ _).mono ?_); rintro e w' ⟨v', rfl, hSt⟩) | (go_at_call 70; (with_reducible refine (put4 (by first | assumption | exact St.drew (by assumption) | exact St.alloc (by assumption) _ | exact St.drew (St.alloc (by assumption) _)) (by omega) _ _ _ _ _ _ _ _ _ _ _ _ _ _ _ _ _).mono ?_); rintro e w' ⟨v', rfl, hSt⟩) | (go_at_call 70; (with_reducible refine (put5 (by first | assumption | exact St.drew (by assumption) | exact St.alloc (by assumption) _ | exact St.drew (St.alloc (by assumption) _)) (by omega) _ _ _ _ _ _ _ _ _ _ _ _ _ _ _ _ _ _ _ _ _).mono ?_); rintro e w' ⟨v', rfl, hSt⟩) | (go_at_call 93; refine (St.then (by first | assumption | exact St.drew (by assumption) | exact St.alloc (by assumption) _ | exact St.drew (St.alloc (by assumption) _)) (wait_any _ _ _)).mono ?_; rintro e w' ⟨rfl, hSt⟩) | (go_at_call 71; refine (St.then (by first | assumption | exact St.drew (by assumption) | exact St.alloc (by assumption) _ | exact St.drew (St.alloc (by assumption) _)) (work_any _ _ _)).mono ?_; rintro e w' ⟨rfl, hSt⟩) | (go_at_call 92; refine (St.then (by first | assumption | exact St.drew (by assumption) | exact St.alloc (by assumption) _ | exact St.drew (St.alloc (by assumption) _)) (read_any _ _ _)).mono ?_; rintro e w' ⟨rfl, hSt⟩) | (go_at_call 110; refine (St.then (by first | assumption | exact St.drew (by assumption) | exact St.alloc (by assumption) _ | exact St.drew (St.alloc (by assumption) _)) (in_any _ _ _)).mono ?_; rintro e w' ⟨rfl, hSt⟩) | (go_at_call 111; refine (St.then (by first | assumption | exact St.drew (by assumption) | exact St.alloc (by assumption) _ | exact St.drew (St.alloc (by assumption) _)) (out_any _ _ _)).mono ?_; rintro e w' ⟨rfl, hSt⟩) | (go_at_call 105; refine (word_st (by first | assumption | exact St.drew (by assumption) | exact St.alloc (by assumption) _ | exact St.drew (St.alloc (by assumption) _)) (by omega)).mono ?_; rintro e w' ⟨v', rfl, hSt⟩) | (go_at_call 154; refine (exchangeTop_st (by first | assumption | exact St.drew (by assumption) | exact St.alloc (by assumption) _ | exact St.drew (St.alloc (by assumption) _)) (by omega)).mono ?_; rintro e w' ⟨v', rfl, hSt⟩))
    go_ret
    exact St.fin (by first | assumption | exact St.drew (by assumption) | exact St.alloc (by assumption) _ | exact St.drew (St.alloc (by assumption) _)) (by omega)
  · have h0 := St.start hO
    clear hO
    go_enter Tryz.func106, Tryz.ntmps106
    go_wp2_with (first | (go_at_call 70; (with_reducible refine (put1 (by first | assumption | exact St.drew (by assumption) | exact St.alloc (by assumption) _ | exact St.drew (St.alloc (by assumption) _)) (by omega) _ _ _ _ _).mono ?_); rintro e w' ⟨v', rfl, hSt⟩) | (go_at_call 70; (with_reducible refine (put2 (by first | assumption | exact St.drew (by assumption) | exact St.alloc (by assumption) _ | exact St.drew (St.alloc (by assumption) _)) (by omega) _ _ _ _ _ _ _ _ _).mono ?_); rintro e w' ⟨v', rfl, hSt⟩) | (go_at_call 70; (with_reducible refine (put3 (by first | assumption | exact St.drew (by assumption) | exact St.alloc (by assumption) _ | exact St.drew (St.alloc (by assumption) _)) (by omega) _ _ _ _ _ _ _ _ _ _ _ _ _).mono ?_); rintro e w' ⟨v', rfl, hSt⟩) | (go_at_call 70; (with_reducible refine (put4 (by first | assumption | exact St.drew (by assumption) | exact St.alloc (by assumption) _ | exact St.drew (St.alloc (by assumption) _)) (by omega) _ _ _ _ _ _ _ _ _ _ _ _ _ _ _ _ _).mono ?_); rintro e w' ⟨v', rfl, hSt⟩) | (go_at_call 70; (with_reducible refine (put5 (by first | assumption | exact St.drew (by assumption) | exact St.alloc (by assumption) _ | exact St.drew (St.alloc (by assumption) _)) (by omega) _ _ _ _ _ _ _ _ _ _ _ _ _ _ _ _ _ _ _ _ _).mono ?_); rintro e w' ⟨v', rfl, hSt⟩) | (go_at_call 93; refine (St.then (by first | assumption | exact St.drew (by assumption) | exact St.alloc (by assumption) _ | exact St.drew (St.alloc (by assumption) _)) (wait_any _ _ _)).mono ?_; rintro e w' ⟨rfl, hSt⟩) | (go_at_call 71; refine (St.then (by first | assumption | exact St.drew (by assumption) | exact St.alloc (by assumption) _ | exact St.drew (St.alloc (by assumption) _)) (work_any _ _ _)).mono ?_; rintro e w' ⟨rfl, hSt⟩) | (go_at_call 92; refine (St.then (by first | assumption | exact St.drew (by assumption) | exact St.alloc (by assumption) _ | exact St.drew (St.alloc (by assumption) _)) (read_any _ _ _)).mono ?_; rintro e w' ⟨rfl, hSt⟩) | (go_at_call 110; refine (St.then (by first | assumption | exact St.drew (by assumption) | exact St.alloc (by assumption) _ | exact St.drew (St.alloc (by assumption) _)) (in_any _ _ _)).mono ?_; rintro e w' ⟨rfl, hSt⟩) | (go_at_call 111; refine (St.then (by first | assumption | exact St.drew (by assumption) | exact St.alloc (by assumption) _ | exact St.drew (St.alloc (by assumption) _)) (out_any _ _ _)).mono ?_; rintro e w' ⟨rfl, hSt⟩) | (go_at_call 105; refine (word_st (by first | assumption | exact St.drew (by assumption) | exact St.alloc (by assumption) _ | exact St.drew (St.alloc (by assumption) _)) (by omega)).mono ?_; rintro e w' ⟨v', rfl, hSt⟩) | (go_at_call 154; refine (exchangeTop_st (by first | assumption | exact St.drew (by assumption) | exact St.alloc (by assumption) _ | exact St.drew (St.alloc (by assumption) _)) (by omega)).mono ?_; rintro e w' ⟨v', rfl, hSt⟩))
    go_ret
    exact St.fin (by first | assumption | exact St.drew (by assumption) | exact St.alloc (by assumption) _ | exact St.drew (St.alloc (by assumption) _)) (by omega)
  · have h0 := St.start hO
    clear hO
    go_enter Tryz.func106, Tryz.ntmps106
    go_wp2_with (first | (go_at_call 70; (with_reducible refine (put1 (by first | assumption | exact St.drew (by assumption) | exact St.alloc (by assumption) _ | exact St.drew (St.alloc (by assumption) _)) (by omega) _ _ _ _ _).mono ?_); rintro e w' ⟨v', rfl, hSt⟩) | (go_at_call 70; (with_reducible refine (put2 (by first | assumption | exact St.drew (by assumption) | exact St.alloc (by assumption) _ | exact St.drew (St.alloc (by assumption) _)) (by omega) _ _ _ _ _ _ _ _ _).mono ?_); rintro e w' ⟨v', rfl, hSt⟩) | (go_at_call 70; (with_reducible refine (put3 (by first | assumption | exact St.drew (by assumption) | exact St.alloc (by assumption) _ | exact St.drew (St.alloc (by assumption) _)) (by omega) _ _ _ _ _ _ _ _ _ _ _ _ _).mono ?_); rintro e w' ⟨v', rfl, hSt⟩) | (go_at_call 70; (with_reducible refine (put4 (by first | assumption | exact St.drew (by assumption) | exact St.alloc (by assumption) _ | exact St.drew (St.alloc (by assumption) _)) (by omega) _ _ _ _ _ _ _ _ _ _ _ _ _ _ _ _ _).mono ?_); rintro e w' ⟨v', rfl, hSt⟩) | (go_at_call 70; (with_reducible refine (put5 (by first | assumption | exact St.drew (by assumption) | exact St.alloc (by assumption) _ | exact St.drew (St.alloc (by assumption) _)) (by omega) _ _ _ _ _ _ _ _ _ _ _ _ _ _ _ _ _ _ _ _ _).mono ?_); rintro e w' ⟨v', rfl, hSt⟩) | (go_at_call 93; refine (St.then (by first | assumption | exact St.drew (by assumption) | exact St.alloc (by assumption) _ | exact St.drew (St.alloc (by assumption) _)) (wait_any _ _ _)).mono ?_; rintro e w' ⟨rfl, hSt⟩) | (go_at_call 71; refine (St.then (by first | assumption | exact St.drew (by assumption) | exact St.alloc (by assumption) _ | exact St.drew (St.alloc (by assumption) _)) (work_any _ _ _)).mono ?_; rintro e w' ⟨rfl, hSt⟩) | (go_at_call 92; refine (St.then (by first | assumption | exact St.drew (by assumption) | exact St.alloc (by assumption) _ | exact St.drew (St.alloc (by assumption) _)) (read_any _ _ _)).mono ?_; rintro e w' ⟨rfl, hSt⟩) | (go_at_call 110; refine (St.then (by first | assumption | exact St.drew (by assumption) | exact St.alloc (by assumption) _ | exact St.drew (St.alloc (by assumption) _)) (in_any _ _ _)).mono ?_; rintro e w' ⟨rfl, hSt⟩) | (go_at_call 111; refine (St.then (by first | assumption | exact St.drew (by assumption) | exact St.alloc (by assumption) _ | exact St.drew (St.alloc (by assumption) _)) (out_any _ _ _)).mono ?_; rintro e w' ⟨rfl, hSt⟩) | (go_at_call 105; refine (word_st (by first | assumption | exact St.drew (by assumption) | exact St.alloc (by assumption) _ | exact St.drew (St.alloc (by assumption) _)) (by omega)).mono ?_; rintro e w' ⟨v', rfl, hSt⟩) | (go_at_call 154; refine (exchangeTop_st (by first | assumption | exact St.drew (by assumption) | exact St.alloc (by assumption) _ | exact St.drew (St.alloc (by assumption) _)) (by omega)).mono ?_; rintro e w' ⟨v', rfl, hSt⟩))
    go_ret
    exact St.fin (by first | assumption | exact St.drew (by assumption) | exact St.alloc (by assumption) _ | exact St.drew (St.alloc (by assumption) _)) (by omega)
theorem others_st {u : World} {v : Value} {L : List Sp} {c b : Nat} {C : List Value} {base : Nat} {w0 : World} {v0 : Value} (h : St u v L c b C base w0 v0) (hc : c ≤ 8000) (y : Int) (y0 : 0 ≤ y) (y1 : y ≤ 7)  : Calls Tryz.prog 106 #[v, .int .i64 y] u (Goes (othersS L y) (c + 7) b C base w0 v0) :=
  h.goes (others_is base v L c u h.own hc y y0 y1)

end Go.Proofs.YtcfkpeemhleleaaGreatDoor
/- the table of modes; micro.change: its contract. -/
namespace Go.Proofs.YtcfkpeemhleleaaGreatDoor
open Go.RowKit

/-- The table of the interrupts' modes. -/
def Modes (w : World) : Prop := (w.cell? ⟨0, 0, none⟩ = some (.int .i64 0) ∧ w.cell? ⟨0, 1, none⟩ = some (.int .i64 0) ∧ w.cell? ⟨0, 2, none⟩ = some (.int .i64 1) ∧ w.cell? ⟨0, 3, none⟩ = some (.int .i64 2)) ∧ 0 < w.heap.size
theorem Modes.below {w w' : World} (h : Modes w) (hb : Below w.heap.size w w') : Modes w' := by
  obtain ⟨⟨h0, h1, h2, h3⟩, hs⟩ := h
  exact ⟨⟨(hb.cell (p := ⟨_, 0, none⟩) hs).trans h0, (hb.cell (p := ⟨_, 1, none⟩) hs).trans h1, (hb.cell (p := ⟨_, 2, none⟩) hs).trans h2, (hb.cell (p := ⟨_, 3, none⟩) hs).trans h3⟩, Nat.lt_of_lt_of_le hs hb.size⟩
theorem Modes.alloc {w : World} (h : Modes w) (o : Obj) : Modes (w.alloc o) := h.below (balloc w o)

set_option maxRecDepth 100000 in
set_option maxHeartbeats 1600000 in
theorem change_is (base : Nat) (v : Value) (L X : List Sp) (c : Nat) (w : World) (hO : Own w v L c base) (hc : c ≤ 9000) (g m : Nat) (hX : ∀ i a, (flat X)[i]? = some a → w.cell? ⟨g, i, none⟩ = some a) (hg : g < w.heap.size) (hn : v.ownBlock ≠ some g) (hm : X.length = m) (m0 : 0 < m) (m9 : m ≤ 2) :
    Calls Tryz.prog 82 #[v, .slice (some ⟨g, 0, none⟩) m m] w (Gives w v (changeS L X) (c + (3 + m)) base) := by
  have h0 : St w v L c g (flat X) base w v := ⟨hO, Put.refl w v, hX, Or.inr ⟨hg, hn⟩⟩
  have HM := Lib.hid hm
  clear hO hX hm
  go_enter Tryz.func82, Tryz.ntmps82
  go_wp2_with (first | (go_at_call 92; refine (St.then (by first | assumption | exact St.drew (by assumption) | exact St.alloc (by assumption) _ | exact St.drew (St.alloc (by assumption) _)) (read_any _ _ _)).mono ?_; rintro e w' ⟨rfl, hSt⟩) | (go_at_call 93; refine (St.then (by first | assumption | exact St.drew (by assumption) | exact St.alloc (by assumption) _ | exact St.drew (St.alloc (by assumption) _)) (wait_any _ _ _)).mono ?_; rintro e w' ⟨rfl, hSt⟩) | (go_at_call 70; (with_reducible refine (put2 (by first | assumption | exact St.drew (by assumption) | exact St.alloc (by assumption) _ | exact St.drew (St.alloc (by assumption) _)) (by omega) _ _ _ _ _ _ _ _ _).mono ?_); rintro e w' ⟨v', rfl, hSt⟩))
  refine (put_box (by assumption) (by omega) m HM.out m0 (by omega)).mono ?_
  rintro e w' ⟨v', rfl, hSt⟩
  go_wp2_with (first | (go_at_call 94; refine (St.then (by first | assumption | exact St.drew (by assumption) | exact St.alloc (by assumption) _ | exact St.drew (St.alloc (by assumption) _)) (write_any _ _ _)).mono ?_; rintro e w' ⟨rfl, hSt⟩) | (go_at_call 70; (with_reducible refine (put1 (by first | assumption | exact St.drew (by assumption) | exact St.alloc (by assumption) _ | exact St.drew (St.alloc (by assumption) _)) (by omega) _ _ _ _ _).mono ?_); rintro e w' ⟨v', rfl, hSt⟩))
  go_ret
  exact St.fin (by assumption) (by omega)
theorem change_st {u : World} {v : Value} {L : List Sp} {c b : Nat} {C : List Value} {base : Nat} {w0 : World} {v0 : Value} (h : St u v L c b C base w0 v0) (hc : c ≤ 9000) (X : List Sp) (m : Nat) (hm : X.length = m) (m0 : 0 < m) (m9 : m ≤ 2) (t : TypeId) :
    Calls Tryz.prog 82 #[v, .slice (some ⟨u.heap.size, 0, none⟩) m m] (u.alloc (.cells (flat X).toArray t)) (Goes (changeS L X) (c + (3 + m)) b C base w0 v0) :=
  (h.alloc _).goes (change_is base v L X c _ (h.alloc _).own hc _ m (fun i a hi => by rw [cell_of_row _ _ i _ t (0, 0) (heap_alloc_new _ _)]; simpa using hi) (by simp) (fun e => by have := (h.own.row.lt _ e).2; omega) hm m0 m9)
theorem change1 {u : World} {v : Value} {L : List Sp} {c b : Nat} {C : List Value} {base : Nat} {w0 : World} {v0 : Value} (h : St u v L c b C base w0 v0) (hc : c ≤ 9000) (k1 a1 w1 n1 : Int) (t : TypeId) :
    Calls Tryz.prog 82 #[v, .slice (some ⟨u.heap.size, 0, none⟩) 1 1] (u.alloc (.cells #[.int .i64 k1, .int .i64 a1, .int .i64 w1, .int .i64 n1] t)) (Goes (changeS L [⟨k1, a1, w1, n1⟩]) (c + 4) b C base w0 v0) :=
  change_st h hc [⟨k1, a1, w1, n1⟩] 1 rfl (by decide) (by decide) t
theorem change2 {u : World} {v : Value} {L : List Sp} {c b : Nat} {C : List Value} {base : Nat} {w0 : World} {v0 : Value} (h : St u v L c b C base w0 v0) (hc : c ≤ 9000) (k1 a1 w1 n1 k2 a2 w2 n2 : Int) (t : TypeId) :
    Calls Tryz.prog 82 #[v, .slice (some ⟨u.heap.size, 0, none⟩) 2 2] (u.alloc (.cells #[.int .i64 k1, .int .i64 a1, .int .i64 w1, .int .i64 n1, .int .i64 k2, .int .i64 a2, .int .i64 w2, .int .i64 n2] t)) (Goes (changeS L [⟨k1, a1, w1, n1⟩, ⟨k2, a2, w2, n2⟩]) (c + 5) b C base w0 v0) :=
  change_st h hc [⟨k1, a1, w1, n1⟩, ⟨k2, a2, w2, n2⟩] 2 rfl (by decide) (by decide) t


end Go.Proofs.YtcfkpeemhleleaaGreatDoor
/- Blocks of many cells as functions; their zero value; rows that are told apart. No program is named here. -/
namespace Go.Proofs.YtcfkpeemhleleaaGreatDoor
open Go.RowKit

def updN (f : Nat → Int) (i : Nat) (v : Int) : Nat → Int := fun j => if j = i then v else f j
theorem updN_same (f : Nat → Int) (i : Nat) (v : Int) : updN f i v i = v := if_pos rfl
theorem updN_other (f : Nat → Int) (i j : Nat) (v : Int) (h : j ≠ i) : updN f i v j = f j := if_neg h
/-! Cells. -/
def upd (C : Nat → Value) (j : Nat) (v : Value) : Nat → Value := fun i => if i = j then v else C i
theorem upd_same (C : Nat → Value) (j : Nat) (v : Value) : upd C j v j = v := if_pos rfl
/-- A block of n cells, those of C. -/
def Cells (w : World) (b : Nat) (ty : TypeId) (n : Nat) (C : Nat → Value) : Prop := ∃ A : Array Value, w.heap[b]? = some (.cells A ty (0, 0)) ∧ A.size = n ∧ ∀ j, j < n → A[j]? = some (C j)
theorem Cells.lt {w : World} {b : Nat} {ty : TypeId} {n : Nat} {C : Nat → Value} (h : Cells w b ty n C) : b < w.heap.size := by
  obtain ⟨A, h, _⟩ := h
  exact (Array.getElem?_eq_some_iff.1 h).1
theorem Cells.cell {w : World} {b : Nat} {ty : TypeId} {n : Nat} {C : Nat → Value} (h : Cells w b ty n C) (j : Nat) (hj : j < n) : w.cell? ⟨b, j, none⟩ = some (C j) := by
  obtain ⟨A, h1, h2, h3⟩ := h
  rw [cell_of_row w b j _ _ (0, 0) h1, h3 j hj]
theorem Cells.frozen {w : World} {b : Nat} {ty : TypeId} {n : Nat} {C : Nat → Value} (h : Cells w b ty n C) (j : Nat) : w.frozen? ⟨b, j, none⟩ = false := by
  obtain ⟨A, h1, _⟩ := h
  exact frozen_of_row w b j _ _ h1
theorem Cells.block {w w' : World} {b : Nat} {ty : TypeId} {n : Nat} {C : Nat → Value} (h : Cells w b ty n C) (hb : w'.heap[b]? = w.heap[b]?) : Cells w' b ty n C := by
  obtain ⟨A, h1, h2⟩ := h
  exact ⟨A, hb.trans h1, h2⟩
theorem Cells.below {w w' : World} {b : Nat} {ty : TypeId} {n : Nat} {C : Nat → Value} (h : Cells w b ty n C) (hb : Below w.heap.size w w') : Cells w' b ty n C := h.block (hb.block b h.lt)
theorem Cells.set {w : World} {b : Nat} {ty : TypeId} {n : Nat} {C : Nat → Value} (h : Cells w b ty n C) (j : Nat) (v : Value) : Cells (w.setCell ⟨b, j, none⟩ v) b ty n (upd C j v) := by
  obtain ⟨A, h1, h2, h3⟩ := h
  refine ⟨A.setIfInBounds j v, heap_setCell_same w b j _ _ _ h1, by simpa using h2, fun i hi => ?_⟩
  unfold upd
  by_cases e : j = i
  · subst e
    rw [Array.getElem?_setIfInBounds_self_of_lt (by omega), if_pos rfl]
  · rw [Array.getElem?_setIfInBounds_ne e, if_neg (fun x => e x.symm), h3 i hi]
theorem Cells.congr {w : World} {b : Nat} {ty : TypeId} {n : Nat} {C D : Nat → Value} (h : Cells w b ty n C) (e : ∀ j, j < n → C j = D j) : Cells w b ty n D := by
  obtain ⟨A, h1, h2, h3⟩ := h
  exact ⟨A, h1, h2, fun j hj => by rw [h3 j hj, e j hj]⟩
theorem Cells.new (w : World) (A : Array Value) (ty : TypeId) (n : Nat) (C : Nat → Value) (h2 : A.size = n) (h3 : ∀ j, j < n → A[j]? = some (C j)) : Cells (w.alloc (.cells A ty)) w.heap.size ty n C :=
  ⟨A, heap_alloc_new w _, h2, h3⟩
def isU8z : Value → Bool
  | .int .u8 n => n == 0
  | _ => false
def isBz : Value → Bool
  | .bool b => !b
  | _ => false
def isU64z : Value → Bool
  | .int .u64 n => n == 0
  | _ => false
def isNil : Value → Bool
  | .slice none 0 0 => true
  | _ => false
def eatZ (c : Value → Bool) : Nat → List Value → Option (List Value)
  | 0, l => some l
  | _ + 1, [] => none
  | n + 1, v :: l => match c v with
    | true => eatZ c n l
    | false => none
theorem eatZ_spec (c : Value → Bool) : ∀ (n : Nat) (l r : List Value), eatZ c n l = some r → l.length = n + r.length ∧ r = l.drop n ∧ ∀ i, i < n → ∃ v, l[i]? = some v ∧ c v = true
  | 0, l, r, h => by
    simp only [eatZ, Option.some.injEq] at h
    subst h
    exact ⟨by simp, by simp, fun i hi => absurd hi (by omega)⟩
  | n + 1, [], r, h => by simp [eatZ] at h
  | n + 1, v :: l, r, h => by
    cases hc : c v with
    | false => simp [eatZ, hc] at h
    | true =>
      simp only [eatZ, hc] at h
      obtain ⟨h1, h2, h3⟩ := eatZ_spec c n l r h
      refine ⟨by simp only [List.length_cons]; omega, by simpa using h2, fun i hi => ?_⟩
      cases i with
      | zero => exact ⟨v, rfl, hc⟩
      | succ i => simpa using h3 i (by omega)
theorem of_u8z {v : Value} (h : isU8z v = true) : v = .int .u8 0 := by
  unfold isU8z at h
  split at h
  · rw [eq_of_beq h]
  · cases h
theorem of_bz {v : Value} (h : isBz v = true) : v = .bool false := by
  unfold isBz at h
  split at h
  · rename_i b; cases b
    · rfl
    · cases h
  · cases h
theorem of_u64z {v : Value} (h : isU64z v = true) : v = .int .u64 0 := by
  unfold isU64z at h
  split at h
  · rw [eq_of_beq h]
  · cases h
theorem of_nil {v : Value} (h : isNil v = true) : v = .slice none 0 0 := by
  unfold isNil at h
  split at h
  · rfl
  · cases h

def zeroL (o : Option TypeInfo) : Option (List Value) :=
  match o with
  | some i => match i.zero with
    | some (.agg A) => some A.toList
    | _ => none
  | none => none
def eatAll : List (Nat × (Value → Bool)) → List Value → Option (List Value)
  | [], l => some l
  | x :: r, l => match eatZ x.2 x.1 l with
    | some l' => eatAll r l'
    | none => none
def total : List (Nat × (Value → Bool)) → Nat
  | [] => 0
  | x :: r => x.1 + total r
def atZ : List (Nat × (Value → Bool)) → Nat → Value → Bool
  | [], _, _ => false
  | x :: r, i, v => if i < x.1 then x.2 v else atZ r (i - x.1) v
theorem eatAll_spec : ∀ (L : List (Nat × (Value → Bool))) (l : List Value), eatAll L l = some [] → l.length = total L ∧ ∀ i, i < total L → ∃ v, l[i]? = some v ∧ atZ L i v = true
  | [], l, h => by
    simp only [eatAll, Option.some.injEq] at h
    subst h
    exact ⟨rfl, fun i hi => absurd hi (by simp [total])⟩
  | x :: r, l, h => by
    unfold eatAll at h
    split at h
    · rename_i l' hl
      obtain ⟨h1, h2, h3⟩ := eatZ_spec _ _ _ _ hl
      obtain ⟨k1, k2⟩ := eatAll_spec r l' h
      refine ⟨by simp only [total]; omega, fun i hi => ?_⟩
      by_cases hx : i < x.1
      · obtain ⟨v, a1, a2⟩ := h3 i hx
        exact ⟨v, a1, by simp only [atZ, if_pos hx]; exact a2⟩
      · obtain ⟨v, a1, a2⟩ := k2 (i - x.1) (by simp only [total] at hi; omega)
        refine ⟨v, ?_, by simp only [atZ, if_neg hx]; exact a2⟩
        rw [h2, List.getElem?_drop] at a1
        rwa [show x.1 + (i - x.1) = i by omega] at a1
    · cases h
def isE : Option (List Value) → Bool
  | some [] => true
  | _ => false
theorem of_isE {o : Option (List Value)} (h : isE o = true) : o = some [] := by
  unfold isE at h
  split at h
  · rfl
  · cases h
def eatO (L : List (Nat × (Value → Bool))) (o : Option TypeInfo) : Bool :=
  match zeroL o with
  | some l => isE (eatAll L l)
  | none => false
theorem zero_of (o : Option TypeInfo) (L : List (Nat × (Value → Bool))) (h : eatO L o = true) : ∃ i A, o = some i ∧ i.zero = some (.agg A) ∧ A.size = total L ∧ ∀ j, j < total L → ∃ v, A[j]? = some v ∧ atZ L j v = true := by
  unfold eatO at h
  split at h
  · rename_i l hl
    unfold zeroL at hl
    split at hl
    · rename_i o' i
      split at hl
      · rename_i z A hz
        cases hl
        obtain ⟨h1, h2⟩ := eatAll_spec _ _ (of_isE h)
        exact ⟨i, A, rfl, hz, by simpa using h1, fun j hj => by simpa using h2 j hj⟩
      · cases hl
    · cases hl
  · cases h
theorem own_own {w : World} {base base' : Nat} {e ty : TypeId} {size size' : Nat} {v u : Value} {n m : Nat} {xs ys : List Value} (h : w.ownsRow base e size v n xs) (k : w.ownsRow base' ty size' u m ys) (hne : e ≠ ty) : v.ownBlock = none ∨ v.ownBlock ≠ u.ownBlock := by
  rcases h.2 with ⟨rfl, _⟩ | ⟨g, cap, cur, rfl, _, hg, _⟩
  · exact Or.inl rfl
  · right
    rcases k.2 with ⟨rfl, _⟩ | ⟨g', cap', cur', rfl, _, hg', _⟩
    · simp [Value.ownBlock]
    · intro e'
      simp only [Value.ownBlock, Option.some.injEq] at e'
      subst e'
      rw [hg] at hg'
      injection hg' with hg'
      injection hg' with _ h2 _
      exact hne h2
theorem own_keep {w w' : World} {base : Nat} {e : TypeId} {size : Nat} {v : Value} {n : Nat} {xs : List Value} (h : w.ownsRow base e size v n xs) (hb : ∀ k, v.ownBlock = some k → w'.heap[k]? = w.heap[k]?) : w'.ownsRow base e size v n xs := by
  refine ⟨h.1, ?_⟩
  rcases h.2 with hn | ⟨g, cap, cur, rfl, hb', hgg, rest⟩
  · exact .inl hn
  · exact .inr ⟨g, cap, cur, rfl, hb', (hb g rfl).trans hgg, rest⟩

end Go.Proofs.YtcfkpeemhleleaaGreatDoor
/- Plain facts on bytes that are turned, and on their bits, for layer 4: no program is named here. -/
namespace Go.Proofs.YtcfkpeemhleleaaGreatDoor
open Go.RowKit

/-- All bits one up, with i at the lowest place; one down, with i at the highest. -/
def upR (b : Int) (i : Bool) : Int := flagsOf (bitN b 1) (bitN b 2) (bitN b 3) (bitN b 4) (bitN b 5) (bitN b 6) (bitN b 7) i
def downR (b : Int) (i : Bool) : Int := flagsOf i (bitN b 0) (bitN b 1) (bitN b 2) (bitN b 3) (bitN b 4) (bitN b 5) (bitN b 6)
theorem up_is (b : Int) (i : Bool) (h0 : 0 ≤ b) (h1 : b ≤ 255) : withB (b * 2 % 256) 1 i = upR b i := by
  have h : ∀ n : Fin 256, ∀ i : Bool, withB ((n.val : Int) * 2 % 256) 1 i = upR (n.val : Int) i := by decide +kernel
  exact fin256 (P := fun b => withB (b * 2 % 256) 1 i = upR b i) (fun n => h n i) b h0 h1
theorem down_is (b : Int) (i : Bool) (h0 : 0 ≤ b) (h1 : b ≤ 255) : withB (b / 2) 128 i = downR b i := by
  have h : ∀ n : Fin 256, ∀ i : Bool, withB ((n.val : Int) / 2) 128 i = downR (n.val : Int) i := by decide +kernel
  exact fin256 (P := fun b => withB (b / 2) 128 i = downR b i) (fun n => h n i) b h0 h1
theorem upR_bd (b : Int) (i : Bool) : 0 ≤ upR b i ∧ upR b i ≤ 255 := flags_bd _ _ _ _ _ _ _ _
theorem downR_bd (b : Int) (i : Bool) : 0 ≤ downR b i ∧ downR b i ≤ 255 := flags_bd _ _ _ _ _ _ _ _

/-- The eight turns: the answer, and the bit that went out. -/
def turnV (k b : Int) (c : Bool) : Int × Bool :=
  if k = 0 then (upR b (bitN b 0), bitN b 0) else if k = 1 then (downR b (bitN b 7), bitN b 7) else
  if k = 2 then (upR b c, bitN b 0) else if k = 3 then (downR b c, bitN b 7) else
  if k = 4 then (upR b false, bitN b 0) else if k = 5 then (downR b (bitN b 0), bitN b 7) else
  if k = 6 then (upR b true, bitN b 0) else (downR b false, bitN b 7)
theorem turnV_0 (b : Int) (c : Bool) : turnV 0 b c = (upR b (bitN b 0), bitN b 0) := rfl
theorem turnV_1 (b : Int) (c : Bool) : turnV 1 b c = (downR b (bitN b 7), bitN b 7) := rfl
theorem turnV_2 (b : Int) (c : Bool) : turnV 2 b c = (upR b c, bitN b 0) := rfl
theorem turnV_3 (b : Int) (c : Bool) : turnV 3 b c = (downR b c, bitN b 7) := rfl
theorem turnV_4 (b : Int) (c : Bool) : turnV 4 b c = (upR b false, bitN b 0) := rfl
theorem turnV_5 (b : Int) (c : Bool) : turnV 5 b c = (downR b (bitN b 0), bitN b 7) := rfl
theorem turnV_6 (b : Int) (c : Bool) : turnV 6 b c = (upR b true, bitN b 0) := rfl
theorem turnV_7 (b : Int) (c : Bool) : turnV 7 b c = (downR b false, bitN b 7) := rfl
theorem turnV_bd (k b : Int) (c : Bool) : 0 ≤ (turnV k b c).1 ∧ (turnV k b c).1 ≤ 255 := by
  unfold turnV
  split
  · exact upR_bd _ _
  split
  · exact downR_bd _ _
  split
  · exact upR_bd _ _
  split
  · exact downR_bd _ _
  split
  · exact upR_bd _ _
  split
  · exact downR_bd _ _
  split
  · exact upR_bd _ _
  · exact downR_bd _ _
theorem eight_in (k : Int) (k0 : 0 ≤ k) (k7 : k ≤ 7) : k = 0 ∨ k = 1 ∨ k = 2 ∨ k = 3 ∨ k = 4 ∨ k = 5 ∨ k = 6 ∨ k = 7 := by omega

/-- The flags of an answer and a bit that went out; those of the accumulator's. -/
def turnF (r : Int) (o : Bool) : Int := flagsOf (bitN r 0) (r == 0) (bitN r 2) false (bitN r 4) (evenB r) false o
def accF (f r : Int) (o : Bool) : Int := flagsOf (bitN f 0) (bitN f 1) (bitN r 2) false (bitN r 4) (bitN f 5) false o
theorem turn_put (r : Int) (o : Bool) (h0 : 0 ≤ r) (h1 : r ≤ 255) : withB (ofPB r) 1 o = turnF r o := by
  rw [← (of_flags r h0 h1).2, with_C]; rfl
theorem kept_and (s z y h x p n c : Bool) : bits .and .u8 (flagsOf s z y h x p n c) 196 = flagsOf s z false false false p false false := by revert s z y h x p n c; decide +kernel
theorem told_and (s z y h x p n c : Bool) : bits .and .u8 (flagsOf s z y h x p n c) 41 = flagsOf false false y false x false false c := by revert s z y h x p n c; decide +kernel
theorem kept_told (s z y x p c : Bool) : bits .or .u8 (flagsOf s z false false false p false false) (flagsOf false false y false x false false c) = flagsOf s z y false x p false c := by revert s z y x p c; decide +kernel
theorem acc_put (f r : Int) (o : Bool) (f0 : 0 ≤ f) (f1 : f ≤ 255) : bits .or .u8 (bits .and .u8 f 196) (bits .and .u8 (turnF r o) 41) = accF f r o := by
  conv => lhs; rw [← flags_self f f0 f1]
  unfold turnF accF
  rw [kept_and, told_and, kept_told]

/-- What follows: turned up and down again; eight turns. -/
def doV4 (k b f : Int) : Int × Int := if 0 ≤ k ∧ k ≤ 7 then ((turnV k b (bitN f 7)).1, turnF (turnV k b (bitN f 7)).1 (turnV k b (bitN f 7)).2) else (b, f)
def accV4 (k b f : Int) : Int × Int := if 0 ≤ k ∧ k ≤ 3 then ((turnV k b (bitN f 7)).1, accF f (turnV k b (bitN f 7)).1 (turnV k b (bitN f 7)).2) else (b, f)
theorem doV4_in (k b f : Int) (k0 : 0 ≤ k) (k7 : k ≤ 7) : doV4 k b f = ((turnV k b (bitN f 7)).1, turnF (turnV k b (bitN f 7)).1 (turnV k b (bitN f 7)).2) := by unfold doV4; rw [if_pos ⟨k0, k7⟩]
theorem doV4_out (k b f : Int) (h : k < 0 ∨ 7 < k) : doV4 k b f = (b, f) := by unfold doV4; rw [if_neg (by omega)]
theorem accV4_in (k b f : Int) (k0 : 0 ≤ k) (k3 : k ≤ 3) : accV4 k b f = ((turnV k b (bitN f 7)).1, accF f (turnV k b (bitN f 7)).1 (turnV k b (bitN f 7)).2) := by unfold accV4; rw [if_pos ⟨k0, k3⟩]
theorem accV4_out (k b f : Int) (h : k < 0 ∨ 3 < k) : accV4 k b f = (b, f) := by unfold accV4; rw [if_neg (by omega)]

end Go.Proofs.YtcfkpeemhleleaaGreatDoor
/- Plain facts on the flags of what goes over memory and ports, for layer 5: no program is named here. -/
namespace Go.Proofs.YtcfkpeemhleleaaGreatDoor
open Go.RowKit

/-- F with Y and X as the bits 1 and 3 of a sum. -/
def sumF (f n : Int) : Int := withB (withB f 32 (bitN n 6)) 8 (bitN n 4)
def sumTo (f n : Int) : Nat → Int
  | 0 => f
  | 1 => withB f 32 (bitN n 6)
  | _ => sumF f n
theorem sum_flags (s z y h x p m c : Bool) (n : Int) : sumF (flagsOf s z y h x p m c) n = flagsOf s z (bitN n 6) h (bitN n 4) p m c := by
  unfold sumF; rw [with_Y, with_X]

def copyN (a v : Int) : Int := (a + v) % 256
def copyF (a v bc f : Int) : Int := flagsOf (bitN f 0) (bitN f 1) (bitN (copyN a v) 6) false (bitN (copyN a v) 4) (decide (0 < bc)) false (bitN f 7)
theorem and_kept (f : Int) (h0 : 0 ≤ f) (h1 : f ≤ 255) : bits .and .u8 f 193 = flagsOf (bitN f 0) (bitN f 1) false false false false false (bitN f 7) := by
  have h : ∀ n : Fin 256, bits .and .u8 (n.val : Int) 193 = flagsOf (bitN (n.val : Int) 0) (bitN (n.val : Int) 1) false false false false false (bitN (n.val : Int) 7) := by decide +kernel
  exact fin256 (P := fun f => bits .and .u8 f 193 = flagsOf (bitN f 0) (bitN f 1) false false false false false (bitN f 7)) h f h0 h1
theorem left_P (s z y h x p n c : Bool) (bc : Int) (b0 : 0 ≤ bc) : withB (flagsOf s z y h x p n c) 4 (!(bc == 0)) = flagsOf s z y h x (decide (0 < bc)) n c := by
  rw [with_P]
  congr 1
  by_cases e : bc = 0
  · subst e; decide
  · rw [show (bc == 0) = false by simpa using e, show decide (0 < bc) = true by simp; omega]; rfl

/-- What goes on. -/
def againF (f pc : Int) : Int := flagsOf (bitN f 0) (bitN f 1) (bitN (pc / 256) 2) (bitN f 3) (bitN (pc / 256) 4) (bitN f 5) (bitN f 6) (bitN f 7)
theorem again_put (f : Int) (y x : Bool) (h0 : 0 ≤ f) (h1 : f ≤ 255) : withB (withB f 32 y) 8 x = flagsOf (bitN f 0) (bitN f 1) y (bitN f 3) x (bitN f 5) (bitN f 6) (bitN f 7) := by
  conv => lhs; rw [← flags_self f h0 h1]
  rw [with_Y, with_X]
end Go.Proofs.YtcfkpeemhleleaaGreatDoor
/- The processor as plain facts: its state, the flat bus, and what each piece makes of them. -/
namespace Go.Proofs.YtcfkpeemhleleaaGreatDoor
open Go.RowKit

/-- The processor. -/
structure Cp where
  r : Rg
  nmi : Bool
  aim : Int
  kind : Int
  addr : Int
  k : Int
  len : Int
  asked : Bool
  held : Int
  steps : List Sp
  next : Int
  waits : Int
  ix : Int
  latch : Int
  dist : Int
  reck : Bool
def Cp.back (x : Cp) (v : Value) : List Value := [.bool x.nmi, .int .i64 x.aim, .int .i64 x.kind, .int .u16 x.addr, .int .i64 x.k, .int .i64 x.len, .bool x.asked, .int .i64 x.held, v, .int .i64 x.next, .int .i64 x.waits, .int .i64 x.ix, .int .u8 x.latch, .int .u8 x.dist, .bool x.reck]
def Cp.cells (x : Cp) (v : Value) : List Value := x.r.cells ++ x.back v
theorem Cp.len_cells (x : Cp) (v : Value) : (x.cells v).length = 45 := rfl

/-- Something that went over a port. -/
structure Pa where
  t : Int
  out : Bool
  port : Int
  v : Int
/-- The flat bus; its ports answer nothing of their own. -/
structure Fl where
  M : Nat → Int
  acts : List Pa
  t : Int
  line : Bool
def flatP : List Pa → List Value
  | [] => []
  | s :: l => .int .u64 s.t :: .bool s.out :: .int .u16 s.port :: .int .u8 s.v :: flatP l
theorem flatP_app : ∀ a b : List Pa, flatP (a ++ b) = flatP a ++ flatP b
  | [], b => rfl
  | s :: a, b => by simp only [flatP, List.cons_append, flatP_app a b]
def fC (y : Fl) (va : Value) (j : Nat) : Value :=
  if j < 65536 then .int .u8 (y.M j) else if j = 65536 then .slice none 0 0 else if j = 65537 then va else if j = 65538 then .int .u64 y.t else .bool y.line
theorem fC_M (y : Fl) (va : Value) (a : Nat) (h : a < 65536) : fC y va a = .int .u8 (y.M a) := by unfold fC; rw [if_pos h]
theorem fC_t (y : Fl) (va : Value) : fC y va 65538 = .int .u64 y.t := rfl
theorem fset_M (y : Fl) (va : Value) (a : Nat) (v : Int) (h : a < 65536) : upd (fC y va) a (.int .u8 v) = fC { y with M := updN y.M a v } va := by
  funext j
  by_cases e : j = a
  · subst e
    rw [upd_same, fC_M _ _ _ h]
    simp only [updN_same]
  · simp only [upd, if_neg e, fC, updN]
theorem fset_va (y : Fl) (va x : Value) : upd (fC y va) 65537 x = fC y x := by
  funext j
  by_cases e : j = 65537
  · subst e
    rfl
  · simp only [upd, if_neg e, fC]
theorem fset_t (y : Fl) (va : Value) (x : Int) : upd (fC y va) 65538 (.int .u64 x) = fC { y with t := x } va := by
  funext j
  by_cases e : j = 65538
  · subst e
    rfl
  · simp only [upd, if_neg e, fC]

/-- What the pieces make of the processor. -/
def w16 (n : Int) : Int := n % 65536
def w8 (n : Int) : Int := n % 256
def regS (x : Cp) (k : Int) : Int := if k = 6 then x.latch else byteV x.r k x.ix
def putRegS (x : Cp) (k v : Int) : Cp := if k = 6 then { x with latch := v } else { x with r := putV x.r k x.ix v }
def pairS (x : Cp) (k : Int) : Int := pairV x.r k x.ix
def putPairS (x : Cp) (k n : Int) : Cp := { x with r := putPairV x.r k x.ix n }
def addToS (x : Cp) (k n : Int) : Cp := putPairS x k (w16 (pairS x k + n))
def putFS (x : Cp) (f : Int) : Cp := { x with r := { x.r with f := f }, reck := true }
def putAFS (x : Cp) (a f : Int) : Cp := putFS { x with r := { x.r with a := a } } f
def startS (x : Cp) (what kind addr len : Int) : Cp := { x with aim := what, kind := kind, addr := addr, k := 0, len := len, asked := false, held := 0 }
def pcS (x : Cp) (n : Int) : Cp := { x with r := { x.r with pc := n } }
def wzS (x : Cp) (n : Int) : Cp := { x with r := { x.r with wz := n } }
def finishS (x : Cp) : Cp := { x with r := { x.r with q := if x.reck then x.r.f else 0 }, aim := 0, steps := [], next := 0 }
def reckonS (x : Cp) : Cp := wzS x (plusW (pairS x 2) x.dist)
def sumS' (x : Cp) (w f : Int) : Cp := putFS (putPairS x 2 w) f
def tickS (x : Cp) : Cp := { x with r := { x.r with r := tickV x.r.r } }

structure Cp.Ok (x : Cp) : Prop where
  r : x.r.Ok
  addr : B16 x.addr
  latch : B8 x.latch
  dist : B8 x.dist

/-- The blocks b and f, and those from base on, may have turned; all others are as they were. -/
structure Fr (b f base : Nat) (w w' : World) : Prop where
  os : w'.os = w.os
  tape : w'.tape = w.tape
  output : w'.output = w.output
  size : w.heap.size ≤ w'.heap.size
  block : ∀ k, k < base → k ≠ b → k ≠ f → w'.heap[k]? = w.heap[k]?
theorem Fr.refl (b f base : Nat) (w : World) : Fr b f base w w := ⟨rfl, rfl, rfl, Nat.le_refl _, fun _ _ _ _ => rfl⟩
theorem Fr.trans {b f base : Nat} {w1 w2 w3 : World} (h : Fr b f base w1 w2) (k : Fr b f base w2 w3) : Fr b f base w1 w3 :=
  ⟨k.os.trans h.os, k.tape.trans h.tape, k.output.trans h.output, Nat.le_trans h.size k.size, fun i hi hb hf => (k.block i hi hb hf).trans (h.block i hi hb hf)⟩
theorem Fr.of_below {b f base : Nat} {w w' : World} (h : Below w.heap.size w w') (hb : base ≤ w.heap.size) : Fr b f base w w' := ⟨h.os, h.tape, h.output, h.size, fun k hk _ _ => h.block k (by omega)⟩
theorem Fr.of_wrote {b f base : Nat} {w w' : World} (h : Wrote b w w') : Fr b f base w w' := ⟨h.os, h.tape, h.output, Nat.le_of_eq h.size.symm, fun k _ hk _ => h.block k hk⟩
theorem Fr.setB (b f base j : Nat) (w : World) (v : Value) : Fr b f base w (w.setCell ⟨b, j, none⟩ v) := ⟨rfl, rfl, rfl, by simp [World.setCell], fun _ _ h _ => Below.heap_setCell _ _ _ _ h⟩
theorem Fr.setF (b f base j : Nat) (w : World) (v : Value) : Fr b f base w (w.setCell ⟨f, j, none⟩ v) := ⟨rfl, rfl, rfl, by simp [World.setCell], fun _ _ _ h => Below.heap_setCell _ _ _ _ h⟩
theorem Fr.put {b f base c : Nat} {L : List Sp} {w w' : World} {v v' : Value} (h : Put w w' v v') (hO : Own w v L c base) (_ : base ≤ w.heap.size) : Fr b f base w w' :=
  ⟨h.os, h.tape, h.output, h.size, fun k hk _ _ => h.block k (by omega) (fun e => by have := (hO.row.lt k e).1; omega)⟩

/-- All older blocks but b are as they were. -/
structure Kb (b : Nat) (w w' : World) : Prop where
  size : w.heap.size ≤ w'.heap.size
  block : ∀ k, k < w.heap.size → k ≠ b → w'.heap[k]? = w.heap[k]?
theorem Kb.refl (b : Nat) (w : World) : Kb b w w := ⟨Nat.le_refl _, fun _ _ _ => rfl⟩
theorem Kb.trans {b : Nat} {w1 w2 w3 : World} (h : Kb b w1 w2) (k : Kb b w2 w3) : Kb b w1 w3 := ⟨Nat.le_trans h.size k.size, fun i hi hb => (k.block i (Nat.lt_of_lt_of_le hi h.size) hb).trans (h.block i hi hb)⟩
theorem Kb.of_below {b : Nat} {w w' : World} (h : Below w.heap.size w w') : Kb b w w' := ⟨h.size, fun k hk _ => h.block k hk⟩
theorem Kb.of_wrote {b : Nat} {w w' : World} (h : Wrote b w w') : Kb b w w' := ⟨Nat.le_of_eq h.size.symm, fun k _ hk => h.block k hk⟩
theorem Kb.setB (b j : Nat) (w : World) (v : Value) : Kb b w (w.setCell ⟨b, j, none⟩ v) := ⟨by simp [World.setCell], fun _ _ h => Below.heap_setCell _ _ _ _ h⟩
theorem Kb.drew (b : Nat) (w : World) : Kb b w w.drew := Kb.of_below (Below.refl _ _).drew
theorem Kb.drews {b : Nat} {w w' : World} (h : ∃ m, w' = w.drewN m) : Kb b w w' := by
  obtain ⟨m, rfl⟩ := h
  exact Kb.of_below (below_drewN w m)
theorem Kb.cell {b : Nat} {w w' : World} (h : Kb b w w') {p : Addr} (hp : p.block < w.heap.size) (hb : p.block ≠ b) : w'.cell? p = w.cell? p := World.cell?_of_block (h.block _ hp hb)
/-- The processor x lies in block b, the bus y in block f, their rows in blocks from base on; w0 is where things began. -/
structure Mc (w0 w : World) (b f base : Nat) (x : Cp) (v : Value) (y : Fl) (va : Value) : Prop where
  cpu : w.rangeAt b 0 (x.cells v)
  free : ∀ j, w.frozen? ⟨b, j, none⟩ = false
  fl : Cells w f 37 65540 (fC y va)
  lb : b < base
  lf : f < base
  ne : b ≠ f
  hb : base ≤ w.heap.size
  row : Own w v x.steps 60 base
  acts : w.ownsRow base 195 4 va y.acts.length (flatP y.acts)
  modes : Modes w
  mg : 0 < base ∧ 0 ≠ b ∧ 0 ≠ f
  fr : Fr b f base w0 w
def Mx (w0 w : World) (b f base : Nat) (x : Cp) (y : Fl) : Prop := ∃ v va, Mc w0 w b f base x v y va

variable {w0 w w' : World} {b f base : Nat} {x : Cp} {v : Value} {y : Fl} {va : Value}
theorem Mc.cell (h : Mc w0 w b f base x v y va) (j : Nat) (u : Value) (hj : (x.cells v)[j]? = some u) : w.cell? ⟨b, j, none⟩ = some u := by
  have := h.cpu j u hj
  rwa [Nat.zero_add] at this
theorem Mc.blk (h : Mc w0 w b f base x v y va) : b < w.heap.size := Nat.lt_of_lt_of_le h.lb h.hb
theorem Mc.fblk (h : Mc w0 w b f base x v y va) : f < w.heap.size := Nat.lt_of_lt_of_le h.lf h.hb
theorem Mc.reg (h : Mc w0 w b f base x v y va) : RegAt w b x.r := ⟨h.blk, fun j u hj => h.cpu j u (by
  have hl : j < x.r.cells.length := (List.getElem?_eq_some_iff.1 hj).1
  rw [Cp.cells, List.getElem?_append_left hl]; exact hj), h.free⟩
theorem Mc.mem (h : Mc w0 w b f base x v y va) (a : Nat) (ha : a < 65536) : w.cell? ⟨f, a, none⟩ = some (.int .u8 (y.M a)) := by
  rw [h.fl.cell a (by omega), fC_M _ _ _ ha]
theorem modes_block (h : Modes w) (hb : w'.heap[0]? = w.heap[0]?) (hs : w.heap.size ≤ w'.heap.size) : Modes w' := by
  obtain ⟨⟨h0, h1, h2, h3⟩, h4⟩ := h
  refine ⟨⟨?_, ?_, ?_, ?_⟩, Nat.lt_of_lt_of_le h4 hs⟩
  · rw [World.cell?_of_block (w := w) (a := ⟨0, 0, none⟩) hb]; exact h0
  · rw [World.cell?_of_block (w := w) (a := ⟨0, 1, none⟩) hb]; exact h1
  · rw [World.cell?_of_block (w := w) (a := ⟨0, 2, none⟩) hb]; exact h2
  · rw [World.cell?_of_block (w := w) (a := ⟨0, 3, none⟩) hb]; exact h3
/-- Blocks below w's size are as they were. -/
theorem Mc.below (h : Mc w0 w b f base x v y va) (hb : Below w.heap.size w w') : Mc w0 w' b f base x v y va := by
  refine ⟨fun j u hj => ?_, fun j => ?_, h.fl.below hb, h.lb, h.lf, h.ne, Nat.le_trans h.hb hb.size, h.row.below hb, own_keep h.acts (fun k hk => hb.block k (h.acts.lt k hk).2), ?_, h.mg, h.fr.trans (Fr.of_below hb h.hb)⟩
  · rw [hb.cell (p := ⟨b, 0 + j, none⟩) h.blk]; exact h.cpu j u hj
  · rw [World.frozen?_of_block (w := w) (a := ⟨b, j, none⟩) (hb.block b h.blk)]; exact h.free j
  · exact modes_block h.modes (hb.block _ (Nat.lt_of_lt_of_le h.mg.1 h.hb)) hb.size
theorem Mc.drewN (h : Mc w0 w b f base x v y va) (n : Nat) : Mc w0 (w.drewN n) b f base x v y va := h.below (below_drewN w n)
theorem Mc.drew (h : Mc w0 w b f base x v y va) : Mc w0 w.drew b f base x v y va := h.below (Below.refl _ _).drew
theorem Mc.alloc (h : Mc w0 w b f base x v y va) (o : Obj) : Mc w0 (w.alloc o) b f base x v y va := h.below (balloc w o)
/-- Block b alone has turned. -/
theorem Mc.turn (h : Mc w0 w b f base x v y va) (x' : Cp) (hs : x'.steps = x.steps) (hfr : Fr b f base w w') (hsz : w'.heap.size = w.heap.size) (hk : ∀ k, k ≠ b → w'.heap[k]? = w.heap[k]?)
    (hc : w'.rangeAt b 0 (x'.cells v)) (hf : ∀ j, w'.frozen? ⟨b, j, none⟩ = false) : Mc w0 w' b f base x' v y va := by
  refine ⟨hc, hf, h.fl.block (hk f h.ne.symm), h.lb, h.lf, h.ne, by rw [hsz]; exact h.hb, ⟨?_, by rw [hsz]; exact h.row.size, by rw [hs]; exact h.row.few⟩, own_keep h.acts (fun k hk' => hk k (by have := (h.acts.lt k hk').1; have := h.lb; omega)), ?_, h.mg, h.fr.trans hfr⟩
  · rw [hs]; exact own_keep h.row.row (fun k hk' => hk k (by have := (h.row.row.lt k hk').1; have := h.lb; omega))
  · exact modes_block h.modes (hk _ h.mg.2.1) (Nat.le_of_eq hsz.symm)
/-- One cell of the processor written. -/
theorem Mc.set (h : Mc w0 w b f base x v y va) (j : Nat) (u : Value) (x' : Cp) (hj : j < 45) (hs : x'.steps = x.steps) (hx : x'.cells v = (x.cells v).set j u) : Mc w0 (w.setCell ⟨b, j, none⟩ u) b f base x' v y va := by
  refine h.turn x' hs (Fr.setB _ _ _ _ _ _) (by simp [World.setCell]) (fun k hk => Below.heap_setCell _ _ _ _ hk) (fun i a hi => ?_) (fun i => by rw [World.frozen?_setCell]; exact h.free i)
  rw [Nat.zero_add]
  rw [hx] at hi
  by_cases e : j = i
  · subst e
    have hl : j < (x.cells v).length := hj
    rw [List.getElem?_set_self hl] at hi
    injection hi with hi
    subst hi
    obtain ⟨v', hv'⟩ : ∃ v', w.cell? ⟨b, j, none⟩ = some v' := ⟨_, h.cell j _ (List.getElem?_eq_getElem hl)⟩
    exact World.cell?_setCell_same _ _ _ hv'
  · rw [List.getElem?_set_ne e] at hi
    rw [World.cell?_setCell_other _ _ _ _ (by intro hh; injection hh with _ h2; exact e h2)]
    exact h.cell i a hi
/-- The row's value, and the steps that lie there, have turned: c.steps is another slice. -/
theorem Mc.row_set (h : Mc w0 w b f base x v y va) (v' : Value) (x' : Cp) (hO : Own w v' x'.steps 60 base) (hx : x'.cells v' = (x.cells v).set 38 v') : Mc w0 (w.setCell ⟨b, 38, none⟩ v') b f base x' v' y va := by
  have h1 : ∀ k, k ≠ b → (w.setCell ⟨b, 38, none⟩ v').heap[k]? = w.heap[k]? := fun k hk => Below.heap_setCell _ _ _ _ hk
  have hsz : (w.setCell ⟨b, 38, none⟩ v').heap.size = w.heap.size := by simp [World.setCell]
  refine ⟨fun i a hi => ?_, fun i => by rw [World.frozen?_setCell]; exact h.free i, h.fl.block (h1 f h.ne.symm), h.lb, h.lf, h.ne, by rw [hsz]; exact h.hb, ⟨own_keep hO.row (fun k hk => h1 k (by have := (hO.row.lt k hk).1; have := h.lb; omega)), by rw [hsz]; exact hO.size, hO.few⟩,
    own_keep h.acts (fun k hk' => h1 k (by have := (h.acts.lt k hk').1; have := h.lb; omega)), modes_block h.modes (h1 _ h.mg.2.1) (Nat.le_of_eq hsz.symm), h.mg, h.fr.trans (Fr.setB _ _ _ _ _ _)⟩
  rw [Nat.zero_add]
  rw [hx] at hi
  by_cases e : 38 = i
  · subst e
    have hl : 38 < (x.cells v).length := by rw [Cp.len_cells]; decide
    rw [List.getElem?_set_self hl] at hi
    injection hi with hi
    subst hi
    obtain ⟨u', hu'⟩ : ∃ u', w.cell? ⟨b, 38, none⟩ = some u' := ⟨_, h.cell 38 _ (List.getElem?_eq_getElem hl)⟩
    exact World.cell?_setCell_same _ _ _ hu'
  · rw [List.getElem?_set_ne e] at hi
    rw [World.cell?_setCell_other _ _ _ _ (by intro hh; injection hh with _ h2; exact e h2)]
    exact h.cell i a hi
/-- Registers written by a call of layer 6. -/
theorem Mc.puts (h : Mc w0 w b f base x v y va) (z : Rg) (hw : Wrote b w w') (hr : RegAt w' b z) : Mc w0 w' b f base { x with r := z } v y va := by
  refine h.turn { x with r := z } rfl (Fr.of_wrote hw) hw.size hw.block (fun j u hj => ?_) hr.free
  rw [Nat.zero_add]
  change (z.cells ++ x.back v)[j]? = some u at hj
  by_cases hl : j < 30
  · rw [List.getElem?_append_left (by exact hl)] at hj
    exact hr.cell j u hj
  · rw [hw.far j (by omega)]
    refine h.cell j u ?_
    rw [List.getElem?_append_right (by rw [Rg.len]; omega)] at hj
    rw [Cp.cells, List.getElem?_append_right (by rw [Rg.len]; omega)]
    exact hj
/-- The bus's block alone has turned. -/
theorem Mc.fset (h : Mc w0 w b f base x v y va) (j : Nat) (u : Value) (y' : Fl) (hC : upd (fC y va) j u = fC y' va) (ha : y'.acts = y.acts) : Mc w0 (w.setCell ⟨f, j, none⟩ u) b f base x v y' va := by
  have h1 : ∀ k, k ≠ f → (w.setCell ⟨f, j, none⟩ u).heap[k]? = w.heap[k]? := fun k hk => Below.heap_setCell _ _ _ _ hk
  have hsz : (w.setCell ⟨f, j, none⟩ u).heap.size = w.heap.size := by simp [World.setCell]
  refine ⟨fun i a hi => ?_, fun i => ?_, by rw [← hC]; exact h.fl.set j u, h.lb, h.lf, h.ne, by rw [hsz]; exact h.hb, ⟨own_keep h.row.row (fun k hk => h1 k (by have := (h.row.row.lt k hk).1; have := h.lf; omega)), by rw [hsz]; exact h.row.size, h.row.few⟩, ?_, modes_block h.modes (h1 _ h.mg.2.2) (Nat.le_of_eq hsz.symm), h.mg, h.fr.trans (Fr.setF _ _ _ _ _ _)⟩
  · rw [World.cell?_of_block (w := w) (a := ⟨b, 0 + i, none⟩) (h1 b h.ne)]; exact h.cpu i a hi
  · rw [World.frozen?_of_block (w := w) (a := ⟨b, i, none⟩) (h1 b h.ne)]; exact h.free i
  · rw [ha]; exact own_keep h.acts (fun k hk => h1 k (by have := (h.acts.lt k hk).1; have := h.lf; omega))
theorem Mc.mx (h : Mc w0 w b f base x v y va) : Mx w0 w b f base x y := ⟨v, va, h⟩

end Go.Proofs.YtcfkpeemhleleaaGreatDoor
