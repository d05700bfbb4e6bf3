/- op's reading, byte by byte: next, number: their contracts. -/
import Derived.Test.YtkjibnnoeceaeaaDoorOpArgs
import Derived.Test.YtkjibnnoeceaeaaDoorQuiet
import Derived.Laws.OwnMore
namespace Go.Proofs.YtkjibnnoeceaeaaDoor
open Go.RowKit

/-- Behind a call that writes into block S and into new blocks alone. -/
structure Aside (S : Nat) (w w' : World) : Prop where
  os : w'.os = w.os
  tape : w'.tape = w.tape
  output : w'.output = w.output
  size : w.heap.size ≤ w'.heap.size
  block : ∀ k, k < w.heap.size → k ≠ S → w'.heap[k]? = w.heap[k]?
theorem Aside.refl (S : Nat) (w : World) : Aside S w w := ⟨rfl, rfl, rfl, Nat.le_refl _, fun _ _ _ => rfl⟩
theorem Aside.trans {S : Nat} {w w1 w2 : World} (h : Aside S w w1) (k : Aside S w1 w2) : Aside S w w2 :=
  ⟨k.os.trans h.os, k.tape.trans h.tape, k.output.trans h.output, Nat.le_trans h.size k.size, fun i hi hn => (k.block i (Nat.lt_of_lt_of_le hi h.size) hn).trans (h.block i hi hn)⟩
theorem Aside.of_below {S : Nat} {w w' : World} (h : Below w.heap.size w w') : Aside S w w' := ⟨h.os, h.tape, h.output, h.size, fun i hi _ => h.block i hi⟩
theorem Aside.setCell (S j : Nat) (w : World) (v : Value) : Aside S w (w.setCell ⟨S, j, none⟩ v) := ⟨rfl, rfl, rfl, by simp [World.setCell], fun _ _ h => Below.heap_setCell _ _ _ _ h⟩
theorem Aside.alloc (S : Nat) (w : World) (o : Obj) : Aside S w (w.alloc o) := .of_below ((Below.refl _ _).alloc (Nat.le_refl _) _)
theorem Aside.below {S B : Nat} {w w' : World} (h : Aside S w w') (h1 : B ≤ S) (h2 : B ≤ w.heap.size) : Below B w w' := ⟨h.os, h.tape, h.output, h.size, fun i hi => h.block i (by omega) (by omega)⟩

/-- The slice v holds the bytes l, in blocks below B. -/
def BytesAt (w : World) (B : Nat) (v : Value) (l : List Nat) : Prop :=
  ∃ A cap, v = .slice A l.length cap ∧ l.length ≤ cap ∧ cap ≤ maxLen ∧ (∀ j, l.getD j 0 < 256) ∧ (0 < l.length → ∃ b off, A = some ⟨b, off, none⟩ ∧ b < B ∧ ∀ j, j < l.length → w.cell? ⟨b, off + j, none⟩ = some (.int .u8 ((l.getD j 0 : Nat) : Int)))
theorem BytesAt.lt {w : World} {B : Nat} {v : Value} {l : List Nat} (h : BytesAt w B v l) (j : Nat) : l.getD j 0 < 256 := by
  obtain ⟨_, _, _, _, _, h, _⟩ := h; exact h j
theorem BytesAt.keep {w w' : World} {B : Nat} {v : Value} {l : List Nat} (h : BytesAt w B v l) (hb : ∀ k, k < B → w'.heap[k]? = w.heap[k]?) : BytesAt w' B v l := by
  obtain ⟨A, cap, e1, e2, e3, e4, e5⟩ := h
  refine ⟨A, cap, e1, e2, e3, e4, fun hl => ?_⟩
  obtain ⟨b, off, h1, h2, h3⟩ := e5 hl
  exact ⟨b, off, h1, h2, fun j hj => (World.cell?_of_block (a := ⟨b, off + j, none⟩) (hb b h2)).trans (h3 j hj)⟩
theorem BytesAt.more {w : World} {B B' : Nat} {v : Value} {l : List Nat} (h : BytesAt w B v l) (hb : B ≤ B') : BytesAt w B' v l := by
  obtain ⟨A, cap, e1, e2, e3, e4, e5⟩ := h
  refine ⟨A, cap, e1, e2, e3, e4, fun hl => ?_⟩
  obtain ⟨b, off, h1, h2, h3⟩ := e5 hl
  exact ⟨b, off, h1, by omega, h3⟩

/-- The source in block S: k bytes of v were given. -/
structure Src (w : World) (S : Nat) (v : Value) (l : List Nat) (k : Int) : Prop where
  row : w.heap[S]? = some (.cells #[v, .int .i64 k] 43 (0, 0))
  bytes : BytesAt w S v l
theorem Src.lt {w : World} {S : Nat} {v : Value} {l : List Nat} {k : Int} (h : Src w S v l k) : S < w.heap.size := (Array.getElem?_eq_some_iff.1 h.row).1
theorem Src.c0 {w : World} {S : Nat} {v : Value} {l : List Nat} {k : Int} (h : Src w S v l k) : w.cell? ⟨S, 0, none⟩ = some v := cell_of_row _ _ 0 _ _ (0, 0) h.row
theorem Src.c1 {w : World} {S : Nat} {v : Value} {l : List Nat} {k : Int} (h : Src w S v l k) : w.cell? ⟨S, 1, none⟩ = some (.int .i64 k) := cell_of_row _ _ 1 _ _ (0, 0) h.row
theorem Src.f1 {w : World} {S : Nat} {v : Value} {l : List Nat} {k : Int} (h : Src w S v l k) (j : Nat) : w.frozen? ⟨S, j, none⟩ = false := frozen_of_row w S j _ _ h.row
theorem Src.put {w : World} {S : Nat} {v : Value} {l : List Nat} {k : Int} (h : Src w S v l k) (m : Int) : Src (w.setCell ⟨S, 1, none⟩ (.int .i64 m)) S v l m :=
  ⟨heap_setCell_same w S 1 _ _ _ h.row, h.bytes.keep fun k hk => Below.heap_setCell _ _ _ _ (by show k ≠ S; omega)⟩
/-- Behind a call that leaves what is up to S alone. -/
theorem Src.later {w w' : World} {S : Nat} {v : Value} {l : List Nat} {k : Int} (h : Src w S v l k) (hb : Below w.heap.size w w') : Src w' S v l k :=
  ⟨(hb.block S h.lt).trans h.row, h.bytes.keep fun i hi => hb.block i (Nat.lt_trans hi h.lt)⟩
theorem Src.aside {w w' : World} {S T : Nat} {v : Value} {l : List Nat} {k : Int} (h : Src w S v l k) (hb : Aside T w w') (hn : S < T) : Src w' S v l k :=
  ⟨(hb.block S h.lt (by omega)).trans h.row, h.bytes.keep fun i hi => hb.block i (Nat.lt_trans hi h.lt) (by omega)⟩

def gN (l : List Nat) (k : Nat) : Nat := l.getD k 0
theorem gN_end (l : List Nat) (k : Nat) (h : l.length ≤ k) : gN l k = 0 := by unfold gN; rw [List.getD_eq_getElem?_getD, List.getElem?_eq_none h]; rfl

set_option maxHeartbeats 800000 in
theorem next_any (S : Nat) (v : Value) (l : List Nat) (k : Nat) (w : World) (h : Src w S v l k) (hk : k ≤ 100) : Calls Tryd.prog 36 #[.pointer (some ⟨S, 0, none⟩)] w fun e w' => e = .returned (.int .u8 ((gN l k : Nat) : Int)) ∧ Src w' S v l ((k : Int) + 1) ∧ Aside S w w' := by
  obtain ⟨A, cap, rfl, hc, hm, hb, hcell⟩ := h.bytes
  have P := Lib.hid (show Src (w.setCell ⟨S, 1, none⟩ (.int .i64 ((k : Int) + 1))) S (.slice A l.length cap) l ((k : Int) + 1) from h.put _)
  have Q := Lib.hid (Aside.setCell S 1 w (.int .i64 ((k : Int) + 1)))
  have c0 := h.c0
  have c1 := h.c1
  have f1 := h.f1 1
  have b0 := P.out.c0
  unfold maxLen at hm
  by_cases hl : l.length ≤ k
  · have hz := Lib.hid (gN_end l k hl)
    clear hcell hb h
    go_enter Tryd.func36, Tryd.ntmps36
    go_wp2_with fail
    go_ret
    exact ⟨by rw [hz.out]; rfl, P.out, Q.out⟩
  · obtain ⟨b, off, rfl, hbS, hcl⟩ := hcell (by omega)
    have ck : (w.setCell ⟨S, 1, none⟩ (.int .i64 ((k : Int) + 1))).cell? ⟨b, off + k, none⟩ = some (.int .u8 ((gN l k : Nat) : Int)) := by
      have hne : b ≠ S := by omega
      refine Eq.trans ?_ (hcl k (by omega))
      exact World.cell?_of_block (a := ⟨b, off + k, none⟩) (Below.heap_setCell _ _ _ _ hne)
    clear hcl hcell hb h
    go_enter Tryd.func36, Tryd.ntmps36
    go_wp2_with fail
    go_ret
    exact ⟨rfl, P.out, Q.out⟩

/-- The number of so many bytes from place k on. -/
def numN (l : List Nat) (k n : Nat) : Nat := if n = 1 then gN l k else if n = 2 then gN l (k + 1) * 256 + gN l k else 0
theorem Src.gN_lt {w : World} {S : Nat} {v : Value} {l : List Nat} {k : Int} (h : Src w S v l k) (j : Nat) : gN l j < 256 := h.bytes.lt j
theorem Src.num_lt {w : World} {S : Nat} {v : Value} {l : List Nat} {k : Int} (h : Src w S v l k) (j n : Nat) : numN l j n < 65536 := by
  have := h.gN_lt j
  have := h.gN_lt (j + 1)
  unfold numN
  split
  · omega
  split
  · omega
  · omega
theorem next_is (S : Nat) (v : Value) (l : List Nat) (k : Nat) (m : Int) (w : World) (h : Src w S v l m) (hm : m = k) (hk : k ≤ 100) : Calls Tryd.prog 36 #[.pointer (some ⟨S, 0, none⟩)] w fun e w' => e = .returned (.int .u8 ((gN l k : Nat) : Int)) ∧ Src w' S v l (m + 1) ∧ Aside S w w' := by
  subst hm; exact next_any S v l k w h hk

set_option maxHeartbeats 800000 in
theorem number_any (S : Nat) (v : Value) (l : List Nat) (k n : Nat) (w : World) (h : Src w S v l k) (hk : k ≤ 50) (hn : n ≤ 2) : Calls Tryd.prog 54 #[.pointer (some ⟨S, 0, none⟩), .int .i64 n] w fun e w' => e = .returned (.int .u16 ((numN l k n : Nat) : Int)) ∧ Src w' S v l ((k + n : Nat) : Int) ∧ Aside S w w' := by
  have g0 := h.gN_lt k
  have g1 := h.gN_lt (k + 1)
  have H := Lib.hid h
  clear h
  have e : n = 0 ∨ n = 1 ∨ n = 2 := by omega
  rcases e with rfl | rfl | rfl
  · go_enter Tryd.func54, Tryd.ntmps54
    go_wp2_with fail
    go_ret
    exact ⟨rfl, H.out, Aside.refl _ _⟩
  · have wr : IntKind.u16.wrap ((gN l k : Nat) : Int) = ((gN l k : Nat) : Int) := by simp [IntKind.wrap, IntKind.bits, IntKind.signed]; omega
    go_enter Tryd.func54, Tryd.ntmps54
    go_wp2_with fail
    refine (next_is S v l k _ _ H.out rfl (by omega)).mono ?_
    rintro e w1 ⟨rfl, hs, ha⟩
    have HS := Lib.hid hs
    have HA := Lib.hid ha
    clear hs ha
    go_wp2_with fail
    go_ret
    exact ⟨rfl, HS.out, HA.out⟩
  · have HZ := Lib.hid (show ((gN l (k + 1) : Nat) : Int) * 256 + ((gN l k : Nat) : Int) = ((numN l k 2 : Nat) : Int) by unfold numN; simp)
    go_enter Tryd.func54, Tryd.ntmps54
    go_wp2_with fail
    refine (next_is S v l k _ _ H.out rfl (by omega)).mono ?_
    rintro e w1 ⟨rfl, hs, ha⟩
    have HS := Lib.hid hs
    have HA := Lib.hid ha
    clear hs ha
    go_wp2_with fail
    refine (next_is S v l (k + 1) _ _ HS.out (by omega) (by omega)).mono ?_
    rintro e w2 ⟨rfl, hs, ha⟩
    have HT := Lib.hid hs
    have HB := Lib.hid (HA.out.trans ha)
    clear hs ha
    go_wp2_with fail
    refine (ofO _ _ _ (by omega) (by omega) (by omega) (by omega)).mono ?_
    rintro e w' ⟨rfl, rfl⟩
    go_wp2_with fail
    go_ret
    exact ⟨by rw [← HZ.out]; rfl, by have := HT.out; rwa [show ((k : Int) + 1 + 1) = ((k + 2 : Nat) : Int) by omega] at this, HB.out⟩

end Go.Proofs.YtkjibnnoeceaeaaDoor
