/- The document's Read: its contract. -/
import Derived.Test.YtkjibnnoeceaeaaDoorOpPlainL
import Derived.Test.YtkjibnnoeceaeaaDoorOpRead3
import Derived.RegionTactic
import Derived.ChangeAlike
namespace Go.Proofs.YtkjibnnoeceaeaaDoor
open Go.RowKit

theorem bytes_open {w : World} {v : Value} {l : List Nat} (h : BytesAt w w.heap.size v l) (hl : 0 < l.length) : ∃ b off cap, v = .slice (some ⟨b, off, none⟩) l.length cap ∧ l.length ≤ cap ∧ cap ≤ maxLen ∧ b < w.heap.size ∧ ∀ u, Below w.heap.size w u → ∀ j, j < l.length → u.cell? ⟨b, off + j, none⟩ = some (.int .u8 ((gN l j : Nat) : Int)) := by
  obtain ⟨A, cap, rfl, hc, hm, _, hx⟩ := h
  obtain ⟨b, off, rfl, hb, hcell⟩ := hx hl
  exact ⟨b, off, cap, rfl, hc, hm, hb, fun u hu j hj => (hu.cell (p := ⟨b, off + j, none⟩) hb).trans (hcell j hj)⟩
/-- Block b is the document's instruction x. -/
def OwnR (u : World) (b : Nat) (x : In) : Prop := u.heap[b]? = some (.cells x.arr 29 (0, 0))
theorem OwnR.lt {u : World} {b : Nat} {x : In} (h : OwnR u b x) : b < u.heap.size := (Array.getElem?_eq_some_iff.1 h).1
theorem OwnR.cell {u : World} {b : Nat} {x : In} (h : OwnR u b x) (j : Nat) (v : Value) (hv : x.arr[j]? = some v) : u.cell? ⟨b, j, none⟩ = some v := (cell_of_row _ _ j _ _ (0, 0) h).trans hv
theorem OwnR.free {u : World} {b : Nat} {x : In} (h : OwnR u b x) (j : Nat) : u.frozen? ⟨b, j, none⟩ = false := frozen_of_row u b j _ _ h
theorem OwnR.later {u u' : World} {b : Nat} {x : In} (h : OwnR u b x) (hb : Below u.heap.size u u') : OwnR u' b x := (hb.block b h.lt).trans h
theorem OwnR.other {u : World} {b c j : Nat} {x : In} (h : OwnR u b x) (hn : b ≠ c) (v : Value) : OwnR (u.setCell ⟨c, j, none⟩ v) b x := (Below.heap_setCell _ _ _ _ (show b ≠ c from hn)).trans h
theorem OwnR.set {u : World} {b : Nat} {x y : In} (h : OwnR u b x) (j : Nat) (v : Value) (hy : x.arr.setIfInBounds j v = y.arr) : OwnR (u.setCell ⟨b, j, none⟩ v) b y := by
  have := heap_setCell_same u b j x.arr _ v h
  rw [hy] at this
  exact this
theorem OwnR.new (w : World) (x : In) : OwnR (w.alloc (.cells x.arr 29)) w.heap.size x := heap_alloc_new _ _
/-- A result's block and a local instruction's, one behind the other. -/
structure RpAt (w : World) (x : In) (u : World) : Prop where
  res : OwnR u w.heap.size zeroI
  ins : OwnR u (w.heap.size + 1) x
  bel : Below w.heap.size w u
theorem RpAt.later {w : World} {x : In} {u u' : World} (h : RpAt w x u) (hb : Below u.heap.size u u') : RpAt w x u' := ⟨h.res.later hb, h.ins.later hb, below_step h.bel hb⟩
theorem RpAt.put {w : World} {x y : In} {u : World} (h : RpAt w x u) (j : Nat) (z : Value) (hy : x.arr.setIfInBounds j z = y.arr) : RpAt w y (u.setCell ⟨w.heap.size + 1, j, none⟩ z) :=
  ⟨h.res.other (by omega) _, h.ins.set j z hy, h.bel.setCell (Nat.le_succ _) _⟩
theorem RpAt.drew {w : World} {x : In} {u : World} (h : RpAt w x u) : RpAt w x u.drew := h.later (Below.refl _ _).drew
theorem RpAt.made (w : World) (x : In) : RpAt w x ((w.alloc (.cells zeroI.arr 29)).alloc (.cells x.arr 29)) := by
  have hz : (w.alloc (.cells zeroI.arr 29)).heap.size = w.heap.size + 1 := by simp
  have h2 := balloc (w.alloc (.cells zeroI.arr 29)) (.cells x.arr 29)
  have h3 := OwnR.new (w.alloc (.cells zeroI.arr 29)) x
  rw [hz] at h3
  exact ⟨(OwnR.new w zeroI).later h2, h3, below_step (balloc w _) h2⟩

set_option maxRecDepth 100000 in
set_option maxHeartbeats 1600000 in
theorem rread0 (v : Value) (l : List Nat) (w : World) (h : BytesAt w w.heap.size v l) (hl : l.length = 0) : Calls Tryd.prog 10 #[v] w fun e w' => e = .returned (.tuple #[.agg zeroI.arr, .bool false]) ∧ Below w.heap.size w w' := by
  obtain ⟨A, cap, rfl, hc, hm, _, _⟩ := h
  rw [hl]
  clear hl hc
  unfold In.arr zeroI
  go_enter Tryd.func10, Tryd.ntmps10
  go_wp2_with fail
  exact bodyPost_ret (v := .tuple #[.agg #[.int .i64 0, .int .i64 0, .int .u8 0, .int .u8 0, .int .u16 0, .int .i64 0], .bool false]) (by simp [results, Tryd.results10, go_sem]) rfl ⟨rfl, by first | exact balloc w _ | exact (balloc w _).drew⟩
set_option maxRecDepth 100000 in
set_option maxHeartbeats 1600000 in
theorem rread203s (v : Value) (l : List Nat) (w : World) (h : BytesAt w w.heap.size v l) (q203 : (((gN l 0 : Nat) : Int) == 203) = true) (n1 : 1 ≤ l.length) (n2 : l.length < 2) : Calls Tryd.prog 10 #[v] w fun e w' => e = .returned (.tuple #[.agg zeroI.arr, .bool false]) ∧ Below w.heap.size w w' := by
  obtain ⟨b, off, cap, rfl, hc, hm, hb, hcell⟩ := bytes_open h (by omega)
  unfold maxLen at hm
  have c0 : (w.alloc (.cells #[.int .i64 0, .int .i64 0, .int .u8 0, .int .u8 0, .int .u16 0, .int .i64 0] 29)).cell? ⟨b, off, none⟩ = some (.int .u8 ((gN l 0 : Nat) : Int)) := hcell (w.alloc (.cells #[.int .i64 0, .int .i64 0, .int .u8 0, .int .u8 0, .int .u16 0, .int .i64 0] 29)) (balloc w _) 0 (by omega)
  clear hcell h
  unfold In.arr zeroI
  go_enter Tryd.func10, Tryd.ntmps10
  go_wp2_with fail
  exact bodyPost_ret (v := .tuple #[.agg #[.int .i64 0, .int .i64 0, .int .u8 0, .int .u8 0, .int .u16 0, .int .i64 0], .bool false]) (by simp [results, Tryd.results10, go_sem]) rfl ⟨rfl, by first | exact balloc w _ | exact (balloc w _).drew⟩
set_option maxRecDepth 100000 in
set_option maxHeartbeats 1600000 in
theorem rread203 (v : Value) (l : List Nat) (w : World) (h : BytesAt w w.heap.size v l) (q203 : (((gN l 0 : Nat) : Int) == 203) = true) (n1 : 2 ≤ l.length) : Calls Tryd.prog 10 #[v] w fun e w' => e = .returned (.tuple #[.agg (In.mk 1 0 (gN l 1) 0 0 2).arr, .bool true]) ∧ Below w.heap.size w w' := by
  obtain ⟨b, off, cap, rfl, hc, hm, hb, hcell⟩ := bytes_open h (by omega)
  unfold maxLen at hm
  have c0 : (w.alloc (.cells #[.int .i64 0, .int .i64 0, .int .u8 0, .int .u8 0, .int .u16 0, .int .i64 0] 29)).cell? ⟨b, off, none⟩ = some (.int .u8 ((gN l 0 : Nat) : Int)) := hcell (w.alloc (.cells #[.int .i64 0, .int .i64 0, .int .u8 0, .int .u8 0, .int .u16 0, .int .i64 0] 29)) (balloc w _) 0 (by omega)
  have c1 : (w.alloc (.cells #[.int .i64 0, .int .i64 0, .int .u8 0, .int .u8 0, .int .u16 0, .int .i64 0] 29)).cell? ⟨b, off + 1, none⟩ = some (.int .u8 ((gN l 1 : Nat) : Int)) := hcell (w.alloc (.cells #[.int .i64 0, .int .i64 0, .int .u8 0, .int .u8 0, .int .u16 0, .int .i64 0] 29)) (balloc w _) 1 (by omega)
  clear hcell h
  unfold In.arr
  go_enter Tryd.func10, Tryd.ntmps10
  go_wp2_with fail
  exact bodyPost_ret (v := .tuple #[.agg #[.int .i64 1, .int .i64 0, .int .u8 ((gN l 1 : Nat) : Int), .int .u8 0, .int .u16 0, .int .i64 2], .bool true]) (by simp [results, Tryd.results10, go_sem]) rfl ⟨rfl, by first | exact balloc w _ | exact (balloc w _).drew⟩
set_option maxRecDepth 100000 in
set_option maxHeartbeats 1600000 in
theorem rread237s (v : Value) (l : List Nat) (w : World) (h : BytesAt w w.heap.size v l) (q203 : (((gN l 0 : Nat) : Int) == 203) = false) (q237 : (((gN l 0 : Nat) : Int) == 237) = true) (n1 : 1 ≤ l.length) (n2 : l.length < 2) : Calls Tryd.prog 10 #[v] w fun e w' => e = .returned (.tuple #[.agg zeroI.arr, .bool false]) ∧ Below w.heap.size w w' := by
  obtain ⟨b, off, cap, rfl, hc, hm, hb, hcell⟩ := bytes_open h (by omega)
  unfold maxLen at hm
  have c0 : (w.alloc (.cells #[.int .i64 0, .int .i64 0, .int .u8 0, .int .u8 0, .int .u16 0, .int .i64 0] 29)).cell? ⟨b, off, none⟩ = some (.int .u8 ((gN l 0 : Nat) : Int)) := hcell (w.alloc (.cells #[.int .i64 0, .int .i64 0, .int .u8 0, .int .u8 0, .int .u16 0, .int .i64 0] 29)) (balloc w _) 0 (by omega)
  clear hcell h
  unfold In.arr zeroI
  go_enter Tryd.func10, Tryd.ntmps10
  go_wp2_with fail
  exact bodyPost_ret (v := .tuple #[.agg #[.int .i64 0, .int .i64 0, .int .u8 0, .int .u8 0, .int .u16 0, .int .i64 0], .bool false]) (by simp [results, Tryd.results10, go_sem]) rfl ⟨rfl, by first | exact balloc w _ | exact (balloc w _).drew⟩
set_option maxRecDepth 100000 in
set_option maxHeartbeats 1600000 in
theorem rread237ms (v : Value) (l : List Nat) (w : World) (h : BytesAt w w.heap.size v l) (q203 : (((gN l 0 : Nat) : Int) == 203) = false) (q237 : (((gN l 0 : Nat) : Int) == 237) = true) (n1 : 2 ≤ l.length) (n2 : l.length < 4) (hm3 : (((gN l 1 : Nat) : Int)) % 8 = 3) (hlo : 64 ≤ gN l 1) (hhi : gN l 1 < 128) : Calls Tryd.prog 10 #[v] w fun e w' => e = .returned (.tuple #[.agg zeroI.arr, .bool false]) ∧ Below w.heap.size w w' := by
  obtain ⟨b, off, cap, rfl, hc, hm, hb, hcell⟩ := bytes_open h (by omega)
  unfold maxLen at hm
  have c0 : (w.alloc (.cells #[.int .i64 0, .int .i64 0, .int .u8 0, .int .u8 0, .int .u16 0, .int .i64 0] 29)).cell? ⟨b, off, none⟩ = some (.int .u8 ((gN l 0 : Nat) : Int)) := hcell (w.alloc (.cells #[.int .i64 0, .int .i64 0, .int .u8 0, .int .u8 0, .int .u16 0, .int .i64 0] 29)) (balloc w _) 0 (by omega)
  have c1 : (w.alloc (.cells #[.int .i64 0, .int .i64 0, .int .u8 0, .int .u8 0, .int .u16 0, .int .i64 0] 29)).cell? ⟨b, off + 1, none⟩ = some (.int .u8 ((gN l 1 : Nat) : Int)) := hcell (w.alloc (.cells #[.int .i64 0, .int .i64 0, .int .u8 0, .int .u8 0, .int .u16 0, .int .i64 0] 29)) (balloc w _) 1 (by omega)
  clear hcell h
  unfold In.arr zeroI
  go_enter Tryd.func10, Tryd.ntmps10
  go_wp2_with fail
  exact bodyPost_ret (v := .tuple #[.agg #[.int .i64 0, .int .i64 0, .int .u8 0, .int .u8 0, .int .u16 0, .int .i64 0], .bool false]) (by simp [results, Tryd.results10, go_sem]) rfl ⟨rfl, by first | exact balloc w _ | exact (balloc w _).drew⟩
set_option maxRecDepth 100000 in
set_option maxHeartbeats 1600000 in
theorem rread237m (v : Value) (l : List Nat) (w : World) (h : BytesAt w w.heap.size v l) (q203 : (((gN l 0 : Nat) : Int) == 203) = false) (q237 : (((gN l 0 : Nat) : Int) == 237) = true) (n1 : 4 ≤ l.length) (hm3 : (((gN l 1 : Nat) : Int)) % 8 = 3) (hlo : 64 ≤ gN l 1) (hhi : gN l 1 < 128) (hb2 : gN l 2 < 256) (hb3 : gN l 3 < 256) : Calls Tryd.prog 10 #[v] w fun e w' => e = .returned (.tuple #[.agg (In.mk 2 0 (gN l 1) 0 (gN l 2 + 256 * gN l 3) 4).arr, .bool true]) ∧ Below w.heap.size w w' := by
  obtain ⟨b, off, cap, rfl, hc, hm, hb, hcell⟩ := bytes_open h (by omega)
  unfold maxLen at hm
  have c0 : (w.alloc (.cells #[.int .i64 0, .int .i64 0, .int .u8 0, .int .u8 0, .int .u16 0, .int .i64 0] 29)).cell? ⟨b, off, none⟩ = some (.int .u8 ((gN l 0 : Nat) : Int)) := hcell (w.alloc (.cells #[.int .i64 0, .int .i64 0, .int .u8 0, .int .u8 0, .int .u16 0, .int .i64 0] 29)) (balloc w _) 0 (by omega)
  have c1 : (w.alloc (.cells #[.int .i64 0, .int .i64 0, .int .u8 0, .int .u8 0, .int .u16 0, .int .i64 0] 29)).cell? ⟨b, off + 1, none⟩ = some (.int .u8 ((gN l 1 : Nat) : Int)) := hcell (w.alloc (.cells #[.int .i64 0, .int .i64 0, .int .u8 0, .int .u8 0, .int .u16 0, .int .i64 0] 29)) (balloc w _) 1 (by omega)
  have c2 : (w.alloc (.cells #[.int .i64 0, .int .i64 0, .int .u8 0, .int .u8 0, .int .u16 0, .int .i64 0] 29)).cell? ⟨b, off + 2, none⟩ = some (.int .u8 ((gN l 2 : Nat) : Int)) := hcell (w.alloc (.cells #[.int .i64 0, .int .i64 0, .int .u8 0, .int .u8 0, .int .u16 0, .int .i64 0] 29)) (balloc w _) 2 (by omega)
  have c3 : (w.alloc (.cells #[.int .i64 0, .int .i64 0, .int .u8 0, .int .u8 0, .int .u16 0, .int .i64 0] 29)).cell? ⟨b, off + 3, none⟩ = some (.int .u8 ((gN l 3 : Nat) : Int)) := hcell (w.alloc (.cells #[.int .i64 0, .int .i64 0, .int .u8 0, .int .u8 0, .int .u16 0, .int .i64 0] 29)) (balloc w _) 3 (by omega)
  clear hcell h
  unfold In.arr
  go_enter Tryd.func10, Tryd.ntmps10
  go_wp2_with fail
  go_region
  go_wp2_with fail
  exact bodyPost_ret (v := .tuple #[.agg #[.int .i64 2, .int .i64 0, .int .u8 ((gN l 1 : Nat) : Int), .int .u8 0, .int .u16 (((gN l 2 : Nat) : Int) + 256 * ((gN l 3 : Nat) : Int)), .int .i64 4], .bool true]) (by simp [results, Tryd.results10, go_sem]) rfl ⟨rfl, by first | exact balloc w _ | exact (balloc w _).drew⟩
set_option maxRecDepth 100000 in
set_option maxHeartbeats 1600000 in
theorem rread237a (v : Value) (l : List Nat) (w : World) (h : BytesAt w w.heap.size v l) (q203 : (((gN l 0 : Nat) : Int) == 203) = false) (q237 : (((gN l 0 : Nat) : Int) == 237) = true) (n1 : 2 ≤ l.length) (hlo : gN l 1 < 64) (hb1 : gN l 1 < 256) : Calls Tryd.prog 10 #[v] w fun e w' => e = .returned (.tuple #[.agg (In.mk 2 0 (gN l 1) 0 0 2).arr, .bool true]) ∧ Below w.heap.size w w' := by
  obtain ⟨b, off, cap, rfl, hc, hm, hb, hcell⟩ := bytes_open h (by omega)
  unfold maxLen at hm
  have c0 : (w.alloc (.cells #[.int .i64 0, .int .i64 0, .int .u8 0, .int .u8 0, .int .u16 0, .int .i64 0] 29)).cell? ⟨b, off, none⟩ = some (.int .u8 ((gN l 0 : Nat) : Int)) := hcell (w.alloc (.cells #[.int .i64 0, .int .i64 0, .int .u8 0, .int .u8 0, .int .u16 0, .int .i64 0] 29)) (balloc w _) 0 (by omega)
  have c1 : (w.alloc (.cells #[.int .i64 0, .int .i64 0, .int .u8 0, .int .u8 0, .int .u16 0, .int .i64 0] 29)).cell? ⟨b, off + 1, none⟩ = some (.int .u8 ((gN l 1 : Nat) : Int)) := hcell (w.alloc (.cells #[.int .i64 0, .int .i64 0, .int .u8 0, .int .u8 0, .int .u16 0, .int .i64 0] 29)) (balloc w _) 1 (by omega)
  clear hcell h
  unfold In.arr
  go_enter Tryd.func10, Tryd.ntmps10
  go_wp2_with fail
  exact bodyPost_ret (v := .tuple #[.agg #[.int .i64 2, .int .i64 0, .int .u8 ((gN l 1 : Nat) : Int), .int .u8 0, .int .u16 0, .int .i64 2], .bool true]) (by simp [results, Tryd.results10, go_sem]) rfl ⟨rfl, by first | exact balloc w _ | exact (balloc w _).drew⟩
set_option maxRecDepth 100000 in
set_option maxHeartbeats 1600000 in
theorem rread237b (v : Value) (l : List Nat) (w : World) (h : BytesAt w w.heap.size v l) (q203 : (((gN l 0 : Nat) : Int) == 203) = false) (q237 : (((gN l 0 : Nat) : Int) == 237) = true) (n1 : 2 ≤ l.length) (hlo : 128 ≤ gN l 1) (hb1 : gN l 1 < 256) : Calls Tryd.prog 10 #[v] w fun e w' => e = .returned (.tuple #[.agg (In.mk 2 0 (gN l 1) 0 0 2).arr, .bool true]) ∧ Below w.heap.size w w' := by
  obtain ⟨b, off, cap, rfl, hc, hm, hb, hcell⟩ := bytes_open h (by omega)
  unfold maxLen at hm
  have c0 : (w.alloc (.cells #[.int .i64 0, .int .i64 0, .int .u8 0, .int .u8 0, .int .u16 0, .int .i64 0] 29)).cell? ⟨b, off, none⟩ = some (.int .u8 ((gN l 0 : Nat) : Int)) := hcell (w.alloc (.cells #[.int .i64 0, .int .i64 0, .int .u8 0, .int .u8 0, .int .u16 0, .int .i64 0] 29)) (balloc w _) 0 (by omega)
  have c1 : (w.alloc (.cells #[.int .i64 0, .int .i64 0, .int .u8 0, .int .u8 0, .int .u16 0, .int .i64 0] 29)).cell? ⟨b, off + 1, none⟩ = some (.int .u8 ((gN l 1 : Nat) : Int)) := hcell (w.alloc (.cells #[.int .i64 0, .int .i64 0, .int .u8 0, .int .u8 0, .int .u16 0, .int .i64 0] 29)) (balloc w _) 1 (by omega)
  clear hcell h
  unfold In.arr
  go_enter Tryd.func10, Tryd.ntmps10
  go_wp2_with fail
  exact bodyPost_ret (v := .tuple #[.agg #[.int .i64 2, .int .i64 0, .int .u8 ((gN l 1 : Nat) : Int), .int .u8 0, .int .u16 0, .int .i64 2], .bool true]) (by simp [results, Tryd.results10, go_sem]) rfl ⟨rfl, by first | exact balloc w _ | exact (balloc w _).drew⟩
set_option maxRecDepth 100000 in
set_option maxHeartbeats 1600000 in
theorem rread237c (v : Value) (l : List Nat) (w : World) (h : BytesAt w w.heap.size v l) (q203 : (((gN l 0 : Nat) : Int) == 203) = false) (q237 : (((gN l 0 : Nat) : Int) == 237) = true) (n1 : 2 ≤ l.length) (hlo : 64 ≤ gN l 1) (hhi : gN l 1 < 128) (hm3 : ((((gN l 1 : Nat) : Int)) % 8 == 3) = false) (hb1 : gN l 1 < 256) : Calls Tryd.prog 10 #[v] w fun e w' => e = .returned (.tuple #[.agg (In.mk 2 0 (gN l 1) 0 0 2).arr, .bool true]) ∧ Below w.heap.size w w' := by
  obtain ⟨b, off, cap, rfl, hc, hm, hb, hcell⟩ := bytes_open h (by omega)
  unfold maxLen at hm
  have c0 : (w.alloc (.cells #[.int .i64 0, .int .i64 0, .int .u8 0, .int .u8 0, .int .u16 0, .int .i64 0] 29)).cell? ⟨b, off, none⟩ = some (.int .u8 ((gN l 0 : Nat) : Int)) := hcell (w.alloc (.cells #[.int .i64 0, .int .i64 0, .int .u8 0, .int .u8 0, .int .u16 0, .int .i64 0] 29)) (balloc w _) 0 (by omega)
  have c1 : (w.alloc (.cells #[.int .i64 0, .int .i64 0, .int .u8 0, .int .u8 0, .int .u16 0, .int .i64 0] 29)).cell? ⟨b, off + 1, none⟩ = some (.int .u8 ((gN l 1 : Nat) : Int)) := hcell (w.alloc (.cells #[.int .i64 0, .int .i64 0, .int .u8 0, .int .u8 0, .int .u16 0, .int .i64 0] 29)) (balloc w _) 1 (by omega)
  clear hcell h
  unfold In.arr
  go_enter Tryd.func10, Tryd.ntmps10
  go_wp2_with fail
  exact bodyPost_ret (v := .tuple #[.agg #[.int .i64 2, .int .i64 0, .int .u8 ((gN l 1 : Nat) : Int), .int .u8 0, .int .u16 0, .int .i64 2], .bool true]) (by simp [results, Tryd.results10, go_sem]) rfl ⟨rfl, by first | exact balloc w _ | exact (balloc w _).drew⟩
set_option maxRecDepth 100000 in
set_option maxHeartbeats 1600000 in
theorem rreadx1s (v : Value) (l : List Nat) (w : World) (h : BytesAt w w.heap.size v l) (q203 : (((gN l 0 : Nat) : Int) == 203) = false) (q237 : (((gN l 0 : Nat) : Int) == 237) = false) (q221 : (((gN l 0 : Nat) : Int) == 221) = true) (q253 : (((gN l 0 : Nat) : Int) == 253) = false) (n1 : 1 ≤ l.length) (n2 : l.length < 2) : Calls Tryd.prog 10 #[v] w fun e w' => e = .returned (.tuple #[.agg zeroI.arr, .bool false]) ∧ Below w.heap.size w w' := by
  obtain ⟨b, off, cap, rfl, hc, hm, hb, hcell⟩ := bytes_open h (by omega)
  unfold maxLen at hm
  have c0 : (w.alloc (.cells #[.int .i64 0, .int .i64 0, .int .u8 0, .int .u8 0, .int .u16 0, .int .i64 0] 29)).cell? ⟨b, off, none⟩ = some (.int .u8 ((gN l 0 : Nat) : Int)) := hcell (w.alloc (.cells #[.int .i64 0, .int .i64 0, .int .u8 0, .int .u8 0, .int .u16 0, .int .i64 0] 29)) (balloc w _) 0 (by omega)
  clear hcell h
  unfold In.arr zeroI
  go_enter Tryd.func10, Tryd.ntmps10
  go_wp2_with fail
  exact bodyPost_ret (v := .tuple #[.agg #[.int .i64 0, .int .i64 0, .int .u8 0, .int .u8 0, .int .u16 0, .int .i64 0], .bool false]) (by simp [results, Tryd.results10, go_sem]) rfl ⟨rfl, by first | exact balloc w _ | exact (balloc w _).drew⟩
set_option maxRecDepth 100000 in
set_option maxHeartbeats 1600000 in
theorem rreadx1p221 (v : Value) (l : List Nat) (w : World) (h : BytesAt w w.heap.size v l) (q203 : (((gN l 0 : Nat) : Int) == 203) = false) (q237 : (((gN l 0 : Nat) : Int) == 237) = false) (q221 : (((gN l 0 : Nat) : Int) == 221) = true) (q253 : (((gN l 0 : Nat) : Int) == 253) = false) (n1 : 2 ≤ l.length) (r221 : (((gN l 1 : Nat) : Int) == 221) = true) : Calls Tryd.prog 10 #[v] w fun e w' => e = .returned (.tuple #[.agg (In.mk 4 1 0 0 0 1).arr, .bool true]) ∧ Below w.heap.size w w' := by
  obtain ⟨b, off, cap, rfl, hc, hm, hb, hcell⟩ := bytes_open h (by omega)
  unfold maxLen at hm
  have c0 : (w.alloc (.cells #[.int .i64 0, .int .i64 0, .int .u8 0, .int .u8 0, .int .u16 0, .int .i64 0] 29)).cell? ⟨b, off, none⟩ = some (.int .u8 ((gN l 0 : Nat) : Int)) := hcell (w.alloc (.cells #[.int .i64 0, .int .i64 0, .int .u8 0, .int .u8 0, .int .u16 0, .int .i64 0] 29)) (balloc w _) 0 (by omega)
  have c1 : (w.alloc (.cells #[.int .i64 0, .int .i64 0, .int .u8 0, .int .u8 0, .int .u16 0, .int .i64 0] 29)).cell? ⟨b, off + 1, none⟩ = some (.int .u8 ((gN l 1 : Nat) : Int)) := hcell (w.alloc (.cells #[.int .i64 0, .int .i64 0, .int .u8 0, .int .u8 0, .int .u16 0, .int .i64 0] 29)) (balloc w _) 1 (by omega)
  clear hcell h
  unfold In.arr
  go_enter Tryd.func10, Tryd.ntmps10
  go_wp2_with fail
  exact bodyPost_ret (v := .tuple #[.agg #[.int .i64 4, .int .i64 1, .int .u8 0, .int .u8 0, .int .u16 0, .int .i64 1], .bool true]) (by simp [results, Tryd.results10, go_sem]) rfl ⟨rfl, by first | exact balloc w _ | exact (balloc w _).drew⟩
set_option maxRecDepth 100000 in
set_option maxHeartbeats 1600000 in
theorem rreadx1p237 (v : Value) (l : List Nat) (w : World) (h : BytesAt w w.heap.size v l) (q203 : (((gN l 0 : Nat) : Int) == 203) = false) (q237 : (((gN l 0 : Nat) : Int) == 237) = false) (q221 : (((gN l 0 : Nat) : Int) == 221) = true) (q253 : (((gN l 0 : Nat) : Int) == 253) = false) (n1 : 2 ≤ l.length) (r221 : (((gN l 1 : Nat) : Int) == 221) = false) (r237 : (((gN l 1 : Nat) : Int) == 237) = true) : Calls Tryd.prog 10 #[v] w fun e w' => e = .returned (.tuple #[.agg (In.mk 4 1 0 0 0 1).arr, .bool true]) ∧ Below w.heap.size w w' := by
  obtain ⟨b, off, cap, rfl, hc, hm, hb, hcell⟩ := bytes_open h (by omega)
  unfold maxLen at hm
  have c0 : (w.alloc (.cells #[.int .i64 0, .int .i64 0, .int .u8 0, .int .u8 0, .int .u16 0, .int .i64 0] 29)).cell? ⟨b, off, none⟩ = some (.int .u8 ((gN l 0 : Nat) : Int)) := hcell (w.alloc (.cells #[.int .i64 0, .int .i64 0, .int .u8 0, .int .u8 0, .int .u16 0, .int .i64 0] 29)) (balloc w _) 0 (by omega)
  have c1 : (w.alloc (.cells #[.int .i64 0, .int .i64 0, .int .u8 0, .int .u8 0, .int .u16 0, .int .i64 0] 29)).cell? ⟨b, off + 1, none⟩ = some (.int .u8 ((gN l 1 : Nat) : Int)) := hcell (w.alloc (.cells #[.int .i64 0, .int .i64 0, .int .u8 0, .int .u8 0, .int .u16 0, .int .i64 0] 29)) (balloc w _) 1 (by omega)
  clear hcell h
  unfold In.arr
  go_enter Tryd.func10, Tryd.ntmps10
  go_wp2_with fail
  exact bodyPost_ret (v := .tuple #[.agg #[.int .i64 4, .int .i64 1, .int .u8 0, .int .u8 0, .int .u16 0, .int .i64 1], .bool true]) (by simp [results, Tryd.results10, go_sem]) rfl ⟨rfl, by first | exact balloc w _ | exact (balloc w _).drew⟩
set_option maxRecDepth 100000 in
set_option maxHeartbeats 1600000 in
theorem rreadx1p253 (v : Value) (l : List Nat) (w : World) (h : BytesAt w w.heap.size v l) (q203 : (((gN l 0 : Nat) : Int) == 203) = false) (q237 : (((gN l 0 : Nat) : Int) == 237) = false) (q221 : (((gN l 0 : Nat) : Int) == 221) = true) (q253 : (((gN l 0 : Nat) : Int) == 253) = false) (n1 : 2 ≤ l.length) (r221 : (((gN l 1 : Nat) : Int) == 221) = false) (r237 : (((gN l 1 : Nat) : Int) == 237) = false) (r253 : (((gN l 1 : Nat) : Int) == 253) = true) : Calls Tryd.prog 10 #[v] w fun e w' => e = .returned (.tuple #[.agg (In.mk 4 1 0 0 0 1).arr, .bool true]) ∧ Below w.heap.size w w' := by
  obtain ⟨b, off, cap, rfl, hc, hm, hb, hcell⟩ := bytes_open h (by omega)
  unfold maxLen at hm
  have c0 : (w.alloc (.cells #[.int .i64 0, .int .i64 0, .int .u8 0, .int .u8 0, .int .u16 0, .int .i64 0] 29)).cell? ⟨b, off, none⟩ = some (.int .u8 ((gN l 0 : Nat) : Int)) := hcell (w.alloc (.cells #[.int .i64 0, .int .i64 0, .int .u8 0, .int .u8 0, .int .u16 0, .int .i64 0] 29)) (balloc w _) 0 (by omega)
  have c1 : (w.alloc (.cells #[.int .i64 0, .int .i64 0, .int .u8 0, .int .u8 0, .int .u16 0, .int .i64 0] 29)).cell? ⟨b, off + 1, none⟩ = some (.int .u8 ((gN l 1 : Nat) : Int)) := hcell (w.alloc (.cells #[.int .i64 0, .int .i64 0, .int .u8 0, .int .u8 0, .int .u16 0, .int .i64 0] 29)) (balloc w _) 1 (by omega)
  clear hcell h
  unfold In.arr
  go_enter Tryd.func10, Tryd.ntmps10
  go_wp2_with fail
  exact bodyPost_ret (v := .tuple #[.agg #[.int .i64 4, .int .i64 1, .int .u8 0, .int .u8 0, .int .u16 0, .int .i64 1], .bool true]) (by simp [results, Tryd.results10, go_sem]) rfl ⟨rfl, by first | exact balloc w _ | exact (balloc w _).drew⟩
set_option maxRecDepth 100000 in
set_option maxHeartbeats 1600000 in
theorem rreadx1cs (v : Value) (l : List Nat) (w : World) (h : BytesAt w w.heap.size v l) (q203 : (((gN l 0 : Nat) : Int) == 203) = false) (q237 : (((gN l 0 : Nat) : Int) == 237) = false) (q221 : (((gN l 0 : Nat) : Int) == 221) = true) (q253 : (((gN l 0 : Nat) : Int) == 253) = false) (n1 : 2 ≤ l.length) (n2 : l.length < 4) (r221 : (((gN l 1 : Nat) : Int) == 221) = false) (r237 : (((gN l 1 : Nat) : Int) == 237) = false) (r253 : (((gN l 1 : Nat) : Int) == 253) = false) (r203 : (((gN l 1 : Nat) : Int) == 203) = true) : Calls Tryd.prog 10 #[v] w fun e w' => e = .returned (.tuple #[.agg zeroI.arr, .bool false]) ∧ Below w.heap.size w w' := by
  obtain ⟨b, off, cap, rfl, hc, hm, hb, hcell⟩ := bytes_open h (by omega)
  unfold maxLen at hm
  have c0 : (w.alloc (.cells #[.int .i64 0, .int .i64 0, .int .u8 0, .int .u8 0, .int .u16 0, .int .i64 0] 29)).cell? ⟨b, off, none⟩ = some (.int .u8 ((gN l 0 : Nat) : Int)) := hcell (w.alloc (.cells #[.int .i64 0, .int .i64 0, .int .u8 0, .int .u8 0, .int .u16 0, .int .i64 0] 29)) (balloc w _) 0 (by omega)
  have c1 : (w.alloc (.cells #[.int .i64 0, .int .i64 0, .int .u8 0, .int .u8 0, .int .u16 0, .int .i64 0] 29)).cell? ⟨b, off + 1, none⟩ = some (.int .u8 ((gN l 1 : Nat) : Int)) := hcell (w.alloc (.cells #[.int .i64 0, .int .i64 0, .int .u8 0, .int .u8 0, .int .u16 0, .int .i64 0] 29)) (balloc w _) 1 (by omega)
  clear hcell h
  unfold In.arr zeroI
  go_enter Tryd.func10, Tryd.ntmps10
  go_wp2_with fail
  exact bodyPost_ret (v := .tuple #[.agg #[.int .i64 0, .int .i64 0, .int .u8 0, .int .u8 0, .int .u16 0, .int .i64 0], .bool false]) (by simp [results, Tryd.results10, go_sem]) rfl ⟨rfl, by first | exact balloc w _ | exact (balloc w _).drew⟩
set_option maxRecDepth 100000 in
set_option maxHeartbeats 1600000 in
theorem rreadx1c (v : Value) (l : List Nat) (w : World) (h : BytesAt w w.heap.size v l) (q203 : (((gN l 0 : Nat) : Int) == 203) = false) (q237 : (((gN l 0 : Nat) : Int) == 237) = false) (q221 : (((gN l 0 : Nat) : Int) == 221) = true) (q253 : (((gN l 0 : Nat) : Int) == 253) = false) (n1 : 4 ≤ l.length) (r221 : (((gN l 1 : Nat) : Int) == 221) = false) (r237 : (((gN l 1 : Nat) : Int) == 237) = false) (r253 : (((gN l 1 : Nat) : Int) == 253) = false) (r203 : (((gN l 1 : Nat) : Int) == 203) = true) : Calls Tryd.prog 10 #[v] w fun e w' => e = .returned (.tuple #[.agg (In.mk 3 1 (gN l 3) (gN l 2) 0 4).arr, .bool true]) ∧ Below w.heap.size w w' := by
  obtain ⟨b, off, cap, rfl, hc, hm, hb, hcell⟩ := bytes_open h (by omega)
  unfold maxLen at hm
  have c0 : (w.alloc (.cells #[.int .i64 0, .int .i64 0, .int .u8 0, .int .u8 0, .int .u16 0, .int .i64 0] 29)).cell? ⟨b, off, none⟩ = some (.int .u8 ((gN l 0 : Nat) : Int)) := hcell (w.alloc (.cells #[.int .i64 0, .int .i64 0, .int .u8 0, .int .u8 0, .int .u16 0, .int .i64 0] 29)) (balloc w _) 0 (by omega)
  have c1 : (w.alloc (.cells #[.int .i64 0, .int .i64 0, .int .u8 0, .int .u8 0, .int .u16 0, .int .i64 0] 29)).cell? ⟨b, off + 1, none⟩ = some (.int .u8 ((gN l 1 : Nat) : Int)) := hcell (w.alloc (.cells #[.int .i64 0, .int .i64 0, .int .u8 0, .int .u8 0, .int .u16 0, .int .i64 0] 29)) (balloc w _) 1 (by omega)
  have c2 : (w.alloc (.cells #[.int .i64 0, .int .i64 0, .int .u8 0, .int .u8 0, .int .u16 0, .int .i64 0] 29)).cell? ⟨b, off + 2, none⟩ = some (.int .u8 ((gN l 2 : Nat) : Int)) := hcell (w.alloc (.cells #[.int .i64 0, .int .i64 0, .int .u8 0, .int .u8 0, .int .u16 0, .int .i64 0] 29)) (balloc w _) 2 (by omega)
  have c3 : (w.alloc (.cells #[.int .i64 0, .int .i64 0, .int .u8 0, .int .u8 0, .int .u16 0, .int .i64 0] 29)).cell? ⟨b, off + 3, none⟩ = some (.int .u8 ((gN l 3 : Nat) : Int)) := hcell (w.alloc (.cells #[.int .i64 0, .int .i64 0, .int .u8 0, .int .u8 0, .int .u16 0, .int .i64 0] 29)) (balloc w _) 3 (by omega)
  clear hcell h
  unfold In.arr
  go_enter Tryd.func10, Tryd.ntmps10
  go_wp2_with fail
  go_region
  go_wp2_with fail
  exact bodyPost_ret (v := .tuple #[.agg #[.int .i64 3, .int .i64 1, .int .u8 ((gN l 3 : Nat) : Int), .int .u8 ((gN l 2 : Nat) : Int), .int .u16 0, .int .i64 4], .bool true]) (by simp [results, Tryd.results10, go_sem]) rfl ⟨rfl, by first | exact balloc w _ | exact (balloc w _).drew⟩
set_option maxRecDepth 100000 in
set_option maxHeartbeats 1600000 in
theorem rreadx2s (v : Value) (l : List Nat) (w : World) (h : BytesAt w w.heap.size v l) (q203 : (((gN l 0 : Nat) : Int) == 203) = false) (q237 : (((gN l 0 : Nat) : Int) == 237) = false) (q221 : (((gN l 0 : Nat) : Int) == 221) = false) (q253 : (((gN l 0 : Nat) : Int) == 253) = true) (n1 : 1 ≤ l.length) (n2 : l.length < 2) : Calls Tryd.prog 10 #[v] w fun e w' => e = .returned (.tuple #[.agg zeroI.arr, .bool false]) ∧ Below w.heap.size w w' := by
  obtain ⟨b, off, cap, rfl, hc, hm, hb, hcell⟩ := bytes_open h (by omega)
  unfold maxLen at hm
  have c0 : (w.alloc (.cells #[.int .i64 0, .int .i64 0, .int .u8 0, .int .u8 0, .int .u16 0, .int .i64 0] 29)).cell? ⟨b, off, none⟩ = some (.int .u8 ((gN l 0 : Nat) : Int)) := hcell (w.alloc (.cells #[.int .i64 0, .int .i64 0, .int .u8 0, .int .u8 0, .int .u16 0, .int .i64 0] 29)) (balloc w _) 0 (by omega)
  clear hcell h
  unfold In.arr zeroI
  go_enter Tryd.func10, Tryd.ntmps10
  go_wp2_with fail
  exact bodyPost_ret (v := .tuple #[.agg #[.int .i64 0, .int .i64 0, .int .u8 0, .int .u8 0, .int .u16 0, .int .i64 0], .bool false]) (by simp [results, Tryd.results10, go_sem]) rfl ⟨rfl, by first | exact balloc w _ | exact (balloc w _).drew⟩
set_option maxRecDepth 100000 in
set_option maxHeartbeats 1600000 in
theorem rreadx2p221 (v : Value) (l : List Nat) (w : World) (h : BytesAt w w.heap.size v l) (q203 : (((gN l 0 : Nat) : Int) == 203) = false) (q237 : (((gN l 0 : Nat) : Int) == 237) = false) (q221 : (((gN l 0 : Nat) : Int) == 221) = false) (q253 : (((gN l 0 : Nat) : Int) == 253) = true) (n1 : 2 ≤ l.length) (r221 : (((gN l 1 : Nat) : Int) == 221) = true) : Calls Tryd.prog 10 #[v] w fun e w' => e = .returned (.tuple #[.agg (In.mk 4 2 0 0 0 1).arr, .bool true]) ∧ Below w.heap.size w w' := by
  obtain ⟨b, off, cap, rfl, hc, hm, hb, hcell⟩ := bytes_open h (by omega)
  unfold maxLen at hm
  have c0 : (w.alloc (.cells #[.int .i64 0, .int .i64 0, .int .u8 0, .int .u8 0, .int .u16 0, .int .i64 0] 29)).cell? ⟨b, off, none⟩ = some (.int .u8 ((gN l 0 : Nat) : Int)) := hcell (w.alloc (.cells #[.int .i64 0, .int .i64 0, .int .u8 0, .int .u8 0, .int .u16 0, .int .i64 0] 29)) (balloc w _) 0 (by omega)
  have c1 : (w.alloc (.cells #[.int .i64 0, .int .i64 0, .int .u8 0, .int .u8 0, .int .u16 0, .int .i64 0] 29)).cell? ⟨b, off + 1, none⟩ = some (.int .u8 ((gN l 1 : Nat) : Int)) := hcell (w.alloc (.cells #[.int .i64 0, .int .i64 0, .int .u8 0, .int .u8 0, .int .u16 0, .int .i64 0] 29)) (balloc w _) 1 (by omega)
  clear hcell h
  unfold In.arr
  go_enter Tryd.func10, Tryd.ntmps10
  go_wp2_with fail
  exact bodyPost_ret (v := .tuple #[.agg #[.int .i64 4, .int .i64 2, .int .u8 0, .int .u8 0, .int .u16 0, .int .i64 1], .bool true]) (by simp [results, Tryd.results10, go_sem]) rfl ⟨rfl, by first | exact balloc w _ | exact (balloc w _).drew⟩
set_option maxRecDepth 100000 in
set_option maxHeartbeats 1600000 in
theorem rreadx2p237 (v : Value) (l : List Nat) (w : World) (h : BytesAt w w.heap.size v l) (q203 : (((gN l 0 : Nat) : Int) == 203) = false) (q237 : (((gN l 0 : Nat) : Int) == 237) = false) (q221 : (((gN l 0 : Nat) : Int) == 221) = false) (q253 : (((gN l 0 : Nat) : Int) == 253) = true) (n1 : 2 ≤ l.length) (r221 : (((gN l 1 : Nat) : Int) == 221) = false) (r237 : (((gN l 1 : Nat) : Int) == 237) = true) : Calls Tryd.prog 10 #[v] w fun e w' => e = .returned (.tuple #[.agg (In.mk 4 2 0 0 0 1).arr, .bool true]) ∧ Below w.heap.size w w' := by
  obtain ⟨b, off, cap, rfl, hc, hm, hb, hcell⟩ := bytes_open h (by omega)
  unfold maxLen at hm
  have c0 : (w.alloc (.cells #[.int .i64 0, .int .i64 0, .int .u8 0, .int .u8 0, .int .u16 0, .int .i64 0] 29)).cell? ⟨b, off, none⟩ = some (.int .u8 ((gN l 0 : Nat) : Int)) := hcell (w.alloc (.cells #[.int .i64 0, .int .i64 0, .int .u8 0, .int .u8 0, .int .u16 0, .int .i64 0] 29)) (balloc w _) 0 (by omega)
  have c1 : (w.alloc (.cells #[.int .i64 0, .int .i64 0, .int .u8 0, .int .u8 0, .int .u16 0, .int .i64 0] 29)).cell? ⟨b, off + 1, none⟩ = some (.int .u8 ((gN l 1 : Nat) : Int)) := hcell (w.alloc (.cells #[.int .i64 0, .int .i64 0, .int .u8 0, .int .u8 0, .int .u16 0, .int .i64 0] 29)) (balloc w _) 1 (by omega)
  clear hcell h
  unfold In.arr
  go_enter Tryd.func10, Tryd.ntmps10
  go_wp2_with fail
  exact bodyPost_ret (v := .tuple #[.agg #[.int .i64 4, .int .i64 2, .int .u8 0, .int .u8 0, .int .u16 0, .int .i64 1], .bool true]) (by simp [results, Tryd.results10, go_sem]) rfl ⟨rfl, by first | exact balloc w _ | exact (balloc w _).drew⟩
set_option maxRecDepth 100000 in
set_option maxHeartbeats 1600000 in
theorem rreadx2p253 (v : Value) (l : List Nat) (w : World) (h : BytesAt w w.heap.size v l) (q203 : (((gN l 0 : Nat) : Int) == 203) = false) (q237 : (((gN l 0 : Nat) : Int) == 237) = false) (q221 : (((gN l 0 : Nat) : Int) == 221) = false) (q253 : (((gN l 0 : Nat) : Int) == 253) = true) (n1 : 2 ≤ l.length) (r221 : (((gN l 1 : Nat) : Int) == 221) = false) (r237 : (((gN l 1 : Nat) : Int) == 237) = false) (r253 : (((gN l 1 : Nat) : Int) == 253) = true) : Calls Tryd.prog 10 #[v] w fun e w' => e = .returned (.tuple #[.agg (In.mk 4 2 0 0 0 1).arr, .bool true]) ∧ Below w.heap.size w w' := by
  obtain ⟨b, off, cap, rfl, hc, hm, hb, hcell⟩ := bytes_open h (by omega)
  unfold maxLen at hm
  have c0 : (w.alloc (.cells #[.int .i64 0, .int .i64 0, .int .u8 0, .int .u8 0, .int .u16 0, .int .i64 0] 29)).cell? ⟨b, off, none⟩ = some (.int .u8 ((gN l 0 : Nat) : Int)) := hcell (w.alloc (.cells #[.int .i64 0, .int .i64 0, .int .u8 0, .int .u8 0, .int .u16 0, .int .i64 0] 29)) (balloc w _) 0 (by omega)
  have c1 : (w.alloc (.cells #[.int .i64 0, .int .i64 0, .int .u8 0, .int .u8 0, .int .u16 0, .int .i64 0] 29)).cell? ⟨b, off + 1, none⟩ = some (.int .u8 ((gN l 1 : Nat) : Int)) := hcell (w.alloc (.cells #[.int .i64 0, .int .i64 0, .int .u8 0, .int .u8 0, .int .u16 0, .int .i64 0] 29)) (balloc w _) 1 (by omega)
  clear hcell h
  unfold In.arr
  go_enter Tryd.func10, Tryd.ntmps10
  go_wp2_with fail
  exact bodyPost_ret (v := .tuple #[.agg #[.int .i64 4, .int .i64 2, .int .u8 0, .int .u8 0, .int .u16 0, .int .i64 1], .bool true]) (by simp [results, Tryd.results10, go_sem]) rfl ⟨rfl, by first | exact balloc w _ | exact (balloc w _).drew⟩
set_option maxRecDepth 100000 in
set_option maxHeartbeats 1600000 in
theorem rreadx2cs (v : Value) (l : List Nat) (w : World) (h : BytesAt w w.heap.size v l) (q203 : (((gN l 0 : Nat) : Int) == 203) = false) (q237 : (((gN l 0 : Nat) : Int) == 237) = false) (q221 : (((gN l 0 : Nat) : Int) == 221) = false) (q253 : (((gN l 0 : Nat) : Int) == 253) = true) (n1 : 2 ≤ l.length) (n2 : l.length < 4) (r221 : (((gN l 1 : Nat) : Int) == 221) = false) (r237 : (((gN l 1 : Nat) : Int) == 237) = false) (r253 : (((gN l 1 : Nat) : Int) == 253) = false) (r203 : (((gN l 1 : Nat) : Int) == 203) = true) : Calls Tryd.prog 10 #[v] w fun e w' => e = .returned (.tuple #[.agg zeroI.arr, .bool false]) ∧ Below w.heap.size w w' := by
  obtain ⟨b, off, cap, rfl, hc, hm, hb, hcell⟩ := bytes_open h (by omega)
  unfold maxLen at hm
  have c0 : (w.alloc (.cells #[.int .i64 0, .int .i64 0, .int .u8 0, .int .u8 0, .int .u16 0, .int .i64 0] 29)).cell? ⟨b, off, none⟩ = some (.int .u8 ((gN l 0 : Nat) : Int)) := hcell (w.alloc (.cells #[.int .i64 0, .int .i64 0, .int .u8 0, .int .u8 0, .int .u16 0, .int .i64 0] 29)) (balloc w _) 0 (by omega)
  have c1 : (w.alloc (.cells #[.int .i64 0, .int .i64 0, .int .u8 0, .int .u8 0, .int .u16 0, .int .i64 0] 29)).cell? ⟨b, off + 1, none⟩ = some (.int .u8 ((gN l 1 : Nat) : Int)) := hcell (w.alloc (.cells #[.int .i64 0, .int .i64 0, .int .u8 0, .int .u8 0, .int .u16 0, .int .i64 0] 29)) (balloc w _) 1 (by omega)
  clear hcell h
  unfold In.arr zeroI
  go_enter Tryd.func10, Tryd.ntmps10
  go_wp2_with fail
  exact bodyPost_ret (v := .tuple #[.agg #[.int .i64 0, .int .i64 0, .int .u8 0, .int .u8 0, .int .u16 0, .int .i64 0], .bool false]) (by simp [results, Tryd.results10, go_sem]) rfl ⟨rfl, by first | exact balloc w _ | exact (balloc w _).drew⟩
set_option maxRecDepth 100000 in
set_option maxHeartbeats 1600000 in
theorem rreadx2c (v : Value) (l : List Nat) (w : World) (h : BytesAt w w.heap.size v l) (q203 : (((gN l 0 : Nat) : Int) == 203) = false) (q237 : (((gN l 0 : Nat) : Int) == 237) = false) (q221 : (((gN l 0 : Nat) : Int) == 221) = false) (q253 : (((gN l 0 : Nat) : Int) == 253) = true) (n1 : 4 ≤ l.length) (r221 : (((gN l 1 : Nat) : Int) == 221) = false) (r237 : (((gN l 1 : Nat) : Int) == 237) = false) (r253 : (((gN l 1 : Nat) : Int) == 253) = false) (r203 : (((gN l 1 : Nat) : Int) == 203) = true) : Calls Tryd.prog 10 #[v] w fun e w' => e = .returned (.tuple #[.agg (In.mk 3 2 (gN l 3) (gN l 2) 0 4).arr, .bool true]) ∧ Below w.heap.size w w' := by
  obtain ⟨b, off, cap, rfl, hc, hm, hb, hcell⟩ := bytes_open h (by omega)
  unfold maxLen at hm
  have c0 : (w.alloc (.cells #[.int .i64 0, .int .i64 0, .int .u8 0, .int .u8 0, .int .u16 0, .int .i64 0] 29)).cell? ⟨b, off, none⟩ = some (.int .u8 ((gN l 0 : Nat) : Int)) := hcell (w.alloc (.cells #[.int .i64 0, .int .i64 0, .int .u8 0, .int .u8 0, .int .u16 0, .int .i64 0] 29)) (balloc w _) 0 (by omega)
  have c1 : (w.alloc (.cells #[.int .i64 0, .int .i64 0, .int .u8 0, .int .u8 0, .int .u16 0, .int .i64 0] 29)).cell? ⟨b, off + 1, none⟩ = some (.int .u8 ((gN l 1 : Nat) : Int)) := hcell (w.alloc (.cells #[.int .i64 0, .int .i64 0, .int .u8 0, .int .u8 0, .int .u16 0, .int .i64 0] 29)) (balloc w _) 1 (by omega)
  have c2 : (w.alloc (.cells #[.int .i64 0, .int .i64 0, .int .u8 0, .int .u8 0, .int .u16 0, .int .i64 0] 29)).cell? ⟨b, off + 2, none⟩ = some (.int .u8 ((gN l 2 : Nat) : Int)) := hcell (w.alloc (.cells #[.int .i64 0, .int .i64 0, .int .u8 0, .int .u8 0, .int .u16 0, .int .i64 0] 29)) (balloc w _) 2 (by omega)
  have c3 : (w.alloc (.cells #[.int .i64 0, .int .i64 0, .int .u8 0, .int .u8 0, .int .u16 0, .int .i64 0] 29)).cell? ⟨b, off + 3, none⟩ = some (.int .u8 ((gN l 3 : Nat) : Int)) := hcell (w.alloc (.cells #[.int .i64 0, .int .i64 0, .int .u8 0, .int .u8 0, .int .u16 0, .int .i64 0] 29)) (balloc w _) 3 (by omega)
  clear hcell h
  unfold In.arr
  go_enter Tryd.func10, Tryd.ntmps10
  go_wp2_with fail
  go_region
  go_wp2_with fail
  exact bodyPost_ret (v := .tuple #[.agg #[.int .i64 3, .int .i64 2, .int .u8 ((gN l 3 : Nat) : Int), .int .u8 ((gN l 2 : Nat) : Int), .int .u16 0, .int .i64 4], .bool true]) (by simp [results, Tryd.results10, go_sem]) rfl ⟨rfl, by first | exact balloc w _ | exact (balloc w _).drew⟩

end Go.Proofs.YtkjibnnoeceaeaaDoor
