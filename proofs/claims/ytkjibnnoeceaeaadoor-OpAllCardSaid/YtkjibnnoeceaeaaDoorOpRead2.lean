/- op's reading behind an index, of an instruction, of bytes: their contracts. -/
import Derived.Test.YtkjibnnoeceaeaaDoorOpRead
namespace Go.Proofs.YtkjibnnoeceaeaaDoor
open Go.RowKit

/-- What stands behind an index's prefix, from place k on, and where it ends. -/
def behR (l : List Nat) (k : Nat) (ix : Int) : In :=
  if gN l k = 221 ∨ gN l k = 237 ∨ gN l k = 253 then ⟨4, ix, 0, 0, 0, 0⟩ else if gN l k = 203 then ⟨3, ix, gN l (k + 2), gN l (k + 1), 0, 0⟩ else plainR l (k + 1) (gN l k) ix
def behK (l : List Nat) (k : Nat) (ix : Int) : Nat :=
  if gN l k = 221 ∨ gN l k = 237 ∨ gN l k = 253 then k else if gN l k = 203 then k + 3 else atD (gN l k) ix (k + 1) + argC (gN l k)
def insR (l : List Nat) : In :=
  if gN l 0 = 203 then ⟨1, 0, gN l 1, 0, 0, 0⟩ else if gN l 0 = 237 then moreR l 1 else if gN l 0 = 221 then behR l 1 1 else if gN l 0 = 253 then behR l 1 2 else plainR l 1 (gN l 0) 0
def insK (l : List Nat) : Nat :=
  if gN l 0 = 203 then 2 else if gN l 0 = 237 then moreK l 1 else if gN l 0 = 221 then behK l 1 1 else if gN l 0 = 253 then behK l 1 2 else atD (gN l 0) 0 1 + argC (gN l 0)
theorem atD_le (c : Nat) (ix : Int) (k : Nat) : k ≤ atD c ix k ∧ atD c ix k ≤ k + 1 := by unfold atD; split <;> omega

set_option maxRecDepth 100000 in
set_option maxHeartbeats 1600000 in
theorem beh221 (S : Nat) (v : Value) (l : List Nat) (k : Nat) (ix : Int) (w : World) (h : Src w S v l k) (hk : k ≤ 30) (h221 : (((gN l k : Nat) : Int) == 221) = true) : Calls Tryd.prog 38 #[.pointer (some ⟨S, 0, none⟩), .int .i64 ix] w fun e w' => e = .returned (.agg (In.mk 4 ix 0 0 0 0).arr) ∧ Src w' S v l ((k : Int)) ∧ Aside S w w' := by
  have K := Lib.hid (ReG.made h)
  clear h
  unfold In.arr zeroI at *
  go_enter Tryd.func38, Tryd.ntmps38
  go_wp2_with fail
  refine (next_is S v l k _ _ K.out.src rfl (by omega)).mono ?_
  rintro e w1 ⟨rfl, hs, ha⟩
  have k1 := K.out.next hs ha
  clear hs ha K
  have c1 := k1.src.c1
  have f1 := k1.src.f1 1
  have r0 : w1.cell? ⟨w.heap.size, 0, none⟩ = some (.int .i64 0) := k1.res.cell 0 _ rfl
  have r1 : w1.cell? ⟨w.heap.size, 1, none⟩ = some (.int .i64 0) := k1.res.cell 1 _ rfl
  have r2 : w1.cell? ⟨w.heap.size, 2, none⟩ = some (.int .u8 0) := k1.res.cell 2 _ rfl
  have r3 : w1.cell? ⟨w.heap.size, 3, none⟩ = some (.int .u8 0) := k1.res.cell 3 _ rfl
  have r4 : w1.cell? ⟨w.heap.size, 4, none⟩ = some (.int .u16 0) := k1.res.cell 4 _ rfl
  have r5 : w1.cell? ⟨w.heap.size, 5, none⟩ = some (.int .i64 0) := k1.res.cell 5 _ rfl
  have g0 := k1.res.free 0
  have g1 := k1.res.free 1
  have g2 := k1.res.free 2
  have g3 := k1.res.free 3
  have g4 := k1.res.free 4
  have g5 := k1.res.free 5
  have hlt := k1.lo
  have hne : ¬ (w.heap.size = S) := by omega
  have hne2 : ¬ (S = w.heap.size) := by omega
  clear hlt
  have K1 := Lib.hid (k1.put k)
  clear k1
  go_wp2_with fail
  exact bodyPost_ret (v := .agg #[.int .i64 4, .int .i64 ix, .int .u8 0, .int .u8 0, .int .u16 0, .int .i64 0]) (by simp [results, Tryd.results38, go_sem, r0, r1, r2, r3, r4, r5]) rfl ⟨rfl, src_fill K1.out.src K1.out.lo _ _ _ _ _ _, aside_fill K1.out.asd (Nat.le_refl _) _ _ _ _ _ _⟩
set_option maxRecDepth 100000 in
set_option maxHeartbeats 1600000 in
theorem beh237 (S : Nat) (v : Value) (l : List Nat) (k : Nat) (ix : Int) (w : World) (h : Src w S v l k) (hk : k ≤ 30) (h221 : (((gN l k : Nat) : Int) == 221) = false) (h237 : (((gN l k : Nat) : Int) == 237) = true) : Calls Tryd.prog 38 #[.pointer (some ⟨S, 0, none⟩), .int .i64 ix] w fun e w' => e = .returned (.agg (In.mk 4 ix 0 0 0 0).arr) ∧ Src w' S v l ((k : Int)) ∧ Aside S w w' := by
  have K := Lib.hid (ReG.made h)
  clear h
  unfold In.arr zeroI at *
  go_enter Tryd.func38, Tryd.ntmps38
  go_wp2_with fail
  refine (next_is S v l k _ _ K.out.src rfl (by omega)).mono ?_
  rintro e w1 ⟨rfl, hs, ha⟩
  have k1 := K.out.next hs ha
  clear hs ha K
  have c1 := k1.src.c1
  have f1 := k1.src.f1 1
  have r0 : w1.cell? ⟨w.heap.size, 0, none⟩ = some (.int .i64 0) := k1.res.cell 0 _ rfl
  have r1 : w1.cell? ⟨w.heap.size, 1, none⟩ = some (.int .i64 0) := k1.res.cell 1 _ rfl
  have r2 : w1.cell? ⟨w.heap.size, 2, none⟩ = some (.int .u8 0) := k1.res.cell 2 _ rfl
  have r3 : w1.cell? ⟨w.heap.size, 3, none⟩ = some (.int .u8 0) := k1.res.cell 3 _ rfl
  have r4 : w1.cell? ⟨w.heap.size, 4, none⟩ = some (.int .u16 0) := k1.res.cell 4 _ rfl
  have r5 : w1.cell? ⟨w.heap.size, 5, none⟩ = some (.int .i64 0) := k1.res.cell 5 _ rfl
  have g0 := k1.res.free 0
  have g1 := k1.res.free 1
  have g2 := k1.res.free 2
  have g3 := k1.res.free 3
  have g4 := k1.res.free 4
  have g5 := k1.res.free 5
  have hlt := k1.lo
  have hne : ¬ (w.heap.size = S) := by omega
  have hne2 : ¬ (S = w.heap.size) := by omega
  clear hlt
  have K1 := Lib.hid (k1.put k)
  clear k1
  go_wp2_with fail
  exact bodyPost_ret (v := .agg #[.int .i64 4, .int .i64 ix, .int .u8 0, .int .u8 0, .int .u16 0, .int .i64 0]) (by simp [results, Tryd.results38, go_sem, r0, r1, r2, r3, r4, r5]) rfl ⟨rfl, src_fill K1.out.src K1.out.lo _ _ _ _ _ _, aside_fill K1.out.asd (Nat.le_refl _) _ _ _ _ _ _⟩
set_option maxRecDepth 100000 in
set_option maxHeartbeats 1600000 in
theorem beh253 (S : Nat) (v : Value) (l : List Nat) (k : Nat) (ix : Int) (w : World) (h : Src w S v l k) (hk : k ≤ 30) (h221 : (((gN l k : Nat) : Int) == 221) = false) (h237 : (((gN l k : Nat) : Int) == 237) = false) (h253 : (((gN l k : Nat) : Int) == 253) = true) : Calls Tryd.prog 38 #[.pointer (some ⟨S, 0, none⟩), .int .i64 ix] w fun e w' => e = .returned (.agg (In.mk 4 ix 0 0 0 0).arr) ∧ Src w' S v l ((k : Int)) ∧ Aside S w w' := by
  have K := Lib.hid (ReG.made h)
  clear h
  unfold In.arr zeroI at *
  go_enter Tryd.func38, Tryd.ntmps38
  go_wp2_with fail
  refine (next_is S v l k _ _ K.out.src rfl (by omega)).mono ?_
  rintro e w1 ⟨rfl, hs, ha⟩
  have k1 := K.out.next hs ha
  clear hs ha K
  have c1 := k1.src.c1
  have f1 := k1.src.f1 1
  have r0 : w1.cell? ⟨w.heap.size, 0, none⟩ = some (.int .i64 0) := k1.res.cell 0 _ rfl
  have r1 : w1.cell? ⟨w.heap.size, 1, none⟩ = some (.int .i64 0) := k1.res.cell 1 _ rfl
  have r2 : w1.cell? ⟨w.heap.size, 2, none⟩ = some (.int .u8 0) := k1.res.cell 2 _ rfl
  have r3 : w1.cell? ⟨w.heap.size, 3, none⟩ = some (.int .u8 0) := k1.res.cell 3 _ rfl
  have r4 : w1.cell? ⟨w.heap.size, 4, none⟩ = some (.int .u16 0) := k1.res.cell 4 _ rfl
  have r5 : w1.cell? ⟨w.heap.size, 5, none⟩ = some (.int .i64 0) := k1.res.cell 5 _ rfl
  have g0 := k1.res.free 0
  have g1 := k1.res.free 1
  have g2 := k1.res.free 2
  have g3 := k1.res.free 3
  have g4 := k1.res.free 4
  have g5 := k1.res.free 5
  have hlt := k1.lo
  have hne : ¬ (w.heap.size = S) := by omega
  have hne2 : ¬ (S = w.heap.size) := by omega
  clear hlt
  have K1 := Lib.hid (k1.put k)
  clear k1
  go_wp2_with fail
  exact bodyPost_ret (v := .agg #[.int .i64 4, .int .i64 ix, .int .u8 0, .int .u8 0, .int .u16 0, .int .i64 0]) (by simp [results, Tryd.results38, go_sem, r0, r1, r2, r3, r4, r5]) rfl ⟨rfl, src_fill K1.out.src K1.out.lo _ _ _ _ _ _, aside_fill K1.out.asd (Nat.le_refl _) _ _ _ _ _ _⟩
set_option maxRecDepth 100000 in
set_option maxHeartbeats 1600000 in
theorem beh203 (S : Nat) (v : Value) (l : List Nat) (k : Nat) (ix : Int) (w : World) (h : Src w S v l k) (hk : k ≤ 30) (h221 : (((gN l k : Nat) : Int) == 221) = false) (h237 : (((gN l k : Nat) : Int) == 237) = false) (h253 : (((gN l k : Nat) : Int) == 253) = false) (h203 : (((gN l k : Nat) : Int) == 203) = true) : Calls Tryd.prog 38 #[.pointer (some ⟨S, 0, none⟩), .int .i64 ix] w fun e w' => e = .returned (.agg (In.mk 3 ix (gN l (k + 2)) (gN l (k + 1)) 0 0).arr) ∧ Src w' S v l (((k + 3 : Nat) : Int)) ∧ Aside S w w' := by
  have K := Lib.hid (ReG.made h)
  clear h
  unfold In.arr zeroI at *
  go_enter Tryd.func38, Tryd.ntmps38
  go_wp2_with fail
  refine (next_is S v l k _ _ K.out.src rfl (by omega)).mono ?_
  rintro e w1 ⟨rfl, hs, ha⟩
  have k1 := K.out.next hs ha
  have K1 := Lib.hid k1
  clear hs ha K k1
  go_wp2_with fail
  refine (next_is S v l (k + 1) _ _ K1.out.src (by omega) (by omega)).mono ?_
  rintro e w2 ⟨rfl, hs, ha⟩
  have k2 : PlG w S v l ((k : Int) + 1 + 1) w2.heap.size ⟨3, ix, 0, gN l (k + 1), 0, 0⟩ (w2.alloc (.cells #[.int .i64 3, .int .i64 ix, .int .u8 0, .int .u8 ((gN l (k + 1) : Nat) : Int), .int .u16 0, .int .i64 0] 26)) := (K1.out.next hs ha).ins ⟨3, ix, 0, gN l (k + 1), 0, 0⟩
  have K2 := Lib.hid k2
  clear hs ha k2 K1
  go_wp2_with fail
  refine (next_is S v l (k + 2) _ _ K2.out.src (by omega) (by omega)).mono ?_
  rintro e w3 ⟨rfl, hs, ha⟩
  have k3 := K2.out.next hs ha
  clear hs ha K2
  have hg : ¬ (w.heap.size = w2.heap.size) := Nat.ne_of_lt k3.hi
  have hg2 : ¬ (w2.heap.size = w.heap.size) := fun h => hg h.symm
  have i0 : w3.cell? ⟨w2.heap.size, 0, none⟩ = some (.int .i64 3) := k3.ins.cell 0 _ rfl
  have i1 : w3.cell? ⟨w2.heap.size, 1, none⟩ = some (.int .i64 ix) := k3.ins.cell 1 _ rfl
  have i2 : w3.cell? ⟨w2.heap.size, 2, none⟩ = some (.int .u8 0) := k3.ins.cell 2 _ rfl
  have i3 : w3.cell? ⟨w2.heap.size, 3, none⟩ = some (.int .u8 ((gN l (k + 1) : Nat) : Int)) := k3.ins.cell 3 _ rfl
  have i4 : w3.cell? ⟨w2.heap.size, 4, none⟩ = some (.int .u16 0) := k3.ins.cell 4 _ rfl
  have i5 : w3.cell? ⟨w2.heap.size, 5, none⟩ = some (.int .i64 0) := k3.ins.cell 5 _ rfl
  have f2 := k3.ins.free 2
  have r0 : w3.cell? ⟨w.heap.size, 0, none⟩ = some (.int .i64 0) := k3.res.cell 0 _ rfl
  have r1 : w3.cell? ⟨w.heap.size, 1, none⟩ = some (.int .i64 0) := k3.res.cell 1 _ rfl
  have r2 : w3.cell? ⟨w.heap.size, 2, none⟩ = some (.int .u8 0) := k3.res.cell 2 _ rfl
  have r3 : w3.cell? ⟨w.heap.size, 3, none⟩ = some (.int .u8 0) := k3.res.cell 3 _ rfl
  have r4 : w3.cell? ⟨w.heap.size, 4, none⟩ = some (.int .u16 0) := k3.res.cell 4 _ rfl
  have r5 : w3.cell? ⟨w.heap.size, 5, none⟩ = some (.int .i64 0) := k3.res.cell 5 _ rfl
  have g0 := k3.res.free 0
  have g1 := k3.res.free 1
  have g2 := k3.res.free 2
  have g3 := k3.res.free 3
  have g4 := k3.res.free 4
  have g5 := k3.res.free 5
  have K3 := Lib.hid k3
  clear k3
  go_wp2_with fail
  have K4 := K3.out.put (y := ⟨3, ix, gN l (k + 2), gN l (k + 1), 0, 0⟩) 2 _ rfl
  have hp : ((k : Int) + 1 + 1 + 1) = ((k + 3 : Nat) : Int) := by omega
  rw [hp] at K4
  exact bodyPost_ret (v := .agg #[.int .i64 3, .int .i64 ix, .int .u8 ((gN l (k + 2) : Nat) : Int), .int .u8 ((gN l (k + 1) : Nat) : Int), .int .u16 0, .int .i64 0]) (by simp [results, Tryd.results38, go_sem, r0, r1, r2, r3, r4, r5]) rfl ⟨rfl, src_fill K4.src K4.lo _ _ _ _ _ _, aside_fill K4.asd (Nat.le_refl _) _ _ _ _ _ _⟩
set_option maxRecDepth 100000 in
set_option maxHeartbeats 1600000 in
theorem behP (S : Nat) (v : Value) (l : List Nat) (k : Nat) (ix : Int) (w : World) (h : Src w S v l k) (hk : k ≤ 30) (x0 : 0 ≤ ix) (x2 : ix ≤ 2) (h221 : (((gN l k : Nat) : Int) == 221) = false) (h237 : (((gN l k : Nat) : Int) == 237) = false) (h253 : (((gN l k : Nat) : Int) == 253) = false) (h203 : (((gN l k : Nat) : Int) == 203) = false) : Calls Tryd.prog 38 #[.pointer (some ⟨S, 0, none⟩), .int .i64 ix] w fun e w' => e = .returned (.agg (plainR l (k + 1) (gN l k) ix).arr) ∧ Src w' S v l (((atD (gN l k) ix (k + 1) + argC (gN l k) : Nat) : Int)) ∧ Aside S w w' := by
  have gl := h.gN_lt k
  obtain ⟨x, hx⟩ : ∃ x : In, plainR l (k + 1) (gN l k) ix = x := ⟨_, rfl⟩
  rw [hx]
  have HN := Lib.hid (fun w (h : Src w S v l ((k : Int) + 1)) => plainR_any S v l (k + 1) (gN l k) ix w h (by omega) gl x0 x2)
  rw [hx] at HN
  clear hx
  have K := Lib.hid (ReG.made h)
  clear h gl
  unfold In.arr zeroI at *
  go_enter Tryd.func38, Tryd.ntmps38
  go_wp2_with fail
  refine (next_is S v l k _ _ K.out.src rfl (by omega)).mono ?_
  rintro e w1 ⟨rfl, hs, ha⟩
  have k1 := K.out.next hs ha
  have K1 := Lib.hid k1
  clear hs ha K k1
  go_wp2_with fail
  refine (HN.out _ K1.out.src).mono ?_
  rintro e w2 ⟨rfl, hs, ha⟩
  have k2 := K1.out.next hs ha
  clear hs ha K1
  have r0 : w2.cell? ⟨w.heap.size, 0, none⟩ = some (.int .i64 0) := k2.res.cell 0 _ rfl
  have r1 : w2.cell? ⟨w.heap.size, 1, none⟩ = some (.int .i64 0) := k2.res.cell 1 _ rfl
  have r2 : w2.cell? ⟨w.heap.size, 2, none⟩ = some (.int .u8 0) := k2.res.cell 2 _ rfl
  have r3 : w2.cell? ⟨w.heap.size, 3, none⟩ = some (.int .u8 0) := k2.res.cell 3 _ rfl
  have r4 : w2.cell? ⟨w.heap.size, 4, none⟩ = some (.int .u16 0) := k2.res.cell 4 _ rfl
  have r5 : w2.cell? ⟨w.heap.size, 5, none⟩ = some (.int .i64 0) := k2.res.cell 5 _ rfl
  have g0 := k2.res.free 0
  have g1 := k2.res.free 1
  have g2 := k2.res.free 2
  have g3 := k2.res.free 3
  have g4 := k2.res.free 4
  have g5 := k2.res.free 5
  have K2 := Lib.hid k2
  clear k2
  go_wp2_with fail
  exact bodyPost_ret (v := .agg #[.int .i64 x.set, .int .i64 x.ix, .int .u8 (x.code : Int), .int .u8 (x.d : Int), .int .u16 (x.n : Int), .int .i64 x.len]) (by simp [results, Tryd.results38, go_sem, r0, r1, r2, r3, r4, r5]) rfl ⟨rfl, src_fill K2.out.src K2.out.lo _ _ _ _ _ _, aside_fill K2.out.asd (Nat.le_refl _) _ _ _ _ _ _⟩
theorem beh_any (S : Nat) (v : Value) (l : List Nat) (k : Nat) (ix : Int) (w : World) (h : Src w S v l k) (hk : k ≤ 30) (x0 : 0 ≤ ix) (x2 : ix ≤ 2) : Calls Tryd.prog 38 #[.pointer (some ⟨S, 0, none⟩), .int .i64 ix] w fun e w' => e = .returned (.agg (behR l k ix).arr) ∧ Src w' S v l ((behK l k ix : Nat) : Int) ∧ Aside S w w' := by
  have key : ∀ n m : Nat, n ≠ m → ((n : Int) == (m : Int)) = false := fun n m h => by rw [beq_eq_false_iff_ne]; omega
  have keyt : ∀ n m : Nat, n = m → ((n : Int) == (m : Int)) = true := fun n m h => by rw [beq_iff_eq]; omega
  unfold behR behK
  by_cases h1 : gN l k = 221
  · rw [if_pos (Or.inl h1), if_pos (Or.inl h1)]
    exact beh221 S v l k ix w h hk (keyt _ 221 h1)
  by_cases h2 : gN l k = 237
  · rw [if_pos (Or.inr (Or.inl h2)), if_pos (Or.inr (Or.inl h2))]
    exact beh237 S v l k ix w h hk (key _ 221 h1) (keyt _ 237 h2)
  by_cases h3 : gN l k = 253
  · rw [if_pos (Or.inr (Or.inr h3)), if_pos (Or.inr (Or.inr h3))]
    exact beh253 S v l k ix w h hk (key _ 221 h1) (key _ 237 h2) (keyt _ 253 h3)
  have hn : ¬ (gN l k = 221 ∨ gN l k = 237 ∨ gN l k = 253) := by omega
  rw [if_neg hn, if_neg hn]
  by_cases h4 : gN l k = 203
  · rw [if_pos h4, if_pos h4]
    exact beh203 S v l k ix w h hk (key _ 221 h1) (key _ 237 h2) (key _ 253 h3) (keyt _ 203 h4)
  · rw [if_neg h4, if_neg h4]
    exact behP S v l k ix w h hk x0 x2 (key _ 221 h1) (key _ 237 h2) (key _ 253 h3) (key _ 203 h4)

set_option maxRecDepth 100000 in
set_option maxHeartbeats 1600000 in
theorem ins203 (S : Nat) (v : Value) (l : List Nat) (k : Nat) (w : World) (h : Src w S v l k) (hk : k ≤ 20) (h203 : (((gN l k : Nat) : Int) == 203) = true) : Calls Tryd.prog 18 #[.pointer (some ⟨S, 0, none⟩)] w fun e w' => e = .returned (.agg (In.mk 1 0 (gN l (k + 1)) 0 0 0).arr) ∧ Src w' S v l (((k + 2 : Nat) : Int)) ∧ Aside S w w' := by
  have K := Lib.hid (ReG.made h)
  clear h
  unfold In.arr zeroI at *
  go_enter Tryd.func18, Tryd.ntmps18
  go_wp2_with fail
  refine (next_is S v l k _ _ K.out.src rfl (by omega)).mono ?_
  rintro e w1 ⟨rfl, hs, ha⟩
  have k1 := K.out.next hs ha
  have K1 := Lib.hid k1
  clear hs ha K k1
  go_wp2_with fail
  refine (next_is S v l (k + 1) _ _ K1.out.src (by omega) (by omega)).mono ?_
  rintro e w2 ⟨rfl, hs, ha⟩
  have k2 := K1.out.next hs ha
  clear hs ha K1
  have r0 : w2.cell? ⟨w.heap.size, 0, none⟩ = some (.int .i64 0) := k2.res.cell 0 _ rfl
  have r1 : w2.cell? ⟨w.heap.size, 1, none⟩ = some (.int .i64 0) := k2.res.cell 1 _ rfl
  have r2 : w2.cell? ⟨w.heap.size, 2, none⟩ = some (.int .u8 0) := k2.res.cell 2 _ rfl
  have r3 : w2.cell? ⟨w.heap.size, 3, none⟩ = some (.int .u8 0) := k2.res.cell 3 _ rfl
  have r4 : w2.cell? ⟨w.heap.size, 4, none⟩ = some (.int .u16 0) := k2.res.cell 4 _ rfl
  have r5 : w2.cell? ⟨w.heap.size, 5, none⟩ = some (.int .i64 0) := k2.res.cell 5 _ rfl
  have g0 := k2.res.free 0
  have g1 := k2.res.free 1
  have g2 := k2.res.free 2
  have g3 := k2.res.free 3
  have g4 := k2.res.free 4
  have g5 := k2.res.free 5
  have hp : ((k : Int) + 1 + 1) = ((k + 2 : Nat) : Int) := by omega
  rw [hp] at k2
  have K2 := Lib.hid k2
  clear k2 hp
  go_wp2_with fail
  exact bodyPost_ret (v := .agg #[.int .i64 1, .int .i64 0, .int .u8 ((gN l (k + 1) : Nat) : Int), .int .u8 0, .int .u16 0, .int .i64 0]) (by simp [results, Tryd.results18, go_sem, r0, r1, r2, r3, r4, r5]) rfl ⟨rfl, src_fill K2.out.src K2.out.lo _ _ _ _ _ _, aside_fill K2.out.asd (Nat.le_refl _) _ _ _ _ _ _⟩
set_option maxRecDepth 100000 in
set_option maxHeartbeats 1600000 in
theorem ins237 (S : Nat) (v : Value) (l : List Nat) (k : Nat) (w : World) (h : Src w S v l k) (hk : k ≤ 20) (h203 : (((gN l k : Nat) : Int) == 203) = false) (h237 : (((gN l k : Nat) : Int) == 237) = true) : Calls Tryd.prog 18 #[.pointer (some ⟨S, 0, none⟩)] w fun e w' => e = .returned (.agg (moreR l (k + 1)).arr) ∧ Src w' S v l (((moreK l (k + 1) : Nat) : Int)) ∧ Aside S w w' := by
  have gl := h.gN_lt k
  obtain ⟨x, hx⟩ : ∃ x : In, moreR l (k + 1) = x := ⟨_, rfl⟩
  rw [hx]
  have HN := Lib.hid (fun w (h : Src w S v l ((k : Int) + 1)) => more_any S v l (k + 1) w h (by omega))
  rw [hx] at HN
  clear hx
  have K := Lib.hid (ReG.made h)
  clear h gl
  unfold In.arr zeroI at *
  go_enter Tryd.func18, Tryd.ntmps18
  go_wp2_with fail
  refine (next_is S v l k _ _ K.out.src rfl (by omega)).mono ?_
  rintro e w1 ⟨rfl, hs, ha⟩
  have k1 := K.out.next hs ha
  have K1 := Lib.hid k1
  clear hs ha K k1
  go_wp2_with fail
  refine (HN.out _ K1.out.src).mono ?_
  rintro e w2 ⟨rfl, hs, ha⟩
  have k2 := K1.out.next hs ha
  clear hs ha K1
  have r0 : w2.cell? ⟨w.heap.size, 0, none⟩ = some (.int .i64 0) := k2.res.cell 0 _ rfl
  have r1 : w2.cell? ⟨w.heap.size, 1, none⟩ = some (.int .i64 0) := k2.res.cell 1 _ rfl
  have r2 : w2.cell? ⟨w.heap.size, 2, none⟩ = some (.int .u8 0) := k2.res.cell 2 _ rfl
  have r3 : w2.cell? ⟨w.heap.size, 3, none⟩ = some (.int .u8 0) := k2.res.cell 3 _ rfl
  have r4 : w2.cell? ⟨w.heap.size, 4, none⟩ = some (.int .u16 0) := k2.res.cell 4 _ rfl
  have r5 : w2.cell? ⟨w.heap.size, 5, none⟩ = some (.int .i64 0) := k2.res.cell 5 _ rfl
  have g0 := k2.res.free 0
  have g1 := k2.res.free 1
  have g2 := k2.res.free 2
  have g3 := k2.res.free 3
  have g4 := k2.res.free 4
  have g5 := k2.res.free 5
  have K2 := Lib.hid k2
  clear k2
  go_wp2_with fail
  exact bodyPost_ret (v := .agg #[.int .i64 x.set, .int .i64 x.ix, .int .u8 (x.code : Int), .int .u8 (x.d : Int), .int .u16 (x.n : Int), .int .i64 x.len]) (by simp [results, Tryd.results18, go_sem, r0, r1, r2, r3, r4, r5]) rfl ⟨rfl, src_fill K2.out.src K2.out.lo _ _ _ _ _ _, aside_fill K2.out.asd (Nat.le_refl _) _ _ _ _ _ _⟩
set_option maxRecDepth 100000 in
set_option maxHeartbeats 1600000 in
theorem ins221 (S : Nat) (v : Value) (l : List Nat) (k : Nat) (w : World) (h : Src w S v l k) (hk : k ≤ 20) (h203 : (((gN l k : Nat) : Int) == 203) = false) (h237 : (((gN l k : Nat) : Int) == 237) = false) (h221 : (((gN l k : Nat) : Int) == 221) = true) : Calls Tryd.prog 18 #[.pointer (some ⟨S, 0, none⟩)] w fun e w' => e = .returned (.agg (behR l (k + 1) 1).arr) ∧ Src w' S v l (((behK l (k + 1) 1 : Nat) : Int)) ∧ Aside S w w' := by
  have gl := h.gN_lt k
  obtain ⟨x, hx⟩ : ∃ x : In, behR l (k + 1) 1 = x := ⟨_, rfl⟩
  rw [hx]
  have HN := Lib.hid (fun w (h : Src w S v l ((k : Int) + 1)) => beh_any S v l (k + 1) 1 w h (by omega) (by decide) (by decide))
  rw [hx] at HN
  clear hx
  have K := Lib.hid (ReG.made h)
  clear h gl
  unfold In.arr zeroI at *
  go_enter Tryd.func18, Tryd.ntmps18
  go_wp2_with fail
  refine (next_is S v l k _ _ K.out.src rfl (by omega)).mono ?_
  rintro e w1 ⟨rfl, hs, ha⟩
  have k1 := K.out.next hs ha
  have K1 := Lib.hid k1
  clear hs ha K k1
  go_wp2_with fail
  refine (HN.out _ K1.out.src).mono ?_
  rintro e w2 ⟨rfl, hs, ha⟩
  have k2 := K1.out.next hs ha
  clear hs ha K1
  have r0 : w2.cell? ⟨w.heap.size, 0, none⟩ = some (.int .i64 0) := k2.res.cell 0 _ rfl
  have r1 : w2.cell? ⟨w.heap.size, 1, none⟩ = some (.int .i64 0) := k2.res.cell 1 _ rfl
  have r2 : w2.cell? ⟨w.heap.size, 2, none⟩ = some (.int .u8 0) := k2.res.cell 2 _ rfl
  have r3 : w2.cell? ⟨w.heap.size, 3, none⟩ = some (.int .u8 0) := k2.res.cell 3 _ rfl
  have r4 : w2.cell? ⟨w.heap.size, 4, none⟩ = some (.int .u16 0) := k2.res.cell 4 _ rfl
  have r5 : w2.cell? ⟨w.heap.size, 5, none⟩ = some (.int .i64 0) := k2.res.cell 5 _ rfl
  have g0 := k2.res.free 0
  have g1 := k2.res.free 1
  have g2 := k2.res.free 2
  have g3 := k2.res.free 3
  have g4 := k2.res.free 4
  have g5 := k2.res.free 5
  have K2 := Lib.hid k2
  clear k2
  go_wp2_with fail
  exact bodyPost_ret (v := .agg #[.int .i64 x.set, .int .i64 x.ix, .int .u8 (x.code : Int), .int .u8 (x.d : Int), .int .u16 (x.n : Int), .int .i64 x.len]) (by simp [results, Tryd.results18, go_sem, r0, r1, r2, r3, r4, r5]) rfl ⟨rfl, src_fill K2.out.src K2.out.lo _ _ _ _ _ _, aside_fill K2.out.asd (Nat.le_refl _) _ _ _ _ _ _⟩
set_option maxRecDepth 100000 in
set_option maxHeartbeats 1600000 in
theorem ins253 (S : Nat) (v : Value) (l : List Nat) (k : Nat) (w : World) (h : Src w S v l k) (hk : k ≤ 20) (h203 : (((gN l k : Nat) : Int) == 203) = false) (h237 : (((gN l k : Nat) : Int) == 237) = false) (h221 : (((gN l k : Nat) : Int) == 221) = false) (h253 : (((gN l k : Nat) : Int) == 253) = true) : Calls Tryd.prog 18 #[.pointer (some ⟨S, 0, none⟩)] w fun e w' => e = .returned (.agg (behR l (k + 1) 2).arr) ∧ Src w' S v l (((behK l (k + 1) 2 : Nat) : Int)) ∧ Aside S w w' := by
  have gl := h.gN_lt k
  obtain ⟨x, hx⟩ : ∃ x : In, behR l (k + 1) 2 = x := ⟨_, rfl⟩
  rw [hx]
  have HN := Lib.hid (fun w (h : Src w S v l ((k : Int) + 1)) => beh_any S v l (k + 1) 2 w h (by omega) (by decide) (by decide))
  rw [hx] at HN
  clear hx
  have K := Lib.hid (ReG.made h)
  clear h gl
  unfold In.arr zeroI at *
  go_enter Tryd.func18, Tryd.ntmps18
  go_wp2_with fail
  refine (next_is S v l k _ _ K.out.src rfl (by omega)).mono ?_
  rintro e w1 ⟨rfl, hs, ha⟩
  have k1 := K.out.next hs ha
  have K1 := Lib.hid k1
  clear hs ha K k1
  go_wp2_with fail
  refine (HN.out _ K1.out.src).mono ?_
  rintro e w2 ⟨rfl, hs, ha⟩
  have k2 := K1.out.next hs ha
  clear hs ha K1
  have r0 : w2.cell? ⟨w.heap.size, 0, none⟩ = some (.int .i64 0) := k2.res.cell 0 _ rfl
  have r1 : w2.cell? ⟨w.heap.size, 1, none⟩ = some (.int .i64 0) := k2.res.cell 1 _ rfl
  have r2 : w2.cell? ⟨w.heap.size, 2, none⟩ = some (.int .u8 0) := k2.res.cell 2 _ rfl
  have r3 : w2.cell? ⟨w.heap.size, 3, none⟩ = some (.int .u8 0) := k2.res.cell 3 _ rfl
  have r4 : w2.cell? ⟨w.heap.size, 4, none⟩ = some (.int .u16 0) := k2.res.cell 4 _ rfl
  have r5 : w2.cell? ⟨w.heap.size, 5, none⟩ = some (.int .i64 0) := k2.res.cell 5 _ rfl
  have g0 := k2.res.free 0
  have g1 := k2.res.free 1
  have g2 := k2.res.free 2
  have g3 := k2.res.free 3
  have g4 := k2.res.free 4
  have g5 := k2.res.free 5
  have K2 := Lib.hid k2
  clear k2
  go_wp2_with fail
  exact bodyPost_ret (v := .agg #[.int .i64 x.set, .int .i64 x.ix, .int .u8 (x.code : Int), .int .u8 (x.d : Int), .int .u16 (x.n : Int), .int .i64 x.len]) (by simp [results, Tryd.results18, go_sem, r0, r1, r2, r3, r4, r5]) rfl ⟨rfl, src_fill K2.out.src K2.out.lo _ _ _ _ _ _, aside_fill K2.out.asd (Nat.le_refl _) _ _ _ _ _ _⟩
set_option maxRecDepth 100000 in
set_option maxHeartbeats 1600000 in
theorem insP (S : Nat) (v : Value) (l : List Nat) (k : Nat) (w : World) (h : Src w S v l k) (hk : k ≤ 20) (h203 : (((gN l k : Nat) : Int) == 203) = false) (h237 : (((gN l k : Nat) : Int) == 237) = false) (h221 : (((gN l k : Nat) : Int) == 221) = false) (h253 : (((gN l k : Nat) : Int) == 253) = false) : Calls Tryd.prog 18 #[.pointer (some ⟨S, 0, none⟩)] w fun e w' => e = .returned (.agg (plainR l (k + 1) (gN l k) 0).arr) ∧ Src w' S v l (((atD (gN l k) 0 (k + 1) + argC (gN l k) : Nat) : Int)) ∧ Aside S w w' := by
  have gl := h.gN_lt k
  obtain ⟨x, hx⟩ : ∃ x : In, plainR l (k + 1) (gN l k) 0 = x := ⟨_, rfl⟩
  rw [hx]
  have HN := Lib.hid (fun w (h : Src w S v l ((k : Int) + 1)) => plainR_any S v l (k + 1) (gN l k) 0 w h (by omega) gl (by decide) (by decide))
  rw [hx] at HN
  clear hx
  have K := Lib.hid (ReG.made h)
  clear h gl
  unfold In.arr zeroI at *
  go_enter Tryd.func18, Tryd.ntmps18
  go_wp2_with fail
  refine (next_is S v l k _ _ K.out.src rfl (by omega)).mono ?_
  rintro e w1 ⟨rfl, hs, ha⟩
  have k1 := K.out.next hs ha
  have K1 := Lib.hid k1
  clear hs ha K k1
  go_wp2_with fail
  refine (HN.out _ K1.out.src).mono ?_
  rintro e w2 ⟨rfl, hs, ha⟩
  have k2 := K1.out.next hs ha
  clear hs ha K1
  have r0 : w2.cell? ⟨w.heap.size, 0, none⟩ = some (.int .i64 0) := k2.res.cell 0 _ rfl
  have r1 : w2.cell? ⟨w.heap.size, 1, none⟩ = some (.int .i64 0) := k2.res.cell 1 _ rfl
  have r2 : w2.cell? ⟨w.heap.size, 2, none⟩ = some (.int .u8 0) := k2.res.cell 2 _ rfl
  have r3 : w2.cell? ⟨w.heap.size, 3, none⟩ = some (.int .u8 0) := k2.res.cell 3 _ rfl
  have r4 : w2.cell? ⟨w.heap.size, 4, none⟩ = some (.int .u16 0) := k2.res.cell 4 _ rfl
  have r5 : w2.cell? ⟨w.heap.size, 5, none⟩ = some (.int .i64 0) := k2.res.cell 5 _ rfl
  have g0 := k2.res.free 0
  have g1 := k2.res.free 1
  have g2 := k2.res.free 2
  have g3 := k2.res.free 3
  have g4 := k2.res.free 4
  have g5 := k2.res.free 5
  have K2 := Lib.hid k2
  clear k2
  go_wp2_with fail
  exact bodyPost_ret (v := .agg #[.int .i64 x.set, .int .i64 x.ix, .int .u8 (x.code : Int), .int .u8 (x.d : Int), .int .u16 (x.n : Int), .int .i64 x.len]) (by simp [results, Tryd.results18, go_sem, r0, r1, r2, r3, r4, r5]) rfl ⟨rfl, src_fill K2.out.src K2.out.lo _ _ _ _ _ _, aside_fill K2.out.asd (Nat.le_refl _) _ _ _ _ _ _⟩
theorem ins_any (S : Nat) (v : Value) (l : List Nat) (w : World) (h : Src w S v l ((0 : Nat) : Int)) : Calls Tryd.prog 18 #[.pointer (some ⟨S, 0, none⟩)] w fun e w' => e = .returned (.agg (insR l).arr) ∧ Src w' S v l ((insK l : Nat) : Int) ∧ Aside S w w' := by
  have key : ∀ n m : Nat, n ≠ m → ((n : Int) == (m : Int)) = false := fun n m h => by rw [beq_eq_false_iff_ne]; omega
  have keyt : ∀ n m : Nat, n = m → ((n : Int) == (m : Int)) = true := fun n m h => by rw [beq_iff_eq]; omega
  unfold insR insK
  by_cases h1 : gN l 0 = 203
  · rw [if_pos h1, if_pos h1]
    exact ins203 S v l 0 w h (by decide) (keyt _ 203 h1)
  rw [if_neg h1, if_neg h1]
  by_cases h2 : gN l 0 = 237
  · rw [if_pos h2, if_pos h2]
    exact ins237 S v l 0 w h (by decide) (key _ 203 h1) (keyt _ 237 h2)
  rw [if_neg h2, if_neg h2]
  by_cases h3 : gN l 0 = 221
  · rw [if_pos h3, if_pos h3]
    exact ins221 S v l 0 w h (by decide) (key _ 203 h1) (key _ 237 h2) (keyt _ 221 h3)
  rw [if_neg h3, if_neg h3]
  by_cases h4 : gN l 0 = 253
  · rw [if_pos h4, if_pos h4]
    exact ins253 S v l 0 w h (by decide) (key _ 203 h1) (key _ 237 h2) (key _ 221 h3) (keyt _ 253 h4)
  · rw [if_neg h4, if_neg h4]
    exact insP S v l 0 w h (by decide) (key _ 203 h1) (key _ 237 h2) (key _ 221 h3) (key _ 253 h4)


end Go.Proofs.YtkjibnnoeceaeaaDoor
