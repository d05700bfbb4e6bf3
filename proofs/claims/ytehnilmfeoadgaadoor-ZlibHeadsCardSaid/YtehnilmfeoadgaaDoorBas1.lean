/- Texts put together: Kit, HuffMath, Ch, AppendRow, Bytes, BytesOpen, BytesCut, BigCells, Ints, RowIndex, HuffArr, HuffCount, HuffFirsts, HuffCodes, HuffNew, HuffRead, HuffTake, HuffNext, HuffTakeN, HuffBytes, InfMath, InfAt, InfTake, InfFar, HeldTail, InfDist, InfPut, InfBack, InfSyms, InfNew, InfArr, InfFixed, InfKind1, InfStored, InfCount, InfRep, InfFill. -/
import Derived.WalkKit
import Derived.WalkSpells
import Derived.OpenShut
import Derived.Deep.QuietTactic
import Derived.Deep.RegionHeld3
import Derived.Deep.AppendLies
import Derived.Laws.OwnMore
import Derived.Laws.AppendOwnNone
import Derived.WideShapes
import Derived.Test.YtehnilmfeoadgaaDoorProg
import Derived.ChangeSlices
import Derived.Deep.Slices
import Derived.Laws.CopyRow
import Derived.Deep.MidRow
import Derived.BigQuiet
import Derived.RegionTactic
import Derived.Laws.MakeOwn
import Derived.Laws.StructEq
import Derived.Laws.CopyOwn
import Derived.LoopTactic
import Derived.Lib.Hide
import Derived.ChangeAlike
import Derived.Lib.BufferMore
import Derived.StillTail
import Derived.Deep.LoopGhost
/- Small general facts on worlds, rows that a call made and numbers of a byte: no program is named here. -/
namespace Go.Proofs.YtehnilmfeoadgaaDoor
open Go.RowKit

theorem u8_bd {a : Int} (h : (Lit.int .u8 a).wf = true) : 0 ≤ a ∧ a ≤ 255 := by
  have := bounds_u8 h
  omega

theorem below_push {B base n s : Nat} {e : TypeId} {w wr w1 : World} {v : Value} {xs : List Value} {o : Obj} (hnx : Below B w wr) (hown : wr.ownsRow base e s v n xs) (hB : B ≤ base) (hs : B ≤ wr.heap.size)
    (hg : (wr.alloc o).grownBy w1 v.ownBlock) : Below B w w1 :=
  (hnx.alloc hs o).grown hg (by simp; omega) (fun j hj => by have := (hown.lt j hj).1; omega)

/-- The slice v has the values xs, in a block of its own. -/
def RowAt (w : World) (v : Value) (xs : List Value) : Prop :=
  ∃ g cap, v = .slice (some ⟨g, 0, none⟩) xs.length cap ∧ g < w.heap.size ∧ xs.length ≤ cap ∧ cap ≤ maxLen ∧ ∀ i (h : i < xs.length), w.cell? ⟨g, i, none⟩ = some xs[i]

theorem RowAt.later {w w' : World} {v : Value} {xs : List Value} (h : RowAt w v xs) (hb : Below w.heap.size w w') : RowAt w' v xs := by
  obtain ⟨g, cap, hv, hg, hc, hm, hcell⟩ := h
  refine ⟨g, cap, hv, Nat.lt_of_lt_of_le hg hb.size, hc, hm, fun i hi => ?_⟩
  rw [hb.cell (p := ⟨g, i, none⟩) hg]; exact hcell i hi

/-- One value of one cell put behind a row of the call's own: 'xs = append(xs, u)'. -/
theorem wpList_append_one {P : Program} {ops : Array Oper} {rest : List Oper} {o : Oper} {a : Act} {Q : Exit → Act → World → Prop} {wr : World} (base : Nat) (e t : TypeId) {z : Value} {bytes : Nat}
    (hinfo : (P.info? e).map (fun i => (i.zero, i.size, i.bytes)) = some (some z, 1, bytes)) (ht : P.underlying t = some (.slice e)) (hz : z.cells.size = 1)
    (hgd : o.guard = none) (s x : Operand) (ho : o.op = .call { callee := .builtin .append, args := #[s, x], argTypes := #[t, t] })
    (v : Value) (n : Nat) (xs : List Value) (hs : a.eval s = v) (hown : wr.ownsRow base e 1 v n xs) (u : Value) (hu : u.oneCell' = true)
    (hx : a.eval x = .slice (some ⟨wr.heap.size, 0, none⟩) 1 1) (hb1 : 1 ≤ bytes) (hbytes : (n + 1) * bytes ≤ 140737488355328) (hbase : base ≤ wr.heap.size)
    (h : ∀ v' w', w'.ownsRow base e 1 v' (n + 1) (xs ++ [u]) → Below base wr w' → wpList P ops Q rest (a.put o.dst v') w') : wpList P ops Q (o :: rest) a (wr.alloc (.cells #[u] e)) := by
  obtain ⟨i0, hi, hz0, hz1, hz2⟩ := info_parts hinfo
  have hn : n + 1 ≤ maxLen := by
    have : (n + 1) * 1 ≤ (n + 1) * bytes := Nat.mul_le_mul_left _ hb1
    unfold maxLen; omega
  refine wpList_append_own _ hgd s x t ho base e i0 z 1 bytes ht hi hz0 hz1 hz2 hz (by decide) v n xs hs (hown.alloc _) ⟨wr.heap.size, 0, none⟩ 1 1 [u] hx rfl (cell_one_new _ _ _) (by simp [hu]) hn hbytes (by simp; omega) ?_
  intro v' w' h1 h2 _
  exact h v' w' h1 (below_push (Below.refl _ _) hown (Nat.le_refl _) hbase h2)

end Go.Proofs.YtehnilmfeoadgaaDoor
/- Canonical codes: counts, first codes, places, the table; bits and their numbers; what is read. No program is named here. -/
namespace Go.Proofs.YtehnilmfeoadgaaDoor

/-- How many of the first m have length k. -/
def cnt (a : Nat → Nat) (k : Nat) : Nat → Nat
  | 0 => 0
  | m + 1 => cnt a k m + (if a m = k then 1 else 0)
theorem cnt_mono (a : Nat → Nat) (k m : Nat) : ∀ n, m ≤ n → cnt a k m ≤ cnt a k n
  | 0, h => by rw [Nat.le_zero.1 h]; exact Nat.le_refl _
  | n + 1, h => by
    by_cases e : m = n + 1
    · subst e; exact Nat.le_refl _
    · have := cnt_mono a k m n (by omega)
      rw [cnt]; split <;> omega
theorem cnt_lt (a : Nat → Nat) (k i n : Nat) (h : i < n) (e : a i = k) : cnt a k i < cnt a k n := by
  have := cnt_mono a k (i + 1) n h
  rw [cnt, if_pos e] at this
  omega
theorem cnt_le (a : Nat → Nat) (k : Nat) : ∀ n, cnt a k n ≤ n
  | 0 => Nat.le_refl _
  | n + 1 => by
    have := cnt_le a k n
    unfold cnt; split <;> omega
/-- How many codes of length k. -/
def cN (a : Nat → Nat) (n k : Nat) : Nat := if k = 0 then 0 else cnt a k n
theorem cN_pos (a : Nat → Nat) (n k : Nat) (h : k ≠ 0) : cN a n k = cnt a k n := if_neg h
theorem cN_zero (a : Nat → Nat) (n : Nat) : cN a n 0 = 0 := if_pos rfl
def fstC (N : Nat → Nat) : Nat → Nat
  | 0 => 0
  | k + 1 => 2 * (fstC N k + N k)
def plc (N : Nat → Nat) : Nat → Nat
  | 0 => 0
  | k + 1 => plc N k + N k
def ks (N : Nat → Nat) : Nat → Nat
  | 0 => 0
  | m + 1 => ks N m + N m * 2 ^ (15 - m)
def endC (N : Nat → Nat) (t : Nat) : Nat := fstC N t + N t
theorem fst_next (N : Nat → Nat) (t : Nat) : fstC N (t + 1) = 2 * endC N t := rfl
theorem plc_mono (N : Nat → Nat) (m : Nat) : ∀ n, m ≤ n → plc N m ≤ plc N n
  | 0, h => by obtain rfl : m = 0 := by omega
               exact Nat.le_refl _
  | n + 1, h => by
    by_cases e : m = n + 1
    · subst e; exact Nat.le_refl _
    · have := plc_mono N m n (by omega)
      rw [plc]
      exact Nat.le_trans this (Nat.le_add_right _ _)
/-- The lengths may be. -/
def okS (N : Nat → Nat) : Prop := ks N 16 = 32768 ∨ plc N 16 = 0 ∨ (plc N 16 = 1 ∧ N 1 = 1)
theorem plc16 (N : Nat → Nat) : plc N 16 = N 0 + N 1 + N 2 + N 3 + N 4 + N 5 + N 6 + N 7 + N 8 + N 9 + N 10 + N 11 + N 12 + N 13 + N 14 + N 15 := by
  simp [plc]
theorem ks16 (N : Nat → Nat) : ks N 16 = N 0 * 32768 + N 1 * 16384 + N 2 * 8192 + N 3 * 4096 + N 4 * 2048 + N 5 * 1024 + N 6 * 512 + N 7 * 256 + N 8 * 128 + N 9 * 64 + N 10 * 32 + N 11 * 16 + N 12 * 8 + N 13 * 4 + N 14 * 2 + N 15 := by
  simp [ks]
theorem okS.sum {N : Nat → Nat} (h : okS N) (h0 : N 0 = 0) : ks N 16 ≤ 32768 := by
  rcases h with h | h | ⟨h, h1⟩
  · omega
  · rw [plc16] at h; rw [ks16]; omega
  · rw [plc16] at h; rw [ks16]; omega
theorem of16 (P : Nat → Prop) : (∀ j, j < 16 → P j) ↔ P 0 ∧ P 1 ∧ P 2 ∧ P 3 ∧ P 4 ∧ P 5 ∧ P 6 ∧ P 7 ∧ P 8 ∧ P 9 ∧ P 10 ∧ P 11 ∧ P 12 ∧ P 13 ∧ P 14 ∧ P 15 := by
  constructor
  · intro h
    exact ⟨h 0 (by decide), h 1 (by decide), h 2 (by decide), h 3 (by decide), h 4 (by decide), h 5 (by decide), h 6 (by decide), h 7 (by decide), h 8 (by decide), h 9 (by decide), h 10 (by decide), h 11 (by decide), h 12 (by decide), h 13 (by decide), h 14 (by decide), h 15 (by decide)⟩
  · rintro ⟨h0, h1, h2, h3, h4, h5, h6, h7, h8, h9, h10, h11, h12, h13, h14, h15⟩ j hj
    have e : j = 0 ∨ j = 1 ∨ j = 2 ∨ j = 3 ∨ j = 4 ∨ j = 5 ∨ j = 6 ∨ j = 7 ∨ j = 8 ∨ j = 9 ∨ j = 10 ∨ j = 11 ∨ j = 12 ∨ j = 13 ∨ j = 14 ∨ j = 15 := by omega
    rcases e with rfl | rfl | rfl | rfl | rfl | rfl | rfl | rfl | rfl | rfl | rfl | rfl | rfl | rfl | rfl | rfl <;> assumption
theorem none16 (N : Nat → Nat) : (∀ j, j < 16 → N j = 0) ↔ plc N 16 = 0 := by
  rw [of16, plc16]; omega
theorem one16 (N : Nat → Nat) : (∀ j, j < 16 → N j = if j = 1 then 1 else 0) ↔ plc N 16 = 1 ∧ N 1 = 1 := by
  rw [of16, plc16]
  simp only [Nat.reduceEqDiff, if_true, if_false, Nat.zero_ne_one]
  omega

def csum (a : Nat → Nat) : Nat → Nat
  | 0 => 0
  | m + 1 => csum a m + (if a m = 0 then 0 else 1)
theorem cN_next (a : Nat → Nat) (n k : Nat) : cN a (n + 1) k = cN a n k + (if k ≠ 0 ∧ a n = k then 1 else 0) := by
  unfold cN
  by_cases h : k = 0
  · simp [h]
  · simp [h, cnt]
theorem plc_next (a : Nat → Nat) (n : Nat) : ∀ m, plc (cN a (n + 1)) m = plc (cN a n) m + (if a n ≠ 0 ∧ a n < m then 1 else 0)
  | 0 => by simp [plc]
  | m + 1 => by
    rw [plc, plc, plc_next a n m, cN_next]
    by_cases h : a n = m
    · subst h
      by_cases h0 : a n = 0
      · simp [h0]
      · simp [h0]
        omega
    · have e : (m ≠ 0 ∧ a n = m) ↔ False := by simp [h]
      simp only [e, if_false, Nat.add_zero]
      by_cases h1 : a n ≠ 0 ∧ a n < m
      · rw [if_pos h1, if_pos ⟨h1.1, by omega⟩]; omega
      · rw [if_neg h1, if_neg (fun x => h1 ⟨x.1, by omega⟩)]; omega
theorem cN_none (a : Nat → Nat) (k : Nat) : cN a 0 k = 0 := by unfold cN; split <;> rfl
theorem plc_none (a : Nat → Nat) : ∀ m, plc (cN a 0) m = 0
  | 0 => rfl
  | m + 1 => by rw [plc, plc_none a m, cN_none]
theorem csum_is (a : Nat → Nat) (ha : ∀ i, a i ≤ 15) : ∀ n, csum a n = plc (cN a n) 16
  | 0 => (plc_none a 16).symm
  | n + 1 => by
    have := ha n
    rw [csum, csum_is a ha n, plc_next]
    congr 1
    by_cases h : a n = 0
    · rw [if_pos h, if_neg (fun x => x.1 h)]
    · rw [if_neg h, if_pos ⟨h, by omega⟩]
theorem csum_le (a : Nat → Nat) : ∀ n, csum a n ≤ n
  | 0 => Nat.le_refl _
  | n + 1 => by have := csum_le a n; rw [csum]; split <;> omega
/-- The code of symbol i. -/
def codeC (a : Nat → Nat) (n i : Nat) : Nat := if a i = 0 then 0 else fstC (cN a n) (a i) + cnt a (a i) i
/-- The table of the symbols, behind m of them. -/
def tabF (a N : Nat → Nat) : Nat → Nat → Nat
  | 0 => fun _ => 0
  | m + 1 => if a m = 0 then tabF a N m else fun j => if j = plc N (a m) + cnt a (a m) m then m else tabF a N m j
theorem slot_lt (a : Nat → Nat) (n i : Nat) (h : a i ≠ 0) (hi : i < n) : plc (cN a n) (a i) + cnt a (a i) i < plc (cN a n) (a i + 1) := by
  have := cnt_lt a (a i) i n hi rfl
  rw [plc, cN_pos _ _ _ h]; omega
/-- The first t bits as a number. -/
def val (β : Nat → Nat) : Nat → Nat
  | 0 => 0
  | t + 1 => 2 * val β t + β t
theorem val_lt (β : Nat → Nat) (hβ : ∀ j, β j ≤ 1) : ∀ t, val β t < 2 ^ t
  | 0 => by simp [val]
  | t + 1 => by
    have := val_lt β hβ t
    have := hβ t
    rw [val, Nat.pow_succ]; omega
/-- What is read, n bits taken already: the symbol, how many bits, the error. -/
def stepD (N T β : Nat → Nat) (len : Nat) : Nat → Nat → Nat × Nat × Nat
  | 0, n => (0, n, 4)
  | f + 1, n => if val β n < endC N n then (T (plc N n + (val β n - fstC N n)), n, 0) else if plc N 16 ≤ plc N (n + 1) then (0, n, 4) else if len ≤ n then (0, len, 2) else stepD N T β len f (n + 1)
theorem step_hit (N T β : Nat → Nat) (len f n : Nat) (h : val β n < endC N n) : stepD N T β len (f + 1) n = (T (plc N n + (val β n - fstC N n)), n, 0) := by rw [stepD, if_pos h]
theorem step_form (N T β : Nat → Nat) (len f n : Nat) (h : endC N n ≤ val β n) (h2 : plc N 16 ≤ plc N (n + 1)) : stepD N T β len (f + 1) n = (0, n, 4) := by rw [stepD, if_neg (by omega), if_pos h2]
theorem step_end (N T β : Nat → Nat) (len f n : Nat) (h : endC N n ≤ val β n) (h2 : plc N (n + 1) < plc N 16) (h3 : len ≤ n) : stepD N T β len (f + 1) n = (0, len, 2) := by rw [stepD, if_neg (by omega), if_neg (by omega), if_pos h3]
theorem step_on (N T β : Nat → Nat) (len f n : Nat) (h : endC N n ≤ val β n) (h2 : plc N (n + 1) < plc N 16) (h3 : n < len) : stepD N T β len (f + 1) n = stepD N T β len f (n + 1) := by rw [stepD, if_neg (by omega), if_neg (by omega), if_neg (by omega)]
theorem low (N β : Nat → Nat) (hβ : ∀ j, β j ≤ 1) (j : Nat) (h : val β j < endC N j) : ∀ t, j < t → val β t < fstC N t
  | 0, ht => absurd ht (by omega)
  | t + 1, ht => by
    have hb := hβ t
    rw [val, fst_next]
    by_cases e : j = t
    · subst e; omega
    · have := low N β hβ j h t (by omega)
      unfold endC; omega
end Go.Proofs.YtehnilmfeoadgaaDoor
/- What a call may have changed. No program is named here. -/
namespace Go.Proofs.YtehnilmfeoadgaaDoor
open Go.RowKit

/-- Other worlds: all blocks but those of F are as they were. -/
structure Ch (F : Nat → Prop) (w w' : World) : Prop where
  os : w'.os = w.os
  tape : w'.tape = w.tape
  output : w'.output = w.output
  size : w.heap.size ≤ w'.heap.size
  block : ∀ k, k < w.heap.size → ¬ F k → w'.heap[k]? = w.heap[k]?
theorem Ch.of_below {F : Nat → Prop} {w w' : World} (h : Below w.heap.size w w') : Ch F w w' := ⟨h.os, h.tape, h.output, h.size, fun k hk _ => h.block k hk⟩
theorem Ch.refl (F : Nat → Prop) (w : World) : Ch F w w := Ch.of_below (Below.refl _ _)
theorem Ch.trans {F G : Nat → Prop} {a b c : World} (h : Ch F a b) (k : Ch G b c) (hG : ∀ i, G i → F i ∨ a.heap.size ≤ i) : Ch F a c :=
  ⟨k.os.trans h.os, k.tape.trans h.tape, k.output.trans h.output, Nat.le_trans h.size k.size, fun i hi hF => (k.block i (Nat.lt_of_lt_of_le hi h.size) (fun hg => by
    rcases hG i hg with x | x
    · exact hF x
    · omega)).trans (h.block i hi hF)⟩
theorem Ch.below {F : Nat → Prop} {w w' : World} {B : Nat} (h : Ch F w w') (hF : ∀ k, F k → B ≤ k) (hB : B ≤ w.heap.size) : Below B w w' :=
  ⟨h.os, h.tape, h.output, h.size, fun k hk => h.block k (by omega) (fun x => by have := hF k x; omega)⟩
theorem Ch.set {F : Nat → Prop} (w : World) (b j : Nat) (v : Value) (h : F b) : Ch F w (w.setCell ⟨b, j, none⟩ v) :=
  ⟨rfl, rfl, rfl, by simp [World.setCell], fun k _ hk => Below.heap_setCell _ _ _ _ (fun e => by subst e; exact hk h)⟩
theorem Ch.drew {F : Nat → Prop} {w w' : World} (h : Ch F w w') (n : Nat) : Ch F w (w'.drewN n) := ⟨h.os, h.tape, h.output, h.size, h.block⟩

theorem Ch.weak {F G : Nat → Prop} {w w' : World} (h : Ch F w w') (hG : ∀ i, F i → G i) : Ch G w w' := ⟨h.os, h.tape, h.output, h.size, fun k hk hF => h.block k hk fun x => hF (hG k x)⟩
theorem Ch.then {F : Nat → Prop} {a b c : World} (h : Ch F a b) (k : Ch F b c) : Ch F a c := h.trans k fun _ => Or.inl
theorem Ch.less {F : Nat → Prop} {a b c : World} (h : Ch F a b) (k : Below a.heap.size b c) : Ch F a c :=
  ⟨k.os.trans h.os, k.tape.trans h.tape, k.output.trans h.output, Nat.le_trans h.size k.size, fun i hi hF => (k.block i hi).trans (h.block i hi hF)⟩

end Go.Proofs.YtehnilmfeoadgaaDoor
/- Rows put behind rows that a call made: no program is named here. -/
namespace Go.Proofs.YtehnilmfeoadgaaDoor
open Go.RowKit

/-- A row put behind a row of the call's own: 'xs = append(xs, ys...)'. -/
theorem wpList_append_row {P : Program} {ops : Array Oper} {rest : List Oper} {o : Oper} {a : Act} {Q : Exit → Act → World → Prop} {wr : World} (base : Nat) (e t : TypeId) {z : Value} {bytes : Nat}
    (hinfo : (P.info? e).map (fun i => (i.zero, i.size, i.bytes)) = some (some z, 1, bytes)) (ht : P.underlying t = some (.slice e)) (hz : z.cells.size = 1)
    (hgd : o.guard = none) (s x : Operand) (ho : o.op = .call { callee := .builtin .append, args := #[s, x], argTypes := #[t, t] })
    (v : Value) (n : Nat) (xs : List Value) (hs : a.eval s = v) (hown : wr.ownsRow base e 1 v n xs)
    (ad : Addr) (m c : Nat) (news : List Value) (hx : a.eval x = .slice (some ad) m c) (hl : news.length = m) (hnews : ∀ j u, news[j]? = some u → wr.cell? (ad.add j) = some u) (h1 : ∀ u ∈ news, u.oneCell' = true)
    (hb1 : 1 ≤ bytes) (hbytes : (n + m) * bytes ≤ 140737488355328) (hbase : base ≤ wr.heap.size)
    (h : ∀ v' w', w'.ownsRow base e 1 v' (n + m) (xs ++ news) → Below base wr w' → wpList P ops Q rest (a.put o.dst v') w') : wpList P ops Q (o :: rest) a wr := by
  obtain ⟨i0, hi, hz0, hz1, hz2⟩ := info_parts hinfo
  have hn : n + m ≤ maxLen := by
    have : (n + m) * 1 ≤ (n + m) * bytes := Nat.mul_le_mul_left _ hb1
    unfold maxLen; omega
  refine wpList_append_own _ hgd s x t ho base e i0 z 1 bytes ht hi hz0 hz1 hz2 hz (by decide) v n xs hs hown ad m c news hx (by omega) hnews h1 hn hbytes hbase ?_
  intro v' w' h2 h3 _
  exact h v' w' h2 ((Below.refl _ _).grown h3 hbase (fun k hk => (hown.lt k hk).1))

end Go.Proofs.YtehnilmfeoadgaaDoor
/- Bytes in memory: whatever slice of them, wherever it lies. -/
namespace Go.Proofs.YtehnilmfeoadgaaDoor
open Go.RowKit

theorem bnew (w : World) (o : Obj) : Below w.heap.size w (w.alloc o) := (Below.refl _ _).alloc (Nat.le_refl _) _
theorem bdrawn {B : Nat} {w u : World} (h : Below B w u) (n : Nat) : Below B w (u.drewN n) := h.trans ⟨rfl, rfl, rfl, Nat.le_refl _, fun _ _ => rfl⟩
theorem blk_lt {w : World} {a : Addr} {v : Value} (h : w.cell? a = some v) : a.block < w.heap.size := by
  unfold World.cell? at h
  split at h
  · rename_i hb; exact (Array.getElem?_eq_some_iff.1 hb).1
  · cases h

/-- Number j of a list, 0 beyond its end. -/
def gI (l : List Int) (j : Nat) : Int := l.getD j 0
theorem gI_some (l : List Int) (j : Nat) (h : j < l.length) : l[j]? = some (gI l j) := by
  unfold gI
  rw [List.getD_eq_getElem?_getD, List.getElem?_eq_getElem h]
  rfl
theorem gI_end (l : List Int) (j : Nat) (h : l.length ≤ j) : gI l j = 0 := by
  unfold gI
  rw [List.getD_eq_getElem?_getD, List.getElem?_eq_none h]
  rfl
theorem gI_take (l : List Int) (k j : Nat) (h : j < k) : gI (l.take k) j = gI l j := by
  unfold gI
  rw [List.getD_eq_getElem?_getD, List.getD_eq_getElem?_getD, List.getElem?_take_of_lt h]
theorem gI_drop (l : List Int) (k j : Nat) : gI (l.drop k) j = gI l (k + j) := by
  unfold gI
  rw [List.getD_eq_getElem?_getD, List.getD_eq_getElem?_getD, List.getElem?_drop]
theorem gI_nil (j : Nat) : gI [] j = 0 := gI_end [] j (Nat.zero_le j)
theorem take_gI (l : List Int) (k : Nat) (h : k < l.length) : l.take (k + 1) = l.take k ++ [gI l k] := by
  rw [List.take_add_one, gI_some l k h]
  rfl
/-- Numbers of a byte. -/
def Byte8 (l : List Int) : Prop := ∀ j, 0 ≤ gI l j ∧ gI l j ≤ 255
theorem Byte8.nil : Byte8 [] := fun j => by rw [gI_nil]; omega
theorem Byte8.take {l : List Int} (h : Byte8 l) (k : Nat) : Byte8 (l.take k) := fun j => by
  by_cases hj : j < k
  · rw [gI_take l k j hj]; exact h j
  · rw [gI_end _ j (by simp; omega)]; omega
theorem Byte8.drop {l : List Int} (h : Byte8 l) (k : Nat) : Byte8 (l.drop k) := fun j => by rw [gI_drop]; exact h _
theorem gI_app_left (a b : List Int) (j : Nat) (h : j < a.length) : gI (a ++ b) j = gI a j := by
  unfold gI
  rw [List.getD_eq_getElem?_getD, List.getD_eq_getElem?_getD, List.getElem?_append_left h]
theorem gI_app_right (a b : List Int) (j : Nat) (h : a.length ≤ j) : gI (a ++ b) j = gI b (j - a.length) := by
  unfold gI
  rw [List.getD_eq_getElem?_getD, List.getD_eq_getElem?_getD, List.getElem?_append_right h]
theorem Byte8.app {a b : List Int} (h : Byte8 a) (k : Byte8 b) : Byte8 (a ++ b) := fun j => by
  by_cases hj : j < a.length
  · rw [gI_app_left a b j hj]; exact h j
  · rw [gI_app_right a b j (by omega)]; exact k _

/-- The slice of A, n and cap has the bytes l, in a block that F allows. -/
structure BAt8 (F : Nat → Prop) (w : World) (A : Option Addr) (n cap : Nat) (l : List Int) : Prop where
  len : l.length = n
  fit : n ≤ cap
  max : cap ≤ maxLen
  nil : A = none → cap = 0
  bd : Byte8 l
  lies : 0 < n → ∃ b o, A = some ⟨b, o, none⟩ ∧ F b ∧ b < w.heap.size ∧ ∀ j, j < n → w.cell? ⟨b, o + j, none⟩ = some (.int .u8 (gI l j))
theorem BAt8.keep {F : Nat → Prop} {w w' : World} {A : Option Addr} {n cap : Nat} {l : List Int} (h : BAt8 F w A n cap l) (hs : w.heap.size ≤ w'.heap.size) (hb : ∀ k, k < w.heap.size → F k → w'.heap[k]? = w.heap[k]?) : BAt8 F w' A n cap l :=
  ⟨h.len, h.fit, h.max, h.nil, h.bd, fun hn => by
    obtain ⟨b, o, h1, h2, h3, h4⟩ := h.lies hn
    exact ⟨b, o, h1, h2, Nat.lt_of_lt_of_le h3 hs, fun j hj => (World.cell?_of_block (a := ⟨b, o + j, none⟩) (hb b h3 h2)).trans (h4 j hj)⟩⟩
theorem BAt8.below {F : Nat → Prop} {w w' : World} {A : Option Addr} {n cap : Nat} {l : List Int} (h : BAt8 F w A n cap l) (hb : Below w.heap.size w w') : BAt8 F w' A n cap l := h.keep hb.size fun k hk _ => hb.block k hk
theorem BAt8.ch {F G : Nat → Prop} {w w' : World} {A : Option Addr} {n cap : Nat} {l : List Int} (h : BAt8 F w A n cap l) (hb : Ch G w w') (hF : ∀ k, F k → ¬ G k) : BAt8 F w' A n cap l := h.keep hb.size fun k hk hf => hb.block k hk (hF k hf)
theorem BAt8.weak {F G : Nat → Prop} {w : World} {A : Option Addr} {n cap : Nat} {l : List Int} (h : BAt8 F w A n cap l) (hF : ∀ k, k < w.heap.size → F k → G k) : BAt8 G w A n cap l :=
  ⟨h.len, h.fit, h.max, h.nil, h.bd, fun hn => by
    obtain ⟨b, o, h1, h2, h3, h4⟩ := h.lies hn
    exact ⟨b, o, h1, hF b h3 h2, h3, h4⟩⟩
theorem BAt8.empty (F : Nat → Prop) (w : World) : BAt8 F w none 0 0 [] := ⟨rfl, Nat.le_refl _, Nat.zero_le _, fun _ => rfl, Byte8.nil, fun h => absurd h (by omega)⟩
theorem BAt8.cut {F : Nat → Prop} {w : World} {A : Option Addr} {n cap : Nat} {l : List Int} (h : BAt8 F w A n cap l) (lo hi : Nat) (h1 : lo ≤ hi) (h2 : hi ≤ n) :
    BAt8 F w (if cap = lo then A else A.map (·.add (lo * 1))) (hi - lo) (cap - lo) ((l.take hi).drop lo) := by
  have h3 := h.fit
  have h4 := h.max
  have h5 := h.len
  refine ⟨by simp only [List.length_drop, List.length_take]; omega, by omega, by omega, fun hn => ?_, (h.bd.take hi).drop lo, fun hp => ?_⟩
  · by_cases e : cap = lo
    · omega
    · rw [if_neg e] at hn
      have := h.nil (by cases A <;> simp_all)
      omega
  · obtain ⟨b, o, rfl, k1, k2, k3⟩ := h.lies (by omega)
    rw [if_neg (by omega)]
    refine ⟨b, o + lo, by simp [Go.WideShapes.add_plain], k1, k2, fun j hj => ?_⟩
    rw [gI_drop, gI_take _ _ _ (by omega), Nat.add_assoc]
    exact k3 (lo + j) (by omega)
/-- Bytes in a block that was just made. -/
theorem byte8_of (l : List Int) (h : ∀ x ∈ l, 0 ≤ x ∧ x ≤ 255) : Byte8 l := fun j => by
  by_cases hj : j < l.length
  · have := gI_some l j hj
    exact h _ (List.mem_of_getElem? this)
  · rw [gI_end l j (by omega)]; omega
theorem BAt8.new (w : World) (l : List Int) (ty : TypeId) (fr : Nat × Nat) (cs : Array Value) (n : Nat) (hc : cs = (l.map fun x => Value.int .u8 x).toArray) (hn : l.length = n) (hm : n ≤ maxLen) (hb : ∀ x ∈ l, 0 ≤ x ∧ x ≤ 255) :
    BAt8 (fun _ => True) (w.alloc (.cells cs ty fr)) (some ⟨w.heap.size, 0, none⟩) n n l :=
  ⟨hn, Nat.le_refl _, hm, fun h => (by cases h), byte8_of l hb, fun _ => ⟨_, 0, rfl, trivial, by simp, fun j hj => by
    have := gI_some l j (by omega)
    rw [Nat.zero_add, cell_of_row _ w.heap.size j _ _ fr (heap_alloc_new w _), hc]
    simp [this]⟩⟩
/-- A row of the call's own, as bytes. -/
def u8I (x : Int) : Value := .int .u8 x
theorem u8I_one (l : List Int) : ∀ u ∈ l.map u8I, u.oneCell' = true := by
  intro u hu
  obtain ⟨n, _, rfl⟩ := List.mem_map.1 hu
  rfl
theorem u8I_at (l : List Int) (j : Nat) (h : j < l.length) : (l.map u8I)[j]? = some (.int .u8 (gI l j)) := by
  rw [List.getElem?_map, gI_some l j h]
  rfl
theorem bytes_own {w : World} {base n : Nat} {e : TypeId} {A : Option Addr} {m cap : Nat} {l : List Int} (h : w.ownsRow base e 1 (.slice A m cap) n (l.map u8I)) (hl : Byte8 l) : BAt8 (fun k => base ≤ k) w A n cap l := by
  have hlen : l.length = n := by have := h.1; simpa using this
  have hcopy := h
  rcases h.2 with ⟨e1, h0⟩ | ⟨g, cap', cur, e1, hb, hg, hnc, hm, _, _⟩
  · injection e1 with e1 e2 e3
    subst e1 e2 e3
    exact ⟨hlen, by omega, Nat.zero_le _, fun _ => rfl, hl, fun h => absurd h (by omega)⟩
  · injection e1 with e1 e2 e3
    subst e1 e2 e3
    refine ⟨hlen, by omega, hm, fun h => (by cases h), hl, fun _ => ⟨g, 0, rfl, hb, (Array.getElem?_eq_some_iff.1 hg).1, fun j hj => ?_⟩⟩
    rw [Nat.zero_add, hcopy.cellAt j (by omega), u8I_at _ _ (by omega)]
theorem own_slice {w : World} {base n : Nat} {e : TypeId} {size : Nat} {v : Value} {xs : List Value} (h : w.ownsRow base e size v n xs) : ∃ A cap, v = .slice A n cap ∧ n ≤ cap ∧ cap ≤ maxLen := by
  rcases h.2 with ⟨rfl, h0⟩ | ⟨g, cap, cur, rfl, _, _, hnc, hm, _, _⟩
  · refine ⟨none, 0, ?_, ?_, Nat.zero_le _⟩
    · rw [h0]
    · omega
  · exact ⟨_, cap, rfl, hnc, hm⟩
theorem news_u8 {F : Nat → Prop} {w : World} {a : Addr} {n cap : Nat} {l : List Int} (h : BAt8 F w (some a) n cap l) : ∀ j u, (l.map u8I)[j]? = some u → w.cell? (a.add j) = some u := by
  intro j u hu
  have hj : j < l.length := by have := (List.getElem?_eq_some_iff.1 hu).1; simpa using this
  have hl := h.len
  obtain ⟨b, o, e, _, _, hc⟩ := h.lies (by omega)
  injection e with e
  subst e
  rw [u8I_at l j hj] at hu
  rw [Go.WideShapes.add_plain, hc j (by omega)]
  exact hu
/-- 'append(xs, ys...)': xs a row of the call's own, ys whatever bytes. -/
theorem wpList_append_u8 {P : Program} {ops : Array Oper} {rest : List Oper} {o : Oper} {a : Act} {Q : Exit → Act → World → Prop} {wr : World} (base : Nat) (e t : TypeId)
    (hinfo : (P.info? e).map (fun i => (i.zero, i.size, i.bytes)) = some (some (.int .u8 0), 1, 1)) (ht : P.underlying t = some (.slice e))
    (hgd : o.guard = none) (s x : Operand) (ho : o.op = .call { callee := .builtin .append, args := #[s, x], argTypes := #[t, t] })
    (v : Value) (n : Nat) (xs : List Int) (hs : a.eval s = v) (hown : wr.ownsRow base e 1 v n (xs.map u8I))
    {F : Nat → Prop} {A : Option Addr} {m cap : Nat} {ys : List Int} (hx : a.eval x = .slice A m cap) (hy : BAt8 F wr A m cap ys) (hbytes : n + m ≤ 140737488355328) (hbase : base ≤ wr.heap.size)
    (h : ∀ v' w', w'.ownsRow base e 1 v' (n + m) ((xs ++ ys).map u8I) → Below base wr w' → wpList P ops Q rest (a.put o.dst v') w') : wpList P ops Q (o :: rest) a wr := by
  have hl := hy.len
  have hz := hy.nil
  have hf := hy.fit
  rcases A with _ | ad
  · have hc := hz rfl
    have hm : m = 0 := by omega
    obtain rfl : ys = [] := List.eq_nil_of_length_eq_zero (by omega)
    subst hm hc
    obtain ⟨i0, hi, _, _, _⟩ := info_parts hinfo
    refine wpList_append_own_none hgd s x t ho base e i0 1 ht hi v n _ hs hown hx (h v wr ?_ (Below.refl _ _))
    simpa using hown
  · refine wpList_append_row base e t hinfo ht rfl hgd s x ho v n _ hs hown ad m cap (ys.map u8I) hx (by simp [hl]) (news_u8 hy) (u8I_one ys) (by decide) (by omega) hbase (fun v' w' h1 h2 => h v' w' ?_ h2)
    rw [List.map_append]
    exact h1

end Go.Proofs.YtehnilmfeoadgaaDoor
/- Bytes, and rows of bytes, as arguments: opened. -/
namespace Go.Proofs.YtehnilmfeoadgaaDoor
open Go.ChangeShapes Go.WideShapes Go.RowKit Go.Deep
set_option linter.unusedVariables false

theorem laidOut : laidOutB Tryd.prog = true := by kernel_rfl
def BytesV (w : World) (v : Value) (l : List Int) : Prop := ∃ A n cap, v = .slice A n cap ∧ BAt8 (fun _ => True) w A n cap l
theorem open_u8c {H : Type} {enc : TypeId × Value → H} {w : World} {base fuel : Nat} {spare : Nat → Bool} {held : Bool} {v : Value} {x : DataW H × List MemPlace} (hf : DataW.trod enc Tryd.prog w base spare held fuel 22 [v] = some x) : ∃ l : List Int, BytesV w v l := by
  have hc : Tryd.prog.cellsOf 5 = 1 := by kernel_rfl
  rcases open_ints Tryd.underlying22 Tryd.underlying5 hc hf with ⟨hcs, hx⟩ | ⟨a, len, cap, zs, hcs, _, hl, hm, hz, hx, hcell, hwz⟩
  · obtain rfl : v = .slice none 0 0 := by simpa using hcs
    exact ⟨[], none, 0, 0, rfl, BAt8.empty _ _⟩
  · obtain rfl : v = .slice (some a) len cap := by simpa using hcs
    have hlz : len ≤ zs.length := by rw [hz]; split <;> omega
    refine ⟨zs.take len, some a, len, cap, rfl, by simp; omega, hl, hm, fun h => (by cases h), Byte8.take (fun j => ?_) len, fun hp => ?_⟩
    · unfold gI
      rw [List.getD_eq_getElem?_getD]
      exact range_u8 hwz j
    · obtain ⟨b, off, rfl, hcell'⟩ := ints_at hcell (by omega)
      refine ⟨b, off, rfl, trivial, ?_, fun j hj => ?_⟩
      · exact blk_lt (hcell' 0 (by omega))
      · rw [hcell' j (by omega), gI_take _ _ _ hj]
        rfl
set_option maxRecDepth 100000 in
theorem open_u8 {H : Type} {enc : TypeId × Value → H} {w : World} {base b0 : Nat} {spare : Nat → Bool} {held : Bool} {r : Reach} {v : Value} {d : DataW H} {p : List MemPlace}
    (hv : Value.okWide Tryd.prog w r b0 22 v) (h : DataW.Trod enc Tryd.prog w base spare held 22 v d p) : ∃ l : List Int, BytesV w v l := by
  obtain ⟨a1, len, cap, rfl⟩ := okWide_slice Tryd.underlying22 hv
  obtain ⟨fuel, hf⟩ := h
  exact open_u8c (v := .slice a1 len cap) hf

end Go.Proofs.YtehnilmfeoadgaaDoor
/- Bytes sliced, at this program's type of them. -/
namespace Go.Proofs.YtehnilmfeoadgaaDoor
open Go.RowKit

theorem infoB8 : (Tryd.prog.info? 5).map (fun i => (i.zero, i.size, i.bytes)) = some (some (.int .u8 0), 1, 1) := by kernel_rfl
theorem size8 (u : World) : (sizeOf (Tryd.prog.elem 22)).run Tryd.prog u = .ok 1 u := by kernel_rfl
theorem elem8 : Tryd.prog.underlying 22 = some (.slice (Tryd.prog.elem 22)) := by kernel_rfl
theorem cut_h {F : Nat → Prop} {w : World} {A : Option Addr} {n cap : Nat} {l : List Int} (h : BAt8 F w A n cap l) (hi : Int) (m : Nat) (hm : hi = m) (hle : m ≤ n) :
    ∃ A' c', (∀ u, (Instr.slice 22 (.slice A n cap) none (some (.int .i64 hi)) none).run Tryd.prog u = .ok (.slice A' m c') u) ∧ BAt8 F w A' m c' (l.take m) := by
  have hk := h.cut 0 m (Nat.zero_le _) hle
  have hf := h.fit
  refine ⟨_, _, fun u => ?_, hk⟩
  rw [run_slice_h u _ A n cap elem8 .i64 hi (by omega) (by omega), size8]
  simp [Result.andThen, sliced, hm]
theorem cut_l {F : Nat → Prop} {w : World} {A : Option Addr} {n cap : Nat} {l : List Int} (h : BAt8 F w A n cap l) (lo : Int) (m : Nat) (hm : lo = m) (hle : m ≤ n) :
    ∃ A' c', (∀ u, (Instr.slice 22 (.slice A n cap) (some (.int .i64 lo)) none none).run Tryd.prog u = .ok (.slice A' (n - m) c') u) ∧ BAt8 F w A' (n - m) c' (l.drop m) := by
  have hk := h.cut m n hle (Nat.le_refl _)
  have hf := h.fit
  have hl : l.take n = l := by rw [← h.len]; exact List.take_length
  rw [hl] at hk
  refine ⟨_, _, fun u => ?_, hk⟩
  rw [run_slice_l u _ A n cap elem8 .i64 lo (by omega) (by omega), size8]
  simp [Result.andThen, sliced, hm]
theorem cut_lh {F : Nat → Prop} {w : World} {A : Option Addr} {n cap : Nat} {l : List Int} (h : BAt8 F w A n cap l) (lo hi : Int) (m k : Nat) (hm : lo = m) (hk : hi = k) (h1 : m ≤ k) (h2 : k ≤ n) :
    ∃ A' c', (∀ u, (Instr.slice 22 (.slice A n cap) (some (.int .i64 lo)) (some (.int .i64 hi)) none).run Tryd.prog u = .ok (.slice A' (k - m) c') u) ∧ BAt8 F w A' (k - m) c' ((l.take k).drop m) := by
  have hc := h.cut m k h1 h2
  have hf := h.fit
  refine ⟨_, _, fun u => ?_, hc⟩
  rw [run_slice_lh u _ A n cap elem8 .i64 .i64 lo hi (by omega) (by omega) (by omega), size8]
  simp [Result.andThen, sliced, hm, hk]

end Go.Proofs.YtehnilmfeoadgaaDoor
/- Blocks of many cells as functions; their zero value; rows that are told apart. No program is named here. -/
namespace Go.Proofs.YtehnilmfeoadgaaDoor
open Go.RowKit

def updN (f : Nat → Int) (i : Nat) (v : Int) : Nat → Int := fun j => if j = i then v else f j
theorem updN_same (f : Nat → Int) (i : Nat) (v : Int) : updN f i v i = v := if_pos rfl
theorem updN_other (f : Nat → Int) (i j : Nat) (v : Int) (h : j ≠ i) : updN f i v j = f j := if_neg h
/-! Cells. -/
def upd (C : Nat → Value) (j : Nat) (v : Value) : Nat → Value := fun i => if i = j then v else C i
theorem upd_same (C : Nat → Value) (j : Nat) (v : Value) : upd C j v j = v := if_pos rfl
/-- A block of n cells, those of C. -/
def Cells (w : World) (b : Nat) (ty : TypeId) (n : Nat) (C : Nat → Value) : Prop := ∃ A : Array Value, w.heap[b]? = some (.cells A ty (0, 0)) ∧ A.size = n ∧ ∀ j, j < n → A[j]? = some (C j)
theorem Cells.lt {w : World} {b : Nat} {ty : TypeId} {n : Nat} {C : Nat → Value} (h : Cells w b ty n C) : b < w.heap.size := by
  obtain ⟨A, h, _⟩ := h
  exact (Array.getElem?_eq_some_iff.1 h).1
theorem Cells.cell {w : World} {b : Nat} {ty : TypeId} {n : Nat} {C : Nat → Value} (h : Cells w b ty n C) (j : Nat) (hj : j < n) : w.cell? ⟨b, j, none⟩ = some (C j) := by
  obtain ⟨A, h1, h2, h3⟩ := h
  rw [cell_of_row w b j _ _ (0, 0) h1, h3 j hj]
theorem Cells.frozen {w : World} {b : Nat} {ty : TypeId} {n : Nat} {C : Nat → Value} (h : Cells w b ty n C) (j : Nat) : w.frozen? ⟨b, j, none⟩ = false := by
  obtain ⟨A, h1, _⟩ := h
  exact frozen_of_row w b j _ _ h1
theorem Cells.block {w w' : World} {b : Nat} {ty : TypeId} {n : Nat} {C : Nat → Value} (h : Cells w b ty n C) (hb : w'.heap[b]? = w.heap[b]?) : Cells w' b ty n C := by
  obtain ⟨A, h1, h2⟩ := h
  exact ⟨A, hb.trans h1, h2⟩
theorem Cells.below {w w' : World} {b : Nat} {ty : TypeId} {n : Nat} {C : Nat → Value} (h : Cells w b ty n C) (hb : Below w.heap.size w w') : Cells w' b ty n C := h.block (hb.block b h.lt)
theorem Cells.set {w : World} {b : Nat} {ty : TypeId} {n : Nat} {C : Nat → Value} (h : Cells w b ty n C) (j : Nat) (v : Value) : Cells (w.setCell ⟨b, j, none⟩ v) b ty n (upd C j v) := by
  obtain ⟨A, h1, h2, h3⟩ := h
  refine ⟨A.setIfInBounds j v, heap_setCell_same w b j _ _ _ h1, by simpa using h2, fun i hi => ?_⟩
  unfold upd
  by_cases e : j = i
  · subst e
    rw [Array.getElem?_setIfInBounds_self_of_lt (by omega), if_pos rfl]
  · rw [Array.getElem?_setIfInBounds_ne e, if_neg (fun x => e x.symm), h3 i hi]
theorem Cells.congr {w : World} {b : Nat} {ty : TypeId} {n : Nat} {C D : Nat → Value} (h : Cells w b ty n C) (e : ∀ j, j < n → C j = D j) : Cells w b ty n D := by
  obtain ⟨A, h1, h2, h3⟩ := h
  exact ⟨A, h1, h2, fun j hj => by rw [h3 j hj, e j hj]⟩
theorem Cells.new (w : World) (A : Array Value) (ty : TypeId) (n : Nat) (C : Nat → Value) (h2 : A.size = n) (h3 : ∀ j, j < n → A[j]? = some (C j)) : Cells (w.alloc (.cells A ty)) w.heap.size ty n C :=
  ⟨A, heap_alloc_new w _, h2, h3⟩
def isI64z : Value → Bool
  | .int .i64 n => n == 0
  | _ => false
def eatZ (c : Value → Bool) : Nat → List Value → Option (List Value)
  | 0, l => some l
  | _ + 1, [] => none
  | n + 1, v :: l => match c v with
    | true => eatZ c n l
    | false => none
theorem eatZ_spec (c : Value → Bool) : ∀ (n : Nat) (l r : List Value), eatZ c n l = some r → l.length = n + r.length ∧ r = l.drop n ∧ ∀ i, i < n → ∃ v, l[i]? = some v ∧ c v = true
  | 0, l, r, h => by
    simp only [eatZ, Option.some.injEq] at h
    subst h
    exact ⟨by simp, by simp, fun i hi => absurd hi (by omega)⟩
  | n + 1, [], r, h => by simp [eatZ] at h
  | n + 1, v :: l, r, h => by
    cases hc : c v with
    | false => simp [eatZ, hc] at h
    | true =>
      simp only [eatZ, hc] at h
      obtain ⟨h1, h2, h3⟩ := eatZ_spec c n l r h
      refine ⟨by simp only [List.length_cons]; omega, by simpa using h2, fun i hi => ?_⟩
      cases i with
      | zero => exact ⟨v, rfl, hc⟩
      | succ i => simpa using h3 i (by omega)
theorem of_i64z {v : Value} (h : isI64z v = true) : v = .int .i64 0 := by
  unfold isI64z at h
  split at h
  · rw [eq_of_beq h]
  · cases h
def zeroL (o : Option TypeInfo) : Option (List Value) :=
  match o with
  | some i => match i.zero with
    | some (.agg A) => some A.toList
    | _ => none
  | none => none
def eatAll : List (Nat × (Value → Bool)) → List Value → Option (List Value)
  | [], l => some l
  | x :: r, l => match eatZ x.2 x.1 l with
    | some l' => eatAll r l'
    | none => none
def total : List (Nat × (Value → Bool)) → Nat
  | [] => 0
  | x :: r => x.1 + total r
def atZ : List (Nat × (Value → Bool)) → Nat → Value → Bool
  | [], _, _ => false
  | x :: r, i, v => if i < x.1 then x.2 v else atZ r (i - x.1) v
theorem eatAll_spec : ∀ (L : List (Nat × (Value → Bool))) (l : List Value), eatAll L l = some [] → l.length = total L ∧ ∀ i, i < total L → ∃ v, l[i]? = some v ∧ atZ L i v = true
  | [], l, h => by
    simp only [eatAll, Option.some.injEq] at h
    subst h
    exact ⟨rfl, fun i hi => absurd hi (by simp [total])⟩
  | x :: r, l, h => by
    unfold eatAll at h
    split at h
    · rename_i l' hl
      obtain ⟨h1, h2, h3⟩ := eatZ_spec _ _ _ _ hl
      obtain ⟨k1, k2⟩ := eatAll_spec r l' h
      refine ⟨by simp only [total]; omega, fun i hi => ?_⟩
      by_cases hx : i < x.1
      · obtain ⟨v, a1, a2⟩ := h3 i hx
        exact ⟨v, a1, by simp only [atZ, if_pos hx]; exact a2⟩
      · obtain ⟨v, a1, a2⟩ := k2 (i - x.1) (by simp only [total] at hi; omega)
        refine ⟨v, ?_, by simp only [atZ, if_neg hx]; exact a2⟩
        rw [h2, List.getElem?_drop] at a1
        rwa [show x.1 + (i - x.1) = i by omega] at a1
    · cases h
def isE : Option (List Value) → Bool
  | some [] => true
  | _ => false
theorem of_isE {o : Option (List Value)} (h : isE o = true) : o = some [] := by
  unfold isE at h
  split at h
  · rfl
  · cases h
def eatO (L : List (Nat × (Value → Bool))) (o : Option TypeInfo) : Bool :=
  match zeroL o with
  | some l => isE (eatAll L l)
  | none => false
theorem zero_of (o : Option TypeInfo) (L : List (Nat × (Value → Bool))) (h : eatO L o = true) : ∃ i A, o = some i ∧ i.zero = some (.agg A) ∧ A.size = total L ∧ ∀ j, j < total L → ∃ v, A[j]? = some v ∧ atZ L j v = true := by
  unfold eatO at h
  split at h
  · rename_i l hl
    unfold zeroL at hl
    split at hl
    · rename_i o' i
      split at hl
      · rename_i z A hz
        cases hl
        obtain ⟨h1, h2⟩ := eatAll_spec _ _ (of_isE h)
        exact ⟨i, A, rfl, hz, by simpa using h1, fun j hj => by simpa using h2 j hj⟩
      · cases hl
    · cases hl
  · cases h
end Go.Proofs.YtehnilmfeoadgaaDoor
/- Slices of int in memory: whatever slice of them, wherever it lies; cut; opened as an argument. -/
namespace Go.Proofs.YtehnilmfeoadgaaDoor
open Go.ChangeShapes Go.WideShapes Go.RowKit Go.Deep
set_option linter.unusedVariables false

/-- The slice of A, n and cap has the numbers l, in a block that F allows. -/
structure IAt (F : Nat → Prop) (w : World) (A : Option Addr) (n cap : Nat) (l : List Int) : Prop where
  len : l.length = n
  fit : n ≤ cap
  max : cap ≤ maxLen
  nil : A = none → cap = 0
  lies : 0 < n → ∃ b o, A = some ⟨b, o, none⟩ ∧ F b ∧ b < w.heap.size ∧ ∀ j, j < n → w.cell? ⟨b, o + j, none⟩ = some (.int .i64 (gI l j))
theorem IAt.keep {F : Nat → Prop} {w w' : World} {A : Option Addr} {n cap : Nat} {l : List Int} (h : IAt F w A n cap l) (hs : w.heap.size ≤ w'.heap.size) (hb : ∀ k, k < w.heap.size → F k → w'.heap[k]? = w.heap[k]?) : IAt F w' A n cap l :=
  ⟨h.len, h.fit, h.max, h.nil, fun hn => by
    obtain ⟨b, o, h1, h2, h3, h4⟩ := h.lies hn
    exact ⟨b, o, h1, h2, Nat.lt_of_lt_of_le h3 hs, fun j hj => (World.cell?_of_block (a := ⟨b, o + j, none⟩) (hb b h3 h2)).trans (h4 j hj)⟩⟩
theorem IAt.below {F : Nat → Prop} {w w' : World} {A : Option Addr} {n cap : Nat} {l : List Int} (h : IAt F w A n cap l) (hb : Below w.heap.size w w') : IAt F w' A n cap l := h.keep hb.size fun k hk _ => hb.block k hk
theorem IAt.ch {F G : Nat → Prop} {w w' : World} {A : Option Addr} {n cap : Nat} {l : List Int} (h : IAt F w A n cap l) (hb : Ch G w w') (hF : ∀ k, F k → ¬ G k) : IAt F w' A n cap l := h.keep hb.size fun k hk hf => hb.block k hk (hF k hf)
theorem IAt.weak {F G : Nat → Prop} {w : World} {A : Option Addr} {n cap : Nat} {l : List Int} (h : IAt F w A n cap l) (hF : ∀ k, k < w.heap.size → F k → G k) : IAt G w A n cap l :=
  ⟨h.len, h.fit, h.max, h.nil, fun hn => by
    obtain ⟨b, o, h1, h2, h3, h4⟩ := h.lies hn
    exact ⟨b, o, h1, hF b h3 h2, h3, h4⟩⟩
theorem IAt.empty (F : Nat → Prop) (w : World) : IAt F w none 0 0 [] := ⟨rfl, Nat.le_refl _, Nat.zero_le _, fun _ => rfl, fun h => absurd h (by omega)⟩
theorem IAt.cut {F : Nat → Prop} {w : World} {A : Option Addr} {n cap : Nat} {l : List Int} (h : IAt F w A n cap l) (lo hi : Nat) (h1 : lo ≤ hi) (h2 : hi ≤ n) :
    IAt F w (if cap = lo then A else A.map (·.add (lo * 1))) (hi - lo) (cap - lo) ((l.take hi).drop lo) := by
  have h3 := h.fit
  have h4 := h.max
  have h5 := h.len
  refine ⟨by simp only [List.length_drop, List.length_take]; omega, by omega, by omega, fun hn => ?_, fun hp => ?_⟩
  · by_cases e : cap = lo
    · omega
    · rw [if_neg e] at hn
      have := h.nil (by cases A <;> simp_all)
      omega
  · obtain ⟨b, o, rfl, k1, k2, k3⟩ := h.lies (by omega)
    rw [if_neg (by omega)]
    refine ⟨b, o + lo, by simp [Go.WideShapes.add_plain], k1, k2, fun j hj => ?_⟩
    rw [gI_drop, gI_take _ _ _ (by omega), Nat.add_assoc]
    exact k3 (lo + j) (by omega)
/-- The first n values of f. -/
def lstF (f : Nat → Int) (n : Nat) : List Int := (List.range n).map f
theorem lstF_len (f : Nat → Int) (n : Nat) : (lstF f n).length = n := by simp [lstF]
theorem gI_lstF (f : Nat → Int) (n j : Nat) (h : j < n) : gI (lstF f n) j = f j := by
  unfold gI lstF
  rw [List.getD_eq_getElem?_getD, List.getElem?_map, List.getElem?_range h]
  rfl
theorem IAt.of_cells {w : World} {g n : Nat} {ty : TypeId} {f : Nat → Int} (h : Cells w g ty n (fun j => .int .i64 (f j))) (hn : n ≤ maxLen) : IAt (fun k => k = g) w (some ⟨g, 0, none⟩) n n (lstF f n) :=
  ⟨lstF_len _ _, Nat.le_refl _, hn, fun h => (by cases h), fun _ => ⟨g, 0, rfl, rfl, h.lt, fun j hj => by rw [Nat.zero_add, h.cell j hj, gI_lstF _ _ _ hj]⟩⟩
theorem infoI64 : (Tryd.prog.info? 3).map (fun i => (i.zero, i.size, i.bytes)) = some (some (.int .i64 0), 1, 8) := by kernel_rfl
theorem size64 (u : World) : (sizeOf (Tryd.prog.elem 74)).run Tryd.prog u = .ok 1 u := by kernel_rfl
theorem elem64 : Tryd.prog.underlying 74 = some (.slice (Tryd.prog.elem 74)) := by kernel_rfl
theorem cutI_l {F : Nat → Prop} {w : World} {A : Option Addr} {n cap : Nat} {l : List Int} (h : IAt F w A n cap l) (lo : Int) (m : Nat) (hm : lo = m) (hle : m ≤ n) :
    ∃ A' c', (∀ u, (Instr.slice 74 (.slice A n cap) (some (.int .i64 lo)) none none).run Tryd.prog u = .ok (.slice A' (n - m) c') u) ∧ IAt F w A' (n - m) c' (l.drop m) := by
  have hk := h.cut m n hle (Nat.le_refl _)
  have hf := h.fit
  have hl : l.take n = l := by rw [← h.len]; exact List.take_length
  rw [hl] at hk
  refine ⟨_, _, fun u => ?_, hk⟩
  rw [run_slice_l u _ A n cap elem64 .i64 lo (by omega) (by omega), size64]
  simp [Result.andThen, sliced, hm]
/-- Numbers that are made: n zeros. -/
theorem make_ints (n : Nat) (w : World) (hn : n ≤ 1000000) : ∃ w', (Instr.makeSlice 74 (.int .i64 (n : Int)) (.int .i64 (n : Int))).run Tryd.prog w = .ok (.slice (some ⟨w.heap.size, 0, none⟩) n n) w' ∧ Cells w' w.heap.size 3 n (fun _ => .int .i64 0) ∧ Below w.heap.size w w' := by
  obtain ⟨i0, hi, hz0, hz1, hz2⟩ := info_parts infoI64
  have := run_make (P := Tryd.prog) w 74 3 i0 (.int .i64 0) Tryd.underlying74 hi hz0 .i64 .i64 n n (by omega) (by omega) (by rw [hz2]; omega) (by omega)
  rw [hz1] at this
  simp only [Int.toNat_natCast, Nat.mul_one] at this
  refine ⟨_, this, ⟨_, heap_alloc_new w _, size_madeCells _ _, fun j hj => ?_⟩, bnew w _⟩
  unfold madeCells
  have hz : (Value.int IntKind.i64 0).cells = #[Value.int .i64 0] := rfl
  rw [hz]
  rw [Array.getElem?_map, Array.getElem?_range, if_pos hj]
  simp [Nat.mod_one]
end Go.Proofs.YtehnilmfeoadgaaDoor
/- An array's element by its number, as a value: no program is named here. -/
namespace Go.Proofs.YtehnilmfeoadgaaDoor
open Go.RowKit

theorem run_index_row {P : Program} (t e : TypeId) (n : Nat) (cs : Array Value) (k : IntKind) (i : Nat) (v : Value) {d : TypeDesc} (h : P.underlying t = some (.array n e)) (he : P.underlying e = some d) (hd : d.isRow = false)
    (hs : (P.info? e).map (·.size) = some 1) (hi : i < n) (hv : cs[i]? = some v) (w : World) : (Instr.index t (.agg cs) (.int k (i : Int))).run P w = .ok v w := by
  have hagg : (isAgg e).run P w = .ok false w := by
    unfold isAgg
    rw [Sem.run_bind, run_underlying he w]
    cases d <;> simp_all
  cases hq : P.info? e with
  | none => simp [hq] at hs
  | some j =>
    have hz : j.size = 1 := by simpa [hq] using hs
    simp [Instr.index, run_underlying h, asIntOf, hi, part, Sem.run_bind, hagg, sizeOf, typeInfo, hq, hz, hv]
end Go.Proofs.YtehnilmfeoadgaaDoor
/- Arrays of sixteen numbers: as values and in blocks. -/
namespace Go.Proofs.YtehnilmfeoadgaaDoor
open Go.RowKit
set_option maxRecDepth 100000
set_option linter.unusedVariables false
set_option linter.unusedSimpArgs false

def arrA (M : Nat → Int) : Array Value := ((List.range 16).map fun j => Value.int .i64 (M j)).toArray
theorem arrA_at (M : Nat → Int) (j : Nat) (h : j < 16) : (arrA M)[j]? = some (.int .i64 (M j)) := by
  unfold arrA
  simp [h]
theorem arrA_len (M : Nat → Int) : (arrA M).toList.length = 16 := by simp [arrA]
theorem arrA_size (M : Nat → Int) : (arrA M).size = 16 := by simp [arrA]
theorem arrA_list (M : Nat → Int) (j : Nat) (v : Value) (h : (arrA M).toList[j]? = some v) : j < 16 ∧ v = .int .i64 (M j) := by
  have hj6 : j < 16 := by
    have := (List.getElem?_eq_some_iff.1 h).1
    rwa [arrA_len] at this
  rw [Array.getElem?_toList, arrA_at M j hj6] at h
  injection h with h
  exact ⟨hj6, h.symm⟩
theorem arrA_one (M : Nat → Int) : (arrA M).all (·.oneCell') = true := by
  unfold arrA
  refine all_oneCell_toArray fun u hu => ?_
  obtain ⟨j, _, rfl⟩ := List.mem_map.1 hu
  rfl
def aC (M : Nat → Int) (j : Nat) : Value := .int .i64 (M j)
abbrev ArrAt (w : World) (g : Nat) (ty : TypeId) (M : Nat → Int) : Prop := Cells w g ty 16 (aC M)
theorem aC_upd (M : Nat → Int) (a : Nat) (v : Int) : upd (aC M) a (.int .i64 v) = aC (updN M a v) := by
  funext j
  by_cases e : j = a
  · subst e
    rw [upd_same]; unfold aC; rw [updN_same]
  · unfold upd aC updN
    rw [if_neg e, if_neg e]
theorem ArrAt.set {w : World} {g : Nat} {ty : TypeId} {M : Nat → Int} (h : ArrAt w g ty M) (a : Nat) (v : Int) : ArrAt (w.setCell ⟨g, a, none⟩ (.int .i64 v)) g ty (updN M a v) := by
  have := Cells.set h a (.int .i64 v)
  rwa [aC_upd] at this
theorem ArrAt.congr {w : World} {g : Nat} {ty : TypeId} {M M' : Nat → Int} (h : ArrAt w g ty M) (e : ∀ j, j < 16 → M j = M' j) : ArrAt w g ty M' := Cells.congr h fun j hj => by unfold aC; rw [e j hj]
theorem ArrAt.new (w : World) (ty : TypeId) (M : Nat → Int) : ArrAt (w.alloc (.cells (arrA M) ty)) w.heap.size ty M := Cells.new w _ _ _ _ (arrA_size M) fun j hj => arrA_at M j hj

/-! The two types. -/
def arrAlloc (t : TypeId) (h : Bool) (o : Value) : Sem Value := Instr.alloc t h o
theorem arrAlloc_as1 (h : Bool) (o : Value) : Instr.alloc 87 h o = arrAlloc 87 h o := rfl
theorem arrAlloc_as2 (h : Bool) (o : Value) : Instr.alloc 88 h o = arrAlloc 88 h o := rfl
def arrStore (t : TypeId) (p v : Value) : Sem Unit := Instr.storeAt t p v
theorem arrStore_as1 (p v : Value) : Instr.storeAt 87 p v = arrStore 87 p v := rfl
theorem arrStore_as2 (p v : Value) : Instr.storeAt 88 p v = arrStore 88 p v := rfl
def arrLoad (t : TypeId) (v : Value) : Sem Value := Instr.loadAt t v
theorem arrLoad_as1 (v : Value) : Instr.loadAt 87 v = arrLoad 87 v := rfl
theorem arrLoad_as2 (v : Value) : Instr.loadAt 88 v = arrLoad 88 v := rfl
def arrEql (x y : Value) : Sem Value := binOp .eql 88 x y
theorem arrEql_as (x y : Value) : binOp .eql 88 x y = arrEql x y := rfl
def arrBuild (l : Array (Nat × Value)) : Sem Value := Instr.build 88 l
theorem arrBuild_as (l : Array (Nat × Value)) : Instr.build 88 l = arrBuild l := rfl

theorem run_arrLoad1 {w : World} {g : Nat} {ty : TypeId} {M : Nat → Int} (h : ArrAt w g ty M) : (arrLoad 87 (.pointer (some ⟨g, 0, none⟩))).run Tryd.prog w = .ok (.agg (arrA M)) w := by
  have := run_loadAt_mid (P := Tryd.prog) w g 0 87 (arrA M).toList _ (fun j v hj => by
    obtain ⟨h1, h2⟩ := arrA_list M j v hj
    rw [Nat.zero_add, Cells.cell h j h1, h2]; rfl) Tryd.underlying87 rfl (by rw [arrA_len]; kernel_rfl)
  rw [Array.toArray_toList] at this
  exact this
theorem run_arrLoad2 {w : World} {g : Nat} {M : Nat → Int} (h : ∀ j, j < 16 → w.cell? ⟨g, j, none⟩ = some (.int .i64 (M j))) : (arrLoad 88 (.pointer (some ⟨g, 0, none⟩))).run Tryd.prog w = .ok (.agg (arrA M)) w := by
  have := run_loadAt_mid (P := Tryd.prog) w g 0 88 (arrA M).toList _ (fun j v hj => by
    obtain ⟨h1, h2⟩ := arrA_list M j v hj
    rw [Nat.zero_add, h j h1, h2]) Tryd.underlying88 rfl (by rw [arrA_len]; kernel_rfl)
  rw [Array.toArray_toList] at this
  exact this
theorem ArrAt.cells {w : World} {g : Nat} {ty : TypeId} {M : Nat → Int} (h : ArrAt w g ty M) : ∀ j, j < 16 → w.cell? ⟨g, j, none⟩ = some (.int .i64 (M j)) := fun j hj => Cells.cell h j hj
theorem results_arr1 {fn : Func} {p : Tmp} (h : fn.results = #[.cell p 87]) (tmps : Array Value) {w : World} {g : Nat} {ty : TypeId} {M : Nat → Int} (hr : ArrAt w g ty M) (hp : tmps.getD p undef = .pointer (some ⟨g, 0, none⟩)) :
    (results fn tmps).run Tryd.prog w = .ok (.agg (arrA M)) w := by
  have hp' : tmps[p]?.getD undef = .pointer (some ⟨g, 0, none⟩) := by simpa using hp
  have hl := run_loadVar_mid (P := Tryd.prog) w g 0 87 (arrA M).toList _ (fun j v hj => by
    obtain ⟨h1, h2⟩ := arrA_list M j v hj
    rw [Nat.zero_add, Cells.cell hr j h1, h2]; rfl) Tryd.underlying87 rfl (by rw [arrA_len]; kernel_rfl)
  rw [Array.toArray_toList] at hl
  simp [results, h, hp', asAddr, hl]
theorem results_arr2 {fn : Func} {p q : Tmp} (h : fn.results = #[.cell p 88, .tmp q]) (tmps : Array Value) {w : World} {g : Nat} {ty : TypeId} {M : Nat → Int} (hr : ArrAt w g ty M) (hp : tmps.getD p undef = .pointer (some ⟨g, 0, none⟩)) (e : Value) (hq : tmps.getD q undef = e) :
    (results fn tmps).run Tryd.prog w = .ok (.tuple #[.agg (arrA M), e]) w := by
  have hp' : tmps[p]?.getD undef = .pointer (some ⟨g, 0, none⟩) := by simpa using hp
  have hq' : tmps[q]?.getD undef = e := by simpa using hq
  have hl := run_loadVar_mid (P := Tryd.prog) w g 0 88 (arrA M).toList _ (fun j v hj => by
    obtain ⟨h1, h2⟩ := arrA_list M j v hj
    rw [Nat.zero_add, Cells.cell hr j h1, h2]; rfl) Tryd.underlying88 rfl (by rw [arrA_len]; kernel_rfl)
  rw [Array.toArray_toList] at hl
  simp [results, h, hp', hq', asAddr, hl]
theorem info51 : (Tryd.prog.info? 87).map (fun i => i.zero) = some (some (.agg (arrA fun _ => 0))) := by kernel_rfl
theorem info52 : (Tryd.prog.info? 88).map (fun i => i.zero) = some (some (.agg (arrA fun _ => 0))) := by kernel_rfl
theorem run_alloc_of (t : TypeId) (h : (Tryd.prog.info? t).map (fun i => i.zero) = some (some (.agg (arrA fun _ => 0)))) (u : World) : (arrAlloc t true (.tuple #[])).run Tryd.prog u = .ok (.pointer (some ⟨u.heap.size, 0, none⟩)) (u.alloc (.cells (arrA fun _ => 0) t)) := by
  cases hi : Tryd.prog.info? t with
  | none => rw [hi] at h; cases h
  | some i =>
    rw [hi] at h
    have hz : i.zero = some (.agg (arrA fun _ => 0)) := by simpa using h
    have hc : (Value.agg (arrA fun _ => 0)).cells = arrA fun _ => 0 := rfl
    simp only [arrAlloc, Instr.alloc, zeroValue, Sem.run_bind, typeInfo, newVar, newRow]
    simp [hi, hz, hc]
theorem run_arrAlloc1 (u : World) : (arrAlloc 87 true (.tuple #[])).run Tryd.prog u = .ok (.pointer (some ⟨u.heap.size, 0, none⟩)) (u.alloc (.cells (arrA fun _ => 0) 87)) := run_alloc_of _ info51 u
theorem run_arrAlloc2 (u : World) : (arrAlloc 88 true (.tuple #[])).run Tryd.prog u = .ok (.pointer (some ⟨u.heap.size, 0, none⟩)) (u.alloc (.cells (arrA fun _ => 0) 88)) := run_alloc_of _ info52 u
/-- An array written whole. -/
theorem run_store_of (t : TypeId) (ht : (Tryd.prog.info? t).map (·.size) = some 16) {w : World} {g : Nat} {M0 : Nat → Int} (h : ArrAt w g t M0) (M : Nat → Int) : ∃ W : World, (arrStore t (.pointer (some ⟨g, 0, none⟩)) (.agg (arrA M))).run Tryd.prog w = .ok () W ∧ ArrAt W g t M ∧ Ch (fun k => k = g) w W := by
  obtain ⟨A, h1, h2, _⟩ := h
  have hsz := arrA_size M
  have hone := arrA_one M
  have hat := arrA_at M
  generalize arrA M = B at *
  have := run_storeVar_row (P := Tryd.prog) w g t t A B h1 (by rw [hsz]; exact ht) (by rw [h2, hsz]) hone
  refine ⟨w.setRow g B, by simp only [arrStore, Instr.storeAt, Instr.sureAddr, Sem.run_bind, Sem.run_pure, Result.andThen_ok, this], ⟨B, setRow_heap _ _ _ _ _ _ h1, hsz, hat⟩, rfl, rfl, rfl, by simp [World.setRow], fun k _ hk => ?_⟩
  simp [World.setRow, Array.getElem?_modify, Ne.symm hk]
theorem run_arrStore1 {w : World} {g : Nat} {M0 : Nat → Int} (h : ArrAt w g 87 M0) (M : Nat → Int) : ∃ W : World, (arrStore 87 (.pointer (some ⟨g, 0, none⟩)) (.agg (arrA M))).run Tryd.prog w = .ok () W ∧ ArrAt W g 87 M ∧ Ch (fun k => k = g) w W := run_store_of _ (by kernel_rfl) h M
theorem run_arrStore2 {w : World} {g : Nat} {M0 : Nat → Int} (h : ArrAt w g 88 M0) (M : Nat → Int) : ∃ W : World, (arrStore 88 (.pointer (some ⟨g, 0, none⟩)) (.agg (arrA M))).run Tryd.prog w = .ok () W ∧ ArrAt W g 88 M ∧ Ch (fun k => k = g) w W := run_store_of _ (by kernel_rfl) h M
theorem run_arrBuild0 (u : World) : (arrBuild #[]).run Tryd.prog u = .ok (.agg (arrA fun _ => 0)) u :=
  run_build u _ _ _ (show Tryd.prog.built 88 [] = some (arrA fun _ => 0) by kernel_rfl)
theorem run_arrBuild1 (u : World) : (arrBuild #[(1, .int .i64 1)]).run Tryd.prog u = .ok (.agg (arrA fun j => if j = 1 then 1 else 0)) u :=
  run_build u _ _ _ (show Tryd.prog.built 88 [(1, .int .i64 1)] = some (arrA fun j => if j = 1 then 1 else 0) by kernel_rfl)
theorem forIn_until {P : Program} {β : Type} (w : World) (b d : β) (f : Nat → β → Sem (ForInStep β)) (q : Nat → Bool) : ∀ is : List Nat, (∀ i ∈ is, (f i b).run P w = .ok (if q i then .yield b else .done d) w) → (forIn is b f).run P w = .ok (if is.all q then b else d) w
  | [], _ => by simp
  | i :: is, h => by
    rw [List.forIn_cons]
    simp only [Sem.run_bind, h i (by simp), Result.andThen_ok]
    cases hq : q i with
    | false => simp [hq]
    | true =>
      simp only [if_true, List.all_cons, hq, Bool.true_and]
      exact forIn_until w b d f q is (fun j hj => h j (by simp [hj]))
theorem arr_eqIn (M M' : Nat → Int) (b : Bool) (hb : (∀ j, j < 16 → M j = M' j) ↔ b = true) (w : World) : (Op.equalIn 10000 88 (.agg (arrA M)) (.agg (arrA M'))).run Tryd.prog w = .ok b w := by
  have ht : Tryd.prog.underlying 88 = some (.array 16 3) := Tryd.underlying88
  have he : Tryd.prog.underlying 3 = some (.int .i64) := Tryd.underlying3
  have hsz : ∀ w, (sizeOf 3).run Tryd.prog w = .ok 1 w := fun _ => by kernel_rfl
  have pp : ∀ (M : Nat → Int) j, j < 16 → ∀ w, (part 3 (arrA M) j).run Tryd.prog w = .ok (.int .i64 (M j)) w := fun M j hj w => by simp [part, isAgg, run_underlying he, arrA_at M j hj]
  have pe : ∀ (x y : Int) w, (Op.equalIn 9999 3 (.int .i64 x) (.int .i64 y)).run Tryd.prog w = .ok (x == y) w := fun x y w => run_equalIn_int w 9998 _ .i64 .i64 x y he
  have hall : (List.range' 0 16 1).all (fun i => M i == M' i) = b := by
    cases b with
    | true =>
      rw [List.all_eq_true]
      intro i hi
      rw [List.mem_range'_1] at hi
      rw [hb.2 rfl i (by omega)]; exact beq_self_eq_true _
    | false =>
      rw [List.all_eq_false]
      rcases Classical.em (∃ i, i < 16 ∧ M i ≠ M' i) with ⟨i, h1, h2⟩ | h
      · exact ⟨i, by rw [List.mem_range'_1]; omega, by simpa using h2⟩
      · exact absurd (hb.1 fun j hj => Classical.byContradiction fun c => h ⟨j, hj, c⟩) (by decide)
  have p1 := pp M
  have p2 := pp M'
  generalize arrA M = A at *
  generalize arrA M' = B at *
  rw [Op.equalIn]
  simp only [Sem.run_bind, run_underlying ht, Result.andThen_ok, hsz, Std.Legacy.Range.forIn_eq_forIn_range', Std.Legacy.Range.size, Nat.sub_zero, Nat.add_sub_cancel, Nat.div_one]
  rw [forIn_until w _ ⟨some false, ⟨⟩⟩ _ (fun i => M i == M' i)]
  · rw [hall]
    cases b <;> simp
  · intro i hi
    have hi' : i < 16 := by
      rw [List.mem_range'_1] at hi
      omega
    simp only [Nat.mul_one, Sem.run_bind, p1 i hi', p2 i hi', Result.andThen_ok, pe]
    cases (M i == M' i) <;> simp
theorem run_arrEql (M M' : Nat → Int) (b : Bool) (hb : (∀ j, j < 16 → M j = M' j) ↔ b = true) (u : World) : (arrEql (.agg (arrA M)) (.agg (arrA M'))).run Tryd.prog u = .ok (.bool b) u := by
  unfold arrEql
  rw [run_eql_struct, arr_eqIn M M' b hb]; rfl

end Go.Proofs.YtehnilmfeoadgaaDoor
/- huff's mayBe and count. -/
namespace Go.Proofs.YtehnilmfeoadgaaDoor
open Go.RowKit
set_option maxRecDepth 100000
attribute [local simp ↓ high] arrAlloc_as1 arrAlloc_as2 arrStore_as1 arrStore_as2 arrLoad_as1 arrLoad_as2 arrEql_as arrBuild_as

/-- Numbers as the program has them. -/
abbrev toI (N : Nat → Nat) (j : Nat) : Int := (N j : Int)
theorem ks_small (N : Nat → Nat) (h : ∀ k, N k ≤ 1000) : ∀ m, ks N m ≤ 32768000 * m
  | 0 => Nat.le_refl _
  | m + 1 => by
    have := ks_small N h m
    have h1 := Nat.mul_le_mul (h m) (Nat.pow_le_pow_right (show 0 < 2 by decide) (show 15 - m ≤ 15 by omega))
    rw [ks]; omega
theorem ks_step (N : Nat → Nat) (hN : ∀ k, N k ≤ 1000) (k : Nat) (hk : k < 16) : wrap64 (((ks N k : Nat) : Int) + wrap64 (toI N k * 2 ^ (15 - k))) = ((ks N (k + 1) : Nat) : Int) := by
  have h1 := ks_small N hN k
  have h2 := Nat.mul_le_mul (hN k) (Nat.pow_le_pow_right (show 0 < 2 by decide) (show 15 - k ≤ 15 by omega))
  have e : toI N k * 2 ^ (15 - k) = ((N k * 2 ^ (15 - k) : Nat) : Int) := by simp [toI]
  rw [e, ks]
  generalize N k * 2 ^ (15 - k) = P at *
  rw [IntWalk.wrap64_in (P : Int) (by omega), IntWalk.wrap64_in _ (by omega)]
  omega
set_option maxHeartbeats 1600000 in
theorem mayBe_any (N : Nat → Nat) (b : Bool) (hN : ∀ k, N k ≤ 1000) (hb : okS N ↔ b = true) (w : World) :
    Calls Tryd.prog 47 #[.agg (arrA (toI N))] w fun e w' => e = .returned (.bool b) ∧ Below w.heap.size w w' := by
  obtain ⟨b1, h1⟩ : ∃ b1 : Bool, (plc N 16 = 0) ↔ b1 = true := ⟨decide (plc N 16 = 0), by simp⟩
  obtain ⟨b2, h2⟩ : ∃ b2 : Bool, (plc N 16 = 1 ∧ N 1 = 1) ↔ b2 = true := ⟨decide (plc N 16 = 1 ∧ N 1 = 1), by simp⟩
  obtain ⟨b0, h0⟩ : ∃ b0 : Bool, (((ks N 16 : Nat) : Int) == 32768) = b0 := ⟨_, rfl⟩
  have q1 : (∀ j, j < 16 → toI N j = (fun _ => 0) j) ↔ b1 = true := by
    rw [← h1, ← none16]
    exact ⟨fun h j hj => by have := h j hj; simp only [toI] at this; omega, fun h j hj => by simp only [toI]; rw [h j hj]; rfl⟩
  have q2 : (∀ j, j < 16 → toI N j = (fun j => if j = 1 then 1 else 0) j) ↔ b2 = true := by
    rw [← h2, ← one16]
    exact ⟨fun h j hj => by
      have := h j hj
      simp only [toI] at this
      by_cases c : j = 1
      · rw [if_pos c] at this ⊢; omega
      · rw [if_neg c] at this ⊢; omega, fun h j hj => by simp only [toI]; rw [h j hj]; split <;> rfl⟩
  have e1 := run_arrEql _ _ b1 q1
  have e2 := run_arrEql _ _ b2 q2
  have d0 := run_arrBuild0
  have d1 := run_arrBuild1
  have HL := Lib.hid (ArrAt.new w 88 (toI N))
  have ld := run_arrLoad2 HL.out.cells
  have hix := fun (k : Nat) (hk : k < 16) => run_index_row (P := Tryd.prog) 88 3 16 (arrA (toI N)) .i64 k _ Tryd.underlying88 Tryd.underlying3 rfl (by kernel_rfl) hk (arrA_at (toI N) k hk)
  have HX := Lib.hid hix
  have hbe : b = (b0 || (b1 || b2)) := by
    have h0' : ks N 16 = 32768 ↔ b0 = true := by rw [← h0, beq_iff_eq]; omega
    unfold okS at hb
    rw [h0', h1, h2] at hb
    cases b <;> cases b0 <;> cases b1 <;> cases b2 <;> simp_all
  have HS := Lib.hid (fun k hk => ks_step N hN k hk)
  have HB := Lib.hid (bnew w (.cells (arrA (toI N)) 88))
  clear q1 q2 hix hb h1 h2
  go_enter Tryd.func47, Tryd.ntmps47
  go_wp2_with fail
  go_loop [3, 7] (fun s i => ∃ k : Nat, i = .int .i64 k ∧ k ≤ 16 ∧ s = .int .i64 (ks N k)) (fun _ i => 16 - (intOf i).toNat)
  case atStart => exact ⟨0, rfl, by omega, rfl⟩
  case round =>
    obtain ⟨k, rfl, hk, rfl⟩ := hrel
    by_cases hlt : k < 16
    · have hix := HX.out k hlt
      go_wp2_with fail
      go_round
      case rel => exact ⟨k + 1, by go_num, by omega, by rw [HS.out k hlt]⟩
      case measure => simp [intOf]; omega
    · obtain rfl : k = 16 := by omega
      subst hbe
      cases b0 <;> cases b1
      all_goals
        go_wp2_with fail
        go_ret
        exact ⟨rfl, HB.out⟩

/-- The lengths as the program has them. -/
def lnN (l : List Int) (i : Nat) : Nat := (gI l i).toNat
def Fine (l : List Int) : Prop := ∀ i, 0 ≤ gI l i ∧ gI l i ≤ 15
def nOf (l : List Int) : Nat → Nat := cN (lnN l) l.length
/-- Why lengths may not be. -/
def Lg (l : List Int) (e : Int) : Prop := (e = 1 ∧ (320 < l.length ∨ ¬ Fine l)) ∨ (l.length ≤ 320 ∧ Fine l ∧ ((e = 0 ∧ okS (nOf l)) ∨ (e = 4 ∧ ¬ okS (nOf l))))
theorem Lg.some (l : List Int) : ∃ e, Lg l e := by
  by_cases h : 320 < l.length ∨ ¬ Fine l
  · exact ⟨1, Or.inl ⟨rfl, h⟩⟩
  · have h1 : l.length ≤ 320 := by
      rcases Nat.lt_or_ge 320 l.length with c | c
      · exact absurd (Or.inl c) h
      · exact c
    have h2 : Fine l := Classical.byContradiction fun c => h (Or.inr c)
    by_cases k : okS (nOf l)
    · exact ⟨0, Or.inr ⟨h1, h2, Or.inl ⟨rfl, k⟩⟩⟩
    · exact ⟨4, Or.inr ⟨h1, h2, Or.inr ⟨rfl, k⟩⟩⟩
theorem Fine.ln {l : List Int} (h : Fine l) (i : Nat) : gI l i = (lnN l i : Nat) ∧ lnN l i ≤ 15 := by
  have := h i
  unfold lnN; omega
theorem nOf_le (l : List Int) (k : Nat) : nOf l k ≤ l.length := by
  unfold nOf cN
  split
  · omega
  · exact cnt_le _ _ _
/-- What 'count' answers. -/
def cntR (l : List Int) (e : Int) : Nat → Int := if e = 0 then toI (nOf l) else fun _ => 0
theorem cntR_no (l : List Int) (e : Int) (h : e ≠ 0) : cntR l e = fun _ => 0 := if_neg h
theorem cntR_yes (l : List Int) : cntR l 0 = toI (nOf l) := if_pos rfl
def Counted (w : World) (l : List Int) (e : Int) (x : Ending) (w' : World) : Prop := x = .returned (.tuple #[.agg (arrA (cntR l e)), .int .i64 e]) ∧ Below w.heap.size w w'
theorem count_big (A : Option Addr) (n cap : Nat) (l : List Int) (w : World) (hl : IAt (fun _ => True) w A n cap l) (h : 320 < n) :
    Calls Tryd.prog 44 #[.slice A n cap] w (Counted w l 1) := by
  have d0 := run_arrBuild0
  have a2 := run_arrAlloc2
  obtain ⟨W, hs, hW, hC⟩ := run_arrStore2 (ArrAt.new w 88 fun _ => 0) (fun _ => 0)
  have HW := Lib.hid hW
  have HB := Lib.hid (((bnew w (.cells (arrA fun _ => 0) 88)).trans (hC.below (fun k hk => by omega) (by simp))))
  have hf := hl.fit
  have hm := hl.max
  unfold maxLen at hm
  clear hl hW hC
  go_enter Tryd.func44, Tryd.ntmps44
  go_wp2_with fail
  exact bodyPost_ret (results_arr2 rfl _ HW.out rfl _ rfl) rfl ⟨rfl, HB.out⟩
/-- Behind k lengths. -/
structure Cing (w wr : World) (l : List Int) (k : Nat) : Prop where
  fine : ∀ i, i < k → 0 ≤ gI l i ∧ gI l i ≤ 15
  res : ArrAt wr w.heap.size 88 (fun _ => 0)
  cs : ArrAt wr (w.heap.size + 1) 88 (fun j => (cnt (lnN l) j k : Nat))
  bel : Below w.heap.size w wr
theorem Cing.start (w : World) (l : List Int) : Cing w ((w.alloc (.cells (arrA fun _ => 0) 88)).alloc (.cells (arrA fun _ => 0) 88)) l 0 := by
  have h1 := ArrAt.new w 88 fun _ => 0
  have h2 := ArrAt.new (w.alloc (.cells (arrA fun _ => 0) 88)) 88 fun _ => 0
  have e : (w.alloc (.cells (arrA fun _ => 0) 88)).heap.size = w.heap.size + 1 := by simp
  rw [e] at h2
  exact ⟨fun i hi => absurd hi (by omega), Cells.below h1 (bnew _ _), h2.congr fun j _ => rfl, (bnew w _).alloc (by simp) _⟩
theorem Cing.next {w wr : World} {l : List Int} {k m : Nat} (h : Cing w wr l k) (hm : gI l k = (m : Int)) (h15 : m ≤ 15) : Cing w (wr.setCell ⟨w.heap.size + 1, m, none⟩ (.int .i64 ((cnt (lnN l) m k : Nat) + 1))) l (k + 1) := by
  obtain ⟨h1, h2, h3, h4⟩ := h
  refine ⟨fun i hi => ?_, Cells.block h2 (Below.heap_setCell _ _ _ _ (show w.heap.size ≠ w.heap.size + 1 by omega)), ArrAt.congr (ArrAt.set h3 m _) fun j hj => ?_, h4.setCell (show w.heap.size ≤ w.heap.size + 1 by omega) _⟩
  · by_cases e : i = k
    · subst e; omega
    · exact h1 i (by omega)
  · have e : lnN l k = m := by unfold lnN; omega
    rw [cnt, e]
    by_cases c : j = m
    · subst c; rw [updN_same, if_pos rfl]; omega
    · rw [updN_other _ _ _ _ c, if_neg (fun x => c x.symm)]; omega
theorem Cing.not (l : List Int) (k : Nat) (x : Int) (hx : gI l k = x) (h : x < 0 ∨ 15 < x) : ¬ Fine l := fun hf => by
  have := hf k
  omega
theorem Cing.all {w wr : World} {l : List Int} (h : Cing w wr l l.length) : Fine l := fun i => by
  by_cases c : i < l.length
  · exact h.fine i c
  · rw [gI_end l i (by omega)]; omega
/-- Behind all of them: the code of length 0 isn't counted. -/
structure Cend (w wr : World) (l : List Int) : Prop where
  res : ArrAt wr w.heap.size 88 (fun _ => 0)
  cs : ArrAt wr (w.heap.size + 1) 88 (toI (nOf l))
  bel : Below w.heap.size w wr
theorem Cing.done {w wr : World} {l : List Int} (h : Cing w wr l l.length) : Cend w (wr.setCell ⟨w.heap.size + 1, 0, none⟩ (.int .i64 0)) l := by
  obtain ⟨h1, h2, h3, h4⟩ := h
  refine ⟨Cells.block h2 (Below.heap_setCell _ _ _ _ (show w.heap.size ≠ w.heap.size + 1 by omega)), ArrAt.congr (ArrAt.set h3 0 _) fun j hj => ?_, h4.setCell (show w.heap.size ≤ w.heap.size + 1 by omega) _⟩
  unfold toI nOf cN
  by_cases c : j = 0
  · subst c; rw [updN_same, if_pos rfl]; rfl
  · rw [updN_other _ _ _ _ c, if_neg c]
theorem Cend.below {w wr wx : World} {l : List Int} (h : Cend w wr l) (hb : Below wr.heap.size wr wx) : Cend w wx l := ⟨h.res.below hb, h.cs.below hb, h.bel.trans (hb.mono h.bel.size)⟩
set_option maxHeartbeats 3200000 in
theorem count_go (A : Option Addr) (n cap : Nat) (l : List Int) (e : Int) (w : World) (hl : IAt (fun _ => True) w A n cap l) (h : n ≤ 320) (he : Lg l e) :
    Calls Tryd.prog 44 #[.slice A n cap] w (Counted w l e) := by
  have d0 := run_arrBuild0
  have a2 := run_arrAlloc2
  have HS := Lib.hid (Cing.start w l)
  have HL := Lib.hid hl
  have HE := Lib.hid he
  have hlen := hl.len
  have hf := hl.fit
  have hm := hl.max
  unfold maxLen at hm
  clear hl he
  go_enter Tryd.func44, Tryd.ntmps44
  go_wp2_with fail
  go_loopw [13] (fun i wr => ∃ k : Nat, i = .int .i64 k ∧ k ≤ n ∧ Hid (Cing w wr l k)) (fun i _ => n - (intOf i).toNat)
  case atStart => exact ⟨0, rfl, by omega, HS⟩
  case round =>
    obtain ⟨k, rfl, hk, HI⟩ := hrel
    by_cases hlt : k < n
    · obtain ⟨b, o, rfl, _, hbl, hc⟩ := HL.out.lies (by omega)
      have c0 := (HI.out.bel.cell (p := ⟨b, o + k, none⟩) hbl).trans (hc k hlt)
      clear hc
      obtain ⟨x, hx⟩ : ∃ x, gI l k = x := ⟨_, rfl⟩
      rw [hx] at c0
      by_cases hbad : x < 0 ∨ 15 < x
      · have hn := Cing.not l k x hx hbad
        obtain rfl : e = 1 := by
          rcases HE.out with ⟨h1, _⟩ | ⟨_, h2, _⟩
          · exact h1
          · exact absurd h2 hn
        obtain ⟨W, hs, hW, hC⟩ := run_arrStore2 HI.out.res (fun _ => 0)
        have HW := Lib.hid hW
        have HB := Lib.hid (HI.out.bel.trans (hC.below (fun k hk => by omega) HI.out.bel.size))
        clear hW hC hn hx
        rcases hbad with hb | hb
        · have d1 : decide (x < 0) = true := by simp; omega
          go_wp2_with fail
          exact bodyPost_ret (results_arr2 rfl _ HW.out rfl _ rfl) rfl ⟨rfl, HB.out⟩
        · have d1 : decide (x < 0) = false := by simp; omega
          have d2 : decide (15 < x) = true := by simp; omega
          go_wp2_with fail
          exact bodyPost_ret (results_arr2 rfl _ HW.out rfl _ rfl) rfl ⟨rfl, HB.out⟩
      · obtain ⟨m, rfl⟩ : ∃ m : Nat, x = (m : Int) := ⟨x.toNat, by omega⟩
        have hm15 : m ≤ 15 := by omega
        have HN := Lib.hid (HI.out.next hx hm15)
        have c1 := HI.out.cs.cells m (by omega)
        have f1 := Cells.frozen HI.out.cs m
        have hcl := cnt_le (lnN l) m k
        clear hx hbad
        generalize cnt (lnN l) m k = q at *
        have d1 : decide ((m : Int) < 0) = false := decide_eq_false (by omega)
        have d2 : decide (15 < (m : Int)) = false := decide_eq_false (by omega)
        go_wp2_with fail
        go_roundw
        case rel => exact ⟨k + 1, by go_num, by omega, HN⟩
        case measure => first | (simp [intOf]; done) | (simp [intOf]; omega)
    · obtain rfl : k = n := by omega
      subst hlen
      have hfine := HI.out.all
      have HD := Lib.hid HI.out.done
      have f1 := Cells.frozen HI.out.cs 0
      have c1 := HI.out.cs.cells 0 (by omega)
      clear HI
      have ld1 := run_arrLoad2 HD.out.cs.cells
      have hN : ∀ k, nOf l k ≤ 1000 := fun k => by have := nOf_le l k; omega
      obtain ⟨q, hq, hq4⟩ : ∃ q : Bool, (okS (nOf l) ↔ q = true) ∧ e = if q = true then 0 else 4 := by
        rcases HE.out with ⟨_, h1 | h1⟩ | ⟨_, _, ⟨h1, h2⟩ | ⟨h1, h2⟩⟩
        · omega
        · exact absurd hfine h1
        · exact ⟨true, by simp [h2], by rw [h1]; rfl⟩
        · exact ⟨false, by simp [h2], by rw [h1]; rfl⟩
      have HM := Lib.hid (fun u => mayBe_any (nOf l) q hN hq u)
      have HQ := Lib.hid hq4
      clear hN hq hq4 hfine HE
      go_wp2_with fail
      refine (HM.out _).mono ?_
      rintro e' w2 ⟨rfl, hb2⟩
      have HD2 := Lib.hid (HD.out.below hb2)
      clear hb2 ld1
      cases q
      · obtain rfl : e = 4 := HQ.out
        obtain ⟨W, hs, hW, hC⟩ := run_arrStore2 HD2.out.res (fun _ => 0)
        have HW := Lib.hid hW
        have HB := Lib.hid (HD2.out.bel.trans (hC.below (fun k hk => by omega) HD2.out.bel.size))
        clear hW hC
        go_wp2_with fail
        exact bodyPost_ret (results_arr2 rfl _ HW.out rfl _ rfl) rfl ⟨rfl, HB.out⟩
      · obtain rfl : e = 0 := HQ.out
        obtain ⟨W, hs, hW, hC⟩ := run_arrStore2 HD2.out.res (toI (nOf l))
        have ld2 := run_arrLoad2 HD2.out.cs.cells
        have HW := Lib.hid hW
        have HB := Lib.hid (HD2.out.bel.trans (hC.below (fun k hk => by omega) HD2.out.bel.size))
        clear hW hC
        go_wp2_with fail
        exact bodyPost_ret (results_arr2 rfl _ HW.out rfl _ rfl) rfl ⟨rfl, HB.out⟩
theorem count_any (A : Option Addr) (n cap : Nat) (l : List Int) (e : Int) (w : World) (hl : IAt (fun _ => True) w A n cap l) (he : Lg l e) :
    Calls Tryd.prog 44 #[.slice A n cap] w (Counted w l e) := by
  by_cases h : 320 < n
  · have hlen := hl.len
    obtain rfl : e = 1 := by
      rcases he with ⟨h1, _⟩ | ⟨h2, _⟩
      · exact h1
      · omega
    exact count_big A n cap l w hl h
  · exact count_go A n cap l e w hl (by omega) he

end Go.Proofs.YtehnilmfeoadgaaDoor
/- huff's firsts and places. -/
namespace Go.Proofs.YtehnilmfeoadgaaDoor
open Go.RowKit
attribute [local simp ↓ high] arrAlloc_as1 arrAlloc_as2 arrStore_as1 arrStore_as2 arrLoad_as1 arrLoad_as2 arrEql_as arrBuild_as

/-- Within 'firsts' and 'places': the entries of f up to k are there. -/
structure Upto (w wr : World) (N f : Nat → Nat) (k : Nat) : Prop where
  cs : ArrAt wr w.heap.size 88 (toI N)
  res : ArrAt wr (w.heap.size + 1) 87 (fun _ => 0)
  fs : ArrAt wr (w.heap.size + 1 + 1) 87 (fun j => if j ≤ k then toI f j else 0)
  bel : Below w.heap.size w wr
theorem Upto.start (w : World) (N f : Nat → Nat) (h0 : f 0 = 0) : Upto w (((w.alloc (.cells (arrA (toI N)) 88)).alloc (.cells (arrA fun _ => 0) 87)).alloc (.cells (arrA fun _ => 0) 87)) N f 0 := by
  have h1 := ArrAt.new w 88 (toI N)
  have h2 := ArrAt.new (w.alloc (.cells (arrA (toI N)) 88)) 87 fun _ => 0
  have h3 := ArrAt.new ((w.alloc (.cells (arrA (toI N)) 88)).alloc (.cells (arrA fun _ => 0) 87)) 87 fun _ => 0
  have e : (w.alloc (.cells (arrA (toI N)) 88)).heap.size = w.heap.size + 1 := by simp
  have e2 : ((w.alloc (.cells (arrA (toI N)) 88)).alloc (.cells (arrA fun _ => 0) 87)).heap.size = w.heap.size + 1 + 1 := by simp
  rw [e] at h2
  rw [e2] at h3
  refine ⟨Cells.below (Cells.below h1 (bnew _ _)) (bnew _ _), Cells.below h2 (bnew _ _), h3.congr fun j _ => ?_, ((bnew w _).alloc (by simp) _).alloc (by simp; omega) _⟩
  by_cases c : j ≤ 0
  · obtain rfl : j = 0 := by omega
    rw [if_pos c]; unfold toI; rw [h0]; rfl
  · rw [if_neg c]
theorem Upto.next {w wr : World} {N f : Nat → Nat} {k : Nat} (h : Upto w wr N f k) (v : Int) (hv : v = toI f (k + 1)) : Upto w (wr.setCell ⟨w.heap.size + 1 + 1, k + 1, none⟩ (.int .i64 v)) N f (k + 1) := by
  obtain ⟨h1, h2, h3, h4⟩ := h
  refine ⟨Cells.block h1 (Below.heap_setCell _ _ _ _ (show w.heap.size ≠ w.heap.size + 1 + 1 by omega)), Cells.block h2 (Below.heap_setCell _ _ _ _ (show w.heap.size + 1 ≠ w.heap.size + 1 + 1 by omega)), ArrAt.congr (ArrAt.set h3 (k + 1) _) fun j hj => ?_, h4.setCell (show w.heap.size ≤ w.heap.size + 1 + 1 by omega) _⟩
  by_cases c : j = k + 1
  · subst c; rw [updN_same, if_pos (Nat.le_refl _), hv]
  · rw [updN_other _ _ _ _ c]
    by_cases d : j ≤ k
    · rw [if_pos d, if_pos (by omega)]
    · rw [if_neg d, if_neg (by omega)]
theorem Upto.drew {w wr : World} {N f : Nat → Nat} {k : Nat} (h : Upto w wr N f k) (n : Nat) : Upto w (wr.drewN n) N f k := ⟨h.cs, h.res, h.fs, bdrawn h.bel n⟩
theorem Upto.drew1 {w wr : World} {N f : Nat → Nat} {k : Nat} (h : Upto w wr N f k) : Upto w wr.drew N f k := ⟨h.cs, h.res, h.fs, ⟨h.bel.os, h.bel.tape, h.bel.output, h.bel.size, h.bel.block⟩⟩
theorem Upto.all {w wr : World} {N f : Nat → Nat} (h : Upto w wr N f 15) : ArrAt wr (w.heap.size + 1 + 1) 87 (toI f) := h.fs.congr fun j hj => if_pos (by omega)
set_option maxHeartbeats 1600000 in
theorem places_any (N : Nat → Nat) (hN : ∀ t, t ≤ 16 → plc N t ≤ 1000) (w : World) :
    Calls Tryd.prog 45 #[.agg (arrA (toI N))] w fun e w' => e = .returned (.agg (arrA (toI (plc N)))) ∧ Below w.heap.size w w' := by
  have a1 := run_arrAlloc1
  have HS := Lib.hid (Upto.start w N (plc N) rfl)
  go_enter Tryd.func45, Tryd.ntmps45
  go_wp2_with fail
  go_loopw [4] (fun i wr => ∃ k : Nat, i = .int .i64 (k + 1 : Nat) ∧ k ≤ 15 ∧ Hid (Upto w wr N (plc N) k)) (fun i _ => 16 - (intOf i).toNat)
  case atStart => exact ⟨0, rfl, by omega, HS⟩
  case round =>
    obtain ⟨k, rfl, hk, HI⟩ := hrel
    by_cases hlt : k < 15
    · have c1 := HI.out.fs.cells k (by omega)
      have c2 := HI.out.cs.cells k (by omega)
      have c3 := HI.out.fs.cells (k + 1) (by omega)
      have f1 := Cells.frozen HI.out.fs (k + 1)
      rw [if_pos (Nat.le_refl _)] at c1
      rw [if_neg (by omega)] at c3
      have hE := hN (k + 1) (by omega)
      rw [plc] at hE
      obtain ⟨a, ha⟩ : ∃ a, plc N k = a := ⟨_, rfl⟩
      obtain ⟨b, hb⟩ : ∃ b, N k = b := ⟨_, rfl⟩
      have HP := Lib.hid (HI.out.next ((a : Int) + b) (by unfold toI; rw [plc, ha, hb]; omega))
      unfold toI at c1 c2
      rw [ha] at c1 hE
      rw [hb] at c2 hE
      clear ha hb
      have d1 : decide (((k + 1 : Nat) : Int) ≤ 15) = true := decide_eq_true (by omega)
      obtain ⟨m, hm⟩ : ∃ m, k + 1 = m := ⟨_, rfl⟩
      rw [hm] at HP c3 f1 d1
      have hm1 : ((m : Int) - 1) = (k : Int) := by omega
      rw [hm]
      have hm2 : m ≤ 15 := by omega
      have HM := Lib.hid hm
      clear hm HI
      go_wp2_with fail
      go_region
      go_wp2_with fail
      have HM2 := HM.out
      refine ⟨⟨m, by go_num, hm2, Lib.hid ?_⟩, by simp [intOf]; omega⟩
      rw [← HM2] at HP ⊢
      exact HP.out.drew1
    · obtain rfl : k = 15 := by omega
      obtain ⟨W, hs, hW, hC⟩ := run_arrStore1 HI.out.res (toI (plc N))
      have ld := run_arrLoad1 HI.out.all
      have HW := Lib.hid hW
      have HB := Lib.hid (HI.out.bel.trans (hC.below (fun k hk => by omega) HI.out.bel.size))
      clear hW hC HI
      go_wp2_with fail
      exact bodyPost_ret (results_arr1 rfl _ HW.out rfl) rfl ⟨rfl, HB.out⟩

end Go.Proofs.YtehnilmfeoadgaaDoor
/- huff's Codes and New. -/
namespace Go.Proofs.YtehnilmfeoadgaaDoor
open Go.RowKit
attribute [local simp ↓ high] arrAlloc_as1 arrAlloc_as2 arrStore_as1 arrStore_as2 arrLoad_as1 arrLoad_as2 arrEql_as arrBuild_as

theorem Lg.ok {l : List Int} (h : Lg l 0) : l.length ≤ 320 ∧ Fine l ∧ okS (nOf l) := by
  rcases h with ⟨h1, _⟩ | ⟨h1, h2, ⟨_, h3⟩ | ⟨h3, _⟩⟩
  · omega
  · exact ⟨h1, h2, h3⟩
  · omega
theorem Lg.cases {l : List Int} {e : Int} (h : Lg l e) : e = 0 ∨ e = 1 ∨ e = 4 := by
  rcases h with ⟨h1, _⟩ | ⟨h1, h2, ⟨h3, _⟩ | ⟨h3, _⟩⟩ <;> omega
theorem nOf_zero (l : List Int) : nOf l 0 = 0 := cN_zero _ _
theorem plc_le {l : List Int} (h : Fine l) (t : Nat) (ht : t ≤ 16) : plc (nOf l) t ≤ l.length := by
  have h1 := csum_is (lnN l) (fun i => (h.ln i).2) l.length
  have h2 := csum_le (lnN l) l.length
  have h3 := plc_mono (nOf l) t 16 ht
  unfold nOf at *
  omega
/-- The next code of each length, behind k symbols. -/
def nxF (f : Nat → Nat) (a : Nat → Nat) (k j : Nat) : Int := if j = 0 then 0 else ((f j + cnt a j k : Nat) : Int)
theorem nxF_start (f a : Nat → Nat) (h : f 0 = 0) (j : Nat) : toI f j = nxF f a 0 j := by
  unfold nxF toI
  by_cases c : j = 0
  · subst c; rw [if_pos rfl, h]; rfl
  · rw [if_neg c, cnt]; rfl
theorem nxF_zero (f a : Nat → Nat) (k : Nat) (h : a k = 0) (j : Nat) : nxF f a k j = nxF f a (k + 1) j := by
  unfold nxF
  by_cases c : j = 0
  · rw [if_pos c, if_pos c]
  · rw [if_neg c, if_neg c, cnt, if_neg (by omega), Nat.add_zero]
theorem nxF_next (f a : Nat → Nat) (k m : Nat) (h : a k = m) (hm : m ≠ 0) (j : Nat) : updN (nxF f a k) m (nxF f a k m + 1) j = nxF f a (k + 1) j := by
  unfold nxF
  by_cases c : j = m
  · subst c
    rw [updN_same, if_neg hm, if_neg hm, cnt, if_pos h]
    omega
  · rw [updN_other _ _ _ _ c]
    by_cases d : j = 0
    · rw [if_pos d, if_pos d]
    · rw [if_neg d, if_neg d, cnt, if_neg (by omega), Nat.add_zero]
/-- Behind k symbols: the codes. -/
structure Cod (w wr : World) (l : List Int) (g2 g3 k : Nat) : Prop where
  nx : ArrAt wr g2 87 (nxF (fstC (nOf l)) (lnN l) k)
  cs : Cells wr g3 3 l.length (fun j => .int .i64 (if j < k then ((codeC (lnN l) l.length j : Nat) : Int) else 0))
  ne : g2 ≠ g3
  b2 : w.heap.size ≤ g2
  b3 : w.heap.size ≤ g3
  bel : Below w.heap.size w wr
theorem Cod.skip {w wr : World} {l : List Int} {g2 g3 k : Nat} (h : Cod w wr l g2 g3 k) (h0 : lnN l k = 0) : Cod w wr l g2 g3 (k + 1) := by
  obtain ⟨h1, h2, h3, h4, h5, h6⟩ := h
  refine ⟨h1.congr fun j _ => nxF_zero _ _ k h0 j, h2.congr fun j _ => ?_, h3, h4, h5, h6⟩
  by_cases c : j < k
  · rw [if_pos c, if_pos (by omega)]
  · rw [if_neg c]
    by_cases d : j < k + 1
    · obtain rfl : j = k := by omega
      rw [if_pos d]; unfold codeC; rw [if_pos h0]; rfl
    · rw [if_neg d]
theorem Cod.next {w wr : World} {l : List Int} {g2 g3 k m : Nat} (h : Cod w wr l g2 g3 k) (hm : lnN l k = m) (h0 : m ≠ 0) (x : Int) (hx : nxF (fstC (nOf l)) (lnN l) k m = x) :
    Cod w ((wr.setCell ⟨g3, k, none⟩ (.int .i64 x)).setCell ⟨g2, m, none⟩ (.int .i64 (x + 1))) l g2 g3 (k + 1) := by
  obtain ⟨h1, h2, h3, h4, h5, h6⟩ := h
  subst hx
  refine ⟨ArrAt.congr (ArrAt.set (Cells.block h1 (Below.heap_setCell _ ⟨g3, k, none⟩ _ _ h3)) m _) fun j hj => nxF_next _ _ k m hm h0 j,
    Cells.congr (Cells.block (Cells.set h2 k _) (Below.heap_setCell _ ⟨g2, m, none⟩ _ _ (Ne.symm h3))) fun j _ => ?_, h3, h4, h5, (h6.setCell (show w.heap.size ≤ g3 from h5) _).setCell (show w.heap.size ≤ g2 from h4) _⟩
  by_cases c : j = k
  · subst c
    rw [upd_same, if_pos (by omega)]
    have e : codeC (lnN l) l.length j = fstC (nOf l) m + cnt (lnN l) m j := by
      unfold codeC nOf; rw [if_neg (by omega), hm]
    rw [e]; unfold nxF; rw [if_neg h0]
  · unfold upd
    rw [if_neg c]
    dsimp only
    by_cases d : j < k
    · rw [if_pos d, if_pos (by omega)]
    · rw [if_neg d, if_neg (by omega)]
/-- The codes as numbers. -/
def codesL (l : List Int) (e : Int) : List Int := if e = 0 then lstF (fun i => ((codeC (lnN l) l.length i : Nat) : Int)) l.length else []
theorem Cod.done {w wr : World} {l : List Int} {g2 g3 : Nat} (h : Cod w wr l g2 g3 l.length) (hl : l.length ≤ 320) : IAt (fun k => w.heap.size ≤ k) wr (some ⟨g3, 0, none⟩) l.length l.length (codesL l 0) := by
  have hc := h.cs.congr (D := fun j => .int .i64 ((codeC (lnN l) l.length j : Nat) : Int)) fun j hj => by rw [if_pos hj]
  have := IAt.of_cells (f := fun i => ((codeC (lnN l) l.length i : Nat) : Int)) hc (by unfold maxLen; omega)
  unfold codesL
  rw [if_pos rfl]
  exact this.weak fun k _ hk => by rw [hk]; exact h.b3
end Go.Proofs.YtehnilmfeoadgaaDoor
/- huff's New. -/
namespace Go.Proofs.YtehnilmfeoadgaaDoor
open Go.RowKit
attribute [local simp ↓ high] arrAlloc_as1 arrAlloc_as2 arrStore_as1 arrStore_as2 arrLoad_as1 arrLoad_as2 arrEql_as arrBuild_as

/-- Behind k symbols: the table's symbols. -/
structure Nw (w wr : World) (l : List Int) (g1 g2 g3 k : Nat) : Prop where
  ct : ArrAt wr g1 88 (toI (nOf l))
  nx : ArrAt wr g2 87 (nxF (plc (nOf l)) (lnN l) k)
  cs : Cells wr g3 3 (plc (nOf l) 16) (fun j => .int .i64 ((tabF (lnN l) (nOf l) k j : Nat) : Int))
  n12 : g1 ≠ g2
  n13 : g1 ≠ g3
  ne : g2 ≠ g3
  b1 : w.heap.size ≤ g1
  b2 : w.heap.size ≤ g2
  b3 : w.heap.size ≤ g3
  bel : Below w.heap.size w wr
theorem Nw.skip {w wr : World} {l : List Int} {g1 g2 g3 k : Nat} (h : Nw w wr l g1 g2 g3 k) (h0 : lnN l k = 0) : Nw w wr l g1 g2 g3 (k + 1) := by
  obtain ⟨h0', h1, h2, n12, n13, h3, h3', h4, h5, h6⟩ := h
  refine ⟨h0', h1.congr fun j _ => nxF_zero _ _ k h0 j, h2.congr fun j _ => ?_, n12, n13, h3, h3', h4, h5, h6⟩
  rw [tabF, if_pos h0]
theorem Nw.next {w wr : World} {l : List Int} {g1 g2 g3 k m p : Nat} (h : Nw w wr l g1 g2 g3 k) (hm : lnN l k = m) (h0 : m ≠ 0) (hp : plc (nOf l) m + cnt (lnN l) m k = p) :
    Nw w ((wr.setCell ⟨g3, p, none⟩ (.int .i64 (k : Nat))).setCell ⟨g2, m, none⟩ (.int .i64 ((p : Int) + 1))) l g1 g2 g3 (k + 1) := by
  obtain ⟨h0', h1, h2, n12, n13, h3, h3', h4, h5, h6⟩ := h
  have hx : ((p : Int) + 1) = nxF (plc (nOf l)) (lnN l) k m + 1 := by unfold nxF; rw [if_neg h0, hp]
  rw [hx]
  refine ⟨Cells.block (Cells.block h0' (Below.heap_setCell _ ⟨g3, p, none⟩ _ _ n13)) (Below.heap_setCell _ ⟨g2, m, none⟩ _ _ n12),
    ArrAt.congr (ArrAt.set (Cells.block h1 (Below.heap_setCell _ ⟨g3, p, none⟩ _ _ h3)) m _) fun j hj => nxF_next _ _ k m hm h0 j,
    Cells.congr (Cells.block (Cells.set h2 p _) (Below.heap_setCell _ ⟨g2, m, none⟩ _ _ (Ne.symm h3))) fun j _ => ?_, n12, n13, h3, h3', h4, h5, (h6.setCell (show w.heap.size ≤ g3 from h5) _).setCell (show w.heap.size ≤ g2 from h4) _⟩
  rw [tabF, if_neg (by omega), hm, hp]
  by_cases c : j = p
  · subst c
    rw [upd_same, if_pos rfl]
  · unfold upd
    rw [if_neg c, if_neg c]
/-- The symbols in the order of their codes. -/
def symsL (l : List Int) : List Int := lstF (fun j => ((tabF (lnN l) (nOf l) l.length j : Nat) : Int)) (plc (nOf l) 16)
/-- A table's cells. -/
def tC (l : List Int) (v : Value) (j : Nat) : Value := if j < 16 then .int .i64 (toI (nOf l) j) else v
def tabA (M : Nat → Int) (v : Value) : Array Value := (((List.range 16).map fun j => Value.int .i64 (M j)) ++ [v]).toArray
theorem tabA_size (M : Nat → Int) (v : Value) : (tabA M v).size = 17 := by simp [tabA]
theorem tabA_at (M : Nat → Int) (v : Value) (j : Nat) (h : j < 17) : (tabA M v)[j]? = some (if j < 16 then .int .i64 (M j) else v) := by
  unfold tabA
  rw [List.getElem?_toArray]
  by_cases c : j < 16
  · rw [List.getElem?_append_left (by simpa using c), if_pos c]
    simp [c]
  · obtain rfl : j = 16 := by omega
    rfl
structure TabAt (F : Nat → Prop) (w : World) (g : Nat) (l : List Int) : Prop where
  here : F g
  is : ∃ A n cap, Cells w g 90 17 (tC l (.slice A n cap)) ∧ IAt F w A n cap (symsL l)
theorem TabAt.keep {F : Nat → Prop} {w w' : World} {g : Nat} {l : List Int} (h : TabAt F w g l) (hs : w.heap.size ≤ w'.heap.size) (hb : ∀ k, k < w.heap.size → F k → w'.heap[k]? = w.heap[k]?) : TabAt F w' g l := by
  obtain ⟨h1, A, n, cap, h2, h3⟩ := h
  exact ⟨h1, A, n, cap, h2.block (hb g h2.lt h1), h3.keep hs hb⟩
theorem TabAt.below {F : Nat → Prop} {w w' : World} {g : Nat} {l : List Int} (h : TabAt F w g l) (hb : Below w.heap.size w w') : TabAt F w' g l := h.keep hb.size fun k hk _ => hb.block k hk
theorem TabAt.ch {F G : Nat → Prop} {w w' : World} {g : Nat} {l : List Int} (h : TabAt F w g l) (hb : Ch G w w') (hF : ∀ k, F k → ¬ G k) : TabAt F w' g l := h.keep hb.size fun k hk hf => hb.block k hk (hF k hf)
theorem TabAt.weak {F G : Nat → Prop} {w : World} {g : Nat} {l : List Int} (h : TabAt F w g l) (hF : ∀ k, k < w.heap.size → F k → G k) : TabAt G w g l := by
  obtain ⟨h1, A, n, cap, h2, h3⟩ := h
  exact ⟨hF g h2.lt h1, A, n, cap, h2, h3.weak hF⟩
def tabBuild (l : Array (Nat × Value)) : Sem Value := Instr.build 90 l
theorem tabBuild_as (l : Array (Nat × Value)) : Instr.build 90 l = tabBuild l := rfl
theorem run_tabBuild (M : Nat → Int) (A : Option Addr) (n cap : Nat) (u : World) : (tabBuild #[(0, .agg (arrA M)), (1, .slice A n cap)]).run Tryd.prog u = .ok (.agg (tabA M (.slice A n cap))) u :=
  run_build u _ _ _ (show Tryd.prog.built 90 [(0, .agg (arrA M)), (1, .slice A n cap)] = some (tabA M (.slice A n cap)) by kernel_rfl)
def Newed (w : World) (l : List Int) (e : Int) (x : Ending) (w' : World) : Prop := ∃ P, x = .returned (.tuple #[.pointer P, .int .i64 e]) ∧ Below w.heap.size w w' ∧ (e ≠ 0 → P = none) ∧ (e = 0 → ∃ g, P = some ⟨g, 0, none⟩ ∧ TabAt (fun k => w.heap.size ≤ k) w' g l)
theorem Nw.done {w wr : World} {l : List Int} {g1 g2 g3 : Nat} (h : Nw w wr l g1 g2 g3 l.length) (hl : plc (nOf l) 16 ≤ 320) :
    Newed w l 0 (.returned (.tuple #[.pointer (some ⟨wr.heap.size, 0, none⟩), .int .i64 0])) (wr.alloc (.cells (tabA (toI (nOf l)) (.slice (some ⟨g3, 0, none⟩) (plc (nOf l) 16) (plc (nOf l) 16))) 90)) := by
  have hI := IAt.of_cells (f := fun j => ((tabF (lnN l) (nOf l) l.length j : Nat) : Int)) h.cs (by unfold maxLen; omega)
  have hs := h.bel.size
  refine ⟨_, rfl, h.bel.alloc hs _, fun x => absurd rfl x, fun _ => ⟨_, rfl, hs, _, _, _, Cells.new wr _ _ 17 _ (tabA_size _ _) (fun j hj => tabA_at _ _ j hj), ?_⟩⟩
  exact (hI.weak (G := fun k => w.heap.size ≤ k) fun k _ hk => by rw [hk]; exact h.b3).below (bnew _ _)
attribute [local simp ↓ high] tabBuild_as
theorem pl_small {l : List Int} (k m : Nat) (hlt : k < l.length) (hm : lnN l k = m) (h0 : m ≠ 0) (h15 : m ≤ 15) : plc (nOf l) m + cnt (lnN l) m k < plc (nOf l) 16 := by
  have h1 := slot_lt (lnN l) l.length k (by omega) hlt
  rw [hm] at h1
  have h2 := plc_mono (nOf l) (m + 1) 16 (by omega)
  unfold nOf at *
  omega
set_option maxHeartbeats 3200000 in
theorem new_any (A : Option Addr) (n cap : Nat) (l : List Int) (e : Int) (w : World) (hl : IAt (fun _ => True) w A n cap l) (he : Lg l e) :
    Calls Tryd.prog 40 #[.slice A n cap] w (Newed w l e) := by
  have a1 := run_arrAlloc1
  have a2 := run_arrAlloc2
  have H1 := Lib.hid (count_any A n cap l e w hl he)
  have hlen := hl.len
  have hf := hl.fit
  have hm := hl.max
  have HL := Lib.hid hl
  unfold maxLen at hm
  clear hl
  go_enter Tryd.func40, Tryd.ntmps40
  go_wp2_with fail
  refine H1.out.mono ?_
  rintro e' w1 ⟨rfl, hb1⟩
  clear H1
  by_cases e0 : e = 0
  · subst e0
    obtain ⟨h320, hfine, hok⟩ := he.ok
    rw [cntR_yes]
    obtain ⟨W, hs1, hW, hC1⟩ := run_arrStore2 (ArrAt.new w1 88 fun _ => 0) (toI (nOf l))
    have ld1 := run_arrLoad2 hW.cells
    have hbW : Below w.heap.size w W := (hb1.alloc hb1.size (.cells (arrA fun _ => 0) 88)).trans (hC1.below (fun k hk => by have := hb1.size; omega) (by have := hb1.size; simp; omega))
    have HF := Lib.hid (places_any (nOf l) (fun t ht => by have := plc_le hfine t ht; omega) W)
    have HbW := Lib.hid hbW
    have HW := Lib.hid hW
    have hg1 : w.heap.size ≤ w1.heap.size := hb1.size
    clear hb1 hW hC1 hbW
    go_wp2_with fail
    refine HF.out.mono ?_
    rintro e' w2 ⟨rfl, hb2⟩
    obtain ⟨V, hs2, hV, hC2⟩ := run_arrStore1 (ArrAt.new w2 87 fun _ => 0) (toI (plc (nOf l)))
    have hb3 : Below w.heap.size w w2 := HbW.out.trans (hb2.mono HbW.out.size)
    have hbV : Below w.heap.size w V := (hb3.alloc hb3.size (.cells (arrA fun _ => 0) 87)).trans (hC2.below (fun k hk => by have := hb3.size; omega) (by have := hb3.size; simp; omega))
    have hp16 := plc_le hfine 16 (Nat.le_refl _)
    have hlt1 : w1.heap.size < w2.heap.size := Nat.lt_of_lt_of_le HW.out.lt hb2.size
    have hWV : ArrAt V w1.heap.size 88 (toI (nOf l)) := Cells.block (Cells.below (Cells.below HW.out hb2) (bnew w2 _)) (hC2.block _ (by simp; omega) (by omega))
    obtain ⟨U, mk, hU, hbU⟩ := make_ints (plc (nOf l) 16) V (by omega)
    obtain ⟨g1, hg1'⟩ : ∃ g1, w1.heap.size = g1 := ⟨_, rfl⟩
    obtain ⟨g2, hg2⟩ : ∃ g2, w2.heap.size = g2 := ⟨_, rfl⟩
    obtain ⟨g3, hg3⟩ : ∃ g3, V.heap.size = g3 := ⟨_, rfl⟩
    have h23 : g2 < g3 := by rw [← hg3, ← hg2]; exact hV.lt
    have hS : Nw w U l g1 g2 g3 0 := by
      refine ⟨?_, ?_, ?_, by omega, by omega, by omega, by omega, by have := hb3.size; omega, by have := hb3.size; omega, hbV.trans (hbU.mono hbV.size)⟩
      · rw [← hg1']
        exact Cells.block hWV (hbU.block _ hWV.lt)
      · rw [← hg2]
        exact ArrAt.congr (Cells.block hV (hbU.block _ hV.lt)) fun j _ => nxF_start _ (lnN l) rfl j
      · rw [← hg3]; exact hU
    have HS := Lib.hid hS
    have HF := Lib.hid hfine
    have c15 := hV.cells 15 (by decide)
    have d15 := hWV.cells 15 (by decide)
    obtain ⟨p15, hp15⟩ : ∃ p, plc (nOf l) 15 = p := ⟨_, rfl⟩
    obtain ⟨n15, hn15⟩ : ∃ p, nOf l 15 = p := ⟨_, rfl⟩
    obtain ⟨S, hS16⟩ : ∃ S, plc (nOf l) 16 = S := ⟨_, rfl⟩
    have hsum : ((p15 : Int) + n15) = S := by
      have : plc (nOf l) 16 = plc (nOf l) 15 + nOf l 15 := rfl
      omega
    unfold toI at c15 d15
    rw [hp15, hg2] at c15
    rw [hn15, hg1'] at d15
    rw [hS16] at hp16 mk
    rw [hg2] at hs2
    rw [hg3] at mk
    have hp15l : p15 ≤ 320 := by omega
    have hn15l : n15 ≤ 320 := by omega
    have HT := Lib.hid hS16
    clear hb2 hV hC2 hb3 hbV hU hbU hS h23 hfine HbW ld1 hs1 hWV HW hp15 hn15 hS16 hlt1
    go_wp2_with fail
    clear hs2 mk hg2 hg3 hg1' hsum
    go_loopw [28] (fun i wr => ∃ k : Nat, i = .int .i64 k ∧ k ≤ n ∧ Hid (Nw w wr l g1 g2 g3 k)) (fun i _ => n - (intOf i).toNat)
    case atStart => exact ⟨0, rfl, by omega, HS⟩
    case round =>
      obtain ⟨k, rfl, hk, HI⟩ := hrel
      by_cases hlt : k < n
      · obtain ⟨b, o, rfl, _, hbl, hc⟩ := HL.out.lies (by omega)
        have c0 := (HI.out.bel.cell (p := ⟨b, o + k, none⟩) hbl).trans (hc k hlt)
        clear hc
        obtain ⟨m, hm⟩ : ∃ m, lnN l k = m := ⟨_, rfl⟩
        obtain ⟨hx, h15⟩ := HF.out.ln k
        rw [hm] at hx h15
        rw [hx] at c0
        by_cases h0 : m = 0
        · have HN := Lib.hid (HI.out.skip (by omega))
          subst h0
          clear hm hx
          go_wp2_with fail
          go_roundw
          case rel => exact ⟨k + 1, by go_num, by omega, HN⟩
          case measure => first | (simp [intOf]; done) | (simp [intOf]; omega)
        · obtain ⟨x, hx2⟩ : ∃ x, plc (nOf l) m + cnt (lnN l) m k = x := ⟨_, rfl⟩
          have hsm := pl_small (l := l) k m (by omega) hm h0 h15
          rw [hx2, HT.out] at hsm
          have HN := Lib.hid (HI.out.next hm h0 hx2)
          have c1 := HI.out.nx.cells m (by omega)
          unfold nxF at c1
          rw [if_neg h0, hx2] at c1
          have f1 := Cells.frozen HI.out.nx m
          have c2 := HI.out.cs.cell x (by rw [HT.out]; omega)
          have f2 := Cells.frozen HI.out.cs x
          have ne := HI.out.ne
          have ne2 := Ne.symm ne
          have d1 : decide ((0 : Int) < (m : Int)) = true := decide_eq_true (by omega)
          clear hm hx hx2 HI
          go_wp2_with fail
          go_roundw
          case rel => exact ⟨k + 1, by go_num, by omega, HN⟩
          case measure => first | (simp [intOf]; done) | (simp [intOf]; omega)
      · obtain rfl : k = n := by omega
        subst hlen
        have HD := Lib.hid (HI.out.done (by rw [HT.out]; omega))
        have ld := run_arrLoad2 HI.out.ct.cells
        have tb := run_tabBuild
        rw [HT.out] at HD
        clear HI
        go_wp2_with fail
        go_ret2
        exact HD.out
  · rw [cntR_no l e e0]
    obtain ⟨W, hs1, hW, hC1⟩ := run_arrStore2 (ArrAt.new w1 88 fun _ => 0) (fun _ => 0)
    have hbW : Below w.heap.size w W := (hb1.alloc hb1.size (.cells (arrA fun _ => 0) 88)).trans (hC1.below (fun k hk => by have := hb1.size; omega) (by have := hb1.size; simp; omega))
    have HR : Hid (Newed w l e (.returned (.tuple #[.pointer none, .int .i64 e])) W) := Lib.hid ⟨none, rfl, hbW, fun _ => rfl, fun h => absurd h e0⟩
    have he2 := he.cases
    clear hb1 hW hC1 hbW he
    have he3 : e = 1 ∨ e = 4 := by omega
    rcases he3 with rfl | rfl
    · go_wp2_with fail
      go_ret2
      exact HR.out
    · go_wp2_with fail
      go_ret2
      exact HR.out

end Go.Proofs.YtehnilmfeoadgaaDoor
/- huff's Clone, Read, At, Align, Take and Bytes. -/
namespace Go.Proofs.YtehnilmfeoadgaaDoor
open Go.RowKit

/-- Bit p of bytes, the lowest one of each first. -/
def bitN (l : List Int) (p : Nat) : Nat := (gI l (p / 8)).toNat / 2 ^ (p % 8) % 2
theorem bitN_le (l : List Int) (p : Nat) : bitN l p ≤ 1 := by unfold bitN; omega
/-- Bits in block g: the bytes l, p bits taken; the bytes lie where F says. -/
structure BitsAt (F : Nat → Prop) (w : World) (g : Nat) (l : List Int) (p : Nat) : Prop where
  apart : ¬ F g
  fit : p ≤ 8 * l.length
  is : ∃ A n cap, w.heap[g]? = some (.cells #[.slice A n cap, .int .i64 (p : Nat)] 58 (0, 0)) ∧ BAt8 F w A n cap l
theorem BitsAt.lt {F : Nat → Prop} {w : World} {g : Nat} {l : List Int} {p : Nat} (h : BitsAt F w g l p) : g < w.heap.size := by
  obtain ⟨_, _, A, n, cap, h1, _⟩ := h
  exact (Array.getElem?_eq_some_iff.1 h1).1
theorem BitsAt.below {F : Nat → Prop} {w w' : World} {g : Nat} {l : List Int} {p : Nat} (h : BitsAt F w g l p) (hb : Below w.heap.size w w') : BitsAt F w' g l p := by
  have hg := h.lt
  obtain ⟨h1, h2, A, n, cap, h3, h4⟩ := h
  exact ⟨h1, h2, A, n, cap, (hb.block g hg).trans h3, h4.below hb⟩
theorem eql_none (u : World) : (binOp .eql 22 (.slice none 0 0) (.slice none 0 0)).run Tryd.prog u = .ok (.bool true) u := Lib.run_eql_slice_nil_nil u 0 0 Tryd.underlying22
theorem eql_some (ad : Addr) (n c : Nat) (u : World) : (binOp .eql 22 (.slice (some ad) n c) (.slice none 0 0)).run Tryd.prog u = .ok (.bool false) u := Lib.run_eql_slice_some_nil u ad n c Tryd.underlying22
def Cloned (w : World) (n : Nat) (l : List Int) (x : Ending) (w' : World) : Prop := ∃ A cap, x = .returned (.slice A n cap) ∧ BAt8 (fun k => w.heap.size ≤ k) w' A n cap l ∧ Below w.heap.size w w'
theorem clone_any (F : Nat → Prop) (A : Option Addr) (n cap : Nat) (l : List Int) (w : World) (hl : BAt8 F w A n cap l) (hn : n ≤ 1000000) :
    Calls Tryd.prog 21 #[.slice A n cap] w (Cloned w n l) := by
  have hf := hl.fit
  have hm := hl.max
  have hlen := hl.len
  unfold maxLen at hm
  rcases A with _ | ad
  · have hc := hl.nil rfl
    have hn0 : n = 0 := by omega
    obtain rfl : l = [] := List.eq_nil_of_length_eq_zero (by omega)
    subst hn0 hc
    have HB := Lib.hid (Below.refl w.heap.size w)
    have q := eql_none
    go_enter Tryd.func21, Tryd.ntmps21
    go_wp2_with fail
    go_ret
    exact ⟨none, 0, rfl, BAt8.empty _ _, HB.out⟩
  · have ho := World.ownsRow_lit (size := 1) (base := w.heap.size) (e := 5) w (#[] : Array Value) 0 (Nat.le_refl _) (Nat.zero_le _) rfl
    have HO := Lib.hid ho
    have HY := Lib.hid (hl.below (bnew w (.cells #[] 5)))
    have hbd := hl.bd
    have HB := Lib.hid (bnew w (.cells (#[] : Array Value) 5))
    have q := eql_some ad n cap
    clear hl ho
    go_enter Tryd.func21, Tryd.ntmps21
    go_wp2_with (first
      | (at_builtin
         refine wpList_append_u8 (P := Tryd.prog) w.heap.size 5 22 infoB8 Tryd.underlying22 rfl (.tmp 5) (.tmp 6) rfl _ _ [] rfl HO.out rfl HY.out (by omega) (by simp) ?_
         intro v' w3 hown3 hb3
         have hown : w3.ownsRow w.heap.size 5 1 v' n (l.map u8I) := by simpa using hown3
         clear hown3
         obtain ⟨A3, cap3, rfl, hn3, hm3⟩ := own_slice hown
         have HR : Hid (Cloned w n l (.returned (.slice A3 n cap3)) w3) := Lib.hid ⟨A3, cap3, rfl, bytes_own hown hbd, HB.out.trans hb3⟩
         clear hown hb3))
    go_ret
    exact HR.out
set_option maxHeartbeats 800000 in
theorem read_any (F : Nat → Prop) (A : Option Addr) (n cap : Nat) (l : List Int) (w : World) (hl : BAt8 F w A n cap l) (hn : n ≤ 1000000) :
    Calls Tryd.prog 17 #[.slice A n cap] w fun x w' => ∃ g, x = .returned (.pointer (some ⟨g, 0, none⟩)) ∧ w.heap.size ≤ g ∧ BitsAt (fun k => w.heap.size ≤ k ∧ k < g) w' g l 0 ∧ Below w.heap.size w w' := by
  have H := Lib.hid (clone_any F A n cap l w hl hn)
  clear hl
  go_enter Tryd.func17, Tryd.ntmps17
  go_wp2_with fail
  refine H.out.mono ?_
  rintro e w1 ⟨A1, c1, rfl, hB, hb⟩
  have HR : Hid (∃ g, Ending.returned (.pointer (some ⟨w1.heap.size, 0, none⟩)) = .returned (.pointer (some ⟨g, 0, none⟩)) ∧ w.heap.size ≤ g ∧ BitsAt (fun k => w.heap.size ≤ k ∧ k < g) (w1.alloc (.cells #[.slice A1 n c1, .int .i64 0] 58)) g l 0 ∧ Below w.heap.size w (w1.alloc (.cells #[.slice A1 n c1, .int .i64 0] 58))) :=
    Lib.hid ⟨_, rfl, hb.size, ⟨by omega, by omega, A1, n, c1, heap_alloc_new _ _, (hB.weak fun k hk h => ⟨h, hk⟩).below (bnew _ _)⟩, hb.alloc hb.size _⟩
  clear hB hb
  go_wp2_with fail
  go_ret
  exact HR.out
theorem at_any (F : Nat → Prop) (w : World) (g : Nat) (l : List Int) (p : Nat) (h : BitsAt F w g l p) (hl : l.length ≤ 1000000) : Calls Tryd.prog 19 #[.pointer (some ⟨g, 0, none⟩)] w fun e w' => e = .returned (.int .i64 (((p + 7) / 8 : Nat) : Int)) ∧ w = w' := by
  obtain ⟨h1, h2, A, n, cap, h3, h4⟩ := h
  have c1 := cell_of_row w g 1 _ _ (0, 0) h3
  simp at c1
  clear h3 h4 h1
  have e : ((p : Int) + 7) / 8 = (((p + 7) / 8 : Nat) : Int) := by omega
  rw [← e]
  clear e
  go_enter Tryd.func19, Tryd.ntmps19
  go_wp2_with fail
  go_ret
  exact ⟨rfl, rfl⟩

end Go.Proofs.YtehnilmfeoadgaaDoor
/- huff's Take, of one bit. -/
namespace Go.Proofs.YtehnilmfeoadgaaDoor
open Go.RowKit

theorem w64 (n : Int) (h₀ : 0 ≤ n) (h₁ : n < 2 ^ 31) : IntKind.i64.wrap n = n := by rw [IntKind.wrap_i64]; omega
theorem take_no (F : Nat → Prop) (g : Nat) (l : List Int) (p : Nat) (w : World) (h : BitsAt F w g l p) (hp : 8 * l.length ≤ p) (hl : l.length ≤ 1000000) :
    Calls Tryd.prog 26 #[.pointer (some ⟨g, 0, none⟩), .int .i64 1] w fun e w' => e = .returned (.tuple #[.int .i64 0, .bool false]) ∧ ∃ k, w' = w.drewN k := by
  obtain ⟨h1, h2, A, n, cap, h3, h4⟩ := h
  have c0 := cell_of_row w g 0 _ _ (0, 0) h3
  have c1 := cell_of_row w g 1 _ _ (0, 0) h3
  simp at c0 c1
  have hlen := h4.len
  have hf := h4.fit
  have hm := h4.max
  unfold maxLen at hm
  have d1 : decide ((8 * (n : Int) - p) < 1) = true := decide_eq_true (by omega)
  clear h3 h4 h1
  go_enter Tryd.func26, Tryd.ntmps26
  go_wp2_with fail
  go_quiet (fail)
  go_wp2_with fail
  go_ret2
  exact ⟨rfl, _, rfl⟩
def Took (F : Nat → Prop) (w : World) (g : Nat) (l : List Int) (p : Nat) (e : Ending) (w' : World) : Prop := e = .returned (.tuple #[.int .i64 (bitN l p : Nat), .bool true]) ∧ BitsAt F w' g l (p + 1) ∧ Ch (fun k => k = g) w w'
theorem BitsAt.drewN {F : Nat → Prop} {w : World} {g : Nat} {l : List Int} {p : Nat} (h : BitsAt F w g l p) (m : Nat) : BitsAt F (w.drewN m) g l p := h.below (bdrawn (Below.refl _ _) m)
theorem BitsAt.set {F : Nat → Prop} {w : World} {g : Nat} {l : List Int} {p : Nat} (h : BitsAt F w g l p) (q : Nat) (hq : q ≤ 8 * l.length) (v : Int) (hv : v = (q : Int)) : BitsAt F (w.setCell ⟨g, 1, none⟩ (.int .i64 v)) g l q := by
  obtain ⟨h1, h2, A, n, cap, h3, h4⟩ := h
  subst hv
  refine ⟨h1, hq, A, n, cap, heap_setCell_same w g 1 _ _ _ h3, h4.keep (by simp [World.setCell]) fun k _ hF => Below.heap_setCell _ ⟨g, 1, none⟩ _ _ (fun e => h1 (by rw [← show k = g from e]; exact hF))⟩
set_option maxHeartbeats 1600000 in
theorem take_yes (F : Nat → Prop) (g : Nat) (l : List Int) (p : Nat) (w : World) (h : BitsAt F w g l p) (hp : p < 8 * l.length) (hl : l.length ≤ 1000000) :
    Calls Tryd.prog 26 #[.pointer (some ⟨g, 0, none⟩), .int .i64 1] w (Took F w g l p) := by
  have HH := Lib.hid h
  obtain ⟨h1, h2, A, n, cap, h3, h4⟩ := h
  have c0 := cell_of_row w g 0 _ _ (0, 0) h3
  have c1 := cell_of_row w g 1 _ _ (0, 0) h3
  simp at c0 c1
  have f1 := frozen_of_row w g 1 _ _ h3
  have hlen := h4.len
  have hf := h4.fit
  have hm := h4.max
  unfold maxLen at hm
  have d1 : decide ((8 * (n : Int) - p) < 1) = false := decide_eq_false (by omega)
  obtain ⟨i, hi⟩ : ∃ i, p % 8 = i := ⟨_, rfl⟩
  obtain ⟨j, hj⟩ : ∃ j, p / 8 = j := ⟨_, rfl⟩
  have hi1 : (p : Int) % 8 = (i : Int) := by omega
  have hj1 : (p : Int) / 8 = (j : Int) := by omega
  obtain ⟨b, o, rfl, hb, hbl, hc⟩ := h4.lies (by omega)
  have cj := hc j (by omega)
  have hx := h4.bd j
  obtain ⟨x, hxx⟩ : ∃ x, gI l j = x := ⟨_, rfl⟩
  rw [hxx] at cj hx
  have hj2 : j < n := by omega
  have hi8 : i < 8 := by omega
  obtain ⟨V, hV⟩ : ∃ V, bitN l p = V := ⟨_, rfl⟩
  have hV1 : V ≤ 1 := by rw [← hV]; exact bitN_le l p
  have hand : bits .and .i64 (x / 2 ^ i) 1 = (V : Int) := by
    have e1 : x / 2 ^ i = ((x.toNat / 2 ^ i : Nat) : Int) := by
      have : x = (x.toNat : Int) := by omega
      rw [this]; simp
    have e2 : x.toNat / 2 ^ i % 2 = V := by rw [← hV]; unfold bitN; rw [hi, hj, hxx]
    have e3 := Nat.div_le_self x.toNat (2 ^ i)
    rw [e1]
    generalize x.toNat / 2 ^ i = q at *
    have e4 : bits .and .i64 (q : Int) 1 = (q : Int) % 2 := bits_mask .i64 31 (by decide) w64 1 (by decide) (q : Int) (by omega) (by omega)
    rw [e4]
    omega
  have hor : bits .or .i64 0 (V : Int) = (V : Int) := by
    have : V = 0 ∨ V = 1 := by omega
    rcases this with rfl | rfl <;> decide
  have hmin : (if (1 : Int) < 8 - (i : Int) then (1 : Int) else 8 - (i : Int)) = 1 := by split <;> omega
  have hmin2 : (if 8 - (i : Int) < (1 : Int) then 8 - (i : Int) else (1 : Int)) = 1 := by split <;> omega
  have hp8 : p < 8 * n := by omega
  unfold Took
  rw [hV]
  clear hc h1 h3 h4 hV hi hj hxx
  go_enter Tryd.func26, Tryd.ntmps26
  go_wp2_with fail
  go_quiet (fail)
  go_wp2_with fail
  go_loopw [6, 7] (fun v t wr => (v = .int .i64 0 ∧ t = .int .i64 0 ∧ ∃ m, wr = w.drewN m) ∨ (v = .int .i64 (V : Nat) ∧ t = .int .i64 1 ∧ Hid (BitsAt F wr g l (p + 1) ∧ Ch (fun k => k = g) w wr))) (fun _ t _ => 1 - (intOf t).toNat)
  case atStart => exact Or.inl ⟨rfl, rfl, _, rfl⟩
  case round =>
    rcases hrel with ⟨rfl, rfl, m, rfl⟩ | ⟨rfl, rfl, HE⟩
    · go_wp2_with fail
      go_quiet (fail)
      go_wp2_with fail
      refine ⟨Or.inr ⟨rfl, rfl, Lib.hid ⟨(HH.out.drewN _).set (p + 1) (by omega) _ (by omega), (Ch.of_below (bdrawn (Below.refl _ _) _)).then (Ch.set (F := fun k => k = g) _ g 1 _ rfl)⟩⟩, by simp [intOf]⟩
    · go_wp2_with fail
      go_ret2
      exact ⟨rfl, HE.out.1, HE.out.2⟩

end Go.Proofs.YtehnilmfeoadgaaDoor
/- huff's Next. -/
namespace Go.Proofs.YtehnilmfeoadgaaDoor
open Go.RowKit

/-- The bits from p on. -/
def bitsF (bs : List Int) (p j : Nat) : Nat := bitN bs (p + j)
theorem bitsF_le (bs : List Int) (p j : Nat) : bitsF bs p j ≤ 1 := bitN_le _ _
/-- What is read of bits from p on. -/
def readR (l bs : List Int) (p : Nat) : Nat × Nat × Nat := stepD (nOf l) (tabF (lnN l) (nOf l) l.length) (bitsF bs p) (8 * bs.length - p) 16 0
def Nexted (F : Nat → Prop) (w : World) (gb : Nat) (bs : List Int) (p : Nat) (R : Nat × Nat × Nat) (e : Ending) (w' : World) : Prop :=
  e = .returned (.tuple #[.int .i64 (R.1 : Nat), .int .i64 (R.2.2 : Nat)]) ∧ (R.2.2 = 0 → BitsAt F w' gb bs (p + R.2.1)) ∧ Ch (fun k => k = gb) w w'
/-- t bits were taken, no code came to its end. -/
structure Nx (G F : Nat → Prop) (w wr : World) (gb : Nat) (l bs : List Int) (p : Nat) (R : Nat × Nat × Nat) (t P D : Nat) (A : Option Addr) (c : Nat) : Prop where
  t15 : t ≤ 15
  v : val (bitsF bs p) t = endC (nOf l) t + P
  r : stepD (nOf l) (tabF (lnN l) (nOf l) l.length) (bitsF bs p) (8 * bs.length - p) (16 - t) t = R
  bits : BitsAt F wr gb bs (p + t)
  ch : Ch (fun k => k = gb) w wr
  rest : IAt G wr A D c ((symsL l).drop (plc (nOf l) (t + 1)))
  d : D + plc (nOf l) (t + 1) = plc (nOf l) 16
theorem symsL_len (l : List Int) : (symsL l).length = plc (nOf l) 16 := lstF_len _ _
theorem Nx.start {G F : Nat → Prop} {w : World} {gb : Nat} {l bs : List Int} {p : Nat} (hb : BitsAt F w gb bs p) {A : Option Addr} {n c : Nat} (hI : IAt G w A n c (symsL l)) : Nx G F w w gb l bs p (readR l bs p) 0 0 n A c := by
  have e1 : plc (nOf l) (0 + 1) = 0 := by simp [plc, nOf_zero]
  refine ⟨by omega, ?_, rfl, hb, Ch.refl _ _, ?_, ?_⟩
  · simp [val, endC, fstC, nOf_zero]
  · rw [e1, List.drop_zero]; exact hI
  · rw [e1, ← symsL_len, hI.len]; rfl
theorem Nx.form {G F : Nat → Prop} {w wr : World} {gb : Nat} {l bs : List Int} {p : Nat} {R : Nat × Nat × Nat} {t P D : Nat} {A : Option Addr} {c : Nat} (h : Nx G F w wr gb l bs p R t P D A c) (hD : D = 0) :
    Nexted F w gb bs p R (.returned (.tuple #[.int .i64 0, .int .i64 4])) wr := by
  have e : 16 - t = (15 - t) + 1 := by have := h.t15; omega
  have hr := h.r
  rw [e, step_form _ _ _ _ _ _ (by have := h.v; omega) (by have := h.d; omega)] at hr
  subst hr
  exact ⟨rfl, fun x => absurd x (show (4 : Nat) ≠ 0 by decide), h.ch⟩
theorem Nx.t14 {G F : Nat → Prop} {w wr : World} {gb : Nat} {l bs : List Int} {p : Nat} {R : Nat × Nat × Nat} {t P D : Nat} {A : Option Addr} {c : Nat} (h : Nx G F w wr gb l bs p R t P D A c) (hD : 0 < D) : t < 15 := by
  have h1 := h.d
  have h2 := h.t15
  by_cases c : t = 15
  · subst c
    have h3 : D + plc (nOf l) 16 = plc (nOf l) 16 := h1
    omega
  · omega
theorem Nx.over {G F : Nat → Prop} {w wr : World} {gb : Nat} {l bs : List Int} {p : Nat} {R : Nat × Nat × Nat} {t P D : Nat} {A : Option Addr} {c : Nat} (h : Nx G F w wr gb l bs p R t P D A c) (hD : 0 < D) (hl : 8 * bs.length ≤ p + t) (m : Nat) :
    Nexted F w gb bs p R (.returned (.tuple #[.int .i64 0, .int .i64 2])) (wr.drewN m) := by
  have e : 16 - t = (15 - t) + 1 := by have := h.t15; omega
  have hr := h.r
  rw [e, step_end _ _ _ _ _ _ (by have := h.v; omega) (by have := h.d; omega) (by omega)] at hr
  subst hr
  exact ⟨rfl, fun x => absurd x (show (2 : Nat) ≠ 0 by decide), h.ch.then (Ch.of_below (bdrawn (Below.refl _ _) m))⟩
/-- One bit more was taken. -/
structure Ny (G F : Nat → Prop) (w wr : World) (gb : Nat) (l bs : List Int) (p : Nat) (R : Nat × Nat × Nat) (t Q D : Nat) (A : Option Addr) (c : Nat) : Prop where
  t14 : t < 15
  v : val (bitsF bs p) (t + 1) = fstC (nOf l) (t + 1) + Q
  r : stepD (nOf l) (tabF (lnN l) (nOf l) l.length) (bitsF bs p) (8 * bs.length - p) (15 - t) (t + 1) = R
  bits : BitsAt F wr gb bs (p + t + 1)
  ch : Ch (fun k => k = gb) w wr
  rest : IAt G wr A D c ((symsL l).drop (plc (nOf l) (t + 1)))
  d : D + plc (nOf l) (t + 1) = plc (nOf l) 16
theorem Nx.taken {G F : Nat → Prop} {w wr wx : World} {gb : Nat} {l bs : List Int} {p : Nat} {R : Nat × Nat × Nat} {t P D : Nat} {A : Option Addr} {c : Nat} (h : Nx G F w wr gb l bs p R t P D A c) (hD : 0 < D) (hl : p + t < 8 * bs.length) (hG : ∀ k, G k → ¬ k = gb)
    (hb : BitsAt F wx gb bs (p + t + 1)) (hc : Ch (fun k => k = gb) wr wx) : Ny G F w wx gb l bs p R t (2 * P + bitN bs (p + t)) D A c := by
  have h14 := h.t14 hD
  have e : 16 - t = (15 - t) + 1 := by omega
  have hr := h.r
  rw [e, step_on _ _ _ _ _ _ (by have := h.v; omega) (by have := h.d; omega) (by omega)] at hr
  refine ⟨h14, ?_, hr, hb, h.ch.then hc, h.rest.ch hc hG, h.d⟩
  rw [val, h.v, fst_next]
  unfold bitsF
  omega
theorem Ny.hit {G F : Nat → Prop} {w wr : World} {gb : Nat} {l bs : List Int} {p : Nat} {R : Nat × Nat × Nat} {t Q D : Nat} {A : Option Addr} {c : Nat} (h : Ny G F w wr gb l bs p R t Q D A c) (hQ : Q < nOf l (t + 1)) :
    Q < D ∧ Nexted F w gb bs p R (.returned (.tuple #[.int .i64 (gI ((symsL l).drop (plc (nOf l) (t + 1))) Q), .int .i64 0])) wr := by
  have h14 := h.t14
  have e : 15 - t = (14 - t) + 1 := by omega
  have hr := h.r
  have hp : plc (nOf l) (t + 1 + 1) = plc (nOf l) (t + 1) + nOf l (t + 1) := rfl
  have hp2 := plc_mono (nOf l) (t + 1 + 1) 16 (by omega)
  have hd := h.d
  rw [e, step_hit _ _ _ _ _ _ (by rw [h.v]; unfold endC; omega), h.v] at hr
  rw [show fstC (nOf l) (t + 1) + Q - fstC (nOf l) (t + 1) = Q by omega] at hr
  refine ⟨by omega, ?_⟩
  subst hr
  refine ⟨?_, fun _ => ?_, h.ch⟩
  · rw [gI_drop]
    unfold symsL
    rw [gI_lstF _ _ _ (by omega)]
    rfl
  · show BitsAt F wr gb bs (p + (t + 1))
    exact h.bits
theorem Ny.miss {G F : Nat → Prop} {w wr : World} {gb : Nat} {l bs : List Int} {p : Nat} {R : Nat × Nat × Nat} {t Q D : Nat} {A : Option Addr} {c : Nat} (h : Ny G F w wr gb l bs p R t Q D A c) (hQ : nOf l (t + 1) ≤ Q) :
    nOf l (t + 1) ≤ D ∧ ∀ A' c', IAt G wr A' (D - nOf l (t + 1)) c' (((symsL l).drop (plc (nOf l) (t + 1))).drop (nOf l (t + 1))) → Nx G F w wr gb l bs p R (t + 1) (Q - nOf l (t + 1)) (D - nOf l (t + 1)) A' c' := by
  have h14 := h.t14
  have hp : plc (nOf l) (t + 1 + 1) = plc (nOf l) (t + 1) + nOf l (t + 1) := rfl
  have hp2 := plc_mono (nOf l) (t + 1 + 1) 16 (by omega)
  have hd := h.d
  refine ⟨by omega, fun A' c' hI => ⟨by omega, ?_, ?_, h.bits, h.ch, ?_, by omega⟩⟩
  · rw [h.v]; unfold endC; omega
  · rw [show 16 - (t + 1) = 15 - t by omega]; exact h.r
  · rw [hp, ← List.drop_drop]; exact hI
theorem Ny.small {G F : Nat → Prop} {w wr : World} {gb : Nat} {l bs : List Int} {p : Nat} {R : Nat × Nat × Nat} {t Q D : Nat} {A : Option Addr} {c : Nat} (h : Ny G F w wr gb l bs p R t Q D A c) : Q < 32768 := by
  have h1 := val_lt (bitsF bs p) (bitsF_le bs p) (t + 1)
  have h2 : 2 ^ (t + 1) ≤ 2 ^ 15 := Nat.pow_le_pow_right (by decide) (by have := h.t14; omega)
  have := h.v
  omega
set_option maxHeartbeats 3200000 in
theorem next_any (G F : Nat → Prop) (g gb : Nat) (l bs : List Int) (p : Nat) (w : World) (ht : TabAt G w g l) (hb : BitsAt F w gb bs p) (hG : ∀ k, G k → ¬ k = gb) (hl : l.length ≤ 320) (hbl : bs.length ≤ 1000000) :
    Calls Tryd.prog 34 #[.pointer (some ⟨g, 0, none⟩), .pointer (some ⟨gb, 0, none⟩)] w (Nexted F w gb bs p (readR l bs p)) := by
  obtain ⟨R, hR⟩ : ∃ R, readR l bs p = R := ⟨_, rfl⟩
  have HT := Lib.hid ht
  obtain ⟨hg, A, n, cap, hC, hI⟩ := ht
  have hS := Nx.start (l := l) hb hI
  rw [hR] at hS ⊢
  have c16 := hC.cell 16 (by decide)
  have e16 : tC l (.slice A n cap) 16 = .slice A n cap := rfl
  rw [e16] at c16
  have hf := hI.fit
  have hm := hI.max
  have HS := Lib.hid hS
  have HI := Lib.hid hI
  have HC := Lib.hid hC
  unfold maxLen at hm
  clear hI hb hS hR hC
  go_enter Tryd.func34, Tryd.ntmps34
  go_wp2_with fail
  go_loopw [6, 7, 8] (fun r pl i wr => ∃ (t P D : Nat) (A' : Option Addr) (c' : Nat), r = .slice A' D c' ∧ pl = .int .i64 P ∧ i = .int .i64 (t + 1 : Nat) ∧ Hid (Nx G F w wr gb l bs p R t P D A' c')) (fun _ _ i _ => 17 - (intOf i).toNat)
  case atStart => exact ⟨0, 0, n, A, cap, rfl, rfl, rfl, HS⟩
  case round =>
    obtain ⟨t, P, D, A', c', rfl, rfl, rfl, HX⟩ := hrel
    have hDl := HX.out.rest.len
    have hDf := HX.out.rest.fit
    have hDm := HX.out.rest.max
    unfold maxLen at hDm
    by_cases hD : D = 0
    · have d1 : decide ((0 : Int) < (D : Int)) = false := decide_eq_false (by omega)
      have HR := Lib.hid (HX.out.form hD)
      clear hDl
      go_wp2_with fail
      go_ret2
      exact HR.out
    · have hD1 : 0 < D := by omega
      have d1 : decide ((0 : Int) < (D : Int)) = true := decide_eq_true (by omega)
      have h14 := HX.out.t14 hD1
      by_cases hov : 8 * bs.length ≤ p + t
      · have HR := Lib.hid (HX.out.over hD1 hov)
        have HK := Lib.hid (take_no F gb bs (p + t) wr HX.out.bits hov hbl)
        clear hDl
        go_wp2_with fail
        refine HK.out.mono ?_
        rintro e' wx ⟨rfl, m, rfl⟩
        go_wp2_with fail
        go_ret2
        exact HR.out m
      · have HK := Lib.hid (take_yes F gb bs (p + t) wr HX.out.bits (by omega) hbl)
        have HN := Lib.hid (fun wx => HX.out.taken (wx := wx) hD1 (by omega) hG)
        obtain ⟨V, hV⟩ : ∃ V, bitN bs (p + t) = V := ⟨_, rfl⟩
        have hV1 : V ≤ 1 := by rw [← hV]; exact bitN_le _ _
        have hP : P < 32768 := by
          have h1 := val_lt (bitsF bs p) (bitsF_le bs p) t
          have h2 : 2 ^ t ≤ 2 ^ 15 := Nat.pow_le_pow_right (by decide) (by omega)
          have := HX.out.v
          omega
        unfold Took at HK
        rw [hV] at HK HN
        clear hDl
        go_wp2_with fail
        refine HK.out.mono ?_
        rintro e' wx ⟨rfl, hbx, hcx⟩
        have HY := Lib.hid (HN.out wx hbx hcx)
        have HC2 := Lib.hid (hcx)
        have hCx := Lib.hid (HC.out.block ((HY.out.ch.block g HC.out.lt (hG g hg))))
        have cm := hCx.out.cell (t + 1) (by omega)
        have em : tC l (.slice A n cap) (t + 1) = .int .i64 (toI (nOf l) (t + 1)) := by unfold tC; rw [if_pos (by omega)]
        rw [em] at cm
        unfold toI at cm
        obtain ⟨M, hM⟩ : ∃ M, nOf l (t + 1) = M := ⟨_, rfl⟩
        obtain ⟨Q, hQ⟩ : ∃ Q, 2 * P + V = Q := ⟨_, rfl⟩
        rw [hM] at cm
        rw [hQ] at HY
        have hQ1 : 2 * (P : Int) + V = Q := by omega
        have hQs := HY.out.small
        have hMl : M ≤ 320 := by rw [← hM]; have := nOf_le l (t + 1); omega
        obtain ⟨T, hT⟩ : ∃ T, t + 1 = T := ⟨_, rfl⟩
        rw [hT] at cm ⊢
        have hTt : T ≤ 15 := by omega
        by_cases hhit : Q < M
        · obtain ⟨hQD, hres⟩ := HY.out.hit (by omega)
          obtain ⟨b, o, rfl, hb1, hb2, hb3⟩ := HY.out.rest.lies (by omega)
          have cq := hb3 Q hQD
          have d2 : decide ((Q : Int) < (M : Int)) = true := decide_eq_true (by omega)
          have HR := Lib.hid hres
          clear hbx hcx hM hV hT hb3 hres HN HK
          go_wp2_with fail
          go_ret2
          exact HR.out
        · obtain ⟨hMD, hnx⟩ := HY.out.miss (by omega)
          rw [hM] at hMD hnx
          obtain ⟨A2, c2, k2, B2⟩ := cutI_l HY.out.rest (M : Int) M rfl hMD
          have HX2 := Lib.hid (hnx A2 c2 B2)
          have d2 : decide ((Q : Int) < (M : Int)) = false := decide_eq_false (by omega)
          have hT2 : Hid (T + 1 = t + 1 + 1) := Lib.hid (by omega)
          have hQM : Hid (((Q - M : Nat) : Int) = (Q : Int) - M) := Lib.hid (by omega)
          clear hbx hcx hM hV hnx B2 HN HK
          have HTt := Lib.hid hT
          clear hT
          go_wp2_with fail
          go_roundw
          case rel => exact ⟨t + 1, Q - M, D - M, A2, c2, rfl, by rw [hQM.out], by have := HTt.out; go_num, HX2⟩
          case measure => have := HTt.out; simp [intOf]; omega

end Go.Proofs.YtehnilmfeoadgaaDoor
/- huff's Take of any number of bits, Align and Bytes, of bits that are there. -/
namespace Go.Proofs.YtehnilmfeoadgaaDoor
open Go.RowKit

/-- The first t bits as a number, the first one the lowest. -/
def lo (β : Nat → Nat) : Nat → Nat
  | 0 => 0
  | t + 1 => lo β t + β t * 2 ^ t
theorem lo_lt (β : Nat → Nat) (hβ : ∀ j, β j ≤ 1) : ∀ t, lo β t < 2 ^ t
  | 0 => by simp [lo]
  | t + 1 => by
    have h1 := lo_lt β hβ t
    have h2 : β t * 2 ^ t ≤ 1 * 2 ^ t := Nat.mul_le_mul_right _ (hβ t)
    rw [lo, Nat.pow_succ]; omega
theorem lo_add (β : Nat → Nat) (a : Nat) : ∀ b, lo β (a + b) = lo β a + lo (fun j => β (a + j)) b * 2 ^ a
  | 0 => by simp [lo]
  | b + 1 => by
    rw [← Nat.add_assoc, lo, lo_add β a b, lo, Nat.add_mul, Nat.add_assoc]
    congr 2
    rw [Nat.mul_assoc, ← Nat.pow_add, Nat.add_comm b a]
theorem lo_congr {β γ : Nat → Nat} : ∀ {t : Nat}, (∀ j, j < t → β j = γ j) → lo β t = lo γ t
  | 0, _ => rfl
  | t + 1, h => by rw [lo, lo, lo_congr (fun j hj => h j (by omega)), h t (by omega)]
theorem lo_shift (y : Nat) : ∀ s, lo (fun j => y / 2 ^ j % 2) s = y % 2 ^ s
  | 0 => by simp [lo, Nat.mod_one]
  | s + 1 => by
    rw [lo, lo_shift y s, Nat.pow_succ, Nat.mod_mul, Nat.mul_comm]
/-- Some bits within one byte. -/
theorem lo_byte (l : List Int) (p s : Nat) (hs : p % 8 + s ≤ 8) : lo (fun j => bitN l (p + j)) s = (gI l (p / 8)).toNat / 2 ^ (p % 8) % 2 ^ s := by
  rw [← lo_shift]
  refine lo_congr fun j hj => ?_
  unfold bitN
  rw [show (p + j) / 8 = p / 8 by omega, show (p + j) % 8 = p % 8 + j by omega, Nat.pow_add, ← Nat.div_div_eq_div_mul]
theorem take_math (X V q s : Nat) (hX : X ≤ 255) (hs : s ≤ 8) (hq : q + s ≤ 24) (hV : V < 2 ^ q) :
    bits .or .i64 (V : Int) (wrap64 (bits .and .i64 (X : Int) (wrap64 (wrap64 ((2 : Int) ^ s) - 1)) * (2 : Int) ^ q)) = ((V + X % 2 ^ s * 2 ^ q : Nat) : Int) := by
  have hs1 : 2 ^ s ≤ 2 ^ 8 := Nat.pow_le_pow_right (by decide) hs
  have hs0 : 0 < 2 ^ s := Nat.two_pow_pos s
  have ec : ((2 : Int) ^ s) = ((2 ^ s : Nat) : Int) := by simp
  have eq : ((2 : Int) ^ q) = ((2 ^ q : Nat) : Int) := by simp
  have e1 : wrap64 (wrap64 ((2 : Int) ^ s) - 1) = (2 : Int) ^ s - 1 := by
    rw [ec]
    generalize 2 ^ s = c at hs0 hs1 ⊢
    rw [IntWalk.wrap64_in (c : Int) (by omega), IntWalk.wrap64_in ((c : Int) - 1) (by omega)]
  have e2 : bits .and .i64 (X : Int) ((2 : Int) ^ s - 1) = ((X % 2 ^ s : Nat) : Int) := by
    rw [bits_mask .i64 31 (by decide) w64 s (by omega) (X : Int) (by omega) (by omega), ec]
    rfl
  have hD : X % 2 ^ s < 2 ^ s := Nat.mod_lt _ hs0
  have hpq : 2 ^ q * 2 ^ s ≤ 2 ^ 24 := by rw [← Nat.pow_add]; exact Nat.pow_le_pow_right (by decide) hq
  have hDq : X % 2 ^ s * 2 ^ q < 2 ^ 24 := by
    have h1 : X % 2 ^ s * 2 ^ q < 2 ^ s * 2 ^ q := Nat.mul_lt_mul_of_pos_right hD (Nat.two_pow_pos q)
    rw [Nat.mul_comm (2 ^ s)] at h1
    omega
  have hq24 : 2 ^ q ≤ 2 ^ 24 := Nat.pow_le_pow_right (by decide) (by omega)
  rw [e1, e2, eq]
  generalize X % 2 ^ s = D at *
  have e3 : (D : Int) * ((2 ^ q : Nat) : Int) = ((D * 2 ^ q : Nat) : Int) := by simp
  rw [e3, IntWalk.wrap64_in _ (by omega), (bits_nat .i64 31 (by decide) w64 V (D * 2 ^ q) (by omega) (by omega)).2, Nat.or_comm, Nat.mul_comm D, ← Nat.two_pow_add_eq_or_of_lt hV D, Nat.add_comm]
theorem takeN_no (F : Nat → Prop) (g : Nat) (l : List Int) (p : Nat) (n : Int) (w : World) (h : BitsAt F w g l p) (hn : n < 0 ∨ 24 < n ∨ (8 * l.length : Int) < p + n) (hl : l.length ≤ 2000000) :
    Calls Tryd.prog 26 #[.pointer (some ⟨g, 0, none⟩), .int .i64 n] w fun e w' => e = .returned (.tuple #[.int .i64 0, .bool false]) ∧ ∃ k, w' = w.drewN k := by
  obtain ⟨h1, h2, A, m, cap, h3, h4⟩ := h
  have c0 := cell_of_row w g 0 _ _ (0, 0) h3
  have c1 := cell_of_row w g 1 _ _ (0, 0) h3
  simp at c0 c1
  have hlen := h4.len
  have hf := h4.fit
  have hm := h4.max
  unfold maxLen at hm
  clear h3 h4 h1
  by_cases hn1 : n < 0
  · have d1 : decide (n < 0) = true := decide_eq_true hn1
    go_enter Tryd.func26, Tryd.ntmps26
    go_wp2_with fail
    go_quiet (fail)
    go_wp2_with fail
    go_ret2
    exact ⟨rfl, _, rfl⟩
  have d1 : decide (n < 0) = false := decide_eq_false hn1
  by_cases hn2 : 24 < n
  · have d2 : decide (24 < n) = true := decide_eq_true hn2
    go_enter Tryd.func26, Tryd.ntmps26
    go_wp2_with fail
    go_quiet (fail)
    go_wp2_with fail
    go_ret2
    exact ⟨rfl, _, rfl⟩
  have d2 : decide (24 < n) = false := decide_eq_false hn2
  have d3 : decide ((8 * (m : Int) - p) < n) = true := decide_eq_true (by omega)
  go_enter Tryd.func26, Tryd.ntmps26
  go_wp2_with fail
  go_quiet (fail)
  go_wp2_with fail
  go_ret2
  exact ⟨rfl, _, rfl⟩
def TookN (F : Nat → Prop) (w : World) (g : Nat) (l : List Int) (p n : Nat) (e : Ending) (w' : World) : Prop := e = .returned (.tuple #[.int .i64 (lo (fun j => bitN l (p + j)) n : Nat), .bool true]) ∧ BitsAt F w' g l (p + n) ∧ Ch (fun k => k = g) w w'
set_option maxHeartbeats 1600000 in
theorem takeN_yes (F : Nat → Prop) (g : Nat) (l : List Int) (p n : Nat) (w : World) (h : BitsAt F w g l p) (hn : n ≤ 24) (hp : p + n ≤ 8 * l.length) (hl : l.length ≤ 2000000) :
    Calls Tryd.prog 26 #[.pointer (some ⟨g, 0, none⟩), .int .i64 (n : Nat)] w (TookN F w g l p n) := by
  have HH := Lib.hid h
  obtain ⟨h1, h2, A, m, cap, h3, h4⟩ := h
  have c0 := cell_of_row w g 0 _ _ (0, 0) h3
  have c1 := cell_of_row w g 1 _ _ (0, 0) h3
  simp at c0 c1
  have hlen := h4.len
  have hf := h4.fit
  have hm := h4.max
  unfold maxLen at hm
  have d1 : decide ((n : Int) < 0) = false := decide_eq_false (by omega)
  have d2 : decide (24 < (n : Int)) = false := decide_eq_false (by omega)
  have d3 : decide ((8 * (m : Int) - p) < (n : Int)) = false := decide_eq_false (by omega)
  have HF := Lib.hid (BitsAt.drewN HH.out)
  clear h1 h3 h4
  go_enter Tryd.func26, Tryd.ntmps26
  go_wp2_with fail
  go_quiet (fail)
  go_wp2_with fail
  clear c0 c1
  go_loopw [6, 7] (fun v t wr => ∃ q : Nat, t = .int .i64 q ∧ q ≤ n ∧ v = .int .i64 (lo (fun j => bitN l (p + j)) q : Nat) ∧ Hid (BitsAt F wr g l (p + q) ∧ Ch (fun k => k = g) w wr)) (fun _ t _ => n - (intOf t).toNat)
  case atStart => exact ⟨0, rfl, by omega, rfl, Lib.hid ⟨HF.out _, Ch.of_below (bdrawn (Below.refl _ _) _)⟩⟩
  case round =>
    obtain ⟨q, rfl, hq, rfl, HB⟩ := hrel
    obtain ⟨Vq, hVq⟩ : ∃ V, lo (fun j => bitN l (p + j)) q = V := ⟨_, rfl⟩
    have hV := lo_lt (fun j => bitN l (p + j)) (fun j => bitN_le _ _) q
    rw [hVq] at hV
    by_cases hlt : q < n
    · obtain ⟨h1, h2, A, m', cap', h3, h4⟩ := HB.out.1
      have c0 := cell_of_row wr g 0 _ _ (0, 0) h3
      have c1 := cell_of_row wr g 1 _ _ (0, 0) h3
      simp at c0 c1
      have f1 := frozen_of_row wr g 1 _ _ h3
      have hlen' := h4.len
      obtain rfl : m' = m := by omega
      obtain ⟨P, hP⟩ : ∃ P, p + q = P := ⟨_, rfl⟩
      have hPc : ((p : Int) + q) = (P : Int) := by omega
      rw [hPc] at c1
      obtain ⟨i, hi⟩ : ∃ i, P % 8 = i := ⟨_, rfl⟩
      obtain ⟨j, hj⟩ : ∃ j, P / 8 = j := ⟨_, rfl⟩
      have hi1 : (P : Int) % 8 = (i : Int) := by omega
      have hj1 : (P : Int) / 8 = (j : Int) := by omega
      have hi8 : i < 8 := by omega
      obtain ⟨b, o, rfl, hb, hbl, hc⟩ := h4.lies (by omega)
      have cj := hc j (by omega)
      have hx := h4.bd j
      obtain ⟨x, hxx⟩ : ∃ x, gI l j = x := ⟨_, rfl⟩
      rw [hxx] at cj hx
      have hj2 : j < m' := by omega
      have hP8 : P < 8 * m' := by omega
      have hbP := h4.fit
      have hmP := h4.max
      unfold maxLen at hmP
      obtain ⟨s, hs⟩ : ∃ s, (if n - q < 8 - i then n - q else 8 - i) = s := ⟨_, rfl⟩
      have hs1 : 1 ≤ s ∧ s ≤ 8 - i ∧ s ≤ n - q := by split at hs <;> omega
      obtain ⟨hs1, hs2, hs3⟩ := hs1
      have hmin : (if (n : Int) - q < 8 - (i : Int) then (n : Int) - q else 8 - (i : Int)) = (s : Int) := by split at hs <;> split <;> omega
      have hmin2 : (if 8 - (i : Int) < (n : Int) - q then 8 - (i : Int) else (n : Int) - q) = (s : Int) := by split at hs <;> split <;> omega
      have HM : Hid (bits .or .i64 (Vq : Int) (wrap64 (bits .and .i64 (x / 2 ^ i) (wrap64 (wrap64 ((2 : Int) ^ s) - 1)) * (2 : Int) ^ q)) = ((lo (fun j => bitN l (p + j)) (q + s) : Nat) : Int)) := Lib.hid (by
        have e1 : x / 2 ^ i = ((x.toNat / 2 ^ i : Nat) : Int) := by
          have : x = (x.toNat : Int) := by omega
          rw [this]; simp
        have e2 := Nat.div_le_self x.toNat (2 ^ i)
        have e3 := lo_byte l P s (by omega)
        rw [hi, hj, hxx] at e3
        rw [e1, take_math _ Vq q s (by omega) (by omega) (by omega) hV, lo_add, hVq, ← e3]
        rw [← hP]
        congr 3
        exact lo_congr fun j _ => by rw [Nat.add_assoc])
      have HP2 : Hid (p + (q + s) = P + s) := Lib.hid (by omega)
      have HBn := Lib.hid (BitsAt.drewN HB.out.1)
      have hPs : Hid (P + s ≤ 8 * l.length) := Lib.hid (by omega)
      clear hc h1 h3 h4 hP hs hi hj hxx hV
      rw [hVq]
      go_wp2_with fail
      go_quiet (fail)
      go_wp2_with fail
      refine ⟨⟨q + s, by go_num, by omega, by rw [HM.out], Lib.hid ⟨?_, HB.out.2.then ((Ch.of_below (bdrawn (Below.refl _ _) _)).then (Ch.set (F := fun k => k = g) _ g 1 _ rfl))⟩⟩, by simp [intOf]; omega⟩
      rw [HP2.out]
      exact (HBn.out _).set (P + s) hPs.out _ (by omega)
    · obtain rfl : q = n := by omega
      go_wp2_with fail
      go_ret2
      exact ⟨rfl, HB.out.1, HB.out.2⟩

end Go.Proofs.YtehnilmfeoadgaaDoor
/- huff's Align and Bytes, of bits that are there. -/
namespace Go.Proofs.YtehnilmfeoadgaaDoor
open Go.RowKit

/-- The next whole byte. -/
def upB (p : Nat) : Nat := (p + 7) / 8
theorem upB_le {l : List Int} {p : Nat} (h : p ≤ 8 * l.length) : upB p ≤ l.length := by unfold upB; omega
def Aligned (F : Nat → Prop) (w : World) (g : Nat) (l : List Int) (p : Nat) (e : Ending) (w' : World) : Prop := e = .returned (.tuple #[]) ∧ BitsAt F w' g l (8 * upB p) ∧ Ch (fun k => k = g) w w'
theorem align_any (F : Nat → Prop) (w : World) (g : Nat) (l : List Int) (p : Nat) (h : BitsAt F w g l p) (hl : l.length ≤ 1000000) :
    Calls Tryd.prog 27 #[.pointer (some ⟨g, 0, none⟩)] w (Aligned F w g l p) := by
  have HA := Lib.hid (at_any F w g l p h hl)
  have hfit := h.fit
  have hup := upB_le hfit
  have HS := Lib.hid (h.set (8 * upB p) (by omega))
  obtain ⟨h1, h2, A, n, cap, h3, h4⟩ := h
  have c1 := cell_of_row w g 1 _ _ (0, 0) h3
  simp at c1
  have f1 := frozen_of_row w g 1 _ _ h3
  have hu : (p + 7) / 8 = upB p := rfl
  rw [hu] at HA
  unfold Aligned
  clear h1 h3 h4 hu
  generalize upB p = U at *
  go_enter Tryd.func27, Tryd.ntmps27
  go_wp2_with fail
  refine HA.out.mono ?_
  rintro e w' ⟨rfl, rfl⟩
  go_wp2_with fail
  go_end0
  exact ⟨rfl, HS.out (8 * (U : Int)) (by omega), Ch.set (F := fun k => k = g) _ g 1 _ rfl⟩
theorem bytesN_no (F : Nat → Prop) (g : Nat) (l : List Int) (p : Nat) (n : Int) (w : World) (h : BitsAt F w g l p) (hn : n < 0 ∨ (l.length : Int) < (upB p : Int) + n) (hl : l.length ≤ 1000000) :
    Calls Tryd.prog 29 #[.pointer (some ⟨g, 0, none⟩), .int .i64 n] w fun e w' => e = .returned (.tuple #[.slice none 0 0, .bool false]) ∧ ∃ k, w' = w.drewN k := by
  have HA := Lib.hid (fun k => Calls.quiet_of_same (w := w) (n := k) ((at_any F (w.drewN k) g l p (h.drewN k) hl).mono fun _ _ ⟨a, b⟩ => ⟨a, b.symm⟩))
  have HB := Lib.hid (h.drewN)
  have hfit := h.fit
  have hup := upB_le hfit
  obtain ⟨h1, h2, A, m, cap, h3, h4⟩ := h
  have c0 := cell_of_row w g 0 _ _ (0, 0) h3
  simp at c0
  have hlen := h4.len
  have hf := h4.fit
  have hm := h4.max
  unfold maxLen at hm
  have hu : (p + 7) / 8 = upB p := rfl
  rw [hu] at HA
  clear h1 h3 h4 hu
  generalize upB p = U at *
  by_cases hn1 : n < 0
  · have d1 : decide (n < 0) = true := decide_eq_true hn1
    go_enter Tryd.func29, Tryd.ntmps29
    go_wp2_with fail
    go_quiet (fail)
    go_wp2_with fail
    go_ret2
    exact ⟨rfl, _, rfl⟩
  have d1 : decide (n < 0) = false := decide_eq_false hn1
  have d2 : decide (((m : Int) - U) < n) = true := decide_eq_true (by omega)
  go_enter Tryd.func29, Tryd.ntmps29
  go_wp2_with fail
  go_quiet ((go_at_call 19; exact HA.out _))
  go_wp2_with fail
  go_ret2
  exact ⟨rfl, _, rfl⟩
def BytesN (F : Nat → Prop) (w : World) (g : Nat) (l : List Int) (p n : Nat) (e : Ending) (w' : World) : Prop :=
  ∃ A cap, e = .returned (.tuple #[.slice A n cap, .bool true]) ∧ BAt8 (fun k => w.heap.size ≤ k) w' A n cap ((l.drop (upB p)).take n) ∧ BitsAt F w' g l (8 * (upB p + n)) ∧ Ch (fun k => k = g) w w'
theorem BitsAt.cells {F : Nat → Prop} {w : World} {g : Nat} {l : List Int} {p : Nat} (h : BitsAt F w g l p) : ∃ A n cap, w.cell? ⟨g, 0, none⟩ = some (.slice A n cap) ∧ w.cell? ⟨g, 1, none⟩ = some (.int .i64 (p : Nat)) ∧ w.frozen? ⟨g, 1, none⟩ = false ∧ BAt8 F w A n cap l := by
  obtain ⟨_, _, A, n, cap, h3, h4⟩ := h
  exact ⟨A, n, cap, cell_of_row w g 0 _ _ (0, 0) h3, cell_of_row w g 1 _ _ (0, 0) h3, frozen_of_row w g 1 _ _ h3, h4⟩
set_option maxHeartbeats 1600000 in
theorem bytesN_yes (F : Nat → Prop) (g : Nat) (l : List Int) (p n : Nat) (w : World) (h : BitsAt F w g l p) (hn : upB p + n ≤ l.length) (hl : l.length ≤ 1000000) :
    Calls Tryd.prog 29 #[.pointer (some ⟨g, 0, none⟩), .int .i64 (n : Nat)] w (BytesN F w g l p n) := by
  have HA := Lib.hid (fun k => Calls.quiet_of_same (w := w) (n := k) ((at_any F (w.drewN k) g l p (h.drewN k) hl).mono fun _ _ ⟨a, b⟩ => ⟨a, b.symm⟩))
  have HG := Lib.hid (fun u (hu : BitsAt F u g l p) => align_any F u g l p hu hl)
  have HB := Lib.hid (h.drewN)
  obtain ⟨A, m, cap, c0, c1, f1, h4⟩ := h.cells
  have hlen := h4.len
  have hf := h4.fit
  have hm := h4.max
  unfold maxLen at hm
  have hu : (p + 7) / 8 = upB p := rfl
  rw [hu] at HA
  unfold Aligned at HG
  unfold BytesN
  clear h4 hu h c1
  generalize upB p = U at *
  have d1 : decide ((n : Int) < 0) = false := decide_eq_false (by omega)
  have d2 : decide (((m : Int) - U) < (n : Int)) = false := decide_eq_false (by omega)
  go_enter Tryd.func29, Tryd.ntmps29
  go_wp2_with fail
  go_quiet ((go_at_call 19; exact HA.out _))
  have HBq := Lib.hid (HB.out nq)
  go_wp2_with fail
  refine (HG.out _ HBq.out).mono ?_
  rintro e w1 ⟨rfl, hb1, hc1⟩
  clear HA HG HB HBq
  have HB1 := Lib.hid hb1
  have HC1 := Lib.hid ((Ch.of_below (bdrawn (Below.refl w.heap.size w) nq)).then hc1)
  obtain ⟨A1, m1, cap1, k0, k1, kf, h4⟩ := hb1.cells
  have hlen1 := h4.len
  have hf1 := h4.fit
  have hm1 := h4.max
  unfold maxLen at hm1
  have h8 : ((8 * U : Nat) : Int) / 8 = (U : Int) := by omega
  have h8' : (8 * (U : Int)) / 8 = (U : Int) := by omega
  have HS := Lib.hid (hb1.set (8 * (U + n)) (by omega) (8 * (U : Int) + 8 * n) (by omega))
  have hap := hb1.apart
  have h5 := h4.ch (Ch.set (F := fun k => k = g) w1 g 1 (.int .i64 (8 * (U : Int) + 8 * n)) rfl) (fun k hk e => hap (by rw [← show k = g from e]; exact hk))
  obtain ⟨A3, c3, sl, hS⟩ := cut_lh h5 (U : Int) ((U : Int) + n) U (U + n) rfl (by omega) (by omega) (by omega)
  rw [Nat.add_sub_cancel_left] at sl hS
  have hdt : (l.take (U + n)).drop U = (l.drop U).take n := by rw [List.drop_take, Nat.add_sub_cancel_left]
  rw [hdt] at hS
  have HCl := Lib.hid (clone_any F A3 n c3 _ _ hS (by omega))
  have HC2 := Lib.hid (HC1.out.then (Ch.set (F := fun k => k = g) w1 g 1 (.int .i64 (8 * (U : Int) + 8 * n)) rfl))
  have hU63 : U ≤ 1000000 := by omega
  clear h4 h5 hS hb1 hc1 hdt hap
  have k1' : w1.cell? ⟨g, 1, none⟩ = some (.int .i64 (8 * (U : Int))) := by rw [k1]; simp
  clear k1
  go_wp2_with fail
  refine HCl.out.mono ?_
  rintro e w2 ⟨A4, c4, rfl, hB4, hb4⟩
  have HR : Hid (BAt8 (fun k => w.heap.size ≤ k) w2 A4 n c4 ((l.drop U).take n) ∧ BitsAt F w2 g l (8 * (U + n)) ∧ Ch (fun k => k = g) w w2) := Lib.hid ⟨hB4.weak (fun k _ hk => Nat.le_trans HC2.out.size hk), HS.out.below hb4, HC2.out.less (hb4.mono HC2.out.size)⟩
  clear hB4 hb4
  go_wp2_with fail
  go_ret2
  exact ⟨_, _, rfl, HR.out⟩

end Go.Proofs.YtehnilmfeoadgaaDoor
/- Unpacking as functions of bytes, position and limit: what is taken, each step, each loop. No function of the program is named here. -/
namespace Go.Proofs.YtehnilmfeoadgaaDoor
set_option linter.unusedVariables false

/-- A result and a position, or an error's number. -/
abbrev Rs (α : Type) := Except Nat (α × Nat)
def bnd {α β : Type} (x : Rs α) (f : α → Nat → Rs β) : Rs β := match x with
  | .error e => .error e
  | .ok r => f r.1 r.2
theorem bnd_ok {α β : Type} (a : α) (p : Nat) (f : α → Nat → Rs β) : bnd (.ok (a, p)) f = f a p := rfl
theorem bnd_er {α β : Type} (e : Nat) (f : α → Nat → Rs β) : bnd (.error e) f = .error e := rfl
theorem Rs.two {α : Type} (x : Rs α) : (∃ e, x = .error e) ∨ ∃ a q, x = .ok (a, q) := by
  cases x with
  | error e => exact Or.inl ⟨e, rfl⟩
  | ok r => exact Or.inr ⟨r.1, r.2, rfl⟩

instance (N : Nat → Nat) : Decidable (okS N) := by unfold okS; infer_instance
def takeM (bs : List Int) (n p : Nat) : Rs Nat := if p + n ≤ 8 * bs.length then .ok (lo (bitsF bs p) n, p + n) else .error 2
def nextM (bs l : List Int) (p : Nat) : Rs Nat := if (readR l bs p).2.2 = 0 then .ok ((readR l bs p).1, p + (readR l bs p).2.1) else .error (readR l bs p).2.2
def xtra (k each : Nat) : Nat := k / each - 1
def farM (bs : List Int) (k each p : Nat) : Rs Nat := bnd (takeM bs (xtra k each) p) fun m q => .ok ((k - each * xtra k each) * 2 ^ xtra k each + m, q)
def lengthM (bs : List Int) (s p : Nat) : Rs Nat := if 285 < s then .error 4 else if s = 285 then .ok (258, p) else bnd (farM bs (s - 257) 4 p) fun m q => .ok (3 + m, q)
def distM (bs ld : List Int) (p : Nat) : Rs Nat := bnd (nextM bs ld p) fun s q => if 29 < s then .error 4 else bnd (farM bs s 2 q) fun m r => .ok (1 + m, r)
/-- So many bytes more, one by one, from place f on. -/
def copyL (o : List Int) (f : Nat) : Nat → List Int
  | 0 => o
  | i + 1 => copyL o f i ++ [gI (copyL o f i) (f + i)]
theorem copyL_len (o : List Int) (f : Nat) : ∀ i, (copyL o f i).length = o.length + i
  | 0 => rfl
  | i + 1 => by rw [copyL, List.length_append, copyL_len o f i]; rfl
theorem copyL_byte {o : List Int} (h : Byte8 o) (f : Nat) : ∀ i, Byte8 (copyL o f i)
  | 0 => h
  | i + 1 => by
    have ih := copyL_byte h f i
    rw [copyL]
    refine ih.app fun j => ?_
    cases j with
    | zero => exact ih (f + i)
    | succ j => rw [gI_end _ _ (by simp)]; omega
def putM (lim v p : Nat) (o : List Int) : Rs (List Int) := if o.length < lim then .ok (o ++ [(v : Int)], p) else .error 8
def backM (bs ld : List Int) (lim s p : Nat) (o : List Int) : Rs (List Int) := bnd (lengthM bs s p) fun n q => bnd (distM bs ld q) fun d r =>
  if o.length < d then .error 4 else if lim - o.length < n then .error 8 else .ok (copyL o (o.length - d) n, r)
def symM (bs ls ld : List Int) (lim p : Nat) (o : List Int) : Rs (Bool × List Int) := bnd (nextM bs ls p) fun s q =>
  if s = 256 then .ok ((true, o), q) else bnd (if s < 256 then putM lim s q o else backM bs ld lim s q o) fun o' r => .ok ((false, o'), r)
/-- Steps up to one that is the last. -/
def loopM (step : Nat → List Int → Rs (Bool × List Int)) (N p : Nat) (o : List Int) : Rs (List Int) :=
  match step p o with
  | .error e => .error e
  | .ok ((true, o'), q) => .ok (o', q)
  | .ok ((false, o'), q) => if h : p < q ∧ q ≤ N then loopM step N q o' else .error 4
  termination_by N - p
theorem loop_er {step : Nat → List Int → Rs (Bool × List Int)} {N p : Nat} {o : List Int} {e : Nat} (h : step p o = .error e) : loopM step N p o = .error e := by rw [loopM, h]
theorem loop_end {step : Nat → List Int → Rs (Bool × List Int)} {N p q : Nat} {o o' : List Int} (h : step p o = .ok ((true, o'), q)) : loopM step N p o = .ok (o', q) := by rw [loopM, h]
theorem loop_on {step : Nat → List Int → Rs (Bool × List Int)} {N p q : Nat} {o o' : List Int} (h : step p o = .ok ((false, o'), q)) (h1 : p < q) (h2 : q ≤ N) : loopM step N p o = loopM step N q o' := by rw [loopM, h]; simp [h1, h2]
def storedM (bs : List Int) (lim p : Nat) (o : List Int) : Rs (List Int) := bnd (takeM bs 16 (8 * upB p)) fun n q => bnd (takeM bs 16 q) fun m r =>
  if m + n ≠ 65535 then .error 4 else if lim - o.length < n then .error 8 else if upB r + n ≤ bs.length then .ok (o ++ (bs.drop (upB r)).take n, 8 * (upB r + n)) else .error 2
def countM (bs : List Int) (n least most p : Nat) : Rs Nat := bnd (takeM bs n p) fun v q => if most < least + v then .error 4 else .ok (least + v, q)
def ordN : List Nat := [16, 17, 18, 0, 8, 7, 9, 6, 10, 5, 11, 4, 12, 3, 13, 2, 14, 1, 15]
def ordF (i : Nat) : Nat := ordN.getD i 0
theorem ordF_lt (i : Nat) : ordF i < 19 := by
  by_cases h : i < 19
  · have : ∀ i, i < 19 → ordF i < 19 := by decide
    exact this i h
  · unfold ordF
    rw [List.getD_eq_getElem?_getD, List.getElem?_eq_none (by simp [ordN]; omega)]
    decide
def lensM (bs : List Int) : Nat → Nat → Rs (Nat → Int)
  | 0, p => .ok (fun _ => 0, p)
  | i + 1, p => bnd (lensM bs i p) fun M q => bnd (takeM bs 3 q) fun v r => .ok (fun j => if j = ordF i then (v : Int) else M j, r)
theorem lens_er {bs : List Int} {p e i : Nat} (h : lensM bs i p = .error e) : ∀ n, i ≤ n → lensM bs n p = .error e
  | 0, hn => by obtain rfl : i = 0 := by omega
                exact h
  | n + 1, hn => by
    by_cases c : i = n + 1
    · subst c; exact h
    · rw [lensM, lens_er h n (by omega)]; rfl
def repL (row : List Int) (s : Nat) : Int := if s = 16 then gI row (row.length - 1) else if s = 17 ∨ s = 18 then 0 else (s : Int)
def repA (s : Nat) : Nat := if s = 16 ∨ s = 17 then 3 else if s = 18 then 11 else 1
def repB (s : Nat) : Nat := if s = 16 then 2 else if s = 17 then 3 else if s = 18 then 7 else 0
def repM (bs row : List Int) (s p : Nat) : Rs (Int × Nat) := if s = 16 ∧ row.length = 0 then .error 4 else bnd (takeM bs (repB s) p) fun m q => .ok ((repL row s, repA s + m), q)
def rowM (bs lc : List Int) (many p : Nat) (row : List Int) : Rs (Bool × List Int) := if many ≤ row.length then .ok ((true, row), p) else bnd (nextM bs lc p) fun s q => bnd (repM bs row s q) fun v r =>
  if many - row.length < v.2 then .error 4 else .ok ((false, row ++ List.replicate v.2 v.1), r)
def toldM (bs : List Int) (p : Nat) : Rs (List Int × List Int) := bnd (countM bs 5 257 286 p) fun a p1 => bnd (countM bs 5 1 30 p1) fun b p2 => bnd (countM bs 4 4 19 p2) fun c p3 => bnd (lensM bs c p3) fun M p4 =>
  if okS (nOf (lstF M 19)) then bnd (loopM (rowM bs (lstF M 19) (a + b)) (8 * bs.length) p4 []) fun r p5 =>
    if gI r 256 = 0 then .error 4 else if okS (nOf (r.take a)) then if okS (nOf (r.drop a)) then .ok ((r.take a, r.drop a), p5) else .error 4 else .error 4
  else .error 4
def fixS : List Int := lstF (fun i => if i ≤ 143 then 8 else if i ≤ 255 then 9 else if i ≤ 279 then 7 else 8) 288
def fixD : List Int := lstF (fun _ => 5) 32
def kindM (bs : List Int) (lim k p : Nat) (o : List Int) : Rs (List Int) := if k = 0 then storedM bs lim p o else if k = 1 then loopM (symM bs fixS fixD lim) (8 * bs.length) p o
  else if k = 2 then bnd (toldM bs p) fun t q => loopM (symM bs t.1 t.2 lim) (8 * bs.length) q o else .error 4
def blockM (bs : List Int) (lim p : Nat) (o : List Int) : Rs (Bool × List Int) := bnd (takeM bs 1 p) fun l q => bnd (takeM bs 2 q) fun k r => bnd (kindM bs lim k r o) fun o' s => .ok ((decide (l = 1), o'), s)
def inflM (bs : List Int) (lim : Nat) : Rs (List Int) := loopM (blockM bs lim) (8 * bs.length) 0 []

/-- What a code that is read tells: how many bits it has, which of them it hangs on. -/
theorem stepD_ok {N T β : Nat → Nat} {len s t : Nat} : ∀ {f k}, stepD N T β len f k = (s, t, 0) → k ≤ t ∧ (k ≤ len → t ≤ len) ∧ val β t < endC N t ∧ (∃ j, s = T j) ∧ ∀ β' len', (∀ j, j < t → β j = β' j) → t ≤ len' → stepD N T β' len' f k = (s, t, 0)
  | 0, k, h => by simp [stepD] at h
  | f + 1, k, h => by
    have vc : ∀ β' : Nat → Nat, ∀ k, (∀ j, j < k → β j = β' j) → val β k = val β' k := by
      intro β' k
      induction k with
      | zero => intro _; rfl
      | succ k ih => intro h; rw [val, val, ih (fun j hj => h j (by omega)), h k (by omega)]
    by_cases c1 : val β k < endC N k
    · rw [step_hit _ _ _ _ _ _ c1] at h
      simp only [Prod.mk.injEq] at h
      obtain ⟨h1, rfl, _⟩ := h
      refine ⟨Nat.le_refl _, fun x => x, c1, ⟨_, h1.symm⟩, fun β' len' hb hl => ?_⟩
      have e := vc β' k hb
      rw [step_hit _ _ _ _ _ _ (by rw [← e]; exact c1), ← e, h1]
    · by_cases c2 : plc N 16 ≤ plc N (k + 1)
      · rw [step_form _ _ _ _ _ _ (by omega) c2] at h
        simp at h
      · by_cases c3 : len ≤ k
        · rw [step_end _ _ _ _ _ _ (by omega) (by omega) c3] at h
          simp at h
        · rw [step_on _ _ _ _ _ _ (by omega) (by omega) (by omega)] at h
          obtain ⟨h1, h2, h3, h4, h5⟩ := stepD_ok h
          refine ⟨by omega, fun _ => h2 (by omega), h3, h4, fun β' len' hb hl => ?_⟩
          have e := vc β' k fun j hj => hb j (by omega)
          rw [step_on _ _ _ _ _ _ (by rw [← e]; omega) (by omega) (by omega)]
          exact h5 β' len' hb hl
theorem stepD_er {N T β : Nat → Nat} {len : Nat} : ∀ {f k}, (stepD N T β len f k).2.2 = 0 ∨ (stepD N T β len f k).2.2 = 2 ∨ (stepD N T β len f k).2.2 = 4
  | 0, k => Or.inr (Or.inr rfl)
  | f + 1, k => by
    rw [stepD]
    split
    · exact Or.inl rfl
    · split
      · exact Or.inr (Or.inr rfl)
      · split
        · exact Or.inr (Or.inl rfl)
        · exact stepD_er
theorem tabF_lt (a N : Nat → Nat) : ∀ m j, tabF a N m j = 0 ∨ tabF a N m j < m
  | 0, j => Or.inl rfl
  | m + 1, j => by
    have ih := tabF_lt a N m j
    rw [tabF]
    split
    · omega
    · dsimp only
      split <;> omega
theorem nOf_z (l : List Int) : nOf l 0 = 0 := by unfold nOf; exact cN_zero _ _
theorem next_ok {bs l : List Int} {p s q : Nat} (h : nextM bs l p = .ok (s, q)) : ∃ t, readR l bs p = (s, t, 0) ∧ q = p + t ∧ 1 ≤ t ∧ (p ≤ 8 * bs.length → q ≤ 8 * bs.length) ∧ (s = 0 ∨ s < l.length) := by
  unfold nextM at h
  split at h
  · rename_i h0
    simp only [Except.ok.injEq, Prod.mk.injEq] at h
    obtain ⟨h1, h2⟩ := h
    have e : readR l bs p = (s, (readR l bs p).2.1, 0) := by rw [← h0, ← h1]
    refine ⟨_, e, h2.symm, ?_, ?_, ?_⟩
    all_goals
      generalize (readR l bs p).2.1 = t at *
      obtain ⟨k1, k2, k3, ⟨j, k4⟩, _⟩ := stepD_ok e
    · rcases Nat.eq_zero_or_pos t with c | c
      · subst c
        simp [val, endC, fstC, nOf_z] at k3
      · exact c
    · intro hp
      have := k2 (by omega)
      omega
    · rw [k4]; exact tabF_lt _ _ _ _
  · cases h
theorem next_er {bs l : List Int} {p e : Nat} (h : nextM bs l p = .error e) : (readR l bs p).2.2 = e ∧ (e = 2 ∨ e = 4) := by
  unfold nextM at h
  split at h
  · cases h
  · rename_i h0
    simp only [Except.error.injEq] at h
    have := stepD_er (N := nOf l) (T := tabF (lnN l) (nOf l) l.length) (β := bitsF bs p) (len := 8 * bs.length - p) (f := 16) (k := 0)
    have e1 : (readR l bs p).2.2 = (stepD (nOf l) (tabF (lnN l) (nOf l) l.length) (bitsF bs p) (8 * bs.length - p) 16 0).2.2 := rfl
    omega

end Go.Proofs.YtehnilmfeoadgaaDoor
/- The unpacker in memory, and what a call on it may have changed. -/
namespace Go.Proofs.YtehnilmfeoadgaaDoor
open Go.RowKit
set_option linter.unusedVariables false

/-- An unpacker's block and its bits' block; where it began; the bytes, the limit. -/
structure Cx where
  B : Nat
  gb : Nat
  gu : Nat
  bs : List Int
  lim : Nat
  b1 : B ≤ gb
  b2 : gb < gu
  hbs : bs.length ≤ 1000000
  hlim : lim ≤ 1048576
/-- What out's block, ob, and the unpacker's own two may not be: a region of tables. -/
def Offs (c : Cx) (w : World) (ob : Option Nat) (G : Nat → Prop) : Prop := ∀ k, G k → k ≠ c.gu ∧ k ≠ c.gb ∧ ob ≠ some k ∧ k < w.heap.size ∧ c.B ≤ k
def TabIn (c : Cx) (w : World) (ob : Option Nat) (g : Nat) (l : List Int) : Prop := ∃ G, TabAt G w g l ∧ Offs c w ob G
/-- What a call may have changed. -/
structure Mv (c : Cx) (w : World) (ob : Option Nat) (w' : World) (ob' : Option Nat) : Prop where
  ch : Ch (fun k => k = c.gu ∨ k = c.gb ∨ ob = some k) w w'
  ob : ∀ k, ob' = some k → ob = some k ∨ w.heap.size ≤ k
theorem Mv.refl (c : Cx) (w : World) (ob : Option Nat) : Mv c w ob w ob := ⟨Ch.refl _ _, fun _ h => Or.inl h⟩
theorem Mv.then {c : Cx} {w w1 w2 : World} {ob ob1 ob2 : Option Nat} (h : Mv c w ob w1 ob1) (k : Mv c w1 ob1 w2 ob2) : Mv c w ob w2 ob2 :=
  ⟨h.ch.trans k.ch fun i hi => by
    rcases hi with x | x | x
    · exact Or.inl (Or.inl x)
    · exact Or.inl (Or.inr (Or.inl x))
    · rcases h.ob i x with y | y
      · exact Or.inl (Or.inr (Or.inr y))
      · exact Or.inr y, fun i hi => by
    rcases k.ob i hi with x | x
    · exact h.ob i x
    · exact Or.inr (Nat.le_trans h.ch.size x)⟩
theorem Mv.bits {c : Cx} {w w' : World} {ob : Option Nat} (h : Ch (fun k => k = c.gb) w w') : Mv c w ob w' ob := ⟨h.weak fun i hi => Or.inr (Or.inl hi), fun _ h => Or.inl h⟩
theorem Mv.new {c : Cx} {w w' : World} {ob : Option Nat} (h : Below w.heap.size w w') : Mv c w ob w' ob := ⟨Ch.of_below h, fun _ h => Or.inl h⟩
theorem Offs.mv {c : Cx} {w w' : World} {ob ob' : Option Nat} {G : Nat → Prop} (h : Offs c w ob G) (m : Mv c w ob w' ob') : Offs c w' ob' G := fun k hk => by
  obtain ⟨h1, h2, h3, h4, h5⟩ := h k hk
  refine ⟨h1, h2, fun e => ?_, Nat.lt_of_lt_of_le h4 m.ch.size, h5⟩
  rcases m.ob k e with x | x
  · exact h3 x
  · omega
theorem Offs.off {c : Cx} {w : World} {ob : Option Nat} {G : Nat → Prop} (h : Offs c w ob G) (k : Nat) (hk : G k) : ¬ (k = c.gu ∨ k = c.gb ∨ ob = some k) := by
  obtain ⟨h1, h2, h3, _⟩ := h k hk
  rintro (x | x | x)
  · exact h1 x
  · exact h2 x
  · exact h3 x
theorem TabIn.mv {c : Cx} {w w' : World} {ob ob' : Option Nat} {g : Nat} {l : List Int} (h : TabIn c w ob g l) (m : Mv c w ob w' ob') : TabIn c w' ob' g l := by
  obtain ⟨G, h1, h2⟩ := h
  exact ⟨G, h1.ch m.ch fun k hk => h2.off k hk, h2.mv m⟩
/-- A table that was just made. -/
theorem TabIn.new {c : Cx} {w w' : World} {ob : Option Nat} {g : Nat} {l : List Int} (h : TabAt (fun k => w.heap.size ≤ k) w' g l) (hu : c.gu < w.heap.size) (ho : ∀ k, ob = some k → k < w.heap.size) : TabIn c w' ob g l :=
  ⟨fun k => w.heap.size ≤ k ∧ k < w'.heap.size, h.weak fun k hk h1 => ⟨h1, hk⟩, fun k hk => ⟨by omega, by have := c.b2; omega, fun e => by have := ho k e; omega, hk.2, by have := c.b1; have := c.b2; omega⟩⟩
/-- The codes of Kind 1 that are kept. -/
def FxAt (c : Cx) (w : World) (ob : Option Nat) (fs fd : Option Addr) : Prop := (fs = none ∧ fd = none) ∨ ∃ gs gd, fs = some ⟨gs, 0, none⟩ ∧ fd = some ⟨gd, 0, none⟩ ∧ TabIn c w ob gs fixS ∧ TabIn c w ob gd fixD
theorem FxAt.mv {c : Cx} {w w' : World} {ob ob' : Option Nat} {fs fd : Option Addr} (h : FxAt c w ob fs fd) (m : Mv c w ob w' ob') : FxAt c w' ob' fs fd := by
  rcases h with h | ⟨gs, gd, h1, h2, h3, h4⟩
  · exact Or.inl h
  · exact Or.inr ⟨gs, gd, h1, h2, h3.mv m, h4.mv m⟩
def uC (c : Cx) (v : Value) (fs fd : Option Addr) : Array Value := #[.pointer (some ⟨c.gb, 0, none⟩), v, .int .i64 (c.lim : Nat), .pointer fs, .pointer fd]
/-- The unpacker: its position, what came out; ob is out's block. -/
structure UAt (c : Cx) (w : World) (ob : Option Nat) (p : Nat) (o : List Int) : Prop where
  is : ∃ v fs fd, w.heap[c.gu]? = some (.cells (uC c v fs fd) 50 (0, 0)) ∧ v.ownBlock = ob ∧ w.ownsRow (c.gu + 1) 5 1 v o.length (o.map u8I) ∧ FxAt c w ob fs fd
  bits : BitsAt (fun k => c.B ≤ k ∧ k < c.gb) w c.gb c.bs p
  by8 : Byte8 o
  lim : o.length ≤ c.lim
theorem UAt.gu {c : Cx} {w : World} {ob : Option Nat} {p : Nat} {o : List Int} (h : UAt c w ob p o) : c.gu < w.heap.size := by
  obtain ⟨v, fs, fd, h1, _⟩ := h.is
  exact (Array.getElem?_eq_some_iff.1 h1).1
theorem UAt.fit {c : Cx} {w : World} {ob : Option Nat} {p : Nat} {o : List Int} (h : UAt c w ob p o) : p ≤ 8 * c.bs.length := h.bits.fit
theorem UAt.ob {c : Cx} {w : World} {ob : Option Nat} {p : Nat} {o : List Int} (h : UAt c w ob p o) (k : Nat) (hk : ob = some k) : c.gu < k ∧ k < w.heap.size := by
  obtain ⟨v, fs, fd, _, h2, h3, _⟩ := h.is
  rcases h3.2 with ⟨rfl, _⟩ | ⟨g, cap, cur, rfl, hb', hgg, _⟩
  · rw [← h2] at hk; simp [Value.ownBlock] at hk
  · rw [← h2] at hk
    simp only [Value.ownBlock, Option.some.injEq] at hk
    subst hk
    exact ⟨by omega, (Array.getElem?_eq_some_iff.1 hgg).1⟩
/-- A row of a call's own, where its block is as it was. -/
theorem own_kept' {w w' : World} {base : Nat} {e : TypeId} {size : Nat} {v : Value} {n : Nat} {xs : List Value} (h : w.ownsRow base e size v n xs) (hg : ∀ k, k < w.heap.size → v.ownBlock = some k → w'.heap[k]? = w.heap[k]?) : w'.ownsRow base e size v n xs := by
  refine ⟨h.1, ?_⟩
  rcases h.2 with hn | ⟨g, cap, cur, rfl, hb', hgg, rest⟩
  · exact .inl hn
  · exact .inr ⟨g, cap, cur, rfl, hb', (hg g (Array.getElem?_eq_some_iff.1 hgg).1 rfl).trans hgg, rest⟩
/-- The bits' position has changed alone. -/
theorem UAt.bitsMv {c : Cx} {w w' : World} {ob : Option Nat} {p q : Nat} {o : List Int} (h : UAt c w ob p o) (hb : BitsAt (fun k => c.B ≤ k ∧ k < c.gb) w' c.gb c.bs q) (hc : Ch (fun k => k = c.gb) w w') : UAt c w' ob q o := by
  have hg := h.gu
  have ho := h.ob
  obtain ⟨⟨v, fs, fd, h1, h2, h3, h4⟩, _, h6, h7⟩ := h
  have b2 := c.b2
  exact ⟨⟨v, fs, fd, (hc.block _ hg (by omega)).trans h1, h2, own_kept' h3 fun k hk hv => hc.block k hk (by have := ho k (by rw [← h2]; exact hv); omega), h4.mv (Mv.bits hc)⟩, hb, h6, h7⟩
/-- New blocks alone. -/
theorem UAt.below {c : Cx} {w w' : World} {ob : Option Nat} {p : Nat} {o : List Int} (h : UAt c w ob p o) (hb : Below w.heap.size w w') : UAt c w' ob p o :=
  h.bitsMv (h.bits.below hb) (Ch.of_below hb)
theorem Mv.below {c : Cx} {w w' : World} {ob ob' : Option Nat} (m : Mv c w ob w' ob') (hu : c.gu < w.heap.size) (ho : ∀ k, ob = some k → c.gu < k) : Below c.B w w' :=
  m.ch.below (fun k hk => by
    have := c.b1
    have := c.b2
    rcases hk with x | x | x
    · omega
    · omega
    · have := ho k x; omega) (by have := c.b1; have := c.b2; omega)
theorem UAt.mvBelow {c : Cx} {w w' : World} {ob ob' : Option Nat} {p : Nat} {o : List Int} (h : UAt c w ob p o) (m : Mv c w ob w' ob') : Below c.B w w' := m.below h.gu fun k hk => (h.ob k hk).1
theorem UAt.newBelow {c : Cx} {w w' : World} {ob : Option Nat} {p : Nat} {o : List Int} (h : UAt c w ob p o) (hb : Below w.heap.size w w') : Below c.B w w' := hb.mono (by have := h.gu; have := c.b1; have := c.b2; omega)
/-- Cells of the unpacker. -/
theorem UAt.cells {c : Cx} {w : World} {ob : Option Nat} {p : Nat} {o : List Int} (h : UAt c w ob p o) : ∃ v fs fd, w.cell? ⟨c.gu, 0, none⟩ = some (.pointer (some ⟨c.gb, 0, none⟩)) ∧ w.cell? ⟨c.gu, 1, none⟩ = some v ∧ w.cell? ⟨c.gu, 2, none⟩ = some (.int .i64 (c.lim : Nat)) ∧ w.cell? ⟨c.gu, 3, none⟩ = some (.pointer fs) ∧ w.cell? ⟨c.gu, 4, none⟩ = some (.pointer fd)
    ∧ v.ownBlock = ob ∧ w.ownsRow (c.gu + 1) 5 1 v o.length (o.map u8I) ∧ FxAt c w ob fs fd := by
  obtain ⟨v, fs, fd, h1, h2, h3, h4⟩ := h.is
  exact ⟨v, fs, fd, cell_of_row w c.gu 0 _ _ (0, 0) h1, cell_of_row w c.gu 1 _ _ (0, 0) h1, cell_of_row w c.gu 2 _ _ (0, 0) h1, cell_of_row w c.gu 3 _ _ (0, 0) h1, cell_of_row w c.gu 4 _ _ (0, 0) h1, h2, h3, h4⟩
theorem UAt.frozen {c : Cx} {w : World} {ob : Option Nat} {p : Nat} {o : List Int} (h : UAt c w ob p o) (j : Nat) : w.frozen? ⟨c.gu, j, none⟩ = false := by
  obtain ⟨v, fs, fd, h1, h2, h3, h4⟩ := h.is
  exact frozen_of_row w c.gu j _ _ h1
/-- A number, or an error. -/
def GaveI (c : Cx) (w : World) (ob : Option Nat) (o : List Int) (R : Rs Nat) (e : Ending) (w' : World) : Prop :=
  (∃ v q, R = .ok (v, q) ∧ e = .returned (.tuple #[.int .i64 (v : Nat), .int .i64 0]) ∧ UAt c w' ob q o ∧ Mv c w ob w' ob) ∨ (∃ x, R = .error x ∧ (x = 2 ∨ x = 4 ∨ x = 8) ∧ e = .returned (.tuple #[.int .i64 0, .int .i64 (x : Nat)]) ∧ Below c.B w w')
/-- What came out, or an error. -/
def GaveO (c : Cx) (w : World) (ob : Option Nat) (R : Rs (List Int)) (e : Ending) (w' : World) : Prop :=
  (∃ o q ob', R = .ok (o, q) ∧ e = .returned (.int .i64 0) ∧ UAt c w' ob' q o ∧ Mv c w ob w' ob') ∨ (∃ x, R = .error x ∧ (x = 2 ∨ x = 4 ∨ x = 8) ∧ e = .returned (.int .i64 (x : Nat)) ∧ Below c.B w w')

end Go.Proofs.YtehnilmfeoadgaaDoor
/- The unpacker's take, room, put; how far a number reaches. -/
namespace Go.Proofs.YtehnilmfeoadgaaDoor
open Go.RowKit
set_option linter.unusedVariables false

theorem nz {x : Nat} (h : x = 2 ∨ x = 4 ∨ x = 8) : ((x : Int) == 0) = false := by
  rw [beq_eq_false_iff_ne]; omega
/-- A number, or an error; the bits have changed alone. -/
def GaveB (c : Cx) (w : World) (R : Rs Nat) (e : Ending) (w' : World) : Prop :=
  (∃ v q, R = .ok (v, q) ∧ e = .returned (.tuple #[.int .i64 (v : Nat), .int .i64 0]) ∧ BitsAt (fun k => c.B ≤ k ∧ k < c.gb) w' c.gb c.bs q ∧ Ch (fun k => k = c.gb) w w') ∨ (∃ x, R = .error x ∧ (x = 2 ∨ x = 4 ∨ x = 8) ∧ e = .returned (.tuple #[.int .i64 0, .int .i64 (x : Nat)]) ∧ Ch (fun k => k = c.gb) w w')
theorem GaveB.toI {c : Cx} {w : World} {ob : Option Nat} {p : Nat} {o : List Int} {R : Rs Nat} {e : Ending} {w' : World} (h : UAt c w ob p o) (g : GaveB c w R e w') : GaveI c w ob o R e w' := by
  rcases g with ⟨v, q, h1, h2, h3, h4⟩ | g
  · exact Or.inl ⟨v, q, h1, h2, h.bitsMv h3 h4, Mv.bits h4⟩
  · obtain ⟨x, h1, h2, h3, h4⟩ := g
    exact Or.inr ⟨x, h1, h2, h3, h.mvBelow (Mv.bits (ob := ob) h4)⟩
set_option maxHeartbeats 800000 in
theorem take_b (c : Cx) (w : World) (ob : Option Nat) (p : Nat) (o : List Int) (n : Nat) (hn : n ≤ 24) (h : UAt c w ob p o) :
    Calls Tryd.prog 22 #[.pointer (some ⟨c.gu, 0, none⟩), .int .i64 (n : Nat)] w (GaveB c w (takeM c.bs n p)) := by
  have HU := Lib.hid h
  obtain ⟨v, fs, fd, c0, _, _, _, _, _, _, _⟩ := h.cells
  have hbs := c.hbs
  by_cases hp : p + n ≤ 8 * c.bs.length
  · have HT := Lib.hid (takeN_yes _ c.gb c.bs p n w h.bits hn hp (by omega))
    have HR : Hid (takeM c.bs n p = .ok (lo (bitsF c.bs p) n, p + n)) := Lib.hid (if_pos hp)
    clear h
    go_enter Tryd.func22, Tryd.ntmps22
    go_wp2_with fail
    refine HT.out.mono ?_
    rintro e w1 ⟨rfl, hb, hc⟩
    have HE : Hid (GaveB c w (takeM c.bs n p) (.returned (.tuple #[.int .i64 (lo (fun j => bitN c.bs (p + j)) n : Nat), .int .i64 0])) w1) := Lib.hid (Or.inl ⟨_, _, HR.out, rfl, hb, hc⟩)
    generalize lo (fun j => bitN c.bs (p + j)) n = V at *
    clear hb hc
    go_wp2_with fail
    go_ret2
    exact HE.out
  · have HT := Lib.hid (takeN_no _ c.gb c.bs p n w h.bits (by omega) (by omega))
    have HR : Hid (takeM c.bs n p = .error 2) := Lib.hid (if_neg hp)
    clear h
    go_enter Tryd.func22, Tryd.ntmps22
    go_wp2_with fail
    refine HT.out.mono ?_
    rintro e w1 ⟨rfl, k, rfl⟩
    go_wp2_with fail
    go_ret2
    exact Or.inr ⟨2, HR.out, Or.inl rfl, rfl, Ch.of_below (bdrawn (Below.refl _ _) k)⟩
theorem take_u (c : Cx) (w : World) (ob : Option Nat) (p : Nat) (o : List Int) (n : Nat) (hn : n ≤ 24) (h : UAt c w ob p o) :
    Calls Tryd.prog 22 #[.pointer (some ⟨c.gu, 0, none⟩), .int .i64 (n : Nat)] w (GaveI c w ob o (takeM c.bs n p)) := (take_b c w ob p o n hn h).mono fun _ _ => GaveB.toI h
set_option maxHeartbeats 800000 in
theorem room_u (c : Cx) (w : World) (ob : Option Nat) (p : Nat) (o : List Int) (n : Nat) (hn : n ≤ 1000000) (h : UAt c w ob p o) (b : Bool) (hb : b = decide (n ≤ c.lim - o.length)) :
    Calls Tryd.prog 28 #[.pointer (some ⟨c.gu, 0, none⟩), .int .i64 (n : Nat)] w fun e w' => e = .returned (.bool b) ∧ Below w.heap.size w w' := by
  obtain ⟨v, fs, fd, c0, c1, c2, _, _, _, hO, _⟩ := h.cells
  obtain ⟨A, cap, rfl, hcap, hmax⟩ := own_slice hO
  have hlim := c.hlim
  have hl := h.lim
  unfold maxLen at hmax
  clear hO h
  generalize c.lim = L at *
  generalize o.length = m at *
  have d1 : decide ((n : Int) ≤ (L : Int) - (m : Int)) = b := by
    subst hb
    exact decide_eq_decide.2 (by omega)
  clear hb
  go_enter Tryd.func28, Tryd.ntmps28
  go_wp2_with fail
  go_region
  go_wp2_with fail
  go_ret
  exact ⟨rfl, bdrawn (Below.refl _ _) _⟩

end Go.Proofs.YtehnilmfeoadgaaDoor
/- How far a number reaches: stretched, length, distance. -/
namespace Go.Proofs.YtehnilmfeoadgaaDoor
open Go.RowKit
set_option linter.unusedVariables false

theorem far_math (k each : Nat) (hk : k ≤ 30) (he : each = 2 ∨ each = 4) : xtra k each ≤ 14 ∧ k - each * xtra k each ≤ 30 ∧ each * xtra k each ≤ k ∧ (((k : Int) / (each : Int)) - 1 < 0 → xtra k each = 0) ∧ (0 ≤ ((k : Int) / (each : Int)) - 1 → ((k : Int) / (each : Int)) - 1 = (xtra k each : Nat)) := by
  unfold xtra
  rcases he with rfl | rfl <;> omega
set_option maxHeartbeats 1600000 in
theorem stretched_u (c : Cx) (w : World) (ob : Option Nat) (p : Nat) (o : List Int) (k each : Nat) (hk : k ≤ 30) (he : each = 2 ∨ each = 4) (h : UAt c w ob p o) :
    Calls Tryd.prog 46 #[.pointer (some ⟨c.gu, 0, none⟩), .int .i64 (k : Nat), .int .i64 (each : Nat)] w (GaveI c w ob o (farM c.bs k each p)) := by
  obtain ⟨m1, m2, m3, m4, m5⟩ := far_math k each hk he
  have HF : Hid (farM c.bs k each p = bnd (takeM c.bs (xtra k each) p) fun m q => .ok ((k - each * xtra k each) * 2 ^ xtra k each + m, q)) := Lib.hid rfl
  have HT := Lib.hid (take_u c w ob p o (xtra k each) (by omega) h)
  clear h
  obtain ⟨X, hX⟩ : ∃ X, xtra k each = X := ⟨_, rfl⟩
  rw [hX] at HT HF m1 m2 m3 m4 m5
  have hmax : (if (k : Int) / (each : Int) - 1 < 0 then (0 : Int) else (k : Int) / (each : Int) - 1) = (X : Int) := by
    split
    · rename_i c; rw [m4 c]; rfl
    · rename_i c; exact m5 (by omega)
  have hmax2 : (if (0 : Int) < (k : Int) / (each : Int) - 1 then (k : Int) / (each : Int) - 1 else (0 : Int)) = (X : Int) := by
    split
    · rename_i c; exact m5 (by omega)
    · rename_i c
      by_cases d : (k : Int) / (each : Int) - 1 < 0
      · rw [m4 d]; rfl
      · rw [← m5 (by omega)]; omega
  have hdiv : (k : Int) / (each : Int) ≤ 30 := by rcases he with rfl | rfl <;> omega
  have hdiv0 : 0 ≤ (k : Int) / (each : Int) := by rcases he with rfl | rfl <;> omega
  have hene : ((each : Int) == 0) = false := by rcases he with rfl | rfl <;> decide
  obtain ⟨D, hD⟩ : ∃ D, (k : Int) / (each : Int) = D := ⟨_, rfl⟩
  rw [hD] at hmax hmax2 hdiv hdiv0
  have hen : (each : Int) ≤ 4 ∧ 2 ≤ (each : Int) := by omega
  obtain ⟨hen1, hen2⟩ := hen
  obtain ⟨Y, hY⟩ : ∃ Y, each * X = Y := ⟨_, rfl⟩
  have hY1 : (each : Int) * (X : Int) = (Y : Int) := by rw [← hY]; simp
  rw [hY] at m2 m3 HF
  have hp2 : 2 ^ X ≤ 2 ^ 14 := Nat.pow_le_pow_right (by decide) m1
  obtain ⟨Z, hZ⟩ : ∃ Z, (k - Y) * 2 ^ X = Z := ⟨_, rfl⟩
  have hZ2 : ((k : Int) - (Y : Int)) * (2 : Int) ^ X = (Z : Int) := by
    rw [← hZ, Int.natCast_mul, Int.natCast_sub m3]; simp
  have hZ1 : Z ≤ 500000 := by
    have := Nat.mul_le_mul m2 hp2
    omega
  rw [hZ] at HF
  clear he m4 m5 hX hY hZ hp2 m2
  go_enter Tryd.func46, Tryd.ntmps46
  go_wp2_with fail
  refine HT.out.mono ?_
  rintro e w1 (⟨v, q, hR, rfl, hU, hM⟩ | ⟨x, hR, hx, rfl, hb⟩)
  · have HE : Hid (GaveI c w ob o (farM c.bs k each p) (.returned (.tuple #[.int .i64 ((Z + v : Nat) : Int), .int .i64 0])) w1) := Lib.hid (Or.inl ⟨_, _, by rw [HF.out, hR]; rfl, rfl, hU, hM⟩)
    have hv : v ≤ 16777216 := by
      unfold takeM at hR
      split at hR
      · simp only [Except.ok.injEq, Prod.mk.injEq] at hR
        have := lo_lt (bitsF c.bs p) (fun j => bitsF_le _ _ _) X
        have h2 : 2 ^ X ≤ 2 ^ 14 := Nat.pow_le_pow_right (by decide) m1
        omega
      · cases hR
    have hs : ((Z : Int) + (v : Int)) = ((Z + v : Nat) : Int) := by omega
    generalize Z + v = S at *
    clear hR hU hM
    go_wp2_with fail
    go_ret2
    exact HE.out
  · have hn := nz hx
    have HE : Hid (GaveI c w ob o (farM c.bs k each p) (.returned (.tuple #[.int .i64 0, .int .i64 (x : Nat)])) w1) := Lib.hid (Or.inr ⟨x, by rw [HF.out, hR]; rfl, hx, rfl, hb⟩)
    clear hR hx hb
    go_wp2_with fail
    go_ret2
    exact HE.out

end Go.Proofs.YtehnilmfeoadgaaDoor
/- A region that draws its order, whose last operations come in one forced order behind all others, and may write what the others read. No program is named here. -/
namespace Go.Proofs.YtehnilmfeoadgaaDoor
open Go


variable {P : Program} {ops : Array Oper} {Q : Exit → Act → World → Prop} {md : Region.Mode} {S : World → Prop} {n : Nat}

end Go.Proofs.YtehnilmfeoadgaaDoor
namespace Go.Proofs.YtehnilmfeoadgaaDoor
open Go

end Go.Proofs.YtehnilmfeoadgaaDoor
/- The unpacker's length and distance. -/
namespace Go.Proofs.YtehnilmfeoadgaaDoor
open Go.RowKit
set_option linter.unusedVariables false
set_option linter.unusedSimpArgs false

theorem stepD_er1 {N T β : Nat → Nat} {len : Nat} : ∀ {f k}, (stepD N T β len f k).2.2 ≠ 0 → (stepD N T β len f k).1 = 0
  | 0, k => fun _ => rfl
  | f + 1, k => by
    rw [stepD]
    split
    · exact fun h => absurd rfl h
    · split
      · exact fun _ => rfl
      · split
        · exact fun _ => rfl
        · exact stepD_er1
theorem next_b (c : Cx) (w : World) (ob : Option Nat) (p : Nat) (o : List Int) (g : Nat) (l : List Int) (h : UAt c w ob p o) (ht : TabIn c w ob g l) (hl : l.length ≤ 320) :
    Calls Tryd.prog 34 #[.pointer (some ⟨g, 0, none⟩), .pointer (some ⟨c.gb, 0, none⟩)] w (GaveB c w (nextM c.bs l p)) := by
  obtain ⟨G, h1, h2⟩ := ht
  refine (next_any G _ g c.gb l c.bs p w h1 h.bits (fun k hk => (h2 k hk).2.1) hl c.hbs).mono ?_
  rintro e w1 ⟨he, hb, hc⟩
  rcases (nextM c.bs l p).two with ⟨x, hx⟩ | ⟨s, q, hx⟩
  · obtain ⟨k1, k2⟩ := next_er hx
    have k3 : (readR l c.bs p).1 = 0 := stepD_er1 (by
      have : (readR l c.bs p).2.2 ≠ 0 := by omega
      exact this)
    refine Or.inr ⟨x, hx, by omega, ?_, hc⟩
    rw [he, k1, k3]; rfl
  · obtain ⟨t, k1, k2, k3, k4, k5⟩ := next_ok hx
    rw [k1] at he hb
    refine Or.inl ⟨s, q, hx, he, ?_, hc⟩
    rw [k2]
    exact hb rfl
theorem next_u (c : Cx) (w : World) (ob : Option Nat) (p : Nat) (o : List Int) (g : Nat) (l : List Int) (h : UAt c w ob p o) (ht : TabIn c w ob g l) (hl : l.length ≤ 320) :
    Calls Tryd.prog 34 #[.pointer (some ⟨g, 0, none⟩), .pointer (some ⟨c.gb, 0, none⟩)] w (GaveI c w ob o (nextM c.bs l p)) := (next_b c w ob p o g l h ht hl).mono fun _ _ => GaveB.toI h
theorem far_le {bs : List Int} {k each p v q : Nat} (hk : k ≤ 30) (he : each = 2 ∨ each = 4) (h : farM bs k each p = .ok (v, q)) : v ≤ 600000 := by
  obtain ⟨m1, m2, _⟩ := far_math k each hk he
  unfold farM takeM at h
  have h2 : 2 ^ xtra k each ≤ 2 ^ 14 := Nat.pow_le_pow_right (by decide) m1
  have h3 := lo_lt (bitsF bs p) (fun j => bitsF_le _ _ _) (xtra k each)
  have h4 := Nat.mul_le_mul m2 h2
  split at h
  · rw [bnd_ok] at h
    simp only [Except.ok.injEq, Prod.mk.injEq] at h
    omega
  · cases h
set_option maxHeartbeats 1600000 in
theorem length_u (c : Cx) (w : World) (ob : Option Nat) (p : Nat) (o : List Int) (s : Nat) (hs : 257 ≤ s) (hs2 : s ≤ 400) (h : UAt c w ob p o) :
    Calls Tryd.prog 41 #[.pointer (some ⟨c.gu, 0, none⟩), .int .i64 (s : Nat)] w (GaveI c w ob o (lengthM c.bs s p)) := by
  by_cases h1 : 285 < s
  · have hR : lengthM c.bs s p = .error 4 := if_pos h1
    have HE : Hid (GaveI c w ob o (lengthM c.bs s p) (.returned (.tuple #[.int .i64 0, .int .i64 4])) w) := Lib.hid (Or.inr ⟨4, hR, by omega, rfl, h.newBelow (Below.refl _ _)⟩)
    have d1 : decide ((285 : Int) < (s : Int)) = true := decide_eq_true (by omega)
    clear h hR
    go_enter Tryd.func41, Tryd.ntmps41
    go_wp2_with fail
    go_ret2
    exact HE.out
  have d1 : decide ((285 : Int) < (s : Int)) = false := decide_eq_false (by omega)
  by_cases h2 : s = 285
  · have hR : lengthM c.bs s p = .ok (258, p) := by unfold lengthM; rw [if_neg h1, if_pos h2]
    have HE : Hid (GaveI c w ob o (lengthM c.bs s p) (.returned (.tuple #[.int .i64 258, .int .i64 0])) w) := Lib.hid (Or.inl ⟨258, p, hR, rfl, h, Mv.refl _ _ _⟩)
    have d2 : ((s : Int) == 285) = true := by rw [beq_iff_eq]; omega
    clear h hR
    go_enter Tryd.func41, Tryd.ntmps41
    go_wp2_with fail
    go_ret2
    exact HE.out
  have d2 : ((s : Int) == 285) = false := by rw [beq_eq_false_iff_ne]; omega
  have HF : Hid (lengthM c.bs s p = bnd (farM c.bs (s - 257) 4 p) fun m q => .ok (3 + m, q)) := Lib.hid (by unfold lengthM; rw [if_neg h1, if_neg h2])
  have HL := Lib.hid (fun v q => far_le (bs := c.bs) (k := s - 257) (each := 4) (p := p) (v := v) (q := q) (by omega) (by omega))
  have HT := Lib.hid (stretched_u c w ob p o (s - 257) 4 (by omega) (by omega) h)
  have hk : (s : Int) - 256 - 1 = ((s - 257 : Nat) : Int) := by omega
  generalize s - 257 = K at *
  clear h
  go_enter Tryd.func41, Tryd.ntmps41
  go_wp2_with fail
  refine HT.out.mono ?_
  rintro e w1 (⟨v, q, hR, rfl, hU, hM⟩ | ⟨x, hR, hx, rfl, hb⟩)
  · have hv := HL.out v q hR
    have hs : (3 : Int) + (v : Int) = ((3 + v : Nat) : Int) := by omega
    have HE : Hid (GaveI c w ob o (lengthM c.bs s p) (.returned (.tuple #[.int .i64 ((3 + v : Nat) : Int), .int .i64 0])) w1) := Lib.hid (Or.inl ⟨_, _, by rw [HF.out, hR]; rfl, rfl, hU, hM⟩)
    generalize 3 + v = S at *
    clear hR hU hM
    go_wp2_with fail
    go_ret2
    exact HE.out
  · have hn := nz hx
    have HE : Hid (GaveI c w ob o (lengthM c.bs s p) (.returned (.tuple #[.int .i64 0, .int .i64 (x : Nat)])) w1) := Lib.hid (Or.inr ⟨x, by rw [HF.out, hR]; rfl, hx, rfl, hb⟩)
    clear hR hx hb
    go_wp2_with fail
    go_ret2
    exact HE.out
theorem length_lt {bs : List Int} {s p v q : Nat} (hs : 257 ≤ s) (h : lengthM bs s p = .ok (v, q)) : v ≤ 700000 := by
  unfold lengthM at h
  split at h
  · cases h
  · split at h
    · simp only [Except.ok.injEq, Prod.mk.injEq] at h; omega
    · rcases (farM bs (s - 257) 4 p).two with ⟨x, hx⟩ | ⟨m, r, hx⟩
      · rw [hx] at h; cases h
      · have := far_le (by omega) (by omega) hx
        rw [hx, bnd_ok] at h
        simp only [Except.ok.injEq, Prod.mk.injEq] at h
        omega
theorem dist_lt {bs ld : List Int} {p v q : Nat} (h : distM bs ld p = .ok (v, q)) : v ≤ 700000 := by
  unfold distM at h
  rcases (nextM bs ld p).two with ⟨x, hx⟩ | ⟨s, r, hx⟩
  · rw [hx] at h; cases h
  · rw [hx, bnd_ok] at h
    split at h
    · cases h
    · rcases (farM bs s 2 r).two with ⟨x, hx⟩ | ⟨m, r, hx⟩
      · rw [hx] at h; cases h
      · have := far_le (by omega) (by omega) hx
        rw [hx, bnd_ok] at h
        simp only [Except.ok.injEq, Prod.mk.injEq] at h
        omega
/-- Either way, as one. -/
def GaveJ (c : Cx) (w : World) (ob : Option Nat) (o : List Int) (R : Rs Nat) (v x : Nat) (w' : World) : Prop :=
  (x = 0 ∧ ∃ q, R = .ok (v, q) ∧ UAt c w' ob q o ∧ Mv c w ob w' ob) ∨ (v = 0 ∧ R = .error x ∧ (x = 2 ∨ x = 4 ∨ x = 8) ∧ Below c.B w w')
theorem GaveI.one {c : Cx} {w : World} {ob : Option Nat} {o : List Int} {R : Rs Nat} {e : Ending} {w' : World} (h : GaveI c w ob o R e w') : ∃ v x : Nat, e = .returned (.tuple #[.int .i64 v, .int .i64 x]) ∧ Hid (GaveJ c w ob o R v x w') := by
  rcases h with ⟨v, q, h1, h2, h3, h4⟩ | ⟨x, h1, h2, h3, h4⟩
  · exact ⟨v, 0, h2, Lib.hid (Or.inl ⟨rfl, q, h1, h3, h4⟩)⟩
  · exact ⟨0, x, h3, Lib.hid (Or.inr ⟨rfl, h1, h2, h4⟩)⟩
set_option maxHeartbeats 3200000 in
theorem distance_u (c : Cx) (w : World) (ob : Option Nat) (p : Nat) (o : List Int) (gs gd : Nat) (ld : List Int) (h : UAt c w ob p o) (ht : TabIn c w ob gd ld) (hl : ld.length ≤ 320) :
    Calls Tryd.prog 42 #[.pointer (some ⟨c.gu, 0, none⟩), .agg #[.pointer (some ⟨gs, 0, none⟩), .pointer (some ⟨gd, 0, none⟩)]] w (GaveI c w ob o (distM c.bs ld p)) := by
  have hb0 : Below w.heap.size w (w.alloc (.cells #[.pointer (some ⟨gs, 0, none⟩), .pointer (some ⟨gd, 0, none⟩)] 48)).drew := bdrawn (bnew w _) 1
  have h0 := h.below hb0
  obtain ⟨v, fs, fd, c0, _, _, _, _, _, _, _⟩ := h0.cells
  have HN := Lib.hid ((next_u c _ ob p o gd ld h0 (ht.mv (Mv.new hb0)) hl).mono fun _ _ => GaveI.one)
  have HT := Lib.hid (fun u q (s : Nat) (hs : s ≤ 29) hu => stretched_u c u ob q o s 2 (by omega) (by omega) hu)
  have HM := Lib.hid (Mv.new (c := c) (ob := ob) hb0)
  have HB := Lib.hid (fun u (hu : Below c.B _ u) => (h.newBelow hb0).trans hu)
  have HB0 := Lib.hid (fun u (hu : Mv c w ob u ob) => h.mvBelow hu)
  clear h0 h ht hb0
  go_enter Tryd.func42, Tryd.ntmps42
  go_wp2_with fail
  go_region_with (go_at_call 34; refine HN.out.mono ?_; rintro e w1 ⟨v, x, rfl, HG⟩)
  all_goals
    rcases HG.out with ⟨rfl, q, hR, hU, hM⟩ | ⟨rfl, hR, hx, hb⟩
    · have HU := Lib.hid hU
      have HM1 := Lib.hid (HM.out.then hM)
      have HF : Hid (distM c.bs ld p = if 29 < v then .error 4 else bnd (farM c.bs v 2 q) fun m r => .ok (1 + m, r)) := Lib.hid (by unfold distM; rw [hR]; rfl)
      clear hU hM hR HG HN HM
      by_cases h29 : 29 < v
      · have d1 : decide ((29 : Int) < (v : Int)) = true := decide_eq_true (by omega)
        have HE : Hid (GaveI c w ob o (distM c.bs ld p) (.returned (.tuple #[.int .i64 0, .int .i64 4])) w1) := Lib.hid (Or.inr ⟨4, by rw [HF.out, if_pos h29], by omega, rfl, HB0.out _ HM1.out⟩)
        go_wp2_with fail
        go_ret2
        exact HE.out
      · have d1 : decide ((29 : Int) < (v : Int)) = false := decide_eq_false (by omega)
        have HT1 := Lib.hid (HT.out w1 q v (by omega) HU.out)
        go_wp2_with fail
        refine HT1.out.mono ?_
        rintro e w2 (⟨m, r, hR, rfl, hU, hM⟩ | ⟨x, hR, hx, rfl, hb⟩)
        · have hv := far_le (by omega) (by omega) hR
          have hs : (1 : Int) + (m : Int) = ((1 + m : Nat) : Int) := by omega
          have HE : Hid (GaveI c w ob o (distM c.bs ld p) (.returned (.tuple #[.int .i64 ((1 + m : Nat) : Int), .int .i64 0])) w2) := Lib.hid (Or.inl ⟨_, _, by rw [HF.out, if_neg h29, hR]; rfl, rfl, hU, HM1.out.then hM⟩)
          generalize 1 + m = S at *
          clear hR hU hM
          go_wp2_with fail
          go_ret2
          exact HE.out
        · have hn := nz hx
          have HE : Hid (GaveI c w ob o (distM c.bs ld p) (.returned (.tuple #[.int .i64 0, .int .i64 (x : Nat)])) w2) := Lib.hid (Or.inr ⟨x, by rw [HF.out, if_neg h29, hR]; rfl, hx, rfl, (HB0.out _ HM1.out).trans hb⟩)
          clear hR hx hb
          go_wp2_with fail
          go_ret2
          exact HE.out
    · have hn := nz hx
      have HE : Hid (GaveI c w ob o (distM c.bs ld p) (.returned (.tuple #[.int .i64 0, .int .i64 (x : Nat)])) w1) := Lib.hid (Or.inr ⟨x, by unfold distM; rw [hR]; rfl, hx, rfl, HB.out _ hb⟩)
      clear hR hx hb HG HN HM
      go_wp2_with fail
      go_ret2
      exact HE.out

end Go.Proofs.YtehnilmfeoadgaaDoor
/- The unpacker's put: what came out has grown. -/
namespace Go.Proofs.YtehnilmfeoadgaaDoor
open Go.RowKit
set_option linter.unusedVariables false
set_option linter.unusedSimpArgs false

theorem BitsAt.ch {F G : Nat → Prop} {w w' : World} {g : Nat} {l : List Int} {p : Nat} (h : BitsAt F w g l p) (hc : Ch G w w') (h1 : ¬ G g) (h2 : ∀ k, F k → ¬ G k) : BitsAt F w' g l p := by
  have hg := h.lt
  obtain ⟨a, b, A, n, cap, h3, h4⟩ := h
  exact ⟨a, b, A, n, cap, (hc.block g hg h1).trans h3, h4.ch hc h2⟩
/-- What came out lies in block g now, and is o2. -/
theorem UAt.grow {c : Cx} {w wa w' : World} {ob : Option Nat} {p g n cap : Nat} {o o2 : List Int} (h : UAt c w ob p o) (hwa : Below w.heap.size w wa) (hg : wa.grownBy w' ob)
    (hrow : w'.ownsRow (c.gu + 1) 5 1 (.slice (some ⟨g, 0, none⟩) n cap) n (o2.map u8I)) (hn : n = o2.length) (hat : ob = some g ∨ w.heap.size ≤ g) (hlt : g < w'.heap.size) (h8 : Byte8 o2) (hl : o2.length ≤ c.lim) :
    UAt c (w'.setCell ⟨c.gu, 1, none⟩ (.slice (some ⟨g, 0, none⟩) n cap)) (some g) p o2 ∧ Mv c w ob (w'.setCell ⟨c.gu, 1, none⟩ (.slice (some ⟨g, 0, none⟩) n cap)) (some g) := by
  have hgu := h.gu
  have hob := h.ob
  have hgb := h.bits.lt
  have b1 := c.b1
  have b2 := c.b2
  subst hn
  have hgg : c.gu + 1 ≤ g := by
    rcases hrow.2 with ⟨e, _⟩ | ⟨g', cap', cur, e, hb', _⟩
    · cases e
    · injection e with e _ _
      injection e with e
      injection e with e
      omega
  have hC : Ch (fun k => k = c.gu ∨ ob = some k) w (w'.setCell ⟨c.gu, 1, none⟩ (.slice (some ⟨g, 0, none⟩) o2.length cap)) := by
    refine ⟨?_, ?_, ?_, ?_, fun k hk hF => ?_⟩
    · exact hg.os.trans hwa.os
    · exact hg.tape.trans hwa.tape
    · exact hg.output.trans hwa.output
    · have := hg.size; have := hwa.size; simp [World.setCell]; omega
    · rw [Below.heap_setCell _ _ _ _ (fun e => hF (Or.inl e))]
      have := hwa.size
      exact (hg.block k (by omega) (fun e => hF (Or.inr e.symm))).trans (hwa.block k hk)
  have hM : Mv c w ob (w'.setCell ⟨c.gu, 1, none⟩ (.slice (some ⟨g, 0, none⟩) o2.length cap)) (some g) :=
    ⟨hC.weak fun i hi => by rcases hi with x | x; exact Or.inl x; exact Or.inr (Or.inr x), fun k hk => by injection hk with hk; subst hk; exact hat⟩
  refine ⟨?_, hM⟩
  obtain ⟨⟨v, fs, fd, h1, h2, h3, h4⟩, h5, h6, h7⟩ := h
  have hnob : ∀ k, k ≤ c.gu → some k ≠ ob := fun k hk e => by have := (hob k e.symm).1; omega
  have hws := hwa.size
  have e1 : w'.heap[c.gu]? = some (.cells (uC c v fs fd) 50 (0, 0)) := (hg.block _ (by omega) (hnob _ (Nat.le_refl _))).trans ((hwa.block _ hgu).trans h1)
  refine ⟨⟨.slice (some ⟨g, 0, none⟩) o2.length cap, fs, fd, ?_, rfl, own_kept' hrow fun k hk e => ?_, h4.mv hM⟩, ?_, h8, hl⟩
  · rw [heap_setCell_same w' c.gu 1 _ _ _ e1]; rfl
  · injection e with e
    exact Below.heap_setCell _ _ _ _ (fun x => by
      have : k = c.gu := x
      have e' : g = k := e
      omega)
  · exact h5.ch hC (fun x => by
      rcases x with x | x
      · omega
      · have := (hob _ x).1; omega) fun k hk x => by
        rcases x with x | x
        · omega
        · have := (hob _ x).1; omega
/-- The unpacker's cells, behind an append. -/
theorem UAt.grown {c : Cx} {w wa w' : World} {ob : Option Nat} {p : Nat} {o : List Int} (h : UAt c w ob p o) (hwa : Below w.heap.size w wa) (hg : wa.grownBy w' ob) : w'.heap[c.gu]? = w.heap[c.gu]? := by
  have hgu := h.gu
  have hob := h.ob
  exact (hg.block _ (Nat.lt_of_lt_of_le hgu hwa.size) (fun e => by have := (hob _ e.symm).1; omega)).trans (hwa.block _ hgu)
theorem info8 : (Tryd.prog.info? 5).map (fun i => (i.zero, i.size, i.bytes)) = some (some (.int .u8 0), 1, 1) := by kernel_rfl
theorem Byte8.one {x : Int} (h0 : 0 ≤ x) (h1 : x ≤ 255) : Byte8 [x] := byte8_of _ fun y hy => by simp at hy; omega
set_option maxHeartbeats 1600000 in
theorem put_u (c : Cx) (w : World) (ob : Option Nat) (p : Nat) (o : List Int) (x : Nat) (hx : x ≤ 255) (h : UAt c w ob p o) :
    Calls Tryd.prog 35 #[.pointer (some ⟨c.gu, 0, none⟩), .int .u8 (x : Nat)] w (GaveO c w ob (putM c.lim x p o)) := by
  have hlim := c.hlim
  have hlo := h.lim
  by_cases hl : o.length < c.lim
  · have HR := Lib.hid (room_u c w ob p o 1 (by omega) h true (by rw [eq_comm, decide_eq_true_iff]; omega))
    have HP : Hid (putM c.lim x p o = .ok (o ++ [(x : Int)], p)) := Lib.hid (if_pos hl)
    have HU := Lib.hid (fun u (hu : Below w.heap.size w u) => h.below hu)
    have HN := Lib.hid (fun u (hu : Below w.heap.size w u) => Mv.new (c := c) (ob := ob) hu)
    clear h
    go_enter Tryd.func35, Tryd.ntmps35
    go_wp2_with fail
    refine HR.out.mono ?_
    rintro e w1 ⟨rfl, hb1⟩
    have h1 := HU.out w1 hb1
    have HM1 := Lib.hid (HN.out w1 hb1)
    have HU1 := Lib.hid h1
    obtain ⟨v, fs, fd, c0, c1, c2, _, _, hv, hO, _⟩ := h1.cells
    have f1 := h1.frozen 1
    have hgu := h1.gu
    have hob := h1.ob
    obtain ⟨A, cap, rfl, hcap, hmax⟩ := own_slice hO
    obtain ⟨i0, hi, hz0, hz1, hz2⟩ := info_parts info8
    have HO := Lib.hid hO
    have h8 : Byte8 (o ++ [(x : Int)]) := h1.by8.app (Byte8.one (by omega) (by omega))
    have HS := Lib.hid (fun (u : World) (hu : u.heap[c.gu]? = w1.heap[c.gu]?) => show u.cell? ⟨c.gu, 1, none⟩ = some (.slice A o.length cap) ∧ u.frozen? ⟨c.gu, 1, none⟩ = false from
      ⟨(World.cell?_of_block (a := ⟨c.gu, 1, none⟩) hu).trans c1, (World.frozen?_of_block (a := ⟨c.gu, 1, none⟩) hu).trans f1⟩)
    have HG := Lib.hid (fun (u : World) (hu : (w1.alloc (.cells #[.int .u8 (x : Nat)] 5)).grownBy u ob) => HU1.out.grown (bnew w1 _) hu)
    have HE := Lib.hid (fun (u : World) (g cap2 : Nat) (hu : (w1.alloc (.cells #[.int .u8 (x : Nat)] 5)).grownBy u ob)
      (hr : u.ownsRow (c.gu + 1) 5 1 (.slice (some ⟨g, 0, none⟩) (o.length + 1) cap2) (o.length + 1) (o.map u8I ++ [.int .u8 (x : Nat)])) (hat : ob = some g ∨ w1.heap.size ≤ g) (hlt : g < u.heap.size) =>
      show GaveO c w ob (putM c.lim x p o) (.returned (.int .i64 0)) (u.setCell ⟨c.gu, 1, none⟩ (.slice (some ⟨g, 0, none⟩) (o.length + 1) cap2)) from by
        obtain ⟨k1, k2⟩ := HU1.out.grow (o2 := o ++ [(x : Int)]) (bnew w1 _) hu (by rw [List.map_append]; exact hr) (by simp) hat hlt h8 (by simp; omega)
        exact Or.inl ⟨_, p, some g, HP.out, rfl, k1, HM1.out.then k2⟩)
    clear h1 hb1 HU HN HR hO h8 HU1 HM1
    go_wp2_with (first
      | (at_builtin
         refine wpList_append_lies _ rfl _ _ _ rfl (c.gu + 1) 5 i0 _ 1 1 Tryd.underlying22 hi hz0 hz1 hz2 rfl (by decide) _ o.length _ rfl (HO.out.alloc (.cells #[.int .u8 (x : Nat)] 5)) ⟨w1.heap.size, 0, none⟩ 1 1 [.int .u8 (x : Nat)] rfl rfl (cell_one_new _ _ _) (by intro u hu; simp at hu; subst hu; rfl) (by decide) (by unfold maxLen; omega) (by omega) (by simp; omega) _ rfl ?_
         intro g cap2 w2 k1 k2 k3 k4
         have k2' : (w1.alloc (.cells #[.int .u8 (x : Nat)] 5)).grownBy w2 ob := by rw [← hv]; exact k2
         have k3' : ob = some g ∨ w1.heap.size ≤ g := by
           rcases k3 with k3 | k3
           · exact Or.inl (by rw [← hv]; exact k3)
           · exact Or.inr (by rw [k3]; simp)
         have HR := Lib.hid (HE.out w2 g cap2 k2' k1 k3' k4)
         obtain ⟨d1, d2⟩ := HS.out w2 (HG.out w2 k2')
         clear k1 k2 k3 k4 k2' k3' c1 f1))
    go_ret
    exact HR.out
  · have HR := Lib.hid (room_u c w ob p o 1 (by omega) h false (by rw [eq_comm, decide_eq_false_iff_not]; omega))
    have HB := Lib.hid (fun u (hu : Below w.heap.size w u) => h.newBelow hu)
    have HP : Hid (putM c.lim x p o = .error 8) := Lib.hid (if_neg hl)
    clear h
    go_enter Tryd.func35, Tryd.ntmps35
    go_wp2_with fail
    refine HR.out.mono ?_
    rintro e w1 ⟨rfl, hb1⟩
    have HE : Hid (GaveO c w ob (putM c.lim x p o) (.returned (.int .i64 8)) w1) := Lib.hid (Or.inr ⟨8, HP.out, by omega, rfl, HB.out w1 hb1⟩)
    clear hb1
    go_wp2_with fail
    go_ret
    exact HE.out

end Go.Proofs.YtehnilmfeoadgaaDoor
/- The unpacker's back: bytes copied, one by one. -/
namespace Go.Proofs.YtehnilmfeoadgaaDoor
open Go.RowKit
set_option linter.unusedVariables false
set_option linter.unusedSimpArgs false

theorem dist_pos {bs ld : List Int} {p v q : Nat} (h : distM bs ld p = .ok (v, q)) : 1 ≤ v := by
  unfold distM at h
  rcases (nextM bs ld p).two with ⟨x, hx⟩ | ⟨s, r, hx⟩
  · rw [hx] at h; cases h
  · rw [hx, bnd_ok] at h
    split at h
    · cases h
    · rcases (farM bs s 2 r).two with ⟨x, hx⟩ | ⟨m, r, hx⟩
      · rw [hx] at h; cases h
      · rw [hx, bnd_ok] at h
        simp only [Except.ok.injEq, Prod.mk.injEq] at h
        omega
/-- A block of one's own beside the unpacker. -/
structure BoxAt (c : Cx) (w : World) (ob : Option Nat) (g gs gd : Nat) : Prop where
  aside : Offs c w ob (fun k => k = g)
  is : w.heap[g]? = some (.cells #[.pointer (some ⟨gs, 0, none⟩), .pointer (some ⟨gd, 0, none⟩)] 48 (0, 0))
theorem BoxAt.mv {c : Cx} {w w' : World} {ob ob' : Option Nat} {g gs gd : Nat} (h : BoxAt c w ob g gs gd) (m : Mv c w ob w' ob') : BoxAt c w' ob' g gs gd :=
  ⟨h.aside.mv m, (m.ch.block g (h.aside g rfl).2.2.2.1 (h.aside.off g rfl)).trans h.is⟩
theorem BoxAt.new {c : Cx} {w : World} {ob : Option Nat} {p : Nat} {o : List Int} (h : UAt c w ob p o) (gs gd : Nat) : BoxAt c (w.alloc (.cells #[.pointer (some ⟨gs, 0, none⟩), .pointer (some ⟨gd, 0, none⟩)] 48)) ob w.heap.size gs gd :=
  ⟨fun k hk => by
    subst hk
    have := h.gu
    have := c.b1
    have := c.b2
    exact ⟨by omega, by omega, fun e => by have := h.ob _ e; omega, by simp, by omega⟩, heap_alloc_new w _⟩
theorem BoxAt.cells {c : Cx} {w : World} {ob : Option Nat} {g gs gd : Nat} (h : BoxAt c w ob g gs gd) : w.cell? ⟨g, 0, none⟩ = some (.pointer (some ⟨gs, 0, none⟩)) ∧ w.cell? ⟨g, 1, none⟩ = some (.pointer (some ⟨gd, 0, none⟩)) :=
  ⟨cell_of_row w g 0 _ _ (0, 0) h.is, cell_of_row w g 1 _ _ (0, 0) h.is⟩
set_option maxHeartbeats 6400000 in
theorem back_u (c : Cx) (w : World) (ob : Option Nat) (p : Nat) (o : List Int) (gs gd : Nat) (ld : List Int) (s : Nat) (hs : 257 ≤ s) (hs2 : s ≤ 400) (h : UAt c w ob p o) (ht : TabIn c w ob gd ld) (hl : ld.length ≤ 320) :
    Calls Tryd.prog 36 #[.pointer (some ⟨c.gu, 0, none⟩), .agg #[.pointer (some ⟨gs, 0, none⟩), .pointer (some ⟨gd, 0, none⟩)], .int .i64 (s : Nat)] w (GaveO c w ob (backM c.bs ld c.lim s p o)) := by
  have hb0 : Below w.heap.size w (w.alloc (.cells #[.pointer (some ⟨gs, 0, none⟩), .pointer (some ⟨gd, 0, none⟩)] 48)) := bnew w _
  have H1 := Lib.hid (length_u c _ ob p o s hs hs2 (h.below hb0))
  have HM0 := Lib.hid (Mv.new (c := c) (ob := ob) hb0)
  have HB0 := Lib.hid (fun u (hu : Below c.B _ u) => (h.newBelow hb0).trans hu)
  have HX := Lib.hid (BoxAt.new h gs gd)
  have HT := Lib.hid (ht.mv (Mv.new (c := c) (ob := ob) hb0))
  have HBM := Lib.hid (fun u ob' (hu : Mv c w ob u ob') => h.mvBelow hu)
  have hlim := c.hlim
  have hlo := h.lim
  clear hb0 h ht
  go_enter Tryd.func36, Tryd.ntmps36
  go_wp2_with fail
  refine H1.out.mono ?_
  rintro e w1 (⟨n, q, hR1, rfl, hU, hM⟩ | ⟨x, hR, hx, rfl, hb⟩)
  · have HU1 := Lib.hid hU
    have HM1 := Lib.hid (HM0.out.then hM)
    have HX1 := Lib.hid (HX.out.mv hM)
    have hn := length_lt hs hR1
    have HT1 := Lib.hid (HT.out.mv hM)
    have H2 := Lib.hid (distance_u c w1 ob q o gs gd ld hU HT1.out hl)
    obtain ⟨b0, b1⟩ := HX1.out.cells
    have HF : Hid (backM c.bs ld c.lim s p o = bnd (distM c.bs ld q) fun d r => if o.length < d then .error 4 else if c.lim - o.length < n then .error 8 else .ok (copyL o (o.length - d) n, r)) := Lib.hid (by unfold backM; rw [hR1]; rfl)
    clear hU hM H1 HX HT HM0 hR1
    go_wp2_with fail
    refine H2.out.mono ?_
    rintro e w2 (⟨d, r, hR2, rfl, hU, hM⟩ | ⟨x, hR, hx, rfl, hb⟩)
    · have hd := dist_pos hR2
      have hd2 := dist_lt hR2
      have HU2 := Lib.hid hU
      have HM2 := Lib.hid (HM1.out.then hM)
      have HF2 : Hid (backM c.bs ld c.lim s p o = if o.length < d then .error 4 else if c.lim - o.length < n then .error 8 else .ok (copyL o (o.length - d) n, r)) := Lib.hid (by rw [HF.out, hR2]; rfl)
      obtain ⟨v, fs, fd, c0, c1, _, _, _, hv, hO, _⟩ := hU.cells
      obtain ⟨A, cap, rfl, hcap, hmax⟩ := own_slice hO
      have hmax' := hmax
      unfold maxLen at hmax'
      clear hU hM hR2 H2 HF HX1 HM1 HT1 hO
      by_cases h4 : o.length < d
      · have d1 : decide ((o.length : Int) < (d : Int)) = true := decide_eq_true (by omega)
        have HE : Hid (GaveO c w ob (backM c.bs ld c.lim s p o) (.returned (.int .i64 4)) w2) := Lib.hid (Or.inr ⟨4, by rw [HF2.out, if_pos h4], by omega, rfl, HBM.out _ _ HM2.out⟩)
        go_wp2_with fail
        go_ret
        exact HE.out
      have d1 : decide ((o.length : Int) < (d : Int)) = false := decide_eq_false (by omega)
      by_cases h8 : c.lim - o.length < n
      · have H3 := Lib.hid (room_u c w2 ob r o n (by omega) HU2.out false (by rw [eq_comm, decide_eq_false_iff_not]; omega))
        go_wp2_with fail
        refine H3.out.mono ?_
        rintro e w3 ⟨rfl, hb3⟩
        have HE : Hid (GaveO c w ob (backM c.bs ld c.lim s p o) (.returned (.int .i64 8)) w3) := Lib.hid (Or.inr ⟨8, by rw [HF2.out, if_neg h4, if_pos h8], by omega, rfl, HBM.out _ _ (HM2.out.then (Mv.new hb3))⟩)
        clear hb3
        go_wp2_with fail
        go_ret
        exact HE.out
      have H3 := Lib.hid (room_u c w2 ob r o n (by omega) HU2.out true (by rw [eq_comm, decide_eq_true_iff]; omega))
      go_wp2_with fail
      refine H3.out.mono ?_
      rintro e w3 ⟨rfl, hb3⟩
      obtain ⟨f, hf⟩ : ∃ f, o.length - d = f := ⟨_, rfl⟩
      have hf1 : (o.length : Int) - (d : Int) = (f : Int) := by omega
      have k1 := (hb3.cell (p := ⟨c.gu, 1, none⟩) HU2.out.gu).trans c1
      have HU3 := Lib.hid (HU2.out.below hb3)
      have HM3 := Lib.hid (HM2.out.then (Mv.new hb3))
      have HF3 : Hid (backM c.bs ld c.lim s p o = .ok (copyL o f n, r)) := Lib.hid (by rw [HF2.out, if_neg h4, if_neg h8, hf])
      have hfo : f < o.length := by omega
      have hno : o.length + n ≤ c.lim := by omega
      clear hb3 c0 c1 H3 HU2 HM2 HF2 hf d1 h4 h8
      go_wp2_with fail
      clear k1 hf1
      go_loopw [49] (fun i wr => ∃ k : Nat, i = .int .i64 k ∧ k ≤ n ∧ Hid (∃ ob', UAt c wr ob' r (copyL o f k) ∧ Mv c w ob wr ob')) (fun i _ => n - (intOf i).toNat)
      case atStart => exact ⟨0, rfl, by omega, Lib.hid ⟨ob, HU3.out, HM3.out⟩⟩
      case round =>
        obtain ⟨k, rfl, hk, HI⟩ := hrel
        obtain ⟨ob', hU, hM⟩ := HI.out
        have HU := Lib.hid hU
        have HM := Lib.hid hM
        clear hM HI
        by_cases hlt : k < n
        · have hlen := copyL_len o f k
          obtain ⟨v, fs, fd, c0, c1, _, _, _, hv, hO, _⟩ := hU.cells
          have f1 := hU.frozen 1
          have hgu := hU.gu
          obtain ⟨A2, cap2, rfl, hcap2, hmax2⟩ := own_slice hO
          have h8l := hU.by8
          obtain ⟨bb, oo, rfl, hbb, hbl, hc⟩ := (bytes_own hO h8l).lies (by omega)
          have cj := hc (f + k) (by omega)
          have hy := h8l (f + k)
          obtain ⟨y, hy1⟩ : ∃ y : Nat, gI (copyL o f k) (f + k) = (y : Int) := ⟨(gI (copyL o f k) (f + k)).toNat, by omega⟩
          rw [hy1] at cj hy
          have HN : Hid (copyL o f (k + 1) = copyL o f k ++ [(y : Int)]) := Lib.hid (by rw [copyL, hy1])
          have h8n : Hid (Byte8 (copyL o f (k + 1))) := Lib.hid (copyL_byte (by have := HU3.out.by8; exact this) f (k + 1))
          have hlen1 : Hid ((copyL o f (k + 1)).length = o.length + (k + 1)) := Lib.hid (copyL_len o f (k + 1))
          have HO := Lib.hid hO
          obtain ⟨i0, hi, hz0, hz1, hz2⟩ := info_parts info8
          generalize hq2 : copyL o f (k + 1) = o2 at *
          have HQ := Lib.hid hq2
          clear hq2
          generalize copyL o f k = o1 at *
          generalize hL : o1.length = L at *
          have HS := Lib.hid (fun (u : World) (hu : u.heap[c.gu]? = wr.heap[c.gu]?) => show u.cell? ⟨c.gu, 1, none⟩ = some (.slice (some ⟨bb, oo, none⟩) L cap2) ∧ u.frozen? ⟨c.gu, 1, none⟩ = false from
            ⟨(World.cell?_of_block (a := ⟨c.gu, 1, none⟩) hu).trans c1, (World.frozen?_of_block (a := ⟨c.gu, 1, none⟩) hu).trans f1⟩)
          have HG := Lib.hid (fun (u wa : World) (hwa : Below wr.heap.size wr wa) (hu : wa.grownBy u ob') => HU.out.grown hwa hu)
          have HE := Lib.hid (fun (u wa : World) (g cap2 : Nat) (hwa : Below wr.heap.size wr wa) (hu : wa.grownBy u ob')
            (hr : u.ownsRow (c.gu + 1) 5 1 (.slice (some ⟨g, 0, none⟩) (L + 1) cap2) (L + 1) (o1.map u8I ++ [.int .u8 (y : Nat)])) (hat : ob' = some g ∨ wr.heap.size ≤ g) (hlt : g < u.heap.size) =>
            show ∃ ob', UAt c (u.setCell ⟨c.gu, 1, none⟩ (.slice (some ⟨g, 0, none⟩) (L + 1) cap2)) ob' r o2 ∧ Mv c w ob (u.setCell ⟨c.gu, 1, none⟩ (.slice (some ⟨g, 0, none⟩) (L + 1) cap2)) ob' from by
              obtain ⟨k1, k2⟩ := HU.out.grow (o2 := o2) hwa hu (by rw [HN.out, List.map_append]; exact hr) (by rw [hlen1.out]; omega) hat hlt h8n.out (by rw [hlen1.out]; omega)
              exact ⟨some g, k1, HM.out.then k2⟩)
          obtain ⟨a, ha⟩ : ∃ a, f + k = a := ⟨_, rfl⟩
          have ha1 : (f : Int) + (k : Int) = (a : Int) := by omega
          rw [ha] at cj
          have haL : a < L := by omega
          have haL1 : (a : Int) < (L : Int) := by omega
          have haL0 : 0 ≤ (a : Int) := by omega
          have haw : IntKind.i64.wrap (a : Int) = (a : Int) := by rw [IntKind.wrap_i64]; omega
          have hat0 : (a : Int).toNat = a := by omega
          have d1 : decide ((k : Int) < (n : Int)) = true := decide_eq_true (by omega)
          have hmx := hmax2
          unfold maxLen at hmx
          have hLm : L ≤ 2000000 := by omega
          clear hc hU hy1 hO h8n hlen1 HN HM ha hlen h8l
          go_wp2_with fail
          go_region_law ((refine step_append_lies _ (by rfl) _ _ _ (by rfl) (c.gu + 1) 5 i0 _ 1 1 Tryd.underlying22 hi hz0 hz1 hz2 rfl (by decide) (.slice (some ⟨bb, oo, none⟩) L cap2) L (o1.map u8I) (by rfl) (show _ from (HO.out.alloc (.cells #[.int .u8 (y : Nat)] 5))) ⟨wr.heap.size, 0, none⟩ 1 1 [.int .u8 (y : Nat)] (by rfl) (by rfl) (World.news_of_block (cs := #[.int .u8 (y : Nat)]) (t := 5) (fr := (0, 0)) (heap_alloc_new wr _)) (by simp [Value.oneCell']) (by decide) (by unfold maxLen; omega) (by omega) (by simp; omega) (wr.heap.size + 1) (by simp) ?_; intro g cap3 w9 k1 k2 k3 k4; have k2' := (show ((wr.alloc (.cells #[.int .u8 (y : Nat)] 5)).drewN 1).grownBy w9 ob' by rw [← hv]; exact k2); obtain ⟨e1, e2⟩ := HS.out w9 (HG.out w9 _ (bdrawn (bnew wr _) 1) k2')))
          all_goals
            have HR := Lib.hid (HE.out w9 _ g cap3 (bdrawn (bnew wr _) 1) k2' k1 (by
              rcases k3 with k3 | k3
              · exact Or.inl (by rw [← hv]; exact k3)
              · exact Or.inr (by omega)) k4)
            clear k1 k2 k3 k4 k2'
            go_wp2_with fail
            go_roundw
            case rel => exact ⟨k + 1, by go_num, by omega, by rw [HQ.out]; exact HR⟩
            case measure => first | (simp [intOf]; done) | (simp [intOf]; omega)
        · obtain rfl : k = n := by omega
          have d1 : decide ((k : Int) < (k : Int)) = false := decide_eq_false (by omega)
          have HE : Hid (GaveO c w ob (backM c.bs ld c.lim s p o) (.returned (.int .i64 0)) wr) := Lib.hid (Or.inl ⟨_, r, ob', HF3.out, rfl, HU.out, HM.out⟩)
          clear hU HU HM
          go_wp2_with fail
          go_ret
          exact HE.out
    · have hn := nz hx
      have HE : Hid (GaveO c w ob (backM c.bs ld c.lim s p o) (.returned (.int .i64 (x : Nat))) w2) := Lib.hid (Or.inr ⟨x, by rw [HF.out, hR]; rfl, hx, rfl, (HBM.out _ _ HM1.out).trans hb⟩)
      clear hR hx hb
      go_wp2_with fail
      go_ret
      exact HE.out
  · have hn := nz hx
    have HE : Hid (GaveO c w ob (backM c.bs ld c.lim s p o) (.returned (.int .i64 (x : Nat))) w1) := Lib.hid (Or.inr ⟨x, by unfold backM; rw [hR]; rfl, hx, rfl, HB0.out _ hb⟩)
    clear hR hx hb
    go_wp2_with fail
    go_ret
    exact HE.out

end Go.Proofs.YtehnilmfeoadgaaDoor
/- The unpacker's symbols: up to a block's end. -/
namespace Go.Proofs.YtehnilmfeoadgaaDoor
open Go.RowKit
set_option linter.unusedVariables false
set_option linter.unusedSimpArgs false

theorem symM_er {bs ls ld : List Int} {lim p : Nat} {o : List Int} {e : Nat} (h : nextM bs ls p = .error e) : symM bs ls ld lim p o = .error e := by unfold symM; rw [h]; rfl
theorem symM_end {bs ls ld : List Int} {lim p q : Nat} {o : List Int} (h : nextM bs ls p = .ok (256, q)) : symM bs ls ld lim p o = .ok ((true, o), q) := by unfold symM; rw [h, bnd_ok, if_pos rfl]
theorem symM_put {bs ls ld : List Int} {lim p q s : Nat} {o : List Int} (h : nextM bs ls p = .ok (s, q)) (hs : s < 256) : symM bs ls ld lim p o = bnd (putM lim s q o) fun o' r => .ok ((false, o'), r) := by unfold symM; rw [h, bnd_ok, if_neg (by omega), if_pos hs]
theorem symM_back {bs ls ld : List Int} {lim p q s : Nat} {o : List Int} (h : nextM bs ls p = .ok (s, q)) (hs : 256 < s) : symM bs ls ld lim p o = bnd (backM bs ld lim s q o) fun o' r => .ok ((false, o'), r) := by unfold symM; rw [h, bnd_ok, if_neg (by omega), if_neg (by omega)]
theorem take_mono {bs : List Int} {n p v q : Nat} (h : takeM bs n p = .ok (v, q)) : p ≤ q := by
  unfold takeM at h
  split at h
  · simp only [Except.ok.injEq, Prod.mk.injEq] at h; omega
  · cases h
theorem far_mono {bs : List Int} {k each p v q : Nat} (h : farM bs k each p = .ok (v, q)) : p ≤ q := by
  unfold farM at h
  rcases (takeM bs (xtra k each) p).two with ⟨x, hx⟩ | ⟨m, r, hx⟩
  · rw [hx] at h; cases h
  · have := take_mono hx
    rw [hx, bnd_ok] at h
    simp only [Except.ok.injEq, Prod.mk.injEq] at h
    omega
theorem next_mono {bs l : List Int} {p v q : Nat} (h : nextM bs l p = .ok (v, q)) : p < q := by
  obtain ⟨t, _, h2, h3, _⟩ := next_ok h
  omega
theorem length_mono {bs : List Int} {s p v q : Nat} (h : lengthM bs s p = .ok (v, q)) : p ≤ q := by
  unfold lengthM at h
  split at h
  · cases h
  · split at h
    · simp only [Except.ok.injEq, Prod.mk.injEq] at h; omega
    · rcases (farM bs (s - 257) 4 p).two with ⟨x, hx⟩ | ⟨m, r, hx⟩
      · rw [hx] at h; cases h
      · have := far_mono hx
        rw [hx, bnd_ok] at h
        simp only [Except.ok.injEq, Prod.mk.injEq] at h
        omega
theorem dist_mono {bs ld : List Int} {p v q : Nat} (h : distM bs ld p = .ok (v, q)) : p ≤ q := by
  unfold distM at h
  rcases (nextM bs ld p).two with ⟨x, hx⟩ | ⟨s, r, hx⟩
  · rw [hx] at h; cases h
  · have h1 := next_mono hx
    rw [hx, bnd_ok] at h
    split at h
    · cases h
    · rcases (farM bs s 2 r).two with ⟨x, hx⟩ | ⟨m, t, hx⟩
      · rw [hx] at h; cases h
      · have := far_mono hx
        rw [hx, bnd_ok] at h
        simp only [Except.ok.injEq, Prod.mk.injEq] at h
        omega
theorem put_mono {lim v p q : Nat} {o o' : List Int} (h : putM lim v p o = .ok (o', q)) : p ≤ q := by
  unfold putM at h
  split at h
  · simp only [Except.ok.injEq, Prod.mk.injEq] at h; omega
  · cases h
theorem back_mono {bs ld : List Int} {lim s p q : Nat} {o o' : List Int} (h : backM bs ld lim s p o = .ok (o', q)) : p ≤ q := by
  unfold backM at h
  rcases (lengthM bs s p).two with ⟨x, hx⟩ | ⟨n, r, hx⟩
  · rw [hx] at h; cases h
  · have h1 := length_mono hx
    rw [hx, bnd_ok] at h
    rcases (distM bs ld r).two with ⟨x, hx⟩ | ⟨d, t, hx⟩
    · rw [hx] at h; cases h
    · have h2 := dist_mono hx
      rw [hx, bnd_ok] at h
      split at h
      · cases h
      · split at h
        · cases h
        · simp only [Except.ok.injEq, Prod.mk.injEq] at h; omega
theorem nz' {x : Nat} (h : x = 2 ∨ x = 4 ∨ x = 8) : ((x : Int) != 0) = true := by
  rw [bne_iff_ne]; omega
/-- Between two symbols. -/
def SymAt (c : Cx) (w wr : World) (ob : Option Nat) (gc gs gd : Nat) (ls ld : List Int) (R : Rs (List Int)) (m : Nat) : Prop :=
  ∃ ob' p o, m + p = 8 * c.bs.length + 1 ∧ UAt c wr ob' p o ∧ Mv c w ob wr ob' ∧ BoxAt c wr ob' gc gs gd ∧ TabIn c wr ob' gs ls ∧ TabIn c wr ob' gd ld ∧ loopM (symM c.bs ls ld c.lim) (8 * c.bs.length) p o = R
set_option maxRecDepth 100000 in
set_option maxHeartbeats 6400000 in
theorem symbols_u (c : Cx) (w : World) (ob : Option Nat) (p : Nat) (o : List Int) (gs gd : Nat) (ls ld : List Int) (h : UAt c w ob p o) (hs : TabIn c w ob gs ls) (ht : TabIn c w ob gd ld) (hls : ls.length ≤ 320) (hld : ld.length ≤ 320) :
    Calls Tryd.prog 31 #[.pointer (some ⟨c.gu, 0, none⟩), .agg #[.pointer (some ⟨gs, 0, none⟩), .pointer (some ⟨gd, 0, none⟩)]] w (GaveO c w ob (loopM (symM c.bs ls ld c.lim) (8 * c.bs.length) p o)) := by
  obtain ⟨R, hR⟩ : ∃ R, loopM (symM c.bs ls ld c.lim) (8 * c.bs.length) p o = R := ⟨_, rfl⟩
  rw [hR]
  have hb0 : Below w.heap.size w (w.alloc (.cells #[.pointer (some ⟨gs, 0, none⟩), .pointer (some ⟨gd, 0, none⟩)] 48)) := bnew w _
  have hm0 := Mv.new (c := c) (ob := ob) hb0
  have hfit := h.fit
  have HS : Hid (SymAt c w (w.alloc (.cells #[.pointer (some ⟨gs, 0, none⟩), .pointer (some ⟨gd, 0, none⟩)] 48)) ob w.heap.size gs gd ls ld R (8 * c.bs.length + 1 - p)) :=
    Lib.hid ⟨ob, p, o, by omega, h.below hb0, hm0, BoxAt.new h gs gd, hs.mv hm0, ht.mv hm0, hR⟩
  have HB0 := Lib.hid (fun u ob' (hu : Mv c w ob u ob') => h.mvBelow hu)
  obtain ⟨gc, hgc⟩ : ∃ gc, w.heap.size = gc := ⟨_, rfl⟩
  have HGC := Lib.hid hgc
  clear h hs ht hR hb0 hm0 hfit
  go_enter Tryd.func31, Tryd.ntmps31
  go_wp2_with fail
  rw [hgc] at HS
  clear hgc
  go_loopg [4] (8 * c.bs.length + 1 - p) (fun m s wr => s = .int .i64 0 ∧ Hid (SymAt c w wr ob gc gs gd ls ld R m))
  case atStart => exact ⟨rfl, HS⟩
  case round =>
    obtain ⟨rfl, HX⟩ := hrel
    obtain ⟨ob', p', o', hm, hU, hM, hX, h1, h2, hR⟩ := HX.out
    have hgt : p' ≤ 8 * c.bs.length := hU.fit
    obtain ⟨b0, b1⟩ := hX.cells
    obtain ⟨v, fs, fd, c0, _, _, _, _, _, _, _⟩ := hU.cells
    have hbd : Below wr.heap.size wr wr.drew := bdrawn (Below.refl _ _) 1
    have hmd := Mv.new (c := c) (ob := ob') hbd
    have HN := Lib.hid ((next_u c wr.drew ob' p' o' gs ls (hU.below hbd) (h1.mv hmd) hls).mono fun _ _ => GaveI.one)
    have HM := Lib.hid (hM.then hmd)
    have HX1 := Lib.hid (hX.mv hmd)
    have HT1 := Lib.hid (h1.mv hmd)
    have HT2 := Lib.hid (h2.mv hmd)
    have HR := Lib.hid hR
    have hls2 := hls
    clear hU hM hX h1 h2 hR HX hbd hmd HS
    go_wp2_with fail
    go_region_with (go_at_call 34; refine HN.out.mono ?_; rintro e w1 ⟨s, x, rfl, HG⟩)
    all_goals
      rcases HG.out with ⟨rfl, q, hR1, hU, hM⟩ | ⟨rfl, hR1, hx, hb⟩
      · have hpq := next_mono hR1
        have hsl : s = 0 ∨ s < ls.length := (next_ok hR1).choose_spec.2.2.2.2
        have HU := Lib.hid hU
        have HM1 := Lib.hid (HM.out.then hM)
        have hX2 := HX1.out.mv hM
        have HX2 := Lib.hid hX2
        have HS1 := Lib.hid (HT1.out.mv hM)
        have HS2 := Lib.hid (HT2.out.mv hM)
        have HRn := Lib.hid hR1
        have hfq := hU.fit
        clear hU hM hR1 HG HN HM HX1 HT1 HT2 b0 b1 c0
        by_cases e256 : s = 256
        · subst e256
          have HE : Hid (GaveO c w ob R (.returned (.int .i64 0)) w1) := Lib.hid (Or.inl ⟨o', q, ob', by rw [← HR.out, loop_end (symM_end HRn.out)], rfl, HU.out, HM1.out⟩)
          go_wp2_with fail
          go_ret
          exact HE.out
        have d1 : ((s : Int) == 256) = false := by rw [beq_eq_false_iff_ne]; omega
        by_cases hlt : s < 256
        · have d2 : decide ((s : Int) < 256) = true := decide_eq_true (by omega)
          have HP := Lib.hid (put_u c w1 ob' q o' s (by omega) HU.out)
          have HF : Hid (symM c.bs ls ld c.lim p' o' = bnd (putM c.lim s q o') fun o' r => .ok ((false, o'), r)) := Lib.hid (symM_put HRn.out hlt)
          have hm8 : (s : Int) % 256 = (s : Int) := by omega
          have hs256 : s ≤ 255 := by omega
          go_wp2_with fail
          refine HP.out.mono ?_
          rintro e w2 (⟨o2, r, ob2, hR2, rfl, hU2, hM2⟩ | ⟨x, hR2, hx, rfl, hb⟩)
          · have hr := put_mono hR2
            have hfr := hU2.fit
            have HE : Hid (SymAt c w w2 ob gc gs gd ls ld R (8 * c.bs.length + 1 - r)) := Lib.hid ⟨ob2, r, o2, by omega, hU2, HM1.out.then hM2, HX2.out.mv hM2, HS1.out.mv hM2, HS2.out.mv hM2, (loop_on (p := p') (o := o') (q := r) (o' := o2) (by rw [HF.out, hR2]; rfl) (by omega) hfr).symm.trans HR.out⟩
            clear hU2 hM2 hR2
            go_wp2_with fail
            go_roundg (8 * c.bs.length + 1 - r)
            case measure => omega
            case rel => exact ⟨rfl, HE⟩
          · have hn := nz hx
            have HE : Hid (GaveO c w ob R (.returned (.int .i64 (x : Nat))) w2) := Lib.hid (Or.inr ⟨x, by rw [← HR.out, loop_er (by rw [HF.out, hR2]; rfl)], hx, rfl, (HB0.out _ _ HM1.out).trans hb⟩)
            clear hR2 hx hb
            go_wp2_with fail
            go_ret
            exact HE.out
        · have d2 : decide ((s : Int) < 256) = false := decide_eq_false (by omega)
          have HP := Lib.hid (back_u c w1 ob' q o' gs gd ld s (by omega) (by omega) HU.out HS2.out hld)
          have HF : Hid (symM c.bs ls ld c.lim p' o' = bnd (backM c.bs ld c.lim s q o') fun o' r => .ok ((false, o'), r)) := Lib.hid (symM_back HRn.out (by omega))
          obtain ⟨b0, b1⟩ := hX2.cells
          clear hX2
          go_wp2_with fail
          refine HP.out.mono ?_
          rintro e w2 (⟨o2, r, ob2, hR2, rfl, hU2, hM2⟩ | ⟨x, hR2, hx, rfl, hb⟩)
          · have hr := back_mono hR2
            have hfr := hU2.fit
            have HE : Hid (SymAt c w w2 ob gc gs gd ls ld R (8 * c.bs.length + 1 - r)) := Lib.hid ⟨ob2, r, o2, by omega, hU2, HM1.out.then hM2, HX2.out.mv hM2, HS1.out.mv hM2, HS2.out.mv hM2, (loop_on (p := p') (o := o') (q := r) (o' := o2) (by rw [HF.out, hR2]; rfl) (by omega) hfr).symm.trans HR.out⟩
            clear hU2 hM2 hR2
            go_wp2_with fail
            go_roundg (8 * c.bs.length + 1 - r)
            case measure => omega
            case rel => exact ⟨rfl, HE⟩
          · have hn := nz hx
            have HE : Hid (GaveO c w ob R (.returned (.int .i64 (x : Nat))) w2) := Lib.hid (Or.inr ⟨x, by rw [← HR.out, loop_er (by rw [HF.out, hR2]; rfl)], hx, rfl, (HB0.out _ _ HM1.out).trans hb⟩)
            clear hR2 hx hb
            go_wp2_with fail
            go_ret
            exact HE.out
      · have hn := nz hx
        have hn2 := nz' hx
        have HE : Hid (GaveO c w ob R (.returned (.int .i64 (x : Nat))) w1) := Lib.hid (Or.inr ⟨x, by rw [← HR.out, loop_er (symM_er hR1)], hx, rfl, (HB0.out _ _ HM.out).trans hb⟩)
        clear hR1 hx hb HG HN
        go_wp2_with fail
        go_ret
        exact HE.out

end Go.Proofs.YtehnilmfeoadgaaDoor
/- Two tables made: newCodes. -/
namespace Go.Proofs.YtehnilmfeoadgaaDoor
open Go.RowKit
set_option linter.unusedVariables false
set_option linter.unusedSimpArgs false

theorem results_cd2 {fn : Func} {p q : Tmp} (h : fn.results = #[.cell p 48, .tmp q]) (tmps : Array Value) {w : World} {g : Nat} {P Q : Option Addr} (c0 : w.cell? ⟨g, 0, none⟩ = some (.pointer P)) (c1 : w.cell? ⟨g, 1, none⟩ = some (.pointer Q)) (hp : tmps.getD p undef = .pointer (some ⟨g, 0, none⟩)) (e : Value) (hq : tmps.getD q undef = e) :
    (results fn tmps).run Tryd.prog w = .ok (.tuple #[.agg #[.pointer P, .pointer Q], e]) w := by
  have hp' : tmps[p]?.getD undef = .pointer (some ⟨g, 0, none⟩) := by simpa using hp
  have hq' : tmps[q]?.getD undef = e := by simpa using hq
  have hl := run_loadVar_mid (P := Tryd.prog) w g 0 48 [.pointer P, .pointer Q] _ (fun j v hj => by
    match j, hj with
    | 0, hj => simp at hj; subst hj; exact c0
    | 1, hj => simp at hj; subst hj; exact c1) Tryd.underlying48 rfl (by kernel_rfl)
  simp [results, h, hp', hq', asAddr, hl]
theorem results_cd1 {fn : Func} {p : Tmp} (h : fn.results = #[.cell p 48]) (tmps : Array Value) {w : World} {g : Nat} {P Q : Option Addr} (c0 : w.cell? ⟨g, 0, none⟩ = some (.pointer P)) (c1 : w.cell? ⟨g, 1, none⟩ = some (.pointer Q)) (hp : tmps.getD p undef = .pointer (some ⟨g, 0, none⟩)) :
    (results fn tmps).run Tryd.prog w = .ok (.agg #[.pointer P, .pointer Q]) w := by
  have hp' : tmps[p]?.getD undef = .pointer (some ⟨g, 0, none⟩) := by simpa using hp
  have hl := run_loadVar_mid (P := Tryd.prog) w g 0 48 [.pointer P, .pointer Q] _ (fun j v hj => by
    match j, hj with
    | 0, hj => simp at hj; subst hj; exact c0
    | 1, hj => simp at hj; subst hj; exact c1) Tryd.underlying48 rfl (by kernel_rfl)
  simp [results, h, hp', asAddr, hl]
/-- Two cells written. -/
theorem two_set {u : World} {g : Nat} {a b x y : Value} {ty : TypeId} (h : u.heap[g]? = some (.cells #[a, b] ty (0, 0))) : ((u.setCell ⟨g, 0, none⟩ x).setCell ⟨g, 1, none⟩ y).heap[g]? = some (.cells #[x, y] ty (0, 0)) := by
  have h1 := heap_setCell_same u g 0 _ _ x h
  exact heap_setCell_same _ g 1 _ _ y h1
theorem two_ch {u : World} {g : Nat} {x y : Value} {F : Nat → Prop} (hg : F g) : Ch F u ((u.setCell ⟨g, 0, none⟩ x).setCell ⟨g, 1, none⟩ y) := (Ch.set u g 0 x hg).then (Ch.set _ g 1 y hg)
theorem two_cells {u : World} {g : Nat} {x y : Value} {ty : TypeId} (h : u.heap[g]? = some (.cells #[x, y] ty (0, 0))) : u.cell? ⟨g, 0, none⟩ = some x ∧ u.cell? ⟨g, 1, none⟩ = some y := ⟨cell_of_row u g 0 _ _ (0, 0) h, cell_of_row u g 1 _ _ (0, 0) h⟩
def NewCd (w : World) (l ld : List Int) (e : Int) (x : Ending) (w' : World) : Prop := ∃ P Q, x = .returned (.tuple #[.agg #[.pointer P, .pointer Q], .int .i64 e]) ∧ Below w.heap.size w w' ∧
  (e = 0 → ∃ gs gd, P = some ⟨gs, 0, none⟩ ∧ Q = some ⟨gd, 0, none⟩ ∧ TabAt (fun k => w.heap.size ≤ k) w' gs l ∧ TabAt (fun k => w.heap.size ≤ k) w' gd ld)
set_option maxHeartbeats 3200000 in
theorem newCodes_any (A : Option Addr) (n cap : Nat) (l : List Int) (D : Option Addr) (m capd : Nat) (ld : List Int) (e1 e2 e : Int) (w : World) (hI : IAt (fun _ => True) w A n cap l) (hJ : IAt (fun _ => True) w D m capd ld) (h1 : Lg l e1) (h2 : Lg ld e2) (he : (e1 = 0 → e = e2) ∧ (e1 ≠ 0 → e = e1)) :
    Calls Tryd.prog 33 #[.slice A n cap, .slice D m capd] w (NewCd w l ld e) := by
  have HE0 := Lib.hid he
  clear he
  have hb0 : Below w.heap.size w (w.alloc (.cells #[.pointer none, .pointer none] 48)) := bnew w _
  have H1 := Lib.hid (new_any A n cap l e1 _ (hI.below hb0) h1)
  have H2 := Lib.hid (fun u (hu : Below w.heap.size w u) => new_any D m capd ld e2 u (hJ.below hu) h2)
  have HB := Lib.hid hb0
  have k1 := h1.cases
  have k2 := h2.cases
  have hr0 : (w.alloc (.cells #[.pointer none, .pointer none] 48)).heap[w.heap.size]? = some (.cells #[.pointer none, .pointer none] 48 (0, 0)) := heap_alloc_new w _
  have HR := Lib.hid (fun u (hu : Below (w.alloc (.cells #[.pointer none, .pointer none] 48)).heap.size (w.alloc (.cells #[.pointer none, .pointer none] 48)) u) => (hu.block w.heap.size (by simp)).trans hr0)
  clear hI hJ hb0 hr0
  go_enter Tryd.func33, Tryd.ntmps33
  go_wp2_with fail
  refine H1.out.mono ?_
  rintro e w1 ⟨P, rfl, hb1, hP1, hP2⟩
  have hr1 := HR.out w1 hb1
  have c0 := cell_of_row w1 w.heap.size 0 _ _ (0, 0) hr1
  have c1 := cell_of_row w1 w.heap.size 1 _ _ (0, 0) hr1
  have f0 := frozen_of_row w1 w.heap.size 0 _ _ hr1
  have f1 := frozen_of_row w1 w.heap.size 1 _ _ hr1
  simp at c0 c1
  by_cases hz : e1 = 0
  · obtain rfl := HE0.out.1 hz
    subst hz
    obtain ⟨gs, rfl, hT1⟩ := hP2 rfl
    have HB1 := Lib.hid (HB.out.trans (hb1.mono HB.out.size))
    have HT1 := Lib.hid (hT1.weak (G := fun k => w.heap.size + 1 ≤ k ∧ k < w1.heap.size) fun k hk h => ⟨by simpa using h, hk⟩)
    have hbs := hb1.size
    simp at hbs
    have H3 := Lib.hid (H2.out w1 HB1.out)
    have hb1' := Lib.hid hb1
    clear H1 H2 hb1 hP1 hP2 k1 h1 h2 hT1 HE0 c0 c1 f0 f1
    go_wp2_with fail
    refine H3.out.mono ?_
    rintro e' w2 ⟨Q, rfl, hb2, hQ1, hQ2⟩
    have hr2 := HR.out w2 (hb1'.out.trans (hb2.mono hb1'.out.size))
    have c0 := cell_of_row w2 w.heap.size 0 _ _ (0, 0) hr2
    have c1 := cell_of_row w2 w.heap.size 1 _ _ (0, 0) hr2
    have f0 := frozen_of_row w2 w.heap.size 0 _ _ hr2
    have f1 := frozen_of_row w2 w.heap.size 1 _ _ hr2
    simp at c0 c1
    have HB2 := Lib.hid (HB1.out.trans (hb2.mono HB1.out.size))
    have HT2 := Lib.hid (HT1.out.below hb2)
    by_cases hz : e = 0
    · subst hz
      obtain ⟨gd, rfl, hT3⟩ := hQ2 rfl
      have HT3 := Lib.hid hT3
      have hW := Lib.hid (two_cells (two_set (x := .pointer (some ⟨gs, 0, none⟩)) (y := .pointer (some ⟨gd, 0, none⟩)) hr2))
      have hCh := Lib.hid (two_ch (u := w2) (g := w.heap.size) (x := .pointer (some ⟨gs, 0, none⟩)) (y := .pointer (some ⟨gd, 0, none⟩)) (F := fun k => k = w.heap.size) rfl)
      clear hQ1 hQ2 hb2 HR hr1 hr2 k2 H3 hT3
      go_wp2_with fail
      refine bodyPost_ret (results_cd2 rfl _ hW.out.1 hW.out.2 rfl _ rfl) rfl ⟨_, _, rfl, HB2.out.trans (hCh.out.below (fun k hk => by omega) HB2.out.size), fun _ => ⟨gs, gd, rfl, rfl, ?_, ?_⟩⟩
      · exact ((HT2.out.ch hCh.out fun k hk => by omega).weak fun k _ hk => by omega)
      · exact ((HT3.out.ch hCh.out fun k hk => by omega).weak fun k _ hk => by omega)
    · have hc : e = 1 ∨ e = 4 := by omega
      have hW := Lib.hid (two_cells (two_set (x := .pointer none) (y := .pointer none) hr2))
      have hCh := Lib.hid (two_ch (u := w2) (g := w.heap.size) (x := .pointer none) (y := .pointer none) (F := fun k => k = w.heap.size) rfl)
      clear H3 HR hb2 hQ1 hQ2 k2 hr1 hr2
      rcases hc with rfl | rfl
      all_goals
        go_wp2_with fail
        exact bodyPost_ret (results_cd2 rfl _ hW.out.1 hW.out.2 rfl _ rfl) rfl ⟨_, _, rfl, HB2.out.trans (hCh.out.below (fun k hk => by omega) HB2.out.size), fun x => absurd x hz⟩
  · have hc : e1 = 1 ∨ e1 = 4 := by omega
    have HB1 := Lib.hid (HB.out.trans (hb1.mono HB.out.size))
    have hW := Lib.hid (two_cells (two_set (x := .pointer none) (y := .pointer none) hr1))
    have hCh := Lib.hid (two_ch (u := w1) (g := w.heap.size) (x := .pointer none) (y := .pointer none) (F := fun k => k = w.heap.size) rfl)
    clear H1 H2 HR hb1 hP1 hP2 k1 k2 h1 h2 hr1
    obtain rfl := HE0.out.2 hz
    clear HE0
    rcases hc with rfl | rfl
    all_goals
      go_wp2_with fail
      exact bodyPost_ret (results_cd2 rfl _ hW.out.1 hW.out.2 rfl _ rfl) rfl ⟨_, _, rfl, HB1.out.trans (hCh.out.below (fun k hk => by omega) HB1.out.size), fun x => absurd x hz⟩

end Go.Proofs.YtehnilmfeoadgaaDoor
/- Arrays of numbers of any size, made at once. -/
namespace Go.Proofs.YtehnilmfeoadgaaDoor
open Go.RowKit
set_option linter.unusedVariables false
set_option linter.unusedSimpArgs false

def bigAlloc (t : TypeId) (h : Bool) (o : Value) : Sem Value := Instr.alloc t h o
theorem bigAlloc_as1 (h : Bool) (o : Value) : Instr.alloc 71 h o = bigAlloc 71 h o := rfl
theorem bigAlloc_as2 (h : Bool) (o : Value) : Instr.alloc 72 h o = bigAlloc 72 h o := rfl
theorem bigAlloc_as3 (h : Bool) (o : Value) : Instr.alloc 92 h o = bigAlloc 92 h o := rfl
theorem bigAlloc_as4 (h : Bool) (o : Value) : Instr.alloc 83 h o = bigAlloc 83 h o := rfl
theorem big_new (t : TypeId) (n : Nat) (h : eatO [(n, isI64z)] (Tryd.prog.info? t) = true) :
    ∃ A : Array Value, A.size = n ∧ (∀ j, j < n → A[j]? = some (.int .i64 0)) ∧ ∀ u : World, (bigAlloc t true (.tuple #[])).run Tryd.prog u = .ok (.pointer (some ⟨u.heap.size, 0, none⟩)) (u.alloc (.cells A t)) := by
  obtain ⟨i, A, h1, h2, h3, h4⟩ := zero_of _ _ h
  refine ⟨A, by simpa [total] using h3, fun j hj => ?_, fun u => ?_⟩
  · obtain ⟨v, k1, k2⟩ := h4 j (by simpa [total] using hj)
    rw [k1, of_i64z (v := v) (by simpa [atZ, hj] using k2)]
  · have hc : (Value.agg A).cells = A := rfl
    simp only [bigAlloc, Instr.alloc, zeroValue, Sem.run_bind, typeInfo, newVar, newRow]
    simp [h1, h2, hc]
theorem big1 : eatO [(288, isI64z)] (Tryd.prog.info? 71) = true := by kernel_rfl
theorem big2 : eatO [(32, isI64z)] (Tryd.prog.info? 72) = true := by kernel_rfl
theorem big3 : eatO [(19, isI64z)] (Tryd.prog.info? 92) = true := by kernel_rfl
theorem big4 : eatO [(317, isI64z)] (Tryd.prog.info? 83) = true := by kernel_rfl
def numC (M : Nat → Int) (j : Nat) : Value := .int .i64 (M j)
theorem num_new {t : TypeId} {n : Nat} {A : Array Value} (h1 : A.size = n) (h2 : ∀ j, j < n → A[j]? = some (.int .i64 0)) (w : World) : Cells (w.alloc (.cells A t)) w.heap.size t n (numC fun _ => 0) := Cells.new w A t n _ h1 h2
theorem num_set {w : World} {g n : Nat} {t : TypeId} {M : Nat → Int} (h : Cells w g t n (numC M)) (a : Nat) (v : Int) : Cells (w.setCell ⟨g, a, none⟩ (.int .i64 v)) g t n (numC (updN M a v)) := by
  refine (h.set a (.int .i64 v)).congr fun j _ => ?_
  unfold upd numC updN
  split <;> rfl
theorem fine_of' (l : List Int) (h : ∀ x ∈ l, 0 ≤ x ∧ x ≤ 15) : Fine l := fun j => by
  by_cases hj : j < l.length
  · exact h _ (List.mem_of_getElem? (gI_some l j hj))
  · rw [gI_end l j (by omega)]; omega
/-- A part of an array of numbers, as a slice. -/
theorem IAt.part {w : World} {g n : Nat} {t : TypeId} {M : Nat → Int} (h : Cells w g t n (numC M)) (hn : n ≤ maxLen) (lo hi : Nat) (h1 : lo ≤ hi) (h2 : hi ≤ n) (l : List Int) (hl : l.length = hi - lo) (hm : ∀ j, j < hi - lo → gI l j = M (lo + j)) (F : Nat → Prop) (hF : F g) (cap : Nat) (hc : hi - lo ≤ cap) (hcm : cap ≤ maxLen) :
    IAt F w (some ⟨g, lo, none⟩) (hi - lo) cap l :=
  ⟨hl, hc, hcm, fun e => (by cases e), fun _ => ⟨g, lo, rfl, hF, h.lt, fun j hj => by rw [h.cell (lo + j) (by omega), hm j hj]; rfl⟩⟩
def fxF (i : Nat) : Int := if i ≤ 143 then 8 else if i ≤ 255 then 9 else if i ≤ 279 then 7 else 8
theorem fixS_is : fixS = lstF fxF 288 := rfl
theorem fixS_len : fixS.length = 288 := lstF_len _ _
theorem fixD_len : fixD.length = 32 := lstF_len _ _
theorem fixS_ok : Lg fixS 0 := Or.inr ⟨by rw [fixS_len]; decide, fine_of' _ (by decide +kernel), Or.inl ⟨rfl, by decide +kernel⟩⟩
theorem fixD_ok : Lg fixD 0 := Or.inr ⟨by rw [fixD_len]; decide, fine_of' _ (by decide +kernel), Or.inl ⟨rfl, by decide +kernel⟩⟩

end Go.Proofs.YtehnilmfeoadgaaDoor
/- The codes of Kind 1. -/
namespace Go.Proofs.YtehnilmfeoadgaaDoor
open Go.RowKit
set_option linter.unusedVariables false
set_option linter.unusedSimpArgs false
attribute [local simp ↓ high] bigAlloc_as1 bigAlloc_as2

/-- The first k values, 0 behind them. -/
def upTo (f : Nat → Int) (k j : Nat) : Int := if j < k then f j else 0
theorem upTo_next (f : Nat → Int) (k : Nat) (v : Int) (hv : v = f k) : updN (upTo f k) k v = upTo f (k + 1) := by
  funext j
  unfold updN upTo
  by_cases c : j = k
  · subst c; rw [if_pos rfl, if_pos (by omega), hv]
  · rw [if_neg c]
    by_cases d : j < k
    · rw [if_pos d, if_pos (by omega)]
    · rw [if_neg d, if_neg (by omega)]
theorem upTo_zero (f : Nat → Int) : upTo f 0 = fun _ => 0 := by funext j; unfold upTo; rw [if_neg (by omega)]
theorem upTo_lt (f : Nat → Int) {k j : Nat} (h : j < k) : upTo f k j = f j := if_pos h
theorem upTo_ge (f : Nat → Int) {k j : Nat} (h : k ≤ j) : upTo f k j = 0 := if_neg (by omega)
/-- The first k of the symbols' lengths are written. -/
structure Fx1 (w wr : World) (g0 g1 k : Nat) : Prop where
  res : wr.heap[g0]? = some (.cells #[.pointer none, .pointer none] 48 (0, 0))
  row : Cells wr g1 71 288 (numC (upTo fxF k))
  b0 : w.heap.size ≤ g0
  b1 : g0 < g1
  bel : Below w.heap.size w wr
theorem Fx1.next {w wr : World} {g0 g1 k : Nat} (h : Fx1 w wr g0 g1 k) (v : Int) (hv : v = fxF k) : Fx1 w (wr.setCell ⟨g1, k, none⟩ (.int .i64 v)) g0 g1 (k + 1) := by
  have h0 := h.b0
  have h1 := h.b1
  refine ⟨(Below.heap_setCell _ ⟨g1, k, none⟩ _ _ (by show g0 ≠ g1; omega)).trans h.res, by rw [← upTo_next fxF k v hv]; exact num_set h.row k v, h.b0, h.b1, h.bel.setCell (show w.heap.size ≤ g1 by omega) _⟩
structure Fx2 (w wr : World) (g0 g1 g3 k : Nat) : Prop where
  fst : Fx1 w wr g0 g1 288
  row : Cells wr g3 72 32 (numC (upTo (fun _ => 5) k))
  b3 : g1 < g3
theorem Fx2.next {w wr : World} {g0 g1 g3 k : Nat} (h : Fx2 w wr g0 g1 g3 k) : Fx2 w (wr.setCell ⟨g3, k, none⟩ (.int .i64 5)) g0 g1 g3 (k + 1) := by
  have h0 := h.fst.b0
  have h1 := h.fst.b1
  have h3 := h.b3
  refine ⟨⟨(Below.heap_setCell _ ⟨g3, k, none⟩ _ _ (by show g0 ≠ g3; omega)).trans h.fst.res, h.fst.row.block (Below.heap_setCell _ ⟨g3, k, none⟩ _ _ (by show g1 ≠ g3; omega)), h0, h1, h.fst.bel.setCell (show w.heap.size ≤ g3 by omega) _⟩, by rw [← upTo_next (fun _ => 5) k 5 rfl]; exact num_set h.row k 5, h3⟩
theorem two_facts {u : World} {g : Nat} {x y : Value} {ty : TypeId} (h : u.heap[g]? = some (.cells #[x, y] ty (0, 0))) : u.cell? ⟨g, 0, none⟩ = some x ∧ u.cell? ⟨g, 1, none⟩ = some y ∧ u.frozen? ⟨g, 0, none⟩ = false ∧ u.frozen? ⟨g, 1, none⟩ = false :=
  ⟨cell_of_row u g 0 _ _ (0, 0) h, cell_of_row u g 1 _ _ (0, 0) h, frozen_of_row u g 0 _ _ h, frozen_of_row u g 1 _ _ h⟩
def FixedR (w : World) (e : Ending) (w' : World) : Prop := ∃ gs gd, e = .returned (.agg #[.pointer (some ⟨gs, 0, none⟩), .pointer (some ⟨gd, 0, none⟩)]) ∧ Below w.heap.size w w' ∧ TabAt (fun k => w.heap.size ≤ k) w' gs fixS ∧ TabAt (fun k => w.heap.size ≤ k) w' gd fixD
theorem fixed_end {w w3 V : World} {g0 g5 m gs gd : Nat} (hb : Below w.heap.size w w3) (hr : w3.heap[g0]? = some (.cells #[.pointer none, .pointer none] 48 (0, 0))) (hV : Ch (fun k => k = g5) w3 V)
    (t1 : TabAt (fun k => m ≤ k ∧ k < w3.heap.size) w3 gs fixS) (t2 : TabAt (fun k => m ≤ k ∧ k < w3.heap.size) w3 gd fixD) (h5 : g5 < m ∨ w3.heap.size ≤ g5) (h0 : g0 < m) (ne : g0 ≠ g5) (b0 : w.heap.size ≤ g0) (b5 : w.heap.size ≤ g5) :
    (((V.setCell ⟨g0, 0, none⟩ (.pointer (some ⟨gs, 0, none⟩))).setCell ⟨g0, 1, none⟩ (.pointer (some ⟨gd, 0, none⟩))).cell? ⟨g0, 0, none⟩ = some (.pointer (some ⟨gs, 0, none⟩))) ∧
    (((V.setCell ⟨g0, 0, none⟩ (.pointer (some ⟨gs, 0, none⟩))).setCell ⟨g0, 1, none⟩ (.pointer (some ⟨gd, 0, none⟩))).cell? ⟨g0, 1, none⟩ = some (.pointer (some ⟨gd, 0, none⟩))) ∧
    FixedR w (.returned (.agg #[.pointer (some ⟨gs, 0, none⟩), .pointer (some ⟨gd, 0, none⟩)])) ((V.setCell ⟨g0, 0, none⟩ (.pointer (some ⟨gs, 0, none⟩))).setCell ⟨g0, 1, none⟩ (.pointer (some ⟨gd, 0, none⟩))) := by
  have hlt : g0 < w3.heap.size := (Array.getElem?_eq_some_iff.1 hr).1
  obtain ⟨k0, k1⟩ := two_cells (two_set (x := .pointer (some ⟨gs, 0, none⟩)) (y := .pointer (some ⟨gd, 0, none⟩)) ((hV.block g0 hlt ne).trans hr))
  have hC : Ch (fun k => k = g5 ∨ k = g0) w3 ((V.setCell ⟨g0, 0, none⟩ (.pointer (some ⟨gs, 0, none⟩))).setCell ⟨g0, 1, none⟩ (.pointer (some ⟨gd, 0, none⟩))) :=
    (hV.weak fun i hi => Or.inl hi).then (two_ch (Or.inr rfl))
  refine ⟨k0, k1, gs, gd, rfl, hb.trans (hC.below (fun k hk => by omega) hb.size), ?_, ?_⟩
  · exact (t1.ch hC fun k hk => by omega).weak fun k _ hk => by omega
  · exact (t2.ch hC fun k hk => by omega).weak fun k _ hk => by omega
theorem FixedR.below {w W W' : World} {e : Ending} (h : FixedR w e W) (hb : Below W.heap.size W W') : FixedR w e W' := by
  obtain ⟨gs, gd, h1, h2, h3, h4⟩ := h
  exact ⟨gs, gd, h1, h2.trans (hb.mono h2.size), h3.below hb, h4.below hb⟩
theorem fixed_more {w W : World} {g0 : Nat} {x y : Value} {e : Ending} (o : Obj) (h0 : W.cell? ⟨g0, 0, none⟩ = some x) (h1 : W.cell? ⟨g0, 1, none⟩ = some y) (h : FixedR w e W) :
    (W.alloc o).cell? ⟨g0, 0, none⟩ = some x ∧ (W.alloc o).cell? ⟨g0, 1, none⟩ = some y ∧ FixedR w e (W.alloc o) := by
  have hl := blk_lt h0
  exact ⟨((bnew W o).cell (p := ⟨g0, 0, none⟩) hl).trans h0, ((bnew W o).cell (p := ⟨g0, 1, none⟩) hl).trans h1, h.below (bnew W o)⟩
set_option maxRecDepth 100000 in
set_option maxHeartbeats 6400000 in
theorem fixed_any (w : World) : Calls Tryd.prog 30 #[] w (FixedR w) := by
  obtain ⟨A1, z1, z2, a1⟩ := big_new 71 288 big1
  obtain ⟨A2, y1, y2, a2⟩ := big_new 72 32 big2
  have hb0 : Below w.heap.size w (w.alloc (.cells #[.pointer none, .pointer none] 48)) := bnew w _
  have hb1 := hb0.alloc hb0.size (.cells A1 71)
  obtain ⟨g1, hg1⟩ : ∃ g1, (w.alloc (.cells #[.pointer none, .pointer none] 48)).heap.size = g1 := ⟨_, rfl⟩
  have hs1 : w.heap.size < g1 := by rw [← hg1]; simp
  have HS : Hid (Fx1 w ((w.alloc (.cells #[.pointer none, .pointer none] 48)).alloc (.cells A1 71)) w.heap.size g1 0) :=
    Lib.hid ⟨((bnew _ _).block w.heap.size (by simp)).trans (heap_alloc_new w _), by
      rw [← hg1]
      rw [upTo_zero]
      exact num_new z1 z2 _, Nat.le_refl _, hs1, hb1⟩
  have hg1' : w.heap.size + 1 = g1 := by rw [← hg1]; simp
  clear hb0 hb1 hg1 z1 z2
  go_enter Tryd.func30, Tryd.ntmps30
  go_wp2_with fail
  clear a1 hg1'
  go_loopw [7] (fun i wr => ∃ k : Nat, i = .int .i64 k ∧ k ≤ 288 ∧ Hid (Fx1 w wr w.heap.size g1 k)) (fun i _ => 288 - (intOf i).toNat)
  case atStart => exact ⟨0, rfl, by omega, HS⟩
  case round =>
    obtain ⟨k, rfl, hk, HX⟩ := hrel
    by_cases hlt : k < 288
    · have ck := HX.out.row.cell k hlt
      have fk := Cells.frozen HX.out.row k
      have e1 : upTo fxF k k = 0 := upTo_ge _ (Nat.le_refl _)
      unfold numC at ck
      rw [e1] at ck
      have d0 : decide ((k : Int) < 288) = true := decide_eq_true (by omega)
      clear e1 HS a2
      by_cases h1 : k ≤ 143
      · have d1 : decide ((k : Int) ≤ 143) = true := decide_eq_true (by omega)
        have HN := Lib.hid (HX.out.next 8 (by unfold fxF; rw [if_pos h1]))
        clear HX
        go_wp2_with fail
        go_roundw
        case rel => exact ⟨k + 1, by go_num, by omega, HN⟩
        case measure => first | (simp [intOf]; done) | (simp [intOf]; omega)
      have d1 : decide ((k : Int) ≤ 143) = false := decide_eq_false (by omega)
      by_cases h2 : k ≤ 255
      · have d2 : decide ((k : Int) ≤ 255) = true := decide_eq_true (by omega)
        have HN := Lib.hid (HX.out.next 9 (by unfold fxF; rw [if_neg h1, if_pos h2]))
        clear HX
        go_wp2_with fail
        go_roundw
        case rel => exact ⟨k + 1, by go_num, by omega, HN⟩
        case measure => first | (simp [intOf]; done) | (simp [intOf]; omega)
      have d2 : decide ((k : Int) ≤ 255) = false := decide_eq_false (by omega)
      by_cases h3 : k ≤ 279
      · have d3 : decide ((k : Int) ≤ 279) = true := decide_eq_true (by omega)
        have HN := Lib.hid (HX.out.next 7 (by unfold fxF; rw [if_neg h1, if_neg h2, if_pos h3]))
        clear HX
        go_wp2_with fail
        go_roundw
        case rel => exact ⟨k + 1, by go_num, by omega, HN⟩
        case measure => first | (simp [intOf]; done) | (simp [intOf]; omega)
      have d3 : decide ((k : Int) ≤ 279) = false := decide_eq_false (by omega)
      have HN := Lib.hid (HX.out.next 8 (by unfold fxF; rw [if_neg h1, if_neg h2, if_neg h3]))
      clear HX
      go_wp2_with fail
      go_roundw
      case rel => exact ⟨k + 1, by go_num, by omega, HN⟩
      case measure => first | (simp [intOf]; done) | (simp [intOf]; omega)
    · obtain rfl : k = 288 := by omega
      have d0 : decide ((288 : Int) < 288) = false := by decide
      have hlt3 := HX.out.row.lt
      have HS2 : Hid (Fx2 w (wr.alloc (.cells A2 72)) w.heap.size g1 wr.heap.size 0) := Lib.hid ⟨⟨((bnew wr _).block _ (by have := HX.out.b1; omega)).trans HX.out.res, HX.out.row.below (bnew wr _), HX.out.b0, HX.out.b1, HX.out.bel.alloc HX.out.bel.size _⟩, by
        rw [upTo_zero]
        exact num_new y1 y2 _, hlt3⟩
      clear HS HX y1 y2
      go_wp2_with fail
      clear a2 hlt3
      generalize wr.heap.size = g3 at *
      go_loopw [28] (fun i wr => ∃ k : Nat, i = .int .i64 k ∧ k ≤ 32 ∧ Hid (Fx2 w wr w.heap.size g1 g3 k)) (fun i _ => 32 - (intOf i).toNat)
      case atStart => exact ⟨0, rfl, by omega, HS2⟩
      case round =>
        obtain ⟨k, rfl, hk, HX⟩ := hrel
        by_cases hlt : k < 32
        · have ck := HX.out.row.cell k hlt
          have fk := Cells.frozen HX.out.row k
          have e1 : upTo (fun _ => 5) k k = 0 := upTo_ge _ (Nat.le_refl _)
          unfold numC at ck
          rw [e1] at ck
          have d0 : decide ((k : Int) < 32) = true := decide_eq_true (by omega)
          have HN := Lib.hid HX.out.next
          clear e1 HS2 HX
          go_wp2_with fail
          go_roundw
          case rel => exact ⟨k + 1, by go_num, by omega, HN⟩
          case measure => first | (simp [intOf]; done) | (simp [intOf]; omega)
        · obtain rfl : k = 32 := by omega
          have d0 : decide ((32 : Int) < 32) = false := by decide
          have hp1 : IAt (fun _ => True) wr (some ⟨g1, 0, none⟩) 288 288 fixS := IAt.part HX.out.fst.row (by unfold maxLen; omega) 0 288 (by omega) (by omega) fixS fixS_len (fun j hj => by rw [fixS_is, gI_lstF _ _ _ hj, Nat.zero_add, upTo_lt _ hj]) _ trivial 288 (by omega) (by unfold maxLen; omega)
          have hp2 : IAt (fun _ => True) wr (some ⟨g3, 0, none⟩) 32 32 fixD := IAt.part HX.out.row (by unfold maxLen; omega) 0 32 (by omega) (by omega) fixD fixD_len (fun j hj => by unfold fixD; rw [gI_lstF _ _ _ hj, Nat.zero_add, upTo_lt _ hj]) _ trivial 32 (by omega) (by unfold maxLen; omega)
          have HN := Lib.hid (fun u (hu : Below wr.heap.size wr u) => (newCodes_any _ _ _ _ _ _ _ _ 0 0 0 u (hp1.below hu) (hp2.below hu) fixS_ok fixD_ok ⟨fun _ => rfl, fun h => absurd rfl h⟩).mono fun e w3 (h : NewCd u fixS fixD 0 e w3) =>
            show ∃ gs gd, e = .returned (.tuple #[.agg #[.pointer (some ⟨gs, 0, none⟩), .pointer (some ⟨gd, 0, none⟩)], .int .i64 0]) ∧ Hid (Below u.heap.size u w3 ∧ Below wr.heap.size wr w3 ∧ TabAt (fun k => u.heap.size ≤ k ∧ k < w3.heap.size) w3 gs fixS ∧ TabAt (fun k => u.heap.size ≤ k ∧ k < w3.heap.size) w3 gd fixD) from by
              obtain ⟨P, Q, h1, h2, h3⟩ := h
              obtain ⟨gs, gd, rfl, rfl, h4, h5⟩ := h3 rfl
              have := HX.out.fst.bel.size
              have := hu.size
              exact ⟨gs, gd, h1, Lib.hid ⟨h2, hu.trans (h2.mono hu.size), h4.weak fun k hk1 hk => ⟨hk, hk1⟩, h5.weak fun k hk1 hk => ⟨hk, hk1⟩⟩⟩)
          have hr := HX.out.fst.res
          have HRES := Lib.hid (fun (w3 : World) (hu : Below wr.heap.size wr w3) => (hu.block w.heap.size (by have := HX.out.row.lt; have := HX.out.b3; omega)).trans hr)
          have hw0 : w.heap.size < wr.heap.size := by have := HX.out.row.lt; have := HX.out.b3; omega
          have HBw := Lib.hid HX.out.fst.bel
          clear hp1 hp2 HX HS2 hr
          go_wp2_with fail
          go_region_with (go_at_call 33; first | (refine (HN.out _ (Below.refl _ _).drew).mono ?_; rintro e w3 ⟨gs, gd, rfl, H3⟩) | (refine (HN.out _ (bdrawn (bnew _ _) 1)).mono ?_; rintro e w3 ⟨gs, gd, rfl, H3⟩; obtain ⟨k0, k1, k2, k3⟩ := two_facts ((H3.out.1.block wr.heap.size (by simp)).trans (heap_alloc_new wr _))))
          all_goals
            obtain ⟨hbu, hbr, ht1, ht2⟩ := H3.out
            have hr3 := HRES.out w3 hbr
            obtain ⟨q0, q1, q2, q3⟩ := two_facts hr3
            have hz3 := hbr.size
            have hzu := hbu.size
            simp at hzu
            have lt3 : w.heap.size < w3.heap.size := by omega
            have ne1 : w.heap.size ≠ wr.heap.size := by omega
            have ne2 : wr.heap.size ≠ w.heap.size := by omega
            have ne3 : w.heap.size ≠ w3.heap.size := by omega
            have ne4 : w3.heap.size ≠ w.heap.size := by omega
            have HBB := HBw.out.trans (hbr.mono HBw.out.size)
            have HE := Lib.hid (fun V g5 m hV t1 t2 h5 h0 ne b0 b5 => fixed_end (V := V) (g5 := g5) (m := m) (gs := gs) (gd := gd) HBB hr3 hV t1 t2 h5 h0 ne b0 b5)
            have HT := Lib.hid (And.intro ht1 ht2)
            have hsz : Hid (w.heap.size < wr.heap.size ∧ wr.heap.size ≤ w3.heap.size) := Lib.hid ⟨hw0, hz3⟩
            clear hbu hbr ht1 ht2 hr3 H3 HBB HN HRES hz3 hzu hw0
            go_wp2_with fail
            obtain ⟨hs1', hs2'⟩ := hsz.out
            first
              | (have hk3 := k3
                 obtain ⟨l0, l1, l2⟩ := HE.out _ wr.heap.size _ (two_ch (u := w3) (g := wr.heap.size) (F := fun k => k = wr.heap.size) (x := .pointer (some ⟨gs, 0, none⟩)) (y := .pointer (some ⟨gd, 0, none⟩)) rfl) HT.out.1 HT.out.2 (Or.inl (by simp)) (by simp; omega) ne1 (Nat.le_refl _) (by omega)
                 have HL := Lib.hid (And.intro l0 (And.intro l1 l2))
                 clear HE HT l0 l1 l2
                 exact bodyPost_ret (results_cd1 rfl _ HL.out.1 HL.out.2.1 rfl) rfl HL.out.2.2)
              | (obtain ⟨l0, l1, l2⟩ := HE.out w3 w3.heap.size _ (Ch.refl _ _) HT.out.1 HT.out.2 (Or.inr (Nat.le_refl _)) hs1' ne3 (Nat.le_refl _) (by omega)
                 have HL := Lib.hid (fixed_more (.cells #[.pointer (some ⟨gs, 0, none⟩), .pointer (some ⟨gd, 0, none⟩)] 48) l0 l1 l2)
                 clear HE HT l0 l1 l2
                 exact bodyPost_ret (results_cd1 rfl _ HL.out.1 HL.out.2.1 rfl) rfl HL.out.2.2)

end Go.Proofs.YtehnilmfeoadgaaDoor
/- Kind 1: withFixed. -/
namespace Go.Proofs.YtehnilmfeoadgaaDoor
open Go.RowKit
set_option linter.unusedVariables false
set_option linter.unusedSimpArgs false

/-- The codes of Kind 1 are kept now. -/
theorem UAt.fix {c : Cx} {w w1 : World} {ob : Option Nat} {p : Nat} {o : List Int} {gs gd : Nat} (h : UAt c w ob p o) (hb : Below w.heap.size w w1) (t1 : TabAt (fun k => w.heap.size ≤ k) w1 gs fixS) (t2 : TabAt (fun k => w.heap.size ≤ k) w1 gd fixD) :
    let W := (w1.setCell ⟨c.gu, 3, none⟩ (.pointer (some ⟨gs, 0, none⟩))).setCell ⟨c.gu, 4, none⟩ (.pointer (some ⟨gd, 0, none⟩))
    UAt c W ob p o ∧ Mv c w ob W ob ∧ TabIn c W ob gs fixS ∧ TabIn c W ob gd fixD := by
  intro W
  have hW : W = (w1.setCell ⟨c.gu, 3, none⟩ (.pointer (some ⟨gs, 0, none⟩))).setCell ⟨c.gu, 4, none⟩ (.pointer (some ⟨gd, 0, none⟩)) := rfl
  have hgu := h.gu
  have hob := h.ob
  have h1 := h.below hb
  have b2 := c.b2
  have hC : Ch (fun k => k = c.gu) w1 W := by
    rw [hW]
    exact (Ch.set (F := fun k => k = c.gu) w1 c.gu 3 _ rfl).then (Ch.set (F := fun k => k = c.gu) _ c.gu 4 _ rfl)
  have hM1 : Mv c w1 ob W ob := ⟨hC.weak fun i hi => Or.inl hi, fun _ h => Or.inl h⟩
  have hM : Mv c w ob W ob := (Mv.new hb).then hM1
  have k1 := (TabIn.new t1 hgu fun k hk => (hob k hk).2).mv hM1
  have k2 := (TabIn.new t2 hgu fun k hk => (hob k hk).2).mv hM1
  refine ⟨?_, hM, k1, k2⟩
  obtain ⟨⟨v, fs, fd, e1, e2, e3, e4⟩, e5, e6, e7⟩ := h1
  refine ⟨⟨v, some ⟨gs, 0, none⟩, some ⟨gd, 0, none⟩, ?_, e2, own_kept' e3 fun k hk hv => hC.block k hk (by have := hob k (by rw [← e2]; exact hv); omega), Or.inr ⟨gs, gd, rfl, rfl, k1, k2⟩⟩, e5.ch hC (by omega) fun k hk => by omega, e6, e7⟩
  have f1 := heap_setCell_same w1 c.gu 3 _ _ (.pointer (some ⟨gs, 0, none⟩)) e1
  exact heap_setCell_same _ c.gu 4 _ _ (.pointer (some ⟨gd, 0, none⟩)) f1
theorem eqp_none (u : World) : (Op.equalIn 9999 46 (.pointer none) (.pointer none)).run Tryd.prog u = .ok true u := run_equalIn_pointer_nil u 9998 _ none (by kernel_rfl)
theorem eqp_some (a : Addr) (u : World) : (Op.equalIn 9999 46 (.pointer (some a)) (.pointer none)).run Tryd.prog u = .ok false u := run_equalIn_pointer_nil u 9998 _ (some a) (by kernel_rfl)
set_option maxHeartbeats 3200000 in
theorem withFixed_u (c : Cx) (w : World) (ob : Option Nat) (p : Nat) (o : List Int) (h : UAt c w ob p o) :
    Calls Tryd.prog 24 #[.pointer (some ⟨c.gu, 0, none⟩)] w (GaveO c w ob (loopM (symM c.bs fixS fixD c.lim) (8 * c.bs.length) p o)) := by
  obtain ⟨v, fs, fd, c0, c1, c2, c3, c4, hv, hO, hF⟩ := h.cells
  have HB0 := Lib.hid (fun u ob' (hu : Mv c w ob u ob') => h.mvBelow hu)
  rcases hF with ⟨rfl, rfl⟩ | ⟨gs, gd, rfl, rfl, h1, h2⟩
  · have H1 := Lib.hid (fixed_any w)
    have q1 := eqp_none
    have HFix := Lib.hid (fun w1 gs gd hb t1 t2 => h.fix (w1 := w1) (gs := gs) (gd := gd) hb t1 t2)
    have HH := Lib.hid h
    have hgu := h.gu
    clear hO h
    go_enter Tryd.func24, Tryd.ntmps24
    go_wp2_with fail
    refine H1.out.mono ?_
    rintro e w1 ⟨gs, gd, rfl, hb, t1, t2⟩
    obtain ⟨hU, hM, k1, k2⟩ := HFix.out w1 gs gd hb t1 t2
    have hU1 := HH.out.below hb
    have d3 := (hb.cell (p := ⟨c.gu, 3, none⟩) hgu).trans c3
    have d4 := (hb.cell (p := ⟨c.gu, 4, none⟩) hgu).trans c4
    have f3 := hU1.frozen 3
    have f4 := hU1.frozen 4
    have H2 := Lib.hid (symbols_u c _ ob p o gs gd fixS fixD hU k1 k2 (by rw [fixS_len]; omega) (by rw [fixD_len]; omega))
    have HM := Lib.hid hM
    clear hU hM k1 k2 hU1 hb t1 t2 H1 HFix
    go_wp2_with fail
    refine H2.out.mono ?_
    rintro e w2 (⟨o2, r, ob2, hR2, rfl, hU2, hM2⟩ | ⟨x, hR2, hx, rfl, hb⟩)
    · have HE : Hid (GaveO c w ob (loopM (symM c.bs fixS fixD c.lim) (8 * c.bs.length) p o) (.returned (.int .i64 0)) w2) := Lib.hid (Or.inl ⟨o2, r, ob2, hR2, rfl, hU2, HM.out.then hM2⟩)
      clear hR2 hU2 hM2 H2
      go_wp2_with fail
      go_ret
      exact HE.out
    · have HE : Hid (GaveO c w ob (loopM (symM c.bs fixS fixD c.lim) (8 * c.bs.length) p o) (.returned (.int .i64 (x : Nat))) w2) := Lib.hid (Or.inr ⟨x, hR2, hx, rfl, (HB0.out _ _ HM.out).trans hb⟩)
      clear hR2 hx hb H2
      go_wp2_with fail
      go_ret
      exact HE.out
  · have H1 := Lib.hid (symbols_u c w ob p o gs gd fixS fixD h h1 h2 (by rw [fixS_len]; omega) (by rw [fixD_len]; omega))
    have q1 := eqp_some
    clear h h1 h2 hO
    go_enter Tryd.func24, Tryd.ntmps24
    go_wp2_with fail
    refine H1.out.mono ?_
    rintro e w2 hG
    rcases hG with ⟨o2, r, ob2, hR2, rfl, hU2, hM2⟩ | ⟨x, hR2, hx, rfl, hb⟩
    · have HE : Hid (GaveO c w ob (loopM (symM c.bs fixS fixD c.lim) (8 * c.bs.length) p o) (.returned (.int .i64 0)) w2) := Lib.hid (Or.inl ⟨o2, r, ob2, hR2, rfl, hU2, hM2⟩)
      clear hR2 hU2 hM2 H1
      go_wp2_with fail
      go_ret
      exact HE.out
    · have HE : Hid (GaveO c w ob (loopM (symM c.bs fixS fixD c.lim) (8 * c.bs.length) p o) (.returned (.int .i64 (x : Nat))) w2) := Lib.hid (Or.inr ⟨x, hR2, hx, rfl, hb⟩)
      clear hR2 hx hb H1
      go_wp2_with fail
      go_ret
      exact HE.out

end Go.Proofs.YtehnilmfeoadgaaDoor
/- Kind 0: stored. -/
namespace Go.Proofs.YtehnilmfeoadgaaDoor
open Go.RowKit
set_option linter.unusedVariables false
set_option linter.unusedSimpArgs false

/-- What came out is o2 now, wherever it lies. -/
theorem UAt.grow' {c : Cx} {w wa w' : World} {ob : Option Nat} {p n : Nat} {v2 : Value} {o o2 : List Int} (h : UAt c w ob p o) (hwa : Below w.heap.size w wa) (hg : wa.grownBy w' ob)
    (hrow : w'.ownsRow (c.gu + 1) 5 1 v2 n (o2.map u8I)) (hn : n = o2.length) (hat : ∀ k, v2.ownBlock = some k → ob = some k ∨ w.heap.size ≤ k) (h8 : Byte8 o2) (hl : o2.length ≤ c.lim) :
    UAt c (w'.setCell ⟨c.gu, 1, none⟩ v2) v2.ownBlock p o2 ∧ Mv c w ob (w'.setCell ⟨c.gu, 1, none⟩ v2) v2.ownBlock := by
  have hgu := h.gu
  have hob := h.ob
  have hgb := h.bits.lt
  have b1 := c.b1
  have b2 := c.b2
  subst hn
  have hgg : ∀ k, v2.ownBlock = some k → c.gu + 1 ≤ k := fun k hk => by
    rcases hrow.2 with ⟨rfl, _⟩ | ⟨g', cap', cur, rfl, hb', _⟩
    · simp [Value.ownBlock] at hk
    · simp only [Value.ownBlock, Option.some.injEq] at hk
      omega
  have hC : Ch (fun k => k = c.gu ∨ ob = some k) w (w'.setCell ⟨c.gu, 1, none⟩ v2) := by
    refine ⟨?_, ?_, ?_, ?_, fun k hk hF => ?_⟩
    · exact hg.os.trans hwa.os
    · exact hg.tape.trans hwa.tape
    · exact hg.output.trans hwa.output
    · have := hg.size; have := hwa.size; simp [World.setCell]; omega
    · rw [Below.heap_setCell _ _ _ _ (fun e => hF (Or.inl e))]
      have := hwa.size
      exact (hg.block k (by omega) (fun e => hF (Or.inr e.symm))).trans (hwa.block k hk)
  have hM : Mv c w ob (w'.setCell ⟨c.gu, 1, none⟩ v2) v2.ownBlock :=
    ⟨hC.weak fun i hi => by rcases hi with x | x; exact Or.inl x; exact Or.inr (Or.inr x), hat⟩
  refine ⟨?_, hM⟩
  obtain ⟨⟨v, fs, fd, h1, h2, h3, h4⟩, h5, h6, h7⟩ := h
  have hnob : ∀ k, k ≤ c.gu → some k ≠ ob := fun k hk e => by have := (hob k e.symm).1; omega
  have hws := hwa.size
  have e1 : w'.heap[c.gu]? = some (.cells (uC c v fs fd) 50 (0, 0)) := (hg.block _ (by omega) (hnob _ (Nat.le_refl _))).trans ((hwa.block _ hgu).trans h1)
  refine ⟨⟨v2, fs, fd, ?_, rfl, own_kept' hrow fun k hk e => ?_, h4.mv hM⟩, ?_, h8, hl⟩
  · rw [heap_setCell_same w' c.gu 1 _ _ _ e1]; rfl
  · exact Below.heap_setCell _ _ _ _ (fun x => by
      have : k = c.gu := x
      have := hgg k e
      omega)
  · exact h5.ch hC (fun x => by
      rcases x with x | x
      · omega
      · have := (hob _ x).1; omega) fun k hk x => by
        rcases x with x | x
        · omega
        · have := (hob _ x).1; omega

/-- 'append(xs, ys...)': xs a row of the call's own, ys whatever bytes; where the new row lies. -/
theorem wpList_append_out {P : Program} {ops : Array Oper} {rest : List Oper} {o : Oper} {a : Act} {Q : Exit → Act → World → Prop} {wr : World} (base : Nat) (e t : TypeId)
    (hinfo : (P.info? e).map (fun i => (i.zero, i.size, i.bytes)) = some (some (.int .u8 0), 1, 1)) (ht : P.underlying t = some (.slice e))
    (hgd : o.guard = none) (s x : Operand) (ho : o.op = .call { callee := .builtin .append, args := #[s, x], argTypes := #[t, t] })
    (v : Value) (n : Nat) (xs : List Int) (hs : a.eval s = v) (hown : wr.ownsRow base e 1 v n (xs.map u8I))
    {F : Nat → Prop} {A : Option Addr} {m cap : Nat} {ys : List Int} (hx : a.eval x = .slice A m cap) (hy : BAt8 F wr A m cap ys) (hbytes : n + m ≤ 2000000) (hbase : base ≤ wr.heap.size)
    (h : ∀ v' w', w'.ownsRow base e 1 v' (n + m) ((xs ++ ys).map u8I) → wr.grownBy w' v.ownBlock → (∀ k, v'.ownBlock = some k → v.ownBlock = some k ∨ wr.heap.size ≤ k) → wpList P ops Q rest (a.put o.dst v') w') : wpList P ops Q (o :: rest) a wr := by
  have hl := hy.len
  have hz := hy.nil
  have hf := hy.fit
  obtain ⟨i0, hi, hz0, hz1, hz2⟩ := info_parts hinfo
  rcases A with _ | ad
  · have hc := hz rfl
    have hm : m = 0 := by omega
    obtain rfl : ys = [] := List.eq_nil_of_length_eq_zero (by omega)
    subst hm hc
    refine wpList_append_own_none hgd s x t ho base e i0 1 ht hi v n _ hs hown hx (h v wr ?_ ⟨rfl, rfl, rfl, Nat.le_refl _, fun _ _ _ => rfl⟩ fun k hk => Or.inl hk)
    simpa using hown
  · by_cases hm : 0 < m
    · refine wpList_append_lies wr hgd s x t ho base e i0 _ 1 1 ht hi hz0 hz1 hz2 rfl (by decide) v n _ hs hown ad m cap (ys.map u8I) hx (by simp [hl]) (news_u8 hy) (u8I_one ys) hm (by unfold maxLen; omega) (by omega) hbase wr.heap.size rfl (fun g c2 w' h1 h2 h3 _ => h _ w' ?_ h2 fun k hk => ?_)
      · rw [List.map_append]; exact h1
      · simp only [Value.ownBlock, Option.some.injEq] at hk
        subst hk
        rcases h3 with h3 | h3
        · exact Or.inl h3
        · exact Or.inr (by omega)
    · obtain rfl : m = 0 := by omega
      obtain rfl : ys = [] := List.eq_nil_of_length_eq_zero (by omega)
      refine wpList_plain hgd fun K hK => ?_
      obtain ⟨v', w', hr, h2, h3, h4⟩ := run_append_own (P := P) wr base t o.type e i0 _ 1 1 ht hi hz0 hz1 hz2 rfl (by decide) v n _ hown ad 0 cap ([] : List Value) (by simp) (by intro j u hu; simp at hu) (by intro u hu; simp at hu) (by unfold maxLen; omega) (by omega) hbase
      unfold Oper.wp execOp
      simp only [ho, resolve, invoke, builtin, Sem.run_bind, Sem.run_pure, Result.andThen_ok, List.map_toArray, List.map_cons, List.map_nil, hs, hx, hr]
      refine hK _ _ (h v' w' (by simpa using h2) h3 fun k hk => ?_)
      rcases hown.2 with ⟨rfl, hn⟩ | ⟨g, cap', cur, rfl, hb', hg, hnc, hmx, hsz, htk⟩
      · rw [h4.2 ⟨rfl, rfl⟩] at hk
        simp [Value.ownBlock] at hk
      · have hr2 := run_append_room (P := P) (w := wr) t o.type e i0 ht hi g n cap' cur hg ad 0 cap [] (by simp) (by intro j u hu; simp at hu) (by intro u hu; simp at hu) (by omega) (by rw [hz1]; simp; omega)
        rw [hr] at hr2
        injection hr2 with e1 e2
        rw [e1] at hk
        exact Or.inl hk
theorem nat_xor_all (n : Nat) (h : n < 65536) : n ^^^ 65535 = 65535 - n := by
  refine Nat.eq_of_testBit_eq fun i => ?_
  have e1 : (65535 : Nat) = 2 ^ 16 - 1 := by decide
  have e2 : 65535 - n = 2 ^ 16 - (n + 1) := by omega
  rw [Nat.testBit_xor, e2, Nat.testBit_two_pow_sub_succ (by omega), e1, Nat.testBit_two_pow_sub_one]
  by_cases hi : i < 16
  · simp [hi]
  · have : n.testBit i = false := Nat.testBit_lt_two_pow (Nat.lt_of_lt_of_le h (Nat.pow_le_pow_right (show 0 < 2 by decide) (show 16 ≤ i by omega)))
    simp [hi, this]
theorem xor_all (n : Nat) (h : n < 65536) : bits .xor .i64 (n : Int) 65535 = ((65535 - n : Nat) : Int) := by
  show IntKind.i64.wrap ((BitVec.ofInt 64 (n : Int) ^^^ BitVec.ofInt 64 ((65535 : Nat) : Int)).toNat : Int) = _
  rw [BitVec.toNat_xor, ofInt_u64 n (by omega), ofInt_u64 65535 (by omega), nat_xor_all n h, IntKind.wrap_i64]
  omega
theorem take_lt {bs : List Int} {n p v q : Nat} (h : takeM bs n p = .ok (v, q)) : v < 2 ^ n ∧ q = p + n ∧ p + n ≤ 8 * bs.length := by
  unfold takeM at h
  split at h
  · simp only [Except.ok.injEq, Prod.mk.injEq] at h
    have := lo_lt (bitsF bs p) (fun j => bitsF_le _ _ _) n
    omega
  · cases h
set_option maxHeartbeats 6400000 in
theorem stored_u (c : Cx) (w : World) (ob : Option Nat) (p : Nat) (o : List Int) (h : UAt c w ob p o) :
    Calls Tryd.prog 23 #[.pointer (some ⟨c.gu, 0, none⟩)] w (GaveO c w ob (storedM c.bs c.lim p o)) := by
  obtain ⟨v, fs, fd, c0, _, _, _, _, _, _, _⟩ := h.cells
  have hbs := c.hbs
  have hlim := c.hlim
  have HB0 := Lib.hid (fun u ob' (hu : Mv c w ob u ob') => h.mvBelow hu)
  have H1 := Lib.hid (align_any _ w c.gb c.bs p h.bits hbs)
  have HH := Lib.hid h
  clear h
  go_enter Tryd.func23, Tryd.ntmps23
  go_wp2_with fail
  refine H1.out.mono ?_
  rintro e w1 ⟨rfl, hb1, hc1⟩
  have HU1 := Lib.hid (HH.out.bitsMv hb1 hc1)
  have HM1 := Lib.hid (Mv.bits (c := c) (ob := ob) hc1)
  have H2 := Lib.hid (take_u c w1 ob _ o 16 (by omega) HU1.out)
  clear hb1 hc1 H1 c0
  go_wp2_with fail
  refine H2.out.mono ?_
  rintro e w2 (⟨n, q, hR1, rfl, hU, hM⟩ | ⟨x, hR1, hx, rfl, hb⟩)
  · have HU2 := Lib.hid hU
    have HM2 := Lib.hid (HM1.out.then hM)
    obtain ⟨hn, _, _⟩ := take_lt hR1
    have H3 := Lib.hid (take_u c w2 ob _ o 16 (by omega) HU2.out)
    have HR1 := Lib.hid hR1
    clear hU hM hR1 H2 HM1 HU1
    go_wp2_with fail
    refine H3.out.mono ?_
    rintro e w3 (⟨m, r, hR2, rfl, hU, hM⟩ | ⟨x, hR2, hx, rfl, hb⟩)
    · have HU3 := Lib.hid hU
      have HM3 := Lib.hid (HM2.out.then hM)
      obtain ⟨hm, _, _⟩ := take_lt hR2
      have HF : Hid (storedM c.bs c.lim p o = if m + n ≠ 65535 then .error 4 else if c.lim - o.length < n then .error 8 else if upB r + n ≤ c.bs.length then .ok (o ++ (c.bs.drop (upB r)).take n, 8 * (upB r + n)) else .error 2) := Lib.hid (by
        unfold storedM; rw [HR1.out, bnd_ok, hR2, bnd_ok])
      have hxr := xor_all n (by omega)
      clear hR2 HR1 hU hM H3 HM2 HU2
      by_cases hmn : m + n = 65535
      · have d1 : (m : Int) = ((65535 - n : Nat) : Int) := by omega
        have d2 : ((m : Int) == ((65535 - n : Nat) : Int)) = true := by rw [beq_iff_eq]; exact d1
        clear d1
        generalize 65535 - n = Y at *
        by_cases h8 : c.lim - o.length < n
        · have H4 := Lib.hid (room_u c w3 ob r o n (by omega) HU3.out false (by rw [eq_comm, decide_eq_false_iff_not]; omega))
          go_wp2_with fail
          refine H4.out.mono ?_
          rintro e w4 ⟨rfl, hb4⟩
          have HE : Hid (GaveO c w ob (storedM c.bs c.lim p o) (.returned (.int .i64 8)) w4) := Lib.hid (Or.inr ⟨8, by rw [HF.out, if_neg (by omega), if_pos h8], by omega, rfl, HB0.out _ _ (HM3.out.then (Mv.new hb4))⟩)
          clear hb4
          go_wp2_with fail
          go_ret
          exact HE.out
        have H4 := Lib.hid (room_u c w3 ob r o n (by omega) HU3.out true (by rw [eq_comm, decide_eq_true_iff]; omega))
        go_wp2_with fail
        refine H4.out.mono ?_
        rintro e w4 ⟨rfl, hb4⟩
        have hU4 := HU3.out.below hb4
        have HU4 := Lib.hid hU4
        have HM4 := Lib.hid (HM3.out.then (Mv.new hb4))
        obtain ⟨v, fs, fd, c0, _, _, _, _, _, _, _⟩ := hU4.cells
        by_cases hlen : upB r + n ≤ c.bs.length
        · have H5 := Lib.hid (bytesN_yes _ c.gb c.bs r n w4 hU4.bits hlen hbs)
          clear hU4 hb4 H4 HU3 HM3
          go_wp2_with fail
          refine H5.out.mono ?_
          rintro e w5 ⟨A, cap, rfl, hB, hb5, hc5⟩
          have hU5 := HU4.out.bitsMv hb5 hc5
          have HU5 := Lib.hid hU5
          have HM5 := Lib.hid (HM4.out.then (Mv.bits hc5))
          obtain ⟨v5, fs5, fd5, _, c1, _, _, _, hv, hO, _⟩ := hU5.cells
          have f1 := hU5.frozen 1
          have hgu := hU5.gu
          obtain ⟨A5, cap5, rfl, hcap, hmax⟩ := own_slice hO
          have HO := Lib.hid hO
          have HBy := Lib.hid hB
          have hL := hB.len
          have hBf := hB.fit
          have hBm := hB.max
          have hmx := hmax
          have hol : o.length ≤ 1048576 := by have := hU5.lim; omega
          have hfin : Hid (o.length + n ≤ c.lim) := Lib.hid (by have := hU5.lim; omega)
          unfold maxLen at hmx hBm
          have HG : Hid (storedM c.bs c.lim p o = .ok (o ++ (c.bs.drop (upB r)).take n, 8 * (upB r + n))) := Lib.hid (by rw [HF.out, if_neg (by omega), if_neg h8, if_pos hlen])
          have h8' : Hid (Byte8 (o ++ (c.bs.drop (upB r)).take n)) := Lib.hid (hU5.by8.app hB.bd)
          have HS := Lib.hid (fun (u : World) (hu : w5.grownBy u ob) => show u.cell? ⟨c.gu, 1, none⟩ = some (.slice A5 o.length cap5) ∧ u.frozen? ⟨c.gu, 1, none⟩ = false from
            ⟨(World.cell?_of_block (a := ⟨c.gu, 1, none⟩) (HU5.out.grown (Below.refl _ _) hu)).trans c1, (World.frozen?_of_block (a := ⟨c.gu, 1, none⟩) (HU5.out.grown (Below.refl _ _) hu)).trans f1⟩)
          clear hU5 hB hb5 hc5 hO H5 HF HU4 HM4
          go_wp2_with (first
            | (at_builtin
               refine wpList_append_out (P := Tryd.prog) (c.gu + 1) 5 22 info8 Tryd.underlying22 rfl (.tmp 52) (.tmp 53) rfl (.slice A5 o.length cap5) o.length o rfl HO.out rfl HBy.out (by omega) (by omega) ?_
               intro v6 w6 k1 k2 k3
               have k2' : w5.grownBy w6 ob := by rw [← hv]; exact k2
               obtain ⟨d1, d2⟩ := HS.out w6 k2'
               obtain ⟨A6, cap6, rfl, hcap6, hmax6⟩ := own_slice k1
               have HE : Hid (GaveO c w ob (storedM c.bs c.lim p o) (.returned (.int .i64 0)) (w6.setCell ⟨c.gu, 1, none⟩ (.slice A6 (o.length + n) cap6))) := Lib.hid (by
                 obtain ⟨l1, l2⟩ := HU5.out.grow' (o2 := o ++ (c.bs.drop (upB r)).take n) (Below.refl _ _) k2' k1 (by rw [List.length_append, hL]) (fun k hk => by have := k3 k hk; rw [← hv]; exact this) h8'.out (by rw [List.length_append, hL]; exact hfin.out)
                 exact Or.inl ⟨_, _, _, HG.out, rfl, l1, HM5.out.then l2⟩)
               clear k1 k2 k3 k2' c1 f1))
          go_ret
          exact HE.out
        · have H5 := Lib.hid (bytesN_no _ c.gb c.bs r n w4 hU4.bits (Or.inr (by omega)) hbs)
          clear hU4 hb4 H4 HU3 HM3
          go_wp2_with fail
          refine H5.out.mono ?_
          rintro e w5 ⟨rfl, k, rfl⟩
          have HE : Hid (GaveO c w ob (storedM c.bs c.lim p o) (.returned (.int .i64 2)) (w4.drewN k)) := Lib.hid (Or.inr ⟨2, by rw [HF.out, if_neg (by omega), if_neg h8, if_neg hlen], by omega, rfl, HB0.out _ _ (HM4.out.then (Mv.new (bdrawn (Below.refl _ _) k)))⟩)
          go_wp2_with fail
          go_ret
          exact HE.out
      · have d1 : ¬ (m : Int) = ((65535 - n : Nat) : Int) := by omega
        have d2 : ((m : Int) == ((65535 - n : Nat) : Int)) = false := by rw [beq_eq_false_iff_ne]; exact d1
        clear d1
        generalize 65535 - n = Y at *
        have HE : Hid (GaveO c w ob (storedM c.bs c.lim p o) (.returned (.int .i64 4)) w3) := Lib.hid (Or.inr ⟨4, by rw [HF.out, if_pos hmn], by omega, rfl, HB0.out _ _ HM3.out⟩)
        go_wp2_with fail
        go_ret
        exact HE.out
    · have hn := nz hx
      have HE : Hid (GaveO c w ob (storedM c.bs c.lim p o) (.returned (.int .i64 (x : Nat))) w3) := Lib.hid (Or.inr ⟨x, by unfold storedM; rw [HR1.out, bnd_ok, hR2]; rfl, hx, rfl, (HB0.out _ _ HM2.out).trans hb⟩)
      clear hR2 hx hb H3
      go_wp2_with fail
      go_ret
      exact HE.out
  · have hn := nz hx
    have HE : Hid (GaveO c w ob (storedM c.bs c.lim p o) (.returned (.int .i64 (x : Nat))) w2) := Lib.hid (Or.inr ⟨x, by unfold storedM; rw [hR1]; rfl, hx, rfl, (HB0.out _ _ HM1.out).trans hb⟩)
    clear hR1 hx hb H2
    go_wp2_with fail
    go_ret
    exact HE.out

end Go.Proofs.YtehnilmfeoadgaaDoor
/- What Kind 2 begins with: count, lengthCodes. -/
namespace Go.Proofs.YtehnilmfeoadgaaDoor
open Go.RowKit
set_option linter.unusedVariables false
set_option linter.unusedSimpArgs false

set_option maxHeartbeats 800000 in
theorem count_b (c : Cx) (w : World) (ob : Option Nat) (p : Nat) (o : List Int) (n least most : Nat) (hn : n ≤ 8) (hl : least ≤ 1000) (hm : most ≤ 1000) (h : UAt c w ob p o) :
    Calls Tryd.prog 37 #[.pointer (some ⟨c.gu, 0, none⟩), .int .i64 (n : Nat), .int .i64 (least : Nat), .int .i64 (most : Nat)] w (GaveB c w (countM c.bs n least most p)) := by
  have HT := Lib.hid (take_b c w ob p o n (by omega) h)
  have HB0 := Lib.hid (fun u ob' (hu : Mv c w ob u ob') => h.mvBelow hu)
  clear h
  go_enter Tryd.func37, Tryd.ntmps37
  go_wp2_with fail
  refine HT.out.mono ?_
  rintro e w1 (⟨v, q, hR, rfl, hbt, hch⟩ | ⟨x, hR, hx, rfl, hb⟩)
  · have hv := (take_lt hR).1
    have hv2 : 2 ^ n ≤ 2 ^ 8 := Nat.pow_le_pow_right (by decide) hn
    have hv3 : v < 256 := by omega
    have hs : (least : Int) + (v : Int) = ((least + v : Nat) : Int) := by omega
    have HF : Hid (countM c.bs n least most p = if most < least + v then .error 4 else .ok (least + v, q)) := Lib.hid (by unfold countM; rw [hR]; rfl)
    by_cases hc : most < least + v
    · have HE : Hid (GaveB c w (countM c.bs n least most p) (.returned (.tuple #[.int .i64 0, .int .i64 4])) w1) := Lib.hid (Or.inr ⟨4, by rw [HF.out, if_pos hc], by omega, rfl, hch⟩)
      have d1 : decide ((most : Int) < ((least + v : Nat) : Int)) = true := decide_eq_true (by omega)
      have d2 : decide (most < least + v) = true := decide_eq_true hc
      have hS : least + v ≤ 2000 := by omega
      generalize least + v = S at *
      clear hR hbt hch hv hv2 hc HT
      go_wp2_with fail
      go_ret2
      exact HE.out
    · have HE : Hid (GaveB c w (countM c.bs n least most p) (.returned (.tuple #[.int .i64 ((least + v : Nat) : Int), .int .i64 0])) w1) := Lib.hid (Or.inl ⟨_, _, by rw [HF.out, if_neg hc], rfl, hbt, hch⟩)
      have d1 : decide ((most : Int) < ((least + v : Nat) : Int)) = false := decide_eq_false (by omega)
      have d2 : decide (most < least + v) = false := decide_eq_false hc
      have hS : least + v ≤ 2000 := by omega
      generalize least + v = S at *
      clear hR hbt hch hv hv2 hc HT
      go_wp2_with fail
      go_ret2
      exact HE.out
  · have hn := nz hx
    have HE : Hid (GaveB c w (countM c.bs n least most p) (.returned (.tuple #[.int .i64 0, .int .i64 (x : Nat)])) w1) := Lib.hid (Or.inr ⟨x, by unfold countM; rw [hR]; rfl, hx, rfl, hb⟩)
    clear hR hx hb HT
    go_wp2_with fail
    go_ret2
    exact HE.out
/-- The order in which lengths of lengths are told, in its variable. -/
structure OrdAt (B : Nat) (w : World) : Prop where
  low : 0 < B
  is : ∀ j, j < 19 → w.cell? ⟨0, j, none⟩ = some (.int .i64 (ordF j : Nat))
theorem OrdAt.below {B : Nat} {w w' : World} (h : OrdAt B w) (hb : Below B w w') : OrdAt B w' := ⟨h.low, fun j hj => (hb.cell (p := ⟨0, j, none⟩) h.low).trans (h.is j hj)⟩
theorem lensM_fine {bs : List Int} : ∀ {i p q : Nat} {M : Nat → Int}, lensM bs i p = .ok (M, q) → ∀ j, 0 ≤ M j ∧ M j ≤ 7
  | 0, p, q, M, h => by
    simp only [lensM, Except.ok.injEq, Prod.mk.injEq] at h
    obtain ⟨rfl, _⟩ := h
    intro j; simp
  | i + 1, p, q, M, h => by
    rcases (lensM bs i p).two with ⟨x, hx⟩ | ⟨M', r, hx⟩
    · rw [lensM, hx] at h; cases h
    · have ih := lensM_fine hx
      rw [lensM, hx, bnd_ok] at h
      rcases (takeM bs 3 r).two with ⟨x, hx⟩ | ⟨v, t, hx⟩
      · rw [hx] at h; cases h
      · have := (take_lt hx).1
        rw [hx, bnd_ok] at h
        simp only [Except.ok.injEq, Prod.mk.injEq] at h
        obtain ⟨rfl, _⟩ := h
        intro j
        dsimp only
        have := ih j
        split <;> omega
/-- The codes of lengths: a table, or an error. -/
def codeM (bs : List Int) (n p : Nat) : Rs (List Int) := bnd (lensM bs n p) fun M q => if okS (nOf (lstF M 19)) then .ok (lstF M 19, q) else .error 4
def GaveT (c : Cx) (w : World) (ob : Option Nat) (o : List Int) (R : Rs (List Int)) (e : Ending) (w' : World) : Prop :=
  (∃ l q g, R = .ok (l, q) ∧ e = .returned (.tuple #[.pointer (some ⟨g, 0, none⟩), .int .i64 0]) ∧ BitsAt (fun k => c.B ≤ k ∧ k < c.gb) w' c.gb c.bs q ∧ Ch (fun k => k = c.gb) w w' ∧ TabIn c w' ob g l ∧ l.length = 19) ∨ (∃ x, R = .error x ∧ (x = 2 ∨ x = 4 ∨ x = 8) ∧ e = .returned (.tuple #[.pointer none, .int .i64 (x : Nat)]) ∧ Ch (fun k => k = c.gb) w w')
/-- k lengths of lengths are taken. -/
structure LnAt (c : Cx) (w wr : World) (p ga k : Nat) (M : Nat → Int) (q : Nat) : Prop where
  m : lensM c.bs k p = .ok (M, q)
  bits : BitsAt (fun k => c.B ≤ k ∧ k < c.gb) wr c.gb c.bs q
  ch : Ch (fun k => k = c.gb) w wr
  row : Cells wr ga 92 19 (numC M)
  off : c.gu < ga ∧ w.heap.size ≤ ga
  ord : OrdAt c.B wr
attribute [local simp ↓ high] bigAlloc_as3
set_option maxRecDepth 100000 in
set_option maxHeartbeats 6400000 in
theorem lengthCodes_u (c : Cx) (w : World) (ob : Option Nat) (p : Nat) (o : List Int) (n : Nat) (hn : n ≤ 19) (h : UAt c w ob p o) (hO : OrdAt c.B w) :
    Calls Tryd.prog 38 #[.pointer (some ⟨c.gu, 0, none⟩), .int .i64 (n : Nat)] w (GaveT c w ob o (codeM c.bs n p)) := by
  obtain ⟨A1, z1, z2, a1⟩ := big_new 92 19 big3
  have hb0 : Below w.heap.size w (w.alloc (.cells A1 92)) := bnew w _
  have hgu := h.gu
  have HS : Hid (LnAt c w (w.alloc (.cells A1 92)) p w.heap.size 0 (fun _ => 0) p) :=
    Lib.hid ⟨rfl, h.bits.below hb0, Ch.of_below hb0, num_new z1 z2 w, ⟨hgu, Nat.le_refl _⟩, hO.below (h.newBelow hb0)⟩
  have HB0 := Lib.hid (fun u ob' (hu : Mv c w ob u ob') => h.mvBelow hu)
  have HH := Lib.hid h
  obtain ⟨ga, hga⟩ : ∃ ga, w.heap.size = ga := ⟨_, rfl⟩
  rw [hga] at HS
  clear h hO hb0 z1 z2 hgu
  go_enter Tryd.func38, Tryd.ntmps38
  go_wp2_with fail
  clear a1 hga
  go_loopw [11] (fun i wr => ∃ k : Nat, i = .int .i64 k ∧ k ≤ n ∧ Hid (∃ M q, LnAt c w wr p ga k M q)) (fun i _ => n - (intOf i).toNat)
  case atStart => exact ⟨0, rfl, by omega, Lib.hid ⟨_, _, HS.out⟩⟩
  case round =>
    obtain ⟨k, rfl, hk, HI⟩ := hrel
    obtain ⟨M, q, hL⟩ := HI.out
    have HL := Lib.hid hL
    clear HI HS
    by_cases hlt : k < n
    · have d0 : decide ((k : Int) < (n : Int)) = true := decide_eq_true (by omega)
      have H1 := Lib.hid (take_b c wr ob q o 3 (by omega) (HH.out.bitsMv hL.bits hL.ch))
      clear hL
      go_wp2_with fail
      refine H1.out.mono ?_
      rintro e w1 (⟨v, r, hR, rfl, hb1, hc1⟩ | ⟨x, hR, hx, rfl, hb⟩)
      · obtain ⟨n1, n2⟩ := HL.out.off
        have hgb := HL.out.bits.lt
        have b12 := c.b2
        have hrow := HL.out.row.block (hc1.block ga HL.out.row.lt (by omega))
        have hch := HL.out.ch.then hc1
        have hord := HL.out.ord.below ((HH.out.bitsMv HL.out.bits HL.out.ch).mvBelow (Mv.bits (ob := ob) hc1))
        have c1 := hord.is k (by omega)
        obtain ⟨a, ha⟩ : ∃ a, ordF k = a := ⟨_, rfl⟩
        have ha19 := ordF_lt k
        rw [ha] at c1 ha19
        have c2 := hrow.cell a ha19
        have f2 := Cells.frozen hrow a
        unfold numC at c2
        have hv := (take_lt hR).1
        have HN : Hid (LnAt c w (w1.setCell ⟨ga, a, none⟩ (.int .i64 (v : Nat))) p ga (k + 1) (updN M a (v : Nat)) r) := Lib.hid (by
          have hC : Ch (fun k => k = ga) w1 (w1.setCell ⟨ga, a, none⟩ (.int .i64 (v : Nat))) := Ch.set (F := fun k => k = ga) w1 ga a _ rfl
          refine ⟨?_, hb1.ch hC (by omega) (fun k hk => by omega), hch.trans hC (fun i hi => by omega), num_set hrow a _, ⟨n1, n2⟩, hord.below (hC.below (fun k hk => by have := c.b1; omega) (by have := hrow.lt; have := c.b1; omega))⟩
          rw [lensM, HL.out.m, bnd_ok, hR, bnd_ok, ha]; rfl)
        clear hb1 hc1 hR hrow hch hord ha H1 n1 n2 hgb b12
        go_wp2_with fail
        go_roundw
        case rel => exact ⟨k + 1, by go_num, by omega, Lib.hid ⟨_, _, HN.out⟩⟩
        case measure => first | (simp [intOf]; done) | (simp [intOf]; omega)
      · have hn := nz hx
        have HE : Hid (GaveT c w ob o (codeM c.bs n p) (.returned (.tuple #[.pointer none, .int .i64 (x : Nat)])) w1) := Lib.hid (Or.inr ⟨x, by
          unfold codeM
          rw [lens_er (i := k + 1) (by rw [lensM, HL.out.m, bnd_ok, hR]; rfl) n (by omega)]; rfl, hx, rfl, HL.out.ch.then hb⟩)
        clear hR hx hb H1
        go_wp2_with fail
        go_ret2
        exact HE.out
    · obtain rfl : k = n := by omega
      have d0 : decide ((k : Int) < (k : Int)) = false := decide_eq_false (by omega)
      have hfin := lensM_fine hL.m
      have hp1 : IAt (fun _ => True) wr (some ⟨ga, 0, none⟩) 19 19 (lstF M 19) := IAt.part hL.row (by unfold maxLen; omega) 0 19 (by omega) (by omega) (lstF M 19) (lstF_len _ _) (fun j hj => by rw [gI_lstF _ _ _ hj, Nat.zero_add]) _ trivial 19 (by omega) (by unfold maxLen; omega)
      have hfl : Fine (lstF M 19) := fine_of' _ fun x hx => by
        unfold lstF at hx
        obtain ⟨j, _, rfl⟩ := List.mem_map.1 hx
        have := hfin j; omega
      have hu := HH.out.bitsMv hL.bits hL.ch
      have HU := Lib.hid hu
      have HC := Lib.hid (Mv.bits (c := c) (ob := ob) hL.ch)
      have HC2 := Lib.hid hL.ch
      have HF : Hid (codeM c.bs k p = if okS (nOf (lstF M 19)) then .ok (lstF M 19, q) else .error 4) := Lib.hid (by unfold codeM; rw [hL.m]; rfl)
      by_cases hok : okS (nOf (lstF M 19))
      · have H1 := Lib.hid (new_any _ _ _ _ 0 wr hp1 (Or.inr ⟨by rw [lstF_len]; omega, hfl, Or.inl ⟨rfl, hok⟩⟩))
        clear hL hp1 hfl hu hfin
        go_wp2_with fail
        refine H1.out.mono ?_
        rintro e w2 ⟨P, rfl, hb2, _, hP⟩
        obtain ⟨g, rfl, hT⟩ := hP rfl
        have HE : Hid (GaveT c w ob o (codeM c.bs k p) (.returned (.tuple #[.pointer (some ⟨g, 0, none⟩), .int .i64 0])) w2) := Lib.hid (Or.inl ⟨_, q, g, by rw [HF.out, if_pos hok], rfl, HU.out.bits.below hb2, HC2.out.then (Ch.of_below hb2), TabIn.new hT HU.out.gu (fun k hk => (HU.out.ob k hk).2), lstF_len _ _⟩)
        clear hb2 hT H1 hP
        go_wp2_with fail
        go_ret2
        exact HE.out
      · have H1 := Lib.hid (new_any _ _ _ _ 4 wr hp1 (Or.inr ⟨by rw [lstF_len]; omega, hfl, Or.inr ⟨rfl, hok⟩⟩))
        clear hL hp1 hfl hu hfin
        go_wp2_with fail
        refine H1.out.mono ?_
        rintro e w2 ⟨P, rfl, hb2, hP, _⟩
        obtain rfl := hP (by decide)
        have HE : Hid (GaveT c w ob o (codeM c.bs k p) (.returned (.tuple #[.pointer none, .int .i64 4])) w2) := Lib.hid (Or.inr ⟨4, by rw [HF.out, if_neg hok], by omega, rfl, HC2.out.then (Ch.of_below hb2)⟩)
        clear hb2 H1 hP
        go_wp2_with fail
        go_ret2
        exact HE.out

end Go.Proofs.YtehnilmfeoadgaaDoor
/- A row of lengths, and what a symbol puts behind it: repeat. -/
namespace Go.Proofs.YtehnilmfeoadgaaDoor
open Go.RowKit
set_option linter.unusedVariables false
set_option linter.unusedSimpArgs false

/-- A row's cells: its lengths, and how many there are. -/
def rowF (row : List Int) (j : Nat) : Int := if j = 316 then (row.length : Int) else gI row j
abbrev RowIs (w : World) (g : Nat) (row : List Int) : Prop := Cells w g 83 317 (numC (rowF row))
theorem RowIs.n {w : World} {g : Nat} {row : List Int} (h : RowIs w g row) : w.cell? ⟨g, 316, none⟩ = some (.int .i64 (row.length : Nat)) := by
  have := Cells.cell h 316 (by omega)
  unfold numC rowF at this
  rw [if_pos rfl] at this
  exact this
theorem RowIs.at {w : World} {g : Nat} {row : List Int} (h : RowIs w g row) (j : Nat) (hj : j < 316) : w.cell? ⟨g, j, none⟩ = some (.int .i64 (gI row j)) := by
  have := Cells.cell h j (by omega)
  unfold numC rowF at this
  rw [if_neg (by omega)] at this
  exact this
theorem rowF_put (row : List Int) (v : Int) (h : row.length < 316) : updN (updN (rowF row) row.length v) 316 ((row.length : Int) + 1) = rowF (row ++ [v]) := by
  funext j
  unfold updN rowF
  by_cases c : j = 316
  · rw [if_pos c, if_pos c, List.length_append]; simp
  · rw [if_neg c, if_neg c, if_neg c]
    by_cases d : j = row.length
    · rw [if_pos d, gI_app_right _ _ _ (by omega), d, Nat.sub_self]; rfl
    · rw [if_neg d]
      by_cases e : j < row.length
      · rw [gI_app_left _ _ _ e]
      · rw [gI_end row j (by omega), gI_end _ j (by simp; omega)]
theorem RowIs.put {w : World} {g : Nat} {row : List Int} (h : RowIs w g row) (v : Int) (hl : row.length < 316) :
    RowIs ((w.setCell ⟨g, row.length, none⟩ (.int .i64 v)).setCell ⟨g, 316, none⟩ (.int .i64 ((row.length : Int) + 1))) g (row ++ [v]) := by
  have := num_set (num_set h row.length v) 316 ((row.length : Int) + 1)
  rw [rowF_put row v hl] at this
  exact this
def GaveR (c : Cx) (w : World) (R : Rs (Int × Nat)) (e : Ending) (w' : World) : Prop :=
  (∃ v t q, R = .ok ((v, t), q) ∧ e = .returned (.tuple #[.int .i64 v, .int .i64 (t : Nat), .int .i64 0]) ∧ BitsAt (fun k => c.B ≤ k ∧ k < c.gb) w' c.gb c.bs q ∧ Ch (fun k => k = c.gb) w w') ∨ (∃ x, R = .error x ∧ (x = 2 ∨ x = 4 ∨ x = 8) ∧ e = .returned (.tuple #[.int .i64 0, .int .i64 0, .int .i64 (x : Nat)]) ∧ Ch (fun k => k = c.gb) w w')
theorem repB_le (s : Nat) : repB s ≤ 7 := by unfold repB; split; omega; split; omega; split; omega; omega
theorem repA_le (s : Nat) : 1 ≤ repA s ∧ repA s ≤ 11 := by unfold repA; split; omega; split; omega; omega
theorem rep_end {c : Cx} {w wx w1 : World} {row : List Int} {s p v q : Nat} (hn : ¬ (s = 16 ∧ row.length = 0)) (hx : Ch (fun k => k = c.gb) w wx) (hR : takeM c.bs (repB s) p = .ok (v, q)) (hb : BitsAt (fun k => c.B ≤ k ∧ k < c.gb) w1 c.gb c.bs q) (hc : Ch (fun k => k = c.gb) wx w1) :
    GaveR c w (repM c.bs row s p) (.returned (.tuple #[.int .i64 (repL row s), .int .i64 ((repA s + v : Nat) : Int), .int .i64 0])) w1 :=
  Or.inl ⟨_, _, _, by unfold repM; rw [if_neg hn, hR]; rfl, rfl, hb, hx.then hc⟩
theorem rep_bad {c : Cx} {w w1 : World} {row : List Int} {s p x : Nat} (hn : ¬ (s = 16 ∧ row.length = 0)) (hR : takeM c.bs (repB s) p = .error x) (hx : x = 2 ∨ x = 4 ∨ x = 8) (hb : Ch (fun k => k = c.gb) w w1) :
    GaveR c w (repM c.bs row s p) (.returned (.tuple #[.int .i64 0, .int .i64 0, .int .i64 (x : Nat)])) w1 :=
  Or.inr ⟨x, by unfold repM; rw [if_neg hn, hR]; rfl, hx, rfl, hb⟩
set_option maxRecDepth 100000 in
set_option maxHeartbeats 6400000 in
theorem repeat_b (c : Cx) (w : World) (ob : Option Nat) (p : Nat) (o : List Int) (gr : Nat) (row : List Int) (s : Nat) (hs : s ≤ 400) (h : UAt c w ob p o) (hr : RowIs w gr row) (hl : row.length ≤ 316) :
    Calls Tryd.prog 43 #[.pointer (some ⟨c.gu, 0, none⟩), .pointer (some ⟨gr, 0, none⟩), .int .i64 (s : Nat)] w (GaveR c w (repM c.bs row s p)) := by
  have hB := repB_le s
  have hA := repA_le s
  have cn := hr.n
  by_cases h16 : s = 16
  · by_cases h0 : row.length = 0
    · have HE : Hid (GaveR c w (repM c.bs row s p) (.returned (.tuple #[.int .i64 0, .int .i64 0, .int .i64 4])) w) := Lib.hid (Or.inr ⟨4, by unfold repM; rw [if_pos ⟨h16, h0⟩], by omega, rfl, Ch.refl _ _⟩)
      rw [h0] at cn
      subst h16
      clear h hr hl hB hA
      go_enter Tryd.func43, Tryd.ntmps43
      go_wp2_with fail
      go_ret3
      exact HE.out
    · have hlast := hr.at (row.length - 1) (by omega)
      obtain ⟨L, hL⟩ : ∃ L, row.length = L := ⟨_, rfl⟩
      rw [hL] at cn hlast h0 hl
      obtain ⟨a, ha⟩ : ∃ a, L - 1 = a := ⟨_, rfl⟩
      rw [ha] at hlast
      have ha1 : (L : Int) - 1 = (a : Int) := by omega
      have ha2 : IntKind.i64.wrap (a : Int) = (a : Int) := by rw [IntKind.wrap_i64]; omega
      have ha3 : (a : Int) < 316 := by omega
      have d0 : ((L : Int) == 0) = false := by rw [beq_eq_false_iff_ne]; omega
      obtain ⟨y, hy⟩ : ∃ y, gI row a = y := ⟨_, rfl⟩
      rw [hy] at hlast
      have hb0 : Below w.heap.size w w.drew := bdrawn (Below.refl _ _) 1
      have H1 := Lib.hid (take_b c w.drew ob p o 2 (by omega) (h.below hb0))
      have hrl : repL row s = y := by unfold repL; rw [if_pos h16, hL, ha, hy]
      have hra : repA s = 3 := by unfold repA; rw [if_pos (Or.inl h16)]
      have hrb : repB s = 2 := by unfold repB; rw [if_pos h16]
      have HOK := Lib.hid (fun v q w1 hR hb hc => rep_end (c := c) (w := w) (wx := w.drew) (w1 := w1) (row := row) (s := s) (p := p) (v := v) (q := q) (fun x => h0 (by omega)) (Ch.of_below hb0) hR hb hc)
      have HBAD := Lib.hid (fun x w1 hR hx (hb : Ch (fun k => k = c.gb) w.drew w1) => rep_bad (c := c) (w := w) (w1 := w1) (row := row) (s := s) (p := p) (x := x) (fun x => h0 (by omega)) hR hx ((Ch.of_below hb0).then hb))
      rw [hrl, hra, hrb] at HOK
      rw [hrb] at HBAD
      subst h16
      clear h hr hB hA hL ha hy hb0 hrl hra hrb
      go_enter Tryd.func43, Tryd.ntmps43
      go_wp2_with fail
      go_region
      go_wp2_with fail
      refine H1.out.mono ?_
      rintro e w1 (⟨v, q, hR, rfl, hb, hc⟩ | ⟨x, hR, hx, rfl, hb⟩)
      · have HE := Lib.hid (HOK.out v q w1 hR hb hc)
        have hv := (take_lt hR).1
        have hs : (3 : Int) + (v : Int) = ((3 + v : Nat) : Int) := by omega
        generalize 3 + v = S at *
        clear hR hb hc HOK HBAD H1
        go_wp2_with fail
        go_ret3
        exact HE.out
      · have hn := nz hx
        have HE := Lib.hid (HBAD.out x w1 hR hx hb)
        clear hR hx hb HOK HBAD H1
        go_wp2_with fail
        go_ret3
        exact HE.out
  have d16 : ((s : Int) == 16) = false := by rw [beq_eq_false_iff_ne]; omega
  have H1 := Lib.hid (take_b c w ob p o (repB s) (by omega) h)
  have HOK := Lib.hid (fun v q w1 hR hb hc => rep_end (c := c) (w := w) (wx := w) (w1 := w1) (row := row) (s := s) (p := p) (v := v) (q := q) (fun x => h16 x.1) (Ch.refl _ _) hR hb hc)
  have HBAD := Lib.hid (fun x w1 hR hx hb => rep_bad (c := c) (w := w) (w1 := w1) (row := row) (s := s) (p := p) (x := x) (fun x => h16 x.1) hR hx hb)
  clear h hr cn hl
  obtain ⟨a, ha⟩ : ∃ a, repA s = a := ⟨_, rfl⟩
  obtain ⟨b, hb⟩ : ∃ b, repB s = b := ⟨_, rfl⟩
  obtain ⟨y, hy⟩ : ∃ y, repL row s = y := ⟨_, rfl⟩
  rw [ha, hb, hy] at HOK
  rw [hb] at HBAD H1 hB
  rw [ha] at hA
  have fin : (s = 17 ∧ a = 3 ∧ b = 3 ∧ y = 0) ∨ (s = 18 ∧ a = 11 ∧ b = 7 ∧ y = 0) ∨ (s ≠ 17 ∧ s ≠ 18 ∧ a = 1 ∧ b = 0 ∧ y = (s : Int)) := by
    unfold repA at ha
    unfold repB at hb
    unfold repL at hy
    by_cases c17 : s = 17
    · subst c17; left; simp at ha hb hy; omega
    · by_cases c18 : s = 18
      · subst c18; right; left; simp at ha hb hy; omega
      · right; right
        rw [if_neg (by omega), if_neg (by omega)] at ha
        rw [if_neg h16, if_neg c17, if_neg c18] at hb
        rw [if_neg h16, if_neg (by omega)] at hy
        exact ⟨c17, c18, ha.symm, hb.symm, hy.symm⟩
  have hv2 : 2 ^ b ≤ 2 ^ 7 := Nat.pow_le_pow_right (by decide) hB
  clear ha hb hy
  rcases fin with ⟨rfl, rfl, rfl, rfl⟩ | ⟨rfl, rfl, rfl, rfl⟩ | ⟨c17, c18, rfl, rfl, rfl⟩
  · go_enter Tryd.func43, Tryd.ntmps43
    go_wp2_with fail
    refine H1.out.mono ?_
    rintro e w1 (⟨v, q, hR, rfl, hb, hc⟩ | ⟨x, hR, hx, rfl, hb⟩)
    · have HE := Lib.hid (HOK.out v q w1 hR hb hc)
      have hv := (take_lt hR).1
      have hs : (3 : Int) + (v : Int) = ((3 + v : Nat) : Int) := by omega
      generalize 3 + v = S at *
      clear hR hb hc HOK HBAD H1
      go_wp2_with fail
      go_ret3
      exact HE.out
    · have hn := nz hx
      have HE := Lib.hid (HBAD.out x w1 hR hx hb)
      clear hR hx hb HOK HBAD H1
      go_wp2_with fail
      go_ret3
      exact HE.out
  · go_enter Tryd.func43, Tryd.ntmps43
    go_wp2_with fail
    refine H1.out.mono ?_
    rintro e w1 (⟨v, q, hR, rfl, hb, hc⟩ | ⟨x, hR, hx, rfl, hb⟩)
    · have HE := Lib.hid (HOK.out v q w1 hR hb hc)
      have hv := (take_lt hR).1
      have hs : (11 : Int) + (v : Int) = ((11 + v : Nat) : Int) := by omega
      generalize 11 + v = S at *
      clear hR hb hc HOK HBAD H1
      go_wp2_with fail
      go_ret3
      exact HE.out
    · have hn := nz hx
      have HE := Lib.hid (HBAD.out x w1 hR hx hb)
      clear hR hx hb HOK HBAD H1
      go_wp2_with fail
      go_ret3
      exact HE.out
  · have d17 : ((s : Int) == 17) = false := by rw [beq_eq_false_iff_ne]; omega
    have d18 : ((s : Int) == 18) = false := by rw [beq_eq_false_iff_ne]; omega
    go_enter Tryd.func43, Tryd.ntmps43
    go_wp2_with fail
    refine H1.out.mono ?_
    rintro e w1 (⟨v, q, hR, rfl, hb, hc⟩ | ⟨x, hR, hx, rfl, hb⟩)
    · have HE := Lib.hid (HOK.out v q w1 hR hb hc)
      have hv := (take_lt hR).1
      have hs : (1 : Int) + (v : Int) = ((1 + v : Nat) : Int) := by omega
      generalize 1 + v = S at *
      clear hR hb hc HOK HBAD H1
      go_wp2_with fail
      go_ret3
      exact HE.out
    · have hn := nz hx
      have HE := Lib.hid (HBAD.out x w1 hR hx hb)
      clear hR hx hb HOK HBAD H1
      go_wp2_with fail
      go_ret3
      exact HE.out

end Go.Proofs.YtehnilmfeoadgaaDoor
/- A row of lengths filled. -/
namespace Go.Proofs.YtehnilmfeoadgaaDoor
open Go.RowKit
set_option linter.unusedVariables false
set_option linter.unusedSimpArgs false

def GaveF (c : Cx) (w0 w : World) (gr many : Nat) (R : Rs (List Int)) (e : Ending) (w' : World) : Prop :=
  (∃ row q, R = .ok (row, q) ∧ e = .returned (.int .i64 0) ∧ BitsAt (fun k => c.B ≤ k ∧ k < c.gb) w' c.gb c.bs q ∧ Ch (fun k => k = c.gb) w0 w' ∧ RowIs w' gr row ∧ row.length = many ∧ Fine row) ∨ (∃ x, R = .error x ∧ (x = 2 ∨ x = 4 ∨ x = 8) ∧ e = .returned (.int .i64 (x : Nat)) ∧ Ch (fun k => k = c.gb) w0 w')
theorem rowM_er {bs lc row : List Int} {many p e : Nat} (h0 : row.length < many) (h : nextM bs lc p = .error e) : rowM bs lc many p row = .error e := by unfold rowM; rw [if_neg (by omega), h]; rfl
theorem rowM_ok {bs lc row : List Int} {many p s q : Nat} (h0 : row.length < many) (h : nextM bs lc p = .ok (s, q)) : rowM bs lc many p row = bnd (repM bs row s q) fun v r => if many - row.length < v.2 then .error 4 else .ok ((false, row ++ List.replicate v.2 v.1), r) := by unfold rowM; rw [if_neg (by omega), h]; rfl
theorem rep_ok {bs row : List Int} {s p q t : Nat} {v : Int} (h : repM bs row s p = .ok ((v, t), q)) (hf : Fine row) (hs : s < 19) : 1 ≤ t ∧ t ≤ 200 ∧ 0 ≤ v ∧ v ≤ 15 ∧ p ≤ q := by
  unfold repM at h
  split at h
  · cases h
  · rcases (takeM bs (repB s) p).two with ⟨x, hx⟩ | ⟨m, r, hx⟩
    · rw [hx] at h; cases h
    · have h1 := take_lt hx
      have h2 := repA_le s
      have h3 : 2 ^ repB s ≤ 2 ^ 7 := Nat.pow_le_pow_right (by decide) (repB_le s)
      rw [hx, bnd_ok] at h
      simp only [Except.ok.injEq, Prod.mk.injEq] at h
      obtain ⟨⟨rfl, rfl⟩, rfl⟩ := h
      have h4 : 0 ≤ repL row s ∧ repL row s ≤ 15 := by
        unfold repL
        split
        · exact hf _
        · split
          · omega
          · omega
      omega
theorem Fine.more {row : List Int} (h : Fine row) {v : Int} (h0 : 0 ≤ v) (h1 : v ≤ 15) (t : Nat) : Fine (row ++ List.replicate t v) := fun j => by
  by_cases c : j < row.length
  · rw [gI_app_left _ _ _ c]; exact h j
  · rw [gI_app_right _ _ _ (by omega)]
    by_cases d : j - row.length < t
    · have := gI_some (List.replicate t v) (j - row.length) (by simpa using d)
      rw [List.getElem?_replicate, if_pos d] at this
      injection this with this
      omega
    · rw [gI_end _ _ (by simp; omega)]; omega
/-- Between two symbols of the row. -/
structure Fl (c : Cx) (w0 w wr : World) (ob : Option Nat) (gr many : Nat) (R : Rs (List Int)) (lc row : List Int) (q : Nat) : Prop where
  bits : BitsAt (fun k => c.B ≤ k ∧ k < c.gb) wr c.gb c.bs q
  ch0 : Ch (fun k => k = c.gb) w0 wr
  ch : Ch (fun k => k = c.gb ∨ k = gr) w wr
  cells : RowIs wr gr row
  le : row.length ≤ many
  fine : Fine row
  r : loopM (rowM c.bs lc many) (8 * c.bs.length) q row = R
set_option maxRecDepth 100000 in
set_option maxHeartbeats 6400000 in
theorem fill_u (c : Cx) (w0 w : World) (ob : Option Nat) (p0 p : Nat) (o : List Int) (gr g many : Nat) (lc : List Int) (G : Nat → Prop) (h0 : UAt c w0 ob p0 o) (hb : BitsAt (fun k => c.B ≤ k ∧ k < c.gb) w c.gb c.bs p) (ch0 : Ch (fun k => k = c.gb) w0 w) (hgr : w0.heap.size ≤ gr)
    (hrow : RowIs w gr []) (ht : TabAt G w g lc) (hG : ∀ k, G k → k ≠ c.gu ∧ k ≠ c.gb ∧ ob ≠ some k ∧ k < w.heap.size ∧ c.B ≤ k ∧ k ≠ gr) (hlc : lc.length = 19) (hm : many ≤ 316) :
    Calls Tryd.prog 39 #[.pointer (some ⟨c.gu, 0, none⟩), .pointer (some ⟨gr, 0, none⟩), .pointer (some ⟨g, 0, none⟩), .int .i64 (many : Nat)] w (GaveF c w0 w gr many (loopM (rowM c.bs lc many) (8 * c.bs.length) p [])) := by
  obtain ⟨R, hR⟩ : ∃ R, loopM (rowM c.bs lc many) (8 * c.bs.length) p [] = R := ⟨_, rfl⟩
  rw [hR]
  have HS : Hid (Fl c w0 w w ob gr many R lc [] p) := Lib.hid ⟨hb, ch0, Ch.refl _ _, hrow, by simp, fine_of' _ (by simp), hR⟩
  have HU := Lib.hid (fun u q (hb : BitsAt (fun k => c.B ≤ k ∧ k < c.gb) u c.gb c.bs q) (hc : Ch (fun k => k = c.gb) w0 u) => h0.bitsMv hb hc)
  have HT := Lib.hid (fun u (hc : Ch (fun k => k = c.gb ∨ k = gr) w u) => show TabIn c u ob g lc from ⟨G, ht.ch hc (fun k hk => by have := hG k hk; omega), fun k hk => by
    obtain ⟨a1, a2, a3, a4, a5, _⟩ := hG k hk
    exact ⟨a1, a2, a3, Nat.lt_of_lt_of_le a4 hc.size, a5⟩⟩)
  have HB := Lib.hid (fun u (hc : Ch (fun k => k = c.gb) w0 u) => h0.mvBelow (Mv.bits (ob := ob) hc))
  have hgu := h0.gu
  have b2 := c.b2
  have hg1 : Hid (gr ≠ c.gb) := Lib.hid (by omega)
  have hg2 : Hid (w0.heap.size ≤ gr) := Lib.hid hgr
  have hgu := Lib.hid hgu
  clear h0 hb ch0 hrow ht hG hR b2 hgr
  go_enter Tryd.func39, Tryd.ntmps39
  go_wp2_with fail
  go_loopg [8] many (fun m s wr => s = .int .i64 0 ∧ Hid (∃ row q, m + row.length = many ∧ Fl c w0 w wr ob gr many R lc row q))
  case atStart => exact ⟨rfl, Lib.hid ⟨_, _, by simp, HS.out⟩⟩
  case round =>
    obtain ⟨rfl, HX⟩ := hrel
    obtain ⟨row, q, hmm, hF⟩ := HX.out
    have HF := Lib.hid hF
    have cn := RowIs.n hF.cells
    have hle := hF.le
    have hfine := Lib.hid hF.fine
    obtain ⟨L, hL⟩ : ∃ L, row.length = L := ⟨_, rfl⟩
    rw [hL] at cn hle hmm
    have hLH := Lib.hid hL
    have hu := HU.out wr q hF.bits hF.ch0
    obtain ⟨v0, fs, fd, c0, _, _, _, _, _, _, _⟩ := hu.cells
    have H1 := Lib.hid (next_b c wr ob q o g lc hu (HT.out wr hF.ch) (by omega))
    clear HX HS hF hu hL
    by_cases hlt : L < many
    · have d1 : decide ((L : Int) < (many : Int)) = true := decide_eq_true (by omega)
      have d1' : decide (L < many) = true := decide_eq_true hlt
      go_wp2_with fail
      refine H1.out.mono ?_
      rintro e w1 (⟨s, q1, hR1, rfl, hb1, hc1⟩ | ⟨x, hR1, hx, rfl, hb1⟩)
      · have hsl : s = 0 ∨ s < lc.length := (next_ok hR1).choose_spec.2.2.2.2
        have hpq := next_mono hR1
        have hch1 := Lib.hid (HF.out.ch0.then hc1)
        have hch2 := Lib.hid (HF.out.ch.then (hc1.weak fun i hi => Or.inl hi))
        have hr1 := HF.out.cells.block (hc1.block gr HF.out.cells.lt (by have := hg1.out; omega))
        have hRow1 := Lib.hid hr1
        have HRM : Hid (rowM c.bs lc many q row = bnd (repM c.bs row s q1) fun v r => if many - row.length < v.2 then .error 4 else .ok ((false, row ++ List.replicate v.2 v.1), r)) := Lib.hid (rowM_ok (by rw [hLH.out]; exact hlt) hR1)
        have H2 := Lib.hid (repeat_b c w1 ob q1 o gr row s (by omega) (HU.out w1 q1 hb1 hch1.out) hr1 (by rw [hLH.out]; omega))
        clear hb1 hc1 hR1 hr1 H1 c0
        go_wp2_with fail
        refine H2.out.mono ?_
        rintro e w2 (⟨v, t, q2, hR2, rfl, hb2, hc2⟩ | ⟨x, hR2, hx, rfl, hb2⟩)
        · obtain ⟨t1, t2, v0', v1', hq2⟩ := rep_ok hR2 hfine.out (by omega)
          have hch3 := Lib.hid (hch1.out.then hc2)
          have hch4 := Lib.hid (hch2.out.then (hc2.weak fun i hi => Or.inl hi))
          have hr2 := hRow1.out.block (hc2.block gr hRow1.out.lt (by have := hg1.out; omega))
          have hRow2 := Lib.hid hr2
          have cn2 := RowIs.n hr2
          rw [hLH.out] at cn2
          have hB2 := Lib.hid hb2
          have HRM2 : Hid (rowM c.bs lc many q row = if many - L < t then .error 4 else .ok ((false, row ++ List.replicate t v), q2)) := Lib.hid (by rw [HRM.out, hR2, bnd_ok, hLH.out])
          clear hb2 hc2 hR2 hr2 H2 hch1 hch2 hRow1 HRM cn
          by_cases hbig : many - L < t
          · have d2 : decide (((many : Int) - (L : Int)) < (t : Int)) = true := decide_eq_true (by omega)
            have HE : Hid (GaveF c w0 w gr many R (.returned (.int .i64 4)) w2) := Lib.hid (Or.inr ⟨4, by rw [← HF.out.r, loop_er (by rw [HRM2.out, if_pos hbig])], by omega, rfl, hch3.out⟩)
            go_wp2_with fail
            go_ret
            exact HE.out
          · have d2 : decide (((many : Int) - (L : Int)) < (t : Int)) = false := decide_eq_false (by omega)
            go_wp2_with fail
            go_loopw [51] (fun i wx => ∃ j : Nat, i = .int .i64 j ∧ j ≤ t ∧ Hid (RowIs wx gr (row ++ List.replicate j v) ∧ BitsAt (fun k => c.B ≤ k ∧ k < c.gb) wx c.gb c.bs q2 ∧ Ch (fun k => k = c.gb) w0 wx ∧ Ch (fun k => k = c.gb ∨ k = gr) w wx)) (fun i _ => t - (intOf i).toNat)
            case atStart => exact ⟨0, rfl, by omega, Lib.hid ⟨by simpa using hRow2.out, hB2.out, hch3.out, hch4.out⟩⟩
            case round =>
              obtain ⟨j, rfl, hj, HI⟩ := hrel
              by_cases hlt2 : j < t
              · have hlen : (row ++ List.replicate j v).length = L + j := by rw [List.length_append, List.length_replicate, hLH.out]
                obtain ⟨K, hK⟩ : ∃ K, L + j = K := ⟨_, rfl⟩
                rw [hK] at hlen
                have hK3 : K < 316 := by omega
                have k1 := RowIs.n HI.out.1
                have k2 := RowIs.at HI.out.1 K hK3
                have f1 := Cells.frozen HI.out.1 K
                have f2 := Cells.frozen HI.out.1 316
                rw [hlen] at k1
                have hK4 : (K : Int) < 316 := by omega
                have hKw : IntKind.i64.wrap (K : Int) = (K : Int) := by rw [IntKind.wrap_i64]; omega
                have hne : K ≠ 316 := by omega
                have hne2 : 316 ≠ K := by omega
                have d5 : decide ((j : Int) < (t : Int)) = true := decide_eq_true (by omega)
                have HP : Hid (∀ n : Nat, RowIs (((wr.drewN n).setCell ⟨gr, K, none⟩ (.int .i64 v)).setCell ⟨gr, 316, none⟩ (.int .i64 ((K : Int) + 1))) gr (row ++ List.replicate (j + 1) v) ∧ BitsAt (fun k => c.B ≤ k ∧ k < c.gb) (((wr.drewN n).setCell ⟨gr, K, none⟩ (.int .i64 v)).setCell ⟨gr, 316, none⟩ (.int .i64 ((K : Int) + 1))) c.gb c.bs q2 ∧ Ch (fun k => k = c.gb) w0 (((wr.drewN n).setCell ⟨gr, K, none⟩ (.int .i64 v)).setCell ⟨gr, 316, none⟩ (.int .i64 ((K : Int) + 1))) ∧ Ch (fun k => k = c.gb ∨ k = gr) w (((wr.drewN n).setCell ⟨gr, K, none⟩ (.int .i64 v)).setCell ⟨gr, 316, none⟩ (.int .i64 ((K : Int) + 1)))) := Lib.hid (fun n => by
                  obtain ⟨i1, i2, i3, i4⟩ := HI.out
                  have hC : Ch (fun k => k = gr) wr (((wr.drewN n).setCell ⟨gr, K, none⟩ (.int .i64 v)).setCell ⟨gr, 316, none⟩ (.int .i64 ((K : Int) + 1))) := ((Ch.of_below (bdrawn (Below.refl _ _) n)).then (Ch.set (F := fun k => k = gr) _ gr K _ rfl)).then (Ch.set (F := fun k => k = gr) _ gr 316 _ rfl)
                  have hput := RowIs.put (w := wr.drewN n) (i1.below (bdrawn (Below.refl _ _) n)) v (by rw [hlen]; exact hK3)
                  rw [hlen, List.append_assoc, ← List.replicate_succ'] at hput
                  have hg1' := hg1.out
                  have hg2' := hg2.out
                  exact ⟨hput, i2.ch hC (by omega) (fun k hk => by have := c.b2; have := hgu.out; omega), i3.trans hC (fun i hi => Or.inr (by omega)), i4.then (hC.weak fun i hi => Or.inr hi)⟩)
                clear hK hlen HI
                go_wp2_with fail
                go_region
                go_wp2_with fail
                go_roundw
                case rel => exact ⟨j + 1, by go_num, by omega, Lib.hid (HP.out 1)⟩
                case measure => first | (simp [intOf]; done) | (simp [intOf]; omega)
              · obtain rfl : j = t := by omega
                have d5 : decide ((j : Int) < (j : Int)) = false := decide_eq_false (by omega)
                obtain ⟨i1, i2, i3, i4⟩ := HI.out
                have HN : Hid (Fl c w0 w wr ob gr many R lc (row ++ List.replicate j v) q2) := Lib.hid ⟨i2, i3, i4, i1, by rw [List.length_append, List.length_replicate, hLH.out]; omega, hfine.out.more v0' v1' j,
                  (loop_on (p := q) (o := row) (q := q2) (o' := row ++ List.replicate j v) (by rw [HRM2.out, if_neg hbig]) (by omega) i2.fit).symm.trans HF.out.r⟩
                have hL2 : Hid ((row ++ List.replicate j v).length = L + j) := Lib.hid (by rw [List.length_append, List.length_replicate, hLH.out])
                clear HI i1 i2 i3 i4
                go_wp2_with fail
                go_roundg (many - (L + j))
                case measure => omega
                case rel => exact ⟨rfl, Lib.hid ⟨_, _, by rw [hL2.out]; omega, HN.out⟩⟩
        · have hn := nz hx
          have HE : Hid (GaveF c w0 w gr many R (.returned (.int .i64 (x : Nat))) w2) := Lib.hid (Or.inr ⟨x, by rw [← HF.out.r, loop_er (by rw [HRM.out, hR2]; rfl)], hx, rfl, hch1.out.then hb2⟩)
          clear hR2 hx hb2 H2
          go_wp2_with fail
          go_ret
          exact HE.out
      · have hn := nz hx
        have HE : Hid (GaveF c w0 w gr many R (.returned (.int .i64 (x : Nat))) w1) := Lib.hid (Or.inr ⟨x, by rw [← HF.out.r, loop_er (rowM_er (by rw [hLH.out]; exact hlt) hR1)], hx, rfl, HF.out.ch0.then hb1⟩)
        clear hR1 hx hb1 H1
        go_wp2_with fail
        go_ret
        exact HE.out
    · have d1 : decide ((L : Int) < (many : Int)) = false := decide_eq_false (by omega)
      have d1' : decide (L < many) = false := decide_eq_false hlt
      have HE : Hid (GaveF c w0 w gr many R (.returned (.int .i64 0)) wr) := Lib.hid (Or.inl ⟨row, q, by rw [← HF.out.r, loop_end (step := rowM c.bs lc many) (q := q) (o' := row) (by unfold rowM; rw [if_pos (by rw [hLH.out]; omega)])], rfl, HF.out.bits, HF.out.ch0, HF.out.cells, by rw [hLH.out]; omega, HF.out.fine⟩)
      clear H1
      go_wp2_with fail
      go_ret
      exact HE.out

end Go.Proofs.YtehnilmfeoadgaaDoor
