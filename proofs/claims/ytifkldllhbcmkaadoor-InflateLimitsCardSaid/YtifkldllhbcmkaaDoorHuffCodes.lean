/- huff's Codes and New. -/
import Derived.Test.YtifkldllhbcmkaaDoorHuffFirsts
namespace Go.Proofs.YtifkldllhbcmkaaDoor
open Go.RowKit
attribute [local simp ↓ high] arrAlloc_as1 arrAlloc_as2 arrStore_as1 arrStore_as2 arrLoad_as1 arrLoad_as2 arrEql_as arrBuild_as

theorem Lg.ok {l : List Int} (h : Lg l 0) : l.length ≤ 320 ∧ Fine l ∧ okS (nOf l) := by
  rcases h with ⟨h1, _⟩ | ⟨h1, h2, ⟨_, h3⟩ | ⟨h3, _⟩⟩
  · omega
  · exact ⟨h1, h2, h3⟩
  · omega
theorem Lg.cases {l : List Int} {e : Int} (h : Lg l e) : e = 0 ∨ e = 1 ∨ e = 4 := by
  rcases h with ⟨h1, _⟩ | ⟨h1, h2, ⟨h3, _⟩ | ⟨h3, _⟩⟩ <;> omega
theorem nOf_zero (l : List Int) : nOf l 0 = 0 := cN_zero _ _
theorem nOf_end {l : List Int} (h : okS (nOf l)) (t : Nat) (ht : t ≤ 15) : endC (nOf l) t ≤ 32768 := by
  have h1 := end_le (nOf l) (h.sum (nOf_zero l)) t ht
  have h2 : 2 ^ t ≤ 2 ^ 15 := Nat.pow_le_pow_right (by decide) ht
  omega
theorem plc_le {l : List Int} (h : Fine l) (t : Nat) (ht : t ≤ 16) : plc (nOf l) t ≤ l.length := by
  have h1 := csum_is (lnN l) (fun i => (h.ln i).2) l.length
  have h2 := csum_le (lnN l) l.length
  have h3 := plc_mono (nOf l) t 16 ht
  unfold nOf at *
  omega
theorem code_small {l : List Int} (h : okS (nOf l)) (i : Nat) (hi : i < l.length) (h15 : lnN l i ≤ 15) : codeC (lnN l) l.length i < 2 ^ lnN l i := by
  by_cases c : lnN l i = 0
  · unfold codeC; rw [if_pos c]; exact Nat.two_pow_pos _
  · have h1 := code_hi (lnN l) l.length i c hi
    have h2 := end_le (nOf l) (h.sum (nOf_zero l)) (lnN l i) h15
    unfold nOf at h2
    omega
/-- The next code of each length, behind k symbols. -/
def nxF (f : Nat → Nat) (a : Nat → Nat) (k j : Nat) : Int := if j = 0 then 0 else ((f j + cnt a j k : Nat) : Int)
theorem nxF_start (f a : Nat → Nat) (h : f 0 = 0) (j : Nat) : toI f j = nxF f a 0 j := by
  unfold nxF toI
  by_cases c : j = 0
  · subst c; rw [if_pos rfl, h]; rfl
  · rw [if_neg c, cnt]; rfl
theorem nxF_zero (f a : Nat → Nat) (k : Nat) (h : a k = 0) (j : Nat) : nxF f a k j = nxF f a (k + 1) j := by
  unfold nxF
  by_cases c : j = 0
  · rw [if_pos c, if_pos c]
  · rw [if_neg c, if_neg c, cnt, if_neg (by omega), Nat.add_zero]
theorem nxF_next (f a : Nat → Nat) (k m : Nat) (h : a k = m) (hm : m ≠ 0) (j : Nat) : updN (nxF f a k) m (nxF f a k m + 1) j = nxF f a (k + 1) j := by
  unfold nxF
  by_cases c : j = m
  · subst c
    rw [updN_same, if_neg hm, if_neg hm, cnt, if_pos h]
    omega
  · rw [updN_other _ _ _ _ c]
    by_cases d : j = 0
    · rw [if_pos d, if_pos d]
    · rw [if_neg d, if_neg d, cnt, if_neg (by omega), Nat.add_zero]
/-- Behind k symbols: the codes. -/
structure Cod (w wr : World) (l : List Int) (g2 g3 k : Nat) : Prop where
  nx : ArrAt wr g2 73 (nxF (fstC (nOf l)) (lnN l) k)
  cs : Cells wr g3 3 l.length (fun j => .int .i64 (if j < k then ((codeC (lnN l) l.length j : Nat) : Int) else 0))
  ne : g2 ≠ g3
  b2 : w.heap.size ≤ g2
  b3 : w.heap.size ≤ g3
  bel : Below w.heap.size w wr
theorem Cod.skip {w wr : World} {l : List Int} {g2 g3 k : Nat} (h : Cod w wr l g2 g3 k) (h0 : lnN l k = 0) : Cod w wr l g2 g3 (k + 1) := by
  obtain ⟨h1, h2, h3, h4, h5, h6⟩ := h
  refine ⟨h1.congr fun j _ => nxF_zero _ _ k h0 j, h2.congr fun j _ => ?_, h3, h4, h5, h6⟩
  by_cases c : j < k
  · rw [if_pos c, if_pos (by omega)]
  · rw [if_neg c]
    by_cases d : j < k + 1
    · obtain rfl : j = k := by omega
      rw [if_pos d]; unfold codeC; rw [if_pos h0]; rfl
    · rw [if_neg d]
theorem Cod.next {w wr : World} {l : List Int} {g2 g3 k m : Nat} (h : Cod w wr l g2 g3 k) (hm : lnN l k = m) (h0 : m ≠ 0) (x : Int) (hx : nxF (fstC (nOf l)) (lnN l) k m = x) :
    Cod w ((wr.setCell ⟨g3, k, none⟩ (.int .i64 x)).setCell ⟨g2, m, none⟩ (.int .i64 (x + 1))) l g2 g3 (k + 1) := by
  obtain ⟨h1, h2, h3, h4, h5, h6⟩ := h
  subst hx
  refine ⟨ArrAt.congr (ArrAt.set (Cells.block h1 (Below.heap_setCell _ ⟨g3, k, none⟩ _ _ h3)) m _) fun j hj => nxF_next _ _ k m hm h0 j,
    Cells.congr (Cells.block (Cells.set h2 k _) (Below.heap_setCell _ ⟨g2, m, none⟩ _ _ (Ne.symm h3))) fun j _ => ?_, h3, h4, h5, (h6.setCell (show w.heap.size ≤ g3 from h5) _).setCell (show w.heap.size ≤ g2 from h4) _⟩
  by_cases c : j = k
  · subst c
    rw [upd_same, if_pos (by omega)]
    have e : codeC (lnN l) l.length j = fstC (nOf l) m + cnt (lnN l) m j := by
      unfold codeC nOf; rw [if_neg (by omega), hm]
    rw [e]; unfold nxF; rw [if_neg h0]
  · unfold upd
    rw [if_neg c]
    dsimp only
    by_cases d : j < k
    · rw [if_pos d, if_pos (by omega)]
    · rw [if_neg d, if_neg (by omega)]
/-- The codes as numbers. -/
def codesL (l : List Int) (e : Int) : List Int := if e = 0 then lstF (fun i => ((codeC (lnN l) l.length i : Nat) : Int)) l.length else []
def Coded (w : World) (l : List Int) (e : Int) (x : Ending) (w' : World) : Prop := ∃ A n cap, x = .returned (.tuple #[.slice A n cap, .int .i64 e]) ∧ IAt (fun k => w.heap.size ≤ k) w' A n cap (codesL l e) ∧ Below w.heap.size w w'
theorem Cod.done {w wr : World} {l : List Int} {g2 g3 : Nat} (h : Cod w wr l g2 g3 l.length) (hl : l.length ≤ 320) : IAt (fun k => w.heap.size ≤ k) wr (some ⟨g3, 0, none⟩) l.length l.length (codesL l 0) := by
  have hc := h.cs.congr (D := fun j => .int .i64 ((codeC (lnN l) l.length j : Nat) : Int)) fun j hj => by rw [if_pos hj]
  have := IAt.of_cells (f := fun i => ((codeC (lnN l) l.length i : Nat) : Int)) hc (by unfold maxLen; omega)
  unfold codesL
  rw [if_pos rfl]
  exact this.weak fun k _ hk => by rw [hk]; exact h.b3
theorem nx_small {l : List Int} (hk : okS (nOf l)) (k m : Nat) (hlt : k < l.length) (hm : lnN l k = m) (h0 : m ≠ 0) (h15 : m ≤ 15) : 0 ≤ nxF (fstC (nOf l)) (lnN l) k m ∧ nxF (fstC (nOf l)) (lnN l) k m < 32768 := by
  have h1 := nOf_end hk m h15
  have h2 := cnt_lt (lnN l) m k l.length hlt hm
  unfold endC at h1
  have h3 : nOf l m = cnt (lnN l) m l.length := cN_pos _ _ _ h0
  unfold nxF
  rw [if_neg h0]
  omega
end Go.Proofs.YtifkldllhbcmkaaDoor
