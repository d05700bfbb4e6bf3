/- A row of the call's own of rows of bytes. -/
import Derived.Test.YtcodbcfdbkmegaaTapMath
import Derived.Test.YtcodbcfdbkmegaaParts
import Derived.Test.YtcodbcfdbkmegaaOwnKept
import Derived.Test.YtcodbcfdbkmegaaBytesCut
namespace Go.Proofs.Ytcodbcfdbkmegaa
open Go.RowKit
set_option linter.unusedVariables false

theorem infoB24 : (Try.prog.info? 22).map (fun i => (i.zero, i.size, i.bytes)) = some (some (.slice none 0 0), 1, 24) := by kernel_rfl
/-- A row of the call's own, from base on, of rows of bytes in blocks that F allows, none of them in its own block. -/
structure Rows8 (F : Nat → Prop) (base : Nat) (w : World) (A : Option Addr) (n cap : Nat) (L : List (List Int)) : Prop where
  len : L.length = n
  fit : n ≤ cap
  max : cap ≤ maxLen
  low : base ≤ w.heap.size
  is : ∃ xs, w.ownsRow base 22 1 (.slice A n cap) n xs ∧ ∀ j, j < n → ∃ Aj nj cj, xs[j]? = some (.slice Aj nj cj) ∧ BAt8 (fun k => F k ∧ (Value.slice A n cap).ownBlock ≠ some k) w Aj nj cj (gL L j)
theorem Rows8.keep {F : Nat → Prop} {base : Nat} {w w' : World} {A : Option Addr} {n cap : Nat} {L : List (List Int)} (h : Rows8 F base w A n cap L) (hs : w.heap.size ≤ w'.heap.size) (hb : ∀ k, k < w.heap.size → base ≤ k ∨ F k → w'.heap[k]? = w.heap[k]?) : Rows8 F base w' A n cap L := by
  obtain ⟨h1, h2, h3, h4, xs, h5, h6⟩ := h
  refine ⟨h1, h2, h3, Nat.le_trans h4 hs, xs, own_kept' h5 fun k hk e => hb k hk (Or.inl (own_low h5 k e).1), fun j hj => ?_⟩
  obtain ⟨Aj, nj, cj, h7, h8⟩ := h6 j hj
  exact ⟨Aj, nj, cj, h7, h8.keep hs fun k hk hf => hb k hk (Or.inr hf.1)⟩
theorem Rows8.below {F : Nat → Prop} {base : Nat} {w w' : World} {A : Option Addr} {n cap : Nat} {L : List (List Int)} (h : Rows8 F base w A n cap L) (hb : Below w.heap.size w w') : Rows8 F base w' A n cap L := h.keep hb.size fun k hk _ => hb.block k hk
theorem Rows8.ch {F G : Nat → Prop} {base : Nat} {w w' : World} {A : Option Addr} {n cap : Nat} {L : List (List Int)} (h : Rows8 F base w A n cap L) (hb : Ch G w w') (hG : ∀ k, base ≤ k ∨ F k → ¬ G k) : Rows8 F base w' A n cap L := h.keep hb.size fun k hk hf => hb.block k hk (hG k hf)
theorem Rows8.nil (F : Nat → Prop) (base : Nat) (w : World) (h : base ≤ w.heap.size) : Rows8 F base w none 0 0 [] := ⟨rfl, Nat.le_refl _, Nat.zero_le _, h, [], World.ownsRow_nil _ _ _ _, fun j hj => absurd hj (by omega)⟩
theorem Rows8.blk {F : Nat → Prop} {base : Nat} {w : World} {A : Option Addr} {n cap : Nat} {L : List (List Int)} (h : Rows8 F base w A n cap L) (k : Nat) (hk : (Value.slice A n cap).ownBlock = some k) : base ≤ k ∧ k < w.heap.size := by
  obtain ⟨h1, h2, h3, h4, xs, h5, h6⟩ := h
  exact own_low h5 k hk
theorem Rows8.parts {F : Nat → Prop} {base : Nat} {w : World} {A : Option Addr} {n cap : Nat} {L : List (List Int)} (h : Rows8 F base w A n cap L) : Parts (fun k => base ≤ k ∨ F k) w A n cap L := by
  obtain ⟨h1, h2, h3, h4, xs, h5, h6⟩ := h
  refine ⟨h1, h2, h3, fun j hj => ?_⟩
  obtain ⟨Aj, nj, cj, h7, h8⟩ := h6 j hj
  have hcopy := h5
  rcases h5.2 with ⟨_, h0⟩ | ⟨g, cap', cur, e1, hb, hg, hnc, hm, _, _⟩
  · omega
  · injection e1 with e1 e2 e3
    subst e1 e3
    refine ⟨g, 0, Aj, nj, cj, rfl, Or.inl hb, (Array.getElem?_eq_some_iff.1 hg).1, ?_, h8.weak fun k hk hf => Or.inr hf.1⟩
    rw [Nat.zero_add, hcopy.cellAt j (by omega), h7]
/-- Bytes put behind such a row. -/
theorem wpList_append_rows {P : Program} {ops : Array Oper} {rest : List Oper} {o : Oper} {a : Act} {Q : Exit → Act → World → Prop} {wr : World} {F G : Nat → Prop} {base : Nat} (t : TypeId)
    (hinfo : (P.info? 22).map (fun i => (i.zero, i.size, i.bytes)) = some (some (.slice none 0 0), 1, 24)) (ht : P.underlying t = some (.slice 22))
    (hgd : o.guard = none) (s x : Operand) (ho : o.op = .call { callee := .builtin .append, args := #[s, x], argTypes := #[t, t] })
    (A : Option Addr) (n cap : Nat) (L : List (List Int)) (hs : a.eval s = .slice A n cap) (h2 : Rows8 F base wr A n cap L) (Aj : Option Addr) (nj cj : Nat) (l : List Int) (hB : BAt8 G wr Aj nj cj l)
    (hG : ∀ k, k < wr.heap.size → G k → F k ∧ (Value.slice A n cap).ownBlock ≠ some k) (bk : Nat) (hbk : bk = wr.heap.size) (hx : a.eval x = .slice (some ⟨bk, 0, none⟩) 1 1) (hn : n ≤ 1000000)
    (h : ∀ g c' w', Rows8 F base w' (some ⟨g, 0, none⟩) (n + 1) c' (L ++ [l]) → Below base wr w' → wpList P ops Q rest (a.put o.dst (.slice (some ⟨g, 0, none⟩) (n + 1) c')) w') : wpList P ops Q (o :: rest) a (wr.alloc (.cells #[.slice Aj nj cj] 22)) := by
  obtain ⟨i0, hi, hz0, hz1, hz2⟩ := info_parts hinfo
  subst hbk
  obtain ⟨h1, hfit, hmax, hlow, xs, h5, h6⟩ := h2
  refine wpList_append_lies _ hgd s x t ho base 22 i0 _ 1 24 ht hi hz0 hz1 hz2 rfl (by decide) _ n _ hs (h5.alloc _) ⟨wr.heap.size, 0, none⟩ 1 1 [.slice Aj nj cj] hx rfl (cell_one_new _ _ _) (by intro u hu; simp at hu; subst hu; rfl) (by decide) (by unfold maxLen; omega) (by omega) (by simp; omega) _ rfl ?_
  intro g cap1 w' k1 k2 k3 k4
  have hrow : w'.ownsRow base 22 1 (.slice (some ⟨g, 0, none⟩) (n + 1) cap1) (n + 1) (xs ++ [.slice Aj nj cj]) := k1
  obtain ⟨A3, cap3, e3, hn3, hm3⟩ := own_slice hrow
  injection e3 with _ _ e3
  subst e3
  have hbel : Below base wr w' := (((Below.refl _ _).alloc (Nat.le_refl _) _).mono hlow).grown k2 (by simp; omega) (fun k hk => (own_low h5 k hk).1)
  have hlx : xs.length = n := by have := h5.1; simpa using this
  -- what stood in another block stands
  have hold : ∀ k, k < wr.heap.size → (Value.slice A n cap).ownBlock ≠ some k → w'.heap[k]? = wr.heap[k]? := fun k hk hf => by
    have e1 := k2.block k (by simp; omega) (fun e => hf e.symm)
    rw [e1]
    exact (bnew wr (.cells #[.slice Aj nj cj] 22)).block k hk
  have hne : ∀ k, k < wr.heap.size → (Value.slice A n cap).ownBlock ≠ some k → (Value.slice (some ⟨g, 0, none⟩) (n + 1) cap1).ownBlock ≠ some k := fun k hk hf e => by
    simp only [Value.ownBlock, Option.some.injEq] at e
    subst e
    rcases k3 with k3 | k3
    · exact hf k3
    · simp at k3; omega
  refine h g cap1 w' ⟨by simp [h1], hn3, hm3, by have := hbel.size; omega, _, hrow, fun j hj => ?_⟩ hbel
  by_cases e : j < n
  · obtain ⟨A1, n1, c1, h7, h8⟩ := h6 j e
    refine ⟨A1, n1, c1, by rw [List.getElem?_append_left (by omega)]; exact h7, ?_⟩
    rw [gL_left _ _ _ (by omega)]
    exact (h8.weak (G := fun k => k < wr.heap.size ∧ F k ∧ (Value.slice A n cap).ownBlock ≠ some k) fun k hk hf => ⟨hk, hf⟩).keep hbel.size (fun k hk hf => hold k hk hf.2.2) |>.weak fun k _ hf => ⟨hf.2.1, hne k hf.1 hf.2.2⟩
  · obtain rfl : j = n := by omega
    refine ⟨Aj, nj, cj, by rw [List.getElem?_append_right (by omega), hlx, Nat.sub_self]; rfl, ?_⟩
    rw [gL_last _ _ _ h1.symm]
    exact (hB.weak (G := fun k => k < wr.heap.size ∧ F k ∧ (Value.slice A j cap).ownBlock ≠ some k) fun k hk hf => ⟨hk, hG k hk hf⟩).keep hbel.size (fun k hk hf => hold k hk hf.2.2) |>.weak fun k _ hf => ⟨hf.2.1, hne k hf.1 hf.2.2⟩

end Go.Proofs.Ytcodbcfdbkmegaa
