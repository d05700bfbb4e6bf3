/- A value of several cells put behind a row of the call's own. -/
import Derived.Test.YthlaglhlmbkniaaTzxBlk
namespace Go.Proofs.Ythlaglhlmbkniaa
open Go.RowKit
set_option linter.unusedVariables false

/-- Which blocks may have changed, and where the row lies now. -/
theorem wpList_append_gen {P : Program} {ops : Array Oper} {rest : List Oper} {o : Oper} {a : Act} {Q : Exit → Act → World → Prop} {wr : World} {base : Nat} (e t : TypeId) (z : Value) (sz by' : Nat)
    (hinfo : (P.info? e).map (fun i => (i.zero, i.size, i.bytes)) = some (some z, sz, by')) (hzs : z.cells.size = sz) (hs0 : 0 < sz) (ht : P.underlying t = some (.slice e))
    (hgd : o.guard = none) (s x : Operand) (ho : o.op = .call { callee := .builtin .append, args := #[s, x], argTypes := #[t, t] })
    (A : Option Addr) (n c : Nat) (xs : List Value) (hs : a.eval s = .slice A n c) (h5 : wr.ownsRow base e sz (.slice A n c) n xs) (cs : Array Value) (hcs : cs.size = sz) (hone : cs.all (·.oneCell') = true) (bk : Nat) (hbk : bk = wr.heap.size) (hlow : base ≤ wr.heap.size) (hx : a.eval x = .slice (some ⟨bk, 0, none⟩) 1 1) (hn : n + 1 ≤ maxLen) (hby : (n + 1) * by' ≤ 140737488355328)
    (h : ∀ g c' w', w'.ownsRow base e sz (.slice (some ⟨g, 0, none⟩) (n + 1) c') (n + 1) (xs ++ cs.toList) → Ch (fun k => (Value.slice A n c).ownBlock = some k) wr w' → (∀ k, k < wr.heap.size → (Value.slice A n c).ownBlock ≠ some k → (Value.slice (some ⟨g, 0, none⟩) (n + 1) c').ownBlock ≠ some k) → wpList P ops Q rest (a.put o.dst (.slice (some ⟨g, 0, none⟩) (n + 1) c')) w') : wpList P ops Q (o :: rest) a (wr.alloc (.cells cs e)) := by
  subst hbk
  obtain ⟨i0, hi, hz0, hz1, hz2⟩ := info_parts hinfo
  have hlc : cs.toList.length = sz := by rw [Array.length_toList, hcs]
  refine wpList_append_lies _ hgd s x t ho base e i0 _ sz by' ht hi hz0 hz1 hz2 hzs hs0 _ n _ hs (h5.alloc _) ⟨wr.heap.size, 0, none⟩ 1 1 cs.toList hx (by rw [hlc, Nat.one_mul]) (World.news_of_block (cs := cs) (heap_alloc_new wr _)) (fun u hu => (Array.all_eq_true_iff_forall_mem.1 hone) u (by simpa using hu)) (by decide) hn hby (by simp; omega) _ rfl ?_
  intro g cap1 w' k1 k2 k3 k4
  have hbel : Below base wr w' := (((Below.refl _ _).alloc (Nat.le_refl _) _).mono hlow).grown k2 (by simp; omega) (fun k hk => (own_low h5 k hk).1)
  refine h g cap1 w' k1 ⟨hbel.os, hbel.tape, hbel.output, hbel.size, fun k hk hf => ?_⟩ fun k hk hf e => ?_
  · have e1 := k2.block k (by simp; omega) (fun e => hf e.symm)
    rw [e1]
    exact (bnew wr (.cells cs e)).block k hk
  · simp only [Value.ownBlock, Option.some.injEq] at e
    subst e
    rcases k3 with k3 | k3
    · exact hf k3
    · simp at k3; omega
/-- A row of Items. -/
def itemsL (l : List (Int × (Option Addr × Nat × Nat))) : List Value := l.flatMap fun x => [.int .i64 x.1, .slice x.2.1 x.2.2.1 x.2.2.2]
theorem itemsL_len : ∀ l, (itemsL l).length = l.length * 2
  | [] => rfl
  | x :: l => by
    have := itemsL_len l
    unfold itemsL at this ⊢
    rw [List.flatMap_cons, List.length_append, this, List.length_cons]
    simp; omega
theorem itemsL_snoc (l : List (Int × (Option Addr × Nat × Nat))) (x : Int) (A : Option Addr) (m c : Nat) : itemsL l ++ [.int .i64 x, .slice A m c] = itemsL (l ++ [(x, A, m, c)]) := by unfold itemsL; rw [List.flatMap_append]; simp
theorem itemsL_at : ∀ (l : List (Int × (Option Addr × Nat × Nat))) (j : Nat), j < l.length → (itemsL l)[j * 2]? = some (.int .i64 (gI (l.map (·.1)) j)) ∧ ∃ D m c, (itemsL l)[j * 2 + 1]? = some (.slice D m c)
  | [], j, h => absurd h (by simp)
  | x :: l, 0, _ => ⟨rfl, x.2.1, x.2.2.1, x.2.2.2, rfl⟩
  | x :: l, j + 1, h => by
    have ih := itemsL_at l j (by simpa using h)
    have e : itemsL (x :: l) = [.int .i64 x.1, .slice x.2.1 x.2.2.1 x.2.2.2] ++ itemsL l := by unfold itemsL; rw [List.flatMap_cons]
    rw [e]
    refine ⟨?_, ?_⟩
    · rw [List.getElem?_append_right (by simp; omega)]
      have e2 : (j + 1) * 2 - ([.int .i64 x.1, .slice x.2.1 x.2.2.1 x.2.2.2] : List Value).length = j * 2 := by simp; omega
      rw [e2, ih.1]
      rfl
    · obtain ⟨D, m, c, h2⟩ := ih.2
      refine ⟨D, m, c, ?_⟩
      rw [List.getElem?_append_right (by simp; omega)]
      have e2 : (j + 1) * 2 + 1 - ([.int .i64 x.1, .slice x.2.1 x.2.2.1 x.2.2.2] : List Value).length = j * 2 + 1 := by simp; omega
      rw [e2, h2]
theorem items_own {w : World} {base n : Nat} {A : Option Addr} {m cap : Nat} {l : List (Int × (Option Addr × Nat × Nat))} (h : w.ownsRow base 32 2 (.slice A m cap) n (itemsL l)) : ItAt (fun k => base ≤ k) w A n cap (l.map (·.1)) := by
  have hlen : l.length = n := by have := h.1; rw [itemsL_len] at this; omega
  have hcopy := h
  rcases h.2 with ⟨e1, h0⟩ | ⟨g, cap', cur, e1, hb, hg, hnc, hm, _, _⟩
  · injection e1 with e1 e2 e3
    subst e1 e2 e3
    exact ⟨by simpa using hlen, by omega, Nat.zero_le _, fun h => absurd h (by omega)⟩
  · injection e1 with e1 e2 e3
    subst e1 e2 e3
    refine ⟨by simpa using hlen, by omega, hm, fun _ => ⟨g, 0, rfl, hb, (Array.getElem?_eq_some_iff.1 hg).1, fun j hj => ?_⟩⟩
    obtain ⟨k1, D, m2, c2, k2⟩ := itemsL_at l j (by omega)
    refine ⟨?_, D, m2, c2, ?_⟩
    · rw [Nat.zero_add, hcopy.cellAt (j * 2) (by omega), k1]
    · rw [Nat.zero_add, hcopy.cellAt (j * 2 + 1) (by omega), k2]
theorem infoIt : (Try.prog.info? 32).map (fun i => (i.zero, i.size, i.bytes)) = some (some (.agg #[.int .i64 0, .slice none 0 0]), 2, 32) := by kernel_rfl

end Go.Proofs.Ythlaglhlmbkniaa
