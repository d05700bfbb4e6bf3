/- Two rows of ints, told apart by their blocks. -/
import Derived.Test.YtpechajekechlaaHuffNumbers
import Derived.Maps.Range
namespace Go.Proofs.Ytpechajekechlaa
open Go.RowKit

structure Two (w0 wr : World) (v1 v2 : Value) (L1 L2 : List Int) : Prop where
  o1 : wr.ownsRow w0.heap.size 3 1 v1 L1.length (L1.map i64I)
  o2 : wr.ownsRow w0.heap.size 3 1 v2 L2.length (L2.map i64I)
  ap : ∀ k, v1.ownBlock = some k → v2.ownBlock ≠ some k
  bel : Below w0.heap.size w0 wr
theorem Two.start (w0 : World) : Two w0 w0 (.slice none 0 0) (.slice none 0 0) [] [] := ⟨World.ownsRow_nil _ _ _ _, World.ownsRow_nil _ _ _ _, fun k h => by simp [Value.ownBlock] at h, Below.refl _ _⟩
theorem Two.swap {w0 wr : World} {v1 v2 : Value} {L1 L2 : List Int} (h : Two w0 wr v1 v2 L1 L2) : Two w0 wr v2 v1 L2 L1 := ⟨h.o2, h.o1, fun k h1 h2 => h.ap k h2 h1, h.bel⟩
theorem own_kept {w w' : World} {base : Nat} {e : TypeId} {size : Nat} {v : Value} {n : Nat} {xs : List Value} {row : Option Nat} (h : w.ownsRow base e size v n xs) (hg : w.grownBy w' row) (hne : ∀ k, v.ownBlock = some k → row ≠ some k) : w'.ownsRow base e size v n xs := by
  refine ⟨h.1, ?_⟩
  rcases h.2 with hn | ⟨g, cap, cur, rfl, hb', hgg, rest⟩
  · exact .inl hn
  · exact .inr ⟨g, cap, cur, rfl, hb', (hg.block g (Array.getElem?_eq_some_iff.1 hgg).1 (fun e => hne g rfl e.symm)).trans hgg, rest⟩
theorem own_low {w : World} {base : Nat} {e : TypeId} {size : Nat} {v : Value} {n : Nat} {xs : List Value} (h : w.ownsRow base e size v n xs) (k : Nat) (hk : v.ownBlock = some k) : base ≤ k ∧ k < w.heap.size := by
  rcases h.2 with ⟨rfl, _⟩ | ⟨g, cap, cur, rfl, hb', hgg, _⟩
  · simp [Value.ownBlock] at hk
  · simp only [Value.ownBlock, Option.some.injEq] at hk
    subst hk
    exact ⟨hb', (Array.getElem?_eq_some_iff.1 hgg).1⟩
/-- One number put behind the first of the two. -/
theorem wpList_append_two {P : Program} {ops : Array Oper} {rest : List Oper} {o : Oper} {a : Act} {Q : Exit → Act → World → Prop} {w0 wr : World} (t : TypeId)
    (hinfo : (P.info? 3).map (fun i => (i.zero, i.size, i.bytes)) = some (some (.int .i64 0), 1, 8)) (ht : P.underlying t = some (.slice 3))
    (hgd : o.guard = none) (s x : Operand) (ho : o.op = .call { callee := .builtin .append, args := #[s, x], argTypes := #[t, t] })
    (v1 v2 : Value) (L1 L2 : List Int) (hs : a.eval s = v1) (h2 : Two w0 wr v1 v2 L1 L2) (z : Int) (hx : a.eval x = .slice (some ⟨wr.heap.size, 0, none⟩) 1 1) (hn : L1.length ≤ 1000000)
    (h : ∀ g cap w', Two w0 w' (.slice (some ⟨g, 0, none⟩) (L1.length + 1) cap) v2 (L1 ++ [z]) L2 → L1.length + 1 ≤ cap → cap ≤ maxLen → wpList P ops Q rest (a.put o.dst (.slice (some ⟨g, 0, none⟩) (L1.length + 1) cap)) w') : wpList P ops Q (o :: rest) a (wr.alloc (.cells #[.int .i64 z] 3)) := by
  obtain ⟨i0, hi, hz0, hz1, hz2⟩ := info_parts hinfo
  refine wpList_append_lies _ hgd s x t ho w0.heap.size 3 i0 _ 1 8 ht hi hz0 hz1 hz2 rfl (by decide) v1 L1.length _ hs (h2.o1.alloc _) ⟨wr.heap.size, 0, none⟩ 1 1 [.int .i64 z] hx rfl (cell_one_new _ _ _) (by intro u hu; simp at hu; subst hu; rfl) (by decide) (by unfold maxLen; omega) (by omega) (by have := h2.bel.size; simp; omega) _ rfl ?_
  intro g cap w' k1 k2 k3 k4
  have hb := h2.bel
  have hrow : w'.ownsRow w0.heap.size 3 1 (.slice (some ⟨g, 0, none⟩) (L1.length + 1) cap) (L1 ++ [z]).length ((L1 ++ [z]).map i64I) := by
    rw [List.length_append, List.map_append]
    exact k1
  obtain ⟨A3, cap3, e3, hn3, hm3⟩ := own_slice hrow
  injection e3 with _ _ e3
  subst e3
  refine h g cap w' ⟨hrow, ?_, ?_, ?_⟩ (by simpa using hn3) hm3
  · refine own_kept (h2.o2.alloc _) k2 fun k hk e => ?_
    exact h2.ap k e hk
  · intro k hk hv2
    simp only [Value.ownBlock, Option.some.injEq] at hk
    subst hk
    rcases k3 with k3 | k3
    · exact h2.ap _ k3 hv2
    · have := (own_low h2.o2 _ hv2).2
      simp at k3
      omega
  · refine (hb.alloc hb.size _).grown k2 (by have := hb.size; simp; omega) (fun k hk => (own_low h2.o1 k hk).1)
end Go.Proofs.Ytpechajekechlaa
