/- Bytes copied into a block that is known. -/
import Derived.Test.YtcodbcfdbkmegaaCh
import Derived.Test.YtcodbcfdbkmegaaBigCells
import Derived.Laws.CopyRow
import Derived.Laws.CopyOwn
import Derived.Lib.Hide
namespace Go.Proofs.Ytcodbcfdbkmegaa
open Go.RowKit
set_option maxRecDepth 100000

/-- n bytes lie at an address. -/
def SrcAt (w : World) (sp : Option Addr) (n : Nat) (f : Nat → Int) : Prop := 0 < n → ∃ g o, sp = some ⟨g, o, none⟩ ∧ g < w.heap.size ∧ ∀ j, j < n → w.cell? ⟨g, o + j, none⟩ = some (.int .u8 (f j))
theorem SrcAt.below {w w' : World} {sp : Option Addr} {n : Nat} {f : Nat → Int} (h : SrcAt w sp n f) (hb : Below w.heap.size w w') : SrcAt w' sp n f := fun h0 => by
  obtain ⟨g, o, h1, h2, h3⟩ := h h0
  exact ⟨g, o, h1, Nat.lt_of_lt_of_le h2 hb.size, fun j hj => (hb.cell (p := ⟨g, o + j, none⟩) h2).trans (h3 j hj)⟩
theorem SrcAt.ch {F : Nat → Prop} {w w' : World} {sp : Option Addr} {n : Nat} {f : Nat → Int} (h : SrcAt w sp n f) (hb : Ch F w w') (hF : ∀ g o, sp = some ⟨g, o, none⟩ → ¬ F g) : SrcAt w' sp n f := fun h0 => by
  obtain ⟨g, o, h1, h2, h3⟩ := h h0
  exact ⟨g, o, h1, Nat.lt_of_lt_of_le h2 hb.size, fun j hj => (World.cell?_of_block (a := ⟨g, o + j, none⟩) (hb.block g h2 (hF g o h1))).trans (h3 j hj)⟩
theorem Cells.src {w : World} {g : Nat} {ty : TypeId} {n : Nat} {f : Nat → Int} (h : Cells w g ty n (fun j => .int .u8 (f j))) : SrcAt w (some ⟨g, 0, none⟩) n f := fun _ => ⟨g, 0, rfl, h.lt, fun j hj => by rw [Nat.zero_add]; exact h.cell j hj⟩

/-- Bytes copied into a block that is known. -/
theorem wpList_copy_mine {P : Program} {w : World} {ops : Array Oper} {rest : List Oper} {o : Oper} {a : Act} {Q : Exit → Act → World → Prop} (hgd : o.guard = none) (d s : Operand) (dT sT : TypeId)
    (ho : o.op = .call { callee := .builtin .copy, args := #[d, s], argTypes := #[dT, sT] }) (elem : TypeId) (hu : P.underlying dT = some (.slice elem)) (hsz : (P.info? elem).map (·.size) = some 1)
    (g off dLen dCap : Nat) (sp : Option Addr) (sLen sCap : Nat) (hd : a.eval d = .slice (some ⟨g, off, none⟩) dLen dCap) (hs : a.eval s = .slice sp sLen sCap)
    (ty : TypeId) (n : Nat) (C : Nat → Value) (hC : Cells w g ty n C) (m : Nat) (hm : Nat.min sLen dLen = m) (f : Nat → Int) (hsrc : SrcAt w sp m f) (hfit : off + m ≤ n)
    (h : ∀ w', Hid (Cells w' g ty n (fun j => if off ≤ j ∧ j < off + m then .int .u8 (f (j - off)) else C j)) → Ch (fun k => k = g) w w' → wpList P ops Q rest (a.put o.dst (goInt m)) w') :
    wpList P ops Q (o :: rest) a w := by
  by_cases h0 : 0 < m
  · obtain ⟨gs, os, rfl, hgs, hcell⟩ := hsrc h0
    obtain ⟨A, hA, hAs, hAc⟩ := hC
    have hl : ((List.range m).map fun j => Value.int .u8 (f j)).length = m := by simp
    have := wpList_copy_own (P := P) (w := w) (ops := ops) (rest := rest) (o := o) (a := a) (Q := Q) hgd d s dT sT ho elem hu hsz g off dLen dCap ⟨gs, os, none⟩ sLen sCap hd hs A ty hA ((List.range m).map fun j => Value.int .u8 (f j)) (by rw [hl, hm]) (fun j v hj => by
      have hjm : j < m := by have := (List.getElem?_eq_some_iff.1 hj).1; rwa [hl] at this
      rw [Addr.add_mid, hcell j hjm]
      rw [List.getElem?_map, List.getElem?_range hjm] at hj
      exact hj) (by rw [hl, hAs]; exact hfit) (fun u hu => by obtain ⟨x, _, rfl⟩ := List.mem_map.1 hu; rfl)
    rw [hl] at this
    refine this (h _ (Lib.hid ⟨_, setRow_heap w g _ _ _ _ hA, ?_, fun j hj => ?_⟩) ⟨rfl, rfl, rfl, by simp [World.setRow], fun k _ hk => setRow_other w g k _ hk⟩)
    · simp only [List.size_toArray, List.length_append, List.length_take, List.length_drop, hl, Array.length_toList, hAs]; omega
    · simp only [List.getElem?_toArray]
      by_cases c1 : j < off
      · rw [List.getElem?_append_left (by simp; omega), if_neg (by omega), List.getElem?_take, if_pos c1, Array.getElem?_toList, hAc j hj]
      · rw [List.getElem?_append_right (by simp; omega)]
        have e : (A.toList.take off).length = off := by simp; omega
        rw [e]
        by_cases c2 : j < off + m
        · rw [List.getElem?_append_left (by rw [hl]; omega), if_pos ⟨by omega, c2⟩, List.getElem?_map, List.getElem?_range (by omega)]; rfl
        · rw [List.getElem?_append_right (by rw [hl]; omega), if_neg (by omega), hl, List.getElem?_drop, Array.getElem?_toList, show off + m + (j - off - m) = j by omega, hAc j hj]
  · obtain rfl : m = 0 := by omega
    refine wpList_copy_nothing hgd d s dT sT ho elem hu hsz _ sp dLen dCap sLen sCap hd hs hm (h w (Lib.hid (hC.congr fun j _ => by rw [if_neg (by omega)])) (Ch.refl _ _))


end Go.Proofs.Ytcodbcfdbkmegaa
