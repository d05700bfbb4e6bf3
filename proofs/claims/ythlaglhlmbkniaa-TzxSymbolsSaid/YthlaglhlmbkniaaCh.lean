/- What a call may have changed. No program is named here. -/
import Derived.Test.YthlaglhlmbkniaaKit
import Derived.Deep.QuietTactic
namespace Go.Proofs.Ythlaglhlmbkniaa
open Go.RowKit

/-- Other worlds: all blocks but those of F are as they were. -/
structure Ch (F : Nat → Prop) (w w' : World) : Prop where
  os : w'.os = w.os
  tape : w'.tape = w.tape
  output : w'.output = w.output
  size : w.heap.size ≤ w'.heap.size
  block : ∀ k, k < w.heap.size → ¬ F k → w'.heap[k]? = w.heap[k]?
theorem Ch.of_below {F : Nat → Prop} {w w' : World} (h : Below w.heap.size w w') : Ch F w w' := ⟨h.os, h.tape, h.output, h.size, fun k hk _ => h.block k hk⟩
theorem Ch.refl (F : Nat → Prop) (w : World) : Ch F w w := Ch.of_below (Below.refl _ _)
theorem Ch.trans {F G : Nat → Prop} {a b c : World} (h : Ch F a b) (k : Ch G b c) (hG : ∀ i, G i → F i ∨ a.heap.size ≤ i) : Ch F a c :=
  ⟨k.os.trans h.os, k.tape.trans h.tape, k.output.trans h.output, Nat.le_trans h.size k.size, fun i hi hF => (k.block i (Nat.lt_of_lt_of_le hi h.size) (fun hg => by
    rcases hG i hg with x | x
    · exact hF x
    · omega)).trans (h.block i hi hF)⟩
theorem Ch.below {F : Nat → Prop} {w w' : World} {B : Nat} (h : Ch F w w') (hF : ∀ k, F k → B ≤ k) (hB : B ≤ w.heap.size) : Below B w w' :=
  ⟨h.os, h.tape, h.output, h.size, fun k hk => h.block k (by omega) (fun x => by have := hF k x; omega)⟩
theorem Ch.set {F : Nat → Prop} (w : World) (b j : Nat) (v : Value) (h : F b) : Ch F w (w.setCell ⟨b, j, none⟩ v) :=
  ⟨rfl, rfl, rfl, by simp [World.setCell], fun k _ hk => Below.heap_setCell _ _ _ _ (fun e => by subst e; exact hk h)⟩
theorem Ch.drew {F : Nat → Prop} {w w' : World} (h : Ch F w w') (n : Nat) : Ch F w (w'.drewN n) := ⟨h.os, h.tape, h.output, h.size, h.block⟩

theorem Ch.weak {F G : Nat → Prop} {w w' : World} (h : Ch F w w') (hG : ∀ i, F i → G i) : Ch G w w' := ⟨h.os, h.tape, h.output, h.size, fun k hk hF => h.block k hk fun x => hF (hG k x)⟩
theorem Ch.then {F : Nat → Prop} {a b c : World} (h : Ch F a b) (k : Ch F b c) : Ch F a c := h.trans k fun _ => Or.inl
theorem Ch.less {F : Nat → Prop} {a b c : World} (h : Ch F a b) (k : Below a.heap.size b c) : Ch F a c :=
  ⟨k.os.trans h.os, k.tape.trans h.tape, k.output.trans h.output, Nat.le_trans h.size k.size, fun i hi hF => (k.block i hi).trans (h.block i hi hF)⟩

end Go.Proofs.Ythlaglhlmbkniaa
