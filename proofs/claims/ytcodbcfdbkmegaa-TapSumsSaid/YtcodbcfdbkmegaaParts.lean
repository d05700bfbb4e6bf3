/- Rows of rows of bytes in memory. No function of the program is named here. -/
import Derived.Test.YtcodbcfdbkmegaaBytes
namespace Go.Proofs.Ytcodbcfdbkmegaa
open Go.RowKit

/-- A row of parts, none of them in block g. -/
structure Parts (F : Nat → Prop) (w : World) (A : Option Addr) (n cap : Nat) (L : List (List Int)) : Prop where
  len : L.length = n
  fit : n ≤ cap
  max : cap ≤ maxLen
  lies : ∀ j, j < n → ∃ b o Aj nj cj, A = some ⟨b, o, none⟩ ∧ F b ∧ b < w.heap.size ∧ w.cell? ⟨b, o + j, none⟩ = some (.slice Aj nj cj) ∧ BAt8 F w Aj nj cj (L.getD j [])
theorem Parts.keep {F : Nat → Prop} {w w' : World} {A : Option Addr} {n cap : Nat} {L : List (List Int)} (h : Parts F w A n cap L) (hs : w.heap.size ≤ w'.heap.size) (hb : ∀ k, k < w.heap.size → F k → w'.heap[k]? = w.heap[k]?) : Parts F w' A n cap L :=
  ⟨h.len, h.fit, h.max, fun j hj => by
    obtain ⟨b, o, Aj, nj, cj, h1, h2, h3, h4, h5⟩ := h.lies j hj
    exact ⟨b, o, Aj, nj, cj, h1, h2, Nat.lt_of_lt_of_le h3 hs, (World.cell?_of_block (a := ⟨b, o + j, none⟩) (hb b h3 h2)).trans h4, h5.keep hs hb⟩⟩
theorem Parts.ch {F G : Nat → Prop} {w w' : World} {A : Option Addr} {n cap : Nat} {L : List (List Int)} (h : Parts F w A n cap L) (hb : Ch G w w') (hF : ∀ k, F k → ¬ G k) : Parts F w' A n cap L := h.keep hb.size fun k hk hf => hb.block k hk (hF k hf)
theorem Parts.below {F : Nat → Prop} {w w' : World} {A : Option Addr} {n cap : Nat} {L : List (List Int)} (h : Parts F w A n cap L) (hb : Below w.heap.size w w') : Parts F w' A n cap L := h.keep hb.size fun k hk _ => hb.block k hk
theorem Parts.weak {F G : Nat → Prop} {w : World} {A : Option Addr} {n cap : Nat} {L : List (List Int)} (h : Parts F w A n cap L) (hF : ∀ k, k < w.heap.size → F k → G k) : Parts G w A n cap L :=
  ⟨h.len, h.fit, h.max, fun j hj => by
    obtain ⟨b, o, Aj, nj, cj, h1, h2, h3, h4, h5⟩ := h.lies j hj
    exact ⟨b, o, Aj, nj, cj, h1, hF b h3 h2, h3, h4, h5.weak hF⟩⟩
/-- Parts of a row that was just made: one. -/
theorem Parts.one {F : Nat → Prop} {w : World} {A : Option Addr} {n cap : Nat} {l : List Int} (h : BAt8 F w A n cap l) (ty : TypeId) (hF : F w.heap.size) : Parts F (w.alloc (.cells #[.slice A n cap] ty)) (some ⟨w.heap.size, 0, none⟩) 1 1 [l] :=
  ⟨rfl, Nat.le_refl _, by unfold maxLen; omega, fun j hj => by
    obtain rfl : j = 0 := by omega
    exact ⟨_, _, A, n, cap, rfl, hF, by simp, by simp, h.below (bnew w _)⟩⟩
theorem Parts.empty (F : Nat → Prop) (w : World) : Parts F w none 0 0 [] := ⟨rfl, Nat.le_refl _, Nat.zero_le _, fun j hj => absurd hj (by omega)⟩

end Go.Proofs.Ytcodbcfdbkmegaa
