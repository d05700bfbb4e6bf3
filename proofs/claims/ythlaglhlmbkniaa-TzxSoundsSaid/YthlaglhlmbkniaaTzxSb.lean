/- A block that is being put together: its Times and its Items grow. -/
import Derived.Test.YthlaglhlmbkniaaTzxApp
namespace Go.Proofs.Ythlaglhlmbkniaa
open Go.RowKit
set_option linter.unusedVariables false
set_option linter.unusedSimpArgs false

theorem all_set {cs : Array Value} {i : Nat} {v : Value} (h : cs.all (·.oneCell') = true) (hv : v.oneCell' = true) : (cs.setIfInBounds i v).all (·.oneCell') = true := by
  rw [Array.all_eq_true_iff_forall_mem] at h ⊢
  intro x hx
  obtain ⟨j, hj, rfl⟩ := Array.mem_iff_getElem.1 hx
  rw [Array.getElem_setIfInBounds (by simpa using hj)]
  split
  · exact hv
  · exact h _ (Array.getElem_mem _)
structure Sb (w0 wr : World) (gb : Nat) (cs : Array Value) (id : Int) (At : Option Addr) (kt ct : Nat) (Ai : Option Addr) (ki ci : Nat) (ns : List Int) : Prop where
  b : BIn wr gb cs
  one : cs.all (·.oneCell') = true
  c0 : cs[0]? = some (.int .i64 id)
  c13 : cs[13]? = some (.slice At kt ct)
  c14 : cs[14]? = some (.slice Ai ki ci)
  rt : wr.ownsRow (gb + 1) 3 1 (.slice At kt ct) kt ((ns.take kt).map i64I)
  ri : ∃ its, wr.ownsRow (gb + 1) 32 2 (.slice Ai ki ci) ki (itemsL its) ∧ its.map (·.1) = ns.take ki
  bel : Below gb w0 wr
theorem Sb.low {w0 wr : World} {gb : Nat} {cs : Array Value} {id : Int} {At : Option Addr} {kt ct : Nat} {Ai : Option Addr} {ki ci : Nat} {ns : List Int} (h : Sb w0 wr gb cs id At kt ct Ai ki ci ns) : gb + 1 ≤ wr.heap.size := h.b.lt
theorem Sb.below {w0 wr w' : World} {gb : Nat} {cs : Array Value} {id : Int} {At : Option Addr} {kt ct : Nat} {Ai : Option Addr} {ki ci : Nat} {ns : List Int} (h : Sb w0 wr gb cs id At kt ct Ai ki ci ns) (hb : Below wr.heap.size wr w') : Sb w0 w' gb cs id At kt ct Ai ki ci ns := by
  obtain ⟨its, hi, hm⟩ := h.ri
  exact ⟨h.b.below hb, h.one, h.c0, h.c13, h.c14, own_kept' h.rt fun i hi _ => hb.block i hi, ⟨its, own_kept' hi fun i hi _ => hb.block i hi, hm⟩, h.bel.trans (hb.mono (by have := h.low; omega))⟩
theorem Sb.times {w0 wr w' : World} {gb : Nat} {cs : Array Value} {id : Int} {At : Option Addr} {kt ct : Nat} {Ai : Option Addr} {ki ci : Nat} {ns : List Int} (h : Sb w0 wr gb cs id At kt ct Ai ki ci ns) {x : Int} (hx : gI ns kt = x) (hk : kt < ns.length) {g' c' : Nat}
    (k1 : w'.ownsRow (gb + 1) 3 1 (.slice (some ⟨g', 0, none⟩) (kt + 1) c') (kt + 1) ((ns.take kt ++ [x]).map i64I)) (k2 : Ch (fun i => (Value.slice At kt ct).ownBlock = some i) wr w') :
    (w'.cell? ⟨gb, 13, none⟩ = some (.slice At kt ct) ∧ w'.frozen? ⟨gb, 13, none⟩ = false) ∧ Sb w0 (w'.setCell ⟨gb, 13, none⟩ (.slice (some ⟨g', 0, none⟩) (kt + 1) c')) gb (cs.setIfInBounds 13 (.slice (some ⟨g', 0, none⟩) (kt + 1) c')) id (some ⟨g', 0, none⟩) (kt + 1) c' Ai ki ci ns := by
  have ha : ∀ i, (Value.slice At kt ct).ownBlock = some i → gb < i := fun i e => by have := own_low h.rt i e; omega
  have hb : BIn w' gb cs := h.b.ch k2 fun e => by have := ha _ e; omega
  have hC := Ch.set (F := fun i => i = gb) w' gb 13 (.slice (some ⟨g', 0, none⟩) (kt + 1) c') rfl
  have hsz := h.b.2
  obtain ⟨its, hi, hm⟩ := h.ri
  have hi' : w'.ownsRow (gb + 1) 32 2 (.slice Ai ki ci) ki (itemsL its) := own_kept' hi fun i hi2 e => k2.block i hi2 fun e' => own_ne hi h.rt (by decide) i e e'
  refine ⟨⟨hb.cell h.c13, hb.frozen 13⟩, hb.set 13 _, all_set h.one rfl, ?_, ?_, ?_, ?_, ⟨its, own_kept' hi' fun i hi2 e => hC.block i hi2 (by have := own_low hi' i e; omega), hm⟩, ?_⟩
  · rw [Array.getElem?_setIfInBounds]; simpa using h.c0
  · rw [Array.getElem?_setIfInBounds]; simp [hsz]
  · rw [Array.getElem?_setIfInBounds]; simpa using h.c14
  · rw [take_gI ns kt hk, hx]
    exact own_kept' k1 fun i hi2 e => hC.block i hi2 (by have := own_low k1 i e; omega)
  · exact (h.bel.trans (k2.below (fun i e => by have := ha _ e; omega) (by have := h.low; omega))).trans (hC.below (fun i e => by omega) (by have := h.low; have := k2.size; omega))
theorem Sb.items {w0 wr w' : World} {gb : Nat} {cs : Array Value} {id : Int} {At : Option Addr} {kt ct : Nat} {Ai : Option Addr} {ki ci : Nat} {ns : List Int} (h : Sb w0 wr gb cs id At kt ct Ai ki ci ns) {its : List (Int × (Option Addr × Nat × Nat))} (hm : its.map (·.1) = ns.take ki) (hi : wr.ownsRow (gb + 1) 32 2 (.slice Ai ki ci) ki (itemsL its)) {x : Int} (hx : gI ns ki = x) (hk : ki < ns.length) {g' c' : Nat}
    (k1 : w'.ownsRow (gb + 1) 32 2 (.slice (some ⟨g', 0, none⟩) (ki + 1) c') (ki + 1) (itemsL its ++ [.int .i64 x, .slice none 0 0])) (k2 : Ch (fun i => (Value.slice Ai ki ci).ownBlock = some i) wr w') :
    (w'.cell? ⟨gb, 14, none⟩ = some (.slice Ai ki ci) ∧ w'.frozen? ⟨gb, 14, none⟩ = false) ∧ Sb w0 (w'.setCell ⟨gb, 14, none⟩ (.slice (some ⟨g', 0, none⟩) (ki + 1) c')) gb (cs.setIfInBounds 14 (.slice (some ⟨g', 0, none⟩) (ki + 1) c')) id At kt ct (some ⟨g', 0, none⟩) (ki + 1) c' ns := by
  have ha : ∀ i, (Value.slice Ai ki ci).ownBlock = some i → gb < i := fun i e => by have := own_low hi i e; omega
  have hb : BIn w' gb cs := h.b.ch k2 fun e => by have := ha _ e; omega
  have hC := Ch.set (F := fun i => i = gb) w' gb 14 (.slice (some ⟨g', 0, none⟩) (ki + 1) c') rfl
  have hsz := h.b.2
  have ht' : w'.ownsRow (gb + 1) 3 1 (.slice At kt ct) kt ((ns.take kt).map i64I) := own_kept' h.rt fun i hi2 e => k2.block i hi2 fun e' => own_ne h.rt hi (by decide) i e e'
  rw [itemsL_snoc] at k1
  refine ⟨⟨hb.cell h.c14, hb.frozen 14⟩, hb.set 14 _, all_set h.one rfl, ?_, ?_, ?_, own_kept' ht' fun i hi2 e => hC.block i hi2 (by have := own_low ht' i e; omega), ⟨_, own_kept' k1 fun i hi2 e => hC.block i hi2 (by have := own_low k1 i e; omega), ?_⟩, ?_⟩
  · rw [Array.getElem?_setIfInBounds]; simpa using h.c0
  · rw [Array.getElem?_setIfInBounds]; simpa using h.c13
  · rw [Array.getElem?_setIfInBounds]; simp [hsz]
  · rw [List.map_append, hm, take_gI ns ki hk, hx]; rfl
  · exact (h.bel.trans (k2.below (fun i e => by have := ha _ e; omega) (by have := h.low; omega))).trans (hC.below (fun i e => by omega) (by have := h.low; have := k2.size; omega))
theorem Sb.new (w0 : World) (id : Int) (ns : List Int) (cs : Array Value) (hs : cs.size = 18) (h1 : cs.all (·.oneCell') = true) (h0 : cs[0]? = some (.int .i64 id)) (h13 : cs[13]? = some (.slice none 0 0)) (h14 : cs[14]? = some (.slice none 0 0)) (W : World) (hb : BIn W w0.heap.size cs) (hbel : Below w0.heap.size w0 W) : Sb w0 W w0.heap.size cs id none 0 0 none 0 0 ns :=
  ⟨hb, h1, h0, h13, h14, by rw [List.take_zero]; exact World.ownsRow_nil _ _ _ _, ⟨[], World.ownsRow_nil _ _ _ _, by rw [List.take_zero]; rfl⟩, hbel⟩
theorem Sb.bv {w0 wr : World} {gb : Nat} {cs : Array Value} {id : Int} {At : Option Addr} {k ct : Nat} {Ai : Option Addr} {ci : Nat} {ns : List Int} (h : Sb w0 wr gb cs id At k ct Ai k ci ns) : BV (fun i => gb < i) wr cs ⟨id, ns.take k, ns.take k⟩ := by
  obtain ⟨its, hi, hm⟩ := h.ri
  exact ⟨h.b.2, h.one, h.c0, ⟨At, k, ct, h.c13, (ints_own h.rt).weak fun i _ hi => by omega⟩, Ai, k, ci, h.c14, by
    have := (items_own hi).weak (G := fun i => gb < i) fun i _ hi => by omega
    rw [hm] at this
    exact this⟩

end Go.Proofs.Ythlaglhlmbkniaa
