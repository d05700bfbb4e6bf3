/- tzx.block's state in memory, once an ID is read; its ways that read nothing more. -/
import Derived.Test.YthlaglhlmbkniaaTzxTp
namespace Go.Proofs.Ythlaglhlmbkniaa
open Go.RowKit
set_option linter.unusedVariables false
set_option linter.unusedSimpArgs false
set_option maxRecDepth 100000

/-- The boxes of the reader and of the ID, the result's place. -/
structure Bk (F : Nat → Prop) (w u : World) (g : Nat) (l : List Int) (s : Rst) (b1 b2 b4 : Nat) (id : Int) : Prop where
  rs : RS F u g l s
  c1 : u.heap[b1]? = some (.cells #[.pointer (some ⟨g, 0, none⟩)] 64 (0, 0))
  c2 : BIn u b2 blkZ
  c4 : u.heap[b4]? = some (.cells #[.int .i64 id] 3 (0, 0))
  ch : Ch (fun k => k = g) w u
  o1 : g < w.heap.size
  o2 : w.heap.size ≤ b1
  o3 : b1 < b2
  o4 : b2 < b4
  o5 : ∀ i, F i → i < w.heap.size
theorem Bk.rd {F : Nat → Prop} {w u u' : World} {g : Nat} {l : List Int} {s s' : Rst} {b1 b2 b4 : Nat} {id : Int} (h : Bk F w u g l s b1 b2 b4 id) (hr : RS F u' g l s') (hc : Ch (fun k => k = g) u u') : Bk F w u' g l s' b1 b2 b4 id := by
  have h1 := h.o1
  have h2 := h.o2
  have h3 := h.o3
  have h4 := h.o4
  exact ⟨hr, (hc.block b1 (Array.getElem?_eq_some_iff.1 h.c1).1 (by omega)).trans h.c1, h.c2.ch hc (by omega), (hc.block b4 (Array.getElem?_eq_some_iff.1 h.c4).1 (by omega)).trans h.c4, h.ch.then hc, h1, h2, h3, h4, h.o5⟩
theorem Bk.below {F : Nat → Prop} {w u u' : World} {g : Nat} {l : List Int} {s : Rst} {b1 b2 b4 : Nat} {id : Int} (h : Bk F w u g l s b1 b2 b4 id) (hb : Below u.heap.size u u') : Bk F w u' g l s b1 b2 b4 id := h.rd (h.rs.below hb) (Ch.of_below hb)
theorem Bk.drew {F : Nat → Prop} {w u : World} {g : Nat} {l : List Int} {s : Rst} {b1 b2 b4 : Nat} {id : Int} (h : Bk F w u g l s b1 b2 b4 id) : Bk F w u.drew g l s b1 b2 b4 id := h.below (Below.refl _ _).drew
theorem Bk.cells {F : Nat → Prop} {w u : World} {g : Nat} {l : List Int} {s : Rst} {b1 b2 b4 : Nat} {id : Int} (h : Bk F w u g l s b1 b2 b4 id) : u.cell? ⟨b1, 0, none⟩ = some (.pointer (some ⟨g, 0, none⟩)) ∧ u.cell? ⟨b4, 0, none⟩ = some (.int .i64 id) := ⟨cell_of_row u b1 0 _ _ (0, 0) h.c1, cell_of_row u b4 0 _ _ (0, 0) h.c4⟩
/-- What is built is handed back. -/
theorem Bk.made {F G : Nat → Prop} {w u : World} {g : Nat} {l : List Int} {s : Rst} {b1 b2 b4 : Nat} {id : Int} (h : Bk F w u g l s b1 b2 b4 id) {cs : Array Value} {b : Lb} (hv : BV G u cs b) (hG : ∀ k, k < u.heap.size → G k → w.heap.size ≤ k ∧ k ≠ b2) (hid : b.id = id) :
    BlkE F w g l s id (.returned (.agg cs)) (u.setRow b2 cs) ∧ BIn (u.setRow b2 cs) b2 cs := by
  have h1 := h.o1
  have h2 := h.o2
  have h3 := h.o3
  obtain ⟨k1, k2⟩ := h.c2.put hv.size
  have hw : BV (fun k => w.heap.size ≤ k ∧ k ≠ b2) u cs b := hv.weak hG
  refine ⟨⟨cs, b, rfl, hid, (hw.ch k2 fun k hk => hk.2).weak fun k _ hk => hk.1, h.rs.ch k2 (by omega) (fun i hi => by have := h.o5 i hi; omega), h.ch.trans k2 fun i hi => Or.inr (by omega)⟩, k1⟩
theorem Bk.new {F : Nat → Prop} {w : World} {g : Nat} {l : List Int} {s : Rst} (h : RS F w g l s) (hF : ∀ i, F i → i < w.heap.size) {u : World} {s' : Rst} {id : Int} (hr : RS F u g l s') (hc : Ch (fun k => k = g) ((w.alloc (.cells #[.pointer (some ⟨g, 0, none⟩)] 64)).alloc (.cells blkZ 30)) u) :
    Bk F w (u.alloc (.cells #[.int .i64 id] 3)) g l s' w.heap.size (w.heap.size + 1) u.heap.size id := by
  have hg := h.lt
  have hsz := hc.size
  simp at hsz
  have b0 := bnew w (.cells #[.pointer (some ⟨g, 0, none⟩)] 64)
  have b1 := bnew (w.alloc (.cells #[.pointer (some ⟨g, 0, none⟩)] 64)) (.cells blkZ 30)
  have bu := bnew u (.cells #[.int .i64 id] 3)
  have s1 : (w.alloc (.cells #[.pointer (some ⟨g, 0, none⟩)] 64)).heap.size = w.heap.size + 1 := by simp
  refine ⟨hr.below bu, ?_, ⟨?_, rfl⟩, heap_alloc_new u _, ?_, hg, Nat.le_refl _, by omega, by omega, hF⟩
  · exact (bu.block _ (by omega)).trans ((hc.block _ (by simp; omega) (by omega)).trans ((b1.block _ (by simp)).trans (heap_alloc_new w _)))
  · refine (bu.block _ (by omega)).trans ((hc.block _ (by simp) (by omega)).trans ?_)
    rw [← s1]
    exact heap_alloc_new _ _
  · exact (((Ch.of_below b0).less (b1.mono (by simp))).then hc).less (bu.mono (by omega))
theorem bv_of {F : Nat → Prop} {w : World} {l : List (Nat × Value)} {id : Int} (h1 : (bcs l).all (·.oneCell') = true) (h0 : (bcs l)[0]? = some (.int .i64 id)) (h3 : (bcs l)[13]? = some (.slice none 0 0)) (h4 : (bcs l)[14]? = some (.slice none 0 0)) : BV F w (bcs l) ⟨id, [], []⟩ :=
  ⟨bcs_size l, h1, h0, ⟨none, 0, 0, h3, IAt.empty _ _⟩, none, 0, 0, h4, ItAt.empty _ _⟩
theorem bv_ts {F : Nat → Prop} {w : World} {l : List (Nat × Value)} {id : Int} {A : Option Addr} {n c : Nat} {ts : List Int} (ht : IAt F w A n c ts) (h1 : (bcs l).all (·.oneCell') = true) (h0 : (bcs l)[0]? = some (.int .i64 id)) (h3 : (bcs l)[13]? = some (.slice A n c)) (h4 : (bcs l)[14]? = some (.slice none 0 0)) : BV F w (bcs l) ⟨id, ts, []⟩ :=
  ⟨bcs_size l, h1, h0, ⟨A, n, c, h3, ht⟩, none, 0, 0, h4, ItAt.empty _ _⟩
theorem bv_ns {F : Nat → Prop} {w : World} {l : List (Nat × Value)} {id : Int} {A : Option Addr} {n c : Nat} {ns : List Int} (ht : ItAt F w A n c ns) (h1 : (bcs l).all (·.oneCell') = true) (h0 : (bcs l)[0]? = some (.int .i64 id)) (h3 : (bcs l)[13]? = some (.slice none 0 0)) (h4 : (bcs l)[14]? = some (.slice A n c)) : BV F w (bcs l) ⟨id, [], ns⟩ :=
  ⟨bcs_size l, h1, h0, ⟨none, 0, 0, h3, IAt.empty _ _⟩, A, n, c, h4, ht⟩
theorem numV_one {l : List Int} {s : Rst} (h0 : s.e = 0) (h : s.p < l.length) : numV l s 1 = gI l s.p := by
  unfold numV
  rw [takB_yes h0 (by omega)]
  have e := take_gI (l.drop s.p) 0 (by rw [List.length_drop]; omega)
  rw [List.take_zero, List.nil_append, gI_drop, Nat.add_zero] at e
  have e2 : List.take 1 (l.drop s.p) = [gI l s.p] := e
  rw [e2]
  simp [leV]

end Go.Proofs.Ythlaglhlmbkniaa
