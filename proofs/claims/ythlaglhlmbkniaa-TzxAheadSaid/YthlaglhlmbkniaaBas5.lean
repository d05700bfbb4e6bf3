/- Texts put together: TzxSb, TzxGs, TzxGeneral, TzxClos. -/
import Derived.Test.YthlaglhlmbkniaaBas3
import Derived.Test.YthlaglhlmbkniaaBas2
import Derived.Test.YthlaglhlmbkniaaBas4
/- A block that is being put together: its Times and its Items grow. -/
namespace Go.Proofs.Ythlaglhlmbkniaa
open Go.RowKit
set_option linter.unusedVariables false
set_option linter.unusedSimpArgs false

theorem all_set {cs : Array Value} {i : Nat} {v : Value} (h : cs.all (·.oneCell') = true) (hv : v.oneCell' = true) : (cs.setIfInBounds i v).all (·.oneCell') = true := by
  rw [Array.all_eq_true_iff_forall_mem] at h ⊢
  intro x hx
  obtain ⟨j, hj, rfl⟩ := Array.mem_iff_getElem.1 hx
  rw [Array.getElem_setIfInBounds (by simpa using hj)]
  split
  · exact hv
  · exact h _ (Array.getElem_mem _)
structure Sb (w0 wr : World) (gb : Nat) (cs : Array Value) (id : Int) (At : Option Addr) (kt ct : Nat) (Ai : Option Addr) (ki ci : Nat) (ns : List Int) : Prop where
  b : BIn wr gb cs
  one : cs.all (·.oneCell') = true
  c0 : cs[0]? = some (.int .i64 id)
  c13 : cs[13]? = some (.slice At kt ct)
  c14 : cs[14]? = some (.slice Ai ki ci)
  rt : wr.ownsRow (gb + 1) 3 1 (.slice At kt ct) kt ((ns.take kt).map i64I)
  ri : ∃ its, wr.ownsRow (gb + 1) 32 2 (.slice Ai ki ci) ki (itemsL its) ∧ its.map (·.1) = ns.take ki
  bel : Below gb w0 wr
theorem Sb.low {w0 wr : World} {gb : Nat} {cs : Array Value} {id : Int} {At : Option Addr} {kt ct : Nat} {Ai : Option Addr} {ki ci : Nat} {ns : List Int} (h : Sb w0 wr gb cs id At kt ct Ai ki ci ns) : gb + 1 ≤ wr.heap.size := h.b.lt
theorem Sb.below {w0 wr w' : World} {gb : Nat} {cs : Array Value} {id : Int} {At : Option Addr} {kt ct : Nat} {Ai : Option Addr} {ki ci : Nat} {ns : List Int} (h : Sb w0 wr gb cs id At kt ct Ai ki ci ns) (hb : Below wr.heap.size wr w') : Sb w0 w' gb cs id At kt ct Ai ki ci ns := by
  obtain ⟨its, hi, hm⟩ := h.ri
  exact ⟨h.b.below hb, h.one, h.c0, h.c13, h.c14, own_kept' h.rt fun i hi _ => hb.block i hi, ⟨its, own_kept' hi fun i hi _ => hb.block i hi, hm⟩, h.bel.trans (hb.mono (by have := h.low; omega))⟩
theorem Sb.new (w0 : World) (id : Int) (ns : List Int) (cs : Array Value) (hs : cs.size = 18) (h1 : cs.all (·.oneCell') = true) (h0 : cs[0]? = some (.int .i64 id)) (h13 : cs[13]? = some (.slice none 0 0)) (h14 : cs[14]? = some (.slice none 0 0)) (W : World) (hb : BIn W w0.heap.size cs) (hbel : Below w0.heap.size w0 W) : Sb w0 W w0.heap.size cs id none 0 0 none 0 0 ns :=
  ⟨hb, h1, h0, h13, h14, by rw [List.take_zero]; exact World.ownsRow_nil _ _ _ _, ⟨[], World.ownsRow_nil _ _ _ _, by rw [List.take_zero]; rfl⟩, hbel⟩
theorem Sb.bv {w0 wr : World} {gb : Nat} {cs : Array Value} {id : Int} {At : Option Addr} {k ct : Nat} {Ai : Option Addr} {ci : Nat} {ns : List Int} (h : Sb w0 wr gb cs id At k ct Ai k ci ns) : BV (fun i => gb < i) wr cs ⟨id, ns.take k, ns.take k⟩ := by
  obtain ⟨its, hi, hm⟩ := h.ri
  exact ⟨h.b.2, h.one, h.c0, ⟨At, k, ct, h.c13, (ints_own h.rt).weak fun i _ hi => by omega⟩, Ai, k, ci, h.c14, by
    have := (items_own hi).weak (G := fun i => gb < i) fun i _ hi => by omega
    rw [hm] at this
    exact this⟩

end Go.Proofs.Ythlaglhlmbkniaa
/- tzx.generalBlock: its contract. -/
namespace Go.Proofs.Ythlaglhlmbkniaa
open Go.RowKit
set_option linter.unusedVariables false
set_option linter.unusedSimpArgs false
set_option maxRecDepth 100000

/-- generalBlock's variable, its boxes, the reader. -/
structure Gs (F : Nat → Prop) (w u : World) (g : Nat) (l : List Int) (s : Rst) (br b2 b3 : Nat) (cs : Array Value) (p sy co ze on : Int) : Prop where
  k : Rk F w u g l s b2 b3 cs
  cr : u.cell? ⟨br, 0, none⟩ = some (.pointer (some ⟨g, 0, none⟩))
  n1 : br ≠ g
  n2 : br ≠ b3
  n3 : b3 ≠ g
  one : cs.all (·.oneCell') = true
  c0 : cs[0]? = some (.int .i64 25)
  c2 : cs[2]? = some (.int .i64 p)
  c3 : cs[3]? = some (.int .i64 sy)
  c8 : cs[8]? = some (.int .i64 co)
  c5 : cs[5]? = some (.int .i64 ze)
  c6 : cs[6]? = some (.int .i64 on)
  cd : ∀ i, i = 12 ∨ i = 15 ∨ i = 16 ∨ i = 17 → ∃ A n c, cs[i]? = some (.slice A n c)
  c13 : cs[13]? = some (.slice none 0 0)
  c14 : cs[14]? = some (.slice none 0 0)
theorem Gs.rd {F : Nat → Prop} {w u u' : World} {g : Nat} {l : List Int} {s s' : Rst} {br b2 b3 : Nat} {cs : Array Value} {p sy co ze on : Int} (h : Gs F w u g l s br b2 b3 cs p sy co ze on) (hr : RS F u' g l s') (hc : Ch (fun k => k = g) u u') : Gs F w u' g l s' br b2 b3 cs p sy co ze on :=
  ⟨h.k.rd hr hc, cell_rd hc h.cr h.n1, h.n1, h.n2, h.n3, h.one, h.c0, h.c2, h.c3, h.c8, h.c5, h.c6, h.cd, h.c13, h.c14⟩
theorem Gs.drew {F : Nat → Prop} {w u : World} {g : Nat} {l : List Int} {s : Rst} {br b2 b3 : Nat} {cs : Array Value} {p sy co ze on : Int} (h : Gs F w u g l s br b2 b3 cs p sy co ze on) : Gs F w u.drew g l s br b2 b3 cs p sy co ze on := h.rd (h.k.r0.rs.below (Below.refl _ _).drew) (Ch.of_below (Below.refl _ _).drew)
theorem cell_other {u : World} {b b' i : Nat} {v x : Value} (h : u.cell? ⟨b, 0, none⟩ = some x) (hb : b ≠ b') : (u.setCell ⟨b', i, none⟩ v).cell? ⟨b, 0, none⟩ = some x := (World.cell?_of_block (a := ⟨b, 0, none⟩) ((Ch.set (F := fun k => k = b') u b' i v rfl).block b (blk_lt h) hb)).trans h
theorem Gs.putP {F : Nat → Prop} {w u : World} {g : Nat} {l : List Int} {s : Rst} {br b2 b3 : Nat} {cs : Array Value} {p sy co ze on : Int} (h : Gs F w u g l s br b2 b3 cs p sy co ze on) (x : Int) : Gs F w (u.setCell ⟨b3, 2, none⟩ (.int .i64 x)) g l s br b2 b3 (cs.setIfInBounds 2 (.int .i64 x)) x sy co ze on := by
  have hsz := h.k.c3.2
  refine ⟨h.k.put 2 _, cell_other h.cr h.n2, h.n1, h.n2, h.n3, all_set h.one rfl, ?_, ?_, ?_, ?_, ?_, ?_, ?_, ?_, ?_⟩
  · rw [Array.getElem?_setIfInBounds, if_neg (by omega)]; exact h.c0
  · rw [Array.getElem?_setIfInBounds, if_pos rfl, if_pos (by omega)]
  · rw [Array.getElem?_setIfInBounds, if_neg (by omega)]; exact h.c3
  · rw [Array.getElem?_setIfInBounds, if_neg (by omega)]; exact h.c8
  · rw [Array.getElem?_setIfInBounds, if_neg (by omega)]; exact h.c5
  · rw [Array.getElem?_setIfInBounds, if_neg (by omega)]; exact h.c6
  · intro j hj
    rw [Array.getElem?_setIfInBounds, if_neg (by omega)]
    exact h.cd j hj
  · rw [Array.getElem?_setIfInBounds, if_neg (by omega)]; exact h.c13
  · rw [Array.getElem?_setIfInBounds, if_neg (by omega)]; exact h.c14
theorem Gs.putS {F : Nat → Prop} {w u : World} {g : Nat} {l : List Int} {s : Rst} {br b2 b3 : Nat} {cs : Array Value} {p sy co ze on : Int} (h : Gs F w u g l s br b2 b3 cs p sy co ze on) (x : Int) : Gs F w (u.setCell ⟨b3, 3, none⟩ (.int .i64 x)) g l s br b2 b3 (cs.setIfInBounds 3 (.int .i64 x)) p x co ze on := by
  have hsz := h.k.c3.2
  refine ⟨h.k.put 3 _, cell_other h.cr h.n2, h.n1, h.n2, h.n3, all_set h.one rfl, ?_, ?_, ?_, ?_, ?_, ?_, ?_, ?_, ?_⟩
  · rw [Array.getElem?_setIfInBounds, if_neg (by omega)]; exact h.c0
  · rw [Array.getElem?_setIfInBounds, if_neg (by omega)]; exact h.c2
  · rw [Array.getElem?_setIfInBounds, if_pos rfl, if_pos (by omega)]
  · rw [Array.getElem?_setIfInBounds, if_neg (by omega)]; exact h.c8
  · rw [Array.getElem?_setIfInBounds, if_neg (by omega)]; exact h.c5
  · rw [Array.getElem?_setIfInBounds, if_neg (by omega)]; exact h.c6
  · intro j hj
    rw [Array.getElem?_setIfInBounds, if_neg (by omega)]
    exact h.cd j hj
  · rw [Array.getElem?_setIfInBounds, if_neg (by omega)]; exact h.c13
  · rw [Array.getElem?_setIfInBounds, if_neg (by omega)]; exact h.c14
theorem Gs.putC {F : Nat → Prop} {w u : World} {g : Nat} {l : List Int} {s : Rst} {br b2 b3 : Nat} {cs : Array Value} {p sy co ze on : Int} (h : Gs F w u g l s br b2 b3 cs p sy co ze on) (x : Int) : Gs F w (u.setCell ⟨b3, 8, none⟩ (.int .i64 x)) g l s br b2 b3 (cs.setIfInBounds 8 (.int .i64 x)) p sy x ze on := by
  have hsz := h.k.c3.2
  refine ⟨h.k.put 8 _, cell_other h.cr h.n2, h.n1, h.n2, h.n3, all_set h.one rfl, ?_, ?_, ?_, ?_, ?_, ?_, ?_, ?_, ?_⟩
  · rw [Array.getElem?_setIfInBounds, if_neg (by omega)]; exact h.c0
  · rw [Array.getElem?_setIfInBounds, if_neg (by omega)]; exact h.c2
  · rw [Array.getElem?_setIfInBounds, if_neg (by omega)]; exact h.c3
  · rw [Array.getElem?_setIfInBounds, if_pos rfl, if_pos (by omega)]
  · rw [Array.getElem?_setIfInBounds, if_neg (by omega)]; exact h.c5
  · rw [Array.getElem?_setIfInBounds, if_neg (by omega)]; exact h.c6
  · intro j hj
    rw [Array.getElem?_setIfInBounds, if_neg (by omega)]
    exact h.cd j hj
  · rw [Array.getElem?_setIfInBounds, if_neg (by omega)]; exact h.c13
  · rw [Array.getElem?_setIfInBounds, if_neg (by omega)]; exact h.c14
theorem Gs.putZ {F : Nat → Prop} {w u : World} {g : Nat} {l : List Int} {s : Rst} {br b2 b3 : Nat} {cs : Array Value} {p sy co ze on : Int} (h : Gs F w u g l s br b2 b3 cs p sy co ze on) (x : Int) : Gs F w (u.setCell ⟨b3, 5, none⟩ (.int .i64 x)) g l s br b2 b3 (cs.setIfInBounds 5 (.int .i64 x)) p sy co x on := by
  have hsz := h.k.c3.2
  refine ⟨h.k.put 5 _, cell_other h.cr h.n2, h.n1, h.n2, h.n3, all_set h.one rfl, ?_, ?_, ?_, ?_, ?_, ?_, ?_, ?_, ?_⟩
  · rw [Array.getElem?_setIfInBounds, if_neg (by omega)]; exact h.c0
  · rw [Array.getElem?_setIfInBounds, if_neg (by omega)]; exact h.c2
  · rw [Array.getElem?_setIfInBounds, if_neg (by omega)]; exact h.c3
  · rw [Array.getElem?_setIfInBounds, if_neg (by omega)]; exact h.c8
  · rw [Array.getElem?_setIfInBounds, if_pos rfl, if_pos (by omega)]
  · rw [Array.getElem?_setIfInBounds, if_neg (by omega)]; exact h.c6
  · intro j hj
    rw [Array.getElem?_setIfInBounds, if_neg (by omega)]
    exact h.cd j hj
  · rw [Array.getElem?_setIfInBounds, if_neg (by omega)]; exact h.c13
  · rw [Array.getElem?_setIfInBounds, if_neg (by omega)]; exact h.c14
theorem Gs.putO {F : Nat → Prop} {w u : World} {g : Nat} {l : List Int} {s : Rst} {br b2 b3 : Nat} {cs : Array Value} {p sy co ze on : Int} (h : Gs F w u g l s br b2 b3 cs p sy co ze on) (x : Int) : Gs F w (u.setCell ⟨b3, 6, none⟩ (.int .i64 x)) g l s br b2 b3 (cs.setIfInBounds 6 (.int .i64 x)) p sy co ze x := by
  have hsz := h.k.c3.2
  refine ⟨h.k.put 6 _, cell_other h.cr h.n2, h.n1, h.n2, h.n3, all_set h.one rfl, ?_, ?_, ?_, ?_, ?_, ?_, ?_, ?_, ?_⟩
  · rw [Array.getElem?_setIfInBounds, if_neg (by omega)]; exact h.c0
  · rw [Array.getElem?_setIfInBounds, if_neg (by omega)]; exact h.c2
  · rw [Array.getElem?_setIfInBounds, if_neg (by omega)]; exact h.c3
  · rw [Array.getElem?_setIfInBounds, if_neg (by omega)]; exact h.c8
  · rw [Array.getElem?_setIfInBounds, if_neg (by omega)]; exact h.c5
  · rw [Array.getElem?_setIfInBounds, if_pos rfl, if_pos (by omega)]
  · intro j hj
    rw [Array.getElem?_setIfInBounds, if_neg (by omega)]
    exact h.cd j hj
  · rw [Array.getElem?_setIfInBounds, if_neg (by omega)]; exact h.c13
  · rw [Array.getElem?_setIfInBounds, if_neg (by omega)]; exact h.c14
theorem Gs.putA {F : Nat → Prop} {w u : World} {g : Nat} {l : List Int} {s : Rst} {br b2 b3 : Nat} {cs : Array Value} {p sy co ze on : Int} (h : Gs F w u g l s br b2 b3 cs p sy co ze on) (i : Nat) (hi : i = 12 ∨ i = 15 ∨ i = 16 ∨ i = 17) (A : Option Addr) (n c : Nat) : Gs F w (u.setCell ⟨b3, i, none⟩ (.slice A n c)) g l s br b2 b3 (cs.setIfInBounds i (.slice A n c)) p sy co ze on := by
  have hsz := h.k.c3.2
  refine ⟨h.k.put i _, cell_other h.cr h.n2, h.n1, h.n2, h.n3, all_set h.one rfl, ?_, ?_, ?_, ?_, ?_, ?_, ?_, ?_, ?_⟩
  · rw [Array.getElem?_setIfInBounds, if_neg (by omega)]; exact h.c0
  · rw [Array.getElem?_setIfInBounds, if_neg (by omega)]; exact h.c2
  · rw [Array.getElem?_setIfInBounds, if_neg (by omega)]; exact h.c3
  · rw [Array.getElem?_setIfInBounds, if_neg (by omega)]; exact h.c8
  · rw [Array.getElem?_setIfInBounds, if_neg (by omega)]; exact h.c5
  · rw [Array.getElem?_setIfInBounds, if_neg (by omega)]; exact h.c6
  · intro j hj
    rw [Array.getElem?_setIfInBounds]
    by_cases e : i = j
    · rw [if_pos e, if_pos (by omega)]
      exact ⟨A, n, c, rfl⟩
    · rw [if_neg e]
      exact h.cd j hj
  · rw [Array.getElem?_setIfInBounds, if_neg (by omega)]; exact h.c13
  · rw [Array.getElem?_setIfInBounds, if_neg (by omega)]; exact h.c14
theorem Gs.bv {F : Nat → Prop} {w u : World} {g : Nat} {l : List Int} {s : Rst} {br b2 b3 : Nat} {cs : Array Value} {p sy co ze on : Int} (h : Gs F w u g l s br b2 b3 cs p sy co ze on) (v : World) : BV (fun _ => False) v cs ⟨25, [], []⟩ := ⟨h.k.c3.2, h.one, h.c0, ⟨none, 0, 0, h.c13, IAt.empty _ _⟩, none, 0, 0, h.c14, ItAt.empty _ _⟩
theorem Gs.new {F : Nat → Prop} {w u : World} {g : Nat} {l : List Int} {s : Rst} {br b2 : Nat} (h : R0 F w u g l s b2) (cr : u.cell? ⟨br, 0, none⟩ = some (.pointer (some ⟨g, 0, none⟩))) (n1 : br ≠ g) (x : Int) :
    Gs F w ((u.alloc (.cells blkZ 30)).setRow u.heap.size (bcs [(0, .int .i64 25), (1, .int .i64 x)])) g l s br b2 u.heap.size (bcs [(0, .int .i64 25), (1, .int .i64 x)]) 0 0 0 0 0 := by
  have hk := h.var (bcs_size [(0, .int .i64 25), (1, .int .i64 x)])
  have hb1 := BIn.new u (cs := blkZ) rfl
  obtain ⟨hb2, hc2⟩ := hb1.put (cs := bcs [(0, .int .i64 25), (1, .int .i64 x)]) (bcs_size _)
  have hb : Below u.heap.size u ((u.alloc (.cells blkZ 30)).setRow u.heap.size (bcs [(0, .int .i64 25), (1, .int .i64 x)])) := (bnew u _).trans (hc2.below (fun k hk => by rw [hk]; exact Nat.le_refl _) (by simp))
  have hlt := blk_lt cr
  have hlt' : br < u.heap.size := hlt
  have hg := h.rs.lt
  refine ⟨hk, (hb.cell (p := ⟨br, 0, none⟩) hlt').trans cr, n1, by omega, by omega, by kernel_rfl, by kernel_rfl, by kernel_rfl, by kernel_rfl, by kernel_rfl, by kernel_rfl, by kernel_rfl, ?_, by kernel_rfl, by kernel_rfl⟩
  rintro i (rfl | rfl | rfl | rfl)
  · exact ⟨none, 0, 0, by kernel_rfl⟩
  · exact ⟨none, 0, 0, by kernel_rfl⟩
  · exact ⟨none, 0, 0, by kernel_rfl⟩
  · exact ⟨none, 0, 0, by kernel_rfl⟩

end Go.Proofs.Ythlaglhlmbkniaa
/- tzx.generalBlock: its contract. -/
namespace Go.Proofs.Ythlaglhlmbkniaa
open Go.RowKit
set_option linter.unusedVariables false
set_option linter.unusedSimpArgs false
set_option maxRecDepth 100000
attribute [local simp ↓ high] blkLoad_as blkStore_as blkAlloc_as blkBuild_as

set_option maxHeartbeats 12800000 in
theorem general_any (F : Nat → Prop) (w : World) (g : Nat) (l : List Int) (s : Rst) (h : Hid (RS F w g l s)) (hF : Hid (∀ i, F i → i < w.heap.size)) (hl : l.length ≤ 1000000) (h8 : Hid (Byte8 l)) :
    Calls Try.prog 49 #[.pointer (some ⟨g, 0, none⟩)] w (BlkE F w g l (generalS l s) 25) := by
  have hal := run_blkAlloc
  have hmf : ∀ (fn : Fn) (first cap : Array Value) (w : World), (Instr.makeFunc fn first cap).run Try.prog w = .ok (.func fn first cap) w := fun _ _ _ _ => rfl
  have N2 := Lib.hid (fun u t (hr : Hid (RS F u g l t)) => num_any F u g l t hr hl 2 2 rfl (by decide) (by decide))
  have N4 := Lib.hid (fun u t (hr : Hid (RS F u g l t)) => num_any F u g l t hr hl 4 4 rfl (by decide) (by decide))
  have N1 := Lib.hid (fun u t (hr : Hid (RS F u g l t)) => num_any F u g l t hr hl 1 1 rfl (by decide) (by decide))
  have hbd : ∀ (x : Int) u, (blkBuild #[(0, .int .i64 25), (1, .int .i64 x)]).run Try.prog u = .ok (.agg (bcs [(0, .int .i64 25), (1, .int .i64 x)])) u := fun x u => run_build u _ _ _ (show Try.prog.built 30 [(0, .int .i64 25), (1, .int .i64 x)] = some _ by kernel_rfl)
  have hg := h.out.lt
  have hb0 := bnew w (.cells #[.pointer (some ⟨g, 0, none⟩)] 64)
  have hb1 := bnew (w.alloc (.cells #[.pointer (some ⟨g, 0, none⟩)] 64)) (.cells blkZ 30)
  have cr : ((w.alloc (.cells #[.pointer (some ⟨g, 0, none⟩)] 64)).alloc (.cells blkZ 30)).cell? ⟨w.heap.size, 0, none⟩ = some (.pointer (some ⟨g, 0, none⟩)) := (hb1.cell (p := ⟨w.heap.size, 0, none⟩) (by simp)).trans (cell_of_row _ _ 0 _ _ (0, 0) (heap_alloc_new w _))
  have e1 : (w.alloc (.cells #[.pointer (some ⟨g, 0, none⟩)] 64)).heap.size = w.heap.size + 1 := by simp
  have HK0 : Hid (R0 F w ((w.alloc (.cells #[.pointer (some ⟨g, 0, none⟩)] 64)).alloc (.cells blkZ 30)) g l s (w.heap.size + 1)) := Lib.hid ⟨(h.out.below hb0).below hb1, by rw [← e1]; exact BIn.new _ rfl, (Ch.of_below hb0).less (hb1.mono (by simp)), hg, by omega, hF.out⟩
  have HCR := Lib.hid cr
  have HNe : Hid (w.heap.size ≠ g) := Lib.hid (by omega)
  obtain ⟨s1, q1⟩ : ∃ t, takS l s 2 = t := ⟨_, rfl⟩
  obtain ⟨reps, v1⟩ : ∃ v, numV l s1 4 = v := ⟨_, rfl⟩
  obtain ⟨s2, q2⟩ : ∃ t, takS l s1 4 = t := ⟨_, rfl⟩
  obtain ⟨pi, v2⟩ : ∃ v, numV l s2 1 = v := ⟨_, rfl⟩
  obtain ⟨s3, q3⟩ : ∃ t, takS l s2 1 = t := ⟨_, rfl⟩
  obtain ⟨sy, v3⟩ : ∃ v, numV l s3 1 = v := ⟨_, rfl⟩
  obtain ⟨s4, q4⟩ : ∃ t, takS l s3 1 = t := ⟨_, rfl⟩
  obtain ⟨co, v4⟩ : ∃ v, numV l s4 4 = v := ⟨_, rfl⟩
  obtain ⟨s5, q5⟩ : ∃ t, takS l s4 4 = t := ⟨_, rfl⟩
  obtain ⟨ze, v5⟩ : ∃ v, numV l s5 1 = v := ⟨_, rfl⟩
  obtain ⟨s6, q6⟩ : ∃ t, takS l s5 1 = t := ⟨_, rfl⟩
  obtain ⟨on, v6⟩ : ∃ v, numV l s6 1 = v := ⟨_, rfl⟩
  obtain ⟨s7, q7⟩ : ∃ t, takS l s6 1 = t := ⟨_, rfl⟩
  have HG : Hid (generalS l s = genB l ⟨reps, pi, sy, co, ze, on⟩ (genA l ⟨reps, pi, sy, co, ze, on⟩ s7)) := Lib.hid (by
    unfold generalS genT genV
    rw [q1, q2, q3, q4, q5, q6, q7, v1, v2, v3, v4, v5, v6])
  have hr0 := numV_bd h8.out s1 4
  have hp0 := numV_bd h8.out s2 1
  have hs0 := numV_bd h8.out s3 1
  have hc0 := numV_bd h8.out s4 4
  have hz0 := numV_bd h8.out s5 1
  have ho0 := numV_bd h8.out s6 1
  rw [v1] at hr0; rw [v2] at hp0; rw [v3] at hs0; rw [v4] at hc0; rw [v5] at hz0; rw [v6] at ho0
  have HBd : Hid ((0 ≤ reps ∧ reps < 4294967296) ∧ (0 ≤ pi ∧ pi < 256) ∧ (0 ≤ sy ∧ sy < 256) ∧ (0 ≤ co ∧ co < 4294967296) ∧ (0 ≤ ze ∧ ze < 256) ∧ (0 ≤ on ∧ on < 256)) := Lib.hid ⟨hr0, hp0, hs0, hc0, hz0, ho0⟩
  have Q := Lib.hid (And.intro q1 (And.intro q2 (And.intro q3 (And.intro q4 (And.intro q5 (And.intro q6 q7))))))
  have V := Lib.hid (And.intro v1 (And.intro v2 (And.intro v3 (And.intro v4 (And.intro v5 v6)))))
  obtain ⟨br, hbr⟩ : ∃ br, w.heap.size = br := ⟨_, rfl⟩
  rw [hbr] at HCR HK0 HNe
  clear q1 q2 q3 q4 q5 q6 q7 v1 v2 v3 v4 v5 v6 hr0 hp0 hs0 hc0 hz0 ho0 hg hb0 hb1 e1 h cr
  have cr := HCR.out
  go_enter Try.func49, Try.ntmps49
  go_wp2_with fail
  clear hbr
  refine (N2.out _ _ (Lib.hid HK0.out.rs)).mono ?_
  rintro x u1 ⟨rfl, hr, hc⟩
  rw [Q.out.1] at hr
  have K1 := Lib.hid (HK0.out.rd hr hc)
  have cr1 := cell_rd hc HCR.out HNe.out
  clear hr hc cr
  generalize numV l s 2 = x
  have hst := run_blkStore (BIn.new u1 (cs := blkZ) rfl) (bcs_size [(0, .int .i64 25), (1, .int .i64 x)]) (by kernel_rfl)
  have KG := Lib.hid (Gs.new K1.out cr1 HNe.out x)
  obtain ⟨W2, hW2⟩ : ∃ W2, (u1.alloc (.cells blkZ 30)).setRow u1.heap.size (bcs [(0, .int .i64 25), (1, .int .i64 x)]) = W2 := ⟨_, rfl⟩
  obtain ⟨b3, hb3⟩ : ∃ b3, u1.heap.size = b3 := ⟨_, rfl⟩
  obtain ⟨cs, hcs⟩ : ∃ cs, bcs [(0, .int .i64 25), (1, .int .i64 x)] = cs := ⟨_, rfl⟩
  have hbd1 := hbd x
  clear hbd
  rw [hW2, hcs] at KG hst
  rw [hb3] at KG hst
  rw [hcs] at hbd1
  have cr2 := KG.out.cr
  clear hW2 hcs
  go_wp2_with fail
  clear hb3 hst hbd1 cr1
  refine (N4.out _ _ (Lib.hid KG.out.k.r0.rs)).mono ?_
  rintro x2 u2 ⟨rfl, hr, hc⟩
  rw [Q.out.2.1] at hr
  rw [V.out.1]
  have K2 := Lib.hid (KG.out.rd hr hc)
  have cr3 := K2.out.cr
  have K2d := Lib.hid K2.out.drew
  clear hr hc cr2
  go_wp2_with fail
  first | refine wp_region_noPanic ?_ | skip
  refine wp_region_U (n := 5) (S := (fun u : World => u.cell? ⟨br, 0, none⟩ = some (.pointer (some ⟨g, 0, none⟩)))) (by kernel_rfl) (by kernel_rfl) (cr3) (fun hHeld => ?_)
  refine wpAnyU_take (i := 0) (v := ?v1) rfl (by kernel_rfl) (by kernel_rfl) (by kernel_rfl) (by kernel_rfl) (fun _ _ _ h => h) (Or.inl ⟨by rfl, ?hy1⟩) (by assumption) ?rest1
  case hy1 => (intro w hSw; (try dsimp only at hSw); go_simp; try with_reducible rfl)
  try simp only [Act.put, List.getElem_toArray, List.getElem_cons_succ, List.getElem_cons_zero, List.setIfInBounds_toArray, List.set_cons_zero, List.set_cons_succ]
  refine wpAnyU_take (i := 2) (v := ?v2) rfl (by kernel_rfl) (by kernel_rfl) (by kernel_rfl) (by kernel_rfl) (fun _ _ _ h => h) (Or.inl ⟨by rfl, ?hy2⟩) (by assumption) ?rest2
  case hy2 => (intro w hSw; (try dsimp only at hSw); go_simp; try with_reducible rfl)
  try simp only [Act.put, List.getElem_toArray, List.getElem_cons_succ, List.getElem_cons_zero, List.setIfInBounds_toArray, List.set_cons_zero, List.set_cons_succ]
  refine wpAnyU_ready (i := 1) (by kernel_rfl) (by kernel_rfl) rfl (fun K hK => ?_)
  go_simp
  refine (((N1.out _ _ (Lib.hid K2d.out.k.r0.rs)))).mono ?_
  rintro e w' ⟨rfl, hr, hc⟩
  go_wp2_with fail
  refine hK.out _ _ ((K2d.out.rd hr hc).cr) (fun hHeld => ?_)
  clear hK K
  try simp only [Act.put, List.getElem_toArray, List.getElem_cons_succ, List.getElem_cons_zero, List.setIfInBounds_toArray, List.set_cons_zero, List.set_cons_succ]
  rw [Q.out.2.2.1] at hr
  rw [V.out.2.1]
  have K3 := Lib.hid (K2d.out.rd hr hc)
  clear hr hc
  refine wpAnyU_take (i := 4) (v := ?v3) rfl (by kernel_rfl) (by kernel_rfl) (by kernel_rfl) (by kernel_rfl) (fun _ _ _ h => h) (Or.inl ⟨by rfl, ?hy3⟩) (by assumption) ?rest3
  case hy3 => (intro w hSw; (try dsimp only at hSw); go_simp; try with_reducible rfl)
  try simp only [Act.put, List.getElem_toArray, List.getElem_cons_succ, List.getElem_cons_zero, List.setIfInBounds_toArray, List.set_cons_zero, List.set_cons_succ]
  refine wpAnyU_ready (i := 3) (by kernel_rfl) (by kernel_rfl) rfl (fun K hK => ?_)
  go_simp
  refine (((N1.out _ _ (Lib.hid K3.out.k.r0.rs)))).mono ?_
  rintro e w' ⟨rfl, hr, hc⟩
  go_wp2_with fail
  refine hK.out _ _ ((K3.out.rd hr hc).cr) (fun hHeld => ?_)
  clear hK K
  try simp only [Act.put, List.getElem_toArray, List.getElem_cons_succ, List.getElem_cons_zero, List.setIfInBounds_toArray, List.set_cons_zero, List.set_cons_succ]
  rw [Q.out.2.2.2.1] at hr
  rw [V.out.2.2.1]
  have K4 := Lib.hid (K3.out.rd hr hc)
  clear hr hc
  refine wpAnyU_tail rfl (by kernel_rfl) ?_
  simp only [List.drop_succ_cons, List.drop_zero]
  have a2 := K4.out.k.c3.cell K4.out.c2
  have a3 := K4.out.k.c3.cell K4.out.c3
  have f2 := K4.out.k.c3.frozen 2
  have f3 := K4.out.k.c3.frozen 3
  have K5 := Lib.hid ((K4.out.putP pi).putS sy)
  go_wp2_with fail
  refine NoPanic.normal ?_
  clear a2 a3 f2 f3 hHeld cr3 K2 K2d K3 K4
  generalize cs.setIfInBounds 2 (.int .i64 pi) = cs1 at *
  generalize cs1.setIfInBounds 3 (.int .i64 sy) = cs2 at *
  generalize World.setCell (World.setCell _ _ _) _ _ = u5 at *
  have cr5 := K5.out.cr
  go_wp2_with fail
  refine (N4.out _ _ (Lib.hid K5.out.k.r0.rs)).mono ?_
  rintro x6 u6 ⟨rfl, hr, hc⟩
  rw [Q.out.2.2.2.2.1] at hr
  rw [V.out.2.2.2.1]
  have K6 := Lib.hid (K5.out.rd hr hc)
  clear hr hc cr5
  have a8 := K6.out.k.c3.cell K6.out.c8
  have f8 := K6.out.k.c3.frozen 8
  have K7 := Lib.hid (K6.out.putC co)
  have K7d := Lib.hid K7.out.drew
  have cr7 := K7.out.cr
  go_wp2_with fail
  clear a8 f8 K5 K6
  generalize cs2.setIfInBounds 8 (.int .i64 co) = cs3 at *
  generalize World.setCell u6 _ _ = u7 at *
  first | refine wp_region_noPanic ?_ | skip
  refine wp_region_U (n := 5) (S := (fun u : World => u.cell? ⟨br, 0, none⟩ = some (.pointer (some ⟨g, 0, none⟩)))) (by kernel_rfl) (by kernel_rfl) (cr7) (fun hHeld => ?_)
  refine wpAnyU_take (i := 0) (v := ?v4) rfl (by kernel_rfl) (by kernel_rfl) (by kernel_rfl) (by kernel_rfl) (fun _ _ _ h => h) (Or.inl ⟨by rfl, ?hy4⟩) (by assumption) ?rest4
  case hy4 => (intro w hSw; (try dsimp only at hSw); go_simp; try with_reducible rfl)
  try simp only [Act.put, List.getElem_toArray, List.getElem_cons_succ, List.getElem_cons_zero, List.setIfInBounds_toArray, List.set_cons_zero, List.set_cons_succ]
  refine wpAnyU_take (i := 2) (v := ?v5) rfl (by kernel_rfl) (by kernel_rfl) (by kernel_rfl) (by kernel_rfl) (fun _ _ _ h => h) (Or.inl ⟨by rfl, ?hy5⟩) (by assumption) ?rest5
  case hy5 => (intro w hSw; (try dsimp only at hSw); go_simp; try with_reducible rfl)
  try simp only [Act.put, List.getElem_toArray, List.getElem_cons_succ, List.getElem_cons_zero, List.setIfInBounds_toArray, List.set_cons_zero, List.set_cons_succ]
  refine wpAnyU_ready (i := 1) (by kernel_rfl) (by kernel_rfl) rfl (fun K hK => ?_)
  go_simp
  refine (((N1.out _ _ (Lib.hid K7d.out.k.r0.rs)))).mono ?_
  rintro e w' ⟨rfl, hr, hc⟩
  go_wp2_with fail
  refine hK.out _ _ ((K7d.out.rd hr hc).cr) (fun hHeld => ?_)
  clear hK K
  try simp only [Act.put, List.getElem_toArray, List.getElem_cons_succ, List.getElem_cons_zero, List.setIfInBounds_toArray, List.set_cons_zero, List.set_cons_succ]
  rw [Q.out.2.2.2.2.2.1] at hr
  rw [V.out.2.2.2.2.1]
  have K8 := Lib.hid (K7d.out.rd hr hc)
  clear hr hc
  refine wpAnyU_take (i := 4) (v := ?v6) rfl (by kernel_rfl) (by kernel_rfl) (by kernel_rfl) (by kernel_rfl) (fun _ _ _ h => h) (Or.inl ⟨by rfl, ?hy6⟩) (by assumption) ?rest6
  case hy6 => (intro w hSw; (try dsimp only at hSw); go_simp; try with_reducible rfl)
  try simp only [Act.put, List.getElem_toArray, List.getElem_cons_succ, List.getElem_cons_zero, List.setIfInBounds_toArray, List.set_cons_zero, List.set_cons_succ]
  refine wpAnyU_ready (i := 3) (by kernel_rfl) (by kernel_rfl) rfl (fun K hK => ?_)
  go_simp
  refine (((N1.out _ _ (Lib.hid K8.out.k.r0.rs)))).mono ?_
  rintro e w' ⟨rfl, hr, hc⟩
  go_wp2_with fail
  refine hK.out _ _ ((K8.out.rd hr hc).cr) (fun hHeld => ?_)
  clear hK K
  try simp only [Act.put, List.getElem_toArray, List.getElem_cons_succ, List.getElem_cons_zero, List.setIfInBounds_toArray, List.set_cons_zero, List.set_cons_succ]
  rw [Q.out.2.2.2.2.2.2] at hr
  rw [V.out.2.2.2.2.2]
  have K9 := Lib.hid (K8.out.rd hr hc)
  clear hr hc
  refine wpAnyU_tail rfl (by kernel_rfl) ?_
  simp only [List.drop_succ_cons, List.drop_zero]
  have a5 := K9.out.k.c3.cell K9.out.c5
  have a6 := K9.out.k.c3.cell K9.out.c6
  have f5 := K9.out.k.c3.frozen 5
  have f6 := K9.out.k.c3.frozen 6
  have KA := Lib.hid ((K9.out.putZ ze).putO on)
  go_wp2_with fail
  refine NoPanic.normal ?_
  clear a5 a6 f5 f6 hHeld cr7 K7 K7d K8 K9
  generalize cs3.setIfInBounds 5 (.int .i64 ze) = cs4 at *
  generalize cs4.setIfInBounds 6 (.int .i64 on) = cs5 at *
  generalize World.setCell (World.setCell _ _ _) _ _ = uA at *
  clear N1 N2 N4 Q V
  by_cases hre : 0 < reps
  · have dre : decide (0 < reps) = true := decide_eq_true hre
    obtain ⟨ms, hms⟩ : ∃ ms : Nat, manyV sy = ms := ⟨(manyV sy).toNat, by have := (manyV_bd HBd.out.2.2.1.1 HBd.out.2.2.1.2).1; omega⟩
    obtain ⟨pn, hpn⟩ : ∃ pn : Nat, pi = pn := ⟨pi.toNat, by have := HBd.out.2.1.1; omega⟩
    obtain ⟨rn, hrn⟩ : ∃ rn : Nat, reps = rn := ⟨reps.toNat, by omega⟩
    have hms1 : 1 ≤ ms ∧ ms ≤ 256 := by have := manyV_bd HBd.out.2.2.1.1 HBd.out.2.2.1.2; omega
    have hpn1 : pn ≤ 1000 := by have := HBd.out.2.1.2; omega
    have hrn1 : rn ≤ 4294967296 := by have := HBd.out.1.2; omega
    have HGA : Hid (genA l ⟨reps, pi, sy, co, ze, on⟩ s7 = listS (repS l (manyV sy)) rn (alphS l ms pn s7)) := Lib.hid (by
      unfold genA
      show (if 0 < reps then _ else _) = _
      rw [if_pos hre]
      show listS (repS l (manyV sy)) reps.toNat (alphS l (manyV sy).toNat pi.toNat s7) = _
      rw [hms, hpn, hrn, Int.toNat_natCast, Int.toNat_natCast, Int.toNat_natCast])
    have HMs := Lib.hid (fun u => many_any sy u)
    have hmv : (if sy = 0 then 256 else sy) = (ms : Int) := hms
    rw [hmv] at HMs
    have HAs := Lib.hid (fun u t (hr : Hid (RS F u g l t)) hFu => alph_any F u g l t hr hFu hl h8 ms pn (by omega) hpn1)
    have HLs := Lib.hid (fun u t (hr : Hid (RS F u g l t)) (hFu : Hid (∀ i, F i → i < u.heap.size)) (cr : u.cell? ⟨br, 0, none⟩ = some (.pointer (some ⟨g, 0, none⟩))) (c3 : u.cell? ⟨b3, 3, none⟩ = some (.int .i64 sy)) (n1 : br ≠ g) (n3 : b3 ≠ g) => listRep_any F u g l t (repS l (manyV sy)) (.pointer (some ⟨br, 0, none⟩)) (.pointer (some ⟨b3, 0, none⟩)) hr hFu hl rn hrn1 _ rfl (Lib.hid fun u' t' hr' hch => rep_one F u' g l t' br b3 sy hr' (Lib.hid fun i hi => Nat.lt_of_lt_of_le (hFu.out i hi) hch.out.size) hl (cell_rd hch.out cr n1) (cell_rd hch.out c3 n3) n1 n3))
    have dre' : decide (0 < rn) = true := decide_eq_true (by omega)
    subst hpn hrn
    clear hmv hms hre
    go_wp2_with fail
    have cra := KA.out.cr
    have cma := KA.out.k.c3.cell KA.out.c3
    have cla := KA.out.k.c3.cell KA.out.c2
    have KAd := Lib.hid KA.out.drew
    go_wp2_with fail
    first | refine wp_region_noPanic ?_ | skip
    refine wp_region_U (n := 7) (S := (fun u : World => u.cell? ⟨br, 0, none⟩ = some (.pointer (some ⟨g, 0, none⟩)) ∧ u.cell? ⟨b3, 3, none⟩ = some (.int .i64 sy) ∧ u.cell? ⟨b3, 2, none⟩ = some (.int .i64 (pn : Nat)))) (by kernel_rfl) (by kernel_rfl) (⟨cra, cma, cla⟩) (fun hHeld => ?_)
    refine wpAnyU_take (i := 0) (v := ?v7) rfl (by kernel_rfl) (by kernel_rfl) (by kernel_rfl) (by kernel_rfl) (fun _ _ _ h => h) (Or.inl ⟨by rfl, ?hy7⟩) (by assumption) ?rest7
    case hy7 => (intro w hSw; (try dsimp only at hSw); go_simp; try with_reducible rfl)
    try simp only [Act.put, List.getElem_toArray, List.getElem_cons_succ, List.getElem_cons_zero, List.setIfInBounds_toArray, List.set_cons_zero, List.set_cons_succ]
    refine wpAnyU_take (i := 1) (v := ?v8) rfl (by kernel_rfl) (by kernel_rfl) (by kernel_rfl) (by kernel_rfl) (fun _ _ _ h => h) (Or.inl ⟨by rfl, ?hy8⟩) (by assumption) ?rest8
    case hy8 => (intro w hSw; (try dsimp only at hSw); go_simp; try with_reducible rfl)
    try simp only [Act.put, List.getElem_toArray, List.getElem_cons_succ, List.getElem_cons_zero, List.setIfInBounds_toArray, List.set_cons_zero, List.set_cons_succ]
    refine wpAnyU_take (i := 2) (v := ?v9) rfl (by kernel_rfl) (by kernel_rfl) (by kernel_rfl) (by kernel_rfl) (fun _ _ _ h => h) (Or.inl ⟨by rfl, ?hy9⟩) (by assumption) ?rest9
    case hy9 => (intro w hSw; (try dsimp only at hSw); go_simp; try with_reducible rfl)
    try simp only [Act.put, List.getElem_toArray, List.getElem_cons_succ, List.getElem_cons_zero, List.setIfInBounds_toArray, List.set_cons_zero, List.set_cons_succ]
    refine wpAnyU_take (i := 4) (v := ?v10) rfl (by kernel_rfl) (by kernel_rfl) (by kernel_rfl) (by kernel_rfl) (fun _ _ _ h => h) (Or.inl ⟨by rfl, ?hy10⟩) (by assumption) ?rest10
    case hy10 => (intro w hSw; (try dsimp only at hSw); go_simp; try with_reducible rfl)
    try simp only [Act.put, List.getElem_toArray, List.getElem_cons_succ, List.getElem_cons_zero, List.setIfInBounds_toArray, List.set_cons_zero, List.set_cons_succ]
    refine wpAnyU_take (i := 5) (v := ?v11) rfl (by kernel_rfl) (by kernel_rfl) (by kernel_rfl) (by kernel_rfl) (fun _ _ _ h => h) (Or.inl ⟨by rfl, ?hy11⟩) (by assumption) ?rest11
    case hy11 => (intro w hSw; (try dsimp only at hSw); go_simp; try with_reducible rfl)
    try simp only [Act.put, List.getElem_toArray, List.getElem_cons_succ, List.getElem_cons_zero, List.setIfInBounds_toArray, List.set_cons_zero, List.set_cons_succ]
    refine wpAnyU_ready (i := 3) (by kernel_rfl) (by kernel_rfl) rfl (fun K hK => ?_)
    go_simp
    refine (((HMs.out _))).mono ?_
    rintro e w' ⟨rfl, rfl⟩
    go_wp2_with fail
    refine hK.out _ _ (⟨cra, cma, cla⟩) (fun hHeld => ?_)
    clear hK K
    try simp only [Act.put, List.getElem_toArray, List.getElem_cons_succ, List.getElem_cons_zero, List.setIfInBounds_toArray, List.set_cons_zero, List.set_cons_succ]
    refine wpAnyU_ready (i := 6) (by kernel_rfl) (by kernel_rfl) rfl (fun K hK => ?_)
    go_simp
    refine (((HAs.out _ _ (Lib.hid KAd.out.k.r0.rs) (Lib.hid fun i hi => Nat.lt_of_lt_of_le (hF.out i hi) KAd.out.k.r0.ch.size)))).mono ?_
    rintro e w' ⟨Aa, na, ca, rfl, hr, hc⟩
    go_wp2_with fail
    refine hK.out _ _ (⟨(KAd.out.rd hr hc).cr, (KAd.out.rd hr hc).k.c3.cell (KAd.out.rd hr hc).c3, (KAd.out.rd hr hc).k.c3.cell (KAd.out.rd hr hc).c2⟩) (fun hHeld => ?_)
    clear hK K
    try simp only [Act.put, List.getElem_toArray, List.getElem_cons_succ, List.getElem_cons_zero, List.setIfInBounds_toArray, List.set_cons_zero, List.set_cons_succ]
    have KAe := Lib.hid (KAd.out.rd hr hc)
    clear hr hc
    refine wpAnyU_tail rfl (by kernel_rfl) ?_
    simp only [List.drop_succ_cons, List.drop_zero]
    obtain ⟨Aoa, noa, coa, ha⟩ := KAe.out.cd 15 (by omega)
    have ada := KAe.out.k.c3.cell ha
    have fda := KAe.out.k.c3.frozen 15
    have KB := Lib.hid (KAe.out.putA 15 (by omega) Aa na ca)
    go_wp2_with fail
    refine NoPanic.normal ?_
    clear ada fda ha hHeld cra cma cla KA KAd KAe
    generalize cs5.setIfInBounds 15 (.slice Aa na ca) = cs5a at *
    generalize World.setCell _ _ _ = ua at *
    have crb := KB.out.cr
    have HLr := Lib.hid (HLs.out _ _ (Lib.hid KB.out.k.r0.rs) (Lib.hid fun i hi => Nat.lt_of_lt_of_le (hF.out i hi) KB.out.k.r0.ch.size) KB.out.cr (KB.out.k.c3.cell KB.out.c3) KB.out.n1 KB.out.n3)
    go_wp2_with fail
    refine HLr.out.mono ?_
    rintro x9 u9 ⟨Ar, nr, cr', rfl, hr, hc⟩
    have KC := Lib.hid (KB.out.rd hr hc)
    clear hr hc HLr crb
    obtain ⟨Aor, nor, cor, hor⟩ := KC.out.cd 17 (by omega)
    have adr := KC.out.k.c3.cell hor
    have fdr := KC.out.k.c3.frozen 17
    have KD := Lib.hid (KC.out.putA 17 (by omega) Ar nr cr')
    clear hor KB KC
    have c8t := KD.out.k.c3.cell KD.out.c8
    by_cases hco : 0 < co
    · have dco : decide (0 < co) = true := decide_eq_true hco
      obtain ⟨mo, hmo⟩ : ∃ mo : Nat, manyV on = mo := ⟨(manyV on).toNat, by have := (manyV_bd HBd.out.2.2.2.2.2.1 HBd.out.2.2.2.2.2.2).1; omega⟩
      obtain ⟨zn, hzn⟩ : ∃ zn : Nat, ze = zn := ⟨ze.toNat, by have := HBd.out.2.2.2.2.1.1; omega⟩
      obtain ⟨cn, hcn⟩ : ∃ cn : Nat, co = cn := ⟨co.toNat, by omega⟩
      have hmo1 : 1 ≤ mo ∧ mo ≤ 256 := by have := manyV_bd HBd.out.2.2.2.2.2.1 HBd.out.2.2.2.2.2.2; omega
      have hzn1 : zn ≤ 1000 := by have := HBd.out.2.2.2.2.1.2; omega
      have hcn1 : cn ≤ 4294967296 := by have := HBd.out.2.2.2.1.2; omega
      have HEQ : Hid (generalS l s = streamS l (alphS l mo zn (listS (repS l (manyV sy)) rn (alphS l ms pn s7))) cn (mo : Nat) (leastN (mo : Nat))) := Lib.hid (by
        rw [HG.out, HGA.out]
        unfold genB
        show (if 0 < co then _ else _) = _
        rw [if_pos hco]
        show streamS l (alphS l (manyV on).toNat ze.toNat _) co.toNat (manyV on) (leastN (manyV on)) = _
        rw [hmo, hzn, hcn, Int.toNat_natCast, Int.toNat_natCast, Int.toNat_natCast])
      have HMo := Lib.hid (fun u => many_any on u)
      have hmv : (if on = 0 then 256 else on) = (mo : Int) := hmo
      rw [hmv] at HMo
      have HAo := Lib.hid (fun u t (hr : Hid (RS F u g l t)) hFu => alph_any F u g l t hr hFu hl h8 mo zn (by omega) hzn1)
      have HSo := Lib.hid (fun u t (hr : Hid (RS F u g l t)) => stream_any F u g l t hr hl cn hcn1 (mo : Nat) (by omega) (by omega) _ rfl)
      have dco' : decide (0 < cn) = true := decide_eq_true (by omega)
      subst hzn hcn
      clear hmv hmo hco
      go_wp2_with fail
      clear c8t adr fdr
      generalize cs5a.setIfInBounds 17 (.slice Ar nr cr') = csD at *
      generalize World.setCell _ _ _ = uD at *
      have crt := KD.out.cr
      have cmt := KD.out.k.c3.cell KD.out.c6
      have clt := KD.out.k.c3.cell KD.out.c5
      have KDd := Lib.hid KD.out.drew
      go_wp2_with fail
      first | refine wp_region_noPanic ?_ | skip
      refine wp_region_U (n := 7) (S := (fun u : World => u.cell? ⟨br, 0, none⟩ = some (.pointer (some ⟨g, 0, none⟩)) ∧ u.cell? ⟨b3, 6, none⟩ = some (.int .i64 on) ∧ u.cell? ⟨b3, 5, none⟩ = some (.int .i64 (zn : Nat)))) (by kernel_rfl) (by kernel_rfl) (⟨crt, cmt, clt⟩) (fun hHeld => ?_)
      refine wpAnyU_take (i := 0) (v := ?v12) rfl (by kernel_rfl) (by kernel_rfl) (by kernel_rfl) (by kernel_rfl) (fun _ _ _ h => h) (Or.inl ⟨by rfl, ?hy12⟩) (by assumption) ?rest12
      case hy12 => (intro w hSw; (try dsimp only at hSw); go_simp; try with_reducible rfl)
      try simp only [Act.put, List.getElem_toArray, List.getElem_cons_succ, List.getElem_cons_zero, List.setIfInBounds_toArray, List.set_cons_zero, List.set_cons_succ]
      refine wpAnyU_take (i := 1) (v := ?v13) rfl (by kernel_rfl) (by kernel_rfl) (by kernel_rfl) (by kernel_rfl) (fun _ _ _ h => h) (Or.inl ⟨by rfl, ?hy13⟩) (by assumption) ?rest13
      case hy13 => (intro w hSw; (try dsimp only at hSw); go_simp; try with_reducible rfl)
      try simp only [Act.put, List.getElem_toArray, List.getElem_cons_succ, List.getElem_cons_zero, List.setIfInBounds_toArray, List.set_cons_zero, List.set_cons_succ]
      refine wpAnyU_take (i := 2) (v := ?v14) rfl (by kernel_rfl) (by kernel_rfl) (by kernel_rfl) (by kernel_rfl) (fun _ _ _ h => h) (Or.inl ⟨by rfl, ?hy14⟩) (by assumption) ?rest14
      case hy14 => (intro w hSw; (try dsimp only at hSw); go_simp; try with_reducible rfl)
      try simp only [Act.put, List.getElem_toArray, List.getElem_cons_succ, List.getElem_cons_zero, List.setIfInBounds_toArray, List.set_cons_zero, List.set_cons_succ]
      refine wpAnyU_take (i := 4) (v := ?v15) rfl (by kernel_rfl) (by kernel_rfl) (by kernel_rfl) (by kernel_rfl) (fun _ _ _ h => h) (Or.inl ⟨by rfl, ?hy15⟩) (by assumption) ?rest15
      case hy15 => (intro w hSw; (try dsimp only at hSw); go_simp; try with_reducible rfl)
      try simp only [Act.put, List.getElem_toArray, List.getElem_cons_succ, List.getElem_cons_zero, List.setIfInBounds_toArray, List.set_cons_zero, List.set_cons_succ]
      refine wpAnyU_take (i := 5) (v := ?v16) rfl (by kernel_rfl) (by kernel_rfl) (by kernel_rfl) (by kernel_rfl) (fun _ _ _ h => h) (Or.inl ⟨by rfl, ?hy16⟩) (by assumption) ?rest16
      case hy16 => (intro w hSw; (try dsimp only at hSw); go_simp; try with_reducible rfl)
      try simp only [Act.put, List.getElem_toArray, List.getElem_cons_succ, List.getElem_cons_zero, List.setIfInBounds_toArray, List.set_cons_zero, List.set_cons_succ]
      refine wpAnyU_ready (i := 3) (by kernel_rfl) (by kernel_rfl) rfl (fun K hK => ?_)
      go_simp
      refine (((HMo.out _))).mono ?_
      rintro e w' ⟨rfl, rfl⟩
      go_wp2_with fail
      refine hK.out _ _ (⟨crt, cmt, clt⟩) (fun hHeld => ?_)
      clear hK K
      try simp only [Act.put, List.getElem_toArray, List.getElem_cons_succ, List.getElem_cons_zero, List.setIfInBounds_toArray, List.set_cons_zero, List.set_cons_succ]
      refine wpAnyU_ready (i := 6) (by kernel_rfl) (by kernel_rfl) rfl (fun K hK => ?_)
      go_simp
      refine (((HAo.out _ _ (Lib.hid KDd.out.k.r0.rs) (Lib.hid fun i hi => Nat.lt_of_lt_of_le (hF.out i hi) KDd.out.k.r0.ch.size)))).mono ?_
      rintro e w' ⟨At, nt, ct, rfl, hr, hc⟩
      go_wp2_with fail
      refine hK.out _ _ (⟨(KDd.out.rd hr hc).cr, (KDd.out.rd hr hc).k.c3.cell (KDd.out.rd hr hc).c6, (KDd.out.rd hr hc).k.c3.cell (KDd.out.rd hr hc).c5⟩) (fun hHeld => ?_)
      clear hK K
      try simp only [Act.put, List.getElem_toArray, List.getElem_cons_succ, List.getElem_cons_zero, List.setIfInBounds_toArray, List.set_cons_zero, List.set_cons_succ]
      have KDe := Lib.hid (KDd.out.rd hr hc)
      clear hr hc
      refine wpAnyU_tail rfl (by kernel_rfl) ?_
      simp only [List.drop_succ_cons, List.drop_zero]
      obtain ⟨Aot, not, cot, ht⟩ := KDe.out.cd 16 (by omega)
      have adt := KDe.out.k.c3.cell ht
      have fdt := KDe.out.k.c3.frozen 16
      have KT := Lib.hid (KDe.out.putA 16 (by omega) At nt ct)
      go_wp2_with fail
      refine NoPanic.normal ?_
      clear adt fdt ht hHeld crt cmt clt KD KDd KDe
      generalize csD.setIfInBounds 16 (.slice At nt ct) = csDt at *
      generalize World.setCell _ _ _ = ut at *
      have crs := KT.out.cr
      have c8s := KT.out.k.c3.cell KT.out.c8
      have c6s := KT.out.k.c3.cell KT.out.c6
      have KTd := Lib.hid KT.out.drew
      go_wp2_with fail
      first | refine wp_region_noPanic ?_ | skip
      refine wp_region_U (n := 7) (S := (fun u : World => u.cell? ⟨br, 0, none⟩ = some (.pointer (some ⟨g, 0, none⟩)) ∧ u.cell? ⟨b3, 8, none⟩ = some (.int .i64 (cn : Nat)) ∧ u.cell? ⟨b3, 6, none⟩ = some (.int .i64 on))) (by kernel_rfl) (by kernel_rfl) (⟨crs, c8s, c6s⟩) (fun hHeld => ?_)
      refine wpAnyU_take (i := 0) (v := ?v17) rfl (by kernel_rfl) (by kernel_rfl) (by kernel_rfl) (by kernel_rfl) (fun _ _ _ h => h) (Or.inl ⟨by rfl, ?hy17⟩) (by assumption) ?rest17
      case hy17 => (intro w hSw; (try dsimp only at hSw); go_simp; try with_reducible rfl)
      try simp only [Act.put, List.getElem_toArray, List.getElem_cons_succ, List.getElem_cons_zero, List.setIfInBounds_toArray, List.set_cons_zero, List.set_cons_succ]
      refine wpAnyU_take (i := 1) (v := ?v18) rfl (by kernel_rfl) (by kernel_rfl) (by kernel_rfl) (by kernel_rfl) (fun _ _ _ h => h) (Or.inl ⟨by rfl, ?hy18⟩) (by assumption) ?rest18
      case hy18 => (intro w hSw; (try dsimp only at hSw); go_simp; try with_reducible rfl)
      try simp only [Act.put, List.getElem_toArray, List.getElem_cons_succ, List.getElem_cons_zero, List.setIfInBounds_toArray, List.set_cons_zero, List.set_cons_succ]
      refine wpAnyU_take (i := 2) (v := ?v19) rfl (by kernel_rfl) (by kernel_rfl) (by kernel_rfl) (by kernel_rfl) (fun _ _ _ h => h) (Or.inl ⟨by rfl, ?hy19⟩) (by assumption) ?rest19
      case hy19 => (intro w hSw; (try dsimp only at hSw); go_simp; try with_reducible rfl)
      try simp only [Act.put, List.getElem_toArray, List.getElem_cons_succ, List.getElem_cons_zero, List.setIfInBounds_toArray, List.set_cons_zero, List.set_cons_succ]
      refine wpAnyU_take (i := 3) (v := ?v20) rfl (by kernel_rfl) (by kernel_rfl) (by kernel_rfl) (by kernel_rfl) (fun _ _ _ h => h) (Or.inl ⟨by rfl, ?hy20⟩) (by assumption) ?rest20
      case hy20 => (intro w hSw; (try dsimp only at hSw); go_simp; try with_reducible rfl)
      try simp only [Act.put, List.getElem_toArray, List.getElem_cons_succ, List.getElem_cons_zero, List.setIfInBounds_toArray, List.set_cons_zero, List.set_cons_succ]
      refine wpAnyU_take (i := 4) (v := ?v21) rfl (by kernel_rfl) (by kernel_rfl) (by kernel_rfl) (by kernel_rfl) (fun _ _ _ h => h) (Or.inl ⟨by rfl, ?hy21⟩) (by assumption) ?rest21
      case hy21 => (intro w hSw; (try dsimp only at hSw); go_simp; try with_reducible rfl)
      try simp only [Act.put, List.getElem_toArray, List.getElem_cons_succ, List.getElem_cons_zero, List.setIfInBounds_toArray, List.set_cons_zero, List.set_cons_succ]
      refine wpAnyU_ready (i := 5) (by kernel_rfl) (by kernel_rfl) rfl (fun K hK => ?_)
      go_simp
      refine (((HMo.out _))).mono ?_
      rintro e w' ⟨rfl, rfl⟩
      go_wp2_with fail
      refine hK.out _ _ (⟨crs, c8s, c6s⟩) (fun hHeld => ?_)
      clear hK K
      try simp only [Act.put, List.getElem_toArray, List.getElem_cons_succ, List.getElem_cons_zero, List.setIfInBounds_toArray, List.set_cons_zero, List.set_cons_succ]
      refine wpAnyU_ready (i := 6) (by kernel_rfl) (by kernel_rfl) rfl (fun K hK => ?_)
      go_simp
      refine (((HSo.out _ _ (Lib.hid KTd.out.k.r0.rs)))).mono ?_
      rintro e w' ⟨As, ns, cs', rfl, hr, hc⟩
      go_wp2_with fail
      refine hK.out _ _ (⟨(KTd.out.rd hr hc).cr, (KTd.out.rd hr hc).k.c3.cell (KTd.out.rd hr hc).c8, (KTd.out.rd hr hc).k.c3.cell (KTd.out.rd hr hc).c6⟩) (fun hHeld => ?_)
      clear hK K
      try simp only [Act.put, List.getElem_toArray, List.getElem_cons_succ, List.getElem_cons_zero, List.setIfInBounds_toArray, List.set_cons_zero, List.set_cons_succ]
      have KTe := Lib.hid (KTd.out.rd hr hc)
      clear hr hc
      refine wpAnyU_tail rfl (by kernel_rfl) ?_
      simp only [List.drop_succ_cons, List.drop_zero]
      obtain ⟨Aos, nos, cos, hs⟩ := KTe.out.cd 12 (by omega)
      have ads := KTe.out.k.c3.cell hs
      have fds := KTe.out.k.c3.frozen 12
      have KU := Lib.hid (KTe.out.putA 12 (by omega) As ns cs')
      go_wp2_with fail
      refine NoPanic.normal ?_
      clear ads fds hs hHeld crs c8s c6s KT KTd KTe
      generalize csDt.setIfInBounds 12 (.slice As ns cs') = csU at *
      generalize World.setCell _ _ _ = uU at *
      have hld := run_blkLoad KU.out.k.c3.mid
      have hst := run_blkStore KU.out.k.r0.c2 (KU.out.bv w).size (KU.out.bv w).one
      have HE := Lib.hid (HEQ.out ▸ KU.out.k.r0.made (KU.out.bv _))
      go_wp2_with fail
      exact bodyPost_ret (results_blk rfl _ HE.out.2 rfl) rfl HE.out.1
    · have dco : decide (0 < co) = false := decide_eq_false hco
      have HEQ : Hid (generalS l s = (listS (repS l (manyV sy)) rn (alphS l ms pn s7))) := Lib.hid (by
        rw [HG.out, HGA.out]
        unfold genB
        show (if 0 < co then _ else _) = _
        rw [if_neg hco])
      clear hco
      have hld := run_blkLoad KD.out.k.c3.mid
      have hst := run_blkStore KD.out.k.r0.c2 (KD.out.bv w).size (KD.out.bv w).one
      have HE := Lib.hid (HEQ.out ▸ KD.out.k.r0.made (KD.out.bv _))
      go_wp2_with fail
      exact bodyPost_ret (results_blk rfl _ HE.out.2 rfl) rfl HE.out.1
  · have dre : decide (0 < reps) = false := decide_eq_false hre
    have HGA : Hid (genA l ⟨reps, pi, sy, co, ze, on⟩ s7 = s7) := Lib.hid (by
      unfold genA
      show (if 0 < reps then _ else _) = _
      rw [if_neg hre])
    clear hre
    have c8t := KA.out.k.c3.cell KA.out.c8
    by_cases hco : 0 < co
    · have dco : decide (0 < co) = true := decide_eq_true hco
      obtain ⟨mo, hmo⟩ : ∃ mo : Nat, manyV on = mo := ⟨(manyV on).toNat, by have := (manyV_bd HBd.out.2.2.2.2.2.1 HBd.out.2.2.2.2.2.2).1; omega⟩
      obtain ⟨zn, hzn⟩ : ∃ zn : Nat, ze = zn := ⟨ze.toNat, by have := HBd.out.2.2.2.2.1.1; omega⟩
      obtain ⟨cn, hcn⟩ : ∃ cn : Nat, co = cn := ⟨co.toNat, by omega⟩
      have hmo1 : 1 ≤ mo ∧ mo ≤ 256 := by have := manyV_bd HBd.out.2.2.2.2.2.1 HBd.out.2.2.2.2.2.2; omega
      have hzn1 : zn ≤ 1000 := by have := HBd.out.2.2.2.2.1.2; omega
      have hcn1 : cn ≤ 4294967296 := by have := HBd.out.2.2.2.1.2; omega
      have HEQ : Hid (generalS l s = streamS l (alphS l mo zn s7) cn (mo : Nat) (leastN (mo : Nat))) := Lib.hid (by
        rw [HG.out, HGA.out]
        unfold genB
        show (if 0 < co then _ else _) = _
        rw [if_pos hco]
        show streamS l (alphS l (manyV on).toNat ze.toNat _) co.toNat (manyV on) (leastN (manyV on)) = _
        rw [hmo, hzn, hcn, Int.toNat_natCast, Int.toNat_natCast, Int.toNat_natCast])
      have HMo := Lib.hid (fun u => many_any on u)
      have hmv : (if on = 0 then 256 else on) = (mo : Int) := hmo
      rw [hmv] at HMo
      have HAo := Lib.hid (fun u t (hr : Hid (RS F u g l t)) hFu => alph_any F u g l t hr hFu hl h8 mo zn (by omega) hzn1)
      have HSo := Lib.hid (fun u t (hr : Hid (RS F u g l t)) => stream_any F u g l t hr hl cn hcn1 (mo : Nat) (by omega) (by omega) _ rfl)
      have dco' : decide (0 < cn) = true := decide_eq_true (by omega)
      subst hzn hcn
      clear hmv hmo hco
      go_wp2_with fail
      clear c8t
      have crt := KA.out.cr
      have cmt := KA.out.k.c3.cell KA.out.c6
      have clt := KA.out.k.c3.cell KA.out.c5
      have KAd := Lib.hid KA.out.drew
      go_wp2_with fail
      first | refine wp_region_noPanic ?_ | skip
      refine wp_region_U (n := 7) (S := (fun u : World => u.cell? ⟨br, 0, none⟩ = some (.pointer (some ⟨g, 0, none⟩)) ∧ u.cell? ⟨b3, 6, none⟩ = some (.int .i64 on) ∧ u.cell? ⟨b3, 5, none⟩ = some (.int .i64 (zn : Nat)))) (by kernel_rfl) (by kernel_rfl) (⟨crt, cmt, clt⟩) (fun hHeld => ?_)
      refine wpAnyU_take (i := 0) (v := ?v22) rfl (by kernel_rfl) (by kernel_rfl) (by kernel_rfl) (by kernel_rfl) (fun _ _ _ h => h) (Or.inl ⟨by rfl, ?hy22⟩) (by assumption) ?rest22
      case hy22 => (intro w hSw; (try dsimp only at hSw); go_simp; try with_reducible rfl)
      try simp only [Act.put, List.getElem_toArray, List.getElem_cons_succ, List.getElem_cons_zero, List.setIfInBounds_toArray, List.set_cons_zero, List.set_cons_succ]
      refine wpAnyU_take (i := 1) (v := ?v23) rfl (by kernel_rfl) (by kernel_rfl) (by kernel_rfl) (by kernel_rfl) (fun _ _ _ h => h) (Or.inl ⟨by rfl, ?hy23⟩) (by assumption) ?rest23
      case hy23 => (intro w hSw; (try dsimp only at hSw); go_simp; try with_reducible rfl)
      try simp only [Act.put, List.getElem_toArray, List.getElem_cons_succ, List.getElem_cons_zero, List.setIfInBounds_toArray, List.set_cons_zero, List.set_cons_succ]
      refine wpAnyU_take (i := 2) (v := ?v24) rfl (by kernel_rfl) (by kernel_rfl) (by kernel_rfl) (by kernel_rfl) (fun _ _ _ h => h) (Or.inl ⟨by rfl, ?hy24⟩) (by assumption) ?rest24
      case hy24 => (intro w hSw; (try dsimp only at hSw); go_simp; try with_reducible rfl)
      try simp only [Act.put, List.getElem_toArray, List.getElem_cons_succ, List.getElem_cons_zero, List.setIfInBounds_toArray, List.set_cons_zero, List.set_cons_succ]
      refine wpAnyU_take (i := 4) (v := ?v25) rfl (by kernel_rfl) (by kernel_rfl) (by kernel_rfl) (by kernel_rfl) (fun _ _ _ h => h) (Or.inl ⟨by rfl, ?hy25⟩) (by assumption) ?rest25
      case hy25 => (intro w hSw; (try dsimp only at hSw); go_simp; try with_reducible rfl)
      try simp only [Act.put, List.getElem_toArray, List.getElem_cons_succ, List.getElem_cons_zero, List.setIfInBounds_toArray, List.set_cons_zero, List.set_cons_succ]
      refine wpAnyU_take (i := 5) (v := ?v26) rfl (by kernel_rfl) (by kernel_rfl) (by kernel_rfl) (by kernel_rfl) (fun _ _ _ h => h) (Or.inl ⟨by rfl, ?hy26⟩) (by assumption) ?rest26
      case hy26 => (intro w hSw; (try dsimp only at hSw); go_simp; try with_reducible rfl)
      try simp only [Act.put, List.getElem_toArray, List.getElem_cons_succ, List.getElem_cons_zero, List.setIfInBounds_toArray, List.set_cons_zero, List.set_cons_succ]
      refine wpAnyU_ready (i := 3) (by kernel_rfl) (by kernel_rfl) rfl (fun K hK => ?_)
      go_simp
      refine (((HMo.out _))).mono ?_
      rintro e w' ⟨rfl, rfl⟩
      go_wp2_with fail
      refine hK.out _ _ (⟨crt, cmt, clt⟩) (fun hHeld => ?_)
      clear hK K
      try simp only [Act.put, List.getElem_toArray, List.getElem_cons_succ, List.getElem_cons_zero, List.setIfInBounds_toArray, List.set_cons_zero, List.set_cons_succ]
      refine wpAnyU_ready (i := 6) (by kernel_rfl) (by kernel_rfl) rfl (fun K hK => ?_)
      go_simp
      refine (((HAo.out _ _ (Lib.hid KAd.out.k.r0.rs) (Lib.hid fun i hi => Nat.lt_of_lt_of_le (hF.out i hi) KAd.out.k.r0.ch.size)))).mono ?_
      rintro e w' ⟨At, nt, ct, rfl, hr, hc⟩
      go_wp2_with fail
      refine hK.out _ _ (⟨(KAd.out.rd hr hc).cr, (KAd.out.rd hr hc).k.c3.cell (KAd.out.rd hr hc).c6, (KAd.out.rd hr hc).k.c3.cell (KAd.out.rd hr hc).c5⟩) (fun hHeld => ?_)
      clear hK K
      try simp only [Act.put, List.getElem_toArray, List.getElem_cons_succ, List.getElem_cons_zero, List.setIfInBounds_toArray, List.set_cons_zero, List.set_cons_succ]
      have KAe := Lib.hid (KAd.out.rd hr hc)
      clear hr hc
      refine wpAnyU_tail rfl (by kernel_rfl) ?_
      simp only [List.drop_succ_cons, List.drop_zero]
      obtain ⟨Aot, not, cot, ht⟩ := KAe.out.cd 16 (by omega)
      have adt := KAe.out.k.c3.cell ht
      have fdt := KAe.out.k.c3.frozen 16
      have KT := Lib.hid (KAe.out.putA 16 (by omega) At nt ct)
      go_wp2_with fail
      refine NoPanic.normal ?_
      clear adt fdt ht hHeld crt cmt clt KA KAd KAe
      generalize cs5.setIfInBounds 16 (.slice At nt ct) = cs5t at *
      generalize World.setCell _ _ _ = ut at *
      have crs := KT.out.cr
      have c8s := KT.out.k.c3.cell KT.out.c8
      have c6s := KT.out.k.c3.cell KT.out.c6
      have KTd := Lib.hid KT.out.drew
      go_wp2_with fail
      first | refine wp_region_noPanic ?_ | skip
      refine wp_region_U (n := 7) (S := (fun u : World => u.cell? ⟨br, 0, none⟩ = some (.pointer (some ⟨g, 0, none⟩)) ∧ u.cell? ⟨b3, 8, none⟩ = some (.int .i64 (cn : Nat)) ∧ u.cell? ⟨b3, 6, none⟩ = some (.int .i64 on))) (by kernel_rfl) (by kernel_rfl) (⟨crs, c8s, c6s⟩) (fun hHeld => ?_)
      refine wpAnyU_take (i := 0) (v := ?v27) rfl (by kernel_rfl) (by kernel_rfl) (by kernel_rfl) (by kernel_rfl) (fun _ _ _ h => h) (Or.inl ⟨by rfl, ?hy27⟩) (by assumption) ?rest27
      case hy27 => (intro w hSw; (try dsimp only at hSw); go_simp; try with_reducible rfl)
      try simp only [Act.put, List.getElem_toArray, List.getElem_cons_succ, List.getElem_cons_zero, List.setIfInBounds_toArray, List.set_cons_zero, List.set_cons_succ]
      refine wpAnyU_take (i := 1) (v := ?v28) rfl (by kernel_rfl) (by kernel_rfl) (by kernel_rfl) (by kernel_rfl) (fun _ _ _ h => h) (Or.inl ⟨by rfl, ?hy28⟩) (by assumption) ?rest28
      case hy28 => (intro w hSw; (try dsimp only at hSw); go_simp; try with_reducible rfl)
      try simp only [Act.put, List.getElem_toArray, List.getElem_cons_succ, List.getElem_cons_zero, List.setIfInBounds_toArray, List.set_cons_zero, List.set_cons_succ]
      refine wpAnyU_take (i := 2) (v := ?v29) rfl (by kernel_rfl) (by kernel_rfl) (by kernel_rfl) (by kernel_rfl) (fun _ _ _ h => h) (Or.inl ⟨by rfl, ?hy29⟩) (by assumption) ?rest29
      case hy29 => (intro w hSw; (try dsimp only at hSw); go_simp; try with_reducible rfl)
      try simp only [Act.put, List.getElem_toArray, List.getElem_cons_succ, List.getElem_cons_zero, List.setIfInBounds_toArray, List.set_cons_zero, List.set_cons_succ]
      refine wpAnyU_take (i := 3) (v := ?v30) rfl (by kernel_rfl) (by kernel_rfl) (by kernel_rfl) (by kernel_rfl) (fun _ _ _ h => h) (Or.inl ⟨by rfl, ?hy30⟩) (by assumption) ?rest30
      case hy30 => (intro w hSw; (try dsimp only at hSw); go_simp; try with_reducible rfl)
      try simp only [Act.put, List.getElem_toArray, List.getElem_cons_succ, List.getElem_cons_zero, List.setIfInBounds_toArray, List.set_cons_zero, List.set_cons_succ]
      refine wpAnyU_take (i := 4) (v := ?v31) rfl (by kernel_rfl) (by kernel_rfl) (by kernel_rfl) (by kernel_rfl) (fun _ _ _ h => h) (Or.inl ⟨by rfl, ?hy31⟩) (by assumption) ?rest31
      case hy31 => (intro w hSw; (try dsimp only at hSw); go_simp; try with_reducible rfl)
      try simp only [Act.put, List.getElem_toArray, List.getElem_cons_succ, List.getElem_cons_zero, List.setIfInBounds_toArray, List.set_cons_zero, List.set_cons_succ]
      refine wpAnyU_ready (i := 5) (by kernel_rfl) (by kernel_rfl) rfl (fun K hK => ?_)
      go_simp
      refine (((HMo.out _))).mono ?_
      rintro e w' ⟨rfl, rfl⟩
      go_wp2_with fail
      refine hK.out _ _ (⟨crs, c8s, c6s⟩) (fun hHeld => ?_)
      clear hK K
      try simp only [Act.put, List.getElem_toArray, List.getElem_cons_succ, List.getElem_cons_zero, List.setIfInBounds_toArray, List.set_cons_zero, List.set_cons_succ]
      refine wpAnyU_ready (i := 6) (by kernel_rfl) (by kernel_rfl) rfl (fun K hK => ?_)
      go_simp
      refine (((HSo.out _ _ (Lib.hid KTd.out.k.r0.rs)))).mono ?_
      rintro e w' ⟨As, ns, cs', rfl, hr, hc⟩
      go_wp2_with fail
      refine hK.out _ _ (⟨(KTd.out.rd hr hc).cr, (KTd.out.rd hr hc).k.c3.cell (KTd.out.rd hr hc).c8, (KTd.out.rd hr hc).k.c3.cell (KTd.out.rd hr hc).c6⟩) (fun hHeld => ?_)
      clear hK K
      try simp only [Act.put, List.getElem_toArray, List.getElem_cons_succ, List.getElem_cons_zero, List.setIfInBounds_toArray, List.set_cons_zero, List.set_cons_succ]
      have KTe := Lib.hid (KTd.out.rd hr hc)
      clear hr hc
      refine wpAnyU_tail rfl (by kernel_rfl) ?_
      simp only [List.drop_succ_cons, List.drop_zero]
      obtain ⟨Aos, nos, cos, hs⟩ := KTe.out.cd 12 (by omega)
      have ads := KTe.out.k.c3.cell hs
      have fds := KTe.out.k.c3.frozen 12
      have KU := Lib.hid (KTe.out.putA 12 (by omega) As ns cs')
      go_wp2_with fail
      refine NoPanic.normal ?_
      clear ads fds hs hHeld crs c8s c6s KT KTd KTe
      generalize cs5t.setIfInBounds 12 (.slice As ns cs') = csU at *
      generalize World.setCell _ _ _ = uU at *
      have hld := run_blkLoad KU.out.k.c3.mid
      have hst := run_blkStore KU.out.k.r0.c2 (KU.out.bv w).size (KU.out.bv w).one
      have HE := Lib.hid (HEQ.out ▸ KU.out.k.r0.made (KU.out.bv _))
      go_wp2_with fail
      exact bodyPost_ret (results_blk rfl _ HE.out.2 rfl) rfl HE.out.1
    · have dco : decide (0 < co) = false := decide_eq_false hco
      have HEQ : Hid (generalS l s = s7) := Lib.hid (by
        rw [HG.out, HGA.out]
        unfold genB
        show (if 0 < co then _ else _) = _
        rw [if_neg hco])
      clear hco
      have hld := run_blkLoad KA.out.k.c3.mid
      have hst := run_blkStore KA.out.k.r0.c2 (KA.out.bv w).size (KA.out.bv w).one
      have HE := Lib.hid (HEQ.out ▸ KA.out.k.r0.made (KA.out.bv _))
      go_wp2_with fail
      exact bodyPost_ret (results_blk rfl _ HE.out.2 rfl) rfl HE.out.1

end Go.Proofs.Ythlaglhlmbkniaa
/- The functions that tzx.block hands to measured: their contracts. -/
namespace Go.Proofs.Ythlaglhlmbkniaa
open Go.RowKit
set_option linter.unusedVariables false
set_option linter.unusedSimpArgs false
set_option maxRecDepth 100000
attribute [local simp ↓ high] blkLoad_as blkStore_as blkAlloc_as blkBuild_as

theorem R0.drew {F : Nat → Prop} {w u : World} {g : Nat} {l : List Int} {s : Rst} {b2 : Nat} (h : R0 F w u g l s b2) : R0 F w u.drew g l s b2 := h.rd (h.rs.below (Below.refl _ _).drew) (Ch.of_below (Below.refl _ _).drew)
set_option maxHeartbeats 1200000 in
theorem clos_g (F : Nat → Prop) (w : World) (g : Nat) (l : List Int) (s : Rst) (br : Nat) (h : Hid (RS F w g l s)) (hF : Hid (∀ i, F i → i < w.heap.size)) (hl : l.length ≤ 1000000) (h8 : Hid (Byte8 l)) (cr : w.cell? ⟨br, 0, none⟩ = some (.pointer (some ⟨g, 0, none⟩))) :
    Calls Try.prog 48 #[.pointer (some ⟨br, 0, none⟩)] w (BlkE F w g l (generalS l s) 25) := by
  have hal := run_blkAlloc
  have HG := Lib.hid (fun u t (hr : Hid (RS F u g l t)) hFu => general_any F u g l t hr hFu hl h8)
  have H0 := Lib.hid (R0.new h.out hF.out)
  have cr0 := ((bnew w (.cells blkZ 30)).cell (p := ⟨br, 0, none⟩) (blk_lt cr)).trans cr
  obtain ⟨W0, hW0⟩ : ∃ W0, w.alloc (.cells blkZ 30) = W0 := ⟨_, rfl⟩
  obtain ⟨b2, hb2⟩ : ∃ b2, w.heap.size = b2 := ⟨_, rfl⟩
  rw [hW0, hb2] at H0
  rw [hW0] at cr0
  clear cr h
  go_enter Try.func48, Try.ntmps48
  go_wp2_with fail
  clear hW0 hb2
  refine (HG.out _ _ (Lib.hid H0.out.rs) (Lib.hid fun i hi => Nat.lt_of_lt_of_le (hF.out i hi) H0.out.ch.size)).mono ?_
  rintro x u2 ⟨cs, b, rfl, hid, hv, hr, hc⟩
  have K := Lib.hid (H0.out.rd hr hc)
  have hst := run_blkStore K.out.c2 hv.size hv.one
  have HE : Hid (BlkE F w g l (generalS l s) 25 (.returned (.agg cs)) (u2.setRow b2 cs) ∧ BIn (u2.setRow b2 cs) b2 cs) := Lib.hid (by
    rw [← hid]
    exact K.out.make hv fun k _ hk => by have h1 := H0.out.ch.size; have h2 := H0.out.c2.lt; omega)
  clear hid hv hr hc cr0
  go_wp2_with fail
  exact bodyPost_ret (results_blk rfl _ HE.out.2 rfl) rfl HE.out.1
set_option maxHeartbeats 1200000 in
theorem clos_c (F : Nat → Prop) (w : World) (g : Nat) (l : List Int) (s : Rst) (b4 br : Nat) (id : Int) (h : Hid (RS F w g l s)) (hF : Hid (∀ i, F i → i < w.heap.size)) (hl : l.length ≤ 1000000) (h8 : Hid (Byte8 l)) (c4 : w.cell? ⟨b4, 0, none⟩ = some (.int .i64 id)) (cr : w.cell? ⟨br, 0, none⟩ = some (.pointer (some ⟨g, 0, none⟩))) (hb4 : b4 ≠ g) (hbr : br ≠ g) :
    Calls Try.prog 52 #[.pointer (some ⟨b4, 0, none⟩), .pointer (some ⟨br, 0, none⟩)] w (BlkE F w g l (itemsS l (fun t => takS l t 2) s) id) := by
  have hmf : ∀ (fn : Fn) (first cap : Array Value) (w : World), (Instr.makeFunc fn first cap).run Try.prog w = .ok (.func fn first cap) w := fun _ _ _ _ => rfl
  have hal := run_blkAlloc
  have HI := Lib.hid (fun u t (hr : Hid (RS F u g l t)) hFu => items_s F u g l t hr hFu hl h8)
  have hbd : ∀ (A : Option Addr) (n c : Nat) u, (blkBuild #[(0, .int .i64 id), (14, .slice A n c)]).run Try.prog u = .ok (.agg (bcs [(0, .int .i64 id), (14, .slice A n c)])) u := fun A n c u => run_build u _ _ _ (show Try.prog.built 30 [(0, .int .i64 id), (14, .slice A n c)] = some (bcs [(0, .int .i64 id), (14, .slice A n c)]) by kernel_rfl)
  have HV : Hid (∀ (G : Nat → Prop) u (A : Option Addr) (n c : Nat) ns, ItAt G u A n c ns → BV G u (bcs [(0, .int .i64 id), (14, .slice A n c)]) ⟨id, [], ns⟩) := Lib.hid fun G u A n c ns hi => bv_ns hi (by kernel_rfl) (by kernel_rfl) (by kernel_rfl) (by kernel_rfl)
  have H0 := Lib.hid (R0.new h.out hF.out)
  have hb0 := bnew w (.cells blkZ 30)
  have c40 := (hb0.cell (p := ⟨b4, 0, none⟩) (blk_lt c4)).trans c4
  have cr0 := (hb0.cell (p := ⟨br, 0, none⟩) (blk_lt cr)).trans cr
  have HNe := Lib.hid (And.intro hb4 hbr)
  obtain ⟨W0, hW0⟩ : ∃ W0, w.alloc (.cells blkZ 30) = W0 := ⟨_, rfl⟩
  obtain ⟨b2, hb2⟩ : ∃ b2, w.heap.size = b2 := ⟨_, rfl⟩
  rw [hW0, hb2] at H0
  rw [hW0] at c40 cr0
  have K0 := Lib.hid H0.out.drew
  clear c4 cr h hb0 hb4 hbr H0
  go_enter Try.func52, Try.ntmps52
  go_wp2_with fail
  clear hW0 hb2
  first | refine wp_region_noPanic ?_ | skip
  refine wp_region_U (n := 6) (S := (fun u : World => u.cell? ⟨b4, 0, none⟩ = some (.int .i64 id) ∧ u.cell? ⟨br, 0, none⟩ = some (.pointer (some ⟨g, 0, none⟩)))) (by kernel_rfl) (by kernel_rfl) (⟨c40, cr0⟩) (fun hHeld => ?_)
  refine wpAnyU_take (i := 0) (v := ?v1) rfl (by kernel_rfl) (by kernel_rfl) (by kernel_rfl) (by kernel_rfl) (fun _ _ _ h => h) (Or.inl ⟨by rfl, ?hy1⟩) (by assumption) ?rest1
  case hy1 => (intro w hSw; (try dsimp only at hSw); go_simp; try with_reducible rfl)
  try simp only [Act.put, List.getElem_toArray, List.getElem_cons_succ, List.getElem_cons_zero, List.setIfInBounds_toArray, List.set_cons_zero, List.set_cons_succ]
  refine wpAnyU_take (i := 1) (v := ?v2) rfl (by kernel_rfl) (by kernel_rfl) (by kernel_rfl) (by kernel_rfl) (fun _ _ _ h => h) (Or.inl ⟨by rfl, ?hy2⟩) (by assumption) ?rest2
  case hy2 => (intro w hSw; (try dsimp only at hSw); go_simp; try with_reducible rfl)
  try simp only [Act.put, List.getElem_toArray, List.getElem_cons_succ, List.getElem_cons_zero, List.setIfInBounds_toArray, List.set_cons_zero, List.set_cons_succ]
  refine wpAnyU_take (i := 2) (v := ?v3) rfl (by kernel_rfl) (by kernel_rfl) (by kernel_rfl) (by kernel_rfl) (fun _ _ _ h => h) (Or.inl ⟨by rfl, ?hy3⟩) (by assumption) ?rest3
  case hy3 => (intro w hSw; (try dsimp only at hSw); go_simp; try with_reducible rfl)
  try simp only [Act.put, List.getElem_toArray, List.getElem_cons_succ, List.getElem_cons_zero, List.setIfInBounds_toArray, List.set_cons_zero, List.set_cons_succ]
  refine wpAnyU_take (i := 3) (v := ?v4) rfl (by kernel_rfl) (by kernel_rfl) (by kernel_rfl) (by kernel_rfl) (fun _ _ _ h => h) (Or.inl ⟨by rfl, ?hy4⟩) (by assumption) ?rest4
  case hy4 => (intro w hSw; (try dsimp only at hSw); go_simp; try with_reducible rfl)
  try simp only [Act.put, List.getElem_toArray, List.getElem_cons_succ, List.getElem_cons_zero, List.setIfInBounds_toArray, List.set_cons_zero, List.set_cons_succ]
  refine wpAnyU_ready (i := 4) (by kernel_rfl) (by kernel_rfl) rfl (fun K hK => ?_)
  go_simp
  refine (((HI.out _ _ (Lib.hid K0.out.rs) (Lib.hid fun i hi => Nat.lt_of_lt_of_le (hF.out i hi) K0.out.ch.size)))).mono ?_
  rintro e w' ⟨A, n, c, ns, rfl, hi, hr, hc⟩
  go_wp2_with fail
  refine hK.out _ _ (⟨cell_rd hc c40 HNe.out.1, cell_rd hc cr0 HNe.out.2⟩) (fun hHeld => ?_)
  clear hK K
  try simp only [Act.put, List.getElem_toArray, List.getElem_cons_succ, List.getElem_cons_zero, List.setIfInBounds_toArray, List.set_cons_zero, List.set_cons_succ]
  have K1 := Lib.hid (K0.out.rd hr hc)
  have HB := Lib.hid (HV.out _ _ A n c ns hi)
  have hst := run_blkStore K1.out.c2 HB.out.size HB.out.one
  have HE := Lib.hid (K1.out.make HB.out fun k _ hk => by have h1 := K0.out.ch.size; have h2 := K0.out.c2.lt; omega)
  clear hr hc hi c40 cr0
  have hbd1 := hbd A n c
  clear hbd
  generalize bcs [(0, .int .i64 id), (14, .slice A n c)] = cs at *
  refine wpAnyU_take (i := 5) (v := ?v5) rfl (by kernel_rfl) (by kernel_rfl) (by kernel_rfl) (by kernel_rfl) (fun _ _ _ h => h) (Or.inl ⟨by rfl, ?hy5⟩) (by assumption) ?rest5
  case hy5 => (intro w hSw; (try dsimp only at hSw); go_simp; try with_reducible rfl)
  try simp only [Act.put, List.getElem_toArray, List.getElem_cons_succ, List.getElem_cons_zero, List.setIfInBounds_toArray, List.set_cons_zero, List.set_cons_succ]
  refine wpAnyU_tail rfl (by kernel_rfl) ?_
  simp only [List.drop_succ_cons, List.drop_zero]
  go_wp2_with fail
  refine NoPanic.normal ?_
  go_wp2_with fail
  exact bodyPost_ret (results_blk rfl _ HE.out.2 rfl) rfl HE.out.1
set_option maxHeartbeats 1200000 in
theorem clos_a (F : Nat → Prop) (w : World) (g : Nat) (l : List Int) (s : Rst) (b4 br b5 : Nat) (id : Int) (h : Hid (RS F w g l s)) (hF : Hid (∀ i, F i → i < w.heap.size)) (hl : l.length ≤ 1000000) (h8 : Hid (Byte8 l)) (c4 : w.cell? ⟨b4, 0, none⟩ = some (.int .i64 id)) (cr : w.cell? ⟨br, 0, none⟩ = some (.pointer (some ⟨g, 0, none⟩))) (c5 : w.cell? ⟨b5, 0, none⟩ = some (.func (.func 56) #[] #[.pointer (some ⟨br, 0, none⟩)])) (hb5 : b5 ≠ g) (hb4 : b4 ≠ g) (hbr : br ≠ g) :
    Calls Try.prog 57 #[.pointer (some ⟨b4, 0, none⟩), .pointer (some ⟨br, 0, none⟩), .pointer (some ⟨b5, 0, none⟩)] w (BlkE F w g l (itemsS l (fun t => takS l t 1) s) id) := by
  have hmf : ∀ (fn : Fn) (first cap : Array Value) (w : World), (Instr.makeFunc fn first cap).run Try.prog w = .ok (.func fn first cap) w := fun _ _ _ _ => rfl
  have hal := run_blkAlloc
  have HI := Lib.hid (fun u t (hr : Hid (RS F u g l t)) hFu (cq : u.cell? ⟨br, 0, none⟩ = some (.pointer (some ⟨g, 0, none⟩))) => items_n F u g l t br hr hFu hl h8 cq hbr)
  have hbd : ∀ (A : Option Addr) (n c : Nat) u, (blkBuild #[(0, .int .i64 id), (14, .slice A n c)]).run Try.prog u = .ok (.agg (bcs [(0, .int .i64 id), (14, .slice A n c)])) u := fun A n c u => run_build u _ _ _ (show Try.prog.built 30 [(0, .int .i64 id), (14, .slice A n c)] = some (bcs [(0, .int .i64 id), (14, .slice A n c)]) by kernel_rfl)
  have HV : Hid (∀ (G : Nat → Prop) u (A : Option Addr) (n c : Nat) ns, ItAt G u A n c ns → BV G u (bcs [(0, .int .i64 id), (14, .slice A n c)]) ⟨id, [], ns⟩) := Lib.hid fun G u A n c ns hi => bv_ns hi (by kernel_rfl) (by kernel_rfl) (by kernel_rfl) (by kernel_rfl)
  have H0 := Lib.hid (R0.new h.out hF.out)
  have hb0 := bnew w (.cells blkZ 30)
  have c40 := (hb0.cell (p := ⟨b4, 0, none⟩) (blk_lt c4)).trans c4
  have cr0 := (hb0.cell (p := ⟨br, 0, none⟩) (blk_lt cr)).trans cr
  have c50 := (hb0.cell (p := ⟨b5, 0, none⟩) (blk_lt c5)).trans c5
  have HN5 := Lib.hid hb5
  have HNe := Lib.hid (And.intro hb4 hbr)
  obtain ⟨W0, hW0⟩ : ∃ W0, w.alloc (.cells blkZ 30) = W0 := ⟨_, rfl⟩
  obtain ⟨b2, hb2⟩ : ∃ b2, w.heap.size = b2 := ⟨_, rfl⟩
  rw [hW0, hb2] at H0
  rw [hW0] at c40 cr0 c50
  have K0 := Lib.hid H0.out.drew
  clear c4 cr h hb0 hb4 hbr H0 c5 hb5
  go_enter Try.func57, Try.ntmps57
  go_wp2_with fail
  clear hW0 hb2
  first | refine wp_region_noPanic ?_ | skip
  refine wp_region_U (n := 5) (S := (fun u : World => u.cell? ⟨b4, 0, none⟩ = some (.int .i64 id) ∧ u.cell? ⟨br, 0, none⟩ = some (.pointer (some ⟨g, 0, none⟩)) ∧ u.cell? ⟨b5, 0, none⟩ = some (.func (.func 56) #[] #[.pointer (some ⟨br, 0, none⟩)]))) (by kernel_rfl) (by kernel_rfl) (⟨c40, cr0, c50⟩) (fun hHeld => ?_)
  refine wpAnyU_take (i := 0) (v := ?v6) rfl (by kernel_rfl) (by kernel_rfl) (by kernel_rfl) (by kernel_rfl) (fun _ _ _ h => h) (Or.inl ⟨by rfl, ?hy6⟩) (by assumption) ?rest6
  case hy6 => (intro w hSw; (try dsimp only at hSw); go_simp; try with_reducible rfl)
  try simp only [Act.put, List.getElem_toArray, List.getElem_cons_succ, List.getElem_cons_zero, List.setIfInBounds_toArray, List.set_cons_zero, List.set_cons_succ]
  refine wpAnyU_take (i := 1) (v := ?v7) rfl (by kernel_rfl) (by kernel_rfl) (by kernel_rfl) (by kernel_rfl) (fun _ _ _ h => h) (Or.inl ⟨by rfl, ?hy7⟩) (by assumption) ?rest7
  case hy7 => (intro w hSw; (try dsimp only at hSw); go_simp; try with_reducible rfl)
  try simp only [Act.put, List.getElem_toArray, List.getElem_cons_succ, List.getElem_cons_zero, List.setIfInBounds_toArray, List.set_cons_zero, List.set_cons_succ]
  refine wpAnyU_take (i := 2) (v := ?v8) rfl (by kernel_rfl) (by kernel_rfl) (by kernel_rfl) (by kernel_rfl) (fun _ _ _ h => h) (Or.inl ⟨by rfl, ?hy8⟩) (by assumption) ?rest8
  case hy8 => (intro w hSw; (try dsimp only at hSw); go_simp; try with_reducible rfl)
  try simp only [Act.put, List.getElem_toArray, List.getElem_cons_succ, List.getElem_cons_zero, List.setIfInBounds_toArray, List.set_cons_zero, List.set_cons_succ]
  refine wpAnyU_ready (i := 3) (by kernel_rfl) (by kernel_rfl) rfl (fun K hK => ?_)
  go_simp
  refine (((HI.out _ _ (Lib.hid K0.out.rs) (Lib.hid fun i hi => Nat.lt_of_lt_of_le (hF.out i hi) K0.out.ch.size) cr0))).mono ?_
  rintro e w' ⟨A, n, c, ns, rfl, hi, hr, hc⟩
  go_wp2_with fail
  refine hK.out _ _ (⟨cell_rd hc c40 HNe.out.1, cell_rd hc cr0 HNe.out.2, cell_rd hc c50 HN5.out⟩) (fun hHeld => ?_)
  clear hK K
  try simp only [Act.put, List.getElem_toArray, List.getElem_cons_succ, List.getElem_cons_zero, List.setIfInBounds_toArray, List.set_cons_zero, List.set_cons_succ]
  have K1 := Lib.hid (K0.out.rd hr hc)
  have HB := Lib.hid (HV.out _ _ A n c ns hi)
  have hst := run_blkStore K1.out.c2 HB.out.size HB.out.one
  have HE := Lib.hid (K1.out.make HB.out fun k _ hk => by have h1 := K0.out.ch.size; have h2 := K0.out.c2.lt; omega)
  clear hr hc hi c40 cr0 c50
  have hbd1 := hbd A n c
  clear hbd
  generalize bcs [(0, .int .i64 id), (14, .slice A n c)] = cs at *
  refine wpAnyU_take (i := 4) (v := ?v9) rfl (by kernel_rfl) (by kernel_rfl) (by kernel_rfl) (by kernel_rfl) (fun _ _ _ h => h) (Or.inl ⟨by rfl, ?hy9⟩) (by assumption) ?rest9
  case hy9 => (intro w hSw; (try dsimp only at hSw); go_simp; try with_reducible rfl)
  try simp only [Act.put, List.getElem_toArray, List.getElem_cons_succ, List.getElem_cons_zero, List.setIfInBounds_toArray, List.set_cons_zero, List.set_cons_succ]
  refine wpAnyU_tail rfl (by kernel_rfl) ?_
  simp only [List.drop_succ_cons, List.drop_zero]
  go_wp2_with fail
  refine NoPanic.normal ?_
  go_wp2_with fail
  exact bodyPost_ret (results_blk rfl _ HE.out.2 rfl) rfl HE.out.1

end Go.Proofs.Ythlaglhlmbkniaa
