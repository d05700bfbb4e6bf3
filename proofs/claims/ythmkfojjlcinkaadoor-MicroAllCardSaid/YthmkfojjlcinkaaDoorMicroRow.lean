/- Steps as numbers; rows of steps that a call owns; micro.put: its contract. -/
import Derived.Test.YthmkfojjlcinkaaDoorOpCut
import Derived.Test.YthmkfojjlcinkaaDoorMicroMath
import Derived.Deep.RegionHeld3
import Derived.Deep.AppendLies
namespace Go.Proofs.YthmkfojjlcinkaaDoor
open Go.RowKit

def flat : List Sp → List Value
  | [] => []
  | s :: l => .int .i64 s.k :: .int .i64 s.a :: .int .i64 s.w :: .int .i64 s.n :: flat l
theorem flat_len : ∀ l : List Sp, (flat l).length = l.length * 4
  | [] => rfl
  | s :: l => by simp only [flat, List.length_cons, flat_len l]; omega
theorem flat_app : ∀ a b : List Sp, flat (a ++ b) = flat a ++ flat b
  | [], b => rfl
  | s :: a, b => by simp only [flat, List.cons_append, flat_app a b]
theorem flat_one : ∀ l : List Sp, ∀ u ∈ flat l, u.oneCell' = true
  | [], u, h => by simp [flat] at h
  | s :: l, u, h => by
    simp only [flat, List.mem_cons] at h
    rcases h with rfl | rfl | rfl | rfl | h
    · rfl
    · rfl
    · rfl
    · rfl
    · exact flat_one l u h
theorem flat_pos : ∀ l : List Sp, ∀ u, u ∈ flat l → 0 < l.length
  | [], u, h => by simp [flat] at h
  | s :: l, u, h => by simp

/-- The slice v is the call's own (blocks from base on), and has the steps L, at most c of them. -/
structure Own (u : World) (v : Value) (L : List Sp) (c : Nat) (base : Nat) : Prop where
  row : u.ownsRow base 43 4 v L.length (flat L)
  size : base ≤ u.heap.size
  few : L.length ≤ c
/-- From w to u, as v became v': older blocks are as they were, but v's own; the block of v' is v's own, or a new one. -/
structure Put (w u : World) (v v' : Value) : Prop where
  os : u.os = w.os
  tape : u.tape = w.tape
  output : u.output = w.output
  size : w.heap.size ≤ u.heap.size
  block : ∀ k, k < w.heap.size → v.ownBlock ≠ some k → u.heap[k]? = w.heap[k]?
  own : v'.ownBlock = v.ownBlock ∨ ∃ g, v'.ownBlock = some g ∧ w.heap.size ≤ g
theorem Put.refl (w : World) (v : Value) : Put w w v v := ⟨rfl, rfl, rfl, Nat.le_refl _, fun _ _ _ => rfl, Or.inl rfl⟩
theorem Put.trans {a b c : World} {v v' v'' : Value} (h : Put a b v v') (k : Put b c v' v'') : Put a c v v'' := by
  refine ⟨k.os.trans h.os, k.tape.trans h.tape, k.output.trans h.output, Nat.le_trans h.size k.size, fun i hi hv => ?_, ?_⟩
  · have hi2 : i < b.heap.size := Nat.lt_of_lt_of_le hi h.size
    refine (k.block i hi2 ?_).trans (h.block i hi hv)
    rcases h.own with e | ⟨g, e, hg⟩
    · rw [e]; exact hv
    · rw [e]; intro e'; injection e' with e'; omega
  · rcases k.own with e | ⟨g, e, hg⟩
    · rw [e]; exact h.own
    · exact Or.inr ⟨g, e, Nat.le_trans h.size hg⟩
theorem Put.below {a b c : World} {v v' : Value} (h : Put a b v v') (k : Below b.heap.size b c) : Put a c v v' :=
  h.trans ⟨k.os, k.tape, k.output, k.size, fun i hi _ => k.block i hi, Or.inl rfl⟩
/-- A call whose row was not there at all leaves all older blocks as they were. -/
theorem Put.new {w u : World} {v' : Value} (h : Put w u (.slice none 0 0) v') : Below w.heap.size w u :=
  ⟨h.os, h.tape, h.output, h.size, fun k hk => h.block k hk (by simp [Value.ownBlock])⟩
theorem Own.below {u u' : World} {v : Value} {L : List Sp} {c base : Nat} (h : Own u v L c base) (hb : Below u.heap.size u u') : Own u' v L c base :=
  ⟨h.row.kept (row := none) ⟨hb.os, hb.tape, hb.output, hb.size, fun k hk _ => hb.block k hk⟩ (by cases v.ownBlock <;> simp), Nat.le_trans h.size hb.size, h.few⟩
theorem Own.mono {u : World} {v : Value} {L : List Sp} {c c' base : Nat} (h : Own u v L c base) (hc : c ≤ c') : Own u v L c' base := ⟨h.row, h.size, Nat.le_trans h.few hc⟩

/-- How things stand in the world u of a call: v owns L; behind w0 and v0, where the call began; a box b of the call's own holds C. -/
structure St (u : World) (v : Value) (L : List Sp) (c : Nat) (b : Nat) (C : List Value) (base : Nat) (w0 : World) (v0 : Value) : Prop where
  own : Own u v L c base
  put : Put w0 u v0 v
  box : ∀ i a, C[i]? = some a → u.cell? ⟨b, i, none⟩ = some a
  far : C = [] ∨ (b < u.heap.size ∧ v.ownBlock ≠ some b)
theorem St.start {w : World} {v : Value} {L : List Sp} {c base : Nat} (h : Own w v L c base) : St w v L c 0 [] base w v := ⟨h, Put.refl w v, fun i a h => by simp at h, Or.inl rfl⟩
theorem St.boxed {w : World} {v : Value} {L : List Sp} {c base : Nat} (h : Own w v L c base) (C : List Value) (t : TypeId) : St (w.alloc (.cells C.toArray t)) v L c w.heap.size C base w v := by
  have hb := balloc w (.cells C.toArray t)
  refine ⟨h.below hb, (Put.refl w v).below hb, fun i a hi => ?_, Or.inr ⟨by simp, fun e => ?_⟩⟩
  · rw [cell_of_row _ _ i _ t (0, 0) (heap_alloc_new _ _)]
    simpa using hi
  · have := (h.row.lt _ e).2
    omega
theorem St.below {u u' : World} {v : Value} {L : List Sp} {c b : Nat} {C : List Value} {base : Nat} {w0 : World} {v0 : Value} (h : St u v L c b C base w0 v0) (hb : Below u.heap.size u u') : St u' v L c b C base w0 v0 := by
  refine ⟨h.own.below hb, h.put.below hb, fun i a hi => ?_, ?_⟩
  · have hlt : b < u.heap.size := by
      rcases h.far with rfl | h
      · simp at hi
      · exact h.1
    rw [hb.cell (p := ⟨b, i, none⟩) hlt]
    exact h.box i a hi
  · rcases h.far with e | h
    · exact Or.inl e
    · exact Or.inr ⟨Nat.lt_of_lt_of_le h.1 hb.size, h.2⟩
theorem St.drew {u : World} {v : Value} {L : List Sp} {c b : Nat} {C : List Value} {base : Nat} {w0 : World} {v0 : Value} (h : St u v L c b C base w0 v0) : St u.drew v L c b C base w0 v0 := h.below (Below.refl _ _).drew
theorem St.alloc {u : World} {v : Value} {L : List Sp} {c b : Nat} {C : List Value} {base : Nat} {w0 : World} {v0 : Value} (h : St u v L c b C base w0 v0) (o : Obj) : St (u.alloc o) v L c b C base w0 v0 := h.below (balloc u o)
theorem St.call {u u' : World} {v v' : Value} {L L' : List Sp} {c c' b : Nat} {C : List Value} {base : Nat} {w0 : World} {v0 : Value} (h : St u v L c b C base w0 v0) (hO : Own u' v' L' c' base) (hP : Put u u' v v') : St u' v' L' c' b C base w0 v0 := by
  refine ⟨hO, h.put.trans hP, fun i a hi => ?_, ?_⟩
  · rcases h.far with rfl | ⟨hlt, hne⟩
    · simp at hi
    · rw [World.cell?_of_block (w := u) (w' := u') (a := ⟨b, i, none⟩) (hP.block b hlt hne)]
      exact h.box i a hi
  · rcases h.far with e | ⟨hlt, hne⟩
    · exact Or.inl e
    · refine Or.inr ⟨Nat.lt_of_lt_of_le hlt hP.size, ?_⟩
      rcases hP.own with e | ⟨g, e, hg⟩
      · rw [e]; exact hne
      · rw [e]; intro e'; injection e' with e'; omega
/-- What a call that puts steps behind a row gives. -/
def Gives (w : World) (v : Value) (L' : List Sp) (c' base : Nat) (e : Ending) (w' : World) : Prop := ∃ v', e = .returned v' ∧ Own w' v' L' c' base ∧ Put w w' v v'
theorem St.fin {u : World} {v : Value} {L : List Sp} {c c' b : Nat} {C : List Value} {base : Nat} {w0 : World} {v0 : Value} (h : St u v L c b C base w0 v0) (hc : c ≤ c') : Gives w0 v0 L c' base (.returned v) u := ⟨v, rfl, h.own.mono hc, h.put⟩
/-- The same as it stands in a caller. -/
def Goes (L' : List Sp) (c' b : Nat) (C : List Value) (base : Nat) (w0 : World) (v0 : Value) (e : Ending) (w' : World) : Prop := ∃ v', e = .returned v' ∧ St w' v' L' c' b C base w0 v0
theorem St.goes {u : World} {v : Value} {L L' : List Sp} {c c' b : Nat} {C : List Value} {base : Nat} {w0 : World} {v0 : Value} (h : St u v L c b C base w0 v0) {f : FuncId} {args : Array Value} (hc : Calls Tryd.prog f args u (Gives u v L' c' base)) : Calls Tryd.prog f args u (Goes L' c' b C base w0 v0) :=
  hc.mono fun _ _ ⟨v', he, hO, hP⟩ => ⟨v', he, h.call hO hP⟩

theorem St.then {u : World} {v : Value} {L : List Sp} {c b : Nat} {C : List Value} {base : Nat} {w0 : World} {v0 : Value} (h : St u v L c b C base w0 v0) {f : FuncId} {args : Array Value} {r : Value} (hc : Calls Tryd.prog f args u fun e w' => e = .returned r ∧ Below u.heap.size u w') :
    Calls Tryd.prog f args u fun e w' => e = .returned r ∧ St w' v L c b C base w0 v0 := hc.mono fun _ _ ⟨he, hb⟩ => ⟨he, h.below hb⟩
theorem St.same {u : World} {v : Value} {L : List Sp} {c b : Nat} {C : List Value} {base : Nat} {w0 : World} {v0 : Value} (h : St u v L c b C base w0 v0) {f : FuncId} {args : Array Value} {r : Value} (hc : Calls Tryd.prog f args u fun e w' => e = .returned r ∧ u = w') :
    Calls Tryd.prog f args u fun e w' => e = .returned r ∧ St w' v L c b C base w0 v0 := hc.mono fun _ _ ⟨he, hb⟩ => ⟨he, hb ▸ h⟩
/-- The five cells of a box. -/
def Box5 (b : Nat) (x y z p q : Int) (u : World) : Prop := u.cell? ⟨b, 0, none⟩ = some (.int .i64 x) ∧ u.cell? ⟨b, 1, none⟩ = some (.int .i64 y) ∧ u.cell? ⟨b, 2, none⟩ = some (.int .i64 z) ∧ u.cell? ⟨b, 3, none⟩ = some (.int .i64 p) ∧ u.cell? ⟨b, 4, none⟩ = some (.int .i64 q)
theorem St.box5 {u : World} {v : Value} {L : List Sp} {c b : Nat} {x y z p q : Int} {base : Nat} {w0 : World} {v0 : Value} (h : St u v L c b [.int .i64 x, .int .i64 y, .int .i64 z, .int .i64 p, .int .i64 q] base w0 v0) :
    u.cell? ⟨b, 0, none⟩ = some (.int .i64 x) ∧ u.cell? ⟨b, 1, none⟩ = some (.int .i64 y) ∧ u.cell? ⟨b, 2, none⟩ = some (.int .i64 z) ∧ u.cell? ⟨b, 3, none⟩ = some (.int .i64 p) ∧ u.cell? ⟨b, 4, none⟩ = some (.int .i64 q) :=
  ⟨h.box 0 _ rfl, h.box 1 _ rfl, h.box 2 _ rfl, h.box 3 _ rfl, h.box 4 _ rfl⟩

theorem infoStep : (Tryd.prog.info? 43).map (fun i => (i.zero, i.size, i.bytes)) = some (some (.agg #[.int .i64 0, .int .i64 0, .int .i64 0, .int .i64 0]), 4, 32) := by kernel_rfl

set_option maxHeartbeats 400000 in
theorem put_any (base : Nat) (v : Value) (L X : List Sp) (c : Nat) (w : World) (hO : Own w v L c base) (hc : c ≤ 10000) (ad : Addr) (m k : Nat) (hm : X.length = m) (h0 : 0 < m) (h9 : m ≤ 100)
    (hX : ∀ j u, (flat X)[j]? = some u → w.cell? (ad.add j) = some u) : Calls Tryd.prog 27 #[v, .slice (some ad) m k] w (Gives w v (L ++ X) (c + m) base) := by
  obtain ⟨i0, hi, hz0, hz1, hz2⟩ := info_parts infoStep
  obtain ⟨hr, hs, hf⟩ := hO
  have hl : (flat X).length = m * 4 := by rw [flat_len, hm]
  have hb1 : (L.length + m) * 32 ≤ 140737488355328 := by omega
  have hb2 : L.length + m ≤ maxLen := by unfold maxLen; omega
  have HF := Lib.hid hf
  have HM := Lib.hid hm
  clear hf hc h9 hm
  go_enter Tryd.func27, Tryd.ntmps27
  go_wp2_with (at_builtin; refine wpList_append_lies _ rfl _ _ 22 rfl base 43 i0 _ 4 32 Tryd.underlying22 hi hz0 hz1 hz2 rfl (by decide) v L.length (flat L) rfl hr ad m k (flat X) rfl hl hX (flat_one X) h0 hb2 hb1 hs _ rfl ?_; intro g cap w' h1 h2 h3 h4)
  go_ret
  refine ⟨_, rfl, ⟨?_, Nat.le_trans hs h2.size, ?_⟩, ⟨h2.os, h2.tape, h2.output, h2.size, fun i hi hne => h2.block i hi (fun e => hne e.symm), ?_⟩⟩
  · rw [List.length_append, HM.out, flat_app]; exact h1
  · rw [List.length_append, HM.out]; have := HF.out; omega
  · rcases h3 with e | e
    · exact Or.inl (by rw [e]; rfl)
    · exact Or.inr ⟨g, rfl, by omega⟩

theorem box_news {w : World} {C : List Value} {t : TypeId} : ∀ j u, C[j]? = some u → (w.alloc (.cells C.toArray t)).cell? ((⟨w.heap.size, 0, none⟩ : Addr).add j) = some u := by
  intro j u hu
  rw [Go.WideShapes.add_plain, Nat.zero_add, cell_of_row _ _ j _ t (0, 0) (heap_alloc_new _ _)]
  simpa using hu
/-- 'put' of steps that the statement lists. -/
theorem put_st {u : World} {v : Value} {L : List Sp} {c b : Nat} {C : List Value} {base : Nat} {w0 : World} {v0 : Value} (h : St u v L c b C base w0 v0) (hc : c ≤ 10000) (X : List Sp) (m : Nat) (hm : X.length = m) (h0 : 0 < m) (h9 : m ≤ 100) (t : TypeId) :
    Calls Tryd.prog 27 #[v, .slice (some ⟨u.heap.size, 0, none⟩) m m] (u.alloc (.cells (flat X).toArray t)) (Goes (L ++ X) (c + m) b C base w0 v0) :=
  (h.alloc _).goes (put_any base v L X c _ (h.alloc _).own hc _ m m hm h0 h9 box_news)
theorem put1 {u : World} {v : Value} {L : List Sp} {c b : Nat} {C : List Value} {base : Nat} {w0 : World} {v0 : Value} (h : St u v L c b C base w0 v0) (hc : c ≤ 10000) (k1 a1 w1 n1 : Int) (t : TypeId) :
    Calls Tryd.prog 27 #[v, .slice (some ⟨u.heap.size, 0, none⟩) 1 1] (u.alloc (.cells #[.int .i64 k1, .int .i64 a1, .int .i64 w1, .int .i64 n1] t)) (Goes (L ++ [⟨k1, a1, w1, n1⟩]) (c + 1) b C base w0 v0) :=
  put_st h hc [⟨k1, a1, w1, n1⟩] 1 rfl (by decide) (by decide) t
theorem put2 {u : World} {v : Value} {L : List Sp} {c b : Nat} {C : List Value} {base : Nat} {w0 : World} {v0 : Value} (h : St u v L c b C base w0 v0) (hc : c ≤ 10000) (k1 a1 w1 n1 k2 a2 w2 n2 : Int) (t : TypeId) :
    Calls Tryd.prog 27 #[v, .slice (some ⟨u.heap.size, 0, none⟩) 2 2] (u.alloc (.cells #[.int .i64 k1, .int .i64 a1, .int .i64 w1, .int .i64 n1, .int .i64 k2, .int .i64 a2, .int .i64 w2, .int .i64 n2] t)) (Goes (L ++ [⟨k1, a1, w1, n1⟩, ⟨k2, a2, w2, n2⟩]) (c + 2) b C base w0 v0) :=
  put_st h hc [⟨k1, a1, w1, n1⟩, ⟨k2, a2, w2, n2⟩] 2 rfl (by decide) (by decide) t
theorem put3 {u : World} {v : Value} {L : List Sp} {c b : Nat} {C : List Value} {base : Nat} {w0 : World} {v0 : Value} (h : St u v L c b C base w0 v0) (hc : c ≤ 10000) (k1 a1 w1 n1 k2 a2 w2 n2 k3 a3 w3 n3 : Int) (t : TypeId) :
    Calls Tryd.prog 27 #[v, .slice (some ⟨u.heap.size, 0, none⟩) 3 3] (u.alloc (.cells #[.int .i64 k1, .int .i64 a1, .int .i64 w1, .int .i64 n1, .int .i64 k2, .int .i64 a2, .int .i64 w2, .int .i64 n2, .int .i64 k3, .int .i64 a3, .int .i64 w3, .int .i64 n3] t)) (Goes (L ++ [⟨k1, a1, w1, n1⟩, ⟨k2, a2, w2, n2⟩, ⟨k3, a3, w3, n3⟩]) (c + 3) b C base w0 v0) :=
  put_st h hc [⟨k1, a1, w1, n1⟩, ⟨k2, a2, w2, n2⟩, ⟨k3, a3, w3, n3⟩] 3 rfl (by decide) (by decide) t
theorem put4 {u : World} {v : Value} {L : List Sp} {c b : Nat} {C : List Value} {base : Nat} {w0 : World} {v0 : Value} (h : St u v L c b C base w0 v0) (hc : c ≤ 10000) (k1 a1 w1 n1 k2 a2 w2 n2 k3 a3 w3 n3 k4 a4 w4 n4 : Int) (t : TypeId) :
    Calls Tryd.prog 27 #[v, .slice (some ⟨u.heap.size, 0, none⟩) 4 4] (u.alloc (.cells #[.int .i64 k1, .int .i64 a1, .int .i64 w1, .int .i64 n1, .int .i64 k2, .int .i64 a2, .int .i64 w2, .int .i64 n2, .int .i64 k3, .int .i64 a3, .int .i64 w3, .int .i64 n3, .int .i64 k4, .int .i64 a4, .int .i64 w4, .int .i64 n4] t)) (Goes (L ++ [⟨k1, a1, w1, n1⟩, ⟨k2, a2, w2, n2⟩, ⟨k3, a3, w3, n3⟩, ⟨k4, a4, w4, n4⟩]) (c + 4) b C base w0 v0) :=
  put_st h hc [⟨k1, a1, w1, n1⟩, ⟨k2, a2, w2, n2⟩, ⟨k3, a3, w3, n3⟩, ⟨k4, a4, w4, n4⟩] 4 rfl (by decide) (by decide) t
theorem put5 {u : World} {v : Value} {L : List Sp} {c b : Nat} {C : List Value} {base : Nat} {w0 : World} {v0 : Value} (h : St u v L c b C base w0 v0) (hc : c ≤ 10000) (k1 a1 w1 n1 k2 a2 w2 n2 k3 a3 w3 n3 k4 a4 w4 n4 k5 a5 w5 n5 : Int) (t : TypeId) :
    Calls Tryd.prog 27 #[v, .slice (some ⟨u.heap.size, 0, none⟩) 5 5] (u.alloc (.cells #[.int .i64 k1, .int .i64 a1, .int .i64 w1, .int .i64 n1, .int .i64 k2, .int .i64 a2, .int .i64 w2, .int .i64 n2, .int .i64 k3, .int .i64 a3, .int .i64 w3, .int .i64 n3, .int .i64 k4, .int .i64 a4, .int .i64 w4, .int .i64 n4, .int .i64 k5, .int .i64 a5, .int .i64 w5, .int .i64 n5] t)) (Goes (L ++ [⟨k1, a1, w1, n1⟩, ⟨k2, a2, w2, n2⟩, ⟨k3, a3, w3, n3⟩, ⟨k4, a4, w4, n4⟩, ⟨k5, a5, w5, n5⟩]) (c + 5) b C base w0 v0) :=
  put_st h hc [⟨k1, a1, w1, n1⟩, ⟨k2, a2, w2, n2⟩, ⟨k3, a3, w3, n3⟩, ⟨k4, a4, w4, n4⟩, ⟨k5, a5, w5, n5⟩] 5 rfl (by decide) (by decide) t
/-- 'put' of steps that lie in the box. -/
theorem put_box {u : World} {v : Value} {L X : List Sp} {c b : Nat} {base : Nat} {w0 : World} {v0 : Value} (h : St u v L c b (flat X) base w0 v0) (hc : c ≤ 10000) (m : Nat) (hm : X.length = m) (h0 : 0 < m) (h9 : m ≤ 100) :
    Calls Tryd.prog 27 #[v, .slice (some ⟨b, 0, none⟩) m m] u (Goes (L ++ X) (c + m) b (flat X) base w0 v0) :=
  h.goes (put_any base v L X c _ h.own hc _ m m hm h0 h9 (fun j a hj => by rw [Go.WideShapes.add_plain, Nat.zero_add]; exact h.box j a hj))

set_option maxHeartbeats 400000 in
theorem read_any (at_ to_ : Int) (w : World) : Calls Tryd.prog 48 #[.int .i64 at_, .int .i64 to_] w fun e w' => e = .returned (.agg #[.int .i64 1, .int .i64 at_, .int .i64 to_, .int .i64 0]) ∧ Below w.heap.size w w' := by
  go_enter Tryd.func48, Tryd.ntmps48
  go_wp2_with fail
  exact bodyPost_ret (v := .agg #[.int .i64 1, .int .i64 at_, .int .i64 to_, .int .i64 0]) (by simp [results, Tryd.results48, go_sem]) rfl ⟨rfl, balloc _ _⟩
set_option maxHeartbeats 400000 in
theorem wait_any (at_ n : Int) (w : World) : Calls Tryd.prog 49 #[.int .i64 at_, .int .i64 n] w fun e w' => e = .returned (.agg #[.int .i64 0, .int .i64 at_, .int .i64 0, .int .i64 n]) ∧ Below w.heap.size w w' := by
  go_enter Tryd.func49, Tryd.ntmps49
  go_wp2_with fail
  exact bodyPost_ret (v := .agg #[.int .i64 0, .int .i64 at_, .int .i64 0, .int .i64 n]) (by simp [results, Tryd.results49, go_sem]) rfl ⟨rfl, balloc _ _⟩
set_option maxHeartbeats 400000 in
theorem write_any (at_ to_ : Int) (w : World) : Calls Tryd.prog 50 #[.int .i64 at_, .int .i64 to_] w fun e w' => e = .returned (.agg #[.int .i64 2, .int .i64 at_, .int .i64 to_, .int .i64 0]) ∧ Below w.heap.size w w' := by
  go_enter Tryd.func50, Tryd.ntmps50
  go_wp2_with fail
  exact bodyPost_ret (v := .agg #[.int .i64 2, .int .i64 at_, .int .i64 to_, .int .i64 0]) (by simp [results, Tryd.results50, go_sem]) rfl ⟨rfl, balloc _ _⟩
set_option maxHeartbeats 400000 in
theorem in_any (at_ to_ : Int) (w : World) : Calls Tryd.prog 65 #[.int .i64 at_, .int .i64 to_] w fun e w' => e = .returned (.agg #[.int .i64 3, .int .i64 at_, .int .i64 to_, .int .i64 0]) ∧ Below w.heap.size w w' := by
  go_enter Tryd.func65, Tryd.ntmps65
  go_wp2_with fail
  exact bodyPost_ret (v := .agg #[.int .i64 3, .int .i64 at_, .int .i64 to_, .int .i64 0]) (by simp [results, Tryd.results65, go_sem]) rfl ⟨rfl, balloc _ _⟩
set_option maxHeartbeats 400000 in
theorem out_any (at_ to_ : Int) (w : World) : Calls Tryd.prog 66 #[.int .i64 at_, .int .i64 to_] w fun e w' => e = .returned (.agg #[.int .i64 4, .int .i64 at_, .int .i64 to_, .int .i64 0]) ∧ Below w.heap.size w w' := by
  go_enter Tryd.func66, Tryd.ntmps66
  go_wp2_with fail
  exact bodyPost_ret (v := .agg #[.int .i64 4, .int .i64 at_, .int .i64 to_, .int .i64 0]) (by simp [results, Tryd.results66, go_sem]) rfl ⟨rfl, balloc _ _⟩
set_option maxHeartbeats 400000 in
theorem work_any (wh n : Int) (w : World) : Calls Tryd.prog 28 #[.int .i64 wh, .int .i64 n] w fun e w' => e = .returned (.agg #[.int .i64 5, .int .i64 0, .int .i64 wh, .int .i64 n]) ∧ Below w.heap.size w w' := by
  go_enter Tryd.func28, Tryd.ntmps28
  go_wp2_with fail
  exact bodyPost_ret (v := .agg #[.int .i64 5, .int .i64 0, .int .i64 wh, .int .i64 n]) (by simp [results, Tryd.results28, go_sem]) rfl ⟨rfl, balloc _ _⟩
set_option maxHeartbeats 400000 in
theorem unless_any (wh : Int) (w : World) : Calls Tryd.prog 57 #[.int .i64 wh] w fun e w' => e = .returned (.agg #[.int .i64 6, .int .i64 0, .int .i64 wh, .int .i64 0]) ∧ Below w.heap.size w w' := by
  go_enter Tryd.func57, Tryd.ntmps57
  go_wp2_with fail
  exact bodyPost_ret (v := .agg #[.int .i64 6, .int .i64 0, .int .i64 wh, .int .i64 0]) (by simp [results, Tryd.results57, go_sem]) rfl ⟨rfl, balloc _ _⟩
set_option maxHeartbeats 400000 in
theorem which_any (g n : Int) (w : World) (g0 : 0 ≤ g) (g1 : g ≤ 1000) (n0 : 0 ≤ n) (n1 : n ≤ 100) : Calls Tryd.prog 32 #[.int .i64 g, .int .i64 n] w fun e w' => e = .returned (.int .i64 (g + n)) ∧ w = w' := by
  go_enter Tryd.func32, Tryd.ntmps32
  go_wp2_with fail
  go_ret
  exact ⟨rfl, rfl⟩

end Go.Proofs.YthmkfojjlcinkaaDoor
