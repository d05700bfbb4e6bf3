/- the table of modes; micro.change: its contract. -/
import Derived.Test.YthmkfojjlcinkaaDoorMicroB
namespace Go.Proofs.YthmkfojjlcinkaaDoor
open Go.RowKit

/-- The table of the interrupts' modes. -/
def Modes (w : World) : Prop := (w.cell? ⟨0, 0, none⟩ = some (.int .i64 0) ∧ w.cell? ⟨0, 1, none⟩ = some (.int .i64 0) ∧ w.cell? ⟨0, 2, none⟩ = some (.int .i64 1) ∧ w.cell? ⟨0, 3, none⟩ = some (.int .i64 2)) ∧ 0 < w.heap.size
theorem Modes.below {w w' : World} (h : Modes w) (hb : Below w.heap.size w w') : Modes w' := by
  obtain ⟨⟨h0, h1, h2, h3⟩, hs⟩ := h
  exact ⟨⟨(hb.cell (p := ⟨_, 0, none⟩) hs).trans h0, (hb.cell (p := ⟨_, 1, none⟩) hs).trans h1, (hb.cell (p := ⟨_, 2, none⟩) hs).trans h2, (hb.cell (p := ⟨_, 3, none⟩) hs).trans h3⟩, Nat.lt_of_lt_of_le hs hb.size⟩
theorem Modes.alloc {w : World} (h : Modes w) (o : Obj) : Modes (w.alloc o) := h.below (balloc w o)

set_option maxRecDepth 100000 in
set_option maxHeartbeats 1600000 in
theorem change_is (base : Nat) (v : Value) (L X : List Sp) (c : Nat) (w : World) (hO : Own w v L c base) (hc : c ≤ 9000) (g m : Nat) (hX : ∀ i a, (flat X)[i]? = some a → w.cell? ⟨g, i, none⟩ = some a) (hg : g < w.heap.size) (hn : v.ownBlock ≠ some g) (hm : X.length = m) (m0 : 0 < m) (m9 : m ≤ 2) :
    Calls Tryd.prog 38 #[v, .slice (some ⟨g, 0, none⟩) m m] w (Gives w v (changeS L X) (c + (3 + m)) base) := by
  have h0 : St w v L c g (flat X) base w v := ⟨hO, Put.refl w v, hX, Or.inr ⟨hg, hn⟩⟩
  have HM := Lib.hid hm
  clear hO hX hm
  go_enter Tryd.func38, Tryd.ntmps38
  go_wp2_with (first | (go_at_call 48; refine (St.then (by first | assumption | exact St.drew (by assumption) | exact St.alloc (by assumption) _ | exact St.drew (St.alloc (by assumption) _)) (read_any _ _ _)).mono ?_; rintro e w' ⟨rfl, hSt⟩) | (go_at_call 49; refine (St.then (by first | assumption | exact St.drew (by assumption) | exact St.alloc (by assumption) _ | exact St.drew (St.alloc (by assumption) _)) (wait_any _ _ _)).mono ?_; rintro e w' ⟨rfl, hSt⟩) | (go_at_call 27; (with_reducible refine (put2 (by first | assumption | exact St.drew (by assumption) | exact St.alloc (by assumption) _ | exact St.drew (St.alloc (by assumption) _)) (by omega) _ _ _ _ _ _ _ _ _).mono ?_); rintro e w' ⟨v', rfl, hSt⟩))
  refine (put_box (by assumption) (by omega) m HM.out m0 (by omega)).mono ?_
  rintro e w' ⟨v', rfl, hSt⟩
  go_wp2_with (first | (go_at_call 50; refine (St.then (by first | assumption | exact St.drew (by assumption) | exact St.alloc (by assumption) _ | exact St.drew (St.alloc (by assumption) _)) (write_any _ _ _)).mono ?_; rintro e w' ⟨rfl, hSt⟩) | (go_at_call 27; (with_reducible refine (put1 (by first | assumption | exact St.drew (by assumption) | exact St.alloc (by assumption) _ | exact St.drew (St.alloc (by assumption) _)) (by omega) _ _ _ _ _).mono ?_); rintro e w' ⟨v', rfl, hSt⟩))
  go_ret
  exact St.fin (by assumption) (by omega)
theorem change_st {u : World} {v : Value} {L : List Sp} {c b : Nat} {C : List Value} {base : Nat} {w0 : World} {v0 : Value} (h : St u v L c b C base w0 v0) (hc : c ≤ 9000) (X : List Sp) (m : Nat) (hm : X.length = m) (m0 : 0 < m) (m9 : m ≤ 2) (t : TypeId) :
    Calls Tryd.prog 38 #[v, .slice (some ⟨u.heap.size, 0, none⟩) m m] (u.alloc (.cells (flat X).toArray t)) (Goes (changeS L X) (c + (3 + m)) b C base w0 v0) :=
  (h.alloc _).goes (change_is base v L X c _ (h.alloc _).own hc _ m (fun i a hi => by rw [cell_of_row _ _ i _ t (0, 0) (heap_alloc_new _ _)]; simpa using hi) (by simp) (fun e => by have := (h.own.row.lt _ e).2; omega) hm m0 m9)
theorem change1 {u : World} {v : Value} {L : List Sp} {c b : Nat} {C : List Value} {base : Nat} {w0 : World} {v0 : Value} (h : St u v L c b C base w0 v0) (hc : c ≤ 9000) (k1 a1 w1 n1 : Int) (t : TypeId) :
    Calls Tryd.prog 38 #[v, .slice (some ⟨u.heap.size, 0, none⟩) 1 1] (u.alloc (.cells #[.int .i64 k1, .int .i64 a1, .int .i64 w1, .int .i64 n1] t)) (Goes (changeS L [⟨k1, a1, w1, n1⟩]) (c + 4) b C base w0 v0) :=
  change_st h hc [⟨k1, a1, w1, n1⟩] 1 rfl (by decide) (by decide) t
theorem change2 {u : World} {v : Value} {L : List Sp} {c b : Nat} {C : List Value} {base : Nat} {w0 : World} {v0 : Value} (h : St u v L c b C base w0 v0) (hc : c ≤ 9000) (k1 a1 w1 n1 k2 a2 w2 n2 : Int) (t : TypeId) :
    Calls Tryd.prog 38 #[v, .slice (some ⟨u.heap.size, 0, none⟩) 2 2] (u.alloc (.cells #[.int .i64 k1, .int .i64 a1, .int .i64 w1, .int .i64 n1, .int .i64 k2, .int .i64 a2, .int .i64 w2, .int .i64 n2] t)) (Goes (changeS L [⟨k1, a1, w1, n1⟩, ⟨k2, a2, w2, n2⟩]) (c + 5) b C base w0 v0) :=
  change_st h hc [⟨k1, a1, w1, n1⟩, ⟨k2, a2, w2, n2⟩] 2 rfl (by decide) (by decide) t


end Go.Proofs.YthmkfojjlcinkaaDoor
