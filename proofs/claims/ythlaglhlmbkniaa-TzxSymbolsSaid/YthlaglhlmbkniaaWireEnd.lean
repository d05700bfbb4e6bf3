/- wire's Read and Why, a reader's End. -/
import Derived.Test.YthlaglhlmbkniaaWireNumber
namespace Go.Proofs.Ythlaglhlmbkniaa
open Go.RowKit
set_option linter.unusedVariables false
set_option linter.unusedSimpArgs false
set_option maxRecDepth 100000

def Opened (w : World) (l : List Int) (x : Ending) (w' : World) : Prop := ∃ g, x = .returned (.pointer (some ⟨g, 0, none⟩)) ∧ w.heap.size ≤ g ∧ RdAt (fun k => w.heap.size ≤ k ∧ k < g) w' g l 0 0 0 ∧ Below w.heap.size w w'
set_option maxHeartbeats 800000 in
theorem open_any (F : Nat → Prop) (A : Option Addr) (n cap : Nat) (l : List Int) (w : World) (hl : BAt8 F w A n cap l) (hn : n ≤ 1000000) :
    Calls Try.prog 24 #[.slice A n cap] w (Opened w l) := by
  have H := Lib.hid (clone_any F A n cap l w hl hn)
  clear hl
  go_enter Try.func24, Try.ntmps24
  go_wp2_with fail
  refine H.out.mono ?_
  rintro e w1 ⟨A1, c1, rfl, hB, hb⟩
  have HR : Hid (Opened w l (.returned (.pointer (some ⟨w1.heap.size, 0, none⟩))) (w1.alloc (.cells #[.slice A1 n c1, .int .i64 0, .int .i64 0, .int .i64 0] 77))) :=
    Lib.hid ⟨_, rfl, hb.size, ⟨by omega, by omega, A1, n, c1, heap_alloc_new _ _, (hB.weak fun k hk h => ⟨h, hk⟩).below (bnew _ _)⟩, hb.alloc hb.size _⟩
  clear hB hb
  go_wp2_with fail
  go_ret
  exact HR.out
/-- A fault e at f, in a block of its own. -/
def FaultAt (w : World) (k : Nat) (e f : Int) : Prop := w.heap[k]? = some (.cells #[.int .i64 e, .int .i64 f] 51 (0, 0))
theorem FaultAt.lt {w : World} {k : Nat} {e f : Int} (h : FaultAt w k e f) : k < w.heap.size := (Array.getElem?_eq_some_iff.1 h).1
theorem FaultAt.below {w w' : World} {k : Nat} {e f : Int} (h : FaultAt w k e f) (hb : Below w.heap.size w w') : FaultAt w' k e f := (hb.block k h.lt).trans h
theorem end_nil (w : World) : Calls Try.prog 26 #[.pointer none] w (Looks .nilIface w) := by
  go_enter Try.func26, Try.ntmps26
  go_wp2_with fail
  refine (bad_nil _).mono ?_
  rintro e w' ⟨rfl, rfl⟩
  go_wp2_with fail
  refine (left_nil _).mono ?_
  rintro e w1 ⟨rfl, k, rfl⟩
  go_wp2_with fail
  go_ret
  exact ⟨rfl, k, rfl⟩
theorem end_ok (F : Nat → Prop) (w : World) (g : Nat) (l : List Int) (p : Nat) (f : Int) (h : RdAt F w g l p 0 f) (hp : p = l.length) (hl : l.length ≤ 1000000) : Calls Try.prog 26 #[.pointer (some ⟨g, 0, none⟩)] w (Looks .nilIface w) := by
  have H1 := Lib.hid (bad_any F w g l p 0 f h true rfl)
  have H2 := Lib.hid (left_any F w g l p f h 0 (by omega) hl)
  clear h hp
  go_enter Try.func26, Try.ntmps26
  go_wp2_with fail
  refine (H1.out).mono ?_
  rintro e w' ⟨rfl, rfl⟩
  go_wp2_with fail
  refine H2.out.mono ?_
  rintro e w1 ⟨rfl, k, rfl⟩
  go_wp2_with fail
  go_ret
  exact ⟨rfl, k, rfl⟩
def Faulty (w : World) (e f : Int) (x : Ending) (w' : World) : Prop := ∃ k, x = .returned (.iface 48 (.pointer (some ⟨k, 0, none⟩))) ∧ w.heap.size ≤ k ∧ FaultAt w' k e f ∧ Below w.heap.size w w'
theorem end_bad (F : Nat → Prop) (w : World) (g : Nat) (l : List Int) (p : Nat) (e f : Int) (h : RdAt F w g l p e f) (he : e ≠ 0) : Calls Try.prog 26 #[.pointer (some ⟨g, 0, none⟩)] w (Faulty w e f) := by
  have H1 := Lib.hid (bad_any F w g l p e f h false (by simpa using he))
  have HR : Hid (Faulty w e f (.returned (.iface 48 (.pointer (some ⟨w.heap.size, 0, none⟩)))) (w.alloc (.cells #[.int .i64 e, .int .i64 f] 51))) := Lib.hid ⟨_, rfl, Nat.le_refl _, heap_alloc_new _ _, bnew w _⟩
  obtain ⟨h1, h2, A, n, cap, h3, h4⟩ := h
  have c2 := cell_of_row w g 2 _ _ (0, 0) h3
  have c3 := cell_of_row w g 3 _ _ (0, 0) h3
  simp at c2 c3
  have hg := (Array.getElem?_eq_some_iff.1 h3).1
  clear h1 h2 h3 h4 he
  go_enter Try.func26, Try.ntmps26
  go_wp2_with fail
  refine (H1.out).mono ?_
  rintro e w' ⟨rfl, rfl⟩
  go_wp2_with fail
  go_ret
  exact HR.out
theorem why_nil (w : World) : Calls Try.prog 16 #[.nilIface] w fun e w' => e = .returned (.tuple #[.int .i64 0, .int .i64 0]) ∧ w = w' := by
  have q : ∀ u, (binOp .eql 45 .nilIface .nilIface).run Try.prog u = .ok (.bool true) u := fun _ => rfl
  go_enter Try.func16, Try.ntmps16
  go_wp2_with fail
  go_ret2
  exact ⟨rfl, rfl⟩
theorem asked_any (v : Value) (w : World) : Calls Try.prog 27 #[.iface 48 v] w fun e w' => e = .returned v ∧ w = w' := by
  have q : ∀ u, (Instr.typeAssert (.iface 48 v) 45 48 true).run Try.prog u = .ok (.tuple #[v, .bool true]) u := fun _ => rfl
  go_enter Try.func27, Try.ntmps27
  go_wp2_with fail
  go_ret
  exact ⟨rfl, rfl⟩
theorem why_any (w : World) (k : Nat) (e f : Int) (h : FaultAt w k e f) : Calls Try.prog 16 #[.iface 48 (.pointer (some ⟨k, 0, none⟩))] w (Looks (.tuple #[.int .i64 e, .int .i64 f]) w) := by
  have q : ∀ u, (binOp .eql 45 (.iface 48 (.pointer (some ⟨k, 0, none⟩))) .nilIface).run Try.prog u = .ok (.bool false) u := fun _ => rfl
  have HA := Lib.hid (asked_any (.pointer (some ⟨k, 0, none⟩)))
  have c0 := cell_of_row w k 0 _ _ (0, 0) h
  have c1 := cell_of_row w k 1 _ _ (0, 0) h
  simp at c0 c1
  clear h
  go_enter Try.func16, Try.ntmps16
  go_wp2_with fail
  refine (HA.out _).mono ?_
  rintro e w' ⟨rfl, rfl⟩
  go_wp2_with fail
  go_quiet (fail)
  go_wp2_with fail
  go_ret2
  exact ⟨rfl, _, rfl⟩

end Go.Proofs.Ythlaglhlmbkniaa
