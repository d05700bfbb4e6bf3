/- The document's tables of layer 7: their contracts. -/
import Derived.Test.YthmkfojjlcinkaaDoorOpCut
import Derived.Test.YthmkfojjlcinkaaDoorOpLists
import Derived.LoopTactic
import Derived.BigRegion
namespace Go.Proofs.YthmkfojjlcinkaaDoor
open Go.RowKit


theorem tabS_made (w : World) (L : List (List UInt8)) (t : TypeId) : TabS w.heap.size L.length L (w.alloc (.cells (L.map fun l => Value.string (strL l)).toArray t)) := by
  intro j hj
  rw [cell_of_row _ _ j _ t (0, 0) (heap_alloc_new _ _)]
  simp [hj]
/-- A callee that answers a list of texts of its own. -/
def Lists (n : Nat) (L : List (List UInt8)) (w : World) (e : Ending) (w' : World) : Prop := ∃ g, e = .returned (.slice (some ⟨g, 0, none⟩) n n) ∧ g < w'.heap.size ∧ TabS g n L w' ∧ Below w.heap.size w w'


theorem lists_at {g n : Nat} {L : List (List UInt8)} {u : World} (h : TabS g n L u) (j : Nat) (hj : j < n) (R : List UInt8) (hR : L.getD j [] = R) : u.cell? ⟨g, j, none⟩ = some (.string (strL R)) := by
  subst hR; exact h j hj

set_option maxRecDepth 100000 in
set_option maxHeartbeats 1600000 in
theorem ref_regs (w : World) : Calls Tryd.prog 43 #[] w (Lists 8 regsL w) := by
  go_enter Tryd.func43, Tryd.ntmps43
  go_wp2_with fail
  go_ret
  exact ⟨w.heap.size, rfl, by simp, tabS_made w regsL 9, balloc w _⟩

set_option maxRecDepth 100000 in
set_option maxHeartbeats 1600000 in
theorem ref_operations (w : World) : Calls Tryd.prog 44 #[] w (Lists 8 opersL w) := by
  go_enter Tryd.func44, Tryd.ntmps44
  go_wp2_with fail
  go_ret
  exact ⟨w.heap.size, rfl, by simp, tabS_made w opersL 9, balloc w _⟩

set_option maxRecDepth 100000 in
set_option maxHeartbeats 1600000 in
theorem ref_first (w : World) : Calls Tryd.prog 41 #[] w (Lists 64 firstL w) := by
  go_enter Tryd.func41, Tryd.ntmps41
  go_wp2_with fail
  go_ret
  exact ⟨w.heap.size, rfl, by simp, tabS_made w firstL 9, balloc w _⟩

set_option maxRecDepth 100000 in
set_option maxHeartbeats 1600000 in
theorem ref_last (w : World) : Calls Tryd.prog 42 #[] w (Lists 64 lastL w) := by
  go_enter Tryd.func42, Tryd.ntmps42
  go_wp2_with fail
  go_ret
  exact ⟨w.heap.size, rfl, by simp, tabS_made w lastL 9, balloc w _⟩

end Go.Proofs.YthmkfojjlcinkaaDoor
