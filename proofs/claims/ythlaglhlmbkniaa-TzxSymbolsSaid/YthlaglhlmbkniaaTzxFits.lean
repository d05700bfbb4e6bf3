/- tzx.lastOf, nest.fits, leads: their contracts. -/
import Derived.Test.YthlaglhlmbkniaaTzxBlk
import Derived.Test.YthlaglhlmbkniaaProg
import Derived.WalkKit
import Derived.LoopTactic
import Derived.BigQuiet
import Derived.RegionTactic
import Derived.ChangeAlike
import Derived.Lib.Hide
namespace Go.Proofs.Ythlaglhlmbkniaa
open Go.RowKit
set_option linter.unusedVariables false
set_option linter.unusedSimpArgs false
set_option maxRecDepth 100000

theorem last_any (F : Nat → Prop) (w : World) (B : Option Addr) (n c : Nat) (L : List Lb) (h : BlAt F w B n c L) (hn : n ≤ 1000000) (id : Int) :
    Calls Try.prog 18 #[.slice B n c, .int .i64 id] w fun e w' => ∃ r, e = .returned (.int .i64 r) ∧ LastIs L id r ∧ w = w' := by
  have H := Lib.hid h
  have HL := Lib.hid h.len
  clear h
  go_enter Try.func18, Try.ntmps18
  go_wp2_with fail
  go_loopw [5] (fun i wr => ∃ z : Int, i = .int .i64 z ∧ -1 ≤ z ∧ z < n ∧ wr = w ∧ Hid (∀ j : Nat, z < j → j < n → (gL L j).id ≠ id)) (fun i _ => (intOf i + 1).toNat)
  case atStart => exact ⟨(n : Int) - 1, by go_num, by omega, by omega, rfl, Lib.hid fun j h1 h2 => absurd h1 (by omega)⟩
  case round =>
    obtain ⟨z, rfl, hz1, hz2, rfl, HA⟩ := hrel
    by_cases hz : 0 ≤ z
    · obtain ⟨m, rfl⟩ : ∃ m : Nat, z = m := ⟨z.toNat, by omega⟩
      obtain ⟨g, cs, rfl, hg, hm, hv⟩ := H.out.bounds m (by omega)
      have c0 : wr.cell? ⟨g, m * 18, none⟩ = some (.int .i64 (gL L m).id) := (hm.2 0 (by omega)).trans hv.id
      have hmn : m < n := by omega
      have HI := Lib.hid (show (gL L m).id = (gL L m).id from rfl)
      clear hm hv hg
      generalize hy : (gL L m).id = y at c0
      have HY := Lib.hid hy
      clear hy HI
      by_cases e : y = id
      · have d : (y == id) = true := by rw [e]; exact beq_self_eq_true _
        have HE : Hid (LastIs L id m) := Lib.hid (Or.inr ⟨m, rfl, by rw [HL.out]; exact hmn, by rw [HY.out]; exact e, fun j h1 h2 => HA.out j (by omega) (by rw [← HL.out]; exact h2)⟩)
        clear e
        go_wp2_with fail
        go_ret
        exact ⟨_, rfl, HE.out, rfl⟩
      · have d : (y == id) = false := by rw [beq_eq_false_iff_ne]; exact e
        have HE : Hid (∀ j : Nat, (m : Int) - 1 < j → j < n → (gL L j).id ≠ id) := Lib.hid (fun j h1 h2 => by
          by_cases x : j = m
          · rw [x, HY.out]; exact e
          · exact HA.out j (by omega) h2)
        clear e
        go_wp2_with fail
        go_roundw
        case rel => exact ⟨(m : Int) - 1, by go_num, by omega, by omega, trivial, HE⟩
        case measure => simp [intOf]
    · obtain rfl : z = -1 := by omega
      have HE : Hid (LastIs L id (-1)) := Lib.hid (Or.inl ⟨rfl, fun j h1 => HA.out j (by omega) (by rw [← HL.out]; exact h1)⟩)
      go_wp2_with fail
      go_ret
      exact ⟨_, rfl, HE.out, rfl⟩
/-- A nest in memory. -/
def NestAt (w : World) (g : Nat) (b e last : Int) (o : Bool) : Prop := w.heap[g]? = some (.cells #[.int .i64 b, .int .i64 e, .int .i64 last, .bool o] 58 (0, 0))
theorem NestAt.lt {w : World} {g : Nat} {b e last : Int} {o : Bool} (h : NestAt w g b e last o) : g < w.heap.size := (Array.getElem?_eq_some_iff.1 h).1
theorem NestAt.ch {G : Nat → Prop} {w w' : World} {g : Nat} {b e last : Int} {o : Bool} (h : NestAt w g b e last o) (hc : Ch G w w') (hg : ¬ G g) : NestAt w' g b e last o := (hc.block g h.lt hg).trans h
def Fitted (w : World) (g : Nat) (b e last : Int) (r : Bool × Bool) (x : Ending) (w' : World) : Prop := x = .returned (.bool r.1) ∧ NestAt w' g b e last r.2 ∧ Ch (fun k => k = g) w w'
theorem fits_any (w : World) (g : Nat) (b e last : Int) (o : Bool) (h : NestAt w g b e last o) (i id : Int) :
    Calls Try.prog 19 #[.pointer (some ⟨g, 0, none⟩), .int .i64 i, .int .i64 id] w (Fitted w g b e last (fitF b e last o i id)) := by
  have c0 := cell_of_row w g 0 _ _ (0, 0) h
  have c1 := cell_of_row w g 1 _ _ (0, 0) h
  have c2 := cell_of_row w g 2 _ _ (0, 0) h
  have c3 := cell_of_row w g 3 _ _ (0, 0) h
  simp at c0 c1 c2 c3
  have f3 := frozen_of_row w g 3 _ _ h
  have HN : Hid (NestAt w g b e last o ∧ Ch (fun k => k = g) w w) := Lib.hid ⟨h, Ch.refl _ _⟩
  have HS : Hid (∀ q, NestAt (w.setCell ⟨g, 3, none⟩ (.bool q)) g b e last q ∧ Ch (fun k => k = g) w (w.setCell ⟨g, 3, none⟩ (.bool q))) := Lib.hid fun q => ⟨heap_setCell_same w g 3 _ _ (.bool q) h, Ch.set w g 3 _ rfl⟩
  obtain ⟨R, hR⟩ : ∃ R, fitF b e last o i id = R := ⟨_, rfl⟩
  rw [hR]
  unfold fitF at hR
  have HR := Lib.hid hR
  clear h hR
  by_cases h1 : id = b
  · have d1 : (id == b) = true := by rw [h1]; exact beq_self_eq_true _
    have HR1 := HR.out
    rw [if_pos h1] at HR1
    cases o
    · by_cases h2 : last < i
      · have d2 : decide (last < i) = true := decide_eq_true h2
        rw [if_pos (Or.inr h2)] at HR1
        subst HR1
        clear h1 h2 HR
        go_enter Try.func19, Try.ntmps19
        go_wp2_with fail
        go_ret
        exact ⟨rfl, HN.out⟩
      · have d2 : decide (last < i) = false := decide_eq_false h2
        rw [if_neg (fun x => x.elim (by decide) h2)] at HR1
        subst HR1
        clear h1 h2 HR
        go_enter Try.func19, Try.ntmps19
        go_wp2_with fail
        go_ret
        exact ⟨rfl, HS.out true⟩
    · rw [if_pos (Or.inl rfl)] at HR1
      subst HR1
      clear h1 HR
      go_enter Try.func19, Try.ntmps19
      go_wp2_with fail
      go_ret
      exact ⟨rfl, HN.out⟩
  · have d1 : (id == b) = false := by rw [beq_eq_false_iff_ne]; exact h1
    have HR1 := HR.out
    rw [if_neg h1] at HR1
    by_cases h2 : id = e
    · have d2 : (id == e) = true := by rw [h2]; exact beq_self_eq_true _
      rw [if_pos h2] at HR1
      cases o
      · rw [if_neg (by decide)] at HR1
        subst HR1
        clear h1 h2 HR
        go_enter Try.func19, Try.ntmps19
        go_wp2_with fail
        go_ret
        exact ⟨rfl, HN.out⟩
      · rw [if_pos rfl] at HR1
        subst HR1
        clear h1 h2 HR
        go_enter Try.func19, Try.ntmps19
        go_wp2_with fail
        go_ret
        exact ⟨rfl, HS.out false⟩
    · have d2 : (id == e) = false := by rw [beq_eq_false_iff_ne]; exact h2
      rw [if_neg h2] at HR1
      subst HR1
      clear h1 h2 HR
      go_enter Try.func19, Try.ntmps19
      go_wp2_with fail
      go_ret
      exact ⟨rfl, HN.out⟩
theorem away_any (w : World) (b4 b5 : Nat) (i n : Nat) (c4 : w.cell? ⟨b4, 0, none⟩ = some (.int .i64 (i : Nat))) (c5 : w.cell? ⟨b5, 0, none⟩ = some (.int .i64 (n : Nat))) (hn : n ≤ 1000000) (hi : i < n) (x : Int) :
    Calls Try.prog 28 #[.int .i64 x, .pointer (some ⟨b4, 0, none⟩), .pointer (some ⟨b5, 0, none⟩)] w fun e w' => ∃ q, e = .returned (.bool q) ∧ (q = true ↔ away n i x) ∧ w = w' := by
  have e1 : wrap64 (-(i : Int)) = -(i : Int) := IntWalk.wrap64_in _ (by omega)
  have e2 : wrap64 ((n : Int) - i) = (n : Int) - i := IntWalk.wrap64_in _ (by omega)
  obtain ⟨q1, h1⟩ : ∃ q, decide (x < -(i : Int)) = q := ⟨_, rfl⟩
  obtain ⟨q2, h2⟩ : ∃ q, decide ((n : Int) - i ≤ x) = q := ⟨_, rfl⟩
  have HA : Hid ((q1 || q2) = true ↔ away n i x) := Lib.hid (by unfold away; rw [← h1, ← h2]; simp)
  cases q1 <;> cases q2
  all_goals
    go_enter Try.func28, Try.ntmps28
    go_wp2_with fail
    go_ret
    exact ⟨_, rfl, HA.out, rfl⟩

end Go.Proofs.Ythlaglhlmbkniaa
