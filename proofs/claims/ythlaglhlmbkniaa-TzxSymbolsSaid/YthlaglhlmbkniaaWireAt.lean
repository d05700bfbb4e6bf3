/- A reader in memory; its calls that only look. -/
import Derived.Test.YthlaglhlmbkniaaWireMath
import Derived.Test.YthlaglhlmbkniaaClone
import Derived.Test.YthlaglhlmbkniaaInts
namespace Go.Proofs.Ythlaglhlmbkniaa
open Go.RowKit
set_option linter.unusedVariables false
set_option linter.unusedSimpArgs false

/-- A reader in block g: the bytes l, read up to p; its fault e at f (none, if e is 0). -/
structure RdAt (F : Nat → Prop) (w : World) (g : Nat) (l : List Int) (p : Nat) (e f : Int) : Prop where
  apart : ¬ F g
  fit : p ≤ l.length
  is : ∃ A n cap, w.heap[g]? = some (.cells #[.slice A n cap, .int .i64 (p : Nat), .int .i64 e, .int .i64 f] 77 (0, 0)) ∧ BAt8 F w A n cap l
theorem RdAt.lt {F : Nat → Prop} {w : World} {g : Nat} {l : List Int} {p : Nat} {e f : Int} (h : RdAt F w g l p e f) : g < w.heap.size := by
  obtain ⟨_, _, A, n, cap, h1, _⟩ := h
  exact (Array.getElem?_eq_some_iff.1 h1).1
theorem RdAt.below {F : Nat → Prop} {w w' : World} {g : Nat} {l : List Int} {p : Nat} {e f : Int} (h : RdAt F w g l p e f) (hb : Below w.heap.size w w') : RdAt F w' g l p e f := by
  have hg := h.lt
  obtain ⟨h1, h2, A, n, cap, h3, h4⟩ := h
  exact ⟨h1, h2, A, n, cap, (hb.block g hg).trans h3, h4.below hb⟩
theorem RdAt.drew {F : Nat → Prop} {w : World} {g : Nat} {l : List Int} {p : Nat} {e f : Int} (h : RdAt F w g l p e f) (n : Nat) : RdAt F (w.drewN n) g l p e f := h.below (bdrawn (Below.refl _ _) n)
/-- What a look at a reader leaves as it was. -/
def Looks (v : Value) (w : World) (e : Ending) (w' : World) : Prop := e = .returned v ∧ ∃ n, w' = w.drewN n
theorem drew0 (w : World) : ∃ n, w = w.drewN n := ⟨0, by unfold World.drewN; rfl⟩
theorem mayBe_any (n : Int) (R : Bool) (hR : (decide (1 ≤ n) && decide (n ≤ 4)) = R) (w : World) : Calls Try.prog 41 #[.int .i64 n] w fun e w' => e = .returned (.bool R) ∧ w = w' := by
  obtain ⟨q1, h1⟩ : ∃ q, decide (1 ≤ n) = q := ⟨_, rfl⟩
  obtain ⟨q2, h2⟩ : ∃ q, decide (n ≤ 4) = q := ⟨_, rfl⟩
  rw [h1, h2] at hR
  subst hR
  cases q1 <;> cases q2
  all_goals
    go_enter Try.func41, Try.ntmps41
    go_wp2_with fail
    go_ret
    exact ⟨rfl, rfl⟩
theorem bad_nil (w : World) : Calls Try.prog 39 #[.pointer none] w fun e w' => e = .returned (.bool false) ∧ w = w' := by
  go_enter Try.func39, Try.ntmps39
  go_wp2_with fail
  go_ret
  exact ⟨rfl, rfl⟩
theorem bad_any (F : Nat → Prop) (w : World) (g : Nat) (l : List Int) (p : Nat) (e f : Int) (h : RdAt F w g l p e f) (q : Bool) (hq : (e == 0) = q) : Calls Try.prog 39 #[.pointer (some ⟨g, 0, none⟩)] w fun x w' => x = .returned (.bool (!q)) ∧ w = w' := by
  obtain ⟨h1, h2, A, n, cap, h3, h4⟩ := h
  have c2 := cell_of_row w g 2 _ _ (0, 0) h3
  simp at c2
  have hq2 : (e != 0) = !q := by rw [bne, hq]
  clear h3 h4 h1 h2
  cases q
  all_goals
    go_enter Try.func39, Try.ntmps39
    go_wp2_with fail
    go_ret
    exact ⟨rfl, rfl⟩
theorem at_nil (w : World) : Calls Try.prog 37 #[.pointer none] w fun e w' => e = .returned (.int .i64 0) ∧ w = w' := by
  go_enter Try.func37, Try.ntmps37
  go_wp2_with fail
  go_ret
  exact ⟨rfl, rfl⟩
theorem at_any (F : Nat → Prop) (w : World) (g : Nat) (l : List Int) (p : Nat) (e f : Int) (h : RdAt F w g l p e f) : Calls Try.prog 37 #[.pointer (some ⟨g, 0, none⟩)] w fun x w' => x = .returned (.int .i64 (p : Nat)) ∧ w = w' := by
  obtain ⟨h1, h2, A, n, cap, h3, h4⟩ := h
  have c1 := cell_of_row w g 1 _ _ (0, 0) h3
  simp at c1
  clear h3 h4 h1 h2
  go_enter Try.func37, Try.ntmps37
  go_wp2_with fail
  go_ret
  exact ⟨rfl, rfl⟩
theorem left_nil (w : World) : Calls Try.prog 35 #[.pointer none] w (Looks (.int .i64 0) w) := by
  go_enter Try.func35, Try.ntmps35
  go_wp2_with fail
  go_ret
  exact ⟨rfl, drew0 _⟩
theorem left_bad (F : Nat → Prop) (w : World) (g : Nat) (l : List Int) (p : Nat) (e f : Int) (h : RdAt F w g l p e f) (he : e ≠ 0) : Calls Try.prog 35 #[.pointer (some ⟨g, 0, none⟩)] w (Looks (.int .i64 0) w) := by
  have H := Lib.hid (bad_any F w g l p e f h false (by simpa using he))
  clear h he
  go_enter Try.func35, Try.ntmps35
  go_wp2_with fail
  refine (H.out).mono ?_
  rintro e w' ⟨rfl, rfl⟩
  go_wp2_with fail
  go_ret
  exact ⟨rfl, drew0 _⟩
theorem left_any (F : Nat → Prop) (w : World) (g : Nat) (l : List Int) (p : Nat) (f : Int) (h : RdAt F w g l p 0 f) (L : Nat) (hL : l.length - p = L) (hl : l.length ≤ 1000000) : Calls Try.prog 35 #[.pointer (some ⟨g, 0, none⟩)] w (Looks (.int .i64 (L : Nat)) w) := by
  have H := Lib.hid (bad_any F w g l p 0 f h true rfl)
  obtain ⟨h1, h2, A, n, cap, h3, h4⟩ := h
  have c0 := cell_of_row w g 0 _ _ (0, 0) h3
  have c1 := cell_of_row w g 1 _ _ (0, 0) h3
  simp at c0 c1
  have hlen := h4.len
  have he : ((n : Int) - (p : Int)) = (L : Int) := by omega
  have hw : wrap64 (n - p) = (L : Int) := by rw [IntWalk.wrap64_in _ (by omega), he]
  clear h3 h4 h1
  go_enter Try.func35, Try.ntmps35
  go_wp2_with fail
  refine (H.out).mono ?_
  rintro e w' ⟨rfl, rfl⟩
  go_wp2_with fail
  go_quiet (fail)
  go_wp2_with fail
  go_ret
  exact ⟨by first | rfl | rw [he], _, rfl⟩

end Go.Proofs.Ythlaglhlmbkniaa
