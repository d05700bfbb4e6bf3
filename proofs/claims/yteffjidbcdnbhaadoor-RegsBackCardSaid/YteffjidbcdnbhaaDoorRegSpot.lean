/- Where a register stands: regs.single, index, word, halves. -/
import Derived.Test.YteffjidbcdnbhaaDoorRegMath
import Derived.Test.YteffjidbcdnbhaaDoorWideOf
import Derived.Lib.Hide
namespace Go.Proofs.YteffjidbcdnbhaaDoor
open Go.RowKit

/-- A single byte's cell. -/
def offB (k : Int) : Option Nat := if k = 0 then some 2 else if k = 1 then some 3 else if k = 2 then some 4 else if k = 3 then some 5 else if k = 4 then some 6 else if k = 5 then some 7 else if k = 7 then some 0 else none
/-- An index's cell. -/
def offI (i : Int) : Option Nat := if i = 1 then some 19 else if i = 2 then some 20 else none
def spot (b : Nat) (o : Option Nat) : Value := .pointer (o.map fun o => ⟨b, o, none⟩)

set_option maxHeartbeats 800000 in
theorem single_any (b : Nat) (k : Int) (w : World) : Calls Tryd.prog 32 #[.pointer (some ⟨b, 0, none⟩), .int .i64 k] w fun e w' => e = .returned (spot b (offB k)) ∧ w = w' := by
  unfold offB spot
  by_cases h0 : k = 0
  · subst h0
    go_enter Tryd.func32, Tryd.ntmps32
    go_wp2_with fail
    go_ret
    exact ⟨rfl, rfl⟩
  by_cases h1 : k = 1
  · subst h1
    go_enter Tryd.func32, Tryd.ntmps32
    go_wp2_with fail
    go_ret
    exact ⟨rfl, rfl⟩
  by_cases h2 : k = 2
  · subst h2
    go_enter Tryd.func32, Tryd.ntmps32
    go_wp2_with fail
    go_ret
    exact ⟨rfl, rfl⟩
  by_cases h3 : k = 3
  · subst h3
    go_enter Tryd.func32, Tryd.ntmps32
    go_wp2_with fail
    go_ret
    exact ⟨rfl, rfl⟩
  by_cases h4 : k = 4
  · subst h4
    go_enter Tryd.func32, Tryd.ntmps32
    go_wp2_with fail
    go_ret
    exact ⟨rfl, rfl⟩
  by_cases h5 : k = 5
  · subst h5
    go_enter Tryd.func32, Tryd.ntmps32
    go_wp2_with fail
    go_ret
    exact ⟨rfl, rfl⟩
  by_cases h7 : k = 7
  · subst h7
    go_enter Tryd.func32, Tryd.ntmps32
    go_wp2_with fail
    go_ret
    exact ⟨rfl, rfl⟩
  · have e0 : (k == 0) = false := by simpa using h0
    have e1 : (k == 1) = false := by simpa using h1
    have e2 : (k == 2) = false := by simpa using h2
    have e3 : (k == 3) = false := by simpa using h3
    have e4 : (k == 4) = false := by simpa using h4
    have e5 : (k == 5) = false := by simpa using h5
    have e7 : (k == 7) = false := by simpa using h7
    rw [if_neg h0, if_neg h1, if_neg h2, if_neg h3, if_neg h4, if_neg h5, if_neg h7]
    clear h0 h1 h2 h3 h4 h5 h7
    go_enter Tryd.func32, Tryd.ntmps32
    go_wp2_with fail
    go_ret
    exact ⟨rfl, rfl⟩
theorem single_at (b : Nat) (k : Int) (o : Nat) (w : World) (h : offB k = some o) : Calls Tryd.prog 32 #[.pointer (some ⟨b, 0, none⟩), .int .i64 k] w fun e w' => e = .returned (.pointer (some ⟨b, o, none⟩)) ∧ w = w' := by
  have := single_any b k w
  rwa [h] at this
theorem single_no (b : Nat) (k : Int) (w : World) (h : offB k = none) : Calls Tryd.prog 32 #[.pointer (some ⟨b, 0, none⟩), .int .i64 k] w fun e w' => e = .returned (.pointer none) ∧ w = w' := by
  have := single_any b k w
  rwa [h] at this
set_option maxHeartbeats 400000 in
theorem single_nil (k : Int) (w : World) : Calls Tryd.prog 32 #[.pointer none, .int .i64 k] w fun e w' => e = .returned (.pointer none) ∧ w = w' := by
  go_enter Tryd.func32, Tryd.ntmps32
  go_wp2_with fail
  go_ret
  exact ⟨rfl, rfl⟩

set_option maxHeartbeats 400000 in
theorem index_any (b : Nat) (i : Int) (w : World) : Calls Tryd.prog 28 #[.pointer (some ⟨b, 0, none⟩), .int .i64 i] w fun e w' => e = .returned (spot b (offI i)) ∧ w = w' := by
  unfold offI spot
  by_cases h1 : i = 1
  · subst h1
    go_enter Tryd.func28, Tryd.ntmps28
    go_wp2_with fail
    go_ret
    exact ⟨rfl, rfl⟩
  by_cases h2 : i = 2
  · subst h2
    go_enter Tryd.func28, Tryd.ntmps28
    go_wp2_with fail
    go_ret
    exact ⟨rfl, rfl⟩
  · have e1 : (i == 1) = false := by simpa using h1
    have e2 : (i == 2) = false := by simpa using h2
    rw [if_neg h1, if_neg h2]
    clear h1 h2
    go_enter Tryd.func28, Tryd.ntmps28
    go_wp2_with fail
    go_ret
    exact ⟨rfl, rfl⟩
theorem index_at (b : Nat) (i : Int) (o : Nat) (w : World) (h : offI i = some o) : Calls Tryd.prog 28 #[.pointer (some ⟨b, 0, none⟩), .int .i64 i] w fun e w' => e = .returned (.pointer (some ⟨b, o, none⟩)) ∧ w = w' := by
  have := index_any b i w
  rwa [h] at this
theorem index_no (b : Nat) (i : Int) (w : World) (h : offI i = none) : Calls Tryd.prog 28 #[.pointer (some ⟨b, 0, none⟩), .int .i64 i] w fun e w' => e = .returned (.pointer none) ∧ w = w' := by
  have := index_any b i w
  rwa [h] at this
set_option maxHeartbeats 400000 in
theorem index_nil (i : Int) (w : World) : Calls Tryd.prog 28 #[.pointer none, .int .i64 i] w fun e w' => e = .returned (.pointer none) ∧ w = w' := by
  go_enter Tryd.func28, Tryd.ntmps28
  go_wp2_with fail
  go_ret
  exact ⟨rfl, rfl⟩

/-- A pair's cell, where it is one word. -/
def offW (k i : Int) : Option Nat := if k = 2 then offI i else if k = 3 then some 21 else none
set_option maxHeartbeats 400000 in
theorem wordAt_any (b : Nat) (k i : Int) (w : World) : Calls Tryd.prog 33 #[.pointer (some ⟨b, 0, none⟩), .int .i64 k, .int .i64 i] w fun e w' => e = .returned (spot b (offW k i)) ∧ w = w' := by
  unfold offW
  by_cases h2 : k = 2
  · subst h2
    go_enter Tryd.func33, Tryd.ntmps33
    go_wp2_with fail
    refine (index_any _ _ _).mono ?_
    rintro e w' ⟨rfl, rfl⟩
    go_wp2_with fail
    go_ret
    exact ⟨rfl, rfl⟩
  by_cases h3 : k = 3
  · subst h3
    go_enter Tryd.func33, Tryd.ntmps33
    go_wp2_with fail
    go_ret
    exact ⟨rfl, rfl⟩
  · have e2 : (k == 2) = false := by simpa using h2
    have e3 : (k == 3) = false := by simpa using h3
    rw [if_neg h2, if_neg h3]
    clear h2 h3
    go_enter Tryd.func33, Tryd.ntmps33
    go_wp2_with fail
    go_ret
    exact ⟨rfl, rfl⟩
theorem wordAt_at (b : Nat) (k i : Int) (o : Nat) (w : World) (h : offW k i = some o) : Calls Tryd.prog 33 #[.pointer (some ⟨b, 0, none⟩), .int .i64 k, .int .i64 i] w fun e w' => e = .returned (.pointer (some ⟨b, o, none⟩)) ∧ w = w' := by
  have := wordAt_any b k i w
  rwa [h] at this
theorem wordAt_no (b : Nat) (k i : Int) (w : World) (h : offW k i = none) : Calls Tryd.prog 33 #[.pointer (some ⟨b, 0, none⟩), .int .i64 k, .int .i64 i] w fun e w' => e = .returned (.pointer none) ∧ w = w' := by
  have := wordAt_any b k i w
  rwa [h] at this
set_option maxHeartbeats 400000 in
theorem wordAt_nil (k i : Int) (w : World) : Calls Tryd.prog 33 #[.pointer none, .int .i64 k, .int .i64 i] w fun e w' => e = .returned (.pointer none) ∧ w = w' := by
  go_enter Tryd.func33, Tryd.ntmps33
  go_wp2_with fail
  go_ret
  exact ⟨rfl, rfl⟩

/-- A pair's two cells. -/
def offP (k : Int) : Option (Nat × Nat) := if k = 0 then some (2, 3) else if k = 1 then some (4, 5) else if k = 2 then some (6, 7) else none
set_option maxHeartbeats 800000 in
theorem halves_at (b : Nat) (k : Int) (o p : Nat) (w : World) (h : offP k = some (o, p)) : Calls Tryd.prog 34 #[.pointer (some ⟨b, 0, none⟩), .int .i64 k] w fun e w' => e = .returned (.tuple #[.pointer (some ⟨b, o, none⟩), .pointer (some ⟨b, p, none⟩)]) ∧ w = w' := by
  unfold offP at h
  by_cases h0 : k = 0
  · subst h0
    obtain ⟨rfl, rfl⟩ : 2 = o ∧ 3 = p := by simpa using h
    clear h
    go_enter Tryd.func34, Tryd.ntmps34
    go_wp2_with fail
    refine (single_at _ _ 2 _ rfl).mono ?_
    rintro e w' ⟨rfl, rfl⟩
    go_wp2_with fail
    refine (single_at _ _ 3 _ rfl).mono ?_
    rintro e w' ⟨rfl, rfl⟩
    go_wp2_with fail
    go_ret2
    exact ⟨rfl, rfl⟩
  by_cases h1 : k = 1
  · subst h1
    obtain ⟨rfl, rfl⟩ : 4 = o ∧ 5 = p := by simpa using h
    clear h h0
    go_enter Tryd.func34, Tryd.ntmps34
    go_wp2_with fail
    refine (single_at _ _ 4 _ rfl).mono ?_
    rintro e w' ⟨rfl, rfl⟩
    go_wp2_with fail
    refine (single_at _ _ 5 _ rfl).mono ?_
    rintro e w' ⟨rfl, rfl⟩
    go_wp2_with fail
    go_ret2
    exact ⟨rfl, rfl⟩
  by_cases h2 : k = 2
  · subst h2
    obtain ⟨rfl, rfl⟩ : 6 = o ∧ 7 = p := by simpa using h
    clear h h0 h1
    go_enter Tryd.func34, Tryd.ntmps34
    go_wp2_with fail
    refine (single_at _ _ 6 _ rfl).mono ?_
    rintro e w' ⟨rfl, rfl⟩
    go_wp2_with fail
    refine (single_at _ _ 7 _ rfl).mono ?_
    rintro e w' ⟨rfl, rfl⟩
    go_wp2_with fail
    go_ret2
    exact ⟨rfl, rfl⟩
  · rw [if_neg h0, if_neg h1, if_neg h2] at h
    exact absurd h (by simp)
set_option maxHeartbeats 400000 in
theorem halves_no (b : Nat) (k : Int) (w : World) (h0 : k ≠ 0) (h1 : k ≠ 1) (h2 : k ≠ 2) : Calls Tryd.prog 34 #[.pointer (some ⟨b, 0, none⟩), .int .i64 k] w fun e w' => e = .returned (.tuple #[.pointer none, .pointer none]) ∧ w = w' := by
  have e0 : (k == 0) = false := by simpa using h0
  have e1 : (k == 1) = false := by simpa using h1
  have e2 : (k == 2) = false := by simpa using h2
  clear h0 h1 h2
  go_enter Tryd.func34, Tryd.ntmps34
  go_wp2_with fail
  go_ret2
  exact ⟨rfl, rfl⟩
set_option maxHeartbeats 800000 in
theorem halves_nil (k : Int) (w : World) : Calls Tryd.prog 34 #[.pointer none, .int .i64 k] w fun e w' => e = .returned (.tuple #[.pointer none, .pointer none]) ∧ w = w' := by
  by_cases h0 : k = 0
  · subst h0
    go_enter Tryd.func34, Tryd.ntmps34
    go_wp2_with fail
    refine (single_nil _ _).mono ?_
    rintro e w' ⟨rfl, rfl⟩
    go_wp2_with fail
    refine (single_nil _ _).mono ?_
    rintro e w' ⟨rfl, rfl⟩
    go_wp2_with fail
    go_ret2
    exact ⟨rfl, rfl⟩
  by_cases h1 : k = 1
  · subst h1
    clear h0
    go_enter Tryd.func34, Tryd.ntmps34
    go_wp2_with fail
    refine (single_nil _ _).mono ?_
    rintro e w' ⟨rfl, rfl⟩
    go_wp2_with fail
    refine (single_nil _ _).mono ?_
    rintro e w' ⟨rfl, rfl⟩
    go_wp2_with fail
    go_ret2
    exact ⟨rfl, rfl⟩
  by_cases h2 : k = 2
  · subst h2
    clear h0 h1
    go_enter Tryd.func34, Tryd.ntmps34
    go_wp2_with fail
    refine (single_nil _ _).mono ?_
    rintro e w' ⟨rfl, rfl⟩
    go_wp2_with fail
    refine (single_nil _ _).mono ?_
    rintro e w' ⟨rfl, rfl⟩
    go_wp2_with fail
    go_ret2
    exact ⟨rfl, rfl⟩
  · have e0 : (k == 0) = false := by simpa using h0
    have e1 : (k == 1) = false := by simpa using h1
    have e2 : (k == 2) = false := by simpa using h2
    clear h0 h1 h2
    go_enter Tryd.func34, Tryd.ntmps34
    go_wp2_with fail
    go_ret2
    exact ⟨rfl, rfl⟩

end Go.Proofs.YteffjidbcdnbhaaDoor
