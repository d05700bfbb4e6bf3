/- tzx.Symbol, whatever comes in. -/
import Derived.Test.YthlaglhlmbkniaaTzxSymK
namespace Go.Proofs.Ythlaglhlmbkniaa
open Go.RowKit
set_option linter.unusedVariables false
set_option linter.unusedSimpArgs false
set_option maxRecDepth 100000

set_option maxHeartbeats 1600000 in
theorem symbol_any (F : Nat → Prop) (w : World) (A : Option Addr) (n cap : Nat) (l : List Int) (h : BAt8 F w A n cap l) (hn : n ≤ 1000000) (k i : Int) :
    Calls Try.prog 9 #[.slice A n cap, .int .i64 k, .int .i64 i] w (SymE l k i w) := by
  by_cases c1 : k < 0
  · have d1 : decide (k < 0) = true := decide_eq_true c1
    have HE := Lib.hid (SymE.no (l := l) (k := k) (i := i) w fun x => by have := x.1; omega)
    clear c1 h
    go_enter Try.func9, Try.ntmps9
    go_wp2_with fail
    go_ret2
    exact HE.out
  have d1 : decide (k < 0) = false := decide_eq_false c1
  by_cases c2 : 8 < k
  · have d2 : decide (8 < k) = true := decide_eq_true c2
    have HE := Lib.hid (SymE.no (l := l) (k := k) (i := i) w fun x => by have := x.2.1; omega)
    clear c1 c2 h
    go_enter Try.func9, Try.ntmps9
    go_wp2_with fail
    go_ret2
    exact HE.out
  have d2 : decide (8 < k) = false := decide_eq_false c2
  by_cases c3 : i < 0
  · have d3 : decide (i < 0) = true := decide_eq_true c3
    have HE := Lib.hid (SymE.no (l := l) (k := k) (i := i) w fun x => by have := x.2.2.1; omega)
    clear c1 c2 c3 h
    go_enter Try.func9, Try.ntmps9
    go_wp2_with fail
    go_ret2
    exact HE.out
  have d3 : decide (i < 0) = false := decide_eq_false c3
  obtain ⟨ι, rfl⟩ : ∃ ι : Nat, i = ι := ⟨i.toNat, by omega⟩
  rcases (show k = 0 ∨ k = 1 ∨ k = 2 ∨ k = 3 ∨ k = 4 ∨ k = 5 ∨ k = 6 ∨ k = 7 ∨ k = 8 by omega) with rfl | rfl | rfl | rfl | rfl | rfl | rfl | rfl | rfl
  · have HE : Hid (SymE l 0 ι w (.returned (.tuple #[.int .i64 0, .bool true])) w) := Lib.hid ⟨Or.inl ⟨⟨by omega, by omega, by omega, Or.inl rfl⟩, by rw [show Int.toNat 0 = 0 from rfl, symF_zero]; rfl⟩, drew0 w⟩
    clear c1 c2 c3 h
    go_enter Try.func9, Try.ntmps9
    go_wp2_with fail
    go_ret2
    exact HE.out
  · exact symbol_1 F w A n cap l h hn ι
  · exact symbol_2 F w A n cap l h hn ι
  · exact symbol_3 F w A n cap l h hn ι
  · exact symbol_4 F w A n cap l h hn ι
  · exact symbol_5 F w A n cap l h hn ι
  · exact symbol_6 F w A n cap l h hn ι
  · exact symbol_7 F w A n cap l h hn ι
  · exact symbol_8 F w A n cap l h hn ι

end Go.Proofs.Ythlaglhlmbkniaa
