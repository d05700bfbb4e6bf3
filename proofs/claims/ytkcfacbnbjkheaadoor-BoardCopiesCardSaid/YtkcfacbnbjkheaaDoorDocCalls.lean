/- The calls of the document's board that read: their contracts. -/
import Derived.Test.YtkcfacbnbjkheaaDoorDocAt
import Derived.Test.YtkcfacbnbjkheaaDoorBKeysRefRead
import Derived.Test.YtkcfacbnbjkheaaDoorBUlaRef
import Derived.Deep.QuietTactic
import Derived.BigQuiet
namespace Go.Proofs.YtkcfacbnbjkheaaDoor
open Go.RowKit
set_option maxRecDepth 100000

theorem below_drawn {B : Nat} {w u : World} (h : Below B w u) (n : Nat) : Below B w (u.drewN n) := h.trans ⟨rfl, rfl, rfl, Nat.le_refl _, fun _ _ => rfl⟩
theorem over_any (x base : Nat) (s : St) (ph : Int) (vd ea ee : Value) (L : List Int) (w : World) (hD : DAt w x base s ph vd ea ee L) :
    Calls Tryd.prog 53 #[.pointer (some ⟨x, 0, none⟩)] w fun e w' => e = .returned (.bool false) ∧ Below w.heap.size w w' := by
  have c1 := hD.c_limit
  clear hD
  go_enter Tryd.func53, Tryd.ntmps53
  go_wp2_with fail
  go_quiet (fail)
  go_wp2_with fail
  go_ret
  exact ⟨rfl, below_drawn (Below.refl _ _) _⟩
theorem dframe_any (x base : Nat) (s : St) (ph : Int) (vd ea ee : Value) (L : List Int) (w : World) (hD : DAt w x base s ph vd ea ee L) (t0 : 0 ≤ s.t) (t1 : s.t ≤ 1000000000) :
    Calls Tryd.prog 35 #[.pointer (some ⟨x, 0, none⟩)] w fun e w' => e = .returned (.int .i64 s.frame) ∧ Below w.heap.size w w' := by
  have c1 := hD.c_t
  have c2 := hD.c_phase
  have p0 := hD.ph0
  have p1 := hD.ph1
  have HF := Lib.hid (show s.frame = (s.t + ph) % 69888 from hD.fr)
  clear hD
  go_enter Tryd.func35, Tryd.ntmps35
  go_wp2_with fail
  go_quiet (fail)
  go_wp2_with fail
  go_ret
  exact ⟨by rw [HF.out]; rfl, below_drawn (Below.refl _ _) _⟩
theorem dint_any (x base : Nat) (s : St) (ph : Int) (vd ea ee : Value) (L : List Int) (w : World) (hD : DAt w x base s ph vd ea ee L) (t0 : 0 ≤ s.t) (t1 : s.t ≤ 1000000000) :
    Calls Tryd.prog 34 #[.pointer (some ⟨x, 0, none⟩)] w fun e w' => e = .returned (.bool (decide (s.frame < 32))) ∧ Below w.heap.size w w' := by
  have c1 := hD.c_flat
  have HF := Lib.hid (dframe_any x base s ph vd ea ee L w hD t0 t1)
  clear hD
  go_enter Tryd.func34, Tryd.ntmps34
  go_wp2_with fail
  refine (HF.out).mono ?_
  rintro e w1 ⟨rfl, hb1⟩
  go_wp2_with fail
  go_ret
  exact ⟨rfl, hb1⟩
theorem dhold_any (x base : Nat) (s : St) (ph : Int) (vd ea ee : Value) (L : List Int) (w : World) (hD : DAt w x base s ph vd ea ee L) (kind a k : Int) (t0 : 0 ≤ s.t) (t1 : s.t ≤ 1000000000) (a0 : 0 ≤ a) (a1 : a ≤ 65535) :
    Calls Tryd.prog 40 #[.pointer (some ⟨x, 0, none⟩), .int .i64 kind, .int .u16 a, .int .i64 k] w fun e w' => e = .returned (.int .i64 (if s.slow then holdV kind a k s.frame else 0)) ∧ Below w.heap.size w w' := by
  have c1 := hD.c_flat
  have c2 := hD.c_slow
  have HF := Lib.hid (dframe_any x base s ph vd ea ee L w hD t0 t1)
  have HH := Lib.hid (fun w => refHold_any kind a k s.frame w a0 a1)
  clear hD
  cases hs : s.slow with
  | true =>
    rw [hs] at c2
    go_enter Tryd.func40, Tryd.ntmps40
    go_wp2_with fail
    refine (HF.out).mono ?_
    rintro e w1 ⟨rfl, hb1⟩
    go_wp2_with fail
    refine (HH.out _).mono ?_
    rintro e w' ⟨rfl, rfl⟩
    go_wp2_with fail
    go_ret
    exact ⟨rfl, hb1⟩
  | false =>
    rw [hs] at c2
    go_enter Tryd.func40, Tryd.ntmps40
    go_wp2_with fail
    go_ret
    exact ⟨rfl, Below.refl _ _⟩
theorem pressed_any (x base : Nat) (s : St) (ph : Int) (vd ea ee : Value) (L : List Int) (w : World) (hD : DAt w x base s ph vd ea ee L) :
    Calls Tryd.prog 56 #[.pointer (some ⟨x, 0, none⟩)] w fun e w' => e = .returned vd ∧ Below w.heap.size w w' := by
  have c1 := hD.c_vd
  have c2 := hD.c_keys
  clear hD
  go_enter Tryd.func56, Tryd.ntmps56
  go_wp2_with fail
  go_loop [3, 4] (fun y i => vd = y ∧ i = .int .i64 0) (fun _ _ => 0)
  case atStart => exact ⟨rfl, rfl⟩
  case round =>
    obtain ⟨rfl, rfl⟩ := hrel
    go_wp2_with fail
    go_ret
    exact ⟨rfl, Below.refl _ _⟩
theorem level_any (x base : Nat) (s : St) (ph : Int) (vd ea ee : Value) (L : List Int) (w : World) (hD : DAt w x base s ph vd ea ee L) :
    Calls Tryd.prog 57 #[.pointer (some ⟨x, 0, none⟩)] w fun e w' => e = .returned (.bool s.ear) ∧ Below w.heap.size w w' := by
  have c1 := hD.c_ear
  have c2 := hD.c_ears
  have c3 := hD.c_at
  clear hD
  cases he : s.ear
  all_goals
    rw [he] at c1
    go_enter Tryd.func57, Tryd.ntmps57
    go_wp2_with fail
    go_loopw [] (fun wr => ∃ n : Nat, wr = w.drewN n) (fun _ => 0)
    case atStart => exact ⟨0, rfl⟩
    case round =>
      obtain ⟨n, rfl⟩ := hrel
      go_wp2_with fail
      go_quiet (fail)
      go_wp2_with fail
      go_quiet (fail)
      go_wp2_with fail
      go_ret
      exact ⟨rfl, below_drawn (below_drawn (below_drawn (Below.refl _ _) _) _) _⟩

end Go.Proofs.YtkcfacbnbjkheaaDoor
