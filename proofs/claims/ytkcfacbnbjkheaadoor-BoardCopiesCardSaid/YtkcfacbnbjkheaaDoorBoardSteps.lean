/- Steps on both boards; how many there are: their contracts. -/
import Derived.Test.YtkcfacbnbjkheaaDoorStepA
import Derived.Test.YtkcfacbnbjkheaaDoorStepB
import Derived.Test.YtkcfacbnbjkheaaDoorStepC
import Derived.Test.YtkcfacbnbjkheaaDoorStepD
import Derived.Test.YtkcfacbnbjkheaaDoorStepE
import Derived.Test.YtkcfacbnbjkheaaDoorStepF
namespace Go.Proofs.YtkcfacbnbjkheaaDoor
open Go.RowKit
set_option maxRecDepth 100000
set_option linter.unusedVariables false

theorem step_any (R : Nat → Prop) (p b x base : Nat) (s d : St) (va ve : Value) (ph : Int) (vd ea ee : Value) (L : List Int) (n : Nat) (T : Int) (K N : Int) (A : Nat) (V : Int) (nm : ByteArray) (tb : Array Value) (w : World) (hP : Pr w R b x base s d va ve ph vd ea ee L n T) (hp : R p) (hp0 : w.cell? ⟨p, 0, none⟩ = some (.pointer (some ⟨b, 0, none⟩))) (hp1 : w.cell? ⟨p, 1, none⟩ = some (.pointer (some ⟨x, 0, none⟩)))
    (hA : A < 65536) (v0 : 0 ≤ V) (v1 : V ≤ 255) (hn : n ≤ 900) (hT : T ≤ 900000000) (hW : ∀ u, Below base w u → Waits u) (hN : ∀ u, Below base w u → NmTab tb u) :
    Calls Tryd.prog 10 #[.pointer (some ⟨p, 0, none⟩), .agg #[.int .i64 K, .int .i64 N, .int .u16 A, .int .u8 V, .string nm]] w (SPost R b x base s d n T w) := by
  have hn8 : n ≤ 80000 := by omega
  by_cases k0 : K = 0
  · subst k0; exact step0 R p b x base s d va ve ph vd ea ee L n T N A V nm tb w hP hp hp0 hp1 hA v0 v1 hn8 hT hW hN
  by_cases k1 : K = 1
  · subst k1; exact step1 R p b x base s d va ve ph vd ea ee L n T N A V nm tb w hP hp hp0 hp1 hA v0 v1 hn8 hT hW hN
  by_cases k2 : K = 2
  · subst k2; exact step2 R p b x base s d va ve ph vd ea ee L n T N A V nm tb w hP hp hp0 hp1 hA v0 v1 hn8 hT hW hN
  by_cases k3 : K = 3
  · subst k3; exact step3 R p b x base s d va ve ph vd ea ee L n T N A V nm tb w hP hp hp0 hp1 hA v0 v1 hn8 hT hW hN
  by_cases k4 : K = 4
  · subst k4; exact step4 R p b x base s d va ve ph vd ea ee L n T N A V nm tb w hP hp hp0 hp1 hA v0 v1 hn8 hT hW hN
  by_cases k5 : K = 5
  · subst k5
    by_cases hk : keyN nm = 40
    · exact step5n R p b x base s d va ve ph vd ea ee L n T N A V nm tb w hP hp hp0 hp1 hA v0 v1 hn hT hW hN hk
    · exact step5y R p b x base s d va ve ph vd ea ee L n T N A V nm tb w hP hp hp0 hp1 hA v0 v1 hn hT hW hN (by have := keyN_le nm; omega)
  by_cases k6 : K = 6
  · subst k6; exact step6 R p b x base s d va ve ph vd ea ee L n T N A V nm tb w hP hp hp0 hp1 hA v0 v1 hn8 hT hW hN
  by_cases k7 : K = 7
  · subst k7; exact step7 R p b x base s d va ve ph vd ea ee L n T N A V nm tb w hP hp hp0 hp1 hA v0 v1 hn8 hT hW hN
  exact stepX R p b x base s d va ve ph vd ea ee L n T K N A V nm tb w hP hp hp0 hp1 hA v0 v1 hn8 hT hW hN (by omega)

/-- A step as it came in. -/
structure Opr where
  K : Int
  N : Int
  A : Nat
  V : Int
  nm : ByteArray
def oprAt (l : List Opr) (k : Nat) : Opr := l.getD k ⟨0, 0, 0, 0, ByteArray.empty⟩
structure Opr.Ok (y : Opr) : Prop where
  a : y.A < 65536
  v0 : 0 ≤ y.V
  v1 : y.V ≤ 255
/-- The slice v has the steps l. -/
def OprsAt (w : World) (v : Value) (l : List Opr) : Prop :=
  ∃ A cap, v = .slice A l.length cap ∧ l.length ≤ cap ∧ cap ≤ maxLen ∧ ∀ i, i < l.length → (oprAt l i).Ok ∧ ∃ g o, A = some ⟨g, o, none⟩ ∧ g < w.heap.size ∧ w.cell? ⟨g, o + i * 5, none⟩ = some (.int .i64 (oprAt l i).K) ∧ w.cell? ⟨g, o + i * 5 + 1, none⟩ = some (.int .i64 (oprAt l i).N) ∧ w.cell? ⟨g, o + i * 5 + 2, none⟩ = some (.int .u16 (oprAt l i).A) ∧ w.cell? ⟨g, o + i * 5 + 3, none⟩ = some (.int .u8 (oprAt l i).V) ∧ w.cell? ⟨g, o + i * 5 + 4, none⟩ = some (.string (oprAt l i).nm)
set_option maxHeartbeats 3200000 in
theorem steps_any (v : Value) (l : List Opr) (w : World) (hv : OprsAt w v l) (hl : l.length ≤ 60) :
    Calls Tryd.prog 5 #[v] w fun e w' => (∃ m : Int, e = .returned (.int .i64 m)) ∧ w = w' := by
  obtain ⟨B, cap, rfl, h1, h2, h3⟩ := hv
  have HO := Lib.hid h3
  unfold maxLen at h2
  generalize l.length = n at *
  clear h3
  go_enter Tryd.func5, Tryd.ntmps5
  go_wp2_with fail
  go_loop [3, 4] (fun a i => ∃ (k : Nat) (c : Int), i = .int .i64 k ∧ k ≤ n ∧ a = .int .i64 c ∧ 0 ≤ c ∧ c ≤ 3000 * k) (fun _ i => (n - intOf i).toNat)
  case atStart => exact ⟨0, 0, rfl, by omega, rfl, by omega, by omega⟩
  case round =>
    obtain ⟨k, c, rfl, hk, rfl, c0, c1⟩ := hrel
    by_cases hlt : k < n
    · have i1 : decide ((k : Int) < (n : Int)) = true := decide_eq_true (by omega)
      have i0 : (0 : Int) ≤ (k : Int) := by omega
      have i2 : (k : Int) < (n : Int) := by omega
      obtain ⟨_, g, o, rfl, hg, d0, d1, d2, d3, d4⟩ := HO.out k hlt
      obtain ⟨M, hM⟩ : ∃ M, (if (3000 : Int) < (oprAt l k).N then (3000 : Int) else (oprAt l k).N) = M := ⟨_, rfl⟩
      obtain ⟨Q, hQ⟩ : ∃ Q, (if (0 : Int) < M then M else 0) = Q := ⟨_, rfl⟩
      have hQ3 : 0 ≤ Q ∧ Q ≤ 3000 := by
        rw [← hQ, ← hM]
        split <;> split <;> omega
      generalize (oprAt l k).N = N at *
      clear HO d0 d2 d3 d4
      go_wp2_with fail
      go_round
      case rel => exact ⟨k + 1, c + Q, by go_num, by omega, rfl, by omega, by omega⟩
      case measure => simp [intOf]; omega
    · have i1 : decide ((k : Int) < (n : Int)) = false := decide_eq_false (by omega)
      go_wp2_with fail
      go_ret
      exact ⟨⟨_, rfl⟩, rfl⟩
theorem BAt.less {w : World} {b base base' : Nat} {s : St} {va ve : Value} (h : BAt w b base s va ve) (hb : base' ≤ base) : BAt w b base' s va ve := ⟨h.cells, Nat.le_trans hb h.lo, own_less h.row hb, own_less h.tim hb⟩
theorem DAt.less {w : World} {x base base' : Nat} {s : St} {ph : Int} {vd ea ee : Value} {L : List Int} (h : DAt w x base s ph vd ea ee L) (hb : base' ≤ base) : DAt w x base' s ph vd ea ee L :=
  ⟨h.cells, Nat.le_trans hb h.lo, own_less h.row hb, own_less h.tim hb, h.dn.less hb, h.far, h.lst, h.fr, h.ph0, h.ph1⟩
theorem OprsAt.below {w w' : World} {v : Value} {l : List Opr} (h : OprsAt w v l) (hb : Below w.heap.size w w') : OprsAt w' v l := by
  obtain ⟨A, cap, e, h1, h2, h3⟩ := h
  refine ⟨A, cap, e, h1, h2, fun i hi => ?_⟩
  obtain ⟨ok, g, o, eA, hg, d0, d1, d2, d3, d4⟩ := h3 i hi
  exact ⟨ok, g, o, eA, Nat.lt_of_lt_of_le hg hb.size, (hb.cell (p := ⟨g, o + i * 5, none⟩) hg).trans d0, (hb.cell (p := ⟨g, o + i * 5 + 1, none⟩) hg).trans d1, (hb.cell (p := ⟨g, o + i * 5 + 2, none⟩) hg).trans d2, (hb.cell (p := ⟨g, o + i * 5 + 3, none⟩) hg).trans d3, (hb.cell (p := ⟨g, o + i * 5 + 4, none⟩) hg).trans d4⟩

end Go.Proofs.YtkcfacbnbjkheaaDoor
