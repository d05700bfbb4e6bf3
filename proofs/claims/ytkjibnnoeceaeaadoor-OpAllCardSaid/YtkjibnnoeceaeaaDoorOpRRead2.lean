/- The document's Read, whole: its contract. -/
import Derived.Test.YtkjibnnoeceaeaaDoorOpRReadP
import Derived.Test.YtkjibnnoeceaeaaDoorOpReadMath
namespace Go.Proofs.YtkjibnnoeceaeaaDoor
open Go.RowKit

theorem rread_plain (v : Value) (l : List Nat) (w : World) (h : BytesAt w w.heap.size v l) (h0 : 1 ≤ l.length) (h203 : ¬ gN l 0 = 203) (h237 : ¬ gN l 0 = 237) (h221 : ¬ gN l 0 = 221) (h253 : ¬ gN l 0 = 253) : Calls Tryd.prog 10 #[v] w fun e w' => e = .returned (.tuple #[.agg (readR l).arr, .bool (readB l)]) ∧ Below w.heap.size w w' := by
  have hb : ∀ j, gN l j < 256 := h.lt
  have hR : insR l = ⟨0, 0, gN l 0, 0, numN l 1 (argC (gN l 0)), 0⟩ := by
    unfold insR; rw [if_neg h203, if_neg h237, if_neg h221, if_neg h253, plainR_none]
  have hk : insK l = 1 + argC (gN l 0) := by
    unfold insK; rw [if_neg h203, if_neg h237, if_neg h221, if_neg h253, at_none]
  have ha := argC_le (gN l 0) (hb 0)
  have q203 := qf (a := gN l 0) (z := 203) (by omega)
  have q237 := qf (a := gN l 0) (z := 237) (by omega)
  have q221 := qf (a := gN l 0) (z := 221) (by omega)
  have q253 := qf (a := gN l 0) (z := 253) (by omega)
  by_cases a0 : argC (gN l 0) = 0
  · rw [a0] at hR hk
    rw [num0] at hR
    obtain ⟨e1, e2⟩ : readR l = ⟨0, 0, gN l 0, 0, 0, 1⟩ ∧ readB l = true := read_yes (k := 1) (x := ⟨0, 0, gN l 0, 0, 0, 0⟩) hk (by omega) (hR)
    rw [e1, e2]; exact rreadp00 v l w h q203 q237 q221 q253 (hb 0) a0 (by omega)
  by_cases a1 : argC (gN l 0) = 1
  · rw [a1] at hR hk
    rw [num1] at hR
    by_cases n2 : l.length < 2
    · obtain ⟨e1, e2⟩ := read_no (l := l) (by omega)
      rw [e1, e2]; exact rreadp01n v l w h q203 q237 q221 q253 (hb 0) a1 (by omega) (by omega)
    · obtain ⟨e1, e2⟩ : readR l = ⟨0, 0, gN l 0, 0, gN l 1, 2⟩ ∧ readB l = true := read_yes (k := 2) (x := ⟨0, 0, gN l 0, 0, gN l 1, 0⟩) hk (by omega) (hR)
      rw [e1, e2]; exact rreadp01 v l w h q203 q237 q221 q253 (hb 0) a1 (by omega) (hb 1)
  · have a2 : argC (gN l 0) = 2 := by omega
    rw [a2] at hR hk
    rw [num2] at hR
    by_cases n2 : l.length < 3
    · obtain ⟨e1, e2⟩ := read_no (l := l) (by omega)
      rw [e1, e2]; exact rreadp02n v l w h q203 q237 q221 q253 (hb 0) a2 (by omega) (by omega)
    · obtain ⟨e1, e2⟩ : readR l = ⟨0, 0, gN l 0, 0, gN l 1 + 256 * gN l 2, 3⟩ ∧ readB l = true := read_yes (k := 3) (x := ⟨0, 0, gN l 0, 0, gN l 1 + 256 * gN l 2, 0⟩) hk (by omega) (hR)
      rw [e1, e2]; exact rreadp02 v l w h q203 q237 q221 q253 (hb 0) a2 (by omega) (hb 1) (hb 2)
theorem rread_x1 (v : Value) (l : List Nat) (w : World) (h : BytesAt w w.heap.size v l) (h0 : 1 ≤ l.length) (hp : gN l 0 = 221) : Calls Tryd.prog 10 #[v] w fun e w' => e = .returned (.tuple #[.agg (readR l).arr, .bool (readB l)]) ∧ Below w.heap.size w w' := by
  have hb : ∀ j, gN l j < 256 := h.lt
  have hR : insR l = behR l 1 1 := by unfold insR; rw [if_neg (by omega), if_neg (by omega), if_pos hp]
  have hk : insK l = behK l 1 1 := by unfold insK; rw [if_neg (by omega), if_neg (by omega), if_pos hp]
  have q203 := qf (a := gN l 0) (z := 203) (by omega)
  have q237 := qf (a := gN l 0) (z := 237) (by omega)
  have q221 := qt (a := gN l 0) (z := 221) (by omega)
  have q253 := qf (a := gN l 0) (z := 253) (by omega)
  by_cases n1 : l.length < 2
  · have g1 : gN l 1 = 0 := gN_end l 1 (by omega)
    have hk2 : 2 ≤ insK l := by
      rw [hk]; unfold behK
      rw [if_neg (by omega), if_neg (by omega)]
      have := atD_le (gN l 1) 1 2
      show 2 ≤ atD (gN l 1) 1 2 + _
      omega
    obtain ⟨e1, e2⟩ := read_no (l := l) (by omega)
    rw [e1, e2]; exact rreadx1s v l w h q203 q237 q221 q253 h0 n1
  by_cases p : gN l 1 = 221 ∨ gN l 1 = 237 ∨ gN l 1 = 253
  · rw [behR, if_pos p] at hR
    rw [behK, if_pos p] at hk
    obtain ⟨e1, e2⟩ : readR l = ⟨4, 1, 0, 0, 0, 1⟩ ∧ readB l = true := read_yes (k := 1) (x := ⟨4, 1, 0, 0, 0, 0⟩) hk (by omega) hR
    rw [e1, e2]
    by_cases p1 : gN l 1 = 221
    · exact rreadx1p221 v l w h q203 q237 q221 q253 (by omega) (qt (by omega))
    by_cases p2 : gN l 1 = 237
    · exact rreadx1p237 v l w h q203 q237 q221 q253 (by omega) (qf (by omega)) (qt (by omega))
    · exact rreadx1p253 v l w h q203 q237 q221 q253 (by omega) (qf (by omega)) (qf (by omega)) (qt (by omega))
  have r221 := qf (a := gN l 1) (z := 221) (by omega)
  have r237 := qf (a := gN l 1) (z := 237) (by omega)
  have r253 := qf (a := gN l 1) (z := 253) (by omega)
  rw [behR, if_neg p] at hR
  rw [behK, if_neg p] at hk
  by_cases c : gN l 1 = 203
  · rw [if_pos c] at hR hk
    by_cases n4 : l.length < 4
    · obtain ⟨e1, e2⟩ := read_no (l := l) (by omega)
      rw [e1, e2]; exact rreadx1cs v l w h q203 q237 q221 q253 (by omega) n4 r221 r237 r253 (qt (by omega))
    · obtain ⟨e1, e2⟩ : readR l = ⟨3, 1, gN l 3, gN l 2, 0, 4⟩ ∧ readB l = true := read_yes (k := 4) (x := ⟨3, 1, gN l 3, gN l 2, 0, 0⟩) hk (by omega) (hR)
      rw [e1, e2]; exact rreadx1c v l w h q203 q237 q221 q253 (by omega) r221 r237 r253 (qt (by omega))
  have r203 := qf (a := gN l 1) (z := 203) (by omega)
  rw [if_neg c] at hR hk
  have ha := argC_le (gN l 1) (hb 1)
  by_cases hm : memC (gN l 1) = true
  · rw [plainR_mem _ _ _ _ (by decide) hm] at hR
    rw [at_mem _ _ _ (by decide) hm] at hk
    have ha1 := mem_arg (gN l 1) (hb 1) hm
    by_cases n3 : l.length < 3
    · obtain ⟨e1, e2⟩ := read_no (l := l) (by omega)
      rw [e1, e2]; exact rreadp1md v l w h q203 q237 q221 q253 r221 r237 r253 r203 (hb 1) hm (by omega) n3
    by_cases a0 : argC (gN l 1) = 0
    · rw [a0] at hR hk
      rw [num0] at hR
      obtain ⟨e1, e2⟩ : readR l = ⟨0, 1, gN l 1, gN l 2, 0, 3⟩ ∧ readB l = true := read_yes (k := 3) (x := ⟨0, 1, gN l 1, gN l 2, 0, 0⟩) hk (by omega) (hR)
      rw [e1, e2]; exact rreadp1m0 v l w h q203 q237 q221 q253 r221 r237 r253 r203 (hb 1) hm a0 (by omega) (hb 2)
    · have a1 : argC (gN l 1) = 1 := by omega
      rw [a1] at hR hk
      rw [num1] at hR
      by_cases n4 : l.length < 4
      · obtain ⟨e1, e2⟩ := read_no (l := l) (by omega)
        rw [e1, e2]; exact rreadp1m1n v l w h q203 q237 q221 q253 r221 r237 r253 r203 (hb 1) hm a1 (by omega) n4 (hb 2)
      · obtain ⟨e1, e2⟩ : readR l = ⟨0, 1, gN l 1, gN l 2, gN l 3, 4⟩ ∧ readB l = true := read_yes (k := 4) (x := ⟨0, 1, gN l 1, gN l 2, gN l 3, 0⟩) hk (by omega) (hR)
        rw [e1, e2]; exact rreadp1m1 v l w h q203 q237 q221 q253 r221 r237 r253 r203 (hb 1) hm a1 (by omega) (hb 2) (hb 3)
  · have hm : memC (gN l 1) = false := by simpa using hm
    rw [plainR_far _ _ _ _ hm] at hR
    rw [at_far _ _ _ hm] at hk
    by_cases a0 : argC (gN l 1) = 0
    · rw [a0] at hR hk
      rw [num0] at hR
      obtain ⟨e1, e2⟩ : readR l = ⟨0, 1, gN l 1, 0, 0, 2⟩ ∧ readB l = true := read_yes (k := 2) (x := ⟨0, 1, gN l 1, 0, 0, 0⟩) hk (by omega) (hR)
      rw [e1, e2]; exact rreadp1f0 v l w h q203 q237 q221 q253 r221 r237 r253 r203 (hb 1) hm a0 (by omega)
    by_cases a1 : argC (gN l 1) = 1
    · rw [a1] at hR hk
      rw [num1] at hR
      by_cases n4 : l.length < 3
      · obtain ⟨e1, e2⟩ := read_no (l := l) (by omega)
        rw [e1, e2]; exact rreadp1f1n v l w h q203 q237 q221 q253 r221 r237 r253 r203 (hb 1) hm a1 (by omega) n4
      · obtain ⟨e1, e2⟩ : readR l = ⟨0, 1, gN l 1, 0, gN l 2, 3⟩ ∧ readB l = true := read_yes (k := 3) (x := ⟨0, 1, gN l 1, 0, gN l 2, 0⟩) hk (by omega) (hR)
        rw [e1, e2]; exact rreadp1f1 v l w h q203 q237 q221 q253 r221 r237 r253 r203 (hb 1) hm a1 (by omega) (hb 2)
    · have a2 : argC (gN l 1) = 2 := by omega
      rw [a2] at hR hk
      rw [num2] at hR
      by_cases n4 : l.length < 4
      · obtain ⟨e1, e2⟩ := read_no (l := l) (by omega)
        rw [e1, e2]; exact rreadp1f2n v l w h q203 q237 q221 q253 r221 r237 r253 r203 (hb 1) hm a2 (by omega) n4
      · obtain ⟨e1, e2⟩ : readR l = ⟨0, 1, gN l 1, 0, gN l 2 + 256 * gN l 3, 4⟩ ∧ readB l = true := read_yes (k := 4) (x := ⟨0, 1, gN l 1, 0, gN l 2 + 256 * gN l 3, 0⟩) hk (by omega) (hR)
        rw [e1, e2]; exact rreadp1f2 v l w h q203 q237 q221 q253 r221 r237 r253 r203 (hb 1) hm a2 (by omega) (hb 2) (hb 3)
theorem rread_x2 (v : Value) (l : List Nat) (w : World) (h : BytesAt w w.heap.size v l) (h0 : 1 ≤ l.length) (hp : gN l 0 = 253) : Calls Tryd.prog 10 #[v] w fun e w' => e = .returned (.tuple #[.agg (readR l).arr, .bool (readB l)]) ∧ Below w.heap.size w w' := by
  have hb : ∀ j, gN l j < 256 := h.lt
  have hR : insR l = behR l 1 2 := by unfold insR; rw [if_neg (by omega), if_neg (by omega), if_neg (by omega), if_pos hp]
  have hk : insK l = behK l 1 2 := by unfold insK; rw [if_neg (by omega), if_neg (by omega), if_neg (by omega), if_pos hp]
  have q203 := qf (a := gN l 0) (z := 203) (by omega)
  have q237 := qf (a := gN l 0) (z := 237) (by omega)
  have q221 := qf (a := gN l 0) (z := 221) (by omega)
  have q253 := qt (a := gN l 0) (z := 253) (by omega)
  by_cases n1 : l.length < 2
  · have g1 : gN l 1 = 0 := gN_end l 1 (by omega)
    have hk2 : 2 ≤ insK l := by
      rw [hk]; unfold behK
      rw [if_neg (by omega), if_neg (by omega)]
      have := atD_le (gN l 1) 2 2
      show 2 ≤ atD (gN l 1) 2 2 + _
      omega
    obtain ⟨e1, e2⟩ := read_no (l := l) (by omega)
    rw [e1, e2]; exact rreadx2s v l w h q203 q237 q221 q253 h0 n1
  by_cases p : gN l 1 = 221 ∨ gN l 1 = 237 ∨ gN l 1 = 253
  · rw [behR, if_pos p] at hR
    rw [behK, if_pos p] at hk
    obtain ⟨e1, e2⟩ : readR l = ⟨4, 2, 0, 0, 0, 1⟩ ∧ readB l = true := read_yes (k := 1) (x := ⟨4, 2, 0, 0, 0, 0⟩) hk (by omega) hR
    rw [e1, e2]
    by_cases p1 : gN l 1 = 221
    · exact rreadx2p221 v l w h q203 q237 q221 q253 (by omega) (qt (by omega))
    by_cases p2 : gN l 1 = 237
    · exact rreadx2p237 v l w h q203 q237 q221 q253 (by omega) (qf (by omega)) (qt (by omega))
    · exact rreadx2p253 v l w h q203 q237 q221 q253 (by omega) (qf (by omega)) (qf (by omega)) (qt (by omega))
  have r221 := qf (a := gN l 1) (z := 221) (by omega)
  have r237 := qf (a := gN l 1) (z := 237) (by omega)
  have r253 := qf (a := gN l 1) (z := 253) (by omega)
  rw [behR, if_neg p] at hR
  rw [behK, if_neg p] at hk
  by_cases c : gN l 1 = 203
  · rw [if_pos c] at hR hk
    by_cases n4 : l.length < 4
    · obtain ⟨e1, e2⟩ := read_no (l := l) (by omega)
      rw [e1, e2]; exact rreadx2cs v l w h q203 q237 q221 q253 (by omega) n4 r221 r237 r253 (qt (by omega))
    · obtain ⟨e1, e2⟩ : readR l = ⟨3, 2, gN l 3, gN l 2, 0, 4⟩ ∧ readB l = true := read_yes (k := 4) (x := ⟨3, 2, gN l 3, gN l 2, 0, 0⟩) hk (by omega) (hR)
      rw [e1, e2]; exact rreadx2c v l w h q203 q237 q221 q253 (by omega) r221 r237 r253 (qt (by omega))
  have r203 := qf (a := gN l 1) (z := 203) (by omega)
  rw [if_neg c] at hR hk
  have ha := argC_le (gN l 1) (hb 1)
  by_cases hm : memC (gN l 1) = true
  · rw [plainR_mem _ _ _ _ (by decide) hm] at hR
    rw [at_mem _ _ _ (by decide) hm] at hk
    have ha1 := mem_arg (gN l 1) (hb 1) hm
    by_cases n3 : l.length < 3
    · obtain ⟨e1, e2⟩ := read_no (l := l) (by omega)
      rw [e1, e2]; exact rreadp2md v l w h q203 q237 q221 q253 r221 r237 r253 r203 (hb 1) hm (by omega) n3
    by_cases a0 : argC (gN l 1) = 0
    · rw [a0] at hR hk
      rw [num0] at hR
      obtain ⟨e1, e2⟩ : readR l = ⟨0, 2, gN l 1, gN l 2, 0, 3⟩ ∧ readB l = true := read_yes (k := 3) (x := ⟨0, 2, gN l 1, gN l 2, 0, 0⟩) hk (by omega) (hR)
      rw [e1, e2]; exact rreadp2m0 v l w h q203 q237 q221 q253 r221 r237 r253 r203 (hb 1) hm a0 (by omega) (hb 2)
    · have a1 : argC (gN l 1) = 1 := by omega
      rw [a1] at hR hk
      rw [num1] at hR
      by_cases n4 : l.length < 4
      · obtain ⟨e1, e2⟩ := read_no (l := l) (by omega)
        rw [e1, e2]; exact rreadp2m1n v l w h q203 q237 q221 q253 r221 r237 r253 r203 (hb 1) hm a1 (by omega) n4 (hb 2)
      · obtain ⟨e1, e2⟩ : readR l = ⟨0, 2, gN l 1, gN l 2, gN l 3, 4⟩ ∧ readB l = true := read_yes (k := 4) (x := ⟨0, 2, gN l 1, gN l 2, gN l 3, 0⟩) hk (by omega) (hR)
        rw [e1, e2]; exact rreadp2m1 v l w h q203 q237 q221 q253 r221 r237 r253 r203 (hb 1) hm a1 (by omega) (hb 2) (hb 3)
  · have hm : memC (gN l 1) = false := by simpa using hm
    rw [plainR_far _ _ _ _ hm] at hR
    rw [at_far _ _ _ hm] at hk
    by_cases a0 : argC (gN l 1) = 0
    · rw [a0] at hR hk
      rw [num0] at hR
      obtain ⟨e1, e2⟩ : readR l = ⟨0, 2, gN l 1, 0, 0, 2⟩ ∧ readB l = true := read_yes (k := 2) (x := ⟨0, 2, gN l 1, 0, 0, 0⟩) hk (by omega) (hR)
      rw [e1, e2]; exact rreadp2f0 v l w h q203 q237 q221 q253 r221 r237 r253 r203 (hb 1) hm a0 (by omega)
    by_cases a1 : argC (gN l 1) = 1
    · rw [a1] at hR hk
      rw [num1] at hR
      by_cases n4 : l.length < 3
      · obtain ⟨e1, e2⟩ := read_no (l := l) (by omega)
        rw [e1, e2]; exact rreadp2f1n v l w h q203 q237 q221 q253 r221 r237 r253 r203 (hb 1) hm a1 (by omega) n4
      · obtain ⟨e1, e2⟩ : readR l = ⟨0, 2, gN l 1, 0, gN l 2, 3⟩ ∧ readB l = true := read_yes (k := 3) (x := ⟨0, 2, gN l 1, 0, gN l 2, 0⟩) hk (by omega) (hR)
        rw [e1, e2]; exact rreadp2f1 v l w h q203 q237 q221 q253 r221 r237 r253 r203 (hb 1) hm a1 (by omega) (hb 2)
    · have a2 : argC (gN l 1) = 2 := by omega
      rw [a2] at hR hk
      rw [num2] at hR
      by_cases n4 : l.length < 4
      · obtain ⟨e1, e2⟩ := read_no (l := l) (by omega)
        rw [e1, e2]; exact rreadp2f2n v l w h q203 q237 q221 q253 r221 r237 r253 r203 (hb 1) hm a2 (by omega) n4
      · obtain ⟨e1, e2⟩ : readR l = ⟨0, 2, gN l 1, 0, gN l 2 + 256 * gN l 3, 4⟩ ∧ readB l = true := read_yes (k := 4) (x := ⟨0, 2, gN l 1, 0, gN l 2 + 256 * gN l 3, 0⟩) hk (by omega) (hR)
        rw [e1, e2]; exact rreadp2f2 v l w h q203 q237 q221 q253 r221 r237 r253 r203 (hb 1) hm a2 (by omega) (hb 2) (hb 3)
theorem rread_237 (v : Value) (l : List Nat) (w : World) (h : BytesAt w w.heap.size v l) (h0 : 1 ≤ l.length) (hp : gN l 0 = 237) : Calls Tryd.prog 10 #[v] w fun e w' => e = .returned (.tuple #[.agg (readR l).arr, .bool (readB l)]) ∧ Below w.heap.size w w' := by
  have hb : ∀ j, gN l j < 256 := h.lt
  have hb1 := hb 1
  have hR : insR l = moreR l 1 := by unfold insR; rw [if_neg (by omega), if_pos hp]
  have hk : insK l = moreK l 1 := by unfold insK; rw [if_neg (by omega), if_pos hp]
  have q203 := qf (a := gN l 0) (z := 203) (by omega)
  have q237 := qt (a := gN l 0) (z := 237) (by omega)
  by_cases n1 : l.length < 2
  · have hk2 : 2 ≤ insK l := by
      rw [hk]; unfold moreK; split <;> omega
    obtain ⟨e1, e2⟩ := read_no (l := l) (by omega)
    rw [e1, e2]; exact rread237s v l w h q203 q237 h0 n1
  by_cases x : moreX (gN l 1) = true
  · unfold moreR at hR
    unfold moreK at hk
    rw [if_pos x] at hR hk
    rw [num2] at hR
    obtain ⟨x1, x2, x3⟩ : 64 ≤ gN l 1 ∧ gN l 1 < 128 ∧ gN l 1 % 8 = 3 := by
      unfold moreX at x
      simp only [Bool.and_eq_true, beq_iff_eq] at x
      omega
    by_cases n4 : l.length < 4
    · obtain ⟨e1, e2⟩ := read_no (l := l) (by omega)
      rw [e1, e2]; exact rread237ms v l w h q203 q237 (by omega) n4 (by omega) x1 x2
    · obtain ⟨e1, e2⟩ : readR l = ⟨2, 0, gN l 1, 0, gN l 2 + 256 * gN l 3, 4⟩ ∧ readB l = true := read_yes (k := 4) (x := ⟨2, 0, gN l 1, 0, gN l 2 + 256 * gN l 3, 0⟩) hk (by omega) (hR)
      rw [e1, e2]; exact rread237m v l w h q203 q237 (by omega) (by omega) x1 x2 (hb 2) (hb 3)
  · unfold moreR at hR
    unfold moreK at hk
    rw [if_neg x] at hR hk
    obtain ⟨e1, e2⟩ : readR l = ⟨2, 0, gN l 1, 0, 0, 2⟩ ∧ readB l = true := read_yes (k := 2) (x := ⟨2, 0, gN l 1, 0, 0, 0⟩) hk (by omega) hR
    rw [e1, e2]
    by_cases x1 : gN l 1 < 64
    · exact rread237a v l w h q203 q237 (by omega) x1 hb1
    by_cases x2 : 128 ≤ gN l 1
    · exact rread237b v l w h q203 q237 (by omega) x2 hb1
    · refine rread237c v l w h q203 q237 (by omega) (by omega) (by omega) ?_ hb1
      rw [beq_eq_false_iff_ne]
      intro hc
      apply x
      unfold moreX
      simp only [Bool.and_eq_true, beq_iff_eq]
      omega
theorem rread_any (v : Value) (l : List Nat) (w : World) (h : BytesAt w w.heap.size v l) : Calls Tryd.prog 10 #[v] w fun e w' => e = .returned (.tuple #[.agg (readR l).arr, .bool (readB l)]) ∧ Below w.heap.size w w' := by
  by_cases n0 : l.length = 0
  · obtain ⟨e1, e2⟩ := read_no (l := l) (by have := insK_pos l; omega)
    rw [e1, e2]; exact rread0 v l w h n0
  by_cases h203 : gN l 0 = 203
  · have hk : insK l = 2 := by unfold insK; rw [if_pos h203]
    by_cases n2 : l.length < 2
    · obtain ⟨e1, e2⟩ := read_no (l := l) (by omega)
      rw [e1, e2]; exact rread203s v l w h (qt (by omega)) (by omega) n2
    · obtain ⟨e1, e2⟩ : readR l = ⟨1, 0, gN l 1, 0, 0, 2⟩ ∧ readB l = true := read_yes (k := 2) (x := ⟨1, 0, gN l 1, 0, 0, 0⟩) hk (by omega) (by unfold insR; rw [if_pos h203])
      rw [e1, e2]; exact rread203 v l w h (qt (by omega)) (by omega)
  by_cases h237 : gN l 0 = 237
  · exact rread_237 v l w h (by omega) h237
  by_cases h221 : gN l 0 = 221
  · exact rread_x1 v l w h (by omega) h221
  by_cases h253 : gN l 0 = 253
  · exact rread_x2 v l w h (by omega) h253
  · exact rread_plain v l w h (by omega) h203 h237 h221 h253

end Go.Proofs.YtkjibnnoeceaeaaDoor
