/- The document's Put: its contract. -/
import Derived.Test.YtcodbcfdbkmegaaWirePut
namespace Go.Proofs.Ytcodbcfdbkmegaa
open Go.RowKit
set_option linter.unusedVariables false
set_option linter.unusedSimpArgs false

theorem refPut_no (A : Option Addr) (m cap : Nat) (n v : Int) (hn : n < 1 ∨ 4 < n) (w : World) : Calls Try.prog 32 #[.slice A m cap, .int .i64 n, .int .i64 v] w fun e w' => e = .returned (.slice A m cap) ∧ w = w' := by
  by_cases h : n < 1
  · have d : decide (n < 1) = true := decide_eq_true h
    go_enter Try.func32, Try.ntmps32
    go_wp2_with fail
    go_ret
    exact ⟨rfl, rfl⟩
  · have d : decide (n < 1) = false := decide_eq_false h
    have d2 : decide (4 < n) = true := decide_eq_true (by omega)
    go_enter Try.func32, Try.ntmps32
    go_wp2_with fail
    go_ret
    exact ⟨rfl, rfl⟩
theorem up256 (u : Int) (h : u < 0) : (u - 255).tdiv 256 = u / 256 := by
  have e : (u - 255).tdiv 256 = (u - 255) / 256 + if 0 ≤ u - 255 ∨ (256 : Int) ∣ u - 255 then 0 else Int.sign 256 := Int.tdiv_eq_ediv
  rw [e, show Int.sign 256 = 1 from rfl]
  split <;> omega
theorem tmod256 (u : Int) : u.tmod 256 = u % 256 ∧ 0 ≤ u ∨ u.tmod 256 = u % 256 - 256 ∨ u.tmod 256 = 0 ∧ u % 256 = 0 := by
  have e : u.tmod 256 = u % 256 - ((if 0 ≤ u ∨ (256 : Int) ∣ u then 0 else Int.natAbs 256 : Nat) : Int) := Int.tmod_eq_emod
  rw [show Int.natAbs 256 = 256 from rfl] at e
  split at e <;> omega
theorem low256 (u : Int) : (u.tmod 256 + 256).tmod 256 = u % 256 := by
  have h := tmod256 u
  rw [Int.tmod_eq_emod_of_nonneg (by omega)]
  omega
set_option maxHeartbeats 1600000 in
theorem refPut_yes (base : Nat) (A : Option Addr) (m cap : Nat) (xs : List Int) (n : Int) (k : Nat) (hk : n = k) (h1 : 1 ≤ k) (h4 : k ≤ 4) (v : Int) (w : World) (h : w.ownsRow base 5 1 (.slice A m cap) m (xs.map u8I)) (hm : m ≤ 2000000) (hbase : base ≤ w.heap.size) (v0 : -1000000000000 ≤ v) (v1 : v ≤ 1000000000000) :
    Calls Try.prog 32 #[.slice A m cap, .int .i64 n, .int .i64 v] w (PutE (Value.slice A m cap).ownBlock base w (m + k) (xs ++ putL k v)) := by
  subst hk
  have HG0 := Lib.hid (Gr.start h)
  have HB := Lib.hid hbase
  generalize (Value.slice A m cap).ownBlock = f at HG0 ⊢
  have d1 : decide ((k : Int) < 1) = false := decide_eq_false (by omega)
  have d2 : decide (4 < (k : Int)) = false := decide_eq_false (by omega)
  have hf0 := HG0.out.fit
  have hx0 := HG0.out.max
  unfold maxLen at hx0
  clear h hbase
  go_enter Try.func32, Try.ntmps32
  go_wp2_with fail
  clear d1 d2
  go_loopw [0, 2, 7] (fun r z i wr => ∃ (j : Nat) (u : Int) (A1 : Option Addr) (m1 c1 : Nat), i = .int .i64 j ∧ j ≤ k ∧ z = .int .i64 u ∧ -1000000000000 ≤ u ∧ u ≤ 1000000000000 ∧ r = .slice A1 m1 c1 ∧ Hid (m1 = m + j) ∧ Hid (u = v / 256 ^ j) ∧ Hid (Gr f base w wr A1 m1 c1 (xs ++ putL j v))) (fun _ _ i _ => k - (intOf i).toNat)
  case atStart => exact ⟨0, v, A, m, cap, rfl, by omega, rfl, v0, v1, rfl, Lib.hid rfl, Lib.hid (by simp), Lib.hid (by simpa [putL] using HG0.out)⟩
  case round =>
    obtain ⟨j, u, A1, m1, c1, rfl, hj, rfl, u0, u1, rfl, HM, HU, HG⟩ := hrel
    have hf1 := HG.out.fit
    have hx1 := HG.out.max
    unfold maxLen at hx1
    by_cases hlt : j < k
    · have hm1 : m1 ≤ 2000010 := by rw [HM.out]; omega
      have hb := low256 u
      have HN : Hid (xs ++ putL j v ++ [u % 256] = xs ++ putL (j + 1) v) := Lib.hid (by rw [putL_snoc, HU.out, List.append_assoc])
      have HU2 : Hid (u / 256 = v / 256 ^ (j + 1)) := Lib.hid (by rw [HU.out, Int.ediv_ediv_of_nonneg (Int.pow_nonneg (by decide)), Int.pow_succ])
      have HM2 : Hid (m1 + 1 = m + (j + 1)) := Lib.hid (by rw [HM.out]; omega)
      clear HM HU
      have q1 : 0 ≤ u.tmod 256 + 256 := by have := tmod256 u; omega
      have q2 : u.tmod 256 + 256 ≤ 511 := by have := tmod256 u; omega
      by_cases hneg : u < 0
      · have d3 : decide (u < 0) = true := decide_eq_true hneg
        have hdv := up256 u hneg
        go_wp2_with (at_builtin; refine wpList_append_gr 22 infoB8 Try.underlying22 rfl _ _ rfl _ _ _ _ rfl HG.out (u % 256) rfl (by omega) HB.out ?_; intro g2 c2 w2 hg; have hf2 := hg.fit; have hx2 := hg.max; unfold maxLen at hx2; have HG2 := Lib.hid hg; clear hg HG)
        have HG3 : Hid (Gr f base w w2 (some ⟨g2, 0, none⟩) (m1 + 1) c2 (xs ++ putL (j + 1) v)) := Lib.hid (by have h := HG2.out; rw [HN.out] at h; exact h)
        clear HG2
        go_roundw
        case rel => exact ⟨j + 1, u / 256, _, m1 + 1, c2, by go_num, by omega, rfl, by omega, by omega, rfl, HM2, HU2, HG3⟩
        case measure => simp [intOf]; omega
      · have d3 : decide (u < 0) = false := decide_eq_false hneg
        have hdv : u.tdiv 256 = u / 256 := Int.tdiv_eq_ediv_of_nonneg (by omega)
        go_wp2_with (at_builtin; refine wpList_append_gr 22 infoB8 Try.underlying22 rfl _ _ rfl _ _ _ _ rfl HG.out (u % 256) rfl (by omega) HB.out ?_; intro g2 c2 w2 hg; have hf2 := hg.fit; have hx2 := hg.max; unfold maxLen at hx2; have HG2 := Lib.hid hg; clear hg HG)
        have HG3 : Hid (Gr f base w w2 (some ⟨g2, 0, none⟩) (m1 + 1) c2 (xs ++ putL (j + 1) v)) := Lib.hid (by have h := HG2.out; rw [HN.out] at h; exact h)
        clear HG2
        go_roundw
        case rel => exact ⟨j + 1, u / 256, _, m1 + 1, c2, by go_num, by omega, rfl, by omega, by omega, rfl, HM2, HU2, HG3⟩
        case measure => simp [intOf]; omega
    · have HR : Hid (PutE f base w (m + k) (xs ++ putL k v) (.returned (.slice A1 m1 c1)) wr) := Lib.hid (by
        have h := HG.out
        have e : j = k := by omega
        rw [e] at h
        have hm := HM.out
        rw [e] at hm
        subst hm
        exact ⟨_, _, rfl, h⟩)
      clear HG HM HU
      go_wp2_with fail
      go_ret
      exact HR.out

end Go.Proofs.Ytcodbcfdbkmegaa
