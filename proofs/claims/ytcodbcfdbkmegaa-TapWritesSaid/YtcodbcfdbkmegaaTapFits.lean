/- Whether blocks may be a file: tap's answer and the document's. -/
import Derived.Test.YtcodbcfdbkmegaaTapMath
import Derived.Test.YtcodbcfdbkmegaaParts
import Derived.Test.YtcodbcfdbkmegaaProg
import Derived.WalkKit
import Derived.Deep.QuietTactic
import Derived.BigQuiet
import Derived.RegionTactic
import Derived.LoopTactic
import Derived.Lib.Hide
namespace Go.Proofs.Ytcodbcfdbkmegaa
open Go.RowKit
set_option linter.unusedVariables false
set_option linter.unusedSimpArgs false

theorem parts_len {F : Nat → Prop} {w : World} {A : Option Addr} {n cap : Nat} {L : List (List Int)} (h : Parts F w A n cap L) (k : Nat) (hk : k < n) : ∃ b o Aj cj, A = some ⟨b, o, none⟩ ∧ b < w.heap.size ∧ w.cell? ⟨b, o + k, none⟩ = some (.slice Aj (gL L k).length cj) ∧ BAt8 F w Aj (gL L k).length cj (gL L k) := by
  obtain ⟨b, o, Aj, nj, cj, h1, h2, h3, h4, h5⟩ := h.lies k hk
  have e : nj = (gL L k).length := h5.len.symm
  subst e
  exact ⟨b, o, Aj, cj, h1, h3, h4, h5⟩
set_option maxRecDepth 100000 in
set_option maxHeartbeats 1600000 in
theorem fits_any (F : Nat → Prop) (A : Option Addr) (n cap : Nat) (L : List (List Int)) (q : Bool) (w : World) (hl : Parts F w A n cap L) (hq : q = true ↔ FitsP L) : Calls Try.prog 29 #[.slice A n cap] w fun e w' => e = .returned (.bool q) ∧ w = w' := by
  have hlen := hl.len
  have hf := hl.fit
  have hm := hl.max
  unfold maxLen at hm
  have HL := Lib.hid hl
  have HQ := Lib.hid hq
  by_cases hbig : 4096 < n
  · have d : decide (4096 < (n : Int)) = true := decide_eq_true (by omega)
    have d' : decide (4096 < n) = true := decide_eq_true hbig
    have HE : Hid (false = q) := Lib.hid (by
      cases q
      · rfl
      · have := (HQ.out.1 rfl).1; omega)
    clear hl hq
    go_enter Try.func29, Try.ntmps29
    go_wp2_with fail
    go_ret
    exact ⟨by rw [HE.out]; rfl, rfl⟩
  have d : decide (4096 < (n : Int)) = false := decide_eq_false (by omega)
  have d' : decide (4096 < n) = false := decide_eq_false hbig
  clear hl hq
  go_enter Try.func29, Try.ntmps29
  go_wp2_with fail
  clear d d'
  go_loop [3, 11] (fun s i => ∃ k z : Nat, i = .int .i64 k ∧ k ≤ n ∧ s = .int .i64 (z : Nat) ∧ z ≤ k * 65537 ∧ Hid (z = sizeL (L.take k) ∧ ∀ j, j < k → (gL L j).length ≤ 65535)) (fun _ i => n - (intOf i).toNat)
  case atStart => exact ⟨0, 0, rfl, by omega, rfl, by omega, Lib.hid ⟨by simp [sizeL], fun j hj => absurd hj (by omega)⟩⟩
  case round =>
    obtain ⟨k, z, rfl, hk, rfl, hz, HZ⟩ := hrel
    by_cases hlt : k < n
    · obtain ⟨b, o, Aj, cj, rfl, hbl, c, hB⟩ := parts_len HL.out k hlt
      have hcf := hB.fit
      have hcm := hB.max
      unfold maxLen at hcm
      obtain ⟨m, hmm⟩ : ∃ m, (gL L k).length = m := ⟨_, rfl⟩
      rw [hmm] at c hcf
      have HM := Lib.hid hmm
      clear hB hmm
      by_cases hl : 65535 < m
      · have d1 : decide (65535 < (m : Int)) = true := decide_eq_true (by omega)
        have d1' : decide (65535 < m) = true := decide_eq_true hl
        have HE : Hid (false = q) := Lib.hid (by
          cases q
          · rfl
          · have := (HQ.out.1 rfl).2.1 k (by omega)
            rw [HM.out] at this; omega)
        go_wp2_with fail
        go_ret
        exact ⟨by rw [HE.out]; rfl, rfl⟩
      · have d1 : decide (65535 < (m : Int)) = false := decide_eq_false (by omega)
        have d1' : decide (65535 < m) = false := decide_eq_false hl
        obtain ⟨z2, hz2⟩ : ∃ z2, z + (2 + m) = z2 := ⟨_, rfl⟩
        have hzi : (z : Int) + (2 + (m : Int)) = (z2 : Int) := by omega
        have hzb : z2 ≤ (k + 1) * 65537 := by rw [Nat.add_mul]; omega
        have HN : Hid (z2 = sizeL (L.take (k + 1)) ∧ ∀ j, j < k + 1 → (gL L j).length ≤ 65535) := Lib.hid ⟨by rw [sizeL_next L k (by omega), HM.out, ← HZ.out.1, hz2], fun j hj => by
          by_cases e : j = k
          · rw [e, HM.out]; omega
          · exact HZ.out.2 j (by omega)⟩
        clear hz2 HZ
        go_wp2_with fail
        go_round
        case rel => exact ⟨k + 1, z2, by go_num, by omega, by first | rfl | rw [hzi], hzb, HN⟩
        case measure => simp [intOf]; omega
    · have hkn : k = L.length := by omega
      have hzz : z = sizeL L := by rw [HZ.out.1, hkn, List.take_length]
      obtain ⟨p, hp⟩ : ∃ p, decide (z ≤ 1048576) = p := ⟨_, rfl⟩
      have hp' : decide ((z : Int) ≤ 1048576) = p := by rw [← hp]; exact decide_eq_decide.2 (by omega)
      have HE : Hid (p = q) := Lib.hid (by
        have h1 : p = true ↔ FitsP L := by
          rw [← hp, decide_eq_true_iff]
          exact ⟨fun h => ⟨by omega, fun j hj => HZ.out.2 j (by omega), by omega⟩, fun h => by have := h.2.2; omega⟩
        exact Bool.eq_iff_iff.2 (h1.trans HQ.out.symm))
      clear hkn hzz
      go_wp2_with fail
      go_ret
      exact ⟨by rw [HE.out]; rfl, rfl⟩
set_option maxRecDepth 100000 in
set_option maxHeartbeats 1600000 in
theorem rfits_any (F : Nat → Prop) (A : Option Addr) (n cap : Nat) (L : List (List Int)) (q : Bool) (w : World) (hl : Parts F w A n cap L) (hq : q = true ↔ FitsP L) : Calls Try.prog 14 #[.slice A n cap] w fun e w' => e = .returned (.bool q) ∧ w = w' := by
  have hlen := hl.len
  have hf := hl.fit
  have hm := hl.max
  unfold maxLen at hm
  have HL := Lib.hid hl
  have HQ := Lib.hid hq
  by_cases hbig : 4096 < n
  · have d : decide (4096 < (n : Int)) = true := decide_eq_true (by omega)
    have d' : decide (4096 < n) = true := decide_eq_true hbig
    have HE : Hid (false = q) := Lib.hid (by
      cases q
      · rfl
      · have := (HQ.out.1 rfl).1; omega)
    clear hl hq
    go_enter Try.func14, Try.ntmps14
    go_wp2_with fail
    go_ret
    exact ⟨by rw [HE.out]; rfl, rfl⟩
  have d : decide (4096 < (n : Int)) = false := decide_eq_false (by omega)
  have d' : decide (4096 < n) = false := decide_eq_false hbig
  clear hl hq
  go_enter Try.func14, Try.ntmps14
  go_wp2_with fail
  clear d d'
  go_loop [3, 4] (fun s i => ∃ k z : Nat, i = .int .i64 k ∧ k ≤ n ∧ s = .int .i64 (z : Nat) ∧ z ≤ 1048576 ∧ Hid (z = sizeL (L.take k) ∧ ∀ j, j < k → (gL L j).length ≤ 65535)) (fun _ i => n - (intOf i).toNat)
  case atStart => exact ⟨0, 0, rfl, by omega, rfl, by omega, Lib.hid ⟨by simp [sizeL], fun j hj => absurd hj (by omega)⟩⟩
  case round =>
    obtain ⟨k, z, rfl, hk, rfl, hz, HZ⟩ := hrel
    by_cases hlt : k < n
    · obtain ⟨b, o, Aj, cj, rfl, hbl, c, hB⟩ := parts_len HL.out k hlt
      have hcf := hB.fit
      have hcm := hB.max
      unfold maxLen at hcm
      obtain ⟨m, hmm⟩ : ∃ m, (gL L k).length = m := ⟨_, rfl⟩
      rw [hmm] at c hcf
      have HM := Lib.hid hmm
      clear hB hmm
      by_cases hl : 65535 < m
      · have d1 : decide (65535 < (m : Int)) = true := decide_eq_true (by omega)
        have d1' : decide (65535 < m) = true := decide_eq_true hl
        have HE : Hid (false = q) := Lib.hid (by
          cases q
          · rfl
          · have := (HQ.out.1 rfl).2.1 k (by omega)
            rw [HM.out] at this; omega)
        go_wp2_with fail
        go_ret
        exact ⟨by rw [HE.out]; rfl, rfl⟩
      · have d1 : decide (65535 < (m : Int)) = false := decide_eq_false (by omega)
        have d1' : decide (65535 < m) = false := decide_eq_false hl
        obtain ⟨z2, hz2⟩ : ∃ z2, z + 2 + m = z2 := ⟨_, rfl⟩
        have hzi : (z : Int) + 2 + (m : Int) = (z2 : Int) := by omega
        have hzs : z2 = sizeL (L.take (k + 1)) := by rw [sizeL_next L k (by omega), HM.out, ← HZ.out.1]; omega
        have hzw : IntKind.i64.wrap (z2 : Int) = (z2 : Int) := by rw [IntKind.wrap_i64]; omega
        by_cases hb : 1048576 < z2
        · have d2 : decide (1048576 < (z2 : Int)) = true := decide_eq_true (by omega)
          have d2' : decide (1048576 < z2) = true := decide_eq_true hb
          have HE : Hid (false = q) := Lib.hid (by
            cases q
            · rfl
            · have h1 := (HQ.out.1 rfl).2.2
              have h2 := sizeL_take_le L (k + 1)
              omega)
          clear hz2 HZ hzs
          go_wp2_with fail
          go_ret
          exact ⟨by rw [HE.out]; rfl, rfl⟩
        · have d2 : decide (1048576 < (z2 : Int)) = false := decide_eq_false (by omega)
          have d2' : decide (1048576 < z2) = false := decide_eq_false hb
          have HN : Hid (z2 = sizeL (L.take (k + 1)) ∧ ∀ j, j < k + 1 → (gL L j).length ≤ 65535) := Lib.hid ⟨hzs, fun j hj => by
            by_cases e : j = k
            · rw [e, HM.out]; omega
            · exact HZ.out.2 j (by omega)⟩
          clear hz2 HZ hzs
          go_wp2_with fail
          go_round
          case rel => exact ⟨k + 1, z2, by go_num, by omega, by first | rfl | rw [hzi], by omega, HN⟩
          case measure => simp [intOf]; omega
    · have hkn : k = L.length := by omega
      have HE : Hid (true = q) := Lib.hid (by
        have h1 : FitsP L := ⟨by omega, fun j hj => HZ.out.2 j (by omega), by
          have hzz := HZ.out.1
          rw [hkn, List.take_length] at hzz
          omega⟩
        exact (HQ.out.2 h1).symm)
      clear hkn
      go_wp2_with fail
      go_ret
      exact ⟨by rw [HE.out]; rfl, rfl⟩

end Go.Proofs.Ytcodbcfdbkmegaa
