/- flag.Cond and the document's Cond: their contracts. -/
import Derived.Test.YtkafgkfokejonaaFlagRef
namespace Go.Proofs.Ytkafgkfokejonaa
open Go.RowKit

theorem eight_cases (k : Int) (h0 : 0 ≤ k) (h7 : k ≤ 7) : k = 0 ∨ k = 1 ∨ k = 2 ∨ k = 3 ∨ k = 4 ∨ k = 5 ∨ k = 6 ∨ k = 7 := by omega

set_option maxHeartbeats 1600000 in
theorem cond_any (f k : Int) (w : World) (h0 : 0 ≤ f) (h1 : f ≤ 255) :
    Calls Try.prog 19 #[.int .u8 f, .int .i64 k] w fun e w' => e = .returned (.bool (condB f k)) ∧ Below w.heap.size w w' := by
  have a64 := Lib.hid (has_64 f h0 h1)
  have a1 := Lib.hid (has_1 f h0 h1)
  have a4 := Lib.hid (has_4 f h0 h1)
  have a128 := Lib.hid (has_128 f h0 h1)
  by_cases hk : 0 ≤ k ∧ k ≤ 7
  · obtain ⟨k0, k7⟩ := hk
    rcases eight_cases k k0 k7 with rfl | rfl | rfl | rfl | rfl | rfl | rfl | rfl
    · clear k0 k7
      go_enter Try.func19, Try.ntmps19
      go_wp2_with fail
      refine (has_is _ _ _ _ a64.out).mono ?_
      rintro e w' ⟨rfl, rfl⟩
      go_wp2_with fail
      go_ret
      exact ⟨by rw [condB_0]; rfl, (Below.refl _ _).alloc (Nat.le_refl _) _⟩
    · clear k0 k7
      go_enter Try.func19, Try.ntmps19
      go_wp2_with fail
      refine (has_is _ _ _ _ a64.out).mono ?_
      rintro e w' ⟨rfl, rfl⟩
      go_wp2_with fail
      go_ret
      exact ⟨by rw [condB_1]; rfl, (Below.refl _ _).alloc (Nat.le_refl _) _⟩
    · clear k0 k7
      go_enter Try.func19, Try.ntmps19
      go_wp2_with fail
      refine (has_is _ _ _ _ a1.out).mono ?_
      rintro e w' ⟨rfl, rfl⟩
      go_wp2_with fail
      go_ret
      exact ⟨by rw [condB_2]; rfl, (Below.refl _ _).alloc (Nat.le_refl _) _⟩
    · clear k0 k7
      go_enter Try.func19, Try.ntmps19
      go_wp2_with fail
      refine (has_is _ _ _ _ a1.out).mono ?_
      rintro e w' ⟨rfl, rfl⟩
      go_wp2_with fail
      go_ret
      exact ⟨by rw [condB_3]; rfl, (Below.refl _ _).alloc (Nat.le_refl _) _⟩
    · clear k0 k7
      go_enter Try.func19, Try.ntmps19
      go_wp2_with fail
      refine (has_is _ _ _ _ a4.out).mono ?_
      rintro e w' ⟨rfl, rfl⟩
      go_wp2_with fail
      go_ret
      exact ⟨by rw [condB_4]; rfl, (Below.refl _ _).alloc (Nat.le_refl _) _⟩
    · clear k0 k7
      go_enter Try.func19, Try.ntmps19
      go_wp2_with fail
      refine (has_is _ _ _ _ a4.out).mono ?_
      rintro e w' ⟨rfl, rfl⟩
      go_wp2_with fail
      go_ret
      exact ⟨by rw [condB_5]; rfl, (Below.refl _ _).alloc (Nat.le_refl _) _⟩
    · clear k0 k7
      go_enter Try.func19, Try.ntmps19
      go_wp2_with fail
      refine (has_is _ _ _ _ a128.out).mono ?_
      rintro e w' ⟨rfl, rfl⟩
      go_wp2_with fail
      go_ret
      exact ⟨by rw [condB_6]; rfl, (Below.refl _ _).alloc (Nat.le_refl _) _⟩
    · clear k0 k7
      go_enter Try.func19, Try.ntmps19
      go_wp2_with fail
      refine (has_is _ _ _ _ a128.out).mono ?_
      rintro e w' ⟨rfl, rfl⟩
      go_wp2_with fail
      go_ret
      exact ⟨by rw [condB_7]; rfl, (Below.refl _ _).alloc (Nat.le_refl _) _⟩
  · have hv : condB f k = false := by simp [condB, hk]
    have HV := Lib.hid hv; clear hv
    by_cases hn : k < 0
    · go_enter Try.func19, Try.ntmps19
      go_wp2_with fail
      go_ret
      exact ⟨by rw [HV.out]; rfl, Below.refl _ _⟩
    · have hg : 7 < k := by omega
      have hn' : 0 ≤ k := by omega
      clear hk hn
      go_enter Try.func19, Try.ntmps19
      go_wp2_with fail
      go_ret
      exact ⟨by rw [HV.out]; rfl, Below.refl _ _⟩

set_option maxHeartbeats 1600000 in
theorem refCond_any (f k : Int) (w : World) (h0 : 0 ≤ f) (h1 : f ≤ 255) :
    Calls Try.prog 20 #[.int .u8 f, .int .i64 k] w fun e w' => e = .returned (.bool (condB f k)) ∧ Below w.heap.size w w' := by
  by_cases hk : 0 ≤ k ∧ k ≤ 7
  · obtain ⟨k0, k7⟩ := hk
    rcases eight_cases k k0 k7 with rfl | rfl | rfl | rfl | rfl | rfl | rfl | rfl
    all_goals
      clear k0 k7
      go_enter Try.func20, Try.ntmps20
      go_wp2_with fail
      refine (bits_any _ _ h0 h1).mono ?_
      rintro e w1 ⟨v, rfl, hv, hb⟩
      obtain ⟨g, cap, rfl, hg, hc, hm, hcell⟩ := bits_cells hv
      have c0 := hcell 0 (by decide)
      have c1 := hcell 1 (by decide)
      have c5 := hcell 5 (by decide)
      have c7 := hcell 7 (by decide)
      clear hcell hv
      go_wp2_with fail
      go_ret
      refine ⟨?_, hb.alloc hb.size _⟩
      first | rw [condB_0] | rw [condB_1] | rw [condB_2] | rw [condB_3] | rw [condB_4] | rw [condB_5] | rw [condB_6] | rw [condB_7]
      rfl
  · have hv : condB f k = false := by simp [condB, hk]
    have HV := Lib.hid hv; clear hv
    by_cases hn : k < 0
    · clear hk
      go_enter Try.func20, Try.ntmps20
      go_wp2_with fail
      refine (bits_any _ _ h0 h1).mono ?_
      rintro e w1 ⟨v, rfl, hv, hb⟩
      go_wp2_with fail
      go_ret
      exact ⟨by rw [HV.out]; rfl, hb.alloc hb.size _⟩
    · have hg : 7 < k := by omega
      have hn' : 0 ≤ k := by omega
      clear hk hn
      go_enter Try.func20, Try.ntmps20
      go_wp2_with fail
      refine (bits_any _ _ h0 h1).mono ?_
      rintro e w1 ⟨v, rfl, hv, hb⟩
      go_wp2_with fail
      go_ret
      exact ⟨by rw [HV.out]; rfl, hb.alloc hb.size _⟩

end Go.Proofs.Ytkafgkfokejonaa
