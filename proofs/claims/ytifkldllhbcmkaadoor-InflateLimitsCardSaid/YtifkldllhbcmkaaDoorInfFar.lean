/- How far a number reaches: stretched, length, distance. -/
import Derived.Test.YtifkldllhbcmkaaDoorInfTake
namespace Go.Proofs.YtifkldllhbcmkaaDoor
open Go.RowKit
set_option linter.unusedVariables false

theorem far_math (k each : Nat) (hk : k ≤ 30) (he : each = 2 ∨ each = 4) : xtra k each ≤ 14 ∧ k - each * xtra k each ≤ 30 ∧ each * xtra k each ≤ k ∧ (((k : Int) / (each : Int)) - 1 < 0 → xtra k each = 0) ∧ (0 ≤ ((k : Int) / (each : Int)) - 1 → ((k : Int) / (each : Int)) - 1 = (xtra k each : Nat)) := by
  unfold xtra
  rcases he with rfl | rfl <;> omega
set_option maxHeartbeats 1600000 in
theorem stretched_u (c : Cx) (w : World) (ob : Option Nat) (p : Nat) (o : List Int) (k each : Nat) (hk : k ≤ 30) (he : each = 2 ∨ each = 4) (h : UAt c w ob p o) :
    Calls Tryd.prog 37 #[.pointer (some ⟨c.gu, 0, none⟩), .int .i64 (k : Nat), .int .i64 (each : Nat)] w (GaveI c w ob o (farM c.bs k each p)) := by
  obtain ⟨m1, m2, m3, m4, m5⟩ := far_math k each hk he
  have HF : Hid (farM c.bs k each p = bnd (takeM c.bs (xtra k each) p) fun m q => .ok ((k - each * xtra k each) * 2 ^ xtra k each + m, q)) := Lib.hid rfl
  have HT := Lib.hid (take_u c w ob p o (xtra k each) (by omega) h)
  clear h
  obtain ⟨X, hX⟩ : ∃ X, xtra k each = X := ⟨_, rfl⟩
  rw [hX] at HT HF m1 m2 m3 m4 m5
  have hmax : (if (k : Int) / (each : Int) - 1 < 0 then (0 : Int) else (k : Int) / (each : Int) - 1) = (X : Int) := by
    split
    · rename_i c; rw [m4 c]; rfl
    · rename_i c; exact m5 (by omega)
  have hmax2 : (if (0 : Int) < (k : Int) / (each : Int) - 1 then (k : Int) / (each : Int) - 1 else (0 : Int)) = (X : Int) := by
    split
    · rename_i c; exact m5 (by omega)
    · rename_i c
      by_cases d : (k : Int) / (each : Int) - 1 < 0
      · rw [m4 d]; rfl
      · rw [← m5 (by omega)]; omega
  have hdiv : (k : Int) / (each : Int) ≤ 30 := by rcases he with rfl | rfl <;> omega
  have hdiv0 : 0 ≤ (k : Int) / (each : Int) := by rcases he with rfl | rfl <;> omega
  have hene : ((each : Int) == 0) = false := by rcases he with rfl | rfl <;> decide
  obtain ⟨D, hD⟩ : ∃ D, (k : Int) / (each : Int) = D := ⟨_, rfl⟩
  rw [hD] at hmax hmax2 hdiv hdiv0
  have hen : (each : Int) ≤ 4 ∧ 2 ≤ (each : Int) := by omega
  obtain ⟨hen1, hen2⟩ := hen
  obtain ⟨Y, hY⟩ : ∃ Y, each * X = Y := ⟨_, rfl⟩
  have hY1 : (each : Int) * (X : Int) = (Y : Int) := by rw [← hY]; simp
  rw [hY] at m2 m3 HF
  have hp2 : 2 ^ X ≤ 2 ^ 14 := Nat.pow_le_pow_right (by decide) m1
  obtain ⟨Z, hZ⟩ : ∃ Z, (k - Y) * 2 ^ X = Z := ⟨_, rfl⟩
  have hZ2 : ((k : Int) - (Y : Int)) * (2 : Int) ^ X = (Z : Int) := by
    rw [← hZ, Int.natCast_mul, Int.natCast_sub m3]; simp
  have hZ1 : Z ≤ 500000 := by
    have := Nat.mul_le_mul m2 hp2
    omega
  rw [hZ] at HF
  clear he m4 m5 hX hY hZ hp2 m2
  go_enter Tryd.func37, Tryd.ntmps37
  go_wp2_with fail
  refine HT.out.mono ?_
  rintro e w1 (⟨v, q, hR, rfl, hU, hM⟩ | ⟨x, hR, hx, rfl, hb⟩)
  · have HE : Hid (GaveI c w ob o (farM c.bs k each p) (.returned (.tuple #[.int .i64 ((Z + v : Nat) : Int), .int .i64 0])) w1) := Lib.hid (Or.inl ⟨_, _, by rw [HF.out, hR]; rfl, rfl, hU, hM⟩)
    have hv : v ≤ 16777216 := by
      unfold takeM at hR
      split at hR
      · simp only [Except.ok.injEq, Prod.mk.injEq] at hR
        have := lo_lt (bitsF c.bs p) (fun j => bitsF_le _ _ _) X
        have h2 : 2 ^ X ≤ 2 ^ 14 := Nat.pow_le_pow_right (by decide) m1
        omega
      · cases hR
    have hs : ((Z : Int) + (v : Int)) = ((Z + v : Nat) : Int) := by omega
    generalize Z + v = S at *
    clear hR hU hM
    go_wp2_with fail
    go_ret2
    exact HE.out
  · have hn := nz hx
    have HE : Hid (GaveI c w ob o (farM c.bs k each p) (.returned (.tuple #[.int .i64 0, .int .i64 (x : Nat)])) w1) := Lib.hid (Or.inr ⟨x, by rw [HF.out, hR]; rfl, hx, rfl, hb⟩)
    clear hR hx hb
    go_wp2_with fail
    go_ret2
    exact HE.out

end Go.Proofs.YtifkldllhbcmkaaDoor
