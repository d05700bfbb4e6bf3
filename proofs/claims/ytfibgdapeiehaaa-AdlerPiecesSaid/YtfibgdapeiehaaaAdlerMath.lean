/- Adler-32 over bytes: two numbers. No program is named here. -/
import Derived.Test.YtfibgdapeiehaaaKit
namespace Go.Proofs.Ytfibgdapeiehaaa

/-- The two numbers, a byte later. -/
def adP (p : Int × Int) (b : Int) : Int × Int := ((p.1 + b) % 65521, (p.2 + (p.1 + b) % 65521) % 65521)
def adF (p : Int × Int) (l : List Int) : Int × Int := l.foldl adP p
/-- As one number. -/
def adV (p : Int × Int) : Int := 65536 * p.2 + p.1
structure AdOk (p : Int × Int) : Prop where
  x0 : 0 ≤ p.1
  x1 : p.1 < 65521
  y0 : 0 ≤ p.2
  y1 : p.2 < 65521
theorem ad_start : AdOk (1, 0) := ⟨by decide, by decide, by decide, by decide⟩
theorem adP_ok (p : Int × Int) (b : Int) : AdOk (adP p b) := by
  unfold adP
  exact ⟨by dsimp only; omega, by dsimp only; omega, by dsimp only; omega, by dsimp only; omega⟩
theorem adF_ok {p : Int × Int} (h : AdOk p) : ∀ l : List Int, AdOk (adF p l)
  | [] => h
  | b :: l => adF_ok (adP_ok p b) l
theorem adF_nil (p : Int × Int) : adF p [] = p := rfl
theorem adF_app (p : Int × Int) (a b : List Int) : adF p (a ++ b) = adF (adF p a) b := List.foldl_append
theorem adF_snoc (p : Int × Int) (a : List Int) (b : Int) : adF p (a ++ [b]) = adP (adF p a) b := by rw [adF_app]; rfl
theorem adV_bd {p : Int × Int} (h : AdOk p) : 0 ≤ adV p ∧ adV p < 4294967296 := by
  obtain ⟨h1, h2, h3, h4⟩ := h
  unfold adV
  omega
theorem adV_inj {p q : Int × Int} (hp : AdOk p) (hq : AdOk q) (h : adV p = adV q) : p.1 = q.1 := by
  obtain ⟨h1, h2, h3, h4⟩ := hp
  obtain ⟨k1, k2, k3, k4⟩ := hq
  unfold adV at h
  omega
/-- The first number is one and the sum of all bytes. -/
theorem adF_fst {p : Int × Int} (h : AdOk p) : ∀ l : List Int, (adF p l).1 = (p.1 + l.sum) % 65521
  | [] => by
    obtain ⟨h1, h2, _, _⟩ := h
    show p.1 = (p.1 + 0) % 65521
    omega
  | b :: l => by
    have ih := adF_fst (adP_ok p b) l
    show (adF (adP p b) l).1 = _
    rw [ih, List.sum_cons]
    show ((p.1 + b) % 65521 + l.sum) % 65521 = _
    omega
/-- Bytes that differ in one place alone have other sums. -/
theorem ad_differs (a c : List Int) (u v : Int) (u0 : 0 ≤ u) (u1 : u ≤ 255) (v0 : 0 ≤ v) (v1 : v ≤ 255) : (adV (adF (1, 0) (a ++ u :: c)) == adV (adF (1, 0) (a ++ v :: c))) = (u == v) := by
  by_cases e : u = v
  · subst e
    simp
  · have hne : adV (adF (1, 0) (a ++ u :: c)) ≠ adV (adF (1, 0) (a ++ v :: c)) := fun h => by
      have h1 := adV_inj (adF_ok ad_start _) (adF_ok ad_start _) h
      rw [adF_fst ad_start, adF_fst ad_start, List.sum_append, List.sum_append, List.sum_cons, List.sum_cons] at h1
      dsimp only at h1
      omega
    rw [beq_eq_false_iff_ne.2 hne, beq_eq_false_iff_ne.2 e]

end Go.Proofs.Ytfibgdapeiehaaa
