/- A frame goes by: what stands in the picture then. -/
import Derived.Test.YtkcfacbnbjkheaaBoardTell
namespace Go.Proofs.Ytkcfacbnbjkheaa
open Go.RowKit

def itS : Nat → St → St
  | 0, s => s
  | n + 1, s => nextS (itS n s)
theorem itS_M (s : St) : ∀ n, (itS n s).M = s.M
  | 0 => rfl
  | n + 1 => itS_M s n
theorem itS_acts (s : St) : ∀ n, (itS n s).acts = s.acts ∧ (itS n s).edges = s.edges
  | 0 => ⟨rfl, rfl⟩
  | n + 1 => itS_acts s n
theorem itS_t (s : St) : ∀ n : Nat, (itS n s).t = s.t + n
  | 0 => by simp [itS]
  | n + 1 => by
    show (itS n s).t + 1 = _
    rw [itS_t s n]; omega
theorem itS_frame (s : St) (h0 : 0 ≤ s.frame) (h1 : s.frame < 69888) : ∀ n : Nat, (itS n s).frame = frameV (s.frame + n)
  | 0 => by rw [show s.frame + ((0 : Nat) : Int) = s.frame by simp, frame_in h0 h1]; rfl
  | n + 1 => by
    show frameV ((itS n s).frame + 1) = _
    rw [itS_frame s h0 h1 n]
    unfold frameV; omega
/-- The address of what stands at a place of the picture; the time of the frame at which it is fetched. -/
def placeA (p : Nat) : Nat := (if p % 2 = 1 then colV ((p / 64 : Nat) : Int) ((p % 64 / 2 : Nat) : Int) else pixV ((p / 64 : Nat) : Int) ((p % 64 / 2 : Nat) : Int)).toNat
def placeT (p : Nat) : Int := 14338 + 224 * ((p / 64 : Nat) : Int) + 8 * ((p % 64 / 4 : Nat) : Int) + ((p % 4 : Nat) : Int)
theorem fetA_place {f : Int} (h : fetOn f = true) : fetA f = placeA (fetP f) := by
  obtain ⟨hp, _⟩ := fetP_is h
  obtain ⟨h0, h1, h2, h3⟩ := fetB_of h
  unfold fetA placeA
  generalize fetP f = p at *
  generalize f - 14338 = n at *
  unfold plcV at hp
  unfold adrV
  have e1 : ((p / 64 : Nat) : Int) = n / 224 := by unfold fetC at hp; omega
  have e2 : ((p % 64 / 2 : Nat) : Int) = fetC n := by unfold fetC at *; omega
  rw [e1, e2]
  by_cases o : n % 2 = 1
  · rw [if_pos o, if_pos (by unfold fetC at hp; omega)]
  · rw [if_neg o, if_neg (by unfold fetC at hp; omega)]
theorem placeT_ok (p : Nat) (h : p < 12288) : 14338 ≤ placeT p ∧ placeT p < 69888 ∧ fetOn (placeT p) = true ∧ fetP (placeT p) = p := by
  have a : 14338 ≤ placeT p ∧ placeT p < 69888 := by unfold placeT; omega
  have b : fetOn (placeT p) = true := by
    unfold fetOn fetB placeT
    exact decide_eq_true (by omega)
  refine ⟨a.1, a.2, b, ?_⟩
  unfold fetP plcV fetC placeT
  omega
theorem itS_pic (s : St) (h0 : 0 ≤ s.frame) (h1 : s.frame < 69888) (p : Nat) (hp : p < 12288) : ∀ n k : Nat, k < n → frameV (s.frame + k) = placeT p → (itS n s).pic p = s.M (placeA p)
  | n + 1, k, hk, hf => by
    obtain ⟨_, _, on, pl⟩ := placeT_ok p hp
    show (if fetOn (itS n s).frame = true then updN (itS n s).pic (fetP (itS n s).frame) ((itS n s).M (fetA (itS n s).frame)) else (itS n s).pic) p = _
    rw [itS_M, itS_frame s h0 h1]
    by_cases e : k = n
    · subst e
      rw [hf, if_pos on, pl, updN_same, fetA_place on, pl]
    · have ih := itS_pic s h0 h1 p hp n k (by omega) hf
      split
      · rename_i hon
        by_cases q : p = fetP (frameV (s.frame + n))
        · rw [q, updN_same, fetA_place hon]
        · rw [updN_other _ _ _ _ q]; exact ih
      · exact ih
theorem scan_all (s : St) (h0 : 0 ≤ s.frame) (h1 : s.frame < 69888) (p : Nat) (hp : p < 12288) : (itS 69888 s).pic p = s.M (placeA p) := by
  obtain ⟨a, b, _, _⟩ := placeT_ok p hp
  by_cases c : s.frame ≤ placeT p
  · exact itS_pic s h0 h1 p hp 69888 (placeT p - s.frame).toNat (by omega) (by unfold frameV; omega)
  · exact itS_pic s h0 h1 p hp 69888 (placeT p - s.frame + 69888).toNat (by omega) (by unfold frameV; omega)
theorem place_pix (x y : Int) (A P : Nat) (y0 : 0 ≤ y) (y1 : y < 32) (hA : 2 * (32 * x + y) = (A : Int)) (hP : pixV x y = (P : Int)) : placeA A = P := by
  unfold placeA
  rw [if_neg (by omega), show ((A / 64 : Nat) : Int) = x by omega, show ((A % 64 / 2 : Nat) : Int) = y by omega, hP]; rfl
theorem place_col (x y : Int) (A Q : Nat) (y0 : 0 ≤ y) (y1 : y < 32) (hA : 2 * (32 * x + y) = (A : Int)) (hQ : colV x y = (Q : Int)) : placeA (A + 1) = Q := by
  unfold placeA
  rw [if_pos (by omega), show (((A + 1) / 64 : Nat) : Int) = x by omega, show (((A + 1) % 64 / 2 : Nat) : Int) = y by omega, hQ]; rfl

end Go.Proofs.Ytkcfacbnbjkheaa
