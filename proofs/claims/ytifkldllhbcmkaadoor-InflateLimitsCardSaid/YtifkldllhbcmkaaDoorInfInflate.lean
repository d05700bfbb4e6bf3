/- Inflate. -/
import Derived.Test.YtifkldllhbcmkaaDoorInfBlock
namespace Go.Proofs.YtifkldllhbcmkaaDoor
open Go.RowKit
set_option linter.unusedVariables false
set_option linter.unusedSimpArgs false

def Inflated (w : World) (l : List Int) (lim : Nat) (e : Ending) (w' : World) : Prop := Below w.heap.size w w' ∧
  ((∃ o p A n cap, inflM l lim = .ok (o, p) ∧ e = .returned (.tuple #[.slice A n cap, .int .i64 (((p + 7) / 8 : Nat) : Int), .int .i64 0]) ∧ BAt8 (fun k => w.heap.size ≤ k) w' A n cap o ∧ o.length ≤ lim ∧ p ≤ 8 * l.length) ∨
   (∃ x, inflM l lim = .error x ∧ (x = 2 ∨ x = 4 ∨ x = 8) ∧ e = .returned (.tuple #[.slice none 0 0, .int .i64 0, .int .i64 (x : Nat)])))
theorem blockM_lt {bs : List Int} {lim p q : Nat} {o : List Int} {l : Bool × List Int} (h : blockM bs lim p o = .ok (l, q)) (hk : ∀ k r o' s, kindM bs lim k r o = .ok (o', s) → r ≤ s) : p < q := by
  unfold blockM at h
  rcases (takeM bs 1 p).two with ⟨x, hx⟩ | ⟨v, r, hx⟩
  · rw [hx] at h; cases h
  · have h1 := (take_lt hx).2.1
    rw [hx, bnd_ok] at h
    rcases (takeM bs 2 r).two with ⟨x, hx⟩ | ⟨k, s, hx⟩
    · rw [hx] at h; cases h
    · have h2 := (take_lt hx).2.1
      rw [hx, bnd_ok] at h
      rcases (kindM bs lim k s o).two with ⟨x, hx⟩ | ⟨o', t, hx⟩
      · rw [hx] at h; cases h
      · have h3 := hk k s o' t hx
        rw [hx, bnd_ok] at h
        simp only [Except.ok.injEq, Prod.mk.injEq] at h
        omega
theorem loop_mono {step : Nat → List Int → Rs (Bool × List Int)} {N : Nat} (hs : ∀ p o r q, step p o = .ok (r, q) → p ≤ q) : ∀ {p : Nat} {o o' : List Int} {q : Nat}, loopM step N p o = .ok (o', q) → p ≤ q := by
  intro p o
  induction p, o using loopM.induct step N with
  | case1 p o e h1 =>
    intro o' q h
    rw [loop_er h1] at h; cases h
  | case2 p o o2 r h1 =>
    intro o' q h
    rw [loop_end h1] at h
    simp only [Except.ok.injEq, Prod.mk.injEq] at h
    have := hs _ _ _ _ h1
    omega
  | case3 p o o2 r h1 h2 ih =>
    intro o' q h
    rw [loop_on h1 h2.1 h2.2] at h
    have := ih h
    omega
  | case4 p o o2 r h1 h2 =>
    intro o' q h
    rw [loopM, h1] at h
    simp only [dif_neg h2] at h
    cases h
theorem sym_mono {bs ls ld : List Int} {lim p q : Nat} {o : List Int} {r : Bool × List Int} (h : symM bs ls ld lim p o = .ok (r, q)) : p ≤ q := by
  unfold symM at h
  rcases (nextM bs ls p).two with ⟨x, hx⟩ | ⟨s, t, hx⟩
  · rw [hx] at h; cases h
  · have h1 := next_mono hx
    rw [hx, bnd_ok] at h
    split at h
    · simp only [Except.ok.injEq, Prod.mk.injEq] at h; omega
    · split at h
      · rcases (putM lim s t o).two with ⟨x, hx⟩ | ⟨o', u, hx⟩
        · rw [hx] at h; cases h
        · have := put_mono hx
          rw [hx, bnd_ok] at h
          simp only [Except.ok.injEq, Prod.mk.injEq] at h; omega
      · rcases (backM bs ld lim s t o).two with ⟨x, hx⟩ | ⟨o', u, hx⟩
        · rw [hx] at h; cases h
        · have := back_mono hx
          rw [hx, bnd_ok] at h
          simp only [Except.ok.injEq, Prod.mk.injEq] at h; omega
theorem stored_mono {bs : List Int} {lim p q : Nat} {o o' : List Int} (h : storedM bs lim p o = .ok (o', q)) : p ≤ q := by
  unfold storedM at h
  have hu : p ≤ 8 * upB p := by unfold upB; omega
  rcases (takeM bs 16 (8 * upB p)).two with ⟨x, hx⟩ | ⟨n, r, hx⟩
  · rw [hx] at h; cases h
  · have h1 := take_mono hx
    rw [hx, bnd_ok] at h
    rcases (takeM bs 16 r).two with ⟨x, hx⟩ | ⟨m, s, hx⟩
    · rw [hx] at h; cases h
    · have h2 := take_mono hx
      have hu2 : s ≤ 8 * upB s := by unfold upB; omega
      rw [hx, bnd_ok] at h
      split at h
      · cases h
      · split at h
        · cases h
        · split at h
          · simp only [Except.ok.injEq, Prod.mk.injEq] at h; omega
          · cases h
theorem count_mono {bs : List Int} {n least most p v q : Nat} (h : countM bs n least most p = .ok (v, q)) : p ≤ q := by
  unfold countM at h
  rcases (takeM bs n p).two with ⟨x, hx⟩ | ⟨v, r, hx⟩
  · rw [hx] at h; cases h
  · have := take_mono hx
    rw [hx, bnd_ok] at h
    split at h
    · cases h
    · simp only [Except.ok.injEq, Prod.mk.injEq] at h; omega
theorem lens_mono {bs : List Int} : ∀ {i p q : Nat} {M : Nat → Int}, lensM bs i p = .ok (M, q) → p ≤ q
  | 0, p, q, M, h => by simp only [lensM, Except.ok.injEq, Prod.mk.injEq] at h; omega
  | i + 1, p, q, M, h => by
    rcases (lensM bs i p).two with ⟨x, hx⟩ | ⟨M', r, hx⟩
    · rw [lensM, hx] at h; cases h
    · have ih := lens_mono hx
      rw [lensM, hx, bnd_ok] at h
      rcases (takeM bs 3 r).two with ⟨x, hx⟩ | ⟨v, t, hx⟩
      · rw [hx] at h; cases h
      · have := take_mono hx
        rw [hx, bnd_ok] at h
        simp only [Except.ok.injEq, Prod.mk.injEq] at h
        omega
theorem row_mono {bs lc : List Int} {many p q : Nat} {o : List Int} {r : Bool × List Int} (h : rowM bs lc many p o = .ok (r, q)) : p ≤ q := by
  unfold rowM at h
  split at h
  · simp only [Except.ok.injEq, Prod.mk.injEq] at h; omega
  · rcases (nextM bs lc p).two with ⟨x, hx⟩ | ⟨s, t, hx⟩
    · rw [hx] at h; cases h
    · have h1 := next_mono hx
      rw [hx, bnd_ok] at h
      rcases (repM bs o s t).two with ⟨x, hx⟩ | ⟨v, u, hx⟩
      · rw [hx] at h; cases h
      · have h2 : t ≤ u := by
          unfold repM at hx
          split at hx
          · cases hx
          · rcases (takeM bs (repB s) t).two with ⟨x, hy⟩ | ⟨m, u', hy⟩
            · rw [hy] at hx; cases hx
            · have := take_mono hy
              rw [hy, bnd_ok] at hx
              simp only [Except.ok.injEq, Prod.mk.injEq] at hx; omega
        rw [hx, bnd_ok] at h
        split at h
        · cases h
        · simp only [Except.ok.injEq, Prod.mk.injEq] at h; omega
theorem told_mono {bs : List Int} {p q : Nat} {t : List Int × List Int} (h : toldM bs p = .ok (t, q)) : p ≤ q := by
  rw [told_is] at h
  rcases (countM bs 5 257 286 p).two with ⟨x, hx⟩ | ⟨a, p1, hx⟩
  · rw [hx] at h; cases h
  have h1 := count_mono hx
  rw [hx, bnd_ok] at h
  rcases (countM bs 5 1 30 p1).two with ⟨x, hx⟩ | ⟨b, p2, hx⟩
  · rw [hx] at h; cases h
  have h2 := count_mono hx
  rw [hx, bnd_ok] at h
  rcases (countM bs 4 4 19 p2).two with ⟨x, hx⟩ | ⟨n, p3, hx⟩
  · rw [hx] at h; cases h
  have h3 := count_mono hx
  rw [hx, bnd_ok] at h
  rcases (codeM bs n p3).two with ⟨x, hx⟩ | ⟨lc, p4, hx⟩
  · rw [hx] at h; cases h
  have h4 : p3 ≤ p4 := by
    unfold codeM at hx
    rcases (lensM bs n p3).two with ⟨x, hy⟩ | ⟨M, u, hy⟩
    · rw [hy] at hx; cases hx
    · have := lens_mono hy
      rw [hy, bnd_ok] at hx
      split at hx
      · simp only [Except.ok.injEq, Prod.mk.injEq] at hx; omega
      · cases hx
  rw [hx, bnd_ok] at h
  unfold restM at h
  rcases (loopM (rowM bs lc (a + b)) (8 * bs.length) p4 []).two with ⟨x, hx⟩ | ⟨r, p5, hx⟩
  · rw [hx] at h; cases h
  have h5 := loop_mono (fun _ _ _ _ h => row_mono h) hx
  rw [hx, bnd_ok] at h
  split at h
  · cases h
  · split at h
    · split at h
      · simp only [Except.ok.injEq, Prod.mk.injEq] at h; omega
      · cases h
    · cases h
theorem kind_mono {bs : List Int} {lim k p q : Nat} {o o' : List Int} (h : kindM bs lim k p o = .ok (o', q)) : p ≤ q := by
  unfold kindM at h
  split at h
  · exact stored_mono h
  · split at h
    · exact loop_mono (fun _ _ _ _ h => sym_mono h) h
    · split at h
      · rcases (toldM bs p).two with ⟨x, hx⟩ | ⟨t, r, hx⟩
        · rw [hx] at h; cases h
        · have h1 := told_mono hx
          rw [hx, bnd_ok] at h
          have := loop_mono (fun _ _ _ _ h => sym_mono h) h
          omega
      · cases h
theorem block_lt {bs : List Int} {lim p q : Nat} {o : List Int} {r : Bool × List Int} (h : blockM bs lim p o = .ok (r, q)) : p < q := blockM_lt h fun _ _ _ _ h => kind_mono h

end Go.Proofs.YtifkldllhbcmkaaDoor
