/- Unpacking hangs on what was read alone, and on the limit only where it says too long. No program is named here. -/
import Derived.Test.YtifkldllhbcmkaaDoorInfInflate
namespace Go.Proofs.YtifkldllhbcmkaaDoor
set_option linter.unusedVariables false

/-- The first n bytes are the same. -/
structure Ag (n : Nat) (bs bs' : List Int) : Prop where
  l : n ≤ bs.length
  l' : n ≤ bs'.length
  eq : bs.take n = bs'.take n
theorem Ag.gI {n : Nat} {bs bs' : List Int} (h : Ag n bs bs') {j : Nat} (hj : j < n) : gI bs j = gI bs' j := by rw [← gI_take bs n j hj, h.eq, gI_take bs' n j hj]
theorem Ag.bits {n : Nat} {bs bs' : List Int} (h : Ag n bs bs') {p j : Nat} (hj : p + j < 8 * n) : bitsF bs p j = bitsF bs' p j := by
  unfold bitsF bitN
  rw [h.gI (show (p + j) / 8 < n by omega)]
theorem Ag.part {n : Nat} {bs bs' : List Int} (h : Ag n bs bs') {u m : Nat} (hu : u + m ≤ n) : (bs.drop u).take m = (bs'.drop u).take m := by
  have e : ∀ l : List Int, (l.drop u).take m = ((l.take n).take (u + m)).drop u := fun l => by
    rw [List.take_take, Nat.min_eq_left hu, List.drop_take, Nat.add_sub_cancel_left]
  rw [e bs, e bs', h.eq]
/-- What x says, y says too: where x ends within the first n bytes, or S; an error but 8, where S. -/
structure Rel {α : Type} (n : Nat) (S : Prop) (p : Nat) (x y : Rs α) : Prop where
  ok : ∀ a q, x = .ok (a, q) → p ≤ q ∧ (q ≤ 8 * n ∨ S → y = x)
  er : ∀ e, x = .error e → e = 8 ∨ (S → y = x)
theorem Rel.pure {α : Type} {n p q : Nat} {S : Prop} (a : α) (h : p ≤ q) : Rel n S p (.ok (a, q)) (.ok (a, q)) := ⟨fun b r e => by
  simp only [Except.ok.injEq, Prod.mk.injEq] at e
  exact ⟨by omega, fun _ => rfl⟩, fun e h => by cases h⟩
theorem Rel.err {α : Type} {n p : Nat} {S : Prop} (e : Nat) : Rel (α := α) n S p (.error e) (.error e) := ⟨fun a q h => (by cases h), fun _ _ => Or.inr fun _ => rfl⟩
theorem Rel.long {α : Type} {n p : Nat} {S : Prop} (y : Rs α) : Rel n S p (.error 8) y := ⟨fun a q h => (by cases h), fun e h => by injection h with h; exact Or.inl h.symm⟩
theorem Rel.weak {α : Type} {n p r : Nat} {S : Prop} {x y : Rs α} (h : Rel n S p x y) (hr : r ≤ p) : Rel n S r x y := ⟨fun a q e => ⟨Nat.le_trans hr (h.ok a q e).1, (h.ok a q e).2⟩, h.er⟩
theorem Rel.bnd {α β : Type} {n p : Nat} {S : Prop} {x y : Rs α} {f g : α → Nat → Rs β} (h : Rel n S p x y) (k : ∀ a q, x = .ok (a, q) → p ≤ q → Rel n S q (f a q) (g a q)) : Rel n S p (bnd x f) (bnd y g) := by
  rcases x.two with ⟨c, rfl⟩ | ⟨a, q, rfl⟩
  · refine ⟨fun a q e => (by cases e), fun e he => ?_⟩
    have he' : c = e := by injection he
    subst he'
    rcases h.er c rfl with h8 | h8
    · exact Or.inl h8
    · exact Or.inr fun s => by rw [h8 s]; rfl
  · obtain ⟨h1, h2⟩ := h.ok a q rfl
    have hk := k a q rfl h1
    refine ⟨fun b r e => ?_, fun c e => ?_⟩
    · rw [bnd_ok] at e
      obtain ⟨k1, k2⟩ := hk.ok b r e
      refine ⟨by omega, fun hs => ?_⟩
      rw [h2 (by rcases hs with h | h; exact Or.inl (by omega); exact Or.inr h), bnd_ok, bnd_ok]
      exact k2 hs
    · rw [bnd_ok] at e
      rcases hk.er c e with h8 | h8
      · exact Or.inl h8
      · exact Or.inr fun s => by
          rw [h2 (Or.inr s), bnd_ok, bnd_ok]
          exact h8 s
theorem Rel.ite {α : Type} {n p : Nat} {S c : Prop} [Decidable c] {x y x' y' : Rs α} (h1 : c → Rel n S p x y) (h2 : ¬ c → Rel n S p x' y') : Rel n S p (if c then x else x') (if c then y else y') := by
  by_cases h : c
  · rw [if_pos h, if_pos h]; exact h1 h
  · rw [if_neg h, if_neg h]; exact h2 h

theorem take_rel {n : Nat} {S : Prop} {bs bs' : List Int} (hA : Ag n bs bs') (hS : S → bs = bs') (m p : Nat) : Rel n S p (takeM bs m p) (takeM bs' m p) := by
  refine ⟨fun a q e => ?_, fun e he => Or.inr fun s => by rw [hS s]⟩
  refine ⟨take_mono e, fun hs => ?_⟩
  rcases hs with h | s
  · unfold takeM at e ⊢
    split at e
    · rename_i hp
      simp only [Except.ok.injEq, Prod.mk.injEq] at e
      have hl := hA.l'
      rw [if_pos (by omega), if_pos hp]
      rw [lo_congr (β := bitsF bs' p) (γ := bitsF bs p) fun j hj => (hA.bits (by omega)).symm]
    · cases e
  · rw [hS s]
theorem next_rel {n : Nat} {S : Prop} {bs bs' : List Int} (hA : Ag n bs bs') (hS : S → bs = bs') (l : List Int) (p : Nat) : Rel n S p (nextM bs l p) (nextM bs' l p) := by
  refine ⟨fun a q e => ?_, fun e he => Or.inr fun s => by rw [hS s]⟩
  refine ⟨Nat.le_of_lt (next_mono e), fun hs => ?_⟩
  rcases hs with h | s
  · obtain ⟨t, h1, h2, h3, _⟩ := next_ok e
    have hl := hA.l'
    obtain ⟨_, _, _, _, k5⟩ := stepD_ok (show stepD (nOf l) (tabF (lnN l) (nOf l) l.length) (bitsF bs p) (8 * bs.length - p) 16 0 = (a, t, 0) from h1)
    have h4 : readR l bs' p = (a, t, 0) := k5 (bitsF bs' p) (8 * bs'.length - p) (fun j hj => hA.bits (by omega)) (by omega)
    rw [e]
    unfold nextM
    rw [h4, if_pos rfl, h2]
  · rw [hS s]
theorem far_rel {n : Nat} {S : Prop} {bs bs' : List Int} (hA : Ag n bs bs') (hS : S → bs = bs') (k each p : Nat) : Rel n S p (farM bs k each p) (farM bs' k each p) := (take_rel hA hS _ p).bnd fun _ _ _ _ => Rel.pure _ (Nat.le_refl _)
theorem length_rel {n : Nat} {S : Prop} {bs bs' : List Int} (hA : Ag n bs bs') (hS : S → bs = bs') (s p : Nat) : Rel n S p (lengthM bs s p) (lengthM bs' s p) := Rel.ite (fun _ => Rel.err 4) fun _ => Rel.ite (fun _ => Rel.pure _ (Nat.le_refl _)) fun _ => (far_rel hA hS _ _ p).bnd fun _ _ _ _ => Rel.pure _ (Nat.le_refl _)
theorem dist_rel {n : Nat} {S : Prop} {bs bs' : List Int} (hA : Ag n bs bs') (hS : S → bs = bs') (ld : List Int) (p : Nat) : Rel n S p (distM bs ld p) (distM bs' ld p) := (next_rel hA hS ld p).bnd fun _ _ _ _ => Rel.ite (fun _ => Rel.err 4) fun _ => (far_rel hA hS _ _ _).bnd fun _ _ _ _ => Rel.pure _ (Nat.le_refl _)
theorem put_rel {n : Nat} {S : Prop} {lim lim' : Nat} (hl : lim ≤ lim') (v p : Nat) (o : List Int) : Rel n S p (putM lim v p o) (putM lim' v p o) := by
  unfold putM
  by_cases h : o.length < lim
  · rw [if_pos h, if_pos (by omega)]; exact Rel.pure _ (Nat.le_refl _)
  · rw [if_neg h]; exact Rel.long _
theorem back_rel {n : Nat} {S : Prop} {bs bs' : List Int} (hA : Ag n bs bs') (hS : S → bs = bs') {lim lim' : Nat} (hl : lim ≤ lim') (ld : List Int) (s p : Nat) (o : List Int) : Rel n S p (backM bs ld lim s p o) (backM bs' ld lim' s p o) := by
  refine (length_rel hA hS s p).bnd fun k q _ _ => (dist_rel hA hS ld q).bnd fun d r _ _ => Rel.ite (fun _ => Rel.err 4) fun _ => ?_
  by_cases h : lim - o.length < k
  · rw [if_pos h]; exact Rel.long _
  · rw [if_neg h, if_neg (by omega)]; exact Rel.pure _ (Nat.le_refl _)
theorem sym_rel {n : Nat} {S : Prop} {bs bs' : List Int} (hA : Ag n bs bs') (hS : S → bs = bs') {lim lim' : Nat} (hl : lim ≤ lim') (ls ld : List Int) (p : Nat) (o : List Int) : Rel n S p (symM bs ls ld lim p o) (symM bs' ls ld lim' p o) :=
  (next_rel hA hS ls p).bnd fun s q _ _ => Rel.ite (fun _ => Rel.pure _ (Nat.le_refl _)) fun _ => Rel.bnd (Rel.ite (fun _ => put_rel hl s q o) fun _ => back_rel hA hS hl ld s q o) fun _ _ _ _ => Rel.pure _ (Nat.le_refl _)
theorem loop_rel {n : Nat} {S : Prop} {bs bs' : List Int} (hA : Ag n bs bs') (hS : S → bs = bs') {step step' : Nat → List Int → Rs (Bool × List Int)} (h : ∀ p o, Rel n S p (step p o) (step' p o)) (p : Nat) (o : List Int) : Rel n S p (loopM step (8 * bs.length) p o) (loopM step' (8 * bs'.length) p o) := by
  induction p, o using loopM.induct step (8 * bs.length) with
  | case1 p o e h1 =>
    rw [loop_er h1]
    refine ⟨fun a q x => (by cases x), fun c hc => ?_⟩
    injection hc with hc
    subst hc
    rcases (h p o).er _ h1 with h8 | h8
    · exact Or.inl h8
    · exact Or.inr fun s => loop_er ((h8 s).trans h1)
  | case2 p o o2 r h1 =>
    rw [loop_end h1]
    obtain ⟨k1, k2⟩ := (h p o).ok _ _ h1
    refine ⟨fun a q x => ?_, fun c hc => (by cases hc)⟩
    simp only [Except.ok.injEq, Prod.mk.injEq] at x
    obtain ⟨rfl, rfl⟩ := x
    exact ⟨k1, fun hs => loop_end ((k2 hs).trans h1)⟩
  | case3 p o o2 r h1 h2 ih =>
    rw [loop_on h1 h2.1 h2.2]
    obtain ⟨k1, k2⟩ := (h p o).ok _ _ h1
    refine ⟨fun a q x => ?_, fun c hc => ?_⟩
    · obtain ⟨i1, i2⟩ := ih.ok a q x
      refine ⟨by omega, fun hs => ?_⟩
      have hl := hA.l'
      have hr : r ≤ 8 * n ∨ S := by rcases hs with y | y; exact Or.inl (by omega); exact Or.inr y
      rw [loop_on ((k2 hr).trans h1) h2.1 (by
        rcases hr with y | y
        · omega
        · rw [← hS y]; exact h2.2)]
      exact i2 hs
    · rcases ih.er c hc with h8 | h8
      · exact Or.inl h8
      · exact Or.inr fun s => by
          rw [loop_on ((k2 (Or.inr s)).trans h1) h2.1 (by rw [← hS s]; exact h2.2)]
          exact h8 s
  | case4 p o o2 r h1 h2 =>
    have e : loopM step (8 * bs.length) p o = .error 4 := by rw [loopM, h1]; simp only [dif_neg h2]
    rw [e]
    refine ⟨fun a q x => (by cases x), fun c hc => Or.inr fun s => ?_⟩
    have k2 := ((h p o).ok _ _ h1).2 (Or.inr s)
    rw [loopM, k2, h1]
    simp only
    rw [dif_neg (by rw [← hS s]; exact h2)]
theorem stored_rel {n : Nat} {S : Prop} {bs bs' : List Int} (hA : Ag n bs bs') (hS : S → bs = bs') {lim lim' : Nat} (hl : lim ≤ lim') (p : Nat) (o : List Int) : Rel n S p (storedM bs lim p o) (storedM bs' lim' p o) := by
  have hu : p ≤ 8 * upB p := by unfold upB; omega
  refine Rel.weak ?_ hu
  refine (take_rel hA hS 16 _).bnd fun k q _ _ => (take_rel hA hS 16 q).bnd fun m r _ _ => Rel.ite (fun _ => Rel.err 4) fun _ => ?_
  have hu2 : r ≤ 8 * upB r := by unfold upB; omega
  by_cases h : lim - o.length < k
  · rw [if_pos h]; exact Rel.long _
  · rw [if_neg h, if_neg (show ¬ lim' - o.length < k by omega)]
    by_cases h2 : upB r + k ≤ bs.length
    · rw [if_pos h2]
      refine ⟨fun a q e => ?_, fun c e => (by cases e)⟩
      simp only [Except.ok.injEq, Prod.mk.injEq] at e
      obtain ⟨rfl, rfl⟩ := e
      refine ⟨by omega, fun hs => ?_⟩
      rcases hs with y | s
      · have hl' := hA.l'
        rw [if_pos (by omega), hA.part (by omega)]
      · rw [← hS s, if_pos h2]
    · rw [if_neg h2]
      exact ⟨fun a q e => (by cases e), fun c e => Or.inr fun s => by rw [← hS s, if_neg h2]⟩
theorem count_rel {n : Nat} {S : Prop} {bs bs' : List Int} (hA : Ag n bs bs') (hS : S → bs = bs') (m least most p : Nat) : Rel n S p (countM bs m least most p) (countM bs' m least most p) := (take_rel hA hS m p).bnd fun _ _ _ _ => Rel.ite (fun _ => Rel.err 4) fun _ => Rel.pure _ (Nat.le_refl _)
theorem lens_rel {n : Nat} {S : Prop} {bs bs' : List Int} (hA : Ag n bs bs') (hS : S → bs = bs') (p : Nat) : ∀ i, Rel n S p (lensM bs i p) (lensM bs' i p)
  | 0 => Rel.pure _ (Nat.le_refl _)
  | i + 1 => by
    rw [lensM, lensM]
    exact (lens_rel hA hS p i).bnd fun _ q _ _ => (take_rel hA hS 3 q).bnd fun _ _ _ _ => Rel.pure _ (Nat.le_refl _)
theorem rep_rel {n : Nat} {S : Prop} {bs bs' : List Int} (hA : Ag n bs bs') (hS : S → bs = bs') (row : List Int) (s p : Nat) : Rel n S p (repM bs row s p) (repM bs' row s p) := Rel.ite (fun _ => Rel.err 4) fun _ => (take_rel hA hS _ p).bnd fun _ _ _ _ => Rel.pure _ (Nat.le_refl _)
theorem row_rel {n : Nat} {S : Prop} {bs bs' : List Int} (hA : Ag n bs bs') (hS : S → bs = bs') (lc : List Int) (many p : Nat) (row : List Int) : Rel n S p (rowM bs lc many p row) (rowM bs' lc many p row) :=
  Rel.ite (fun _ => Rel.pure _ (Nat.le_refl _)) fun _ => (next_rel hA hS lc p).bnd fun s q _ _ => (rep_rel hA hS row s q).bnd fun _ _ _ _ => Rel.ite (fun _ => Rel.err 4) fun _ => Rel.pure _ (Nat.le_refl _)
theorem told_rel {n : Nat} {S : Prop} {bs bs' : List Int} (hA : Ag n bs bs') (hS : S → bs = bs') (p : Nat) : Rel n S p (toldM bs p) (toldM bs' p) :=
  (count_rel hA hS _ _ _ p).bnd fun a q1 _ _ => (count_rel hA hS _ _ _ q1).bnd fun b q2 _ _ => (count_rel hA hS _ _ _ q2).bnd fun k q3 _ _ => (lens_rel hA hS q3 k).bnd fun M q4 _ _ =>
    Rel.ite (fun _ => (loop_rel hA hS (fun p o => row_rel hA hS _ _ p o) q4 []).bnd fun _ _ _ _ => Rel.ite (fun _ => Rel.err 4) fun _ => Rel.ite (fun _ => Rel.ite (fun _ => Rel.pure _ (Nat.le_refl _)) fun _ => Rel.err 4) fun _ => Rel.err 4) fun _ => Rel.err 4
theorem kind_rel {n : Nat} {S : Prop} {bs bs' : List Int} (hA : Ag n bs bs') (hS : S → bs = bs') {lim lim' : Nat} (hl : lim ≤ lim') (k p : Nat) (o : List Int) : Rel n S p (kindM bs lim k p o) (kindM bs' lim' k p o) :=
  Rel.ite (fun _ => stored_rel hA hS hl p o) fun _ => Rel.ite (fun _ => loop_rel hA hS (fun p o => sym_rel hA hS hl _ _ p o) p o) fun _ => Rel.ite (fun _ => (told_rel hA hS p).bnd fun t q _ _ => loop_rel hA hS (fun p o => sym_rel hA hS hl _ _ p o) q o) fun _ => Rel.err 4
theorem block_rel {n : Nat} {S : Prop} {bs bs' : List Int} (hA : Ag n bs bs') (hS : S → bs = bs') {lim lim' : Nat} (hl : lim ≤ lim') (p : Nat) (o : List Int) : Rel n S p (blockM bs lim p o) (blockM bs' lim' p o) :=
  (take_rel hA hS 1 p).bnd fun _ q _ _ => (take_rel hA hS 2 q).bnd fun k r _ _ => (kind_rel hA hS hl k r o).bnd fun _ _ _ _ => Rel.pure _ (Nat.le_refl _)
theorem infl_rel {n : Nat} {S : Prop} {bs bs' : List Int} (hA : Ag n bs bs') (hS : S → bs = bs') {lim lim' : Nat} (hl : lim ≤ lim') : Rel n S 0 (inflM bs lim) (inflM bs' lim') := loop_rel hA hS (fun p o => block_rel hA hS hl p o) 0 []
/-- A greater limit: the same, or it isn't too long any more. -/
theorem infl_more (bs : List Int) (lim : Nat) : (∀ a q, inflM bs lim = .ok (a, q) → inflM bs (lim + 1) = .ok (a, q)) ∧ (∀ e, inflM bs lim = .error e → e = 8 ∨ inflM bs (lim + 1) = .error e) := by
  have h := infl_rel (n := bs.length) (S := True) (bs := bs) (bs' := bs) ⟨Nat.le_refl _, Nat.le_refl _, rfl⟩ (fun _ => rfl) (Nat.le_succ lim)
  exact ⟨fun a q e => ((h.ok a q e).2 (Or.inr trivial)).trans e, fun e he => (h.er e he).imp id fun k => (k trivial).trans he⟩
/-- What stands behind what was read plays no part. -/
theorem infl_behind (bs more : List Int) (lim p : Nat) (a : List Int) (h : inflM bs lim = .ok (a, p)) (hp : p ≤ 8 * bs.length) : inflM (bs.take ((p + 7) / 8) ++ more) lim = .ok (a, p) := by
  have hn : (p + 7) / 8 ≤ bs.length := by omega
  have hl : (bs.take ((p + 7) / 8)).length = (p + 7) / 8 := by rw [List.length_take]; omega
  have k := infl_rel (n := (p + 7) / 8) (S := False) (bs := bs) (bs' := bs.take ((p + 7) / 8) ++ more) ⟨hn, by rw [List.length_append, hl]; omega, by
    rw [List.take_append_of_le_length (by omega), List.take_take, Nat.min_self]⟩ (fun s => s.elim) (Nat.le_refl lim)
  exact ((k.ok a p h).2 (Or.inl (by omega))).trans h

end Go.Proofs.YtifkldllhbcmkaaDoor
