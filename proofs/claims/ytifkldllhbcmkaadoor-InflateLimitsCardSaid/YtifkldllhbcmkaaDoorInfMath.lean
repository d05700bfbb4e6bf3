/- Unpacking as functions of bytes, position and limit: what is taken, each step, each loop. No function of the program is named here. -/
import Derived.Test.YtifkldllhbcmkaaDoorHuffNext
import Derived.Test.YtifkldllhbcmkaaDoorHuffBytes
namespace Go.Proofs.YtifkldllhbcmkaaDoor
set_option linter.unusedVariables false

/-- A result and a position, or an error's number. -/
abbrev Rs (α : Type) := Except Nat (α × Nat)
def bnd {α β : Type} (x : Rs α) (f : α → Nat → Rs β) : Rs β := match x with
  | .error e => .error e
  | .ok r => f r.1 r.2
theorem bnd_ok {α β : Type} (a : α) (p : Nat) (f : α → Nat → Rs β) : bnd (.ok (a, p)) f = f a p := rfl
theorem bnd_er {α β : Type} (e : Nat) (f : α → Nat → Rs β) : bnd (.error e) f = .error e := rfl
theorem Rs.two {α : Type} (x : Rs α) : (∃ e, x = .error e) ∨ ∃ a q, x = .ok (a, q) := by
  cases x with
  | error e => exact Or.inl ⟨e, rfl⟩
  | ok r => exact Or.inr ⟨r.1, r.2, rfl⟩

instance (N : Nat → Nat) : Decidable (okS N) := by unfold okS; infer_instance
def takeM (bs : List Int) (n p : Nat) : Rs Nat := if p + n ≤ 8 * bs.length then .ok (lo (bitsF bs p) n, p + n) else .error 2
def nextM (bs l : List Int) (p : Nat) : Rs Nat := if (readR l bs p).2.2 = 0 then .ok ((readR l bs p).1, p + (readR l bs p).2.1) else .error (readR l bs p).2.2
def xtra (k each : Nat) : Nat := k / each - 1
def farM (bs : List Int) (k each p : Nat) : Rs Nat := bnd (takeM bs (xtra k each) p) fun m q => .ok ((k - each * xtra k each) * 2 ^ xtra k each + m, q)
def lengthM (bs : List Int) (s p : Nat) : Rs Nat := if 285 < s then .error 4 else if s = 285 then .ok (258, p) else bnd (farM bs (s - 257) 4 p) fun m q => .ok (3 + m, q)
def distM (bs ld : List Int) (p : Nat) : Rs Nat := bnd (nextM bs ld p) fun s q => if 29 < s then .error 4 else bnd (farM bs s 2 q) fun m r => .ok (1 + m, r)
/-- So many bytes more, one by one, from place f on. -/
def copyL (o : List Int) (f : Nat) : Nat → List Int
  | 0 => o
  | i + 1 => copyL o f i ++ [gI (copyL o f i) (f + i)]
theorem copyL_len (o : List Int) (f : Nat) : ∀ i, (copyL o f i).length = o.length + i
  | 0 => rfl
  | i + 1 => by rw [copyL, List.length_append, copyL_len o f i]; rfl
theorem copyL_byte {o : List Int} (h : Byte8 o) (f : Nat) : ∀ i, Byte8 (copyL o f i)
  | 0 => h
  | i + 1 => by
    have ih := copyL_byte h f i
    rw [copyL]
    refine ih.app fun j => ?_
    cases j with
    | zero => exact ih (f + i)
    | succ j => rw [gI_end _ _ (by simp)]; omega
def putM (lim v p : Nat) (o : List Int) : Rs (List Int) := if o.length < lim then .ok (o ++ [(v : Int)], p) else .error 8
def backM (bs ld : List Int) (lim s p : Nat) (o : List Int) : Rs (List Int) := bnd (lengthM bs s p) fun n q => bnd (distM bs ld q) fun d r =>
  if o.length < d then .error 4 else if lim - o.length < n then .error 8 else .ok (copyL o (o.length - d) n, r)
def symM (bs ls ld : List Int) (lim p : Nat) (o : List Int) : Rs (Bool × List Int) := bnd (nextM bs ls p) fun s q =>
  if s = 256 then .ok ((true, o), q) else bnd (if s < 256 then putM lim s q o else backM bs ld lim s q o) fun o' r => .ok ((false, o'), r)
/-- Steps up to one that is the last. -/
def loopM (step : Nat → List Int → Rs (Bool × List Int)) (N p : Nat) (o : List Int) : Rs (List Int) :=
  match step p o with
  | .error e => .error e
  | .ok ((true, o'), q) => .ok (o', q)
  | .ok ((false, o'), q) => if h : p < q ∧ q ≤ N then loopM step N q o' else .error 4
  termination_by N - p
theorem loop_er {step : Nat → List Int → Rs (Bool × List Int)} {N p : Nat} {o : List Int} {e : Nat} (h : step p o = .error e) : loopM step N p o = .error e := by rw [loopM, h]
theorem loop_end {step : Nat → List Int → Rs (Bool × List Int)} {N p q : Nat} {o o' : List Int} (h : step p o = .ok ((true, o'), q)) : loopM step N p o = .ok (o', q) := by rw [loopM, h]
theorem loop_on {step : Nat → List Int → Rs (Bool × List Int)} {N p q : Nat} {o o' : List Int} (h : step p o = .ok ((false, o'), q)) (h1 : p < q) (h2 : q ≤ N) : loopM step N p o = loopM step N q o' := by rw [loopM, h]; simp [h1, h2]
def storedM (bs : List Int) (lim p : Nat) (o : List Int) : Rs (List Int) := bnd (takeM bs 16 (8 * upB p)) fun n q => bnd (takeM bs 16 q) fun m r =>
  if m + n ≠ 65535 then .error 4 else if lim - o.length < n then .error 8 else if upB r + n ≤ bs.length then .ok (o ++ (bs.drop (upB r)).take n, 8 * (upB r + n)) else .error 2
def countM (bs : List Int) (n least most p : Nat) : Rs Nat := bnd (takeM bs n p) fun v q => if most < least + v then .error 4 else .ok (least + v, q)
def ordN : List Nat := [16, 17, 18, 0, 8, 7, 9, 6, 10, 5, 11, 4, 12, 3, 13, 2, 14, 1, 15]
def ordF (i : Nat) : Nat := ordN.getD i 0
theorem ordF_lt (i : Nat) : ordF i < 19 := by
  by_cases h : i < 19
  · have : ∀ i, i < 19 → ordF i < 19 := by decide
    exact this i h
  · unfold ordF
    rw [List.getD_eq_getElem?_getD, List.getElem?_eq_none (by simp [ordN]; omega)]
    decide
def lensM (bs : List Int) : Nat → Nat → Rs (Nat → Int)
  | 0, p => .ok (fun _ => 0, p)
  | i + 1, p => bnd (lensM bs i p) fun M q => bnd (takeM bs 3 q) fun v r => .ok (fun j => if j = ordF i then (v : Int) else M j, r)
theorem lens_er {bs : List Int} {p e i : Nat} (h : lensM bs i p = .error e) : ∀ n, i ≤ n → lensM bs n p = .error e
  | 0, hn => by obtain rfl : i = 0 := by omega
                exact h
  | n + 1, hn => by
    by_cases c : i = n + 1
    · subst c; exact h
    · rw [lensM, lens_er h n (by omega)]; rfl
def repL (row : List Int) (s : Nat) : Int := if s = 16 then gI row (row.length - 1) else if s = 17 ∨ s = 18 then 0 else (s : Int)
def repA (s : Nat) : Nat := if s = 16 ∨ s = 17 then 3 else if s = 18 then 11 else 1
def repB (s : Nat) : Nat := if s = 16 then 2 else if s = 17 then 3 else if s = 18 then 7 else 0
def repM (bs row : List Int) (s p : Nat) : Rs (Int × Nat) := if s = 16 ∧ row.length = 0 then .error 4 else bnd (takeM bs (repB s) p) fun m q => .ok ((repL row s, repA s + m), q)
def rowM (bs lc : List Int) (many p : Nat) (row : List Int) : Rs (Bool × List Int) := if many ≤ row.length then .ok ((true, row), p) else bnd (nextM bs lc p) fun s q => bnd (repM bs row s q) fun v r =>
  if many - row.length < v.2 then .error 4 else .ok ((false, row ++ List.replicate v.2 v.1), r)
def toldM (bs : List Int) (p : Nat) : Rs (List Int × List Int) := bnd (countM bs 5 257 286 p) fun a p1 => bnd (countM bs 5 1 30 p1) fun b p2 => bnd (countM bs 4 4 19 p2) fun c p3 => bnd (lensM bs c p3) fun M p4 =>
  if okS (nOf (lstF M 19)) then bnd (loopM (rowM bs (lstF M 19) (a + b)) (8 * bs.length) p4 []) fun r p5 =>
    if gI r 256 = 0 then .error 4 else if okS (nOf (r.take a)) then if okS (nOf (r.drop a)) then .ok ((r.take a, r.drop a), p5) else .error 4 else .error 4
  else .error 4
def fixS : List Int := lstF (fun i => if i ≤ 143 then 8 else if i ≤ 255 then 9 else if i ≤ 279 then 7 else 8) 288
def fixD : List Int := lstF (fun _ => 5) 32
def kindM (bs : List Int) (lim k p : Nat) (o : List Int) : Rs (List Int) := if k = 0 then storedM bs lim p o else if k = 1 then loopM (symM bs fixS fixD lim) (8 * bs.length) p o
  else if k = 2 then bnd (toldM bs p) fun t q => loopM (symM bs t.1 t.2 lim) (8 * bs.length) q o else .error 4
def blockM (bs : List Int) (lim p : Nat) (o : List Int) : Rs (Bool × List Int) := bnd (takeM bs 1 p) fun l q => bnd (takeM bs 2 q) fun k r => bnd (kindM bs lim k r o) fun o' s => .ok ((decide (l = 1), o'), s)
def inflM (bs : List Int) (lim : Nat) : Rs (List Int) := loopM (blockM bs lim) (8 * bs.length) 0 []

/-- What a code that is read tells: how many bits it has, which of them it hangs on. -/
theorem stepD_ok {N T β : Nat → Nat} {len s t : Nat} : ∀ {f k}, stepD N T β len f k = (s, t, 0) → k ≤ t ∧ (k ≤ len → t ≤ len) ∧ val β t < endC N t ∧ (∃ j, s = T j) ∧ ∀ β' len', (∀ j, j < t → β j = β' j) → t ≤ len' → stepD N T β' len' f k = (s, t, 0)
  | 0, k, h => by simp [stepD] at h
  | f + 1, k, h => by
    have vc : ∀ β' : Nat → Nat, ∀ k, (∀ j, j < k → β j = β' j) → val β k = val β' k := by
      intro β' k
      induction k with
      | zero => intro _; rfl
      | succ k ih => intro h; rw [val, val, ih (fun j hj => h j (by omega)), h k (by omega)]
    by_cases c1 : val β k < endC N k
    · rw [step_hit _ _ _ _ _ _ c1] at h
      simp only [Prod.mk.injEq] at h
      obtain ⟨h1, rfl, _⟩ := h
      refine ⟨Nat.le_refl _, fun x => x, c1, ⟨_, h1.symm⟩, fun β' len' hb hl => ?_⟩
      have e := vc β' k hb
      rw [step_hit _ _ _ _ _ _ (by rw [← e]; exact c1), ← e, h1]
    · by_cases c2 : plc N 16 ≤ plc N (k + 1)
      · rw [step_form _ _ _ _ _ _ (by omega) c2] at h
        simp at h
      · by_cases c3 : len ≤ k
        · rw [step_end _ _ _ _ _ _ (by omega) (by omega) c3] at h
          simp at h
        · rw [step_on _ _ _ _ _ _ (by omega) (by omega) (by omega)] at h
          obtain ⟨h1, h2, h3, h4, h5⟩ := stepD_ok h
          refine ⟨by omega, fun _ => h2 (by omega), h3, h4, fun β' len' hb hl => ?_⟩
          have e := vc β' k fun j hj => hb j (by omega)
          rw [step_on _ _ _ _ _ _ (by rw [← e]; omega) (by omega) (by omega)]
          exact h5 β' len' hb hl
theorem stepD_er {N T β : Nat → Nat} {len : Nat} : ∀ {f k}, (stepD N T β len f k).2.2 = 0 ∨ (stepD N T β len f k).2.2 = 2 ∨ (stepD N T β len f k).2.2 = 4
  | 0, k => Or.inr (Or.inr rfl)
  | f + 1, k => by
    rw [stepD]
    split
    · exact Or.inl rfl
    · split
      · exact Or.inr (Or.inr rfl)
      · split
        · exact Or.inr (Or.inl rfl)
        · exact stepD_er
theorem tabF_lt (a N : Nat → Nat) : ∀ m j, tabF a N m j = 0 ∨ tabF a N m j < m
  | 0, j => Or.inl rfl
  | m + 1, j => by
    have ih := tabF_lt a N m j
    rw [tabF]
    split
    · omega
    · dsimp only
      split <;> omega
theorem nOf_z (l : List Int) : nOf l 0 = 0 := by unfold nOf; exact cN_zero _ _
theorem next_ok {bs l : List Int} {p s q : Nat} (h : nextM bs l p = .ok (s, q)) : ∃ t, readR l bs p = (s, t, 0) ∧ q = p + t ∧ 1 ≤ t ∧ (p ≤ 8 * bs.length → q ≤ 8 * bs.length) ∧ (s = 0 ∨ s < l.length) := by
  unfold nextM at h
  split at h
  · rename_i h0
    simp only [Except.ok.injEq, Prod.mk.injEq] at h
    obtain ⟨h1, h2⟩ := h
    have e : readR l bs p = (s, (readR l bs p).2.1, 0) := by rw [← h0, ← h1]
    refine ⟨_, e, h2.symm, ?_, ?_, ?_⟩
    all_goals
      generalize (readR l bs p).2.1 = t at *
      obtain ⟨k1, k2, k3, ⟨j, k4⟩, _⟩ := stepD_ok e
    · rcases Nat.eq_zero_or_pos t with c | c
      · subst c
        simp [val, endC, fstC, nOf_z] at k3
      · exact c
    · intro hp
      have := k2 (by omega)
      omega
    · rw [k4]; exact tabF_lt _ _ _ _
  · cases h
theorem next_er {bs l : List Int} {p e : Nat} (h : nextM bs l p = .error e) : (readR l bs p).2.2 = e ∧ (e = 2 ∨ e = 4) := by
  unfold nextM at h
  split at h
  · cases h
  · rename_i h0
    simp only [Except.error.injEq] at h
    have := stepD_er (N := nOf l) (T := tabF (lnN l) (nOf l) l.length) (β := bitsF bs p) (len := 8 * bs.length - p) (f := 16) (k := 0)
    have e1 : (readR l bs p).2.2 = (stepD (nOf l) (tabF (lnN l) (nOf l) l.length) (bitsF bs p) (8 * bs.length - p) 16 0).2.2 := rfl
    omega

end Go.Proofs.YtifkldllhbcmkaaDoor
