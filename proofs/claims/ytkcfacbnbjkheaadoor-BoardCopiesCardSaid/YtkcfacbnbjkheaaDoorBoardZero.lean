/- A board's zero value, and a board that is built. -/
import Derived.Test.YtkcfacbnbjkheaaDoorBoardMath
namespace Go.Proofs.YtkcfacbnbjkheaaDoor
open Go.RowKit

def isU8z : Value → Bool
  | .int .u8 n => n == 0
  | _ => false
def isBz : Value → Bool
  | .bool b => !b
  | _ => false
def isU64z : Value → Bool
  | .int .u64 n => n == 0
  | _ => false
def isI64z : Value → Bool
  | .int .i64 n => n == 0
  | _ => false
def isNil : Value → Bool
  | .slice none 0 0 => true
  | _ => false
def eatZ (c : Value → Bool) : Nat → List Value → Option (List Value)
  | 0, l => some l
  | _ + 1, [] => none
  | n + 1, v :: l => match c v with
    | true => eatZ c n l
    | false => none
theorem eatZ_spec (c : Value → Bool) : ∀ (n : Nat) (l r : List Value), eatZ c n l = some r → l.length = n + r.length ∧ r = l.drop n ∧ ∀ i, i < n → ∃ v, l[i]? = some v ∧ c v = true
  | 0, l, r, h => by
    simp only [eatZ, Option.some.injEq] at h
    subst h
    exact ⟨by simp, by simp, fun i hi => absurd hi (by omega)⟩
  | n + 1, [], r, h => by simp [eatZ] at h
  | n + 1, v :: l, r, h => by
    cases hc : c v with
    | false => simp [eatZ, hc] at h
    | true =>
      simp only [eatZ, hc] at h
      obtain ⟨h1, h2, h3⟩ := eatZ_spec c n l r h
      refine ⟨by simp only [List.length_cons]; omega, by simpa using h2, fun i hi => ?_⟩
      cases i with
      | zero => exact ⟨v, rfl, hc⟩
      | succ i => simpa using h3 i (by omega)
theorem of_u8z {v : Value} (h : isU8z v = true) : v = .int .u8 0 := by
  unfold isU8z at h
  split at h
  · rw [eq_of_beq h]
  · cases h
theorem of_bz {v : Value} (h : isBz v = true) : v = .bool false := by
  unfold isBz at h
  split at h
  · rename_i b; cases b
    · rfl
    · cases h
  · cases h
theorem of_u64z {v : Value} (h : isU64z v = true) : v = .int .u64 0 := by
  unfold isU64z at h
  split at h
  · rw [eq_of_beq h]
  · cases h
theorem of_i64z {v : Value} (h : isI64z v = true) : v = .int .i64 0 := by
  unfold isI64z at h
  split at h
  · rw [eq_of_beq h]
  · cases h
theorem of_nil {v : Value} (h : isNil v = true) : v = .slice none 0 0 := by
  unfold isNil at h
  split at h
  · rfl
  · cases h

def zeroL (o : Option TypeInfo) : Option (List Value) :=
  match o with
  | some i => match i.zero with
    | some (.agg A) => some A.toList
    | _ => none
  | none => none
def eatAll : List (Nat × (Value → Bool)) → List Value → Option (List Value)
  | [], l => some l
  | x :: r, l => match eatZ x.2 x.1 l with
    | some l' => eatAll r l'
    | none => none
def total : List (Nat × (Value → Bool)) → Nat
  | [] => 0
  | x :: r => x.1 + total r
def atZ : List (Nat × (Value → Bool)) → Nat → Value → Bool
  | [], _, _ => false
  | x :: r, i, v => if i < x.1 then x.2 v else atZ r (i - x.1) v
theorem eatAll_spec : ∀ (L : List (Nat × (Value → Bool))) (l : List Value), eatAll L l = some [] → l.length = total L ∧ ∀ i, i < total L → ∃ v, l[i]? = some v ∧ atZ L i v = true
  | [], l, h => by
    simp only [eatAll, Option.some.injEq] at h
    subst h
    exact ⟨rfl, fun i hi => absurd hi (by simp [total])⟩
  | x :: r, l, h => by
    unfold eatAll at h
    split at h
    · rename_i l' hl
      obtain ⟨h1, h2, h3⟩ := eatZ_spec _ _ _ _ hl
      obtain ⟨k1, k2⟩ := eatAll_spec r l' h
      refine ⟨by simp only [total]; omega, fun i hi => ?_⟩
      by_cases hx : i < x.1
      · obtain ⟨v, a1, a2⟩ := h3 i hx
        exact ⟨v, a1, by simp only [atZ, if_pos hx]; exact a2⟩
      · obtain ⟨v, a1, a2⟩ := k2 (i - x.1) (by simp only [total] at hi; omega)
        refine ⟨v, ?_, by simp only [atZ, if_neg hx]; exact a2⟩
        rw [h2, List.getElem?_drop] at a1
        rwa [show x.1 + (i - x.1) = i by omega] at a1
    · cases h
def isE : Option (List Value) → Bool
  | some [] => true
  | _ => false
theorem of_isE {o : Option (List Value)} (h : isE o = true) : o = some [] := by
  unfold isE at h
  split at h
  · rfl
  · cases h
def eatO (L : List (Nat × (Value → Bool))) (o : Option TypeInfo) : Bool :=
  match zeroL o with
  | some l => isE (eatAll L l)
  | none => false
theorem zero_of (o : Option TypeInfo) (L : List (Nat × (Value → Bool))) (h : eatO L o = true) : ∃ i A, o = some i ∧ i.zero = some (.agg A) ∧ A.size = total L ∧ ∀ j, j < total L → ∃ v, A[j]? = some v ∧ atZ L j v = true := by
  unfold eatO at h
  split at h
  · rename_i l hl
    unfold zeroL at hl
    split at hl
    · rename_i o' i
      split at hl
      · rename_i z A hz
        cases hl
        obtain ⟨h1, h2⟩ := eatAll_spec _ _ (of_isE h)
        exact ⟨i, A, rfl, hz, by simpa using h1, fun j hj => by simpa using h2 j hj⟩
      · cases hl
    · cases hl
  · cases h
def boardL : List (Nat × (Value → Bool)) := [(65544, isU8z), (3, isBz), (1, isU64z), (1, isI64z), (1, isU8z), (2, isBz), (12288, isU8z), (2, isNil)]
theorem boardZero_ok : eatO boardL (Tryd.prog.info? 40) = true := by kernel_rfl

/-- A board's cells. -/
def bC (s : St) (va ve : Value) (j : Nat) : Value :=
  if j < 65536 then .int .u8 (s.M j) else if j < 65544 then .int .u8 (rowV s.S (j - 65536)) else if j = 65544 then .bool s.slow else if j = 65545 then .bool s.ear else if j = 65546 then .bool s.log
  else if j = 65547 then .int .u64 s.t else if j = 65548 then .int .i64 s.frame else if j = 65549 then .int .u8 s.border else if j = 65550 then .bool s.mic else if j = 65551 then .bool s.spk
  else if j < 77840 then .int .u8 (s.pic (j - 65552)) else if j = 77840 then va else ve
def zeroS : St := { M := fun _ => 0, S := fun _ => false, slow := false, ear := false, log := false, t := 0, frame := 0, border := 0, mic := false, spk := false, pic := fun _ => 0, acts := [], edges := [] }
theorem rowV_none (r : Nat) : rowV (fun _ => false) r = 0 := rfl
theorem boardZ_at (j : Nat) (v : Value) (hj : j < 77842) (h : atZ boardL j v = true) : v = bC zeroS (.slice none 0 0) (.slice none 0 0) j := by
  simp only [boardL, atZ] at h
  unfold bC zeroS
  simp only [rowV_none]
  by_cases c0 : j < 65544
  · rw [if_pos c0] at h
    rw [of_u8z h]
    by_cases d : j < 65536
    · rw [if_pos d]
    · rw [if_neg d, if_pos c0]
  rw [if_neg c0] at h
  rw [if_neg (show ¬ j < 65536 by omega), if_neg c0]
  by_cases c1 : j - 65544 < 3
  · rw [if_pos c1] at h
    rw [of_bz h]
    have e : j = 65544 ∨ j = 65545 ∨ j = 65546 := by omega
    rcases e with rfl | rfl | rfl <;> rfl
  rw [if_neg c1] at h
  by_cases c2 : j - 65544 - 3 < 1
  · rw [if_pos c2] at h
    rw [of_u64z h]
    obtain rfl : j = 65547 := by omega
    rfl
  rw [if_neg c2] at h
  by_cases c3 : j - 65544 - 3 - 1 < 1
  · rw [if_pos c3] at h
    rw [of_i64z h]
    obtain rfl : j = 65548 := by omega
    rfl
  rw [if_neg c3] at h
  by_cases c4 : j - 65544 - 3 - 1 - 1 < 1
  · rw [if_pos c4] at h
    rw [of_u8z h]
    obtain rfl : j = 65549 := by omega
    rfl
  rw [if_neg c4] at h
  by_cases c5 : j - 65544 - 3 - 1 - 1 - 1 < 2
  · rw [if_pos c5] at h
    rw [of_bz h]
    have e : j = 65550 ∨ j = 65551 := by omega
    rcases e with rfl | rfl <;> rfl
  rw [if_neg c5] at h
  by_cases c6 : j - 65544 - 3 - 1 - 1 - 1 - 2 < 12288
  · rw [if_pos c6] at h
    rw [of_u8z h]
    rw [if_neg (by omega), if_neg (by omega), if_neg (by omega), if_neg (by omega), if_neg (by omega), if_neg (by omega), if_neg (by omega), if_neg (by omega), if_pos (by omega)]
  rw [if_neg c6] at h
  have c7 : j - 65544 - 3 - 1 - 1 - 1 - 2 - 12288 < 2 := by omega
  rw [if_pos c7] at h
  rw [of_nil h]
  have e : j = 77840 ∨ j = 77841 := by omega
  rcases e with rfl | rfl <;> rfl
/-- The zero board. -/
theorem boardZero : ∃ i A, Tryd.prog.info? 40 = some i ∧ i.zero = some (.agg A) ∧ A.size = 77842 ∧ ∀ j, j < 77842 → A[j]? = some (bC zeroS (.slice none 0 0) (.slice none 0 0) j) := by
  obtain ⟨i, A, h1, h2, h3, h4⟩ := zero_of _ _ boardZero_ok
  refine ⟨i, A, h1, h2, h3, fun j hj => ?_⟩
  obtain ⟨v, a1, a2⟩ := h4 j hj
  rw [a1, boardZ_at j v hj a2]

/-- How a struct is built of which one field of one cell is given. -/
theorem built_one (P : Program) (t : TypeId) (fields : Array Field) (i : TypeInfo) (A : Array Value) (places : List (Nat × Nat)) (k off : Nat) (v : Value)
    (h1 : P.info? t = some i) (h2 : P.underlying t = some (.struct fields)) (h3 : i.zero = some (.agg A)) (h4 : fields.toList.mapM (fun f => (P.info? f.type).map fun i => (f.offset, i.size)) = some places)
    (h5 : places.toArray[k]? = some (off, 1)) (h6 : v.cells = #[v]) (h7 : off + 1 ≤ A.size) : P.built t [(k, v)] = some (A.setIfInBounds off v) := by
  unfold Program.built
  rw [h1, h2]
  simp only [h3, h4]
  have hz : (Value.agg A).cells = A := rfl
  unfold Instr.fill
  rw [h5]
  simp only [h6, hz]
  rw [if_neg (by simp; omega)]
  unfold Instr.fill
  simp

end Go.Proofs.YtkcfacbnbjkheaaDoor
