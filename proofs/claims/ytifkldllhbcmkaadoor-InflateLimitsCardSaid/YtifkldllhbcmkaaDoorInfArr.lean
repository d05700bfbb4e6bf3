/- Arrays of numbers of any size, made at once. -/
import Derived.Test.YtifkldllhbcmkaaDoorInfNew
namespace Go.Proofs.YtifkldllhbcmkaaDoor
open Go.RowKit
set_option linter.unusedVariables false
set_option linter.unusedSimpArgs false

def bigAlloc (t : TypeId) (h : Bool) (o : Value) : Sem Value := Instr.alloc t h o
theorem bigAlloc_as1 (h : Bool) (o : Value) : Instr.alloc 57 h o = bigAlloc 57 h o := rfl
theorem bigAlloc_as2 (h : Bool) (o : Value) : Instr.alloc 58 h o = bigAlloc 58 h o := rfl
theorem bigAlloc_as3 (h : Bool) (o : Value) : Instr.alloc 78 h o = bigAlloc 78 h o := rfl
theorem bigAlloc_as4 (h : Bool) (o : Value) : Instr.alloc 69 h o = bigAlloc 69 h o := rfl
theorem big_new (t : TypeId) (n : Nat) (h : eatO [(n, isI64z)] (Tryd.prog.info? t) = true) :
    ∃ A : Array Value, A.size = n ∧ (∀ j, j < n → A[j]? = some (.int .i64 0)) ∧ ∀ u : World, (bigAlloc t true (.tuple #[])).run Tryd.prog u = .ok (.pointer (some ⟨u.heap.size, 0, none⟩)) (u.alloc (.cells A t)) := by
  obtain ⟨i, A, h1, h2, h3, h4⟩ := zero_of _ _ h
  refine ⟨A, by simpa [total] using h3, fun j hj => ?_, fun u => ?_⟩
  · obtain ⟨v, k1, k2⟩ := h4 j (by simpa [total] using hj)
    rw [k1, of_i64z (v := v) (by simpa [atZ, hj] using k2)]
  · have hc : (Value.agg A).cells = A := rfl
    simp only [bigAlloc, Instr.alloc, zeroValue, Sem.run_bind, typeInfo, newVar, newRow]
    simp [h1, h2, hc]
theorem big1 : eatO [(288, isI64z)] (Tryd.prog.info? 57) = true := by kernel_rfl
theorem big2 : eatO [(32, isI64z)] (Tryd.prog.info? 58) = true := by kernel_rfl
theorem big3 : eatO [(19, isI64z)] (Tryd.prog.info? 78) = true := by kernel_rfl
theorem big4 : eatO [(317, isI64z)] (Tryd.prog.info? 69) = true := by kernel_rfl
def numC (M : Nat → Int) (j : Nat) : Value := .int .i64 (M j)
theorem num_new {t : TypeId} {n : Nat} {A : Array Value} (h1 : A.size = n) (h2 : ∀ j, j < n → A[j]? = some (.int .i64 0)) (w : World) : Cells (w.alloc (.cells A t)) w.heap.size t n (numC fun _ => 0) := Cells.new w A t n _ h1 h2
theorem num_set {w : World} {g n : Nat} {t : TypeId} {M : Nat → Int} (h : Cells w g t n (numC M)) (a : Nat) (v : Int) : Cells (w.setCell ⟨g, a, none⟩ (.int .i64 v)) g t n (numC (updN M a v)) := by
  refine (h.set a (.int .i64 v)).congr fun j _ => ?_
  unfold upd numC updN
  split <;> rfl
theorem fine_of' (l : List Int) (h : ∀ x ∈ l, 0 ≤ x ∧ x ≤ 15) : Fine l := fun j => by
  by_cases hj : j < l.length
  · exact h _ (List.mem_of_getElem? (gI_some l j hj))
  · rw [gI_end l j (by omega)]; omega
/-- A part of an array of numbers, as a slice. -/
theorem IAt.part {w : World} {g n : Nat} {t : TypeId} {M : Nat → Int} (h : Cells w g t n (numC M)) (hn : n ≤ maxLen) (lo hi : Nat) (h1 : lo ≤ hi) (h2 : hi ≤ n) (l : List Int) (hl : l.length = hi - lo) (hm : ∀ j, j < hi - lo → gI l j = M (lo + j)) (F : Nat → Prop) (hF : F g) (cap : Nat) (hc : hi - lo ≤ cap) (hcm : cap ≤ maxLen) :
    IAt F w (some ⟨g, lo, none⟩) (hi - lo) cap l :=
  ⟨hl, hc, hcm, fun e => (by cases e), fun _ => ⟨g, lo, rfl, hF, h.lt, fun j hj => by rw [h.cell (lo + j) (by omega), hm j hj]; rfl⟩⟩
def fxF (i : Nat) : Int := if i ≤ 143 then 8 else if i ≤ 255 then 9 else if i ≤ 279 then 7 else 8
theorem fixS_is : fixS = lstF fxF 288 := rfl
theorem fixS_len : fixS.length = 288 := lstF_len _ _
theorem fixD_len : fixD.length = 32 := lstF_len _ _
theorem fixS_ok : Lg fixS 0 := Or.inr ⟨by rw [fixS_len]; decide, fine_of' _ (by decide +kernel), Or.inl ⟨rfl, by decide +kernel⟩⟩
theorem fixD_ok : Lg fixD 0 := Or.inr ⟨by rw [fixD_len]; decide, fine_of' _ (by decide +kernel), Or.inl ⟨rfl, by decide +kernel⟩⟩

end Go.Proofs.YtifkldllhbcmkaaDoor
