/- Texts of 0 and 1. No program is named here. -/
import Derived.Test.YtpechajekechlaaHuffMath
namespace Go.Proofs.Ytpechajekechlaa

def chB (b : Nat) : UInt8 := if b = 1 then 49 else 48
def strL (β : Nat → Nat) (n : Nat) : List UInt8 := (List.range n).map fun j => chB (β j)
def strB (β : Nat → Nat) (n : Nat) : ByteArray := ⟨(strL β n).toArray⟩
theorem strL_len (β : Nat → Nat) (n : Nat) : (strL β n).length = n := by simp [strL]
theorem strB_size (β : Nat → Nat) (n : Nat) : (strB β n).size = n := by simp [strB, ByteArray.size, strL_len]
theorem strB_list (β : Nat → Nat) (n : Nat) : (strB β n).toList = strL β n := by rw [ByteArray.toList_eq]; rfl
theorem strL_get (β : Nat → Nat) (n j : Nat) (h : j < n) : (strL β n)[j]? = some (chB (β j)) := by
  unfold strL; rw [List.getElem?_map, List.getElem?_range h]; rfl
theorem strL_congr {β γ : Nat → Nat} {n : Nat} (h : ∀ j, j < n → β j = γ j) : strL β n = strL γ n := by
  unfold strL
  exact List.map_congr_left fun j hj => by rw [h j (List.mem_range.1 hj)]
theorem strB_congr {β γ : Nat → Nat} {n : Nat} (h : ∀ j, j < n → β j = γ j) : strB β n = strB γ n := by unfold strB; rw [strL_congr h]
theorem chB_inj {a b : Nat} (ha : a ≤ 1) (hb : b ≤ 1) (h : chB a = chB b) : a = b := by
  unfold chB at h
  by_cases h1 : a = 1 <;> by_cases h2 : b = 1
  · omega
  · rw [if_pos h1, if_neg h2] at h; exact absurd h (by decide)
  · rw [if_neg h1, if_pos h2] at h; exact absurd h (by decide)
  · omega
theorem strL_eq (β γ : Nat → Nat) (hβ : ∀ j, β j ≤ 1) (hγ : ∀ j, γ j ≤ 1) (m n : Nat) : strL β m = strL γ n ↔ m = n ∧ val β n = val γ n := by
  rw [val_eq β γ hβ hγ]
  constructor
  · intro h
    have hl := congrArg List.length h
    rw [strL_len, strL_len] at hl
    subst hl
    refine ⟨rfl, fun j hj => chB_inj (hβ j) (hγ j) ?_⟩
    have h1 := strL_get β m j hj
    rw [h, strL_get γ m j hj] at h1
    exact (Option.some.inj h1).symm
  · rintro ⟨rfl, h⟩
    exact strL_congr h
theorem app_ext {a b c : ByteArray} (h : c.data = a.data ++ b.data) : a ++ b = c := by
  apply ByteArray.ext
  rw [ByteArray.data_append, h]
theorem strB_front (β : Nat → Nat) (n : Nat) (x : UInt8) (h : x = chB (β 0)) : (⟨#[x]⟩ : ByteArray) ++ strB (fun j => β (j + 1)) n = strB β (n + 1) := by
  apply app_ext
  unfold strB strL
  rw [List.range_succ_eq_map]
  simp [h]
theorem strB_back (β : Nat → Nat) (n : Nat) (x : UInt8) (h : x = chB (β n)) : strB β n ++ (⟨#[x]⟩ : ByteArray) = strB β (n + 1) := by
  apply app_ext
  unfold strB strL
  rw [List.range_succ]
  simp [h]
theorem bin_front (c r : Nat) : binF (r + 1) c 0 = c / 2 ^ r % 2 := by unfold binF; simp
theorem bin_shift (c r j : Nat) : binF (r + 1) c (j + 1) = binF r c j := by
  unfold binF
  rw [show r + 1 - 1 - (j + 1) = r - 1 - j by omega]
/-- A digit put ahead of the low digits. -/
theorem bin_grow (c r : Nat) (x : UInt8) (h : x = chB (c / 2 ^ r % 2)) : (⟨#[x]⟩ : ByteArray) ++ strB (binF r c) r = strB (binF (r + 1) c) (r + 1) := by
  rw [← strB_front (binF (r + 1) c) r x (by rw [bin_front]; exact h)]
  rw [strB_congr fun j _ => bin_shift c r j]
theorem strB_zero (β : Nat → Nat) : strB β 0 = ⟨#[]⟩ := rfl
theorem strL_take (β : Nat → Nat) (n m : Nat) (h : m ≤ n) : (strL β n).take m = strL β m := by
  unfold strL
  rw [← List.map_take, List.take_range, Nat.min_eq_left h]
theorem strL_drop (β : Nat → Nat) (n m : Nat) : (strL β n).drop m = strL (fun j => β (m + j)) (n - m) := by
  apply List.ext_getElem?
  intro j
  rw [List.getElem?_drop]
  by_cases c : j < n - m
  · rw [strL_get _ _ _ c, strL_get _ _ _ (by omega)]
  · rw [List.getElem?_eq_none (by rw [strL_len]; omega), List.getElem?_eq_none (by rw [strL_len]; omega)]
theorem strB_cut (β : Nat → Nat) (n lo hi : Nat) (h1 : lo ≤ hi) (h : hi ≤ n) : (strB β n).extract lo hi = strB (fun j => β (lo + j)) (hi - lo) := by
  apply ByteArray.ext
  rw [ByteArray.data_extract]
  show (strL β n).toArray.extract lo hi = (strL _ _).toArray
  rw [List.extract_toArray]
  congr 1
  rw [List.extract_eq_take_drop, strL_drop, strL_take _ _ _ (by omega)]
theorem strB_head (β : Nat → Nat) (n m : Nat) (h : m ≤ n) : (strB β n).extract 0 m = strB β m := by
  rw [strB_cut β n 0 m (Nat.zero_le _) h, Nat.sub_zero]
  exact strB_congr fun j _ => by rw [Nat.zero_add]
theorem strB_tail (β : Nat → Nat) (n m : Nat) (h : m ≤ n) : (strB β n).extract m n = strB (fun j => β (m + j)) (n - m) := strB_cut β n m n h (Nat.le_refl _)
theorem strB_beq (β γ : Nat → Nat) (hβ : ∀ j, β j ≤ 1) (hγ : ∀ j, γ j ≤ 1) (m n : Nat) (b : Bool) (hb : (m = n ∧ val β n = val γ n) ↔ b = true) : ((strB β m).toList == (strB γ n).toList) = b := by
  rw [strB_list, strB_list]
  cases b with
  | true => rw [beq_iff_eq, strL_eq β γ hβ hγ]; exact hb.2 rfl
  | false =>
    rw [beq_eq_false_iff_ne]
    intro h
    exact absurd (hb.1 ((strL_eq β γ hβ hγ m n).1 h)) (by decide)

end Go.Proofs.Ytpechajekechlaa
