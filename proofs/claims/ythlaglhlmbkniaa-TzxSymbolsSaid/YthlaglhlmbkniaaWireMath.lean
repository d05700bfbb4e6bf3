/- Numbers in bytes, the lowest byte first. No program is named here. -/
import Derived.Test.YthlaglhlmbkniaaBytes
import Derived.Laws.BitsLemmas
namespace Go.Proofs.Ythlaglhlmbkniaa
open Go.RowKit

/-- The k lowest bytes of v. -/
def putL : Nat → Int → List Int
  | 0, _ => []
  | k + 1, v => v % 256 :: putL k (v / 256)
theorem putL_len : ∀ (k : Nat) (v : Int), (putL k v).length = k
  | 0, _ => rfl
  | k + 1, v => by rw [putL, List.length_cons, putL_len k]
theorem putL_snoc : ∀ (k : Nat) (v : Int), putL (k + 1) v = putL k v ++ [v / 256 ^ k % 256]
  | 0, v => by simp [putL]
  | k + 1, v => by
    rw [putL, putL_snoc k (v / 256), putL, List.cons_append]
    congr 3
    rw [Int.ediv_ediv_of_nonneg (by decide), Int.pow_succ, Int.mul_comm]
theorem putL_byte (k : Nat) (v : Int) : Byte8 (putL k v) := by
  refine byte8_of _ ?_
  induction k generalizing v with
  | zero => intro x hx; cases hx
  | succ k ih =>
    intro x hx
    rw [putL] at hx
    rcases List.mem_cons.1 hx with rfl | hx
    · omega
    · exact ih _ x hx
/-- The number of bytes, the first one the lowest. -/
def leV : List Int → Int
  | [] => 0
  | x :: l => x + 256 * leV l
theorem leV_snoc : ∀ (l : List Int) (x : Int), leV (l ++ [x]) = leV l + x * 256 ^ l.length
  | [], x => by simp [leV]
  | y :: l, x => by
    rw [List.cons_append, leV, leV_snoc l x, leV, List.length_cons, Int.pow_succ, Int.mul_add, Int.add_assoc]
    congr 2
    rw [Int.mul_comm 256, Int.mul_assoc]
theorem leV_put : ∀ (k : Nat) (v : Int), 0 ≤ v → v < 256 ^ k → leV (putL k v) = v
  | 0, v, h0, h1 => by
    have : v = 0 := by simp at h1; omega
    rw [this]; rfl
  | k + 1, v, h0, h1 => by
    rw [putL, leV, leV_put k (v / 256) (by omega) (by rw [Int.pow_succ] at h1; omega)]
    omega
theorem leV_bd (l : List Int) (h : Byte8 l) : ∀ k, k ≤ l.length → 0 ≤ leV (l.take k) ∧ leV (l.take k) < 256 ^ k
  | 0, _ => by rw [List.take_zero]; exact ⟨Int.le_refl _, by decide⟩
  | k + 1, hk => by
    obtain ⟨h1, h2⟩ := leV_bd l h k (by omega)
    obtain ⟨h3, h4⟩ := h k
    rw [take_gI l k (by omega), leV_snoc, List.length_take, Nat.min_eq_left (by omega), Int.pow_succ]
    have h5 : 0 ≤ gI l k * 256 ^ k := Int.mul_nonneg h3 (by omega)
    have h6 : gI l k * 256 ^ k ≤ 255 * 256 ^ k := Int.mul_le_mul_of_nonneg_right h4 (by omega)
    omega
/-- What is handed in of n: from 1 to 4 bytes, else none. -/
def putI (n v : Int) : List Int := if 1 ≤ n ∧ n ≤ 4 then putL n.toNat v else []
/-- Many numbers, one behind the other. -/
def rowL (k : Nat) : List Int → List Int
  | [] => []
  | v :: l => putL k v ++ rowL k l
theorem rowL_len (k : Nat) : ∀ l, (rowL k l).length = k * l.length
  | [] => rfl
  | v :: l => by rw [rowL, List.length_append, putL_len, rowL_len k l, List.length_cons, Nat.mul_succ, Nat.add_comm]
theorem rowL_snoc (k : Nat) (v : Int) : ∀ l, rowL k (l ++ [v]) = rowL k l ++ putL k v
  | [] => by simp [rowL]
  | x :: l => by rw [List.cons_append, rowL, rowL_snoc k v l, rowL, List.append_assoc]
theorem rowL_byte (k : Nat) : ∀ l, Byte8 (rowL k l)
  | [] => Byte8.nil
  | v :: l => (putL_byte k v).app (rowL_byte k l)
/-- Number j of them. -/
theorem rowL_at (k : Nat) : ∀ (l : List Int) (j : Nat), j < l.length → ((rowL k l).drop (k * j)).take k = putL k (gI l j)
  | [], j, h => absurd h (by simp)
  | v :: l, 0, _ => by
    rw [Nat.mul_zero, List.drop_zero, rowL, List.take_append_of_le_length (by rw [putL_len]; omega), List.take_of_length_le (by rw [putL_len]; omega)]
    rfl
  | v :: l, j + 1, h => by
    have := rowL_at k l j (by simpa using h)
    rw [rowL, Nat.mul_succ, Nat.add_comm (k * j) k, ← List.drop_drop]
    rw [show (putL k v ++ rowL k l).drop k = rowL k l by rw [List.drop_append_of_le_length (by rw [putL_len]; omega), List.drop_of_length_le (by rw [putL_len]; omega), List.nil_append]]
    exact this
theorem rowL_val (k : Nat) (l : List Int) (j : Nat) (h : j < l.length) (h0 : 0 ≤ gI l j) (h1 : gI l j < 256 ^ k) : leV (((rowL k l).drop (k * j)).take k) = gI l j := by
  rw [rowL_at k l j h, leV_put k _ h0 h1]

end Go.Proofs.Ythlaglhlmbkniaa
