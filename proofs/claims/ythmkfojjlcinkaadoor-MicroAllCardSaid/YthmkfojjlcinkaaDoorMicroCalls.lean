/- micro.cut, low, high, sent, onBits: their contracts. -/
import Derived.Test.YthmkfojjlcinkaaDoorMicroRow
import Derived.Test.YthmkfojjlcinkaaDoorOpMem
namespace Go.Proofs.YthmkfojjlcinkaaDoor
open Go.RowKit

set_option maxHeartbeats 400000 in
theorem low_any (p : Int) (w : World) (p0 : 0 ≤ p) (p1 : p ≤ 3) : Calls Tryd.prog 52 #[.int .i64 p] w fun e w' => e = .returned (.int .i64 (lowW p)) ∧ w = w' := by
  by_cases h : p = 3
  · subst h
    go_enter Tryd.func52, Tryd.ntmps52
    go_wp2_with fail
    go_ret
    exact ⟨rfl, rfl⟩
  · have H := Lib.hid (show lowW p = 2 * p + 1 by unfold lowW; rw [if_neg h])
    have h1 : (p == 3) = false := by simpa using h
    clear h
    go_enter Tryd.func52, Tryd.ntmps52
    go_wp2_with fail
    refine (which_any _ _ _ (by omega) (by omega) (by omega) (by omega)).mono ?_
    rintro e w' ⟨rfl, rfl⟩
    go_wp2_with fail
    go_ret
    exact ⟨by rw [H.out]; rfl, rfl⟩
set_option maxHeartbeats 400000 in
theorem high_any (p : Int) (w : World) (p0 : 0 ≤ p) (p1 : p ≤ 3) : Calls Tryd.prog 53 #[.int .i64 p] w fun e w' => e = .returned (.int .i64 (highW p)) ∧ w = w' := by
  by_cases h : p = 3
  · subst h
    go_enter Tryd.func53, Tryd.ntmps53
    go_wp2_with fail
    go_ret
    exact ⟨rfl, rfl⟩
  · have H := Lib.hid (show highW p = 2 * p by unfold highW; rw [if_neg h])
    have h1 : (p == 3) = false := by simpa using h
    clear h
    go_enter Tryd.func53, Tryd.ntmps53
    go_wp2_with fail
    refine (which_any _ _ _ (by omega) (by omega) (by omega) (by omega)).mono ?_
    rintro e w' ⟨rfl, rfl⟩
    go_wp2_with fail
    go_ret
    exact ⟨by rw [H.out]; rfl, rfl⟩
set_option maxHeartbeats 400000 in
theorem sent_any (y : Int) (w : World) (y0 : 0 ≤ y) (y1 : y ≤ 7) : Calls Tryd.prog 67 #[.int .i64 y] w fun e w' => e = .returned (.int .i64 (sentW y)) ∧ w = w' := by
  by_cases h : y = 6
  · subst h
    go_enter Tryd.func67, Tryd.ntmps67
    go_wp2_with fail
    go_ret
    exact ⟨rfl, rfl⟩
  · have H := Lib.hid (show sentW y = y by unfold sentW; rw [if_neg h])
    have h1 : (y == 6) = false := by simpa using h
    clear h
    go_enter Tryd.func67, Tryd.ntmps67
    go_wp2_with fail
    refine (which_any _ _ _ (by omega) (by omega) (by omega) (by omega)).mono ?_
    rintro e w' ⟨rfl, rfl⟩
    go_wp2_with fail
    go_ret
    exact ⟨by rw [H.out]; rfl, rfl⟩

theorem pts_i (c : Nat) (x y z p q : Int) (h : Pts c x y z p q) : (c : Int) / 64 = x ∧ (c : Int) / 8 % 8 = y ∧ (c : Int) % 8 = z ∧ (c : Int) / 16 % 4 = p ∧ (c : Int) / 8 % 2 = q := by
  obtain ⟨rfl, rfl, rfl, rfl, rfl⟩ := h
  omega
theorem andI (n k m : Nat) (h : n < 256) (hk : 2 ^ k = m + 1) (h9 : m < 256) : bits .and .i64 (n : Int) (m : Int) = (n : Int) % ((m + 1 : Nat) : Int) := by
  have h' : n &&& m = n % (m + 1) := by
    have := Nat.and_two_pow_sub_one_eq_mod n k
    rw [hk, Nat.add_sub_cancel] at this
    exact this
  show IntKind.i64.wrap ((BitVec.ofInt 64 (n : Int) &&& BitVec.ofInt 64 (m : Int)).toNat : Int) = _
  rw [BitVec.toNat_and, BitVec.ofInt_natCast, BitVec.ofInt_natCast, BitVec.toNat_ofNat, BitVec.toNat_ofNat, Nat.mod_eq_of_lt (by omega : n < 2 ^ 64), Nat.mod_eq_of_lt (by omega : m < 2 ^ 64), h', IntWalk.i64_in _ (by have := Nat.mod_le n (m + 1); omega)]
  simp
set_option maxHeartbeats 800000 in
theorem mcut_is (c : Nat) (x y z p q : Int) (w : World) (hc : c < 256) (h : Pts c x y z p q) : Calls Tryd.prog 16 #[.int .u8 c] w fun e w' => e = .returned (.agg #[.int .i64 x, .int .i64 y, .int .i64 z, .int .i64 p, .int .i64 q]) ∧ Below w.heap.size w w' := by
  obtain ⟨rfl, rfl, rfl, rfl, rfl⟩ := pts_i c x y z p q h
  clear h
  have c0 : (0 : Int) ≤ c := by omega
  have cv : IntKind.i64.wrap (c : Int) = c := IntWalk.i64_in _ (by omega)
  have e1 : bits .and .i64 ((c : Int) / 8) 7 = (c : Int) / 8 % 8 := by have := andI (c / 8) 3 7 (by omega) rfl (by omega); rw [show ((c / 8 : Nat) : Int) = (c : Int) / 8 by omega] at this; exact this
  have e2 : bits .and .i64 (c : Int) 7 = (c : Int) % 8 := andI c 3 7 hc rfl (by omega)
  have e3 : bits .and .i64 ((c : Int) / 16) 3 = (c : Int) / 16 % 4 := by have := andI (c / 16) 2 3 (by omega) rfl (by omega); rw [show ((c / 16 : Nat) : Int) = (c : Int) / 16 by omega] at this; exact this
  have e4 : bits .and .i64 ((c : Int) / 8) 1 = (c : Int) / 8 % 2 := by have := andI (c / 8) 1 1 (by omega) rfl (by omega); rw [show ((c / 8 : Nat) : Int) = (c : Int) / 8 by omega] at this; exact this
  go_enter Tryd.func16, Tryd.ntmps16
  go_wp2_with fail
  exact bodyPost_ret (v := .agg #[.int .i64 ((c : Int) / 64), .int .i64 ((c : Int) / 8 % 8), .int .i64 ((c : Int) % 8), .int .i64 ((c : Int) / 16 % 4), .int .i64 ((c : Int) / 8 % 2)]) (by simp [results, Tryd.results16, go_sem]) rfl ⟨rfl, balloc _ _⟩

theorem mcell {W w1 : World} (hb : Below W.heap.size W w1) : (∀ b o, b < W.heap.size → w1.cell? ⟨b, o, none⟩ = W.cell? ⟨b, o, none⟩) ∧ (∀ b o, b < W.heap.size → w1.frozen? ⟨b, o, none⟩ = W.frozen? ⟨b, o, none⟩) :=
  ⟨fun b o h => hb.cell (p := ⟨b, o, none⟩) h, fun b o h => hb.frozen (p := ⟨b, o, none⟩) h⟩
theorem below_put4 {w w1 : World} (hb : Below w.heap.size w w1) {g : Nat} (hg : w.heap.size ≤ g) (a b c d : Value) : Below w.heap.size w ((((w1.setCell ⟨g, 0, none⟩ a).setCell ⟨g, 1, none⟩ b).setCell ⟨g, 2, none⟩ c).setCell ⟨g, 3, none⟩ d) :=
  (((hb.setCell (p := ⟨g, 0, none⟩) hg a).setCell (p := ⟨g, 1, none⟩) hg b).setCell (p := ⟨g, 2, none⟩) hg c).setCell (p := ⟨g, 3, none⟩) hg d
set_option maxHeartbeats 1600000 in
theorem on_any (x y z p q r : Int) (w : World) (y0 : 0 ≤ y) (y1 : y ≤ 7) (x0 : 0 ≤ x) (x1 : x ≤ 3) : Calls Tryd.prog 35 #[.agg #[.int .i64 x, .int .i64 y, .int .i64 z, .int .i64 p, .int .i64 q], .int .i64 r] w fun e w' => e = .returned (.agg #[.int .i64 (onS x y r).k, .int .i64 (onS x y r).a, .int .i64 (onS x y r).w, .int .i64 (onS x y r).n]) ∧ Below w.heap.size w w' := by
  have e : x = 0 ∨ x = 1 ∨ x = 2 ∨ x = 3 := by omega
  clear x0 x1
  rcases e with rfl | rfl | rfl | rfl
  · go_enter Tryd.func35, Tryd.ntmps35
    go_wp2_with fail
    refine (which_any _ _ _ (by omega) (by omega) (by omega) (by omega)).mono ?_
    rintro e w' ⟨rfl, rfl⟩
    go_wp2_with fail
    refine (work_any _ _ _).mono ?_
    rintro e w1 ⟨rfl, hb1⟩
    obtain ⟨hc, hf⟩ := mcell hb1
    have k0 : w1.cell? ⟨w.heap.size + 1, 0, none⟩ = some (.int .i64 0) := (hc _ _ (by simp)).trans (by simp)
    have k1 : w1.cell? ⟨w.heap.size + 1, 1, none⟩ = some (.int .i64 0) := (hc _ _ (by simp)).trans (by simp)
    have k2 : w1.cell? ⟨w.heap.size + 1, 2, none⟩ = some (.int .i64 0) := (hc _ _ (by simp)).trans (by simp)
    have k3 : w1.cell? ⟨w.heap.size + 1, 3, none⟩ = some (.int .i64 0) := (hc _ _ (by simp)).trans (by simp)
    have f0 : w1.frozen? ⟨w.heap.size + 1, 0, none⟩ = false := (hf _ _ (by simp)).trans (by simp)
    have f1 : w1.frozen? ⟨w.heap.size + 1, 1, none⟩ = false := (hf _ _ (by simp)).trans (by simp)
    have f2 : w1.frozen? ⟨w.heap.size + 1, 2, none⟩ = false := (hf _ _ (by simp)).trans (by simp)
    have f3 : w1.frozen? ⟨w.heap.size + 1, 3, none⟩ = false := (hf _ _ (by simp)).trans (by simp)
    clear hc hf
    have hb := below_step (below_step (balloc _ _) (balloc _ _)) hb1
    go_wp2_with fail
    exact bodyPost_ret (v := .agg #[.int .i64 5, .int .i64 0, .int .i64 (8 + y), .int .i64 r]) (by simp [results, Tryd.results35, go_sem, k0, k1, k2, k3]) rfl ⟨rfl, below_put4 hb (Nat.le_succ _) _ _ _ _⟩
  · go_enter Tryd.func35, Tryd.ntmps35
    go_wp2_with fail
    refine (which_any _ _ _ (by omega) (by omega) (by omega) (by omega)).mono ?_
    rintro e w' ⟨rfl, rfl⟩
    go_wp2_with fail
    refine (work_any _ _ _).mono ?_
    rintro e w1 ⟨rfl, hb1⟩
    obtain ⟨hc, hf⟩ := mcell hb1
    have k0 : w1.cell? ⟨w.heap.size + 1, 0, none⟩ = some (.int .i64 0) := (hc _ _ (by simp)).trans (by simp)
    have k1 : w1.cell? ⟨w.heap.size + 1, 1, none⟩ = some (.int .i64 0) := (hc _ _ (by simp)).trans (by simp)
    have k2 : w1.cell? ⟨w.heap.size + 1, 2, none⟩ = some (.int .i64 0) := (hc _ _ (by simp)).trans (by simp)
    have k3 : w1.cell? ⟨w.heap.size + 1, 3, none⟩ = some (.int .i64 0) := (hc _ _ (by simp)).trans (by simp)
    have f0 : w1.frozen? ⟨w.heap.size + 1, 0, none⟩ = false := (hf _ _ (by simp)).trans (by simp)
    have f1 : w1.frozen? ⟨w.heap.size + 1, 1, none⟩ = false := (hf _ _ (by simp)).trans (by simp)
    have f2 : w1.frozen? ⟨w.heap.size + 1, 2, none⟩ = false := (hf _ _ (by simp)).trans (by simp)
    have f3 : w1.frozen? ⟨w.heap.size + 1, 3, none⟩ = false := (hf _ _ (by simp)).trans (by simp)
    clear hc hf
    have hb := below_step (below_step (balloc _ _) (balloc _ _)) hb1
    go_wp2_with fail
    exact bodyPost_ret (v := .agg #[.int .i64 5, .int .i64 0, .int .i64 (16 + y), .int .i64 r]) (by simp [results, Tryd.results35, go_sem, k0, k1, k2, k3]) rfl ⟨rfl, below_put4 hb (Nat.le_succ _) _ _ _ _⟩
  · go_enter Tryd.func35, Tryd.ntmps35
    go_wp2_with fail
    refine (which_any _ _ _ (by omega) (by omega) (by omega) (by omega)).mono ?_
    rintro e w' ⟨rfl, rfl⟩
    go_wp2_with fail
    refine (work_any _ _ _).mono ?_
    rintro e w1 ⟨rfl, hb1⟩
    obtain ⟨hc, hf⟩ := mcell hb1
    have k0 : w1.cell? ⟨w.heap.size + 1, 0, none⟩ = some (.int .i64 0) := (hc _ _ (by simp)).trans (by simp)
    have k1 : w1.cell? ⟨w.heap.size + 1, 1, none⟩ = some (.int .i64 0) := (hc _ _ (by simp)).trans (by simp)
    have k2 : w1.cell? ⟨w.heap.size + 1, 2, none⟩ = some (.int .i64 0) := (hc _ _ (by simp)).trans (by simp)
    have k3 : w1.cell? ⟨w.heap.size + 1, 3, none⟩ = some (.int .i64 0) := (hc _ _ (by simp)).trans (by simp)
    have f0 : w1.frozen? ⟨w.heap.size + 1, 0, none⟩ = false := (hf _ _ (by simp)).trans (by simp)
    have f1 : w1.frozen? ⟨w.heap.size + 1, 1, none⟩ = false := (hf _ _ (by simp)).trans (by simp)
    have f2 : w1.frozen? ⟨w.heap.size + 1, 2, none⟩ = false := (hf _ _ (by simp)).trans (by simp)
    have f3 : w1.frozen? ⟨w.heap.size + 1, 3, none⟩ = false := (hf _ _ (by simp)).trans (by simp)
    clear hc hf
    have hb := below_step (below_step (balloc _ _) (balloc _ _)) hb1
    go_wp2_with fail
    exact bodyPost_ret (v := .agg #[.int .i64 5, .int .i64 0, .int .i64 (24 + y), .int .i64 r]) (by simp [results, Tryd.results35, go_sem, k0, k1, k2, k3]) rfl ⟨rfl, below_put4 hb (Nat.le_succ _) _ _ _ _⟩
  · go_enter Tryd.func35, Tryd.ntmps35
    go_wp2_with fail
    refine (which_any _ _ _ (by omega) (by omega) (by omega) (by omega)).mono ?_
    rintro e w' ⟨rfl, rfl⟩
    go_wp2_with fail
    refine (work_any _ _ _).mono ?_
    rintro e w1 ⟨rfl, hb1⟩
    obtain ⟨hc, hf⟩ := mcell hb1
    have k0 : w1.cell? ⟨w.heap.size + 1, 0, none⟩ = some (.int .i64 0) := (hc _ _ (by simp)).trans (by simp)
    have k1 : w1.cell? ⟨w.heap.size + 1, 1, none⟩ = some (.int .i64 0) := (hc _ _ (by simp)).trans (by simp)
    have k2 : w1.cell? ⟨w.heap.size + 1, 2, none⟩ = some (.int .i64 0) := (hc _ _ (by simp)).trans (by simp)
    have k3 : w1.cell? ⟨w.heap.size + 1, 3, none⟩ = some (.int .i64 0) := (hc _ _ (by simp)).trans (by simp)
    have f0 : w1.frozen? ⟨w.heap.size + 1, 0, none⟩ = false := (hf _ _ (by simp)).trans (by simp)
    have f1 : w1.frozen? ⟨w.heap.size + 1, 1, none⟩ = false := (hf _ _ (by simp)).trans (by simp)
    have f2 : w1.frozen? ⟨w.heap.size + 1, 2, none⟩ = false := (hf _ _ (by simp)).trans (by simp)
    have f3 : w1.frozen? ⟨w.heap.size + 1, 3, none⟩ = false := (hf _ _ (by simp)).trans (by simp)
    clear hc hf
    have hb := below_step (below_step (balloc _ _) (balloc _ _)) hb1
    go_wp2_with fail
    exact bodyPost_ret (v := .agg #[.int .i64 5, .int .i64 0, .int .i64 (32 + y), .int .i64 r]) (by simp [results, Tryd.results35, go_sem, k0, k1, k2, k3]) rfl ⟨rfl, below_put4 hb (Nat.le_succ _) _ _ _ _⟩

end Go.Proofs.YthmkfojjlcinkaaDoor
