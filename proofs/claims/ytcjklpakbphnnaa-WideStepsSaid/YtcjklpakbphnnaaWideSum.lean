/- The contracts of layer 3's sums. -/
import Derived.Test.YtcjklpakbphnnaaWideWalk
namespace Go.Proofs.Ytcjklpakbphnnaa
open Go.RowKit

theorem bcell {W w1 : World} (hb : Below W.heap.size W w1) : (∀ b o, b < W.heap.size → w1.cell? ⟨b, o, none⟩ = W.cell? ⟨b, o, none⟩) ∧ (∀ b o, b < W.heap.size → w1.frozen? ⟨b, o, none⟩ = W.frozen? ⟨b, o, none⟩) :=
  ⟨fun b o h => hb.cell (p := ⟨b, o, none⟩) h, fun b o h => hb.frozen (p := ⟨b, o, none⟩) h⟩

theorem below_boxed {w w1 : World} {o : Obj} (hb : Below (w.alloc o).heap.size (w.alloc o) w1) : Below w.heap.size w w1 :=
  ((Below.refl _ _).alloc (Nat.le_refl _) _).trans (hb.mono (by simp))
theorem below_put8 {w w1 : World} (hb : Below w.heap.size w w1) (hz : w.heap.size < w1.heap.size) (v0 v1 v2 v3 v4 v5 v6 v7 : Value) (o : Obj) :
    Below w.heap.size w (((((((((w1.setCell ⟨w.heap.size, 0, none⟩ v0).setCell ⟨w.heap.size, 1, none⟩ v1).setCell ⟨w.heap.size, 2, none⟩ v2).setCell ⟨w.heap.size, 3, none⟩ v3).setCell ⟨w.heap.size, 4, none⟩ v4).setCell ⟨w.heap.size, 5, none⟩ v5).setCell ⟨w.heap.size, 6, none⟩ v6).setCell ⟨w.heap.size, 7, none⟩ v7).alloc o) :=
  ((((((((hb.setCell (Nat.le_refl _) _).setCell (Nat.le_refl _) _).setCell (Nat.le_refl _) _).setCell (Nat.le_refl _) _).setCell (Nat.le_refl _) _).setCell (Nat.le_refl _) _).setCell (Nat.le_refl _) _).setCell (Nat.le_refl _) _).alloc (by simp [World.setCell]; omega) _

set_option maxHeartbeats 800000 in
theorem sum_any (a b n : Int) (c : Bool) (w : World) (a0 : 0 ≤ a) (a1 : a ≤ 65535) (b0 : 0 ≤ b) (b1 : b ≤ 65535) (hn : cN c = n) :
    Calls Try.prog 19 #[.int .u16 a, .int .u16 b, .int .i64 n] w fun e w' => e = .returned (.tuple #[.int .u16 (wadd a b c), .agg #[.bool (bitW (wadd a b c) 15), .bool (wadd a b c == 0), .bool (bitW (wadd a b c) 13), .bool (waddH a b c), .bool (bitW (wadd a b c) 11), .bool (waddP a b c), .bool false, .bool (waddC a b c)]]) ∧ Below w.heap.size w w' := by
  subst hn
  obtain ⟨c0, c1⟩ := cN_bd c
  obtain ⟨s0, s1⟩ := sgnW_bd a a0 a1
  obtain ⟨t0, t1⟩ := sgnW_bd b b0 b1
  obtain ⟨r0, r1⟩ := wadd_bd a b c
  have ea := wrap_i16 a a0 a1
  have eb := wrap_i16 b b0 b1
  have er := wrap_add a b c
  have la := low_W a a0 a1
  have lb := low_W b b0 b1
  go_enter Try.func19, Try.ntmps19
  go_wp2_with fail
  refine (shape_any _ _ r0 r1).mono ?_
  rintro e w1 ⟨rfl, hb1⟩
  obtain ⟨hc, hf⟩ := bcell hb1
  have k0 : w1.cell? ⟨w.heap.size, 0, none⟩ = some (.bool false) := (hc _ _ (by simp)).trans (by simp)
  have k1 : w1.cell? ⟨w.heap.size, 1, none⟩ = some (.bool false) := (hc _ _ (by simp)).trans (by simp)
  have k2 : w1.cell? ⟨w.heap.size, 2, none⟩ = some (.bool false) := (hc _ _ (by simp)).trans (by simp)
  have k3 : w1.cell? ⟨w.heap.size, 3, none⟩ = some (.bool false) := (hc _ _ (by simp)).trans (by simp)
  have k4 : w1.cell? ⟨w.heap.size, 4, none⟩ = some (.bool false) := (hc _ _ (by simp)).trans (by simp)
  have k5 : w1.cell? ⟨w.heap.size, 5, none⟩ = some (.bool false) := (hc _ _ (by simp)).trans (by simp)
  have k6 : w1.cell? ⟨w.heap.size, 6, none⟩ = some (.bool false) := (hc _ _ (by simp)).trans (by simp)
  have k7 : w1.cell? ⟨w.heap.size, 7, none⟩ = some (.bool false) := (hc _ _ (by simp)).trans (by simp)
  have f0 : w1.frozen? ⟨w.heap.size, 0, none⟩ = false := (hf _ _ (by simp)).trans (by simp)
  have f1 : w1.frozen? ⟨w.heap.size, 1, none⟩ = false := (hf _ _ (by simp)).trans (by simp)
  have f2 : w1.frozen? ⟨w.heap.size, 2, none⟩ = false := (hf _ _ (by simp)).trans (by simp)
  have f3 : w1.frozen? ⟨w.heap.size, 3, none⟩ = false := (hf _ _ (by simp)).trans (by simp)
  have f4 : w1.frozen? ⟨w.heap.size, 4, none⟩ = false := (hf _ _ (by simp)).trans (by simp)
  have f5 : w1.frozen? ⟨w.heap.size, 5, none⟩ = false := (hf _ _ (by simp)).trans (by simp)
  have f6 : w1.frozen? ⟨w.heap.size, 6, none⟩ = false := (hf _ _ (by simp)).trans (by simp)
  have f7 : w1.frozen? ⟨w.heap.size, 7, none⟩ = false := (hf _ _ (by simp)).trans (by simp)
  clear hc hf
  have hz : w.heap.size < w1.heap.size := by have := hb1.size; simp at this; omega
  go_wp2_with fail
  refine (outW_any _ _).mono ?_
  rintro e w' ⟨rfl, rfl⟩
  go_wp2_with fail
  go_region
  go_wp2_with fail
  have hb := below_boxed hb1
  exact bodyPost_ret (v := .tuple #[.int .u16 (wadd a b c), .agg #[.bool (bitW (wadd a b c) 15), .bool (wadd a b c == 0), .bool (bitW (wadd a b c) 13), .bool (decide (4095 < a % 4096 + b % 4096 + cN c)), .bool (bitW (wadd a b c) 11), .bool (outW (sgnW a + sgnW b + cN c)), .bool false, .bool (decide (65535 < a + b + cN c))]])
    (by simp [results, Try.results19, go_sem, hz, k0, k1, k2, k3, k4, k5, k6, k7]) rfl ⟨rfl, (below_put8 hb hz _ _ _ _ _ _ _ _ _).drew⟩

set_option maxHeartbeats 800000 in
theorem rest_any (a b n : Int) (c : Bool) (w : World) (a0 : 0 ≤ a) (a1 : a ≤ 65535) (b0 : 0 ≤ b) (b1 : b ≤ 65535) (hn : cN c = n) :
    Calls Try.prog 23 #[.int .u16 a, .int .u16 b, .int .i64 n] w fun e w' => e = .returned (.tuple #[.int .u16 (wsub a b c), .agg #[.bool (bitW (wsub a b c) 15), .bool (wsub a b c == 0), .bool (bitW (wsub a b c) 13), .bool (wsubH a b c), .bool (bitW (wsub a b c) 11), .bool (wsubP a b c), .bool true, .bool (wsubC a b c)]]) ∧ Below w.heap.size w w' := by
  subst hn
  obtain ⟨c0, c1⟩ := cN_bd c
  obtain ⟨s0, s1⟩ := sgnW_bd a a0 a1
  obtain ⟨t0, t1⟩ := sgnW_bd b b0 b1
  obtain ⟨r0, r1⟩ := wsub_bd a b c
  have ea := wrap_i16 a a0 a1
  have eb := wrap_i16 b b0 b1
  have er := wrap_sub a b c
  have la := low_W a a0 a1
  have lb := low_W b b0 b1
  go_enter Try.func23, Try.ntmps23
  go_wp2_with fail
  refine (shape_any _ _ r0 r1).mono ?_
  rintro e w1 ⟨rfl, hb1⟩
  obtain ⟨hc, hf⟩ := bcell hb1
  have k0 : w1.cell? ⟨w.heap.size, 0, none⟩ = some (.bool false) := (hc _ _ (by simp)).trans (by simp)
  have k1 : w1.cell? ⟨w.heap.size, 1, none⟩ = some (.bool false) := (hc _ _ (by simp)).trans (by simp)
  have k2 : w1.cell? ⟨w.heap.size, 2, none⟩ = some (.bool false) := (hc _ _ (by simp)).trans (by simp)
  have k3 : w1.cell? ⟨w.heap.size, 3, none⟩ = some (.bool false) := (hc _ _ (by simp)).trans (by simp)
  have k4 : w1.cell? ⟨w.heap.size, 4, none⟩ = some (.bool false) := (hc _ _ (by simp)).trans (by simp)
  have k5 : w1.cell? ⟨w.heap.size, 5, none⟩ = some (.bool false) := (hc _ _ (by simp)).trans (by simp)
  have k6 : w1.cell? ⟨w.heap.size, 6, none⟩ = some (.bool false) := (hc _ _ (by simp)).trans (by simp)
  have k7 : w1.cell? ⟨w.heap.size, 7, none⟩ = some (.bool false) := (hc _ _ (by simp)).trans (by simp)
  have f0 : w1.frozen? ⟨w.heap.size, 0, none⟩ = false := (hf _ _ (by simp)).trans (by simp)
  have f1 : w1.frozen? ⟨w.heap.size, 1, none⟩ = false := (hf _ _ (by simp)).trans (by simp)
  have f2 : w1.frozen? ⟨w.heap.size, 2, none⟩ = false := (hf _ _ (by simp)).trans (by simp)
  have f3 : w1.frozen? ⟨w.heap.size, 3, none⟩ = false := (hf _ _ (by simp)).trans (by simp)
  have f4 : w1.frozen? ⟨w.heap.size, 4, none⟩ = false := (hf _ _ (by simp)).trans (by simp)
  have f5 : w1.frozen? ⟨w.heap.size, 5, none⟩ = false := (hf _ _ (by simp)).trans (by simp)
  have f6 : w1.frozen? ⟨w.heap.size, 6, none⟩ = false := (hf _ _ (by simp)).trans (by simp)
  have f7 : w1.frozen? ⟨w.heap.size, 7, none⟩ = false := (hf _ _ (by simp)).trans (by simp)
  clear hc hf
  have hz : w.heap.size < w1.heap.size := by have := hb1.size; simp at this; omega
  go_wp2_with fail
  refine (outW_any _ _).mono ?_
  rintro e w' ⟨rfl, rfl⟩
  go_wp2_with fail
  go_region
  go_wp2_with fail
  have hb := below_boxed hb1
  exact bodyPost_ret (v := .tuple #[.int .u16 (wsub a b c), .agg #[.bool (bitW (wsub a b c) 15), .bool (wsub a b c == 0), .bool (bitW (wsub a b c) 13), .bool (decide (a % 4096 - b % 4096 - cN c < 0)), .bool (bitW (wsub a b c) 11), .bool (outW (sgnW a - sgnW b - cN c)), .bool true, .bool (decide (a - b - cN c < 0))]])
    (by simp [results, Try.results23, go_sem, hz, k0, k1, k2, k3, k4, k5, k6, k7]) rfl ⟨rfl, (below_put8 hb hz _ _ _ _ _ _ _ _ _).drew⟩

end Go.Proofs.Ytcjklpakbphnnaa
