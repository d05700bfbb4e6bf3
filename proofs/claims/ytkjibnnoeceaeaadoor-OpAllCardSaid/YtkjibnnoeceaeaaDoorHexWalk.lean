/- The library's FormatUint at the base 16, for numbers below 65,536. -/
import Derived.Test.YtkjibnnoeceaeaaDoorHexMath
import Derived.Test.YtkjibnnoeceaeaaDoorKit
import Derived.Test.YtkjibnnoeceaeaaDoorChecked
import Derived.LoopN
import Derived.LoopTactic
import Derived.Lib.Hide
import Derived.Laws.IdiomStrings
import Derived.Deep.MidRow
namespace Go.Proofs.YtkjibnnoeceaeaaDoor
open Go.RowKit

/-- The one cell of the library's table that is read. -/
def Tab (w : World) : Prop := w.cell? ⟨12, 15, none⟩ = some (.int .u8 4) ∧ 12 < w.heap.size
theorem Tab.below {w w' : World} (h : Tab w) (hb : Below w.heap.size w w') : Tab w' := ⟨(hb.cell (p := ⟨12, 15, none⟩) h.2).trans h.1, Nat.lt_of_lt_of_le h.2 hb.size⟩

set_option maxHeartbeats 400000 in
theorem tz64 (w : World) (h : Tab w) : Calls Tryd.prog 96 #[.int .u64 16] w fun e w' => e = .returned (.int .i64 4) ∧ w = w' := by
  have hc := h.1
  clear h
  have e : IntKind.u64.wrap (bits .and .u64 16 (IntKind.u64.wrap (-16)) * 285870213051353865) / 288230376151711744 = 15 := by decide +kernel
  go_enter Tryd.func96, Tryd.ntmps96
  go_wp2_with fail
  go_ret
  exact ⟨rfl, rfl⟩
set_option maxHeartbeats 400000 in
theorem tz16 (w : World) (h : Tab w) : Calls Tryd.prog 89 #[.int .u64 16] w fun e w' => e = .returned (.int .i64 4) ∧ w = w' := by
  have H := Lib.hid h
  clear h
  go_enter Tryd.func89, Tryd.ntmps89
  go_wp2_with fail
  refine (tz64 _ H.out).mono ?_
  rintro e w' ⟨rfl, rfl⟩
  go_wp2_with fail
  go_ret
  exact ⟨rfl, rfl⟩
set_option maxHeartbeats 400000 in
theorem pow2 (w : World) : Calls Tryd.prog 88 #[.int .i64 16] w fun e w' => e = .returned (.bool true) ∧ w = w' := by
  go_enter Tryd.func88, Tryd.ntmps88
  go_wp2_with fail
  go_ret
  exact ⟨rfl, rfl⟩


set_option maxRecDepth 100000 in
theorem dig_at (d : Nat) (h : d < 16) (w : World) : (Instr.index 9 (.string ⟨#[48, 49, 50, 51, 52, 53, 54, 55, 56, 57, 97, 98, 99, 100, 101, 102, 103, 104, 105, 106, 107, 108, 109, 110, 111, 112, 113, 114, 115, 116, 117, 118, 119, 120, 121, 122]⟩) (.int .u64 (d : Int))).run Tryd.prog w = .ok (.int .u8 ((hexD d).toNat : Int)) w := by
  have e : d = 0 ∨ d = 1 ∨ d = 2 ∨ d = 3 ∨ d = 4 ∨ d = 5 ∨ d = 6 ∨ d = 7 ∨ d = 8 ∨ d = 9 ∨ d = 10 ∨ d = 11 ∨ d = 12 ∨ d = 13 ∨ d = 14 ∨ d = 15 := by omega
  clear h
  rcases e with rfl | rfl | rfl | rfl | rfl | rfl | rfl | rfl | rfl | rfl | rfl | rfl | rfl | rfl | rfl | rfl
  all_goals rfl
theorem and15 (n : Nat) (h : n < 65536) : bits .and .u64 (n : Int) 15 = ((n % 16 : Nat) : Int) := by
  have h' : n &&& 15 = n % 16 := Nat.and_two_pow_sub_one_eq_mod n 4
  show IntKind.u64.wrap ((BitVec.ofInt 64 (n : Int) &&& BitVec.ofInt 64 15).toNat : Int) = _
  rw [BitVec.toNat_and, BitVec.ofInt_natCast, BitVec.toNat_ofNat, Nat.mod_eq_of_lt (by omega : n < 2 ^ 64), show (BitVec.ofInt 64 15).toNat = 15 from by decide, h']
  simp [IntKind.wrap, IntKind.bits, IntKind.signed]
  omega
theorem zeros_size : Tryd.zeroCells108.size = 65 := by kernel_rfl
abbrev hexV (d : Nat) : Value := .int .u8 ((hexD d).toNat : Int)

set_option maxRecDepth 100000 in
theorem conv1 (d0 : Nat) (w : World) : (convert 22 9 (.slice (some ⟨w.heap.size, 64, none⟩) 1 1)).run Tryd.prog (w.alloc (.cells (Tryd.zeroCells108.setIfInBounds 64 (hexV d0)) 108)) = .ok (.string ⟨([hexD d0] : List UInt8).toArray⟩) (w.alloc (.cells (Tryd.zeroCells108.setIfInBounds 64 (hexV d0)) 108)) := by
  have hz := zeros_size
  refine run_convert_bytes_back (P := Tryd.prog) _ _ _ _ ⟨w.heap.size, 64, none⟩ 1 [hexD d0] Tryd.underlying22 Tryd.underlying5 Tryd.underlying9 (fun j hj => ?_)
  have hh : (w.alloc (.cells (Tryd.zeroCells108.setIfInBounds 64 (hexV d0)) 108)).heap[w.heap.size]? = some (.cells (Tryd.zeroCells108.setIfInBounds 64 (hexV d0)) 108 (0, 0)) := heap_alloc_new _ _
  rw [Addr.add_mid]
  simp only [World.cell?, hh]
  have e : j = 0 := by simp at hj; omega
  rcases e with rfl
  all_goals simp [hexV, hz]
set_option maxRecDepth 100000 in
set_option maxHeartbeats 1600000 in
theorem fbits1 (n  d0 : Nat) (w : World) (h : Tab w) (h0 : d0 < 16) (hn : n = d0) : Calls Tryd.prog 77 #[.slice none 0 0, .int .u64 n, .int .i64 16, .bool false, .bool false] w fun e w' => e = .returned (.tuple #[.slice none 0 0, .string ⟨([hexD d0] : List UInt8).toArray⟩]) ∧ Below w.heap.size w w' := by
  have H := Lib.hid (fun o => h.below (w' := w.alloc o) ((Below.refl _ _).alloc (Nat.le_refl _) _))
  subst hn
  have l0 : (n : Int) < 16 := by omega
  have i0 := dig_at n h0
  have hcv := conv1 n w
  clear h
  go_enter Tryd.func77, Tryd.ntmps77
  go_wp2_with fail
  refine (pow2 _).mono ?_
  rintro e w' ⟨rfl, rfl⟩
  go_wp2_with fail
  refine (tz16 _ (H.out _)).mono ?_
  rintro e w' ⟨rfl, rfl⟩
  go_wp2_with fail
  refine wp_loop_rounds 1 ?_
  rw [rounds_succ]
  go_wp2_with fail
  go_ret2
  exact ⟨rfl, (Below.refl _ _).alloc (Nat.le_refl _) _⟩

set_option maxRecDepth 100000 in
theorem conv2 (d0 d1 : Nat) (w : World) : (convert 22 9 (.slice (some ⟨w.heap.size, 63, none⟩) 2 2)).run Tryd.prog (w.alloc (.cells ((Tryd.zeroCells108.setIfInBounds 64 (hexV d0)).setIfInBounds 63 (hexV d1)) 108)) = .ok (.string ⟨([hexD d1, hexD d0] : List UInt8).toArray⟩) (w.alloc (.cells ((Tryd.zeroCells108.setIfInBounds 64 (hexV d0)).setIfInBounds 63 (hexV d1)) 108)) := by
  have hz := zeros_size
  refine run_convert_bytes_back (P := Tryd.prog) _ _ _ _ ⟨w.heap.size, 63, none⟩ 2 [hexD d1, hexD d0] Tryd.underlying22 Tryd.underlying5 Tryd.underlying9 (fun j hj => ?_)
  have hh : (w.alloc (.cells ((Tryd.zeroCells108.setIfInBounds 64 (hexV d0)).setIfInBounds 63 (hexV d1)) 108)).heap[w.heap.size]? = some (.cells ((Tryd.zeroCells108.setIfInBounds 64 (hexV d0)).setIfInBounds 63 (hexV d1)) 108 (0, 0)) := heap_alloc_new _ _
  rw [Addr.add_mid]
  simp only [World.cell?, hh]
  have e : j = 0 ∨ j = 1 := by simp at hj; omega
  rcases e with rfl | rfl
  all_goals simp [hexV, hz]
set_option maxRecDepth 100000 in
set_option maxHeartbeats 1600000 in
theorem fbits2 (n  d0 d1 : Nat) (w : World) (h : Tab w) (h0 : d0 < 16) (h1 : d1 < 16) (hp : 0 < d1) (e0 : n = 16 * d1 + d0) : Calls Tryd.prog 77 #[.slice none 0 0, .int .u64 n, .int .i64 16, .bool false, .bool false] w fun e w' => e = .returned (.tuple #[.slice none 0 0, .string ⟨([hexD d1, hexD d0] : List UInt8).toArray⟩]) ∧ Below w.heap.size w w' := by
  have H := Lib.hid (fun o => h.below (w' := w.alloc o) ((Below.refl _ _).alloc (Nat.le_refl _) _))
  have a0 := and15 n (by omega)
  rw [show n % 16 = d0 by omega] at a0
  have q0 : ((n : Int)) / 16 = (d1 : Int) := by omega
  have g0 : (16 : Int) ≤ n := by omega
  have u0 : (n : Int) ≤ 65535 := by omega
  have i0 := dig_at d0 h0
  have i1 := dig_at d1 h1
  have l : (d1 : Int) < 16 := by omega
  have hcv := conv2 d0 d1 w
  clear h hp e0
  go_enter Tryd.func77, Tryd.ntmps77
  go_wp2_with fail
  refine (pow2 _).mono ?_
  rintro e w' ⟨rfl, rfl⟩
  go_wp2_with fail
  refine (tz16 _ (H.out _)).mono ?_
  rintro e w' ⟨rfl, rfl⟩
  go_wp2_with fail
  refine wp_loop_rounds 2 ?_
  rw [rounds_succ]
  go_wp2_with fail
  rw [rounds_succ]
  go_wp2_with fail
  go_ret2
  exact ⟨rfl, (Below.refl _ _).alloc (Nat.le_refl _) _⟩

set_option maxRecDepth 100000 in
theorem conv3 (d0 d1 d2 : Nat) (w : World) : (convert 22 9 (.slice (some ⟨w.heap.size, 62, none⟩) 3 3)).run Tryd.prog (w.alloc (.cells (((Tryd.zeroCells108.setIfInBounds 64 (hexV d0)).setIfInBounds 63 (hexV d1)).setIfInBounds 62 (hexV d2)) 108)) = .ok (.string ⟨([hexD d2, hexD d1, hexD d0] : List UInt8).toArray⟩) (w.alloc (.cells (((Tryd.zeroCells108.setIfInBounds 64 (hexV d0)).setIfInBounds 63 (hexV d1)).setIfInBounds 62 (hexV d2)) 108)) := by
  have hz := zeros_size
  refine run_convert_bytes_back (P := Tryd.prog) _ _ _ _ ⟨w.heap.size, 62, none⟩ 3 [hexD d2, hexD d1, hexD d0] Tryd.underlying22 Tryd.underlying5 Tryd.underlying9 (fun j hj => ?_)
  have hh : (w.alloc (.cells (((Tryd.zeroCells108.setIfInBounds 64 (hexV d0)).setIfInBounds 63 (hexV d1)).setIfInBounds 62 (hexV d2)) 108)).heap[w.heap.size]? = some (.cells (((Tryd.zeroCells108.setIfInBounds 64 (hexV d0)).setIfInBounds 63 (hexV d1)).setIfInBounds 62 (hexV d2)) 108 (0, 0)) := heap_alloc_new _ _
  rw [Addr.add_mid]
  simp only [World.cell?, hh]
  have e : j = 0 ∨ j = 1 ∨ j = 2 := by simp at hj; omega
  rcases e with rfl | rfl | rfl
  all_goals simp [hexV, hz]
set_option maxRecDepth 100000 in
set_option maxHeartbeats 1600000 in
theorem fbits3 (n m1 d0 d1 d2 : Nat) (w : World) (h : Tab w) (h0 : d0 < 16) (h1 : d1 < 16) (h2 : d2 < 16) (hp : 0 < d2) (e0 : n = 16 * m1 + d0) (e1 : m1 = 16 * d2 + d1) : Calls Tryd.prog 77 #[.slice none 0 0, .int .u64 n, .int .i64 16, .bool false, .bool false] w fun e w' => e = .returned (.tuple #[.slice none 0 0, .string ⟨([hexD d2, hexD d1, hexD d0] : List UInt8).toArray⟩]) ∧ Below w.heap.size w w' := by
  have H := Lib.hid (fun o => h.below (w' := w.alloc o) ((Below.refl _ _).alloc (Nat.le_refl _) _))
  have a0 := and15 n (by omega)
  rw [show n % 16 = d0 by omega] at a0
  have q0 : ((n : Int)) / 16 = (m1 : Int) := by omega
  have g0 : (16 : Int) ≤ n := by omega
  have u0 : (n : Int) ≤ 65535 := by omega
  have a1 := and15 m1 (by omega)
  rw [show m1 % 16 = d1 by omega] at a1
  have q1 : ((m1 : Int)) / 16 = (d2 : Int) := by omega
  have g1 : (16 : Int) ≤ m1 := by omega
  have u1 : (m1 : Int) ≤ 65535 := by omega
  have i0 := dig_at d0 h0
  have i1 := dig_at d1 h1
  have i2 := dig_at d2 h2
  have l : (d2 : Int) < 16 := by omega
  have hcv := conv3 d0 d1 d2 w
  clear h hp e0 e1
  go_enter Tryd.func77, Tryd.ntmps77
  go_wp2_with fail
  refine (pow2 _).mono ?_
  rintro e w' ⟨rfl, rfl⟩
  go_wp2_with fail
  refine (tz16 _ (H.out _)).mono ?_
  rintro e w' ⟨rfl, rfl⟩
  go_wp2_with fail
  refine wp_loop_rounds 3 ?_
  rw [rounds_succ]
  go_wp2_with fail
  rw [rounds_succ]
  go_wp2_with fail
  rw [rounds_succ]
  go_wp2_with fail
  go_ret2
  exact ⟨rfl, (Below.refl _ _).alloc (Nat.le_refl _) _⟩

set_option maxRecDepth 100000 in
theorem conv4 (d0 d1 d2 d3 : Nat) (w : World) : (convert 22 9 (.slice (some ⟨w.heap.size, 61, none⟩) 4 4)).run Tryd.prog (w.alloc (.cells ((((Tryd.zeroCells108.setIfInBounds 64 (hexV d0)).setIfInBounds 63 (hexV d1)).setIfInBounds 62 (hexV d2)).setIfInBounds 61 (hexV d3)) 108)) = .ok (.string ⟨([hexD d3, hexD d2, hexD d1, hexD d0] : List UInt8).toArray⟩) (w.alloc (.cells ((((Tryd.zeroCells108.setIfInBounds 64 (hexV d0)).setIfInBounds 63 (hexV d1)).setIfInBounds 62 (hexV d2)).setIfInBounds 61 (hexV d3)) 108)) := by
  have hz := zeros_size
  refine run_convert_bytes_back (P := Tryd.prog) _ _ _ _ ⟨w.heap.size, 61, none⟩ 4 [hexD d3, hexD d2, hexD d1, hexD d0] Tryd.underlying22 Tryd.underlying5 Tryd.underlying9 (fun j hj => ?_)
  have hh : (w.alloc (.cells ((((Tryd.zeroCells108.setIfInBounds 64 (hexV d0)).setIfInBounds 63 (hexV d1)).setIfInBounds 62 (hexV d2)).setIfInBounds 61 (hexV d3)) 108)).heap[w.heap.size]? = some (.cells ((((Tryd.zeroCells108.setIfInBounds 64 (hexV d0)).setIfInBounds 63 (hexV d1)).setIfInBounds 62 (hexV d2)).setIfInBounds 61 (hexV d3)) 108 (0, 0)) := heap_alloc_new _ _
  rw [Addr.add_mid]
  simp only [World.cell?, hh]
  have e : j = 0 ∨ j = 1 ∨ j = 2 ∨ j = 3 := by simp at hj; omega
  rcases e with rfl | rfl | rfl | rfl
  all_goals simp [hexV, hz]
set_option maxRecDepth 100000 in
set_option maxHeartbeats 1600000 in
theorem fbits4 (n m1 m2 d0 d1 d2 d3 : Nat) (w : World) (h : Tab w) (h0 : d0 < 16) (h1 : d1 < 16) (h2 : d2 < 16) (h3 : d3 < 16) (hp : 0 < d3) (e0 : n = 16 * m1 + d0) (e1 : m1 = 16 * m2 + d1) (e2 : m2 = 16 * d3 + d2) : Calls Tryd.prog 77 #[.slice none 0 0, .int .u64 n, .int .i64 16, .bool false, .bool false] w fun e w' => e = .returned (.tuple #[.slice none 0 0, .string ⟨([hexD d3, hexD d2, hexD d1, hexD d0] : List UInt8).toArray⟩]) ∧ Below w.heap.size w w' := by
  have H := Lib.hid (fun o => h.below (w' := w.alloc o) ((Below.refl _ _).alloc (Nat.le_refl _) _))
  have a0 := and15 n (by omega)
  rw [show n % 16 = d0 by omega] at a0
  have q0 : ((n : Int)) / 16 = (m1 : Int) := by omega
  have g0 : (16 : Int) ≤ n := by omega
  have u0 : (n : Int) ≤ 65535 := by omega
  have a1 := and15 m1 (by omega)
  rw [show m1 % 16 = d1 by omega] at a1
  have q1 : ((m1 : Int)) / 16 = (m2 : Int) := by omega
  have g1 : (16 : Int) ≤ m1 := by omega
  have u1 : (m1 : Int) ≤ 65535 := by omega
  have a2 := and15 m2 (by omega)
  rw [show m2 % 16 = d2 by omega] at a2
  have q2 : ((m2 : Int)) / 16 = (d3 : Int) := by omega
  have g2 : (16 : Int) ≤ m2 := by omega
  have u2 : (m2 : Int) ≤ 65535 := by omega
  have i0 := dig_at d0 h0
  have i1 := dig_at d1 h1
  have i2 := dig_at d2 h2
  have i3 := dig_at d3 h3
  have l : (d3 : Int) < 16 := by omega
  have hcv := conv4 d0 d1 d2 d3 w
  clear h hp e0 e1 e2
  go_enter Tryd.func77, Tryd.ntmps77
  go_wp2_with fail
  refine (pow2 _).mono ?_
  rintro e w' ⟨rfl, rfl⟩
  go_wp2_with fail
  refine (tz16 _ (H.out _)).mono ?_
  rintro e w' ⟨rfl, rfl⟩
  go_wp2_with fail
  refine wp_loop_rounds 4 ?_
  rw [rounds_succ]
  go_wp2_with fail
  rw [rounds_succ]
  go_wp2_with fail
  rw [rounds_succ]
  go_wp2_with fail
  rw [rounds_succ]
  go_wp2_with fail
  go_ret2
  exact ⟨rfl, (Below.refl _ _).alloc (Nat.le_refl _) _⟩

end Go.Proofs.YtkjibnnoeceaeaaDoor
