/- The calls of a board that read and write its cells: their contracts. -/
import Derived.Test.YtkcfacbnbjkheaaDoorBoardKeys
namespace Go.Proofs.YtkcfacbnbjkheaaDoor
open Go.RowKit
set_option maxRecDepth 100000

theorem BAt.c_slow {w : World} {b base : Nat} {s : St} {va ve : Value} (h : BAt w b base s va ve) : w.cell? ⟨b, 65544, none⟩ = some (.bool s.slow) := h.cells.cell 65544 (by decide)
theorem BAt.c_ear {w : World} {b base : Nat} {s : St} {va ve : Value} (h : BAt w b base s va ve) : w.cell? ⟨b, 65545, none⟩ = some (.bool s.ear) := h.cells.cell 65545 (by decide)
theorem BAt.c_log {w : World} {b base : Nat} {s : St} {va ve : Value} (h : BAt w b base s va ve) : w.cell? ⟨b, 65546, none⟩ = some (.bool s.log) := h.cells.cell 65546 (by decide)
theorem BAt.c_t {w : World} {b base : Nat} {s : St} {va ve : Value} (h : BAt w b base s va ve) : w.cell? ⟨b, 65547, none⟩ = some (.int .u64 s.t) := h.cells.cell 65547 (by decide)
theorem BAt.c_frame {w : World} {b base : Nat} {s : St} {va ve : Value} (h : BAt w b base s va ve) : w.cell? ⟨b, 65548, none⟩ = some (.int .i64 s.frame) := h.cells.cell 65548 (by decide)
theorem BAt.c_border {w : World} {b base : Nat} {s : St} {va ve : Value} (h : BAt w b base s va ve) : w.cell? ⟨b, 65549, none⟩ = some (.int .u8 s.border) := h.cells.cell 65549 (by decide)
theorem BAt.c_mic {w : World} {b base : Nat} {s : St} {va ve : Value} (h : BAt w b base s va ve) : w.cell? ⟨b, 65550, none⟩ = some (.bool s.mic) := h.cells.cell 65550 (by decide)
theorem BAt.c_spk {w : World} {b base : Nat} {s : St} {va ve : Value} (h : BAt w b base s va ve) : w.cell? ⟨b, 65551, none⟩ = some (.bool s.spk) := h.cells.cell 65551 (by decide)
theorem BAt.c_va {w : World} {b base : Nat} {s : St} {va ve : Value} (h : BAt w b base s va ve) : w.cell? ⟨b, 77840, none⟩ = some va := h.cells.cell 77840 (by decide)
theorem BAt.c_ve {w : World} {b base : Nat} {s : St} {va ve : Value} (h : BAt w b base s va ve) : w.cell? ⟨b, 77841, none⟩ = some ve := h.cells.cell 77841 (by decide)
theorem BAt.c_M {w : World} {b base : Nat} {s : St} {va ve : Value} (h : BAt w b base s va ve) (a : Nat) (ha : a < 65536) : w.cell? ⟨b, a, none⟩ = some (.int .u8 (s.M a)) := by rw [h.cells.cell a (by omega), bC_M _ _ _ _ ha]
theorem BAt.c_pic {w : World} {b base : Nat} {s : St} {va ve : Value} (h : BAt w b base s va ve) (p : Nat) (hp : p < 12288) : w.cell? ⟨b, 65552 + p, none⟩ = some (.int .u8 (s.pic p)) := by rw [h.cells.cell _ (by omega), bC_pic _ _ _ _ hp]
theorem BAt.fr {w : World} {b base : Nat} {s : St} {va ve : Value} (h : BAt w b base s va ve) (j : Nat) : w.frozen? ⟨b, j, none⟩ = false := h.cells.frozen j

theorem t_any (b base : Nat) (s : St) (va ve : Value) (w : World) (hB : BAt w b base s va ve) : Calls Tryd.prog 19 #[.pointer (some ⟨b, 0, none⟩)] w fun e w' => e = .returned (.int .u64 s.t) ∧ w = w' := by
  have c := hB.c_t
  clear hB
  go_enter Tryd.func19, Tryd.ntmps19
  go_wp2_with fail
  go_ret
  exact ⟨rfl, rfl⟩
theorem border_any (b base : Nat) (s : St) (va ve : Value) (w : World) (hB : BAt w b base s va ve) : Calls Tryd.prog 21 #[.pointer (some ⟨b, 0, none⟩)] w fun e w' => e = .returned (.int .u8 s.border) ∧ w = w' := by
  have c := hB.c_border
  clear hB
  go_enter Tryd.func21, Tryd.ntmps21
  go_wp2_with fail
  go_ret
  exact ⟨rfl, rfl⟩
theorem mic_any (b base : Nat) (s : St) (va ve : Value) (w : World) (hB : BAt w b base s va ve) : Calls Tryd.prog 22 #[.pointer (some ⟨b, 0, none⟩)] w fun e w' => e = .returned (.bool s.mic) ∧ w = w' := by
  have c := hB.c_mic
  clear hB
  go_enter Tryd.func22, Tryd.ntmps22
  go_wp2_with fail
  go_ret
  exact ⟨rfl, rfl⟩
theorem spk_any (b base : Nat) (s : St) (va ve : Value) (w : World) (hB : BAt w b base s va ve) : Calls Tryd.prog 23 #[.pointer (some ⟨b, 0, none⟩)] w fun e w' => e = .returned (.bool s.spk) ∧ w = w' := by
  have c := hB.c_spk
  clear hB
  go_enter Tryd.func23, Tryd.ntmps23
  go_wp2_with fail
  go_ret
  exact ⟨rfl, rfl⟩
theorem bread_any (b base a : Nat) (s : St) (va ve : Value) (w : World) (hB : BAt w b base s va ve) (ha : a < 65536) : Calls Tryd.prog 15 #[.pointer (some ⟨b, 0, none⟩), .int .u16 a] w fun e w' => e = .returned (.int .u8 (s.M a)) ∧ w = w' := by
  have c := hB.c_M a ha
  clear hB
  go_enter Tryd.func15, Tryd.ntmps15
  go_wp2_with fail
  go_ret
  exact ⟨rfl, rfl⟩
set_option maxRecDepth 100000 in
theorem write_any (b base a : Nat) (v : Int) (s : St) (va ve : Value) (w : World) (hB : BAt w b base s va ve) (ha : a < 65536) : Calls Tryd.prog 12 #[.pointer (some ⟨b, 0, none⟩), .int .u16 a, .int .u8 v] w fun e w' => e = .returned (.tuple #[]) ∧ Went b base (writeS s a v) va ve w w' := by
  by_cases h : a < 16384
  · have HB := Lib.hid (show Went b base (writeS s a v) va ve w w by unfold writeS; rw [if_pos h]; exact Went.refl hB)
    clear hB
    go_enter Tryd.func12, Tryd.ntmps12
    go_wp2_with fail
    refine bodyPost_ret (results_none rfl _ _ _) rfl ?_
    exact ⟨rfl, HB.out⟩
  · have HB := Lib.hid (show Went b base (writeS s a v) va ve w (w.setCell ⟨b, a, none⟩ (.int .u8 v)) by unfold writeS; rw [if_neg h]; exact Went.set hB _ _ (set_M s va ve a v ha) rfl rfl)
    have c := hB.c_M a ha
    have f := hB.fr a
    clear hB
    go_enter Tryd.func12, Tryd.ntmps12
    go_wp2_with fail
    go_end0
    exact ⟨rfl, HB.out⟩
theorem isUla_any (p : Int) (w : World) (h0 : 0 ≤ p) (h1 : p ≤ 65535) : Calls Tryd.prog 43 #[.int .u16 p] w fun e w' => e = .returned (.bool (p % 2 == 0)) ∧ w = w' := by
  go_enter Tryd.func43, Tryd.ntmps43
  go_wp2_with fail
  go_ret
  exact ⟨rfl, rfl⟩
theorem fetched_on (f : Int) (w : World) (h0 : 0 ≤ f) (h1 : f < 69888) (h : fetOn f = true) : Calls Tryd.prog 62 #[.int .i64 f] w fun e w' => e = .returned (.tuple #[.int .u16 (fetA f), .bool true]) ∧ Below w.heap.size w w' := by
  have := fetched_yes f w (by rw [frame_in h0 h1]; exact h)
  rw [frame_in h0 h1, (fetA_is h).1] at this
  exact this
theorem fetched_off (f : Int) (w : World) (h0 : 0 ≤ f) (h1 : f < 69888) (h : fetOn f = false) : Calls Tryd.prog 62 #[.int .i64 f] w fun e w' => e = .returned (.tuple #[.int .u16 0, .bool false]) ∧ Below w.heap.size w w' :=
  fetched_no f w (by rw [frame_in h0 h1]; exact h)
theorem place_on (f : Int) (w : World) (h0 : 0 ≤ f) (h1 : f < 69888) (h : fetOn f = true) : Calls Tryd.prog 46 #[.int .i64 f] w fun e w' => e = .returned (.tuple #[.int .i64 (fetP f), .bool true]) ∧ Below w.heap.size w w' := by
  have := place_yes f w (by rw [frame_in h0 h1]; exact h)
  rw [frame_in h0 h1, (fetP_is h).1] at this
  exact this
theorem place_off (f : Int) (w : World) (h0 : 0 ≤ f) (h1 : f < 69888) (h : fetOn f = false) : Calls Tryd.prog 46 #[.int .i64 f] w fun e w' => e = .returned (.tuple #[.int .i64 0, .bool false]) ∧ Below w.heap.size w w' :=
  place_no f w (by rw [frame_in h0 h1]; exact h)
set_option maxRecDepth 100000 in
theorem floating_any (b base : Nat) (s : St) (va ve : Value) (w : World) (hB : BAt w b base s va ve) (h0 : 0 ≤ s.frame) (h1 : s.frame < 69888) :
    Calls Tryd.prog 47 #[.pointer (some ⟨b, 0, none⟩)] w fun e w' => e = .returned (.int .u8 (floatV s)) ∧ Below w.heap.size w w' := by
  have c := hB.c_frame
  cases h : fetOn s.frame with
  | true =>
    have HF := Lib.hid (fun w => fetched_on s.frame w h0 h1 h)
    have HR := Lib.hid (show floatV s = s.M (fetA s.frame) by unfold floatV; rw [if_pos h])
    obtain ⟨_, _, a1⟩ := fetA_is h
    have ha : fetA s.frame < 65536 := by omega
    have HC := Lib.hid (fun w' (hb : Below w.heap.size w w') => (hB.below hb).c_M _ ha)
    clear hB h a1
    generalize fetA s.frame = a at *
    go_enter Tryd.func47, Tryd.ntmps47
    go_wp2_with fail
    refine (HF.out _).mono ?_
    rintro e w1 ⟨rfl, hb1⟩
    have c2 := HC.out _ hb1
    go_wp2_with fail
    go_ret
    exact ⟨by rw [HR.out]; rfl, hb1⟩
  | false =>
    have HF := Lib.hid (fun w => fetched_off s.frame w h0 h1 h)
    have HR := Lib.hid (show floatV s = 255 by unfold floatV; rw [h]; rfl)
    clear hB h
    go_enter Tryd.func47, Tryd.ntmps47
    go_wp2_with fail
    refine (HF.out _).mono ?_
    rintro e w1 ⟨rfl, hb1⟩
    go_wp2_with fail
    go_ret
    exact ⟨by rw [HR.out]; rfl, hb1⟩
theorem and7 (v : Int) (h0 : 0 ≤ v) (h1 : v ≤ 255) : bits .and .u8 v 7 = v % 8 := bits_mask .u8 8 (by decide) (fun n _ _ => by rw [IntKind.wrap_u8]; omega) 3 (by decide) v h0 (by omega)
theorem paint_any (b base : Nat) (v : Int) (s : St) (va ve : Value) (w : World) (hB : BAt w b base s va ve) (h0 : 0 ≤ v) (h1 : v ≤ 255) :
    Calls Tryd.prog 28 #[.pointer (some ⟨b, 0, none⟩), .int .u8 v] w fun e w' => e = .returned (.tuple #[]) ∧ BAt w' b base (paintS s v) va ve ∧ Ch (Fb b va ve) w w' := by
  have HB := Lib.hid (show BAt (w.setCell ⟨b, 65549, none⟩ (.int .u8 (v % 8))) b base (paintS s v) va ve from hB.set 65549 _ (set_border s va ve (v % 8)) rfl rfl)
  have c := hB.c_border
  have f := hB.fr 65549
  have e7 := and7 v h0 h1
  clear hB
  go_enter Tryd.func28, Tryd.ntmps28
  go_wp2_with fail
  go_end0
  exact ⟨rfl, HB.out, Ch.set _ _ _ _ (Or.inl rfl)⟩

end Go.Proofs.YtkcfacbnbjkheaaDoor
