/- The chapter's examples: lives answers true. -/
import Derived.Test.YthlaglhlmbkniaaTzxParse
import Derived.Test.YthlaglhlmbkniaaTzxBlock0
import Derived.ArgAppend
namespace Go.Proofs.Ythlaglhlmbkniaa
open Go.RowKit
set_option linter.unusedVariables false
set_option linter.unusedSimpArgs false
set_option maxRecDepth 100000

def headC : Array Value := #[.int .u8 90, .int .u8 88, .int .u8 84, .int .u8 97, .int .u8 112, .int .u8 101, .int .u8 33, .int .u8 26, .int .u8 1, .int .u8 20]
theorem head_any (w : World) : Calls Try.prog 17 #[] w fun x w' => x = .returned (.slice (some ⟨w.heap.size, 0, none⟩) 10 10) ∧ w' = w.alloc (.cells headC 5 (10, 11)) := by
  have kc1 := Lib.run_convert_bytes_const (P := Try.prog) w 25 5 headC 10 10 Try.underlying25 Try.underlying5
  have e : headC.size = 10 := rfl
  rw [e] at kc1
  unfold headC at *
  clear e
  go_enter Try.func17, Try.ntmps17
  go_wp2_with fail
  go_ret
  exact ⟨rfl, rfl⟩
def blk0 (s : Rst) : Rst := ⟨s.p + 1, 0, 0⟩
theorem it_head (k : Nat) : itS blk0 (s0F headL) k = ⟨10 + k, 0, 0⟩ := by
  induction k with
  | zero => exact (by decide +kernel : s0F headL = ⟨10, 0, 0⟩)
  | succ k ih => rw [itS, ih]; rfl
theorem it_head37 (k : Nat) : itS blk0 (s0F (headL ++ [37])) k = ⟨10 + k, 0, 0⟩ := by
  induction k with
  | zero => exact (by decide +kernel : s0F (headL ++ [37]) = ⟨10, 0, 0⟩)
  | succ k ih => rw [itS, ih]; rfl
theorem on_head (k : Nat) : ¬ onS blk0 headL (s0F headL) k := by
  unfold onS
  rw [it_head]
  rintro ⟨_, h, _⟩
  have : 10 + k < 10 := h
  omega
theorem on_head37 (k : Nat) (h : onS blk0 (headL ++ [37]) (s0F (headL ++ [37])) k) : k = 0 := by
  unfold onS at h
  rw [it_head37] at h
  obtain ⟨_, h, _⟩ := h
  have : 10 + k < 11 := h
  omega
theorem parse_head (F : Nat → Prop) (A : Option Addr) (cap : Nat) (w : World) (hl : BAt8 F w A 10 cap headL) : Calls Try.prog 15 #[.slice A 10 cap] w (OutE w (.ok 1 20 0)) := by
  refine (parse_any F A 10 cap headL w hl (by omega) blk0 (fun G u g _ _ v k hon => absurd hon (on_head k)) (fun k hon => absurd hon (on_head k))).mono ?_
  rintro x w' ⟨o, h1, h2⟩
  rw [out_head h1] at h2
  exact h2
theorem parse_head37 (F : Nat → Prop) (A : Option Addr) (cap : Nat) (w : World) (hl : BAt8 F w A 11 cap (headL ++ [37])) : Calls Try.prog 15 #[.slice A 11 cap] w (OutE w (.er 6 10)) := by
  refine (parse_any F A 11 cap (headL ++ [37]) w hl (by omega) blk0 (fun G u g hg hG v k hon hr hc => ?_) (fun k hon _ => ?_)).mono ?_
  · obtain rfl := on_head37 k hon
    rw [it_head37] at hr
    rw [it_head37, it_head37]
    have hv : numV (headL ++ [37]) ⟨10 + 0, 0, 0⟩ 1 = 37 := by decide +kernel
    have hs : takS (headL ++ [37]) ⟨10 + 0, 0, 0⟩ 1 = ⟨10 + (0 + 1), 0, 0⟩ := by decide +kernel
    have hg37 : gI (headL ++ [37]) (10 + 0) = 37 := by decide +kernel
    have := block_0 G v g (headL ++ [37]) ⟨10 + 0, 0, 0⟩ hr (fun i hi => Nat.lt_of_lt_of_le (hG i hi) hc.size) (by decide) 37 hv (by omega)
    rw [hs] at this
    show Calls _ _ _ _ (BlkE G v g (headL ++ [37]) ⟨10 + (0 + 1), 0, 0⟩ (gI (headL ++ [37]) (10 + 0)))
    rw [hg37]
    exact this
  · rw [it_head37, it_head37]
    show 10 + k < 10 + (k + 1)
    omega
  · rintro x w' ⟨o, h1, h2⟩
    rw [out_head37 rfl h1] at h2
    exact h2
theorem head_at (w : World) : BAt8 (fun _ => True) (w.alloc (.cells headC 5 (10, 11))) (some ⟨w.heap.size, 0, none⟩) 10 10 headL := BAt8.new w headL 5 (10, 11) headC 10 rfl rfl (by unfold maxLen; omega) (by decide)
set_option maxHeartbeats 1600000 in
theorem lives19 (w : World) : Calls Try.prog 6 #[] w fun x w' => x = .returned (.bool true) ∧ Below w.heap.size w w' := by
  have HH := Lib.hid head_any
  have HP1 := Lib.hid (parse_head _ _ _ _ (head_at w))
  have q0 : ∀ u, (binOp .eql 45 .nilIface .nilIface).run Try.prog u = .ok (.bool true) u := fun _ => rfl
  go_enter Try.func6, Try.ntmps6
  go_wp2_with fail
  refine (HH.out _).mono ?_
  rintro x w1 ⟨rfl, rfl⟩
  go_wp2_with fail
  refine HP1.out.mono ?_
  rintro x w2 ⟨B, c, rfl, hb2⟩
  have HB2 : Hid (Below w.heap.size w w2) := Lib.hid ((bnew w _).trans (hb2.mono (by simp)))
  have HB3 : Hid (Below w.heap.size w (w2.alloc (.cells #[.int .i64 1, .int .i64 20, .slice B 0 c] 43))) := Lib.hid (HB2.out.trans ((bnew w2 _).mono HB2.out.size))
  have HT3 : Hid ((w2.alloc (.cells #[.int .i64 1, .int .i64 20, .slice B 0 c] 43)).heap[w2.heap.size]? = some (.cells #[.int .i64 1, .int .i64 20, .slice B 0 c] 43 (0, 0))) := Lib.hid (heap_alloc_new w2 _)
  clear hb2 HP1
  obtain ⟨w3, hw3⟩ : ∃ w3, w2.alloc (.cells #[.int .i64 1, .int .i64 20, .slice B 0 c] 43) = w3 := ⟨_, rfl⟩
  obtain ⟨gt, hgt⟩ : ∃ gt, w2.heap.size = gt := ⟨_, rfl⟩
  rw [hw3] at HB3 HT3
  rw [hgt] at HT3
  go_wp2_with fail
  try rw [hw3]
  clear hw3 hgt
  refine (HH.out _).mono ?_
  rintro x w4 ⟨rfl, rfl⟩
  obtain ⟨i0, hi, hz0, hz1, hz2⟩ := info_parts infoB8
  have HO := Lib.hid (show ∀ b, some (⟨w3.heap.size, 0, none⟩ : Addr) = some b → ∀ j u, headC.toList[j]? = some u → ((w3.alloc (.cells headC 5 (10, 11))).alloc (.cells #[.int .u8 37] 5)).cell? (b.add j) = some u from by
    rintro b hb j u hu
    injection hb with hb
    subst hb
    rw [Go.WideShapes.add_plain, Nat.zero_add]
    refine (World.cell?_of_block (a := ⟨w3.heap.size, j, none⟩) ((bnew (w3.alloc (.cells headC 5 (10, 11))) _).block _ (by simp))).trans ?_
    rw [cell_of_row _ _ j _ _ (10, 11) (heap_alloc_new w3 _), ← Array.getElem?_toList]
    exact hu)
  have HN := Lib.hid (cell_one_new (w3.alloc (.cells headC 5 (10, 11))) (.int .u8 37) 5)
  have HB5 : Hid (Below w3.heap.size w3 ((w3.alloc (.cells headC 5 (10, 11))).alloc (.cells #[.int .u8 37] 5))) := Lib.hid ((bnew w3 _).trans ((bnew _ _).mono (by simp)))
  go_wp2_with (at_builtin; refine wpList_append_grows _ rfl (.tmp 13) (.tmp 14) 25 rfl 5 i0 (.int .u8 0) 1 1 Try.underlying25 hi hz0 hz1 hz2 rfl (by omega) (some ⟨w3.heap.size, 0, none⟩) 10 10 headC.toList rfl (fun h => by cases h) rfl HO.out ⟨w3.heap.size + 1, 0, none⟩ 1 1 [.int .u8 37] rfl rfl (by simpa using HN.out) (by simp [Value.oneCell']) (by omega) (by unfold maxLen; omega) (by omega) ?_; intro v6 w6 h6 g6)
  obtain ⟨A6, c6, rfl, hn6, hm6⟩ := own_slice h6
  have hrow : w6.ownsRow ((w3.alloc (.cells headC 5 (10, 11))).alloc (.cells #[.int .u8 37] 5)).heap.size 5 1 (.slice A6 11 c6) 11 ((headL ++ [37]).map u8I) := h6
  have HP2 := Lib.hid (parse_head37 _ A6 c6 w6 (bytes_own hrow (byte8_of _ (by decide))))
  have HB6 : Hid (Below w3.heap.size w3 w6) := Lib.hid (HB5.out.grown g6 HB5.out.size fun k hk => by cases hk)
  clear hrow h6 g6 hn6 hm6 hi hz0 hz1 hz2 HB5
  refine HP2.out.mono ?_
  rintro x w7 ⟨k, rfl, hk, hf7, hb7⟩
  have HB7 : Hid (Below w3.heap.size w3 w7) := Lib.hid (HB6.out.trans (hb7.mono HB6.out.size))
  have HB8 : Hid (Below w7.heap.size w7 (w7.alloc (.cells #[.int .i64 0, .int .i64 0, .slice none 0 0] 43))) := Lib.hid (bnew w7 _)
  have HF8 := Lib.hid (hf7.below HB8.out)
  have HB9 : Hid (Below w3.heap.size w3 (w7.alloc (.cells #[.int .i64 0, .int .i64 0, .slice none 0 0] 43))) := Lib.hid (HB7.out.trans (HB8.out.mono HB7.out.size))
  have HWy := Lib.hid (why_any _ k 6 10 HF8.out)
  clear hk hf7 hb7 HP2
  go_wp2_with fail
  refine HWy.out.mono ?_
  rintro x w9 ⟨rfl, n9, rfl⟩
  have HB10 : Hid (Below w3.heap.size w3 ((w7.alloc (.cells #[.int .i64 0, .int .i64 0, .slice none 0 0] 43)).drewN n9)) := Lib.hid (bdrawn HB9.out n9)
  have hz : ((w7.alloc (.cells #[.int .i64 0, .int .i64 0, .slice none 0 0] 43)).drewN n9).heap[gt]? = some (.cells #[.int .i64 1, .int .i64 20, .slice B 0 c] 43 (0, 0)) := (HB10.out.block gt (Array.getElem?_eq_some_iff.1 HT3.out).1).trans HT3.out
  generalize (w7.alloc (.cells #[.int .i64 0, .int .i64 0, .slice none 0 0] 43)).drewN n9 = w10 at *
  have c0 := cell_of_row w10 gt 0 _ _ (0, 0) hz
  have c1 := cell_of_row w10 gt 1 _ _ (0, 0) hz
  have c2 := cell_of_row w10 gt 2 _ _ (0, 0) hz
  simp at c0 c1 c2
  have HE := Lib.hid (HB3.out.trans (HB10.out.mono HB3.out.size))
  clear hz
  go_wp2_with fail
  go_ret
  exact ⟨rfl, HE.out⟩

end Go.Proofs.Ythlaglhlmbkniaa
