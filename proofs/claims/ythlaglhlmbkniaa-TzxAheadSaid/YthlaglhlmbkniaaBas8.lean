/- Texts put together: TzxLives, TzxAhead. -/
import Derived.Test.YthlaglhlmbkniaaBas7
import Derived.Test.YthlaglhlmbkniaaBas2
import Derived.ArgAppend
import Derived.Test.YthlaglhlmbkniaaBas1
import Derived.LaidEqlPtr
/- The chapter's examples: lives answers true. -/
namespace Go.Proofs.Ythlaglhlmbkniaa
open Go.RowKit
set_option linter.unusedVariables false
set_option linter.unusedSimpArgs false
set_option maxRecDepth 100000

def headC : Array Value := #[.int .u8 90, .int .u8 88, .int .u8 84, .int .u8 97, .int .u8 112, .int .u8 101, .int .u8 33, .int .u8 26, .int .u8 1, .int .u8 20]
theorem head_any (w : World) : Calls Try.prog 17 #[] w fun x w' => x = .returned (.slice (some ⟨w.heap.size, 0, none⟩) 10 10) ∧ w' = w.alloc (.cells headC 5 (10, 11)) := by
  have kc1 := Lib.run_convert_bytes_const (P := Try.prog) w 25 5 headC 10 10 Try.underlying25 Try.underlying5
  have e : headC.size = 10 := rfl
  rw [e] at kc1
  unfold headC at *
  clear e
  go_enter Try.func17, Try.ntmps17
  go_wp2_with fail
  go_ret
  exact ⟨rfl, rfl⟩
def blk0 (s : Rst) : Rst := ⟨s.p + 1, 0, 0⟩
theorem it_head (k : Nat) : itS blk0 (s0F headL) k = ⟨10 + k, 0, 0⟩ := by
  induction k with
  | zero => exact (by decide +kernel : s0F headL = ⟨10, 0, 0⟩)
  | succ k ih => rw [itS, ih]; rfl
theorem it_head37 (k : Nat) : itS blk0 (s0F (headL ++ [37])) k = ⟨10 + k, 0, 0⟩ := by
  induction k with
  | zero => exact (by decide +kernel : s0F (headL ++ [37]) = ⟨10, 0, 0⟩)
  | succ k ih => rw [itS, ih]; rfl
theorem on_head (k : Nat) : ¬ onS blk0 headL (s0F headL) k := by
  unfold onS
  rw [it_head]
  rintro ⟨_, h, _⟩
  have : 10 + k < 10 := h
  omega
theorem on_head37 (k : Nat) (h : onS blk0 (headL ++ [37]) (s0F (headL ++ [37])) k) : k = 0 := by
  unfold onS at h
  rw [it_head37] at h
  obtain ⟨_, h, _⟩ := h
  have : 10 + k < 11 := h
  omega
theorem parse_head (F : Nat → Prop) (A : Option Addr) (cap : Nat) (w : World) (hl : BAt8 F w A 10 cap headL) : Calls Try.prog 15 #[.slice A 10 cap] w (OutE w (.ok 1 20 0)) := by
  refine (parse_any F A 10 cap headL w hl (by omega) blk0 (fun G u g _ _ v k hon => absurd hon (on_head k)) (fun k hon => absurd hon (on_head k))).mono ?_
  rintro x w' ⟨o, h1, h2⟩
  rw [out_head h1] at h2
  exact h2
theorem parse_head37 (F : Nat → Prop) (A : Option Addr) (cap : Nat) (w : World) (hl : BAt8 F w A 11 cap (headL ++ [37])) : Calls Try.prog 15 #[.slice A 11 cap] w (OutE w (.er 6 10)) := by
  refine (parse_any F A 11 cap (headL ++ [37]) w hl (by omega) blk0 (fun G u g hg hG v k hon hr hc => ?_) (fun k hon _ => ?_)).mono ?_
  · obtain rfl := on_head37 k hon
    rw [it_head37] at hr
    rw [it_head37, it_head37]
    have hv : numV (headL ++ [37]) ⟨10 + 0, 0, 0⟩ 1 = 37 := by decide +kernel
    have hs : takS (headL ++ [37]) ⟨10 + 0, 0, 0⟩ 1 = ⟨10 + (0 + 1), 0, 0⟩ := by decide +kernel
    have hg37 : gI (headL ++ [37]) (10 + 0) = 37 := by decide +kernel
    have := block_0 G v g (headL ++ [37]) ⟨10 + 0, 0, 0⟩ hr (fun i hi => Nat.lt_of_lt_of_le (hG i hi) hc.size) (by decide) 37 hv (by omega)
    rw [hs] at this
    show Calls _ _ _ _ (BlkE G v g (headL ++ [37]) ⟨10 + (0 + 1), 0, 0⟩ (gI (headL ++ [37]) (10 + 0)))
    rw [hg37]
    exact this
  · rw [it_head37, it_head37]
    show 10 + k < 10 + (k + 1)
    omega
  · rintro x w' ⟨o, h1, h2⟩
    rw [out_head37 rfl h1] at h2
    exact h2
theorem head_at (w : World) : BAt8 (fun _ => True) (w.alloc (.cells headC 5 (10, 11))) (some ⟨w.heap.size, 0, none⟩) 10 10 headL := BAt8.new w headL 5 (10, 11) headC 10 rfl rfl (by unfold maxLen; omega) (by decide)
set_option maxHeartbeats 1600000 in
theorem lives19 (w : World) : Calls Try.prog 6 #[] w fun x w' => x = .returned (.bool true) ∧ Below w.heap.size w w' := by
  have HH := Lib.hid head_any
  have HP1 := Lib.hid (parse_head _ _ _ _ (head_at w))
  have q0 : ∀ u, (binOp .eql 45 .nilIface .nilIface).run Try.prog u = .ok (.bool true) u := fun _ => rfl
  go_enter Try.func6, Try.ntmps6
  go_wp2_with fail
  refine (HH.out _).mono ?_
  rintro x w1 ⟨rfl, rfl⟩
  go_wp2_with fail
  refine HP1.out.mono ?_
  rintro x w2 ⟨B, c, rfl, hb2⟩
  have HB2 : Hid (Below w.heap.size w w2) := Lib.hid ((bnew w _).trans (hb2.mono (by simp)))
  have HB3 : Hid (Below w.heap.size w (w2.alloc (.cells #[.int .i64 1, .int .i64 20, .slice B 0 c] 43))) := Lib.hid (HB2.out.trans ((bnew w2 _).mono HB2.out.size))
  have HT3 : Hid ((w2.alloc (.cells #[.int .i64 1, .int .i64 20, .slice B 0 c] 43)).heap[w2.heap.size]? = some (.cells #[.int .i64 1, .int .i64 20, .slice B 0 c] 43 (0, 0))) := Lib.hid (heap_alloc_new w2 _)
  clear hb2 HP1
  obtain ⟨w3, hw3⟩ : ∃ w3, w2.alloc (.cells #[.int .i64 1, .int .i64 20, .slice B 0 c] 43) = w3 := ⟨_, rfl⟩
  obtain ⟨gt, hgt⟩ : ∃ gt, w2.heap.size = gt := ⟨_, rfl⟩
  rw [hw3] at HB3 HT3
  rw [hgt] at HT3
  go_wp2_with fail
  try rw [hw3]
  clear hw3 hgt
  refine (HH.out _).mono ?_
  rintro x w4 ⟨rfl, rfl⟩
  obtain ⟨i0, hi, hz0, hz1, hz2⟩ := info_parts infoB8
  have HO := Lib.hid (show ∀ b, some (⟨w3.heap.size, 0, none⟩ : Addr) = some b → ∀ j u, headC.toList[j]? = some u → ((w3.alloc (.cells headC 5 (10, 11))).alloc (.cells #[.int .u8 37] 5)).cell? (b.add j) = some u from by
    rintro b hb j u hu
    injection hb with hb
    subst hb
    rw [Go.WideShapes.add_plain, Nat.zero_add]
    refine (World.cell?_of_block (a := ⟨w3.heap.size, j, none⟩) ((bnew (w3.alloc (.cells headC 5 (10, 11))) _).block _ (by simp))).trans ?_
    rw [cell_of_row _ _ j _ _ (10, 11) (heap_alloc_new w3 _), ← Array.getElem?_toList]
    exact hu)
  have HN := Lib.hid (cell_one_new (w3.alloc (.cells headC 5 (10, 11))) (.int .u8 37) 5)
  have HB5 : Hid (Below w3.heap.size w3 ((w3.alloc (.cells headC 5 (10, 11))).alloc (.cells #[.int .u8 37] 5))) := Lib.hid ((bnew w3 _).trans ((bnew _ _).mono (by simp)))
  go_wp2_with (at_builtin; refine wpList_append_grows _ rfl (.tmp 13) (.tmp 14) 25 rfl 5 i0 (.int .u8 0) 1 1 Try.underlying25 hi hz0 hz1 hz2 rfl (by omega) (some ⟨w3.heap.size, 0, none⟩) 10 10 headC.toList rfl (fun h => by cases h) rfl HO.out ⟨w3.heap.size + 1, 0, none⟩ 1 1 [.int .u8 37] rfl rfl (by simpa using HN.out) (by simp [Value.oneCell']) (by omega) (by unfold maxLen; omega) (by omega) ?_; intro v6 w6 h6 g6)
  obtain ⟨A6, c6, rfl, hn6, hm6⟩ := own_slice h6
  have hrow : w6.ownsRow ((w3.alloc (.cells headC 5 (10, 11))).alloc (.cells #[.int .u8 37] 5)).heap.size 5 1 (.slice A6 11 c6) 11 ((headL ++ [37]).map u8I) := h6
  have HP2 := Lib.hid (parse_head37 _ A6 c6 w6 (bytes_own hrow (byte8_of _ (by decide))))
  have HB6 : Hid (Below w3.heap.size w3 w6) := Lib.hid (HB5.out.grown g6 HB5.out.size fun k hk => by cases hk)
  clear hrow h6 g6 hn6 hm6 hi hz0 hz1 hz2 HB5
  refine HP2.out.mono ?_
  rintro x w7 ⟨k, rfl, hk, hf7, hb7⟩
  have HB7 : Hid (Below w3.heap.size w3 w7) := Lib.hid (HB6.out.trans (hb7.mono HB6.out.size))
  have HB8 : Hid (Below w7.heap.size w7 (w7.alloc (.cells #[.int .i64 0, .int .i64 0, .slice none 0 0] 43))) := Lib.hid (bnew w7 _)
  have HF8 := Lib.hid (hf7.below HB8.out)
  have HB9 : Hid (Below w3.heap.size w3 (w7.alloc (.cells #[.int .i64 0, .int .i64 0, .slice none 0 0] 43))) := Lib.hid (HB7.out.trans (HB8.out.mono HB7.out.size))
  have HWy := Lib.hid (why_any _ k 6 10 HF8.out)
  clear hk hf7 hb7 HP2
  go_wp2_with fail
  refine HWy.out.mono ?_
  rintro x w9 ⟨rfl, n9, rfl⟩
  have HB10 : Hid (Below w3.heap.size w3 ((w7.alloc (.cells #[.int .i64 0, .int .i64 0, .slice none 0 0] 43)).drewN n9)) := Lib.hid (bdrawn HB9.out n9)
  have hz : ((w7.alloc (.cells #[.int .i64 0, .int .i64 0, .slice none 0 0] 43)).drewN n9).heap[gt]? = some (.cells #[.int .i64 1, .int .i64 20, .slice B 0 c] 43 (0, 0)) := (HB10.out.block gt (Array.getElem?_eq_some_iff.1 HT3.out).1).trans HT3.out
  generalize (w7.alloc (.cells #[.int .i64 0, .int .i64 0, .slice none 0 0] 43)).drewN n9 = w10 at *
  have c0 := cell_of_row w10 gt 0 _ _ (0, 0) hz
  have c1 := cell_of_row w10 gt 1 _ _ (0, 0) hz
  have c2 := cell_of_row w10 gt 2 _ _ (0, 0) hz
  simp at c0 c1 c2
  have HE := Lib.hid (HB3.out.trans (HB10.out.mono HB3.out.size))
  clear hz
  go_wp2_with fail
  go_ret
  exact ⟨rfl, HE.out⟩

end Go.Proofs.Ythlaglhlmbkniaa
/- TzxAhead, walked. -/
namespace Go.Proofs.Ythlaglhlmbkniaa
open Go.RowKit
set_option linter.unusedVariables false
set_option linter.unusedSimpArgs false
set_option maxRecDepth 100000

theorem lives_on {w w1 : World} (h : Below w.heap.size w w1) : Calls Try.prog 6 #[] w1 fun e w' => e = .returned (.bool true) ∧ Below w.heap.size w w' := by
  refine (lives19 w1).mono ?_
  rintro e w' ⟨rfl, hb⟩
  exact ⟨rfl, h.trans (hb.mono h.size)⟩
theorem parse_all (F : Nat → Prop) (A : Option Addr) (n cap : Nat) (l : List Int) (w : World) (hl : BAt8 F w A n cap l) (hn : n ≤ 1000000) : Calls Try.prog 15 #[.slice A n cap] w (ParseE (blockS l) w l) :=
  parse_any F A n cap l w hl hn (blockS l) (fun G u g hg hG => block_ok G u g l (by rw [hl.len]; exact hn) hl.bd hg hG) fun k hon _ => block_prog l k hon
set_option maxHeartbeats 3200000 in
theorem ahead_walk (v : Value) (l : List Int) (v2 : Value) (y : List Int) (w : World) (hv : BytesV w v l) (hv2 : BytesV w v2 y) :
    Calls Try.prog 5 #[v, v2] w fun e w' => e = .returned (.bool true) ∧ Below w.heap.size w w' := by
  obtain ⟨A, n, cap, rfl, hI⟩ := hv
  obtain ⟨B, ny, capy, rfl, hJ⟩ := hv2
  have hm := hI.max
  have hf := hI.fit
  have hmb := hJ.max
  have hfb := hJ.fit
  unfold maxLen at hm hmb
  have HL := Lib.hid (fun u (hu : Below w.heap.size w u) => lives_on hu)
  by_cases hbig : 6000 < n
  · have d1 : decide ((6000 : Int) < (n : Int)) = true := decide_eq_true (by omega)
    have HL1 := Lib.hid (HL.out w (Below.refl _ _))
    clear hI hJ HL
    go_enter Try.func5, Try.ntmps5
    go_wp2_with fail
    refine HL1.out.mono ?_
    rintro e w1 ⟨rfl, hb⟩
    go_wp2_with fail
    go_ret
    exact ⟨rfl, hb⟩
  have d1 : decide ((6000 : Int) < (n : Int)) = false := decide_eq_false (by omega)
  by_cases hbig2 : 1000 < ny
  · have d2 : decide ((1000 : Int) < (ny : Int)) = true := decide_eq_true (by omega)
    have HL1 := Lib.hid (HL.out w (Below.refl _ _))
    clear hI hJ HL
    go_enter Try.func5, Try.ntmps5
    go_wp2_with fail
    refine HL1.out.mono ?_
    rintro e w1 ⟨rfl, hb⟩
    go_wp2_with fail
    go_ret
    exact ⟨rfl, hb⟩
  have d2 : decide ((1000 : Int) < (ny : Int)) = false := decide_eq_false (by omega)
  have hlen := hI.len
  have hleny := hJ.len
  have H1 := Lib.hid (parse_all _ A n cap l w hI (by omega))
  have HI := Lib.hid hI
  have HJ := Lib.hid hJ
  have hnn : n ≤ 6000 := by omega
  have hny : ny ≤ 1000 := by omega
  clear hI hJ hbig hbig2
  go_enter Try.func5, Try.ntmps5
  go_wp2_with fail
  refine H1.out.mono ?_
  rintro e w1 ⟨o, hO, hE⟩
  have HO := Lib.hid hO
  clear hO H1
  cases o with
  | ok M m N =>
    obtain ⟨B', c', rfl, hb1⟩ := hE
    have q0 : ∀ u, (binOp .eql 45 .nilIface .nilIface).run Try.prog u = .ok (.bool true) u := fun _ => rfl
    have hN := out_blocks HO.out
    rw [hlen] at hN
    have d3 : decide ((N : Int) ≤ (n : Int) - 10) = true := decide_eq_true (by omega)
    have HL1 := Lib.hid (HL.out _ (hb1.trans ((bnew w1 (.cells #[.int .i64 M, .int .i64 m, .slice B' N c'] 43)).mono hb1.size)))
    clear hb1 HO
    go_wp2_with fail
    refine HL1.out.mono ?_
    rintro e w2 ⟨rfl, hb⟩
    go_wp2_with fail
    go_ret
    exact ⟨rfl, hb⟩
  | er E f =>
    obtain ⟨k, rfl, hk, hF, hb1⟩ := hE
    have q0 : ∀ u, (binOp .eql 45 (.iface 48 (.pointer (some ⟨k, 0, none⟩))) .nilIface).run Try.prog u = .ok (.bool false) u := fun _ => rfl
    have qa : ∀ u, (Instr.typeAssert (.iface 48 (.pointer (some ⟨k, 0, none⟩))) 45 48 true).run Try.prog u = .ok (.tuple #[.pointer (some ⟨k, 0, none⟩), .bool true]) u := fun _ => rfl
    have HW2 := Lib.hid (hb1.trans ((bnew w1 (.cells #[.int .i64 0, .int .i64 0, .slice none 0 0] 43)).mono hb1.size))
    have HF2 := Lib.hid (hF.below (bnew w1 (.cells #[.int .i64 0, .int .i64 0, .slice none 0 0] 43)))
    have HT2 := Lib.hid (heap_alloc_new w1 (.cells #[.int .i64 0, .int .i64 0, .slice none 0 0] 43))
    have hpl := out_place HO.out
    rw [hlen] at hpl
    have f1 : decide (f < 0) = false := decide_eq_false (by omega)
    have f2 : decide ((n : Int) < f) = false := decide_eq_false (by omega)
    clear hk hF hb1
    have HL1 := Lib.hid (HL.out _ HW2.out)
    have c0 := cell_of_row _ k 0 _ _ (0, 0) HF2.out
    have c1 := cell_of_row _ k 1 _ _ (0, 0) HF2.out
    have t2 := cell_of_row _ _ 2 _ _ (0, 0) HT2.out
    simp at c0 c1 t2
    by_cases e6 : E = 6
    · subst e6
      clear HO
      go_wp2_with fail
      refine HL1.out.mono ?_
      rintro e w3 ⟨rfl, hb⟩
      go_wp2_with fail
      go_ret
      exact ⟨rfl, hb⟩
    have b6 : (E == 6) = false := by rw [beq_eq_false_iff_ne]; exact e6
    have b6' : decide (E = 6) = false := decide_eq_false e6
    by_cases e5 : E = 5
    · subst e5
      clear HO
      go_wp2_with fail
      refine HL1.out.mono ?_
      rintro e w3 ⟨rfl, hb⟩
      go_wp2_with fail
      go_ret
      exact ⟨rfl, hb⟩
    have b5 : (E == 5) = false := by rw [beq_eq_false_iff_ne]; exact e5
    have b5' : decide (E = 5) = false := decide_eq_false e5
    by_cases e2 : E = 2
    · subst e2
      clear HO
      go_wp2_with fail
      refine HL1.out.mono ?_
      rintro e w3 ⟨rfl, hb⟩
      go_wp2_with fail
      go_ret
      exact ⟨rfl, hb⟩
    have b2 : (E == 2) = false := by rw [beq_eq_false_iff_ne]; exact e2
    have b2' : decide (E = 2) = false := decide_eq_false e2
    by_cases e8 : E = 8
    · subst e8
      clear HO
      go_wp2_with fail
      refine HL1.out.mono ?_
      rintro e w3 ⟨rfl, hb⟩
      go_wp2_with fail
      go_ret
      exact ⟨rfl, hb⟩
    have b8 : (E == 8) = false := by rw [beq_eq_false_iff_ne]; exact e8
    have b8' : decide (E = 8) = false := decide_eq_false e8
    by_cases e3 : E = 3 ∧ n < 8
    · obtain ⟨rfl, hn8⟩ := e3
      have d8 : decide ((n : Int) < 8) = true := decide_eq_true (by omega)
      have d8' : decide (n < 8) = true := decide_eq_true hn8
      clear HO
      go_wp2_with fail
      refine HL1.out.mono ?_
      rintro e w3 ⟨rfl, hb⟩
      go_wp2_with fail
      go_ret
      exact ⟨rfl, hb⟩
    have h38 : E = 3 → 8 ≤ l.length := fun x => by rw [hlen]; exact Classical.byContradiction fun z => e3 ⟨x, by omega⟩
    have HAh := Lib.hid (fun o h => out_ahead HO.out e2 e5 e6 e8 h38 y (o := o) h)
    by_cases e3' : E = 3
    · have b3 : (E == 3) = true := by rw [beq_iff_eq]; exact e3'
      have d8 : decide ((n : Int) < 8) = false := decide_eq_false fun z => e3 ⟨e3', by omega⟩
      have d8' : decide (n < 8) = false := decide_eq_false fun z => e3 ⟨e3', z⟩
      clear e2 e5 e6 e8 h38 e3 e3'
      have HI2 := Lib.hid (HI.out.below HW2.out)
      have HJ2 := Lib.hid (HJ.out.below HW2.out)
      have HO0 := Lib.hid (World.ownsRow_nil (w1.alloc (.cells #[.int .i64 0, .int .i64 0, .slice none 0 0] 43)) (w1.alloc (.cells #[.int .i64 0, .int .i64 0, .slice none 0 0] 43)).heap.size 5 1)
      have hz2 : (w1.alloc (.cells #[.int .i64 0, .int .i64 0, .slice none 0 0] 43)).heap.size = w1.heap.size + 1 := by simp
      rw [hz2] at HO0
      have HZ2 := Lib.hid hz2
      clear hz2 HL1 HO
      go_wp2_with (first
        | (at_builtin
           refine wpList_append_u8 (P := Try.prog) (w1.heap.size + 1) 5 25 infoB8 Try.underlying25 rfl (.tmp 114) (.tmp 115) rfl _ 0 [] rfl HO0.out rfl HI2.out (by omega) (Nat.le_of_eq HZ2.out.symm) ?_
           intro v3 w3 hown3 hb3
           have HB3 := Lib.hid hb3
           have hown3' : w3.ownsRow (w1.heap.size + 1) 5 1 v3 n (l.map u8I) := by simpa using hown3
           clear hown3
           have hown3 := hown3'
           clear hown3'
           have HO3 := Lib.hid hown3
           have HJ3 := Lib.hid (HJ2.out.below (by rw [HZ2.out]; exact hb3))
           obtain ⟨A3, cap3, rfl, hn3, hm3⟩ := own_slice hown3
           clear hown3 hb3)
        | (at_builtin
           refine wpList_append_u8 (P := Try.prog) (w1.heap.size + 1) 5 25 infoB8 Try.underlying25 rfl (.tmp 116) (.tmp 117) rfl _ n l rfl HO3.out rfl HJ3.out (by omega) (by rw [← HZ2.out]; exact HB3.out.size) ?_
           intro v4 w4 hown4 hb4
           have HB4 := Lib.hid (HB3.out.trans hb4)
           have HO4 := Lib.hid hown4
           obtain ⟨A4, cap4, rfl, hn4, hm4⟩ := own_slice hown4
           clear hown4 hb4))
      have h8T : Byte8 (l ++ y) := HI.out.bd.app HJ.out.bd
      have H2 := Lib.hid (parse_all _ A4 (n + ny) cap4 (l ++ y) w4 (bytes_own HO4.out h8T) (by omega))
      have HW4 := Lib.hid (HW2.out.trans (HB4.out.mono (by rw [← HZ2.out]; exact HW2.out.size)))
      have HF4 := Lib.hid (HF2.out.below (by rw [HZ2.out]; exact HB4.out))
      clear h8T HO4 HO3 HB3 HJ3 HO0 HI2 HJ2 HF2 HB4 c0 c1 t2
      refine H2.out.mono ?_
      rintro e w5 ⟨o, hO5, hE5⟩
      have e5 := HAh.out o hO5
      subst e5
      obtain ⟨k5, rfl, hk5, hF5, hb5⟩ := hE5
      have hb6 := hb5.trans ((bnew w5 (.cells #[.int .i64 0, .int .i64 0, .slice none 0 0] 43)).mono hb5.size)
      have HW5 := Lib.hid (HW4.out.trans (hb6.mono HW4.out.size))
      have HF5 := Lib.hid (HF4.out.below hb6)
      have HWy := Lib.hid (why_any _ k5 E f (hF5.below (bnew w5 (.cells #[.int .i64 0, .int .i64 0, .slice none 0 0] 43))))
      clear hb6
      clear hO5 hk5 hF5 hb5 H2 HF4 HW4
      go_wp2_with fail
      refine HWy.out.mono ?_
      rintro e w6 ⟨rfl, n6, rfl⟩
      have HW6 := Lib.hid (bdrawn HW5.out n6)
      have HF6 := Lib.hid (HF5.out.below (bdrawn (Below.refl _ _) n6))
      have HL6 := Lib.hid (HL.out _ HW6.out)
      generalize (w5.alloc (.cells #[.int .i64 0, .int .i64 0, .slice none 0 0] 43)).drewN n6 = w6 at *
      have c0 := cell_of_row w6 k 0 _ _ (0, 0) HF6.out
      have c1 := cell_of_row w6 k 1 _ _ (0, 0) HF6.out
      simp at c0 c1
      clear HWy HF5 HW5
      go_wp2_with fail
      refine HL6.out.mono ?_
      rintro e w7 ⟨rfl, hb⟩
      go_wp2_with fail
      go_ret
      exact ⟨rfl, hb⟩
    have b3 : (E == 3) = false := by rw [beq_eq_false_iff_ne]; exact e3'
    clear e2 e5 e6 e8 h38 e3 e3'
    have HI2 := Lib.hid (HI.out.below HW2.out)
    have HJ2 := Lib.hid (HJ.out.below HW2.out)
    have HO0 := Lib.hid (World.ownsRow_nil (w1.alloc (.cells #[.int .i64 0, .int .i64 0, .slice none 0 0] 43)) (w1.alloc (.cells #[.int .i64 0, .int .i64 0, .slice none 0 0] 43)).heap.size 5 1)
    have hz2 : (w1.alloc (.cells #[.int .i64 0, .int .i64 0, .slice none 0 0] 43)).heap.size = w1.heap.size + 1 := by simp
    rw [hz2] at HO0
    have HZ2 := Lib.hid hz2
    clear hz2 HL1 HO
    go_wp2_with (first
      | (at_builtin
         refine wpList_append_u8 (P := Try.prog) (w1.heap.size + 1) 5 25 infoB8 Try.underlying25 rfl (.tmp 114) (.tmp 115) rfl _ 0 [] rfl HO0.out rfl HI2.out (by omega) (Nat.le_of_eq HZ2.out.symm) ?_
         intro v3 w3 hown3 hb3
         have HB3 := Lib.hid hb3
         have hown3' : w3.ownsRow (w1.heap.size + 1) 5 1 v3 n (l.map u8I) := by simpa using hown3
         clear hown3
         have hown3 := hown3'
         clear hown3'
         have HO3 := Lib.hid hown3
         have HJ3 := Lib.hid (HJ2.out.below (by rw [HZ2.out]; exact hb3))
         obtain ⟨A3, cap3, rfl, hn3, hm3⟩ := own_slice hown3
         clear hown3 hb3)
      | (at_builtin
         refine wpList_append_u8 (P := Try.prog) (w1.heap.size + 1) 5 25 infoB8 Try.underlying25 rfl (.tmp 116) (.tmp 117) rfl _ n l rfl HO3.out rfl HJ3.out (by omega) (by rw [← HZ2.out]; exact HB3.out.size) ?_
         intro v4 w4 hown4 hb4
         have HB4 := Lib.hid (HB3.out.trans hb4)
         have HO4 := Lib.hid hown4
         obtain ⟨A4, cap4, rfl, hn4, hm4⟩ := own_slice hown4
         clear hown4 hb4))
    have h8T : Byte8 (l ++ y) := HI.out.bd.app HJ.out.bd
    have H2 := Lib.hid (parse_all _ A4 (n + ny) cap4 (l ++ y) w4 (bytes_own HO4.out h8T) (by omega))
    have HW4 := Lib.hid (HW2.out.trans (HB4.out.mono (by rw [← HZ2.out]; exact HW2.out.size)))
    have HF4 := Lib.hid (HF2.out.below (by rw [HZ2.out]; exact HB4.out))
    clear h8T HO4 HO3 HB3 HJ3 HO0 HI2 HJ2 HF2 HB4 c0 c1 t2
    refine H2.out.mono ?_
    rintro e w5 ⟨o, hO5, hE5⟩
    have e5 := HAh.out o hO5
    subst e5
    obtain ⟨k5, rfl, hk5, hF5, hb5⟩ := hE5
    have hb6 := hb5.trans ((bnew w5 (.cells #[.int .i64 0, .int .i64 0, .slice none 0 0] 43)).mono hb5.size)
    have HW5 := Lib.hid (HW4.out.trans (hb6.mono HW4.out.size))
    have HF5 := Lib.hid (HF4.out.below hb6)
    have HWy := Lib.hid (why_any _ k5 E f (hF5.below (bnew w5 (.cells #[.int .i64 0, .int .i64 0, .slice none 0 0] 43))))
    clear hb6
    clear hO5 hk5 hF5 hb5 H2 HF4 HW4
    go_wp2_with fail
    refine HWy.out.mono ?_
    rintro e w6 ⟨rfl, n6, rfl⟩
    have HW6 := Lib.hid (bdrawn HW5.out n6)
    have HF6 := Lib.hid (HF5.out.below (bdrawn (Below.refl _ _) n6))
    have HL6 := Lib.hid (HL.out _ HW6.out)
    generalize (w5.alloc (.cells #[.int .i64 0, .int .i64 0, .slice none 0 0] 43)).drewN n6 = w6 at *
    have c0 := cell_of_row w6 k 0 _ _ (0, 0) HF6.out
    have c1 := cell_of_row w6 k 1 _ _ (0, 0) HF6.out
    simp at c0 c1
    clear HWy HF5 HW5
    go_wp2_with fail
    refine HL6.out.mono ?_
    rintro e w7 ⟨rfl, hb⟩
    go_wp2_with fail
    go_ret
    exact ⟨rfl, hb⟩

end Go.Proofs.Ythlaglhlmbkniaa
