/- The law BoardNews of layer 11, walked. -/
import Derived.Test.YtkcfacbnbjkheaaBoardTell
import Derived.Deep.QuietTactic
import Derived.BigQuiet
import Derived.Deep.DeepCutAuto
namespace Go.Proofs.Ytkcfacbnbjkheaa
open Go.RowKit

theorem make_at (n : Nat) (hn : n ≤ 1000000) : ∀ u : World, (Instr.makeSlice 22 (.int .i64 (n : Int)) (.int .i64 (n : Int))).run Try.prog u = .ok (.slice (some ⟨u.heap.size, 0, none⟩) n n) (u.alloc (.cells (madeCells #[.int .u8 0] n) 5)) := fun u => by
  obtain ⟨i0, hi, hz0, hz1, hz2⟩ := info_parts infoU8
  have := run_make (P := Try.prog) u 22 5 i0 (.int .u8 0) Try.underlying22 hi hz0 .i64 .i64 n n (by omega) (by omega) (by rw [hz2]; omega) (by omega)
  rw [hz1] at this
  simp only [Int.toNat_natCast, Nat.mul_one] at this
  exact this
theorem made_at (n j : Nat) (h : j < n) : (madeCells #[.int .u8 0] n)[j]? = some (.int .u8 0) := by
  unfold madeCells
  rw [Array.getElem?_map, Array.getElem?_range, if_pos h]
  simp [Nat.mod_one]
theorem made_new (u : World) (n : Nat) : Cells (u.alloc (.cells (madeCells #[.int .u8 0] n) 5)) u.heap.size 5 n (fun _ => .int .u8 0) := Cells.new u _ _ n _ (size_madeCells _ _) (made_at n)
/-- How both rows stand: the first one filled up to k, the second one up to l. -/
structure Two (w wr : World) (N M g h k l : Nat) (x y : Int) : Prop where
  a : Cells wr g 5 N (fun j => .int .u8 (if j < k then x else 0))
  c : Cells wr h 5 M (fun j => .int .u8 (if j < l then y else 0))
  ne : g ≠ h
  g0 : w.heap.size ≤ g
  h0 : w.heap.size ≤ h
  bel : Below w.heap.size w wr
theorem Two.made1 (w : World) (N M n : Nat) (x y : Int) : Two w (((w.alloc (.cells (madeCells #[.int .u8 0] N) 5)).alloc (.cells (madeCells #[.int .u8 0] M) 5)).drewN n) N M w.heap.size (w.heap.size + 1) 0 0 x y := by
  have h1 := made_new w N
  have hb := balloc (w.alloc (.cells (madeCells #[.int .u8 0] N) 5)) (.cells (madeCells #[.int .u8 0] M) 5)
  have h2 := made_new (w.alloc (.cells (madeCells #[.int .u8 0] N) 5)) M
  have hs : (w.alloc (.cells (madeCells #[.int .u8 0] N) 5)).heap.size = w.heap.size + 1 := by simp
  rw [hs] at h2
  refine ⟨(h1.below hb).congr fun j _ => by rw [if_neg (by omega)], Cells.congr (C := fun _ => .int .u8 0) h2 fun j _ => by rw [if_neg (by omega)], by omega, Nat.le_refl _, by omega, ?_⟩
  have hb0 := balloc w (.cells (madeCells #[.int .u8 0] N) 5)
  have hbb := hb0.trans (hb.mono hb0.size)
  exact ⟨hbb.os, hbb.tape, hbb.output, hbb.size, hbb.block⟩
theorem Two.made2 (w : World) (N M n : Nat) (x y : Int) : Two w (((w.alloc (.cells (madeCells #[.int .u8 0] M) 5)).alloc (.cells (madeCells #[.int .u8 0] N) 5)).drewN n) N M (w.heap.size + 1) w.heap.size 0 0 x y := by
  have := Two.made1 w M N n y x
  exact ⟨this.c, this.a, this.ne.symm, this.h0, this.g0, this.bel⟩
theorem Two.set1 {w wr : World} {N M g h k l : Nat} {x y : Int} (t : Two w wr N M g h k l x y) : Two w (wr.setCell ⟨g, k, none⟩ (.int .u8 x)) N M g h (k + 1) l x y :=
  ⟨fill_next t.a, t.c.block (Below.heap_setCell _ _ _ _ t.ne.symm), t.ne, t.g0, t.h0, below_set t.bel _ _ _ t.g0⟩
theorem Two.set2 {w wr : World} {N M g h k l : Nat} {x y : Int} (t : Two w wr N M g h k l x y) : Two w (wr.setCell ⟨h, l, none⟩ (.int .u8 y)) N M g h k (l + 1) x y :=
  ⟨t.a.block (Below.heap_setCell _ _ _ _ t.ne), fill_next t.c, t.ne, t.g0, t.h0, below_set t.bel _ _ _ t.h0⟩
set_option maxRecDepth 20000 in
set_option maxHeartbeats 6400000 in
theorem news_walk (n m v : Int) (_ : (Lit.int .i64 n).wf = true) (_ : (Lit.int .i64 m).wf = true) (_ : (Lit.int .u8 v).wf = true) (w : World) :
    Calls Try.prog 3 #[.int .i64 n, .int .i64 m, .int .u8 v] w fun e w' => e = .returned (.bool true) ∧ Below w.heap.size w w' := by
  go_enter Try.func3, Try.ntmps3
  go_upto_region 1 with fail
  go_cut [7, 8] (fun s t wx => ∃ N M : Int, 0 ≤ N ∧ 0 ≤ M ∧ N ≤ 17000 ∧ M ≤ 50000 ∧ s = .int .i64 N ∧ t = .int .i64 M ∧ w = wx)
  case first =>
    go_wp2_with fail
    all_goals (go_meet; exact ⟨_, _, by omega, by omega, by omega, by omega, rfl, rfl, rfl⟩)
  case rest =>
    obtain ⟨N, M, hN0, hM0, hN, hM, rfl, rfl, rfl⟩ := hcut
    obtain ⟨N, rfl⟩ := Int.eq_ofNat_of_zero_le hN0
    obtain ⟨M, rfl⟩ := Int.eq_ofNat_of_zero_le hM0
    clear hN0 hM0
    obtain ⟨y, hy⟩ : ∃ y, IntKind.u8.wrap (v + 1) = y := ⟨_, rfl⟩
    have hk1 := make_at N (by omega)
    have hk2 := make_at M (by omega)
    go_upto_region 2 with fail
    go_cut [7, 8, 9, 10] (fun s t p q wx => ∃ g h : Nat, s = .int .i64 N ∧ t = .int .i64 M ∧ p = .slice (some ⟨g, 0, none⟩) N N ∧ q = .slice (some ⟨h, 0, none⟩) M M ∧ Hid (Two w wx N M g h 0 0 v y))
    case first =>
      go_wp2_with fail
      go_region
      all_goals
        go_wp2_with fail
        go_meet
        first
          | exact ⟨_, _, rfl, rfl, rfl, rfl, Lib.hid (Two.made1 w N M 1 v y)⟩
          | exact ⟨_, _, rfl, rfl, rfl, rfl, Lib.hid (Two.made2 w N M 1 v y)⟩
    case rest =>
      obtain ⟨g, h, rfl, rfl, rfl, rfl, HT⟩ := hcut
      clear hk1 hk2
      go_wp2_with fail
      go_loopw [11] (fun i wr => ∃ k : Nat, i = .int .i64 k ∧ k ≤ N ∧ Hid (Two w wr N M g h k 0 v y)) (fun i _ => N - (intOf i).toNat)
      case atStart => exact ⟨0, rfl, by omega, HT⟩
      case round =>
        obtain ⟨k, rfl, hk, HK⟩ := hrel
        by_cases hlt : k < N
        · have c : wr.cell? ⟨g, k, none⟩ = some (.int .u8 0) := by rw [HK.out.a.cell k hlt, if_neg (by omega)]
          have f := HK.out.a.frozen k
          have HN := Lib.hid HK.out.set1
          clear HT HK
          go_wp2_with fail
          go_roundw
          case rel => exact ⟨k + 1, by go_num, by omega, HN⟩
          case measure => simp [intOf]; omega
        · obtain rfl : k = N := by omega
          clear HT
          obtain ⟨wq, rfl⟩ : ∃ wq : World, wq = wr := ⟨_, rfl⟩
          go_wp2_with fail
          go_loopw [12] (fun i wr => ∃ l : Nat, i = .int .i64 l ∧ l ≤ M ∧ Hid (Two w wr k M g h k l v y)) (fun i _ => M - (intOf i).toNat)
          case atStart => exact ⟨0, rfl, by omega, HK⟩
          case round =>
            obtain ⟨l, rfl, hl, HL⟩ := hrel
            clear HK
            by_cases hlt : l < M
            · have c : wr.cell? ⟨h, l, none⟩ = some (.int .u8 0) := by rw [HL.out.c.cell l hlt, if_neg (by omega)]
              have f := HL.out.c.frozen l
              have HN := Lib.hid HL.out.set2
              clear HL
              go_wp2_with fail
              go_roundw
              case rel => exact ⟨l + 1, by go_num, by omega, HN⟩
              case measure => simp [intOf]; omega
            · obtain rfl : l = M := by omega
              have hb := HL.out.bel
              have HV := Lib.hid (fun u (hu : Below w.heap.size w u) => (lives11 u).mono (fun e w' hh => show e = .returned (.bool true) ∧ Below w.heap.size w w' from ⟨hh.1, hu.trans (hh.2.mono hu.size)⟩))
              by_cases hk6 : k = 16384
              · subst hk6
                have HS1 := Lib.hid (show SrcAt wr (some ⟨g, 0, none⟩) 16384 (fun _ => v) from Cells.src (HL.out.a.congr fun j hj => by rw [if_pos hj]))
                have HS2 := Lib.hid (show SrcAt wr (some ⟨h, 0, none⟩) l (fun _ => y) from Cells.src (HL.out.c.congr fun j hj => by rw [if_pos hj]))
                clear HL
                by_cases hl6 : 49152 < l
                · have HN := Lib.hid (new_long (some ⟨g, 0, none⟩) (some ⟨h, 0, none⟩) 16384 l l 0 wr hl6)
                  go_wp2_with fail
                  refine (HN.out).mono ?_
                  rintro e w' ⟨rfl, rfl⟩
                  go_wp2_with fail
                  refine (HV.out _ hb).mono ?_
                  rintro e w1 ⟨rfl, hb1⟩
                  go_wp2_with fail
                  go_ret
                  exact ⟨rfl, hb1⟩
                · have HN := Lib.hid (new_any (some ⟨g, 0, none⟩) (some ⟨h, 0, none⟩) 16384 l l (fun _ => v) (fun _ => y) 0 wr HS1.out HS2.out (by omega))
                  clear HS1 HS2
                  go_wp2_with fail
                  refine HN.out.mono ?_
                  rintro e w2 ⟨rfl, hB, hb2⟩
                  have HB := Lib.hid hB
                  have hb3 : Below w.heap.size w w2 := hb.trans (hb2.mono hb.size)
                  have HM := Lib.hid (fun j (hj : j < 65536) => hB.c_M j hj)
                  generalize wr.heap.size = b at *
                  clear HN hB hb2
                  go_wp2_with fail
                  go_loop [15] (fun i => ∃ j : Nat, i = .int .i64 j ∧ j ≤ 65542) (fun i => (65543 - intOf i).toNat)
                  case atStart => exact ⟨0, rfl, by omega⟩
                  case round =>
                    obtain ⟨j, rfl, hj⟩ := hrel
                    by_cases h0 : j < 65536
                    · have c := HM.out j h0
                      have i0 : (0 : Int) ≤ (j : Int) := by omega
                      have i1 : (j : Int) < 65536 := by omega
                      have e : (newS (fun _ => v) (fun _ => y) l (frameV 0)).M j = if j < 16384 then v else if j - 16384 < l then y else 0 := rfl
                      rw [e] at c
                      clear e
                      by_cases h1 : j < 16384
                      · rw [if_pos h1] at c
                        have i2 : (j : Int) < 16384 := by omega
                        clear h0 h1
                        go_wp2_with fail
                        go_round
                        case rel => exact ⟨j + 7, by go_num, by omega⟩
                        case measure => simp [intOf]; omega
                      · rw [if_neg h1] at c
                        have i2 : decide ((j : Int) < 16384) = false := decide_eq_false (by omega)
                        by_cases h2 : j < 16384 + l
                        · rw [if_pos (by omega)] at c
                          have i3 : decide ((j : Int) < 16384 + (l : Int)) = true := decide_eq_true (by omega)
                          clear h0 h1 h2
                          go_wp2_with fail
                          go_round
                          case rel => exact ⟨j + 7, by go_num, by omega⟩
                          case measure => simp [intOf]; omega
                        · rw [if_neg (by omega)] at c
                          have i3 : decide ((j : Int) < 16384 + (l : Int)) = false := decide_eq_false (by omega)
                          clear h0 h1 h2
                          go_wp2_with fail
                          go_round
                          case rel => exact ⟨j + 7, by go_num, by omega⟩
                          case measure => simp [intOf]; omega
                    · have i1 : decide ((j : Int) < 65536) = false := decide_eq_false (by omega)
                      clear HM hj h0 hl6 hy
                      have H1 := Lib.hid (show Calls Try.prog 7 #[.pointer (some ⟨b, 0, none⟩)] w2 fun e w' => e = .returned (.int .u64 0) ∧ w2 = w' from t_any _ _ _ _ _ _ HB.out)
                      have H2 := Lib.hid (acts_any _ _ _ _ _ _ HB.out (Nat.zero_le _))
                      go_wp2_with fail
                      refine (H1.out).mono ?_
                      rintro e w' ⟨rfl, rfl⟩
                      clear i1
                      go_wp2_with fail
                      refine H2.out.mono ?_
                      rintro e w3 ⟨va, rfl, hva, hb4⟩
                      obtain ⟨a1, c1, rfl, _, _⟩ := len_own hva
                      have HB3 := Lib.hid (HB.out.below hb4)
                      have hb5 : Below w.heap.size w w3 := hb3.trans (hb4.mono hb3.size)
                      have H3 := Lib.hid (edges_any _ _ _ _ _ _ HB3.out (Nat.zero_le _))
                      clear hva hb4 H2 H1 HB
                      go_wp2_with fail
                      refine H3.out.mono ?_
                      rintro e w4 ⟨ve, rfl, hve, hb6⟩
                      obtain ⟨a2, c2, rfl, _, _⟩ := len_own hve
                      have hB4 := HB3.out.below hb6
                      have hb7 : Below w.heap.size w w4 := hb5.trans (hb6.mono hb5.size)
                      have K1 := Lib.hid (show Calls Try.prog 10 #[.pointer (some ⟨b, 0, none⟩)] w4 fun e w' => e = .returned (.bool false) ∧ w4 = w' from mic_any _ _ _ _ _ _ hB4)
                      have K2 := Lib.hid (show Calls Try.prog 11 #[.pointer (some ⟨b, 0, none⟩)] w4 fun e w' => e = .returned (.bool false) ∧ w4 = w' from spk_any _ _ _ _ _ _ hB4)
                      have K3 := Lib.hid (show Calls Try.prog 12 #[.pointer (some ⟨b, 0, none⟩)] w4 fun e w' => e = .returned (.int .u8 0) ∧ w4 = w' from border_any _ _ _ _ _ _ hB4)
                      have d1 : w4.cell? ⟨b, 65544, none⟩ = some (.bool false) := hB4.c_slow
                      have d2 : w4.cell? ⟨b, 65545, none⟩ = some (.bool false) := hB4.c_ear
                      have d3 : w4.cell? ⟨b, 65546, none⟩ = some (.bool false) := hB4.c_log
                      clear hve hb6 H3 HB3 hB4 hb5 hb3
                      go_wp2_with fail
                      refine (K1.out).mono ?_
                      rintro e w' ⟨rfl, rfl⟩
                      go_wp2_with fail
                      refine (K2.out).mono ?_
                      rintro e w' ⟨rfl, rfl⟩
                      go_wp2_with fail
                      refine (K3.out).mono ?_
                      rintro e w' ⟨rfl, rfl⟩
                      go_wp2_with fail
                      refine (HV.out _ hb7).mono ?_
                      rintro e w1 ⟨rfl, hb1⟩
                      go_wp2_with fail
                      go_ret
                      exact ⟨rfl, hb1⟩
              · have HN := Lib.hid (new_short (some ⟨g, 0, none⟩) (some ⟨h, 0, none⟩) k k l l 0 wr hk6)
                have hk7 : ((k : Int) == 16384) = false := by simp; omega
                clear HL hk6 hy
                go_wp2_with fail
                refine (HN.out).mono ?_
                rintro e w' ⟨rfl, rfl⟩
                go_wp2_with fail
                refine (HV.out _ hb).mono ?_
                rintro e w1 ⟨rfl, hb1⟩
                go_wp2_with fail
                go_ret
                exact ⟨rfl, hb1⟩

end Go.Proofs.Ytkcfacbnbjkheaa
