/- tzx.Parse: its contract, by that of block. -/
import Derived.Test.YthlaglhlmbkniaaTzxTape
import Derived.Test.YthlaglhlmbkniaaTzxPre
import Derived.Test.YthlaglhlmbkniaaWireEnd
namespace Go.Proofs.Ythlaglhlmbkniaa
open Go.RowKit
set_option linter.unusedVariables false
set_option linter.unusedSimpArgs false
set_option maxRecDepth 100000

/-- A file's answer: a tape, or a fault of its own. -/
def OutE (w : World) (o : Out) (x : Ending) (w' : World) : Prop := match o with
  | .ok M m n => ∃ B c, x = .returned (.tuple #[.agg #[.int .i64 M, .int .i64 m, .slice B n c], .nilIface]) ∧ Below w.heap.size w w'
  | .er e f => ∃ k, x = .returned (.tuple #[.agg #[.int .i64 0, .int .i64 0, .slice none 0 0], .iface 48 (.pointer (some ⟨k, 0, none⟩))]) ∧ w.heap.size ≤ k ∧ FaultAt w' k e f ∧ Below w.heap.size w w'
def ParseE (blk : Rst → Rst) (w : World) (l : List Int) (x : Ending) (w' : World) : Prop := ∃ o, OutIs blk l o ∧ OutE w o x w'
set_option maxHeartbeats 3200000 in
theorem parse_any (F : Nat → Prop) (A : Option Addr) (n cap : Nat) (l : List Int) (w : World) (hl : BAt8 F w A n cap l) (hn : n ≤ 1000000) (blk : Rst → Rst) (hB : ∀ (G : Nat → Prop) (u : World) (g : Nat), g < u.heap.size → (∀ i, G i → i < u.heap.size) → BlkOk G blk u g l) (hP : BlkOn blk l) :
    Calls Try.prog 15 #[.slice A n cap] w (ParseE blk w l) := by
  have kc := fun (w : World) (C : Array Value) (n c : Nat) => Lib.run_convert_bytes_const (P := Try.prog) w 25 5 C n c Try.underlying25 Try.underlying5
  have hlen := hl.len
  have hf := hl.fit
  have hm := hl.max
  unfold maxLen at hm
  have d : decide (1048576 < (n : Int)) = false := decide_eq_false (by omega)
  have d' : decide (1048576 < n) = false := decide_eq_false (by omega)
  have HL := Lib.hid hl
  have HB := Lib.hid hB
  have HP := Lib.hid hP
  have HW1 : Hid (Below w.heap.size w (w.alloc (.cells #[.int .i64 0, .int .i64 0, .slice none 0 0] 43))) := Lib.hid (bnew w _)
  have HPx := Lib.hid (fun fr q hq => prefix_any F _ _ A _ n cap 8 8 l sgn (hl.below (HW1.out.trans ((bnew _ (.cells #[.int .u8 90, .int .u8 88, .int .u8 84, .int .u8 97, .int .u8 112, .int .u8 101, .int .u8 33, .int .u8 26] 5 fr)).mono HW1.out.size))) (BAt8.new (w.alloc (.cells #[.int .i64 0, .int .i64 0, .slice none 0 0] 43)) sgn 5 fr #[.int .u8 90, .int .u8 88, .int .u8 84, .int .u8 97, .int .u8 112, .int .u8 101, .int .u8 33, .int .u8 26] 8 rfl rfl (by unfold maxLen; omega) (by decide)) q hq)
  have hz1 : (w.alloc (.cells #[.int .i64 0, .int .i64 0, .slice none 0 0] 43)).heap.size = w.heap.size + 1 := by simp
  simp only [hz1] at HPx
  have kc1 := kc (w.alloc (.cells #[.int .i64 0, .int .i64 0, .slice none 0 0] 43)) #[.int .u8 90, .int .u8 88, .int .u8 84, .int .u8 97, .int .u8 112, .int .u8 101, .int .u8 33, .int .u8 26] 8 8
  simp only [hz1] at kc1
  clear kc
  clear hl hB hP hz1
  by_cases hp : l.take 8 = sgn
  · have HQ := Lib.hid (fun fr => HPx.out fr true ⟨fun _ => hp, fun _ => rfl⟩)
    have HPp := Lib.hid hp
    clear hp HPx
    go_enter Try.func15, Try.ntmps15
    go_wp2_with fail
    refine (HQ.out _).mono ?_
    rintro x w1 ⟨rfl, rfl⟩
    clear kc1 HQ
    obtain ⟨W2, hW2⟩ : ∃ W2, (w.alloc (.cells #[.int .i64 0, .int .i64 0, .slice none 0 0] 43)).alloc (.cells #[.int .u8 90, .int .u8 88, .int .u8 84, .int .u8 97, .int .u8 112, .int .u8 101, .int .u8 33, .int .u8 26] 5 (8, 9)) = W2 := ⟨_, rfl⟩
    have HZ2 : Hid (W2.heap[w.heap.size]? = some (.cells #[.int .i64 0, .int .i64 0, .slice none 0 0] 43 (0, 0)) ∧ Below w.heap.size w W2) := Lib.hid (by
      rw [← hW2]
      exact ⟨((bnew _ _).block _ (by simp)).trans (heap_alloc_new w _), HW1.out.trans ((bnew _ _).mono HW1.out.size)⟩)
    have HRd := Lib.hid (open_any F A n cap l W2 (HL.out.below HZ2.out.2) hn)
    go_wp2_with fail
    clear hW2
    refine HRd.out.mono ?_
    rintro x w3 ⟨g, rfl, hg, hr3, hb3⟩
    have HT := Lib.hid (tape_any _ blk w3 g l (show RS _ w3 g l ⟨0, 0, 0⟩ from hr3) (fun i hi => by have := hr3.lt; omega) (by omega) (HB.out _ w3 g hr3.lt fun i hi => by have := hr3.lt; omega) HP.out)
    have HZ3 : Hid (w3.heap[w.heap.size]? = some (.cells #[.int .i64 0, .int .i64 0, .slice none 0 0] 43 (0, 0)) ∧ Below w.heap.size w w3 ∧ w.heap.size < g) := Lib.hid ⟨(hb3.block _ (Array.getElem?_eq_some_iff.1 HZ2.out.1).1).trans HZ2.out.1, HZ2.out.2.trans (hb3.mono HZ2.out.2.size), by have := (Array.getElem?_eq_some_iff.1 HZ2.out.1).1; omega⟩
    clear hr3 hb3 hg HRd HL
    go_wp2_with fail
    refine HT.out.mono ?_
    rintro x w4 ⟨N, s, B, c, rfl, hti, hr4, hc4⟩
    have HZ4 : Hid (w4.heap[w.heap.size]? = some (.cells #[.int .i64 0, .int .i64 0, .slice none 0 0] 43 (0, 0)) ∧ Below w.heap.size w w4) := Lib.hid ⟨(hc4.block _ (Array.getElem?_eq_some_iff.1 HZ3.out.1).1 (by have := HZ3.out.2.2; omega)).trans HZ3.out.1, HZ3.out.2.1.trans (hc4.below (fun k hk => by have := HZ3.out.2.2; omega) HZ3.out.2.1.size)⟩
    have HTI := Lib.hid hti
    obtain ⟨M, hM⟩ : ∃ M, maj l = M := ⟨_, rfl⟩
    obtain ⟨m, hm'⟩ : ∃ m, mnr l = m := ⟨_, rfl⟩
    rw [hM, hm']
    have HMm := Lib.hid (And.intro hM hm')
    have HB5 : Hid (Below w4.heap.size w4 (w4.alloc (.cells #[.int .i64 M, .int .i64 m, .slice B N c] 43))) := Lib.hid (bnew w4 _)
    have HZ5 : Hid ((w4.alloc (.cells #[.int .i64 M, .int .i64 m, .slice B N c] 43)).heap[w.heap.size]? = some (.cells #[.int .i64 0, .int .i64 0, .slice none 0 0] 43 (0, 0)) ∧ Below w.heap.size w (w4.alloc (.cells #[.int .i64 M, .int .i64 m, .slice B N c] 43))) := Lib.hid ⟨(HB5.out.block _ (Array.getElem?_eq_some_iff.1 HZ4.out.1).1).trans HZ4.out.1, HZ4.out.2.trans (HB5.out.mono HZ4.out.2.size)⟩
    have HR5 := Lib.hid (hr4.below HB5.out)
    have HT5 : Hid ((w4.alloc (.cells #[.int .i64 M, .int .i64 m, .slice B N c] 43)).heap[w4.heap.size]? = some (.cells #[.int .i64 M, .int .i64 m, .slice B N c] 43 (0, 0))) := Lib.hid (heap_alloc_new w4 _)
    clear hti hr4 hc4 hM hm' HT
    by_cases he : s.e = 0
    · have hp : s.p = l.length := by
        have h1 := HTI.out.full he
        have h2 := HR5.out.fit
        omega
      have HE := Lib.hid (by
        have := HR5.out
        unfold RS at this
        rw [he] at this
        exact end_ok _ _ g l s.p s.f this hp (by omega))
      have q : ∀ u, (binOp .neq 45 .nilIface .nilIface).run Try.prog u = .ok (.bool false) u := fun _ => rfl
      have HO : Hid (OutIs blk l (.ok M m N)) := Lib.hid (Or.inr ⟨HPp.out, N, s, HTI.out, Or.inl ⟨he, by rw [HMm.out.1, HMm.out.2]⟩⟩)
      clear he hp
      go_wp2_with fail
      refine HE.out.mono ?_
      rintro x w5 ⟨rfl, k5, rfl⟩
      obtain ⟨W5, hW5⟩ : ∃ W5, (w4.alloc (.cells #[.int .i64 M, .int .i64 m, .slice B N c] 43)).drewN k5 = W5 := ⟨_, rfl⟩
      have HZ6 : Hid (W5.heap[w.heap.size]? = some (.cells #[.int .i64 0, .int .i64 0, .slice none 0 0] 43 (0, 0)) ∧ Below w.heap.size w W5) := Lib.hid (by rw [← hW5]; exact ⟨HZ5.out.1, bdrawn HZ5.out.2 k5⟩)
      have HT6 : Hid (W5.heap[w4.heap.size]? = some (.cells #[.int .i64 M, .int .i64 m, .slice B N c] 43 (0, 0))) := Lib.hid (by rw [← hW5]; exact HT5.out)
      try rw [hW5]
      clear hW5 HE HT5 HZ5 HR5 HB5
      obtain ⟨gt, hgt⟩ : ∃ gt, w4.heap.size = gt := ⟨_, rfl⟩
      rw [hgt] at HT6
      have a0 := cell_of_row W5 gt 0 _ _ (0, 0) HT6.out
      have a1 := cell_of_row W5 gt 1 _ _ (0, 0) HT6.out
      have a2 := cell_of_row W5 gt 2 _ _ (0, 0) HT6.out
      simp at a0 a1 a2
      have b0 := cell_of_row W5 _ 0 _ _ (0, 0) HZ6.out.1
      have b1 := cell_of_row W5 _ 1 _ _ (0, 0) HZ6.out.1
      have b2 := cell_of_row W5 _ 2 _ _ (0, 0) HZ6.out.1
      simp at b0 b1 b2
      have f0 := frozen_of_row W5 _ 0 _ _ HZ6.out.1
      have f1 := frozen_of_row W5 _ 1 _ _ HZ6.out.1
      have f2 := frozen_of_row W5 _ 2 _ _ HZ6.out.1
      have HH := Lib.hid (tpPut_heap HZ6.out.1 M m B N c)
      have HR : Hid (ParseE blk w l (.returned (.tuple #[.agg #[.int .i64 M, .int .i64 m, .slice B N c], .nilIface])) (tpPut W5 w.heap.size M m B N c)) := Lib.hid ⟨_, HO.out, B, c, rfl, HZ6.out.2.trans ((tpPut_ch W5 w.heap.size M m B N c).below (fun k hk => by omega) HZ6.out.2.size)⟩
      go_wp2_with fail
      exact bodyPost_ret (results_tp2 rfl _ HH.out rfl .nilIface rfl) rfl HR.out
    · have HE := Lib.hid (end_bad _ _ g l s.p s.e s.f HR5.out he)
      have HO : Hid (OutIs blk l (.er s.e s.f)) := Lib.hid (Or.inr ⟨HPp.out, N, s, HTI.out, Or.inr ⟨he, rfl⟩⟩)
      clear he
      go_wp2_with fail
      refine HE.out.mono ?_
      rintro x W5 ⟨k5, rfl, hk5, hf5, hb5⟩
      have q : ∀ u, (binOp .neq 45 (.iface 48 (.pointer (some ⟨k5, 0, none⟩))) .nilIface).run Try.prog u = .ok (.bool true) u := fun _ => rfl
      have HZ6 : Hid (W5.heap[w.heap.size]? = some (.cells #[.int .i64 0, .int .i64 0, .slice none 0 0] 43 (0, 0)) ∧ Below w.heap.size w W5) := Lib.hid ⟨(hb5.block _ (Array.getElem?_eq_some_iff.1 HZ5.out.1).1).trans HZ5.out.1, HZ5.out.2.trans (hb5.mono HZ5.out.2.size)⟩
      have HF5 := Lib.hid hf5
      have HK5 : Hid (w.heap.size < k5) := Lib.hid (Nat.lt_of_lt_of_le (Array.getElem?_eq_some_iff.1 HZ5.out.1).1 hk5)
      clear hk5 hf5 hb5 HE HT5 HZ5 HR5 HB5
      have b0 := cell_of_row W5 _ 0 _ _ (0, 0) HZ6.out.1
      have b1 := cell_of_row W5 _ 1 _ _ (0, 0) HZ6.out.1
      have b2 := cell_of_row W5 _ 2 _ _ (0, 0) HZ6.out.1
      simp at b0 b1 b2
      have f0 := frozen_of_row W5 _ 0 _ _ HZ6.out.1
      have f1 := frozen_of_row W5 _ 1 _ _ HZ6.out.1
      have f2 := frozen_of_row W5 _ 2 _ _ HZ6.out.1
      have HH := Lib.hid (tpPut_heap HZ6.out.1 0 0 none 0 0)
      have HR : Hid (ParseE blk w l (.returned (.tuple #[.agg #[.int .i64 0, .int .i64 0, .slice none 0 0], .iface 48 (.pointer (some ⟨k5, 0, none⟩))])) (tpPut W5 w.heap.size 0 0 none 0 0)) := Lib.hid ⟨_, HO.out, k5, rfl, Nat.le_of_lt HK5.out, ((tpPut_ch W5 w.heap.size 0 0 none 0 0).block k5 HF5.out.lt (by have := HK5.out; omega)).trans HF5.out, HZ6.out.2.trans ((tpPut_ch W5 w.heap.size 0 0 none 0 0).below (fun k hk => by omega) HZ6.out.2.size)⟩
      go_wp2_with fail
      exact bodyPost_ret (results_tp2 rfl _ HH.out rfl (.iface 48 (.pointer (some ⟨k5, 0, none⟩))) rfl) rfl HR.out
  · have HQ := Lib.hid (fun fr => HPx.out fr false ⟨fun x => (by cases x), fun x => absurd x hp⟩)
    have HO : Hid (OutIs blk l (.er 3 0)) := Lib.hid (Or.inl ⟨hp, rfl⟩)
    clear hp HPx
    go_enter Try.func15, Try.ntmps15
    go_wp2_with fail
    refine (HQ.out _).mono ?_
    rintro x w1 ⟨rfl, rfl⟩
    clear kc1 HQ
    have HH : Hid ((((w.alloc (.cells #[.int .i64 0, .int .i64 0, .slice none 0 0] 43)).alloc (.cells #[.int .u8 90, .int .u8 88, .int .u8 84, .int .u8 97, .int .u8 112, .int .u8 101, .int .u8 33, .int .u8 26] 5 (8, 9))).alloc (.cells #[.int .i64 3, .int .i64 0] 51)).heap[w.heap.size]? = some (.cells #[.int .i64 0, .int .i64 0, .slice none 0 0] 43 (0, 0))) := Lib.hid (((bnew _ _).block _ (by simp; omega)).trans (((bnew _ _).block _ (by simp)).trans (heap_alloc_new w _)))
    have HR : Hid (ParseE blk w l (.returned (.tuple #[.agg #[.int .i64 0, .int .i64 0, .slice none 0 0], .iface 48 (.pointer (some ⟨w.heap.size + 1 + 1, 0, none⟩))])) (((w.alloc (.cells #[.int .i64 0, .int .i64 0, .slice none 0 0] 43)).alloc (.cells #[.int .u8 90, .int .u8 88, .int .u8 84, .int .u8 97, .int .u8 112, .int .u8 101, .int .u8 33, .int .u8 26] 5 (8, 9))).alloc (.cells #[.int .i64 3, .int .i64 0] 51))) := Lib.hid ⟨_, HO.out, w.heap.size + 1 + 1, rfl, by omega, by
        have := heap_alloc_new ((w.alloc (.cells #[.int .i64 0, .int .i64 0, .slice none 0 0] 43)).alloc (.cells #[.int .u8 90, .int .u8 88, .int .u8 84, .int .u8 97, .int .u8 112, .int .u8 101, .int .u8 33, .int .u8 26] 5 (8, 9))) (.cells #[.int .i64 3, .int .i64 0] 51)
        simpa [FaultAt] using this, ((bnew w _).alloc (by simp) _).alloc (by simp; omega) _⟩
    go_wp2_with fail
    exact bodyPost_ret (results_tp2 rfl _ HH.out rfl (.iface 48 (.pointer (some ⟨w.heap.size + 1 + 1, 0, none⟩))) rfl) rfl HR.out

end Go.Proofs.Ythlaglhlmbkniaa
