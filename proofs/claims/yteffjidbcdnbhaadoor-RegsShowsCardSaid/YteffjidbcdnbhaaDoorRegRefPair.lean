/- The document's Pair, PutPair, Tick: their contracts. -/
import Derived.Test.YteffjidbcdnbhaaDoorRegRefPut2
import Derived.Test.YteffjidbcdnbhaaDoorRegEx
namespace Go.Proofs.YteffjidbcdnbhaaDoor
open Go.RowKit

theorem ret_u8 {a b : Int} (h : a = b) : Ending.returned (.int .u8 a) = .returned (.int .u8 b) := by rw [h]
set_option maxHeartbeats 400000 in
theorem refTick_any (r : Int) (w : World) (r0 : 0 ≤ r) (r1 : r ≤ 255) : Calls Tryd.prog 20 #[.int .u8 r] w fun e w' => e = .returned (.int .u8 (tickV r)) ∧ w = w' := by
  unfold tickV
  by_cases h : 128 ≤ r
  · rw [if_pos h]
    go_enter Tryd.func20, Tryd.ntmps20
    go_wp2_with fail
    go_ret
    exact ⟨ret_u8 (by omega), rfl⟩
  · rw [if_neg h]
    have hd : decide (128 ≤ r) = false := decide_eq_false h
    go_enter Tryd.func20, Tryd.ntmps20
    go_wp2_with fail
    go_ret
    exact ⟨ret_u8 (by omega), rfl⟩

set_option maxHeartbeats 400000 in
theorem refPair_sp (x : Rg) (i : Int) (w : World) : Calls Tryd.prog 16 #[.agg x.cells.toArray, .int .i64 3, .int .i64 i] w fun e w' => e = .returned (.int .u16 x.sp) ∧ Below w.heap.size w w' := by
  have K := Lib.hid (RegAt.new w x 24)
  go_enter Tryd.func16, Tryd.ntmps16
  go_upto_region 2 with (fail)
  have k := K.out
  clear K
  have hb : Below w.heap.size w (w.alloc (.cells x.cells.toArray 24)) := (Below.refl _ _).alloc (Nat.le_refl _) _
  generalize w.alloc (.cells x.cells.toArray 24) = w1 at k hb ⊢
  have c := k.cell 21 _ rfl
  have B := Lib.hid hb
  clear k hb
  go_wp2_with fail
  go_ret
  exact ⟨rfl, B.out⟩
set_option maxHeartbeats 400000 in
theorem refPair_no (x : Rg) (k i : Int) (w : World) (h : k < 0 ∨ 3 < k) : Calls Tryd.prog 16 #[.agg x.cells.toArray, .int .i64 k, .int .i64 i] w fun e w' => e = .returned (.int .u16 0) ∧ Below w.heap.size w w' := by
  have n3 : (k == 3) = false := by simp; omega
  rcases h with h | h
  · go_enter Tryd.func16, Tryd.ntmps16
    go_wp2_with fail
    go_ret
    exact ⟨rfl, (Below.refl _ _).alloc (Nat.le_refl _) _⟩
  · have h0 : decide (k < 0) = false := by simp; omega
    go_enter Tryd.func16, Tryd.ntmps16
    go_wp2_with fail
    go_ret
    exact ⟨rfl, (Below.refl _ _).alloc (Nat.le_refl _) _⟩
set_option maxHeartbeats 800000 in
theorem refPair_0 (x : Rg) (i : Int) (w : World) (ok : x.Ok) (hp : B8 x.b) (hq : B8 x.c) : Calls Tryd.prog 16 #[.agg x.cells.toArray, .int .i64 0, .int .i64 i] w fun e w' => e = .returned (.int .u16 (256 * x.b + x.c)) ∧ Below w.heap.size w w' := by
  have HL := Lib.hid (fun w => list_any x i w ok)
  have K := Lib.hid (RegAt.new w x 24)
  have q0 := hp.1
  have q1 := hp.2
  have q2 := hq.1
  have q3 := hq.2
  have a0 : IntKind.i64.wrap (256 * x.b) = 256 * x.b := IntWalk.i64_in _ (by omega)
  have a1 : IntKind.i64.wrap (256 * x.b + x.c) = 256 * x.b + x.c := IntWalk.i64_in _ (by omega)
  have a2 : IntKind.u16.wrap (256 * x.b + x.c) = 256 * x.b + x.c := by rw [wrap_u16w]; omega
  clear ok hp hq
  go_enter Tryd.func16, Tryd.ntmps16
  go_upto_region 5 with (fail)
  have k := K.out
  clear K
  have hb : Below w.heap.size w (w.alloc (.cells x.cells.toArray 24)) := (Below.refl _ _).alloc (Nat.le_refl _) _
  generalize w.alloc (.cells x.cells.toArray 24) = w1 at k hb ⊢
  have R := Lib.hid k
  have B := Lib.hid hb
  clear k hb
  go_wp2_with (refine wpList_load_regs R.out rfl _ rfl rfl ?_)
  refine (HL.out _).mono ?_
  rintro e w2 ⟨g, rfl, hg, hgc, hb2⟩
  have c0 : w2.cell? ⟨g, 0, none⟩ = some (.int .u8 x.b) := cell_of_row w2 g 0 _ _ _ hgc
  have c1 : w2.cell? ⟨g, 1, none⟩ = some (.int .u8 x.c) := cell_of_row w2 g 1 _ _ _ hgc
  have B2 := Lib.hid (below_step B.out hb2)
  clear hgc hb2 hg
  go_wp2_with fail
  go_quiet (fail)
  go_wp2_with fail
  go_ret
  exact ⟨rfl, B2.out.trans (below_drewN2 _ _ _)⟩
set_option maxHeartbeats 800000 in
theorem refPair_1 (x : Rg) (i : Int) (w : World) (ok : x.Ok) (hp : B8 x.d) (hq : B8 x.e) : Calls Tryd.prog 16 #[.agg x.cells.toArray, .int .i64 1, .int .i64 i] w fun e w' => e = .returned (.int .u16 (256 * x.d + x.e)) ∧ Below w.heap.size w w' := by
  have HL := Lib.hid (fun w => list_any x i w ok)
  have K := Lib.hid (RegAt.new w x 24)
  have q0 := hp.1
  have q1 := hp.2
  have q2 := hq.1
  have q3 := hq.2
  have a0 : IntKind.i64.wrap (256 * x.d) = 256 * x.d := IntWalk.i64_in _ (by omega)
  have a1 : IntKind.i64.wrap (256 * x.d + x.e) = 256 * x.d + x.e := IntWalk.i64_in _ (by omega)
  have a2 : IntKind.u16.wrap (256 * x.d + x.e) = 256 * x.d + x.e := by rw [wrap_u16w]; omega
  clear ok hp hq
  go_enter Tryd.func16, Tryd.ntmps16
  go_upto_region 5 with (fail)
  have k := K.out
  clear K
  have hb : Below w.heap.size w (w.alloc (.cells x.cells.toArray 24)) := (Below.refl _ _).alloc (Nat.le_refl _) _
  generalize w.alloc (.cells x.cells.toArray 24) = w1 at k hb ⊢
  have R := Lib.hid k
  have B := Lib.hid hb
  clear k hb
  go_wp2_with (refine wpList_load_regs R.out rfl _ rfl rfl ?_)
  refine (HL.out _).mono ?_
  rintro e w2 ⟨g, rfl, hg, hgc, hb2⟩
  have c0 : w2.cell? ⟨g, 2, none⟩ = some (.int .u8 x.d) := cell_of_row w2 g 2 _ _ _ hgc
  have c1 : w2.cell? ⟨g, 3, none⟩ = some (.int .u8 x.e) := cell_of_row w2 g 3 _ _ _ hgc
  have B2 := Lib.hid (below_step B.out hb2)
  clear hgc hb2 hg
  go_wp2_with fail
  go_quiet (fail)
  go_wp2_with fail
  go_ret
  exact ⟨rfl, B2.out.trans (below_drewN2 _ _ _)⟩
set_option maxHeartbeats 800000 in
theorem refPair_2 (x : Rg) (i : Int) (w : World) (ok : x.Ok) (hp : B8 (hiX x i)) (hq : B8 (loX x i)) : Calls Tryd.prog 16 #[.agg x.cells.toArray, .int .i64 2, .int .i64 i] w fun e w' => e = .returned (.int .u16 (256 * (hiX x i) + (loX x i))) ∧ Below w.heap.size w w' := by
  have HL := Lib.hid (fun w => list_any x i w ok)
  have K := Lib.hid (RegAt.new w x 24)
  have q0 := hp.1
  have q1 := hp.2
  have q2 := hq.1
  have q3 := hq.2
  have a0 : IntKind.i64.wrap (256 * (hiX x i)) = 256 * (hiX x i) := IntWalk.i64_in _ (by omega)
  have a1 : IntKind.i64.wrap (256 * (hiX x i) + (loX x i)) = 256 * (hiX x i) + (loX x i) := IntWalk.i64_in _ (by omega)
  have a2 : IntKind.u16.wrap (256 * (hiX x i) + (loX x i)) = 256 * (hiX x i) + (loX x i) := by rw [wrap_u16w]; omega
  clear ok hp hq
  go_enter Tryd.func16, Tryd.ntmps16
  go_upto_region 5 with (fail)
  have k := K.out
  clear K
  have hb : Below w.heap.size w (w.alloc (.cells x.cells.toArray 24)) := (Below.refl _ _).alloc (Nat.le_refl _) _
  generalize w.alloc (.cells x.cells.toArray 24) = w1 at k hb ⊢
  have R := Lib.hid k
  have B := Lib.hid hb
  clear k hb
  go_wp2_with (refine wpList_load_regs R.out rfl _ rfl rfl ?_)
  refine (HL.out _).mono ?_
  rintro e w2 ⟨g, rfl, hg, hgc, hb2⟩
  have c0 : w2.cell? ⟨g, 4, none⟩ = some (.int .u8 (hiX x i)) := cell_of_row w2 g 4 _ _ _ hgc
  have c1 : w2.cell? ⟨g, 5, none⟩ = some (.int .u8 (loX x i)) := cell_of_row w2 g 5 _ _ _ hgc
  have B2 := Lib.hid (below_step B.out hb2)
  clear hgc hb2 hg
  go_wp2_with fail
  go_quiet (fail)
  go_wp2_with fail
  go_ret
  exact ⟨rfl, B2.out.trans (below_drewN2 _ _ _)⟩
theorem hi_bd (x : Rg) (i : Int) (ok : x.Ok) : B8 (hiX x i) := by
  obtain ⟨x0, x1⟩ := ok.ix; obtain ⟨y0, y1⟩ := ok.iy; obtain ⟨h0, h1⟩ := ok.h
  unfold hiX B8; repeat' split
  all_goals omega
theorem lo_bd (x : Rg) (i : Int) (ok : x.Ok) : B8 (loX x i) := by
  obtain ⟨x0, x1⟩ := ok.ix; obtain ⟨y0, y1⟩ := ok.iy; obtain ⟨h0, h1⟩ := ok.l
  unfold loX B8; repeat' split
  all_goals omega
theorem refPair_any (x : Rg) (k i : Int) (w : World) (ok : x.Ok) : Calls Tryd.prog 16 #[.agg x.cells.toArray, .int .i64 k, .int .i64 i] w fun e w' => e = .returned (.int .u16 (pairV x k i)) ∧ Below w.heap.size w w' := by
  by_cases h0 : k = 0
  · subst h0
    have := refPair_0 x i w ok ok.b ok.c
    rw [Int.mul_comm] at this; exact this
  by_cases h1 : k = 1
  · subst h1
    have := refPair_1 x i w ok ok.d ok.e
    rw [Int.mul_comm] at this; exact this
  by_cases h2 : k = 2
  · subst h2
    have := refPair_2 x i w ok (hi_bd x i ok) (lo_bd x i ok)
    have e : 256 * hiX x i + loX x i = pairV x 2 i := by
      rcases off_of i with ⟨rfl, _⟩ | ⟨rfl, _⟩ | ⟨h1, h2, _⟩
      · show 256 * (x.ix / 256) + x.ix % 256 = x.ix
        omega
      · show 256 * (x.iy / 256) + x.iy % 256 = x.iy
        omega
      · simp [hiX, loX, pairV, h1, h2, Int.mul_comm]
    rw [e] at this; exact this
  by_cases h3 : k = 3
  · subst h3
    exact refPair_sp x i w
  · rw [show pairV x k i = 0 by simp [pairV, h0, h1, h2, h3]]
    exact refPair_no x k i w (by omega)

set_option maxHeartbeats 800000 in
theorem refPutPair_sp (x : Rg) (i n : Int) (w : World) : Calls Tryd.prog 17 #[.agg x.cells.toArray, .int .i64 3, .int .i64 i, .int .u16 n] w fun e w' => e = .returned (.agg (Rg.cells { x with sp := n }).toArray) ∧ Below w.heap.size w w' := by
  have K := Lib.hid (new_two w x 24)
  go_enter Tryd.func17, Tryd.ntmps17
  go_upto_region 1 with (fail)
  have k1 : RegAt ((w.alloc (.cells x.cells.toArray 24)).alloc (.cells #[.int .u8 0, .int .u8 0, .int .u8 0, .int .u8 0, .int .u8 0, .int .u8 0, .int .u8 0, .int .u8 0, .int .u8 0, .int .u8 0, .int .u8 0, .int .u8 0, .int .u8 0, .int .u8 0, .int .u8 0, .int .u8 0, .int .u8 0, .int .u8 0, .int .u8 0, .int .u16 0, .int .u16 0, .int .u16 0, .int .u16 0, .int .u16 0, .bool false, .bool false, .bool false, .bool false, .int .u8 0, .int .u8 0] 24)) w.heap.size x ∧ RegAt ((w.alloc (.cells x.cells.toArray 24)).alloc (.cells #[.int .u8 0, .int .u8 0, .int .u8 0, .int .u8 0, .int .u8 0, .int .u8 0, .int .u8 0, .int .u8 0, .int .u8 0, .int .u8 0, .int .u8 0, .int .u8 0, .int .u8 0, .int .u8 0, .int .u8 0, .int .u8 0, .int .u8 0, .int .u8 0, .int .u8 0, .int .u16 0, .int .u16 0, .int .u16 0, .int .u16 0, .int .u16 0, .bool false, .bool false, .bool false, .bool false, .int .u8 0, .int .u8 0] 24)) (w.heap.size + 1) Rg.zero ∧ Below w.heap.size w ((w.alloc (.cells x.cells.toArray 24)).alloc (.cells #[.int .u8 0, .int .u8 0, .int .u8 0, .int .u8 0, .int .u8 0, .int .u8 0, .int .u8 0, .int .u8 0, .int .u8 0, .int .u8 0, .int .u8 0, .int .u8 0, .int .u8 0, .int .u8 0, .int .u8 0, .int .u8 0, .int .u8 0, .int .u8 0, .int .u8 0, .int .u16 0, .int .u16 0, .int .u16 0, .int .u16 0, .int .u16 0, .bool false, .bool false, .bool false, .bool false, .int .u8 0, .int .u8 0] 24)) := K.out
  generalize (w.alloc (.cells x.cells.toArray 24)).alloc (.cells #[.int .u8 0, .int .u8 0, .int .u8 0, .int .u8 0, .int .u8 0, .int .u8 0, .int .u8 0, .int .u8 0, .int .u8 0, .int .u8 0, .int .u8 0, .int .u8 0, .int .u8 0, .int .u8 0, .int .u8 0, .int .u8 0, .int .u8 0, .int .u8 0, .int .u8 0, .int .u16 0, .int .u16 0, .int .u16 0, .int .u16 0, .int .u16 0, .bool false, .bool false, .bool false, .bool false, .int .u8 0, .int .u8 0] 24) = w1 at k1 ⊢
  have c := k1.1.cell 21 _ rfl
  have f := k1.1.free 21
  have wr := Wrote.setCell w.heap.size 21 w1 (.int .u16 n)
  have R := Lib.hid (k1.1.set (y := { x with sp := n }) 21 (.int .u16 n) (by decide) rfl)
  have Z := Lib.hid (k1.2.1.wrote wr (by omega))
  have F := Lib.hid ((k1.2.1.wrote wr (by omega)).fill { x with sp := n })
  have B := Lib.hid ((k1.2.2.trans (wr.below (Nat.le_refl _))).trans ((Wrote.setCells (w.heap.size + 1) (Rg.cells { x with sp := n }) 0 _).below (Nat.le_succ _)))
  clear k1 K wr
  go_wp2_with (first | refine wpList_load_regs R.out rfl _ rfl rfl ?_ | refine wpList_store_regs { x with sp := n } Z.out rfl _ _ rfl rfl rfl ?_)
  exact bodyPost_ret (results_regs rfl _ F.out rfl) rfl ⟨rfl, B.out⟩
set_option maxHeartbeats 800000 in
theorem refPutPair_no (x : Rg) (k i n : Int) (w : World) (h : k < 0 ∨ 3 < k) : Calls Tryd.prog 17 #[.agg x.cells.toArray, .int .i64 k, .int .i64 i, .int .u16 n] w fun e w' => e = .returned (.agg x.cells.toArray) ∧ Below w.heap.size w w' := by
  have n3 : (k == 3) = false := by simp; omega
  have K := Lib.hid (new_two w x 24)
  go_enter Tryd.func17, Tryd.ntmps17
  go_upto_region 1 with (fail)
  have k1 : RegAt ((w.alloc (.cells x.cells.toArray 24)).alloc (.cells #[.int .u8 0, .int .u8 0, .int .u8 0, .int .u8 0, .int .u8 0, .int .u8 0, .int .u8 0, .int .u8 0, .int .u8 0, .int .u8 0, .int .u8 0, .int .u8 0, .int .u8 0, .int .u8 0, .int .u8 0, .int .u8 0, .int .u8 0, .int .u8 0, .int .u8 0, .int .u16 0, .int .u16 0, .int .u16 0, .int .u16 0, .int .u16 0, .bool false, .bool false, .bool false, .bool false, .int .u8 0, .int .u8 0] 24)) w.heap.size x ∧ RegAt ((w.alloc (.cells x.cells.toArray 24)).alloc (.cells #[.int .u8 0, .int .u8 0, .int .u8 0, .int .u8 0, .int .u8 0, .int .u8 0, .int .u8 0, .int .u8 0, .int .u8 0, .int .u8 0, .int .u8 0, .int .u8 0, .int .u8 0, .int .u8 0, .int .u8 0, .int .u8 0, .int .u8 0, .int .u8 0, .int .u8 0, .int .u16 0, .int .u16 0, .int .u16 0, .int .u16 0, .int .u16 0, .bool false, .bool false, .bool false, .bool false, .int .u8 0, .int .u8 0] 24)) (w.heap.size + 1) Rg.zero ∧ Below w.heap.size w ((w.alloc (.cells x.cells.toArray 24)).alloc (.cells #[.int .u8 0, .int .u8 0, .int .u8 0, .int .u8 0, .int .u8 0, .int .u8 0, .int .u8 0, .int .u8 0, .int .u8 0, .int .u8 0, .int .u8 0, .int .u8 0, .int .u8 0, .int .u8 0, .int .u8 0, .int .u8 0, .int .u8 0, .int .u8 0, .int .u8 0, .int .u16 0, .int .u16 0, .int .u16 0, .int .u16 0, .int .u16 0, .bool false, .bool false, .bool false, .bool false, .int .u8 0, .int .u8 0] 24)) := K.out
  generalize (w.alloc (.cells x.cells.toArray 24)).alloc (.cells #[.int .u8 0, .int .u8 0, .int .u8 0, .int .u8 0, .int .u8 0, .int .u8 0, .int .u8 0, .int .u8 0, .int .u8 0, .int .u8 0, .int .u8 0, .int .u8 0, .int .u8 0, .int .u8 0, .int .u8 0, .int .u8 0, .int .u8 0, .int .u8 0, .int .u8 0, .int .u16 0, .int .u16 0, .int .u16 0, .int .u16 0, .int .u16 0, .bool false, .bool false, .bool false, .bool false, .int .u8 0, .int .u8 0] 24) = w1 at k1 ⊢
  have R := Lib.hid k1.1
  have Z := Lib.hid k1.2.1
  have F := Lib.hid (k1.2.1.fill x)
  have B := Lib.hid (k1.2.2.trans ((Wrote.setCells (w.heap.size + 1) x.cells 0 _).below (Nat.le_succ _)))
  clear k1 K
  rcases h with h | h
  · go_wp2_with (first | refine wpList_load_regs R.out rfl _ rfl rfl ?_ | refine wpList_store_regs x Z.out rfl _ _ rfl rfl rfl ?_)
    exact bodyPost_ret (results_regs rfl _ F.out rfl) rfl ⟨rfl, B.out⟩
  · have h0 : decide (k < 0) = false := by simp; omega
    go_wp2_with (first | refine wpList_load_regs R.out rfl _ rfl rfl ?_ | refine wpList_store_regs x Z.out rfl _ _ rfl rfl rfl ?_)
    exact bodyPost_ret (results_regs rfl _ F.out rfl) rfl ⟨rfl, B.out⟩
theorem putV_ok (x : Rg) (k i v : Int) (ok : x.Ok) (v8 : B8 v) : (putV x k i v).Ok := by
  obtain ⟨x0, x1⟩ := ok.ix; obtain ⟨y0, y1⟩ := ok.iy; obtain ⟨v0, v1⟩ := v8
  have p : B16 (v * 256 + x.ix % 256) := ⟨by omega, by omega⟩
  have q : B16 (v * 256 + x.iy % 256) := ⟨by omega, by omega⟩
  have r : B16 (x.ix / 256 * 256 + v) := ⟨by omega, by omega⟩
  have s : B16 (x.iy / 256 * 256 + v) := ⟨by omega, by omega⟩
  unfold putV putHi putLo
  repeat' split
  all_goals first | exact ok | exact { ok with b := ⟨v0, v1⟩ } | exact { ok with c := ⟨v0, v1⟩ } | exact { ok with d := ⟨v0, v1⟩ } | exact { ok with e := ⟨v0, v1⟩ } | exact { ok with h := ⟨v0, v1⟩ } | exact { ok with l := ⟨v0, v1⟩ } | exact { ok with a := ⟨v0, v1⟩ } | exact { ok with ix := p } | exact { ok with ix := r } | exact { ok with iy := q } | exact { ok with iy := s }
set_option maxHeartbeats 800000 in
theorem refPutPair_0 (x : Rg) (i n : Int) (w : World) (ok : x.Ok) (n0 : 0 ≤ n) (n1 : n ≤ 65535) : Calls Tryd.prog 17 #[.agg x.cells.toArray, .int .i64 0, .int .i64 i, .int .u16 n] w fun e w' => e = .returned (.agg (putV (putV x 0 i (n / 256)) 1 i (n % 256)).cells.toArray) ∧ Below w.heap.size w w' := by
  have v0 : B8 (n / 256) := ⟨by omega, by omega⟩
  have v1 : B8 (n % 256) := ⟨by omega, by omega⟩
  have HA := Lib.hid (fun w => refPut_any x 0 i (n / 256) w ok v0)
  have HB := Lib.hid (fun w => refPut_any (putV x 0 i (n / 256)) 1 i (n % 256) w (putV_ok x 0 i (n / 256) ok v0) v1)
  have K := Lib.hid (new_two w x 24)
  clear ok v0 v1
  go_enter Tryd.func17, Tryd.ntmps17
  go_upto_region 1 with (fail)
  have k1 : RegAt ((w.alloc (.cells x.cells.toArray 24)).alloc (.cells #[.int .u8 0, .int .u8 0, .int .u8 0, .int .u8 0, .int .u8 0, .int .u8 0, .int .u8 0, .int .u8 0, .int .u8 0, .int .u8 0, .int .u8 0, .int .u8 0, .int .u8 0, .int .u8 0, .int .u8 0, .int .u8 0, .int .u8 0, .int .u8 0, .int .u8 0, .int .u16 0, .int .u16 0, .int .u16 0, .int .u16 0, .int .u16 0, .bool false, .bool false, .bool false, .bool false, .int .u8 0, .int .u8 0] 24)) w.heap.size x ∧ RegAt ((w.alloc (.cells x.cells.toArray 24)).alloc (.cells #[.int .u8 0, .int .u8 0, .int .u8 0, .int .u8 0, .int .u8 0, .int .u8 0, .int .u8 0, .int .u8 0, .int .u8 0, .int .u8 0, .int .u8 0, .int .u8 0, .int .u8 0, .int .u8 0, .int .u8 0, .int .u8 0, .int .u8 0, .int .u8 0, .int .u8 0, .int .u16 0, .int .u16 0, .int .u16 0, .int .u16 0, .int .u16 0, .bool false, .bool false, .bool false, .bool false, .int .u8 0, .int .u8 0] 24)) (w.heap.size + 1) Rg.zero ∧ Below w.heap.size w ((w.alloc (.cells x.cells.toArray 24)).alloc (.cells #[.int .u8 0, .int .u8 0, .int .u8 0, .int .u8 0, .int .u8 0, .int .u8 0, .int .u8 0, .int .u8 0, .int .u8 0, .int .u8 0, .int .u8 0, .int .u8 0, .int .u8 0, .int .u8 0, .int .u8 0, .int .u8 0, .int .u8 0, .int .u8 0, .int .u8 0, .int .u16 0, .int .u16 0, .int .u16 0, .int .u16 0, .int .u16 0, .bool false, .bool false, .bool false, .bool false, .int .u8 0, .int .u8 0] 24)) := K.out
  generalize (w.alloc (.cells x.cells.toArray 24)).alloc (.cells #[.int .u8 0, .int .u8 0, .int .u8 0, .int .u8 0, .int .u8 0, .int .u8 0, .int .u8 0, .int .u8 0, .int .u8 0, .int .u8 0, .int .u8 0, .int .u8 0, .int .u8 0, .int .u8 0, .int .u8 0, .int .u8 0, .int .u8 0, .int .u8 0, .int .u8 0, .int .u16 0, .int .u16 0, .int .u16 0, .int .u16 0, .int .u16 0, .bool false, .bool false, .bool false, .bool false, .int .u8 0, .int .u8 0] 24) = w1 at k1 ⊢
  have R := Lib.hid k1.1
  have Z := Lib.hid k1.2.1
  have B := Lib.hid k1.2.2
  clear k1 K
  go_wp2_with (refine wpList_load_regs R.out rfl _ rfl rfl ?_)
  refine (HA.out _).mono ?_
  rintro e w2 ⟨rfl, hb2⟩
  have Z2 := Lib.hid (Z.out.below hb2)
  have B2 := Lib.hid (below_step B.out hb2)
  clear hb2 Z B R
  go_wp2_with fail
  refine (HB.out _).mono ?_
  rintro e w3 ⟨rfl, hb3⟩
  have Z3 := Lib.hid (Z2.out.below hb3)
  have F := Lib.hid ((Z2.out.below hb3).fill (putV (putV x 0 i (n / 256)) 1 i (n % 256)))
  have B3 := Lib.hid ((below_step B2.out hb3).trans ((Wrote.setCells (w.heap.size + 1) (putV (putV x 0 i (n / 256)) 1 i (n % 256)).cells 0 _).below (Nat.le_succ _)))
  clear hb3 Z2 B2
  go_wp2_with (refine wpList_store_regs (putV (putV x 0 i (n / 256)) 1 i (n % 256)) Z3.out rfl _ _ rfl rfl rfl ?_)
  exact bodyPost_ret (results_regs rfl _ F.out rfl) rfl ⟨rfl, B3.out⟩
set_option maxHeartbeats 800000 in
theorem refPutPair_1 (x : Rg) (i n : Int) (w : World) (ok : x.Ok) (n0 : 0 ≤ n) (n1 : n ≤ 65535) : Calls Tryd.prog 17 #[.agg x.cells.toArray, .int .i64 1, .int .i64 i, .int .u16 n] w fun e w' => e = .returned (.agg (putV (putV x 2 i (n / 256)) 3 i (n % 256)).cells.toArray) ∧ Below w.heap.size w w' := by
  have v0 : B8 (n / 256) := ⟨by omega, by omega⟩
  have v1 : B8 (n % 256) := ⟨by omega, by omega⟩
  have HA := Lib.hid (fun w => refPut_any x 2 i (n / 256) w ok v0)
  have HB := Lib.hid (fun w => refPut_any (putV x 2 i (n / 256)) 3 i (n % 256) w (putV_ok x 2 i (n / 256) ok v0) v1)
  have K := Lib.hid (new_two w x 24)
  clear ok v0 v1
  go_enter Tryd.func17, Tryd.ntmps17
  go_upto_region 1 with (fail)
  have k1 : RegAt ((w.alloc (.cells x.cells.toArray 24)).alloc (.cells #[.int .u8 0, .int .u8 0, .int .u8 0, .int .u8 0, .int .u8 0, .int .u8 0, .int .u8 0, .int .u8 0, .int .u8 0, .int .u8 0, .int .u8 0, .int .u8 0, .int .u8 0, .int .u8 0, .int .u8 0, .int .u8 0, .int .u8 0, .int .u8 0, .int .u8 0, .int .u16 0, .int .u16 0, .int .u16 0, .int .u16 0, .int .u16 0, .bool false, .bool false, .bool false, .bool false, .int .u8 0, .int .u8 0] 24)) w.heap.size x ∧ RegAt ((w.alloc (.cells x.cells.toArray 24)).alloc (.cells #[.int .u8 0, .int .u8 0, .int .u8 0, .int .u8 0, .int .u8 0, .int .u8 0, .int .u8 0, .int .u8 0, .int .u8 0, .int .u8 0, .int .u8 0, .int .u8 0, .int .u8 0, .int .u8 0, .int .u8 0, .int .u8 0, .int .u8 0, .int .u8 0, .int .u8 0, .int .u16 0, .int .u16 0, .int .u16 0, .int .u16 0, .int .u16 0, .bool false, .bool false, .bool false, .bool false, .int .u8 0, .int .u8 0] 24)) (w.heap.size + 1) Rg.zero ∧ Below w.heap.size w ((w.alloc (.cells x.cells.toArray 24)).alloc (.cells #[.int .u8 0, .int .u8 0, .int .u8 0, .int .u8 0, .int .u8 0, .int .u8 0, .int .u8 0, .int .u8 0, .int .u8 0, .int .u8 0, .int .u8 0, .int .u8 0, .int .u8 0, .int .u8 0, .int .u8 0, .int .u8 0, .int .u8 0, .int .u8 0, .int .u8 0, .int .u16 0, .int .u16 0, .int .u16 0, .int .u16 0, .int .u16 0, .bool false, .bool false, .bool false, .bool false, .int .u8 0, .int .u8 0] 24)) := K.out
  generalize (w.alloc (.cells x.cells.toArray 24)).alloc (.cells #[.int .u8 0, .int .u8 0, .int .u8 0, .int .u8 0, .int .u8 0, .int .u8 0, .int .u8 0, .int .u8 0, .int .u8 0, .int .u8 0, .int .u8 0, .int .u8 0, .int .u8 0, .int .u8 0, .int .u8 0, .int .u8 0, .int .u8 0, .int .u8 0, .int .u8 0, .int .u16 0, .int .u16 0, .int .u16 0, .int .u16 0, .int .u16 0, .bool false, .bool false, .bool false, .bool false, .int .u8 0, .int .u8 0] 24) = w1 at k1 ⊢
  have R := Lib.hid k1.1
  have Z := Lib.hid k1.2.1
  have B := Lib.hid k1.2.2
  clear k1 K
  go_wp2_with (refine wpList_load_regs R.out rfl _ rfl rfl ?_)
  refine (HA.out _).mono ?_
  rintro e w2 ⟨rfl, hb2⟩
  have Z2 := Lib.hid (Z.out.below hb2)
  have B2 := Lib.hid (below_step B.out hb2)
  clear hb2 Z B R
  go_wp2_with fail
  refine (HB.out _).mono ?_
  rintro e w3 ⟨rfl, hb3⟩
  have Z3 := Lib.hid (Z2.out.below hb3)
  have F := Lib.hid ((Z2.out.below hb3).fill (putV (putV x 2 i (n / 256)) 3 i (n % 256)))
  have B3 := Lib.hid ((below_step B2.out hb3).trans ((Wrote.setCells (w.heap.size + 1) (putV (putV x 2 i (n / 256)) 3 i (n % 256)).cells 0 _).below (Nat.le_succ _)))
  clear hb3 Z2 B2
  go_wp2_with (refine wpList_store_regs (putV (putV x 2 i (n / 256)) 3 i (n % 256)) Z3.out rfl _ _ rfl rfl rfl ?_)
  exact bodyPost_ret (results_regs rfl _ F.out rfl) rfl ⟨rfl, B3.out⟩
set_option maxHeartbeats 800000 in
theorem refPutPair_2 (x : Rg) (i n : Int) (w : World) (ok : x.Ok) (n0 : 0 ≤ n) (n1 : n ≤ 65535) : Calls Tryd.prog 17 #[.agg x.cells.toArray, .int .i64 2, .int .i64 i, .int .u16 n] w fun e w' => e = .returned (.agg (putV (putV x 4 i (n / 256)) 5 i (n % 256)).cells.toArray) ∧ Below w.heap.size w w' := by
  have v0 : B8 (n / 256) := ⟨by omega, by omega⟩
  have v1 : B8 (n % 256) := ⟨by omega, by omega⟩
  have HA := Lib.hid (fun w => refPut_any x 4 i (n / 256) w ok v0)
  have HB := Lib.hid (fun w => refPut_any (putV x 4 i (n / 256)) 5 i (n % 256) w (putV_ok x 4 i (n / 256) ok v0) v1)
  have K := Lib.hid (new_two w x 24)
  clear ok v0 v1
  go_enter Tryd.func17, Tryd.ntmps17
  go_upto_region 1 with (fail)
  have k1 : RegAt ((w.alloc (.cells x.cells.toArray 24)).alloc (.cells #[.int .u8 0, .int .u8 0, .int .u8 0, .int .u8 0, .int .u8 0, .int .u8 0, .int .u8 0, .int .u8 0, .int .u8 0, .int .u8 0, .int .u8 0, .int .u8 0, .int .u8 0, .int .u8 0, .int .u8 0, .int .u8 0, .int .u8 0, .int .u8 0, .int .u8 0, .int .u16 0, .int .u16 0, .int .u16 0, .int .u16 0, .int .u16 0, .bool false, .bool false, .bool false, .bool false, .int .u8 0, .int .u8 0] 24)) w.heap.size x ∧ RegAt ((w.alloc (.cells x.cells.toArray 24)).alloc (.cells #[.int .u8 0, .int .u8 0, .int .u8 0, .int .u8 0, .int .u8 0, .int .u8 0, .int .u8 0, .int .u8 0, .int .u8 0, .int .u8 0, .int .u8 0, .int .u8 0, .int .u8 0, .int .u8 0, .int .u8 0, .int .u8 0, .int .u8 0, .int .u8 0, .int .u8 0, .int .u16 0, .int .u16 0, .int .u16 0, .int .u16 0, .int .u16 0, .bool false, .bool false, .bool false, .bool false, .int .u8 0, .int .u8 0] 24)) (w.heap.size + 1) Rg.zero ∧ Below w.heap.size w ((w.alloc (.cells x.cells.toArray 24)).alloc (.cells #[.int .u8 0, .int .u8 0, .int .u8 0, .int .u8 0, .int .u8 0, .int .u8 0, .int .u8 0, .int .u8 0, .int .u8 0, .int .u8 0, .int .u8 0, .int .u8 0, .int .u8 0, .int .u8 0, .int .u8 0, .int .u8 0, .int .u8 0, .int .u8 0, .int .u8 0, .int .u16 0, .int .u16 0, .int .u16 0, .int .u16 0, .int .u16 0, .bool false, .bool false, .bool false, .bool false, .int .u8 0, .int .u8 0] 24)) := K.out
  generalize (w.alloc (.cells x.cells.toArray 24)).alloc (.cells #[.int .u8 0, .int .u8 0, .int .u8 0, .int .u8 0, .int .u8 0, .int .u8 0, .int .u8 0, .int .u8 0, .int .u8 0, .int .u8 0, .int .u8 0, .int .u8 0, .int .u8 0, .int .u8 0, .int .u8 0, .int .u8 0, .int .u8 0, .int .u8 0, .int .u8 0, .int .u16 0, .int .u16 0, .int .u16 0, .int .u16 0, .int .u16 0, .bool false, .bool false, .bool false, .bool false, .int .u8 0, .int .u8 0] 24) = w1 at k1 ⊢
  have R := Lib.hid k1.1
  have Z := Lib.hid k1.2.1
  have B := Lib.hid k1.2.2
  clear k1 K
  go_wp2_with (refine wpList_load_regs R.out rfl _ rfl rfl ?_)
  refine (HA.out _).mono ?_
  rintro e w2 ⟨rfl, hb2⟩
  have Z2 := Lib.hid (Z.out.below hb2)
  have B2 := Lib.hid (below_step B.out hb2)
  clear hb2 Z B R
  go_wp2_with fail
  refine (HB.out _).mono ?_
  rintro e w3 ⟨rfl, hb3⟩
  have Z3 := Lib.hid (Z2.out.below hb3)
  have F := Lib.hid ((Z2.out.below hb3).fill (putV (putV x 4 i (n / 256)) 5 i (n % 256)))
  have B3 := Lib.hid ((below_step B2.out hb3).trans ((Wrote.setCells (w.heap.size + 1) (putV (putV x 4 i (n / 256)) 5 i (n % 256)).cells 0 _).below (Nat.le_succ _)))
  clear hb3 Z2 B2
  go_wp2_with (refine wpList_store_regs (putV (putV x 4 i (n / 256)) 5 i (n % 256)) Z3.out rfl _ _ rfl rfl rfl ?_)
  exact bodyPost_ret (results_regs rfl _ F.out rfl) rfl ⟨rfl, B3.out⟩
theorem refPutPair_any (x : Rg) (k i n : Int) (w : World) (ok : x.Ok) (n0 : 0 ≤ n) (n1 : n ≤ 65535) : Calls Tryd.prog 17 #[.agg x.cells.toArray, .int .i64 k, .int .i64 i, .int .u16 n] w fun e w' => e = .returned (.agg (putPairV x k i n).cells.toArray) ∧ Below w.heap.size w w' := by
  by_cases h0 : k = 0
  · subst h0
    exact refPutPair_0 x i n w ok n0 n1
  by_cases h1 : k = 1
  · subst h1
    exact refPutPair_1 x i n w ok n0 n1
  by_cases h2 : k = 2
  · subst h2
    have := refPutPair_2 x i n w ok n0 n1
    have e : putV (putV x (2 * 2) i (n / 256)) (2 * 2 + 1) i (n % 256) = putPairV x 2 i n := by
      obtain ⟨x0, x1⟩ := ok.ix; obtain ⟨y0, y1⟩ := ok.iy
      rcases off_of i with ⟨rfl, _⟩ | ⟨rfl, _⟩ | ⟨h1, h2, _⟩
      · show ({ x with ix := (n / 256 * 256 + x.ix % 256) / 256 * 256 + n % 256 } : Rg) = { x with ix := n }
        rw [show (n / 256 * 256 + x.ix % 256) / 256 * 256 + n % 256 = n by omega]
      · show ({ x with iy := (n / 256 * 256 + x.iy % 256) / 256 * 256 + n % 256 } : Rg) = { x with iy := n }
        rw [show (n / 256 * 256 + x.iy % 256) / 256 * 256 + n % 256 = n by omega]
      · simp [putV, putHi, putLo, putPairV, h1, h2]
    exact e ▸ this
  by_cases h3 : k = 3
  · subst h3
    exact refPutPair_sp x i n w
  · rw [show putPairV x k i n = x by simp [putPairV, h0, h1, h2, h3]]
    exact refPutPair_no x k i n w (by omega)

end Go.Proofs.YteffjidbcdnbhaaDoor
