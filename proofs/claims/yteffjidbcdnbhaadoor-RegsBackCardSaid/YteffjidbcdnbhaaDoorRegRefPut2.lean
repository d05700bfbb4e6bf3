/- The document's Put, of a number that there is: its contract. -/
import Derived.Test.YteffjidbcdnbhaaDoorRegRefPut
import Derived.IntWalk
namespace Go.Proofs.YteffjidbcdnbhaaDoor
open Go.RowKit

def five (x : Rg) (m0 m1 m2 m3 m7 : Int) : Rg := { x with b := m0, c := m1, d := m2, e := m3, a := m7 }
def eightR (x : Rg) (i m0 m1 m2 m3 m4 m5 m7 : Int) : Rg := if i = 1 then { five x m0 m1 m2 m3 m7 with ix := 256 * m4 + m5 } else if i = 2 then { five x m0 m1 m2 m3 m7 with iy := 256 * m4 + m5 } else { five x m0 m1 m2 m3 m7 with h := m4, l := m5 }

theorem ne_addr {g r : Nat} (h : r < g) (i j : Nat) : (⟨r, i, none⟩ : Addr) ≠ ⟨g, j, none⟩ := by intro e; injection e with e _; omega
theorem Eight.set {w : World} {g r : Nat} {a b c d e f h i : Int} (k : Eight w g a b c d e f h i) (hg : r < g) (o : Nat) (v : Value) : Eight (w.setCell ⟨r, o, none⟩ v) g a b c d e f h i := by
  obtain ⟨k0, k1, k2, k3, k4, k5, k6, k7⟩ := k
  unfold Eight
  simp only [World.cell?_setCell_other _ _ _ _ (ne_addr hg _ _)]
  exact ⟨k0, k1, k2, k3, k4, k5, k6, k7⟩

set_option maxRecDepth 100000 in
set_option maxHeartbeats 4000000 in
theorem refPut_core (x : Rg) (kk : Nat) (i v m0 m1 m2 m3 m4 m5 m7 : Int) (w : World) (ok : x.Ok) (hk : kk < 8) (h6 : kk ≠ 6) (b4 : B8 m4) (b5 : B8 m5)
    (e0 : m0 = if kk = 0 then v else x.b) (e1 : m1 = if kk = 1 then v else x.c) (e2 : m2 = if kk = 2 then v else x.d) (e3 : m3 = if kk = 3 then v else x.e) (e4 : m4 = if kk = 4 then v else hiX x i) (e5 : m5 = if kk = 5 then v else loX x i) (e7 : m7 = if kk = 7 then v else x.a) :
    Calls Tryd.prog 11 #[.agg x.cells.toArray, .int .i64 kk, .int .i64 i, .int .u8 v] w fun e w' => e = .returned (.agg (eightR x i m0 m1 m2 m3 m4 m5 m7).cells.toArray) ∧ Below w.heap.size w w' := by
  have HL := Lib.hid (fun w => list_any x i w ok)
  have K := Lib.hid (new_two w x 24)
  have n6 : ((kk : Int) == 6) = false := by simp; omega
  have E0 := Lib.hid e0
  have E1 := Lib.hid e1
  have E2 := Lib.hid e2
  have E3 := Lib.hid e3
  have E4 := Lib.hid e4
  have E5 := Lib.hid e5
  have E7 := Lib.hid e7
  have q0 : 0 ≤ m4 := b4.1
  have q1 : m4 ≤ 255 := b4.2
  have q2 : 0 ≤ m5 := b5.1
  have q3 : m5 ≤ 255 := b5.2
  clear ok e0 e1 e2 e3 e4 e5 e7 b4 b5 h6
  go_enter Tryd.func11, Tryd.ntmps11
  go_upto_region 1 with (fail)
  have k1 : RegAt ((w.alloc (.cells x.cells.toArray 24)).alloc (.cells #[.int .u8 0, .int .u8 0, .int .u8 0, .int .u8 0, .int .u8 0, .int .u8 0, .int .u8 0, .int .u8 0, .int .u8 0, .int .u8 0, .int .u8 0, .int .u8 0, .int .u8 0, .int .u8 0, .int .u8 0, .int .u8 0, .int .u8 0, .int .u8 0, .int .u8 0, .int .u16 0, .int .u16 0, .int .u16 0, .int .u16 0, .int .u16 0, .bool false, .bool false, .bool false, .bool false, .int .u8 0, .int .u8 0] 24)) w.heap.size x ∧ RegAt ((w.alloc (.cells x.cells.toArray 24)).alloc (.cells #[.int .u8 0, .int .u8 0, .int .u8 0, .int .u8 0, .int .u8 0, .int .u8 0, .int .u8 0, .int .u8 0, .int .u8 0, .int .u8 0, .int .u8 0, .int .u8 0, .int .u8 0, .int .u8 0, .int .u8 0, .int .u8 0, .int .u8 0, .int .u8 0, .int .u8 0, .int .u16 0, .int .u16 0, .int .u16 0, .int .u16 0, .int .u16 0, .bool false, .bool false, .bool false, .bool false, .int .u8 0, .int .u8 0] 24)) (w.heap.size + 1) Rg.zero ∧ Below w.heap.size w ((w.alloc (.cells x.cells.toArray 24)).alloc (.cells #[.int .u8 0, .int .u8 0, .int .u8 0, .int .u8 0, .int .u8 0, .int .u8 0, .int .u8 0, .int .u8 0, .int .u8 0, .int .u8 0, .int .u8 0, .int .u8 0, .int .u8 0, .int .u8 0, .int .u8 0, .int .u8 0, .int .u8 0, .int .u8 0, .int .u8 0, .int .u16 0, .int .u16 0, .int .u16 0, .int .u16 0, .int .u16 0, .bool false, .bool false, .bool false, .bool false, .int .u8 0, .int .u8 0] 24)) := K.out
  generalize (w.alloc (.cells x.cells.toArray 24)).alloc (.cells #[.int .u8 0, .int .u8 0, .int .u8 0, .int .u8 0, .int .u8 0, .int .u8 0, .int .u8 0, .int .u8 0, .int .u8 0, .int .u8 0, .int .u8 0, .int .u8 0, .int .u8 0, .int .u8 0, .int .u8 0, .int .u8 0, .int .u8 0, .int .u8 0, .int .u8 0, .int .u16 0, .int .u16 0, .int .u16 0, .int .u16 0, .int .u16 0, .bool false, .bool false, .bool false, .bool false, .int .u8 0, .int .u8 0] 24) = w1 at k1 ⊢
  have K1 := Lib.hid k1
  clear k1 K
  go_wp2_with (refine wpList_load_regs K1.out.1 rfl _ rfl rfl ?_)
  refine (HL.out _).mono ?_
  rintro e w2 ⟨g, rfl, hg, hgc, hb2⟩
  have r2 := K1.out.1.below hb2
  have z2 := K1.out.2.1.below hb2
  have b2 := below_step K1.out.2.2 hb2
  have s1 : w.heap.size + 1 < g := Nat.lt_of_lt_of_le K1.out.2.1.lt hg
  have ck : w2.cell? ⟨g, kk, none⟩ = some ((listV x i)[kk]'(by simpa [listV] using hk)) := by rw [cell_of_row w2 g kk _ _ _ hgc, Array.getElem?_eq_getElem]
  have fk : w2.frozen? ⟨g, kk, none⟩ = false := frozen_of_row w2 g kk _ _ hgc
  have k8 := eight_put hgc kk v hk
  rw [← E0.out, ← E1.out, ← E2.out, ← E3.out, ← E4.out, ← E5.out, ← E7.out] at k8
  have k3 : RegAt (w2.setCell ⟨g, kk, none⟩ (.int .u8 v)) w.heap.size x ∧ RegAt (w2.setCell ⟨g, kk, none⟩ (.int .u8 v)) (w.heap.size + 1) Rg.zero ∧ Eight (w2.setCell ⟨g, kk, none⟩ (.int .u8 v)) g m0 m1 m2 m3 m4 m5 (if kk = 6 then v else 0) m7 ∧ Below w.heap.size w (w2.setCell ⟨g, kk, none⟩ (.int .u8 v)) :=
    ⟨r2.wrote (Wrote.setCell g kk w2 _) (by omega), z2.wrote (Wrote.setCell g kk w2 _) (by omega), k8, b2.trans ((Wrote.setCell g kk w2 _).below (by omega))⟩
  have K3 := Lib.hid k3
  clear r2 z2 hgc hb2 hg b2 k8 k3
  go_upto_region 5 with (fail)
  have k3 := K3.out
  clear K3 ck fk
  generalize w2.setCell ⟨g, kk, none⟩ (.int .u8 v) = w4 at k3 ⊢
  have u1 : ¬ w.heap.size = g := by omega
  have u2 : ¬ g = w.heap.size := by omega
  have c0 := k3.1.cell 0 _ rfl
  have c2 := k3.1.cell 2 _ rfl
  have c3 := k3.1.cell 3 _ rfl
  have c4 := k3.1.cell 4 _ rfl
  have c5 := k3.1.cell 5 _ rfl
  have f0 := k3.1.free 0
  have f2 := k3.1.free 2
  have f3 := k3.1.free 3
  have f4 := k3.1.free 4
  have f5 := k3.1.free 5
  obtain ⟨g0, g1, g2, g3, g4, g5, g6, g7⟩ := k3.2.2.1
  have r5 : RegAt (((((w4.setCell ⟨w.heap.size, 2, none⟩ (.int .u8 m0)).setCell ⟨w.heap.size, 3, none⟩ (.int .u8 m1)).setCell ⟨w.heap.size, 4, none⟩ (.int .u8 m2)).setCell ⟨w.heap.size, 5, none⟩ (.int .u8 m3)).setCell ⟨w.heap.size, 0, none⟩ (.int .u8 m7)) w.heap.size (five x m0 m1 m2 m3 m7) :=
    ((((k3.1.set (y := { x with b := m0 }) 2 _ (by decide) rfl).set (y := { x with b := m0, c := m1 }) 3 _ (by decide) rfl).set (y := { x with b := m0, c := m1, d := m2 }) 4 _ (by decide) rfl).set (y := { x with b := m0, c := m1, d := m2, e := m3 }) 5 _ (by decide) rfl).set (y := five x m0 m1 m2 m3 m7) 0 _ (by decide) rfl
  have wr5 : Wrote w.heap.size w4 (((((w4.setCell ⟨w.heap.size, 2, none⟩ (.int .u8 m0)).setCell ⟨w.heap.size, 3, none⟩ (.int .u8 m1)).setCell ⟨w.heap.size, 4, none⟩ (.int .u8 m2)).setCell ⟨w.heap.size, 5, none⟩ (.int .u8 m3)).setCell ⟨w.heap.size, 0, none⟩ (.int .u8 m7)) :=
    ((((Wrote.setCell _ _ _ _).trans (Wrote.setCell _ _ _ _)).trans (Wrote.setCell _ _ _ _)).trans (Wrote.setCell _ _ _ _)).trans (Wrote.setCell _ _ _ _)
  have k5 : RegAt (((((w4.setCell ⟨w.heap.size, 2, none⟩ (.int .u8 m0)).setCell ⟨w.heap.size, 3, none⟩ (.int .u8 m1)).setCell ⟨w.heap.size, 4, none⟩ (.int .u8 m2)).setCell ⟨w.heap.size, 5, none⟩ (.int .u8 m3)).setCell ⟨w.heap.size, 0, none⟩ (.int .u8 m7)) w.heap.size (five x m0 m1 m2 m3 m7) ∧ RegAt (((((w4.setCell ⟨w.heap.size, 2, none⟩ (.int .u8 m0)).setCell ⟨w.heap.size, 3, none⟩ (.int .u8 m1)).setCell ⟨w.heap.size, 4, none⟩ (.int .u8 m2)).setCell ⟨w.heap.size, 5, none⟩ (.int .u8 m3)).setCell ⟨w.heap.size, 0, none⟩ (.int .u8 m7)) (w.heap.size + 1) Rg.zero ∧ Eight (((((w4.setCell ⟨w.heap.size, 2, none⟩ (.int .u8 m0)).setCell ⟨w.heap.size, 3, none⟩ (.int .u8 m1)).setCell ⟨w.heap.size, 4, none⟩ (.int .u8 m2)).setCell ⟨w.heap.size, 5, none⟩ (.int .u8 m3)).setCell ⟨w.heap.size, 0, none⟩ (.int .u8 m7)) g m0 m1 m2 m3 m4 m5 (if kk = 6 then v else 0) m7 ∧ Below w.heap.size w (((((w4.setCell ⟨w.heap.size, 2, none⟩ (.int .u8 m0)).setCell ⟨w.heap.size, 3, none⟩ (.int .u8 m1)).setCell ⟨w.heap.size, 4, none⟩ (.int .u8 m2)).setCell ⟨w.heap.size, 5, none⟩ (.int .u8 m3)).setCell ⟨w.heap.size, 0, none⟩ (.int .u8 m7)) :=
    ⟨r5, k3.2.1.wrote wr5 (by omega), ((((k3.2.2.1.set (by omega) _ _).set (by omega) _ _).set (by omega) _ _).set (by omega) _ _).set (by omega) _ _, k3.2.2.2.trans (wr5.below (Nat.le_refl _))⟩
  have K5 := Lib.hid k5
  have S1 := Lib.hid s1
  clear k3 r5 wr5 k5 s1
  go_upto_region 10 with (fail)
  have k5 := K5.out
  clear K5 c0 c2 c3 c4 c5 f0 f2 f3 f4 f5 g0 g1 g2 g3 g4 g5 g6 g7
  generalize ((((w4.setCell ⟨w.heap.size, 2, none⟩ (.int .u8 m0)).setCell ⟨w.heap.size, 3, none⟩ (.int .u8 m1)).setCell ⟨w.heap.size, 4, none⟩ (.int .u8 m2)).setCell ⟨w.heap.size, 5, none⟩ (.int .u8 m3)).setCell ⟨w.heap.size, 0, none⟩ (.int .u8 m7) = w5 at k5 ⊢
  obtain ⟨g0, g1, g2, g3, g4, g5, g6, g7⟩ := k5.2.2.1
  have a0 : IntKind.i64.wrap (256 * m4) = 256 * m4 := IntWalk.i64_in _ (by omega)
  have a1 : IntKind.i64.wrap (256 * m4 + m5) = 256 * m4 + m5 := IntWalk.i64_in _ (by omega)
  have a2 : IntKind.u16.wrap (256 * m4 + m5) = 256 * m4 + m5 := by rw [wrap_u16w]; omega
  have K5 := Lib.hid k5
  clear k5
  go_quiet (fail)
  clear a0 a1 a2 g0 g1 g2 g3 g6 g7
  have k6 : RegAt (w5.drewN nq) w.heap.size (five x m0 m1 m2 m3 m7) ∧ RegAt (w5.drewN nq) (w.heap.size + 1) Rg.zero ∧ Eight (w5.drewN nq) g m0 m1 m2 m3 m4 m5 (if kk = 6 then v else 0) m7 ∧ Below w.heap.size w (w5.drewN nq) :=
    ⟨K5.out.1.block rfl K5.out.1.lt, K5.out.2.1.block rfl K5.out.2.1.lt, K5.out.2.2.1, K5.out.2.2.2.trans (below_drewN2 _ _ _)⟩
  clear K5 g4 g5
  generalize w5.drewN nq = w6 at k6 ⊢
  obtain ⟨g0, g1, g2, g3, g4, g5, g6, g7⟩ := k6.2.2.1
  have K6 := Lib.hid k6
  clear k6 g0 g1 g2 g3 g6 g7
  have HG := S1.out
  rcases off_of i with ⟨rfl, hi⟩ | ⟨rfl, hi⟩ | ⟨h1, h2, hi⟩
  · have c := K6.out.1.cell 19 _ rfl
    have f := K6.out.1.free 19
    have R := Lib.hid (K6.out.1.set (y := eightR x 1 m0 m1 m2 m3 m4 m5 m7) 19 (.int .u16 (256 * m4 + m5)) (by decide) rfl)
    have wr := Wrote.setCell w.heap.size 19 w6 (.int .u16 (256 * m4 + m5))
    have Z := Lib.hid (K6.out.2.1.wrote wr (by omega))
    have F := Lib.hid ((K6.out.2.1.wrote wr (by omega)).fill (eightR x 1 m0 m1 m2 m3 m4 m5 m7))
    have B := Lib.hid ((K6.out.2.2.2.trans (wr.below (Nat.le_refl _))).trans ((Wrote.setCells (w.heap.size + 1) (eightR x 1 m0 m1 m2 m3 m4 m5 m7).cells 0 _).below (Nat.le_succ _)))
    clear wr K6 hi HG g4 g5
    go_wp2_with (first | refine wpList_load_regs R.out rfl _ rfl rfl ?_ | refine wpList_store_regs (eightR x 1 m0 m1 m2 m3 m4 m5 m7) Z.out rfl _ _ rfl rfl rfl ?_)
    exact bodyPost_ret (results_regs rfl _ F.out rfl) rfl ⟨rfl, B.out⟩
  · have c := K6.out.1.cell 20 _ rfl
    have f := K6.out.1.free 20
    have R := Lib.hid (K6.out.1.set (y := eightR x 2 m0 m1 m2 m3 m4 m5 m7) 20 (.int .u16 (256 * m4 + m5)) (by decide) rfl)
    have wr := Wrote.setCell w.heap.size 20 w6 (.int .u16 (256 * m4 + m5))
    have Z := Lib.hid (K6.out.2.1.wrote wr (by omega))
    have F := Lib.hid ((K6.out.2.1.wrote wr (by omega)).fill (eightR x 2 m0 m1 m2 m3 m4 m5 m7))
    have B := Lib.hid ((K6.out.2.2.2.trans (wr.below (Nat.le_refl _))).trans ((Wrote.setCells (w.heap.size + 1) (eightR x 2 m0 m1 m2 m3 m4 m5 m7).cells 0 _).below (Nat.le_succ _)))
    clear wr K6 hi HG g4 g5
    go_wp2_with (first | refine wpList_load_regs R.out rfl _ rfl rfl ?_ | refine wpList_store_regs (eightR x 2 m0 m1 m2 m3 m4 m5 m7) Z.out rfl _ _ rfl rfl rfl ?_)
    exact bodyPost_ret (results_regs rfl _ F.out rfl) rfl ⟨rfl, B.out⟩
  · have c := K6.out.1.cell 6 _ rfl
    have f := K6.out.1.free 6
    have c' := K6.out.1.cell 7 _ rfl
    have f' := K6.out.1.free 7
    have n1 : (i == 1) = false := by simpa using h1
    have n2 : (i == 2) = false := by simpa using h2
    have e : eightR x i m0 m1 m2 m3 m4 m5 m7 = { five x m0 m1 m2 m3 m7 with h := m4, l := m5 } := by unfold eightR; rw [if_neg h1, if_neg h2]
    have R := Lib.hid ((K6.out.1.set (y := { five x m0 m1 m2 m3 m7 with h := m4 }) 6 (.int .u8 m4) (by decide) rfl).set (y := { five x m0 m1 m2 m3 m7 with h := m4, l := m5 }) 7 (.int .u8 m5) (by decide) rfl)
    have wr := (Wrote.setCell w.heap.size 6 w6 (.int .u8 m4)).trans (Wrote.setCell w.heap.size 7 _ (.int .u8 m5))
    have Z := Lib.hid (K6.out.2.1.wrote wr (by omega))
    have F := Lib.hid ((K6.out.2.1.wrote wr (by omega)).fill { five x m0 m1 m2 m3 m7 with h := m4, l := m5 })
    have B := Lib.hid ((K6.out.2.2.2.trans (wr.below (Nat.le_refl _))).trans ((Wrote.setCells (w.heap.size + 1) (Rg.cells { five x m0 m1 m2 m3 m7 with h := m4, l := m5 }) 0 _).below (Nat.le_succ _)))
    have E := Lib.hid e
    clear wr K6 hi HG h1 h2 e
    go_wp2_with (first | refine wpList_load_regs R.out rfl _ rfl rfl ?_ | refine wpList_store_regs { five x m0 m1 m2 m3 m7 with h := m4, l := m5 } Z.out rfl _ _ rfl rfl rfl ?_)
    exact bodyPost_ret (results_regs rfl _ F.out rfl) rfl ⟨by rw [E.out], B.out⟩

theorem refPut_any (x : Rg) (k i v : Int) (w : World) (ok : x.Ok) (v8 : B8 v) : Calls Tryd.prog 11 #[.agg x.cells.toArray, .int .i64 k, .int .i64 i, .int .u8 v] w fun e w' => e = .returned (.agg (putV x k i v).cells.toArray) ∧ Below w.heap.size w w' := by
  have hh : B8 (hiX x i) := by
    obtain ⟨x0, x1⟩ := ok.ix; obtain ⟨y0, y1⟩ := ok.iy; obtain ⟨h0, h1⟩ := ok.h
    unfold hiX B8; repeat' split
    all_goals omega
  have hl : B8 (loX x i) := by
    obtain ⟨x0, x1⟩ := ok.ix; obtain ⟨y0, y1⟩ := ok.iy; obtain ⟨h0, h1⟩ := ok.l
    unfold loX B8; repeat' split
    all_goals omega
  have same : ∀ m0 m1 m2 m3 m7, eightR x i m0 m1 m2 m3 (hiX x i) (loX x i) m7 = five x m0 m1 m2 m3 m7 := by
    intro m0 m1 m2 m3 m7
    obtain ⟨x0, x1⟩ := ok.ix; obtain ⟨y0, y1⟩ := ok.iy
    rcases off_of i with ⟨rfl, _⟩ | ⟨rfl, _⟩ | ⟨h1, h2, _⟩
    · have e : 256 * (x.ix / 256) + x.ix % 256 = x.ix := by omega
      show ({ five x m0 m1 m2 m3 m7 with ix := 256 * (x.ix / 256) + x.ix % 256 } : Rg) = _
      rw [e]; rfl
    · have e : 256 * (x.iy / 256) + x.iy % 256 = x.iy := by omega
      show ({ five x m0 m1 m2 m3 m7 with iy := 256 * (x.iy / 256) + x.iy % 256 } : Rg) = _
      rw [e]; rfl
    · unfold eightR hiX loX; simp only [if_neg h1, if_neg h2]; rfl
  rcases offB_of k with ⟨rfl, _⟩ | ⟨rfl, _⟩ | ⟨rfl, _⟩ | ⟨rfl, _⟩ | rfl | rfl | ⟨rfl, _⟩ | ⟨h0, h1, h2, h3, h4, h5, h7, _⟩
  · have := refPut_core x 0 i v v x.c x.d x.e (hiX x i) (loX x i) x.a w ok (by decide) (by decide) hh hl rfl rfl rfl rfl rfl rfl rfl
    rw [same] at this; exact this
  · have := refPut_core x 1 i v x.b v x.d x.e (hiX x i) (loX x i) x.a w ok (by decide) (by decide) hh hl rfl rfl rfl rfl rfl rfl rfl
    rw [same] at this; exact this
  · have := refPut_core x 2 i v x.b x.c v x.e (hiX x i) (loX x i) x.a w ok (by decide) (by decide) hh hl rfl rfl rfl rfl rfl rfl rfl
    rw [same] at this; exact this
  · have := refPut_core x 3 i v x.b x.c x.d v (hiX x i) (loX x i) x.a w ok (by decide) (by decide) hh hl rfl rfl rfl rfl rfl rfl rfl
    rw [same] at this; exact this
  · have := refPut_core x 4 i v x.b x.c x.d x.e v (loX x i) x.a w ok (by decide) (by decide) v8 hl rfl rfl rfl rfl rfl rfl rfl
    have e : eightR x i x.b x.c x.d x.e v (loX x i) x.a = putV x 4 i v := by
      rcases off_of i with ⟨rfl, _⟩ | ⟨rfl, _⟩ | ⟨h1, h2, _⟩
      · show ({ x with ix := 256 * v + x.ix % 256 } : Rg) = { x with ix := v * 256 + x.ix % 256 }
        rw [Int.mul_comm]
      · show ({ x with iy := 256 * v + x.iy % 256 } : Rg) = { x with iy := v * 256 + x.iy % 256 }
        rw [Int.mul_comm]
      · unfold eightR putV putHi loX; simp only [if_neg h1, if_neg h2]; rfl
    rw [e] at this; exact this
  · have := refPut_core x 5 i v x.b x.c x.d x.e (hiX x i) v x.a w ok (by decide) (by decide) hh v8 rfl rfl rfl rfl rfl rfl rfl
    have e : eightR x i x.b x.c x.d x.e (hiX x i) v x.a = putV x 5 i v := by
      rcases off_of i with ⟨rfl, _⟩ | ⟨rfl, _⟩ | ⟨h1, h2, _⟩
      · show ({ x with ix := 256 * (x.ix / 256) + v } : Rg) = { x with ix := x.ix / 256 * 256 + v }
        rw [Int.mul_comm]
      · show ({ x with iy := 256 * (x.iy / 256) + v } : Rg) = { x with iy := x.iy / 256 * 256 + v }
        rw [Int.mul_comm]
      · unfold eightR putV putLo hiX; simp only [if_neg h1, if_neg h2]; rfl
    rw [e] at this; exact this
  · have := refPut_core x 7 i v x.b x.c x.d x.e (hiX x i) (loX x i) v w ok (by decide) (by decide) hh hl rfl rfl rfl rfl rfl rfl rfl
    rw [same] at this; exact this
  · rw [show putV x k i v = x by simp [putV, h0, h1, h2, h3, h4, h5, h7]]
    exact refPut_no x k i v w ok (by omega)

end Go.Proofs.YteffjidbcdnbhaaDoor
