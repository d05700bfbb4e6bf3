/- Texts put together: CpuCallsW. -/
import Derived.Test.YtcfkpeemhleleaaGreatDoorBas6
/- CpuCalls: the walk. -/
namespace Go.Proofs.YtcfkpeemhleleaaGreatDoor
open Go.RowKit
set_option maxRecDepth 100000
set_option linter.unusedVariables false
set_option linter.unusedSimpArgs false
attribute [local simp ↓ high] flatBuild_as rgAlloc_as rgStore_as load_as eql_as
attribute [local simp] regs_guard eqR_self

set_option maxHeartbeats 6400000 in
theorem calls_no (x : Rg) (q : Int) (w : World) (hm : Modes w) (h : x.pc < 100 ∨ 30000 < x.pc ∨ x.sp < 32000 ∨ 40000 < x.sp ∨ q < 50000 ∨ 65000 < q) (b0 : B16 x.pc) (b1 : B16 x.sp) (b2 : B16 q) :
    Calls Tryz.prog 6 #[.agg x.cells.toArray, .int .u16 q] w fun e w' => e = .returned (.bool true) ∧ Below w.heap.size w w' := by
  have k := RegAt.new w x 24
  have hb := balloc w (.cells x.cells.toArray 24)
  have c22 := k.cell 22 _ rfl
  have c21 := k.cell 21 _ rfl
  have HL := Lib.hid (fun u (hu : Below w.heap.size w u) => (lives12_any u (hm.below hu)).mono (R' := fun e w' => e = .returned (.bool true) ∧ Below w.heap.size w w') fun _ _ ⟨h1, h2⟩ => ⟨h1, hu.trans (h2.mono hu.size)⟩)
  have HB := Lib.hid hb.drew
  clear k hb hm
  unfold B16 at b0 b1 b2
  generalize x.cells.toArray = X at *
  by_cases h1 : x.pc < 100
  · have d1 : decide (x.pc < 100) = true := decide_eq_true h1
    clear h h1
    go_enter Tryz.func6, Tryz.ntmps6
    go_wp2_with fail
    go_region
    go_wp2_with fail
    refine (HL.out _ HB.out).mono ?_
    rintro e w' ⟨rfl, hb⟩
    have HE := Lib.hid hb
    clear hb
    go_wp2_with fail
    go_ret
    exact ⟨rfl, HE.out⟩
  have d1 : decide (x.pc < 100) = false := decide_eq_false h1
  by_cases h2 : 30000 < x.pc
  · have d2 : decide (30000 < x.pc) = true := decide_eq_true h2
    clear h h2
    go_enter Tryz.func6, Tryz.ntmps6
    go_wp2_with fail
    go_region
    go_wp2_with fail
    refine (HL.out _ HB.out).mono ?_
    rintro e w' ⟨rfl, hb⟩
    have HE := Lib.hid hb
    clear hb
    go_wp2_with fail
    go_ret
    exact ⟨rfl, HE.out⟩
  have d2 : decide (30000 < x.pc) = false := decide_eq_false h2
  by_cases h3 : x.sp < 32000
  · have d3 : decide (x.sp < 32000) = true := decide_eq_true h3
    clear h h3
    go_enter Tryz.func6, Tryz.ntmps6
    go_wp2_with fail
    go_region
    go_wp2_with fail
    refine (HL.out _ HB.out).mono ?_
    rintro e w' ⟨rfl, hb⟩
    have HE := Lib.hid hb
    clear hb
    go_wp2_with fail
    go_ret
    exact ⟨rfl, HE.out⟩
  have d3 : decide (x.sp < 32000) = false := decide_eq_false h3
  by_cases h4 : 40000 < x.sp
  · have d4 : decide (40000 < x.sp) = true := decide_eq_true h4
    clear h h4
    go_enter Tryz.func6, Tryz.ntmps6
    go_wp2_with fail
    go_region
    go_wp2_with fail
    refine (HL.out _ HB.out).mono ?_
    rintro e w' ⟨rfl, hb⟩
    have HE := Lib.hid hb
    clear hb
    go_wp2_with fail
    go_ret
    exact ⟨rfl, HE.out⟩
  have d4 : decide (40000 < x.sp) = false := decide_eq_false h4
  by_cases h5 : q < 50000
  · have d5 : decide (q < 50000) = true := decide_eq_true h5
    clear h h5
    go_enter Tryz.func6, Tryz.ntmps6
    go_wp2_with fail
    go_region
    go_wp2_with fail
    refine (HL.out _ HB.out).mono ?_
    rintro e w' ⟨rfl, hb⟩
    have HE := Lib.hid hb
    clear hb
    go_wp2_with fail
    go_ret
    exact ⟨rfl, HE.out⟩
  have d5 : decide (q < 50000) = false := decide_eq_false h5
  by_cases h6 : 65000 < q
  · have d6 : decide (65000 < q) = true := decide_eq_true h6
    clear h h6
    go_enter Tryz.func6, Tryz.ntmps6
    go_wp2_with fail
    go_region
    go_wp2_with fail
    refine (HL.out _ HB.out).mono ?_
    rintro e w' ⟨rfl, hb⟩
    have HE := Lib.hid hb
    clear hb
    go_wp2_with fail
    go_ret
    exact ⟨rfl, HE.out⟩
  have d6 : decide (65000 < q) = false := decide_eq_false h6
  omega

set_option maxHeartbeats 6400000 in
theorem calls_yes (x : Rg) (ok : x.Ok) (p s t : Nat) (w : World) (hm : Modes w) (ep : x.pc = p) (es : x.sp = (s : Int) + 2) (p0 : 100 ≤ p) (p1 : p ≤ 30000) (s0 : 32000 ≤ s + 2) (s1 : s + 2 ≤ 40000) (t0 : 50000 ≤ t) (t1 : t ≤ 65000) :
    Calls Tryz.prog 6 #[.agg x.cells.toArray, .int .u16 t] w fun e w' => e = .returned (.bool true) ∧ Below w.heap.size w w' := by
  have k := RegAt.new w x 24
  have hb0 := balloc w (.cells x.cells.toArray 24)
  have c22 := k.cell 22 _ rfl
  have c21 := k.cell 21 _ rfl
  rw [ep] at c22
  rw [es] at c21
  obtain ⟨A, hA, hAc, hbuild⟩ := run_flatBuild0
  have hmg0 := Lib.hid (show 0 < w.heap.size from hm.2)
  have HK := Lib.hid k
  have HB0 := Lib.hid hb0
  obtain ⟨wa, hwa⟩ : ∃ wa, w.alloc (.cells x.cells.toArray 24) = wa := ⟨_, rfl⟩
  have hmw : Modes wa := by rw [← hwa]; exact hm.alloc _
  rw [hwa] at HK HB0 c22 c21
  have HF := Lib.hid (fa_start wa hmw (fun _ => 0) hA hAc).drew
  have P0 : (100 : Int) ≤ p := by omega
  have P1 : (p : Int) ≤ 30000 := by omega
  have S0 : (32000 : Int) ≤ (s : Int) + 2 := by omega
  have S1 : (s : Int) + 2 ≤ 40000 := by omega
  have T0 : (50000 : Int) ≤ t := by omega
  have T1 : (t : Int) ≤ 65000 := by omega
  have d1 : decide ((p : Int) < 100) = false := decide_eq_false (by omega)
  have d2 : decide (30000 < (p : Int)) = false := decide_eq_false (by omega)
  have d3 : decide ((s : Int) + 2 < 32000) = false := decide_eq_false (by omega)
  have d4 : decide (40000 < (s : Int) + 2) = false := decide_eq_false (by omega)
  have d5 : decide ((t : Int) < 50000) = false := decide_eq_false (by omega)
  have d6 : decide (65000 < (t : Int)) = false := decide_eq_false (by omega)
  clear hA hAc hm k hb0 hmw
  go_enter Tryz.func6, Tryz.ntmps6
  go_upto_region 1 with (fail)
  clear hwa
  go_region
  go_upto_region 5 with (fail)
  have R0 := Lib.hid ((HK.out.below (balloc wa (.cells A 37))).drew)
  have hgf := HK.out.lt
  clear HK c22 c21
  obtain ⟨g0, hg0⟩ : ∃ g0, w.heap.size = g0 := ⟨_, rfl⟩
  obtain ⟨f, hf⟩ : ∃ f, wa.heap.size = f := ⟨_, rfl⟩
  obtain ⟨w1, hw1⟩ : ∃ w1, (wa.alloc (.cells A 37)).drew = w1 := ⟨_, rfl⟩
  rw [hw1] at HF R0 ⊢
  rw [hf] at HF hgf ⊢
  rw [hg0] at R0 hgf ⊢
  clear hw1
  have HF0 := HF.out
  have i1 := HF0.cell p (by omega)
  have i2 := HF0.cell (p + 1) (by omega)
  have i3 := HF0.cell (p + 2) (by omega)
  have i4 := HF0.cell t (by omega)
  have j1 := HF0.free p
  have j2 := HF0.free (p + 1)
  have j3 := HF0.free (p + 2)
  have j4 := HF0.free t
  have n1 : ¬ t = p := by omega
  have n2 : ¬ t = p + 1 := by omega
  have n3 : ¬ t = p + 2 := by omega
  have n4 : ¬ p = t := by omega
  have n5 : ¬ p + 1 = t := by omega
  have n6 : ¬ p + 2 = t := by omega
  have HF4 := Lib.hid ((((HF0.poke p 205 (by omega)).poke (p + 1) ((t : Int) % 256) (by omega)).poke (p + 2) ((t : Int) / 256) (by omega)).poke t 201 (by omega))
  clear HF0 HF
  go_upto_region 9 with (fail)
  have R2 := Lib.hid ((((R0.out.poke (Nat.ne_of_lt hgf) p (.int .u8 205)).poke (Nat.ne_of_lt hgf) (p + 1) (.int .u8 ((t : Int) % 256))).poke (Nat.ne_of_lt hgf) (p + 2) (.int .u8 ((t : Int) / 256))).poke (Nat.ne_of_lt hgf) t (.int .u8 201))
  obtain ⟨w2, hw2⟩ : ∃ w2, (((w1.setCell ⟨f, p, none⟩ (.int .u8 205)).setCell ⟨f, p + 1, none⟩ (.int .u8 ((t : Int) % 256))).setCell ⟨f, p + 2, none⟩ (.int .u8 ((t : Int) / 256))).setCell ⟨f, t, none⟩ (.int .u8 201) = w2 := ⟨_, rfl⟩
  rw [hw2] at HF4 R2 ⊢
  clear hw2 R0 i1 i2 i3 i4 j1 j2 j3 j4
  obtain ⟨w3, hst, r3, b3⟩ := regs_in w2 x
  have hld := run_regLoad w2 g0 x R2.out.at'
  have hal := run_rgAlloc w2
  have HF5 := Lib.hid (HF4.out.of b3)
  have R3 := Lib.hid r3
  have hf1 := HF4.out.lt
  have hlf := HF4.out.lf
  obtain ⟨g1, hg1⟩ : ∃ g1, w2.heap.size = g1 := ⟨_, rfl⟩
  rw [hg1] at hst hal R3 hf1
  have k26 := R3.out.cell 26 _ rfl
  have k27 := R3.out.cell 27 _ rfl
  have k29 := R3.out.cell 29 _ rfl
  have k18 := R3.out.cell 18 _ rfl
  have q26 := R3.out.free 26
  have q27 := R3.out.free 27
  have q29 := R3.out.free 29
  have q18 := R3.out.free 18
  clear r3 b3
  obtain ⟨x1, hx1⟩ : ∃ x1 : Rg, { x with halt := false, hold := false, pre := 0, q := 0 } = x1 := ⟨_, rfl⟩
  have ok1 : x1.Ok := by rw [← hx1]; exact { ok with pre := b8_0, q := b8_0 }
  have R4 := Lib.hid (show RegAt ((((w3.setCell ⟨g1, 26, none⟩ (.bool false)).setCell ⟨g1, 27, none⟩ (.bool false)).setCell ⟨g1, 29, none⟩ (.int .u8 0)).setCell ⟨g1, 18, none⟩ (.int .u8 0)) g1 x1 from by
    have a1 := R3.out.set (y := { x with halt := false }) 26 (.bool false) (by decide) rfl
    have a2 := a1.set (y := { x with halt := false, hold := false }) 27 (.bool false) (by decide) rfl
    have a3 := a2.set (y := { x with halt := false, hold := false, pre := 0 }) 29 (.int .u8 0) (by decide) rfl
    exact a3.set (y := x1) 18 (.int .u8 0) (by decide) (by rw [← hx1]; rfl))
  have HF6 := Lib.hid ((((HF5.out.other g1 26 (.bool false) (by omega) (by omega)).other g1 27 (.bool false) (by omega) (by omega)).other g1 29 (.int .u8 0) (by omega) (by omega)).other g1 18 (.int .u8 0) (by omega) (by omega))
  clear HF5 HF4 R2 R3
  go_upto_region 14 with (fail)
  obtain ⟨w4, hw4⟩ : ∃ w4, (((w3.setCell ⟨g1, 26, none⟩ (.bool false)).setCell ⟨g1, 27, none⟩ (.bool false)).setCell ⟨g1, 29, none⟩ (.int .u8 0)).setCell ⟨g1, 18, none⟩ (.int .u8 0) = w4 := ⟨_, rfl⟩
  rw [hw4] at HF6 R4 ⊢
  clear hw4 hst hal hld k26 k27 k29 k18 q26 q27 q29 q18
  have hld := run_regLoad w4 g1 x1 R4.out.at'
  have HN := Lib.hid (new_any HF6.out x1)
  go_wp2_with fail
  refine HN.out.mono ?_
  rintro e w5 ⟨b, rfl, hb, hmc, hbel, hb4, hbw4⟩
  have R5 := R4.out.below hbw4
  have hgb : g1 ≠ b := by have := R4.out.lt; omega
  have hgf1 : g1 ≠ f := by omega
  have hg5 : g1 < w5.heap.size := R5.lt
  obtain ⟨xa, ya, xb, yb, ra, Ma, rb, Mb, da, db, er, em1, em2⟩ := calls_math x1 ok1 (by rw [← hx1]) (by rw [← hx1]) (by rw [← hx1]) (by rw [← hx1]) p (s + 2) t (by rw [← hx1]; exact ep) (by rw [← hx1]; show x.sp = _; rw [es]; omega) p0 p1 s0 s1 t0 t1
  obtain ⟨r2, hr2⟩ : ∃ r2, xb.r = r2 := ⟨_, rfl⟩
  rw [hr2] at er
  have ER := Lib.hid er
  clear er
  rw [show s + 2 - 1 = s + 1 by omega] at em1
  rw [show s + 2 - 2 = s by omega] at em2
  obtain ⟨za, ua, ha1, ha2, ha3, ha4⟩ := da.run
  obtain ⟨zb, ub, hb1, hb2, hb3, hb4'⟩ := db.run
  have HS1 := Lib.hid (step_any 16 w5 hmc.mx ha1 ha2 ha3 ha4 (by decide))
  have HS2 := Lib.hid (fun u (hu : Mx w5 u b f w5.heap.size xa ya) => step_any 9 u hu hb1 hb2 hb3 hb4' (by decide))
  have HE := Lib.hid (fun u (hu : Mx w5 u b f w5.heap.size xb yb) => show RegAt u g1 x1 ∧ RegAt u b r2 ∧ u.cell? ⟨f, s + 1, none⟩ = some (.int .u8 (((p : Int) + 3) / 256)) ∧ u.cell? ⟨f, s, none⟩ = some (.int .u8 (((p : Int) + 3) % 256)) ∧ Below f wa u ∧ Modes u from by
    obtain ⟨v, va, hu⟩ := hu
    have hs := hbel.size
    refine ⟨R5.fr hu.fr hg5 hgb hgf1, hr2 ▸ hu.reg, ?_, ?_, hu.fr.old hbel hb (Nat.le_refl _) (by omega), hu.modes⟩
    · rw [hu.mem (s + 1) (by omega), em1]
    · rw [hu.mem s (by omega), em2])
  clear hr2 hmc hbel hb4 hbw4 R5 da db ha1 ha2 ha3 ha4 hb1 hb2 hb3 hb4' em1 em2 HF6 R4 HN
  go_wp2_with fail
  refine HS1.out.mono ?_
  rintro e w6 ⟨rfl, hm6⟩
  have HS3 := Lib.hid (HS2.out _ hm6)
  clear hm6 HS2 HS1
  go_wp2_with fail
  refine HS3.out.mono ?_
  rintro e w7 ⟨rfl, hm7⟩
  obtain ⟨R7, B7, e1, e2, hb7, hmo7⟩ := HE.out _ hm7
  clear hm7 HE HS3
  obtain ⟨w8, hst, r8, b8⟩ := regs_in w7 r2
  have hl7 := run_regLoad w7 b r2 B7.at'
  have hal := run_rgAlloc w7
  have HR1 := Lib.hid (R7.below b8)
  have hlt7 := hb7.size
  have H8 := Lib.hid (show Below f wa w8 from hb7.trans (b8.mono (by omega)))
  have HM8 := Lib.hid (hmo7.below b8)
  have e1' := (b8.cell (p := ⟨f, s + 1, none⟩) (show f < w7.heap.size by have := B7.lt; omega)).trans e1
  have e2' := (b8.cell (p := ⟨f, s, none⟩) (show f < w7.heap.size by have := B7.lt; omega)).trans e2
  have hg17 := R7.lt
  clear R7 B7 hb7 hmo7 b8 e1 e2
  have R8 := Lib.hid r8
  obtain ⟨g2, hg2⟩ : ∃ g2, w7.heap.size = g2 := ⟨_, rfl⟩
  rw [hg2] at hst hal R8 hg17 hlt7
  have er := ER.out
  have v22 : r2.pc = (p : Int) + 3 := by rw [er]
  have v23 : r2.wz = (p : Int) + 3 := by rw [er]
  have m22 : w8.cell? ⟨g2, 22, none⟩ = some (.int .u16 ((p : Int) + 3)) := by rw [← v22]; exact R8.out.cell 22 _ rfl
  have m23 : w8.cell? ⟨g2, 23, none⟩ = some (.int .u16 ((p : Int) + 3)) := by rw [← v23]; exact R8.out.cell 23 _ rfl
  have m17 := R8.out.cell 17 _ rfl
  have u22 := R8.out.free 22
  have u23 := R8.out.free 23
  have u17 := R8.out.free 17
  have k22 := HR1.out.cell 22 _ rfl
  have k23 := HR1.out.cell 23 _ rfl
  have k17 := HR1.out.cell 17 _ rfl
  have hfg2 : ¬ g2 = f := by omega
  have R9 := Lib.hid (show RegAt (((w8.setCell ⟨g2, 22, none⟩ (.int .u16 x1.pc)).setCell ⟨g2, 23, none⟩ (.int .u16 x1.wz)).setCell ⟨g2, 17, none⟩ (.int .u8 x1.r)) g2 x1 ∧ RegAt (((w8.setCell ⟨g2, 22, none⟩ (.int .u16 x1.pc)).setCell ⟨g2, 23, none⟩ (.int .u16 x1.wz)).setCell ⟨g2, 17, none⟩ (.int .u8 x1.r)) g1 x1 from by
    have hgg : g1 ≠ g2 := Nat.ne_of_lt hg17
    refine ⟨?_, ((HR1.out.poke hgg 22 _).poke hgg 23 _).poke hgg 17 _⟩
    have a1 := R8.out.set (y := { r2 with pc := x1.pc }) 22 (.int .u16 x1.pc) (by decide) rfl
    have a2 := a1.set (y := { r2 with pc := x1.pc, wz := x1.wz }) 23 (.int .u16 x1.wz) (by decide) rfl
    refine a2.set (y := x1) 17 (.int .u8 x1.r) (by decide) ?_
    rw [er]
    rfl)
  have HB9 := Lib.hid (show Below f wa (((w8.setCell ⟨g2, 22, none⟩ (.int .u16 x1.pc)).setCell ⟨g2, 23, none⟩ (.int .u16 x1.wz)).setCell ⟨g2, 17, none⟩ (.int .u8 x1.r)) from ((H8.out.setCell (by show f ≤ g2; omega) _).setCell (by show f ≤ g2; omega) _).setCell (by show f ≤ g2; omega) _)
  have HM9 := Lib.hid (show Modes (((w8.setCell ⟨g2, 22, none⟩ (.int .u16 x1.pc)).setCell ⟨g2, 23, none⟩ (.int .u16 x1.wz)).setCell ⟨g2, 17, none⟩ (.int .u8 x1.r)) from by
    have hmg : 0 ≠ g2 := by have := hmg0.out; omega
    refine modes_block HM8.out ?_ (by simp [World.setCell])
    rw [Below.heap_setCell _ _ _ _ hmg, Below.heap_setCell _ _ _ _ hmg, Below.heap_setCell _ _ _ _ hmg])
  clear er v22 v23 r8
  go_upto_region 24 with (fail)
  have e1'' : (((w8.setCell ⟨g2, 22, none⟩ (.int .u16 x1.pc)).setCell ⟨g2, 23, none⟩ (.int .u16 x1.wz)).setCell ⟨g2, 17, none⟩ (.int .u8 x1.r)).cell? ⟨f, s + 1, none⟩ = some (.int .u8 (((p : Int) + 3) / 256)) := by
    rw [World.cell?_setCell_other _ _ _ _ (by intro hh; injection hh with h1 _; exact hfg2 h1), World.cell?_setCell_other _ _ _ _ (by intro hh; injection hh with h1 _; exact hfg2 h1), World.cell?_setCell_other _ _ _ _ (by intro hh; injection hh with h1 _; exact hfg2 h1)]
    exact e1'
  have e2'' : (((w8.setCell ⟨g2, 22, none⟩ (.int .u16 x1.pc)).setCell ⟨g2, 23, none⟩ (.int .u16 x1.wz)).setCell ⟨g2, 17, none⟩ (.int .u8 x1.r)).cell? ⟨f, s, none⟩ = some (.int .u8 (((p : Int) + 3) % 256)) := by
    rw [World.cell?_setCell_other _ _ _ _ (by intro hh; injection hh with h1 _; exact hfg2 h1), World.cell?_setCell_other _ _ _ _ (by intro hh; injection hh with h1 _; exact hfg2 h1), World.cell?_setCell_other _ _ _ _ (by intro hh; injection hh with h1 _; exact hfg2 h1)]
    exact e2'
  obtain ⟨w9, hw9⟩ : ∃ w9, ((w8.setCell ⟨g2, 22, none⟩ (.int .u16 x1.pc)).setCell ⟨g2, 23, none⟩ (.int .u16 x1.wz)).setCell ⟨g2, 17, none⟩ (.int .u8 x1.r) = w9 := ⟨_, rfl⟩
  rw [hw9] at R9 HB9 HM9 e1'' e2'' ⊢
  clear hw9 e1' e2' m22 m23 m17 u22 u23 u17 k22 k23 k17 hst hal hl7 hld
  have hla := run_regLoad w9 g2 x1 R9.out.1.at'
  have hlb := run_regLoad w9 g1 x1 R9.out.2.at'
  have heq := fun u => run_regEql x1 x1 u
  rw [eqR_self] at heq
  have HL := Lib.hid ((lives12_any w9 HM9.out).mono (R' := fun e w' => e = .returned (.bool true) ∧ Below w.heap.size w w') fun e w' ⟨h1, h2⟩ => by
    refine ⟨h1, ?_⟩
    have hb9 := HB9.out.size
    have a1 : Below wa.heap.size wa w' := by rw [hf]; exact HB9.out.trans (h2.mono (by omega))
    exact HB0.out.trans (a1.mono HB0.out.size))
  clear R9 HB9 HM9 HR1 H8 HM8 R8 hmg0
  go_wp2_with fail
  refine HL.out.mono ?_
  rintro e w' ⟨rfl, hb⟩
  have HZ := Lib.hid hb
  clear hb HL
  go_wp2_with fail
  go_ret
  exact ⟨rfl, HZ.out⟩
theorem calls_walk (x : Rg) (ok : x.Ok) (q : Int) (hq : B16 q) (w : World) (hm : Modes w) :
    Calls Tryz.prog 6 #[.agg x.cells.toArray, .int .u16 q] w fun e w' => e = .returned (.bool true) ∧ Below w.heap.size w w' := by
  by_cases h : x.pc < 100 ∨ 30000 < x.pc ∨ x.sp < 32000 ∨ 40000 < x.sp ∨ q < 50000 ∨ 65000 < q
  · exact calls_no x q w hm h ok.pc ok.sp hq
  · obtain ⟨t, rfl⟩ : ∃ t : Nat, q = t := ⟨q.toNat, by omega⟩
    exact calls_yes x ok x.pc.toNat (x.sp - 2).toNat t w hm (by omega) (by omega) (by omega) (by omega) (by omega) (by omega) (by omega) (by omega)
theorem calls_card (x : Rg) (q : Int) (ok : x.Ok) (wq : (Lit.int .u16 q).wf = true) (w : World) (hm : Modes w) :
    Calls Tryz.prog 6 #[.agg x.cells.toArray, .int .u16 q] w fun e w' => e = .returned (.bool true) ∧ Below w.heap.size w w' := calls_walk x ok q (bounds_u16 wq) w hm

end Go.Proofs.YtcfkpeemhleleaaGreatDoor
