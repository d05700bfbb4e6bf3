/- The codes of Kind 1. -/
import Derived.Test.YtifkldllhbcmkaaDoorInfArr
namespace Go.Proofs.YtifkldllhbcmkaaDoor
open Go.RowKit
set_option linter.unusedVariables false
set_option linter.unusedSimpArgs false
attribute [local simp ↓ high] bigAlloc_as1 bigAlloc_as2

/-- The first k values, 0 behind them. -/
def upTo (f : Nat → Int) (k j : Nat) : Int := if j < k then f j else 0
theorem upTo_next (f : Nat → Int) (k : Nat) (v : Int) (hv : v = f k) : updN (upTo f k) k v = upTo f (k + 1) := by
  funext j
  unfold updN upTo
  by_cases c : j = k
  · subst c; rw [if_pos rfl, if_pos (by omega), hv]
  · rw [if_neg c]
    by_cases d : j < k
    · rw [if_pos d, if_pos (by omega)]
    · rw [if_neg d, if_neg (by omega)]
theorem upTo_zero (f : Nat → Int) : upTo f 0 = fun _ => 0 := by funext j; unfold upTo; rw [if_neg (by omega)]
theorem upTo_lt (f : Nat → Int) {k j : Nat} (h : j < k) : upTo f k j = f j := if_pos h
theorem upTo_ge (f : Nat → Int) {k j : Nat} (h : k ≤ j) : upTo f k j = 0 := if_neg (by omega)
/-- The first k of the symbols' lengths are written. -/
structure Fx1 (w wr : World) (g0 g1 k : Nat) : Prop where
  res : wr.heap[g0]? = some (.cells #[.pointer none, .pointer none] 35 (0, 0))
  row : Cells wr g1 57 288 (numC (upTo fxF k))
  b0 : w.heap.size ≤ g0
  b1 : g0 < g1
  bel : Below w.heap.size w wr
theorem Fx1.next {w wr : World} {g0 g1 k : Nat} (h : Fx1 w wr g0 g1 k) (v : Int) (hv : v = fxF k) : Fx1 w (wr.setCell ⟨g1, k, none⟩ (.int .i64 v)) g0 g1 (k + 1) := by
  have h0 := h.b0
  have h1 := h.b1
  refine ⟨(Below.heap_setCell _ ⟨g1, k, none⟩ _ _ (by show g0 ≠ g1; omega)).trans h.res, by rw [← upTo_next fxF k v hv]; exact num_set h.row k v, h.b0, h.b1, h.bel.setCell (show w.heap.size ≤ g1 by omega) _⟩
structure Fx2 (w wr : World) (g0 g1 g3 k : Nat) : Prop where
  fst : Fx1 w wr g0 g1 288
  row : Cells wr g3 58 32 (numC (upTo (fun _ => 5) k))
  b3 : g1 < g3
theorem Fx2.next {w wr : World} {g0 g1 g3 k : Nat} (h : Fx2 w wr g0 g1 g3 k) : Fx2 w (wr.setCell ⟨g3, k, none⟩ (.int .i64 5)) g0 g1 g3 (k + 1) := by
  have h0 := h.fst.b0
  have h1 := h.fst.b1
  have h3 := h.b3
  refine ⟨⟨(Below.heap_setCell _ ⟨g3, k, none⟩ _ _ (by show g0 ≠ g3; omega)).trans h.fst.res, h.fst.row.block (Below.heap_setCell _ ⟨g3, k, none⟩ _ _ (by show g1 ≠ g3; omega)), h0, h1, h.fst.bel.setCell (show w.heap.size ≤ g3 by omega) _⟩, by rw [← upTo_next (fun _ => 5) k 5 rfl]; exact num_set h.row k 5, h3⟩
theorem two_facts {u : World} {g : Nat} {x y : Value} {ty : TypeId} (h : u.heap[g]? = some (.cells #[x, y] ty (0, 0))) : u.cell? ⟨g, 0, none⟩ = some x ∧ u.cell? ⟨g, 1, none⟩ = some y ∧ u.frozen? ⟨g, 0, none⟩ = false ∧ u.frozen? ⟨g, 1, none⟩ = false :=
  ⟨cell_of_row u g 0 _ _ (0, 0) h, cell_of_row u g 1 _ _ (0, 0) h, frozen_of_row u g 0 _ _ h, frozen_of_row u g 1 _ _ h⟩
def FixedR (w : World) (e : Ending) (w' : World) : Prop := ∃ gs gd, e = .returned (.agg #[.pointer (some ⟨gs, 0, none⟩), .pointer (some ⟨gd, 0, none⟩)]) ∧ Below w.heap.size w w' ∧ TabAt (fun k => w.heap.size ≤ k) w' gs fixS ∧ TabAt (fun k => w.heap.size ≤ k) w' gd fixD
theorem fixed_end {w w3 V : World} {g0 g5 m gs gd : Nat} (hb : Below w.heap.size w w3) (hr : w3.heap[g0]? = some (.cells #[.pointer none, .pointer none] 35 (0, 0))) (hV : Ch (fun k => k = g5) w3 V)
    (t1 : TabAt (fun k => m ≤ k ∧ k < w3.heap.size) w3 gs fixS) (t2 : TabAt (fun k => m ≤ k ∧ k < w3.heap.size) w3 gd fixD) (h5 : g5 < m ∨ w3.heap.size ≤ g5) (h0 : g0 < m) (ne : g0 ≠ g5) (b0 : w.heap.size ≤ g0) (b5 : w.heap.size ≤ g5) :
    (((V.setCell ⟨g0, 0, none⟩ (.pointer (some ⟨gs, 0, none⟩))).setCell ⟨g0, 1, none⟩ (.pointer (some ⟨gd, 0, none⟩))).cell? ⟨g0, 0, none⟩ = some (.pointer (some ⟨gs, 0, none⟩))) ∧
    (((V.setCell ⟨g0, 0, none⟩ (.pointer (some ⟨gs, 0, none⟩))).setCell ⟨g0, 1, none⟩ (.pointer (some ⟨gd, 0, none⟩))).cell? ⟨g0, 1, none⟩ = some (.pointer (some ⟨gd, 0, none⟩))) ∧
    FixedR w (.returned (.agg #[.pointer (some ⟨gs, 0, none⟩), .pointer (some ⟨gd, 0, none⟩)])) ((V.setCell ⟨g0, 0, none⟩ (.pointer (some ⟨gs, 0, none⟩))).setCell ⟨g0, 1, none⟩ (.pointer (some ⟨gd, 0, none⟩))) := by
  have hlt : g0 < w3.heap.size := (Array.getElem?_eq_some_iff.1 hr).1
  obtain ⟨k0, k1⟩ := two_cells (two_set (x := .pointer (some ⟨gs, 0, none⟩)) (y := .pointer (some ⟨gd, 0, none⟩)) ((hV.block g0 hlt ne).trans hr))
  have hC : Ch (fun k => k = g5 ∨ k = g0) w3 ((V.setCell ⟨g0, 0, none⟩ (.pointer (some ⟨gs, 0, none⟩))).setCell ⟨g0, 1, none⟩ (.pointer (some ⟨gd, 0, none⟩))) :=
    (hV.weak fun i hi => Or.inl hi).then (two_ch (Or.inr rfl))
  refine ⟨k0, k1, gs, gd, rfl, hb.trans (hC.below (fun k hk => by omega) hb.size), ?_, ?_⟩
  · exact (t1.ch hC fun k hk => by omega).weak fun k _ hk => by omega
  · exact (t2.ch hC fun k hk => by omega).weak fun k _ hk => by omega
theorem FixedR.below {w W W' : World} {e : Ending} (h : FixedR w e W) (hb : Below W.heap.size W W') : FixedR w e W' := by
  obtain ⟨gs, gd, h1, h2, h3, h4⟩ := h
  exact ⟨gs, gd, h1, h2.trans (hb.mono h2.size), h3.below hb, h4.below hb⟩
theorem fixed_more {w W : World} {g0 : Nat} {x y : Value} {e : Ending} (o : Obj) (h0 : W.cell? ⟨g0, 0, none⟩ = some x) (h1 : W.cell? ⟨g0, 1, none⟩ = some y) (h : FixedR w e W) :
    (W.alloc o).cell? ⟨g0, 0, none⟩ = some x ∧ (W.alloc o).cell? ⟨g0, 1, none⟩ = some y ∧ FixedR w e (W.alloc o) := by
  have hl := blk_lt h0
  exact ⟨((bnew W o).cell (p := ⟨g0, 0, none⟩) hl).trans h0, ((bnew W o).cell (p := ⟨g0, 1, none⟩) hl).trans h1, h.below (bnew W o)⟩
set_option maxRecDepth 100000 in
set_option maxHeartbeats 6400000 in
theorem fixed_any (w : World) : Calls Tryd.prog 21 #[] w (FixedR w) := by
  obtain ⟨A1, z1, z2, a1⟩ := big_new 57 288 big1
  obtain ⟨A2, y1, y2, a2⟩ := big_new 58 32 big2
  have hb0 : Below w.heap.size w (w.alloc (.cells #[.pointer none, .pointer none] 35)) := bnew w _
  have hb1 := hb0.alloc hb0.size (.cells A1 57)
  obtain ⟨g1, hg1⟩ : ∃ g1, (w.alloc (.cells #[.pointer none, .pointer none] 35)).heap.size = g1 := ⟨_, rfl⟩
  have hs1 : w.heap.size < g1 := by rw [← hg1]; simp
  have HS : Hid (Fx1 w ((w.alloc (.cells #[.pointer none, .pointer none] 35)).alloc (.cells A1 57)) w.heap.size g1 0) :=
    Lib.hid ⟨((bnew _ _).block w.heap.size (by simp)).trans (heap_alloc_new w _), by
      rw [← hg1]
      rw [upTo_zero]
      exact num_new z1 z2 _, Nat.le_refl _, hs1, hb1⟩
  have hg1' : w.heap.size + 1 = g1 := by rw [← hg1]; simp
  clear hb0 hb1 hg1 z1 z2
  go_enter Tryd.func21, Tryd.ntmps21
  go_wp2_with fail
  clear a1 hg1'
  go_loopw [7] (fun i wr => ∃ k : Nat, i = .int .i64 k ∧ k ≤ 288 ∧ Hid (Fx1 w wr w.heap.size g1 k)) (fun i _ => 288 - (intOf i).toNat)
  case atStart => exact ⟨0, rfl, by omega, HS⟩
  case round =>
    obtain ⟨k, rfl, hk, HX⟩ := hrel
    by_cases hlt : k < 288
    · have ck := HX.out.row.cell k hlt
      have fk := Cells.frozen HX.out.row k
      have e1 : upTo fxF k k = 0 := upTo_ge _ (Nat.le_refl _)
      unfold numC at ck
      rw [e1] at ck
      have d0 : decide ((k : Int) < 288) = true := decide_eq_true (by omega)
      clear e1 HS a2
      by_cases h1 : k ≤ 143
      · have d1 : decide ((k : Int) ≤ 143) = true := decide_eq_true (by omega)
        have HN := Lib.hid (HX.out.next 8 (by unfold fxF; rw [if_pos h1]))
        clear HX
        go_wp2_with fail
        go_roundw
        case rel => exact ⟨k + 1, by go_num, by omega, HN⟩
        case measure => first | (simp [intOf]; done) | (simp [intOf]; omega)
      have d1 : decide ((k : Int) ≤ 143) = false := decide_eq_false (by omega)
      by_cases h2 : k ≤ 255
      · have d2 : decide ((k : Int) ≤ 255) = true := decide_eq_true (by omega)
        have HN := Lib.hid (HX.out.next 9 (by unfold fxF; rw [if_neg h1, if_pos h2]))
        clear HX
        go_wp2_with fail
        go_roundw
        case rel => exact ⟨k + 1, by go_num, by omega, HN⟩
        case measure => first | (simp [intOf]; done) | (simp [intOf]; omega)
      have d2 : decide ((k : Int) ≤ 255) = false := decide_eq_false (by omega)
      by_cases h3 : k ≤ 279
      · have d3 : decide ((k : Int) ≤ 279) = true := decide_eq_true (by omega)
        have HN := Lib.hid (HX.out.next 7 (by unfold fxF; rw [if_neg h1, if_neg h2, if_pos h3]))
        clear HX
        go_wp2_with fail
        go_roundw
        case rel => exact ⟨k + 1, by go_num, by omega, HN⟩
        case measure => first | (simp [intOf]; done) | (simp [intOf]; omega)
      have d3 : decide ((k : Int) ≤ 279) = false := decide_eq_false (by omega)
      have HN := Lib.hid (HX.out.next 8 (by unfold fxF; rw [if_neg h1, if_neg h2, if_neg h3]))
      clear HX
      go_wp2_with fail
      go_roundw
      case rel => exact ⟨k + 1, by go_num, by omega, HN⟩
      case measure => first | (simp [intOf]; done) | (simp [intOf]; omega)
    · obtain rfl : k = 288 := by omega
      have d0 : decide ((288 : Int) < 288) = false := by decide
      have hlt3 := HX.out.row.lt
      have HS2 : Hid (Fx2 w (wr.alloc (.cells A2 58)) w.heap.size g1 wr.heap.size 0) := Lib.hid ⟨⟨((bnew wr _).block _ (by have := HX.out.b1; omega)).trans HX.out.res, HX.out.row.below (bnew wr _), HX.out.b0, HX.out.b1, HX.out.bel.alloc HX.out.bel.size _⟩, by
        rw [upTo_zero]
        exact num_new y1 y2 _, hlt3⟩
      clear HS HX y1 y2
      go_wp2_with fail
      clear a2 hlt3
      generalize wr.heap.size = g3 at *
      go_loopw [28] (fun i wr => ∃ k : Nat, i = .int .i64 k ∧ k ≤ 32 ∧ Hid (Fx2 w wr w.heap.size g1 g3 k)) (fun i _ => 32 - (intOf i).toNat)
      case atStart => exact ⟨0, rfl, by omega, HS2⟩
      case round =>
        obtain ⟨k, rfl, hk, HX⟩ := hrel
        by_cases hlt : k < 32
        · have ck := HX.out.row.cell k hlt
          have fk := Cells.frozen HX.out.row k
          have e1 : upTo (fun _ => 5) k k = 0 := upTo_ge _ (Nat.le_refl _)
          unfold numC at ck
          rw [e1] at ck
          have d0 : decide ((k : Int) < 32) = true := decide_eq_true (by omega)
          have HN := Lib.hid HX.out.next
          clear e1 HS2 HX
          go_wp2_with fail
          go_roundw
          case rel => exact ⟨k + 1, by go_num, by omega, HN⟩
          case measure => first | (simp [intOf]; done) | (simp [intOf]; omega)
        · obtain rfl : k = 32 := by omega
          have d0 : decide ((32 : Int) < 32) = false := by decide
          have hp1 : IAt (fun _ => True) wr (some ⟨g1, 0, none⟩) 288 288 fixS := IAt.part HX.out.fst.row (by unfold maxLen; omega) 0 288 (by omega) (by omega) fixS fixS_len (fun j hj => by rw [fixS_is, gI_lstF _ _ _ hj, Nat.zero_add, upTo_lt _ hj]) _ trivial 288 (by omega) (by unfold maxLen; omega)
          have hp2 : IAt (fun _ => True) wr (some ⟨g3, 0, none⟩) 32 32 fixD := IAt.part HX.out.row (by unfold maxLen; omega) 0 32 (by omega) (by omega) fixD fixD_len (fun j hj => by unfold fixD; rw [gI_lstF _ _ _ hj, Nat.zero_add, upTo_lt _ hj]) _ trivial 32 (by omega) (by unfold maxLen; omega)
          have HN := Lib.hid (fun u (hu : Below wr.heap.size wr u) => (newCodes_any _ _ _ _ _ _ _ _ 0 0 0 u (hp1.below hu) (hp2.below hu) fixS_ok fixD_ok ⟨fun _ => rfl, fun h => absurd rfl h⟩).mono fun e w3 (h : NewCd u fixS fixD 0 e w3) =>
            show ∃ gs gd, e = .returned (.tuple #[.agg #[.pointer (some ⟨gs, 0, none⟩), .pointer (some ⟨gd, 0, none⟩)], .int .i64 0]) ∧ Hid (Below u.heap.size u w3 ∧ Below wr.heap.size wr w3 ∧ TabAt (fun k => u.heap.size ≤ k ∧ k < w3.heap.size) w3 gs fixS ∧ TabAt (fun k => u.heap.size ≤ k ∧ k < w3.heap.size) w3 gd fixD) from by
              obtain ⟨P, Q, h1, h2, h3⟩ := h
              obtain ⟨gs, gd, rfl, rfl, h4, h5⟩ := h3 rfl
              have := HX.out.fst.bel.size
              have := hu.size
              exact ⟨gs, gd, h1, Lib.hid ⟨h2, hu.trans (h2.mono hu.size), h4.weak fun k hk1 hk => ⟨hk, hk1⟩, h5.weak fun k hk1 hk => ⟨hk, hk1⟩⟩⟩)
          have hr := HX.out.fst.res
          have HRES := Lib.hid (fun (w3 : World) (hu : Below wr.heap.size wr w3) => (hu.block w.heap.size (by have := HX.out.row.lt; have := HX.out.b3; omega)).trans hr)
          have hw0 : w.heap.size < wr.heap.size := by have := HX.out.row.lt; have := HX.out.b3; omega
          have HBw := Lib.hid HX.out.fst.bel
          clear hp1 hp2 HX HS2 hr
          go_wp2_with fail
          go_region_with (go_at_call 24; first | (refine (HN.out _ (Below.refl _ _).drew).mono ?_; rintro e w3 ⟨gs, gd, rfl, H3⟩) | (refine (HN.out _ (bdrawn (bnew _ _) 1)).mono ?_; rintro e w3 ⟨gs, gd, rfl, H3⟩; obtain ⟨k0, k1, k2, k3⟩ := two_facts ((H3.out.1.block wr.heap.size (by simp)).trans (heap_alloc_new wr _))))
          all_goals
            obtain ⟨hbu, hbr, ht1, ht2⟩ := H3.out
            have hr3 := HRES.out w3 hbr
            obtain ⟨q0, q1, q2, q3⟩ := two_facts hr3
            have hz3 := hbr.size
            have hzu := hbu.size
            simp at hzu
            have lt3 : w.heap.size < w3.heap.size := by omega
            have ne1 : w.heap.size ≠ wr.heap.size := by omega
            have ne2 : wr.heap.size ≠ w.heap.size := by omega
            have ne3 : w.heap.size ≠ w3.heap.size := by omega
            have ne4 : w3.heap.size ≠ w.heap.size := by omega
            have HBB := HBw.out.trans (hbr.mono HBw.out.size)
            have HE := Lib.hid (fun V g5 m hV t1 t2 h5 h0 ne b0 b5 => fixed_end (V := V) (g5 := g5) (m := m) (gs := gs) (gd := gd) HBB hr3 hV t1 t2 h5 h0 ne b0 b5)
            have HT := Lib.hid (And.intro ht1 ht2)
            have hsz : Hid (w.heap.size < wr.heap.size ∧ wr.heap.size ≤ w3.heap.size) := Lib.hid ⟨hw0, hz3⟩
            clear hbu hbr ht1 ht2 hr3 H3 HBB HN HRES hz3 hzu hw0
            go_wp2_with fail
            obtain ⟨hs1', hs2'⟩ := hsz.out
            first
              | (have hk3 := k3
                 obtain ⟨l0, l1, l2⟩ := HE.out _ wr.heap.size _ (two_ch (u := w3) (g := wr.heap.size) (F := fun k => k = wr.heap.size) (x := .pointer (some ⟨gs, 0, none⟩)) (y := .pointer (some ⟨gd, 0, none⟩)) rfl) HT.out.1 HT.out.2 (Or.inl (by simp)) (by simp; omega) ne1 (Nat.le_refl _) (by omega)
                 have HL := Lib.hid (And.intro l0 (And.intro l1 l2))
                 clear HE HT l0 l1 l2
                 exact bodyPost_ret (results_cd1 rfl _ HL.out.1 HL.out.2.1 rfl) rfl HL.out.2.2)
              | (obtain ⟨l0, l1, l2⟩ := HE.out w3 w3.heap.size _ (Ch.refl _ _) HT.out.1 HT.out.2 (Or.inr (Nat.le_refl _)) hs1' ne3 (Nat.le_refl _) (by omega)
                 have HL := Lib.hid (fixed_more (.cells #[.pointer (some ⟨gs, 0, none⟩), .pointer (some ⟨gd, 0, none⟩)] 35) l0 l1 l2)
                 clear HE HT l0 l1 l2
                 exact bodyPost_ret (results_cd1 rfl _ HL.out.1 HL.out.2.1 rfl) rfl HL.out.2.2)

end Go.Proofs.YtifkldllhbcmkaaDoor
