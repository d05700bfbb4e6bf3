/- What Kind 2 begins with: count, lengthCodes. -/
import Derived.Test.YtifkldllhbcmkaaDoorInfStored
namespace Go.Proofs.YtifkldllhbcmkaaDoor
open Go.RowKit
set_option linter.unusedVariables false
set_option linter.unusedSimpArgs false

set_option maxHeartbeats 800000 in
theorem count_b (c : Cx) (w : World) (ob : Option Nat) (p : Nat) (o : List Int) (n least most : Nat) (hn : n ≤ 8) (hl : least ≤ 1000) (hm : most ≤ 1000) (h : UAt c w ob p o) :
    Calls Tryd.prog 28 #[.pointer (some ⟨c.gu, 0, none⟩), .int .i64 (n : Nat), .int .i64 (least : Nat), .int .i64 (most : Nat)] w (GaveB c w (countM c.bs n least most p)) := by
  have HT := Lib.hid (take_b c w ob p o n (by omega) h)
  have HB0 := Lib.hid (fun u ob' (hu : Mv c w ob u ob') => h.mvBelow hu)
  clear h
  go_enter Tryd.func28, Tryd.ntmps28
  go_wp2_with fail
  refine HT.out.mono ?_
  rintro e w1 (⟨v, q, hR, rfl, hbt, hch⟩ | ⟨x, hR, hx, rfl, hb⟩)
  · have hv := (take_lt hR).1
    have hv2 : 2 ^ n ≤ 2 ^ 8 := Nat.pow_le_pow_right (by decide) hn
    have hv3 : v < 256 := by omega
    have hs : (least : Int) + (v : Int) = ((least + v : Nat) : Int) := by omega
    have HF : Hid (countM c.bs n least most p = if most < least + v then .error 4 else .ok (least + v, q)) := Lib.hid (by unfold countM; rw [hR]; rfl)
    by_cases hc : most < least + v
    · have HE : Hid (GaveB c w (countM c.bs n least most p) (.returned (.tuple #[.int .i64 0, .int .i64 4])) w1) := Lib.hid (Or.inr ⟨4, by rw [HF.out, if_pos hc], by omega, rfl, hch⟩)
      have d1 : decide ((most : Int) < ((least + v : Nat) : Int)) = true := decide_eq_true (by omega)
      have d2 : decide (most < least + v) = true := decide_eq_true hc
      have hS : least + v ≤ 2000 := by omega
      generalize least + v = S at *
      clear hR hbt hch hv hv2 hc HT
      go_wp2_with fail
      go_ret2
      exact HE.out
    · have HE : Hid (GaveB c w (countM c.bs n least most p) (.returned (.tuple #[.int .i64 ((least + v : Nat) : Int), .int .i64 0])) w1) := Lib.hid (Or.inl ⟨_, _, by rw [HF.out, if_neg hc], rfl, hbt, hch⟩)
      have d1 : decide ((most : Int) < ((least + v : Nat) : Int)) = false := decide_eq_false (by omega)
      have d2 : decide (most < least + v) = false := decide_eq_false hc
      have hS : least + v ≤ 2000 := by omega
      generalize least + v = S at *
      clear hR hbt hch hv hv2 hc HT
      go_wp2_with fail
      go_ret2
      exact HE.out
  · have hn := nz hx
    have HE : Hid (GaveB c w (countM c.bs n least most p) (.returned (.tuple #[.int .i64 0, .int .i64 (x : Nat)])) w1) := Lib.hid (Or.inr ⟨x, by unfold countM; rw [hR]; rfl, hx, rfl, hb⟩)
    clear hR hx hb HT
    go_wp2_with fail
    go_ret2
    exact HE.out
/-- The order in which lengths of lengths are told, in its variable. -/
structure OrdAt (B : Nat) (w : World) : Prop where
  low : 0 < B
  is : ∀ j, j < 19 → w.cell? ⟨0, j, none⟩ = some (.int .i64 (ordF j : Nat))
theorem OrdAt.below {B : Nat} {w w' : World} (h : OrdAt B w) (hb : Below B w w') : OrdAt B w' := ⟨h.low, fun j hj => (hb.cell (p := ⟨0, j, none⟩) h.low).trans (h.is j hj)⟩
theorem lensM_fine {bs : List Int} : ∀ {i p q : Nat} {M : Nat → Int}, lensM bs i p = .ok (M, q) → ∀ j, 0 ≤ M j ∧ M j ≤ 7
  | 0, p, q, M, h => by
    simp only [lensM, Except.ok.injEq, Prod.mk.injEq] at h
    obtain ⟨rfl, _⟩ := h
    intro j; simp
  | i + 1, p, q, M, h => by
    rcases (lensM bs i p).two with ⟨x, hx⟩ | ⟨M', r, hx⟩
    · rw [lensM, hx] at h; cases h
    · have ih := lensM_fine hx
      rw [lensM, hx, bnd_ok] at h
      rcases (takeM bs 3 r).two with ⟨x, hx⟩ | ⟨v, t, hx⟩
      · rw [hx] at h; cases h
      · have := (take_lt hx).1
        rw [hx, bnd_ok] at h
        simp only [Except.ok.injEq, Prod.mk.injEq] at h
        obtain ⟨rfl, _⟩ := h
        intro j
        dsimp only
        have := ih j
        split <;> omega
/-- The codes of lengths: a table, or an error. -/
def codeM (bs : List Int) (n p : Nat) : Rs (List Int) := bnd (lensM bs n p) fun M q => if okS (nOf (lstF M 19)) then .ok (lstF M 19, q) else .error 4
def GaveT (c : Cx) (w : World) (ob : Option Nat) (o : List Int) (R : Rs (List Int)) (e : Ending) (w' : World) : Prop :=
  (∃ l q g, R = .ok (l, q) ∧ e = .returned (.tuple #[.pointer (some ⟨g, 0, none⟩), .int .i64 0]) ∧ BitsAt (fun k => c.B ≤ k ∧ k < c.gb) w' c.gb c.bs q ∧ Ch (fun k => k = c.gb) w w' ∧ TabIn c w' ob g l ∧ l.length = 19) ∨ (∃ x, R = .error x ∧ (x = 2 ∨ x = 4 ∨ x = 8) ∧ e = .returned (.tuple #[.pointer none, .int .i64 (x : Nat)]) ∧ Ch (fun k => k = c.gb) w w')
/-- k lengths of lengths are taken. -/
structure LnAt (c : Cx) (w wr : World) (p ga k : Nat) (M : Nat → Int) (q : Nat) : Prop where
  m : lensM c.bs k p = .ok (M, q)
  bits : BitsAt (fun k => c.B ≤ k ∧ k < c.gb) wr c.gb c.bs q
  ch : Ch (fun k => k = c.gb) w wr
  row : Cells wr ga 78 19 (numC M)
  off : c.gu < ga ∧ w.heap.size ≤ ga
  ord : OrdAt c.B wr
attribute [local simp ↓ high] bigAlloc_as3
set_option maxRecDepth 100000 in
set_option maxHeartbeats 6400000 in
theorem lengthCodes_u (c : Cx) (w : World) (ob : Option Nat) (p : Nat) (o : List Int) (n : Nat) (hn : n ≤ 19) (h : UAt c w ob p o) (hO : OrdAt c.B w) :
    Calls Tryd.prog 29 #[.pointer (some ⟨c.gu, 0, none⟩), .int .i64 (n : Nat)] w (GaveT c w ob o (codeM c.bs n p)) := by
  obtain ⟨A1, z1, z2, a1⟩ := big_new 78 19 big3
  have hb0 : Below w.heap.size w (w.alloc (.cells A1 78)) := bnew w _
  have hgu := h.gu
  have HS : Hid (LnAt c w (w.alloc (.cells A1 78)) p w.heap.size 0 (fun _ => 0) p) :=
    Lib.hid ⟨rfl, h.bits.below hb0, Ch.of_below hb0, num_new z1 z2 w, ⟨hgu, Nat.le_refl _⟩, hO.below (h.newBelow hb0)⟩
  have HB0 := Lib.hid (fun u ob' (hu : Mv c w ob u ob') => h.mvBelow hu)
  have HH := Lib.hid h
  obtain ⟨ga, hga⟩ : ∃ ga, w.heap.size = ga := ⟨_, rfl⟩
  rw [hga] at HS
  clear h hO hb0 z1 z2 hgu
  go_enter Tryd.func29, Tryd.ntmps29
  go_wp2_with fail
  clear a1 hga
  go_loopw [11] (fun i wr => ∃ k : Nat, i = .int .i64 k ∧ k ≤ n ∧ Hid (∃ M q, LnAt c w wr p ga k M q)) (fun i _ => n - (intOf i).toNat)
  case atStart => exact ⟨0, rfl, by omega, Lib.hid ⟨_, _, HS.out⟩⟩
  case round =>
    obtain ⟨k, rfl, hk, HI⟩ := hrel
    obtain ⟨M, q, hL⟩ := HI.out
    have HL := Lib.hid hL
    clear HI HS
    by_cases hlt : k < n
    · have d0 : decide ((k : Int) < (n : Int)) = true := decide_eq_true (by omega)
      have H1 := Lib.hid (take_b c wr ob q o 3 (by omega) (HH.out.bitsMv hL.bits hL.ch))
      clear hL
      go_wp2_with fail
      refine H1.out.mono ?_
      rintro e w1 (⟨v, r, hR, rfl, hb1, hc1⟩ | ⟨x, hR, hx, rfl, hb⟩)
      · obtain ⟨n1, n2⟩ := HL.out.off
        have hgb := HL.out.bits.lt
        have b12 := c.b2
        have hrow := HL.out.row.block (hc1.block ga HL.out.row.lt (by omega))
        have hch := HL.out.ch.then hc1
        have hord := HL.out.ord.below ((HH.out.bitsMv HL.out.bits HL.out.ch).mvBelow (Mv.bits (ob := ob) hc1))
        have c1 := hord.is k (by omega)
        obtain ⟨a, ha⟩ : ∃ a, ordF k = a := ⟨_, rfl⟩
        have ha19 := ordF_lt k
        rw [ha] at c1 ha19
        have c2 := hrow.cell a ha19
        have f2 := Cells.frozen hrow a
        unfold numC at c2
        have hv := (take_lt hR).1
        have HN : Hid (LnAt c w (w1.setCell ⟨ga, a, none⟩ (.int .i64 (v : Nat))) p ga (k + 1) (updN M a (v : Nat)) r) := Lib.hid (by
          have hC : Ch (fun k => k = ga) w1 (w1.setCell ⟨ga, a, none⟩ (.int .i64 (v : Nat))) := Ch.set (F := fun k => k = ga) w1 ga a _ rfl
          refine ⟨?_, hb1.ch hC (by omega) (fun k hk => by omega), hch.trans hC (fun i hi => by omega), num_set hrow a _, ⟨n1, n2⟩, hord.below (hC.below (fun k hk => by have := c.b1; omega) (by have := hrow.lt; have := c.b1; omega))⟩
          rw [lensM, HL.out.m, bnd_ok, hR, bnd_ok, ha]; rfl)
        clear hb1 hc1 hR hrow hch hord ha H1 n1 n2 hgb b12
        go_wp2_with fail
        go_roundw
        case rel => exact ⟨k + 1, by go_num, by omega, Lib.hid ⟨_, _, HN.out⟩⟩
        case measure => first | (simp [intOf]; done) | (simp [intOf]; omega)
      · have hn := nz hx
        have HE : Hid (GaveT c w ob o (codeM c.bs n p) (.returned (.tuple #[.pointer none, .int .i64 (x : Nat)])) w1) := Lib.hid (Or.inr ⟨x, by
          unfold codeM
          rw [lens_er (i := k + 1) (by rw [lensM, HL.out.m, bnd_ok, hR]; rfl) n (by omega)]; rfl, hx, rfl, HL.out.ch.then hb⟩)
        clear hR hx hb H1
        go_wp2_with fail
        go_ret2
        exact HE.out
    · obtain rfl : k = n := by omega
      have d0 : decide ((k : Int) < (k : Int)) = false := decide_eq_false (by omega)
      have hfin := lensM_fine hL.m
      have hp1 : IAt (fun _ => True) wr (some ⟨ga, 0, none⟩) 19 19 (lstF M 19) := IAt.part hL.row (by unfold maxLen; omega) 0 19 (by omega) (by omega) (lstF M 19) (lstF_len _ _) (fun j hj => by rw [gI_lstF _ _ _ hj, Nat.zero_add]) _ trivial 19 (by omega) (by unfold maxLen; omega)
      have hfl : Fine (lstF M 19) := fine_of' _ fun x hx => by
        unfold lstF at hx
        obtain ⟨j, _, rfl⟩ := List.mem_map.1 hx
        have := hfin j; omega
      have hu := HH.out.bitsMv hL.bits hL.ch
      have HU := Lib.hid hu
      have HC := Lib.hid (Mv.bits (c := c) (ob := ob) hL.ch)
      have HC2 := Lib.hid hL.ch
      have HF : Hid (codeM c.bs k p = if okS (nOf (lstF M 19)) then .ok (lstF M 19, q) else .error 4) := Lib.hid (by unfold codeM; rw [hL.m]; rfl)
      by_cases hok : okS (nOf (lstF M 19))
      · have H1 := Lib.hid (new_any _ _ _ _ 0 wr hp1 (Or.inr ⟨by rw [lstF_len]; omega, hfl, Or.inl ⟨rfl, hok⟩⟩))
        clear hL hp1 hfl hu hfin
        go_wp2_with fail
        refine H1.out.mono ?_
        rintro e w2 ⟨P, rfl, hb2, _, hP⟩
        obtain ⟨g, rfl, hT⟩ := hP rfl
        have HE : Hid (GaveT c w ob o (codeM c.bs k p) (.returned (.tuple #[.pointer (some ⟨g, 0, none⟩), .int .i64 0])) w2) := Lib.hid (Or.inl ⟨_, q, g, by rw [HF.out, if_pos hok], rfl, HU.out.bits.below hb2, HC2.out.then (Ch.of_below hb2), TabIn.new hT HU.out.gu (fun k hk => (HU.out.ob k hk).2), lstF_len _ _⟩)
        clear hb2 hT H1 hP
        go_wp2_with fail
        go_ret2
        exact HE.out
      · have H1 := Lib.hid (new_any _ _ _ _ 4 wr hp1 (Or.inr ⟨by rw [lstF_len]; omega, hfl, Or.inr ⟨rfl, hok⟩⟩))
        clear hL hp1 hfl hu hfin
        go_wp2_with fail
        refine H1.out.mono ?_
        rintro e w2 ⟨P, rfl, hb2, hP, _⟩
        obtain rfl := hP (by decide)
        have HE : Hid (GaveT c w ob o (codeM c.bs k p) (.returned (.tuple #[.pointer none, .int .i64 4])) w2) := Lib.hid (Or.inr ⟨4, by rw [HF.out, if_neg hok], by omega, rfl, HC2.out.then (Ch.of_below hb2)⟩)
        clear hb2 H1 hP
        go_wp2_with fail
        go_ret2
        exact HE.out

end Go.Proofs.YtifkldllhbcmkaaDoor
