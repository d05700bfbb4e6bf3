/- The codes that a block of Kind 2 tells. -/
import Derived.Test.YtifkldllhbcmkaaDoorInfFill
namespace Go.Proofs.YtifkldllhbcmkaaDoor
open Go.RowKit
set_option linter.unusedVariables false
set_option linter.unusedSimpArgs false

def restM (bs : List Int) (a b : Nat) (lc : List Int) (p : Nat) : Rs (List Int × List Int) := bnd (loopM (rowM bs lc (a + b)) (8 * bs.length) p []) fun r q =>
  if gI r 256 = 0 then .error 4 else if okS (nOf (r.take a)) then if okS (nOf (r.drop a)) then .ok ((r.take a, r.drop a), q) else .error 4 else .error 4
theorem told_is (bs : List Int) (p : Nat) : toldM bs p = bnd (countM bs 5 257 286 p) fun a p1 => bnd (countM bs 5 1 30 p1) fun b p2 => bnd (countM bs 4 4 19 p2) fun n p3 => bnd (codeM bs n p3) fun lc p4 => restM bs a b lc p4 := by
  unfold toldM
  congr 1; funext a p1; congr 1; funext b p2; congr 1; funext n p3
  unfold codeM
  rcases (lensM bs n p3).two with ⟨x, hx⟩ | ⟨M, q, hx⟩
  · rw [hx]; rfl
  · rw [hx, bnd_ok, bnd_ok]
    by_cases h : okS (nOf (lstF M 19))
    · rw [if_pos h, if_pos h, bnd_ok]; rfl
    · rw [if_neg h, if_neg h]; rfl
theorem count_in {bs : List Int} {n least most p v q : Nat} (h : countM bs n least most p = .ok (v, q)) : least ≤ v ∧ v ≤ most := by
  unfold countM at h
  rcases (takeM bs n p).two with ⟨x, hx⟩ | ⟨v, r, hx⟩
  · rw [hx] at h; cases h
  · rw [hx, bnd_ok] at h
    split at h
    · cases h
    · simp only [Except.ok.injEq, Prod.mk.injEq] at h; omega
theorem lg_of (l : List Int) (h : l.length ≤ 320) (hf : Fine l) : ∃ e : Int, Lg l e ∧ ((e = 0 ∧ okS (nOf l)) ∨ (e = 4 ∧ ¬ okS (nOf l))) := by
  by_cases hok : okS (nOf l)
  · exact ⟨0, Or.inr ⟨h, hf, Or.inl ⟨rfl, hok⟩⟩, Or.inl ⟨rfl, hok⟩⟩
  · exact ⟨4, Or.inr ⟨h, hf, Or.inr ⟨rfl, hok⟩⟩, Or.inr ⟨rfl, hok⟩⟩
/-- Two tables, or an error. -/
def GaveC (c : Cx) (w : World) (ob : Option Nat) (o : List Int) (R : Rs (List Int × List Int)) (e : Ending) (w' : World) : Prop :=
  (∃ ls ld q gs gd, R = .ok ((ls, ld), q) ∧ e = .returned (.tuple #[.agg #[.pointer (some ⟨gs, 0, none⟩), .pointer (some ⟨gd, 0, none⟩)], .int .i64 0]) ∧ UAt c w' ob q o ∧ Mv c w ob w' ob ∧ TabIn c w' ob gs ls ∧ TabIn c w' ob gd ld ∧ ls.length ≤ 320 ∧ ld.length ≤ 320) ∨
  (∃ x P Q, R = .error x ∧ (x = 2 ∨ x = 4 ∨ x = 8) ∧ e = .returned (.tuple #[.agg #[.pointer P, .pointer Q], .int .i64 (x : Nat)]) ∧ Below c.B w w')
/-- The result's cell, the bits. -/
structure Tl (c : Cx) (w wi : World) (g2 q : Nat) : Prop where
  bits : BitsAt (fun k => c.B ≤ k ∧ k < c.gb) wi c.gb c.bs q
  ch : Ch (fun k => k = c.gb) w wi
  res : wi.heap[g2]? = some (.cells #[.pointer none, .pointer none] 35 (0, 0))
  gb : c.gb < g2
  gu : c.gu < g2
  new : w.heap.size ≤ g2
theorem Tl.lt {c : Cx} {w wi : World} {g2 q : Nat} (h : Tl c w wi g2 q) : g2 < wi.heap.size := (Array.getElem?_eq_some_iff.1 h.res).1
theorem Tl.next' {c : Cx} {w wi wj : World} {g2 q : Nat} (h : Tl c w wi g2 q) (hc : Ch (fun k => k = c.gb) wi wj) : Ch (fun k => k = c.gb) w wj := h.ch.then hc
theorem Tl.next {c : Cx} {w wi wj : World} {g2 q r : Nat} (h : Tl c w wi g2 q) (hb : BitsAt (fun k => c.B ≤ k ∧ k < c.gb) wj c.gb c.bs r) (hc : Ch (fun k => k = c.gb) wi wj) : Tl c w wj g2 r :=
  ⟨hb, h.ch.then hc, (hc.block g2 h.lt (by have := h.gb; omega)).trans h.res, h.gb, h.gu, h.new⟩
theorem told_bad {c : Cx} {w wi wj : World} {ob : Option Nat} {o : List Int} {g2 q x : Nat} {R : Rs (List Int × List Int)} (h : Tl c w wi g2 q) (hc : Ch (fun k => k = c.gb) wi wj) (hw : Below c.B w wj) (hR : R = .error x) (hx : x = 2 ∨ x = 4 ∨ x = 8) :
    wj.heap[g2]? = some (.cells #[.pointer none, .pointer none] 35 (0, 0)) ∧
    ((wj.setCell ⟨g2, 0, none⟩ (.pointer none)).setCell ⟨g2, 1, none⟩ (.pointer none)).cell? ⟨g2, 0, none⟩ = some (.pointer none) ∧ ((wj.setCell ⟨g2, 0, none⟩ (.pointer none)).setCell ⟨g2, 1, none⟩ (.pointer none)).cell? ⟨g2, 1, none⟩ = some (.pointer none) ∧
    GaveC c w ob o R (.returned (.tuple #[.agg #[.pointer none, .pointer none], .int .i64 (x : Nat)])) ((wj.setCell ⟨g2, 0, none⟩ (.pointer none)).setCell ⟨g2, 1, none⟩ (.pointer none)) := by
  have hr := (hc.block g2 h.lt (by have := h.gb; omega)).trans h.res
  obtain ⟨k0, k1⟩ := two_cells (two_set (x := .pointer none) (y := .pointer none) hr)
  refine ⟨hr, k0, k1, Or.inr ⟨x, none, none, hR, hx, rfl, hw.trans ((two_ch (F := fun k => k = g2) rfl).below (fun k hk => ?_) ?_)⟩⟩
  · have := h.gu; have := c.b1; have := c.b2; omega
  · have := (Array.getElem?_eq_some_iff.1 hr).1; have := h.gu; have := c.b1; have := c.b2; omega
/-- A table that was just made, beside a block of one's own. -/
theorem TabIn.newPut {c : Cx} {u v W : World} {ob : Option Nat} {g g2 : Nat} {l : List Int} (h : TabAt (fun k => u.heap.size ≤ k) v g l) (hu : c.gu < u.heap.size) (ho : ∀ k, ob = some k → k < u.heap.size) (hC : Ch (fun k => k = g2) v W) (h2 : g2 < u.heap.size) : TabIn c W ob g l :=
  ⟨fun k => u.heap.size ≤ k ∧ k < v.heap.size, (h.weak (G := fun k => u.heap.size ≤ k ∧ k < v.heap.size) fun k hk h1 => ⟨h1, hk⟩).ch hC fun k hk => by omega, fun k hk => ⟨by omega, by have := c.b2; omega, fun e => by have := ho k e; omega, Nat.lt_of_lt_of_le hk.2 hC.size, by have := c.b1; have := c.b2; omega⟩⟩
theorem told_end {c : Cx} {w w6 w7 : World} {ob : Option Nat} {p p6 g2 a S : Nat} {o ls ld : List Int} {P Q : Option Addr} {e : Int} {R : Rs (List Int × List Int)} (h : UAt c w ob p o) (ht : Tl c w w6 g2 p6) (hr : w7.heap[g2]? = some (.cells #[.pointer none, .pointer none] 35 (0, 0)))
    (hb : Below w6.drew.heap.size w6.drew w7) (hPQ : e = 0 → ∃ gs gd, P = some ⟨gs, 0, none⟩ ∧ Q = some ⟨gd, 0, none⟩ ∧ TabAt (fun k => w6.drew.heap.size ≤ k) w7 gs ls ∧ TabAt (fun k => w6.drew.heap.size ≤ k) w7 gd ld)
    (hR : (e = 0 → R = .ok ((ls, ld), p6)) ∧ (e ≠ 0 → e = 4 ∧ R = .error 4)) (h1 : ls.length = a) (h2 : ld.length = S - a) (ha : a ≤ 320) (hS : S ≤ 320) :
    ((w7.setCell ⟨g2, 0, none⟩ (.pointer P)).setCell ⟨g2, 1, none⟩ (.pointer Q)).cell? ⟨g2, 0, none⟩ = some (.pointer P) ∧ ((w7.setCell ⟨g2, 0, none⟩ (.pointer P)).setCell ⟨g2, 1, none⟩ (.pointer Q)).cell? ⟨g2, 1, none⟩ = some (.pointer Q) ∧
    GaveC c w ob o R (.returned (.tuple #[.agg #[.pointer P, .pointer Q], .int .i64 e])) ((w7.setCell ⟨g2, 0, none⟩ (.pointer P)).setCell ⟨g2, 1, none⟩ (.pointer Q)) := by
  obtain ⟨k0, k1⟩ := two_cells (two_set (x := .pointer P) (y := .pointer Q) hr)
  refine ⟨k0, k1, ?_⟩
  have hC : Ch (fun k => k = g2) w7 ((w7.setCell ⟨g2, 0, none⟩ (.pointer P)).setCell ⟨g2, 1, none⟩ (.pointer Q)) := two_ch rfl
  have hb6 : Below w6.heap.size w6 w7 := (bdrawn (Below.refl _ _) 1).trans hb
  have hlt := ht.lt
  have hnew := ht.new
  have hgb := ht.gb
  have hgu := ht.gu
  have hCh : Ch (fun k => k = c.gb) w ((w7.setCell ⟨g2, 0, none⟩ (.pointer P)).setCell ⟨g2, 1, none⟩ (.pointer Q)) := (ht.ch.then (Ch.of_below hb6)).trans hC fun i hi => by omega
  by_cases h0 : e = 0
  · subst h0
    obtain ⟨gs, gd, rfl, rfl, t1, t2⟩ := hPQ rfl
    have hz : w6.drew.heap.size = w6.heap.size := rfl
    have ho : ∀ k, ob = some k → k < w6.drew.heap.size := fun k hk => by
      have := (h.ob k hk).2
      have := ht.ch.size
      omega
    refine Or.inl ⟨ls, ld, p6, gs, gd, hR.1 rfl, rfl, h.bitsMv ((ht.bits.below hb6).ch hC (by omega) fun k hk => by omega) hCh, Mv.bits hCh, TabIn.newPut t1 (by omega) ho hC (by omega), TabIn.newPut t2 (by omega) ho hC (by omega), by omega, by omega⟩
  · obtain ⟨rfl, hR4⟩ := hR.2 h0
    exact Or.inr ⟨4, P, Q, hR4, by omega, rfl, h.mvBelow (Mv.bits (ob := ob) hCh)⟩
attribute [local simp ↓ high] bigAlloc_as4
set_option maxRecDepth 100000 in
set_option maxHeartbeats 12800000 in
theorem toldCodes_u (c : Cx) (w : World) (ob : Option Nat) (p : Nat) (o : List Int) (h : UAt c w ob p o) (hO : OrdAt c.B w) :
    Calls Tryd.prog 23 #[.pointer (some ⟨c.gu, 0, none⟩)] w (GaveC c w ob o (toldM c.bs p)) := by
  obtain ⟨A1, z1, z2, a1⟩ := big_new 69 317 big4
  have hb0 : Below w.heap.size w (w.alloc (.cells #[.pointer none, .pointer none] 35)) := bnew w _
  have hgu := h.gu
  have hgb := h.bits.lt
  have HS : Hid (Tl c w (w.alloc (.cells #[.pointer none, .pointer none] 35)) w.heap.size p) := Lib.hid ⟨h.bits.below hb0, Ch.of_below hb0, heap_alloc_new w _, hgb, hgu, Nat.le_refl _⟩
  have HH := Lib.hid h
  have HU := Lib.hid (fun wi q (ht : Tl c w wi w.heap.size q) => h.bitsMv ht.bits ht.ch)
  have HB := Lib.hid (fun wi (hc : Ch (fun k => k = c.gb) w wi) => h.mvBelow (Mv.bits (ob := ob) hc))
  have HO := Lib.hid (fun wi (hb : Below c.B w wi) => hO.below hb)
  have HF : Hid (toldM c.bs p = bnd (countM c.bs 5 257 286 p) fun a p1 => bnd (countM c.bs 5 1 30 p1) fun b p2 => bnd (countM c.bs 4 4 19 p2) fun n p3 => bnd (codeM c.bs n p3) fun lc p4 => restM c.bs a b lc p4) := Lib.hid (told_is c.bs p)
  obtain ⟨g2, hg2⟩ : ∃ g2, w.heap.size = g2 := ⟨_, rfl⟩
  have H1 := Lib.hid (count_b c _ ob p o 5 257 286 (by omega) (by omega) (by omega) (h.below hb0))
  rw [hg2] at HS HU
  have HG2 := Lib.hid hg2
  clear h hO hb0 hgu hgb
  go_enter Tryd.func23, Tryd.ntmps23
  go_wp2_with fail
  clear hg2
  refine H1.out.mono ?_
  rintro e w1 (⟨a, q1, hR1, rfl, hb1, hc1⟩ | ⟨x, hR, hx, rfl, hb⟩)
  · have HT1 := Lib.hid (HS.out.next hb1 hc1)
    have ha : 257 ≤ a ∧ a ≤ 286 := count_in hR1
    have HF1 : Hid (toldM c.bs p = bnd (countM c.bs 5 1 30 q1) fun b p2 => bnd (countM c.bs 4 4 19 p2) fun n p3 => bnd (codeM c.bs n p3) fun lc p4 => restM c.bs a b lc p4) := Lib.hid (by rw [HF.out, hR1, bnd_ok])
    obtain ⟨r0, r1, s0, s1⟩ := two_facts HT1.out.res
    have H2 := Lib.hid (count_b c w1 ob q1 o 5 1 30 (by omega) (by omega) (by omega) (HU.out w1 q1 HT1.out))
    clear hb1 hc1 hR1 H1 HF HS
    go_wp2_with fail
    refine H2.out.mono ?_
    rintro e w2 (⟨b, q2, hR1, rfl, hb1, hc1⟩ | ⟨x, hR, hx, rfl, hb⟩)
    · have HT2 := Lib.hid (HT1.out.next hb1 hc1)
      have hbb : 1 ≤ b ∧ b ≤ 30 := count_in hR1
      have HF2 : Hid (toldM c.bs p = bnd (countM c.bs 4 4 19 q2) fun n p3 => bnd (codeM c.bs n p3) fun lc p4 => restM c.bs a b lc p4) := Lib.hid (by rw [HF1.out, hR1, bnd_ok])
      have H3 := Lib.hid (count_b c w2 ob q2 o 4 4 19 (by omega) (by omega) (by omega) (HU.out w2 q2 HT2.out))
      clear hb1 hc1 hR1 H2 HF1 r0 r1 s0 s1
      go_wp2_with fail
      refine H3.out.mono ?_
      rintro e w3 (⟨n, q3, hR1, rfl, hb1, hc1⟩ | ⟨x, hR, hx, rfl, hb⟩)
      · have HT3 := Lib.hid (HT2.out.next hb1 hc1)
        have hnn : 4 ≤ n ∧ n ≤ 19 := count_in hR1
        have HF3 : Hid (toldM c.bs p = bnd (codeM c.bs n q3) fun lc p4 => restM c.bs a b lc p4) := Lib.hid (by rw [HF2.out, hR1, bnd_ok])
        have H4 := Lib.hid (lengthCodes_u c w3 ob q3 o n (by omega) (HU.out w3 q3 HT3.out) (HO.out w3 (HB.out w3 HT3.out.ch)))
        clear hb1 hc1 hR1 H3 HF2
        go_wp2_with fail
        refine H4.out.mono ?_
        rintro e w4 (⟨lc, q4, g, hR1, rfl, hb1, hc1, hT, hlc⟩ | ⟨x, hR, hx, rfl, hb⟩)
        · have HT4 := Lib.hid (HT3.out.next hb1 hc1)
          have HF4 : Hid (toldM c.bs p = restM c.bs a b lc q4) := Lib.hid (by rw [HF3.out, hR1, bnd_ok])
          have hu4 := HU.out w4 q4 HT4.out
          obtain ⟨G, hTG, hOff⟩ := hT
          have hb5 : Below w4.heap.size w4 (w4.alloc (.cells A1 69)) := bnew w4 _
          have hrow0 : RowIs (w4.alloc (.cells A1 69)) w4.heap.size [] := (num_new z1 z2 w4).congr fun j _ => by
            unfold numC rowF
            split
            · rfl
            · rw [gI_nil]
          have HT5 := Lib.hid (HT4.out.next (HT4.out.bits.below hb5) (Ch.of_below hb5))
          have H5 := Lib.hid (fill_u c w4 _ ob q4 q4 o w4.heap.size g (a + b) lc G hu4 (hu4.bits.below hb5) (Ch.of_below hb5) (Nat.le_refl _) hrow0 (hTG.below hb5) (fun k hk => by
            obtain ⟨a1, a2, a3, a4, a5⟩ := hOff k hk
            exact ⟨a1, a2, a3, by simp; omega, a5, by omega⟩) hlc (by omega))
          have hab : (a : Int) + (b : Int) = ((a + b : Nat) : Int) := by omega
          have hgr := Lib.hid (show c.gb < w4.heap.size ∧ g2 < w4.heap.size from ⟨HT4.out.bits.lt, HT4.out.lt⟩)
          obtain ⟨gr, hgr0⟩ : ∃ gr, w4.heap.size = gr := ⟨_, rfl⟩
          rw [hgr0] at H5 hgr
          obtain ⟨S, hS⟩ : ∃ S, a + b = S := ⟨_, rfl⟩
          rw [hS] at H5 hab
          have hSS : S ≤ 316 := by omega
          have HSa := Lib.hid hS
          clear hb1 hc1 hR1 H4 HF3 hu4 hTG hOff hb5 hrow0 hS hlc z1 z2
          go_wp2_with fail
          clear a1 hgr0
          refine H5.out.mono ?_
          rintro e w6 (⟨row, q6, hR1, rfl, hb1, hc1, hrow, hrl, hfine⟩ | ⟨x, hR, hx, rfl, hb⟩)
          · have HT6 := Lib.hid (HT4.out.next hb1 hc1)
            have HF6 : Hid (toldM c.bs p = if gI row 256 = 0 then .error 4 else if okS (nOf (row.take a)) then if okS (nOf (row.drop a)) then .ok ((row.take a, row.drop a), q6) else .error 4 else .error 4) := Lib.hid (by
              rw [HF4.out]; unfold restM; rw [HSa.out, hR1, bnd_ok])
            have hc256 := RowIs.at hrow 256 (by omega)
            have hcn := RowIs.n hrow
            rw [hrl] at hcn
            obtain ⟨y, hy⟩ : ∃ y, gI row 256 = y := ⟨_, rfl⟩
            rw [hy] at hc256 HF6
            have HRow := Lib.hid hrow
            have hfin := Lib.hid hfine
            have hrlH := Lib.hid hrl
            clear hb1 hc1 hR1 H5 HF4 hrow hfine hrl hy
            by_cases h0 : y = 0
            · subst h0
              obtain ⟨hr, m0, m1, m2⟩ := told_bad (ob := ob) (o := o) (R := toldM c.bs p) (x := 4) HT6.out (Ch.refl _ _) (HB.out _ HT6.out.ch) (by rw [HF6.out, if_pos rfl]) (by omega)
              obtain ⟨r0, r1, s0, s1⟩ := two_facts hr
              have HE := Lib.hid (And.intro m0 (And.intro m1 m2))
              clear hr m0 m1 m2
              go_wp2_with fail
              exact bodyPost_ret (results_cd2 rfl _ HE.out.1 HE.out.2.1 rfl (.int .i64 4) rfl) rfl HE.out.2.2
            · have d0 : (y == 0) = false := by rw [beq_eq_false_iff_ne]; exact h0
              have haS : a ≤ S := by have := HSa.out; omega
              have hlt : (row.take a).length = a := by rw [List.length_take, hrlH.out]; omega
              have hld : (row.drop a).length = S - a := by rw [List.length_drop, hrlH.out]
              have hf1 : Fine (row.take a) := fun j => by
                by_cases hj : j < a
                · rw [gI_take _ _ _ hj]; exact hfin.out j
                · rw [gI_end _ j (by omega)]; omega
              have hf2 : Fine (row.drop a) := fun j => by rw [gI_drop]; exact hfin.out _
              obtain ⟨e1, g1, g1'⟩ := lg_of (row.take a) (by omega) hf1
              obtain ⟨e2, g3, g3'⟩ := lg_of (row.drop a) (by omega) hf2
              obtain ⟨e, hee⟩ : ∃ e : Int, (e1 = 0 → e = e2) ∧ (e1 ≠ 0 → e = e1) := by
                by_cases hz : e1 = 0
                · exact ⟨e2, fun _ => rfl, fun x => absurd hz x⟩
                · exact ⟨e1, fun x => absurd x hz, fun _ => rfl⟩
              have hp1 : IAt (fun _ => True) w6 (some ⟨gr, 0, none⟩) a 316 (row.take a) :=
                ⟨hlt, by omega, by unfold maxLen; omega, fun x => (by cases x), fun _ => ⟨gr, 0, rfl, trivial, HRow.out.lt, fun j hj => by rw [Nat.zero_add, RowIs.at HRow.out j (by omega), gI_take _ _ _ hj]⟩⟩
              have hp2 : IAt (fun _ => True) w6 (some ⟨gr, a, none⟩) (S - a) (316 - a) (row.drop a) :=
                ⟨hld, by omega, by unfold maxLen; omega, fun x => (by cases x), fun _ => ⟨gr, a, rfl, trivial, HRow.out.lt, fun j hj => by rw [RowIs.at HRow.out (a + j) (by omega), gI_drop]⟩⟩
              have HN := Lib.hid (fun u (hu : Below w6.heap.size w6 u) => (newCodes_any _ _ _ _ _ _ _ _ e1 e2 e u (hp1.below hu) (hp2.below hu) g1 g3 hee).mono fun x w7 (h : NewCd u (row.take a) (row.drop a) e x w7) =>
                show ∃ P Q, x = .returned (.tuple #[.agg #[.pointer P, .pointer Q], .int .i64 e]) ∧ Hid (Below u.heap.size u w7 ∧ (e = 0 → ∃ gs gd, P = some ⟨gs, 0, none⟩ ∧ Q = some ⟨gd, 0, none⟩ ∧ TabAt (fun k => u.heap.size ≤ k) w7 gs (row.take a) ∧ TabAt (fun k => u.heap.size ≤ k) w7 gd (row.drop a))) from by
                  obtain ⟨P, Q, h1, h2, h3⟩ := h
                  exact ⟨P, Q, h1, Lib.hid ⟨h2, h3⟩⟩)
              have HG : Hid ((e = 0 → toldM c.bs p = .ok ((row.take a, row.drop a), q6)) ∧ (e ≠ 0 → e = 4 ∧ toldM c.bs p = .error 4)) := Lib.hid (by
                rw [HF6.out, if_neg h0]
                rcases g1' with ⟨rfl, k1⟩ | ⟨rfl, k1⟩
                · rw [if_pos k1, hee.1 rfl]
                  rcases g3' with ⟨rfl, k2⟩ | ⟨rfl, k2⟩
                  · rw [if_pos k2]; exact ⟨fun _ => rfl, fun x => absurd rfl x⟩
                  · rw [if_neg k2]; exact ⟨fun x => (by cases x), fun _ => ⟨rfl, rfl⟩⟩
                · rw [if_neg k1, hee.2 (by decide)]; exact ⟨fun x => (by cases x), fun _ => ⟨rfl, rfl⟩⟩)
              have HLn := Lib.hid (And.intro hlt hld)
              have i1 : (a : Int) ≤ (S : Int) := by omega
              have i2 : (S : Int) ≤ 316 := by omega
              have i3 : (a : Int) ≤ 316 := by omega
              have i4 : (a : Int).toNat = a := by omega
              have i5 : (S : Int).toNat = S := by omega
              have i6 : ¬ 316 = a := by omega
              have i7 : 0 ≤ (a : Int) := by omega
              have i8 : 0 ≤ (S : Int) := by omega
              clear hf1 hf2 g1 g1' g3 g3' hp1 hp2 hee hlt hld
              go_wp2_with fail
              go_region_with (go_at_call 24; refine (HN.out _ (Below.refl _ _).drew).mono ?_; rintro e' w7 ⟨P, Q, rfl, H7⟩; have HR7 := Lib.hid ((H7.out.1.block g2 HT6.out.lt).trans HT6.out.res); obtain ⟨r0, r1, s0, s1⟩ := two_facts HR7.out)
              all_goals
                have HC7 := Lib.hid (told_end HH.out HT6.out HR7.out H7.out.1 H7.out.2 HG.out HLn.out.1 HLn.out.2 (by omega) (by omega))
                clear HR7 H7 HG HN r0 r1 s0 s1
                go_wp2_with fail
                exact bodyPost_ret (results_cd2 rfl _ HC7.out.1 HC7.out.2.1 rfl (.int .i64 e) rfl) rfl HC7.out.2.2
          · have HF4' := Lib.hid (show toldM c.bs p = .error x by rw [HF4.out]; unfold restM; rw [HSa.out, hR]; rfl)
            have hn := nz hx
            obtain ⟨hr, m0, m1, m2⟩ := told_bad (ob := ob) (o := o) (R := toldM c.bs p) HT4.out hb (HB.out _ (HT4.out.next' hb)) (by exact HF4'.out) hx
            obtain ⟨r0, r1, s0, s1⟩ := two_facts hr
            have HE := Lib.hid (And.intro m0 (And.intro m1 m2))
            clear hr m0 m1 m2 hR hx hb
            go_wp2_with fail
            exact bodyPost_ret (results_cd2 rfl _ HE.out.1 HE.out.2.1 rfl (.int .i64 (x : Nat)) rfl) rfl HE.out.2.2
        · have hn := nz hx
          obtain ⟨hr, m0, m1, m2⟩ := told_bad (ob := ob) (o := o) (R := toldM c.bs p) HT3.out hb (HB.out _ (HT3.out.next' hb)) (by rw [HF3.out, hR]; rfl) hx
          obtain ⟨r0, r1, s0, s1⟩ := two_facts hr
          have HE := Lib.hid (And.intro m0 (And.intro m1 m2))
          clear hr m0 m1 m2 hR hx hb
          go_wp2_with fail
          exact bodyPost_ret (results_cd2 rfl _ HE.out.1 HE.out.2.1 rfl (.int .i64 (x : Nat)) rfl) rfl HE.out.2.2
      · have hn := nz hx
        obtain ⟨hr, m0, m1, m2⟩ := told_bad (ob := ob) (o := o) (R := toldM c.bs p) HT2.out hb (HB.out _ (HT2.out.next' hb)) (by rw [HF2.out, hR]; rfl) hx
        obtain ⟨r0, r1, s0, s1⟩ := two_facts hr
        have HE := Lib.hid (And.intro m0 (And.intro m1 m2))
        clear hr m0 m1 m2 hR hx hb
        go_wp2_with fail
        exact bodyPost_ret (results_cd2 rfl _ HE.out.1 HE.out.2.1 rfl (.int .i64 (x : Nat)) rfl) rfl HE.out.2.2
    · have hn := nz hx
      obtain ⟨hr, m0, m1, m2⟩ := told_bad (ob := ob) (o := o) (R := toldM c.bs p) HT1.out hb (HB.out _ (HT1.out.next' hb)) (by rw [HF1.out, hR]; rfl) hx
      obtain ⟨r0, r1, s0, s1⟩ := two_facts hr
      have HE := Lib.hid (And.intro m0 (And.intro m1 m2))
      clear hr m0 m1 m2 hR hx hb
      go_wp2_with fail
      exact bodyPost_ret (results_cd2 rfl _ HE.out.1 HE.out.2.1 rfl (.int .i64 (x : Nat)) rfl) rfl HE.out.2.2
  · have hn := nz hx
    obtain ⟨hr, m0, m1, m2⟩ := told_bad (ob := ob) (o := o) (R := toldM c.bs p) HS.out hb (HB.out _ (HS.out.next' hb)) (by rw [HF.out, hR]; rfl) hx
    obtain ⟨r0, r1, s0, s1⟩ := two_facts hr
    have HE := Lib.hid (And.intro m0 (And.intro m1 m2))
    clear hr m0 m1 m2 hR hx hb
    go_wp2_with fail
    exact bodyPost_ret (results_cd2 rfl _ HE.out.1 HE.out.2.1 rfl (.int .i64 (x : Nat)) rfl) rfl HE.out.2.2

end Go.Proofs.YtifkldllhbcmkaaDoor
