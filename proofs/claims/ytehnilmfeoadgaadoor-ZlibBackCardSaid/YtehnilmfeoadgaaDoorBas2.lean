/- Texts put together: InfTold, InfBlock, InfInflate, InfRun, InfLives, InfStore, InfBackMath, InfLawBack, AdlerMath, AdlerSet, ZlibMath, AdlerWalk, AdlerAdd, ZlibSum, ZlibPack, ZlibUnpack, ZlibHeads, ZlibOpen. -/
import Derived.Test.YtehnilmfeoadgaaDoorBas1
import Derived.Laws.BytesArg
import Derived.Test.YtehnilmfeoadgaaDoorProg
import Derived.Deep.QuietTactic
import Derived.BigQuiet
import Derived.RegionTactic
import Derived.ChangeAlike
import Derived.LoopTactic
import Derived.Lib.Hide
import Derived.Lib.SlBytesConst
import Derived.LoopN
import Derived.Test.YtehnilmfeoadgaaDoorRows
import Derived.ProofKit
import Derived.OpenShut
import Derived.ChangeArms
import Derived.ChangeSame
import Derived.ChangeOld
import Derived.Lib.LaidTab
import Derived.Stop.LaidErr
import Derived.LaidMore
import Derived.MakeChecks
/- The codes that a block of Kind 2 tells. -/
namespace Go.Proofs.YtehnilmfeoadgaaDoor
open Go.RowKit
set_option linter.unusedVariables false
set_option linter.unusedSimpArgs false

def restM (bs : List Int) (a b : Nat) (lc : List Int) (p : Nat) : Rs (List Int × List Int) := bnd (loopM (rowM bs lc (a + b)) (8 * bs.length) p []) fun r q =>
  if gI r 256 = 0 then .error 4 else if okS (nOf (r.take a)) then if okS (nOf (r.drop a)) then .ok ((r.take a, r.drop a), q) else .error 4 else .error 4
theorem told_is (bs : List Int) (p : Nat) : toldM bs p = bnd (countM bs 5 257 286 p) fun a p1 => bnd (countM bs 5 1 30 p1) fun b p2 => bnd (countM bs 4 4 19 p2) fun n p3 => bnd (codeM bs n p3) fun lc p4 => restM bs a b lc p4 := by
  unfold toldM
  congr 1; funext a p1; congr 1; funext b p2; congr 1; funext n p3
  unfold codeM
  rcases (lensM bs n p3).two with ⟨x, hx⟩ | ⟨M, q, hx⟩
  · rw [hx]; rfl
  · rw [hx, bnd_ok, bnd_ok]
    by_cases h : okS (nOf (lstF M 19))
    · rw [if_pos h, if_pos h, bnd_ok]; rfl
    · rw [if_neg h, if_neg h]; rfl
theorem count_in {bs : List Int} {n least most p v q : Nat} (h : countM bs n least most p = .ok (v, q)) : least ≤ v ∧ v ≤ most := by
  unfold countM at h
  rcases (takeM bs n p).two with ⟨x, hx⟩ | ⟨v, r, hx⟩
  · rw [hx] at h; cases h
  · rw [hx, bnd_ok] at h
    split at h
    · cases h
    · simp only [Except.ok.injEq, Prod.mk.injEq] at h; omega
theorem lg_of (l : List Int) (h : l.length ≤ 320) (hf : Fine l) : ∃ e : Int, Lg l e ∧ ((e = 0 ∧ okS (nOf l)) ∨ (e = 4 ∧ ¬ okS (nOf l))) := by
  by_cases hok : okS (nOf l)
  · exact ⟨0, Or.inr ⟨h, hf, Or.inl ⟨rfl, hok⟩⟩, Or.inl ⟨rfl, hok⟩⟩
  · exact ⟨4, Or.inr ⟨h, hf, Or.inr ⟨rfl, hok⟩⟩, Or.inr ⟨rfl, hok⟩⟩
/-- Two tables, or an error. -/
def GaveC (c : Cx) (w : World) (ob : Option Nat) (o : List Int) (R : Rs (List Int × List Int)) (e : Ending) (w' : World) : Prop :=
  (∃ ls ld q gs gd, R = .ok ((ls, ld), q) ∧ e = .returned (.tuple #[.agg #[.pointer (some ⟨gs, 0, none⟩), .pointer (some ⟨gd, 0, none⟩)], .int .i64 0]) ∧ UAt c w' ob q o ∧ Mv c w ob w' ob ∧ TabIn c w' ob gs ls ∧ TabIn c w' ob gd ld ∧ ls.length ≤ 320 ∧ ld.length ≤ 320) ∨
  (∃ x P Q, R = .error x ∧ (x = 2 ∨ x = 4 ∨ x = 8) ∧ e = .returned (.tuple #[.agg #[.pointer P, .pointer Q], .int .i64 (x : Nat)]) ∧ Below c.B w w')
/-- The result's cell, the bits. -/
structure Tl (c : Cx) (w wi : World) (g2 q : Nat) : Prop where
  bits : BitsAt (fun k => c.B ≤ k ∧ k < c.gb) wi c.gb c.bs q
  ch : Ch (fun k => k = c.gb) w wi
  res : wi.heap[g2]? = some (.cells #[.pointer none, .pointer none] 48 (0, 0))
  gb : c.gb < g2
  gu : c.gu < g2
  new : w.heap.size ≤ g2
theorem Tl.lt {c : Cx} {w wi : World} {g2 q : Nat} (h : Tl c w wi g2 q) : g2 < wi.heap.size := (Array.getElem?_eq_some_iff.1 h.res).1
theorem Tl.next' {c : Cx} {w wi wj : World} {g2 q : Nat} (h : Tl c w wi g2 q) (hc : Ch (fun k => k = c.gb) wi wj) : Ch (fun k => k = c.gb) w wj := h.ch.then hc
theorem Tl.next {c : Cx} {w wi wj : World} {g2 q r : Nat} (h : Tl c w wi g2 q) (hb : BitsAt (fun k => c.B ≤ k ∧ k < c.gb) wj c.gb c.bs r) (hc : Ch (fun k => k = c.gb) wi wj) : Tl c w wj g2 r :=
  ⟨hb, h.ch.then hc, (hc.block g2 h.lt (by have := h.gb; omega)).trans h.res, h.gb, h.gu, h.new⟩
theorem told_bad {c : Cx} {w wi wj : World} {ob : Option Nat} {o : List Int} {g2 q x : Nat} {R : Rs (List Int × List Int)} (h : Tl c w wi g2 q) (hc : Ch (fun k => k = c.gb) wi wj) (hw : Below c.B w wj) (hR : R = .error x) (hx : x = 2 ∨ x = 4 ∨ x = 8) :
    wj.heap[g2]? = some (.cells #[.pointer none, .pointer none] 48 (0, 0)) ∧
    ((wj.setCell ⟨g2, 0, none⟩ (.pointer none)).setCell ⟨g2, 1, none⟩ (.pointer none)).cell? ⟨g2, 0, none⟩ = some (.pointer none) ∧ ((wj.setCell ⟨g2, 0, none⟩ (.pointer none)).setCell ⟨g2, 1, none⟩ (.pointer none)).cell? ⟨g2, 1, none⟩ = some (.pointer none) ∧
    GaveC c w ob o R (.returned (.tuple #[.agg #[.pointer none, .pointer none], .int .i64 (x : Nat)])) ((wj.setCell ⟨g2, 0, none⟩ (.pointer none)).setCell ⟨g2, 1, none⟩ (.pointer none)) := by
  have hr := (hc.block g2 h.lt (by have := h.gb; omega)).trans h.res
  obtain ⟨k0, k1⟩ := two_cells (two_set (x := .pointer none) (y := .pointer none) hr)
  refine ⟨hr, k0, k1, Or.inr ⟨x, none, none, hR, hx, rfl, hw.trans ((two_ch (F := fun k => k = g2) rfl).below (fun k hk => ?_) ?_)⟩⟩
  · have := h.gu; have := c.b1; have := c.b2; omega
  · have := (Array.getElem?_eq_some_iff.1 hr).1; have := h.gu; have := c.b1; have := c.b2; omega
/-- A table that was just made, beside a block of one's own. -/
theorem TabIn.newPut {c : Cx} {u v W : World} {ob : Option Nat} {g g2 : Nat} {l : List Int} (h : TabAt (fun k => u.heap.size ≤ k) v g l) (hu : c.gu < u.heap.size) (ho : ∀ k, ob = some k → k < u.heap.size) (hC : Ch (fun k => k = g2) v W) (h2 : g2 < u.heap.size) : TabIn c W ob g l :=
  ⟨fun k => u.heap.size ≤ k ∧ k < v.heap.size, (h.weak (G := fun k => u.heap.size ≤ k ∧ k < v.heap.size) fun k hk h1 => ⟨h1, hk⟩).ch hC fun k hk => by omega, fun k hk => ⟨by omega, by have := c.b2; omega, fun e => by have := ho k e; omega, Nat.lt_of_lt_of_le hk.2 hC.size, by have := c.b1; have := c.b2; omega⟩⟩
theorem told_end {c : Cx} {w w6 w7 : World} {ob : Option Nat} {p p6 g2 a S : Nat} {o ls ld : List Int} {P Q : Option Addr} {e : Int} {R : Rs (List Int × List Int)} (h : UAt c w ob p o) (ht : Tl c w w6 g2 p6) (hr : w7.heap[g2]? = some (.cells #[.pointer none, .pointer none] 48 (0, 0)))
    (hb : Below w6.drew.heap.size w6.drew w7) (hPQ : e = 0 → ∃ gs gd, P = some ⟨gs, 0, none⟩ ∧ Q = some ⟨gd, 0, none⟩ ∧ TabAt (fun k => w6.drew.heap.size ≤ k) w7 gs ls ∧ TabAt (fun k => w6.drew.heap.size ≤ k) w7 gd ld)
    (hR : (e = 0 → R = .ok ((ls, ld), p6)) ∧ (e ≠ 0 → e = 4 ∧ R = .error 4)) (h1 : ls.length = a) (h2 : ld.length = S - a) (ha : a ≤ 320) (hS : S ≤ 320) :
    ((w7.setCell ⟨g2, 0, none⟩ (.pointer P)).setCell ⟨g2, 1, none⟩ (.pointer Q)).cell? ⟨g2, 0, none⟩ = some (.pointer P) ∧ ((w7.setCell ⟨g2, 0, none⟩ (.pointer P)).setCell ⟨g2, 1, none⟩ (.pointer Q)).cell? ⟨g2, 1, none⟩ = some (.pointer Q) ∧
    GaveC c w ob o R (.returned (.tuple #[.agg #[.pointer P, .pointer Q], .int .i64 e])) ((w7.setCell ⟨g2, 0, none⟩ (.pointer P)).setCell ⟨g2, 1, none⟩ (.pointer Q)) := by
  obtain ⟨k0, k1⟩ := two_cells (two_set (x := .pointer P) (y := .pointer Q) hr)
  refine ⟨k0, k1, ?_⟩
  have hC : Ch (fun k => k = g2) w7 ((w7.setCell ⟨g2, 0, none⟩ (.pointer P)).setCell ⟨g2, 1, none⟩ (.pointer Q)) := two_ch rfl
  have hb6 : Below w6.heap.size w6 w7 := (bdrawn (Below.refl _ _) 1).trans hb
  have hlt := ht.lt
  have hnew := ht.new
  have hgb := ht.gb
  have hgu := ht.gu
  have hCh : Ch (fun k => k = c.gb) w ((w7.setCell ⟨g2, 0, none⟩ (.pointer P)).setCell ⟨g2, 1, none⟩ (.pointer Q)) := (ht.ch.then (Ch.of_below hb6)).trans hC fun i hi => by omega
  by_cases h0 : e = 0
  · subst h0
    obtain ⟨gs, gd, rfl, rfl, t1, t2⟩ := hPQ rfl
    have hz : w6.drew.heap.size = w6.heap.size := rfl
    have ho : ∀ k, ob = some k → k < w6.drew.heap.size := fun k hk => by
      have := (h.ob k hk).2
      have := ht.ch.size
      omega
    refine Or.inl ⟨ls, ld, p6, gs, gd, hR.1 rfl, rfl, h.bitsMv ((ht.bits.below hb6).ch hC (by omega) fun k hk => by omega) hCh, Mv.bits hCh, TabIn.newPut t1 (by omega) ho hC (by omega), TabIn.newPut t2 (by omega) ho hC (by omega), by omega, by omega⟩
  · obtain ⟨rfl, hR4⟩ := hR.2 h0
    exact Or.inr ⟨4, P, Q, hR4, by omega, rfl, h.mvBelow (Mv.bits (ob := ob) hCh)⟩
attribute [local simp ↓ high] bigAlloc_as4
set_option maxRecDepth 100000 in
set_option maxHeartbeats 12800000 in
theorem toldCodes_u (c : Cx) (w : World) (ob : Option Nat) (p : Nat) (o : List Int) (h : UAt c w ob p o) (hO : OrdAt c.B w) :
    Calls Tryd.prog 32 #[.pointer (some ⟨c.gu, 0, none⟩)] w (GaveC c w ob o (toldM c.bs p)) := by
  obtain ⟨A1, z1, z2, a1⟩ := big_new 83 317 big4
  have hb0 : Below w.heap.size w (w.alloc (.cells #[.pointer none, .pointer none] 48)) := bnew w _
  have hgu := h.gu
  have hgb := h.bits.lt
  have HS : Hid (Tl c w (w.alloc (.cells #[.pointer none, .pointer none] 48)) w.heap.size p) := Lib.hid ⟨h.bits.below hb0, Ch.of_below hb0, heap_alloc_new w _, hgb, hgu, Nat.le_refl _⟩
  have HH := Lib.hid h
  have HU := Lib.hid (fun wi q (ht : Tl c w wi w.heap.size q) => h.bitsMv ht.bits ht.ch)
  have HB := Lib.hid (fun wi (hc : Ch (fun k => k = c.gb) w wi) => h.mvBelow (Mv.bits (ob := ob) hc))
  have HO := Lib.hid (fun wi (hb : Below c.B w wi) => hO.below hb)
  have HF : Hid (toldM c.bs p = bnd (countM c.bs 5 257 286 p) fun a p1 => bnd (countM c.bs 5 1 30 p1) fun b p2 => bnd (countM c.bs 4 4 19 p2) fun n p3 => bnd (codeM c.bs n p3) fun lc p4 => restM c.bs a b lc p4) := Lib.hid (told_is c.bs p)
  obtain ⟨g2, hg2⟩ : ∃ g2, w.heap.size = g2 := ⟨_, rfl⟩
  have H1 := Lib.hid (count_b c _ ob p o 5 257 286 (by omega) (by omega) (by omega) (h.below hb0))
  rw [hg2] at HS HU
  have HG2 := Lib.hid hg2
  clear h hO hb0 hgu hgb
  go_enter Tryd.func32, Tryd.ntmps32
  go_wp2_with fail
  clear hg2
  refine H1.out.mono ?_
  rintro e w1 (⟨a, q1, hR1, rfl, hb1, hc1⟩ | ⟨x, hR, hx, rfl, hb⟩)
  · have HT1 := Lib.hid (HS.out.next hb1 hc1)
    have ha : 257 ≤ a ∧ a ≤ 286 := count_in hR1
    have HF1 : Hid (toldM c.bs p = bnd (countM c.bs 5 1 30 q1) fun b p2 => bnd (countM c.bs 4 4 19 p2) fun n p3 => bnd (codeM c.bs n p3) fun lc p4 => restM c.bs a b lc p4) := Lib.hid (by rw [HF.out, hR1, bnd_ok])
    obtain ⟨r0, r1, s0, s1⟩ := two_facts HT1.out.res
    have H2 := Lib.hid (count_b c w1 ob q1 o 5 1 30 (by omega) (by omega) (by omega) (HU.out w1 q1 HT1.out))
    clear hb1 hc1 hR1 H1 HF HS
    go_wp2_with fail
    refine H2.out.mono ?_
    rintro e w2 (⟨b, q2, hR1, rfl, hb1, hc1⟩ | ⟨x, hR, hx, rfl, hb⟩)
    · have HT2 := Lib.hid (HT1.out.next hb1 hc1)
      have hbb : 1 ≤ b ∧ b ≤ 30 := count_in hR1
      have HF2 : Hid (toldM c.bs p = bnd (countM c.bs 4 4 19 q2) fun n p3 => bnd (codeM c.bs n p3) fun lc p4 => restM c.bs a b lc p4) := Lib.hid (by rw [HF1.out, hR1, bnd_ok])
      have H3 := Lib.hid (count_b c w2 ob q2 o 4 4 19 (by omega) (by omega) (by omega) (HU.out w2 q2 HT2.out))
      clear hb1 hc1 hR1 H2 HF1 r0 r1 s0 s1
      go_wp2_with fail
      refine H3.out.mono ?_
      rintro e w3 (⟨n, q3, hR1, rfl, hb1, hc1⟩ | ⟨x, hR, hx, rfl, hb⟩)
      · have HT3 := Lib.hid (HT2.out.next hb1 hc1)
        have hnn : 4 ≤ n ∧ n ≤ 19 := count_in hR1
        have HF3 : Hid (toldM c.bs p = bnd (codeM c.bs n q3) fun lc p4 => restM c.bs a b lc p4) := Lib.hid (by rw [HF2.out, hR1, bnd_ok])
        have H4 := Lib.hid (lengthCodes_u c w3 ob q3 o n (by omega) (HU.out w3 q3 HT3.out) (HO.out w3 (HB.out w3 HT3.out.ch)))
        clear hb1 hc1 hR1 H3 HF2
        go_wp2_with fail
        refine H4.out.mono ?_
        rintro e w4 (⟨lc, q4, g, hR1, rfl, hb1, hc1, hT, hlc⟩ | ⟨x, hR, hx, rfl, hb⟩)
        · have HT4 := Lib.hid (HT3.out.next hb1 hc1)
          have HF4 : Hid (toldM c.bs p = restM c.bs a b lc q4) := Lib.hid (by rw [HF3.out, hR1, bnd_ok])
          have hu4 := HU.out w4 q4 HT4.out
          obtain ⟨G, hTG, hOff⟩ := hT
          have hb5 : Below w4.heap.size w4 (w4.alloc (.cells A1 83)) := bnew w4 _
          have hrow0 : RowIs (w4.alloc (.cells A1 83)) w4.heap.size [] := (num_new z1 z2 w4).congr fun j _ => by
            unfold numC rowF
            split
            · rfl
            · rw [gI_nil]
          have HT5 := Lib.hid (HT4.out.next (HT4.out.bits.below hb5) (Ch.of_below hb5))
          have H5 := Lib.hid (fill_u c w4 _ ob q4 q4 o w4.heap.size g (a + b) lc G hu4 (hu4.bits.below hb5) (Ch.of_below hb5) (Nat.le_refl _) hrow0 (hTG.below hb5) (fun k hk => by
            obtain ⟨a1, a2, a3, a4, a5⟩ := hOff k hk
            exact ⟨a1, a2, a3, by simp; omega, a5, by omega⟩) hlc (by omega))
          have hab : (a : Int) + (b : Int) = ((a + b : Nat) : Int) := by omega
          have hgr := Lib.hid (show c.gb < w4.heap.size ∧ g2 < w4.heap.size from ⟨HT4.out.bits.lt, HT4.out.lt⟩)
          obtain ⟨gr, hgr0⟩ : ∃ gr, w4.heap.size = gr := ⟨_, rfl⟩
          rw [hgr0] at H5 hgr
          obtain ⟨S, hS⟩ : ∃ S, a + b = S := ⟨_, rfl⟩
          rw [hS] at H5 hab
          have hSS : S ≤ 316 := by omega
          have HSa := Lib.hid hS
          clear hb1 hc1 hR1 H4 HF3 hu4 hTG hOff hb5 hrow0 hS hlc z1 z2
          go_wp2_with fail
          clear a1 hgr0
          refine H5.out.mono ?_
          rintro e w6 (⟨row, q6, hR1, rfl, hb1, hc1, hrow, hrl, hfine⟩ | ⟨x, hR, hx, rfl, hb⟩)
          · have HT6 := Lib.hid (HT4.out.next hb1 hc1)
            have HF6 : Hid (toldM c.bs p = if gI row 256 = 0 then .error 4 else if okS (nOf (row.take a)) then if okS (nOf (row.drop a)) then .ok ((row.take a, row.drop a), q6) else .error 4 else .error 4) := Lib.hid (by
              rw [HF4.out]; unfold restM; rw [HSa.out, hR1, bnd_ok])
            have hc256 := RowIs.at hrow 256 (by omega)
            have hcn := RowIs.n hrow
            rw [hrl] at hcn
            obtain ⟨y, hy⟩ : ∃ y, gI row 256 = y := ⟨_, rfl⟩
            rw [hy] at hc256 HF6
            have HRow := Lib.hid hrow
            have hfin := Lib.hid hfine
            have hrlH := Lib.hid hrl
            clear hb1 hc1 hR1 H5 HF4 hrow hfine hrl hy
            by_cases h0 : y = 0
            · subst h0
              obtain ⟨hr, m0, m1, m2⟩ := told_bad (ob := ob) (o := o) (R := toldM c.bs p) (x := 4) HT6.out (Ch.refl _ _) (HB.out _ HT6.out.ch) (by rw [HF6.out, if_pos rfl]) (by omega)
              obtain ⟨r0, r1, s0, s1⟩ := two_facts hr
              have HE := Lib.hid (And.intro m0 (And.intro m1 m2))
              clear hr m0 m1 m2
              go_wp2_with fail
              exact bodyPost_ret (results_cd2 rfl _ HE.out.1 HE.out.2.1 rfl (.int .i64 4) rfl) rfl HE.out.2.2
            · have d0 : (y == 0) = false := by rw [beq_eq_false_iff_ne]; exact h0
              have haS : a ≤ S := by have := HSa.out; omega
              have hlt : (row.take a).length = a := by rw [List.length_take, hrlH.out]; omega
              have hld : (row.drop a).length = S - a := by rw [List.length_drop, hrlH.out]
              have hf1 : Fine (row.take a) := fun j => by
                by_cases hj : j < a
                · rw [gI_take _ _ _ hj]; exact hfin.out j
                · rw [gI_end _ j (by omega)]; omega
              have hf2 : Fine (row.drop a) := fun j => by rw [gI_drop]; exact hfin.out _
              obtain ⟨e1, g1, g1'⟩ := lg_of (row.take a) (by omega) hf1
              obtain ⟨e2, g3, g3'⟩ := lg_of (row.drop a) (by omega) hf2
              obtain ⟨e, hee⟩ : ∃ e : Int, (e1 = 0 → e = e2) ∧ (e1 ≠ 0 → e = e1) := by
                by_cases hz : e1 = 0
                · exact ⟨e2, fun _ => rfl, fun x => absurd hz x⟩
                · exact ⟨e1, fun x => absurd x hz, fun _ => rfl⟩
              have hp1 : IAt (fun _ => True) w6 (some ⟨gr, 0, none⟩) a 316 (row.take a) :=
                ⟨hlt, by omega, by unfold maxLen; omega, fun x => (by cases x), fun _ => ⟨gr, 0, rfl, trivial, HRow.out.lt, fun j hj => by rw [Nat.zero_add, RowIs.at HRow.out j (by omega), gI_take _ _ _ hj]⟩⟩
              have hp2 : IAt (fun _ => True) w6 (some ⟨gr, a, none⟩) (S - a) (316 - a) (row.drop a) :=
                ⟨hld, by omega, by unfold maxLen; omega, fun x => (by cases x), fun _ => ⟨gr, a, rfl, trivial, HRow.out.lt, fun j hj => by rw [RowIs.at HRow.out (a + j) (by omega), gI_drop]⟩⟩
              have HN := Lib.hid (fun u (hu : Below w6.heap.size w6 u) => (newCodes_any _ _ _ _ _ _ _ _ e1 e2 e u (hp1.below hu) (hp2.below hu) g1 g3 hee).mono fun x w7 (h : NewCd u (row.take a) (row.drop a) e x w7) =>
                show ∃ P Q, x = .returned (.tuple #[.agg #[.pointer P, .pointer Q], .int .i64 e]) ∧ Hid (Below u.heap.size u w7 ∧ (e = 0 → ∃ gs gd, P = some ⟨gs, 0, none⟩ ∧ Q = some ⟨gd, 0, none⟩ ∧ TabAt (fun k => u.heap.size ≤ k) w7 gs (row.take a) ∧ TabAt (fun k => u.heap.size ≤ k) w7 gd (row.drop a))) from by
                  obtain ⟨P, Q, h1, h2, h3⟩ := h
                  exact ⟨P, Q, h1, Lib.hid ⟨h2, h3⟩⟩)
              have HG : Hid ((e = 0 → toldM c.bs p = .ok ((row.take a, row.drop a), q6)) ∧ (e ≠ 0 → e = 4 ∧ toldM c.bs p = .error 4)) := Lib.hid (by
                rw [HF6.out, if_neg h0]
                rcases g1' with ⟨rfl, k1⟩ | ⟨rfl, k1⟩
                · rw [if_pos k1, hee.1 rfl]
                  rcases g3' with ⟨rfl, k2⟩ | ⟨rfl, k2⟩
                  · rw [if_pos k2]; exact ⟨fun _ => rfl, fun x => absurd rfl x⟩
                  · rw [if_neg k2]; exact ⟨fun x => (by cases x), fun _ => ⟨rfl, rfl⟩⟩
                · rw [if_neg k1, hee.2 (by decide)]; exact ⟨fun x => (by cases x), fun _ => ⟨rfl, rfl⟩⟩)
              have HLn := Lib.hid (And.intro hlt hld)
              have i1 : (a : Int) ≤ (S : Int) := by omega
              have i2 : (S : Int) ≤ 316 := by omega
              have i3 : (a : Int) ≤ 316 := by omega
              have i4 : (a : Int).toNat = a := by omega
              have i5 : (S : Int).toNat = S := by omega
              have i6 : ¬ 316 = a := by omega
              have i7 : 0 ≤ (a : Int) := by omega
              have i8 : 0 ≤ (S : Int) := by omega
              clear hf1 hf2 g1 g1' g3 g3' hp1 hp2 hee hlt hld
              go_wp2_with fail
              go_region_with (go_at_call 33; refine (HN.out _ (Below.refl _ _).drew).mono ?_; rintro e' w7 ⟨P, Q, rfl, H7⟩; have HR7 := Lib.hid ((H7.out.1.block g2 HT6.out.lt).trans HT6.out.res); obtain ⟨r0, r1, s0, s1⟩ := two_facts HR7.out)
              all_goals
                have HC7 := Lib.hid (told_end HH.out HT6.out HR7.out H7.out.1 H7.out.2 HG.out HLn.out.1 HLn.out.2 (by omega) (by omega))
                clear HR7 H7 HG HN r0 r1 s0 s1
                go_wp2_with fail
                exact bodyPost_ret (results_cd2 rfl _ HC7.out.1 HC7.out.2.1 rfl (.int .i64 e) rfl) rfl HC7.out.2.2
          · have HF4' := Lib.hid (show toldM c.bs p = .error x by rw [HF4.out]; unfold restM; rw [HSa.out, hR]; rfl)
            have hn := nz hx
            obtain ⟨hr, m0, m1, m2⟩ := told_bad (ob := ob) (o := o) (R := toldM c.bs p) HT4.out hb (HB.out _ (HT4.out.next' hb)) (by exact HF4'.out) hx
            obtain ⟨r0, r1, s0, s1⟩ := two_facts hr
            have HE := Lib.hid (And.intro m0 (And.intro m1 m2))
            clear hr m0 m1 m2 hR hx hb
            go_wp2_with fail
            exact bodyPost_ret (results_cd2 rfl _ HE.out.1 HE.out.2.1 rfl (.int .i64 (x : Nat)) rfl) rfl HE.out.2.2
        · have hn := nz hx
          obtain ⟨hr, m0, m1, m2⟩ := told_bad (ob := ob) (o := o) (R := toldM c.bs p) HT3.out hb (HB.out _ (HT3.out.next' hb)) (by rw [HF3.out, hR]; rfl) hx
          obtain ⟨r0, r1, s0, s1⟩ := two_facts hr
          have HE := Lib.hid (And.intro m0 (And.intro m1 m2))
          clear hr m0 m1 m2 hR hx hb
          go_wp2_with fail
          exact bodyPost_ret (results_cd2 rfl _ HE.out.1 HE.out.2.1 rfl (.int .i64 (x : Nat)) rfl) rfl HE.out.2.2
      · have hn := nz hx
        obtain ⟨hr, m0, m1, m2⟩ := told_bad (ob := ob) (o := o) (R := toldM c.bs p) HT2.out hb (HB.out _ (HT2.out.next' hb)) (by rw [HF2.out, hR]; rfl) hx
        obtain ⟨r0, r1, s0, s1⟩ := two_facts hr
        have HE := Lib.hid (And.intro m0 (And.intro m1 m2))
        clear hr m0 m1 m2 hR hx hb
        go_wp2_with fail
        exact bodyPost_ret (results_cd2 rfl _ HE.out.1 HE.out.2.1 rfl (.int .i64 (x : Nat)) rfl) rfl HE.out.2.2
    · have hn := nz hx
      obtain ⟨hr, m0, m1, m2⟩ := told_bad (ob := ob) (o := o) (R := toldM c.bs p) HT1.out hb (HB.out _ (HT1.out.next' hb)) (by rw [HF1.out, hR]; rfl) hx
      obtain ⟨r0, r1, s0, s1⟩ := two_facts hr
      have HE := Lib.hid (And.intro m0 (And.intro m1 m2))
      clear hr m0 m1 m2 hR hx hb
      go_wp2_with fail
      exact bodyPost_ret (results_cd2 rfl _ HE.out.1 HE.out.2.1 rfl (.int .i64 (x : Nat)) rfl) rfl HE.out.2.2
  · have hn := nz hx
    obtain ⟨hr, m0, m1, m2⟩ := told_bad (ob := ob) (o := o) (R := toldM c.bs p) HS.out hb (HB.out _ (HS.out.next' hb)) (by rw [HF.out, hR]; rfl) hx
    obtain ⟨r0, r1, s0, s1⟩ := two_facts hr
    have HE := Lib.hid (And.intro m0 (And.intro m1 m2))
    clear hr m0 m1 m2 hR hx hb
    go_wp2_with fail
    exact bodyPost_ret (results_cd2 rfl _ HE.out.1 HE.out.2.1 rfl (.int .i64 (x : Nat)) rfl) rfl HE.out.2.2

end Go.Proofs.YtehnilmfeoadgaaDoor
/- A block: withTold, block. -/
namespace Go.Proofs.YtehnilmfeoadgaaDoor
open Go.RowKit
set_option linter.unusedVariables false
set_option linter.unusedSimpArgs false

def toldK (bs : List Int) (lim p : Nat) (o : List Int) : Rs (List Int) := bnd (toldM bs p) fun t q => loopM (symM bs t.1 t.2 lim) (8 * bs.length) q o
set_option maxHeartbeats 3200000 in
theorem withTold_u (c : Cx) (w : World) (ob : Option Nat) (p : Nat) (o : List Int) (h : UAt c w ob p o) (hO : OrdAt c.B w) :
    Calls Tryd.prog 25 #[.pointer (some ⟨c.gu, 0, none⟩)] w (GaveO c w ob (toldK c.bs c.lim p o)) := by
  have H1 := Lib.hid (toldCodes_u c w ob p o h hO)
  have HB0 := Lib.hid (fun u ob' (hu : Mv c w ob u ob') => h.mvBelow hu)
  have hBw : c.B ≤ w.heap.size := by have := h.gu; have := c.b1; have := c.b2; omega
  clear h hO
  go_enter Tryd.func25, Tryd.ntmps25
  go_wp2_with fail
  refine H1.out.mono ?_
  rintro e w1 (⟨ls, ld, q, gs, gd, hR, rfl, hU, hM, t1, t2, l1, l2⟩ | ⟨x, P, Q, hR, hx, rfl, hb⟩)
  · have hb1 : Below w1.heap.size w1 (w1.alloc (.cells #[.pointer (some ⟨gs, 0, none⟩), .pointer (some ⟨gd, 0, none⟩)] 48)) := bnew w1 _
    have hm1 := Mv.new (c := c) (ob := ob) hb1
    have H2 := Lib.hid (symbols_u c _ ob q o gs gd ls ld (hU.below hb1) (t1.mv hm1) (t2.mv hm1) l1 l2)
    have HM := Lib.hid (hM.then hm1)
    have HF : Hid (toldK c.bs c.lim p o = loopM (symM c.bs ls ld c.lim) (8 * c.bs.length) q o) := Lib.hid (by unfold toldK; rw [hR, bnd_ok])
    clear hR hU hM t1 t2 H1 hb1 hm1
    go_wp2_with fail
    refine H2.out.mono ?_
    rintro e w2 (⟨o2, r, ob2, hR2, rfl, hU2, hM2⟩ | ⟨x, hR2, hx, rfl, hb⟩)
    · have HE : Hid (GaveO c w ob (toldK c.bs c.lim p o) (.returned (.int .i64 0)) w2) := Lib.hid (Or.inl ⟨o2, r, ob2, by rw [HF.out, hR2], rfl, hU2, HM.out.then hM2⟩)
      clear hR2 hU2 hM2 H2
      go_wp2_with fail
      go_ret
      exact HE.out
    · have HE : Hid (GaveO c w ob (toldK c.bs c.lim p o) (.returned (.int .i64 (x : Nat))) w2) := Lib.hid (Or.inr ⟨x, by rw [HF.out, hR2], hx, rfl, (HB0.out _ _ HM.out).trans hb⟩)
      clear hR2 hx hb H2
      go_wp2_with fail
      go_ret
      exact HE.out
  · have hn := nz hx
    have HE : Hid (GaveO c w ob (toldK c.bs c.lim p o) (.returned (.int .i64 (x : Nat))) (w1.alloc (.cells #[.pointer P, .pointer Q] 48))) := Lib.hid (Or.inr ⟨x, by unfold toldK; rw [hR]; rfl, hx, rfl, hb.alloc (by have := hb.size; omega) _⟩)
    clear hR hx hb H1
    go_wp2_with fail
    go_ret
    exact HE.out
theorem kind_stored (bs : List Int) (lim p : Nat) (o : List Int) : kindM bs lim 0 p o = storedM bs lim p o := rfl
/-- What came out and whether it was the last block, or an error. -/
def GaveL (c : Cx) (w : World) (ob : Option Nat) (R : Rs (Bool × List Int)) (e : Ending) (w' : World) : Prop :=
  (∃ l o q ob', R = .ok ((l, o), q) ∧ e = .returned (.tuple #[.bool l, .int .i64 0]) ∧ UAt c w' ob' q o ∧ Mv c w ob w' ob') ∨ (∃ x b, R = .error x ∧ (x = 2 ∨ x = 4 ∨ x = 8) ∧ e = .returned (.tuple #[.bool b, .int .i64 (x : Nat)]) ∧ Below c.B w w')
theorem block_end {c : Cx} {w wi w' : World} {ob ob1 : Option Nat} {p q r l k : Nat} {o : List Int} {e : Ending} (h1 : takeM c.bs 1 p = .ok (l, q)) (h2 : takeM c.bs 2 q = .ok (k, r)) (hB : Below c.B w wi) (hM : Mv c w ob wi ob1)
    (g : GaveO c wi ob1 (kindM c.bs c.lim k r o) e w') : ∃ x : Nat, e = .returned (.int .i64 x) ∧ GaveL c w ob (blockM c.bs c.lim p o) (.returned (.tuple #[.bool (decide (l = 1)), .int .i64 (x : Nat)])) w' := by
  have hb : blockM c.bs c.lim p o = bnd (kindM c.bs c.lim k r o) fun o' s => .ok ((decide (l = 1), o'), s) := by unfold blockM; rw [h1, bnd_ok, h2, bnd_ok]
  rcases g with ⟨o2, s, ob2, h3, h4, h5, h6⟩ | ⟨x, h3, h4, h5, h6⟩
  · exact ⟨0, h4, Or.inl ⟨_, o2, s, ob2, by rw [hb, h3]; rfl, rfl, h5, hM.then h6⟩⟩
  · exact ⟨x, h5, Or.inr ⟨x, _, by rw [hb, h3]; rfl, h4, rfl, hB.trans h6⟩⟩
set_option maxHeartbeats 6400000 in
theorem block_u (c : Cx) (w : World) (ob : Option Nat) (p : Nat) (o : List Int) (h : UAt c w ob p o) (hO : OrdAt c.B w) :
    Calls Tryd.prog 18 #[.pointer (some ⟨c.gu, 0, none⟩)] w (GaveL c w ob (blockM c.bs c.lim p o)) := by
  have H1 := Lib.hid (take_b c w ob p o 1 (by omega) h)
  have HB := Lib.hid (fun u (hc : Ch (fun k => k = c.gb) w u) => h.mvBelow (Mv.bits (ob := ob) hc))
  have HU := Lib.hid (fun u q hb hc => h.bitsMv (w' := u) (q := q) hb hc)
  have HO := Lib.hid (fun wi (hb : Below c.B w wi) => hO.below hb)
  clear h hO
  go_enter Tryd.func18, Tryd.ntmps18
  go_wp2_with fail
  refine H1.out.mono ?_
  rintro e w1 (⟨l, q, hR1, rfl, hb1, hc1⟩ | ⟨x, hR, hx, rfl, hb⟩)
  · have hl := (take_lt hR1).1
    have HR1 := Lib.hid hR1
    have HC1 := Lib.hid hc1
    have H2 := Lib.hid (take_b c w1 ob q o 2 (by omega) (HU.out w1 q hb1 hc1))
    have dl : ((l : Int) == 1) = decide (l = 1) := by
      by_cases hl1 : l = 1
      · subst hl1; rfl
      · rw [decide_eq_false hl1, beq_eq_false_iff_ne]; omega
    clear hR1 hb1 hc1 H1
    obtain ⟨bl, hbl⟩ : ∃ bl, decide (l = 1) = bl := ⟨_, rfl⟩
    have HBL := Lib.hid hbl
    rw [hbl] at dl
    clear hbl
    go_wp2_with fail
    refine H2.out.mono ?_
    rintro e w2 (⟨k, r, hR2, rfl, hb2, hc2⟩ | ⟨x, hR, hx, rfl, hb⟩)
    · have hk := (take_lt hR2).1
      have hC2 := HC1.out.then hc2
      have hu2 := HU.out w2 r hb2 hC2
      have HE0 := Lib.hid (fun e w' (g : GaveO c w2 ob (kindM c.bs c.lim k r o) e w') => block_end (p := p) (o := o) HR1.out hR2 (HB.out _ hC2) (Mv.bits hC2) g)
      rw [HBL.out] at HE0
      have hO2 := HO.out w2 (HB.out _ hC2)
      clear H2
      by_cases hk0 : k = 0
      · subst hk0
        have H3 := Lib.hid ((stored_u c w2 ob r o hu2).mono fun e w' g => HE0.out e w' g)
        clear hR2 hb2 hc2 hC2 hu2 hO2 HE0
        go_wp2_with fail
        refine H3.out.mono ?_
        rintro e w3 ⟨x, rfl, hG⟩
        have HE := Lib.hid hG
        clear hG H3
        go_wp2_with fail
        go_ret2
        exact HE.out
      by_cases hk1 : k = 1
      · subst hk1
        have H3 := Lib.hid ((withFixed_u c w2 ob r o hu2).mono fun e w' g => HE0.out e w' g)
        clear hR2 hb2 hc2 hC2 hu2 hO2 HE0
        go_wp2_with fail
        refine H3.out.mono ?_
        rintro e w3 ⟨x, rfl, hG⟩
        have HE := Lib.hid hG
        clear hG H3
        go_wp2_with fail
        go_ret2
        exact HE.out
      by_cases hk2 : k = 2
      · subst hk2
        have H3 := Lib.hid ((withTold_u c w2 ob r o hu2 hO2).mono fun e w' g => HE0.out e w' g)
        clear hR2 hb2 hc2 hC2 hu2 hO2 HE0
        go_wp2_with fail
        refine H3.out.mono ?_
        rintro e w3 ⟨x, rfl, hG⟩
        have HE := Lib.hid hG
        clear hG H3
        go_wp2_with fail
        go_ret2
        exact HE.out
      · obtain rfl : k = 3 := by omega
        have HE : Hid (GaveL c w ob (blockM c.bs c.lim p o) (.returned (.tuple #[.bool bl, .int .i64 4])) w2) := Lib.hid (Or.inr ⟨4, bl, by unfold blockM; rw [HR1.out, bnd_ok, hR2, bnd_ok]; rfl, by omega, rfl, HB.out _ hC2⟩)
        clear hR2 hb2 hc2 hC2 hu2 hO2 HE0
        go_wp2_with fail
        go_ret2
        exact HE.out
    · have hn := nz hx
      have HE : Hid (GaveL c w ob (blockM c.bs c.lim p o) (.returned (.tuple #[.bool false, .int .i64 (x : Nat)])) w2) := Lib.hid (Or.inr ⟨x, false, by unfold blockM; rw [HR1.out, bnd_ok, hR]; rfl, hx, rfl, HB.out _ (HC1.out.then hb)⟩)
      clear hR hx hb H2
      go_wp2_with fail
      go_ret2
      exact HE.out
  · have hn := nz hx
    have HE : Hid (GaveL c w ob (blockM c.bs c.lim p o) (.returned (.tuple #[.bool false, .int .i64 (x : Nat)])) w1) := Lib.hid (Or.inr ⟨x, false, by unfold blockM; rw [hR]; rfl, hx, rfl, HB.out _ hb⟩)
    clear hR hx hb H1
    go_wp2_with fail
    go_ret2
    exact HE.out

end Go.Proofs.YtehnilmfeoadgaaDoor
/- Inflate. -/
namespace Go.Proofs.YtehnilmfeoadgaaDoor
open Go.RowKit
set_option linter.unusedVariables false
set_option linter.unusedSimpArgs false

def Inflated (w : World) (l : List Int) (lim : Nat) (e : Ending) (w' : World) : Prop := Below w.heap.size w w' ∧
  ((∃ o p A n cap, inflM l lim = .ok (o, p) ∧ e = .returned (.tuple #[.slice A n cap, .int .i64 (((p + 7) / 8 : Nat) : Int), .int .i64 0]) ∧ BAt8 (fun k => w.heap.size ≤ k) w' A n cap o ∧ o.length ≤ lim ∧ p ≤ 8 * l.length) ∨
   (∃ x, inflM l lim = .error x ∧ (x = 2 ∨ x = 4 ∨ x = 8) ∧ e = .returned (.tuple #[.slice none 0 0, .int .i64 0, .int .i64 (x : Nat)])))
theorem blockM_lt {bs : List Int} {lim p q : Nat} {o : List Int} {l : Bool × List Int} (h : blockM bs lim p o = .ok (l, q)) (hk : ∀ k r o' s, kindM bs lim k r o = .ok (o', s) → r ≤ s) : p < q := by
  unfold blockM at h
  rcases (takeM bs 1 p).two with ⟨x, hx⟩ | ⟨v, r, hx⟩
  · rw [hx] at h; cases h
  · have h1 := (take_lt hx).2.1
    rw [hx, bnd_ok] at h
    rcases (takeM bs 2 r).two with ⟨x, hx⟩ | ⟨k, s, hx⟩
    · rw [hx] at h; cases h
    · have h2 := (take_lt hx).2.1
      rw [hx, bnd_ok] at h
      rcases (kindM bs lim k s o).two with ⟨x, hx⟩ | ⟨o', t, hx⟩
      · rw [hx] at h; cases h
      · have h3 := hk k s o' t hx
        rw [hx, bnd_ok] at h
        simp only [Except.ok.injEq, Prod.mk.injEq] at h
        omega
theorem loop_mono {step : Nat → List Int → Rs (Bool × List Int)} {N : Nat} (hs : ∀ p o r q, step p o = .ok (r, q) → p ≤ q) : ∀ {p : Nat} {o o' : List Int} {q : Nat}, loopM step N p o = .ok (o', q) → p ≤ q := by
  intro p o
  induction p, o using loopM.induct step N with
  | case1 p o e h1 =>
    intro o' q h
    rw [loop_er h1] at h; cases h
  | case2 p o o2 r h1 =>
    intro o' q h
    rw [loop_end h1] at h
    simp only [Except.ok.injEq, Prod.mk.injEq] at h
    have := hs _ _ _ _ h1
    omega
  | case3 p o o2 r h1 h2 ih =>
    intro o' q h
    rw [loop_on h1 h2.1 h2.2] at h
    have := ih h
    omega
  | case4 p o o2 r h1 h2 =>
    intro o' q h
    rw [loopM, h1] at h
    simp only [dif_neg h2] at h
    cases h
theorem sym_mono {bs ls ld : List Int} {lim p q : Nat} {o : List Int} {r : Bool × List Int} (h : symM bs ls ld lim p o = .ok (r, q)) : p ≤ q := by
  unfold symM at h
  rcases (nextM bs ls p).two with ⟨x, hx⟩ | ⟨s, t, hx⟩
  · rw [hx] at h; cases h
  · have h1 := next_mono hx
    rw [hx, bnd_ok] at h
    split at h
    · simp only [Except.ok.injEq, Prod.mk.injEq] at h; omega
    · split at h
      · rcases (putM lim s t o).two with ⟨x, hx⟩ | ⟨o', u, hx⟩
        · rw [hx] at h; cases h
        · have := put_mono hx
          rw [hx, bnd_ok] at h
          simp only [Except.ok.injEq, Prod.mk.injEq] at h; omega
      · rcases (backM bs ld lim s t o).two with ⟨x, hx⟩ | ⟨o', u, hx⟩
        · rw [hx] at h; cases h
        · have := back_mono hx
          rw [hx, bnd_ok] at h
          simp only [Except.ok.injEq, Prod.mk.injEq] at h; omega
theorem stored_mono {bs : List Int} {lim p q : Nat} {o o' : List Int} (h : storedM bs lim p o = .ok (o', q)) : p ≤ q := by
  unfold storedM at h
  have hu : p ≤ 8 * upB p := by unfold upB; omega
  rcases (takeM bs 16 (8 * upB p)).two with ⟨x, hx⟩ | ⟨n, r, hx⟩
  · rw [hx] at h; cases h
  · have h1 := take_mono hx
    rw [hx, bnd_ok] at h
    rcases (takeM bs 16 r).two with ⟨x, hx⟩ | ⟨m, s, hx⟩
    · rw [hx] at h; cases h
    · have h2 := take_mono hx
      have hu2 : s ≤ 8 * upB s := by unfold upB; omega
      rw [hx, bnd_ok] at h
      split at h
      · cases h
      · split at h
        · cases h
        · split at h
          · simp only [Except.ok.injEq, Prod.mk.injEq] at h; omega
          · cases h
theorem count_mono {bs : List Int} {n least most p v q : Nat} (h : countM bs n least most p = .ok (v, q)) : p ≤ q := by
  unfold countM at h
  rcases (takeM bs n p).two with ⟨x, hx⟩ | ⟨v, r, hx⟩
  · rw [hx] at h; cases h
  · have := take_mono hx
    rw [hx, bnd_ok] at h
    split at h
    · cases h
    · simp only [Except.ok.injEq, Prod.mk.injEq] at h; omega
theorem lens_mono {bs : List Int} : ∀ {i p q : Nat} {M : Nat → Int}, lensM bs i p = .ok (M, q) → p ≤ q
  | 0, p, q, M, h => by simp only [lensM, Except.ok.injEq, Prod.mk.injEq] at h; omega
  | i + 1, p, q, M, h => by
    rcases (lensM bs i p).two with ⟨x, hx⟩ | ⟨M', r, hx⟩
    · rw [lensM, hx] at h; cases h
    · have ih := lens_mono hx
      rw [lensM, hx, bnd_ok] at h
      rcases (takeM bs 3 r).two with ⟨x, hx⟩ | ⟨v, t, hx⟩
      · rw [hx] at h; cases h
      · have := take_mono hx
        rw [hx, bnd_ok] at h
        simp only [Except.ok.injEq, Prod.mk.injEq] at h
        omega
theorem row_mono {bs lc : List Int} {many p q : Nat} {o : List Int} {r : Bool × List Int} (h : rowM bs lc many p o = .ok (r, q)) : p ≤ q := by
  unfold rowM at h
  split at h
  · simp only [Except.ok.injEq, Prod.mk.injEq] at h; omega
  · rcases (nextM bs lc p).two with ⟨x, hx⟩ | ⟨s, t, hx⟩
    · rw [hx] at h; cases h
    · have h1 := next_mono hx
      rw [hx, bnd_ok] at h
      rcases (repM bs o s t).two with ⟨x, hx⟩ | ⟨v, u, hx⟩
      · rw [hx] at h; cases h
      · have h2 : t ≤ u := by
          unfold repM at hx
          split at hx
          · cases hx
          · rcases (takeM bs (repB s) t).two with ⟨x, hy⟩ | ⟨m, u', hy⟩
            · rw [hy] at hx; cases hx
            · have := take_mono hy
              rw [hy, bnd_ok] at hx
              simp only [Except.ok.injEq, Prod.mk.injEq] at hx; omega
        rw [hx, bnd_ok] at h
        split at h
        · cases h
        · simp only [Except.ok.injEq, Prod.mk.injEq] at h; omega
theorem told_mono {bs : List Int} {p q : Nat} {t : List Int × List Int} (h : toldM bs p = .ok (t, q)) : p ≤ q := by
  rw [told_is] at h
  rcases (countM bs 5 257 286 p).two with ⟨x, hx⟩ | ⟨a, p1, hx⟩
  · rw [hx] at h; cases h
  have h1 := count_mono hx
  rw [hx, bnd_ok] at h
  rcases (countM bs 5 1 30 p1).two with ⟨x, hx⟩ | ⟨b, p2, hx⟩
  · rw [hx] at h; cases h
  have h2 := count_mono hx
  rw [hx, bnd_ok] at h
  rcases (countM bs 4 4 19 p2).two with ⟨x, hx⟩ | ⟨n, p3, hx⟩
  · rw [hx] at h; cases h
  have h3 := count_mono hx
  rw [hx, bnd_ok] at h
  rcases (codeM bs n p3).two with ⟨x, hx⟩ | ⟨lc, p4, hx⟩
  · rw [hx] at h; cases h
  have h4 : p3 ≤ p4 := by
    unfold codeM at hx
    rcases (lensM bs n p3).two with ⟨x, hy⟩ | ⟨M, u, hy⟩
    · rw [hy] at hx; cases hx
    · have := lens_mono hy
      rw [hy, bnd_ok] at hx
      split at hx
      · simp only [Except.ok.injEq, Prod.mk.injEq] at hx; omega
      · cases hx
  rw [hx, bnd_ok] at h
  unfold restM at h
  rcases (loopM (rowM bs lc (a + b)) (8 * bs.length) p4 []).two with ⟨x, hx⟩ | ⟨r, p5, hx⟩
  · rw [hx] at h; cases h
  have h5 := loop_mono (fun _ _ _ _ h => row_mono h) hx
  rw [hx, bnd_ok] at h
  split at h
  · cases h
  · split at h
    · split at h
      · simp only [Except.ok.injEq, Prod.mk.injEq] at h; omega
      · cases h
    · cases h
theorem kind_mono {bs : List Int} {lim k p q : Nat} {o o' : List Int} (h : kindM bs lim k p o = .ok (o', q)) : p ≤ q := by
  unfold kindM at h
  split at h
  · exact stored_mono h
  · split at h
    · exact loop_mono (fun _ _ _ _ h => sym_mono h) h
    · split at h
      · rcases (toldM bs p).two with ⟨x, hx⟩ | ⟨t, r, hx⟩
        · rw [hx] at h; cases h
        · have h1 := told_mono hx
          rw [hx, bnd_ok] at h
          have := loop_mono (fun _ _ _ _ h => sym_mono h) h
          omega
      · cases h
theorem block_lt {bs : List Int} {lim p q : Nat} {o : List Int} {r : Bool × List Int} (h : blockM bs lim p o = .ok (r, q)) : p < q := blockM_lt h fun _ _ _ _ h => kind_mono h

end Go.Proofs.YtehnilmfeoadgaaDoor
/- Inflate, walked. -/
namespace Go.Proofs.YtehnilmfeoadgaaDoor
open Go.RowKit
set_option linter.unusedVariables false
set_option linter.unusedSimpArgs false

/-- Between two blocks, or behind the last one. -/
def BlAt (c : Cx) (w wr : World) (R : Rs (List Int)) (b : Bool) (m : Nat) : Prop :=
  ∃ ob p o, m + p = 8 * c.bs.length + 1 ∧ UAt c wr ob p o ∧ Below w.heap.size w wr ∧ (b = false → loopM (blockM c.bs c.lim) (8 * c.bs.length) p o = R) ∧ (b = true → R = .ok (o, p))
set_option maxHeartbeats 6400000 in
theorem inflate_any (F : Nat → Prop) (A : Option Addr) (n cap : Nat) (l : List Int) (lim : Nat) (w : World) (hl : BAt8 F w A n cap l) (hn : n ≤ 1000000) (hlim : lim ≤ 1048576) (hO : OrdAt w.heap.size w) :
    Calls Tryd.prog 12 #[.slice A n cap, .int .i64 (lim : Nat)] w (Inflated w l lim) := by
  have H1 := Lib.hid (read_any F A n cap l w hl hn)
  have hlen := hl.len
  have HO := Lib.hid hO
  have d1 : decide ((lim : Int) < 0) = false := decide_eq_false (by omega)
  have d2 : decide (1048576 < (lim : Int)) = false := decide_eq_false (by omega)
  have hlh := Lib.hid hlim
  clear hl hO
  go_enter Tryd.func12, Tryd.ntmps12
  go_wp2_with fail
  refine H1.out.mono ?_
  rintro e w1 ⟨g, rfl, hg, hb, hB⟩
  have hgl := hb.lt
  obtain ⟨c, hc⟩ : ∃ c : Cx, c = { B := w.heap.size, gb := g, gu := w1.heap.size, bs := l, lim := lim, b1 := hg, b2 := hgl, hbs := by omega, hlim := hlh.out } := ⟨_, rfl⟩
  have cB : c.B = w.heap.size := by rw [hc]
  have cgb : c.gb = g := by rw [hc]
  have cgu : c.gu = w1.heap.size := by rw [hc]
  have cbs : c.bs = l := by rw [hc]
  have clim : c.lim = lim := by rw [hc]
  clear hc
  have hb1 : Below w1.heap.size w1 (w1.alloc (.cells #[.pointer (some ⟨g, 0, none⟩), .slice none 0 0, .int .i64 (lim : Nat), .pointer none, .pointer none] 50)) := bnew w1 _
  have HS : Hid (BlAt c w (w1.alloc (.cells #[.pointer (some ⟨g, 0, none⟩), .slice none 0 0, .int .i64 (lim : Nat), .pointer none, .pointer none] 50)) (inflM l lim) false (8 * c.bs.length + 1)) := Lib.hid (by
    refine ⟨none, 0, [], by omega, ⟨⟨.slice none 0 0, none, none, ?_, rfl, World.ownsRow_nil _ _ _ _, Or.inl ⟨rfl, rfl⟩⟩, ?_, Byte8.nil, Nat.zero_le _⟩, hB.trans (hb1.mono hB.size), fun _ => ?_, fun h => (by cases h)⟩
    · rw [cgu]
      unfold uC
      rw [cgb, clim]
      exact heap_alloc_new w1 _
    · rw [cgb, cbs, cB]; exact hb.below hb1
    · rw [cbs, clim]; rfl)
  have HOC := Lib.hid (fun wr (hbw : Below w.heap.size w wr) => show OrdAt c.B wr by rw [cB]; exact HO.out.below hbw)
  have HCB := Lib.hid cB
  have HCL := Lib.hid (And.intro cbs clim)
  have cguH := Lib.hid cgu
  obtain ⟨R, hR⟩ : ∃ R, inflM l lim = R := ⟨_, rfl⟩
  have HR := Lib.hid hR
  rw [hR] at HS
  clear hb hB hgl cB cgb cbs clim hb1 H1 hg hR
  go_wp2_with fail
  rw [← cgu]
  clear cgu
  go_loopg [8] (8 * c.bs.length + 1) (fun m b wr => ∃ q : Bool, b = .bool q ∧ Hid (BlAt c w wr R q m))
  case atStart => exact ⟨false, rfl, HS⟩
  case round =>
    obtain ⟨q, rfl, HX⟩ := hrel
    obtain ⟨ob, p, o, hm, hU, hBw, hF, hT⟩ := HX.out
    have HU := Lib.hid hU
    have HBw := Lib.hid hBw
    cases q with
    | false =>
      have H2 := Lib.hid (block_u c wr ob p o hU (HOC.out wr hBw))
      have HF := Lib.hid (hF rfl)
      clear hU hBw hF hT HX HS
      go_wp2_with fail
      refine H2.out.mono ?_
      rintro e w2 (⟨b, o2, q2, ob2, hR2, rfl, hU2, hM2⟩ | ⟨x, b, hR2, hx, rfl, hb⟩)
      · have hlt := block_lt hR2
        have hfit := hU2.fit
        have hB2 := HU.out.mvBelow hM2
        have HE : Hid (BlAt c w w2 R b (8 * c.bs.length + 1 - q2)) := Lib.hid (by
          rw [HCB.out] at hB2
          refine ⟨ob2, q2, o2, by omega, hU2, HBw.out.trans hB2, fun h => ?_, fun h => ?_⟩
          · subst h
            exact (loop_on hR2 hlt hfit).symm.trans HF.out
          · subst h
            exact HF.out.symm.trans (loop_end hR2))
        clear hR2 hU2 hM2 H2 hB2
        go_wp2_with fail
        go_roundg (8 * c.bs.length + 1 - q2)
        case measure => omega
        case rel => exact ⟨b, rfl, HE⟩
      · have hn := nz hx
        have HE : Hid (Inflated w l lim (.returned (.tuple #[.slice none 0 0, .int .i64 0, .int .i64 (x : Nat)])) w2) := Lib.hid (by
          rw [HCB.out] at hb
          exact ⟨HBw.out.trans hb, Or.inr ⟨x, HR.out.trans (HF.out.symm.trans (loop_er hR2)), hx, rfl⟩⟩)
        clear hR2 hx hb H2
        go_wp2_with fail
        go_ret3
        exact HE.out
    | true =>
      have hR2 := hT rfl
      obtain ⟨v, fs, fd, c0, c1, _, _, _, hv, hOw, _⟩ := hU.cells
      obtain ⟨A2, cap2, rfl, hcap2, hmax2⟩ := own_slice hOw
      have HA := Lib.hid (fun k => Calls.quiet_of_same (w := wr) (n := k) ((at_any _ (wr.drewN k) c.gb c.bs p (hU.bits.drewN k) c.hbs).mono fun _ _ ⟨a, b⟩ => ⟨a, b.symm⟩))
      have hby := bytes_own hOw hU.by8
      have e1 := c.b1
      have e2 := c.b2
      have e3 := HCB.out
      have hbw := hby.weak (G := fun k => w.heap.size ≤ k) fun k _ hk => by omega
      have HE : Hid (∀ k, Inflated w l lim (.returned (.tuple #[.slice A2 o.length cap2, .int .i64 (((p + 7) / 8 : Nat) : Int), .int .i64 0])) (wr.drewN k)) := Lib.hid (fun k => ⟨HBw.out.trans (bdrawn (Below.refl _ _) k |>.mono HBw.out.size), Or.inl ⟨o, p, A2, o.length, cap2, HR.out.trans hR2, rfl, hbw.below (bdrawn (Below.refl _ _) k), by rw [← HCL.out.2]; exact hU.lim, by rw [← HCL.out.1]; exact hU.fit⟩⟩)
      clear hU hBw hF hT HX HS hOw hR2 hmax2 hcap2 hby e1 e2 e3 hbw
      generalize (p + 7) / 8 = Y at *
      go_wp2_with fail
      go_quiet ((go_at_call 19; exact HA.out _))
      go_wp2_with fail
      go_ret3
      exact HE.out _

end Go.Proofs.YtehnilmfeoadgaaDoor
/- The chapter's example; bytes as a text. -/
namespace Go.Proofs.YtehnilmfeoadgaaDoor
open Go.RowKit
set_option linter.unusedVariables false
set_option linter.unusedSimpArgs false

theorem conv_of {F : Nat → Prop} {w : World} {A : Option Addr} {n cap : Nat} {l : List Int} (h : BAt8 F w A n cap l) : (convert 22 9 (.slice A n cap)).run Tryd.prog w = .ok (.string (strOfNums l)) w := by
  rcases A with _ | a
  · have hc := h.nil rfl
    have hf := h.fit
    have hn : n = 0 := by omega
    obtain rfl : l = [] := List.eq_nil_of_length_eq_zero (by rw [h.len]; exact hn)
    exact run_convert_bytes_nil (P := Tryd.prog) w 22 5 Tryd.underlying22 Tryd.underlying5 n cap _ Tryd.underlying9
  · by_cases hn : n = 0
    · subst hn
      obtain rfl : l = [] := List.eq_nil_of_length_eq_zero h.len
      rw [run_convert_bytes_string w _ _ 5 (some a) 0 cap Tryd.underlying22 Tryd.underlying5 Tryd.underlying9, run_bytesToString w a 0 cap [] (by
        have := run_loadCells_list (P := Tryd.prog) w a [] (fun j v hj => by simp at hj)
        simpa using this)]
      rfl
    · obtain ⟨b, o, e, _, _, hc⟩ := h.lies (by omega)
      injection e with e
      subst e
      exact run_convert_bytes_arg (P := Tryd.prog) w 22 5 Tryd.underlying22 Tryd.underlying5 b o n cap l h.len (fun i hi => hc i hi) _ Tryd.underlying9
end Go.Proofs.YtehnilmfeoadgaaDoor
/- Store. -/
namespace Go.Proofs.YtehnilmfeoadgaaDoor
open Go.RowKit
set_option linter.unusedVariables false
set_option linter.unusedSimpArgs false

/-- What stands ahead of n stored bytes. -/
def headL (last n : Nat) : List Int := [(last : Int), ((n % 256 : Nat) : Int), ((n / 256 : Nat) : Int), (((65535 - n) % 256 : Nat) : Int), (((65535 - n) / 256 : Nat) : Int)]
def stoR (b : List Int) : List Int := if 65535 < b.length then headL 0 65535 ++ b.take 65535 ++ stoR (b.drop 65535) else headL 1 b.length ++ b
  termination_by b.length
  decreasing_by simp; omega
theorem not_u16 (n : Nat) (h : n < 65536) : bits .xor .u16 65535 (n : Int) = ((65535 - n : Nat) : Int) := by
  rw [show (65535 : Int) = ((65535 : Nat) : Int) from rfl, u16_xor_nat 65535 n (by omega) h, Nat.xor_comm, nat_xor_all n h]
def Owned (base : Nat) (w : World) (xs : List Int) (e : Ending) (w' : World) : Prop := ∃ v', e = .returned v' ∧ w'.ownsRow base 5 1 v' xs.length (xs.map u8I) ∧ Below base w w'
set_option maxHeartbeats 3200000 in
theorem appendStored_own (base : Nat) (F : Nat → Prop) (v : Value) (xs : List Int) (last : Nat) (A : Option Addr) (m cap : Nat) (ys : List Int) (w : World) (hown : w.ownsRow base 5 1 v xs.length (xs.map u8I)) (hy : BAt8 F w A m cap ys) (hF : ∀ k, F k → k < base) (hm : m ≤ 65535) (hlast : last ≤ 1) (hx : xs.length ≤ 1000000) (hbase : base ≤ w.heap.size) :
    Calls Tryd.prog 14 #[v, .int .u8 (last : Nat), .slice A m cap] w (Owned base w (xs ++ (headL last m ++ ys))) := by
  obtain ⟨A1, cap1, rfl, hcap, hmax⟩ := own_slice hown
  have hmax2 := hmax
  unfold maxLen at hmax2
  have hf := hy.fit
  have hmx := hy.max
  unfold maxLen at hmx
  have hw1 : (m : Int) % 65536 = (m : Int) := by omega
  have hx1 : bits .xor .u16 IntKind.u16.max (m : Int) = ((65535 - m : Nat) : Int) := not_u16 m (by omega)
  have HB0 := Lib.hid hbase
  have HO := Lib.hid hown
  obtain ⟨Y, hY⟩ : ∃ Y, 65535 - m = Y := ⟨_, rfl⟩
  have hY1 : Y ≤ 65535 := by omega
  have HN : Hid (∀ Z : Int, Z = (Y : Int) → BAt8 (fun _ => True) (w.alloc (.cells #[.int .u8 (last : Nat), .int .u8 ((m : Int) % 256), .int .u8 ((m : Int) / 256), .int .u8 (Z % 256), .int .u8 (Z / 256 % 256)] 5)) (some ⟨w.heap.size, 0, none⟩) 5 5 (headL last m)) := Lib.hid (fun Z hZ => BAt8.new w (headL last m) 5 (0, 0) _ 5 (by
    unfold headL; rw [hY, hZ, show (Y : Int) / 256 % 256 = (Y : Int) / 256 by omega]; simp) rfl (by unfold maxLen; omega) (by
    unfold headL; rw [hY]
    intro x hx
    simp only [List.mem_cons, List.not_mem_nil, or_false] at hx
    omega))
  rw [hY] at hx1
  have HX := Lib.hid (show bits .xor .u16 (if IntKind.u16.signed = true then -1 else IntKind.u16.max) (m : Int) = (Y : Int) from hx1)
  clear hx1
  have HY := Lib.hid (fun u (hu : Below base w u) => hy.keep hu.size fun k hk hf => hu.block k (hF k hf))
  have HH := Lib.hid (show (headL last m).length = 5 from rfl)
  have HYL := Lib.hid hy.len
  generalize headL last m = hd at *
  clear hown hy hY hbase
  go_enter Tryd.func14, Tryd.ntmps14
  go_wp2_with (first
    | (at_builtin
       refine wpList_append_u8 (P := Tryd.prog) base 5 22 infoB8 Tryd.underlying22 rfl (.tmp 11) (.tmp 25) rfl _ xs.length xs rfl (HO.out.alloc _) rfl (HN.out _ HX.out) (by omega) (by have := HB0.out; simp; omega) ?_
       intro v3 w3 hown3 hb3
       have hbw := ((Below.refl base w).alloc HB0.out _).trans hb3
       have HB3 := Lib.hid hbw
       have HO3 := Lib.hid hown3
       have HY3 := Lib.hid (HY.out w3 hbw)
       obtain ⟨A3, cap3, rfl, hn3, hm3⟩ := own_slice hown3
       clear hown3 hb3 hbw HN HO)
    | (at_builtin
       refine wpList_append_u8 (P := Tryd.prog) base 5 22 infoB8 Tryd.underlying22 rfl (.tmp 27) (.tmp 28) rfl _ (xs.length + 5) (xs ++ hd) rfl HO3.out rfl HY3.out (by omega) (Nat.le_trans HB0.out HB3.out.size) ?_
       intro v4 w4 hown4 hb4
       have HR : Hid (Owned base w (xs ++ (hd ++ ys)) (.returned v4) w4) := Lib.hid ⟨v4, rfl, by
         rw [← List.append_assoc]
         rw [show (xs ++ hd ++ ys).length = xs.length + 5 + m by rw [List.length_append, List.length_append, HH.out, HYL.out]]
         exact hown4, HB3.out.trans hb4⟩
       obtain ⟨A4, cap4, rfl, hn4, hm4⟩ := own_slice hown4
       clear hown4 hb4 HO3 HY3))
  go_ret
  exact HR.out
def lenOf : Value → Nat
  | .slice _ n _ => n
  | _ => 0
theorem stoR_on {b : List Int} (h : 65535 < b.length) : stoR b = headL 0 65535 ++ b.take 65535 ++ stoR (b.drop 65535) := by
  rw [stoR, if_pos h]
theorem stoR_end {b : List Int} (h : ¬ 65535 < b.length) : stoR b = headL 1 b.length ++ b := by
  rw [stoR, if_neg h]
structure StAt (F : Nat → Prop) (w wr : World) (b r o : List Int) (A : Option Addr) (m cap : Nat) (v : Value) : Prop where
  rest : BAt8 F wr A m cap r
  own : wr.ownsRow w.heap.size 5 1 v o.length (o.map u8I)
  bel : Below w.heap.size w wr
  is : o ++ stoR r = stoR b
  le : o.length + 2 * r.length ≤ 200000
set_option maxRecDepth 100000 in
set_option maxHeartbeats 1600000 in
theorem store_any (F : Nat → Prop) (A : Option Addr) (n cap : Nat) (b : List Int) (w : World) (hl : BAt8 F w A n cap b) (hF : ∀ k, F k → k < w.heap.size) (hn : n ≤ 100000) :
    Calls Tryd.prog 8 #[.slice A n cap] w (Owned w.heap.size w (stoR b)) := by
  have HS : Hid (StAt F w w b b [] A n cap (.slice none 0 0)) := Lib.hid ⟨hl, World.ownsRow_nil _ _ _ _, Below.refl _ _, rfl, by have := hl.len; simp; omega⟩
  have hFH := Lib.hid hF
  clear hl hF
  go_enter Tryd.func8, Tryd.ntmps8
  go_wp2_with fail
  go_loopw [0, 3] (fun vb vo wr => ∃ (A : Option Addr) (m cap : Nat) (r o : List Int), vb = .slice A m cap ∧ Hid (StAt F w wr b r o A m cap vo)) (fun vb _ _ => lenOf vb)
  case atStart => exact ⟨A, n, cap, b, [], rfl, HS⟩
  case round =>
    obtain ⟨A', m, cap', r, o, rfl, HX⟩ := hrel
    have hm := HX.out.rest.len
    have hf := HX.out.rest.fit
    have hmx := HX.out.rest.max
    unfold maxLen at hmx
    have hle := HX.out.le
    by_cases hbig : 65535 < m
    · have d1 : decide ((65535 : Int) < (m : Int)) = true := decide_eq_true (by omega)
      obtain ⟨M, hM⟩ : ∃ M : Nat, M = 65535 := ⟨_, rfl⟩
      have hMi : (65535 : Int) = (M : Int) := by omega
      obtain ⟨A1, c1, k1, B1⟩ := cut_h HX.out.rest (65535 : Int) M hMi (by omega)
      have H1 := Lib.hid (show Calls Tryd.prog 14 #[_, .int .u8 0, .slice A1 M c1] wr _ from appendStored_own w.heap.size F _ o 0 A1 M c1 (r.take M) wr HX.out.own B1 hFH.out (by omega) (by omega) (by omega) HX.out.bel.size)
      obtain ⟨A2, c2, k2, B2⟩ := cut_l HX.out.rest (65535 : Int) M hMi (by omega)
      have HN := Lib.hid (fun (u : World) v (ho : u.ownsRow w.heap.size 5 1 v (o ++ (headL 0 M ++ r.take M)).length ((o ++ (headL 0 M ++ r.take M)).map u8I)) (hb : Below w.heap.size wr u) =>
        show StAt F w u b (r.drop M) (o ++ (headL 0 M ++ r.take M)) A2 (m - M) c2 v from ⟨B2.keep hb.size fun k hk hf => hb.block k (hFH.out k hf), ho, HX.out.bel.trans hb, by
          have h := HX.out.is
          rw [stoR_on (b := r) (by omega)] at h
          rw [← h, hM]
          simp only [List.append_assoc], by
          simp only [List.length_append, List.length_take, List.length_drop, headL, List.length_cons, List.length_nil]
          omega⟩)
      have hmM : Hid (m - M < m) := Lib.hid (by omega)
      clear B1 B2 HX hM hMi hle hm
      go_wp2_with fail
      refine H1.out.mono ?_
      rintro e w2 ⟨v2, rfl, ho2, hb2⟩
      have HN2 := Lib.hid (HN.out w2 v2 ho2 hb2)
      clear ho2 hb2 H1 HN
      go_wp2_with fail
      go_roundw
      case rel => exact ⟨A2, m - M, c2, _, _, rfl, HN2⟩
      case measure => exact hmM.out
    · have d1 : decide ((65535 : Int) < (m : Int)) = false := decide_eq_false (by omega)
      have H1 := Lib.hid (show Calls Tryd.prog 14 #[_, .int .u8 1, .slice A' m cap'] wr _ from appendStored_own w.heap.size F _ o 1 A' m cap' r wr HX.out.own HX.out.rest hFH.out (by omega) (by omega) (by omega) HX.out.bel.size)
      have hst : o ++ (headL 1 m ++ r) = stoR b := by
        have h := HX.out.is
        rw [stoR_end (b := r) (by omega), hm] at h
        exact h
      rw [hst] at H1
      have HB := Lib.hid HX.out.bel
      clear HX hst hle hm
      go_wp2_with fail
      refine H1.out.mono ?_
      rintro e w2 ⟨v2, rfl, ho2, hb2⟩
      have HR : Hid (Owned w.heap.size w (stoR b) (.returned v2) w2) := Lib.hid ⟨v2, rfl, ho2, HB.out.trans hb2⟩
      clear ho2 hb2 H1
      go_wp2_with fail
      go_ret
      exact HR.out

end Go.Proofs.YtehnilmfeoadgaaDoor
/- What is stored is unpacked: no program is named here. -/
namespace Go.Proofs.YtehnilmfeoadgaaDoor
set_option linter.unusedVariables false
set_option maxRecDepth 100000
set_option linter.unusedSimpArgs false

theorem lo_bits (l : List Int) (d i s : Nat) (hs : i + s ≤ 8) (hi : i < 8) : lo (bitsF l (8 * d + i)) s = (gI l d).toNat / 2 ^ i % 2 ^ s := by
  have h := lo_byte l (8 * d + i) s (by omega)
  rw [show (8 * d + i) / 8 = d by omega, show (8 * d + i) % 8 = i by omega] at h
  exact h
theorem lo_two (l : List Int) (d a b : Nat) (h1 : gI l d = (a : Nat)) (h2 : gI l (d + 1) = (b : Nat)) (ha : a < 256) (hb : b < 256) : lo (bitsF l (8 * d)) 16 = a + 256 * b := by
  have e := lo_add (bitsF l (8 * d)) 8 8
  have e1 := lo_bits l d 0 8 (by omega) (by omega)
  have e2 := lo_bits l (d + 1) 0 8 (by omega) (by omega)
  rw [Nat.add_zero] at e1 e2
  have e3 : (fun j => bitsF l (8 * d) (8 + j)) = bitsF l (8 * (d + 1)) := by
    funext j
    unfold bitsF
    rw [show 8 * d + (8 + j) = 8 * (d + 1) + j by omega]
  rw [e3, e1, e2, h1, h2] at e
  rw [e]
  simp only [Nat.pow_zero, Nat.div_one, Int.toNat_natCast]
  have p8 : (2 : Nat) ^ 8 = 256 := by decide
  rw [p8]
  omega
theorem take_ok {bs : List Int} {n p : Nat} (h : p + n ≤ 8 * bs.length) : takeM bs n p = .ok (lo (bitsF bs p) n, p + n) := if_pos h
theorem take_bad {bs : List Int} {n p : Nat} (h : ¬ p + n ≤ 8 * bs.length) : takeM bs n p = .error 2 := if_neg h
theorem headL_len (last n : Nat) : (headL last n).length = 5 := rfl
/-- A block's first bits. -/
theorem blk_first {l : List Int} {d last : Nat} (hd : d < l.length) (h0 : gI l d = (last : Nat)) (hlast : last ≤ 1) : takeM l 1 (8 * d) = .ok (last, 8 * d + 1) ∧ takeM l 2 (8 * d + 1) = .ok (0, 8 * d + 1 + 2) := by
  have e1 := lo_bits l d 0 1 (by omega) (by omega)
  have e2 := lo_bits l d 1 2 (by omega) (by omega)
  rw [Nat.add_zero] at e1
  rw [h0, Int.toNat_natCast] at e1 e2
  refine ⟨?_, ?_⟩
  · rw [take_ok (by omega), e1, show last / 2 ^ 0 % 2 ^ 1 = last by simp; omega]
  · have e3 : last / 2 ^ 1 % 2 ^ 2 = 0 := by
      have e4 : last / 2 ^ 1 = 0 := Nat.div_eq_of_lt (by omega)
      rw [e4]
    rw [take_ok (by omega), e2, e3]
theorem blk_is {l : List Int} {d last lim : Nat} {o : List Int} (hd : d < l.length) (h0 : gI l d = (last : Nat)) (hlast : last ≤ 1) : blockM l lim (8 * d) o = bnd (storedM l lim (8 * d + 1 + 2) o) fun o' s => .ok ((decide (last = 1), o'), s) := by
  obtain ⟨h1, h2⟩ := blk_first hd h0 hlast
  unfold blockM
  rw [h1, bnd_ok, h2, bnd_ok, kind_stored]
theorem blk_step {l t : List Int} {d last n lim : Nat} {o : List Int} (h : l.drop d = headL last n ++ t) (hd : d ≤ l.length) (hn : n ≤ 65535) (hlast : last ≤ 1) :
    blockM l lim (8 * d) o = if lim - o.length < n then .error 8 else if n ≤ t.length then .ok ((decide (last = 1), o ++ t.take n), 8 * (d + 5 + n)) else .error 2 := by
  have hlen : l.length = d + 5 + t.length := by
    have := congrArg List.length h
    rw [List.length_drop, List.length_append, headL_len] at this
    omega
  have g : ∀ i, gI l (d + i) = gI (headL last n ++ t) i := fun i => by rw [← gI_drop, h]
  have g0 : gI l d = (last : Nat) := g 0
  have g1 : gI l (d + 1) = ((n % 256 : Nat) : Int) := g 1
  have g2 : gI l (d + 1 + 1) = ((n / 256 : Nat) : Int) := g 2
  have g3 : gI l (d + 3) = (((65535 - n) % 256 : Nat) : Int) := g 3
  have g4 : gI l (d + 3 + 1) = (((65535 - n) / 256 : Nat) : Int) := g 4
  have hdr : l.drop (d + 5) = t := by
    rw [← List.drop_drop, h]
    rfl
  rw [blk_is (by omega) g0 hlast]
  unfold storedM
  have u1 : 8 * upB (8 * d + 1 + 2) = 8 * (d + 1) := by unfold upB; omega
  rw [u1, take_ok (by omega), lo_two l (d + 1) _ _ g1 g2 (by omega) (by omega), bnd_ok, show 8 * (d + 1) + 16 = 8 * (d + 3) by omega, take_ok (by omega), lo_two l (d + 3) _ _ g3 g4 (by omega) (by omega), bnd_ok]
  have u2 : upB (8 * (d + 3) + 16) = d + 5 := by unfold upB; omega
  rw [u2, hdr, show n % 256 + 256 * (n / 256) = n by omega, show (65535 - n) % 256 + 256 * ((65535 - n) / 256) = 65535 - n by omega, if_neg (by omega)]
  by_cases c1 : lim - o.length < n
  · rw [if_pos c1, if_pos c1]; rfl
  · rw [if_neg c1, if_neg c1]
    by_cases c2 : n ≤ t.length
    · rw [if_pos (by omega), if_pos c2]; rfl
    · rw [if_neg (by omega), if_neg c2]; rfl
theorem blk_short {l : List Int} {d last n k lim : Nat} {o : List Int} (h : l.drop d = (headL last n).take k) (hd : d ≤ l.length) (hk : k < 5) (hlast : last ≤ 1) : blockM l lim (8 * d) o = .error 2 := by
  have hlen : l.length = d + k := by
    have := congrArg List.length h
    rw [List.length_drop, List.length_take, headL_len] at this
    omega
  by_cases k0 : k = 0
  · unfold blockM
    rw [take_bad (by omega)]; rfl
  · have g0 : gI l d = (last : Nat) := by
      have : gI l (d + 0) = gI ((headL last n).take k) 0 := by rw [← gI_drop, h]
      rw [Nat.add_zero] at this
      rw [this, gI_take _ _ _ (by omega)]; rfl
    rw [blk_is (by omega) g0 hlast]
    unfold storedM
    have u1 : 8 * upB (8 * d + 1 + 2) = 8 * (d + 1) := by unfold upB; omega
    rw [u1]
    by_cases c : 8 * (d + 1) + 16 ≤ 8 * l.length
    · rw [take_ok c, bnd_ok, take_bad (by omega)]; rfl
    · rw [take_bad c]; rfl
theorem stoR_len (b : List Int) : (stoR b).length = b.length + 5 * ((b.length - 1) / 65535 + 1) := by
  by_cases h : 65535 < b.length
  · rw [stoR_on h, List.length_append, List.length_append, headL_len, stoR_len (b.drop 65535), List.length_take, List.length_drop]
    omega
  · rw [stoR_end h, List.length_append, headL_len]
    omega
  termination_by b.length
  decreasing_by simp; omega
theorem back_ok : ∀ (k : Nat) (r : List Int), r.length ≤ k → ∀ (l more o : List Int) (d lim : Nat), l.drop d = stoR r ++ more → d ≤ l.length → o.length + r.length ≤ lim →
    loopM (blockM l lim) (8 * l.length) (8 * d) o = .ok (o ++ r, 8 * (d + (stoR r).length)) := by
  intro k
  induction k with
  | zero =>
    intro r hr l more o d lim h hd hl
    obtain rfl : r = [] := List.eq_nil_of_length_eq_zero (by omega)
    rw [stoR_end (by simp), List.append_assoc] at h
    have e := blk_step (lim := lim) (o := o) h hd (by simp) (by omega)
    simp only [List.length_nil, Nat.not_lt_zero, if_false, Nat.zero_le, if_true, List.take_zero] at e
    rw [loop_end e, stoR_end (by simp), List.length_append, headL_len]
    simp
  | succ k ih =>
    intro r hr l more o d lim h hd hl
    by_cases hbig : 65535 < r.length
    · rw [stoR_on hbig, List.append_assoc, List.append_assoc] at h
      have e := blk_step (lim := lim) (o := o) h hd (Nat.le_refl _) (by omega)
      have htk : (r.take 65535).length = 65535 := by rw [List.length_take]; omega
      rw [if_neg (by omega), if_pos (by rw [List.length_append, htk]; omega), List.take_append_of_le_length (by omega), List.take_of_length_le (by omega)] at e
      have hlen : l.length = d + (5 + (65535 + ((stoR (r.drop 65535)).length + more.length))) := by
        have := congrArg List.length h
        rw [List.length_drop, List.length_append, headL_len, List.length_append, htk, List.length_append] at this
        omega
      rw [loop_on (o' := o ++ r.take 65535) (q := 8 * (d + 5 + 65535)) e (by omega) (by omega)]
      rw [ih (r.drop 65535) (by rw [List.length_drop]; omega) l more (o ++ r.take 65535) (d + 5 + 65535) lim (by
        rw [Nat.add_assoc, ← List.drop_drop, h, ← List.append_assoc, List.drop_append_of_le_length (by rw [List.length_append, headL_len, htk]; omega)]
        rw [List.drop_of_length_le (by rw [List.length_append, headL_len, htk]; omega)]; rfl) (by omega) (by rw [List.length_append, List.length_drop, htk]; omega)]
      rw [List.append_assoc, List.take_append_drop, stoR_on hbig, List.length_append, List.length_append, headL_len, htk]
      congr 3
      omega
    · rw [stoR_end hbig, List.append_assoc] at h
      have e := blk_step (lim := lim) (o := o) h hd (by omega) (by omega)
      rw [if_neg (by omega), if_pos (by rw [List.length_append]; omega), List.take_append_of_le_length (by omega), List.take_of_length_le (by omega)] at e
      rw [loop_end e, stoR_end hbig, List.length_append, headL_len]
      congr 3
      omega
theorem back_cut : ∀ (k : Nat) (r : List Int), r.length ≤ k → ∀ (l o : List Int) (d lim j : Nat), l.drop d = (stoR r).take j → j < (stoR r).length → d ≤ l.length → o.length + r.length ≤ lim →
    loopM (blockM l lim) (8 * l.length) (8 * d) o = .error 2 := by
  intro k
  induction k with
  | zero =>
    intro r hr l o d lim j h hj hd hl
    obtain rfl : r = [] := List.eq_nil_of_length_eq_zero (by omega)
    rw [stoR_end (by simp), List.append_nil] at h hj
    exact loop_er (blk_short h hd hj (by omega))
  | succ k ih =>
    intro r hr l o d lim j h hj hd hl
    by_cases hbig : 65535 < r.length
    · rw [stoR_on hbig, List.append_assoc] at h hj
      have htk : (r.take 65535).length = 65535 := by rw [List.length_take]; omega
      by_cases c5 : j < 5
      · rw [List.take_append_of_le_length (by rw [headL_len]; omega)] at h
        exact loop_er (blk_short h hd c5 (by omega))
      · obtain ⟨i, rfl⟩ : ∃ i, j = 5 + i := ⟨j - 5, by omega⟩
        have h' : l.drop d = headL 0 65535 ++ (r.take 65535 ++ stoR (r.drop 65535)).take i := by
          rw [h, List.take_append, headL_len, List.take_of_length_le (by rw [headL_len]; omega), show 5 + i - 5 = i by omega]
        have e := blk_step (lim := lim) (o := o) h' hd (Nat.le_refl _) (by omega)
        have hjl : 5 + i < 5 + (65535 + (stoR (r.drop 65535)).length) := by
          rw [List.length_append, headL_len, List.length_append, htk] at hj; exact hj
        rw [if_neg (by omega)] at e
        by_cases ci : 65535 ≤ i
        · obtain ⟨x, rfl⟩ : ∃ x, i = 65535 + x := ⟨i - 65535, by omega⟩
          have e2 : (r.take 65535 ++ stoR (r.drop 65535)).take (65535 + x) = r.take 65535 ++ (stoR (r.drop 65535)).take x := by
            rw [List.take_append, htk, List.take_of_length_le (l := r.take 65535) (by omega), show 65535 + x - 65535 = x by omega]
          rw [e2] at e h'
          have htx : ((stoR (r.drop 65535)).take x).length = x := by rw [List.length_take]; omega
          rw [if_pos (by rw [List.length_append, htk]; omega), List.take_append_of_le_length (by omega), List.take_of_length_le (by omega)] at e
          have hlen : l.length = d + (5 + (65535 + x)) := by
            have := congrArg List.length h'
            rw [List.length_drop, List.length_append, headL_len, List.length_append, htk, htx] at this
            omega
          rw [loop_on (o' := o ++ r.take 65535) (q := 8 * (d + 5 + 65535)) e (by omega) (by omega)]
          exact ih (r.drop 65535) (by rw [List.length_drop]; omega) l (o ++ r.take 65535) (d + 5 + 65535) lim x (by
            rw [Nat.add_assoc, ← List.drop_drop, h', ← List.append_assoc, List.drop_append_of_le_length (by rw [List.length_append, headL_len, htk]; omega)]
            rw [List.drop_of_length_le (by rw [List.length_append, headL_len, htk]; omega)]; rfl) (by omega) (by omega) (by rw [List.length_append, List.length_drop, htk]; omega)
        · have hti : ((r.take 65535 ++ stoR (r.drop 65535)).take i).length ≤ i := by rw [List.length_take]; omega
          rw [if_neg (by omega)] at e
          exact loop_er e
    · rw [stoR_end hbig] at h hj
      by_cases c5 : j < 5
      · rw [List.take_append_of_le_length (by rw [headL_len]; omega)] at h
        exact loop_er (blk_short h hd c5 (by omega))
      · obtain ⟨i, rfl⟩ : ∃ i, j = 5 + i := ⟨j - 5, by omega⟩
        have h' : l.drop d = headL 1 r.length ++ r.take i := by
          rw [h, List.take_append, headL_len, List.take_of_length_le (by rw [headL_len]; omega), show 5 + i - 5 = i by omega]
        have e := blk_step (lim := lim) (o := o) h' hd (by omega) (by omega)
        rw [List.length_append, headL_len] at hj
        rw [if_neg (by omega), if_neg (by rw [List.length_take]; omega)] at e
        exact loop_er e

end Go.Proofs.YtehnilmfeoadgaaDoor
/- InflateBack, walked. -/
namespace Go.Proofs.YtehnilmfeoadgaaDoor
open Go.RowKit
set_option linter.unusedVariables false
set_option linter.unusedSimpArgs false

theorem headL_byte (last n : Nat) (h1 : last ≤ 1) (h2 : n ≤ 65535) : Byte8 (headL last n) := byte8_of _ fun x hx => by
  unfold headL at hx
  simp only [List.mem_cons, List.not_mem_nil, or_false] at hx
  omega
theorem stoR_byte (b : List Int) (h : Byte8 b) : Byte8 (stoR b) := by
  by_cases c : 65535 < b.length
  · rw [stoR_on c]
    exact ((headL_byte 0 65535 (by omega) (Nat.le_refl _)).app (h.take _)).app (stoR_byte (b.drop 65535) (h.drop _))
  · rw [stoR_end c]
    exact (headL_byte 1 b.length (by omega) (by omega)).app h
  termination_by b.length
  decreasing_by simp; omega
theorem OrdAt.later {B : Nat} {w w' : World} (h : OrdAt w.heap.size w) (hb : Below w.heap.size w w') : OrdAt w'.heap.size w' := ⟨Nat.lt_of_lt_of_le h.low hb.size, (h.below hb).is⟩
theorem infl_back (l more : List Int) : inflM (stoR l ++ more) l.length = .ok (l, 8 * (stoR l).length) := by
  have := back_ok l.length l (Nat.le_refl _) (stoR l ++ more) more [] 0 l.length rfl (Nat.zero_le _) (by simp)
  rw [Nat.zero_add] at this
  exact this
theorem infl_cut (l : List Int) (k : Nat) (h : k < (stoR l).length) : inflM ((stoR l).take k) l.length = .error 2 :=
  back_cut l.length l (Nat.le_refl _) ((stoR l).take k) [] 0 l.length k rfl h (Nat.zero_le _) (by simp)
end Go.Proofs.YtehnilmfeoadgaaDoor
/- Adler-32 over bytes: two numbers. No program is named here. -/
namespace Go.Proofs.YtehnilmfeoadgaaDoor

/-- The two numbers, a byte later. -/
def adP (p : Int × Int) (b : Int) : Int × Int := ((p.1 + b) % 65521, (p.2 + (p.1 + b) % 65521) % 65521)
def adF (p : Int × Int) (l : List Int) : Int × Int := l.foldl adP p
/-- As one number. -/
def adV (p : Int × Int) : Int := 65536 * p.2 + p.1
structure AdOk (p : Int × Int) : Prop where
  x0 : 0 ≤ p.1
  x1 : p.1 < 65521
  y0 : 0 ≤ p.2
  y1 : p.2 < 65521
theorem ad_start : AdOk (1, 0) := ⟨by decide, by decide, by decide, by decide⟩
theorem adP_ok (p : Int × Int) (b : Int) : AdOk (adP p b) := by
  unfold adP
  exact ⟨by dsimp only; omega, by dsimp only; omega, by dsimp only; omega, by dsimp only; omega⟩
theorem adF_ok {p : Int × Int} (h : AdOk p) : ∀ l : List Int, AdOk (adF p l)
  | [] => h
  | b :: l => adF_ok (adP_ok p b) l
theorem adF_nil (p : Int × Int) : adF p [] = p := rfl
theorem adF_app (p : Int × Int) (a b : List Int) : adF p (a ++ b) = adF (adF p a) b := List.foldl_append
theorem adF_snoc (p : Int × Int) (a : List Int) (b : Int) : adF p (a ++ [b]) = adP (adF p a) b := by rw [adF_app]; rfl
theorem adV_bd {p : Int × Int} (h : AdOk p) : 0 ≤ adV p ∧ adV p < 4294967296 := by
  obtain ⟨h1, h2, h3, h4⟩ := h
  unfold adV
  omega
theorem adV_inj {p q : Int × Int} (hp : AdOk p) (hq : AdOk q) (h : adV p = adV q) : p.1 = q.1 := by
  obtain ⟨h1, h2, h3, h4⟩ := hp
  obtain ⟨k1, k2, k3, k4⟩ := hq
  unfold adV at h
  omega
/-- The first number is one and the sum of all bytes. -/
theorem adF_fst {p : Int × Int} (h : AdOk p) : ∀ l : List Int, (adF p l).1 = (p.1 + l.sum) % 65521
  | [] => by
    obtain ⟨h1, h2, _, _⟩ := h
    show p.1 = (p.1 + 0) % 65521
    omega
  | b :: l => by
    have ih := adF_fst (adP_ok p b) l
    show (adF (adP p b) l).1 = _
    rw [ih, List.sum_cons]
    show ((p.1 + b) % 65521 + l.sum) % 65521 = _
    omega
/-- Bytes that differ in one place alone have other sums. -/
theorem ad_differs (a c : List Int) (u v : Int) (u0 : 0 ≤ u) (u1 : u ≤ 255) (v0 : 0 ≤ v) (v1 : v ≤ 255) : (adV (adF (1, 0) (a ++ u :: c)) == adV (adF (1, 0) (a ++ v :: c))) = (u == v) := by
  by_cases e : u = v
  · subst e
    simp
  · have hne : adV (adF (1, 0) (a ++ u :: c)) ≠ adV (adF (1, 0) (a ++ v :: c)) := fun h => by
      have h1 := adV_inj (adF_ok ad_start _) (adF_ok ad_start _) h
      rw [adF_fst ad_start, adF_fst ad_start, List.sum_append, List.sum_append, List.sum_cons, List.sum_cons] at h1
      dsimp only at h1
      omega
    rw [beq_eq_false_iff_ne.2 hne, beq_eq_false_iff_ne.2 e]

end Go.Proofs.YtehnilmfeoadgaaDoor
/- A byte of a row that is stored over, and its sum. No function of the program is named here. -/
namespace Go.Proofs.YtehnilmfeoadgaaDoor
open Go.RowKit

theorem row_set {w : World} {base g n cap : Nat} {e : TypeId} {l : List Int} (h : w.ownsRow base e 1 (.slice (some ⟨g, 0, none⟩) n cap) n (l.map u8I)) (i : Nat) (x : Int) : (w.setCell ⟨g, i, none⟩ (.int .u8 x)).ownsRow base e 1 (.slice (some ⟨g, 0, none⟩) n cap) n ((l.set i x).map u8I) := by
  have := (h.stored i (.int .u8 x)).1
  rw [List.map_set]
  exact this
theorem Byte8.set {l : List Int} (h : Byte8 l) (i : Nat) {x : Int} (x0 : 0 ≤ x) (x1 : x ≤ 255) : Byte8 (l.set i x) := fun j => by
  unfold gI
  rw [List.getD_eq_getElem?_getD, List.getElem?_set]
  split
  · split
    · exact ⟨x0, x1⟩
    · simp
  · have := h j
    unfold gI at this
    rw [List.getD_eq_getElem?_getD] at this
    exact this
theorem ad_set (l : List Int) (i : Nat) (x : Int) (hi : i < l.length) (hy : 0 ≤ gI l i ∧ gI l i ≤ 255) (x0 : 0 ≤ x) (x1 : x ≤ 255) : (adV (adF (1, 0) l) == adV (adF (1, 0) (l.set i x))) = (gI l i == x) := by
  have e1 : l = l.take i ++ gI l i :: l.drop (i + 1) := by
    have h : l[i] = gI l i := by have := gI_some l i hi; rw [List.getElem?_eq_getElem hi] at this; exact Option.some.inj this
    rw [← h, List.getElem_cons_drop, List.take_append_drop]
  have e2 : l.set i x = l.take i ++ x :: l.drop (i + 1) := by rw [List.set_eq_take_append_cons_drop, if_pos hi]
  rw [e2]
  have := ad_differs (l.take i) (l.drop (i + 1)) (gI l i) x hy.1 hy.2 x0 x1
  rw [← e1] at this
  exact this

end Go.Proofs.YtehnilmfeoadgaaDoor
/- What is packed, and how it is unpacked, as functions of bytes: no function of the program is named here. -/
namespace Go.Proofs.YtehnilmfeoadgaaDoor
set_option linter.unusedVariables false
set_option linter.unusedSimpArgs false

/-- The sum of bytes, its four bytes, and the number that four bytes are. -/
def sumOf (l : List Int) : Int := adV (adF (1, 0) l)
theorem sumOf_bd (l : List Int) : 0 ≤ sumOf l ∧ sumOf l < 4294967296 := adV_bd (adF_ok ad_start l)
def sumL (V : Int) : List Int := [V / 16777216 % 256, V / 65536 % 256, V / 256 % 256, V % 256]
def pS (l : List Int) : Nat → Int
  | 0 => 0
  | k + 1 => pS l k * 256 + gI l k
theorem pS_bd {l : List Int} (h : Byte8 l) : ∀ k, 0 ≤ pS l k ∧ pS l k < 256 ^ k
  | 0 => ⟨Int.le_refl _, show (0 : Int) < 1 by decide⟩
  | k + 1 => by
    have ⟨h1, h2⟩ := pS_bd h k
    have hg := h k
    rw [Int.pow_succ]
    show 0 ≤ pS l k * 256 + gI l k ∧ pS l k * 256 + gI l k < _
    omega
theorem sumL_byte (V : Int) : Byte8 (sumL V) := byte8_of _ fun x hx => by
  unfold sumL at hx
  simp only [List.mem_cons, List.not_mem_nil, or_false] at hx
  omega
theorem sumL_is (V : Int) (h0 : 0 ≤ V) (h1 : V < 4294967296) (more : List Int) : pS (sumL V ++ more) 4 = V := by
  show (((0 * 256 + V / 16777216 % 256) * 256 + V / 65536 % 256) * 256 + V / 256 % 256) * 256 + V % 256 = V
  omega
/-- Two bytes that may stand ahead. -/
def headOk (a c : Int) : Bool := a % 16 == 8 && decide (a / 16 ≤ 7) && (a * 256 + c) % 31 == 0 && c / 32 % 2 == 0
def zipL (b : List Int) : List Int := [120, 1] ++ (stoR b ++ sumL (sumOf b))
theorem zipL_len (b : List Int) (h : b.length ≤ 65535) : (zipL b).length = b.length + 11 := by
  unfold zipL
  rw [List.length_append, List.length_append, stoR_len]
  show 2 + (b.length + 5 * ((b.length - 1) / 65535 + 1) + 4) = b.length + 11
  omega
theorem zipL_byte (b : List Int) (h : Byte8 b) : Byte8 (zipL b) :=
  (byte8_of _ fun x hx => by simp only [List.mem_cons, List.not_mem_nil, or_false] at hx; omega).app ((stoR_byte b h).app (sumL_byte _))
def unpM (l : List Int) (lim : Nat) : Rs (List Int) :=
  if l.length < 2 then .error 2 else if headOk (gI l 0) (gI l 1) = false then .error 4 else
  bnd (inflM (l.drop 2) lim) fun o p =>
    if l.length < 2 + (p + 7) / 8 + 4 then .error 2 else if pS (l.drop (2 + (p + 7) / 8)) 4 = sumOf o then .ok (o, 2 + (p + 7) / 8 + 4) else .error 7

theorem infl_in (l more : List Int) (lim : Nat) (h : l.length ≤ lim) : inflM (stoR l ++ more) lim = .ok (l, 8 * (stoR l).length) := by
  have := back_ok l.length l (Nat.le_refl _) (stoR l ++ more) more [] 0 lim rfl (Nat.zero_le _) (by simpa using h)
  rw [Nat.zero_add] at this
  exact this
/-- What stands behind a head that may be: blocks, then four bytes. -/
theorem unp_in (a c : Int) (l s more : List Int) (lim : Nat) (ha : headOk a c = true) (h : l.length ≤ lim) (hs : s.length = 4) :
    unpM (a :: c :: (stoR l ++ (s ++ more))) lim = if pS (s ++ more) 4 = sumOf l then .ok (l, (stoR l).length + 6) else .error 7 := by
  unfold unpM
  have e0 : gI (a :: c :: (stoR l ++ (s ++ more))) 0 = a := rfl
  have e1 : gI (a :: c :: (stoR l ++ (s ++ more))) 1 = c := rfl
  have e2 : (a :: c :: (stoR l ++ (s ++ more))).drop 2 = stoR l ++ (s ++ more) := rfl
  have e3 : (a :: c :: (stoR l ++ (s ++ more))).length = (stoR l).length + (4 + more.length) + 2 := by
    rw [List.length_cons, List.length_cons, List.length_append, List.length_append, hs]
  have e4 : (8 * (stoR l).length + 7) / 8 = (stoR l).length := by omega
  have e5 : (a :: c :: (stoR l ++ (s ++ more))).drop (2 + (stoR l).length) = s ++ more := by
    rw [← List.drop_drop, e2, List.drop_left']
    rfl
  rw [e0, e1, ha, e3, if_neg (by omega), if_neg (by decide), e2, infl_in l _ lim h, bnd_ok, e4, if_neg (by omega), e5]
  by_cases c : pS (s ++ more) 4 = sumOf l
  · rw [if_pos c, if_pos c, show 2 + (stoR l).length + 4 = (stoR l).length + 6 by omega]
  · rw [if_neg c, if_neg c]
theorem head_usual : headOk 120 1 = true := by decide
theorem unp_back (b more : List Int) : unpM (zipL b ++ more) b.length = .ok (b, (zipL b).length) := by
  have h := unp_in 120 1 b (sumL (sumOf b)) more b.length head_usual (Nat.le_refl _) rfl
  rw [sumL_is _ (sumOf_bd b).1 (sumOf_bd b).2, if_pos rfl] at h
  have e : zipL b ++ more = 120 :: 1 :: (stoR b ++ (sumL (sumOf b) ++ more)) := by
    unfold zipL
    simp
  have e2 : (zipL b).length = (stoR b).length + 6 := by
    unfold zipL
    rw [List.length_append, List.length_append]
    show 2 + ((stoR b).length + 4) = _
    omega
  rw [e, e2]
  exact h
theorem unp_cut (b : List Int) (k : Nat) (h : k < (zipL b).length) : unpM ((zipL b).take k) b.length = .error 2 := by
  have hz : (zipL b).length = (stoR b).length + 6 := by
    unfold zipL
    rw [List.length_append, List.length_append]
    show 2 + ((stoR b).length + 4) = _
    omega
  have hl : ((zipL b).take k).length = k := by rw [List.length_take]; omega
  unfold unpM
  rw [hl]
  by_cases c2 : k < 2
  · rw [if_pos c2]
  rw [if_neg c2]
  obtain ⟨j, rfl⟩ : ∃ j, k = j + 2 := ⟨k - 2, by omega⟩
  have e : (zipL b).take (j + 2) = 120 :: 1 :: (stoR b ++ sumL (sumOf b)).take j := rfl
  have e0 : gI ((zipL b).take (j + 2)) 0 = 120 := rfl
  have e1 : gI ((zipL b).take (j + 2)) 1 = 1 := rfl
  have e2 : ((zipL b).take (j + 2)).drop 2 = (stoR b ++ sumL (sumOf b)).take j := rfl
  rw [e0, e1, head_usual, if_neg (by decide), e2]
  by_cases cj : j < (stoR b).length
  · rw [List.take_append_of_le_length (by omega), infl_cut b j cj, bnd_er]
  · rw [List.take_append, List.take_of_length_le (by omega), infl_back, bnd_ok, show (8 * (stoR b).length + 7) / 8 = (stoR b).length by omega, if_pos (by omega)]
/-- One byte of them another one. -/
theorem unp_spoilt (b more : List Int) (i : Nat) (x : Int) (hi : i < b.length) (hb : b.length ≤ 65535) (h8 : Byte8 b) (x0 : 0 ≤ x) (x1 : x ≤ 255) (hx : gI b i ≠ x) :
    unpM ((zipL b ++ more).set (7 + i) x) b.length = .error 7 := by
  have hs : stoR b = headL 1 b.length ++ b := stoR_end (by omega)
  have hs2 : stoR (b.set i x) = headL 1 b.length ++ b.set i x := by rw [stoR_end (by rw [List.length_set]; omega), List.length_set]
  have e : (zipL b ++ more).set (7 + i) x = 120 :: 1 :: (stoR (b.set i x) ++ (sumL (sumOf b) ++ more)) := by
    have e1 : zipL b ++ more = [120, 1] ++ headL 1 b.length ++ (b ++ (sumL (sumOf b) ++ more)) := by
      unfold zipL
      rw [hs]
      simp
    rw [e1, List.set_append_right _ _ (by show 7 ≤ 7 + i; omega)]
    have e2 : 7 + i - ([120, 1] ++ headL 1 b.length).length = i := by
      show 7 + i - 7 = i
      omega
    rw [e2, List.set_append_left _ _ hi, hs2]
    simp
  rw [e, show b.length = (b.set i x).length by rw [List.length_set], unp_in 120 1 (b.set i x) _ more _ head_usual (Nat.le_refl _) rfl, sumL_is _ (sumOf_bd b).1 (sumOf_bd b).2, if_neg]
  intro h
  have hd := ad_set b i x hi (h8 i) x0 x1
  have h1 : (adV (adF (1, 0) b) == adV (adF (1, 0) (b.set i x))) = true := by rw [beq_iff_eq]; exact h
  rw [h1] at hd
  exact hx (by simpa using hd.symm)
/-- Two other bytes ahead. -/
theorem unp_heads (a c : Int) (b : List Int) (lim : Nat) (h : b.length ≤ lim) : unpM (((zipL b).set 0 a).set 1 c) lim = if headOk a c then .ok (b, (zipL b).length) else .error 4 := by
  have e : ((zipL b).set 0 a).set 1 c = a :: c :: (stoR b ++ (sumL (sumOf b) ++ [])) := by
    rw [List.append_nil]
    rfl
  rw [e]
  by_cases ha : headOk a c = true
  · have e2 : (zipL b).length = (stoR b).length + 6 := by
      unfold zipL
      rw [List.length_append, List.length_append]
      show 2 + ((stoR b).length + 4) = _
      omega
    rw [unp_in a c b _ [] lim ha h rfl, sumL_is _ (sumOf_bd b).1 (sumOf_bd b).2, if_pos rfl, if_pos ha, e2]
  · rw [if_neg ha]
    have ha' : headOk a c = false := by simpa using ha
    unfold unpM
    rw [if_neg (by simp), show gI (a :: c :: (stoR b ++ (sumL (sumOf b) ++ []))) 0 = a from rfl, show gI (a :: c :: (stoR b ++ (sumL (sumOf b) ++ []))) 1 = c from rfl, if_pos ha']

end Go.Proofs.YtehnilmfeoadgaaDoor
/- adler's calls: their contracts. -/
namespace Go.Proofs.YtehnilmfeoadgaaDoor
open Go.RowKit

/-- A sum in block g. -/
def SumRow (w : World) (g : Nat) (a s : Int) : Prop := w.heap[g]? = some (.cells #[.int .u32 a, .int .u32 s] 39 (0, 0))
structure SumIs (a s : Int) (p : Int × Int) : Prop where
  a0 : 0 ≤ a
  a1 : a < 65521
  s0 : 0 ≤ s
  s1 : s < 65521
  x : (a + 1) % 65521 = p.1
  y : s = p.2
def SumAt (w : World) (g : Nat) (p : Int × Int) : Prop := ∃ a s, SumRow w g a s ∧ SumIs a s p
theorem SumRow.lt {w : World} {g : Nat} {a s : Int} (h : SumRow w g a s) : g < w.heap.size := (Array.getElem?_eq_some_iff.1 h).1
theorem SumRow.c0 {w : World} {g : Nat} {a s : Int} (h : SumRow w g a s) : w.cell? ⟨g, 0, none⟩ = some (.int .u32 a) := cell_of_row w g 0 _ _ (0, 0) h
theorem SumRow.c1 {w : World} {g : Nat} {a s : Int} (h : SumRow w g a s) : w.cell? ⟨g, 1, none⟩ = some (.int .u32 s) := cell_of_row w g 1 _ _ (0, 0) h
theorem SumRow.free {w : World} {g : Nat} {a s : Int} (h : SumRow w g a s) (j : Nat) : w.frozen? ⟨g, j, none⟩ = false := frozen_of_row w g j _ _ h
theorem SumRow.set {w : World} {g : Nat} {a s : Int} (h : SumRow w g a s) (b t : Int) : SumRow ((w.setCell ⟨g, 0, none⟩ (.int .u32 b)).setCell ⟨g, 1, none⟩ (.int .u32 t)) g b t := by
  unfold SumRow
  rw [heap_setCell_same _ g 1 _ _ _ (heap_setCell_same w g 0 _ _ _ h)]
  rfl
theorem SumAt.lt {w : World} {g : Nat} {p : Int × Int} (h : SumAt w g p) : g < w.heap.size := by obtain ⟨a, s, h, _⟩ := h; exact h.lt
theorem SumAt.block {w w' : World} {g : Nat} {p : Int × Int} (h : SumAt w g p) (hb : w'.heap[g]? = w.heap[g]?) : SumAt w' g p := by
  obtain ⟨a, s, h, k⟩ := h
  exact ⟨a, s, hb.trans h, k⟩
theorem SumAt.below {w w' : World} {g : Nat} {p : Int × Int} (h : SumAt w g p) (hb : Below w.heap.size w w') : SumAt w' g p := h.block (hb.block g h.lt)
theorem SumAt.new (w : World) : SumAt (w.alloc (.cells #[.int .u32 0, .int .u32 0] 39)) w.heap.size (1, 0) := ⟨0, 0, heap_alloc_new w _, by omega, by omega, by omega, by omega, by decide, rfl⟩
/-- Within a piece: k bytes were added. -/
structure Pc (p : Int × Int) (l : List Int) (k : Nat) (x y : Int) : Prop where
  x0 : 0 ≤ x
  x1 : x ≤ 65520 + 255 * k
  y0 : 0 ≤ y
  y1 : 2 * y ≤ 131040 + 131042 * (k : Int) + 255 * ((k * (k + 1) : Nat) : Int)
  ex : (x + 1) % 65521 = (adF p (l.take k)).1
  ey : y % 65521 = (adF p (l.take k)).2
theorem Pc.start {p : Int × Int} {a s : Int} (h : SumIs a s p) (l : List Int) : Pc p l 0 a s := by
  obtain ⟨h1, h2, h3, h4, h5, h6⟩ := h
  refine ⟨h1, by omega, h3, by omega, ?_, ?_⟩
  · rw [List.take_zero, adF_nil]; exact h5
  · rw [List.take_zero, adF_nil]; omega
theorem Pc.sq (k : Nat) (h : k ≤ 4096) : k * (k + 1) ≤ 16781312 := Nat.le_trans (Nat.mul_le_mul h (Nat.add_le_add_right h 1)) (by decide)
theorem Pc.next {p : Int × Int} {l : List Int} {k : Nat} {x y : Int} (h : Pc p l k x y) (hk : k < l.length) (hb : Byte8 l) : Pc p l (k + 1) (x + gI l k) (y + (x + gI l k + 1)) := by
  obtain ⟨h1, h2, h3, h4, h5, h6⟩ := h
  have hg := hb k
  have ht := take_gI l k hk
  have hs : adF p (l.take (k + 1)) = adP (adF p (l.take k)) (gI l k) := by rw [ht, adF_snoc]
  have e : (k + 1) * (k + 1 + 1) = k * (k + 1) + 2 * (k + 1) := by
    rw [Nat.mul_comm (k + 1), Nat.add_mul, Nat.one_mul, Nat.add_mul, Nat.one_mul]; omega
  refine ⟨by omega, by omega, by omega, ?_, ?_, ?_⟩
  · rw [e]; generalize k * (k + 1) = q at *; omega
  · rw [hs]; unfold adP; dsimp only; omega
  · rw [hs]; unfold adP; dsimp only; omega

/-- What 'addPiece' and 'Add' leave. -/
def Added (w : World) (g : Nat) (p : Int × Int) (e : Ending) (w' : World) : Prop := e = .returned (.tuple #[]) ∧ SumAt w' g p ∧ Ch (fun k => k = g) w w'
theorem Added.mk {w : World} {g : Nat} {a s b t : Int} {p q : Int × Int} (h : SumRow w g a s) (k : SumIs b t q) (m : Nat) (e : q = p) :
    Added w g p (.returned (.tuple #[])) (((w.drewN m).setCell ⟨g, 0, none⟩ (.int .u32 b)).setCell ⟨g, 1, none⟩ (.int .u32 t)) := by
  subst e
  have hs : SumRow (w.drewN m) g a s := h
  have hc : Ch (fun k => k = g) w (w.drewN m) := Ch.of_below (bdrawn (Below.refl _ _) m)
  exact ⟨rfl, ⟨b, t, hs.set b t, k⟩, (hc.then ((Ch.set (F := fun k => k = g) _ g 0 _ rfl).then (Ch.set (F := fun k => k = g) _ g 1 _ rfl)))⟩
theorem Pc.done {p : Int × Int} {l : List Int} {k : Nat} {x y : Int} (h : Pc p l k x y) (hk : k = l.length) : SumIs (x % 65521) (y % 65521) (adF p l) := by
  obtain ⟨h1, h2, h3, h4, h5, h6⟩ := h
  rw [hk, List.take_length] at h5 h6
  exact ⟨by omega, by omega, by omega, by omega, by omega, h6⟩
set_option maxHeartbeats 1600000 in
theorem addPiece_any (g : Nat) (A : Option Addr) (n cap : Nat) (l : List Int) (p : Int × Int) (w : World) (h : SumAt w g p) (hl : BAt8 (fun k => k ≠ g) w A n cap l) (hn : n ≤ 4096) :
    Calls Tryd.prog 20 #[.pointer (some ⟨g, 0, none⟩), .slice A n cap] w (Added w g (adF p l)) := by
  obtain ⟨a, s, hr, hi⟩ := h
  have c0 := hr.c0
  have c1 := hr.c1
  have f0 := hr.free 0
  have f1 := hr.free 1
  have HS := Lib.hid (Pc.start hi l)
  have HL := Lib.hid hl
  have HR := Lib.hid hr
  clear hr hi hl
  go_enter Tryd.func20, Tryd.ntmps20
  go_wp2_with fail
  go_quiet (fail)
  go_wp2_with fail
  go_loop [4, 5, 18] (fun x y i => ∃ (k : Nat) (u v : Int), i = .int .i64 k ∧ k ≤ n ∧ x = .int .u32 u ∧ y = .int .u32 v ∧ Hid (Pc p l k u v)) (fun _ _ i => n - (intOf i).toNat)
  case atStart => exact ⟨0, _, _, rfl, by omega, rfl, rfl, HS⟩
  case round =>
    obtain ⟨k, u, v, rfl, hk, rfl, rfl, HK⟩ := hrel
    have hx1 := HK.out.x0
    have hx2 := HK.out.x1
    have hy1 := HK.out.y0
    have hy2 : v ≤ 2500000000 := by
      have := HK.out.y1
      have := Pc.sq k (by omega)
      generalize k * (k + 1) = q at *
      omega
    by_cases hlt : k < n
    · obtain ⟨b, o, rfl, hb, hbl, hc⟩ := HL.out.lies (by omega)
      have c := hc k hlt
      have hbd := HL.out.bd k
      have HN := Lib.hid (HK.out.next (by rw [HL.out.len]; omega) HL.out.bd)
      generalize gI l k = x at *
      clear HK hc
      go_wp2_with fail
      go_round
      case rel => exact ⟨k + 1, _, _, by go_num, by omega, rfl, rfl, HN⟩
      case measure => simp [intOf]; omega
    · have HD := Lib.hid (HK.out.done (by rw [HL.out.len]; omega))
      clear HK
      go_wp2_with fail
      go_end0
      exact (Added.mk HR.out HD.out _ rfl)

end Go.Proofs.YtehnilmfeoadgaaDoor
/- adler's Add, Value and Of: their contracts. -/
namespace Go.Proofs.YtehnilmfeoadgaaDoor
open Go.RowKit

/-- All bytes of the first k parts. -/
def catN (L : List (List Int)) (k : Nat) : List Int := (L.take k).flatten
theorem catN_next (L : List (List Int)) (k : Nat) (h : k < L.length) : catN L (k + 1) = catN L k ++ L.getD k [] := by
  unfold catN
  rw [List.take_add_one, List.flatten_append, List.getD_eq_getElem?_getD, List.getElem?_eq_getElem h]
  simp
theorem catN_all (L : List (List Int)) : catN L L.length = L.flatten := by unfold catN; rw [List.take_length]
/-- A row of parts, none of them in block g. -/
structure Parts (F : Nat → Prop) (w : World) (A : Option Addr) (n cap : Nat) (L : List (List Int)) : Prop where
  len : L.length = n
  fit : n ≤ cap
  max : cap ≤ maxLen
  lies : ∀ j, j < n → ∃ b o Aj nj cj, A = some ⟨b, o, none⟩ ∧ F b ∧ b < w.heap.size ∧ w.cell? ⟨b, o + j, none⟩ = some (.slice Aj nj cj) ∧ BAt8 F w Aj nj cj (L.getD j [])
theorem Parts.keep {F : Nat → Prop} {w w' : World} {A : Option Addr} {n cap : Nat} {L : List (List Int)} (h : Parts F w A n cap L) (hs : w.heap.size ≤ w'.heap.size) (hb : ∀ k, k < w.heap.size → F k → w'.heap[k]? = w.heap[k]?) : Parts F w' A n cap L :=
  ⟨h.len, h.fit, h.max, fun j hj => by
    obtain ⟨b, o, Aj, nj, cj, h1, h2, h3, h4, h5⟩ := h.lies j hj
    exact ⟨b, o, Aj, nj, cj, h1, h2, Nat.lt_of_lt_of_le h3 hs, (World.cell?_of_block (a := ⟨b, o + j, none⟩) (hb b h3 h2)).trans h4, h5.keep hs hb⟩⟩
theorem Parts.ch {F G : Nat → Prop} {w w' : World} {A : Option Addr} {n cap : Nat} {L : List (List Int)} (h : Parts F w A n cap L) (hb : Ch G w w') (hF : ∀ k, F k → ¬ G k) : Parts F w' A n cap L := h.keep hb.size fun k hk hf => hb.block k hk (hF k hf)
theorem Parts.below {F : Nat → Prop} {w w' : World} {A : Option Addr} {n cap : Nat} {L : List (List Int)} (h : Parts F w A n cap L) (hb : Below w.heap.size w w') : Parts F w' A n cap L := h.keep hb.size fun k hk _ => hb.block k hk
theorem Parts.weak {F G : Nat → Prop} {w : World} {A : Option Addr} {n cap : Nat} {L : List (List Int)} (h : Parts F w A n cap L) (hF : ∀ k, k < w.heap.size → F k → G k) : Parts G w A n cap L :=
  ⟨h.len, h.fit, h.max, fun j hj => by
    obtain ⟨b, o, Aj, nj, cj, h1, h2, h3, h4, h5⟩ := h.lies j hj
    exact ⟨b, o, Aj, nj, cj, h1, hF b h3 h2, h3, h4, h5.weak hF⟩⟩
/-- Parts of a row that was just made: one. -/
theorem Parts.one {F : Nat → Prop} {w : World} {A : Option Addr} {n cap : Nat} {l : List Int} (h : BAt8 F w A n cap l) (ty : TypeId) (hF : F w.heap.size) : Parts F (w.alloc (.cells #[.slice A n cap] ty)) (some ⟨w.heap.size, 0, none⟩) 1 1 [l] :=
  ⟨rfl, Nat.le_refl _, by unfold maxLen; omega, fun j hj => by
    obtain rfl : j = 0 := by omega
    exact ⟨_, _, A, n, cap, rfl, hF, by simp, by simp, h.below (bnew w _)⟩⟩
theorem Parts.empty (F : Nat → Prop) (w : World) : Parts F w none 0 0 [] := ⟨rfl, Nat.le_refl _, Nat.zero_le _, fun j hj => absurd hj (by omega)⟩
def lenV : Value → Nat
  | .slice _ n _ => n
  | _ => 0
/-- How the sum stands within a part. -/
structure InPart (F : Nat → Prop) (w wr : World) (g : Nat) (T : Int × Int) (A : Option Addr) (n cap : Nat) (r : List Int) (q : Int × Int) : Prop where
  b : BAt8 F wr A n cap r
  s : SumAt wr g q
  t : adF q r = T
  c : Ch (fun k => k = g) w wr
theorem ne_g {g : Nat} : ∀ k, k ≠ g → ¬ k = g := fun _ h => h
set_option maxHeartbeats 1600000 in
theorem addS_any (g : Nat) (A : Option Addr) (n cap : Nat) (L : List (List Int)) (p : Int × Int) (w : World) (h : SumAt w g p) (hl : Parts (fun k => k ≠ g) w A n cap L) :
    Calls Tryd.prog 15 #[.pointer (some ⟨g, 0, none⟩), .slice A n cap] w (Added w g (adF p L.flatten)) := by
  have HT := Lib.hid (catN_all L)
  have HL := Lib.hid hl
  have H0 := Lib.hid h
  have hm := hl.max
  have hf := hl.fit
  clear h hl
  unfold maxLen at hm
  go_enter Tryd.func15, Tryd.ntmps15
  go_wp2_with fail
  go_loopw [10] (fun i wr => ∃ k : Nat, i = .int .i64 k ∧ k ≤ n ∧ Hid (SumAt wr g (adF p (catN L k))) ∧ Hid (Ch (fun k => k = g) w wr)) (fun i _ => n - (intOf i).toNat)
  case atStart => exact ⟨0, rfl, by omega, H0, Lib.hid (Ch.refl _ _)⟩
  case round =>
    obtain ⟨k, rfl, hk, HS, HC⟩ := hrel
    by_cases hlt : k < n
    · obtain ⟨b, o, Aj, nj, cj, rfl, hb, hbl, hc, hB⟩ := (HL.out.ch HC.out ne_g).lies k hlt
      have HN := Lib.hid (catN_next L k (by rw [HL.out.len]; exact hlt))
      have HB := Lib.hid hB
      clear hB
      obtain ⟨wo, rfl⟩ : ∃ wo : World, wo = wr := ⟨_, rfl⟩
      obtain ⟨T, hT⟩ : ∃ T, adF p (catN L (k + 1)) = T := ⟨_, rfl⟩
      have HT2 := Lib.hid hT
      have HT3 := Lib.hid (show adF (adF p (catN L k)) (L.getD k []) = T by rw [← hT, HN.out, adF_app])
      clear hT
      go_wp2_with fail
      go_loopw [5] (fun x wr => ∃ A' n' c' r q, x = .slice A' n' c' ∧ Hid (InPart (fun k => k ≠ g) w wr g T A' n' c' r q)) (fun x _ => lenV x)
      case atStart => exact ⟨_, _, _, _, _, rfl, Lib.hid ⟨HB.out, HS.out, HT3.out, HC.out⟩⟩
      case round =>
        obtain ⟨A', n', c', r, q, rfl, HI⟩ := hrel
        by_cases hbig : 4096 < n'
        · obtain ⟨M, hM⟩ : ∃ M : Nat, (4096 : Int) = M := ⟨4096, rfl⟩
          obtain ⟨A1, c1, k1, B1⟩ := cut_h HI.out.b 4096 M hM (by omega)
          obtain ⟨A2, c2, k2, B2⟩ := cut_l HI.out.b 4096 M hM (by omega)
          have HP := Lib.hid (addPiece_any g A1 M c1 (r.take M) q wr HI.out.s B1 (by omega))
          have HM := Lib.hid hM
          clear hM
          have H2 := Lib.hid B2
          clear B1 B2
          go_wp2_with fail
          refine HP.out.mono ?_
          rintro e w1 ⟨rfl, hs1, hc1⟩
          have HI2 : Hid (InPart (fun k => k ≠ g) w w1 g T A2 (n' - M) c2 (r.drop M) (adF q (r.take M))) := Lib.hid ⟨H2.out.ch hc1 ne_g, hs1, by rw [← adF_app, List.take_append_drop]; exact HI.out.t, HI.out.c.then hc1⟩
          clear hs1 hc1
          go_wp2_with fail
          go_roundw
          case rel => exact ⟨_, _, _, _, _, rfl, HI2⟩
          case measure => have := HM.out; simp [lenV]; omega
        · have HP := Lib.hid (addPiece_any g A' n' c' r q wr HI.out.s HI.out.b (by omega))
          go_wp2_with fail
          refine HP.out.mono ?_
          rintro e w1 ⟨rfl, hs1, hc1⟩
          have HR1 : Hid (SumAt w1 g (adF p (catN L (k + 1)))) := by rw [HT2.out, ← HI.out.t]; exact hs1
          have HR2 := Lib.hid (HI.out.c.then hc1)
          clear hs1 hc1
          go_wp2_with fail
          go_roundw
          case rel => exact ⟨k + 1, by go_num, by omega, HR1, HR2⟩
          case measure => simp [intOf]; omega
    · have hkn : k = n := by omega
      have HE : Hid (SumAt wr g (adF p L.flatten)) := by
        have := HS.out
        rw [hkn, ← HL.out.len, HT.out] at this
        exact this
      clear hkn
      go_wp2_with fail
      go_end0
      exact ⟨rfl, HE.out, HC.out⟩
theorem wrap32u (n : Int) : IntKind.u32.wrap n = n % 4294967296 := by simp [IntKind.wrap, IntKind.bits, IntKind.signed]
theorem ret_u32 {a b : Int} (h : a = b) : Ending.returned (.int .u32 a) = .returned (.int .u32 b) := by rw [h]
theorem value_some (g : Nat) (p : Int × Int) (w : World) (h : SumAt w g p) :
    Calls Tryd.prog 16 #[.pointer (some ⟨g, 0, none⟩)] w fun e w' => e = .returned (.int .u32 (adV p)) ∧ ∃ n, w' = w.drewN n := by
  obtain ⟨a, s, hr, hi⟩ := h
  have c0 := hr.c0
  have c1 := hr.c1
  obtain ⟨h1, h2, h3, h4, h5, h6⟩ := hi
  have HV := Lib.hid (show bits .or .u32 (s * 65536) ((a + 1) % 65521) = adV p by
    rw [bits_join .u32 32 (by decide) (fun n h0 h1 => by rw [wrap32u]; omega) 16 (s * 65536) _ (by omega) (by omega) (by omega) (by omega) (by omega) (by omega), h5, h6]
    unfold adV
    omega)
  clear hr h5 h6
  go_enter Tryd.func16, Tryd.ntmps16
  go_wp2_with fail
  go_quiet (fail)
  go_wp2_with fail
  go_ret
  exact ⟨ret_u32 HV.out, _, rfl⟩
theorem addOf_any (A : Option Addr) (n cap : Nat) (L : List (List Int)) (w : World) (hl : Parts (fun _ => True) w A n cap L) :
    Calls Tryd.prog 10 #[.slice A n cap] w fun e w' => e = .returned (.int .u32 (adV (adF (1, 0) L.flatten))) ∧ Below w.heap.size w w' := by
  have hP : Parts (fun k => k ≠ w.heap.size) (w.alloc (.cells #[.int .u32 0, .int .u32 0] 39)) A n cap L := (hl.weak (G := fun k => k ≠ w.heap.size) fun k hk _ => by omega).below (bnew w _)
  have H1 := Lib.hid (addS_any w.heap.size A n cap L (1, 0) (w.alloc (.cells #[.int .u32 0, .int .u32 0] 39)) (SumAt.new w) hP)
  clear hl hP
  go_enter Tryd.func10, Tryd.ntmps10
  go_wp2_with fail
  refine H1.out.mono ?_
  rintro e w1 ⟨rfl, hs, hc⟩
  have hb1 : Below w.heap.size w w1 := (bnew w _).trans (hc.below (fun k hk => by omega) (by simp))
  have H2 := Lib.hid (value_some w.heap.size (adF (1, 0) L.flatten) w1 hs)
  have HV := Lib.hid (rfl : adV (adF (1, 0) L.flatten) = adV (adF (1, 0) L.flatten))
  clear hs hc H1
  go_wp2_with fail
  refine H2.out.mono ?_
  rintro e w2 ⟨rfl, m, rfl⟩
  go_wp2_with fail
  go_ret
  exact ⟨rfl, bdrawn hb1 m⟩
/-- One part. -/
theorem of1_any (F : Nat → Prop) (A : Option Addr) (n cap : Nat) (l : List Int) (V : Int) (w : World) (g : Nat) (hg : g = w.heap.size) (hl : BAt8 F w A n cap l) (hV : adV (adF (1, 0) l) = V) :
    Calls Tryd.prog 10 #[.slice (some ⟨g, 0, none⟩) 1 1] (w.alloc (.cells #[.slice A n cap] 22)) fun e w' => e = .returned (.int .u32 V) ∧ Below w.heap.size w w' := by
  subst hg
  refine (addOf_any _ _ _ [l] _ (Parts.one (hl.weak fun _ _ _ => trivial) _ trivial)).mono ?_
  rintro e w' ⟨rfl, hb⟩
  exact ⟨by rw [← hV]; simp, (bnew w _).trans (hb.mono (by simp))⟩
end Go.Proofs.YtehnilmfeoadgaaDoor
/- zlib's readSum, rightHead and appendSum: their contracts. -/
namespace Go.Proofs.YtehnilmfeoadgaaDoor
open Go.RowKit
set_option linter.unusedVariables false
set_option linter.unusedSimpArgs false

theorem or_byte (s x : Int) (h0 : 0 ≤ s) (h1 : s < 16777216) (x0 : 0 ≤ x) (x1 : x ≤ 255) : bits .or .u32 (s * 256) x = s * 256 + x :=
  bits_join .u32 32 (by decide) (fun n h0 h1 => by rw [wrap32u]; omega) 8 (s * 256) x (by omega) (by omega) (by omega) (by omega) (by omega) (by omega)
set_option maxHeartbeats 1600000 in
theorem readSum_any (F : Nat → Prop) (A : Option Addr) (n cap : Nat) (l : List Int) (V : Int) (w : World) (hl : BAt8 F w A n cap l) (hn : 4 ≤ n) (hV : pS l 4 = V) :
    Calls Tryd.prog 13 #[.slice A n cap] w fun e w' => e = .returned (.int .u32 V) ∧ w = w' := by
  obtain ⟨b, o, rfl, hb, hbl, hc⟩ := hl.lies (by omega)
  have HC := Lib.hid hc
  have HD := Lib.hid hl.bd
  have HV := Lib.hid hV
  have hm := hl.max
  have hf := hl.fit
  unfold maxLen at hm
  clear hl hc hV
  go_enter Tryd.func13, Tryd.ntmps13
  go_wp2_with fail
  go_loop [3, 5] (fun s i => ∃ (k : Nat) (u : Int), i = .int .i64 k ∧ k ≤ 4 ∧ s = .int .u32 u ∧ Hid (u = pS l k)) (fun _ i => 4 - (intOf i).toNat)
  case atStart => exact ⟨0, 0, rfl, by omega, rfl, Lib.hid rfl⟩
  case round =>
    obtain ⟨k, u, rfl, hk, rfl, HU⟩ := hrel
    by_cases hlt : k < 4
    · have c := HC.out k (by omega)
      have hbd := HD.out k
      have hu := pS_bd HD.out k
      have hp : (256 : Int) ^ k ≤ 16777216 := by
        have e : k = 0 ∨ k = 1 ∨ k = 2 ∨ k = 3 := by omega
        rcases e with rfl | rfl | rfl | rfl <;> decide
      rw [← HU.out] at hu
      obtain ⟨hu0, hu1⟩ := hu
      have hu2 : u < 16777216 := by omega
      have hw : IntKind.u32.wrap (u * 256) = u * 256 := by rw [wrap32u]; omega
      have HN : Hid (u * 256 + gI l k = pS l (k + 1)) := Lib.hid (by rw [HU.out]; rfl)
      generalize gI l k = x at *
      have ho := or_byte u x hu0 hu2 hbd.1 hbd.2
      have hw2 : u * 256 % 4294967296 = u * 256 := by omega
      clear HU hp hu1
      go_wp2_with fail
      go_round
      case rel => exact ⟨k + 1, _, by go_num, by omega, rfl, HN⟩
      case measure => simp [intOf]; omega
    · have HE : Hid (u = V) := Lib.hid (by
        rw [HU.out, show k = 4 by omega]
        exact HV.out)
      clear HU
      go_wp2_with fail
      go_ret
      exact ⟨ret_u32 HE.out, rfl⟩
theorem bit5 (c : Int) (c0 : 0 ≤ c) (c1 : c ≤ 255) : (bits .and .u8 c 32 == 0) = (c / 32 % 2 == 0) := by
  have h : ∀ n : Fin 256, (bits .and .u8 ((n.val : Nat) : Int) 32 == 0) = (((n.val : Nat) : Int) / 32 % 2 == 0) := by decide +kernel
  obtain ⟨n, rfl⟩ := Int.eq_ofNat_of_zero_le c0
  exact h ⟨n, by omega⟩
theorem two_bytes (a c : Int) (a0 : 0 ≤ a) (a1 : a ≤ 255) (c0 : 0 ≤ c) (c1 : c ≤ 255) : bits .or .i64 (a * 256) c = a * 256 + c :=
  bits_join .i64 63 (by decide) (fun n h0 h1 => by rw [IntKind.wrap_i64]; omega) 8 (a * 256) c (by omega) (by omega) (by omega) (by omega) (by omega) (by omega)
set_option maxHeartbeats 1600000 in
theorem rightHead_any (a c : Int) (a0 : 0 ≤ a) (a1 : a ≤ 255) (c0 : 0 ≤ c) (c1 : c ≤ 255) (R : Bool) (hR : headOk a c = R) (w : World) :
    Calls Tryd.prog 11 #[.int .u8 a, .int .u8 c] w fun e w' => e = .returned (.bool R) ∧ w = w' := by
  obtain ⟨q1, h1⟩ : ∃ q, (a % 16 == 8) = q := ⟨_, rfl⟩
  obtain ⟨q2, h2⟩ : ∃ q, decide (a / 16 ≤ 7) = q := ⟨_, rfl⟩
  obtain ⟨q3, h3⟩ : ∃ q, ((a * 256 + c) % 31 == 0) = q := ⟨_, rfl⟩
  obtain ⟨q4, h4⟩ : ∃ q, (c / 32 % 2 == 0) = q := ⟨_, rfl⟩
  unfold headOk at hR
  rw [h1, h2, h3, h4] at hR
  have h5 : (bits .and .u8 c 32 == 0) = q4 := by rw [bit5 c c0 c1]; exact h4
  have h6 := two_bytes a c a0 a1 c0 c1
  have h7 : (a * 256 + c).tmod 31 = (a * 256 + c) % 31 := by
    rw [Int.tmod_eq_emod_of_nonneg (by omega)]
  subst hR
  clear h4
  cases q1 <;> cases q2 <;> cases q3 <;> cases q4
  all_goals
    go_enter Tryd.func11, Tryd.ntmps11
    go_wp2_with fail
    go_ret
    exact ⟨rfl, rfl⟩
set_option maxHeartbeats 1600000 in
theorem appendSum_own (base : Nat) (v : Value) (n : Nat) (xs : List Int) (V : Int) (w : World) (hn : n = xs.length) (hown : w.ownsRow base 5 1 v n (xs.map u8I)) (hx : n ≤ 1000000) (hbase : base ≤ w.heap.size) (h0 : 0 ≤ V) (h1 : V < 4294967296) :
    Calls Tryd.prog 9 #[v, .int .u32 V] w (Owned base w (xs ++ sumL V)) := by
  obtain ⟨A1, cap1, rfl, hcap, hmax⟩ := own_slice hown
  have HB := Lib.hid hbase
  have HO := Lib.hid hown
  have HN := Lib.hid hn
  clear hown hbase hn
  go_enter Tryd.func9, Tryd.ntmps9
  go_wp2_with fail
  refine wp_loop_rounds 5 ?_
  rw [rounds_succ]
  go_wp2_with (at_builtin; refine wpList_append_one base 5 22 infoB8 Tryd.underlying22 rfl rfl _ _ rfl _ _ _ rfl HO.out (.int .u8 (V / 16777216)) rfl rfl (by decide) (by omega) HB.out ?_; intro v1 w1 ho1 hb1; obtain ⟨A2, cap2, rfl, hn2, hm2⟩ := own_slice ho1; have HO1 := Lib.hid ho1; have HB1 := Lib.hid hb1; clear ho1 hb1 HO)
  rw [rounds_succ]
  go_wp2_with (at_builtin; refine wpList_append_one base 5 22 infoB8 Tryd.underlying22 rfl rfl _ _ rfl _ _ _ rfl HO1.out (.int .u8 (V / 65536 % 256)) rfl rfl (by decide) (by omega) (Nat.le_trans HB.out HB1.out.size) ?_; intro v1 w2 ho1 hb1; obtain ⟨A3, cap3, rfl, hn3, hm3⟩ := own_slice ho1; have HO2 := Lib.hid ho1; have HB2 := Lib.hid (HB1.out.trans hb1); clear ho1 hb1 HO1 HB1)
  rw [rounds_succ]
  go_wp2_with (at_builtin; refine wpList_append_one base 5 22 infoB8 Tryd.underlying22 rfl rfl _ _ rfl _ _ _ rfl HO2.out (.int .u8 (V / 256 % 256)) rfl rfl (by decide) (by omega) (Nat.le_trans HB.out HB2.out.size) ?_; intro v1 w3 ho1 hb1; obtain ⟨A4, cap4, rfl, hn4, hm4⟩ := own_slice ho1; have HO3 := Lib.hid ho1; have HB3 := Lib.hid (HB2.out.trans hb1); clear ho1 hb1 HO2 HB2)
  rw [rounds_succ]
  go_wp2_with (at_builtin; refine wpList_append_one base 5 22 infoB8 Tryd.underlying22 rfl rfl _ _ rfl _ _ _ rfl HO3.out (.int .u8 (V % 256)) rfl rfl (by decide) (by omega) (Nat.le_trans HB.out HB3.out.size) ?_; intro v1 w4 ho1 hb1; obtain ⟨A5, cap5, rfl, hn5, hm5⟩ := own_slice ho1; have HO4 := Lib.hid ho1; have HB4 := Lib.hid (HB3.out.trans hb1); clear ho1 hb1 HO3 HB3)
  rw [rounds_succ]
  go_wp2_with fail
  go_ret
  refine ⟨_, rfl, ?_, HB4.out⟩
  have h := HO4.out
  rw [show (xs ++ sumL V).length = n + 1 + 1 + 1 + 1 by rw [List.length_append, HN.out]; rfl]
  rw [List.map_append]
  have e : V / 16777216 % 256 = V / 16777216 := by omega
  simpa [sumL, u8I, e] using h

end Go.Proofs.YtehnilmfeoadgaaDoor
/- zlib's Pack: its contract. -/
namespace Go.Proofs.YtehnilmfeoadgaaDoor
open Go.RowKit
set_option linter.unusedVariables false
set_option linter.unusedSimpArgs false

theorem own_less {w w' : World} {base n : Nat} {e : TypeId} {size : Nat} {v : Value} {xs : List Value} (h : w.ownsRow base e size v n xs) (hb : Below w.heap.size w w') : w'.ownsRow base e size v n xs := own_kept' h fun k hk _ => hb.block k hk
set_option maxHeartbeats 3200000 in
theorem pack_any (F : Nat → Prop) (A : Option Addr) (n cap : Nat) (b : List Int) (w : World) (hl : BAt8 F w A n cap b) (hF : ∀ k, F k → k < w.heap.size) (hn : n ≤ 65535) :
    Calls Tryd.prog 6 #[.slice A n cap] w (Owned w.heap.size w (zipL b)) := by
  have hm := hl.max
  have hf := hl.fit
  unfold maxLen at hm
  have hlen := hl.len
  have hb0 : Below w.heap.size w (w.alloc (.cells #[.int .u8 120, .int .u8 1] 5)) := bnew w _
  have ho0 : (w.alloc (.cells #[.int .u8 120, .int .u8 1] 5)).ownsRow w.heap.size 5 1 (.slice (some ⟨w.heap.size, 0, none⟩) 2 2) 2 (([120, 1] : List Int).map u8I) :=
    World.ownsRow_lit w #[.int .u8 120, .int .u8 1] 2 (Nat.le_refl _) (by unfold maxLen; omega) rfl
  have H1 := Lib.hid (store_any F A n cap b (w.alloc (.cells #[.int .u8 120, .int .u8 1] 5)) (hl.below hb0) (fun k hk => by have := hF k hk; simp; omega) (by omega))
  have HO0 := Lib.hid (fun (w1 : World) (hb : Below (w.alloc (.cells #[.int .u8 120, .int .u8 1] 5)).heap.size (w.alloc (.cells #[.int .u8 120, .int .u8 1] 5)) w1) => show w1.ownsRow w.heap.size 5 1 (.slice (some ⟨w.heap.size, 0, none⟩) 2 2) 2 (([120, 1] : List Int).map u8I) ∧ Below w.heap.size w w1 from
    ⟨own_less ho0 hb, hb0.trans (hb.mono hb0.size)⟩)
  have HB := Lib.hid (fun (u : World) (hu : Below w.heap.size w u) => hl.below hu)
  have h8 := hl.bd
  obtain ⟨S, hS⟩ : ∃ S, stoR b = S := ⟨_, rfl⟩
  have h8S : Byte8 S := by rw [← hS]; exact stoR_byte b h8
  have hSl : S.length = n + 5 * ((n - 1) / 65535 + 1) := by rw [← hS, stoR_len, hlen]
  rw [hS] at H1
  obtain ⟨ns, hns⟩ : ∃ ns, S.length = ns := ⟨_, rfl⟩
  have hnsu : ns ≤ 100000 := by omega
  obtain ⟨V, hV⟩ : ∃ V, sumOf b = V := ⟨_, rfl⟩
  have hVb := sumOf_bd b
  rw [hV] at hVb
  obtain ⟨hV0, hV1⟩ := hVb
  have HV := Lib.hid hV
  have HZ : Hid (zipL b = ([120, 1] ++ S) ++ sumL V) := Lib.hid (by unfold zipL; rw [hS, hV, List.append_assoc])
  have H8S := Lib.hid h8S
  have HNS := Lib.hid hns
  clear hl hb0 ho0 h8 h8S hSl hV hS hF hlen
  go_enter Tryd.func6, Tryd.ntmps6
  go_wp2_with fail
  refine H1.out.mono ?_
  rintro e w1 ⟨v1, rfl, ho1, hb1⟩
  rw [HNS.out] at ho1
  obtain ⟨A1, c1, rfl, hn1, hm1⟩ := own_slice ho1
  unfold maxLen at hm1
  obtain ⟨hq1, hq2⟩ := HO0.out w1 hb1
  have HBS := Lib.hid (bytes_own ho1 H8S.out)
  have HO1 := Lib.hid hq1
  have HB1 := Lib.hid hq2
  clear ho1 hb1 H1 HO0 hq1 hq2 hns
  go_wp2_with (first
    | (at_builtin
       refine wpList_append_u8 (P := Tryd.prog) w.heap.size 5 22 infoB8 Tryd.underlying22 rfl (.tmp 4) (.tmp 6) rfl _ 2 [120, 1] rfl HO1.out rfl HBS.out (by omega) HB1.out.size ?_
       intro v2 w2 hown2 hb2
       have HB2 := Lib.hid (HB1.out.trans hb2)
       have HO2 := Lib.hid hown2
       obtain ⟨A2, cap2, rfl, hn2, hm2⟩ := own_slice hown2
       have HOf := Lib.hid (of1_any _ A n cap b V w2 w2.heap.size rfl (HB.out w2 HB2.out) HV.out)
       clear hown2 hb2 HBS HO1 HB1))
  refine HOf.out.mono ?_
  rintro e w3 ⟨rfl, hb3⟩
  have HO3 := Lib.hid (own_less HO2.out hb3)
  have HB3 := Lib.hid (HB2.out.trans (hb3.mono HB2.out.size))
  have HS := Lib.hid (appendSum_own w.heap.size _ (2 + ns) ([120, 1] ++ S) V w3 (by rw [List.length_append, HNS.out]; rfl) HO3.out (by omega) HB3.out.size hV0 hV1)
  clear hb3 HOf HO2 HB2
  go_wp2_with fail
  refine HS.out.mono ?_
  rintro e w4 ⟨v4, rfl, ho4, hb4⟩
  have HR : Hid (Owned w.heap.size w (zipL b) (.returned v4) w4) := Lib.hid ⟨v4, rfl, by rw [HZ.out]; exact ho4, HB3.out.trans hb4⟩
  clear ho4 hb4 HS HO3
  go_wp2_with fail
  go_ret
  exact HR.out


end Go.Proofs.YtehnilmfeoadgaaDoor
/- zlib's Unpack: its contract. -/
namespace Go.Proofs.YtehnilmfeoadgaaDoor
open Go.RowKit
set_option linter.unusedVariables false
set_option linter.unusedSimpArgs false

/-- What Unpack answers. -/
def Unpacked (w : World) (l : List Int) (lim : Nat) (e : Ending) (w' : World) : Prop := Below w.heap.size w w' ∧
  ((∃ o k A n cap, unpM l lim = .ok (o, k) ∧ e = .returned (.tuple #[.slice A n cap, .int .i64 (k : Nat), .int .i64 0]) ∧ BAt8 (fun k => w.heap.size ≤ k) w' A n cap o) ∨
   (∃ x, unpM l lim = .error x ∧ (x = 2 ∨ x = 4 ∨ x = 7 ∨ x = 8) ∧ e = .returned (.tuple #[.slice none 0 0, .int .i64 0, .int .i64 (x : Nat)])))
set_option maxHeartbeats 3200000 in
theorem unpack_any (F : Nat → Prop) (A : Option Addr) (n cap : Nat) (l : List Int) (lim : Nat) (w : World) (hl : BAt8 F w A n cap l) (hn : n ≤ 1000000) (hlim : lim ≤ 1048576) (hO : OrdAt w.heap.size w) :
    Calls Tryd.prog 7 #[.slice A n cap, .int .i64 (lim : Nat)] w (Unpacked w l lim) := by
  have hm := hl.max
  have hf := hl.fit
  unfold maxLen at hm
  have hlen := hl.len
  have d1 : decide ((lim : Int) < 0) = false := decide_eq_false (by omega)
  have d2 : decide (1048576 < (lim : Int)) = false := decide_eq_false (by omega)
  have HLM := Lib.hid hlim
  have HLN := Lib.hid hlen
  by_cases hn2 : n < 2
  · have d3 : decide ((n : Int) < 2) = true := decide_eq_true (by omega)
    have HE : Hid (Unpacked w l lim (.returned (.tuple #[.slice none 0 0, .int .i64 0, .int .i64 2])) w) := Lib.hid ⟨Below.refl _ _, Or.inr ⟨2, by unfold unpM; rw [if_pos (by omega)], Or.inl rfl, rfl⟩⟩
    clear hl hO hlen hlim
    go_enter Tryd.func7, Tryd.ntmps7
    go_wp2_with fail
    go_ret3
    exact HE.out
  have d3 : decide ((n : Int) < 2) = false := decide_eq_false (by omega)
  obtain ⟨b, o, rfl, hb, hbl, hc⟩ := hl.lies (by omega)
  have c0 := hc 0 (by omega)
  have c1 := hc 1 (by omega)
  rw [Nat.add_zero] at c0
  have g0 := hl.bd 0
  have g1 := hl.bd 1
  obtain ⟨R, hR⟩ : ∃ R, headOk (gI l 0) (gI l 1) = R := ⟨_, rfl⟩
  have HH := Lib.hid (fun k => Calls.quiet_of_same (w := w) (n := k) ((rightHead_any (gI l 0) (gI l 1) g0.1 g0.2 g1.1 g1.2 R hR (w.drewN k)).mono fun _ _ ⟨a, b⟩ => ⟨a, b.symm⟩))
  have HB := Lib.hid hl
  have HO := Lib.hid hO
  have HR := Lib.hid hR
  obtain ⟨x0, hx0⟩ : ∃ x, gI l 0 = x := ⟨_, rfl⟩
  obtain ⟨x1, hx1⟩ : ∃ x, gI l 1 = x := ⟨_, rfl⟩
  rw [hx0] at c0 HH
  rw [hx1] at c1 HH
  clear hl hO hc g0 g1 hlen hR hlim hx0 hx1
  cases R with
  | false =>
    have HE : Hid (∀ k, Unpacked w l lim (.returned (.tuple #[.slice none 0 0, .int .i64 0, .int .i64 4])) (w.drewN k)) := Lib.hid (fun k => ⟨bdrawn (Below.refl _ _) k, Or.inr ⟨4, by unfold unpM; rw [if_neg (by have := HLN.out; omega), if_pos HR.out], Or.inr (Or.inl rfl), rfl⟩⟩)
    go_enter Tryd.func7, Tryd.ntmps7
    go_wp2_with fail
    go_quiet ((go_at_call 11; exact HH.out _))
    go_wp2_with fail
    go_ret3
    exact HE.out _
  | true =>
    obtain ⟨M, hM⟩ : ∃ M : Nat, M = 2 := ⟨_, rfl⟩
    have hMi : (2 : Int) = (M : Int) := by omega
    have HU : Hid (unpM l lim = bnd (inflM (l.drop M) lim) fun o p =>
        if l.length < 2 + (p + 7) / 8 + 4 then .error 2 else if pS (l.drop (2 + (p + 7) / 8)) 4 = sumOf o then .ok (o, 2 + (p + 7) / 8 + 4) else .error 7) := Lib.hid (by
      unfold unpM; rw [if_neg (by have := HLN.out; omega), HR.out, if_neg (by decide), hM])
    obtain ⟨A1, c1', k1, B1⟩ := cut_l HB.out 2 M hMi (by omega)
    have H1 := Lib.hid (fun k => inflate_any F A1 (n - M) c1' (l.drop M) lim (w.drewN k) (B1.below (bdrawn (Below.refl _ _) k)) (by omega) HLM.out (HO.out.later (B := 0) (bdrawn (Below.refl _ _) k)))
    have HM := Lib.hid hM
    have HBw := Lib.hid (fun (k : Nat) (u : World) (hu : Below (w.drewN k).heap.size (w.drewN k) u) => (bdrawn (Below.refl w.heap.size w) k).trans hu)
    clear B1 hM hMi
    go_enter Tryd.func7, Tryd.ntmps7
    go_wp2_with fail
    go_quiet ((go_at_call 11; exact HH.out _))
    go_wp2_with fail
    refine (H1.out _).mono ?_
    rintro e w1 ⟨hb1, hG⟩
    have hb2 := HBw.out _ _ hb1
    rcases hG with ⟨o1, p, A2, n2, cap2, hR1, rfl, h3, _, hp⟩ | ⟨x, hR1, hx, rfl⟩
    · have hU := HU.out
      rw [hR1, bnd_ok] at hU
      obtain ⟨Y, hY⟩ : ∃ Y, (p + 7) / 8 = Y := ⟨_, rfl⟩
      rw [hY] at hU
      have hYn : 2 + Y ≤ n := by
        rw [List.length_drop, HLN.out, HM.out] at hp
        omega
      rw [hY]
      obtain ⟨Q, hQ⟩ : ∃ Q, 2 + Y = Q := ⟨_, rfl⟩
      rw [hQ] at hU hYn
      have hQi : 2 + (Y : Int) = (Q : Int) := by omega
      obtain ⟨A3, c3, k3, B3⟩ := cut_l (HB.out.below hb2) (Q : Int) Q rfl hYn
      have HB3 := Lib.hid B3
      have H3 := Lib.hid h3
      have HBB := Lib.hid hb2
      have HUU := Lib.hid hU
      clear hb1 hb2 hU hR1 h3 hp B3 H1 HU hY
      by_cases h4 : n - Q < 4
      · have d4 : decide (((n - Q : Nat) : Int) < 4) = true := decide_eq_true (by omega)
        have d5 : decide ((n : Int) - (Q : Int) < 4) = true := decide_eq_true (by omega)
        have HE : Hid (Unpacked w l lim (.returned (.tuple #[.slice none 0 0, .int .i64 0, .int .i64 2])) w1) := Lib.hid ⟨HBB.out, Or.inr ⟨2, by rw [HUU.out, if_pos (by have := HLN.out; omega)], Or.inl rfl, rfl⟩⟩
        go_wp2_with fail
        go_ret3
        exact HE.out
      have d4 : decide (((n - Q : Nat) : Int) < 4) = false := decide_eq_false (by omega)
      have d5 : decide ((n : Int) - (Q : Int) < 4) = false := decide_eq_false (by omega)
      obtain ⟨S, hS⟩ : ∃ S, pS (l.drop Q) 4 = S := ⟨_, rfl⟩
      obtain ⟨V, hV⟩ : ∃ V, sumOf o1 = V := ⟨_, rfl⟩
      have HS := Lib.hid (readSum_any F A3 (n - Q) c3 (l.drop Q) S w1 HB3.out (by omega) hS)
      have HV := Lib.hid (of1_any _ A2 n2 cap2 o1 V w1 w1.heap.size rfl H3.out hV)
      have HSV := Lib.hid (And.intro hS hV)
      clear hS hV
      have h3f := H3.out.fit
      have h3m := H3.out.max
      unfold maxLen at h3m
      go_wp2_with fail
      refine HS.out.mono ?_
      rintro e w' ⟨rfl, rfl⟩
      go_wp2_with fail
      refine HV.out.mono ?_
      rintro e w2 ⟨rfl, hb2⟩
      by_cases hSV : S = V
      · have d6 : (S == V) = true := beq_iff_eq.2 hSV
        have HE : Hid (Unpacked w l lim (.returned (.tuple #[.slice A2 n2 cap2, .int .i64 ((Q + 4 : Nat) : Int), .int .i64 0])) w2) := Lib.hid ⟨HBB.out.trans (hb2.mono HBB.out.size), Or.inl ⟨o1, Q + 4, A2, n2, cap2, by
          rw [HUU.out, if_neg (by have := HLN.out; omega), HSV.out.1, HSV.out.2, if_pos hSV], rfl, (H3.out.below hb2).weak fun k _ hk => hk⟩⟩
        have hQ4 : ((Q + 4 : Nat) : Int) = (Q : Int) + 4 := by omega
        rw [hQ4] at HE
        clear hSV hb2 hQ4
        go_wp2_with fail
        go_ret3
        exact HE.out
      · have d6 : (S == V) = false := beq_eq_false_iff_ne.2 hSV
        have HE : Hid (Unpacked w l lim (.returned (.tuple #[.slice none 0 0, .int .i64 0, .int .i64 7])) w2) := Lib.hid ⟨HBB.out.trans (hb2.mono HBB.out.size), Or.inr ⟨7, by
          rw [HUU.out, if_neg (by have := HLN.out; omega), HSV.out.1, HSV.out.2, if_neg hSV], Or.inr (Or.inr (Or.inl rfl)), rfl⟩⟩
        clear hSV hb2
        go_wp2_with fail
        go_ret3
        exact HE.out
    · have hn0 := nz hx
      have HE : Hid (Unpacked w l lim (.returned (.tuple #[.slice none 0 0, .int .i64 0, .int .i64 (x : Nat)])) w1) := Lib.hid ⟨hb2, Or.inr ⟨x, by rw [HU.out, hR1, bnd_er], by omega, rfl⟩⟩
      clear hx hb1 hb2 hR1 H1
      go_wp2_with fail
      go_ret3
      exact HE.out

end Go.Proofs.YtehnilmfeoadgaaDoor
/- The chapter's example; ZlibHeads, walked. -/
namespace Go.Proofs.YtehnilmfeoadgaaDoor
open Go.RowKit
set_option linter.unusedVariables false
set_option linter.unusedSimpArgs false

theorem zip_none : zipL [] = [120, 1, 1, 0, 0, 255, 255, 0, 0, 0, 1] := by
  unfold zipL
  rw [stoR_end (by simp)]
  decide +kernel
theorem ex_zip : strOfNums [120, 1, 1, 0, 0, 255, 255, 0, 0, 0, 1] = ⟨#[120, 1, 1, 0, 0, 255, 255, 0, 0, 0, 1]⟩ := by decide +kernel
set_option maxRecDepth 100000 in
set_option maxHeartbeats 1600000 in
theorem lives16 (w : World) : Calls Tryd.prog 5 #[] w fun e w' => e = .returned (.bool true) ∧ Below w.heap.size w w' := by
  have H := Lib.hid (pack_any (fun _ => False) none 0 0 [] w (BAt8.empty _ _) (fun _ h => h.elim) (by omega))
  go_enter Tryd.func5, Tryd.ntmps5
  go_wp2_with fail
  refine H.out.mono ?_
  rintro e w1 ⟨v, rfl, ho, hb⟩
  rw [zip_none, show ([120, 1, 1, 0, 0, 255, 255, 0, 0, 0, 1] : List Int).length = 11 from rfl] at ho
  obtain ⟨A, c, rfl, hn, hm⟩ := own_slice ho
  have hB := bytes_own ho (byte8_of _ fun x hx => by
    simp only [List.mem_cons, List.not_mem_nil, or_false] at hx
    omega)
  have hc := conv_of hB
  rw [ex_zip] at hc
  have HE := Lib.hid hb
  clear ho hB hb H
  go_wp2_with fail
  go_ret
  exact ⟨rfl, HE.out⟩
theorem zlives {w : World} (u : World) (hu : Below w.heap.size w u) : Calls Tryd.prog 5 #[] u fun e w' => e = .returned (.bool true) ∧ Below w.heap.size w w' :=
  (lives16 u).mono fun _ _ ⟨he, hb⟩ => ⟨he, hu.trans (hb.mono hu.size)⟩
set_option maxRecDepth 100000 in
set_option maxHeartbeats 3200000 in
theorem heads_walk (a c : Int) (v : Value) (l : List Int) (ha : (Lit.int .u8 a).wf = true) (hc : (Lit.int .u8 c).wf = true) (w : World) (hO : OrdAt w.heap.size w) (hv : BytesV w v l) :
    Calls Tryd.prog 4 #[.int .u8 a, .int .u8 c, v] w fun e w' => e = .returned (.bool true) ∧ Below w.heap.size w w' := by
  obtain ⟨A, n, cap, rfl, hI⟩ := hv
  obtain ⟨a0, a1⟩ := u8_bd ha
  obtain ⟨c0, c1⟩ := u8_bd hc
  have hm := hI.max
  have hf := hI.fit
  unfold maxLen at hm
  have hlen := hI.len
  clear ha hc
  by_cases hbig : 300 < n
  · have d1 : decide ((300 : Int) < (n : Int)) = true := decide_eq_true (by omega)
    have HL1 := Lib.hid (zlives w (Below.refl _ _))
    clear hI hO
    go_enter Tryd.func4, Tryd.ntmps4
    go_wp2_with fail
    refine HL1.out.mono ?_
    rintro e w1 ⟨rfl, hb⟩
    go_wp2_with fail
    go_ret
    exact ⟨rfl, hb⟩
  have d1 : decide ((300 : Int) < (n : Int)) = false := decide_eq_false (by omega)
  have H1 := Lib.hid (pack_any (fun k => k < w.heap.size) A n cap l w (hI.weak fun k hk _ => hk) (fun k hk => hk) (by omega))
  have h8 := Lib.hid (zipL_byte l hI.bd)
  have hzl := zipL_len l (by omega)
  rw [hlen] at hzl
  have HU := Lib.hid (unp_heads a c l 300 (by omega))
  obtain ⟨Z, hZ⟩ : ∃ Z, zipL l = Z := ⟨_, rfl⟩
  rw [hZ] at H1 h8 hzl HU
  obtain ⟨R, hR⟩ : ∃ R, headOk a c = R := ⟨_, rfl⟩
  have HR := Lib.hid hR
  rw [hR] at HU
  have HO := Lib.hid hO
  have HZL := Lib.hid hzl
  obtain ⟨N, hN⟩ : ∃ N : Nat, N = n + 11 := ⟨_, rfl⟩
  rw [← hN] at hzl HZL
  have hN2 : decide ((N : Int) < 2) = false := decide_eq_false (by omega)
  have hNn : N ≤ 311 := by omega
  have hN11 : 11 ≤ N := by omega
  clear hI hO hZ hR hbig hN
  clear hzl
  go_enter Tryd.func4, Tryd.ntmps4
  go_wp2_with fail
  refine H1.out.mono ?_
  rintro e w1 ⟨v1, rfl, ho, hb⟩
  rw [HZL.out] at ho
  obtain ⟨g, cap2, rfl, hg0, hg1⟩ := ho.form (by omega)
  have f0 := ho.frozenAt 0
  have c00 : w1.cell? ⟨g, 0, none⟩ = some (.int .u8 (gI Z 0)) := by rw [ho.cellAt 0 (by omega), u8I_at Z 0 (by rw [HZL.out]; omega)]
  have ho2 := row_set ho 0 a
  have f1 := ho2.frozenAt 1
  have c01 : (w1.setCell ⟨g, 0, none⟩ (.int .u8 a)).cell? ⟨g, 1, none⟩ = some (.int .u8 (gI (Z.set 0 a) 1)) := by rw [ho2.cellAt 1 (by omega), u8I_at _ 1 (by rw [List.length_set, HZL.out]; omega)]
  have ho3 := row_set ho2 1 c
  have hb3 : Below w.heap.size w ((w1.setCell ⟨g, 0, none⟩ (.int .u8 a)).setCell ⟨g, 1, none⟩ (.int .u8 c)) := (hb.setCell hg0 _).setCell hg0 _
  have hB := bytes_own ho3 ((h8.out.set 0 a0 a1).set 1 c0 c1)
  have H2 := Lib.hid (unpack_any _ _ N cap2 _ 300 _ hB (by omega) (by omega) (HO.out.later (B := 0) hb3))
  have hcap : N ≤ cap2 := hB.fit
  have hcap2 := hB.max
  unfold maxLen at hcap2
  have HB3 := Lib.hid hb3
  clear ho ho2 ho3 hb hb3 hB H1
  obtain ⟨q1, h1⟩ : ∃ q, (a % 16 == 8) = q := ⟨_, rfl⟩
  obtain ⟨q2, h2⟩ : ∃ q, decide (a < 128) = q := ⟨_, rfl⟩
  obtain ⟨q3, h3⟩ : ∃ q, ((256 * a + c) % 31 == 0) = q := ⟨_, rfl⟩
  obtain ⟨q4, h4⟩ : ∃ q, (c / 32 % 2 == 0) = q := ⟨_, rfl⟩
  have hRq : (q1 && q2 && q3 && q4) = R := by
    rw [← HR.out]
    unfold headOk
    rw [h1, h4, show decide (a / 16 ≤ 7) = q2 by rw [← h2]; exact decide_eq_decide.2 (by omega), show ((a * 256 + c) % 31 == 0) = q3 by rw [← h3, Int.mul_comm]]
  have HX : Hid (∀ e u, Unpacked ((w1.setCell ⟨g, 0, none⟩ (.int .u8 a)).setCell ⟨g, 1, none⟩ (.int .u8 c)) ((Z.set 0 a).set 1 c) 300 e u → ∃ v k x, e = .returned (.tuple #[v, .int .i64 k, .int .i64 x]) ∧ Below w.heap.size w u ∧ x = if R then 0 else 4) := Lib.hid (fun e u h => by
    obtain ⟨hb, hG⟩ := h
    have hbu := HB3.out.trans (hb.mono HB3.out.size)
    rcases hG with ⟨o, k, A, n, cap, h1, rfl, _⟩ | ⟨x, h1, _, rfl⟩
    · refine ⟨_, _, _, rfl, hbu, ?_⟩
      cases R
      · rw [HU.out, if_neg (by decide)] at h1
        cases h1
      · rfl
    · refine ⟨_, _, _, rfl, hbu, ?_⟩
      cases R
      · rw [HU.out, if_neg (by decide)] at h1
        injection h1 with h1
        subst h1
        rfl
      · rw [HU.out, if_pos rfl] at h1
        cases h1)
  subst hRq
  go_wp2_with fail
  refine H2.out.mono ?_
  rintro e w2 hG
  obtain ⟨v2, k2, x2, rfl, hb2, hx2⟩ := HX.out e w2 hG
  have HL := Lib.hid (zlives w2 hb2)
  clear hG hb2 HX H2
  cases q1 <;> cases q2 <;> cases q3 <;> cases q4
  all_goals
    obtain rfl := hx2
    go_wp2_with fail
    refine HL.out.mono ?_
    rintro e w3 ⟨rfl, hb⟩
    go_wp2_with fail
    go_ret
    exact ⟨rfl, hb⟩

end Go.Proofs.YtehnilmfeoadgaaDoor
/- What the laws of layer 16 take: two numbers by value, opened and shut; the order of lengths of lengths, as the rows list it. -/
namespace Go.Proofs.YtehnilmfeoadgaaDoor
open Go.ChangeShapes Go.WideShapes Go.ChangeAt Go.RowKit
set_option linter.unusedVariables false

theorem own : ownKnob Tryd.prog.godebug = none := by kernel_rfl
theorem ord_of_laid {W : World} (h : laidMetH Tryd.prog Rows.zlibBackRow.laid W) : OrdAt W.heap.size W := by
  rw [MakeChecks.laidMetH_plain _ _ _ (by kernel_rfl)] at h
  have h2 : laidMet Tryd.prog [("squeal/inflate.lengthOrder", Rows.laid_squeal_inflate_lengthOrder)] W := h
  have g : Tryd.prog.globalNamed "squeal/inflate.lengthOrder" = some 0 := by kernel_rfl
  have t := Lib.tabIs_of_head (P := Tryd.prog) (W := W) (name := "squeal/inflate.lengthOrder") (k := .i64) (zs := [16, 17, 18, 0, 8, 7, 9, 6, 10, 5, 11, 4, 12, 3, 13, 2, 14, 1, 15]) (rest := []) g (by kernel_rfl) Tryd.underlying92 Tryd.underlying3 (by kernel_rfl) (by kernel_rfl) h2
  have c0 := t.cell g 0 (by decide)
  refine ⟨blk_lt c0, fun j hj => ?_⟩
  have e : j = 0 ∨ j = 1 ∨ j = 2 ∨ j = 3 ∨ j = 4 ∨ j = 5 ∨ j = 6 ∨ j = 7 ∨ j = 8 ∨ j = 9 ∨ j = 10 ∨ j = 11 ∨ j = 12 ∨ j = 13 ∨ j = 14 ∨ j = 15 ∨ j = 16 ∨ j = 17 ∨ j = 18 := by omega
  rcases e with rfl | rfl | rfl | rfl | rfl | rfl | rfl | rfl | rfl | rfl | rfl | rfl | rfl | rfl | rfl | rfl | rfl | rfl | rfl
  · exact t.cell g 0 (by decide)
  · exact t.cell g 1 (by decide)
  · exact t.cell g 2 (by decide)
  · exact t.cell g 3 (by decide)
  · exact t.cell g 4 (by decide)
  · exact t.cell g 5 (by decide)
  · exact t.cell g 6 (by decide)
  · exact t.cell g 7 (by decide)
  · exact t.cell g 8 (by decide)
  · exact t.cell g 9 (by decide)
  · exact t.cell g 10 (by decide)
  · exact t.cell g 11 (by decide)
  · exact t.cell g 12 (by decide)
  · exact t.cell g 13 (by decide)
  · exact t.cell g 14 (by decide)
  · exact t.cell g 15 (by decide)
  · exact t.cell g 16 (by decide)
  · exact t.cell g 17 (by decide)
  · exact t.cell g 18 (by decide)

theorem open_pair {H : Type} {enc : TypeId × Value → H} {w : World} {base b0 : Nat} {spare : Nat → Bool} {held : Bool} {r : Reach} {v : Value} {d : DataW H} {p : List MemPlace}
    (hv : Value.okWide Tryd.prog w r b0 23 v) (h : DataW.Trod enc Tryd.prog w base spare held 23 v d p) : ∃ a b : Int, v = .agg #[.int .i64 a, .int .i64 b] ∧ d = .agg [.lit (.int .i64 a), .lit (.int .i64 b)] ∧ p = [] ∧ (Lit.int .i64 a).wf = true ∧ (Lit.int .i64 b).wf = true := by
  have hc2 : Tryd.prog.cellsOf 23 = 2 := by kernel_rfl
  have hc1 : Tryd.prog.cellsOf 3 = 1 := by kernel_rfl
  obtain ⟨cs, rfl, hsz⟩ : ∃ cs, v = .agg cs ∧ cs.size = Tryd.prog.cellsOf 23 := by
    simp only [Value.okWide, Tryd.underlying23] at hv
    obtain ⟨cs, h1, h2, _⟩ := hv
    exact ⟨cs, h1, h2⟩
  obtain ⟨fuel, hf⟩ := h
  obtain ⟨xs, m, _, hx, hl, hlen, hat⟩ := DataW.trod_array Tryd.underlying23 hf
  have hcs : (Value.agg cs).cells = cs := rfl
  rw [hcs] at hat hl
  rw [hc2] at hl
  rw [hc1] at hat
  obtain ⟨l⟩ := cs
  match l, hl, xs, hlen, hat, hx with
  | [c0, c1], _, [y0, y1], _, hat, hx =>
    have h0 := hat 0 (by decide)
    have h1 := hat 1 (by decide)
    simp only [Nat.zero_mul, List.drop_zero, List.take_succ_cons, List.take_zero, List.getElem?_cons_zero, Nat.one_mul, List.drop_succ_cons, List.getElem?_cons_succ] at h0 h1
    obtain ⟨a, a1, a2, a3⟩ := DataW.trod_int Tryd.underlying3 h0
    obtain ⟨b, b1, b2, b3⟩ := DataW.trod_int Tryd.underlying3 h1
    obtain rfl : c0 = .int .i64 a := by simpa using a1
    obtain rfl : c1 = .int .i64 b := by simpa using b1
    subst a2 b2
    simp only [Prod.mk.injEq] at hx
    exact ⟨a, b, rfl, hx.1, hx.2, a3, b3⟩
theorem shut_pair {H : Type} {enc : TypeId × Value → H} {w : World} {base : Nat} {spare : Nat → Bool} {held : Bool} {a b : Int} (ha : (Lit.int .i64 a).wf = true) (hb : (Lit.int .i64 b).wf = true) :
    DataW.Trod enc Tryd.prog w base spare held 23 (.agg #[.int .i64 a, .int .i64 b]) (.agg [.lit (.int .i64 a), .lit (.int .i64 b)]) [] := by
  refine ⟨2, ?_⟩
  have hc2 : Tryd.prog.cellsOf 23 = 2 := by kernel_rfl
  have hc1 : Tryd.prog.cellsOf 3 = 1 := by kernel_rfl
  have h0 := trod_int_mk (enc := enc) (P := Tryd.prog) (w := w) (base := base) (spare := spare) (held := held) 0 Tryd.underlying3 ha
  have h1 := trod_int_mk (enc := enc) (P := Tryd.prog) (w := w) (base := base) (spare := spare) (held := held) 0 Tryd.underlying3 hb
  have r2 : List.range 2 = [0, 1] := rfl
  unfold DataW.trod
  rw [Tryd.underlying23]
  simp [r2, hc1, hc2, Value.cells, h0, h1]

end Go.Proofs.YtehnilmfeoadgaaDoor
