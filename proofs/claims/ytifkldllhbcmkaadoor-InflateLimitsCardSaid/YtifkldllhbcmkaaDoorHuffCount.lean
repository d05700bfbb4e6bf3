/- huff's mayBe and count. -/
import Derived.Test.YtifkldllhbcmkaaDoorHuffMath
import Derived.Test.YtifkldllhbcmkaaDoorHuffArr
import Derived.Test.YtifkldllhbcmkaaDoorProg
import Derived.Deep.QuietTactic
import Derived.BigQuiet
import Derived.RegionTactic
import Derived.LoopTactic
import Derived.Lib.Hide
namespace Go.Proofs.YtifkldllhbcmkaaDoor
open Go.RowKit
attribute [local simp ↓ high] arrAlloc_as1 arrAlloc_as2 arrStore_as1 arrStore_as2 arrLoad_as1 arrLoad_as2 arrEql_as arrBuild_as

/-- Numbers as the program has them. -/
abbrev toI (N : Nat → Nat) (j : Nat) : Int := (N j : Int)
theorem ks_small (N : Nat → Nat) (h : ∀ k, N k ≤ 1000) : ∀ m, ks N m ≤ 32768000 * m
  | 0 => Nat.le_refl _
  | m + 1 => by
    have := ks_small N h m
    have h1 := Nat.mul_le_mul (h m) (Nat.pow_le_pow_right (show 0 < 2 by decide) (show 15 - m ≤ 15 by omega))
    rw [ks]; omega
theorem ks_step (N : Nat → Nat) (hN : ∀ k, N k ≤ 1000) (k : Nat) (hk : k < 16) : wrap64 (((ks N k : Nat) : Int) + wrap64 (toI N k * 2 ^ (15 - k))) = ((ks N (k + 1) : Nat) : Int) := by
  have h1 := ks_small N hN k
  have h2 := Nat.mul_le_mul (hN k) (Nat.pow_le_pow_right (show 0 < 2 by decide) (show 15 - k ≤ 15 by omega))
  have e : toI N k * 2 ^ (15 - k) = ((N k * 2 ^ (15 - k) : Nat) : Int) := by simp [toI]
  rw [e, ks]
  generalize N k * 2 ^ (15 - k) = P at *
  rw [IntWalk.wrap64_in (P : Int) (by omega), IntWalk.wrap64_in _ (by omega)]
  omega
set_option maxHeartbeats 1600000 in
theorem mayBe_any (N : Nat → Nat) (b : Bool) (hN : ∀ k, N k ≤ 1000) (hb : okS N ↔ b = true) (w : World) :
    Calls Tryd.prog 38 #[.agg (arrA (toI N))] w fun e w' => e = .returned (.bool b) ∧ Below w.heap.size w w' := by
  obtain ⟨b1, h1⟩ : ∃ b1 : Bool, (plc N 16 = 0) ↔ b1 = true := ⟨decide (plc N 16 = 0), by simp⟩
  obtain ⟨b2, h2⟩ : ∃ b2 : Bool, (plc N 16 = 1 ∧ N 1 = 1) ↔ b2 = true := ⟨decide (plc N 16 = 1 ∧ N 1 = 1), by simp⟩
  obtain ⟨b0, h0⟩ : ∃ b0 : Bool, (((ks N 16 : Nat) : Int) == 32768) = b0 := ⟨_, rfl⟩
  have q1 : (∀ j, j < 16 → toI N j = (fun _ => 0) j) ↔ b1 = true := by
    rw [← h1, ← none16]
    exact ⟨fun h j hj => by have := h j hj; simp only [toI] at this; omega, fun h j hj => by simp only [toI]; rw [h j hj]; rfl⟩
  have q2 : (∀ j, j < 16 → toI N j = (fun j => if j = 1 then 1 else 0) j) ↔ b2 = true := by
    rw [← h2, ← one16]
    exact ⟨fun h j hj => by
      have := h j hj
      simp only [toI] at this
      by_cases c : j = 1
      · rw [if_pos c] at this ⊢; omega
      · rw [if_neg c] at this ⊢; omega, fun h j hj => by simp only [toI]; rw [h j hj]; split <;> rfl⟩
  have e1 := run_arrEql _ _ b1 q1
  have e2 := run_arrEql _ _ b2 q2
  have d0 := run_arrBuild0
  have d1 := run_arrBuild1
  have HL := Lib.hid (ArrAt.new w 74 (toI N))
  have ld := run_arrLoad2 HL.out.cells
  have hix := fun (k : Nat) (hk : k < 16) => run_index_row (P := Tryd.prog) 74 3 16 (arrA (toI N)) .i64 k _ Tryd.underlying74 Tryd.underlying3 rfl (by kernel_rfl) hk (arrA_at (toI N) k hk)
  have HX := Lib.hid hix
  have hbe : b = (b0 || (b1 || b2)) := by
    have h0' : ks N 16 = 32768 ↔ b0 = true := by rw [← h0, beq_iff_eq]; omega
    unfold okS at hb
    rw [h0', h1, h2] at hb
    cases b <;> cases b0 <;> cases b1 <;> cases b2 <;> simp_all
  have HS := Lib.hid (fun k hk => ks_step N hN k hk)
  have HB := Lib.hid (bnew w (.cells (arrA (toI N)) 74))
  clear q1 q2 hix hb h1 h2
  go_enter Tryd.func38, Tryd.ntmps38
  go_wp2_with fail
  go_loop [3, 7] (fun s i => ∃ k : Nat, i = .int .i64 k ∧ k ≤ 16 ∧ s = .int .i64 (ks N k)) (fun _ i => 16 - (intOf i).toNat)
  case atStart => exact ⟨0, rfl, by omega, rfl⟩
  case round =>
    obtain ⟨k, rfl, hk, rfl⟩ := hrel
    by_cases hlt : k < 16
    · have hix := HX.out k hlt
      go_wp2_with fail
      go_round
      case rel => exact ⟨k + 1, by go_num, by omega, by rw [HS.out k hlt]⟩
      case measure => simp [intOf]; omega
    · obtain rfl : k = 16 := by omega
      subst hbe
      cases b0 <;> cases b1
      all_goals
        go_wp2_with fail
        go_ret
        exact ⟨rfl, HB.out⟩

/-- The lengths as the program has them. -/
def lnN (l : List Int) (i : Nat) : Nat := (gI l i).toNat
def Fine (l : List Int) : Prop := ∀ i, 0 ≤ gI l i ∧ gI l i ≤ 15
def nOf (l : List Int) : Nat → Nat := cN (lnN l) l.length
/-- Why lengths may not be. -/
def Lg (l : List Int) (e : Int) : Prop := (e = 1 ∧ (320 < l.length ∨ ¬ Fine l)) ∨ (l.length ≤ 320 ∧ Fine l ∧ ((e = 0 ∧ okS (nOf l)) ∨ (e = 4 ∧ ¬ okS (nOf l))))
theorem Lg.some (l : List Int) : ∃ e, Lg l e := by
  by_cases h : 320 < l.length ∨ ¬ Fine l
  · exact ⟨1, Or.inl ⟨rfl, h⟩⟩
  · have h1 : l.length ≤ 320 := by
      rcases Nat.lt_or_ge 320 l.length with c | c
      · exact absurd (Or.inl c) h
      · exact c
    have h2 : Fine l := Classical.byContradiction fun c => h (Or.inr c)
    by_cases k : okS (nOf l)
    · exact ⟨0, Or.inr ⟨h1, h2, Or.inl ⟨rfl, k⟩⟩⟩
    · exact ⟨4, Or.inr ⟨h1, h2, Or.inr ⟨rfl, k⟩⟩⟩
theorem Fine.ln {l : List Int} (h : Fine l) (i : Nat) : gI l i = (lnN l i : Nat) ∧ lnN l i ≤ 15 := by
  have := h i
  unfold lnN; omega
theorem nOf_le (l : List Int) (k : Nat) : nOf l k ≤ l.length := by
  unfold nOf cN
  split
  · omega
  · exact cnt_le _ _ _
/-- What 'count' answers. -/
def cntR (l : List Int) (e : Int) : Nat → Int := if e = 0 then toI (nOf l) else fun _ => 0
theorem cntR_no (l : List Int) (e : Int) (h : e ≠ 0) : cntR l e = fun _ => 0 := if_neg h
theorem cntR_yes (l : List Int) : cntR l 0 = toI (nOf l) := if_pos rfl
def Counted (w : World) (l : List Int) (e : Int) (x : Ending) (w' : World) : Prop := x = .returned (.tuple #[.agg (arrA (cntR l e)), .int .i64 e]) ∧ Below w.heap.size w w'
theorem count_big (A : Option Addr) (n cap : Nat) (l : List Int) (w : World) (hl : IAt (fun _ => True) w A n cap l) (h : 320 < n) :
    Calls Tryd.prog 35 #[.slice A n cap] w (Counted w l 1) := by
  have d0 := run_arrBuild0
  have a2 := run_arrAlloc2
  obtain ⟨W, hs, hW, hC⟩ := run_arrStore2 (ArrAt.new w 74 fun _ => 0) (fun _ => 0)
  have HW := Lib.hid hW
  have HB := Lib.hid (((bnew w (.cells (arrA fun _ => 0) 74)).trans (hC.below (fun k hk => by omega) (by simp))))
  have hf := hl.fit
  have hm := hl.max
  unfold maxLen at hm
  clear hl hW hC
  go_enter Tryd.func35, Tryd.ntmps35
  go_wp2_with fail
  exact bodyPost_ret (results_arr2 rfl _ HW.out rfl _ rfl) rfl ⟨rfl, HB.out⟩
/-- Behind k lengths. -/
structure Cing (w wr : World) (l : List Int) (k : Nat) : Prop where
  fine : ∀ i, i < k → 0 ≤ gI l i ∧ gI l i ≤ 15
  res : ArrAt wr w.heap.size 74 (fun _ => 0)
  cs : ArrAt wr (w.heap.size + 1) 74 (fun j => (cnt (lnN l) j k : Nat))
  bel : Below w.heap.size w wr
theorem Cing.start (w : World) (l : List Int) : Cing w ((w.alloc (.cells (arrA fun _ => 0) 74)).alloc (.cells (arrA fun _ => 0) 74)) l 0 := by
  have h1 := ArrAt.new w 74 fun _ => 0
  have h2 := ArrAt.new (w.alloc (.cells (arrA fun _ => 0) 74)) 74 fun _ => 0
  have e : (w.alloc (.cells (arrA fun _ => 0) 74)).heap.size = w.heap.size + 1 := by simp
  rw [e] at h2
  exact ⟨fun i hi => absurd hi (by omega), Cells.below h1 (bnew _ _), h2.congr fun j _ => rfl, (bnew w _).alloc (by simp) _⟩
theorem Cing.next {w wr : World} {l : List Int} {k m : Nat} (h : Cing w wr l k) (hm : gI l k = (m : Int)) (h15 : m ≤ 15) : Cing w (wr.setCell ⟨w.heap.size + 1, m, none⟩ (.int .i64 ((cnt (lnN l) m k : Nat) + 1))) l (k + 1) := by
  obtain ⟨h1, h2, h3, h4⟩ := h
  refine ⟨fun i hi => ?_, Cells.block h2 (Below.heap_setCell _ _ _ _ (show w.heap.size ≠ w.heap.size + 1 by omega)), ArrAt.congr (ArrAt.set h3 m _) fun j hj => ?_, h4.setCell (show w.heap.size ≤ w.heap.size + 1 by omega) _⟩
  · by_cases e : i = k
    · subst e; omega
    · exact h1 i (by omega)
  · have e : lnN l k = m := by unfold lnN; omega
    rw [cnt, e]
    by_cases c : j = m
    · subst c; rw [updN_same, if_pos rfl]; omega
    · rw [updN_other _ _ _ _ c, if_neg (fun x => c x.symm)]; omega
theorem Cing.not (l : List Int) (k : Nat) (x : Int) (hx : gI l k = x) (h : x < 0 ∨ 15 < x) : ¬ Fine l := fun hf => by
  have := hf k
  omega
theorem Cing.all {w wr : World} {l : List Int} (h : Cing w wr l l.length) : Fine l := fun i => by
  by_cases c : i < l.length
  · exact h.fine i c
  · rw [gI_end l i (by omega)]; omega
/-- Behind all of them: the code of length 0 isn't counted. -/
structure Cend (w wr : World) (l : List Int) : Prop where
  res : ArrAt wr w.heap.size 74 (fun _ => 0)
  cs : ArrAt wr (w.heap.size + 1) 74 (toI (nOf l))
  bel : Below w.heap.size w wr
theorem Cing.done {w wr : World} {l : List Int} (h : Cing w wr l l.length) : Cend w (wr.setCell ⟨w.heap.size + 1, 0, none⟩ (.int .i64 0)) l := by
  obtain ⟨h1, h2, h3, h4⟩ := h
  refine ⟨Cells.block h2 (Below.heap_setCell _ _ _ _ (show w.heap.size ≠ w.heap.size + 1 by omega)), ArrAt.congr (ArrAt.set h3 0 _) fun j hj => ?_, h4.setCell (show w.heap.size ≤ w.heap.size + 1 by omega) _⟩
  unfold toI nOf cN
  by_cases c : j = 0
  · subst c; rw [updN_same, if_pos rfl]; rfl
  · rw [updN_other _ _ _ _ c, if_neg c]
theorem Cend.below {w wr wx : World} {l : List Int} (h : Cend w wr l) (hb : Below wr.heap.size wr wx) : Cend w wx l := ⟨h.res.below hb, h.cs.below hb, h.bel.trans (hb.mono h.bel.size)⟩
set_option maxHeartbeats 3200000 in
theorem count_go (A : Option Addr) (n cap : Nat) (l : List Int) (e : Int) (w : World) (hl : IAt (fun _ => True) w A n cap l) (h : n ≤ 320) (he : Lg l e) :
    Calls Tryd.prog 35 #[.slice A n cap] w (Counted w l e) := by
  have d0 := run_arrBuild0
  have a2 := run_arrAlloc2
  have HS := Lib.hid (Cing.start w l)
  have HL := Lib.hid hl
  have HE := Lib.hid he
  have hlen := hl.len
  have hf := hl.fit
  have hm := hl.max
  unfold maxLen at hm
  clear hl he
  go_enter Tryd.func35, Tryd.ntmps35
  go_wp2_with fail
  go_loopw [13] (fun i wr => ∃ k : Nat, i = .int .i64 k ∧ k ≤ n ∧ Hid (Cing w wr l k)) (fun i _ => n - (intOf i).toNat)
  case atStart => exact ⟨0, rfl, by omega, HS⟩
  case round =>
    obtain ⟨k, rfl, hk, HI⟩ := hrel
    by_cases hlt : k < n
    · obtain ⟨b, o, rfl, _, hbl, hc⟩ := HL.out.lies (by omega)
      have c0 := (HI.out.bel.cell (p := ⟨b, o + k, none⟩) hbl).trans (hc k hlt)
      clear hc
      obtain ⟨x, hx⟩ : ∃ x, gI l k = x := ⟨_, rfl⟩
      rw [hx] at c0
      by_cases hbad : x < 0 ∨ 15 < x
      · have hn := Cing.not l k x hx hbad
        obtain rfl : e = 1 := by
          rcases HE.out with ⟨h1, _⟩ | ⟨_, h2, _⟩
          · exact h1
          · exact absurd h2 hn
        obtain ⟨W, hs, hW, hC⟩ := run_arrStore2 HI.out.res (fun _ => 0)
        have HW := Lib.hid hW
        have HB := Lib.hid (HI.out.bel.trans (hC.below (fun k hk => by omega) HI.out.bel.size))
        clear hW hC hn hx
        rcases hbad with hb | hb
        · have d1 : decide (x < 0) = true := by simp; omega
          go_wp2_with fail
          exact bodyPost_ret (results_arr2 rfl _ HW.out rfl _ rfl) rfl ⟨rfl, HB.out⟩
        · have d1 : decide (x < 0) = false := by simp; omega
          have d2 : decide (15 < x) = true := by simp; omega
          go_wp2_with fail
          exact bodyPost_ret (results_arr2 rfl _ HW.out rfl _ rfl) rfl ⟨rfl, HB.out⟩
      · obtain ⟨m, rfl⟩ : ∃ m : Nat, x = (m : Int) := ⟨x.toNat, by omega⟩
        have hm15 : m ≤ 15 := by omega
        have HN := Lib.hid (HI.out.next hx hm15)
        have c1 := HI.out.cs.cells m (by omega)
        have f1 := Cells.frozen HI.out.cs m
        have hcl := cnt_le (lnN l) m k
        clear hx hbad
        generalize cnt (lnN l) m k = q at *
        have d1 : decide ((m : Int) < 0) = false := decide_eq_false (by omega)
        have d2 : decide (15 < (m : Int)) = false := decide_eq_false (by omega)
        go_wp2_with fail
        go_roundw
        case rel => exact ⟨k + 1, by go_num, by omega, HN⟩
        case measure => first | (simp [intOf]; done) | (simp [intOf]; omega)
    · obtain rfl : k = n := by omega
      subst hlen
      have hfine := HI.out.all
      have HD := Lib.hid HI.out.done
      have f1 := Cells.frozen HI.out.cs 0
      have c1 := HI.out.cs.cells 0 (by omega)
      clear HI
      have ld1 := run_arrLoad2 HD.out.cs.cells
      have hN : ∀ k, nOf l k ≤ 1000 := fun k => by have := nOf_le l k; omega
      obtain ⟨q, hq, hq4⟩ : ∃ q : Bool, (okS (nOf l) ↔ q = true) ∧ e = if q = true then 0 else 4 := by
        rcases HE.out with ⟨_, h1 | h1⟩ | ⟨_, _, ⟨h1, h2⟩ | ⟨h1, h2⟩⟩
        · omega
        · exact absurd hfine h1
        · exact ⟨true, by simp [h2], by rw [h1]; rfl⟩
        · exact ⟨false, by simp [h2], by rw [h1]; rfl⟩
      have HM := Lib.hid (fun u => mayBe_any (nOf l) q hN hq u)
      have HQ := Lib.hid hq4
      clear hN hq hq4 hfine HE
      go_wp2_with fail
      refine (HM.out _).mono ?_
      rintro e' w2 ⟨rfl, hb2⟩
      have HD2 := Lib.hid (HD.out.below hb2)
      clear hb2 ld1
      cases q
      · obtain rfl : e = 4 := HQ.out
        obtain ⟨W, hs, hW, hC⟩ := run_arrStore2 HD2.out.res (fun _ => 0)
        have HW := Lib.hid hW
        have HB := Lib.hid (HD2.out.bel.trans (hC.below (fun k hk => by omega) HD2.out.bel.size))
        clear hW hC
        go_wp2_with fail
        exact bodyPost_ret (results_arr2 rfl _ HW.out rfl _ rfl) rfl ⟨rfl, HB.out⟩
      · obtain rfl : e = 0 := HQ.out
        obtain ⟨W, hs, hW, hC⟩ := run_arrStore2 HD2.out.res (toI (nOf l))
        have ld2 := run_arrLoad2 HD2.out.cs.cells
        have HW := Lib.hid hW
        have HB := Lib.hid (HD2.out.bel.trans (hC.below (fun k hk => by omega) HD2.out.bel.size))
        clear hW hC
        go_wp2_with fail
        exact bodyPost_ret (results_arr2 rfl _ HW.out rfl _ rfl) rfl ⟨rfl, HB.out⟩
theorem count_any (A : Option Addr) (n cap : Nat) (l : List Int) (e : Int) (w : World) (hl : IAt (fun _ => True) w A n cap l) (he : Lg l e) :
    Calls Tryd.prog 35 #[.slice A n cap] w (Counted w l e) := by
  by_cases h : 320 < n
  · have hlen := hl.len
    obtain rfl : e = 1 := by
      rcases he with ⟨h1, _⟩ | ⟨h2, _⟩
      · exact h1
      · omega
    exact count_big A n cap l w hl h
  · exact count_go A n cap l e w hl (by omega) he

end Go.Proofs.YtifkldllhbcmkaaDoor
