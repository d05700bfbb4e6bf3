/- A row of lengths, and what a symbol puts behind it: repeat. -/
import Derived.Test.YtifkldllhbcmkaaDoorInfCount
namespace Go.Proofs.YtifkldllhbcmkaaDoor
open Go.RowKit
set_option linter.unusedVariables false
set_option linter.unusedSimpArgs false

/-- A row's cells: its lengths, and how many there are. -/
def rowF (row : List Int) (j : Nat) : Int := if j = 316 then (row.length : Int) else gI row j
abbrev RowIs (w : World) (g : Nat) (row : List Int) : Prop := Cells w g 69 317 (numC (rowF row))
theorem RowIs.n {w : World} {g : Nat} {row : List Int} (h : RowIs w g row) : w.cell? ⟨g, 316, none⟩ = some (.int .i64 (row.length : Nat)) := by
  have := Cells.cell h 316 (by omega)
  unfold numC rowF at this
  rw [if_pos rfl] at this
  exact this
theorem RowIs.at {w : World} {g : Nat} {row : List Int} (h : RowIs w g row) (j : Nat) (hj : j < 316) : w.cell? ⟨g, j, none⟩ = some (.int .i64 (gI row j)) := by
  have := Cells.cell h j (by omega)
  unfold numC rowF at this
  rw [if_neg (by omega)] at this
  exact this
theorem rowF_put (row : List Int) (v : Int) (h : row.length < 316) : updN (updN (rowF row) row.length v) 316 ((row.length : Int) + 1) = rowF (row ++ [v]) := by
  funext j
  unfold updN rowF
  by_cases c : j = 316
  · rw [if_pos c, if_pos c, List.length_append]; simp
  · rw [if_neg c, if_neg c, if_neg c]
    by_cases d : j = row.length
    · rw [if_pos d, gI_app_right _ _ _ (by omega), d, Nat.sub_self]; rfl
    · rw [if_neg d]
      by_cases e : j < row.length
      · rw [gI_app_left _ _ _ e]
      · rw [gI_end row j (by omega), gI_end _ j (by simp; omega)]
theorem RowIs.put {w : World} {g : Nat} {row : List Int} (h : RowIs w g row) (v : Int) (hl : row.length < 316) :
    RowIs ((w.setCell ⟨g, row.length, none⟩ (.int .i64 v)).setCell ⟨g, 316, none⟩ (.int .i64 ((row.length : Int) + 1))) g (row ++ [v]) := by
  have := num_set (num_set h row.length v) 316 ((row.length : Int) + 1)
  rw [rowF_put row v hl] at this
  exact this
def GaveR (c : Cx) (w : World) (R : Rs (Int × Nat)) (e : Ending) (w' : World) : Prop :=
  (∃ v t q, R = .ok ((v, t), q) ∧ e = .returned (.tuple #[.int .i64 v, .int .i64 (t : Nat), .int .i64 0]) ∧ BitsAt (fun k => c.B ≤ k ∧ k < c.gb) w' c.gb c.bs q ∧ Ch (fun k => k = c.gb) w w') ∨ (∃ x, R = .error x ∧ (x = 2 ∨ x = 4 ∨ x = 8) ∧ e = .returned (.tuple #[.int .i64 0, .int .i64 0, .int .i64 (x : Nat)]) ∧ Ch (fun k => k = c.gb) w w')
theorem repB_le (s : Nat) : repB s ≤ 7 := by unfold repB; split; omega; split; omega; split; omega; omega
theorem repA_le (s : Nat) : 1 ≤ repA s ∧ repA s ≤ 11 := by unfold repA; split; omega; split; omega; omega
theorem rep_end {c : Cx} {w wx w1 : World} {row : List Int} {s p v q : Nat} (hn : ¬ (s = 16 ∧ row.length = 0)) (hx : Ch (fun k => k = c.gb) w wx) (hR : takeM c.bs (repB s) p = .ok (v, q)) (hb : BitsAt (fun k => c.B ≤ k ∧ k < c.gb) w1 c.gb c.bs q) (hc : Ch (fun k => k = c.gb) wx w1) :
    GaveR c w (repM c.bs row s p) (.returned (.tuple #[.int .i64 (repL row s), .int .i64 ((repA s + v : Nat) : Int), .int .i64 0])) w1 :=
  Or.inl ⟨_, _, _, by unfold repM; rw [if_neg hn, hR]; rfl, rfl, hb, hx.then hc⟩
theorem rep_bad {c : Cx} {w w1 : World} {row : List Int} {s p x : Nat} (hn : ¬ (s = 16 ∧ row.length = 0)) (hR : takeM c.bs (repB s) p = .error x) (hx : x = 2 ∨ x = 4 ∨ x = 8) (hb : Ch (fun k => k = c.gb) w w1) :
    GaveR c w (repM c.bs row s p) (.returned (.tuple #[.int .i64 0, .int .i64 0, .int .i64 (x : Nat)])) w1 :=
  Or.inr ⟨x, by unfold repM; rw [if_neg hn, hR]; rfl, hx, rfl, hb⟩
set_option maxRecDepth 100000 in
set_option maxHeartbeats 6400000 in
theorem repeat_b (c : Cx) (w : World) (ob : Option Nat) (p : Nat) (o : List Int) (gr : Nat) (row : List Int) (s : Nat) (hs : s ≤ 400) (h : UAt c w ob p o) (hr : RowIs w gr row) (hl : row.length ≤ 316) :
    Calls Tryd.prog 34 #[.pointer (some ⟨c.gu, 0, none⟩), .pointer (some ⟨gr, 0, none⟩), .int .i64 (s : Nat)] w (GaveR c w (repM c.bs row s p)) := by
  have hB := repB_le s
  have hA := repA_le s
  have cn := hr.n
  by_cases h16 : s = 16
  · by_cases h0 : row.length = 0
    · have HE : Hid (GaveR c w (repM c.bs row s p) (.returned (.tuple #[.int .i64 0, .int .i64 0, .int .i64 4])) w) := Lib.hid (Or.inr ⟨4, by unfold repM; rw [if_pos ⟨h16, h0⟩], by omega, rfl, Ch.refl _ _⟩)
      rw [h0] at cn
      subst h16
      clear h hr hl hB hA
      go_enter Tryd.func34, Tryd.ntmps34
      go_wp2_with fail
      go_ret3
      exact HE.out
    · have hlast := hr.at (row.length - 1) (by omega)
      obtain ⟨L, hL⟩ : ∃ L, row.length = L := ⟨_, rfl⟩
      rw [hL] at cn hlast h0 hl
      obtain ⟨a, ha⟩ : ∃ a, L - 1 = a := ⟨_, rfl⟩
      rw [ha] at hlast
      have ha1 : (L : Int) - 1 = (a : Int) := by omega
      have ha2 : IntKind.i64.wrap (a : Int) = (a : Int) := by rw [IntKind.wrap_i64]; omega
      have ha3 : (a : Int) < 316 := by omega
      have d0 : ((L : Int) == 0) = false := by rw [beq_eq_false_iff_ne]; omega
      obtain ⟨y, hy⟩ : ∃ y, gI row a = y := ⟨_, rfl⟩
      rw [hy] at hlast
      have hb0 : Below w.heap.size w w.drew := bdrawn (Below.refl _ _) 1
      have H1 := Lib.hid (take_b c w.drew ob p o 2 (by omega) (h.below hb0))
      have hrl : repL row s = y := by unfold repL; rw [if_pos h16, hL, ha, hy]
      have hra : repA s = 3 := by unfold repA; rw [if_pos (Or.inl h16)]
      have hrb : repB s = 2 := by unfold repB; rw [if_pos h16]
      have HOK := Lib.hid (fun v q w1 hR hb hc => rep_end (c := c) (w := w) (wx := w.drew) (w1 := w1) (row := row) (s := s) (p := p) (v := v) (q := q) (fun x => h0 (by omega)) (Ch.of_below hb0) hR hb hc)
      have HBAD := Lib.hid (fun x w1 hR hx (hb : Ch (fun k => k = c.gb) w.drew w1) => rep_bad (c := c) (w := w) (w1 := w1) (row := row) (s := s) (p := p) (x := x) (fun x => h0 (by omega)) hR hx ((Ch.of_below hb0).then hb))
      rw [hrl, hra, hrb] at HOK
      rw [hrb] at HBAD
      subst h16
      clear h hr hB hA hL ha hy hb0 hrl hra hrb
      go_enter Tryd.func34, Tryd.ntmps34
      go_wp2_with fail
      go_region
      go_wp2_with fail
      refine H1.out.mono ?_
      rintro e w1 (⟨v, q, hR, rfl, hb, hc⟩ | ⟨x, hR, hx, rfl, hb⟩)
      · have HE := Lib.hid (HOK.out v q w1 hR hb hc)
        have hv := (take_lt hR).1
        have hs : (3 : Int) + (v : Int) = ((3 + v : Nat) : Int) := by omega
        generalize 3 + v = S at *
        clear hR hb hc HOK HBAD H1
        go_wp2_with fail
        go_ret3
        exact HE.out
      · have hn := nz hx
        have HE := Lib.hid (HBAD.out x w1 hR hx hb)
        clear hR hx hb HOK HBAD H1
        go_wp2_with fail
        go_ret3
        exact HE.out
  have d16 : ((s : Int) == 16) = false := by rw [beq_eq_false_iff_ne]; omega
  have H1 := Lib.hid (take_b c w ob p o (repB s) (by omega) h)
  have HOK := Lib.hid (fun v q w1 hR hb hc => rep_end (c := c) (w := w) (wx := w) (w1 := w1) (row := row) (s := s) (p := p) (v := v) (q := q) (fun x => h16 x.1) (Ch.refl _ _) hR hb hc)
  have HBAD := Lib.hid (fun x w1 hR hx hb => rep_bad (c := c) (w := w) (w1 := w1) (row := row) (s := s) (p := p) (x := x) (fun x => h16 x.1) hR hx hb)
  clear h hr cn hl
  obtain ⟨a, ha⟩ : ∃ a, repA s = a := ⟨_, rfl⟩
  obtain ⟨b, hb⟩ : ∃ b, repB s = b := ⟨_, rfl⟩
  obtain ⟨y, hy⟩ : ∃ y, repL row s = y := ⟨_, rfl⟩
  rw [ha, hb, hy] at HOK
  rw [hb] at HBAD H1 hB
  rw [ha] at hA
  have fin : (s = 17 ∧ a = 3 ∧ b = 3 ∧ y = 0) ∨ (s = 18 ∧ a = 11 ∧ b = 7 ∧ y = 0) ∨ (s ≠ 17 ∧ s ≠ 18 ∧ a = 1 ∧ b = 0 ∧ y = (s : Int)) := by
    unfold repA at ha
    unfold repB at hb
    unfold repL at hy
    by_cases c17 : s = 17
    · subst c17; left; simp at ha hb hy; omega
    · by_cases c18 : s = 18
      · subst c18; right; left; simp at ha hb hy; omega
      · right; right
        rw [if_neg (by omega), if_neg (by omega)] at ha
        rw [if_neg h16, if_neg c17, if_neg c18] at hb
        rw [if_neg h16, if_neg (by omega)] at hy
        exact ⟨c17, c18, ha.symm, hb.symm, hy.symm⟩
  have hv2 : 2 ^ b ≤ 2 ^ 7 := Nat.pow_le_pow_right (by decide) hB
  clear ha hb hy
  rcases fin with ⟨rfl, rfl, rfl, rfl⟩ | ⟨rfl, rfl, rfl, rfl⟩ | ⟨c17, c18, rfl, rfl, rfl⟩
  · go_enter Tryd.func34, Tryd.ntmps34
    go_wp2_with fail
    refine H1.out.mono ?_
    rintro e w1 (⟨v, q, hR, rfl, hb, hc⟩ | ⟨x, hR, hx, rfl, hb⟩)
    · have HE := Lib.hid (HOK.out v q w1 hR hb hc)
      have hv := (take_lt hR).1
      have hs : (3 : Int) + (v : Int) = ((3 + v : Nat) : Int) := by omega
      generalize 3 + v = S at *
      clear hR hb hc HOK HBAD H1
      go_wp2_with fail
      go_ret3
      exact HE.out
    · have hn := nz hx
      have HE := Lib.hid (HBAD.out x w1 hR hx hb)
      clear hR hx hb HOK HBAD H1
      go_wp2_with fail
      go_ret3
      exact HE.out
  · go_enter Tryd.func34, Tryd.ntmps34
    go_wp2_with fail
    refine H1.out.mono ?_
    rintro e w1 (⟨v, q, hR, rfl, hb, hc⟩ | ⟨x, hR, hx, rfl, hb⟩)
    · have HE := Lib.hid (HOK.out v q w1 hR hb hc)
      have hv := (take_lt hR).1
      have hs : (11 : Int) + (v : Int) = ((11 + v : Nat) : Int) := by omega
      generalize 11 + v = S at *
      clear hR hb hc HOK HBAD H1
      go_wp2_with fail
      go_ret3
      exact HE.out
    · have hn := nz hx
      have HE := Lib.hid (HBAD.out x w1 hR hx hb)
      clear hR hx hb HOK HBAD H1
      go_wp2_with fail
      go_ret3
      exact HE.out
  · have d17 : ((s : Int) == 17) = false := by rw [beq_eq_false_iff_ne]; omega
    have d18 : ((s : Int) == 18) = false := by rw [beq_eq_false_iff_ne]; omega
    go_enter Tryd.func34, Tryd.ntmps34
    go_wp2_with fail
    refine H1.out.mono ?_
    rintro e w1 (⟨v, q, hR, rfl, hb, hc⟩ | ⟨x, hR, hx, rfl, hb⟩)
    · have HE := Lib.hid (HOK.out v q w1 hR hb hc)
      have hv := (take_lt hR).1
      have hs : (1 : Int) + (v : Int) = ((1 + v : Nat) : Int) := by omega
      generalize 1 + v = S at *
      clear hR hb hc HOK HBAD H1
      go_wp2_with fail
      go_ret3
      exact HE.out
    · have hn := nz hx
      have HE := Lib.hid (HBAD.out x w1 hR hx hb)
      clear hR hx hb HOK HBAD H1
      go_wp2_with fail
      go_ret3
      exact HE.out

end Go.Proofs.YtifkldllhbcmkaaDoor
