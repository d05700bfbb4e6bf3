/- A reader's Fail and next. -/
import Derived.Test.YthlaglhlmbkniaaWireAt
namespace Go.Proofs.Ythlaglhlmbkniaa
open Go.RowKit
set_option linter.unusedVariables false
set_option linter.unusedSimpArgs false

/-- A reader's place and fault put anew. -/
theorem RdAt.setAt {F : Nat → Prop} {w : World} {g : Nat} {l : List Int} {p : Nat} {e f : Int} (h : RdAt F w g l p e f) (P : Nat) (hP : P ≤ l.length) : RdAt F (w.setCell ⟨g, 1, none⟩ (.int .i64 (P : Nat))) g l P e f := by
  obtain ⟨h1, h2, A, n, cap, h3, h4⟩ := h
  refine ⟨h1, hP, A, n, cap, by rw [heap_setCell_same w g 1 _ _ _ h3]; rfl, h4.ch (Ch.set (F := fun k => k = g) w g 1 _ rfl) fun k hk e => ?_⟩
  subst e; exact h1 hk
theorem RdAt.setFault {F : Nat → Prop} {w : World} {g : Nat} {l : List Int} {p : Nat} {e f : Int} (h : RdAt F w g l p e f) (x y : Int) : RdAt F ((w.setCell ⟨g, 2, none⟩ (.int .i64 x)).setCell ⟨g, 3, none⟩ (.int .i64 y)) g l p x y := by
  obtain ⟨h1, h2, A, n, cap, h3, h4⟩ := h
  have k1 := heap_setCell_same w g 2 _ _ (.int .i64 x) h3
  have k2 := heap_setCell_same (w.setCell ⟨g, 2, none⟩ (.int .i64 x)) g 3 _ _ (.int .i64 y) k1
  refine ⟨h1, h2, A, n, cap, by rw [k2]; rfl, h4.ch (G := fun k => k = g) ((Ch.set (F := fun k => k = g) w g 2 _ rfl).then (Ch.set _ g 3 _ rfl)) fun k hk e => ?_⟩
  subst e; exact h1 hk
/-- A call on reader g has changed that alone. -/
def Made (F : Nat → Prop) (v : Value) (w : World) (g : Nat) (l : List Int) (p : Nat) (e f : Int) (x : Ending) (w' : World) : Prop := x = .returned v ∧ RdAt F w' g l p e f ∧ Ch (fun k => k = g) w w'
theorem fail_nil (x y : Int) (w : World) : Calls Try.prog 36 #[.pointer none, .int .i64 x, .int .i64 y] w fun e w' => e = .returned (.tuple #[]) ∧ w = w' := by
  go_enter Try.func36, Try.ntmps36
  go_wp2_with fail
  go_end0
  exact ⟨rfl, rfl⟩
theorem fail_old (F : Nat → Prop) (w : World) (g : Nat) (l : List Int) (p : Nat) (e f : Int) (h : RdAt F w g l p e f) (he : e ≠ 0) (x y : Int) : Calls Try.prog 36 #[.pointer (some ⟨g, 0, none⟩), .int .i64 x, .int .i64 y] w fun e w' => e = .returned (.tuple #[]) ∧ w = w' := by
  have H := Lib.hid (bad_any F w g l p e f h false (by simpa using he))
  clear h he
  go_enter Try.func36, Try.ntmps36
  go_wp2_with fail
  refine (H.out).mono ?_
  rintro e w' ⟨rfl, rfl⟩
  go_wp2_with fail
  go_end0
  exact ⟨rfl, rfl⟩
theorem fail_new (F : Nat → Prop) (w : World) (g : Nat) (l : List Int) (p : Nat) (f : Int) (h : RdAt F w g l p 0 f) (x y : Int) (hx : x ≠ 0) : Calls Try.prog 36 #[.pointer (some ⟨g, 0, none⟩), .int .i64 x, .int .i64 y] w (Made F (.tuple #[]) w g l p x y) := by
  have H := Lib.hid (bad_any F w g l p 0 f h true rfl)
  have HR : Hid (Made F (.tuple #[]) w g l p x y (.returned (.tuple #[])) ((w.setCell ⟨g, 2, none⟩ (.int .i64 x)).setCell ⟨g, 3, none⟩ (.int .i64 y))) := Lib.hid ⟨rfl, h.setFault x y, (Ch.set (F := fun k => k = g) w g 2 _ rfl).then (Ch.set _ g 3 _ rfl)⟩
  obtain ⟨h1, h2, A, n, cap, h3, h4⟩ := h
  have c2 := cell_of_row w g 2 _ _ (0, 0) h3
  have c3 := cell_of_row w g 3 _ _ (0, 0) h3
  simp at c2 c3
  have f2 := frozen_of_row w g 2 _ _ h3
  have f3 := frozen_of_row w g 3 _ _ h3
  have d : (x != 0) = true := by simpa using hx
  clear h1 h2 h3 h4 hx
  go_enter Try.func36, Try.ntmps36
  go_wp2_with fail
  refine (H.out).mono ?_
  rintro e w' ⟨rfl, rfl⟩
  go_wp2_with fail
  go_end0
  exact HR.out
theorem next_nil (n : Int) (hn : 1 ≤ n) (w : World) : Calls Try.prog 40 #[.pointer none, .int .i64 n] w (Looks (.slice none 0 0) w) := by
  have d : decide (0 < n) = true := decide_eq_true (by omega)
  go_enter Try.func40, Try.ntmps40
  go_wp2_with fail
  refine (left_nil _).mono ?_
  rintro e w1 ⟨rfl, k, rfl⟩
  go_wp2_with fail
  refine (at_nil _).mono ?_
  rintro e w' ⟨rfl, rfl⟩
  go_wp2_with fail
  refine (fail_nil _ _ _).mono ?_
  rintro e w' ⟨rfl, rfl⟩
  go_wp2_with fail
  go_ret
  exact ⟨rfl, k, rfl⟩
theorem next_bad (F : Nat → Prop) (w : World) (g : Nat) (l : List Int) (p : Nat) (e f : Int) (h : RdAt F w g l p e f) (he : e ≠ 0) (n : Int) (hn : 1 ≤ n) : Calls Try.prog 40 #[.pointer (some ⟨g, 0, none⟩), .int .i64 n] w (Looks (.slice none 0 0) w) := by
  have d : decide (0 < n) = true := decide_eq_true (by omega)
  have H1 := Lib.hid (left_bad F w g l p e f h he)
  have H := Lib.hid (fun k => h.drew k)
  have HE := Lib.hid he
  clear h he
  go_enter Try.func40, Try.ntmps40
  go_wp2_with fail
  refine H1.out.mono ?_
  rintro x w1 ⟨rfl, k, rfl⟩
  have H2 := Lib.hid (at_any F _ g l p e f (H.out k))
  have H3 := Lib.hid (fun x y => fail_old F _ g l p e f (H.out k) HE.out x y)
  have H4 := Lib.hid (bad_any F _ g l p e f (H.out k) false (by simpa using HE.out))
  go_wp2_with fail
  refine (H2.out).mono ?_
  rintro e w' ⟨rfl, rfl⟩
  go_wp2_with fail
  refine (H3.out _ _).mono ?_
  rintro e w' ⟨rfl, rfl⟩
  go_wp2_with fail
  refine (H4.out).mono ?_
  rintro e w' ⟨rfl, rfl⟩
  go_wp2_with fail
  go_ret
  exact ⟨rfl, k, rfl⟩
set_option maxHeartbeats 1600000 in
theorem next_no (F : Nat → Prop) (w : World) (g : Nat) (l : List Int) (p : Nat) (f : Int) (h : RdAt F w g l p 0 f) (hl : l.length ≤ 1000000) (n : Int) (hn : ((l.length - p : Nat) : Int) < n) : Calls Try.prog 40 #[.pointer (some ⟨g, 0, none⟩), .int .i64 n] w (Made F (.slice none 0 0) w g l p 2 (p : Nat)) := by
  obtain ⟨L, hL⟩ : ∃ L, l.length - p = L := ⟨_, rfl⟩
  have H1 := Lib.hid (left_any F w g l p f h L hL hl)
  have H := Lib.hid (fun k => h.drew k)
  rw [hL] at hn
  have d : decide ((L : Int) < n) = true := decide_eq_true hn
  clear h
  go_enter Try.func40, Try.ntmps40
  go_wp2_with fail
  refine H1.out.mono ?_
  rintro x w1 ⟨rfl, k, rfl⟩
  have H2 := Lib.hid (at_any F _ g l p 0 f (H.out k))
  have H3 := Lib.hid (fail_new F _ g l p f (H.out k) 2 (p : Nat) (by decide))
  go_wp2_with fail
  refine (H2.out).mono ?_
  rintro e w' ⟨rfl, rfl⟩
  go_wp2_with fail
  refine H3.out.mono ?_
  rintro x w2 ⟨rfl, hr, hc⟩
  have H4 := Lib.hid (bad_any F _ g l p 2 (p : Nat) hr false rfl)
  have HR : Hid (Made F (.slice none 0 0) w g l p 2 (p : Nat) (.returned (.slice none 0 0)) w2) := Lib.hid ⟨rfl, hr, (Ch.of_below (bdrawn (Below.refl _ _) k)).then hc⟩
  clear hr hc H3 H2
  go_wp2_with fail
  refine (H4.out).mono ?_
  rintro e w' ⟨rfl, rfl⟩
  go_wp2_with fail
  go_ret
  exact HR.out
def NextYes (F : Nat → Prop) (w : World) (g : Nat) (l : List Int) (p m : Nat) (f : Int) (x : Ending) (w' : World) : Prop := ∃ A c, x = .returned (.slice A m c) ∧ BAt8 F w' A m c ((l.drop p).take m) ∧ RdAt F w' g l (p + m) 0 f ∧ Ch (fun k => k = g) w w'
set_option maxHeartbeats 1600000 in
theorem next_yes (F : Nat → Prop) (w : World) (g : Nat) (l : List Int) (p : Nat) (f : Int) (h : RdAt F w g l p 0 f) (hl : l.length ≤ 1000000) (n : Int) (m : Nat) (hm : n = m) (hn : p + m ≤ l.length) : Calls Try.prog 40 #[.pointer (some ⟨g, 0, none⟩), .int .i64 n] w (NextYes F w g l p m f) := by
  subst hm
  obtain ⟨L, hL⟩ : ∃ L, l.length - p = L := ⟨_, rfl⟩
  have H1 := Lib.hid (left_any F w g l p f h L hL hl)
  have H := Lib.hid (fun k => h.drew k)
  have d : decide ((L : Int) < (m : Int)) = false := decide_eq_false (by omega)
  clear h
  go_enter Try.func40, Try.ntmps40
  go_wp2_with fail
  refine H1.out.mono ?_
  rintro x w1 ⟨rfl, k, rfl⟩
  have hr := H.out k
  have H4 := Lib.hid (bad_any F _ g l p 0 f hr true rfl)
  obtain ⟨P, hP⟩ : ∃ P, p + m = P := ⟨_, rfl⟩
  have hPi : (p : Int) + (m : Int) = (P : Int) := by omega
  have hw : wrap64 ((p : Int) + m) = (P : Int) := by rw [IntWalk.wrap64_in _ (by omega)]; exact hPi
  have hs := hr.setAt P (by omega)
  have hC : Ch (fun k => k = g) w ((w.drewN k).setCell ⟨g, 1, none⟩ (.int .i64 (P : Nat))) := (Ch.of_below (bdrawn (Below.refl _ _) k)).then (Ch.set _ g 1 _ rfl)
  obtain ⟨a1, a2, A0, n0, cap0, a3, a4⟩ := hr
  have c1 := cell_of_row _ g 1 _ _ (0, 0) a3
  simp at c1
  have f1 := frozen_of_row _ g 1 _ _ a3
  clear a1 a2 a3 a4
  have HC := Lib.hid hC
  have HS := Lib.hid hs
  obtain ⟨b1, b2, A, n, cap, b3, b4⟩ := hs
  have e0 := cell_of_row _ g 0 _ _ (0, 0) b3
  have e1 := cell_of_row _ g 1 _ _ (0, 0) b3
  simp at e0 e1
  obtain ⟨A', c', hcut, hB⟩ := cut_lh b4 (p : Nat) (P : Nat) p P rfl rfl (by omega) (by rw [← b4.len]; omega)
  rw [show P - p = m by omega] at hcut hB
  have HB : Hid (BAt8 F ((w.drewN k).setCell ⟨g, 1, none⟩ (.int .i64 (P : Nat))) A' m c' ((l.drop p).take m)) := Lib.hid (by
    have e : (l.take P).drop p = (l.drop p).take m := by rw [List.drop_take]; congr 1; omega
    rw [← e]; exact hB)
  have HP := Lib.hid hP
  clear b1 b2 b3 b4 hC hB hP
  go_wp2_with fail
  refine (H4.out).mono ?_
  rintro e w' ⟨rfl, rfl⟩
  go_wp2_with fail
  generalize hwd : (w.drewN k).setCell ⟨g, 1, none⟩ (.int .i64 (P : Nat)) = wd at *
  go_quiet (fail)
  go_wp2_with fail
  go_ret
  exact ⟨A', c', rfl, HB.out.below (bdrawn (Below.refl _ _) _), by rw [HP.out]; exact HS.out.drew _, HC.out.drew _⟩

end Go.Proofs.Ythlaglhlmbkniaa
