/- The unpacker's take, room, put; how far a number reaches. -/
import Derived.Test.YtifkldllhbcmkaaDoorInfAt
namespace Go.Proofs.YtifkldllhbcmkaaDoor
open Go.RowKit
set_option linter.unusedVariables false

theorem nz {x : Nat} (h : x = 2 ∨ x = 4 ∨ x = 8) : ((x : Int) == 0) = false := by
  rw [beq_eq_false_iff_ne]; omega
/-- A number, or an error; the bits have changed alone. -/
def GaveB (c : Cx) (w : World) (R : Rs Nat) (e : Ending) (w' : World) : Prop :=
  (∃ v q, R = .ok (v, q) ∧ e = .returned (.tuple #[.int .i64 (v : Nat), .int .i64 0]) ∧ BitsAt (fun k => c.B ≤ k ∧ k < c.gb) w' c.gb c.bs q ∧ Ch (fun k => k = c.gb) w w') ∨ (∃ x, R = .error x ∧ (x = 2 ∨ x = 4 ∨ x = 8) ∧ e = .returned (.tuple #[.int .i64 0, .int .i64 (x : Nat)]) ∧ Ch (fun k => k = c.gb) w w')
theorem GaveB.toI {c : Cx} {w : World} {ob : Option Nat} {p : Nat} {o : List Int} {R : Rs Nat} {e : Ending} {w' : World} (h : UAt c w ob p o) (g : GaveB c w R e w') : GaveI c w ob o R e w' := by
  rcases g with ⟨v, q, h1, h2, h3, h4⟩ | g
  · exact Or.inl ⟨v, q, h1, h2, h.bitsMv h3 h4, Mv.bits h4⟩
  · obtain ⟨x, h1, h2, h3, h4⟩ := g
    exact Or.inr ⟨x, h1, h2, h3, h.mvBelow (Mv.bits (ob := ob) h4)⟩
set_option maxHeartbeats 800000 in
theorem take_b (c : Cx) (w : World) (ob : Option Nat) (p : Nat) (o : List Int) (n : Nat) (hn : n ≤ 24) (h : UAt c w ob p o) :
    Calls Tryd.prog 13 #[.pointer (some ⟨c.gu, 0, none⟩), .int .i64 (n : Nat)] w (GaveB c w (takeM c.bs n p)) := by
  have HU := Lib.hid h
  obtain ⟨v, fs, fd, c0, _, _, _, _, _, _, _⟩ := h.cells
  have hbs := c.hbs
  by_cases hp : p + n ≤ 8 * c.bs.length
  · have HT := Lib.hid (takeN_yes _ c.gb c.bs p n w h.bits hn hp (by omega))
    have HR : Hid (takeM c.bs n p = .ok (lo (bitsF c.bs p) n, p + n)) := Lib.hid (if_pos hp)
    clear h
    go_enter Tryd.func13, Tryd.ntmps13
    go_wp2_with fail
    refine HT.out.mono ?_
    rintro e w1 ⟨rfl, hb, hc⟩
    have HE : Hid (GaveB c w (takeM c.bs n p) (.returned (.tuple #[.int .i64 (lo (fun j => bitN c.bs (p + j)) n : Nat), .int .i64 0])) w1) := Lib.hid (Or.inl ⟨_, _, HR.out, rfl, hb, hc⟩)
    generalize lo (fun j => bitN c.bs (p + j)) n = V at *
    clear hb hc
    go_wp2_with fail
    go_ret2
    exact HE.out
  · have HT := Lib.hid (takeN_no _ c.gb c.bs p n w h.bits (by omega) (by omega))
    have HR : Hid (takeM c.bs n p = .error 2) := Lib.hid (if_neg hp)
    clear h
    go_enter Tryd.func13, Tryd.ntmps13
    go_wp2_with fail
    refine HT.out.mono ?_
    rintro e w1 ⟨rfl, k, rfl⟩
    go_wp2_with fail
    go_ret2
    exact Or.inr ⟨2, HR.out, Or.inl rfl, rfl, Ch.of_below (bdrawn (Below.refl _ _) k)⟩
theorem take_u (c : Cx) (w : World) (ob : Option Nat) (p : Nat) (o : List Int) (n : Nat) (hn : n ≤ 24) (h : UAt c w ob p o) :
    Calls Tryd.prog 13 #[.pointer (some ⟨c.gu, 0, none⟩), .int .i64 (n : Nat)] w (GaveI c w ob o (takeM c.bs n p)) := (take_b c w ob p o n hn h).mono fun _ _ => GaveB.toI h
set_option maxHeartbeats 800000 in
theorem room_u (c : Cx) (w : World) (ob : Option Nat) (p : Nat) (o : List Int) (n : Nat) (hn : n ≤ 1000000) (h : UAt c w ob p o) (b : Bool) (hb : b = decide (n ≤ c.lim - o.length)) :
    Calls Tryd.prog 19 #[.pointer (some ⟨c.gu, 0, none⟩), .int .i64 (n : Nat)] w fun e w' => e = .returned (.bool b) ∧ Below w.heap.size w w' := by
  obtain ⟨v, fs, fd, c0, c1, c2, _, _, _, hO, _⟩ := h.cells
  obtain ⟨A, cap, rfl, hcap, hmax⟩ := own_slice hO
  have hlim := c.hlim
  have hl := h.lim
  unfold maxLen at hmax
  clear hO h
  generalize c.lim = L at *
  generalize o.length = m at *
  have d1 : decide ((n : Int) ≤ (L : Int) - (m : Int)) = b := by
    subst hb
    exact decide_eq_decide.2 (by omega)
  clear hb
  go_enter Tryd.func19, Tryd.ntmps19
  go_wp2_with fail
  go_region
  go_wp2_with fail
  go_ret
  exact ⟨rfl, bdrawn (Below.refl _ _) _⟩

end Go.Proofs.YtifkldllhbcmkaaDoor
