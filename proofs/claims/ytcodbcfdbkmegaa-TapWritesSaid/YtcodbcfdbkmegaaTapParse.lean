/- tap's Parse: its contract. -/
import Derived.Test.YtcodbcfdbkmegaaTapBlocks
namespace Go.Proofs.Ytcodbcfdbkmegaa
open Go.RowKit
set_option linter.unusedVariables false
set_option linter.unusedSimpArgs false

/-- What bytes read as. -/
def parseM (l : List Int) : Except (Int × Nat) (List (List Int)) := if 1048576 < l.length then .error (8, 0) else tapR l 0 0
def Parsed (w : World) (R : Except (Int × Nat) (List (List Int))) (x : Ending) (w' : World) : Prop :=
  (∃ L A n cap, R = .ok L ∧ x = .returned (.tuple #[.slice A n cap, .nilIface]) ∧ Parts (fun k => w.heap.size ≤ k) w' A n cap L ∧ Below w.heap.size w w') ∨
  (∃ e f k, R = .error (e, f) ∧ e ≠ 0 ∧ x = .returned (.tuple #[.slice none 0 0, .iface 54 (.pointer (some ⟨k, 0, none⟩))]) ∧ FaultAt w' k e (f : Nat) ∧ Below w.heap.size w w')
theorem parse_long (F : Nat → Prop) (A : Option Addr) (n cap : Nat) (l : List Int) (w : World) (hl : BAt8 F w A n cap l) (hn : 1048576 < n) : Calls Try.prog 8 #[.slice A n cap] w (Parsed w (parseM l)) := by
  have hf := hl.fit
  have hm := hl.max
  unfold maxLen at hm
  have d : decide (1048576 < (n : Int)) = true := decide_eq_true (by omega)
  have d' : decide (1048576 < n) = true := decide_eq_true hn
  have HR : Hid (Parsed w (parseM l) (.returned (.tuple #[.slice none 0 0, .iface 54 (.pointer (some ⟨w.heap.size, 0, none⟩))])) (w.alloc (.cells #[.int .i64 8, .int .i64 0] 56))) :=
    Lib.hid (Or.inr ⟨8, 0, _, by unfold parseM; rw [if_pos (by rw [hl.len]; exact hn)], by decide, rfl, heap_alloc_new _ _, bnew w _⟩)
  clear hl
  go_enter Try.func8, Try.ntmps8
  go_wp2_with fail
  go_ret2
  exact HR.out
theorem parse_any (F : Nat → Prop) (A : Option Addr) (n cap : Nat) (l : List Int) (w : World) (hl : BAt8 F w A n cap l) (hn : n ≤ 1000000) : Calls Try.prog 8 #[.slice A n cap] w (Parsed w (parseM l)) := by
  have hlen := hl.len
  obtain ⟨R, hR⟩ : ∃ R, tapR l 0 0 = R := ⟨_, rfl⟩
  have hP : parseM l = R := by unfold parseM; rw [if_neg (by omega), hR]
  rw [hP]
  have hbd := hl.bd
  have HO := Lib.hid (open_any F A n cap l w hl hn)
  have hf := hl.fit
  have hm := hl.max
  unfold maxLen at hm
  have d : decide (1048576 < (n : Int)) = false := decide_eq_false (by omega)
  have d' : decide (1048576 < n) = false := decide_eq_false (by omega)
  have H8 := Lib.hid hbd
  have HRR := Lib.hid hR
  clear hl hP hbd hR
  go_enter Try.func8, Try.ntmps8
  go_wp2_with fail
  refine HO.out.mono ?_
  rintro x w1 ⟨g, rfl, hg, hr, hb⟩
  have HG := Lib.hid hg
  have HB := Lib.hid hb
  have hgw := hr.lt
  have HK := Lib.hid (blocks_any _ w1 g l hr (fun k hk => by omega) (by omega) H8.out R HRR.out)
  clear hg hb hr hgw
  go_wp2_with fail
  refine HK.out.mono ?_
  rintro x w2 ⟨A2, n2, c2, rfl, hE⟩
  rcases hE with ⟨L, hRL, hp, hr, hc⟩ | ⟨p, e, f, he, hRe, hr, hc⟩
  · have HE := Lib.hid (end_ok _ w2 g l l.length 0 hr rfl (by omega))
    have q : ∀ u, (binOp .neq 26 .nilIface .nilIface).run Try.prog u = .ok (.bool false) u := fun _ => rfl
    have HR : Hid (∀ k, Parsed w R (.returned (.tuple #[.slice A2 n2 c2, .nilIface])) (w2.drewN k)) := Lib.hid (fun k => Or.inl ⟨L, A2, n2, c2, hRL, rfl, (hp.weak fun k _ hk => Nat.le_trans HB.out.size hk).below (bdrawn (Below.refl _ _) k), bdrawn (HB.out.trans (hc.below (fun k hk => by subst hk; exact HG.out) HB.out.size)) k⟩)
    clear hp hr hc hRL HO HK
    go_wp2_with fail
    refine HE.out.mono ?_
    rintro x w3 ⟨rfl, k, rfl⟩
    go_wp2_with fail
    go_ret2
    exact HR.out k
  · have HE := Lib.hid (end_bad _ w2 g l p e f hr he)
    have HD := Lib.hid (HB.out.trans (hc.below (fun k hk => by subst hk; exact HG.out) HB.out.size))
    have HRe := Lib.hid hRe
    have HN := Lib.hid he
    clear hr hc hRe HO HK he
    go_wp2_with fail
    refine HE.out.mono ?_
    rintro x w3 ⟨k, rfl, hk, hfa, hb3⟩
    have q : ∀ u, (binOp .neq 26 (.iface 54 (.pointer (some ⟨k, 0, none⟩))) .nilIface).run Try.prog u = .ok (.bool true) u := fun _ => rfl
    have HR : Hid (Parsed w R (.returned (.tuple #[.slice none 0 0, .iface 54 (.pointer (some ⟨k, 0, none⟩))])) w3) := Lib.hid (Or.inr ⟨e, f, k, HRe.out, HN.out, rfl, hfa, HD.out.trans (hb3.mono HD.out.size)⟩)
    clear hk hfa hb3
    go_wp2_with fail
    go_ret2
    exact HR.out

end Go.Proofs.Ytcodbcfdbkmegaa
