/- Both Parses, with what is known of the answer; blocks held against each other. -/
import Derived.Test.YtcodbcfdbkmegaaTapParse
import Derived.Test.YtcodbcfdbkmegaaTapRefP
import Derived.Test.YtcodbcfdbkmegaaTapSum
import Derived.Test.YtcodbcfdbkmegaaConv
import Derived.Lib.SlBytesConst
namespace Go.Proofs.Ytcodbcfdbkmegaa
open Go.RowKit
set_option linter.unusedVariables false
set_option linter.unusedSimpArgs false

def ParsedYes (w : World) (L : List (List Int)) (x : Ending) (w' : World) : Prop := ∃ A n cap, x = .returned (.tuple #[.slice A n cap, .nilIface]) ∧ Parts (fun k => w.heap.size ≤ k) w' A n cap L ∧ Below w.heap.size w w'
def ParsedNo (w : World) (e : Int) (f : Nat) (x : Ending) (w' : World) : Prop := ∃ k, x = .returned (.tuple #[.slice none 0 0, .iface 54 (.pointer (some ⟨k, 0, none⟩))]) ∧ FaultAt w' k e (f : Nat) ∧ Below w.heap.size w w'
theorem parse_all (F : Nat → Prop) (A : Option Addr) (n cap : Nat) (l : List Int) (w : World) (hl : BAt8 F w A n cap l) (hn : n ≤ 1000000 ∨ 1048576 < n) : Calls Try.prog 8 #[.slice A n cap] w (Parsed w (parseM l)) := by
  rcases hn with h | h
  · exact parse_any F A n cap l w hl h
  · exact parse_long F A n cap l w hl h
theorem parse_yes (F : Nat → Prop) (A : Option Addr) (n cap : Nat) (l : List Int) (w : World) (hl : BAt8 F w A n cap l) (hn : n ≤ 1000000 ∨ 1048576 < n) (L : List (List Int)) (hL : parseM l = .ok L) : Calls Try.prog 8 #[.slice A n cap] w (ParsedYes w L) := by
  refine (parse_all F A n cap l w hl hn).mono ?_
  rintro x w' (⟨M, B, m, c, h1, h2, h3, h4⟩ | ⟨e, f, k, h1, _⟩)
  · rw [hL] at h1
    obtain rfl : L = M := by injection h1
    exact ⟨B, m, c, h2, h3, h4⟩
  · rw [hL] at h1; cases h1
theorem parse_no (F : Nat → Prop) (A : Option Addr) (n cap : Nat) (l : List Int) (w : World) (hl : BAt8 F w A n cap l) (hn : n ≤ 1000000 ∨ 1048576 < n) (e : Int) (f : Nat) (hL : parseM l = .error (e, f)) : Calls Try.prog 8 #[.slice A n cap] w (ParsedNo w e f) := by
  refine (parse_all F A n cap l w hl hn).mono ?_
  rintro x w' (⟨M, B, m, c, h1, _⟩ | ⟨e', f', k, h1, _, h2, h3, h4⟩)
  · rw [hL] at h1; cases h1
  · rw [hL] at h1
    injection h1 with h1
    injection h1 with h1 h5
    subst h1 h5
    exact ⟨k, h2, h3, h4⟩
theorem rparse_all (F : Nat → Prop) (A : Option Addr) (n cap : Nat) (l : List Int) (w : World) (hl : BAt8 F w A n cap l) (hn : n ≤ 1000000 ∨ 1048576 < n) : Calls Try.prog 9 #[.slice A n cap] w (RefParsed w (parseM l)) := by
  have hlen := hl.len
  rcases hn with h | h
  · exact rparse_any F A n cap l w hl h _ (by unfold parseM; rw [if_neg (by omega)])
  · exact rparse_long F A n cap l w hl h _ (by unfold parseM; rw [if_pos (by omega)])
def RefYes (w : World) (L : List (List Int)) (x : Ending) (w' : World) : Prop := ∃ A n cap, x = .returned (.tuple #[.slice A n cap, .int .i64 0, .int .i64 0]) ∧ Parts (fun _ => True) w' A n cap L ∧ Below w.heap.size w w'
theorem rparse_yes (F : Nat → Prop) (A : Option Addr) (n cap : Nat) (l : List Int) (w : World) (hl : BAt8 F w A n cap l) (hn : n ≤ 1000000 ∨ 1048576 < n) (L : List (List Int)) (hL : parseM l = .ok L) : Calls Try.prog 9 #[.slice A n cap] w (RefYes w L) := by
  refine (rparse_all F A n cap l w hl hn).mono ?_
  rintro x w' (⟨M, B, m, c, h1, h2, h3, h4⟩ | ⟨e, f, h1, _⟩)
  · rw [hL] at h1
    obtain rfl : L = M := by injection h1
    exact ⟨B, m, c, h2, h3, h4⟩
  · rw [hL] at h1; cases h1
theorem rparse_no (F : Nat → Prop) (A : Option Addr) (n cap : Nat) (l : List Int) (w : World) (hl : BAt8 F w A n cap l) (hn : n ≤ 1000000 ∨ 1048576 < n) (e : Int) (f : Nat) (hL : parseM l = .error (e, f)) : Calls Try.prog 9 #[.slice A n cap] w fun x w' => x = .returned (.tuple #[.slice none 0 0, .int .i64 e, .int .i64 (f : Nat)]) ∧ Below w.heap.size w w' := by
  refine (rparse_all F A n cap l w hl hn).mono ?_
  rintro x w' (⟨M, B, m, c, h1, _⟩ | ⟨e', f', h1, _, h2, h4⟩)
  · rw [hL] at h1; cases h1
  · rw [hL] at h1
    injection h1 with h1
    injection h1 with h1 h5
    subst h1 h5
    exact ⟨h2, h4⟩
theorem parseM_er {l : List Int} {e : Int} {f : Nat} (h : parseM l = .error (e, f)) : e ≠ 0 ∧ f ≤ l.length := by
  unfold parseM at h
  split at h
  · injection h with h
    injection h with h1 h2
    omega
  · have := tap_er l _ 0 0 e f rfl h
    omega
set_option maxHeartbeats 1600000 in
theorem same_yes (F G : Nat → Prop) (A B : Option Addr) (n c d : Nat) (L : List (List Int)) (w : World) (hA : Parts F w A n c L) (hB : Parts G w B n d L) : Calls Try.prog 10 #[.slice A n c, .slice B n d] w fun x w' => x = .returned (.bool true) ∧ ∃ k, w' = w.drewN k := by
  have HA := Lib.hid hA
  have HB := Lib.hid hB
  have hc := hA.fit
  have hd := hB.fit
  have hcm := hA.max
  have hdm := hB.max
  unfold maxLen at hcm hdm
  clear hA hB
  go_enter Try.func10, Try.ntmps10
  go_wp2_with fail
  go_loopw [5] (fun i wr => ∃ k : Nat, i = .int .i64 k ∧ k ≤ n ∧ Hid (∃ m, wr = w.drewN m)) (fun i _ => n - (intOf i).toNat)
  case atStart => exact ⟨0, rfl, by omega, Lib.hid (drew0 _)⟩
  case round =>
    obtain ⟨k, rfl, hk, HW⟩ := hrel
    have hbw : Below w.heap.size w wr := by obtain ⟨m, hm⟩ := HW.out; rw [hm]; exact bdrawn (Below.refl _ _) m
    by_cases hlt : k < n
    · obtain ⟨b1, o1, A1, n1, c1, rfl, _, hb1, k1, B1⟩ := (HA.out.below hbw).lies k hlt
      obtain ⟨b2, o2, A2, n2, c2, rfl, _, hb2, k2, B2⟩ := (HB.out.below hbw).lies k hlt
      obtain ⟨T, hT⟩ : ∃ T, strOfNums (L.getD k []) = T := ⟨_, rfl⟩
      have q1 := conv_of (B1.below (Below.refl _ _).drew)
      have q2 := conv_of (B2.below (Below.refl _ _).drew)
      rw [hT] at q1 q2
      have hT0 : (T.toList == T.toList) = true := beq_self_eq_true _
      have HN : Hid (∃ m, wr.drew = w.drewN m) := Lib.hid (by obtain ⟨m, hm⟩ := HW.out; exact ⟨m + 1, by rw [hm]; rfl⟩)
      clear hT B1 B2 hbw HW
      go_wp2_with fail
      go_region
      go_wp2_with fail
      go_roundw
      case rel => exact ⟨k + 1, by go_num, by omega, HN⟩
      case measure => simp [intOf]; omega
    · have HE := Lib.hid HW.out
      clear hbw HW
      go_wp2_with fail
      go_ret
      exact ⟨rfl, HE.out⟩

end Go.Proofs.Ytcodbcfdbkmegaa
