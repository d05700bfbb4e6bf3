/- A reader's Number. -/
import Derived.Test.YthlaglhlmbkniaaWireNext
import Derived.LoopN
namespace Go.Proofs.Ythlaglhlmbkniaa
open Go.RowKit
set_option linter.unusedVariables false
set_option linter.unusedSimpArgs false

theorem or_up (s t : Int) (i : Nat) (h0 : 0 ≤ s) (h1 : s < 2 ^ i) (t0 : 0 ≤ t) (t1 : t < 2 ^ 63) (s1 : s < 2 ^ 63) (ht : t % 2 ^ i = 0) : bits .or .i64 s t = s + t := by
  have hw : ∀ n : Int, 0 ≤ n → n < 2 ^ 63 → IntKind.i64.wrap n = n := fun n h0 h1 => by rw [IntKind.wrap_i64]; omega
  have e := bits_join .i64 63 (by decide) hw i t s t0 ht t1 h0 h1 s1
  obtain ⟨a, rfl⟩ := Int.eq_ofNat_of_zero_le h0
  obtain ⟨b, rfl⟩ := Int.eq_ofNat_of_zero_le t0
  have ha : a < 2 ^ 63 := by exact_mod_cast s1
  have hb : b < 2 ^ 63 := by exact_mod_cast t1
  rw [(bits_nat .i64 63 (by decide) hw b a hb ha).2, Nat.or_comm, ← (bits_nat .i64 63 (by decide) hw a b ha hb).2] at e
  rw [e, Int.add_comm]
theorem number_0 (A : Option Addr) (c : Nat) (w : World) : Calls Try.prog 42 #[.slice A 0 c] w fun e w' => e = .returned (.int .i64 0) ∧ w = w' := by
  go_enter Try.func42, Try.ntmps42
  go_wp2_with fail
  refine wp_loop_rounds 1 ?_
  rw [rounds_succ]
  go_wp2_with fail
  go_ret
  exact ⟨rfl, rfl⟩
set_option maxHeartbeats 1600000 in
theorem number_1 (F : Nat → Prop) (A : Option Addr) (c : Nat) (x0 : Int) (w : World) (h : BAt8 F w A 1 c [x0]) : Calls Try.prog 42 #[.slice A 1 c] w fun e w' => e = .returned (.int .i64 (x0)) ∧ w = w' := by
  obtain ⟨b, o, rfl, _, hbl, hc⟩ := h.lies (by omega)
  have hf := h.fit
  have hm := h.max
  unfold maxLen at hm
  have c0 : w.cell? ⟨b, o + 0, none⟩ = some (.int .u8 x0) := hc 0 (by omega)
  have hb0 : 0 ≤ x0 ∧ x0 ≤ 255 := h.bd 0
  obtain ⟨p0, q0⟩ := hb0
  rw [Nat.add_zero] at c0
  have e0 : bits .or .i64 0 x0 = x0 := by
    have := or_up 0 x0 0 (by omega) (by decide) (by omega) (by omega) (by omega) (by omega)
    rw [this]; omega
  clear hc h
  go_enter Try.func42, Try.ntmps42
  go_wp2_with fail
  refine wp_loop_rounds 2 ?_
  rw [rounds_succ]
  go_wp2_with fail
  rw [rounds_succ]
  go_wp2_with fail
  go_ret
  exact ⟨rfl, rfl⟩
set_option maxHeartbeats 1600000 in
theorem number_2 (F : Nat → Prop) (A : Option Addr) (c : Nat) (x0 x1 : Int) (w : World) (h : BAt8 F w A 2 c [x0, x1]) : Calls Try.prog 42 #[.slice A 2 c] w fun e w' => e = .returned (.int .i64 (x0 + x1 * 256)) ∧ w = w' := by
  obtain ⟨b, o, rfl, _, hbl, hc⟩ := h.lies (by omega)
  have hf := h.fit
  have hm := h.max
  unfold maxLen at hm
  have c0 : w.cell? ⟨b, o + 0, none⟩ = some (.int .u8 x0) := hc 0 (by omega)
  have hb0 : 0 ≤ x0 ∧ x0 ≤ 255 := h.bd 0
  obtain ⟨p0, q0⟩ := hb0
  have c1 : w.cell? ⟨b, o + 1, none⟩ = some (.int .u8 x1) := hc 1 (by omega)
  have hb1 : 0 ≤ x1 ∧ x1 ≤ 255 := h.bd 1
  obtain ⟨p1, q1⟩ := hb1
  rw [Nat.add_zero] at c0
  have e0 : bits .or .i64 0 x0 = x0 := by
    have := or_up 0 x0 0 (by omega) (by decide) (by omega) (by omega) (by omega) (by omega)
    rw [this]; omega
  have e1 : bits .or .i64 x0 (x1 * 256) = x0 + x1 * 256 := or_up _ _ 8 (by omega) (by omega) (by omega) (by omega) (by omega) (by omega)
  clear hc h
  go_enter Try.func42, Try.ntmps42
  go_wp2_with fail
  refine wp_loop_rounds 3 ?_
  rw [rounds_succ]
  go_wp2_with fail
  rw [rounds_succ]
  go_wp2_with fail
  rw [rounds_succ]
  go_wp2_with fail
  go_ret
  exact ⟨rfl, rfl⟩
set_option maxHeartbeats 1600000 in
theorem number_3 (F : Nat → Prop) (A : Option Addr) (c : Nat) (x0 x1 x2 : Int) (w : World) (h : BAt8 F w A 3 c [x0, x1, x2]) : Calls Try.prog 42 #[.slice A 3 c] w fun e w' => e = .returned (.int .i64 (x0 + x1 * 256 + x2 * 65536)) ∧ w = w' := by
  obtain ⟨b, o, rfl, _, hbl, hc⟩ := h.lies (by omega)
  have hf := h.fit
  have hm := h.max
  unfold maxLen at hm
  have c0 : w.cell? ⟨b, o + 0, none⟩ = some (.int .u8 x0) := hc 0 (by omega)
  have hb0 : 0 ≤ x0 ∧ x0 ≤ 255 := h.bd 0
  obtain ⟨p0, q0⟩ := hb0
  have c1 : w.cell? ⟨b, o + 1, none⟩ = some (.int .u8 x1) := hc 1 (by omega)
  have hb1 : 0 ≤ x1 ∧ x1 ≤ 255 := h.bd 1
  obtain ⟨p1, q1⟩ := hb1
  have c2 : w.cell? ⟨b, o + 2, none⟩ = some (.int .u8 x2) := hc 2 (by omega)
  have hb2 : 0 ≤ x2 ∧ x2 ≤ 255 := h.bd 2
  obtain ⟨p2, q2⟩ := hb2
  rw [Nat.add_zero] at c0
  have e0 : bits .or .i64 0 x0 = x0 := by
    have := or_up 0 x0 0 (by omega) (by decide) (by omega) (by omega) (by omega) (by omega)
    rw [this]; omega
  have e1 : bits .or .i64 x0 (x1 * 256) = x0 + x1 * 256 := or_up _ _ 8 (by omega) (by omega) (by omega) (by omega) (by omega) (by omega)
  have e2 : bits .or .i64 (x0 + x1 * 256) (x2 * 65536) = x0 + x1 * 256 + x2 * 65536 := or_up _ _ 16 (by omega) (by omega) (by omega) (by omega) (by omega) (by omega)
  clear hc h
  go_enter Try.func42, Try.ntmps42
  go_wp2_with fail
  refine wp_loop_rounds 4 ?_
  rw [rounds_succ]
  go_wp2_with fail
  rw [rounds_succ]
  go_wp2_with fail
  rw [rounds_succ]
  go_wp2_with fail
  rw [rounds_succ]
  go_wp2_with fail
  go_ret
  exact ⟨rfl, rfl⟩
set_option maxHeartbeats 1600000 in
theorem number_4 (F : Nat → Prop) (A : Option Addr) (c : Nat) (x0 x1 x2 x3 : Int) (w : World) (h : BAt8 F w A 4 c [x0, x1, x2, x3]) : Calls Try.prog 42 #[.slice A 4 c] w fun e w' => e = .returned (.int .i64 (x0 + x1 * 256 + x2 * 65536 + x3 * 16777216)) ∧ w = w' := by
  obtain ⟨b, o, rfl, _, hbl, hc⟩ := h.lies (by omega)
  have hf := h.fit
  have hm := h.max
  unfold maxLen at hm
  have c0 : w.cell? ⟨b, o + 0, none⟩ = some (.int .u8 x0) := hc 0 (by omega)
  have hb0 : 0 ≤ x0 ∧ x0 ≤ 255 := h.bd 0
  obtain ⟨p0, q0⟩ := hb0
  have c1 : w.cell? ⟨b, o + 1, none⟩ = some (.int .u8 x1) := hc 1 (by omega)
  have hb1 : 0 ≤ x1 ∧ x1 ≤ 255 := h.bd 1
  obtain ⟨p1, q1⟩ := hb1
  have c2 : w.cell? ⟨b, o + 2, none⟩ = some (.int .u8 x2) := hc 2 (by omega)
  have hb2 : 0 ≤ x2 ∧ x2 ≤ 255 := h.bd 2
  obtain ⟨p2, q2⟩ := hb2
  have c3 : w.cell? ⟨b, o + 3, none⟩ = some (.int .u8 x3) := hc 3 (by omega)
  have hb3 : 0 ≤ x3 ∧ x3 ≤ 255 := h.bd 3
  obtain ⟨p3, q3⟩ := hb3
  rw [Nat.add_zero] at c0
  have e0 : bits .or .i64 0 x0 = x0 := by
    have := or_up 0 x0 0 (by omega) (by decide) (by omega) (by omega) (by omega) (by omega)
    rw [this]; omega
  have e1 : bits .or .i64 x0 (x1 * 256) = x0 + x1 * 256 := or_up _ _ 8 (by omega) (by omega) (by omega) (by omega) (by omega) (by omega)
  have e2 : bits .or .i64 (x0 + x1 * 256) (x2 * 65536) = x0 + x1 * 256 + x2 * 65536 := or_up _ _ 16 (by omega) (by omega) (by omega) (by omega) (by omega) (by omega)
  have e3 : bits .or .i64 (x0 + x1 * 256 + x2 * 65536) (x3 * 16777216) = x0 + x1 * 256 + x2 * 65536 + x3 * 16777216 := or_up _ _ 24 (by omega) (by omega) (by omega) (by omega) (by omega) (by omega)
  clear hc h
  go_enter Try.func42, Try.ntmps42
  go_wp2_with fail
  refine wp_loop_rounds 5 ?_
  rw [rounds_succ]
  go_wp2_with fail
  rw [rounds_succ]
  go_wp2_with fail
  rw [rounds_succ]
  go_wp2_with fail
  rw [rounds_succ]
  go_wp2_with fail
  rw [rounds_succ]
  go_wp2_with fail
  go_ret
  exact ⟨rfl, rfl⟩
theorem number_any (F : Nat → Prop) (A : Option Addr) (n c : Nat) (l : List Int) (w : World) (h : BAt8 F w A n c l) (hn : n ≤ 4) (V : Int) (hV : leV l = V) : Calls Try.prog 42 #[.slice A n c] w fun e w' => e = .returned (.int .i64 V) ∧ w = w' := by
  have hl := h.len
  subst hV
  rcases l with _ | ⟨x0, _ | ⟨x1, _ | ⟨x2, _ | ⟨x3, _ | ⟨x4, l⟩⟩⟩⟩⟩
  · obtain rfl : n = 0 := hl.symm
    exact number_0 A c w
  · obtain rfl : n = 1 := hl.symm
    rw [show leV [x0] = x0 by simp [leV]]
    exact number_1 F A c x0 w h
  · obtain rfl : n = 2 := hl.symm
    rw [show leV [x0, x1] = x0 + x1 * 256 by simp only [leV]; omega]
    exact number_2 F A c x0 x1 w h
  · obtain rfl : n = 3 := hl.symm
    rw [show leV [x0, x1, x2] = x0 + x1 * 256 + x2 * 65536 by simp only [leV]; omega]
    exact number_3 F A c x0 x1 x2 w h
  · obtain rfl : n = 4 := hl.symm
    rw [show leV [x0, x1, x2, x3] = x0 + x1 * 256 + x2 * 65536 + x3 * 16777216 by simp only [leV]; omega]
    exact number_4 F A c x0 x1 x2 x3 w h
  · simp only [List.length_cons] at hl; omega
theorem read_nil (n : Int) (h1 : 1 ≤ n) (h4 : n ≤ 4) (w : World) : Calls Try.prog 34 #[.pointer none, .int .i64 n] w (Looks (.int .i64 0) w) := by
  have HM := Lib.hid (mayBe_any n true (by rw [Bool.and_eq_true]; exact ⟨decide_eq_true h1, decide_eq_true h4⟩))
  have HN := Lib.hid (next_nil n h1)
  clear h1 h4
  go_enter Try.func34, Try.ntmps34
  go_wp2_with fail
  refine (HM.out _).mono ?_
  rintro e w' ⟨rfl, rfl⟩
  go_wp2_with fail
  refine (HN.out _).mono ?_
  rintro e w1 ⟨rfl, k, rfl⟩
  go_wp2_with fail
  refine (number_0 none 0 _).mono ?_
  rintro e w' ⟨rfl, rfl⟩
  go_wp2_with fail
  go_ret
  exact ⟨rfl, k, rfl⟩
theorem read_bad (F : Nat → Prop) (w : World) (g : Nat) (l : List Int) (p : Nat) (e f : Int) (h : RdAt F w g l p e f) (he : e ≠ 0) (n : Int) (h1 : 1 ≤ n) (h4 : n ≤ 4) : Calls Try.prog 34 #[.pointer (some ⟨g, 0, none⟩), .int .i64 n] w (Looks (.int .i64 0) w) := by
  have HM := Lib.hid (mayBe_any n true (by rw [Bool.and_eq_true]; exact ⟨decide_eq_true h1, decide_eq_true h4⟩))
  have HN := Lib.hid (next_bad F w g l p e f h he n h1)
  clear h1 h4 h he
  go_enter Try.func34, Try.ntmps34
  go_wp2_with fail
  refine (HM.out _).mono ?_
  rintro e w' ⟨rfl, rfl⟩
  go_wp2_with fail
  refine HN.out.mono ?_
  rintro x w1 ⟨rfl, k, rfl⟩
  go_wp2_with fail
  refine (number_0 none 0 _).mono ?_
  rintro e w' ⟨rfl, rfl⟩
  go_wp2_with fail
  go_ret
  exact ⟨rfl, k, rfl⟩
theorem read_no (F : Nat → Prop) (w : World) (g : Nat) (l : List Int) (p : Nat) (f : Int) (h : RdAt F w g l p 0 f) (hl : l.length ≤ 1000000) (n : Int) (h1 : 1 ≤ n) (h4 : n ≤ 4) (hn : ((l.length - p : Nat) : Int) < n) : Calls Try.prog 34 #[.pointer (some ⟨g, 0, none⟩), .int .i64 n] w (Made F (.int .i64 0) w g l p 2 (p : Nat)) := by
  have HM := Lib.hid (mayBe_any n true (by rw [Bool.and_eq_true]; exact ⟨decide_eq_true h1, decide_eq_true h4⟩))
  have HN := Lib.hid (next_no F w g l p f h hl n hn)
  clear h1 h4 h hn
  go_enter Try.func34, Try.ntmps34
  go_wp2_with fail
  refine (HM.out _).mono ?_
  rintro e w' ⟨rfl, rfl⟩
  go_wp2_with fail
  refine HN.out.mono ?_
  rintro x w1 ⟨rfl, hr, hc⟩
  have HR : Hid (Made F (.int .i64 0) w g l p 2 (p : Nat) (.returned (.int .i64 0)) w1) := Lib.hid ⟨rfl, hr, hc⟩
  clear hr hc HN
  go_wp2_with fail
  refine (number_0 none 0 _).mono ?_
  rintro e w' ⟨rfl, rfl⟩
  go_wp2_with fail
  go_ret
  exact HR.out
set_option maxHeartbeats 1600000 in
theorem read_yes (F : Nat → Prop) (w : World) (g : Nat) (l : List Int) (p : Nat) (f : Int) (h : RdAt F w g l p 0 f) (hl : l.length ≤ 1000000) (n : Int) (m : Nat) (hm : n = m) (h1 : 1 ≤ m) (h4 : m ≤ 4) (hn : p + m ≤ l.length) (V : Int) (hV : leV ((l.drop p).take m) = V) : Calls Try.prog 34 #[.pointer (some ⟨g, 0, none⟩), .int .i64 n] w (Made F (.int .i64 V) w g l (p + m) 0 f) := by
  subst hm
  have HM := Lib.hid (mayBe_any (m : Nat) true (by rw [Bool.and_eq_true]; exact ⟨decide_eq_true (by omega), decide_eq_true (by omega)⟩))
  have HN := Lib.hid (next_yes F w g l p f h hl (m : Nat) m rfl hn)
  have HV := Lib.hid hV
  clear h hn hV
  go_enter Try.func34, Try.ntmps34
  go_wp2_with fail
  refine (HM.out _).mono ?_
  rintro e w' ⟨rfl, rfl⟩
  go_wp2_with fail
  refine HN.out.mono ?_
  rintro x w1 ⟨A, c, rfl, hB, hr, hc⟩
  have HK := Lib.hid (number_any F A m c _ w1 hB h4 V HV.out)
  have HR : Hid (Made F (.int .i64 V) w g l (p + m) 0 f (.returned (.int .i64 V)) w1) := Lib.hid ⟨rfl, hr, hc⟩
  clear hB hr hc HN
  go_wp2_with fail
  refine (HK.out).mono ?_
  rintro e w' ⟨rfl, rfl⟩
  go_wp2_with fail
  go_ret
  exact HR.out

end Go.Proofs.Ythlaglhlmbkniaa
