/- A reader's calls, whatever its state: what each makes of it. -/
import Derived.Test.YthlaglhlmbkniaaTzxMath
import Derived.Test.YthlaglhlmbkniaaWireTake
import Derived.Test.YthlaglhlmbkniaaWireNumbers
namespace Go.Proofs.Ythlaglhlmbkniaa
open Go.RowKit
set_option linter.unusedVariables false
set_option linter.unusedSimpArgs false
set_option maxRecDepth 100000

/-- A reader in block g, over the bytes l, in the state s. -/
def RS (F : Nat → Prop) (w : World) (g : Nat) (l : List Int) (s : Rst) : Prop := RdAt F w g l s.p s.e s.f
theorem RS.below {F : Nat → Prop} {w w' : World} {g : Nat} {l : List Int} {s : Rst} (h : RS F w g l s) (hb : Below w.heap.size w w') : RS F w' g l s := RdAt.below h hb
theorem RS.drew {F : Nat → Prop} {w : World} {g : Nat} {l : List Int} {s : Rst} (h : RS F w g l s) (n : Nat) : RS F (w.drewN n) g l s := RdAt.drew h n
theorem RS.lt {F : Nat → Prop} {w : World} {g : Nat} {l : List Int} {s : Rst} (h : RS F w g l s) : g < w.heap.size := RdAt.lt h
theorem RS.fit {F : Nat → Prop} {w : World} {g : Nat} {l : List Int} {s : Rst} (h : RS F w g l s) : s.p ≤ l.length := RdAt.fit h
theorem RS.ch {F G : Nat → Prop} {w w' : World} {g : Nat} {l : List Int} {s : Rst} (h : RS F w g l s) (hc : Ch G w w') (hg : ¬ G g) (hF : ∀ k, F k → ¬ G k) : RS F w' g l s := RdAt.ch h hc hg hF
/-- What a call on reader g leaves: v answered, that reader's block alone changed. -/
def Got (F : Nat → Prop) (v : Value) (w : World) (g : Nat) (l : List Int) (s : Rst) (x : Ending) (w' : World) : Prop := x = .returned v ∧ RS F w' g l s ∧ Ch (fun k => k = g) w w'
theorem Got.looks {F : Nat → Prop} {v : Value} {w : World} {g : Nat} {l : List Int} {s : Rst} (h : RS F w g l s) {x : Ending} {w' : World} (hl : Looks v w x w') : Got F v w g l s x w' := by
  obtain ⟨rfl, n, rfl⟩ := hl
  exact ⟨rfl, h.drew n, Ch.of_below (bdrawn (Below.refl _ _) n)⟩
theorem num_any (F : Nat → Prop) (w : World) (g : Nat) (l : List Int) (s : Rst) (h : Hid (RS F w g l s)) (hl : l.length ≤ 1000000) (n : Int) (m : Nat) (hm : n = m) (h1 : 1 ≤ m) (h4 : m ≤ 4) :
    Calls Try.prog 34 #[.pointer (some ⟨g, 0, none⟩), .int .i64 n] w (Got F (.int .i64 (numV l s m)) w g l (takS l s m)) := by
  by_cases he : s.e = 0
  · have hr : RdAt F w g l s.p 0 s.f := by have := h.out; unfold RS at this; rwa [he] at this
    by_cases hn : s.p + m ≤ l.length
    · rw [takS_yes he hn]
      unfold numV
      rw [takB_yes he hn]
      refine (read_yes F w g l s.p s.f hr hl n m hm h1 h4 hn _ rfl).mono ?_
      rintro x w' ⟨rfl, k1, k2⟩
      exact ⟨rfl, k1, k2⟩
    · rw [takS_no he hn]
      unfold numV
      rw [takB_no he hn]
      refine (read_no F w g l s.p s.f hr hl n (by omega) (by omega) (by omega)).mono ?_
      rintro x w' ⟨rfl, k1, k2⟩
      exact ⟨rfl, k1, k2⟩
  · rw [takS_bad he, numV_bad he]
    exact (read_bad F w g l s.p s.e s.f h.out he n (by omega) (by omega)).mono fun x w' hx => Got.looks h.out hx
/-- Bytes of its own are answered. -/
def GotB (F : Nat → Prop) (b : List Int) (w : World) (g : Nat) (l : List Int) (s : Rst) (x : Ending) (w' : World) : Prop := ∃ A n c, x = .returned (.slice A n c) ∧ BAt8 (fun k => w.heap.size ≤ k) w' A n c b ∧ RS F w' g l s ∧ Ch (fun k => k = g) w w'
theorem take_badN (F : Nat → Prop) (w : World) (g : Nat) (l : List Int) (p : Nat) (e f : Int) (h : RdAt F w g l p e f) (he : e ≠ 0) (n : Int) : Calls Try.prog 33 #[.pointer (some ⟨g, 0, none⟩), .int .i64 n] w (Took F w g 0 [] l p e f) := by
  by_cases h0 : n = 0
  · subst h0; exact take_bad F w g l p e f h he
  by_cases hneg : n < 0
  · have H1 := Lib.hid (at_any F w g l p e f h)
    have H2 := Lib.hid (fun x y => fail_old F w g l p e f h he x y)
    have HR : Hid (Took F w g 0 [] l p e f (.returned (.slice none 0 0)) w) := Lib.hid ⟨none, 0, rfl, BAt8.empty _ _, h, Ch.refl _ _⟩
    have d : decide (n < 0) = true := decide_eq_true hneg
    clear h he h0 hneg
    go_enter Try.func33, Try.ntmps33
    go_wp2_with fail
    refine (H1.out).mono ?_
    rintro e w' ⟨rfl, rfl⟩
    go_wp2_with fail
    refine (H2.out _ _).mono ?_
    rintro e w' ⟨rfl, rfl⟩
    go_wp2_with fail
    go_ret
    exact HR.out
  · have HN := Lib.hid (next_bad F w g l p e f h he n (by omega))
    have H := Lib.hid h
    have d : decide (n < 0) = false := decide_eq_false hneg
    clear h he hneg
    go_enter Try.func33, Try.ntmps33
    go_wp2_with fail
    refine HN.out.mono ?_
    rintro x w1 ⟨rfl, k, rfl⟩
    go_wp2_with fail
    refine (clone_any (fun _ => False) none 0 0 [] _ (BAt8.empty _ _) (by decide)).mono ?_
    rintro x w2 ⟨A, c, rfl, hB, hb⟩
    have hb2 : Below w.heap.size w w2 := (bdrawn (Below.refl _ _) k).trans hb
    have HR : Hid (Took F w g 0 [] l p e f (.returned (.slice A 0 c)) w2) := Lib.hid ⟨A, c, rfl, hB, H.out.below hb2, Ch.of_below hb2⟩
    clear hB hb hb2
    go_wp2_with fail
    go_ret
    exact HR.out
/-- Take of n bytes; a negative n is asked of a reader with a fault alone. -/
theorem take_any (F : Nat → Prop) (w : World) (g : Nat) (l : List Int) (s : Rst) (h : Hid (RS F w g l s)) (hl : l.length ≤ 1000000) (n : Int) (hn0 : s.e ≠ 0 ∨ 0 ≤ n) :
    Calls Try.prog 33 #[.pointer (some ⟨g, 0, none⟩), .int .i64 n] w (GotB F (takB l s n.toNat) w g l (takS l s n.toNat)) := by
  by_cases he : s.e = 0
  · have hr : RdAt F w g l s.p 0 s.f := by have := h.out; unfold RS at this; rwa [he] at this
    have hn1 : 0 ≤ n := hn0.resolve_left (fun x => x he)
    by_cases hn : s.p + n.toNat ≤ l.length
    · rw [takS_yes he hn, takB_yes he hn]
      refine (take_yes F w g l s.p s.f hr hl n n.toNat (by omega) hn).mono ?_
      rintro x w' ⟨A, c, rfl, k1, k2, k3⟩
      exact ⟨A, _, c, rfl, k1, k2, k3⟩
    · rw [takS_no he hn, takB_no he hn]
      refine (take_no F w g l s.p s.f hr hl n (by have := hr.fit; omega)).mono ?_
      rintro x w' ⟨A, c, rfl, k1, k2, k3⟩
      exact ⟨A, _, c, rfl, k1, k2, k3⟩
  · rw [takS_bad he, takB_bad he]
    refine (take_badN F w g l s.p s.e s.f h.out he n).mono ?_
    rintro x w' ⟨A, c, rfl, k1, k2, k3⟩
    exact ⟨A, _, c, rfl, k1, k2, k3⟩
/-- How many bytes are left, of a reader in such a state. -/
def leftN (l : List Int) (s : Rst) : Nat := if s.e = 0 then l.length - s.p else 0
theorem left_s (F : Nat → Prop) (w : World) (g : Nat) (l : List Int) (s : Rst) (h : Hid (RS F w g l s)) (hl : l.length ≤ 1000000) (L : Nat) (hL : leftN l s = L) : Calls Try.prog 35 #[.pointer (some ⟨g, 0, none⟩)] w (Looks (.int .i64 (L : Nat)) w) := by
  unfold leftN at hL
  by_cases he : s.e = 0
  · rw [if_pos he] at hL
    have hr : RdAt F w g l s.p 0 s.f := by have := h.out; unfold RS at this; rwa [he] at this
    exact left_any F w g l s.p s.f hr L hL hl
  · rw [if_neg he] at hL
    subst hL
    exact left_bad F w g l s.p s.e s.f h.out he
theorem at_s (F : Nat → Prop) (w : World) (g : Nat) (l : List Int) (s : Rst) (h : Hid (RS F w g l s)) : Calls Try.prog 37 #[.pointer (some ⟨g, 0, none⟩)] w fun x w' => x = .returned (.int .i64 (s.p : Nat)) ∧ w = w' := at_any F w g l s.p s.e s.f h.out
theorem bad_s (F : Nat → Prop) (w : World) (g : Nat) (l : List Int) (s : Rst) (h : Hid (RS F w g l s)) (q : Bool) (hq : (s.e == 0) = q) : Calls Try.prog 39 #[.pointer (some ⟨g, 0, none⟩)] w fun x w' => x = .returned (.bool (!q)) ∧ w = w' := bad_any F w g l s.p s.e s.f h.out q hq
theorem fail_any (F : Nat → Prop) (w : World) (g : Nat) (l : List Int) (s : Rst) (h : Hid (RS F w g l s)) (x y : Int) (hx : x ≠ 0) : Calls Try.prog 36 #[.pointer (some ⟨g, 0, none⟩), .int .i64 x, .int .i64 y] w (Got F (.tuple #[]) w g l (failS s x y)) := by
  by_cases he : s.e = 0
  · have hr : RdAt F w g l s.p 0 s.f := by have := h.out; unfold RS at this; rwa [he] at this
    rw [failS_ok he]
    refine (fail_new F w g l s.p s.f hr x y hx).mono ?_
    rintro x w' ⟨rfl, k1, k2⟩
    exact ⟨rfl, k1, k2⟩
  · rw [failS_bad he]
    refine (fail_old F w g l s.p s.e s.f h.out he x y).mono ?_
    rintro x w' ⟨rfl, rfl⟩
    exact ⟨rfl, h.out, Ch.refl _ _⟩
/-- Numbers of its own are answered. -/
def GotI (F : Nat → Prop) (w : World) (g : Nat) (l : List Int) (s : Rst) (x : Ending) (w' : World) : Prop := ∃ A n c ts, x = .returned (.slice A n c) ∧ IAt (fun k => w.heap.size ≤ k) w' A n c ts ∧ RS F w' g l s ∧ Ch (fun k => k = g) w w'
set_option maxHeartbeats 1600000 in
theorem numbers_bad (F : Nat → Prop) (w : World) (g : Nat) (l : List Int) (p : Nat) (e f : Int) (h : RdAt F w g l p e f) (he : e ≠ 0) (N k : Nat) (h1 : 1 ≤ k) (h4 : k ≤ 4) : Calls Try.prog 45 #[.pointer (some ⟨g, 0, none⟩), .int .i64 (N : Nat), .int .i64 (k : Nat)] w (Looks (.slice none 0 0) w) := by
  have H1 := Lib.hid (left_bad F w g l p e f h he)
  have H := Lib.hid (fun n => h.drew n)
  have HE := Lib.hid he
  have HM := Lib.hid (mayBe_any (k : Nat) true (by rw [Bool.and_eq_true]; exact ⟨decide_eq_true (by omega), decide_eq_true (by omega)⟩))
  have hQi : (0 : Int) / (k : Int) = 0 := Int.zero_ediv _
  have hQw : wrap64 (0 : Int) = 0 := IntWalk.wrap64_in _ (by omega)
  have d1 : decide ((0 : Int) < (k : Int)) = true := decide_eq_true (by omega)
  have d1' : decide (0 < k) = true := decide_eq_true (by omega)
  have d3 : decide ((N : Int) < 0) = false := decide_eq_false (by omega)
  have d4 : ((k : Int) == 0) = false := by rw [beq_eq_false_iff_ne]; omega
  have hkne : (k : Int) ≠ 0 := by omega
  clear h he
  by_cases hN : 0 < N
  · have d2 : decide ((0 : Int) < (N : Int)) = true := decide_eq_true (by omega)
    have d2' : decide (0 < N) = true := decide_eq_true hN
    go_enter Try.func45, Try.ntmps45
    go_wp2_with fail
    refine H1.out.mono ?_
    rintro x w1 ⟨rfl, n1, rfl⟩
    have H2 := Lib.hid (at_any F _ g l p e f (H.out n1))
    have H3 := Lib.hid (fun x y => fail_old F _ g l p e f (H.out n1) HE.out x y)
    have H4 := Lib.hid (bad_any F _ g l p e f (H.out n1) false (by simpa using HE.out))
    go_wp2_with fail
    refine (H2.out).mono ?_
    rintro e w' ⟨rfl, rfl⟩
    go_wp2_with fail
    refine (H3.out _ _).mono ?_
    rintro e w' ⟨rfl, rfl⟩
    go_wp2_with fail
    refine (HM.out _).mono ?_
    rintro e w' ⟨rfl, rfl⟩
    go_wp2_with fail
    refine (H4.out).mono ?_
    rintro e w' ⟨rfl, rfl⟩
    go_wp2_with fail
    go_ret
    exact ⟨rfl, n1, rfl⟩
  · have d2 : decide ((0 : Int) < (N : Int)) = false := decide_eq_false (by omega)
    have d2' : decide (0 < N) = false := decide_eq_false hN
    go_enter Try.func45, Try.ntmps45
    go_wp2_with fail
    refine H1.out.mono ?_
    rintro x w1 ⟨rfl, n1, rfl⟩
    have H4 := Lib.hid (bad_any F _ g l p e f (H.out n1) false (by simpa using HE.out))
    go_wp2_with fail
    refine (HM.out _).mono ?_
    rintro e w' ⟨rfl, rfl⟩
    go_wp2_with fail
    refine (H4.out).mono ?_
    rintro e w' ⟨rfl, rfl⟩
    go_wp2_with fail
    go_ret
    exact ⟨rfl, n1, rfl⟩
set_option maxHeartbeats 1600000 in
theorem numbers_no (F : Nat → Prop) (w : World) (g : Nat) (l : List Int) (p : Nat) (f : Int) (h : RdAt F w g l p 0 f) (hl : l.length ≤ 1000000) (N k : Nat) (h1 : 1 ≤ k) (h4 : k ≤ 4) (hN : ¬ p + k * N ≤ l.length) : Calls Try.prog 45 #[.pointer (some ⟨g, 0, none⟩), .int .i64 (N : Nat), .int .i64 (k : Nat)] w (Made F (.slice none 0 0) w g l p 2 (p : Nat)) := by
  obtain ⟨L, hL⟩ : ∃ L, l.length - p = L := ⟨_, rfl⟩
  have hp := h.fit
  have H1 := Lib.hid (left_any F w g l p f h L hL hl)
  have H := Lib.hid (fun n => h.drew n)
  have HM := Lib.hid (mayBe_any (k : Nat) true (by rw [Bool.and_eq_true]; exact ⟨decide_eq_true (by omega), decide_eq_true (by omega)⟩))
  obtain ⟨Q, hQ⟩ : ∃ Q, L / k = Q := ⟨_, rfl⟩
  have hNQ : Q < N := by
    rw [← hQ]
    refine (Nat.div_lt_iff_lt_mul (by omega)).2 ?_
    rw [Nat.mul_comm]; omega
  have hQL : Q ≤ L := by rw [← hQ]; exact Nat.div_le_self _ _
  have hQi : (L : Int) / (k : Int) = (Q : Int) := by rw [← hQ]; simp
  have hQw : wrap64 (Q : Int) = (Q : Int) := IntWalk.wrap64_in _ (by omega)
  have d1 : decide ((0 : Int) < (k : Int)) = true := decide_eq_true (by omega)
  have d1' : decide (0 < k) = true := decide_eq_true (by omega)
  have d2 : decide ((Q : Int) < (N : Int)) = true := decide_eq_true (by omega)
  have d2' : decide (Q < N) = true := decide_eq_true (by omega)
  have d3 : decide ((N : Int) < 0) = false := decide_eq_false (by omega)
  have d4 : ((k : Int) == 0) = false := by rw [beq_eq_false_iff_ne]; omega
  have hkne : (k : Int) ≠ 0 := by omega
  clear h hN hQ hL hp hNQ hQL
  go_enter Try.func45, Try.ntmps45
  go_wp2_with fail
  refine H1.out.mono ?_
  rintro x w1 ⟨rfl, n1, rfl⟩
  have H2 := Lib.hid (at_any F _ g l p 0 f (H.out n1))
  have H3 := Lib.hid (fail_new F _ g l p f (H.out n1) 2 (p : Nat) (by decide))
  go_wp2_with fail
  refine (H2.out).mono ?_
  rintro e w' ⟨rfl, rfl⟩
  go_wp2_with fail
  refine H3.out.mono ?_
  rintro x w2 ⟨rfl, hr, hc⟩
  have H4 := Lib.hid (bad_any F _ g l p 2 (p : Nat) hr false rfl)
  have HR : Hid (Made F (.slice none 0 0) w g l p 2 (p : Nat) (.returned (.slice none 0 0)) w2) := Lib.hid ⟨rfl, hr, (Ch.of_below (bdrawn (Below.refl _ _) n1)).then hc⟩
  clear hr hc H3 H2
  go_wp2_with fail
  refine (HM.out _).mono ?_
  rintro e w' ⟨rfl, rfl⟩
  go_wp2_with fail
  refine (H4.out).mono ?_
  rintro e w' ⟨rfl, rfl⟩
  go_wp2_with fail
  go_ret
  exact HR.out
theorem nums_any (F : Nat → Prop) (w : World) (g : Nat) (l : List Int) (s : Rst) (h : Hid (RS F w g l s)) (hF : Hid (∀ i, F i → i < w.heap.size)) (hl : l.length ≤ 1000000) (N k : Nat) (h1 : 1 ≤ k) (h4 : k ≤ 4) :
    Calls Try.prog 45 #[.pointer (some ⟨g, 0, none⟩), .int .i64 (N : Nat), .int .i64 (k : Nat)] w (GotI F w g l (takS l s (k * N))) := by
  by_cases he : s.e = 0
  · have hr : RdAt F w g l s.p 0 s.f := by have := h.out; unfold RS at this; rwa [he] at this
    by_cases hn : s.p + k * N ≤ l.length
    · rw [takS_yes he hn]
      refine (numbers_yes F w g l s.p s.f hr hF.out hl N k h1 h4 hn).mono ?_
      rintro x w' ⟨gn, rfl, k0, k1, k2, k3⟩
      exact ⟨_, _, _, _, rfl, k1.weak fun i _ hi => by rw [hi]; exact k0, k2, k3⟩
    · rw [takS_no he hn]
      refine (numbers_no F w g l s.p s.f hr hl N k h1 h4 hn).mono ?_
      rintro x w' ⟨rfl, k1, k2⟩
      exact ⟨none, 0, 0, [], rfl, IAt.empty _ _, k1, k2⟩
  · rw [takS_bad he]
    refine (numbers_bad F w g l s.p s.e s.f h.out he N k h1 h4).mono ?_
    rintro x w' ⟨rfl, n, rfl⟩
    exact ⟨none, 0, 0, [], rfl, IAt.empty _ _, h.out.drew n, Ch.of_below (bdrawn (Below.refl _ _) n)⟩
/-- A number with a sign. -/
theorem signed_any (F : Nat → Prop) (w : World) (g : Nat) (l : List Int) (s : Rst) (h : Hid (RS F w g l s)) (hl : l.length ≤ 1000000) :
    Calls Try.prog 50 #[.pointer (some ⟨g, 0, none⟩)] w (fun x w' => ∃ v, Got F (.int .i64 v) w g l (takS l s 2) x w') := by
  have H := Lib.hid (num_any F w g l s h hl 2 2 rfl (by decide) (by decide))
  clear h
  go_enter Try.func50, Try.ntmps50
  go_wp2_with fail
  refine H.out.mono ?_
  rintro x w1 ⟨rfl, hr, hc⟩
  have HR := Lib.hid (And.intro hr hc)
  clear hr hc
  go_wp2_with fail
  go_ret
  exact ⟨_, rfl, HR.out.1, HR.out.2⟩

end Go.Proofs.Ythlaglhlmbkniaa
