/- bytes.Equal, bytes.HasPrefix: their contracts. -/
import Derived.Test.YthlaglhlmbkniaaConv
import Derived.Test.YthlaglhlmbkniaaClone
import Derived.Lib.SlBytesConst
namespace Go.Proofs.Ythlaglhlmbkniaa
open Go.RowKit
set_option linter.unusedVariables false
set_option linter.unusedSimpArgs false
set_option maxRecDepth 100000

theorem u8_one {x y : Int} (hx : 0 ≤ x ∧ x ≤ 255) (hy : 0 ≤ y ∧ y ≤ 255) (h : UInt8.ofNat x.toNat = UInt8.ofNat y.toNat) : x = y := by
  have := congrArg UInt8.toNat h
  rw [UInt8.toNat_ofNat', UInt8.toNat_ofNat'] at this
  omega
theorem nums_one : ∀ (a b : List Int), Byte8 a → Byte8 b → (a.map fun n => UInt8.ofNat n.toNat) = (b.map fun n => UInt8.ofNat n.toNat) → a = b
  | [], [], _, _, _ => rfl
  | [], y :: b, _, _, h => by simp at h
  | x :: a, [], _, _, h => by simp at h
  | x :: a, y :: b, ha, hb, h => by
    rw [List.map_cons, List.map_cons] at h
    injection h with h1 h2
    have e1 : x = y := u8_one (ha 0) (hb 0) h1
    rw [e1, nums_one a b (fun j => ha (j + 1)) (fun j => hb (j + 1)) h2]
theorem str_one {a b : List Int} (ha : Byte8 a) (hb : Byte8 b) (h : strOfNums a = strOfNums b) : a = b := by
  unfold strOfNums at h
  injection h with h
  exact nums_one a b ha hb (by simpa using h)
theorem equal_any (F G : Nat → Prop) (w : World) (A B : Option Addr) (n c m d : Nat) (a b : List Int) (ha : BAt8 F w A n c a) (hb : BAt8 G w B m d b) (q : Bool) (hq : q = true ↔ a = b) :
    Calls Try.prog 31 #[.slice A n c, .slice B m d] w fun x w' => x = .returned (.bool q) ∧ w = w' := by
  have q1 := conv_of ha
  have q2 := conv_of hb
  obtain ⟨T, hT⟩ : ∃ T, strOfNums a = T := ⟨_, rfl⟩
  obtain ⟨U, hU⟩ : ∃ U, strOfNums b = U := ⟨_, rfl⟩
  have hd : (T.toList == U.toList) = q := by
    cases q with
    | true =>
      have e := hq.1 rfl
      subst e
      exact str_eq (hT.symm.trans hU)
    | false =>
      refine str_ne fun e => ?_
      have := hq.2 (str_one ha.bd hb.bd (by rw [hT, hU, e]))
      cases this
  rw [hT] at q1
  rw [hU] at q2
  clear hT hU hq ha hb
  go_enter Try.func31, Try.ntmps31
  go_wp2_with fail
  go_ret
  exact ⟨rfl, rfl⟩
theorem prefix_any (F G : Nat → Prop) (w : World) (A B : Option Addr) (n c m d : Nat) (a b : List Int) (ha : BAt8 F w A n c a) (hb : BAt8 G w B m d b) (q : Bool) (hq : q = true ↔ a.take m = b) :
    Calls Try.prog 23 #[.slice A n c, .slice B m d] w fun x w' => x = .returned (.bool q) ∧ w = w' := by
  by_cases h : m ≤ n
  · obtain ⟨A', c', hcut, hB⟩ := cut_h ha (m : Nat) m rfl h
    have HE := Lib.hid (equal_any F G w A' B m c' m d _ b hB hb q hq)
    have d1 : decide ((m : Int) ≤ (n : Int)) = true := decide_eq_true (by omega)
    have d2 : decide (m ≤ n) = true := decide_eq_true h
    clear ha hb hB hq h
    go_enter Try.func23, Try.ntmps23
    go_wp2_with fail
    refine HE.out.mono ?_
    rintro x w' ⟨rfl, rfl⟩
    go_wp2_with fail
    go_ret
    exact ⟨rfl, rfl⟩
  · have hqf : q = false := by
      cases q with
      | false => rfl
      | true =>
        have e := congrArg List.length (hq.1 rfl)
        rw [List.length_take, ha.len, hb.len] at e
        omega
    subst hqf
    have d1 : decide ((m : Int) ≤ (n : Int)) = false := decide_eq_false (by omega)
    have d2 : decide (m ≤ n) = false := decide_eq_false h
    clear ha hb hq h
    go_enter Try.func23, Try.ntmps23
    go_wp2_with fail
    go_ret
    exact ⟨rfl, rfl⟩

end Go.Proofs.Ythlaglhlmbkniaa
