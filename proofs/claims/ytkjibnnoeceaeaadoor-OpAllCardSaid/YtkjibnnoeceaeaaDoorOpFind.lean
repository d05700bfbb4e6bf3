/- The document's has, swap: their contracts. -/
import Derived.Test.YtkjibnnoeceaeaaDoorOpRef
import Derived.Test.YtkjibnnoeceaeaaDoorQuiet
import Derived.BigQuiet
namespace Go.Proofs.YtkjibnnoeceaeaaDoor
open Go.RowKit

theorem posF_short (p : List UInt8) : ∀ s : List UInt8, s.length < p.length → posF p s = none
  | [], h => by
    unfold posF
    rw [if_neg (by intro e; subst e; simp at h)]
  | a :: s, h => by
    unfold posF
    have hf : ¬ p.isPrefixOf (a :: s) = true := by
      intro e
      have := (List.isPrefixOf_iff_prefix.1 e).length_le
      omega
    rw [if_neg hf, posF_short p s (by simp at h; omega)]
    rfl
theorem posF_at (p s : List UInt8) (k : Nat) (hk : k < s.length) (h : (s.drop k).take p.length = p) : posF p (s.drop k) = some 0 := by
  have hpre : p.isPrefixOf (s.drop k) = true := List.isPrefixOf_iff_prefix.2 (List.prefix_iff_eq_take.2 h.symm)
  rw [List.drop_eq_getElem_cons hk] at hpre ⊢
  unfold posF
  rw [if_pos hpre]
theorem posF_no (p s : List UInt8) (k : Nat) (hk : k < s.length) (h : ¬ (s.drop k).take p.length = p) : posF p (s.drop k) = (posF p (s.drop (k + 1))).map (· + 1) := by
  have hpre : ¬ p.isPrefixOf (s.drop k) = true := fun e => h (List.prefix_iff_eq_take.1 (List.isPrefixOf_iff_prefix.1 e)).symm
  rw [List.drop_eq_getElem_cons hk] at hpre ⊢
  conv => lhs; unfold posF
  rw [if_neg hpre]
/-- Behind k bytes that it does not begin at. -/
def Seen (p s : List UInt8) (k : Nat) : Prop := posF p s = (posF p (s.drop k)).map (· + k)
theorem Seen.zero (p s : List UInt8) : Seen p s 0 := by unfold Seen; simp
theorem Seen.step {p s : List UInt8} {k : Nat} (h : Seen p s k) (hk : k < s.length) (hn : ¬ (s.drop k).take p.length = p) : Seen p s (k + 1) := by
  unfold Seen at *
  rw [h, posF_no p s k hk hn, Option.map_map]
  congr 1
  funext x; simp; omega
theorem Seen.found {p s : List UInt8} {k : Nat} (h : Seen p s k) (hk : k < s.length) (hn : (s.drop k).take p.length = p) : posF p s = some k := by
  unfold Seen at h
  rw [h, posF_at p s k hk hn]; simp
theorem Seen.last {p s : List UInt8} {k : Nat} (h : Seen p s k) (hk : s.length < k + p.length) (h1 : 1 ≤ p.length) : posF p s = none := by
  unfold Seen at h
  rw [h, posF_short p _ (by rw [List.length_drop]; omega)]; rfl

theorem ext_list (l : List UInt8) (a b : Nat) : (strL l).extract a b = strL ((l.drop a).take (b - a)) := by
  apply ByteArray.ext
  simp [strL, List.take_drop]
theorem strL_inj {a b : List UInt8} : strL a = strL b ↔ a = b := by
  constructor
  · intro h
    have := congrArg (fun x : ByteArray => x.data.toList) h
    simpa [strL] using this
  · rintro rfl; rfl

set_option maxRecDepth 100000 in
set_option maxHeartbeats 800000 in
theorem refHas (s p : List UInt8) (w : World) (hs : s.length ≤ 1000) (hp : p.length ≤ 10) (h1 : 1 ≤ p.length) : Calls Tryd.prog 35 #[.string (strL s), .string (strL p)] w fun e w' => e = .returned (.bool (hasF s p)) ∧ w = w' := by
  obtain ⟨A, hA⟩ : ∃ A, strL s = A := ⟨_, rfl⟩
  obtain ⟨P, hP⟩ : ∃ P, strL p = P := ⟨_, rfl⟩
  have a1 : A.size = s.length := by rw [← hA, strL_size]
  have p1 : P.size = p.length := by rw [← hP, strL_size]
  have a2 : A.size ≤ 1000 := by omega
  have p2 : P.size ≤ 10 := by omega
  have p3 : 1 ≤ P.size := by omega
  have A1 := Lib.hid a1
  have P1 := Lib.hid p1
  have HA := Lib.hid hA
  have HP := Lib.hid hP
  rw [hA, hP]
  clear a1 p1 hA hP
  go_enter Tryd.func35, Tryd.ntmps35
  go_wp2_with fail
  go_loop [5] (fun i => ∃ k : Nat, i = .int .i64 k ∧ k ≤ 1000 ∧ Hid (Seen p s k)) (fun i => 1001 - (intOf i).toNat)
  case atStart => exact ⟨0, rfl, by omega, Lib.hid (Seen.zero p s)⟩
  case round =>
    obtain ⟨k, rfl, hk, HS⟩ := hrel
    by_cases hlt : k + P.size ≤ A.size
    · have hkl : k < s.length := by have := A1.out; omega
      have hex : (A.extract k (k + P.size)) = strL ((s.drop k).take p.length) := by
        rw [← HA.out, ext_list, P1.out, Nat.add_sub_cancel_left]
      by_cases he : (s.drop k).take p.length = p
      · have hb : ((A.extract k (k + P.size)).toList == P.toList) = true := str_eq (by rw [hex, he]; exact HP.out)
        have HR := Lib.hid (show hasF s p = true by unfold hasF; rw [HS.out.found hkl he]; rfl)
        clear hex he hkl HA HP A1 P1 HS
        go_wp2_with fail
        go_ret
        exact ⟨by rw [HR.out]; rfl, rfl⟩
      · have hb : ((A.extract k (k + P.size)).toList == P.toList) = false := str_ne (by rw [hex, ← HP.out, strL_inj]; exact he)
        have HR := Lib.hid (HS.out.step hkl he)
        clear hex he hkl HS
        go_wp2_with fail
        go_round
        case rel => exact ⟨k + 1, by go_num, by omega, HR⟩
        case measure => simp [intOf]; omega
    · have HR := Lib.hid (show hasF s p = false by unfold hasF; rw [HS.out.last (by have := A1.out; have := P1.out; omega) h1]; rfl)
      have hlt2 : A.size < k + P.size := by omega
      clear HS
      go_wp2_with fail
      go_ret
      exact ⟨by rw [HR.out]; rfl, rfl⟩

set_option maxRecDepth 100000 in
set_option maxHeartbeats 800000 in
theorem refSwap (s p b : List UInt8) (w : World) (hs : s.length ≤ 1000) (hp : p.length ≤ 10) (h1 : 1 ≤ p.length) (hb : b.length ≤ 100) : Calls Tryd.prog 49 #[.string (strL s), .string (strL p), .string (strL b)] w fun e w' => e = .returned (.string (strL (swapF s p b))) ∧ Below w.heap.size w w' := by
  obtain ⟨A, hA⟩ : ∃ A, strL s = A := ⟨_, rfl⟩
  obtain ⟨P, hP⟩ : ∃ P, strL p = P := ⟨_, rfl⟩
  have b2 : (strL b).size ≤ 100 := strL_le _ _ hb
  have a1 : A.size = s.length := by rw [← hA, strL_size]
  have p1 : P.size = p.length := by rw [← hP, strL_size]
  have a2 : A.size ≤ 1000 := by omega
  have p2 : P.size ≤ 10 := by omega
  have p3 : 1 ≤ P.size := by omega
  have A1 := Lib.hid a1
  have P1 := Lib.hid p1
  have HA := Lib.hid hA
  have HP := Lib.hid hP
  rw [hA, hP]
  clear a1 p1 hA hP
  go_enter Tryd.func49, Tryd.ntmps49
  go_wp2_with fail
  go_loop [7] (fun i => ∃ k : Nat, i = .int .i64 k ∧ k ≤ 1000 ∧ Hid (Seen p s k)) (fun i => 1001 - (intOf i).toNat)
  case atStart => exact ⟨0, rfl, by omega, Lib.hid (Seen.zero p s)⟩
  case round =>
    obtain ⟨k, rfl, hk, HS⟩ := hrel
    by_cases hlt : k + P.size ≤ A.size
    · have hkl : k < s.length := by have := A1.out; omega
      have hex : (A.extract k (k + P.size)) = strL ((s.drop k).take p.length) := by
        rw [← HA.out, ext_list, P1.out, Nat.add_sub_cancel_left]
      by_cases he : (s.drop k).take p.length = p
      · have hbb : ((A.extract k (k + P.size)).toList == P.toList) = true := str_eq (by rw [hex, he]; exact HP.out)
        have HR := Lib.hid (show A.extract 0 k ++ strL b ++ A.extract (k + P.size) A.size = strL (swapF s p b) by
          unfold swapF
          rw [HS.out.found hkl he, ← HA.out, ext_list, ext_list, strL_app, strL_app, P1.out, strL_size, List.take_of_length_le (l := s.drop (k + p.length)) (by simp)]
          simp)
        have e1 : (A.extract 0 k).size = k := by rw [ByteArray.size_extract]; omega
        have e2 : (A.extract (k + P.size) A.size).size ≤ 1000 := by rw [ByteArray.size_extract]; omega
        have w1 : IntKind.i64.wrap ((k : Int) + (P.size : Int)) = (k : Int) + (P.size : Int) := IntWalk.i64_in _ (by omega)
        clear hex he hkl HA HP A1 P1 HS
        go_wp2_with fail
        go_quiet (fail)
        go_wp2_with fail
        go_ret
        exact ⟨by rw [← HR.out]; rfl, below_drewN' _ _ _⟩
      · have hbb : ((A.extract k (k + P.size)).toList == P.toList) = false := str_ne (by rw [hex, ← HP.out, strL_inj]; exact he)
        have HR := Lib.hid (HS.out.step hkl he)
        clear hex he hkl HS
        go_wp2_with fail
        go_round
        case rel => exact ⟨k + 1, by go_num, by omega, HR⟩
        case measure => simp [intOf]; omega
    · have HR := Lib.hid (show swapF s p b = s by unfold swapF; rw [HS.out.last (by have := A1.out; have := P1.out; omega) h1])
      have hlt2 : A.size < k + P.size := by omega
      clear HS
      go_wp2_with fail
      go_ret
      exact ⟨by rw [HR.out, HA.out]; rfl, Below.refl _ _⟩

end Go.Proofs.YtkjibnnoeceaeaaDoor
