/- The document's has: its contract. -/
import Derived.Test.YthmkfojjlcinkaaDoorOpCut
import Derived.LoopTactic
import Derived.BigRegion
namespace Go.Proofs.YthmkfojjlcinkaaDoor
open Go.RowKit


theorem posF_short (p : List UInt8) : ∀ s : List UInt8, s.length < p.length → posF p s = none
  | [], h => by
    unfold posF
    rw [if_neg (by intro e; subst e; simp at h)]
  | a :: s, h => by
    unfold posF
    have hf : ¬ p.isPrefixOf (a :: s) = true := by
      intro e
      have := (List.isPrefixOf_iff_prefix.1 e).length_le
      omega
    rw [if_neg hf, posF_short p s (by simp at h; omega)]
    rfl
theorem posF_at (p s : List UInt8) (k : Nat) (hk : k < s.length) (h : (s.drop k).take p.length = p) : posF p (s.drop k) = some 0 := by
  have hpre : p.isPrefixOf (s.drop k) = true := List.isPrefixOf_iff_prefix.2 (List.prefix_iff_eq_take.2 h.symm)
  rw [List.drop_eq_getElem_cons hk] at hpre ⊢
  unfold posF
  rw [if_pos hpre]
theorem posF_no (p s : List UInt8) (k : Nat) (hk : k < s.length) (h : ¬ (s.drop k).take p.length = p) : posF p (s.drop k) = (posF p (s.drop (k + 1))).map (· + 1) := by
  have hpre : ¬ p.isPrefixOf (s.drop k) = true := fun e => h (List.prefix_iff_eq_take.1 (List.isPrefixOf_iff_prefix.1 e)).symm
  rw [List.drop_eq_getElem_cons hk] at hpre ⊢
  conv => lhs; unfold posF
  rw [if_neg hpre]
/-- Behind k bytes that it does not begin at. -/
def Seen (p s : List UInt8) (k : Nat) : Prop := posF p s = (posF p (s.drop k)).map (· + k)
theorem Seen.zero (p s : List UInt8) : Seen p s 0 := by unfold Seen; simp
theorem Seen.step {p s : List UInt8} {k : Nat} (h : Seen p s k) (hk : k < s.length) (hn : ¬ (s.drop k).take p.length = p) : Seen p s (k + 1) := by
  unfold Seen at *
  rw [h, posF_no p s k hk hn, Option.map_map]
  congr 1
  funext x; simp; omega
theorem Seen.found {p s : List UInt8} {k : Nat} (h : Seen p s k) (hk : k < s.length) (hn : (s.drop k).take p.length = p) : posF p s = some k := by
  unfold Seen at h
  rw [h, posF_at p s k hk hn]; simp
theorem Seen.last {p s : List UInt8} {k : Nat} (h : Seen p s k) (hk : s.length < k + p.length) (h1 : 1 ≤ p.length) : posF p s = none := by
  unfold Seen at h
  rw [h, posF_short p _ (by rw [List.length_drop]; omega)]; rfl

theorem ext_list (l : List UInt8) (a b : Nat) : (strL l).extract a b = strL ((l.drop a).take (b - a)) := by
  apply ByteArray.ext
  simp [strL, List.take_drop]
theorem strL_inj {a b : List UInt8} : strL a = strL b ↔ a = b := by
  constructor
  · intro h
    have := congrArg (fun x : ByteArray => x.data.toList) h
    simpa [strL] using this
  · rintro rfl; rfl

set_option maxRecDepth 100000 in
set_option maxHeartbeats 800000 in
theorem refHas (s p : List UInt8) (w : World) (hs : s.length ≤ 1000) (hp : p.length ≤ 10) (h1 : 1 ≤ p.length) : Calls Tryd.prog 24 #[.string (strL s), .string (strL p)] w fun e w' => e = .returned (.bool (hasF s p)) ∧ w = w' := by
  obtain ⟨A, hA⟩ : ∃ A, strL s = A := ⟨_, rfl⟩
  obtain ⟨P, hP⟩ : ∃ P, strL p = P := ⟨_, rfl⟩
  have a1 : A.size = s.length := by rw [← hA, strL_size]
  have p1 : P.size = p.length := by rw [← hP, strL_size]
  have a2 : A.size ≤ 1000 := by omega
  have p2 : P.size ≤ 10 := by omega
  have p3 : 1 ≤ P.size := by omega
  have A1 := Lib.hid a1
  have P1 := Lib.hid p1
  have HA := Lib.hid hA
  have HP := Lib.hid hP
  rw [hA, hP]
  clear a1 p1 hA hP
  go_enter Tryd.func24, Tryd.ntmps24
  go_wp2_with fail
  go_loop [5] (fun i => ∃ k : Nat, i = .int .i64 k ∧ k ≤ 1000 ∧ Hid (Seen p s k)) (fun i => 1001 - (intOf i).toNat)
  case atStart => exact ⟨0, rfl, by omega, Lib.hid (Seen.zero p s)⟩
  case round =>
    obtain ⟨k, rfl, hk, HS⟩ := hrel
    by_cases hlt : k + P.size ≤ A.size
    · have hkl : k < s.length := by have := A1.out; omega
      have hex : (A.extract k (k + P.size)) = strL ((s.drop k).take p.length) := by
        rw [← HA.out, ext_list, P1.out, Nat.add_sub_cancel_left]
      by_cases he : (s.drop k).take p.length = p
      · have hb : ((A.extract k (k + P.size)).toList == P.toList) = true := str_eq (by rw [hex, he]; exact HP.out)
        have HR := Lib.hid (show hasF s p = true by unfold hasF; rw [HS.out.found hkl he]; rfl)
        clear hex he hkl HA HP A1 P1 HS
        go_wp2_with fail
        go_ret
        exact ⟨by rw [HR.out]; rfl, rfl⟩
      · have hb : ((A.extract k (k + P.size)).toList == P.toList) = false := str_ne (by rw [hex, ← HP.out, strL_inj]; exact he)
        have HR := Lib.hid (HS.out.step hkl he)
        clear hex he hkl HS
        go_wp2_with fail
        go_round
        case rel => exact ⟨k + 1, by go_num, by omega, HR⟩
        case measure => simp [intOf]; omega
    · have HR := Lib.hid (show hasF s p = false by unfold hasF; rw [HS.out.last (by have := A1.out; have := P1.out; omega) h1]; rfl)
      have hlt2 : A.size < k + P.size := by omega
      clear HS
      go_wp2_with fail
      go_ret
      exact ⟨by rw [HR.out]; rfl, rfl⟩


theorem refHasIs (s p : List UInt8) (r : Bool) (w : World) (hs : s.length ≤ 1000) (hp : p.length ≤ 10) (h1 : 1 ≤ p.length) (h : hasF s p = r) : Calls Tryd.prog 24 #[.string (strL s), .string (strL p)] w fun e w' => e = .returned (.bool r) ∧ w = w' := by
  subst h; exact refHas s p w hs hp h1
end Go.Proofs.YthmkfojjlcinkaaDoor
