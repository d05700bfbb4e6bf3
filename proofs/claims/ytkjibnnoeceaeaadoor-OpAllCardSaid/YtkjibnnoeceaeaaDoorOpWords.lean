/- The document's words: its contract. -/
import Derived.Test.YtkjibnnoeceaeaaDoorOpFind
import Derived.Laws.OwnMore
namespace Go.Proofs.YtkjibnnoeceaeaaDoor
open Go.RowKit

theorem infoStr : (Tryd.prog.info? 9).map (fun i => (i.zero, i.size, i.bytes)) = some (some (.string ⟨#[]⟩), 1, 16) := by kernel_rfl
abbrev strV (l : List UInt8) : Value := .string (strL l)

theorem own_form {w : World} {base n : Nat} {e : TypeId} {v : Value} {xs : List Value} (h : w.ownsRow base e 1 v n xs) : ∃ B c, v = .slice B n c := by
  have hl : xs.length = n := by simpa using h.1
  rcases h.2 with ⟨h1, h0⟩ | ⟨g, cap, cur, h1, _⟩
  · subst h0
    simp at hl
    subst hl
    exact ⟨none, 0, h1⟩
  · exact ⟨_, _, h1⟩
/-- Where the words stand at place k. -/
def WordsAt (s : List UInt8) (k : Nat) (L : List (List UInt8)) (c : List UInt8) : Prop :=
  (k ≤ s.length ∧ wordsGo (s.drop k) L c = wordsGo s [] [] ∧ c.length ≤ k) ∨ (k = s.length + 1 ∧ L = wordsGo s [] [] ∧ c = [])
theorem wordsGo_push (c : UInt8) (s : List UInt8) (L : List (List UInt8)) (w : List UInt8) (h : (c = 32 ∧ L.length = 0) ∨ (c = 44 ∧ 0 < L.length)) : wordsGo (c :: s) L w = wordsGo s (L ++ [w]) [] := by
  rw [wordsGo, if_pos h]
theorem wordsGo_keep (c : UInt8) (s : List UInt8) (L : List (List UInt8)) (w : List UInt8) (h : ¬ ((c = 32 ∧ L.length = 0) ∨ (c = 44 ∧ 0 < L.length))) : wordsGo (c :: s) L w = wordsGo s L (w ++ [c]) := by
  rw [wordsGo, if_neg h]
theorem ext_one (l : List UInt8) (k : Nat) (h : k < l.length) : (strL l).extract k (k + 1) = strL [l[k]] := by
  rw [ext_list, Nat.add_sub_cancel_left, List.drop_eq_getElem_cons h, List.take_succ_cons, List.take_zero]
theorem at_list (l : List UInt8) (k : Nat) (h : k < (strL l).size) : (strL l)[k] = l[k]'(by rw [strL_size] at h; exact h) := by
  simp [strL, ByteArray.getElem_eq_getElem_data]

theorem wordsGo_pos : ∀ (s : List UInt8) (L : List (List UInt8)) (w : List UInt8), 0 < (wordsGo s L w).length
  | [], L, w => by simp [wordsGo]
  | c :: s, L, w => by
    rw [wordsGo]
    split
    · exact wordsGo_pos s _ _
    · exact wordsGo_pos s _ _

set_option maxRecDepth 100000 in
set_option maxHeartbeats 4000000 in
theorem refWords (s : List UInt8) (w : World) (hs : s.length ≤ 1000) : Calls Tryd.prog 50 #[.string (strL s)] w fun e w' => ∃ v, e = .returned v ∧ RowAt w' v ((wordsGo s [] []).map strV) ∧ Below w.heap.size w w' := by
  obtain ⟨A, hA⟩ : ∃ A, strL s = A := ⟨_, rfl⟩
  have a1 : A.size = s.length := by rw [← hA, strL_size]
  have a2 : A.size ≤ 1000 := by omega
  have A1 := Lib.hid a1
  have HA := Lib.hid hA
  rw [hA]
  clear a1 hA
  go_enter Tryd.func50, Tryd.ntmps50
  go_wp2_with fail
  go_loopw [3, 4, 5] (fun v c i wr => ∃ (k n : Nat) (L : List (List UInt8)) (C : List UInt8), i = .int .i64 k ∧ k ≤ 1001 ∧ n ≤ k ∧ c = .string (strL C) ∧ C.length ≤ 1001 ∧ Hid (L.length = n) ∧ Hid (WordsAt s k L C) ∧ wr.ownsRow w.heap.size 9 1 v n (L.map strV) ∧ Below w.heap.size w wr) (fun _ _ i _ => 1002 - (intOf i).toNat)
  case atStart => exact ⟨0, 0, [], [], rfl, by omega, by omega, rfl, by simp, Lib.hid rfl, Lib.hid (Or.inl ⟨by omega, rfl, by simp⟩), World.ownsRow_nil _ _ _ _, Below.refl _ _⟩
  case round =>
    obtain ⟨k, n, L, C, rfl, hk, hn, rfl, hC, HL, HW, hown, hnx⟩ := hrel
    obtain ⟨vB, vc, rfl⟩ := own_form hown
    have hsz := hnx.size
    have cs : (strL C).size ≤ 1001 := strL_le _ _ hC
    by_cases hlt : k < A.size
    · have hkl : k < s.length := by have := A1.out; omega
      obtain ⟨_, hgo, hck⟩ : k ≤ s.length ∧ wordsGo (s.drop k) L C = wordsGo s [] [] ∧ C.length ≤ k := by
        rcases HW.out with h | h
        · exact h
        · omega
      rw [List.drop_eq_getElem_cons hkl] at hgo
      have hat : A[k] = s[k] := by subst A; exact at_list s k _
      have hex : A.extract k (k + 1) = strL [s[k]] := by rw [← HA.out]; exact ext_one s k hkl
      have hlen := HL.out
      obtain ⟨x, hx⟩ : ∃ x, s[k] = x := ⟨_, rfl⟩
      rw [hx] at hgo hat hex
      clear hx
      have hne : ((k : Int) == (A.size : Int)) = false := by rw [beq_eq_false_iff_ne]; omega
      have push : (x = 32 ∧ L.length = 0) ∨ (x = 44 ∧ 0 < L.length) → WordsAt s (k + 1) (L ++ [C]) [] := fun h => Or.inl ⟨by omega, by rw [← hgo, wordsGo_push x _ _ _ h], by simp⟩
      have keep : ¬ ((x = 32 ∧ L.length = 0) ∨ (x = 44 ∧ 0 < L.length)) → WordsAt s (k + 1) L (C ++ [x]) := fun h => Or.inl ⟨by omega, by rw [← hgo, wordsGo_keep x _ _ _ h], by simp; omega⟩
      have t32 : x = 32 → ((A[k].toNat : Int) == 32) = true := fun h => by rw [hat, h]; rfl
      have f32 : x ≠ 32 → ((A[k].toNat : Int) == 32) = false := fun h => by
        rw [hat, beq_eq_false_iff_ne]; intro e; apply h
        exact UInt8.toNat_inj.1 (by show x.toNat = 32; omega)
      have t44 : x = 44 → ((A[k].toNat : Int) == 44) = true := fun h => by rw [hat, h]; rfl
      have f44 : x ≠ 44 → ((A[k].toNat : Int) == 44) = false := fun h => by
        rw [hat, beq_eq_false_iff_ne]; intro e; apply h
        exact UInt8.toNat_inj.1 (by show x.toNat = 44; omega)
      have tn : L.length = 0 → ((n : Int) == 0) = true := fun h => by rw [beq_iff_eq]; omega
      have fn : ¬ L.length = 0 → ((n : Int) == 0) = false := fun h => by rw [beq_eq_false_iff_ne]; omega
      have tp : 0 < L.length → decide (0 < n) = true := fun h => by rw [decide_eq_true_eq]; omega
      have fp : ¬ 0 < L.length → decide (0 < n) = false := fun h => by rw [decide_eq_false_iff_not]; omega
      clear hat hgo
      have sz1 : (strL [x]).size = 1 := rfl
      by_cases hx32 : x = 32
      · have q1 := t32 hx32
        by_cases hl : L.length = 0
        · have q2 := tn hl
          have HA2 := Lib.hid (push (Or.inl ⟨hx32, hl⟩))
          clear t32 f32 t44 f44 tn fn tp fp push keep hlen hx32 hl
          go_wp2_with (at_builtin; refine wpList_append_one w.heap.size 9 56 infoStr Tryd.underlying56 rfl rfl _ _ rfl _ _ _ rfl hown (.string (strL C)) rfl rfl (by decide) (by omega) hsz ?_)
          intro v' w1 hown1 hb1
          have hnx1 := hnx.trans hb1
          clear hown hb1 hnx
          go_wp2_with fail
          go_roundw
          case rel => exact ⟨k + 1, n + 1, L ++ [C], [], by go_num, by omega, by omega, rfl, by simp, Lib.hid (by simp [HL.out]), HA2, by rw [List.map_append]; exact hown1, hnx1⟩
          case measure => simp [intOf]; omega
        · have q2 := fn hl
          have q3 := f44 (by rw [hx32]; decide)
          have HA2 := Lib.hid (keep (by rintro (⟨_, h⟩ | ⟨h, _⟩); exact hl h; rw [hx32] at h; revert h; decide))
          have HX := Lib.hid (strL_app C [x])
          have HO := Lib.hid hown
          have HN := Lib.hid hnx
          clear t32 f32 t44 f44 tn fn tp fp push keep hlen hx32 hl hown hnx
          go_wp2_with fail
          go_roundw
          case rel => exact ⟨k + 1, n, L, C ++ [x], by go_num, by omega, by omega, by rw [← HX.out], by rw [List.length_append]; simp; omega, HL, HA2, HO.out, HN.out⟩
          case measure => simp [intOf]; omega
      · have q1 := f32 hx32
        by_cases hx44 : x = 44
        · have q3 := t44 hx44
          by_cases hl : 0 < L.length
          · have q4 := tp hl
            have HA2 := Lib.hid (push (Or.inr ⟨hx44, hl⟩))
            clear t32 f32 t44 f44 tn fn tp fp push keep hlen hx32 hx44 hl
            go_wp2_with (at_builtin; refine wpList_append_one w.heap.size 9 56 infoStr Tryd.underlying56 rfl rfl _ _ rfl _ _ _ rfl hown (.string (strL C)) rfl rfl (by decide) (by omega) hsz ?_)
            intro v' w1 hown1 hb1
            have hnx1 := hnx.trans hb1
            clear hown hb1 hnx
            go_wp2_with fail
            go_roundw
            case rel => exact ⟨k + 1, n + 1, L ++ [C], [], by go_num, by omega, by omega, rfl, by simp, Lib.hid (by simp [HL.out]), HA2, by rw [List.map_append]; exact hown1, hnx1⟩
            case measure => simp [intOf]; omega
          · have q4 := fp hl
            have HA2 := Lib.hid (keep (by rintro (⟨h, _⟩ | ⟨_, h⟩); exact hx32 h; exact hl h))
            have HX := Lib.hid (strL_app C [x])
            have HO := Lib.hid hown
            have HN := Lib.hid hnx
            clear t32 f32 t44 f44 tn fn tp fp push keep hlen hx32 hx44 hl hown hnx
            go_wp2_with fail
            go_roundw
            case rel => exact ⟨k + 1, n, L, C ++ [x], by go_num, by omega, by omega, by rw [← HX.out], by rw [List.length_append]; simp; omega, HL, HA2, HO.out, HN.out⟩
            case measure => simp [intOf]; omega
        · have q3 := f44 hx44
          have HA2 := Lib.hid (keep (by rintro (⟨h, _⟩ | ⟨h, _⟩); exact hx32 h; exact hx44 h))
          have HX := Lib.hid (strL_app C [x])
          have HO := Lib.hid hown
          have HN := Lib.hid hnx
          clear t32 f32 t44 f44 tn fn tp fp push keep hlen hx32 hx44 hown hnx
          go_wp2_with fail
          go_roundw
          case rel => exact ⟨k + 1, n, L, C ++ [x], by go_num, by omega, by omega, by rw [← HX.out], by rw [List.length_append]; simp; omega, HL, HA2, HO.out, HN.out⟩
          case measure => simp [intOf]; omega
    · have hlen := HL.out
      by_cases hle : k = A.size
      · have hks : k = s.length := by rw [hle, A1.out]
        have heq : ((k : Int) == (A.size : Int)) = true := by rw [beq_iff_eq, hle]
        have HA2 : Hid (WordsAt s (k + 1) (L ++ [C]) []) := Lib.hid (by
          rcases HW.out with ⟨_, h, _⟩ | ⟨h, _, _⟩
          · exact Or.inr ⟨by omega, by rw [← h, hks, List.drop_length]; rfl, rfl⟩
          · omega)
        have hkn : (k : Int) ≤ (A.size : Int) := by omega
        clear hle hks hlen
        go_wp2_with (at_builtin; refine wpList_append_one w.heap.size 9 56 infoStr Tryd.underlying56 rfl rfl _ _ rfl _ _ _ rfl hown (.string (strL C)) rfl rfl (by decide) (by omega) hsz ?_)
        intro v' w1 hown1 hb1
        have hnx1 := hnx.trans hb1
        clear hown hb1 hnx
        go_wp2_with fail
        go_roundw
        case rel => exact ⟨k + 1, n + 1, L ++ [C], [], by go_num, by omega, by omega, rfl, by simp, Lib.hid (by simp [HL.out]), HA2, by rw [List.map_append]; exact hown1, hnx1⟩
        case measure => simp [intOf]; omega
      · have hgt : A.size < k := by omega
        have HZ := Lib.hid (show L = wordsGo s [] [] by
          rcases HW.out with ⟨h, _, _⟩ | ⟨_, h, _⟩
          · have := A1.out; omega
          · exact h)
        have HO := Lib.hid hown
        have HN := Lib.hid hnx
        have hn0 := Lib.hid (show 0 < L.length by
          rw [HZ.out]; exact wordsGo_pos s [] [])
        clear hown hnx hlen hle
        go_wp2_with fail
        go_ret
        exact ⟨_, rfl, by rw [← HZ.out]; exact rowAt_of_own HO.out (by have := HL.out; have := hn0.out; omega), HN.out⟩

end Go.Proofs.YtkjibnnoeceaeaaDoor
