/- The document's Sound: its contract. -/
import Derived.Test.YthlaglhlmbkniaaTzxWrong
namespace Go.Proofs.Ythlaglhlmbkniaa
open Go.RowKit
set_option linter.unusedVariables false
set_option linter.unusedSimpArgs false
set_option maxRecDepth 100000

theorem rsound_any (F : Nat → Prop) (w : World) (B : Option Addr) (n c : Nat) (L : List Lb) (h : BlAt F w B n c L) (hn : n ≤ 1000000) (ht5 : ∀ i, i < n → (gL L i).ts.length ≤ 1000000 ∧ (gL L i).ns.length ≤ 1000000) :
    Calls Try.prog 8 #[.slice B n c] w (SoundE w L) := by
  have H := Lib.hid (fun u (hu : Below w.heap.size w u) i hi => wrong_any F u B n c L (h.below hu) hn i hi (ht5 i hi))
  have HN := Lib.hid h.len
  have hf := h.fit
  have hm := h.max
  unfold maxLen at hm
  clear h ht5
  go_enter Try.func8, Try.ntmps8
  go_wp2_with fail
  go_loopw [4] (fun v wr => ∃ j : Nat, v = .int .i64 j ∧ j ≤ n ∧ Hid (Below w.heap.size w wr ∧ ∀ j', j' < j → wrongF L j' = 0)) (fun v _ => n - (intOf v).toNat)
  case atStart => exact ⟨0, rfl, by omega, Lib.hid ⟨Below.refl _ _, fun j' h' => absurd h' (by omega)⟩⟩
  case round =>
    obtain ⟨j, rfl, hj, HA⟩ := hrel
    by_cases hlt : j < n
    · have HC := Lib.hid (H.out wr HA.out.1 j hlt)
      obtain ⟨e, he⟩ : ∃ e, wrongF L j = e := ⟨_, rfl⟩
      rw [he] at HC
      have HE := Lib.hid he
      clear he
      go_wp2_with fail
      refine HC.out.mono ?_
      rintro x w1 ⟨rfl, hb1⟩
      have HB1 := Lib.hid (HA.out.1.trans (hb1.mono HA.out.1.size))
      clear hb1 HC
      by_cases h0 : e = 0
      · subst h0
        have HR : Hid (Below w.heap.size w w1 ∧ ∀ j', j' < j + 1 → wrongF L j' = 0) := Lib.hid ⟨HB1.out, fun j' h' => by
          by_cases x : j' = j
          · rw [x]; exact HE.out
          · exact HA.out.2 j' (by omega)⟩
        go_wp2_with fail
        go_roundw
        case rel => exact ⟨j + 1, by go_num, by omega, HR⟩
        case measure => simp [intOf]; omega
      · have d : (e != 0) = true := by rw [bne_iff_ne]; exact h0
        have HS : Hid (SoundIs L j e) := Lib.hid ⟨HA.out.2, Or.inl ⟨by rw [HN.out]; exact hlt, HE.out, h0⟩⟩
        clear h0
        go_wp2_with fail
        go_ret2
        exact ⟨j, e, rfl, HS.out, HB1.out⟩
    · have HS : Hid (SoundIs L 0 0) := Lib.hid ⟨fun j' h' => absurd h' (by omega), Or.inr ⟨rfl, rfl, fun j' h' => HA.out.2 j' (by rw [HN.out] at h'; omega)⟩⟩
      go_wp2_with fail
      go_ret2
      exact ⟨0, 0, rfl, HS.out, HA.out.1⟩

end Go.Proofs.Ythlaglhlmbkniaa
