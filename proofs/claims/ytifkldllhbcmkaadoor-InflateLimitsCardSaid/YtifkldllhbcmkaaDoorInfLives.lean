/- The chapter's example; bytes as a text. -/
import Derived.Test.YtifkldllhbcmkaaDoorInfRun
import Derived.Laws.BytesArg
namespace Go.Proofs.YtifkldllhbcmkaaDoor
open Go.RowKit
set_option linter.unusedVariables false
set_option linter.unusedSimpArgs false

/-- A symbol's code is read. -/
theorem next_code {bs l : List Int} {p s : Nat} (hs : s < l.length) (h0 : lnN l s ≠ 0) (h15 : lnN l s ≤ 15) (hv : val (bitsF bs p) (lnN l s) = codeC (lnN l) l.length s) (hl : lnN l s ≤ 8 * bs.length - p) : nextM bs l p = .ok (s, p + lnN l s) := by
  have h : readR l bs p = (s, lnN l s, 0) := step_code (lnN l) l.length s hs h0 h15 (bitsF bs p) (bitsF_le bs p) hv _ hl 16 0 rfl (Nat.zero_le _)
  unfold nextM
  rw [h, if_pos rfl]
theorem ln97 : lnN fixS 97 = 8 := by decide +kernel
theorem ln256 : lnN fixS 256 = 7 := by decide +kernel
theorem ex_a : nextM [75, 4, 0] fixS 3 = .ok (97, 11) := by
  have := next_code (bs := [75, 4, 0]) (l := fixS) (p := 3) (s := 97) (by rw [fixS_len]; decide) (by rw [ln97]; decide) (by rw [ln97]; decide) (by decide +kernel) (by rw [ln97]; decide)
  rw [ln97] at this
  exact this
theorem ex_end : nextM [75, 4, 0] fixS 11 = .ok (256, 18) := by
  have := next_code (bs := [75, 4, 0]) (l := fixS) (p := 11) (s := 256) (by rw [fixS_len]; decide) (by rw [ln256]; decide) (by rw [ln256]; decide) (by decide +kernel) (by rw [ln256]; decide)
  rw [ln256] at this
  exact this
theorem ex_syms : loopM (symM [75, 4, 0] fixS fixD 9) 24 3 [] = .ok ([97], 18) := by
  rw [loop_on (q := 11) (o' := [97]) (by rw [symM_put ex_a (by decide)]; rfl) (by decide) (by decide)]
  exact loop_end (symM_end ex_end)
theorem ex_infl : inflM [75, 4, 0] 9 = .ok ([97], 18) := by
  unfold inflM
  refine loop_end ?_
  unfold blockM
  rw [show takeM [75, 4, 0] 1 0 = .ok (1, 1) from rfl, bnd_ok, show takeM [75, 4, 0] 2 1 = .ok (1, 3) from rfl, bnd_ok, kind_fixed]
  rw [show loopM (symM [75, 4, 0] fixS fixD 9) (8 * ([75, 4, 0] : List Int).length) 3 [] = .ok ([97], 18) from ex_syms]
  rfl
theorem conv_of {F : Nat → Prop} {w : World} {A : Option Addr} {n cap : Nat} {l : List Int} (h : BAt8 F w A n cap l) : (convert 22 9 (.slice A n cap)).run Tryd.prog w = .ok (.string (strOfNums l)) w := by
  rcases A with _ | a
  · have hc := h.nil rfl
    have hf := h.fit
    have hn : n = 0 := by omega
    obtain rfl : l = [] := List.eq_nil_of_length_eq_zero (by rw [h.len]; exact hn)
    exact run_convert_bytes_nil (P := Tryd.prog) w 22 5 Tryd.underlying22 Tryd.underlying5 n cap _ Tryd.underlying9
  · by_cases hn : n = 0
    · subst hn
      obtain rfl : l = [] := List.eq_nil_of_length_eq_zero h.len
      rw [run_convert_bytes_string w _ _ 5 (some a) 0 cap Tryd.underlying22 Tryd.underlying5 Tryd.underlying9, run_bytesToString w a 0 cap [] (by
        have := run_loadCells_list (P := Tryd.prog) w a [] (fun j v hj => by simp at hj)
        simpa using this)]
      rfl
    · obtain ⟨b, o, e, _, _, hc⟩ := h.lies (by omega)
      injection e with e
      subst e
      exact run_convert_bytes_arg (P := Tryd.prog) w 22 5 Tryd.underlying22 Tryd.underlying5 b o n cap l h.len (fun i hi => hc i hi) _ Tryd.underlying9
theorem ex_str : strOfNums [97] = ⟨#[97]⟩ := by decide +kernel
set_option maxHeartbeats 1600000 in
theorem lives15 (w : World) (hO : OrdAt w.heap.size w) : Calls Tryd.prog 5 #[] w fun e w' => e = .returned (.bool true) ∧ Below w.heap.size w w' := by
  have hb0 : Below w.heap.size w (w.alloc (.cells #[.int .u8 75, .int .u8 4, .int .u8 0] 5)) := bnew w _
  have H := Lib.hid (inflate_any _ _ 3 3 [75, 4, 0] 9 _ (BAt8.new w [75, 4, 0] 5 (0, 0) #[.int .u8 75, .int .u8 4, .int .u8 0] 3 rfl rfl (by unfold maxLen; omega) (by decide)) (by omega) (by omega) ⟨Nat.lt_of_lt_of_le hO.low (by simp), (hO.below hb0).is⟩)
  have HB := Lib.hid hb0
  clear hO hb0
  go_enter Tryd.func5, Tryd.ntmps5
  go_wp2_with fail
  refine H.out.mono ?_
  rintro e w1 ⟨hb, hG⟩
  rcases hG with ⟨o, p, A, n, cap, h1, rfl, h3, _, _⟩ | ⟨x, h1, _⟩
  · rw [ex_infl] at h1
    simp only [Except.ok.injEq, Prod.mk.injEq] at h1
    obtain ⟨rfl, rfl⟩ := h1
    have hn : n = 1 := by rw [← h3.len]; rfl
    subst hn
    have hc := conv_of h3
    rw [ex_str] at hc
    have HE := Lib.hid (HB.out.trans (hb.mono HB.out.size))
    clear h3 hb H
    go_wp2_with fail
    go_ret
    exact ⟨rfl, HE.out⟩
  · rw [ex_infl] at h1
    cases h1

end Go.Proofs.YtifkldllhbcmkaaDoor
