/- New of a board: its contract. -/
import Derived.Test.YtkcfacbnbjkheaaDoorBoardNew
namespace Go.Proofs.YtkcfacbnbjkheaaDoor
open Go.RowKit
set_option maxRecDepth 100000

def boardBuild (p : Array (Nat × Value)) : Sem Value := Instr.build 40 p
theorem boardBuild_as (p : Array (Nat × Value)) : Instr.build 40 p = boardBuild p := rfl
theorem run_boardBuild (f : Int) : ∃ A : Array Value, A.size = 77842 ∧ (∀ j, j < 77842 → A[j]? = some (bC { zeroS with frame := f } (.slice none 0 0) (.slice none 0 0) j)) ∧ ∀ u, (boardBuild #[(6, .int .i64 f)]).run Tryd.prog u = .ok (.agg A) u := by
  obtain ⟨i, A, h1, h2, h3, h4⟩ := boardZero
  have hb := built_one Tryd.prog 40 _ i A [(0, 65536), (65536, 8), (65544, 1), (65545, 1), (65546, 1), (65547, 1), (65548, 1), (65549, 1), (65550, 1), (65551, 1), (65552, 12288), (77840, 1), (77841, 1)] 6 65548 (.int .i64 f) h1 Tryd.underlying40 h2 (by kernel_rfl) rfl rfl (by omega)
  refine ⟨A.setIfInBounds 65548 (.int .i64 f), by simpa using h3, fun j hj => ?_, fun u => run_build u _ _ _ hb⟩
  rw [← set_frame zeroS (.slice none 0 0) (.slice none 0 0) f]
  unfold upd
  by_cases e : 65548 = j
  · subst e
    rw [Array.getElem?_setIfInBounds_self_of_lt (by omega), if_pos rfl]
  · rw [Array.getElem?_setIfInBounds_ne e, if_neg (fun x => e x.symm), h4 j hj]
attribute [local simp ↓ high] boardBuild_as

/-- The memory, behind both copies. -/
theorem memo_at (r m : Nat → Int) (k : Nat) (f : Int) (hk : k ≤ 49152) (j : Nat) :
    (if 16384 ≤ j ∧ j < 16384 + k then Value.int .u8 (m (j - 16384)) else if 0 ≤ j ∧ j < 0 + 16384 then Value.int .u8 (r (j - 0)) else bC { zeroS with frame := f } (.slice none 0 0) (.slice none 0 0) j)
      = bC (newS r m k f) (.slice none 0 0) (.slice none 0 0) j := by
  unfold bC newS zeroS
  by_cases c1 : j < 16384
  · rw [if_neg (by omega), if_pos (by omega), if_pos (by omega)]
    simp only [if_pos c1, Nat.sub_zero]
  · by_cases c2 : j < 16384 + k
    · rw [if_pos ⟨by omega, c2⟩, if_pos (by omega)]
      simp only [if_neg c1, if_pos (show j - 16384 < k by omega)]
    · rw [if_neg (by omega), if_neg (by omega)]
      by_cases c3 : j < 65536
      · rw [if_pos c3, if_pos c3]
        simp only [if_neg c1, if_neg (show ¬ j - 16384 < k by omega)]
      · simp only [if_neg c3]

set_option maxRecDepth 100000 in
set_option maxHeartbeats 800000 in
theorem new_short (rp mp : Option Addr) (rl rc ml mc : Nat) (ph : Int) (w : World) (hr : rl ≠ 16384) :
    Calls Tryd.prog 7 #[.slice rp rl rc, .slice mp ml mc, .int .i64 ph] w fun e w' => e = .returned (.tuple #[.pointer none, .int .i64 1]) ∧ w = w' := by
  have hn : ((rl : Int) == 16384) = false := by simp; omega
  clear hr
  go_enter Tryd.func7, Tryd.ntmps7
  go_wp2_with fail
  go_ret2
  exact ⟨rfl, rfl⟩
set_option maxRecDepth 100000 in
set_option maxHeartbeats 800000 in
theorem new_long (rp mp : Option Addr) (rc ml mc : Nat) (ph : Int) (w : World) (hm : 49152 < ml) :
    Calls Tryd.prog 7 #[.slice rp 16384 rc, .slice mp ml mc, .int .i64 ph] w fun e w' => e = .returned (.tuple #[.pointer none, .int .i64 8]) ∧ w = w' := by
  go_enter Tryd.func7, Tryd.ntmps7
  go_wp2_with fail
  go_ret2
  exact ⟨rfl, rfl⟩
set_option maxRecDepth 100000 in
set_option maxHeartbeats 1600000 in
theorem new_any (rp mp : Option Addr) (rc ml mc : Nat) (r m : Nat → Int) (ph : Int) (w : World) (hr : SrcAt w rp 16384 r) (hs : SrcAt w mp ml m) (hm : ml ≤ 49152) :
    Calls Tryd.prog 7 #[.slice rp 16384 rc, .slice mp ml mc, .int .i64 ph] w fun e w' => e = .returned (.tuple #[.pointer (some ⟨w.heap.size, 0, none⟩), .int .i64 0]) ∧ BAt w' w.heap.size w.heap.size (newS r m ml (frameV ph)) (.slice none 0 0) (.slice none 0 0) ∧ Below w.heap.size w w' := by
  obtain ⟨A, hA, hAc, hbuild⟩ := run_boardBuild (frameV ph)
  have HA := Lib.hid (Cells.new w A 40 77842 _ hA hAc)
  have HR := Lib.hid (hr.below (balloc w (.cells A 40)))
  have HS := Lib.hid hs
  have hne : ∀ g o, mp = some ⟨g, o, none⟩ → 0 < ml → g < w.heap.size := fun g o e h0 => by
    obtain ⟨g', o', e', h', _⟩ := hs h0
    rw [e] at e'; injection e' with e'; injection e' with e' _; omega
  have HNE := Lib.hid hne
  have HF := Lib.hid (frame_any ph w)
  generalize frameV ph = f at *
  clear hAc hA hr hs hne
  go_enter Tryd.func7, Tryd.ntmps7
  go_wp2_with fail
  refine (HF.out).mono ?_
  rintro e w' ⟨rfl, rfl⟩
  have hsz : (Tryd.prog.info? 5).map (·.size) = some 1 := by kernel_rfl
  have HN := Lib.hid (fun w2 (hc2 : Ch (fun k => k = w.heap.size) (w.alloc (.cells A 40)) w2) => show SrcAt w2 mp ml m from fun h0 => ((HS.out.below (balloc w (.cells A 40))).ch hc2 (fun g o e (h : g = w.heap.size) => by have := HNE.out g o e h0; omega)) h0)
  have hmin : Nat.min ml 49152 = ml := Nat.min_eq_left hm
  go_wp2_with (first
    | (refine wpList_copy_mine rfl (.tmp 22) (.tmp 23) 29 29 rfl 5 Tryd.underlying29 hsz w.heap.size 0 65536 65536 rp 16384 rc rfl rfl 40 77842 _ HA.out 16384 rfl r HR.out (by decide) ?_; intro w2 HC2 hc2; have HS2 := Lib.hid (HN.out w2 hc2))
    | (refine wpList_copy_mine rfl (.tmp 28) (.tmp 29) 29 29 rfl 5 Tryd.underlying29 hsz w.heap.size 16384 49152 49152 mp ml mc rfl rfl 40 77842 _ HC2.out ml hmin m HS2.out (by omega) ?_; intro w3 HC3 hc3))
  go_ret2
  refine ⟨rfl, ⟨HC3.out.congr fun j _ => memo_at r m ml f hm j, Nat.le_refl _, World.ownsRow_nil _ _ _ _, World.ownsRow_nil _ _ _ _⟩, ?_⟩
  have hb := balloc w (.cells A 40)
  exact (hb.trans (hc2.below (B := w.heap.size) (fun k hk => Nat.le_of_eq hk.symm) hb.size)).trans (hc3.below (B := w.heap.size) (fun k hk => Nat.le_of_eq hk.symm) (Nat.le_trans hb.size hc2.size))

end Go.Proofs.YtkcfacbnbjkheaaDoor
