/- What is sealed. -/
import Derived.Test.YtcodbcfdbkmegaaTapSum
import Derived.Test.YtcodbcfdbkmegaaCopyMine
namespace Go.Proofs.Ytcodbcfdbkmegaa
open Go.RowKit
set_option linter.unusedVariables false
set_option linter.unusedSimpArgs false

/-- What is sealed. -/
def sldL (f : Int) (l : List Int) : List Int := f :: l ++ [sumX (f :: l ++ [0])]
theorem sldL_len (f : Int) (l : List Int) : (sldL f l).length = l.length + 2 := by simp [sldL]
theorem sld_sum (f : Int) (l : List Int) : sumX (sldL f l) = 0 := sum_sealed (f :: l)
theorem sld_byte8 (f : Int) (l : List Int) (f0 : 0 ≤ f) (f1 : f ≤ 255) (hl : Byte8 l) : Byte8 (sldL f l) := by
  refine Byte8.app (Byte8.app (a := [f]) (byte8_of _ (by intro x hx; simp at hx; subst hx; exact ⟨f0, f1⟩)) hl) (byte8_of _ ?_)
  intro x hx
  simp at hx
  subst hx
  exact sumX_bd _
def Sealed8 (w : World) (f : Int) (l : List Int) (n : Nat) (x : Ending) (w' : World) : Prop := ∃ g, x = .returned (.slice (some ⟨g, 0, none⟩) n n) ∧ w.heap.size ≤ g ∧ Cells w' g 5 n (fun j => .int .u8 (gI (sldL f l) j)) ∧ Below w.heap.size w w'
theorem BAt8.of_cells8 {w : World} {g n : Nat} {ty : TypeId} {l : List Int} (h : Cells w g ty n (fun j => .int .u8 (gI l j))) (hl : l.length = n) (hn : n ≤ maxLen) (h8 : Byte8 l) : BAt8 (fun k => k = g) w (some ⟨g, 0, none⟩) n n l :=
  ⟨hl, Nat.le_refl _, hn, fun h => (by cases h), h8, fun _ => ⟨g, 0, rfl, rfl, h.lt, fun j hj => by rw [Nat.zero_add, h.cell j hj]⟩⟩
theorem src_of {F : Nat → Prop} {w : World} {A : Option Addr} {n cap : Nat} {l : List Int} (h : BAt8 F w A n cap l) : SrcAt w A n (gI l) := fun hn => by
  obtain ⟨b, o, h1, _, h3, h4⟩ := h.lies hn
  exact ⟨b, o, h1, h3, h4⟩
theorem gI_sld (f x : Int) (l : List Int) (j : Nat) : gI (f :: l ++ [x]) j = if j = 0 then f else if j < l.length + 1 then gI l (j - 1) else if j = l.length + 1 then x else 0 := by
  unfold gI
  rcases j with _ | j
  · rfl
  · rw [if_neg (by omega), List.getD_eq_getElem?_getD, List.getD_eq_getElem?_getD, List.cons_append, List.getElem?_cons_succ]
    by_cases h1 : j < l.length
    · rw [if_pos (by omega), List.getElem?_append_left h1]
      rfl
    · rw [if_neg (by omega), List.getElem?_append_right (by omega)]
      by_cases h2 : j = l.length
      · subst h2; simp
      · rw [if_neg (by omega), List.getElem?_eq_none (by simp; omega)]
        rfl
set_option maxHeartbeats 1600000 in
theorem sealed_any (F : Nat → Prop) (A : Option Addr) (n cap : Nat) (l : List Int) (f : Int) (w : World) (hl : BAt8 F w A n cap l) (hn : n ≤ 100000) (f0 : 0 ≤ f) (f1 : f ≤ 255) : Calls Try.prog 19 #[.int .u8 f, .slice A n cap] w (Sealed8 w f l (n + 2)) := by
  have hlen := hl.len
  have hf := hl.fit
  have hm := hl.max
  unfold maxLen at hm
  obtain ⟨M, hM⟩ : ∃ M, n + 2 = M := ⟨_, rfl⟩
  have hMi : 1 + (n : Int) + 1 = (M : Int) := by omega
  obtain ⟨K, hK⟩ : ∃ K, n + 1 = K := ⟨_, rfl⟩
  have hKi : (M : Int) - 1 = (K : Int) := by omega
  have hKM : K < M := by omega
  obtain ⟨w1, mk, hC1, hb1⟩ := make_u8s M w (by omega)
  obtain ⟨g, hg⟩ : ∃ g, w.heap.size = g := ⟨_, rfl⟩
  rw [hg] at mk hC1
  have hC2 := hC1.set 0 (.int .u8 f)
  have hc2 := Ch.set (F := fun k => k = g) w1 g 0 (.int .u8 f) rfl
  have hlt1 := hC1.lt
  have hgs : ∀ k, k < w.heap.size → ¬ k = g := fun k hk => by omega
  have HS := Lib.hid (src_of (((hl.weak (G := fun k => k < w.heap.size) fun k hk _ => hk).below hb1).ch (G := fun k => k = g) hc2 hgs))
  have HB2 := Lib.hid (hb1.trans (hc2.below (B := w.heap.size) (fun k hk => by omega) hb1.size))
  have HC2 := Lib.hid hC2
  have c0 := hC1.cell 0 (by omega)
  have z0 := hC1.frozen 0
  rw [hM]
  obtain ⟨V, hV⟩ : ∃ V, sumX (f :: l ++ [0]) = V := ⟨_, rfl⟩
  have HV := Lib.hid hV
  have hVb := sumX_bd (f :: l ++ [0])
  rw [hV] at hVb
  obtain ⟨v0, v1⟩ := hVb
  have H8 := Lib.hid (show Byte8 (f :: l ++ [0]) from Byte8.app (Byte8.app (a := [f]) (byte8_of _ (by intro x hx; simp at hx; subst hx; exact ⟨f0, f1⟩)) hl.bd) (byte8_of _ (by intro x hx; simp at hx; subst hx; decide)))
  have HG := Lib.hid hg
  have hsz8 : (Try.prog.info? 5).map (·.size) = some 1 := by kernel_rfl
  have hMm : Nat.min n (M - 1) = n := Nat.min_eq_left (by omega)
  clear hl hV hC1 hC2 hc2 hb1 hlt1 hgs
  go_enter Try.func19, Try.ntmps19
  go_wp2_with (refine wpList_copy_mine rfl (.tmp 15) (.tmp 16) 22 22 rfl 5 Try.underlying22 hsz8 g 1 (M - 1) (M - 1) A n cap rfl rfl 5 M _ HC2.out n hMm (gI l) HS.out (by omega) ?_; intro w3 hC3 hc3; have HC3 : Hid (Cells w3 g 5 M (fun j => .int .u8 (gI (f :: l ++ [0]) j))) := Lib.hid (hC3.out.congr fun j hj => by rw [gI_sld]; unfold upd; by_cases e0 : j = 0 <;> by_cases e1 : j < l.length + 1 <;> simp [e0, e1] <;> omega); have HB3 := Lib.hid (HB2.out.trans (hc3.below (B := w.heap.size) (fun k hk => by rw [hk, ← HG.out]; exact Nat.le_refl _) HB2.out.size)); have cM := HC3.out.cell K (by omega); have zM := HC3.out.frozen K; clear hC3 hc3)
  have HSum := Lib.hid (sum_any _ _ _ _ _ V w3 (BAt8.of_cells8 HC3.out (by simp; omega) (by unfold maxLen; omega) H8.out) HV.out)
  have HR : Hid (Sealed8 w f l M (.returned (.slice (some ⟨g, 0, none⟩) M M)) (w3.setCell ⟨g, K, none⟩ (.int .u8 V))) := Lib.hid ⟨g, rfl, by rw [HG.out]; exact Nat.le_refl _, (HC3.out.set K (.int .u8 V)).congr fun j hj => by
    unfold sldL upd
    rw [HV.out]
    dsimp only
    rw [gI_sld, gI_sld]
    by_cases e0 : j = K
    · rw [if_pos e0, if_neg (by omega), if_neg (by omega), if_pos (by omega)]
    · rw [if_neg e0]
      by_cases e1 : j = 0
      · rw [if_pos e1, if_pos e1]
      · rw [if_neg e1, if_neg e1, if_pos (by omega), if_pos (by omega)], HB3.out.setCell (by rw [HG.out]; exact Nat.le_refl _) _⟩
  clear HC3 HB3
  go_wp2_with fail
  refine (HSum.out).mono ?_
  rintro e w' ⟨rfl, rfl⟩
  go_wp2_with fail
  go_ret
  exact HR.out

end Go.Proofs.Ytcodbcfdbkmegaa
