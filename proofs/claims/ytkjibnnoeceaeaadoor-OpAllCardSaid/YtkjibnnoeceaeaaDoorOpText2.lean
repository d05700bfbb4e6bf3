/- op.pair, pushed, register, target, loadText: their contracts. -/
import Derived.Test.YtkjibnnoeceaeaaDoorOpText
namespace Go.Proofs.YtkjibnnoeceaeaaDoor
open Go.RowKit

/-- A text of pieces. -/
def txt (E : En) (ts : List Tk) : ByteArray := strL (ren E ts)
theorem txt_app (E : En) (a b : List Tk) : txt E a ++ txt E b = txt E (a ++ b) := by unfold txt; rw [strL_app, ren_app]
theorem txt_lit (E : En) (l : List UInt8) : txt E (lit l) = strL l := by unfold txt; rw [ren_lit]
theorem txt_arr (E : En) (a : Array UInt8) : (⟨a⟩ : ByteArray) = txt E (lit a.toList) := by rw [txt_lit]; simp [strL]
theorem txt_le (E : En) (ts : List Tk) (n : Nat) (hd : E.d < 256) (h : 8 * ts.length ≤ n) : (txt E ts).size ≤ n := by
  unfold txt; rw [strL_size]; exact Nat.le_trans (ren_le E hd ts) h
theorem txt_aw (E : En) : txt E [.aw] = strL (awL E.ix E.d) := by unfold txt; rw [ren_aw]
theorem txt_n2 (E : En) : txt E [.n2] = strL (octL E.n) := by unfold txt; rw [ren_n2]
theorem txt_w4 (E : En) : txt E [.w4] = strL (wordL E.n) := by unfold txt; rw [ren_w4]
theorem txt_e4 (E : En) : txt E [.e4] = strL (wordL E.to) := by unfold txt; rw [ren_e4]
def In.en (x : In) (t : Nat) : En := ⟨x.ix, x.d, x.n, t⟩
theorem lit_len (l : List UInt8) : (lit l).length = l.length := by simp [lit]
theorem getD_le (L : List (List UInt8)) (n : Nat) (h : L.all (fun l => decide (l.length ≤ n)) = true) (k : Nat) : (L.getD k []).length ≤ n := by
  rw [List.getD_eq_getElem?_getD]
  cases hk : L[k]? with
  | none => simp
  | some l =>
    have := List.all_eq_true.1 h l (List.mem_of_getElem? hk)
    simpa using this
theorem regsL_le (k : Nat) : (regsL.getD k []).length ≤ 4 := getD_le _ _ (by decide) k
theorem pairsL_le (k : Nat) : (pairsL.getD k []).length ≤ 2 := getD_le _ _ (by decide) k
theorem condsL_le (k : Nat) : (condsL.getD k []).length ≤ 2 := getD_le _ _ (by decide) k
theorem opersL_le (k : Nat) : (opersL.getD k []).length ≤ 6 := getD_le _ _ (by decide) k
theorem turnsL_le (k : Nat) : (turnsL.getD k []).length ≤ 4 := getD_le _ _ (by decide) k
theorem ofBitsL_le (k : Nat) : (ofBitsL.getD k []).length ≤ 4 := getD_le _ _ (by decide) k
theorem regT_le (h : Bool) (ix : Int) (c k : Nat) : (regT h (nameL ix) c k).length ≤ 6 := by
  have h1 := regsL_le k
  have h2 := nameL_len ix
  unfold regT
  split
  · rw [lit_len]; omega
  split
  · simp
  split
  · rw [lit_len, List.length_append]; omega
  · rw [lit_len]; omega
theorem pairT_le (h : Bool) (ix : Int) (k : Nat) : (pairT h (nameL ix) k).length ≤ 2 := by
  unfold pairT
  split
  · rw [lit_len, nameL_len]; omega
  · rw [lit_len]; exact pairsL_le k

theorem opHasIs (x : In) (r : Bool) (w : World) (h : hasI x.ix = r) : Calls Tryd.prog 60 #[.agg x.arr] w fun e w' => e = .returned (.bool r) ∧ Below w.heap.size w w' := by
  subst h; exact opHas x w

set_option maxHeartbeats 800000 in
theorem opPair (x : In) (k : Int) (tt : Nat) (w : World) (h : OpTab w) (k0 : 0 ≤ k) (k3 : k ≤ 3) : Calls Tryd.prog 56 #[.agg x.arr, .int .u8 k] w fun e w' => e = .returned (.string (txt (x.en tt) (pairT (hasI x.ix) (nameL x.ix) k.toNat))) ∧ Below w.heap.size w w' := by
  have hk : k = 0 ∨ k = 1 ∨ k = 2 ∨ k = 3 := by omega
  clear k0 k3
  have H := Lib.hid h
  clear h
  rcases hk with rfl | rfl | rfl | rfl
  · have c := (H.out.alloc (.cells x.arr 26)).pairs 0 (by decide)
    unfold In.arr at c ⊢
    go_enter Tryd.func56, Tryd.ntmps56
    go_wp2_with fail
    go_ret
    exact ⟨by rw [show pairT (hasI x.ix) (nameL x.ix) (Int.toNat 0) = lit (pairsL.getD 0 []) by simp [pairT], txt_lit]; rfl, balloc _ _⟩
  · have c := (H.out.alloc (.cells x.arr 26)).pairs 1 (by decide)
    unfold In.arr at c ⊢
    go_enter Tryd.func56, Tryd.ntmps56
    go_wp2_with fail
    go_ret
    exact ⟨by rw [show pairT (hasI x.ix) (nameL x.ix) (Int.toNat 1) = lit (pairsL.getD 1 []) by simp [pairT], txt_lit]; rfl, balloc _ _⟩
  · cases hI : hasI x.ix with
    | false =>
      have HH := Lib.hid (fun w => opHasIs x false w hI)
      have P := Lib.hid (show pairT false (nameL x.ix) (Int.toNat 2) = lit (pairsL.getD 2 []) by simp [pairT])
      unfold In.arr at HH ⊢
      clear hI
      go_enter Tryd.func56, Tryd.ntmps56
      go_wp2_with fail
      refine (HH.out _).mono ?_
      rintro e w1 ⟨rfl, hb1⟩
      have c := ((H.out.alloc _).below hb1).pairs 2 (by decide)
      have HB := Lib.hid (below_step (balloc w _) hb1)
      clear hb1
      go_wp2_with fail
      go_ret
      exact ⟨by rw [P.out, txt_lit]; rfl, HB.out⟩
    | true =>
      have HH := Lib.hid (fun w => opHasIs x true w hI)
      have P := Lib.hid (show pairT true (nameL x.ix) (Int.toNat 2) = lit (nameL x.ix) by simp [pairT])
      unfold In.arr at HH ⊢
      clear hI
      go_enter Tryd.func56, Tryd.ntmps56
      go_wp2_with fail
      refine (HH.out _).mono ?_
      rintro e w1 ⟨rfl, hb1⟩
      have c := box_at hb1 1 _ rfl
      have HB := Lib.hid (below_step (balloc w _) hb1)
      clear hb1
      go_wp2_with fail
      refine (opName _ _).mono ?_
      rintro e w' ⟨rfl, rfl⟩
      go_wp2_with fail
      go_ret
      exact ⟨by rw [P.out, txt_lit]; rfl, HB.out⟩
  · have c := (H.out.alloc (.cells x.arr 26)).pairs 3 (by decide)
    unfold In.arr at c ⊢
    go_enter Tryd.func56, Tryd.ntmps56
    go_wp2_with fail
    go_ret
    exact ⟨by rw [show pairT (hasI x.ix) (nameL x.ix) (Int.toNat 3) = lit (pairsL.getD 3 []) by simp [pairT], txt_lit]; rfl, balloc _ _⟩
set_option maxHeartbeats 800000 in
theorem opPush (x : In) (k : Int) (tt : Nat) (w : World) (h : OpTab w) (k0 : 0 ≤ k) (k3 : k ≤ 3) : Calls Tryd.prog 61 #[.agg x.arr, .int .u8 k] w fun e w' => e = .returned (.string (txt (x.en tt) (pushT (hasI x.ix) (nameL x.ix) k.toNat))) ∧ Below w.heap.size w w' := by
  by_cases e : k = 3
  · subst e
    have P := Lib.hid (show pushT (hasI x.ix) (nameL x.ix) (Int.toNat 3) = lit [97, 102] by simp [pushT])
    unfold In.arr
    go_enter Tryd.func61, Tryd.ntmps61
    go_wp2_with fail
    go_ret
    exact ⟨by rw [P.out, txt_lit]; rfl, balloc _ _⟩
  · have HP := Lib.hid (fun w h => opPair x k tt w h k0 k3)
    have P := Lib.hid (show pushT (hasI x.ix) (nameL x.ix) k.toNat = pairT (hasI x.ix) (nameL x.ix) k.toNat by unfold pushT; rw [if_neg (by omega)])
    have hk : (k == 3) = false := by simpa using e
    have H := Lib.hid h
    clear h e
    unfold In.arr at HP ⊢
    go_enter Tryd.func61, Tryd.ntmps61
    go_wp2_with fail
    refine (HP.out _ (H.out.alloc _)).mono ?_
    rintro e w1 ⟨rfl, hb1⟩
    go_wp2_with fail
    go_ret
    exact ⟨by rw [P.out]; rfl, below_step (balloc w _) hb1⟩

theorem reg_lit (x : In) (r : Bool) (k : Nat) (c : Nat) (h : r = false ∨ (k ≠ 6 ∧ ((k ≠ 4 ∧ k ≠ 5) ∨ memC c = true))) : regT r (nameL x.ix) c k = lit (regsL.getD k []) := by
  unfold regT
  rcases h with rfl | ⟨h6, h⟩
  · simp
  · by_cases hr : r = false
    · rw [if_pos hr]
    rw [if_neg hr, if_neg h6, if_neg ?_]
    rintro ⟨h1, h2⟩
    rcases h with h | h
    · omega
    · rw [h2] at h; cases h
set_option maxHeartbeats 800000 in
theorem opReg_lit (x : In) (k : Int) (K : Nat) (r : Bool) (w : World) (h : OpTab w) (hk : k = K) (h8 : K < 8) (hI : hasI x.ix = r) (hn : r = false ∨ ((k == 6) = false ∧ (k == 4) = false ∧ (k == 5) = false)) : Calls Tryd.prog 41 #[.agg x.arr, .int .u8 k] w fun e w' => e = .returned (.string (strL (regsL.getD K []))) ∧ Below w.heap.size w w' := by
  subst hk
  have H := Lib.hid h
  clear h
  have HH := Lib.hid (fun w => opHasIs x r w hI)
  clear hI
  cases r with
  | false =>
    clear hn
    unfold In.arr at HH ⊢
    go_enter Tryd.func41, Tryd.ntmps41
    go_wp2_with fail
    refine (HH.out _).mono ?_
    rintro e w1 ⟨rfl, hb1⟩
    have c := ((H.out.alloc _).below hb1).regs K h8
    have HB := Lib.hid (below_step (balloc w _) hb1)
    clear hb1
    go_wp2_with fail
    go_ret
    exact ⟨rfl, HB.out⟩
  | true =>
    obtain ⟨h6, h4, h5⟩ : ((K : Int) == 6) = false ∧ ((K : Int) == 4) = false ∧ ((K : Int) == 5) = false := by
      rcases hn with h | h
      · cases h
      · exact h
    clear hn
    unfold In.arr at HH ⊢
    go_enter Tryd.func41, Tryd.ntmps41
    go_wp2_with fail
    refine (HH.out _).mono ?_
    rintro e w1 ⟨rfl, hb1⟩
    have c := ((H.out.alloc _).below hb1).regs K h8
    have HB := Lib.hid (below_step (balloc w _) hb1)
    clear hb1
    go_wp2_with fail
    go_ret
    exact ⟨rfl, HB.out⟩
set_option maxHeartbeats 800000 in
theorem opReg_mem (x : In) (w : World) (h : OpTab w) (hd : x.d < 256) (hI : hasI x.ix = true) : Calls Tryd.prog 41 #[.agg x.arr, .int .u8 6] w fun e w' => e = .returned (.string (strL (awL x.ix x.d))) ∧ Below w.heap.size w w' := by
  have H := Lib.hid h
  clear h
  have HH := Lib.hid (fun w => opHasIs x true w hI)
  have HX := Lib.hid (fun w h => opIdx x w h hd)
  clear hI hd
  unfold In.arr at HH HX ⊢
  go_enter Tryd.func41, Tryd.ntmps41
  go_wp2_with fail
  refine (HH.out _).mono ?_
  rintro e w1 ⟨rfl, hb1⟩
  have c0 := box_at hb1 0 _ rfl
  have c1 := box_at hb1 1 _ rfl
  have c2 := box_at hb1 2 _ rfl
  have c3 := box_at hb1 3 _ rfl
  have c4 := box_at hb1 4 _ rfl
  have c5 := box_at hb1 5 _ rfl
  have HB := Lib.hid (below_step (balloc w _) hb1)
  clear hb1
  go_wp2_with fail
  refine (HX.out _ (H.out.below HB.out)).mono ?_
  rintro e w2 ⟨rfl, hb2⟩
  go_wp2_with fail
  go_ret
  exact ⟨rfl, below_step HB.out hb2⟩
set_option maxHeartbeats 800000 in
theorem opReg_hl (x : In) (k : Int) (K : Nat) (w : World) (h : OpTab w) (hk : k = 4 ∧ K = 4 ∨ k = 5 ∧ K = 5) (hc : x.code < 256) (hI : hasI x.ix = true) (r : Bool) (hm : memC x.code = r) : Calls Tryd.prog 41 #[.agg x.arr, .int .u8 k] w fun e w' => e = .returned (.string (strL (if r then regsL.getD K [] else nameL x.ix ++ regsL.getD K []))) ∧ Below w.heap.size w w' := by
  have H := Lib.hid h
  clear h
  have HH := Lib.hid (fun w => opHasIs x true w hI)
  have HM := Lib.hid (fun w => opMemIs x.code r w hc hm)
  have hK : K < 8 := by omega
  clear hI hc hm
  have n2 : (strL (nameL x.ix)).size ≤ 2 := strL_le _ _ (Nat.le_of_eq (nameL_len _))
  have hk' : ∀ u, OpTab u → u.cell? ⟨0, K, none⟩ = some (.string (strL (regsL.getD K []))) := fun u h => h.regs K hK
  have s2 : (strL (regsL.getD K [])).size ≤ 4 := strL_le _ _ (regsL_le K)
  generalize regsL.getD K [] = R at hk' s2 ⊢
  have hap := Lib.hid (strL_app (nameL x.ix) R)
  have HK := Lib.hid hk'
  clear hk' hK
  unfold In.arr at HH ⊢
  rcases hk with ⟨rfl, rfl⟩ | ⟨rfl, rfl⟩
  all_goals
    cases r
    · go_enter Tryd.func41, Tryd.ntmps41
      go_wp2_with fail
      refine (HH.out _).mono ?_
      rintro e w1 ⟨rfl, hb1⟩
      have c2 := box_at hb1 2 _ rfl
      have HB := Lib.hid (below_step (balloc w _) hb1)
      have HD := Lib.hid hb1
      clear hb1
      go_wp2_with fail
      refine (HM.out _).mono ?_
      rintro e w2 ⟨rfl, hb2⟩
      have c1 := box_at (HD.out.trans (hb2.mono HD.out.size)) 1 _ rfl
      have HC := Lib.hid (below_step HB.out hb2)
      have c := HK.out _ (H.out.below HC.out)
      clear hb2 c2 HB HD
      go_wp2_with fail
      go_quiet ((go_at_call 24; exact quiet_eq (opName _ _)))
      go_wp2_with fail
      go_ret
      exact ⟨by rw [← hap.out]; rfl, HC.out.trans (below_drewN' _ _ _)⟩
    · go_enter Tryd.func41, Tryd.ntmps41
      go_wp2_with fail
      refine (HH.out _).mono ?_
      rintro e w1 ⟨rfl, hb1⟩
      have c2 := box_at hb1 2 _ rfl
      have HB := Lib.hid (below_step (balloc w _) hb1)
      clear hb1
      go_wp2_with fail
      refine (HM.out _).mono ?_
      rintro e w2 ⟨rfl, hb2⟩
      have HC := Lib.hid (below_step HB.out hb2)
      have c := HK.out _ (H.out.below HC.out)
      clear hb2 c2 HB
      go_wp2_with fail
      go_ret
      exact ⟨rfl, HC.out⟩
theorem opReg (x : In) (k : Int) (tt : Nat) (w : World) (h : OpTab w) (ok : x.Ok) (k0 : 0 ≤ k) (k7 : k ≤ 7) : Calls Tryd.prog 41 #[.agg x.arr, .int .u8 k] w fun e w' => e = .returned (.string (txt (x.en tt) (regT (hasI x.ix) (nameL x.ix) x.code k.toNat))) ∧ Below w.heap.size w w' := by
  have hK : k = (k.toNat : Int) := by omega
  cases hI : hasI x.ix with
  | false =>
    rw [reg_lit x false k.toNat x.code (Or.inl rfl), txt_lit]
    exact opReg_lit x k k.toNat false w h hK (by omega) hI (Or.inl rfl)
  | true =>
    by_cases h6 : k = 6
    · subst h6
      have e : regT true (nameL x.ix) x.code (Int.toNat 6) = [.aw] := by simp [regT]
      rw [e, txt_aw]
      exact opReg_mem x w h ok.d hI
    by_cases h45 : k = 4 ∨ k = 5
    · have := opReg_hl x k k.toNat w h (by omega) ok.code hI (memC x.code) rfl
      refine this.mono fun _ _ ⟨he, hb⟩ => ⟨?_, hb⟩
      rw [he]
      cases hm : memC x.code with
      | false =>
        have e : regT true (nameL x.ix) x.code k.toNat = lit (nameL x.ix ++ regsL.getD k.toNat []) := by
          unfold regT; rw [if_neg (by decide), if_neg (by omega), if_pos ⟨by omega, hm⟩]
        rw [e, txt_lit]; rfl
      | true => rw [reg_lit x true k.toNat x.code (Or.inr ⟨by omega, Or.inr hm⟩), txt_lit]; rfl
    · rw [reg_lit x true k.toNat x.code (Or.inr ⟨by omega, Or.inl (by omega)⟩), txt_lit]
      exact opReg_lit x k k.toNat true w h hK (by omega) hI (Or.inr ⟨by simp; omega, by simp; omega, by simp; omega⟩)

end Go.Proofs.YtkjibnnoeceaeaaDoor
