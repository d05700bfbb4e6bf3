/- The document's indexed, filled: their contracts. -/
import Derived.Test.YtkjibnnoeceaeaaDoorOpWords
import Derived.Test.YtkjibnnoeceaeaaDoorOpNear
import Derived.Test.YtkjibnnoeceaeaaDoorHexRef
namespace Go.Proofs.YtkjibnnoeceaeaaDoor
open Go.RowKit

theorem refHasIs (s p : List UInt8) (r : Bool) (w : World) (hs : s.length ≤ 1000) (hp : p.length ≤ 10) (h1 : 1 ≤ p.length) (h : hasF s p = r) : Calls Tryd.prog 35 #[.string (strL s), .string (strL p)] w fun e w' => e = .returned (.bool r) ∧ w = w' := by
  subst h; exact refHas s p w hs hp h1
/-- The words are few and short. -/
def Few (W : List (List UInt8)) : Prop := W.length ≤ 5 ∧ ∀ i, (W.getD i []).length ≤ 20
theorem rowAt_strs {w : World} {v : Value} {W : List (List UInt8)} (h : RowAt w v (W.map strV)) : ∃ g cap, v = .slice (some ⟨g, 0, none⟩) W.length cap ∧ W.length ≤ cap ∧ cap ≤ maxLen ∧ ∀ i, i < W.length → w.cell? ⟨g, i, none⟩ = some (.string (strL (W.getD i []))) := by
  obtain ⟨g, cap, hv, hg, hc, hm, hcell⟩ := h
  simp only [List.length_map] at hv hc hcell
  exact ⟨g, cap, hv, hc, hm, fun i hi => by rw [hcell i hi]; simp [strV, List.getD, hi]⟩
theorem join_step (nm : List UInt8) (W : List (List UInt8)) (k : Nat) (O : List UInt8) (hk : k < W.length) : joinW nm (W.drop k) k O = joinW nm (W.drop (k + 1)) (k + 1) (O ++ [if k = 1 then 32 else 44] ++ wordW nm (W.getD k [])) := by
  rw [List.drop_eq_getElem_cons hk]
  have : W.getD k [] = W[k] := by simp [List.getD, hk]
  rw [this]; rfl
theorem join_end (nm : List UInt8) (W : List (List UInt8)) (k : Nat) (O : List UInt8) (hk : W.length ≤ k) : joinW nm (W.drop k) k O = O := by
  rw [List.drop_of_length_le hk]; rfl
theorem name_no (ix : Int) : ((strL (nameL ix)).toList == [104]) = false ∧ ((strL (nameL ix)).toList == [108]) = false := by
  unfold nameL
  split
  · exact ⟨by decide +kernel, by decide +kernel⟩
  · exact ⟨by decide +kernel, by decide +kernel⟩
theorem wordW_le (ix : Int) (V : List UInt8) : (wordW (nameL ix) V).length ≤ V.length + 2 := by
  have := nameL_len ix
  have key : ∀ w : List UInt8, w.length ≤ V.length + 2 → (w = [104] ∨ w = [108] → w = V) → (if w = [104] ∨ w = [108] then nameL ix ++ w else w).length ≤ V.length + 2 := by
    intro w hw he
    split
    · rename_i h
      have := he h
      subst this
      rw [List.length_append]; omega
    · exact hw
  unfold wordW
  by_cases h : V = [104, 108]
  · rw [if_pos h]
    refine key _ (by omega) (fun e => ?_)
    have : (nameL ix).length = 1 := by rcases e with e | e <;> rw [e] <;> rfl
    omega
  · rw [if_neg h]
    exact key _ (by omega) (fun _ => rfl)

set_option maxRecDepth 100000 in
set_option maxHeartbeats 1600000 in
theorem refIdx1 (s : List UInt8) (x : In) (w : World) (hs : s.length ≤ 100) (hd : x.d < 256) (h : hasF s hlL = true) : Calls Tryd.prog 26 #[.string (strL s), .agg x.arr] w fun e w' => e = .returned (.string (strL (swapF s hlL (awL x.ix x.d)))) ∧ Below w.heap.size w w' := by
  have HH := Lib.hid (fun w => refHasIs s hlL true w (by omega) (by decide) (by decide) h)
  have HA := Lib.hid (fun w => refAway x.ix x.d w hd)
  have HS := Lib.hid (fun w => refSwap s hlL (awL x.ix x.d) w (by omega) (by decide) (by decide) (by have := awL_len x.ix x.d hd; omega))
  clear h hd hs
  unfold In.arr
  go_enter Tryd.func26, Tryd.ntmps26
  go_wp2_with fail
  refine (HH.out _).mono ?_
  rintro e w' ⟨rfl, rfl⟩
  go_wp2_with fail
  refine (HA.out _).mono ?_
  rintro e w' ⟨rfl, rfl⟩
  go_wp2_with fail
  refine (HS.out _).mono ?_
  rintro e w1 ⟨rfl, hb1⟩
  go_wp2_with fail
  go_ret
  exact ⟨rfl, below_step (balloc w _) hb1⟩
set_option maxRecDepth 100000 in
set_option maxHeartbeats 1600000 in
theorem refIdx2 (s : List UInt8) (x : In) (w : World) (hs : s.length ≤ 100) (h : hasF s hlL = false) (hc : ((x.code : Int) == 235) = true) : Calls Tryd.prog 26 #[.string (strL s), .agg x.arr] w fun e w' => e = .returned (.string (strL s)) ∧ Below w.heap.size w w' := by
  have HH := Lib.hid (fun w => refHasIs s hlL false w (by omega) (by decide) (by decide) h)
  clear h hs
  unfold In.arr
  go_enter Tryd.func26, Tryd.ntmps26
  go_wp2_with fail
  refine (HH.out _).mono ?_
  rintro e w' ⟨rfl, rfl⟩
  go_wp2_with fail
  go_ret
  exact ⟨rfl, balloc w _⟩
set_option maxRecDepth 100000 in
set_option maxHeartbeats 4000000 in
theorem refIdx3 (s : List UInt8) (x : In) (w : World) (hs : s.length ≤ 100) (h : hasF s hlL = false) (hc : ((x.code : Int) == 235) = false) (hf : Few (wordsGo s [] [])) : Calls Tryd.prog 26 #[.string (strL s), .agg x.arr] w fun e w' => e = .returned (.string (strL (joinW (nameL x.ix) ((wordsGo s [] []).drop 1) 1 ((wordsGo s [] []).headD [])))) ∧ Below w.heap.size w w' := by
  have HH := Lib.hid (fun w => refHasIs s hlL false w (by omega) (by decide) (by decide) h)
  have HW := Lib.hid (fun w => refWords s w (by omega))
  have hp := wordsGo_pos s [] []
  obtain ⟨W, hW⟩ : ∃ W, wordsGo s [] [] = W := ⟨_, rfl⟩
  rw [hW] at HW hf hp
  rw [hW]
  obtain ⟨f1, f2⟩ := hf
  have F2 := Lib.hid f2
  have h0 := f2 0
  obtain ⟨n1, n2⟩ := name_no x.ix
  have nl : (strL (nameL x.ix)).size ≤ 2 := strL_le _ _ (Nat.le_of_eq (nameL_len _))
  have WL := Lib.hid (fun V => wordW_le x.ix V)
  have hd : W.headD [] = W.getD 0 [] := by cases W <;> rfl
  rw [hd]
  obtain ⟨T, hT⟩ : ∃ T, joinW (nameL x.ix) (W.drop 1) 1 (W.getD 0 []) = T := ⟨_, rfl⟩
  rw [hT]
  obtain ⟨V0, hV0⟩ : ∃ V0, W.getD 0 [] = V0 := ⟨_, rfl⟩
  rw [hV0] at hT h0
  have HT := Lib.hid hT
  have HV0 := Lib.hid hV0
  clear h hs hW f2 hd hT hV0
  unfold In.arr
  go_enter Tryd.func26, Tryd.ntmps26
  go_wp2_with fail
  refine (HH.out _).mono ?_
  rintro e w' ⟨rfl, rfl⟩
  go_wp2_with fail
  refine (HW.out _).mono ?_
  rintro e w1 ⟨v, rfl, hv, hb1⟩
  obtain ⟨g, cap, rfl, hc1, hc2, hcell⟩ := rowAt_strs hv
  unfold maxLen at hc2
  have i1 := box_at hb1 1 _ rfl
  have c0 := hcell 0 hp
  rw [HV0.out] at c0
  have HC := Lib.hid hcell
  have HB := Lib.hid (below_step (balloc w _) hb1)
  clear hv hb1 hcell HW HH
  go_wp2_with fail
  clear c0
  go_loop [6, 7] (fun u i => ∃ (k : Nat) (O : List UInt8), i = .int .i64 k ∧ 1 ≤ k ∧ k ≤ W.length ∧ u = .string (strL O) ∧ O.length ≤ 30 * k ∧ Hid (joinW (nameL x.ix) (W.drop k) k O = T)) (fun _ i => W.length - (intOf i).toNat)
  case atStart => exact ⟨1, V0, by go_num, by omega, by omega, rfl, by omega, HT⟩
  case round =>
    obtain ⟨k, O, rfl, hk1, hk, rfl, hO, HJ⟩ := hrel
    have os : (strL O).size ≤ 200 := strL_le _ _ (by omega)
    by_cases hlt : k < W.length
    · have ck := HC.out k hlt
      have HS := Lib.hid (join_step (nameL x.ix) W k O hlt)
      have hv := F2.out k
      have hw2 := WL.out (W.getD k [])
      obtain ⟨V, hV⟩ : ∃ V, W.getD k [] = V := ⟨_, rfl⟩
      rw [hV] at ck HS hv hw2
      have HO := Lib.hid (show (O ++ [if k = 1 then 32 else 44] ++ wordW (nameL x.ix) V).length ≤ 30 * (k + 1) by rw [List.length_append, List.length_append, List.length_singleton]; omega)
      have vs : (strL V).size ≤ 20 := strL_le _ _ hv
      have tl : ∀ c : List UInt8, V = c → ((strL V).toList == (strL c).toList) = true := fun c e => str_eq (by rw [e])
      have fl : ∀ c : List UInt8, ¬ V = c → ((strL V).toList == (strL c).toList) = false := fun c e => str_ne (fun h => e (strL_inj.1 h))
      have e0 : (strL [104, 108]).toList = [104, 108] := by decide +kernel
      have e1 : (strL [104]).toList = [104] := by decide +kernel
      have e2 : (strL [108]).toList = [108] := by decide +kernel
      have tl0 := tl [104, 108]
      have tl1 := tl [104]
      have tl2 := tl [108]
      have fl0 := fl [104, 108]
      have fl1 := fl [104]
      have fl2 := fl [108]
      rw [e0] at tl0 fl0
      rw [e1] at tl1 fl1
      rw [e2] at tl2 fl2
      clear tl fl e0 e1 e2 hV hw2
      by_cases hV : V = [104, 108]
      · have q0 := tl0 hV
        have hwv : wordW (nameL x.ix) V = nameL x.ix := by
          have hl := nameL_len x.ix
          unfold wordW; rw [if_pos hV, if_neg]; rintro (e | e) <;> rw [e] at hl <;> simp at hl
        by_cases hk : k = 1
        · skip
          have HZ := Lib.hid (show strL O ++ ⟨#[32]⟩ ++ strL (nameL x.ix) = strL (O ++ [if k = 1 then 32 else 44] ++ wordW (nameL x.ix) V) by
            rw [hwv, if_pos hk, show (⟨#[32]⟩ : ByteArray) = strL [32] from rfl]
            rw [strL_app, strL_app])
          have hkb : ((k : Int) == 1) = true := by rw [beq_iff_eq]; omega
          clear tl0 tl1 tl2 fl0 fl1 fl2 hwv hk hV
          go_wp2_with fail
          refine (refName _ _).mono ?_
          rintro e w' ⟨rfl, rfl⟩
          go_wp2_with fail
          go_round
          case rel => exact ⟨k + 1, _, by go_num, by omega, by omega, by rw [← HZ.out], HO.out, Lib.hid (by rw [← HS.out, HJ.out])⟩
          case measure => simp [intOf]; omega
        · skip
          have HZ := Lib.hid (show strL O ++ ⟨#[44]⟩ ++ strL (nameL x.ix) = strL (O ++ [if k = 1 then 32 else 44] ++ wordW (nameL x.ix) V) by
            rw [hwv, if_neg hk, show (⟨#[44]⟩ : ByteArray) = strL [44] from rfl]
            rw [strL_app, strL_app])
          have hkb : ((k : Int) == 1) = false := by rw [beq_eq_false_iff_ne]; omega
          clear tl0 tl1 tl2 fl0 fl1 fl2 hwv hk hV
          go_wp2_with fail
          refine (refName _ _).mono ?_
          rintro e w' ⟨rfl, rfl⟩
          go_wp2_with fail
          go_round
          case rel => exact ⟨k + 1, _, by go_num, by omega, by omega, by rw [← HZ.out], HO.out, Lib.hid (by rw [← HS.out, HJ.out])⟩
          case measure => simp [intOf]; omega
      by_cases hVh : V = [104]
      · have q0 := fl0 hV
        have q1 := tl1 hVh
        have hwv : wordW (nameL x.ix) V = nameL x.ix ++ V := by
          unfold wordW; rw [if_neg hV, if_pos (Or.inl hVh)]
        by_cases hk : k = 1
        · skip
          have HZ := Lib.hid (show strL O ++ ⟨#[32]⟩ ++ (strL (nameL x.ix) ++ strL V) = strL (O ++ [if k = 1 then 32 else 44] ++ wordW (nameL x.ix) V) by
            rw [hwv, if_pos hk, show (⟨#[32]⟩ : ByteArray) = strL [32] from rfl]
            rw [strL_app, strL_app, strL_app])
          have hkb : ((k : Int) == 1) = true := by rw [beq_iff_eq]; omega
          clear tl0 tl1 tl2 fl0 fl1 fl2 hwv hk hV hVh
          go_wp2_with fail
          refine (refName _ _).mono ?_
          rintro e w' ⟨rfl, rfl⟩
          go_wp2_with fail
          go_round
          case rel => exact ⟨k + 1, _, by go_num, by omega, by omega, by rw [← HZ.out], HO.out, Lib.hid (by rw [← HS.out, HJ.out])⟩
          case measure => simp [intOf]; omega
        · skip
          have HZ := Lib.hid (show strL O ++ ⟨#[44]⟩ ++ (strL (nameL x.ix) ++ strL V) = strL (O ++ [if k = 1 then 32 else 44] ++ wordW (nameL x.ix) V) by
            rw [hwv, if_neg hk, show (⟨#[44]⟩ : ByteArray) = strL [44] from rfl]
            rw [strL_app, strL_app, strL_app])
          have hkb : ((k : Int) == 1) = false := by rw [beq_eq_false_iff_ne]; omega
          clear tl0 tl1 tl2 fl0 fl1 fl2 hwv hk hV hVh
          go_wp2_with fail
          refine (refName _ _).mono ?_
          rintro e w' ⟨rfl, rfl⟩
          go_wp2_with fail
          go_round
          case rel => exact ⟨k + 1, _, by go_num, by omega, by omega, by rw [← HZ.out], HO.out, Lib.hid (by rw [← HS.out, HJ.out])⟩
          case measure => simp [intOf]; omega
      by_cases hVl : V = [108]
      · have q0 := fl0 hV
        have q1 := fl1 hVh
        have q2 := tl2 hVl
        have hwv : wordW (nameL x.ix) V = nameL x.ix ++ V := by
          unfold wordW; rw [if_neg hV, if_pos (Or.inr hVl)]
        by_cases hk : k = 1
        · skip
          have HZ := Lib.hid (show strL O ++ ⟨#[32]⟩ ++ (strL (nameL x.ix) ++ strL V) = strL (O ++ [if k = 1 then 32 else 44] ++ wordW (nameL x.ix) V) by
            rw [hwv, if_pos hk, show (⟨#[32]⟩ : ByteArray) = strL [32] from rfl]
            rw [strL_app, strL_app, strL_app])
          have hkb : ((k : Int) == 1) = true := by rw [beq_iff_eq]; omega
          clear tl0 tl1 tl2 fl0 fl1 fl2 hwv hk hV hVh hVl
          go_wp2_with fail
          refine (refName _ _).mono ?_
          rintro e w' ⟨rfl, rfl⟩
          go_wp2_with fail
          go_round
          case rel => exact ⟨k + 1, _, by go_num, by omega, by omega, by rw [← HZ.out], HO.out, Lib.hid (by rw [← HS.out, HJ.out])⟩
          case measure => simp [intOf]; omega
        · skip
          have HZ := Lib.hid (show strL O ++ ⟨#[44]⟩ ++ (strL (nameL x.ix) ++ strL V) = strL (O ++ [if k = 1 then 32 else 44] ++ wordW (nameL x.ix) V) by
            rw [hwv, if_neg hk, show (⟨#[44]⟩ : ByteArray) = strL [44] from rfl]
            rw [strL_app, strL_app, strL_app])
          have hkb : ((k : Int) == 1) = false := by rw [beq_eq_false_iff_ne]; omega
          clear tl0 tl1 tl2 fl0 fl1 fl2 hwv hk hV hVh hVl
          go_wp2_with fail
          refine (refName _ _).mono ?_
          rintro e w' ⟨rfl, rfl⟩
          go_wp2_with fail
          go_round
          case rel => exact ⟨k + 1, _, by go_num, by omega, by omega, by rw [← HZ.out], HO.out, Lib.hid (by rw [← HS.out, HJ.out])⟩
          case measure => simp [intOf]; omega
      have q0 := fl0 hV
      have q1 := fl1 hVh
      have q2 := fl2 hVl
      have hwv : wordW (nameL x.ix) V = V := by
        unfold wordW; rw [if_neg hV, if_neg]; rintro (e | e); exact hVh e; exact hVl e
      by_cases hk : k = 1
      · skip
        have HZ := Lib.hid (show strL O ++ ⟨#[32]⟩ ++ strL V = strL (O ++ [if k = 1 then 32 else 44] ++ wordW (nameL x.ix) V) by
          rw [hwv, if_pos hk, show (⟨#[32]⟩ : ByteArray) = strL [32] from rfl]
          rw [strL_app, strL_app])
        have hkb : ((k : Int) == 1) = true := by rw [beq_iff_eq]; omega
        clear tl0 tl1 tl2 fl0 fl1 fl2 hwv hk hV hVh hVl
        go_wp2_with fail
        go_round
        case rel => exact ⟨k + 1, _, by go_num, by omega, by omega, by rw [← HZ.out], HO.out, Lib.hid (by rw [← HS.out, HJ.out])⟩
        case measure => simp [intOf]; omega
      · skip
        have HZ := Lib.hid (show strL O ++ ⟨#[44]⟩ ++ strL V = strL (O ++ [if k = 1 then 32 else 44] ++ wordW (nameL x.ix) V) by
          rw [hwv, if_neg hk, show (⟨#[44]⟩ : ByteArray) = strL [44] from rfl]
          rw [strL_app, strL_app])
        have hkb : ((k : Int) == 1) = false := by rw [beq_eq_false_iff_ne]; omega
        clear tl0 tl1 tl2 fl0 fl1 fl2 hwv hk hV hVh hVl
        go_wp2_with fail
        go_round
        case rel => exact ⟨k + 1, _, by go_num, by omega, by omega, by rw [← HZ.out], HO.out, Lib.hid (by rw [← HS.out, HJ.out])⟩
        case measure => simp [intOf]; omega
    · have HZ := Lib.hid (show strL O = strL T by rw [← HJ.out, join_end _ _ _ _ (by omega)])
      go_wp2_with fail
      go_ret
      exact ⟨by rw [← HZ.out]; rfl, HB.out⟩
theorem refIdx (s : List UInt8) (x : In) (w : World) (hs : s.length ≤ 100) (hd : x.d < 256) (hf : hasF s hlL = false → Few (wordsGo s [] [])) : Calls Tryd.prog 26 #[.string (strL s), .agg x.arr] w fun e w' => e = .returned (.string (strL (idxF s x.ix x.d x.code))) ∧ Below w.heap.size w w' := by
  unfold idxF
  cases h : hasF s hlL with
  | true => rw [if_pos rfl]; exact refIdx1 s x w hs hd h
  | false =>
    rw [if_neg (by decide)]
    by_cases hc : x.code = 235
    · rw [if_pos hc]; exact refIdx2 s x w hs h (by rw [beq_iff_eq]; omega)
    · rw [if_neg hc]; exact refIdx3 s x w hs h (by rw [beq_eq_false_iff_ne]; omega) (hf h)

theorem swapF_le (s p b : List UInt8) : (swapF s p b).length ≤ s.length + b.length := by
  unfold swapF
  cases posF p s with
  | none => simp
  | some i => simp only [List.length_append, List.length_take, List.length_drop]; omega
theorem digitsIs (m : Int) (n k : Nat) (w : World) (hn : n < 65536) (hk : k ≤ 4) (hm : m = n) : Calls Tryd.prog 51 #[.int .i64 m, .int .i64 k] w fun e w' => e = .returned (.string (strL (hexN k n))) ∧ w = w' := by
  subst hm; exact digits_any n k w hn hk

set_option maxRecDepth 100000 in
set_option maxHeartbeats 1600000 in
theorem refFil (s : List UInt8) (x : In) (pc : Nat) (w : World) (hs : s.length ≤ 100) (hn : x.n < 65536) (hpc : pc < 65536) (l0 : 0 ≤ x.len) (l8 : x.len ≤ 8) : Calls Tryd.prog 27 #[.string (strL s), .agg x.arr, .int .u16 pc] w fun e w' => e = .returned (.string (strL (filF s x.n (tgtN x pc)))) ∧ Below w.heap.size w w' := by
  have p0 : (0 : Int) ≤ pc := by omega
  have p1 : (pc : Int) ≤ 65535 := by omega
  have n0 : (0 : Int) ≤ x.n := by omega
  have n1 : (x.n : Int) ≤ 65535 := by omega
  have d1 : (strL (hexN 2 (x.n % 256))).size ≤ 4 := strL_le _ _ (by rw [hexN_len]; omega)
  have d2 : (strL (hexN 4 x.n)).size ≤ 4 := strL_le _ _ (by rw [hexN_len]; omega)
  have d3 : (strL (hexN 4 (tgtN x pc))).size ≤ 4 := strL_le _ _ (by rw [hexN_len]; omega)
  have ht := tgtN_lt x pc
  have H1 := Lib.hid (fun w => digitsIs ((x.n : Int) % 256) (x.n % 256) 2 w (by omega) (by decide) (by omega))
  have H2 := Lib.hid (fun w => digitsIs (x.n : Int) x.n 4 w hn (by decide) rfl)
  have H3 := Lib.hid (fun w => digitsIs (plusW (((pc : Int) + x.len) % 65536) ((x.n : Int) % 256)) (tgtN x pc) 4 w ht (by decide) (tgtN_int x pc))
  have b1 : (octL x.n).length ≤ 5 := by rw [octL_len]; omega
  have b2 : (wordL x.n).length ≤ 5 := by rw [wordL_len]; omega
  have b3 : (wordL (tgtN x pc)).length ≤ 5 := by rw [wordL_len]; omega
  have z1 := swapF_le s [78] (octL x.n)
  have z2 := swapF_le (swapF s [78] (octL x.n)) [87] (wordL x.n)
  have S1 := Lib.hid (fun w => refSwap s [78] (octL x.n) w (by omega) (by decide) (by decide) (by omega))
  have S2 := Lib.hid (fun w => refSwap (swapF s [78] (octL x.n)) [87] (wordL x.n) w (by omega) (by decide) (by decide) (by omega))
  have S3 := Lib.hid (fun w => refSwap (swapF (swapF s [78] (octL x.n)) [87] (wordL x.n)) [69] (wordL (tgtN x pc)) w (by omega) (by decide) (by decide) (by omega))
  have E1 : (⟨#[36]⟩ : ByteArray) ++ strL (hexN 2 (x.n % 256)) = strL (octL x.n) := by show strL [36] ++ _ = _; rw [strL_app]; rfl
  have E2 : (⟨#[36]⟩ : ByteArray) ++ strL (hexN 4 x.n) = strL (wordL x.n) := by show strL [36] ++ _ = _; rw [strL_app]; rfl
  have E3 : (⟨#[36]⟩ : ByteArray) ++ strL (hexN 4 (tgtN x pc)) = strL (wordL (tgtN x pc)) := by show strL [36] ++ _ = _; rw [strL_app]; rfl
  have HP := Lib.hid (fun w => refPlusO (((pc : Int) + x.len) % 65536) ((x.n : Int) % 256) w (by omega) (by omega) (by omega) (by omega))
  have pb := plusW_bd (((pc : Int) + x.len) % 65536) ((x.n : Int) % 256)
  obtain ⟨pb0, pb1⟩ := pb
  clear z1 z2 b1 b2 b3 ht hn hpc hs
  unfold In.arr
  go_enter Tryd.func27, Tryd.ntmps27
  go_wp2_with fail
  refine (H1.out _).mono ?_
  rintro e w' ⟨rfl, rfl⟩
  go_wp2_with fail
  refine (S1.out _).mono ?_
  rintro e w1 ⟨rfl, hb1⟩
  have i4 := box_at hb1 4 _ rfl
  have B1 := Lib.hid hb1
  clear hb1
  go_wp2_with fail
  refine (H2.out _).mono ?_
  rintro e w' ⟨rfl, rfl⟩
  go_wp2_with fail
  refine (S2.out _).mono ?_
  rintro e w2 ⟨rfl, hb2⟩
  have hb3 := hb2
  have B2 := Lib.hid (B1.out.trans (hb2.mono B1.out.size))
  clear hb2 hb3 i4 B1
  have i4 := box_at B2.out 4 _ rfl
  have i5 := box_at B2.out 5 _ rfl
  go_wp2_with fail
  refine (HP.out _).mono ?_
  rintro e w' ⟨rfl, rfl⟩
  go_wp2_with fail
  refine (H3.out _).mono ?_
  rintro e w' ⟨rfl, rfl⟩
  go_wp2_with fail
  refine (S3.out _).mono ?_
  rintro e w3 ⟨rfl, hb3⟩
  go_wp2_with fail
  go_ret
  exact ⟨rfl, below_step (below_step (balloc w _) B2.out) hb3⟩

end Go.Proofs.YtkjibnnoeceaeaaDoor
