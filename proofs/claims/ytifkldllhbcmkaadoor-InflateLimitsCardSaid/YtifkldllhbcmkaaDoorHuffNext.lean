/- huff's Next. -/
import Derived.Test.YtifkldllhbcmkaaDoorHuffNew
import Derived.Test.YtifkldllhbcmkaaDoorHuffTake
namespace Go.Proofs.YtifkldllhbcmkaaDoor
open Go.RowKit

/-- The bits from p on. -/
def bitsF (bs : List Int) (p j : Nat) : Nat := bitN bs (p + j)
theorem bitsF_le (bs : List Int) (p j : Nat) : bitsF bs p j ≤ 1 := bitN_le _ _
/-- What is read of bits from p on. -/
def readR (l bs : List Int) (p : Nat) : Nat × Nat × Nat := stepD (nOf l) (tabF (lnN l) (nOf l) l.length) (bitsF bs p) (8 * bs.length - p) 16 0
def Nexted (F : Nat → Prop) (w : World) (gb : Nat) (bs : List Int) (p : Nat) (R : Nat × Nat × Nat) (e : Ending) (w' : World) : Prop :=
  e = .returned (.tuple #[.int .i64 (R.1 : Nat), .int .i64 (R.2.2 : Nat)]) ∧ (R.2.2 = 0 → BitsAt F w' gb bs (p + R.2.1)) ∧ Ch (fun k => k = gb) w w'
/-- t bits were taken, no code came to its end. -/
structure Nx (G F : Nat → Prop) (w wr : World) (gb : Nat) (l bs : List Int) (p : Nat) (R : Nat × Nat × Nat) (t P D : Nat) (A : Option Addr) (c : Nat) : Prop where
  t15 : t ≤ 15
  v : val (bitsF bs p) t = endC (nOf l) t + P
  r : stepD (nOf l) (tabF (lnN l) (nOf l) l.length) (bitsF bs p) (8 * bs.length - p) (16 - t) t = R
  bits : BitsAt F wr gb bs (p + t)
  ch : Ch (fun k => k = gb) w wr
  rest : IAt G wr A D c ((symsL l).drop (plc (nOf l) (t + 1)))
  d : D + plc (nOf l) (t + 1) = plc (nOf l) 16
theorem symsL_len (l : List Int) : (symsL l).length = plc (nOf l) 16 := lstF_len _ _
theorem Nx.start {G F : Nat → Prop} {w : World} {gb : Nat} {l bs : List Int} {p : Nat} (hb : BitsAt F w gb bs p) {A : Option Addr} {n c : Nat} (hI : IAt G w A n c (symsL l)) : Nx G F w w gb l bs p (readR l bs p) 0 0 n A c := by
  have e1 : plc (nOf l) (0 + 1) = 0 := by simp [plc, nOf_zero]
  refine ⟨by omega, ?_, rfl, hb, Ch.refl _ _, ?_, ?_⟩
  · simp [val, endC, fstC, nOf_zero]
  · rw [e1, List.drop_zero]; exact hI
  · rw [e1, ← symsL_len, hI.len]; rfl
theorem Nx.form {G F : Nat → Prop} {w wr : World} {gb : Nat} {l bs : List Int} {p : Nat} {R : Nat × Nat × Nat} {t P D : Nat} {A : Option Addr} {c : Nat} (h : Nx G F w wr gb l bs p R t P D A c) (hD : D = 0) :
    Nexted F w gb bs p R (.returned (.tuple #[.int .i64 0, .int .i64 4])) wr := by
  have e : 16 - t = (15 - t) + 1 := by have := h.t15; omega
  have hr := h.r
  rw [e, step_form _ _ _ _ _ _ (by have := h.v; omega) (by have := h.d; omega)] at hr
  subst hr
  exact ⟨rfl, fun x => absurd x (show (4 : Nat) ≠ 0 by decide), h.ch⟩
theorem Nx.t14 {G F : Nat → Prop} {w wr : World} {gb : Nat} {l bs : List Int} {p : Nat} {R : Nat × Nat × Nat} {t P D : Nat} {A : Option Addr} {c : Nat} (h : Nx G F w wr gb l bs p R t P D A c) (hD : 0 < D) : t < 15 := by
  have h1 := h.d
  have h2 := h.t15
  by_cases c : t = 15
  · subst c
    have h3 : D + plc (nOf l) 16 = plc (nOf l) 16 := h1
    omega
  · omega
theorem Nx.over {G F : Nat → Prop} {w wr : World} {gb : Nat} {l bs : List Int} {p : Nat} {R : Nat × Nat × Nat} {t P D : Nat} {A : Option Addr} {c : Nat} (h : Nx G F w wr gb l bs p R t P D A c) (hD : 0 < D) (hl : 8 * bs.length ≤ p + t) (m : Nat) :
    Nexted F w gb bs p R (.returned (.tuple #[.int .i64 0, .int .i64 2])) (wr.drewN m) := by
  have e : 16 - t = (15 - t) + 1 := by have := h.t15; omega
  have hr := h.r
  rw [e, step_end _ _ _ _ _ _ (by have := h.v; omega) (by have := h.d; omega) (by omega)] at hr
  subst hr
  exact ⟨rfl, fun x => absurd x (show (2 : Nat) ≠ 0 by decide), h.ch.then (Ch.of_below (bdrawn (Below.refl _ _) m))⟩
/-- One bit more was taken. -/
structure Ny (G F : Nat → Prop) (w wr : World) (gb : Nat) (l bs : List Int) (p : Nat) (R : Nat × Nat × Nat) (t Q D : Nat) (A : Option Addr) (c : Nat) : Prop where
  t14 : t < 15
  v : val (bitsF bs p) (t + 1) = fstC (nOf l) (t + 1) + Q
  r : stepD (nOf l) (tabF (lnN l) (nOf l) l.length) (bitsF bs p) (8 * bs.length - p) (15 - t) (t + 1) = R
  bits : BitsAt F wr gb bs (p + t + 1)
  ch : Ch (fun k => k = gb) w wr
  rest : IAt G wr A D c ((symsL l).drop (plc (nOf l) (t + 1)))
  d : D + plc (nOf l) (t + 1) = plc (nOf l) 16
theorem Nx.taken {G F : Nat → Prop} {w wr wx : World} {gb : Nat} {l bs : List Int} {p : Nat} {R : Nat × Nat × Nat} {t P D : Nat} {A : Option Addr} {c : Nat} (h : Nx G F w wr gb l bs p R t P D A c) (hD : 0 < D) (hl : p + t < 8 * bs.length) (hG : ∀ k, G k → ¬ k = gb)
    (hb : BitsAt F wx gb bs (p + t + 1)) (hc : Ch (fun k => k = gb) wr wx) : Ny G F w wx gb l bs p R t (2 * P + bitN bs (p + t)) D A c := by
  have h14 := h.t14 hD
  have e : 16 - t = (15 - t) + 1 := by omega
  have hr := h.r
  rw [e, step_on _ _ _ _ _ _ (by have := h.v; omega) (by have := h.d; omega) (by omega)] at hr
  refine ⟨h14, ?_, hr, hb, h.ch.then hc, h.rest.ch hc hG, h.d⟩
  rw [val, h.v, fst_next]
  unfold bitsF
  omega
theorem Ny.hit {G F : Nat → Prop} {w wr : World} {gb : Nat} {l bs : List Int} {p : Nat} {R : Nat × Nat × Nat} {t Q D : Nat} {A : Option Addr} {c : Nat} (h : Ny G F w wr gb l bs p R t Q D A c) (hQ : Q < nOf l (t + 1)) :
    Q < D ∧ Nexted F w gb bs p R (.returned (.tuple #[.int .i64 (gI ((symsL l).drop (plc (nOf l) (t + 1))) Q), .int .i64 0])) wr := by
  have h14 := h.t14
  have e : 15 - t = (14 - t) + 1 := by omega
  have hr := h.r
  have hp : plc (nOf l) (t + 1 + 1) = plc (nOf l) (t + 1) + nOf l (t + 1) := rfl
  have hp2 := plc_mono (nOf l) (t + 1 + 1) 16 (by omega)
  have hd := h.d
  rw [e, step_hit _ _ _ _ _ _ (by rw [h.v]; unfold endC; omega), h.v] at hr
  rw [show fstC (nOf l) (t + 1) + Q - fstC (nOf l) (t + 1) = Q by omega] at hr
  refine ⟨by omega, ?_⟩
  subst hr
  refine ⟨?_, fun _ => ?_, h.ch⟩
  · rw [gI_drop]
    unfold symsL
    rw [gI_lstF _ _ _ (by omega)]
    rfl
  · show BitsAt F wr gb bs (p + (t + 1))
    exact h.bits
theorem Ny.miss {G F : Nat → Prop} {w wr : World} {gb : Nat} {l bs : List Int} {p : Nat} {R : Nat × Nat × Nat} {t Q D : Nat} {A : Option Addr} {c : Nat} (h : Ny G F w wr gb l bs p R t Q D A c) (hQ : nOf l (t + 1) ≤ Q) :
    nOf l (t + 1) ≤ D ∧ ∀ A' c', IAt G wr A' (D - nOf l (t + 1)) c' (((symsL l).drop (plc (nOf l) (t + 1))).drop (nOf l (t + 1))) → Nx G F w wr gb l bs p R (t + 1) (Q - nOf l (t + 1)) (D - nOf l (t + 1)) A' c' := by
  have h14 := h.t14
  have hp : plc (nOf l) (t + 1 + 1) = plc (nOf l) (t + 1) + nOf l (t + 1) := rfl
  have hp2 := plc_mono (nOf l) (t + 1 + 1) 16 (by omega)
  have hd := h.d
  refine ⟨by omega, fun A' c' hI => ⟨by omega, ?_, ?_, h.bits, h.ch, ?_, by omega⟩⟩
  · rw [h.v]; unfold endC; omega
  · rw [show 16 - (t + 1) = 15 - t by omega]; exact h.r
  · rw [hp, ← List.drop_drop]; exact hI
theorem Ny.small {G F : Nat → Prop} {w wr : World} {gb : Nat} {l bs : List Int} {p : Nat} {R : Nat × Nat × Nat} {t Q D : Nat} {A : Option Addr} {c : Nat} (h : Ny G F w wr gb l bs p R t Q D A c) : Q < 32768 := by
  have h1 := val_lt (bitsF bs p) (bitsF_le bs p) (t + 1)
  have h2 : 2 ^ (t + 1) ≤ 2 ^ 15 := Nat.pow_le_pow_right (by decide) (by have := h.t14; omega)
  have := h.v
  omega
theorem next_nilT (v : Value) (w : World) : Calls Tryd.prog 25 #[.pointer none, v] w fun e w' => e = .returned (.tuple #[.int .i64 0, .int .i64 1]) ∧ w = w' := by
  go_enter Tryd.func25, Tryd.ntmps25
  go_wp2_with fail
  go_ret2
  exact ⟨rfl, rfl⟩
theorem next_nilR (g : Nat) (w : World) : Calls Tryd.prog 25 #[.pointer (some ⟨g, 0, none⟩), .pointer none] w fun e w' => e = .returned (.tuple #[.int .i64 0, .int .i64 1]) ∧ w = w' := by
  go_enter Tryd.func25, Tryd.ntmps25
  go_wp2_with fail
  go_ret2
  exact ⟨rfl, rfl⟩
set_option maxHeartbeats 3200000 in
theorem next_any (G F : Nat → Prop) (g gb : Nat) (l bs : List Int) (p : Nat) (w : World) (ht : TabAt G w g l) (hb : BitsAt F w gb bs p) (hG : ∀ k, G k → ¬ k = gb) (hl : l.length ≤ 320) (hbl : bs.length ≤ 1000000) :
    Calls Tryd.prog 25 #[.pointer (some ⟨g, 0, none⟩), .pointer (some ⟨gb, 0, none⟩)] w (Nexted F w gb bs p (readR l bs p)) := by
  obtain ⟨R, hR⟩ : ∃ R, readR l bs p = R := ⟨_, rfl⟩
  have HT := Lib.hid ht
  obtain ⟨hg, A, n, cap, hC, hI⟩ := ht
  have hS := Nx.start (l := l) hb hI
  rw [hR] at hS ⊢
  have c16 := hC.cell 16 (by decide)
  have e16 : tC l (.slice A n cap) 16 = .slice A n cap := rfl
  rw [e16] at c16
  have hf := hI.fit
  have hm := hI.max
  have HS := Lib.hid hS
  have HI := Lib.hid hI
  have HC := Lib.hid hC
  unfold maxLen at hm
  clear hI hb hS hR hC
  go_enter Tryd.func25, Tryd.ntmps25
  go_wp2_with fail
  go_loopw [6, 7, 8] (fun r pl i wr => ∃ (t P D : Nat) (A' : Option Addr) (c' : Nat), r = .slice A' D c' ∧ pl = .int .i64 P ∧ i = .int .i64 (t + 1 : Nat) ∧ Hid (Nx G F w wr gb l bs p R t P D A' c')) (fun _ _ i _ => 17 - (intOf i).toNat)
  case atStart => exact ⟨0, 0, n, A, cap, rfl, rfl, rfl, HS⟩
  case round =>
    obtain ⟨t, P, D, A', c', rfl, rfl, rfl, HX⟩ := hrel
    have hDl := HX.out.rest.len
    have hDf := HX.out.rest.fit
    have hDm := HX.out.rest.max
    unfold maxLen at hDm
    by_cases hD : D = 0
    · have d1 : decide ((0 : Int) < (D : Int)) = false := decide_eq_false (by omega)
      have HR := Lib.hid (HX.out.form hD)
      clear hDl
      go_wp2_with fail
      go_ret2
      exact HR.out
    · have hD1 : 0 < D := by omega
      have d1 : decide ((0 : Int) < (D : Int)) = true := decide_eq_true (by omega)
      have h14 := HX.out.t14 hD1
      by_cases hov : 8 * bs.length ≤ p + t
      · have HR := Lib.hid (HX.out.over hD1 hov)
        have HK := Lib.hid (take_no F gb bs (p + t) wr HX.out.bits hov hbl)
        clear hDl
        go_wp2_with fail
        refine HK.out.mono ?_
        rintro e' wx ⟨rfl, m, rfl⟩
        go_wp2_with fail
        go_ret2
        exact HR.out m
      · have HK := Lib.hid (take_yes F gb bs (p + t) wr HX.out.bits (by omega) hbl)
        have HN := Lib.hid (fun wx => HX.out.taken (wx := wx) hD1 (by omega) hG)
        obtain ⟨V, hV⟩ : ∃ V, bitN bs (p + t) = V := ⟨_, rfl⟩
        have hV1 : V ≤ 1 := by rw [← hV]; exact bitN_le _ _
        have hP : P < 32768 := by
          have h1 := val_lt (bitsF bs p) (bitsF_le bs p) t
          have h2 : 2 ^ t ≤ 2 ^ 15 := Nat.pow_le_pow_right (by decide) (by omega)
          have := HX.out.v
          omega
        unfold Took at HK
        rw [hV] at HK HN
        clear hDl
        go_wp2_with fail
        refine HK.out.mono ?_
        rintro e' wx ⟨rfl, hbx, hcx⟩
        have HY := Lib.hid (HN.out wx hbx hcx)
        have HC2 := Lib.hid (hcx)
        have hCx := Lib.hid (HC.out.block ((HY.out.ch.block g HC.out.lt (hG g hg))))
        have cm := hCx.out.cell (t + 1) (by omega)
        have em : tC l (.slice A n cap) (t + 1) = .int .i64 (toI (nOf l) (t + 1)) := by unfold tC; rw [if_pos (by omega)]
        rw [em] at cm
        unfold toI at cm
        obtain ⟨M, hM⟩ : ∃ M, nOf l (t + 1) = M := ⟨_, rfl⟩
        obtain ⟨Q, hQ⟩ : ∃ Q, 2 * P + V = Q := ⟨_, rfl⟩
        rw [hM] at cm
        rw [hQ] at HY
        have hQ1 : 2 * (P : Int) + V = Q := by omega
        have hQs := HY.out.small
        have hMl : M ≤ 320 := by rw [← hM]; have := nOf_le l (t + 1); omega
        obtain ⟨T, hT⟩ : ∃ T, t + 1 = T := ⟨_, rfl⟩
        rw [hT] at cm ⊢
        have hTt : T ≤ 15 := by omega
        by_cases hhit : Q < M
        · obtain ⟨hQD, hres⟩ := HY.out.hit (by omega)
          obtain ⟨b, o, rfl, hb1, hb2, hb3⟩ := HY.out.rest.lies (by omega)
          have cq := hb3 Q hQD
          have d2 : decide ((Q : Int) < (M : Int)) = true := decide_eq_true (by omega)
          have HR := Lib.hid hres
          clear hbx hcx hM hV hT hb3 hres HN HK
          go_wp2_with fail
          go_ret2
          exact HR.out
        · obtain ⟨hMD, hnx⟩ := HY.out.miss (by omega)
          rw [hM] at hMD hnx
          obtain ⟨A2, c2, k2, B2⟩ := cutI_l HY.out.rest (M : Int) M rfl hMD
          have HX2 := Lib.hid (hnx A2 c2 B2)
          have d2 : decide ((Q : Int) < (M : Int)) = false := decide_eq_false (by omega)
          have hT2 : Hid (T + 1 = t + 1 + 1) := Lib.hid (by omega)
          have hQM : Hid (((Q - M : Nat) : Int) = (Q : Int) - M) := Lib.hid (by omega)
          clear hbx hcx hM hV hnx B2 HN HK
          have HTt := Lib.hid hT
          clear hT
          go_wp2_with fail
          go_roundw
          case rel => exact ⟨t + 1, Q - M, D - M, A2, c2, rfl, by rw [hQM.out], by have := HTt.out; go_num, HX2⟩
          case measure => have := HTt.out; simp [intOf]; omega

end Go.Proofs.YtifkldllhbcmkaaDoor
