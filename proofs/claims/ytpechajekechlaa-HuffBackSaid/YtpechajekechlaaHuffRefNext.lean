/- The document's Next. -/
import Derived.Test.YtpechajekechlaaHuffBits
import Derived.Test.YtpechajekechlaaHuffNew
namespace Go.Proofs.Ytpechajekechlaa
open Go.RowKit

/-- Whether one of the first k codes is longer and begins so. -/
def someF (l : List Int) (n v : Nat) : Nat → Bool
  | 0 => false
  | k + 1 => someF l n v k || (decide (n < lnN l k) && (codeC (lnN l) l.length k / 2 ^ (lnN l k - n) == v))
theorem someF_yes (l : List Int) (n v : Nat) : ∀ k, (∃ i, i < k ∧ n < lnN l i ∧ codeC (lnN l) l.length i / 2 ^ (lnN l i - n) = v) → someF l n v k = true
  | 0, h => by obtain ⟨i, h1, _⟩ := h; omega
  | k + 1, h => by
    obtain ⟨i, h1, h2, h3⟩ := h
    rw [someF, Bool.or_eq_true]
    by_cases e : i = k
    · subst e
      right
      rw [Bool.and_eq_true, decide_eq_true_iff, beq_iff_eq]
      exact ⟨h2, h3⟩
    · exact Or.inl (someF_yes l n v k ⟨i, by omega, h2, h3⟩)
theorem someF_no (l : List Int) (n v : Nat) (h : ∀ i, i < l.length → ¬ n < lnN l i) : ∀ k, k ≤ l.length → someF l n v k = false
  | 0, _ => rfl
  | k + 1, hk => by
    rw [someF, someF_no l n v h k (by omega), decide_eq_false (h k (by omega))]
    rfl
/-- Whether some is right, at the end of the symbols. -/
theorem someF_end {l : List Int} (hf : Fine l) (hok : okS (nOf l)) (n v : Nat) (hn : n ≤ 15) (h : endC (nOf l) n ≤ v) (hv : v < 2 ^ n) :
    (plc (nOf l) (n + 1) < plc (nOf l) 16 ∧ someF l n v l.length = true) ∨ (plc (nOf l) 16 ≤ plc (nOf l) (n + 1) ∧ someF l n v l.length = false) := by
  rcases Nat.lt_or_ge (plc (nOf l) (n + 1)) (plc (nOf l) 16) with c | c
  · exact Or.inl ⟨c, someF_yes l n v _ (longer (lnN l) l.length hok v n hn h hv c)⟩
  · refine Or.inr ⟨c, someF_no l n v (fun i hi hx => ?_) _ (Nat.le_refl _)⟩
    have := longer_some (lnN l) l.length i n hi hx (hf.ln i).2
    unfold nOf at c
    omega
/-- No code of the first k is the n bits. -/
def noF (l : List Int) (n v k : Nat) : Prop := ∀ i, i < k → ¬ (lnN l i ≠ 0 ∧ lnN l i = n ∧ codeC (lnN l) l.length i = v)
theorem noF_end {l : List Int} (n v : Nat) (h : noF l n v l.length) (hlo : fstC (nOf l) n ≤ v) (h0 : n = 0 → v = 0) : endC (nOf l) n ≤ v := by
  rcases Nat.lt_or_ge v (endC (nOf l) n) with c | c
  · by_cases hn : n = 0
    · subst hn
      unfold endC at c
      rw [nOf_zero] at c
      simp [fstC] at c
    · exfalso
      unfold endC at c
      have e : nOf l n = cnt (lnN l) n l.length := cN_pos _ _ _ hn
      obtain ⟨i, h1, h2, h3⟩ := cnt_find (lnN l) n l.length (v - fstC (nOf l) n) (by omega)
      refine h i h1 ⟨by omega, h2, ?_⟩
      unfold codeC
      rw [if_neg (by omega), h2, h3]
      unfold nOf at *
      omega
  · exact c
theorem hit_at {l : List Int} (n v i f : Nat) (β : Nat → Nat) (len : Nat) (hi : i < l.length) (h0 : lnN l i ≠ 0) (hn : lnN l i = n) (hc : codeC (lnN l) l.length i = v) (hv : val β n = v) :
    stepD (nOf l) (tabF (lnN l) (nOf l) l.length) β len (f + 1) n = (i, n, 0) := by
  subst hn
  have h1 := code_hi (lnN l) l.length i h0 hi
  have h2 : codeC (lnN l) l.length i - fstC (nOf l) (lnN l i) = cnt (lnN l) (lnN l i) i := by unfold codeC nOf; rw [if_neg h0]; omega
  rw [step_hit _ _ _ _ _ _ (by rw [hv, ← hc]; exact h1), hv, ← hc, h2]
  have h3 := tab_at (lnN l) l.length i h0 l.length hi (Nat.le_refl _)
  unfold nOf
  rw [h3]
def RNext (w : World) (R : Nat × Nat × Nat) (x : Ending) (w' : World) : Prop := x = .returned (.tuple #[.int .i64 (R.1 : Nat), .int .i64 (R.2.1 : Nat), .int .i64 (R.2.2 : Nat)]) ∧ ∃ m, w' = w.drewN m
/-- Ahead of n bits. -/
def Rn (l : List Int) (β : Nat → Nat) (T : Nat) (R : Nat × Nat × Nat) (n : Nat) : Prop :=
  (n ≤ T ∧ n ≤ 15 ∧ fstC (nOf l) n ≤ val β n ∧ stepD (nOf l) (tabF (lnN l) (nOf l) l.length) β T (16 - n) n = R) ∨ (n = T + 1 ∧ R = (0, T, 2))
set_option maxHeartbeats 6400000 in
theorem refNext_any (F : Nat → Prop) (A : Option Addr) (n cap : Nat) (l : List Int) (β : Nat → Nat) (T : Nat) (w : World) (R : Nat × Nat × Nat) (ht : TxAt F w A n cap l) (he : Lg l 0) (hβ : ∀ j, β j ≤ 1) (hT : T ≤ 480)
    (hR : stepD (nOf l) (tabF (lnN l) (nOf l) l.length) β T 16 0 = R) :
    Calls Try.prog 16 #[.slice A n cap, .string (strB β T)] w (RNext w R) := by
  have HL := Lib.hid ht
  obtain ⟨h320, hfine, hok⟩ := he.ok
  have HF := Lib.hid hfine
  have HO := Lib.hid hok
  have hlen := ht.len
  have hf := ht.fit
  have hm := ht.max
  unfold maxLen at hm
  have HS : Hid (Rn l β T R 0) := Lib.hid (Or.inl ⟨by omega, by omega, Nat.le_refl _, hR⟩)
  have hsT := strB_size β T
  have HC := Lib.hid (fun q (hq : q ≤ T) => strB_head β T q hq)
  obtain ⟨S, hS⟩ : ∃ S, strB β T = S := ⟨_, rfl⟩
  rw [hS] at hsT HC ⊢
  clear ht he hfine hok hR hS
  go_enter Try.func16, Try.ntmps16
  go_wp2_with fail
  go_loopw [7] (fun i wr => ∃ q : Nat, i = .int .i64 q ∧ (∃ m, wr = w.drewN m) ∧ Hid (Rn l β T R q)) (fun i _ => T + 1 - (intOf i).toNat)
  case atStart => exact ⟨0, rfl, ⟨0, rfl⟩, HS⟩
  case round =>
    obtain ⟨q, rfl, ⟨m, rfl⟩, HQ⟩ := hrel
    by_cases hq : q ≤ T
    · have HQ2 : Hid (q ≤ 15 ∧ fstC (nOf l) q ≤ val β q ∧ stepD (nOf l) (tabF (lnN l) (nOf l) l.length) β T (16 - q) q = R) := Lib.hid (by
        rcases HQ.out with h | h
        · exact h.2
        · omega)
      have hq15 := HQ2.out.1
      obtain ⟨v, hv⟩ : ∃ v, val β q = v := ⟨_, rfl⟩
      have HV := Lib.hid hv
      have d1 : decide ((q : Int) ≤ (T : Int)) = true := decide_eq_true (by omega)
      have sl1 : ∀ u, (Instr.slice 9 (.string S) none (some (.int .i64 (q : Int))) none).run Try.prog u = .ok (.string (strB β q)) u := fun u => by
        rw [run_slice_string_h u _ S Try.underlying9 .i64 (q : Int) (by omega) (by omega), Int.toNat_natCast, HC.out q hq]
      obtain ⟨B1, hB1⟩ : ∃ B, strB β q = B := ⟨_, rfl⟩
      have HB1 := Lib.hid hB1
      rw [hB1] at sl1
      clear hv hB1
      go_wp2_with fail
      go_loopw [8, 9] (fun s i wr => ∃ k : Nat, i = .int .i64 k ∧ k ≤ n ∧ s = .bool (someF l q v k) ∧ (∃ m, wr = w.drewN m) ∧ Hid (noF l q v k)) (fun _ i _ => n - (intOf i).toNat)
      case atStart => exact ⟨0, rfl, by omega, rfl, ⟨m, rfl⟩, Lib.hid fun i hi => absurd hi (by omega)⟩
      case round =>
        obtain ⟨k, rfl, hk, rfl, ⟨m2, rfl⟩, HN⟩ := hrel
        by_cases hlt : k < n
        · obtain ⟨b, o, rfl, _, hbl, hc⟩ := HL.out.lies (by omega)
          have c0 := hc k hlt
          unfold txtV at c0
          clear hc
          obtain ⟨M, hM⟩ : ∃ M, lnN l k = M := ⟨_, rfl⟩
          obtain ⟨C, hC⟩ : ∃ C, codeC (lnN l) l.length k = C := ⟨_, rfl⟩
          have hCs : C < 2 ^ M := by
            have := code_small HO.out k (by omega) (HF.out.ln k).2
            rw [hC, hM] at this
            exact this
          have hM15 : M ≤ 15 := by rw [← hM]; exact (HF.out.ln k).2
          have hst : txtB l k = strB (binF M C) M := by unfold txtB; rw [hM, hC]
          obtain ⟨b0, hb0⟩ : ∃ b0 : Bool, (M = 0) ↔ b0 = true := ⟨decide (M = 0), by simp⟩
          obtain ⟨b1, hb1⟩ : ∃ b1 : Bool, (M = q ∧ C = v) ↔ b1 = true := ⟨decide (M = q ∧ C = v), by simp⟩
          obtain ⟨b2, hb2⟩ : ∃ b2 : Bool, (C / 2 ^ (M - q) = v) ↔ b2 = true := ⟨decide (C / 2 ^ (M - q) = v), by simp⟩
          have z0 : ((txtB l k).toList == (⟨#[]⟩ : ByteArray).toList) = b0 := by
            rw [hst, ← strB_zero β, strB_beq _ _ (binF_le _ _) hβ M 0 b0 (by rw [← hb0]; simp [val])]
          rw [show (⟨#[]⟩ : ByteArray).toList = [] by rw [ByteArray.toList_eq]] at z0
          have z1 : ((txtB l k).toList == B1.toList) = b1 := by
            rw [hst, ← HB1.out, strB_beq _ _ (binF_le _ _) hβ M q b1]
            rw [← hb1]
            constructor
            · rintro ⟨rfl, h⟩
              rw [val_bin M C hCs M (Nat.le_refl _), Nat.sub_self, Nat.pow_zero, Nat.div_one, HV.out] at h
              exact ⟨rfl, h⟩
            · rintro ⟨rfl, h⟩
              rw [val_bin M C hCs M (Nat.le_refl _), Nat.sub_self, Nat.pow_zero, Nat.div_one, HV.out]
              exact ⟨rfl, h⟩
          have hsz : (txtB l k).size = M := by rw [hst, strB_size]
          have Z2 : Hid (q < M → ∃ T1 : ByteArray, (T1.toList == B1.toList) = b2 ∧ ∀ u, (Instr.slice 9 (.string (txtB l k)) none (some (.int .i64 (q : Int))) none).run Try.prog u = .ok (.string T1) u) := Lib.hid fun hqM => by
            refine ⟨strB (binF M C) q, ?_, fun u => ?_⟩
            · rw [← HB1.out, strB_beq _ _ (binF_le _ _) hβ q q b2]
              rw [← hb2, val_bin M C hCs q (by omega), HV.out]
              simp
            · rw [run_slice_string_h u _ (txtB l k) Try.underlying9 .i64 (q : Int) (by omega) (by omega), Int.toNat_natCast, hst, strB_head _ _ _ (by omega)]
          have HX1 : Hid (b1 = true → M ≠ 0 → stepD (nOf l) (tabF (lnN l) (nOf l) l.length) β T (16 - q) q = (k, q, 0)) := Lib.hid fun h1 h2 => by
            obtain ⟨e1, e2⟩ := hb1.2 h1
            rw [show 16 - q = (15 - q) + 1 by omega]
            exact hit_at q v k (15 - q) β T (by omega) (by omega) (by omega) (by omega) HV.out
          have HX2 : Hid (b1 = false ∨ M = 0 → noF l q v (k + 1)) := Lib.hid fun h => by
            intro i hi
            by_cases e : i = k
            · subst e
              rintro ⟨h1, h2, h3⟩
              rcases h with h | h
              · rw [hM] at h2; rw [hC] at h3
                rw [hb1.1 ⟨h2, h3⟩] at h; cases h
              · omega
            · exact HN.out i (by omega)
          have HX3 : Hid (someF l q v (k + 1) = (someF l q v k || (decide (q < M) && b2))) := Lib.hid (by
            rw [someF, hM, hC]
            congr 2
            cases b2 with
            | true => rw [beq_iff_eq]; exact hb2.2 rfl
            | false => rw [beq_eq_false_iff_ne]; intro x; exact absurd (hb2.1 x) (by decide))
          have HM0 : Hid (M = 0 ↔ b0 = true) := Lib.hid hb0
          clear hst hb0 hb1 hb2 hM hC hCs
          generalize txtB l k = T0 at *
          generalize someF l q v k = sm at *
          cases b0
          · have hM0 : M ≠ 0 := fun x => absurd (HM0.out.1 x) (by decide)
            cases b1
            · by_cases hqM : q < M
              · obtain ⟨T1, z2, sl2⟩ := Z2.out hqM
                have d2 : decide ((q : Int) < (M : Int)) = true := decide_eq_true (by omega)
                have hd2 : decide (q < M) = true := decide_eq_true hqM
                have HY := HX3.out
                rw [hd2, Bool.true_and] at HY
                have HY2 := Lib.hid HY
                have HN2 := Lib.hid (HX2.out (Or.inl rfl))
                clear HY
                cases sm <;> cases b2
                all_goals
                  go_wp2_with fail
                  go_quiet (fail)
                  go_wp2_with fail
                  go_quiet (fail)
                  go_wp2_with fail
                  go_roundw
                  case rel => exact ⟨k + 1, by go_num, by omega, by rw [HY2.out]; rfl, ⟨_, rfl⟩, HN2⟩
                  case measure => first | (simp [intOf]; done) | (simp [intOf]; omega)
              · have d2 : decide ((q : Int) < (M : Int)) = false := decide_eq_false (by omega)
                have hd2 : decide (q < M) = false := decide_eq_false hqM
                have HY := HX3.out
                rw [hd2, Bool.false_and, Bool.or_false] at HY
                have HY2 := Lib.hid HY
                have HN2 := Lib.hid (HX2.out (Or.inl rfl))
                clear HY
                cases sm
                all_goals
                  go_wp2_with fail
                  go_quiet (fail)
                  go_wp2_with fail
                  go_quiet (fail)
                  go_wp2_with fail
                  go_roundw
                  case rel => exact ⟨k + 1, by go_num, by omega, by rw [HY2.out], ⟨_, rfl⟩, HN2⟩
                  case measure => first | (simp [intOf]; done) | (simp [intOf]; omega)
            · have HR : Hid (R = (k, q, 0)) := Lib.hid (by rw [← HQ2.out.2.2, HX1.out rfl hM0])
              go_wp2_with fail
              go_quiet (fail)
              go_wp2_with fail
              go_ret3
              exact ⟨by rw [HR.out]; rfl, m2 + nq, by simp⟩
          · have hM0 : M = 0 := HM0.out.2 rfl
            have d2 : decide ((q : Int) < (M : Int)) = false := decide_eq_false (by omega)
            have hd2 : decide (q < M) = false := decide_eq_false (by omega)
            have HY := HX3.out
            rw [hd2, Bool.false_and, Bool.or_false] at HY
            have HY2 := Lib.hid HY
            have HN2 := Lib.hid (HX2.out (Or.inr hM0))
            clear HY hM0
            cases sm
            all_goals
              go_wp2_with fail
              go_quiet (fail)
              go_wp2_with fail
              go_quiet (fail)
              go_wp2_with fail
              go_roundw
              case rel => exact ⟨k + 1, by go_num, by omega, by rw [HY2.out], ⟨_, rfl⟩, HN2⟩
              case measure => first | (simp [intOf]; done) | (simp [intOf]; omega)
        · obtain rfl : k = n := by omega
          subst hlen
          have HE := Lib.hid (noF_end q v HN.out (by rw [← HV.out]; exact HQ2.out.2.1) (fun h => by
            subst h
            have := HV.out
            simp [val] at this
            omega))
          have hvlt : v < 2 ^ q := by rw [← HV.out]; exact val_lt β hβ q
          have hs := someF_end HF.out HO.out q v hq15 HE.out hvlt
          clear hvlt
          generalize someF l q v l.length = sm at *
          rcases hs with ⟨h1, rfl⟩ | ⟨h1, rfl⟩
          · have HR : Hid (Rn l β T R (q + 1)) := Lib.hid (by
              have h3 := HQ2.out.2.2
              have hE := HE.out
              rw [← HV.out] at hE
              rw [show 16 - q = (15 - q) + 1 by omega] at h3
              rcases Nat.lt_or_ge q T with c | c
              · rw [step_on _ _ _ _ _ _ hE h1 c] at h3
                refine Or.inl ⟨by omega, ?_, ?_, ?_⟩
                · by_cases c2 : q = 15
                  · subst c2
                    exact absurd h1 (Nat.lt_irrefl _)
                  · omega
                · rw [fst_next, val]; omega
                · rw [show 16 - (q + 1) = 15 - q by omega]; exact h3
              · rw [step_end _ _ _ _ _ _ hE h1 c] at h3
                exact Or.inr ⟨by omega, h3.symm⟩)
            clear h1
            go_wp2_with fail
            go_roundw
            case rel => exact ⟨q + 1, by go_num, ⟨_, rfl⟩, HR⟩
            case measure => simp [intOf]; omega
          · have HR : Hid (R = (0, q, 4)) := Lib.hid (by
              have h3 := HQ2.out.2.2
              have hE := HE.out
              rw [← HV.out] at hE
              rw [show 16 - q = (15 - q) + 1 by omega, step_form _ _ _ _ _ _ hE h1] at h3
              exact h3.symm)
            clear h1
            go_wp2_with fail
            go_ret3
            exact ⟨by rw [HR.out]; rfl, m2, rfl⟩
    · have HR : Hid (R = (0, T, 2)) := Lib.hid (by
        rcases HQ.out with h | h
        · omega
        · exact h.2)
      have d1 : decide ((q : Int) ≤ (T : Int)) = false := decide_eq_false (by omega)
      have d1' : decide (q ≤ T) = false := decide_eq_false (by omega)
      go_wp2_with fail
      go_ret3
      exact ⟨by rw [HR.out]; rfl, m, rfl⟩

end Go.Proofs.Ytpechajekechlaa
