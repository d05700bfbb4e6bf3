/- The document's Symbol: its contract. -/
import Derived.Test.YthlaglhlmbkniaaTzxSymK
namespace Go.Proofs.Ythlaglhlmbkniaa
open Go.RowKit
set_option linter.unusedVariables false
set_option linter.unusedSimpArgs false
set_option maxRecDepth 100000

set_option maxHeartbeats 3200000 in
theorem rsymbol_1 (F : Nat → Prop) (w : World) (A : Option Addr) (n cap : Nat) (l : List Int) (h : BAt8 F w A n cap l) (hn : n ≤ 1000000) (ι : Nat) :
    Calls Try.prog 10 #[.slice A n cap, .int .i64 1, .int .i64 (ι : Nat)] w (SymE l 1 ι w) := by
  have hlen := h.len
  by_cases hb0 : 8 * n ≤ ι
  · have hbI : (8 : Int) * n ≤ (ι : Int) := by omega
    have HE := Lib.hid (SymE.no (l := l) (k := 1) (i := ι) w fun x => by
      obtain ⟨_, _, _, x4 | x4⟩ := x
      · omega
      · rw [hlen] at x4; omega)
    clear h
    go_enter Try.func10, Try.ntmps10
    go_wp2_with fail
    go_ret2
    exact HE.out
  have hbI : (ι : Int) < 8 * (n : Int) := by omega
  by_cases hg : (ι + 1) * 1 ≤ 8 * n
  · have hgI : ((ι : Int) + 1) * 1 ≤ 8 * (n : Int) := by omega
    have HOK : Hid (symOk l 1 ι) := Lib.hid ⟨by omega, by omega, by omega, Or.inr (by rw [hlen]; omega)⟩
    obtain ⟨p, hp⟩ : ∃ p, ι * 1 / 8 = p := ⟨_, rfl⟩
    obtain ⟨f, hf⟩ : ∃ f, ι * 1 % 8 = f := ⟨_, rfl⟩
    have HS : Hid (symF l 1 ι = symK l p f 1) := Lib.hid (by rw [symF_K, hp, hf])
    have H := Lib.hid h
    have HPF := Lib.hid (And.intro hp hf)
    have hf7 : f ≤ 7 := by omega
    have hsum : ι * 1 = p * 8 + f := by omega
    clear h hp hf
    go_enter Try.func10, Try.ntmps10
    go_wp2_with fail
    go_loopw [8, 9] (fun u v wr => ∃ k : Nat, v = .int .i64 k ∧ k ≤ 1 ∧ u = .int .i64 (symK l p f k : Nat) ∧ wr = w) (fun _ v _ => 1 - (intOf v).toNat)
    case atStart => exact ⟨0, rfl, by omega, by rw [symK_zero]; rfl, rfl⟩
    case round =>
      obtain ⟨k, rfl, hk, rfl, rfl⟩ := hrel
      by_cases hlt : k < 1
      · obtain ⟨at', hat⟩ : ∃ at', ι * 1 + k = at' := ⟨_, rfl⟩
        have hati : (ι : Int) + (k : Int) = (at' : Int) := by omega
        obtain ⟨P, hP⟩ : ∃ P, at' / 8 = P := ⟨_, rfl⟩
        obtain ⟨r, hr⟩ : ∃ r, at' % 8 = r := ⟨_, rfl⟩
        have hPi : (at' : Int) / 8 = (P : Int) := by omega
        have hri : (at' : Int) % 8 = (r : Int) := by omega
        have hPn : P < n := by omega
        have hr7 : r ≤ 7 := by omega
        obtain ⟨b, o, rfl, _, _, hc⟩ := H.out.lies (by omega)
        have cP := hc P hPn
        rw [gN_int H.out.bd] at cP
        obtain ⟨B, hB⟩ : ∃ B, gN l P = B := ⟨_, rfl⟩
        rw [hB] at cP
        have hB2 : B < 256 := by rw [← hB]; exact gN_lt H.out.bd P
        have hk8 : k ≤ 8 := by omega
        have hk7 : k ≤ 7 := by omega
        have hatp : at' = p * 8 + f + k := by omega
        have hV : symK l p f (k + 1) = 2 * symK l p f k + B / 2 ^ (7 - r) % 2 := by
          rw [symK_next H.out.bd p f k at' hf7 hk7 hatp, hP, hr, hB]
        have hv0 : symK l p f k < 65536 := by
          unfold symK
          have h1 := Nat.mod_lt (symT l p / 2 ^ (16 - f - k)) (Nat.two_pow_pos k)
          exact Nat.lt_of_lt_of_le h1 (Nat.le_trans (Nat.pow_le_pow_right (by decide) hk8) (by decide : 2 ^ 8 ≤ 65536))
        obtain ⟨V, hVV⟩ : ∃ V, symK l p f k = V := ⟨_, rfl⟩
        rw [hVV] at hV hv0 ⊢
        have HV := Lib.hid hV
        clear hc hB hV hVV hP hr hat hatp hk8 hk7
        go_wp2_with fail
        go_loopw [11, 12] (fun c v wx => ∃ (j q : Nat), v = .int .i64 j ∧ c = .int .i64 q ∧ j ≤ 7 - r ∧ q < 256 ∧ wx = wr ∧ Hid (q = B / 2 ^ j)) (fun _ v _ => 7 - r - (intOf v).toNat)
        case atStart => exact ⟨0, B, rfl, rfl, by omega, hB2, rfl, Lib.hid (by rw [Nat.pow_zero, Nat.div_one])⟩
        case round =>
          obtain ⟨j, q, rfl, rfl, hj, hq, rfl, HQ⟩ := hrel
          by_cases hl2 : j < 7 - r
          · have HN : Hid (q / 2 = B / 2 ^ (j + 1)) := Lib.hid (by rw [HQ.out, Nat.div_div_eq_div_mul, ← Nat.pow_succ])
            obtain ⟨q2, hq2⟩ : ∃ q2, q / 2 = q2 := ⟨_, rfl⟩
            rw [hq2] at HN
            have hh : (q : Int) / 2 = (q2 : Int) := by omega
            have hq22 : q2 < 256 := by omega
            clear hq2
            go_wp2_with fail
            go_roundw
            case rel => exact ⟨j + 1, q2, by go_num, rfl, by omega, hq22, trivial, HN⟩
            case measure => simp [intOf]; omega
          · have hj7 : j = 7 - r := by omega
            obtain ⟨q2, hq2⟩ : ∃ q2, q % 2 = q2 := ⟨_, rfl⟩
            have hm2 : (q : Int) % 2 = (q2 : Int) := by omega
            have HE : Hid (symK l p f (k + 1) = 2 * V + q2) := Lib.hid (by rw [HV.out, ← hq2, HQ.out, hj7])
            have hq22 : q2 < 2 := by omega
            clear hj7 hq2
            go_wp2_with fail
            go_roundw
            case rel => exact ⟨k + 1, by go_num, by omega, by rw [HE.out]; go_num, trivial⟩
            case measure => simp [intOf]; omega
      · obtain rfl : k = 1 := by omega
        have HE : Hid (SymE l 1 ι wr (.returned (.tuple #[.int .i64 (symK l p f 1 : Nat), .bool true])) wr) := Lib.hid ⟨Or.inl ⟨HOK.out, by rw [show Int.toNat 1 = 1 from rfl, Int.toNat_natCast, HS.out]⟩, drew0 wr⟩
        go_wp2_with fail
        go_ret2
        exact HE.out
  · exact absurd hg (by omega)
set_option maxHeartbeats 3200000 in
theorem rsymbol_2 (F : Nat → Prop) (w : World) (A : Option Addr) (n cap : Nat) (l : List Int) (h : BAt8 F w A n cap l) (hn : n ≤ 1000000) (ι : Nat) :
    Calls Try.prog 10 #[.slice A n cap, .int .i64 2, .int .i64 (ι : Nat)] w (SymE l 2 ι w) := by
  have hlen := h.len
  by_cases hb0 : 8 * n ≤ ι
  · have hbI : (8 : Int) * n ≤ (ι : Int) := by omega
    have HE := Lib.hid (SymE.no (l := l) (k := 2) (i := ι) w fun x => by
      obtain ⟨_, _, _, x4 | x4⟩ := x
      · omega
      · rw [hlen] at x4; omega)
    clear h
    go_enter Try.func10, Try.ntmps10
    go_wp2_with fail
    go_ret2
    exact HE.out
  have hbI : (ι : Int) < 8 * (n : Int) := by omega
  by_cases hg : (ι + 1) * 2 ≤ 8 * n
  · have hgI : ((ι : Int) + 1) * 2 ≤ 8 * (n : Int) := by omega
    have HOK : Hid (symOk l 2 ι) := Lib.hid ⟨by omega, by omega, by omega, Or.inr (by rw [hlen]; omega)⟩
    obtain ⟨p, hp⟩ : ∃ p, ι * 2 / 8 = p := ⟨_, rfl⟩
    obtain ⟨f, hf⟩ : ∃ f, ι * 2 % 8 = f := ⟨_, rfl⟩
    have HS : Hid (symF l 2 ι = symK l p f 2) := Lib.hid (by rw [symF_K, hp, hf])
    have H := Lib.hid h
    have HPF := Lib.hid (And.intro hp hf)
    have hf7 : f ≤ 7 := by omega
    have hsum : ι * 2 = p * 8 + f := by omega
    clear h hp hf
    go_enter Try.func10, Try.ntmps10
    go_wp2_with fail
    go_loopw [8, 9] (fun u v wr => ∃ k : Nat, v = .int .i64 k ∧ k ≤ 2 ∧ u = .int .i64 (symK l p f k : Nat) ∧ wr = w) (fun _ v _ => 2 - (intOf v).toNat)
    case atStart => exact ⟨0, rfl, by omega, by rw [symK_zero]; rfl, rfl⟩
    case round =>
      obtain ⟨k, rfl, hk, rfl, rfl⟩ := hrel
      by_cases hlt : k < 2
      · obtain ⟨at', hat⟩ : ∃ at', ι * 2 + k = at' := ⟨_, rfl⟩
        have hati : (2 : Int) * (ι : Int) + (k : Int) = (at' : Int) := by omega
        obtain ⟨P, hP⟩ : ∃ P, at' / 8 = P := ⟨_, rfl⟩
        obtain ⟨r, hr⟩ : ∃ r, at' % 8 = r := ⟨_, rfl⟩
        have hPi : (at' : Int) / 8 = (P : Int) := by omega
        have hri : (at' : Int) % 8 = (r : Int) := by omega
        have hPn : P < n := by omega
        have hr7 : r ≤ 7 := by omega
        obtain ⟨b, o, rfl, _, _, hc⟩ := H.out.lies (by omega)
        have cP := hc P hPn
        rw [gN_int H.out.bd] at cP
        obtain ⟨B, hB⟩ : ∃ B, gN l P = B := ⟨_, rfl⟩
        rw [hB] at cP
        have hB2 : B < 256 := by rw [← hB]; exact gN_lt H.out.bd P
        have hk8 : k ≤ 8 := by omega
        have hk7 : k ≤ 7 := by omega
        have hatp : at' = p * 8 + f + k := by omega
        have hV : symK l p f (k + 1) = 2 * symK l p f k + B / 2 ^ (7 - r) % 2 := by
          rw [symK_next H.out.bd p f k at' hf7 hk7 hatp, hP, hr, hB]
        have hv0 : symK l p f k < 65536 := by
          unfold symK
          have h1 := Nat.mod_lt (symT l p / 2 ^ (16 - f - k)) (Nat.two_pow_pos k)
          exact Nat.lt_of_lt_of_le h1 (Nat.le_trans (Nat.pow_le_pow_right (by decide) hk8) (by decide : 2 ^ 8 ≤ 65536))
        obtain ⟨V, hVV⟩ : ∃ V, symK l p f k = V := ⟨_, rfl⟩
        rw [hVV] at hV hv0 ⊢
        have HV := Lib.hid hV
        clear hc hB hV hVV hP hr hat hatp hk8 hk7
        go_wp2_with fail
        go_loopw [11, 12] (fun c v wx => ∃ (j q : Nat), v = .int .i64 j ∧ c = .int .i64 q ∧ j ≤ 7 - r ∧ q < 256 ∧ wx = wr ∧ Hid (q = B / 2 ^ j)) (fun _ v _ => 7 - r - (intOf v).toNat)
        case atStart => exact ⟨0, B, rfl, rfl, by omega, hB2, rfl, Lib.hid (by rw [Nat.pow_zero, Nat.div_one])⟩
        case round =>
          obtain ⟨j, q, rfl, rfl, hj, hq, rfl, HQ⟩ := hrel
          by_cases hl2 : j < 7 - r
          · have HN : Hid (q / 2 = B / 2 ^ (j + 1)) := Lib.hid (by rw [HQ.out, Nat.div_div_eq_div_mul, ← Nat.pow_succ])
            obtain ⟨q2, hq2⟩ : ∃ q2, q / 2 = q2 := ⟨_, rfl⟩
            rw [hq2] at HN
            have hh : (q : Int) / 2 = (q2 : Int) := by omega
            have hq22 : q2 < 256 := by omega
            clear hq2
            go_wp2_with fail
            go_roundw
            case rel => exact ⟨j + 1, q2, by go_num, rfl, by omega, hq22, trivial, HN⟩
            case measure => simp [intOf]; omega
          · have hj7 : j = 7 - r := by omega
            obtain ⟨q2, hq2⟩ : ∃ q2, q % 2 = q2 := ⟨_, rfl⟩
            have hm2 : (q : Int) % 2 = (q2 : Int) := by omega
            have HE : Hid (symK l p f (k + 1) = 2 * V + q2) := Lib.hid (by rw [HV.out, ← hq2, HQ.out, hj7])
            have hq22 : q2 < 2 := by omega
            clear hj7 hq2
            go_wp2_with fail
            go_roundw
            case rel => exact ⟨k + 1, by go_num, by omega, by rw [HE.out]; go_num, trivial⟩
            case measure => simp [intOf]; omega
      · obtain rfl : k = 2 := by omega
        have HE : Hid (SymE l 2 ι wr (.returned (.tuple #[.int .i64 (symK l p f 2 : Nat), .bool true])) wr) := Lib.hid ⟨Or.inl ⟨HOK.out, by rw [show Int.toNat 2 = 2 from rfl, Int.toNat_natCast, HS.out]⟩, drew0 wr⟩
        go_wp2_with fail
        go_ret2
        exact HE.out
  · have hb1 : (8 : Int) * n < ((ι : Int) + 1) * 2 := by omega
    have HE := Lib.hid (SymE.no (l := l) (k := 2) (i := ι) w fun x => by
      obtain ⟨_, _, _, x4 | x4⟩ := x
      · omega
      · rw [hlen] at x4; omega)
    clear h hg
    go_enter Try.func10, Try.ntmps10
    go_wp2_with fail
    go_ret2
    exact HE.out
set_option maxHeartbeats 3200000 in
theorem rsymbol_3 (F : Nat → Prop) (w : World) (A : Option Addr) (n cap : Nat) (l : List Int) (h : BAt8 F w A n cap l) (hn : n ≤ 1000000) (ι : Nat) :
    Calls Try.prog 10 #[.slice A n cap, .int .i64 3, .int .i64 (ι : Nat)] w (SymE l 3 ι w) := by
  have hlen := h.len
  by_cases hb0 : 8 * n ≤ ι
  · have hbI : (8 : Int) * n ≤ (ι : Int) := by omega
    have HE := Lib.hid (SymE.no (l := l) (k := 3) (i := ι) w fun x => by
      obtain ⟨_, _, _, x4 | x4⟩ := x
      · omega
      · rw [hlen] at x4; omega)
    clear h
    go_enter Try.func10, Try.ntmps10
    go_wp2_with fail
    go_ret2
    exact HE.out
  have hbI : (ι : Int) < 8 * (n : Int) := by omega
  by_cases hg : (ι + 1) * 3 ≤ 8 * n
  · have hgI : ((ι : Int) + 1) * 3 ≤ 8 * (n : Int) := by omega
    have HOK : Hid (symOk l 3 ι) := Lib.hid ⟨by omega, by omega, by omega, Or.inr (by rw [hlen]; omega)⟩
    obtain ⟨p, hp⟩ : ∃ p, ι * 3 / 8 = p := ⟨_, rfl⟩
    obtain ⟨f, hf⟩ : ∃ f, ι * 3 % 8 = f := ⟨_, rfl⟩
    have HS : Hid (symF l 3 ι = symK l p f 3) := Lib.hid (by rw [symF_K, hp, hf])
    have H := Lib.hid h
    have HPF := Lib.hid (And.intro hp hf)
    have hf7 : f ≤ 7 := by omega
    have hsum : ι * 3 = p * 8 + f := by omega
    clear h hp hf
    go_enter Try.func10, Try.ntmps10
    go_wp2_with fail
    go_loopw [8, 9] (fun u v wr => ∃ k : Nat, v = .int .i64 k ∧ k ≤ 3 ∧ u = .int .i64 (symK l p f k : Nat) ∧ wr = w) (fun _ v _ => 3 - (intOf v).toNat)
    case atStart => exact ⟨0, rfl, by omega, by rw [symK_zero]; rfl, rfl⟩
    case round =>
      obtain ⟨k, rfl, hk, rfl, rfl⟩ := hrel
      by_cases hlt : k < 3
      · obtain ⟨at', hat⟩ : ∃ at', ι * 3 + k = at' := ⟨_, rfl⟩
        have hati : (3 : Int) * (ι : Int) + (k : Int) = (at' : Int) := by omega
        obtain ⟨P, hP⟩ : ∃ P, at' / 8 = P := ⟨_, rfl⟩
        obtain ⟨r, hr⟩ : ∃ r, at' % 8 = r := ⟨_, rfl⟩
        have hPi : (at' : Int) / 8 = (P : Int) := by omega
        have hri : (at' : Int) % 8 = (r : Int) := by omega
        have hPn : P < n := by omega
        have hr7 : r ≤ 7 := by omega
        obtain ⟨b, o, rfl, _, _, hc⟩ := H.out.lies (by omega)
        have cP := hc P hPn
        rw [gN_int H.out.bd] at cP
        obtain ⟨B, hB⟩ : ∃ B, gN l P = B := ⟨_, rfl⟩
        rw [hB] at cP
        have hB2 : B < 256 := by rw [← hB]; exact gN_lt H.out.bd P
        have hk8 : k ≤ 8 := by omega
        have hk7 : k ≤ 7 := by omega
        have hatp : at' = p * 8 + f + k := by omega
        have hV : symK l p f (k + 1) = 2 * symK l p f k + B / 2 ^ (7 - r) % 2 := by
          rw [symK_next H.out.bd p f k at' hf7 hk7 hatp, hP, hr, hB]
        have hv0 : symK l p f k < 65536 := by
          unfold symK
          have h1 := Nat.mod_lt (symT l p / 2 ^ (16 - f - k)) (Nat.two_pow_pos k)
          exact Nat.lt_of_lt_of_le h1 (Nat.le_trans (Nat.pow_le_pow_right (by decide) hk8) (by decide : 2 ^ 8 ≤ 65536))
        obtain ⟨V, hVV⟩ : ∃ V, symK l p f k = V := ⟨_, rfl⟩
        rw [hVV] at hV hv0 ⊢
        have HV := Lib.hid hV
        clear hc hB hV hVV hP hr hat hatp hk8 hk7
        go_wp2_with fail
        go_loopw [11, 12] (fun c v wx => ∃ (j q : Nat), v = .int .i64 j ∧ c = .int .i64 q ∧ j ≤ 7 - r ∧ q < 256 ∧ wx = wr ∧ Hid (q = B / 2 ^ j)) (fun _ v _ => 7 - r - (intOf v).toNat)
        case atStart => exact ⟨0, B, rfl, rfl, by omega, hB2, rfl, Lib.hid (by rw [Nat.pow_zero, Nat.div_one])⟩
        case round =>
          obtain ⟨j, q, rfl, rfl, hj, hq, rfl, HQ⟩ := hrel
          by_cases hl2 : j < 7 - r
          · have HN : Hid (q / 2 = B / 2 ^ (j + 1)) := Lib.hid (by rw [HQ.out, Nat.div_div_eq_div_mul, ← Nat.pow_succ])
            obtain ⟨q2, hq2⟩ : ∃ q2, q / 2 = q2 := ⟨_, rfl⟩
            rw [hq2] at HN
            have hh : (q : Int) / 2 = (q2 : Int) := by omega
            have hq22 : q2 < 256 := by omega
            clear hq2
            go_wp2_with fail
            go_roundw
            case rel => exact ⟨j + 1, q2, by go_num, rfl, by omega, hq22, trivial, HN⟩
            case measure => simp [intOf]; omega
          · have hj7 : j = 7 - r := by omega
            obtain ⟨q2, hq2⟩ : ∃ q2, q % 2 = q2 := ⟨_, rfl⟩
            have hm2 : (q : Int) % 2 = (q2 : Int) := by omega
            have HE : Hid (symK l p f (k + 1) = 2 * V + q2) := Lib.hid (by rw [HV.out, ← hq2, HQ.out, hj7])
            have hq22 : q2 < 2 := by omega
            clear hj7 hq2
            go_wp2_with fail
            go_roundw
            case rel => exact ⟨k + 1, by go_num, by omega, by rw [HE.out]; go_num, trivial⟩
            case measure => simp [intOf]; omega
      · obtain rfl : k = 3 := by omega
        have HE : Hid (SymE l 3 ι wr (.returned (.tuple #[.int .i64 (symK l p f 3 : Nat), .bool true])) wr) := Lib.hid ⟨Or.inl ⟨HOK.out, by rw [show Int.toNat 3 = 3 from rfl, Int.toNat_natCast, HS.out]⟩, drew0 wr⟩
        go_wp2_with fail
        go_ret2
        exact HE.out
  · have hb1 : (8 : Int) * n < ((ι : Int) + 1) * 3 := by omega
    have HE := Lib.hid (SymE.no (l := l) (k := 3) (i := ι) w fun x => by
      obtain ⟨_, _, _, x4 | x4⟩ := x
      · omega
      · rw [hlen] at x4; omega)
    clear h hg
    go_enter Try.func10, Try.ntmps10
    go_wp2_with fail
    go_ret2
    exact HE.out
set_option maxHeartbeats 3200000 in
theorem rsymbol_4 (F : Nat → Prop) (w : World) (A : Option Addr) (n cap : Nat) (l : List Int) (h : BAt8 F w A n cap l) (hn : n ≤ 1000000) (ι : Nat) :
    Calls Try.prog 10 #[.slice A n cap, .int .i64 4, .int .i64 (ι : Nat)] w (SymE l 4 ι w) := by
  have hlen := h.len
  by_cases hb0 : 8 * n ≤ ι
  · have hbI : (8 : Int) * n ≤ (ι : Int) := by omega
    have HE := Lib.hid (SymE.no (l := l) (k := 4) (i := ι) w fun x => by
      obtain ⟨_, _, _, x4 | x4⟩ := x
      · omega
      · rw [hlen] at x4; omega)
    clear h
    go_enter Try.func10, Try.ntmps10
    go_wp2_with fail
    go_ret2
    exact HE.out
  have hbI : (ι : Int) < 8 * (n : Int) := by omega
  by_cases hg : (ι + 1) * 4 ≤ 8 * n
  · have hgI : ((ι : Int) + 1) * 4 ≤ 8 * (n : Int) := by omega
    have HOK : Hid (symOk l 4 ι) := Lib.hid ⟨by omega, by omega, by omega, Or.inr (by rw [hlen]; omega)⟩
    obtain ⟨p, hp⟩ : ∃ p, ι * 4 / 8 = p := ⟨_, rfl⟩
    obtain ⟨f, hf⟩ : ∃ f, ι * 4 % 8 = f := ⟨_, rfl⟩
    have HS : Hid (symF l 4 ι = symK l p f 4) := Lib.hid (by rw [symF_K, hp, hf])
    have H := Lib.hid h
    have HPF := Lib.hid (And.intro hp hf)
    have hf7 : f ≤ 7 := by omega
    have hsum : ι * 4 = p * 8 + f := by omega
    clear h hp hf
    go_enter Try.func10, Try.ntmps10
    go_wp2_with fail
    go_loopw [8, 9] (fun u v wr => ∃ k : Nat, v = .int .i64 k ∧ k ≤ 4 ∧ u = .int .i64 (symK l p f k : Nat) ∧ wr = w) (fun _ v _ => 4 - (intOf v).toNat)
    case atStart => exact ⟨0, rfl, by omega, by rw [symK_zero]; rfl, rfl⟩
    case round =>
      obtain ⟨k, rfl, hk, rfl, rfl⟩ := hrel
      by_cases hlt : k < 4
      · obtain ⟨at', hat⟩ : ∃ at', ι * 4 + k = at' := ⟨_, rfl⟩
        have hati : (4 : Int) * (ι : Int) + (k : Int) = (at' : Int) := by omega
        obtain ⟨P, hP⟩ : ∃ P, at' / 8 = P := ⟨_, rfl⟩
        obtain ⟨r, hr⟩ : ∃ r, at' % 8 = r := ⟨_, rfl⟩
        have hPi : (at' : Int) / 8 = (P : Int) := by omega
        have hri : (at' : Int) % 8 = (r : Int) := by omega
        have hPn : P < n := by omega
        have hr7 : r ≤ 7 := by omega
        obtain ⟨b, o, rfl, _, _, hc⟩ := H.out.lies (by omega)
        have cP := hc P hPn
        rw [gN_int H.out.bd] at cP
        obtain ⟨B, hB⟩ : ∃ B, gN l P = B := ⟨_, rfl⟩
        rw [hB] at cP
        have hB2 : B < 256 := by rw [← hB]; exact gN_lt H.out.bd P
        have hk8 : k ≤ 8 := by omega
        have hk7 : k ≤ 7 := by omega
        have hatp : at' = p * 8 + f + k := by omega
        have hV : symK l p f (k + 1) = 2 * symK l p f k + B / 2 ^ (7 - r) % 2 := by
          rw [symK_next H.out.bd p f k at' hf7 hk7 hatp, hP, hr, hB]
        have hv0 : symK l p f k < 65536 := by
          unfold symK
          have h1 := Nat.mod_lt (symT l p / 2 ^ (16 - f - k)) (Nat.two_pow_pos k)
          exact Nat.lt_of_lt_of_le h1 (Nat.le_trans (Nat.pow_le_pow_right (by decide) hk8) (by decide : 2 ^ 8 ≤ 65536))
        obtain ⟨V, hVV⟩ : ∃ V, symK l p f k = V := ⟨_, rfl⟩
        rw [hVV] at hV hv0 ⊢
        have HV := Lib.hid hV
        clear hc hB hV hVV hP hr hat hatp hk8 hk7
        go_wp2_with fail
        go_loopw [11, 12] (fun c v wx => ∃ (j q : Nat), v = .int .i64 j ∧ c = .int .i64 q ∧ j ≤ 7 - r ∧ q < 256 ∧ wx = wr ∧ Hid (q = B / 2 ^ j)) (fun _ v _ => 7 - r - (intOf v).toNat)
        case atStart => exact ⟨0, B, rfl, rfl, by omega, hB2, rfl, Lib.hid (by rw [Nat.pow_zero, Nat.div_one])⟩
        case round =>
          obtain ⟨j, q, rfl, rfl, hj, hq, rfl, HQ⟩ := hrel
          by_cases hl2 : j < 7 - r
          · have HN : Hid (q / 2 = B / 2 ^ (j + 1)) := Lib.hid (by rw [HQ.out, Nat.div_div_eq_div_mul, ← Nat.pow_succ])
            obtain ⟨q2, hq2⟩ : ∃ q2, q / 2 = q2 := ⟨_, rfl⟩
            rw [hq2] at HN
            have hh : (q : Int) / 2 = (q2 : Int) := by omega
            have hq22 : q2 < 256 := by omega
            clear hq2
            go_wp2_with fail
            go_roundw
            case rel => exact ⟨j + 1, q2, by go_num, rfl, by omega, hq22, trivial, HN⟩
            case measure => simp [intOf]; omega
          · have hj7 : j = 7 - r := by omega
            obtain ⟨q2, hq2⟩ : ∃ q2, q % 2 = q2 := ⟨_, rfl⟩
            have hm2 : (q : Int) % 2 = (q2 : Int) := by omega
            have HE : Hid (symK l p f (k + 1) = 2 * V + q2) := Lib.hid (by rw [HV.out, ← hq2, HQ.out, hj7])
            have hq22 : q2 < 2 := by omega
            clear hj7 hq2
            go_wp2_with fail
            go_roundw
            case rel => exact ⟨k + 1, by go_num, by omega, by rw [HE.out]; go_num, trivial⟩
            case measure => simp [intOf]; omega
      · obtain rfl : k = 4 := by omega
        have HE : Hid (SymE l 4 ι wr (.returned (.tuple #[.int .i64 (symK l p f 4 : Nat), .bool true])) wr) := Lib.hid ⟨Or.inl ⟨HOK.out, by rw [show Int.toNat 4 = 4 from rfl, Int.toNat_natCast, HS.out]⟩, drew0 wr⟩
        go_wp2_with fail
        go_ret2
        exact HE.out
  · have hb1 : (8 : Int) * n < ((ι : Int) + 1) * 4 := by omega
    have HE := Lib.hid (SymE.no (l := l) (k := 4) (i := ι) w fun x => by
      obtain ⟨_, _, _, x4 | x4⟩ := x
      · omega
      · rw [hlen] at x4; omega)
    clear h hg
    go_enter Try.func10, Try.ntmps10
    go_wp2_with fail
    go_ret2
    exact HE.out
set_option maxHeartbeats 3200000 in
theorem rsymbol_5 (F : Nat → Prop) (w : World) (A : Option Addr) (n cap : Nat) (l : List Int) (h : BAt8 F w A n cap l) (hn : n ≤ 1000000) (ι : Nat) :
    Calls Try.prog 10 #[.slice A n cap, .int .i64 5, .int .i64 (ι : Nat)] w (SymE l 5 ι w) := by
  have hlen := h.len
  by_cases hb0 : 8 * n ≤ ι
  · have hbI : (8 : Int) * n ≤ (ι : Int) := by omega
    have HE := Lib.hid (SymE.no (l := l) (k := 5) (i := ι) w fun x => by
      obtain ⟨_, _, _, x4 | x4⟩ := x
      · omega
      · rw [hlen] at x4; omega)
    clear h
    go_enter Try.func10, Try.ntmps10
    go_wp2_with fail
    go_ret2
    exact HE.out
  have hbI : (ι : Int) < 8 * (n : Int) := by omega
  by_cases hg : (ι + 1) * 5 ≤ 8 * n
  · have hgI : ((ι : Int) + 1) * 5 ≤ 8 * (n : Int) := by omega
    have HOK : Hid (symOk l 5 ι) := Lib.hid ⟨by omega, by omega, by omega, Or.inr (by rw [hlen]; omega)⟩
    obtain ⟨p, hp⟩ : ∃ p, ι * 5 / 8 = p := ⟨_, rfl⟩
    obtain ⟨f, hf⟩ : ∃ f, ι * 5 % 8 = f := ⟨_, rfl⟩
    have HS : Hid (symF l 5 ι = symK l p f 5) := Lib.hid (by rw [symF_K, hp, hf])
    have H := Lib.hid h
    have HPF := Lib.hid (And.intro hp hf)
    have hf7 : f ≤ 7 := by omega
    have hsum : ι * 5 = p * 8 + f := by omega
    clear h hp hf
    go_enter Try.func10, Try.ntmps10
    go_wp2_with fail
    go_loopw [8, 9] (fun u v wr => ∃ k : Nat, v = .int .i64 k ∧ k ≤ 5 ∧ u = .int .i64 (symK l p f k : Nat) ∧ wr = w) (fun _ v _ => 5 - (intOf v).toNat)
    case atStart => exact ⟨0, rfl, by omega, by rw [symK_zero]; rfl, rfl⟩
    case round =>
      obtain ⟨k, rfl, hk, rfl, rfl⟩ := hrel
      by_cases hlt : k < 5
      · obtain ⟨at', hat⟩ : ∃ at', ι * 5 + k = at' := ⟨_, rfl⟩
        have hati : (5 : Int) * (ι : Int) + (k : Int) = (at' : Int) := by omega
        obtain ⟨P, hP⟩ : ∃ P, at' / 8 = P := ⟨_, rfl⟩
        obtain ⟨r, hr⟩ : ∃ r, at' % 8 = r := ⟨_, rfl⟩
        have hPi : (at' : Int) / 8 = (P : Int) := by omega
        have hri : (at' : Int) % 8 = (r : Int) := by omega
        have hPn : P < n := by omega
        have hr7 : r ≤ 7 := by omega
        obtain ⟨b, o, rfl, _, _, hc⟩ := H.out.lies (by omega)
        have cP := hc P hPn
        rw [gN_int H.out.bd] at cP
        obtain ⟨B, hB⟩ : ∃ B, gN l P = B := ⟨_, rfl⟩
        rw [hB] at cP
        have hB2 : B < 256 := by rw [← hB]; exact gN_lt H.out.bd P
        have hk8 : k ≤ 8 := by omega
        have hk7 : k ≤ 7 := by omega
        have hatp : at' = p * 8 + f + k := by omega
        have hV : symK l p f (k + 1) = 2 * symK l p f k + B / 2 ^ (7 - r) % 2 := by
          rw [symK_next H.out.bd p f k at' hf7 hk7 hatp, hP, hr, hB]
        have hv0 : symK l p f k < 65536 := by
          unfold symK
          have h1 := Nat.mod_lt (symT l p / 2 ^ (16 - f - k)) (Nat.two_pow_pos k)
          exact Nat.lt_of_lt_of_le h1 (Nat.le_trans (Nat.pow_le_pow_right (by decide) hk8) (by decide : 2 ^ 8 ≤ 65536))
        obtain ⟨V, hVV⟩ : ∃ V, symK l p f k = V := ⟨_, rfl⟩
        rw [hVV] at hV hv0 ⊢
        have HV := Lib.hid hV
        clear hc hB hV hVV hP hr hat hatp hk8 hk7
        go_wp2_with fail
        go_loopw [11, 12] (fun c v wx => ∃ (j q : Nat), v = .int .i64 j ∧ c = .int .i64 q ∧ j ≤ 7 - r ∧ q < 256 ∧ wx = wr ∧ Hid (q = B / 2 ^ j)) (fun _ v _ => 7 - r - (intOf v).toNat)
        case atStart => exact ⟨0, B, rfl, rfl, by omega, hB2, rfl, Lib.hid (by rw [Nat.pow_zero, Nat.div_one])⟩
        case round =>
          obtain ⟨j, q, rfl, rfl, hj, hq, rfl, HQ⟩ := hrel
          by_cases hl2 : j < 7 - r
          · have HN : Hid (q / 2 = B / 2 ^ (j + 1)) := Lib.hid (by rw [HQ.out, Nat.div_div_eq_div_mul, ← Nat.pow_succ])
            obtain ⟨q2, hq2⟩ : ∃ q2, q / 2 = q2 := ⟨_, rfl⟩
            rw [hq2] at HN
            have hh : (q : Int) / 2 = (q2 : Int) := by omega
            have hq22 : q2 < 256 := by omega
            clear hq2
            go_wp2_with fail
            go_roundw
            case rel => exact ⟨j + 1, q2, by go_num, rfl, by omega, hq22, trivial, HN⟩
            case measure => simp [intOf]; omega
          · have hj7 : j = 7 - r := by omega
            obtain ⟨q2, hq2⟩ : ∃ q2, q % 2 = q2 := ⟨_, rfl⟩
            have hm2 : (q : Int) % 2 = (q2 : Int) := by omega
            have HE : Hid (symK l p f (k + 1) = 2 * V + q2) := Lib.hid (by rw [HV.out, ← hq2, HQ.out, hj7])
            have hq22 : q2 < 2 := by omega
            clear hj7 hq2
            go_wp2_with fail
            go_roundw
            case rel => exact ⟨k + 1, by go_num, by omega, by rw [HE.out]; go_num, trivial⟩
            case measure => simp [intOf]; omega
      · obtain rfl : k = 5 := by omega
        have HE : Hid (SymE l 5 ι wr (.returned (.tuple #[.int .i64 (symK l p f 5 : Nat), .bool true])) wr) := Lib.hid ⟨Or.inl ⟨HOK.out, by rw [show Int.toNat 5 = 5 from rfl, Int.toNat_natCast, HS.out]⟩, drew0 wr⟩
        go_wp2_with fail
        go_ret2
        exact HE.out
  · have hb1 : (8 : Int) * n < ((ι : Int) + 1) * 5 := by omega
    have HE := Lib.hid (SymE.no (l := l) (k := 5) (i := ι) w fun x => by
      obtain ⟨_, _, _, x4 | x4⟩ := x
      · omega
      · rw [hlen] at x4; omega)
    clear h hg
    go_enter Try.func10, Try.ntmps10
    go_wp2_with fail
    go_ret2
    exact HE.out
set_option maxHeartbeats 3200000 in
theorem rsymbol_6 (F : Nat → Prop) (w : World) (A : Option Addr) (n cap : Nat) (l : List Int) (h : BAt8 F w A n cap l) (hn : n ≤ 1000000) (ι : Nat) :
    Calls Try.prog 10 #[.slice A n cap, .int .i64 6, .int .i64 (ι : Nat)] w (SymE l 6 ι w) := by
  have hlen := h.len
  by_cases hb0 : 8 * n ≤ ι
  · have hbI : (8 : Int) * n ≤ (ι : Int) := by omega
    have HE := Lib.hid (SymE.no (l := l) (k := 6) (i := ι) w fun x => by
      obtain ⟨_, _, _, x4 | x4⟩ := x
      · omega
      · rw [hlen] at x4; omega)
    clear h
    go_enter Try.func10, Try.ntmps10
    go_wp2_with fail
    go_ret2
    exact HE.out
  have hbI : (ι : Int) < 8 * (n : Int) := by omega
  by_cases hg : (ι + 1) * 6 ≤ 8 * n
  · have hgI : ((ι : Int) + 1) * 6 ≤ 8 * (n : Int) := by omega
    have HOK : Hid (symOk l 6 ι) := Lib.hid ⟨by omega, by omega, by omega, Or.inr (by rw [hlen]; omega)⟩
    obtain ⟨p, hp⟩ : ∃ p, ι * 6 / 8 = p := ⟨_, rfl⟩
    obtain ⟨f, hf⟩ : ∃ f, ι * 6 % 8 = f := ⟨_, rfl⟩
    have HS : Hid (symF l 6 ι = symK l p f 6) := Lib.hid (by rw [symF_K, hp, hf])
    have H := Lib.hid h
    have HPF := Lib.hid (And.intro hp hf)
    have hf7 : f ≤ 7 := by omega
    have hsum : ι * 6 = p * 8 + f := by omega
    clear h hp hf
    go_enter Try.func10, Try.ntmps10
    go_wp2_with fail
    go_loopw [8, 9] (fun u v wr => ∃ k : Nat, v = .int .i64 k ∧ k ≤ 6 ∧ u = .int .i64 (symK l p f k : Nat) ∧ wr = w) (fun _ v _ => 6 - (intOf v).toNat)
    case atStart => exact ⟨0, rfl, by omega, by rw [symK_zero]; rfl, rfl⟩
    case round =>
      obtain ⟨k, rfl, hk, rfl, rfl⟩ := hrel
      by_cases hlt : k < 6
      · obtain ⟨at', hat⟩ : ∃ at', ι * 6 + k = at' := ⟨_, rfl⟩
        have hati : (6 : Int) * (ι : Int) + (k : Int) = (at' : Int) := by omega
        obtain ⟨P, hP⟩ : ∃ P, at' / 8 = P := ⟨_, rfl⟩
        obtain ⟨r, hr⟩ : ∃ r, at' % 8 = r := ⟨_, rfl⟩
        have hPi : (at' : Int) / 8 = (P : Int) := by omega
        have hri : (at' : Int) % 8 = (r : Int) := by omega
        have hPn : P < n := by omega
        have hr7 : r ≤ 7 := by omega
        obtain ⟨b, o, rfl, _, _, hc⟩ := H.out.lies (by omega)
        have cP := hc P hPn
        rw [gN_int H.out.bd] at cP
        obtain ⟨B, hB⟩ : ∃ B, gN l P = B := ⟨_, rfl⟩
        rw [hB] at cP
        have hB2 : B < 256 := by rw [← hB]; exact gN_lt H.out.bd P
        have hk8 : k ≤ 8 := by omega
        have hk7 : k ≤ 7 := by omega
        have hatp : at' = p * 8 + f + k := by omega
        have hV : symK l p f (k + 1) = 2 * symK l p f k + B / 2 ^ (7 - r) % 2 := by
          rw [symK_next H.out.bd p f k at' hf7 hk7 hatp, hP, hr, hB]
        have hv0 : symK l p f k < 65536 := by
          unfold symK
          have h1 := Nat.mod_lt (symT l p / 2 ^ (16 - f - k)) (Nat.two_pow_pos k)
          exact Nat.lt_of_lt_of_le h1 (Nat.le_trans (Nat.pow_le_pow_right (by decide) hk8) (by decide : 2 ^ 8 ≤ 65536))
        obtain ⟨V, hVV⟩ : ∃ V, symK l p f k = V := ⟨_, rfl⟩
        rw [hVV] at hV hv0 ⊢
        have HV := Lib.hid hV
        clear hc hB hV hVV hP hr hat hatp hk8 hk7
        go_wp2_with fail
        go_loopw [11, 12] (fun c v wx => ∃ (j q : Nat), v = .int .i64 j ∧ c = .int .i64 q ∧ j ≤ 7 - r ∧ q < 256 ∧ wx = wr ∧ Hid (q = B / 2 ^ j)) (fun _ v _ => 7 - r - (intOf v).toNat)
        case atStart => exact ⟨0, B, rfl, rfl, by omega, hB2, rfl, Lib.hid (by rw [Nat.pow_zero, Nat.div_one])⟩
        case round =>
          obtain ⟨j, q, rfl, rfl, hj, hq, rfl, HQ⟩ := hrel
          by_cases hl2 : j < 7 - r
          · have HN : Hid (q / 2 = B / 2 ^ (j + 1)) := Lib.hid (by rw [HQ.out, Nat.div_div_eq_div_mul, ← Nat.pow_succ])
            obtain ⟨q2, hq2⟩ : ∃ q2, q / 2 = q2 := ⟨_, rfl⟩
            rw [hq2] at HN
            have hh : (q : Int) / 2 = (q2 : Int) := by omega
            have hq22 : q2 < 256 := by omega
            clear hq2
            go_wp2_with fail
            go_roundw
            case rel => exact ⟨j + 1, q2, by go_num, rfl, by omega, hq22, trivial, HN⟩
            case measure => simp [intOf]; omega
          · have hj7 : j = 7 - r := by omega
            obtain ⟨q2, hq2⟩ : ∃ q2, q % 2 = q2 := ⟨_, rfl⟩
            have hm2 : (q : Int) % 2 = (q2 : Int) := by omega
            have HE : Hid (symK l p f (k + 1) = 2 * V + q2) := Lib.hid (by rw [HV.out, ← hq2, HQ.out, hj7])
            have hq22 : q2 < 2 := by omega
            clear hj7 hq2
            go_wp2_with fail
            go_roundw
            case rel => exact ⟨k + 1, by go_num, by omega, by rw [HE.out]; go_num, trivial⟩
            case measure => simp [intOf]; omega
      · obtain rfl : k = 6 := by omega
        have HE : Hid (SymE l 6 ι wr (.returned (.tuple #[.int .i64 (symK l p f 6 : Nat), .bool true])) wr) := Lib.hid ⟨Or.inl ⟨HOK.out, by rw [show Int.toNat 6 = 6 from rfl, Int.toNat_natCast, HS.out]⟩, drew0 wr⟩
        go_wp2_with fail
        go_ret2
        exact HE.out
  · have hb1 : (8 : Int) * n < ((ι : Int) + 1) * 6 := by omega
    have HE := Lib.hid (SymE.no (l := l) (k := 6) (i := ι) w fun x => by
      obtain ⟨_, _, _, x4 | x4⟩ := x
      · omega
      · rw [hlen] at x4; omega)
    clear h hg
    go_enter Try.func10, Try.ntmps10
    go_wp2_with fail
    go_ret2
    exact HE.out
set_option maxHeartbeats 3200000 in
theorem rsymbol_7 (F : Nat → Prop) (w : World) (A : Option Addr) (n cap : Nat) (l : List Int) (h : BAt8 F w A n cap l) (hn : n ≤ 1000000) (ι : Nat) :
    Calls Try.prog 10 #[.slice A n cap, .int .i64 7, .int .i64 (ι : Nat)] w (SymE l 7 ι w) := by
  have hlen := h.len
  by_cases hb0 : 8 * n ≤ ι
  · have hbI : (8 : Int) * n ≤ (ι : Int) := by omega
    have HE := Lib.hid (SymE.no (l := l) (k := 7) (i := ι) w fun x => by
      obtain ⟨_, _, _, x4 | x4⟩ := x
      · omega
      · rw [hlen] at x4; omega)
    clear h
    go_enter Try.func10, Try.ntmps10
    go_wp2_with fail
    go_ret2
    exact HE.out
  have hbI : (ι : Int) < 8 * (n : Int) := by omega
  by_cases hg : (ι + 1) * 7 ≤ 8 * n
  · have hgI : ((ι : Int) + 1) * 7 ≤ 8 * (n : Int) := by omega
    have HOK : Hid (symOk l 7 ι) := Lib.hid ⟨by omega, by omega, by omega, Or.inr (by rw [hlen]; omega)⟩
    obtain ⟨p, hp⟩ : ∃ p, ι * 7 / 8 = p := ⟨_, rfl⟩
    obtain ⟨f, hf⟩ : ∃ f, ι * 7 % 8 = f := ⟨_, rfl⟩
    have HS : Hid (symF l 7 ι = symK l p f 7) := Lib.hid (by rw [symF_K, hp, hf])
    have H := Lib.hid h
    have HPF := Lib.hid (And.intro hp hf)
    have hf7 : f ≤ 7 := by omega
    have hsum : ι * 7 = p * 8 + f := by omega
    clear h hp hf
    go_enter Try.func10, Try.ntmps10
    go_wp2_with fail
    go_loopw [8, 9] (fun u v wr => ∃ k : Nat, v = .int .i64 k ∧ k ≤ 7 ∧ u = .int .i64 (symK l p f k : Nat) ∧ wr = w) (fun _ v _ => 7 - (intOf v).toNat)
    case atStart => exact ⟨0, rfl, by omega, by rw [symK_zero]; rfl, rfl⟩
    case round =>
      obtain ⟨k, rfl, hk, rfl, rfl⟩ := hrel
      by_cases hlt : k < 7
      · obtain ⟨at', hat⟩ : ∃ at', ι * 7 + k = at' := ⟨_, rfl⟩
        have hati : (7 : Int) * (ι : Int) + (k : Int) = (at' : Int) := by omega
        obtain ⟨P, hP⟩ : ∃ P, at' / 8 = P := ⟨_, rfl⟩
        obtain ⟨r, hr⟩ : ∃ r, at' % 8 = r := ⟨_, rfl⟩
        have hPi : (at' : Int) / 8 = (P : Int) := by omega
        have hri : (at' : Int) % 8 = (r : Int) := by omega
        have hPn : P < n := by omega
        have hr7 : r ≤ 7 := by omega
        obtain ⟨b, o, rfl, _, _, hc⟩ := H.out.lies (by omega)
        have cP := hc P hPn
        rw [gN_int H.out.bd] at cP
        obtain ⟨B, hB⟩ : ∃ B, gN l P = B := ⟨_, rfl⟩
        rw [hB] at cP
        have hB2 : B < 256 := by rw [← hB]; exact gN_lt H.out.bd P
        have hk8 : k ≤ 8 := by omega
        have hk7 : k ≤ 7 := by omega
        have hatp : at' = p * 8 + f + k := by omega
        have hV : symK l p f (k + 1) = 2 * symK l p f k + B / 2 ^ (7 - r) % 2 := by
          rw [symK_next H.out.bd p f k at' hf7 hk7 hatp, hP, hr, hB]
        have hv0 : symK l p f k < 65536 := by
          unfold symK
          have h1 := Nat.mod_lt (symT l p / 2 ^ (16 - f - k)) (Nat.two_pow_pos k)
          exact Nat.lt_of_lt_of_le h1 (Nat.le_trans (Nat.pow_le_pow_right (by decide) hk8) (by decide : 2 ^ 8 ≤ 65536))
        obtain ⟨V, hVV⟩ : ∃ V, symK l p f k = V := ⟨_, rfl⟩
        rw [hVV] at hV hv0 ⊢
        have HV := Lib.hid hV
        clear hc hB hV hVV hP hr hat hatp hk8 hk7
        go_wp2_with fail
        go_loopw [11, 12] (fun c v wx => ∃ (j q : Nat), v = .int .i64 j ∧ c = .int .i64 q ∧ j ≤ 7 - r ∧ q < 256 ∧ wx = wr ∧ Hid (q = B / 2 ^ j)) (fun _ v _ => 7 - r - (intOf v).toNat)
        case atStart => exact ⟨0, B, rfl, rfl, by omega, hB2, rfl, Lib.hid (by rw [Nat.pow_zero, Nat.div_one])⟩
        case round =>
          obtain ⟨j, q, rfl, rfl, hj, hq, rfl, HQ⟩ := hrel
          by_cases hl2 : j < 7 - r
          · have HN : Hid (q / 2 = B / 2 ^ (j + 1)) := Lib.hid (by rw [HQ.out, Nat.div_div_eq_div_mul, ← Nat.pow_succ])
            obtain ⟨q2, hq2⟩ : ∃ q2, q / 2 = q2 := ⟨_, rfl⟩
            rw [hq2] at HN
            have hh : (q : Int) / 2 = (q2 : Int) := by omega
            have hq22 : q2 < 256 := by omega
            clear hq2
            go_wp2_with fail
            go_roundw
            case rel => exact ⟨j + 1, q2, by go_num, rfl, by omega, hq22, trivial, HN⟩
            case measure => simp [intOf]; omega
          · have hj7 : j = 7 - r := by omega
            obtain ⟨q2, hq2⟩ : ∃ q2, q % 2 = q2 := ⟨_, rfl⟩
            have hm2 : (q : Int) % 2 = (q2 : Int) := by omega
            have HE : Hid (symK l p f (k + 1) = 2 * V + q2) := Lib.hid (by rw [HV.out, ← hq2, HQ.out, hj7])
            have hq22 : q2 < 2 := by omega
            clear hj7 hq2
            go_wp2_with fail
            go_roundw
            case rel => exact ⟨k + 1, by go_num, by omega, by rw [HE.out]; go_num, trivial⟩
            case measure => simp [intOf]; omega
      · obtain rfl : k = 7 := by omega
        have HE : Hid (SymE l 7 ι wr (.returned (.tuple #[.int .i64 (symK l p f 7 : Nat), .bool true])) wr) := Lib.hid ⟨Or.inl ⟨HOK.out, by rw [show Int.toNat 7 = 7 from rfl, Int.toNat_natCast, HS.out]⟩, drew0 wr⟩
        go_wp2_with fail
        go_ret2
        exact HE.out
  · have hb1 : (8 : Int) * n < ((ι : Int) + 1) * 7 := by omega
    have HE := Lib.hid (SymE.no (l := l) (k := 7) (i := ι) w fun x => by
      obtain ⟨_, _, _, x4 | x4⟩ := x
      · omega
      · rw [hlen] at x4; omega)
    clear h hg
    go_enter Try.func10, Try.ntmps10
    go_wp2_with fail
    go_ret2
    exact HE.out
set_option maxHeartbeats 3200000 in
theorem rsymbol_8 (F : Nat → Prop) (w : World) (A : Option Addr) (n cap : Nat) (l : List Int) (h : BAt8 F w A n cap l) (hn : n ≤ 1000000) (ι : Nat) :
    Calls Try.prog 10 #[.slice A n cap, .int .i64 8, .int .i64 (ι : Nat)] w (SymE l 8 ι w) := by
  have hlen := h.len
  by_cases hb0 : 8 * n ≤ ι
  · have hbI : (8 : Int) * n ≤ (ι : Int) := by omega
    have HE := Lib.hid (SymE.no (l := l) (k := 8) (i := ι) w fun x => by
      obtain ⟨_, _, _, x4 | x4⟩ := x
      · omega
      · rw [hlen] at x4; omega)
    clear h
    go_enter Try.func10, Try.ntmps10
    go_wp2_with fail
    go_ret2
    exact HE.out
  have hbI : (ι : Int) < 8 * (n : Int) := by omega
  by_cases hg : (ι + 1) * 8 ≤ 8 * n
  · have hgI : ((ι : Int) + 1) * 8 ≤ 8 * (n : Int) := by omega
    have HOK : Hid (symOk l 8 ι) := Lib.hid ⟨by omega, by omega, by omega, Or.inr (by rw [hlen]; omega)⟩
    obtain ⟨p, hp⟩ : ∃ p, ι * 8 / 8 = p := ⟨_, rfl⟩
    obtain ⟨f, hf⟩ : ∃ f, ι * 8 % 8 = f := ⟨_, rfl⟩
    have HS : Hid (symF l 8 ι = symK l p f 8) := Lib.hid (by rw [symF_K, hp, hf])
    have H := Lib.hid h
    have HPF := Lib.hid (And.intro hp hf)
    have hf7 : f ≤ 7 := by omega
    have hsum : ι * 8 = p * 8 + f := by omega
    clear h hp hf
    go_enter Try.func10, Try.ntmps10
    go_wp2_with fail
    go_loopw [8, 9] (fun u v wr => ∃ k : Nat, v = .int .i64 k ∧ k ≤ 8 ∧ u = .int .i64 (symK l p f k : Nat) ∧ wr = w) (fun _ v _ => 8 - (intOf v).toNat)
    case atStart => exact ⟨0, rfl, by omega, by rw [symK_zero]; rfl, rfl⟩
    case round =>
      obtain ⟨k, rfl, hk, rfl, rfl⟩ := hrel
      by_cases hlt : k < 8
      · obtain ⟨at', hat⟩ : ∃ at', ι * 8 + k = at' := ⟨_, rfl⟩
        have hati : (8 : Int) * (ι : Int) + (k : Int) = (at' : Int) := by omega
        obtain ⟨P, hP⟩ : ∃ P, at' / 8 = P := ⟨_, rfl⟩
        obtain ⟨r, hr⟩ : ∃ r, at' % 8 = r := ⟨_, rfl⟩
        have hPi : (at' : Int) / 8 = (P : Int) := by omega
        have hri : (at' : Int) % 8 = (r : Int) := by omega
        have hPn : P < n := by omega
        have hr7 : r ≤ 7 := by omega
        obtain ⟨b, o, rfl, _, _, hc⟩ := H.out.lies (by omega)
        have cP := hc P hPn
        rw [gN_int H.out.bd] at cP
        obtain ⟨B, hB⟩ : ∃ B, gN l P = B := ⟨_, rfl⟩
        rw [hB] at cP
        have hB2 : B < 256 := by rw [← hB]; exact gN_lt H.out.bd P
        have hk8 : k ≤ 8 := by omega
        have hk7 : k ≤ 7 := by omega
        have hatp : at' = p * 8 + f + k := by omega
        have hV : symK l p f (k + 1) = 2 * symK l p f k + B / 2 ^ (7 - r) % 2 := by
          rw [symK_next H.out.bd p f k at' hf7 hk7 hatp, hP, hr, hB]
        have hv0 : symK l p f k < 65536 := by
          unfold symK
          have h1 := Nat.mod_lt (symT l p / 2 ^ (16 - f - k)) (Nat.two_pow_pos k)
          exact Nat.lt_of_lt_of_le h1 (Nat.le_trans (Nat.pow_le_pow_right (by decide) hk8) (by decide : 2 ^ 8 ≤ 65536))
        obtain ⟨V, hVV⟩ : ∃ V, symK l p f k = V := ⟨_, rfl⟩
        rw [hVV] at hV hv0 ⊢
        have HV := Lib.hid hV
        clear hc hB hV hVV hP hr hat hatp hk8 hk7
        go_wp2_with fail
        go_loopw [11, 12] (fun c v wx => ∃ (j q : Nat), v = .int .i64 j ∧ c = .int .i64 q ∧ j ≤ 7 - r ∧ q < 256 ∧ wx = wr ∧ Hid (q = B / 2 ^ j)) (fun _ v _ => 7 - r - (intOf v).toNat)
        case atStart => exact ⟨0, B, rfl, rfl, by omega, hB2, rfl, Lib.hid (by rw [Nat.pow_zero, Nat.div_one])⟩
        case round =>
          obtain ⟨j, q, rfl, rfl, hj, hq, rfl, HQ⟩ := hrel
          by_cases hl2 : j < 7 - r
          · have HN : Hid (q / 2 = B / 2 ^ (j + 1)) := Lib.hid (by rw [HQ.out, Nat.div_div_eq_div_mul, ← Nat.pow_succ])
            obtain ⟨q2, hq2⟩ : ∃ q2, q / 2 = q2 := ⟨_, rfl⟩
            rw [hq2] at HN
            have hh : (q : Int) / 2 = (q2 : Int) := by omega
            have hq22 : q2 < 256 := by omega
            clear hq2
            go_wp2_with fail
            go_roundw
            case rel => exact ⟨j + 1, q2, by go_num, rfl, by omega, hq22, trivial, HN⟩
            case measure => simp [intOf]; omega
          · have hj7 : j = 7 - r := by omega
            obtain ⟨q2, hq2⟩ : ∃ q2, q % 2 = q2 := ⟨_, rfl⟩
            have hm2 : (q : Int) % 2 = (q2 : Int) := by omega
            have HE : Hid (symK l p f (k + 1) = 2 * V + q2) := Lib.hid (by rw [HV.out, ← hq2, HQ.out, hj7])
            have hq22 : q2 < 2 := by omega
            clear hj7 hq2
            go_wp2_with fail
            go_roundw
            case rel => exact ⟨k + 1, by go_num, by omega, by rw [HE.out]; go_num, trivial⟩
            case measure => simp [intOf]; omega
      · obtain rfl : k = 8 := by omega
        have HE : Hid (SymE l 8 ι wr (.returned (.tuple #[.int .i64 (symK l p f 8 : Nat), .bool true])) wr) := Lib.hid ⟨Or.inl ⟨HOK.out, by rw [show Int.toNat 8 = 8 from rfl, Int.toNat_natCast, HS.out]⟩, drew0 wr⟩
        go_wp2_with fail
        go_ret2
        exact HE.out
  · have hb1 : (8 : Int) * n < ((ι : Int) + 1) * 8 := by omega
    have HE := Lib.hid (SymE.no (l := l) (k := 8) (i := ι) w fun x => by
      obtain ⟨_, _, _, x4 | x4⟩ := x
      · omega
      · rw [hlen] at x4; omega)
    clear h hg
    go_enter Try.func10, Try.ntmps10
    go_wp2_with fail
    go_ret2
    exact HE.out
set_option maxHeartbeats 1600000 in
theorem rsymbol_any (F : Nat → Prop) (w : World) (A : Option Addr) (n cap : Nat) (l : List Int) (h : BAt8 F w A n cap l) (hn : n ≤ 1000000) (k i : Int) :
    Calls Try.prog 10 #[.slice A n cap, .int .i64 k, .int .i64 i] w (SymE l k i w) := by
  by_cases c1 : k < 0
  · have d1 : decide (k < 0) = true := decide_eq_true c1
    have HE := Lib.hid (SymE.no (l := l) (k := k) (i := i) w fun x => by have := x.1; omega)
    clear c1 h
    go_enter Try.func10, Try.ntmps10
    go_wp2_with fail
    go_ret2
    exact HE.out
  have d1 : decide (k < 0) = false := decide_eq_false c1
  by_cases c2 : 8 < k
  · have d2 : decide (8 < k) = true := decide_eq_true c2
    have HE := Lib.hid (SymE.no (l := l) (k := k) (i := i) w fun x => by have := x.2.1; omega)
    clear c1 c2 h
    go_enter Try.func10, Try.ntmps10
    go_wp2_with fail
    go_ret2
    exact HE.out
  have d2 : decide (8 < k) = false := decide_eq_false c2
  by_cases c3 : i < 0
  · have d3 : decide (i < 0) = true := decide_eq_true c3
    have HE := Lib.hid (SymE.no (l := l) (k := k) (i := i) w fun x => by have := x.2.2.1; omega)
    clear c1 c2 c3 h
    go_enter Try.func10, Try.ntmps10
    go_wp2_with fail
    go_ret2
    exact HE.out
  have d3 : decide (i < 0) = false := decide_eq_false c3
  obtain ⟨ι, rfl⟩ : ∃ ι : Nat, i = ι := ⟨i.toNat, by omega⟩
  rcases (show k = 0 ∨ k = 1 ∨ k = 2 ∨ k = 3 ∨ k = 4 ∨ k = 5 ∨ k = 6 ∨ k = 7 ∨ k = 8 by omega) with rfl | rfl | rfl | rfl | rfl | rfl | rfl | rfl | rfl
  · have HE : Hid (SymE l 0 ι w (.returned (.tuple #[.int .i64 0, .bool true])) w) := Lib.hid ⟨Or.inl ⟨⟨by omega, by omega, by omega, Or.inl rfl⟩, by rw [show Int.toNat 0 = 0 from rfl, symF_zero]; rfl⟩, drew0 w⟩
    clear c1 c2 c3 h
    go_enter Try.func10, Try.ntmps10
    go_wp2_with fail
    refine wp_loop_rounds 1 ?_
    rw [rounds_succ]
    go_wp2_with fail
    go_ret2
    exact HE.out
  · exact rsymbol_1 F w A n cap l h hn ι
  · exact rsymbol_2 F w A n cap l h hn ι
  · exact rsymbol_3 F w A n cap l h hn ι
  · exact rsymbol_4 F w A n cap l h hn ι
  · exact rsymbol_5 F w A n cap l h hn ι
  · exact rsymbol_6 F w A n cap l h hn ι
  · exact rsymbol_7 F w A n cap l h hn ι
  · exact rsymbol_8 F w A n cap l h hn ι

end Go.Proofs.Ythlaglhlmbkniaa
