/- The law KeysRows of layer 10, walked. -/
import Derived.Test.YtfppbhpokeafpaaDoorKeysLaws2
namespace Go.Proofs.YtfppbhpokeafpaaDoor
open Go.RowKit

set_option maxHeartbeats 800000 in
theorem one_any (n : Nat) (w : World) (hn : n < 8) : Calls Tryd.prog 17 #[.int .i64 n] w fun e w' => e = .returned (.int .i64 (pw n)) ∧ w = w' := by
  go_enter Tryd.func17, Tryd.ntmps17
  go_wp2_with fail
  go_loop [3, 4] (fun x i => ∃ k : Nat, i = .int .i64 k ∧ k ≤ n ∧ x = .int .i64 (pw k)) (fun _ i => 8 - (intOf i).toNat)
  case atStart => exact ⟨0, rfl, by omega, rfl⟩
  case round =>
    obtain ⟨k, rfl, hk, rfl⟩ := hrel
    by_cases hlt : k < n
    · obtain ⟨d0, d1⟩ := pw_bd k (by omega)
      have HS := Lib.hid (pw_succ k)
      generalize pw k = y at *
      go_wp2_with fail
      go_round
      case rel => exact ⟨k + 1, by go_num, by omega, by rw [HS.out]⟩
      case measure => simp [intOf]; omega
    · obtain rfl : k = n := by omega
      go_wp2_with fail
      go_ret
      exact ⟨rfl, rfl⟩

/-- The keyboard while its keys are released, one behind the other. -/
structure Rel (S : Nat → Bool) (b k : Nat) (w wr : World) : Prop where
  keys : KeysAt wr b (relS S k)
  wrote : Wrote b w wr
set_option maxHeartbeats 3200000 in
theorem rows_walk (v : Value) (l : List Step) (a b : Int) (_ : (Lit.int .u8 a).wf = true) (_ : (Lit.int .u8 b).wf = true) (w : World) (hT : ∃ A, NmTab A w) (hv : OpsAt w v l) :
    Calls Tryd.prog 5 #[v, .int .u8 a, .int .u8 b] w fun e w' => e = .returned (.bool true) ∧ Below w.heap.size w w' := by
  rename_i hwa hwb
  obtain ⟨a0, a1⟩ := u8_bd hwa
  obtain ⟨b0, b1⟩ := u8_bd hwb
  obtain ⟨A, hT⟩ := hT
  have HT := Lib.hid hT
  clear hwa hwb hT
  by_cases hl : l.length ≤ 200
  · have HP := Lib.hid (play_any A v l w HT.out hv hl)
    obtain ⟨B, cap, rfl, c1, c2, c3⟩ := hv
    clear c3 c2 c1
    go_enter Tryd.func5, Tryd.ntmps5
    go_wp2_with fail
    refine HP.out.mono ?_
    rintro e w1 ⟨x, L, rfl, hi⟩
    obtain ⟨S, hS⟩ : ∃ S, stF l l.length = S := ⟨_, rfl⟩
    have HK1 := Lib.hid (show KeysAt w1 w.heap.size S by rw [← hS]; exact hi.keys)
    have hnx1 := hi.bel
    obtain ⟨n0, n1⟩ := and_bd a b a0 a1 b0 b1
    have HRA := Lib.hid (read_any S _ a w1 HK1.out a0 a1)
    have HRB := Lib.hid (read_any S _ b w1 HK1.out b0 b1)
    have HRC := Lib.hid (read_any S _ (bits .and .u8 a b) w1 HK1.out n0 n1)
    have HRF := Lib.hid (show Calls Tryd.prog 9 #[.pointer (some ⟨w.heap.size, 0, none⟩), .int .u8 255] w1 fun e w' => e = .returned (.int .u8 31) ∧ w1 = w' by
      have := read_any S w.heap.size 255 w1 HK1.out (by decide) (by decide)
      rw [read_all] at this; exact this)
    have hrn := read_and S a b a0 a1 b0 b1
    have hra : readF S a ≤ 31 := (redF_bd S a 8).2
    obtain ⟨c, hc⟩ : ∃ c, bits .and .u8 a b = c := ⟨_, rfl⟩
    rw [hc] at HRC hrn n0 n1
    have HC := Lib.hid hc
    clear hi HP hc hS
    obtain ⟨ra, hra'⟩ : ∃ r, readF S a = r := ⟨_, rfl⟩
    obtain ⟨rb, hrb'⟩ : ∃ r, readF S b = r := ⟨_, rfl⟩
    obtain ⟨rc, hrc'⟩ : ∃ r, readF S c = r := ⟨_, rfl⟩
    rw [hra'] at HRA hra hrn
    rw [hrb'] at HRB hrn
    rw [hrc'] at HRC hrn
    clear hra' hrb' hrc'
    have HRN := Lib.hid hrn
    clear hrn
    go_wp2_with fail
    refine (HRA.out).mono ?_
    rintro e w' ⟨rfl, rfl⟩
    go_wp2_with fail
    refine (HRB.out).mono ?_
    rintro e w' ⟨rfl, rfl⟩
    have hc : bits .and .u8 a b = c := HC.out
    go_wp2_with fail
    clear hc
    refine HRC.out.mono ?_
    rintro e w' ⟨rfl, rfl⟩
    have hrn : bits .and .u8 ra rb = rc := HRN.out
    go_wp2_with fail
    clear hrn
    refine HRF.out.mono ?_
    rintro e w' ⟨rfl, rfl⟩
    go_wp2_with fail
    refine (HRA.out).mono ?_
    rintro e w' ⟨rfl, rfl⟩
    go_wp2_with fail
    refine (down_any A S _ w1 (HT.out.below hnx1) HK1.out).mono ?_
    rintro e w2 ⟨v2, rfl, hown2, hb2⟩
    have hnx2 := hnx1.trans (hb2.mono hnx1.size)
    have hz : w.heap.size + 1 ≤ w1.heap.size := HK1.out.lt
    obtain ⟨A2, cap2, rfl, n2, m2, hcell2⟩ := rowG_down hown2
    have HC2 := Lib.hid hcell2
    have HK2 := Lib.hid (HK1.out.below hb2)
    have hdl := dn_le S 40
    have HRE := Lib.hid (relS_at S)
    have HRX := Lib.hid (relS_next S)
    have HEN := Lib.hid (relS_all S)
    have HZ := Lib.hid (relS_zero S)
    have HSZ := Lib.hid hz
    clear hcell2 hown2 hb2 HRA HRB HRC HRF HRN HC HK1 hra n0 n1
    obtain ⟨n, hn⟩ : ∃ n, (dn S 40).length = n := ⟨_, rfl⟩
    rw [hn] at hdl n2 HC2 HRE HRX HEN ⊢
    clear hn
    unfold maxLen at m2
    go_wp2_with fail
    go_loopw [11] (fun i wr => ∃ k : Nat, i = .int .i64 k ∧ k ≤ n ∧ Rel S w.heap.size k w2 wr) (fun i _ => 40 - (intOf i).toNat)
    case atStart => exact ⟨0, rfl, by omega, ⟨by rw [HZ.out]; exact HK2.out, Wrote.refl _ _⟩⟩
    case round =>
      obtain ⟨k, rfl, hk, hr⟩ := hrel
      have hnxr : Below w.heap.size w wr := hnx2.trans (hr.wrote.below (Nat.le_refl _))
      have HTR := Lib.hid (HT.out.below hnxr)
      have HKR := Lib.hid hr.keys
      have HWR := Lib.hid hr.wrote
      clear hr
      by_cases hlt : k < n
      · obtain ⟨q40, hqs⟩ := HRE.out k hlt
        have HQX := Lib.hid (HRX.out k hlt)
        obtain ⟨g, rfl, hg1, hg2, hc⟩ := HC2.out k hlt
        obtain ⟨q, hq⟩ : ∃ q, (dn S 40).getD k 0 = q := ⟨_, rfl⟩
        rw [hq] at q40 hqs HQX
        have hc' : w2.cell? ⟨g, k, none⟩ = some (.string (nm q)) := by rw [← hq]; exact hc
        have hcr : wr.cell? ⟨g, k, none⟩ = some (.string (nm q)) := (World.cell?_of_block (HWR.out.block g (by have := HSZ.out; omega))).trans hc'
        obtain ⟨R, hR⟩ : ∃ R, q / 5 = R := ⟨_, rfl⟩
        obtain ⟨J, hJ⟩ : ∃ J, q % 5 = J := ⟨_, rfl⟩
        have hqR : q = 5 * R + J := by omega
        have hR8 : R < 8 := by omega
        have hJ5 : J < 5 := by omega
        have hkn : keyN (nm q) = 5 * R + J := by rw [keyN_nm q q40, hqR]
        rw [hqR] at hqs HQX
        obtain ⟨y0, y1⟩ := pw_bd R (by omega)
        have hy7 : pw R ≤ 128 := by
          have key : ∀ R, R < 8 → pw R ≤ 128 := by decide +kernel
          exact key R hR8
        have HF := Lib.hid (find_yes A (nm q) R J wr HTR.out hR8 hJ5 hkn)
        have HON := Lib.hid (one_any R wr hR8)
        have HRD := Lib.hid (read_any (relS S k) w.heap.size (255 - pw R) wr HKR.out (by omega) (by omega))
        have hro := read_one (relS S k) R J hR8 hJ5 hqs
        have HRL := Lib.hid (release_yes A w.heap.size (relS S k) (nm q) R J wr HTR.out HKR.out hR8 hJ5 hkn)
        have hN := nm_size q
        clear hkn hqs hq hqR hR hJ hc hc' q40
        generalize nm q = N at *
        generalize readF (relS S k) (255 - pw R) = z at *
        generalize pw R = y at *
        go_wp2_with fail
        refine (HF.out).mono ?_
        rintro e w' ⟨rfl, rfl⟩
        go_wp2_with fail
        refine (HON.out).mono ?_
        rintro e w' ⟨rfl, rfl⟩
        go_wp2_with fail
        refine (HRD.out).mono ?_
        rintro e w' ⟨rfl, rfl⟩
        go_wp2_with fail
        refine HRL.out.mono ?_
        rintro e w3 ⟨rfl, hk3, hw3⟩
        have HK3 := Lib.hid hk3
        have HW3 := Lib.hid (HWR.out.trans hw3)
        clear hk3 hw3 hcr hro
        go_wp2_with fail
        go_roundw
        case rel => exact ⟨k + 1, by go_num, by omega, ⟨by rw [HQX.out]; exact HK3.out, HW3.out⟩⟩
        case measure => simp [intOf]; omega
      · obtain rfl : k = n := by omega
        have HRD := Lib.hid (show Calls Tryd.prog 9 #[.pointer (some ⟨w.heap.size, 0, none⟩), .int .u8 a] wr fun e w' => e = .returned (.int .u8 31) ∧ wr = w' by
          have := read_any (relS S k) w.heap.size a wr HKR.out a0 a1
          rw [read_none _ _ (HEN.out)] at this; exact this)
        have HDD := Lib.hid (down_any A (relS S k) _ wr HTR.out HKR.out)
        have HD0 := Lib.hid (show (dn (relS S k) 40).length = 0 by
          have e : dn (relS S k) 40 = [] := List.filter_eq_nil_iff.2 (fun m hm => by rw [HEN.out m (List.mem_range.1 hm)]; simp)
          rw [e]; rfl)
        go_wp2_with fail
        refine HRD.out.mono ?_
        rintro e w' ⟨rfl, rfl⟩
        go_wp2_with fail
        refine HDD.out.mono ?_
        rintro e w3 ⟨v3, rfl, hown3, hb3⟩
        obtain ⟨A3, cap3, rfl, _, _, _⟩ := rowG_down hown3
        rw [HD0.out]
        have hnx3 := hnxr.trans (hb3.mono hnxr.size)
        have HT3 := Lib.hid (HT.out.below hnx3)
        clear hown3 hb3
        go_wp2_with fail
        refine (lives10 A _ HT3.out).mono ?_
        rintro e w4 ⟨rfl, hb4⟩
        go_wp2_with fail
        go_ret
        exact ⟨rfl, hnx3.trans (hb4.mono hnx3.size)⟩
  · obtain ⟨B, cap, rfl, c1, c2, c3⟩ := hv
    have hl2 : 200 < l.length := by omega
    unfold maxLen at c2
    clear c3 hl
    go_enter Tryd.func5, Tryd.ntmps5
    go_wp2_with fail
    refine (lives10 A _ HT.out).mono ?_
    rintro e w4 ⟨rfl, hb4⟩
    go_wp2_with fail
    go_ret
    exact ⟨rfl, hb4⟩
end Go.Proofs.YtfppbhpokeafpaaDoor
