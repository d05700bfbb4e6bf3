/- WireBack walked. -/
import Derived.Test.YtliohkgaonnioaaWireLives
import Derived.Test.YtliohkgaonnioaaWireNumbers
import Derived.Deep.RegionWith
namespace Go.Proofs.Ytliohkgaonnioaa
open Go.RowKit
set_option linter.unusedVariables false
set_option linter.unusedSimpArgs false

theorem lives_on {w w1 : World} (h : Below w.heap.size w w1) : Calls Try.prog 5 #[] w1 fun e w' => e = .returned (.bool true) ∧ Below w.heap.size w w' := by
  refine (lives17 w1).mono ?_
  rintro e w' ⟨rfl, hb⟩
  exact ⟨rfl, h.trans (hb.mono h.size)⟩
/-- How far the bytes have been put together. -/
structure Bk (w wr : World) (l : List Int) (k j : Nat) (A : Option Addr) (m c : Nat) : Prop where
  own : wr.ownsRow w.heap.size 5 1 (.slice A m c) m ((rowL k (l.take j)).map u8I)
  len : m = k * j
  fits : ∀ i, i < j → 0 ≤ gI l i ∧ gI l i < 256 ^ k
  bel : Below w.heap.size w wr
theorem pow_bd (k : Nat) (h : k ≤ 4) : (1 : Int) ≤ 256 ^ k ∧ (256 : Int) ^ k ≤ 4294967296 := by
  have e : k = 0 ∨ k = 1 ∨ k = 2 ∨ k = 3 ∨ k = 4 := by omega
  rcases e with rfl | rfl | rfl | rfl | rfl <;> decide
theorem Bk.next {w wr w2 : World} {l : List Int} {k j : Nat} {A A2 : Option Addr} {m c c2 : Nat} (h : Bk w wr l k j A m c) (hj : j < l.length) (h0 : 0 ≤ gI l j) (h1 : gI l j < 256 ^ k) (hG : Gr (Value.slice A m c).ownBlock w.heap.size wr w2 A2 (m + k) c2 (rowL k (l.take j) ++ putL k (gI l j))) : Bk w w2 l k (j + 1) A2 (m + k) c2 := by
  refine ⟨?_, by rw [h.len, Nat.mul_succ], fun i hi => ?_, h.bel.trans (hG.ch.below (fun i hi => (own_low h.own i hi).1) h.bel.size)⟩
  · rw [take_gI l j hj, rowL_snoc]
    exact hG.own
  · by_cases e : i = j
    · subst e; exact ⟨h0, h1⟩
    · exact h.fits i (by omega)
theorem lstF_all (l : List Int) (k : Nat) (h : ∀ i, i < l.length → 0 ≤ gI l i ∧ gI l i < 256 ^ k) : lstF (numF (rowL k l) 0 k) l.length = l := by
  refine List.ext_getElem (lstF_len _ _) fun i h1 h2 => ?_
  have e1 := gI_some (lstF (numF (rowL k l) 0 k) l.length) i h1
  have e2 := gI_some l i h2
  rw [List.getElem?_eq_getElem h1] at e1
  rw [List.getElem?_eq_getElem h2] at e2
  injection e1 with e1
  injection e2 with e2
  rw [e1, e2, gI_lstF _ _ _ h2]
  unfold numF
  rw [Nat.zero_add, rowL_val k l i h2 (h i h2).1 (h i h2).2]
/-- The last loop: all but the last number are there. -/
def Short (F : Nat → Prop) (wr : World) (g : Nat) (bs : List Int) (k N j : Nat) : Prop :=
  (j < N ∧ RdAt F wr g bs (k * j) 0 0) ∨ (j = N ∧ RdAt F wr g bs (k * (N - 1)) 2 ((k * (N - 1) : Nat) : Int))
theorem back_big (v : Value) (l : List Int) (n : Int) (hn : (Lit.int .i64 n).wf = true) (w : World) (h : IntsV w v l) (hl : 200 < l.length) : Calls Try.prog 4 #[v, .int .i64 n] w fun e w' => e = .returned (.bool true) ∧ Below w.heap.size w w' := by
  obtain ⟨A, N, cap, rfl, hB⟩ := h
  have hlen := hB.len
  have hf := hB.fit
  have hm := hB.max
  unfold maxLen at hm
  clear hB
  have hnb : -9223372036854775808 ≤ n ∧ n ≤ 9223372036854775807 := bounds_i64 hn
  obtain ⟨n0, n1⟩ := hnb
  have d : decide (200 < (N : Int)) = true := decide_eq_true (by omega)
  have d' : decide (200 < N) = true := decide_eq_true (by omega)
  obtain ⟨m1, hm1⟩ : ∃ m1 : Int, (if (4 : Int) < n then (4 : Int) else n) = m1 := ⟨_, rfl⟩
  obtain ⟨m2, hm2⟩ : ∃ m2 : Int, (if (1 : Int) < m1 then m1 else 1) = m2 := ⟨_, rfl⟩
  go_enter Try.func4, Try.ntmps4
  go_wp2_with fail
  refine (lives17 _).mono ?_
  rintro e w1 ⟨rfl, hb⟩
  go_wp2_with fail
  go_ret
  exact ⟨rfl, hb⟩
set_option maxHeartbeats 6400000 in
theorem back_walk (v : Value) (l : List Int) (n : Int) (hn : (Lit.int .i64 n).wf = true) (w : World) (h : IntsV w v l) : Calls Try.prog 4 #[v, .int .i64 n] w fun e w' => e = .returned (.bool true) ∧ Below w.heap.size w w' := by
  by_cases hbig : 200 < l.length
  · exact back_big v l n hn w h hbig
  obtain ⟨A, N, cap, rfl, hB⟩ := h
  have hlen := hB.len
  have hf := hB.fit
  have hm := hB.max
  unfold maxLen at hm
  have hN2 : N ≤ 200 := by omega
  have hnb : -9223372036854775808 ≤ n ∧ n ≤ 9223372036854775807 := bounds_i64 hn
  obtain ⟨n0, n1⟩ := hnb
  have d : decide (200 < (N : Int)) = false := decide_eq_false (by omega)
  have d' : decide (200 < N) = false := decide_eq_false (by omega)
  obtain ⟨m1, hm1⟩ : ∃ m1 : Int, (if (4 : Int) < n then (4 : Int) else n) = m1 := ⟨_, rfl⟩
  obtain ⟨k, hk⟩ : ∃ k : Nat, (if (1 : Int) < m1 then m1 else 1) = (k : Int) := ⟨(if (1 : Int) < m1 then m1 else 1).toNat, by split <;> omega⟩
  have hk1 : 1 ≤ k := by split at hk <;> omega
  have hk4 : k ≤ 4 := by split at hk <;> split at hm1 <;> omega
  have HB := Lib.hid hB
  have HLN := Lib.hid hlen
  obtain ⟨X, hX⟩ : ∃ X : Int, (256 : Int) ^ k = X := ⟨_, rfl⟩
  have HX := Lib.hid hX
  have hXb := pow_bd k hk4
  rw [hX] at hXb
  obtain ⟨X0, X1⟩ := hXb
  clear hB hbig hX hlen
  go_enter Try.func4, Try.ntmps4
  go_wp2_with fail
  clear hm1 hk d d'
  go_loop [6, 7] (fun z i => ∃ (j : Nat) (u : Int), i = .int .i64 j ∧ j ≤ k ∧ z = .int .i64 u ∧ Hid (256 ^ j = u)) (fun _ i => k - (intOf i).toNat)
  case atStart => exact ⟨0, 1, rfl, by omega, rfl, Lib.hid rfl⟩
  case round =>
    obtain ⟨j, u, rfl, hj, rfl, HU⟩ := hrel
    by_cases hlt : j < k
    · have hu : 1 ≤ u ∧ u ≤ 16777216 := by
        rw [← HU.out]
        have e : j = 0 ∨ j = 1 ∨ j = 2 ∨ j = 3 := by omega
        rcases e with rfl | rfl | rfl | rfl <;> decide
      obtain ⟨u0, u1⟩ := hu
      have HU2 : Hid (256 ^ (j + 1) = 256 * u) := Lib.hid (by rw [Int.pow_succ, HU.out, Int.mul_comm])
      clear HU
      go_wp2_with fail
      go_round
      case rel => exact ⟨j + 1, 256 * u, by go_num, by omega, rfl, HU2⟩
      case measure => simp [intOf]; omega
    · have hjk : j = k := by omega
      have huX : u = X := by rw [← HU.out, hjk]; exact HX.out
      subst huX
      clear HU hjk
      have HK0 : Hid (Bk w w l k 0 none 0 0) := Lib.hid ⟨World.ownsRow_nil _ _ _ _, rfl, fun i hi => absurd hi (by omega), Below.refl _ _⟩
      go_wp2_with fail
      clear hlt hj
      go_loopw [8, 9] (fun b i wr => ∃ (j m c : Nat) (A1 : Option Addr), i = .int .i64 j ∧ j ≤ N ∧ b = .slice A1 m c ∧ Hid (Bk w wr l k j A1 m c)) (fun _ i _ => N - (intOf i).toNat)
      case atStart => exact ⟨0, 0, 0, none, rfl, by omega, rfl, HK0⟩
      case round =>
        obtain ⟨j, m, c, A1, rfl, hj, rfl, HK⟩ := hrel
        obtain ⟨A1', c', e1, hmc, hcm⟩ := own_slice HK.out.own
        injection e1 with ea eb ec
        subst ea ec
        clear eb
        unfold maxLen at hcm
        by_cases hlt : j < N
        · have hj200 : j ≤ 200 := by omega
          have hm8 : m ≤ 800 := by
            rw [HK.out.len]
            have := Nat.mul_le_mul hk4 hj200
            omega
          obtain ⟨b0, o0, rfl, _, hbl, hc⟩ := HB.out.lies (by omega)
          have cj : wr.cell? ⟨b0, o0 + j, none⟩ = some (.int .i64 (gI l j)) := (HK.out.bel.cell (p := ⟨b0, o0 + j, none⟩) hbl).trans (hc j hlt)
          have i2 : (j : Int) < (N : Int) := by omega
          clear hc
          by_cases hlow : gI l j < 0
          · obtain ⟨x, hx⟩ : ∃ x, gI l j = x := ⟨_, rfl⟩
            rw [hx] at cj hlow
            clear hx
            have dl : decide (x < 0) = true := decide_eq_true hlow
            have HL := Lib.hid (lives_on HK.out.bel)
            clear HK
            go_wp2_with fail
            refine HL.out.mono ?_
            rintro e w1 ⟨rfl, hb⟩
            go_wp2_with fail
            go_ret
            exact ⟨rfl, hb⟩
          by_cases hhigh : u ≤ gI l j
          · obtain ⟨x, hx⟩ : ∃ x, gI l j = x := ⟨_, rfl⟩
            rw [hx] at cj hlow hhigh
            clear hx
            have dl : decide (x < 0) = false := decide_eq_false hlow
            have dh : decide (u ≤ x) = true := decide_eq_true hhigh
            have HL := Lib.hid (lives_on HK.out.bel)
            clear HK
            go_wp2_with fail
            refine HL.out.mono ?_
            rintro e w1 ⟨rfl, hb⟩
            go_wp2_with fail
            go_ret
            exact ⟨rfl, hb⟩
          have HN := Lib.hid (fun w2 A2 c2 (hG : Gr (Value.slice A1 m c).ownBlock w.heap.size wr w2 A2 (m + k) c2 (rowL k (l.take j) ++ putL k (gI l j))) => HK.out.next (by rw [HLN.out]; exact hlt) (by omega) (by rw [HX.out]; omega) hG)
          have HP := Lib.hid (put_yes w.heap.size A1 m c (rowL k (l.take j)) (k : Nat) k rfl hk1 hk4 (gI l j) wr HK.out.own (by omega) HK.out.bel.size (by omega) (by omega))
          obtain ⟨x, hx⟩ : ∃ x, gI l j = x := ⟨_, rfl⟩
          rw [hx] at cj hlow hhigh HP HN
          clear hx HK
          have dl : decide (x < 0) = false := decide_eq_false hlow
          have dh : decide (u ≤ x) = false := decide_eq_false hhigh
          go_wp2_with fail
          refine HP.out.mono ?_
          rintro e w2 ⟨A2, c2, rfl, hG⟩
          have HK2 := Lib.hid (HN.out w2 A2 c2 hG)
          clear hG HP HN
          go_wp2_with fail
          go_roundw
          case rel => exact ⟨j + 1, m + k, c2, A2, by go_num, by omega, rfl, HK2⟩
          case measure => simp [intOf]; omega
        · have hjN : j = N := by omega
          obtain ⟨bs, hbs⟩ : ∃ bs, rowL k l = bs := ⟨_, rfl⟩
          have HBk := HK.out
          rw [hjN] at HBk
          have hrow : rowL k (l.take N) = bs := by rw [← HLN.out, List.take_length, hbs]
          have hmN := HBk.len
          have hbsl : bs.length = m := by rw [← hbs, rowL_len, HLN.out, hmN]
          have h8 : Byte8 bs := by rw [← hbs]; exact rowL_byte k l
          have hm8 : m ≤ 800 := by
            rw [hmN]
            have := Nat.mul_le_mul hk4 hN2
            omega
          have HV : Hid (∀ i, i < N → leV ((bs.drop (k * i)).take k) = gI l i) := Lib.hid (fun i hi => by
            obtain ⟨f0, f1⟩ := HBk.fits i hi
            rw [← hbs]
            exact rowL_val k l i (by rw [HLN.out]; exact hi) f0 f1)
          have HA : Hid (lstF (numF bs 0 k) N = l) := Lib.hid (by
            rw [← hbs, ← HLN.out]
            exact lstF_all l k fun i hi => HBk.fits i (by rw [← HLN.out]; exact hi))
          have hO := bytes_own HBk.own (by rw [hrow]; exact h8)
          rw [hrow] at hO
          have HO : Hid (BAt8 (fun i => i < wr.heap.size) wr A1 m c bs) := Lib.hid (hO.weak fun i hi _ => hi)
          have HW := Lib.hid HBk.bel
          have HMN := Lib.hid hmN
          have HBL := Lib.hid hbsl
          have hmul : (k : Int) * (N : Int) = (m : Int) := by rw [hmN]; simp
          clear HBk hrow hbs h8 hO hmN hbsl HK hjN
          obtain ⟨wo, rfl⟩ : ∃ wo : World, wo = wr := ⟨_, rfl⟩
          have HR := Lib.hid (open_any _ A1 m c bs wo HO.out (by omega))
          go_wp2_with fail
          clear hlt hj
          refine HR.out.mono ?_
          rintro e w2 ⟨g1, rfl, hg1, hr, hb⟩
          obtain ⟨F1, hF1⟩ : ∃ F1 : Nat → Prop, (fun i => wo.heap.size ≤ i ∧ i < g1) = F1 := ⟨_, rfl⟩
          rw [hF1] at hr
          have hg1w : w.heap.size ≤ g1 := Nat.le_trans HW.out.size hg1
          have hsz2 : w.heap.size ≤ w2.heap.size := Nat.le_trans HW.out.size hb.size
          have HW2 : Hid (Below w.heap.size w w2) := Lib.hid (HW.out.trans (hb.mono HW.out.size))
          have HO2 : Hid (BAt8 (fun i => i < g1) w2 A1 m c bs) := Lib.hid ((HO.out.below hb).weak fun i _ hi => Nat.lt_of_lt_of_le hi hg1)
          have HBW := Lib.hid (fun u (hu : Ch (fun i => i = g1) w2 u) => show Below w.heap.size w u from HW2.out.trans (hu.below (fun i hi => by omega) hsz2))
          have HBB := Lib.hid (fun u (hu : Ch (fun i => i = g1) w2 u) => show BAt8 (fun i => i < g1) u A1 m c bs from HO2.out.ch hu fun i hi => by omega)
          have HCJ := Lib.hid (fun u (hu : Ch (fun i => i = g1) w2 u) => HB.out.below (HBW.out u hu))
          have HR1 := Lib.hid hr
          clear hb hr HR HO HW hg1 HW2 HO2 hF1
          go_wp2_with fail
          go_loopw [11] (fun i wr => ∃ j : Nat, i = .int .i64 j ∧ j ≤ N ∧ Hid (RdAt F1 wr g1 bs (k * j) 0 0 ∧ Ch (fun i => i = g1) w2 wr)) (fun i _ => N - (intOf i).toNat)
          case atStart => exact ⟨0, rfl, by omega, Lib.hid ⟨HR1.out, Ch.refl _ _⟩⟩
          case round =>
            obtain ⟨j, rfl, hj, HI⟩ := hrel
            by_cases hlt : j < N
            · have hkj : k * j + k ≤ bs.length := by
                have h1 : k * (j + 1) ≤ k * N := Nat.mul_le_mul_left k hlt
                have h2 := HMN.out
                have h3 := HBL.out
                rw [Nat.mul_succ] at h1
                omega
              have HK := Lib.hid (read_yes F1 wr.drew g1 bs (k * j) 0 (HI.out.1.below (Below.refl _ _).drew) (by rw [HBL.out]; omega) (k : Nat) k rfl hk1 hk4 hkj _ (HV.out j hlt))
              have HC1 := Lib.hid (HI.out.2.less ((Below.refl _ _).drew))
              obtain ⟨b0, o0, rfl, _, hbl, hc⟩ := HB.out.lies (by omega)
              have HCC := Lib.hid (fun u (hu : Ch (fun i => i = g1) w2 u) => show u.cell? ⟨b0, o0 + j, none⟩ = some (.int .i64 (gI l j)) from ((HBW.out u hu).cell (p := ⟨b0, o0 + j, none⟩) hbl).trans (hc j hlt))
              have c1 := HCC.out _ HI.out.2
              have i2 : (j : Int) < (N : Int) := by omega
              clear hc hkj
              generalize gI l j = x at *
              go_wp2_with fail
              go_region_with (go_at_call 9; refine HK.out.mono ?_; rintro e w3 ⟨rfl, hr3, hc3⟩; have hC3 := HC1.out.then hc3; have c3 := HCC.out _ hC3)
              all_goals
                have HI3 : Hid (RdAt F1 w3 g1 bs (k * (j + 1)) 0 0 ∧ Ch (fun i => i = g1) w2 w3) := Lib.hid ⟨hr3.place (by rw [Nat.mul_succ]), hC3⟩
                clear hr3 hc3 hC3
                go_wp2_with fail
                go_roundw
                case rel => exact ⟨j + 1, by go_num, by omega, HI3⟩
                case measure => simp [intOf]; omega
            · have hjN : j = N := by omega
              obtain ⟨wp, rfl⟩ : ∃ wp : World, wp = wr := ⟨_, rfl⟩
              have hI := HI.out
              rw [hjN] at hI
              have HE := Lib.hid (end_ok F1 wp g1 bs (k * N) 0 hI.1 (by rw [← HMN.out, HBL.out]) (by rw [HBL.out]; omega))
              have HCp := Lib.hid hI.2
              clear hI HI hjN HCJ HR1 HV
              have q1 : ∀ u, (binOp .neq 31 .nilIface .nilIface).run Try.prog u = .ok (.bool false) u := fun _ => rfl
              go_wp2_with fail
              clear hlt hj
              refine HE.out.mono ?_
              rintro e w4 ⟨rfl, n4, rfl⟩
              have HC4 := Lib.hid (HCp.out.drew n4)
              generalize wp.drewN n4 = w4 at *
              clear HE HCp
              have HR2 := Lib.hid (open_any _ A1 m c bs w4 (HBB.out w4 HC4.out) (by omega))
              go_wp2_with fail
              refine HR2.out.mono ?_
              rintro e w5 ⟨g2, rfl, hg2, hr2, hb5⟩
              have hs24 : w2.heap.size ≤ g2 := Nat.le_trans HC4.out.size hg2
              have hlt2 := hr2.lt
              have HC5 := Lib.hid (HC4.out.less (hb5.mono HC4.out.size))
              have HNm := Lib.hid (numbers_yes _ w5 g2 bs 0 0 hr2 (fun i hi => by omega) (by rw [HBL.out]; omega) N k hk1 hk4 (by rw [HBL.out, HMN.out]; omega))
              clear hr2 hb5 HR2 HC4
              go_wp2_with fail
              refine HNm.out.mono ?_
              rintro e w6 ⟨gn, rfl, hgn, hI6, _, hc6⟩
              have HC6 : Hid (Ch (fun i => i = g1) w2 w6) := Lib.hid (HC5.out.trans hc6 fun i hi => Or.inr (by rw [hi]; exact hs24))
              rw [HA.out] at hI6
              have HS := Lib.hid (same_yes _ _ _ A N N cap l w6 hI6 (HB.out.below (HBW.out w6 HC6.out)) (by omega))
              clear hI6 hc6 HNm HC5
              go_wp2_with fail
              refine HS.out.mono ?_
              rintro e w7 ⟨rfl, n7, rfl⟩
              have HC7 := Lib.hid (HC6.out.drew n7)
              generalize w6.drewN n7 = w7 at *
              clear HS HC6
              by_cases h0 : N = 0
              · have d0 : ((N : Int) == 0) = true := by rw [beq_iff_eq]; omega
                have d0' : (N == 0) = true := by rw [beq_iff_eq]; exact h0
                have HL := Lib.hid (lives_on (HBW.out w7 HC7.out))
                go_wp2_with fail
                refine HL.out.mono ?_
                rintro e w8 ⟨rfl, hb⟩
                go_wp2_with fail
                go_ret
                exact ⟨rfl, hb⟩
              · have d0 : ((N : Int) == 0) = false := by rw [beq_eq_false_iff_ne]; omega
                have d0' : (N == 0) = false := by rw [beq_eq_false_iff_ne]; exact h0
                have hmk : k * (N - 1) + k = m := by
                  rw [HMN.out, ← Nat.mul_succ]
                  congr 1; omega
                obtain ⟨P, hP⟩ : ∃ P, k * (N - 1) = P := ⟨_, rfl⟩
                rw [hP] at hmk
                obtain ⟨m', hm'⟩ : ∃ m', m - 1 = m' := ⟨_, rfl⟩
                have hmi : (m : Int) - 1 = (m' : Int) := by omega
                obtain ⟨A9, c9, k9, hC9⟩ := cut_h (HBB.out w7 HC7.out) (m' : Int) m' rfl (by omega)
                have HR9 := Lib.hid (open_any _ A9 m' c9 (bs.take m') w7 hC9 (by omega))
                clear hC9
                obtain ⟨ds, hds⟩ : ∃ ds, bs.take m' = ds := ⟨_, rfl⟩
                have hdl : ds.length = m' := by rw [← hds, List.length_take, HBL.out]; omega
                rw [hds] at HR9
                have HDL := Lib.hid hdl
                have hP800 : P ≤ 800 := by omega
                have hmulP : (k : Int) * ((N : Int) - 1) = (P : Int) := by
                  rw [← hP, show (N : Int) - 1 = ((N - 1 : Nat) : Int) by omega]
                  simp
                have HP := Lib.hid hP
                clear hds hdl hP hm' hmul HBB
                go_wp2_with fail
                refine HR9.out.mono ?_
                rintro e w8 ⟨g3, rfl, hg3, hr8, hb8⟩
                obtain ⟨F3, hF3⟩ : ∃ F3 : Nat → Prop, (fun i => w7.heap.size ≤ i ∧ i < g3) = F3 := ⟨_, rfl⟩
                rw [hF3] at hr8
                have HC8 := Lib.hid (HC7.out.less (hb8.mono HC7.out.size))
                have hs3 : w2.heap.size ≤ g3 := Nat.le_trans HC7.out.size hg3
                have HS0 : Hid (Short F3 w8 g3 ds k N 0) := Lib.hid (Or.inl ⟨by omega, hr8⟩)
                clear hF3 hr8 hb8 HR9 HC7 k9
                go_wp2_with fail
                go_loopw [13] (fun i wr => ∃ j : Nat, i = .int .i64 j ∧ j ≤ N ∧ Hid (Short F3 wr g3 ds k N j ∧ Ch (fun i => i = g3) w8 wr)) (fun i _ => N - (intOf i).toNat)
                case atStart => exact ⟨0, rfl, by omega, Lib.hid ⟨HS0.out, Ch.refl _ _⟩⟩
                case round =>
                  obtain ⟨j, rfl, hj, HI⟩ := hrel
                  by_cases hlt : j < N
                  · have hr : RdAt F3 wr g3 ds (k * j) 0 0 := by
                      rcases HI.out.1 with h | h
                      · exact h.2
                      · omega
                    have HC := Lib.hid HI.out.2
                    by_cases hl : j + 1 = N
                    · have hjP : k * j = P := by rw [← HP.out]; congr 1; omega
                      rw [hjP] at hr
                      have HK := Lib.hid (read_no F3 wr g3 ds P 0 hr (by rw [HDL.out]; omega) (k : Nat) (by omega) (by omega) (by rw [HDL.out]; omega))
                      clear hr HI hjP
                      go_wp2_with fail
                      refine HK.out.mono ?_
                      rintro e w9 ⟨rfl, hr9, hc9⟩
                      have HI9 : Hid (Short F3 w9 g3 ds k N (j + 1) ∧ Ch (fun i => i = g3) w8 w9) := Lib.hid ⟨Or.inr ⟨hl, by rw [HP.out]; exact hr9⟩, HC.out.then hc9⟩
                      clear hr9 hc9 HK HC hl
                      go_wp2_with fail
                      go_roundw
                      case rel => exact ⟨j + 1, by go_num, by omega, HI9⟩
                      case measure => simp [intOf]; omega
                    · have hkj : k * j + k ≤ m' := by
                        have h1 : k * (j + 1) ≤ k * (N - 1) := Nat.mul_le_mul_left k (by omega)
                        have h2 := HP.out
                        rw [Nat.mul_succ] at h1
                        omega
                      have HK := Lib.hid (read_yes F3 wr g3 ds (k * j) 0 hr (by rw [HDL.out]; omega) (k : Nat) k rfl hk1 hk4 (by rw [HDL.out]; exact hkj) _ rfl)
                      clear hr HI hkj
                      go_wp2_with fail
                      refine HK.out.mono ?_
                      rintro e w9 ⟨rfl, hr9, hc9⟩
                      have HI9 : Hid (Short F3 w9 g3 ds k N (j + 1) ∧ Ch (fun i => i = g3) w8 w9) := Lib.hid ⟨Or.inl ⟨by omega, hr9.place (by rw [Nat.mul_succ])⟩, HC.out.then hc9⟩
                      clear hr9 hc9 HK HC hl
                      go_wp2_with fail
                      go_roundw
                      case rel => exact ⟨j + 1, by go_num, by omega, HI9⟩
                      case measure => simp [intOf]; omega
                  · obtain ⟨wq, rfl⟩ : ∃ wq : World, wq = wr := ⟨_, rfl⟩
                    have hr : RdAt F3 wq g3 ds P 2 (P : Int) := by
                      rcases HI.out.1 with h | h
                      · omega
                      · rw [← HP.out]; exact h.2
                    have HCq : Hid (Below w.heap.size w wq) := Lib.hid (HBW.out wq (HC8.out.trans HI.out.2 fun i hi => Or.inr (by rw [hi]; exact hs3)))
                    have HE := Lib.hid (end_bad F3 wq g3 ds P 2 (P : Int) hr (by decide))
                    clear hr HI HS0
                    go_wp2_with fail
                    clear hlt hj
                    refine HE.out.mono ?_
                    rintro e w10 ⟨k10, rfl, hk10, hf10, hb10⟩
                    have HY := Lib.hid (why_any w10 k10 2 (P : Int) hf10)
                    have HC10 := Lib.hid (HCq.out.trans (hb10.mono HCq.out.size))
                    clear hk10 hf10 hb10 HE HCq
                    go_wp2_with fail
                    refine HY.out.mono ?_
                    rintro e w11 ⟨rfl, n11, rfl⟩
                    have HL := Lib.hid (lives_on (bdrawn HC10.out n11))
                    generalize w10.drewN n11 = w11 at *
                    clear HY HC10
                    go_wp2_with fail
                    refine HL.out.mono ?_
                    rintro e w12 ⟨rfl, hb⟩
                    go_wp2_with fail
                    go_ret
                    exact ⟨rfl, hb⟩

end Go.Proofs.Ytliohkgaonnioaa
