/- HuffBack, walked. -/
import Derived.Test.YtpechajekechlaaHuffReads
import Derived.Test.YtpechajekechlaaHuffBackMath
import Derived.Test.YtpechajekechlaaHuffTwo
namespace Go.Proofs.Ytpechajekechlaa
open Go.RowKit

def pw (a r : Nat) : Nat := if r < a then 2 ^ (a - 1 - r) else 0
theorem pw_half (a r : Nat) (h : r < a) : pw a r / 2 = pw a (r + 1) := by
  unfold pw
  rw [if_pos h]
  by_cases c : r + 1 < a
  · rw [if_pos c, show a - 1 - r = (a - 1 - (r + 1)) + 1 by omega, Nat.pow_succ]; omega
  · rw [if_neg c, show a - 1 - r = 0 by omega]
theorem pw_pos (a r : Nat) (h : r < a) : 1 ≤ pw a r := by unfold pw; rw [if_pos h]; exact Nat.one_le_two_pow
theorem pw_le (a r : Nat) (h : a ≤ 15) : pw a r ≤ 16384 := by
  unfold pw; split
  · exact Nat.pow_le_pow_right (show 0 < 2 by decide) (show a - 1 - r ≤ 14 by omega)
  · omega
theorem pw_bit (l : List Int) (s r : Nat) (h : r < lnN l s) : cbF l s r = ((cdN l s / pw (lnN l s) r % 2 : Nat) : Int) := by
  unfold cbF binF pw
  rw [if_pos h]
theorem quo_bit (C P : Nat) (hC : C < 32768) : (wrap64 ((C : Int) / (P : Int))).tmod 2 = ((C / P % 2 : Nat) : Int) := by
  have h := Nat.div_le_self C P
  rw [show (C : Int) / (P : Int) = ((C / P : Nat) : Int) from rfl]
  generalize C / P = q at *
  rw [IntWalk.wrap64_in _ (by omega)]
  rfl
theorem good_not (l : List Int) (x : Int) (h : ¬ good l x) : x < 0 ∨ (0 ≤ x ∧ (l.length : Int) ≤ x) ∨ (0 ≤ x ∧ x < l.length ∧ lnN l x.toNat = 0) := by
  rcases Int.lt_or_le x 0 with c | c
  · exact Or.inl c
  · rcases Int.lt_or_le x l.length with d | d
    · refine Or.inr (Or.inr ⟨c, d, ?_⟩)
      exact Classical.byContradiction fun e => h ⟨c, d, e⟩
    · exact Or.inr (Or.inl ⟨c, d⟩)
theorem put_byte {wr : World} {gB n8 : Nat} {ty : TypeId} {Q : List Int} {p : Nat} (h : Cells wr gB ty n8 (fun j => .int .u8 ((byF Q p j : Nat) : Int))) (v : Int) (hv : v = ((byF Q (p + 1) (p / 8) : Nat) : Int)) :
    Cells (wr.setCell ⟨gB, p / 8, none⟩ (.int .u8 v)).drew gB ty n8 (fun j => .int .u8 ((byF Q (p + 1) j : Nat) : Int)) := by
  subst hv
  refine Cells.block (w := wr.setCell ⟨gB, p / 8, none⟩ (.int .u8 ((byF Q (p + 1) (p / 8) : Nat) : Int))) ((h.set (p / 8) _).congr fun j _ => ?_) rfl
  by_cases c : j = p / 8
  · subst c; rw [upd_same]
  · unfold upd
    rw [if_neg c, byF_other Q p j c]
theorem bytes_of {wr : World} {gB : Nat} {ty : TypeId} {Q : List Int} (hQ : ∀ p, 0 ≤ gI Q p ∧ gI Q p ≤ 1) (h : Cells wr gB ty ((Q.length + 7) / 8) (fun j => .int .u8 ((byF Q Q.length j : Nat) : Int))) (hn : (Q.length + 7) / 8 ≤ 1000000) :
    BAt8 (fun k => k = gB) wr (some ⟨gB, 0, none⟩) ((Q.length + 7) / 8) ((Q.length + 7) / 8) (bytesQ Q) := by
  refine ⟨bytesQ_len Q, Nat.le_refl _, by unfold maxLen; omega, fun h => (by cases h), byte8_of _ fun x hx => ?_, fun _ => ⟨gB, 0, rfl, rfl, h.lt, fun j hj => ?_⟩⟩
  · unfold bytesQ lstF at hx
    obtain ⟨j, _, rfl⟩ := List.mem_map.1 hx
    have := byF_le Q hQ Q.length j
    omega
  · rw [Nat.zero_add, h.cell j hj]
    unfold bytesQ
    rw [gI_lstF _ _ _ hj]
/-- k symbols were read back. -/
structure Re (w wr : World) (gt gb g0 : Nat) (A : Option Addr) (c : Nat) (l W bs : List Int) (k : Nat) : Prop where
  tab : TabAt (fun k => k < gb) wr gt l
  want : IAt (fun k => k < gb) wr A W.length c W
  bits : BitsAt (fun k => g0 ≤ k ∧ k < gb) wr gb bs (posW l W k)
  bel : Below w.heap.size w wr
  b : w.heap.size ≤ gb
theorem Re.keep {w wr wx : World} {gt gb g0 : Nat} {A : Option Addr} {c : Nat} {l W bs : List Int} {k j : Nat} (h : Re w wr gt gb g0 A c l W bs k) (hc : Ch (fun k => k = gb) wr wx) (hb : BitsAt (fun k => g0 ≤ k ∧ k < gb) wx gb bs (posW l W j)) : Re w wx gt gb g0 A c l W bs j :=
  ⟨h.tab.ch hc fun k hk => by omega, h.want.ch hc fun k hk => by omega, hb, h.bel.trans (hc.below (fun k hk => by have := h.b; omega) h.bel.size), h.b⟩
/-- The bits within symbol s. -/
theorem stB_add (l : List Int) (s r : Nat) : lstF (cbF l s) (r + 1) = lstF (cbF l s) r ++ [cbF l s r] := lstF_next _ _
set_option maxRecDepth 100000 in
set_option maxHeartbeats 6400000 in
theorem back_walk (v : Value) (l : List Int) (v2 : Value) (y : List Int) (w : World) (hv : IntsV w v l) (hv2 : IntsV w v2 y) :
    Calls Try.prog 5 #[v, v2] w fun e w' => e = .returned (.bool true) ∧ Below w.heap.size w w' := by
  obtain ⟨A, n, cap, rfl, hI⟩ := hv
  obtain ⟨B, ny, capy, rfl, hJ⟩ := hv2
  have hm := hI.max
  have hf := hI.fit
  have hmb := hJ.max
  have hfb := hJ.fit
  unfold maxLen at hm hmb
  have HL1 := Lib.hid (lives_on w (Below.refl _ _))
  by_cases hbig : 320 < n
  · have d1 : decide ((320 : Int) < (n : Int)) = true := decide_eq_true (by omega)
    clear hI hJ
    go_enter Try.func5, Try.ntmps5
    go_wp2_with fail
    refine HL1.out.mono ?_
    rintro e w1 ⟨rfl, hb⟩
    go_wp2_with fail
    go_ret
    exact ⟨rfl, hb⟩
  have d1 : decide ((320 : Int) < (n : Int)) = false := decide_eq_false (by omega)
  by_cases hbig2 : 60 < ny
  · have d2 : decide ((60 : Int) < (ny : Int)) = true := decide_eq_true (by omega)
    clear hI hJ
    go_enter Try.func5, Try.ntmps5
    go_wp2_with fail
    refine HL1.out.mono ?_
    rintro e w1 ⟨rfl, hb⟩
    go_wp2_with fail
    go_ret
    exact ⟨rfl, hb⟩
  have d2 : decide ((60 : Int) < (ny : Int)) = false := decide_eq_false (by omega)
  obtain ⟨e, he⟩ := Lg.some l
  have H1 := Lib.hid (sound_any A n cap l e w hI he)
  by_cases h0 : e = 0
  · subst h0
    have H2 := Lib.hid (new_any A n cap l 0 w hI he)
    have H3 := Lib.hid (fun u (hu : Below w.heap.size w u) => codes_any A n cap l 0 u (hI.below hu) he)
    have hlen := hI.len
    have hleny := hJ.len
    have HI := Lib.hid hI
    have HJ := Lib.hid hJ
    obtain ⟨h320, hfine, hok⟩ := he.ok
    have HF := Lib.hid hfine
    have HO := Lib.hid hok
    clear hI hJ HL1 he hfine hok
    go_enter Try.func5, Try.ntmps5
    go_wp2_with fail
    refine H1.out.mono ?_
    rintro e1 w' ⟨rfl, rfl⟩
    go_wp2_with fail
    refine H2.out.mono ?_
    rintro e2 w2 ⟨P, rfl, hb2, _, hP⟩
    obtain ⟨gt, rfl, ht⟩ := hP rfl
    have HB2 := Lib.hid hb2
    have HT := Lib.hid ht
    clear hP ht hb2 H2 H1
    go_wp2_with fail
    refine (H3.out w2 HB2.out).mono ?_
    rintro e3 w3 ⟨A3, n3, c3, rfl, hC, hb3⟩
    have hl3 := hC.len
    unfold codesL at hC hl3
    rw [if_pos rfl] at hC hl3
    rw [lstF_len, hlen] at hl3
    subst hl3
    have hf3 := hC.fit
    have hm3 := hC.max
    unfold maxLen at hm3
    have HC := Lib.hid hC
    have HB3 := Lib.hid (HB2.out.trans (hb3.mono HB2.out.size))
    have HT3 := Lib.hid (HT.out.below hb3)
    clear hC hb3 H3 HT
    have HS := Lib.hid (Two.start w3)
    go_wp2_with fail
    go_loopw [9, 10, 11] (fun vb vw i wr => ∃ k : Nat, i = .int .i64 k ∧ k ≤ ny ∧ Hid (Two w3 wr vb vw (stB l y k) (stW l y k))) (fun _ _ i _ => ny - (intOf i).toNat)
    case atStart => exact ⟨0, rfl, by omega, HS⟩
    case round =>
      obtain ⟨k, rfl, hk, HQ⟩ := hrel
      obtain ⟨Ab, cb, rfl, hnb, hmb1⟩ := own_slice HQ.out.o1
      obtain ⟨Aw, cw, rfl, hnw, hmw1⟩ := own_slice HQ.out.o2
      have hlb := stB_len l y HF.out k
      have hlw := stW_len l y k
      unfold maxLen at hmb1 hmw1
      by_cases hlt : k < ny
      · obtain ⟨b, o, rfl, _, hbl, hc⟩ := HJ.out.lies (by omega)
        have c0 := ((HB3.out.trans (HQ.out.bel.mono HB3.out.size)).cell (p := ⟨b, o + k, none⟩) hbl).trans (hc k hlt)
        clear hc
        obtain ⟨x, hx⟩ : ∃ x, gI y k = x := ⟨_, rfl⟩
        rw [hx] at c0
        by_cases hg : good l x
        · have HW : Hid (stW l y (k + 1) = stW l y k ++ [x]) := Lib.hid (by rw [stW, hx, if_pos hg])
          obtain ⟨s, rfl⟩ : ∃ s : Nat, x = (s : Int) := ⟨x.toNat, by have := hg.1; omega⟩
          have HBt : Hid (stB l y (k + 1) = stB l y k ++ cbL l s) := Lib.hid (by rw [stB, hx, if_pos hg, Int.toNat_natCast])
          obtain ⟨_, hs1, hs2⟩ := hg
          rw [Int.toNat_natCast] at hs2
          obtain ⟨bl, ol, rfl, _, hbll, hcl⟩ := HI.out.lies (by omega)
          have hsn : s < n := by omega
          have c1 := ((HB3.out.trans (HQ.out.bel.mono HB3.out.size)).cell (p := ⟨bl, ol + s, none⟩) hbll).trans (hcl s hsn)
          have HCL := Lib.hid (fun u (hu : Below w3.heap.size w3 u) => ((HB3.out.trans (hu.mono HB3.out.size)).cell (p := ⟨bl, ol + s, none⟩) hbll).trans (hcl s hsn))
          obtain ⟨a, ha⟩ : ∃ a, lnN l s = a := ⟨_, rfl⟩
          have h15 := (HF.out.ln s).2
          rw [(HF.out.ln s).1, ha] at c1 HCL
          rw [ha] at h15 hs2
          have d3 : decide ((s : Int) < 0) = false := decide_eq_false (by omega)
          have d4 : decide ((n : Int) ≤ (s : Int)) = false := decide_eq_false (by omega)
          have d4' : decide (n ≤ s) = false := decide_eq_false (by omega)
          have d5 : ((a : Int) == 0) = false := by rw [beq_eq_false_iff_ne]; omega
          clear hcl hx
          generalize hLB : stB l y k = LB at *
          generalize hLW : stW l y k = LW at *
          go_wp2_with (first
            | (at_builtin
               refine wpList_append_two (P := Try.prog) 22 infoI64 Try.underlying22 rfl (.tmp 89) (.tmp 91) rfl _ _ _ _ rfl HQ.out.swap _ rfl (by omega) ?_
               intro g cap4 w4 hT4 hc4 hm4
               have HT4 := Lib.hid hT4.swap
               unfold maxLen at hm4
               clear hT4))
          have c4 := HCL.out w4 HT4.out.bel
          clear c0 c1
          go_loop [13, 14] (fun p j => ∃ q : Nat, j = .int .i64 (q + 1 : Nat) ∧ q < a ∧ p = .int .i64 (2 ^ q : Nat)) (fun _ j => 20 - (intOf j).toNat)
          case atStart => exact ⟨0, rfl, by omega, rfl⟩
          case round =>
            obtain ⟨q, rfl, hq, rfl⟩ := hrel
            have hpw : 2 ^ q ≤ 2 ^ 14 := Nat.pow_le_pow_right (by decide) (by omega)
            obtain ⟨j, hj⟩ : ∃ j, q + 1 = j := ⟨_, rfl⟩
            by_cases hq2 : j < a
            · have HP : Hid (2 ^ (q + 1) = 2 * 2 ^ q) := Lib.hid (by rw [Nat.pow_succ]; omega)
              rw [hj]
              have HJ2 := Lib.hid hj
              have d6 : decide (j < a) = true := decide_eq_true hq2
              generalize 2 ^ q = P at *
              have hj15 : j ≤ 15 := by omega
              clear hj
              go_wp2_with fail
              go_round
              case rel => exact ⟨q + 1, by rw [HJ2.out]; go_num, by have := HJ2.out; omega, by rw [HP.out]; go_num⟩
              case measure => have := HJ2.out; simp [intOf]; omega
            · have HP : Hid (2 ^ q = pw a 0) := Lib.hid (by unfold pw; rw [if_pos (by omega), show a - 1 - 0 = q by omega])
              have d6 : decide (j < a) = false := decide_eq_false hq2
              rw [hj]
              clear hj
              generalize 2 ^ q = P at *
              rw [HP.out]
              go_wp2_with fail
              go_loopw [9, 13] (fun vb p wr => ∃ r : Nat, r ≤ a ∧ p = .int .i64 (pw a r : Nat) ∧ Hid (Two w3 wr vb (.slice (some ⟨g, 0, none⟩) (LW.length + 1) cap4) (LB ++ lstF (cbF l s) r) (LW ++ [(s : Int)]))) (fun _ p _ => (intOf p).toNat)
              case atStart => exact ⟨0, by omega, rfl, Lib.hid (by simpa [lstF] using HT4.out)⟩
              case round =>
                obtain ⟨r, hr, rfl, HR⟩ := hrel
                have hpl := pw_le a r h15
                obtain ⟨A5, c5, rfl, hn5, hm5⟩ := own_slice HR.out.o1
                unfold maxLen at hm5
                by_cases hr2 : r < a
                · have hp1 := pw_pos a r hr2
                  have HH : Hid (pw a r / 2 = pw a (r + 1)) := Lib.hid (pw_half a r hr2)
                  have HZ : Hid (cbF l s r = ((cdN l s / pw a r % 2 : Nat) : Int)) := Lib.hid (by have := pw_bit l s r (by omega); rw [ha] at this; exact this)
                  have hll : (LB ++ lstF (cbF l s) r).length ≤ 1000 := by rw [List.length_append, lstF_len]; omega
                  have HA : Hid (LB ++ lstF (cbF l s) (r + 1) = (LB ++ lstF (cbF l s) r) ++ [cbF l s r]) := Lib.hid (by rw [stB_add, List.append_assoc])
                  obtain ⟨bc, oc, rfl, _, hbc, hcc⟩ := (HC.out.below HR.out.bel).lies (by omega)
                  have cc := hcc s hsn
                  rw [gI_lstF _ _ _ (by omega)] at cc
                  obtain ⟨C, hC⟩ : ∃ C, cdN l s = C := ⟨_, rfl⟩
                  have hCd : codeC (lnN l) l.length s = C := hC
                  have hCs := code_small HO.out s (by omega) (HF.out.ln s).2
                  rw [hCd] at cc hCs
                  rw [ha] at hCs
                  have hC15 : C < 32768 := Nat.lt_of_lt_of_le hCs (Nat.pow_le_pow_right (show 0 < 2 by decide) h15)
                  rw [hC] at HZ
                  clear hcc hC hCd hCs
                  generalize LB ++ lstF (cbF l s) r = LB2 at *
                  generalize pw a r = P2 at *
                  have d7 : decide ((1 : Int) ≤ (P2 : Int)) = true := decide_eq_true (by omega)
                  go_wp2_with (first
                    | (at_builtin
                       refine wpList_append_two (P := Try.prog) 22 infoI64 Try.underlying22 rfl (.tmp 107) (.tmp 115) rfl _ _ _ _ rfl HR.out _ rfl (by omega) ?_
                       intro g6 cap6 w6 hT6 hc6 hm6
                       have HT6 := Lib.hid hT6
                       unfold maxLen at hm6
                       clear hT6))
                  refine ⟨⟨r + 1, by omega, by rw [← HH.out]; go_num, Lib.hid ?_⟩, by simp [intOf]; omega⟩
                  rw [HA.out, HZ.out, ← quo_bit C P2 hC15]
                  exact HT6.out
                · have hp0 : pw a r = 0 := by unfold pw; rw [if_neg hr2]
                  have hra : r = a := by omega
                  have HQ2 : Hid (Two w3 wr (.slice A5 (LB ++ lstF (cbF l s) r).length c5) (.slice (some ⟨g, 0, none⟩) (LW.length + 1) cap4) (stB l y (k + 1)) (stW l y (k + 1))) := Lib.hid (by
                    rw [HBt.out, HW.out]
                    have := HR.out
                    rw [hra, ← ha] at this ⊢
                    exact this)
                  rw [hp0]
                  clear hra
                  go_wp2_with fail
                  go_roundw
                  case rel => exact ⟨k + 1, by go_num, by omega, HQ2⟩
                  case measure => first | (simp [intOf]; done) | (simp [intOf]; omega)
        · have HW : Hid (stW l y (k + 1) = stW l y k) := Lib.hid (by rw [stW, hx, if_neg hg])
          have HBt : Hid (stB l y (k + 1) = stB l y k) := Lib.hid (by rw [stB, hx, if_neg hg])
          have hng := good_not l x hg
          clear hx hg
          rcases hng with h1 | ⟨h1, h2⟩ | ⟨h1, h2, h3⟩
          · have d3 : decide (x < 0) = true := decide_eq_true h1
            go_wp2_with fail
            go_roundw
            case rel => exact ⟨k + 1, by go_num, by omega, by rw [HW.out, HBt.out]; exact HQ⟩
            case measure => first | (simp [intOf]; done) | (simp [intOf]; omega)
          · have d3 : decide (x < 0) = false := decide_eq_false (by omega)
            have d4 : decide ((n : Int) ≤ x) = true := decide_eq_true (by omega)
            go_wp2_with fail
            go_roundw
            case rel => exact ⟨k + 1, by go_num, by omega, by rw [HW.out, HBt.out]; exact HQ⟩
            case measure => first | (simp [intOf]; done) | (simp [intOf]; omega)
          · obtain ⟨s, rfl⟩ : ∃ s : Nat, x = (s : Int) := ⟨x.toNat, by omega⟩
            rw [Int.toNat_natCast] at h3
            obtain ⟨bl, ol, rfl, _, hbll, hcl⟩ := HI.out.lies (by omega)
            have c1 := ((HB3.out.trans (HQ.out.bel.mono HB3.out.size)).cell (p := ⟨bl, ol + s, none⟩) hbll).trans (hcl s (by omega))
            rw [(HF.out.ln s).1, h3] at c1
            have d3 : decide ((s : Int) < 0) = false := decide_eq_false (by omega)
            have d4 : decide ((n : Int) ≤ (s : Int)) = false := decide_eq_false (by omega)
            have d4' : decide (n ≤ s) = false := decide_eq_false (by omega)
            clear hcl h3
            go_wp2_with fail
            go_roundw
            case rel => exact ⟨k + 1, by go_num, by omega, by rw [HW.out, HBt.out]; exact HQ⟩
            case measure => first | (simp [intOf]; done) | (simp [intOf]; omega)
      · obtain rfl : k = ny := by omega
        have HQW : Hid (stB l y k = bitsW l (stW l y k)) := Lib.hid (stB_is l y k)
        have HGW : Hid (∀ x ∈ stW l y k, good l x) := Lib.hid (stW_good l y k)
        generalize stB l y k = Q at *
        generalize stW l y k = W at *
        obtain ⟨n8, hn8'⟩ : ∃ n8, (Q.length + 7) / 8 = n8 := ⟨_, rfl⟩
        have hn8 : ((Q.length : Int) + 7) / 8 = (n8 : Int) := by omega
        obtain ⟨U, mk, hU, hbU⟩ := make_u8s n8 wr (by omega)
        have hgB : w3.heap.size ≤ wr.heap.size := HQ.out.bel.size
        obtain ⟨gB, hgBe⟩ : ∃ g, wr.heap.size = g := ⟨_, rfl⟩
        have HBits := Lib.hid (((ints_own HQ.out.o1).weak (G := fun k => w3.heap.size ≤ k ∧ k < gB) fun k hk h => ⟨h, by omega⟩).below hbU)
        have HWant := Lib.hid (((ints_own HQ.out.o2).weak (G := fun k => w3.heap.size ≤ k ∧ k < gB) fun k hk h => ⟨h, by omega⟩).below hbU)
        have HBU := Lib.hid (HQ.out.bel.trans (hbU.mono hgB))
        rw [hgBe] at mk hU hgB
        have HU : Hid (Cells U gB 5 n8 (fun j => .int .u8 ((byF Q 0 j : Nat) : Int))) := Lib.hid (hU.congr fun j _ => by rw [byF_zero]; rfl)
        clear hbU hU
        go_wp2_with fail
        clear hn8 mk
        go_loopw [16] (fun i wr => ∃ k : Nat, i = .int .i64 k ∧ k ≤ Q.length ∧ Hid (Cells wr gB 5 n8 (fun j => .int .u8 ((byF Q k j : Nat) : Int))) ∧ Hid (Ch (fun k => k = gB) U wr)) (fun i _ => Q.length - (intOf i).toNat)
        case atStart => exact ⟨0, rfl, by omega, HU, Lib.hid (Ch.refl _ _)⟩
        case round =>
          obtain ⟨p, rfl, hp, HP, HK⟩ := hrel
          by_cases hlt2 : p < Q.length
          · have hQ01 : ∀ p, 0 ≤ gI Q p ∧ gI Q p ≤ 1 := by rw [HQW.out]; exact bitsW_le l W
            obtain ⟨i, hi⟩ : ∃ i, p % 8 = i := ⟨_, rfl⟩
            obtain ⟨j, hj⟩ : ∃ j, p / 8 = j := ⟨_, rfl⟩
            have hi1 : (p : Int) % 8 = (i : Int) := by omega
            have hj1 : (p : Int) / 8 = (j : Int) := by omega
            have hi8 : i < 8 := by omega
            have hj8 : j < n8 := by omega
            obtain ⟨x, hx⟩ : ∃ x : Nat, gI Q p = (x : Int) := ⟨(gI Q p).toNat, by have := hQ01 p; omega⟩
            have hx1 : x ≤ 1 := by have := hQ01 p; omega
            obtain ⟨bb, ob, rfl, hbb, _, hcb⟩ := (HBits.out.ch HK.out (fun k hk => by omega)).lies (by omega)
            have c0 := hcb p hlt2
            rw [hx] at c0
            have cB := HP.out.cell j hj8
            have fB := Cells.frozen HP.out j
            have hold := byF_le Q hQ01 p j
            have hnle := byF_le Q hQ01 (p + 1) j
            have HTH : Hid (byF Q (p + 1) j = byF Q p j + x * 2 ^ i) := Lib.hid (by
              have := byF_this Q p
              rw [hi, hj, hx, Int.toNat_natCast] at this
              exact this)
            have HN := Lib.hid (put_byte HP.out)
            rw [hj] at HN
            have ne1 : bb ≠ gB := by omega
            have ne2 : gB ≠ bb := by omega
            clear hcb hi hj hx hQ01
            go_wp2_with fail
            go_loop [17, 18] (fun v t => ∃ q : Nat, t = .int .i64 q ∧ q ≤ i ∧ v = .int .i64 (2 ^ q : Nat)) (fun _ t => i - (intOf t).toNat)
            case atStart => exact ⟨0, rfl, by omega, rfl⟩
            case round =>
              obtain ⟨q, rfl, hq, rfl⟩ := hrel
              have hpw : 2 ^ q ≤ 2 ^ 7 := Nat.pow_le_pow_right (by decide) (by omega)
              by_cases hq2 : q < i
              · have HP2 : Hid (2 ^ (q + 1) = 2 * 2 ^ q) := Lib.hid (by rw [Nat.pow_succ]; omega)
                have d6 : decide (q < i) = true := decide_eq_true hq2
                generalize 2 ^ q = P at *
                go_wp2_with fail
                go_round
                case rel => exact ⟨q + 1, by go_num, by omega, by rw [HP2.out]; go_num⟩
                case measure => first | (simp [intOf]; done) | (simp [intOf]; omega)
              · have hqi : q = i := by omega
                have d6 : decide (q < i) = false := decide_eq_false hq2
                rw [← hqi] at HTH
                generalize 2 ^ q = P at *
                obtain ⟨D, hD⟩ : ∃ D, x * P = D := ⟨_, rfl⟩
                have hDi : (x : Int) * (P : Int) = (D : Int) := by rw [← hD]; simp
                have hD1 : D ≤ 128 := by
                  have h2 := Nat.mul_le_mul hx1 hpw
                  omega
                rw [hD] at HTH
                generalize byF Q p j = old at *
                have hnew : old + D ≤ 255 := by rw [← HTH.out]; exact hnle
                clear hqi hD hnle
                go_wp2_with fail
                go_region
                go_wp2_with fail
                go_roundw
                case rel => exact ⟨p + 1, by go_num, by omega, Lib.hid (HN.out _ (by rw [HTH.out]; omega)), Lib.hid (HK.out.then ((Ch.set (F := fun k => k = gB) _ gB j _ rfl).then (Ch.of_below (bdrawn (Below.refl _ _) 1))))⟩
                case measure => first | (simp [intOf]; done) | (simp [intOf]; omega)
          · obtain rfl : p = Q.length := by omega
            subst hn8'
            have hQ01 : ∀ p, 0 ≤ gI Q p ∧ gI Q p ≤ 1 := by rw [HQW.out]; exact bitsW_le l W
            have hBwr : Below w3.heap.size w3 wr := HBU.out.trans (HK.out.below (fun k hk => by omega) HBU.out.size)
            have HBw := Lib.hid (HB3.out.trans (hBwr.mono HB3.out.size))
            have HTw := Lib.hid ((HT3.out.weak (G := fun k => k < w3.heap.size) fun k hk _ => hk).below hBwr)
            have HWw := Lib.hid (HWant.out.ch HK.out (fun k hk => by omega))
            have HR := Lib.hid (read_any _ _ _ _ _ wr (bytes_of hQ01 HP.out (by omega)) (by omega))
            have hgBl : gB < wr.heap.size := HP.out.lt
            clear hQ01 hBwr
            go_wp2_with fail
            refine HR.out.mono ?_
            rintro e7 w7 ⟨gb, rfl, hg7, hb7, hB7⟩
            have hw3 := HB3.out.size
            have HS7 : Hid (Re w w7 gt gb wr.heap.size Aw cw l W (bytesQ Q) 0) := Lib.hid ⟨(HTw.out.weak (G := fun k => k < gb) fun k hk h => by omega).below hB7,
              (HWw.out.weak (G := fun k => k < gb) fun k hk h => by omega).below hB7, hb7, HBw.out.trans (hB7.mono HBw.out.size), by omega⟩
            clear hg7 hb7 hB7 HR HTw HWw HBw HWant HBits
            obtain ⟨g0, hg0⟩ : ∃ g0, wr.heap.size = g0 := ⟨_, rfl⟩
            rw [hg0] at HS7
            clear hg0
            go_wp2_with fail
            go_loopw [20] (fun i wr => ∃ k : Nat, i = .int .i64 k ∧ k ≤ W.length ∧ Hid (Re w wr gt gb g0 Aw cw l W (bytesQ Q) k)) (fun i _ => W.length - (intOf i).toNat)
            case atStart => exact ⟨0, rfl, by omega, HS7⟩
            case round =>
              obtain ⟨t, rfl, ht, HI7⟩ := hrel
              by_cases hlt3 : t < W.length
              · have hrd := read_sym HF.out HO.out W HGW.out t hlt3
                rw [← HQW.out] at hrd
                obtain ⟨s, hs⟩ : ∃ s : Nat, gI W t = (s : Int) := ⟨(gI W t).toNat, by have := (HGW.out (gI W t) (List.mem_of_getElem? (gI_some W t hlt3))).1; omega⟩
                have hpn := posW_next l W t hlt3
                rw [hs, Int.toNat_natCast] at hrd hpn
                have HN7 := Lib.hid (next_any _ _ gt gb l (bytesQ Q) (posW l W t) wr HI7.out.tab HI7.out.bits (fun k hk => by omega) h320 (by rw [bytesQ_len]; omega))
                rw [hrd] at HN7
                have HPN := Lib.hid hpn
                have HSS := Lib.hid hs
                clear hrd hpn hs
                go_wp2_with fail
                refine HN7.out.mono ?_
                rintro e8 w8 ⟨rfl, hb8, hc8⟩
                have HI8 : Hid (Re w w8 gt gb g0 Aw cw l W (bytesQ Q) (t + 1)) := Lib.hid (HI7.out.keep hc8 (by rw [HPN.out]; exact hb8 rfl))
                obtain ⟨bw, ow, rfl, _, _, hcw⟩ := HI8.out.want.lies (by omega)
                have c8 := hcw t hlt3
                rw [HSS.out] at c8
                clear hb8 hc8 hcw HN7
                go_wp2_with fail
                go_roundw
                case rel => exact ⟨t + 1, by go_num, by omega, HI8⟩
                case measure => first | (simp [intOf]; done) | (simp [intOf]; omega)
              · obtain rfl : t = W.length := by omega
                have hat := at_any _ wr gb _ _ HI7.out.bits (by rw [bytesQ_len]; omega)
                rw [posW_all, ← HQW.out] at hat
                have HAt := Lib.hid hat
                have HB9 := Lib.hid HI7.out.bel
                clear hat
                go_wp2_with fail
                refine HAt.out.mono ?_
                rintro e9 w' ⟨rfl, rfl⟩
                go_wp2_with fail
                refine (lives_on wr HB9.out).mono ?_
                rintro e10 w10 ⟨rfl, hb10⟩
                go_wp2_with fail
                go_ret
                exact ⟨rfl, hb10⟩
  · have he3 : e = 1 ∨ e = 4 := by have := he.cases; omega
    clear hI hJ he
    rcases he3 with rfl | rfl
    all_goals
      go_enter Try.func5, Try.ntmps5
      go_wp2_with fail
      refine H1.out.mono ?_
      rintro e1 w' ⟨rfl, rfl⟩
      go_wp2_with fail
      refine HL1.out.mono ?_
      rintro e w1 ⟨rfl, hb⟩
      go_wp2_with fail
      go_ret
      exact ⟨rfl, hb⟩

end Go.Proofs.Ytpechajekechlaa
