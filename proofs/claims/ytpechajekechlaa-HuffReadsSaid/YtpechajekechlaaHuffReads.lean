/- HuffReads, walked. -/
import Derived.Test.YtpechajekechlaaHuffLaws
import Derived.Test.YtpechajekechlaaHuffRefNext
namespace Go.Proofs.Ytpechajekechlaa
open Go.RowKit

theorem Lg.none {l : List Int} (h : Lg l 0) : ∀ e, Lg l e → e = 0 := fun e he => by
  obtain ⟨h1, h2, h3⟩ := h.ok
  rcases he with ⟨_, h4 | h4⟩ | ⟨_, _, ⟨h4, _⟩ | ⟨_, h5⟩⟩
  · omega
  · exact absurd h2 h4
  · exact h4
  · exact absurd h3 h5
/-- Behind p bits. -/
structure Rd (w wr : World) (gt gb g0 : Nat) (A : Option Addr) (c : Nat) (l bs : List Int) (p : Nat) : Prop where
  tab : TabAt (fun k => k < gb) wr gt l
  tx : TxAt (fun k => k < gb) wr A l.length c l
  bits : BitsAt (fun k => g0 ≤ k ∧ k < gb) wr gb bs p
  bel : Below w.heap.size w wr
  b : w.heap.size ≤ gb
theorem Rd.keep {w wr wx : World} {gt gb g0 : Nat} {A : Option Addr} {c : Nat} {l bs : List Int} {p q : Nat} (h : Rd w wr gt gb g0 A c l bs p) (hc : Ch (fun k => k = gb) wr wx) (hb : BitsAt (fun k => g0 ≤ k ∧ k < gb) wx gb bs q) : Rd w wx gt gb g0 A c l bs q :=
  ⟨h.tab.ch hc fun k hk => by omega, h.tx.ch hc fun k hk => by omega, hb, h.bel.trans (hc.below (fun k hk => by have := h.b; omega) h.bel.size), h.b⟩
theorem Rd.later {w wr wx : World} {gt gb g0 : Nat} {A : Option Addr} {c : Nat} {l bs : List Int} {p : Nat} (h : Rd w wr gt gb g0 A c l bs p) (hb : Below wr.heap.size wr wx) : Rd w wx gt gb g0 A c l bs p := h.keep (Ch.of_below hb) (h.bits.below hb)
theorem bits_tail (bs : List Int) (p n T : Nat) (h : n ≤ T) : (strB (bitsF bs p) T).extract n T = strB (bitsF bs (p + n)) (T - n) := by
  rw [strB_tail _ _ _ h]
  exact strB_congr fun j _ => by unfold bitsF; rw [Nat.add_assoc]
set_option maxRecDepth 100000 in
set_option maxHeartbeats 3200000 in
theorem reads_walk (v : Value) (l : List Int) (v2 : Value) (bs : List Int) (w : World) (hv : IntsV w v l) (hv2 : BytesV w v2 bs) :
    Calls Try.prog 4 #[v, v2] w fun e w' => e = .returned (.bool true) ∧ Below w.heap.size w w' := by
  obtain ⟨A, n, cap, rfl, hI⟩ := hv
  obtain ⟨B, nb, capb, rfl, hJ⟩ := hv2
  have hm := hI.max
  have hf := hI.fit
  have hmb := hJ.max
  have hfb := hJ.fit
  unfold maxLen at hm hmb
  have HL1 := Lib.hid (lives_on w (Below.refl _ _))
  by_cases hbig : 320 < n
  · have d1 : decide ((320 : Int) < (n : Int)) = true := decide_eq_true (by omega)
    clear hI hJ
    go_enter Try.func4, Try.ntmps4
    go_wp2_with fail
    refine HL1.out.mono ?_
    rintro e w1 ⟨rfl, hb⟩
    go_wp2_with fail
    go_ret
    exact ⟨rfl, hb⟩
  have d1 : decide ((320 : Int) < (n : Int)) = false := decide_eq_false (by omega)
  by_cases hbig2 : 60 < nb
  · have d2 : decide ((60 : Int) < (nb : Int)) = true := decide_eq_true (by omega)
    clear hI hJ
    go_enter Try.func4, Try.ntmps4
    go_wp2_with fail
    refine HL1.out.mono ?_
    rintro e w1 ⟨rfl, hb⟩
    go_wp2_with fail
    go_ret
    exact ⟨rfl, hb⟩
  have d2 : decide ((60 : Int) < (nb : Int)) = false := decide_eq_false (by omega)
  obtain ⟨e, he⟩ := Lg.some l
  have H1 := Lib.hid (sound_any A n cap l e w hI he)
  by_cases h0 : e = 0
  · subst h0
    have H2 := Lib.hid (new_any A n cap l 0 w hI he)
    have H3 := Lib.hid (fun u (hu : Below w.heap.size w u) => texts_any A n cap l u (hI.below hu) he)
    have H4 := Lib.hid (fun u (hu : Below w.heap.size w u) => refBits_any _ B nb capb bs u (hJ.below hu) (by omega))
    have H5 := Lib.hid (fun u (hu : Below w.heap.size w u) => read_any _ B nb capb bs u (hJ.below hu) (by omega))
    have hlen := hI.len
    have hlenb := hJ.len
    have HE := Lib.hid he
    have h320 := he.ok.1
    clear hI hJ HL1 he
    go_enter Try.func4, Try.ntmps4
    go_wp2_with fail
    refine H1.out.mono ?_
    rintro e1 w' ⟨rfl, rfl⟩
    go_wp2_with fail
    refine H2.out.mono ?_
    rintro e2 w2 ⟨P, rfl, hb2, _, hP⟩
    obtain ⟨gt, rfl, ht⟩ := hP rfl
    have HB2 := Lib.hid hb2
    have HT := Lib.hid ht
    clear hP ht hb2 H2 H1
    go_wp2_with fail
    refine (H3.out w2 HB2.out).mono ?_
    rintro e3 w3 ⟨A3, n3, c3, rfl, hX, hb3⟩
    have hl3 := hX.len
    rw [hlen] at hl3
    subst hl3
    have hf3 := hX.fit
    have hm3 := hX.max
    unfold maxLen at hm3
    have HX := Lib.hid hX
    have HB3 := Lib.hid (HB2.out.trans (hb3.mono HB2.out.size))
    have HT3 := Lib.hid (HT.out.below hb3)
    clear hX hb3 H3 HT
    go_wp2_with fail
    refine (H4.out w3 HB3.out).mono ?_
    rintro e4 w' ⟨rfl, rfl⟩
    go_wp2_with fail
    refine (H5.out w3 HB3.out).mono ?_
    rintro e5 w5 ⟨gb, rfl, hg5, hbits, hb5⟩
    subst hlenb
    have HS : Hid (Rd w w5 gt gb w3.heap.size A3 c3 l bs 0) := Lib.hid ⟨(HT3.out.weak (G := fun k => k < gb) fun k hk _ => by omega).below hb5,
      by rw [hlen]; exact (HX.out.weak (G := fun k => k < gb) fun k hk _ => by omega).below hb5, hbits, HB3.out.trans (hb5.mono HB3.out.size), by have := HB3.out.size; omega⟩
    clear hg5 hbits hb5 HX HT3 H4 H5
    obtain ⟨g0, hg0⟩ : ∃ g0, w3.heap.size = g0 := ⟨_, rfl⟩
    rw [hg0] at HS
    clear hg0
    go_wp2_with fail
    go_loopw [8, 10] (fun s i wr => ∃ (k p : Nat), i = .int .i64 k ∧ k ≤ 500 ∧ p ≤ 8 * bs.length ∧ s = .string (strB (bitsF bs p) (8 * bs.length - p)) ∧ Hid (Rd w wr gt gb g0 A3 c3 l bs p)) (fun _ i _ => 500 - (intOf i).toNat)
    case atStart =>
      refine ⟨0, 0, rfl, by omega, by omega, ?_, HS⟩
      rw [Nat.sub_zero]
      congr 1
      exact strB_congr fun j _ => by unfold bitsF; rw [Nat.zero_add]
    case round =>
      obtain ⟨k, p, rfl, hk, hp, rfl, HI⟩ := hrel
      by_cases hlt : k < 500
      · have d3 : decide ((k : Int) < 500) = true := decide_eq_true (by omega)
        have H6 := Lib.hid (next_any _ _ gt gb l bs p wr HI.out.tab HI.out.bits (fun k hk => by omega) h320 (by omega))
        obtain ⟨T, hT⟩ : ∃ T, 8 * bs.length - p = T := ⟨_, rfl⟩
        obtain ⟨R, hR⟩ : ∃ R, readR l bs p = R := ⟨_, rfl⟩
        have H7 := Lib.hid (fun u (hu : TxAt (fun k => k < gb) u A3 l.length c3 l) => refNext_any _ A3 l.length c3 l (bitsF bs p) T u R hu HE.out (bitsF_le bs p) (by omega) (by rw [← hT]; exact hR))
        rw [hR] at H6
        rw [hT]
        obtain ⟨s, m, x⟩ := R
        have HT2 := Lib.hid hT
        clear hT hR
        go_wp2_with fail
        refine H6.out.mono ?_
        rintro e6 w6 ⟨rfl, hb6, hc6⟩
        have HB6 := Lib.hid hb6
        have HC6 := Lib.hid hc6
        have HX6 := Lib.hid (HI.out.tx.ch hc6 fun k hk => by omega)
        rw [hlen] at H7 HX6
        clear hb6 hc6 H6
        go_wp2_with fail
        refine (H7.out w6 HX6.out).mono ?_
        rintro e7 w7 ⟨rfl, m7, rfl⟩
        by_cases hx : x = 0
        · subst hx
          have HN := Lib.hid ((HI.out.keep HC6.out (HB6.out rfl)).later (bdrawn (Below.refl _ _) m7))
          have hfit := HN.out.bits.fit
          have hTm : m ≤ T := by have := HT2.out; omega
          have hsz := strB_size (bitsF bs p) T
          have sl := fun u => run_slice_string_l (P := Try.prog) u 9 (strB (bitsF bs p) T) Try.underlying9 .i64 (m : Int) (by omega) (by omega)
          simp only [Int.toNat_natCast, hsz, bits_tail bs p m T hTm] at sl
          have HT3 : Hid (T - m = 8 * bs.length - (p + m)) := Lib.hid (by have := HT2.out; omega)
          have HF : Hid (p + m ≤ 8 * bs.length) := Lib.hid hfit
          clear hfit H7 HX6 HB6 HC6
          go_wp2_with fail
          go_roundw
          case rel => exact ⟨k + 1, p + m, by go_num, by omega, HF.out, by rw [HT3.out], HN⟩
          case measure => first | (simp [intOf]; done) | (simp [intOf]; omega)
        · have d4 : ((x : Int) == 0) = false := by rw [beq_eq_false_iff_ne]; omega
          have HB7 := Lib.hid (bdrawn (HI.out.bel.trans (HC6.out.below (B := w.heap.size) (fun k hk => by have := HI.out.b; omega) HI.out.bel.size)) m7)
          clear H7 HX6 HB6 HC6
          go_wp2_with fail
          refine (lives_on _ HB7.out).mono ?_
          rintro e8 w8 ⟨rfl, hb⟩
          go_wp2_with fail
          go_ret
          exact ⟨rfl, hb⟩
      · have d3 : decide ((k : Int) < 500) = false := decide_eq_false (by omega)
        go_wp2_with fail
        refine (lives_on wr HI.out.bel).mono ?_
        rintro e8 w8 ⟨rfl, hb⟩
        go_wp2_with fail
        go_ret
        exact ⟨rfl, hb⟩
  · have he3 : e = 1 ∨ e = 4 := by have := he.cases; omega
    clear hI hJ he
    rcases he3 with rfl | rfl
    all_goals
      go_enter Try.func4, Try.ntmps4
      go_wp2_with fail
      refine H1.out.mono ?_
      rintro e1 w' ⟨rfl, rfl⟩
      go_wp2_with fail
      refine HL1.out.mono ?_
      rintro e w1 ⟨rfl, hb⟩
      go_wp2_with fail
      go_ret
      exact ⟨rfl, hb⟩

end Go.Proofs.Ytpechajekechlaa
