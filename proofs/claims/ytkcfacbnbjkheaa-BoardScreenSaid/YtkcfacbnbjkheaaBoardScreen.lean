/- The law BoardScreen of layer 11, walked. -/
import Derived.Test.YtkcfacbnbjkheaaBoardScan
import Derived.Test.YtkcfacbnbjkheaaBoardBytes
import Derived.Deep.QuietTactic
import Derived.BigQuiet
import Derived.Deep.DeepCutAuto
namespace Go.Proofs.Ytkcfacbnbjkheaa
open Go.RowKit

theorem below_drawn {B : Nat} {w u : World} (h : Below B w u) (n : Nat) : Below B w (u.drewN n) := h.trans ⟨rfl, rfl, rfl, Nat.le_refl _, fun _ _ => rfl⟩
theorem writeS_rom (s : St) (a : Nat) (v : Int) (h : a < 16384) : writeS s a v = s := if_pos h
/-- The board while the frame goes by. -/
structure Run (w wr : World) (b : Nat) (s : St) (va ve : Value) : Prop where
  at' : BAt wr b b s va ve
  lo : w.heap.size ≤ b
  bel : Below w.heap.size w wr
theorem Run.next {w wr w' : World} {b : Nat} {s s' : St} {va ve : Value} (h : Run w wr b s va ve) (hB : BAt w' b b s' va ve) (hc : Ch (Fb b va ve) wr w') : Run w w' b s' va ve :=
  ⟨hB, h.lo, h.bel.trans (hc.below (fun k hk => Nat.le_trans h.lo (h.at'.fb_lt k hk).1) h.bel.size)⟩

set_option maxRecDepth 20000 in
set_option maxHeartbeats 6400000 in
theorem screen_walk (mp : Option Addr) (ml mc : Nat) (m : Nat → Int) (ph a : Int) (ha : (Lit.int .u16 a).wf = true) (w : World) (hs : SrcAt w mp ml m) (hm : ml ≤ maxLen) :
    Calls Try.prog 4 #[.slice mp ml mc, .int .i64 ph, .int .u16 a] w fun e w' => e = .returned (.bool true) ∧ Below w.heap.size w w' := by
  have hbd := bounds_u16 ha
  have HV := Lib.hid (fun u (hu : Below w.heap.size w u) => (lives11 u).mono (fun e w' hh => show e = .returned (.bool true) ∧ Below w.heap.size w w' from ⟨hh.1, hu.trans (hh.2.mono hu.size)⟩))
  have hm6 : (ml : Int) ≤ 9223372036854775807 := by unfold maxLen at hm; omega
  have HS := Lib.hid hs
  clear ha hs
  by_cases hl : 6912 < ml
  · have hl6 : decide ((6912 : Int) < (ml : Int)) = true := decide_eq_true (by omega)
    clear hl hm hbd
    go_enter Try.func4, Try.ntmps4
    go_wp2_with fail
    refine (HV.out _ (Below.refl _ _)).mono ?_
    rintro e w1 ⟨rfl, hb1⟩
    go_wp2_with fail
    go_ret
    exact ⟨rfl, hb1⟩
  have hl6 : decide ((6912 : Int) < (ml : Int)) = false := decide_eq_false (by omega)
  have hml : ml ≤ 49152 := by omega
  by_cases hp : ph.tmod 5 = 0
  · obtain ⟨q, hq⟩ : ∃ q : Nat, a % 16384 = (q : Int) := ⟨(a % 16384).toNat, by omega⟩
    have hq4 : q < 16384 := by omega
    clear hl hm
    go_enter Try.func4, Try.ntmps4
    go_wp2_with fail
    refine (rom_any 9 w).mono ?_
    rintro e w1 ⟨rfl, hC, hb1⟩
    have HN := Lib.hid (new_any (some ⟨w.heap.size, 0, none⟩) mp 16384 ml mc (fun _ => 9) m ph w1 hC.src (HS.out.below hb1) hml)
    have hs1 := hb1.size
    clear hC HS
    go_wp2_with fail
    refine HN.out.mono ?_
    rintro e w2 ⟨rfl, hB, hb2⟩
    have hb2' := hb1.trans (hb2.mono hb1.size)
    obtain ⟨f0, f1⟩ := frameV_bd ph
    obtain ⟨s, hs⟩ : ∃ s, newS (fun _ => 9) m ml (frameV ph) = s := ⟨_, rfl⟩
    have hf : s.frame = frameV ph := by rw [← hs]; rfl
    have ht : s.t = 0 := by rw [← hs]; rfl
    have hM : s.M q = 9 := by
      rw [← hs]
      show (if q < 16384 then 9 else _) = _
      rw [if_pos hq4]
    rw [hs] at hB
    rw [← hf] at f0 f1
    generalize hbn : w1.heap.size = b at *
    have HW := Lib.hid (write_any b b q 5 s _ _ w2 hB (by omega))
    rw [writeS_rom s q 5 hq4] at HW
    clear HN hf hb1 hs
    go_wp2_with fail
    rw [hq]
    refine HW.out.mono ?_
    rintro e w3 ⟨rfl, va, ve, hB3, hc3, hk3⟩
    have HR3 := Lib.hid (show Run w w3 b s va ve from ⟨hB3, hs1, hb2'.trans (hc3.below (fun k hk => Nat.le_trans hs1 (hB.fb_lt k hk).1) hb2'.size)⟩)
    have HRD := Lib.hid (bread_any b b q s _ _ w3 hB3 (by omega))
    rw [hM] at HRD
    clear HW hB hB3 hc3 hk3 hb2 hb2' hbn
    go_wp2_with fail
    rw [hq]
    refine HRD.out.mono ?_
    rintro e w' ⟨rfl, rfl⟩
    clear HRD
    go_wp2_with fail
    go_loopw [9] (fun i wr => ∃ k : Nat, i = .int .i64 k ∧ k ≤ 69888 ∧ Hid (Run w wr b (itS k s) va ve)) (fun i _ => (69888 - intOf i).toNat)
    case atStart => exact ⟨0, rfl, by omega, HR3⟩
    case round =>
      obtain ⟨k, rfl, hk, HK⟩ := hrel
      by_cases hlt : k < 69888
      · have i1 : decide ((k : Int) < 69888) = true := decide_eq_true (by omega)
        obtain ⟨g0, g1⟩ := frameV_bd (s.frame + k)
        have HX := Lib.hid (next_any b b (itS k s) va ve wr HK.out.at' (by rw [itS_t, ht]; omega) (by rw [itS_t, ht]; omega) (by rw [itS_frame s f0 f1]; exact g0) (by rw [itS_frame s f0 f1]; exact g1))
        clear g0 g1
        go_wp2_with fail
        refine HX.out.mono ?_
        rintro e w4 ⟨rfl, hB4, hc4⟩
        have HN := Lib.hid (show Run w w4 b (itS (k + 1) s) va ve from HK.out.next hB4 hc4)
        clear hB4 hc4 i1
        go_wp2_with fail
        go_roundw
        case rel => exact ⟨k + 1, by go_num, by omega, HN⟩
        case measure => simp [intOf]; omega
      · have i1 : decide ((k : Int) < 69888) = false := decide_eq_false (by omega)
        have hk9 : k = 69888 := by omega
        have HP := Lib.hid (picture_any b b _ va ve wr HK.out.at')
        have hbr := HK.out.bel
        have hM2 := fun (p : Nat) (hp : p < 65536) => HK.out.at'.c_M p hp
        rw [itS_M] at hM2
        have HT := Lib.hid (fun u hB => t_any b b (itS k s) va ve u hB)
        have hkt : (itS k s).t = 69888 := by rw [itS_t, ht, hk9]; rfl
        rw [hkt] at HT
        have HPIC := Lib.hid (fun p hp => show (itS k s).pic p = s.M (placeA p) by rw [hk9]; exact scan_all s f0 f1 p hp)
        have HM2 := Lib.hid hM2
        clear hM2 hkt hk hlt hk9 hq hM
        go_wp2_with fail
        clear i1
        refine HP.out.mono ?_
        rintro e w4 ⟨rfl, hC4, hb4⟩
        have HB4 := Lib.hid (HK.out.at'.below hb4)
        have hb5 : Below w.heap.size w w4 := hbr.trans (hb4.mono hbr.size)
        have HC4 := Lib.hid (fun p (hp : p < 12288) => show w4.cell? ⟨wr.heap.size, p, none⟩ = some (.int .u8 (s.M (placeA p))) by rw [hC4.cell p hp, HPIC.out p hp])
        have HM4 := Lib.hid (fun p (hp : p < 65536) => show w4.cell? ⟨b, p, none⟩ = some (.int .u8 (s.M p)) from by have := HB4.out.c_M p hp; rwa [itS_M] at this)
        generalize wr.heap.size = g at *
        clear hC4 hb4 hbr HP HM2 HPIC HK
        go_wp2_with fail
        go_loopw [11] (fun i wr => ∃ (x : Int) (n : Nat), i = .int .i64 x ∧ 0 ≤ x ∧ x ≤ 192 ∧ wr = w4.drewN n) (fun i _ => (192 - intOf i).toNat)
        case atStart => exact ⟨0, 0, rfl, by omega, by omega, rfl⟩
        case round =>
          obtain ⟨x, n, rfl, x0, x1, rfl⟩ := hrel
          by_cases hx : x < 192
          · have j1 : decide (x < 192) = true := decide_eq_true hx
            go_wp2_with fail
            clear j1
            go_loopw [12] (fun i wr => ∃ (y : Int) (n : Nat), i = .int .i64 y ∧ 0 ≤ y ∧ y ≤ 32 ∧ wr = w4.drewN n) (fun i _ => (32 - intOf i).toNat)
            case atStart => exact ⟨0, n, rfl, by omega, by omega, rfl⟩
            case round =>
              obtain ⟨y, n, rfl, y0, y1, rfl⟩ := hrel
              by_cases hy : y < 32
              · obtain ⟨A, hA⟩ : ∃ A : Nat, 2 * (32 * x + y) = (A : Int) := ⟨(2 * (32 * x + y)).toNat, by omega⟩
                obtain ⟨P, hP⟩ : ∃ P : Nat, 16384 + x / 64 * 2048 + x % 8 * 256 + x / 8 % 8 * 32 + y = (P : Int) := ⟨(16384 + x / 64 * 2048 + x % 8 * 256 + x / 8 % 8 * 32 + y).toNat, by omega⟩
                obtain ⟨Q, hQ⟩ : ∃ Q : Nat, 22528 + x / 8 * 32 + y = (Q : Int) := ⟨(22528 + x / 8 * 32 + y).toNat, by omega⟩
                have c1 := HC4.out A (by omega)
                have c2 := HC4.out (A + 1) (by omega)
                have c3 := HM4.out P (by omega)
                have c4 := HM4.out Q (by omega)
                rw [place_pix x y A P y0 hy hA hP] at c1
                rw [place_col x y A Q y0 hy hA hQ] at c2
                have b1 : (A : Int) + 1 < 12288 := by omega
                have b2 : (P : Int) < 65536 := by omega
                have b3 : (Q : Int) < 65536 := by omega
                generalize s.M P = X at *
                generalize s.M Q = Y at *
                clear HC4 HM4 HB4 HT
                go_wp2_with fail
                go_quiet (fail)
                go_wp2_with fail
                go_roundw
                case rel => exact ⟨y + 1, _, by go_num, by omega, by omega, rfl⟩
                case measure => simp [intOf]; omega
              · obtain rfl : y = 32 := by omega
                go_wp2_with fail
                go_roundw
                case rel => exact ⟨x + 1, n, by go_num, by omega, by omega, rfl⟩
                case measure => simp [intOf]; omega
          · obtain rfl : x = 192 := by omega
            have HT2 := Lib.hid (HT.out (w4.drewN n) (HB4.out.keep fun _ _ => rfl))
            clear HT HB4 HC4 HM4
            go_wp2_with fail
            refine (HT2.out).mono ?_
            rintro e w' ⟨rfl, rfl⟩
            go_wp2_with fail
            refine (HV.out _ (below_drawn hb5 n)).mono ?_
            rintro e w1 ⟨rfl, hb1⟩
            go_wp2_with fail
            go_ret
            exact ⟨rfl, hb1⟩
  · have hp5 : (ph.tmod 5 == 0) = false := by simpa using hp
    have hp6 : (ph.tmod 5 != 0) = true := by simpa using hp
    clear hl hm hbd hp
    go_enter Try.func4, Try.ntmps4
    go_wp2_with fail
    refine (HV.out _ (Below.refl _ _)).mono ?_
    rintro e w1 ⟨rfl, hb1⟩
    go_wp2_with fail
    go_ret
    exact ⟨rfl, hb1⟩

theorem screen_law (v : Value) (l : Bys) (ph a : Int) (_ : (Lit.int .i64 ph).wf = true) (ha : (Lit.int .u16 a).wf = true) (w : World) (h : BytesIn w v l) :
    Calls Try.prog 4 #[v, .int .i64 ph, .int .u16 a] w fun e w' => e = .returned (.bool true) ∧ Below w.heap.size w w' := by
  obtain ⟨rfl, hm, hs⟩ := h
  exact screen_walk l.sp l.n l.c l.f ph a ha w hs hm

end Go.Proofs.Ytkcfacbnbjkheaa
