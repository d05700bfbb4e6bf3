/- Store. -/
import Derived.Test.YtifkldllhbcmkaaDoorInfLives
namespace Go.Proofs.YtifkldllhbcmkaaDoor
open Go.RowKit
set_option linter.unusedVariables false
set_option linter.unusedSimpArgs false

/-- What stands ahead of n stored bytes. -/
def headL (last n : Nat) : List Int := [(last : Int), ((n % 256 : Nat) : Int), ((n / 256 : Nat) : Int), (((65535 - n) % 256 : Nat) : Int), (((65535 - n) / 256 : Nat) : Int)]
def stoR (b : List Int) : List Int := if 65535 < b.length then headL 0 65535 ++ b.take 65535 ++ stoR (b.drop 65535) else headL 1 b.length ++ b
  termination_by b.length
  decreasing_by simp; omega
theorem not_u16 (n : Nat) (h : n < 65536) : bits .xor .u16 65535 (n : Int) = ((65535 - n : Nat) : Int) := by
  rw [show (65535 : Int) = ((65535 : Nat) : Int) from rfl, u16_xor_nat 65535 n (by omega) h, Nat.xor_comm, nat_xor_all n h]
def Owned (base : Nat) (w : World) (xs : List Int) (e : Ending) (w' : World) : Prop := ∃ v', e = .returned v' ∧ w'.ownsRow base 5 1 v' xs.length (xs.map u8I) ∧ Below base w w'
set_option maxHeartbeats 3200000 in
theorem appendStored_own (base : Nat) (F : Nat → Prop) (v : Value) (xs : List Int) (last : Nat) (A : Option Addr) (m cap : Nat) (ys : List Int) (w : World) (hown : w.ownsRow base 5 1 v xs.length (xs.map u8I)) (hy : BAt8 F w A m cap ys) (hF : ∀ k, F k → k < base) (hm : m ≤ 65535) (hlast : last ≤ 1) (hx : xs.length ≤ 1000000) (hbase : base ≤ w.heap.size) :
    Calls Tryd.prog 8 #[v, .int .u8 (last : Nat), .slice A m cap] w (Owned base w (xs ++ (headL last m ++ ys))) := by
  obtain ⟨A1, cap1, rfl, hcap, hmax⟩ := own_slice hown
  have hmax2 := hmax
  unfold maxLen at hmax2
  have hf := hy.fit
  have hmx := hy.max
  unfold maxLen at hmx
  have hw1 : (m : Int) % 65536 = (m : Int) := by omega
  have hx1 : bits .xor .u16 IntKind.u16.max (m : Int) = ((65535 - m : Nat) : Int) := not_u16 m (by omega)
  have HB0 := Lib.hid hbase
  have HO := Lib.hid hown
  obtain ⟨Y, hY⟩ : ∃ Y, 65535 - m = Y := ⟨_, rfl⟩
  have hY1 : Y ≤ 65535 := by omega
  have HN : Hid (∀ Z : Int, Z = (Y : Int) → BAt8 (fun _ => True) (w.alloc (.cells #[.int .u8 (last : Nat), .int .u8 ((m : Int) % 256), .int .u8 ((m : Int) / 256), .int .u8 (Z % 256), .int .u8 (Z / 256 % 256)] 5)) (some ⟨w.heap.size, 0, none⟩) 5 5 (headL last m)) := Lib.hid (fun Z hZ => BAt8.new w (headL last m) 5 (0, 0) _ 5 (by
    unfold headL; rw [hY, hZ, show (Y : Int) / 256 % 256 = (Y : Int) / 256 by omega]; simp) rfl (by unfold maxLen; omega) (by
    unfold headL; rw [hY]
    intro x hx
    simp only [List.mem_cons, List.not_mem_nil, or_false] at hx
    omega))
  rw [hY] at hx1
  have HX := Lib.hid (show bits .xor .u16 (if IntKind.u16.signed = true then -1 else IntKind.u16.max) (m : Int) = (Y : Int) from hx1)
  clear hx1
  have HY := Lib.hid (fun u (hu : Below base w u) => hy.keep hu.size fun k hk hf => hu.block k (hF k hf))
  have HH := Lib.hid (show (headL last m).length = 5 from rfl)
  have HYL := Lib.hid hy.len
  generalize headL last m = hd at *
  clear hown hy hY hbase
  go_enter Tryd.func8, Tryd.ntmps8
  go_wp2_with (first
    | (at_builtin
       refine wpList_append_u8 (P := Tryd.prog) base 5 22 infoB8 Tryd.underlying22 rfl (.tmp 11) (.tmp 25) rfl _ xs.length xs rfl (HO.out.alloc _) rfl (HN.out _ HX.out) (by omega) (by have := HB0.out; simp; omega) ?_
       intro v3 w3 hown3 hb3
       have hbw := ((Below.refl base w).alloc HB0.out _).trans hb3
       have HB3 := Lib.hid hbw
       have HO3 := Lib.hid hown3
       have HY3 := Lib.hid (HY.out w3 hbw)
       obtain ⟨A3, cap3, rfl, hn3, hm3⟩ := own_slice hown3
       clear hown3 hb3 hbw HN HO)
    | (at_builtin
       refine wpList_append_u8 (P := Tryd.prog) base 5 22 infoB8 Tryd.underlying22 rfl (.tmp 27) (.tmp 28) rfl _ (xs.length + 5) (xs ++ hd) rfl HO3.out rfl HY3.out (by omega) (Nat.le_trans HB0.out HB3.out.size) ?_
       intro v4 w4 hown4 hb4
       have HR : Hid (Owned base w (xs ++ (hd ++ ys)) (.returned v4) w4) := Lib.hid ⟨v4, rfl, by
         rw [← List.append_assoc]
         rw [show (xs ++ hd ++ ys).length = xs.length + 5 + m by rw [List.length_append, List.length_append, HH.out, HYL.out]]
         exact hown4, HB3.out.trans hb4⟩
       obtain ⟨A4, cap4, rfl, hn4, hm4⟩ := own_slice hown4
       clear hown4 hb4 HO3 HY3))
  go_ret
  exact HR.out
def lenOf : Value → Nat
  | .slice _ n _ => n
  | _ => 0
theorem stoR_on {b : List Int} (h : 65535 < b.length) : stoR b = headL 0 65535 ++ b.take 65535 ++ stoR (b.drop 65535) := by
  rw [stoR, if_pos h]
theorem stoR_end {b : List Int} (h : ¬ 65535 < b.length) : stoR b = headL 1 b.length ++ b := by
  rw [stoR, if_neg h]
structure StAt (F : Nat → Prop) (w wr : World) (b r o : List Int) (A : Option Addr) (m cap : Nat) (v : Value) : Prop where
  rest : BAt8 F wr A m cap r
  own : wr.ownsRow w.heap.size 5 1 v o.length (o.map u8I)
  bel : Below w.heap.size w wr
  is : o ++ stoR r = stoR b
  le : o.length + 2 * r.length ≤ 200000
set_option maxRecDepth 100000 in
set_option maxHeartbeats 1600000 in
theorem store_any (F : Nat → Prop) (A : Option Addr) (n cap : Nat) (b : List Int) (w : World) (hl : BAt8 F w A n cap b) (hF : ∀ k, F k → k < w.heap.size) (hn : n ≤ 100000) :
    Calls Tryd.prog 6 #[.slice A n cap] w (Owned w.heap.size w (stoR b)) := by
  have HS : Hid (StAt F w w b b [] A n cap (.slice none 0 0)) := Lib.hid ⟨hl, World.ownsRow_nil _ _ _ _, Below.refl _ _, rfl, by have := hl.len; simp; omega⟩
  have hFH := Lib.hid hF
  clear hl hF
  go_enter Tryd.func6, Tryd.ntmps6
  go_wp2_with fail
  go_loopw [0, 3] (fun vb vo wr => ∃ (A : Option Addr) (m cap : Nat) (r o : List Int), vb = .slice A m cap ∧ Hid (StAt F w wr b r o A m cap vo)) (fun vb _ _ => lenOf vb)
  case atStart => exact ⟨A, n, cap, b, [], rfl, HS⟩
  case round =>
    obtain ⟨A', m, cap', r, o, rfl, HX⟩ := hrel
    have hm := HX.out.rest.len
    have hf := HX.out.rest.fit
    have hmx := HX.out.rest.max
    unfold maxLen at hmx
    have hle := HX.out.le
    by_cases hbig : 65535 < m
    · have d1 : decide ((65535 : Int) < (m : Int)) = true := decide_eq_true (by omega)
      obtain ⟨M, hM⟩ : ∃ M : Nat, M = 65535 := ⟨_, rfl⟩
      have hMi : (65535 : Int) = (M : Int) := by omega
      obtain ⟨A1, c1, k1, B1⟩ := cut_h HX.out.rest (65535 : Int) M hMi (by omega)
      have H1 := Lib.hid (show Calls Tryd.prog 8 #[_, .int .u8 0, .slice A1 M c1] wr _ from appendStored_own w.heap.size F _ o 0 A1 M c1 (r.take M) wr HX.out.own B1 hFH.out (by omega) (by omega) (by omega) HX.out.bel.size)
      obtain ⟨A2, c2, k2, B2⟩ := cut_l HX.out.rest (65535 : Int) M hMi (by omega)
      have HN := Lib.hid (fun (u : World) v (ho : u.ownsRow w.heap.size 5 1 v (o ++ (headL 0 M ++ r.take M)).length ((o ++ (headL 0 M ++ r.take M)).map u8I)) (hb : Below w.heap.size wr u) =>
        show StAt F w u b (r.drop M) (o ++ (headL 0 M ++ r.take M)) A2 (m - M) c2 v from ⟨B2.keep hb.size fun k hk hf => hb.block k (hFH.out k hf), ho, HX.out.bel.trans hb, by
          have h := HX.out.is
          rw [stoR_on (b := r) (by omega)] at h
          rw [← h, hM]
          simp only [List.append_assoc], by
          simp only [List.length_append, List.length_take, List.length_drop, headL, List.length_cons, List.length_nil]
          omega⟩)
      have hmM : Hid (m - M < m) := Lib.hid (by omega)
      clear B1 B2 HX hM hMi hle hm
      go_wp2_with fail
      refine H1.out.mono ?_
      rintro e w2 ⟨v2, rfl, ho2, hb2⟩
      have HN2 := Lib.hid (HN.out w2 v2 ho2 hb2)
      clear ho2 hb2 H1 HN
      go_wp2_with fail
      go_roundw
      case rel => exact ⟨A2, m - M, c2, _, _, rfl, HN2⟩
      case measure => exact hmM.out
    · have d1 : decide ((65535 : Int) < (m : Int)) = false := decide_eq_false (by omega)
      have H1 := Lib.hid (show Calls Tryd.prog 8 #[_, .int .u8 1, .slice A' m cap'] wr _ from appendStored_own w.heap.size F _ o 1 A' m cap' r wr HX.out.own HX.out.rest hFH.out (by omega) (by omega) (by omega) HX.out.bel.size)
      have hst : o ++ (headL 1 m ++ r) = stoR b := by
        have h := HX.out.is
        rw [stoR_end (b := r) (by omega), hm] at h
        exact h
      rw [hst] at H1
      have HB := Lib.hid HX.out.bel
      clear HX hst hle hm
      go_wp2_with fail
      refine H1.out.mono ?_
      rintro e w2 ⟨v2, rfl, ho2, hb2⟩
      have HR : Hid (Owned w.heap.size w (stoR b) (.returned v2) w2) := Lib.hid ⟨v2, rfl, ho2, HB.out.trans hb2⟩
      clear ho2 hb2 H1
      go_wp2_with fail
      go_ret
      exact HR.out

end Go.Proofs.YtifkldllhbcmkaaDoor
