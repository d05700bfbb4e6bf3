/- The document's answers for layer 2: their contracts. -/
import Derived.Test.YtndnadcmekjmnaaAluMath
import Derived.Test.YtndnadcmekjmnaaFlagRef
import Derived.Deep.RegionHeld3
namespace Go.Proofs.Ytndnadcmekjmnaa
open Go.RowKit

/-- The contracts of the document's Bit, Even and Flags where a region draws its order: what was so of the world stays so. -/
theorem bit_held {S : World → Prop} (hS : ∀ w w', S w → Below w.heap.size w w' → S w') (b k : Int) (w : World) (h0 : 0 ≤ b) (h1 : b ≤ 255) (k0 : 0 ≤ k) (k7 : k ≤ 7) (h : S w) :
    Calls Try.prog 35 #[.int .u8 b, .int .i64 k] w fun e w' => e = .returned (.bool (bitN b (7 - k.toNat))) ∧ S w' :=
  (bit_any b k w h0 h1 k0 k7).mono fun _ _ ⟨he, hb⟩ => ⟨he, hS _ _ h hb⟩
theorem refEven_held {S : World → Prop} (hS : ∀ w w', S w → Below w.heap.size w w' → S w') (b : Int) (w : World) (h0 : 0 ≤ b) (h1 : b ≤ 255) (h : S w) :
    Calls Try.prog 49 #[.int .u8 b] w fun e w' => e = .returned (.bool (evenB b)) ∧ S w' :=
  (refEven_any b w h0 h1).mono fun _ _ ⟨he, hb⟩ => ⟨he, hS _ _ h hb⟩
theorem flags_held {S : World → Prop} (hS : ∀ w w', S w → Below w.heap.size w w' → S w') (s z y h x p n c : Bool) (w : World) (hw : S w) :
    Calls Try.prog 44 #[.bool s, .bool z, .bool y, .bool h, .bool x, .bool p, .bool n, .bool c] w fun e w' => e = .returned (.int .u8 (flagsOf s z y h x p n c)) ∧ S w' :=
  (flags_any s z y h x p n c w).mono fun _ _ ⟨he, hb⟩ => ⟨he, hS _ _ hw hb⟩
theorem flags_is (s z y h x p n c : Bool) (r : Int) (w : World) (e : flagsOf s z y h x p n c = r) :
    Calls Try.prog 44 #[.bool s, .bool z, .bool y, .bool h, .bool x, .bool p, .bool n, .bool c] w fun e w' => e = .returned (.int .u8 r) ∧ Below w.heap.size w w' := by
  subst e; exact flags_any s z y h x p n c w

set_option maxHeartbeats 400000 in
theorem signed_any (a : Int) (w : World) (h0 : 0 ≤ a) (h1 : a ≤ 255) : Calls Try.prog 42 #[.int .u8 a] w fun e w' => e = .returned (.int .i64 (sgn a)) ∧ w = w' := by
  unfold sgn
  by_cases h : 128 ≤ a
  · go_enter Try.func42, Try.ntmps42
    go_wp2_with fail
    go_ret
    exact ⟨by simp, rfl⟩
  · have hd : decide (128 ≤ a) = false := decide_eq_false h
    go_enter Try.func42, Try.ntmps42
    go_wp2_with fail
    go_ret
    exact ⟨by simp, rfl⟩
set_option maxHeartbeats 400000 in
theorem mod_any (n : Int) (w : World) (h0 : -512 ≤ n) (h1 : n ≤ 1000) : Calls Try.prog 43 #[.int .i64 n] w fun e w' => e = .returned (.int .u8 (n % 256)) ∧ w = w' := by
  have he := Lib.hid (show (n + 512) % 256 = n % 256 by omega)
  go_enter Try.func43, Try.ntmps43
  have he := he.out
  go_wp2_with fail
  go_ret
  exact ⟨rfl, rfl⟩
theorem mod_eq (n r : Int) (w : World) (h0 : -512 ≤ n) (h1 : n ≤ 1000) (h : n % 256 = r) : Calls Try.prog 43 #[.int .i64 n] w fun e w' => e = .returned (.int .u8 r) ∧ w = w' := by
  subst h; exact mod_any n w h0 h1
set_option maxHeartbeats 400000 in
theorem carry_any (c : Bool) (w : World) : Calls Try.prog 41 #[.bool c] w fun e w' => e = .returned (.int .i64 (cN c)) ∧ w = w' := by
  cases c
  all_goals
    go_enter Try.func41, Try.ntmps41
    go_wp2_with fail
    go_ret
    exact ⟨rfl, rfl⟩

set_option maxHeartbeats 800000 in
theorem mix_any (f b : Int) (w : World) (f0 : 0 ≤ f) (f1 : f ≤ 255) (b0 : 0 ≤ b) (b1 : b ≤ 255) :
    Calls Try.prog 15 #[.int .u8 f, .int .u8 b] w fun e w' => e = .returned (.int .u8 (mixF f b)) ∧ Below w.heap.size w w' := by
  go_enter Try.func15, Try.ntmps15
  go_wp2_with fail
  refine (bits_any _ _ f0 f1).mono ?_
  rintro e w1 ⟨v, rfl, hv, hb1⟩
  obtain ⟨g, cap, rfl, hg, hc, hm, hcell⟩ := bits_cells hv
  have hst : ∀ u u' : World, (fun w' => (w'.cell? ⟨g, 0, none⟩ = some (.bool (bitN f 0)) ∧ w'.cell? ⟨g, 1, none⟩ = some (.bool (bitN f 1)) ∧ w'.cell? ⟨g, 3, none⟩ = some (.bool (bitN f 3)) ∧ w'.cell? ⟨g, 5, none⟩ = some (.bool (bitN f 5)) ∧ w'.cell? ⟨g, 6, none⟩ = some (.bool (bitN f 6)) ∧ w'.cell? ⟨g, 7, none⟩ = some (.bool (bitN f 7))) ∧ (g < w'.heap.size) ∧ Below w1.heap.size w1 w') u → Below u.heap.size u u' → (fun w' => (w'.cell? ⟨g, 0, none⟩ = some (.bool (bitN f 0)) ∧ w'.cell? ⟨g, 1, none⟩ = some (.bool (bitN f 1)) ∧ w'.cell? ⟨g, 3, none⟩ = some (.bool (bitN f 3)) ∧ w'.cell? ⟨g, 5, none⟩ = some (.bool (bitN f 5)) ∧ w'.cell? ⟨g, 6, none⟩ = some (.bool (bitN f 6)) ∧ w'.cell? ⟨g, 7, none⟩ = some (.bool (bitN f 7))) ∧ (g < w'.heap.size) ∧ Below w1.heap.size w1 w') u' := by
    rintro u u' ⟨⟨c0, c1, c2, c3, c4, c5⟩, kg, hB⟩ hb
    exact ⟨⟨(hb.cell kg).trans c0, (hb.cell kg).trans c1, (hb.cell kg).trans c2, (hb.cell kg).trans c3, (hb.cell kg).trans c4, (hb.cell kg).trans c5⟩, Nat.lt_of_lt_of_le kg hb.size, below_step hB hb⟩
  have hS0 : (fun w' => (w'.cell? ⟨g, 0, none⟩ = some (.bool (bitN f 0)) ∧ w'.cell? ⟨g, 1, none⟩ = some (.bool (bitN f 1)) ∧ w'.cell? ⟨g, 3, none⟩ = some (.bool (bitN f 3)) ∧ w'.cell? ⟨g, 5, none⟩ = some (.bool (bitN f 5)) ∧ w'.cell? ⟨g, 6, none⟩ = some (.bool (bitN f 6)) ∧ w'.cell? ⟨g, 7, none⟩ = some (.bool (bitN f 7))) ∧ (g < w'.heap.size) ∧ Below w1.heap.size w1 w') w1.drew := ⟨⟨hcell 0 (by decide), hcell 1 (by decide), hcell 3 (by decide), hcell 5 (by decide), hcell 6 (by decide), hcell 7 (by decide)⟩, hg, (Below.refl _ _).drew⟩
  have HST := Lib.hid hst
  clear hst hcell hv
  go_wp2_with fail
  go_region_held3 (fun w' => (w'.cell? ⟨g, 0, none⟩ = some (.bool (bitN f 0)) ∧ w'.cell? ⟨g, 1, none⟩ = some (.bool (bitN f 1)) ∧ w'.cell? ⟨g, 3, none⟩ = some (.bool (bitN f 3)) ∧ w'.cell? ⟨g, 5, none⟩ = some (.bool (bitN f 5)) ∧ w'.cell? ⟨g, 6, none⟩ = some (.bool (bitN f 6)) ∧ w'.cell? ⟨g, 7, none⟩ = some (.bool (bitN f 7))) ∧ (g < w'.heap.size) ∧ Below w1.heap.size w1 w') (assumption) (first | (go_at_call 35; refine (bit_held HST.out _ _ _ b0 b1 (by decide) (by decide) (by assumption)).mono ?_; rintro e w' ⟨rfl, hSB⟩) | (go_at_call 44; refine (flags_held HST.out _ _ _ _ _ _ _ _ _ (by assumption)).mono ?_; rintro e w' ⟨rfl, hSF⟩))
  go_wp2_with fail
  go_ret
  exact ⟨rfl, below_step hb1 hSF.2.2⟩
  
set_option maxHeartbeats 800000 in
theorem keep_any (f b : Int) (w : World) (f0 : 0 ≤ f) (f1 : f ≤ 255) (b0 : 0 ≤ b) (b1 : b ≤ 255) :
    Calls Try.prog 30 #[.int .u8 f, .int .u8 b] w fun e w' => e = .returned (.int .u8 (keepF f b)) ∧ Below w.heap.size w w' := by
  go_enter Try.func30, Try.ntmps30
  go_wp2_with fail
  refine (bits_any _ _ f0 f1).mono ?_
  rintro e w1 ⟨v, rfl, hv, hb1⟩
  obtain ⟨g, cap, rfl, hg, hc, hm, hcell⟩ := bits_cells hv
  have hst : ∀ u u' : World, (fun w' => (w'.cell? ⟨g, 0, none⟩ = some (.bool (bitN f 0)) ∧ w'.cell? ⟨g, 1, none⟩ = some (.bool (bitN f 1)) ∧ w'.cell? ⟨g, 2, none⟩ = some (.bool (bitN f 2)) ∧ w'.cell? ⟨g, 3, none⟩ = some (.bool (bitN f 3)) ∧ w'.cell? ⟨g, 4, none⟩ = some (.bool (bitN f 4)) ∧ w'.cell? ⟨g, 5, none⟩ = some (.bool (bitN f 5)) ∧ w'.cell? ⟨g, 6, none⟩ = some (.bool (bitN f 6))) ∧ (g < w'.heap.size) ∧ Below w1.heap.size w1 w') u → Below u.heap.size u u' → (fun w' => (w'.cell? ⟨g, 0, none⟩ = some (.bool (bitN f 0)) ∧ w'.cell? ⟨g, 1, none⟩ = some (.bool (bitN f 1)) ∧ w'.cell? ⟨g, 2, none⟩ = some (.bool (bitN f 2)) ∧ w'.cell? ⟨g, 3, none⟩ = some (.bool (bitN f 3)) ∧ w'.cell? ⟨g, 4, none⟩ = some (.bool (bitN f 4)) ∧ w'.cell? ⟨g, 5, none⟩ = some (.bool (bitN f 5)) ∧ w'.cell? ⟨g, 6, none⟩ = some (.bool (bitN f 6))) ∧ (g < w'.heap.size) ∧ Below w1.heap.size w1 w') u' := by
    rintro u u' ⟨⟨c0, c1, c2, c3, c4, c5, c6⟩, kg, hB⟩ hb
    exact ⟨⟨(hb.cell kg).trans c0, (hb.cell kg).trans c1, (hb.cell kg).trans c2, (hb.cell kg).trans c3, (hb.cell kg).trans c4, (hb.cell kg).trans c5, (hb.cell kg).trans c6⟩, Nat.lt_of_lt_of_le kg hb.size, below_step hB hb⟩
  have hS0 : (fun w' => (w'.cell? ⟨g, 0, none⟩ = some (.bool (bitN f 0)) ∧ w'.cell? ⟨g, 1, none⟩ = some (.bool (bitN f 1)) ∧ w'.cell? ⟨g, 2, none⟩ = some (.bool (bitN f 2)) ∧ w'.cell? ⟨g, 3, none⟩ = some (.bool (bitN f 3)) ∧ w'.cell? ⟨g, 4, none⟩ = some (.bool (bitN f 4)) ∧ w'.cell? ⟨g, 5, none⟩ = some (.bool (bitN f 5)) ∧ w'.cell? ⟨g, 6, none⟩ = some (.bool (bitN f 6))) ∧ (g < w'.heap.size) ∧ Below w1.heap.size w1 w') w1.drew := ⟨⟨hcell 0 (by decide), hcell 1 (by decide), hcell 2 (by decide), hcell 3 (by decide), hcell 4 (by decide), hcell 5 (by decide), hcell 6 (by decide)⟩, hg, (Below.refl _ _).drew⟩
  have HST := Lib.hid hst
  clear hst hcell hv
  go_wp2_with fail
  go_region_held3 (fun w' => (w'.cell? ⟨g, 0, none⟩ = some (.bool (bitN f 0)) ∧ w'.cell? ⟨g, 1, none⟩ = some (.bool (bitN f 1)) ∧ w'.cell? ⟨g, 2, none⟩ = some (.bool (bitN f 2)) ∧ w'.cell? ⟨g, 3, none⟩ = some (.bool (bitN f 3)) ∧ w'.cell? ⟨g, 4, none⟩ = some (.bool (bitN f 4)) ∧ w'.cell? ⟨g, 5, none⟩ = some (.bool (bitN f 5)) ∧ w'.cell? ⟨g, 6, none⟩ = some (.bool (bitN f 6))) ∧ (g < w'.heap.size) ∧ Below w1.heap.size w1 w') (assumption) (first | (go_at_call 35; refine (bit_held HST.out _ _ _ b0 b1 (by decide) (by decide) (by assumption)).mono ?_; rintro e w' ⟨rfl, hSB⟩) | (go_at_call 44; refine (flags_held HST.out _ _ _ _ _ _ _ _ _ (by assumption)).mono ?_; rintro e w' ⟨rfl, hSF⟩))
  go_wp2_with fail
  go_ret
  exact ⟨rfl, below_step hb1 hSF.2.2⟩
  
set_option maxHeartbeats 800000 in
theorem refCpl_any (a f : Int) (w : World) (a0 : 0 ≤ a) (a1 : a ≤ 255) (f0 : 0 ≤ f) (f1 : f ≤ 255) :
    Calls Try.prog 28 #[.int .u8 a, .int .u8 f] w fun e w' => e = .returned (.tuple #[.int .u8 (255 - a), .int .u8 (cplF a f)]) ∧ Below w.heap.size w w' := by
  have r0 : 0 ≤ 255 - a := by omega
  have r1 : 255 - a ≤ 255 := by omega
  go_enter Try.func28, Try.ntmps28
  go_wp2_with fail
  refine (bits_any _ _ f0 f1).mono ?_
  rintro e w1 ⟨v, rfl, hv, hb1⟩
  obtain ⟨g, cap, rfl, hg, hc, hm, hcell⟩ := bits_cells hv
  have hst : ∀ u u' : World, (fun w' => (w'.cell? ⟨g, 0, none⟩ = some (.bool (bitN f 0)) ∧ w'.cell? ⟨g, 1, none⟩ = some (.bool (bitN f 1)) ∧ w'.cell? ⟨g, 5, none⟩ = some (.bool (bitN f 5)) ∧ w'.cell? ⟨g, 7, none⟩ = some (.bool (bitN f 7))) ∧ (g < w'.heap.size) ∧ Below w1.heap.size w1 w') u → Below u.heap.size u u' → (fun w' => (w'.cell? ⟨g, 0, none⟩ = some (.bool (bitN f 0)) ∧ w'.cell? ⟨g, 1, none⟩ = some (.bool (bitN f 1)) ∧ w'.cell? ⟨g, 5, none⟩ = some (.bool (bitN f 5)) ∧ w'.cell? ⟨g, 7, none⟩ = some (.bool (bitN f 7))) ∧ (g < w'.heap.size) ∧ Below w1.heap.size w1 w') u' := by
    rintro u u' ⟨⟨c0, c1, c2, c3⟩, kg, hB⟩ hb
    exact ⟨⟨(hb.cell kg).trans c0, (hb.cell kg).trans c1, (hb.cell kg).trans c2, (hb.cell kg).trans c3⟩, Nat.lt_of_lt_of_le kg hb.size, below_step hB hb⟩
  have hS0 : (fun w' => (w'.cell? ⟨g, 0, none⟩ = some (.bool (bitN f 0)) ∧ w'.cell? ⟨g, 1, none⟩ = some (.bool (bitN f 1)) ∧ w'.cell? ⟨g, 5, none⟩ = some (.bool (bitN f 5)) ∧ w'.cell? ⟨g, 7, none⟩ = some (.bool (bitN f 7))) ∧ (g < w'.heap.size) ∧ Below w1.heap.size w1 w') w1.drew := ⟨⟨hcell 0 (by decide), hcell 1 (by decide), hcell 5 (by decide), hcell 7 (by decide)⟩, hg, (Below.refl _ _).drew⟩
  have HST := Lib.hid hst
  clear hst hcell hv
  go_wp2_with fail
  go_region_held3 (fun w' => (w'.cell? ⟨g, 0, none⟩ = some (.bool (bitN f 0)) ∧ w'.cell? ⟨g, 1, none⟩ = some (.bool (bitN f 1)) ∧ w'.cell? ⟨g, 5, none⟩ = some (.bool (bitN f 5)) ∧ w'.cell? ⟨g, 7, none⟩ = some (.bool (bitN f 7))) ∧ (g < w'.heap.size) ∧ Below w1.heap.size w1 w') (assumption) (first | (go_at_call 35; refine (bit_held HST.out _ _ _ r0 r1 (by decide) (by decide) (by assumption)).mono ?_; rintro e w' ⟨rfl, hSB⟩) | (go_at_call 44; refine (flags_held HST.out _ _ _ _ _ _ _ _ _ (by assumption)).mono ?_; rintro e w' ⟨rfl, hSF⟩))
  go_wp2_with fail
  go_ret2
  exact ⟨rfl, below_step hb1 hSF.2.2⟩
  
theorem refAdd_flags (a b : Int) (c p : Bool) (hp : p = outB (sgn a + sgn b + cN c)) :
    flagsOf (bitN (addR a b c) 0) (addR a b c == 0) (bitN (addR a b c) 2) (decide (16 ≤ a % 16 + b % 16 + cN c)) (bitN (addR a b c) 4) p false (decide (256 ≤ a + b + cN c)) = addF a b c := by
  subst hp
  unfold addF
  rw [show decide (16 ≤ a % 16 + b % 16 + cN c) = decide (15 < a % 16 + b % 16 + cN c) by simp only [decide_eq_decide]; omega, show decide (256 ≤ a + b + cN c) = decide (255 < a + b + cN c) by simp only [decide_eq_decide]; omega]
set_option maxHeartbeats 800000 in
theorem refAdd_any (a b : Int) (c : Bool) (w : World) (a0 : 0 ≤ a) (a1 : a ≤ 255) (b0 : 0 ≤ b) (b1 : b ≤ 255) :
    Calls Try.prog 12 #[.int .u8 a, .int .u8 b, .bool c] w fun e w' => e = .returned (.tuple #[.int .u8 (addR a b c), .int .u8 (addF a b c)]) ∧ Below w.heap.size w w' := by
  obtain ⟨c0, c1⟩ := cN_bd c
  obtain ⟨s0, s1⟩ := sgn_bd a a0 a1
  obtain ⟨t0, t1⟩ := sgn_bd b b0 b1
  obtain ⟨r0, r1⟩ := addR_bd a b c
  by_cases hs : sgn a + sgn b + cN c < -128
  · have HF := Lib.hid (refAdd_flags a b c true (by simp [outB, hs]))
    go_enter Try.func12, Try.ntmps12
    go_wp2_with fail
    refine (carry_any _ _).mono ?_
    rintro e w' ⟨rfl, rfl⟩
    go_wp2_with fail
    refine (signed_any _ _ a0 a1).mono ?_
    rintro e w' ⟨rfl, rfl⟩
    go_wp2_with fail
    refine (signed_any _ _ b0 b1).mono ?_
    rintro e w' ⟨rfl, rfl⟩
    go_wp2_with fail
    refine (carry_any _ _).mono ?_
    rintro e w' ⟨rfl, rfl⟩
    go_wp2_with fail
    refine (mod_eq _ (addR a b c) _ (by omega) (by omega) (by unfold addR; omega)).mono ?_
    rintro e w' ⟨rfl, rfl⟩
    go_wp2_with fail
    refine (bit_any _ _ _ r0 r1 (by decide) (by decide)).mono ?_
    rintro e w1 ⟨rfl, hb1⟩
    go_wp2_with fail
    refine (bit_any _ _ _ r0 r1 (by decide) (by decide)).mono ?_
    rintro e w2 ⟨rfl, hb2⟩
    go_wp2_with fail
    refine (carry_any _ _).mono ?_
    rintro e w' ⟨rfl, rfl⟩
    go_wp2_with fail
    refine (bit_any _ _ _ r0 r1 (by decide) (by decide)).mono ?_
    rintro e w3 ⟨rfl, hb3⟩
    go_wp2_with fail
    refine (flags_is _ _ _ _ _ _ _ _ _ _ HF.out).mono ?_
    rintro e w4 ⟨rfl, hb4⟩
    go_wp2_with fail
    go_ret2
    exact ⟨rfl, below_step (below_step (below_step hb1 hb2) hb3) hb4⟩
  · have hd : decide (sgn a + sgn b + cN c < -128) = false := decide_eq_false hs
    have HF := Lib.hid (refAdd_flags a b c (decide (127 < sgn a + sgn b + cN c)) (by simp [outB, hs]))
    go_enter Try.func12, Try.ntmps12
    go_wp2_with fail
    refine (carry_any _ _).mono ?_
    rintro e w' ⟨rfl, rfl⟩
    go_wp2_with fail
    refine (signed_any _ _ a0 a1).mono ?_
    rintro e w' ⟨rfl, rfl⟩
    go_wp2_with fail
    refine (signed_any _ _ b0 b1).mono ?_
    rintro e w' ⟨rfl, rfl⟩
    go_wp2_with fail
    refine (carry_any _ _).mono ?_
    rintro e w' ⟨rfl, rfl⟩
    go_wp2_with fail
    refine (mod_eq _ (addR a b c) _ (by omega) (by omega) (by unfold addR; omega)).mono ?_
    rintro e w' ⟨rfl, rfl⟩
    go_wp2_with fail
    refine (bit_any _ _ _ r0 r1 (by decide) (by decide)).mono ?_
    rintro e w1 ⟨rfl, hb1⟩
    go_wp2_with fail
    refine (bit_any _ _ _ r0 r1 (by decide) (by decide)).mono ?_
    rintro e w2 ⟨rfl, hb2⟩
    go_wp2_with fail
    refine (carry_any _ _).mono ?_
    rintro e w' ⟨rfl, rfl⟩
    go_wp2_with fail
    refine (bit_any _ _ _ r0 r1 (by decide) (by decide)).mono ?_
    rintro e w3 ⟨rfl, hb3⟩
    go_wp2_with fail
    refine (flags_is _ _ _ _ _ _ _ _ _ _ HF.out).mono ?_
    rintro e w4 ⟨rfl, hb4⟩
    go_wp2_with fail
    go_ret2
    exact ⟨rfl, below_step (below_step (below_step hb1 hb2) hb3) hb4⟩

theorem refSub_flags (a b : Int) (c p : Bool) (hp : p = outB (sgn a - sgn b - cN c)) :
    flagsOf (bitN (subR a b c) 0) (subR a b c == 0) (bitN (subR a b c) 2) (decide (a % 16 < b % 16 + cN c)) (bitN (subR a b c) 4) p true (decide (a - b - cN c < 0)) = subF a b c := by
  subst hp
  unfold subF
  rw [show decide (a % 16 < b % 16 + cN c) = decide (a % 16 - b % 16 - cN c < 0) by simp only [decide_eq_decide]; omega]
set_option maxHeartbeats 800000 in
theorem refSub_any (a b : Int) (c : Bool) (w : World) (a0 : 0 ≤ a) (a1 : a ≤ 255) (b0 : 0 ≤ b) (b1 : b ≤ 255) :
    Calls Try.prog 13 #[.int .u8 a, .int .u8 b, .bool c] w fun e w' => e = .returned (.tuple #[.int .u8 (subR a b c), .int .u8 (subF a b c)]) ∧ Below w.heap.size w w' := by
  obtain ⟨c0, c1⟩ := cN_bd c
  obtain ⟨s0, s1⟩ := sgn_bd a a0 a1
  obtain ⟨t0, t1⟩ := sgn_bd b b0 b1
  obtain ⟨r0, r1⟩ := subR_bd a b c
  by_cases hs : sgn a - sgn b - cN c < -128
  · have HF := Lib.hid (refSub_flags a b c true (by simp [outB, hs]))
    go_enter Try.func13, Try.ntmps13
    go_wp2_with fail
    refine (carry_any _ _).mono ?_
    rintro e w' ⟨rfl, rfl⟩
    go_wp2_with fail
    refine (signed_any _ _ a0 a1).mono ?_
    rintro e w' ⟨rfl, rfl⟩
    go_wp2_with fail
    refine (signed_any _ _ b0 b1).mono ?_
    rintro e w' ⟨rfl, rfl⟩
    go_wp2_with fail
    refine (carry_any _ _).mono ?_
    rintro e w' ⟨rfl, rfl⟩
    go_wp2_with fail
    refine (mod_eq _ (subR a b c) _ (by omega) (by omega) (by unfold subR; omega)).mono ?_
    rintro e w' ⟨rfl, rfl⟩
    go_wp2_with fail
    refine (bit_any _ _ _ r0 r1 (by decide) (by decide)).mono ?_
    rintro e w1 ⟨rfl, hb1⟩
    go_wp2_with fail
    refine (bit_any _ _ _ r0 r1 (by decide) (by decide)).mono ?_
    rintro e w2 ⟨rfl, hb2⟩
    go_wp2_with fail
    refine (carry_any _ _).mono ?_
    rintro e w' ⟨rfl, rfl⟩
    go_wp2_with fail
    refine (bit_any _ _ _ r0 r1 (by decide) (by decide)).mono ?_
    rintro e w3 ⟨rfl, hb3⟩
    go_wp2_with fail
    refine (flags_is _ _ _ _ _ _ _ _ _ _ HF.out).mono ?_
    rintro e w4 ⟨rfl, hb4⟩
    go_wp2_with fail
    go_ret2
    exact ⟨rfl, below_step (below_step (below_step hb1 hb2) hb3) hb4⟩
  · have hd : decide (sgn a - sgn b - cN c < -128) = false := decide_eq_false hs
    have HF := Lib.hid (refSub_flags a b c (decide (127 < sgn a - sgn b - cN c)) (by simp [outB, hs]))
    go_enter Try.func13, Try.ntmps13
    go_wp2_with fail
    refine (carry_any _ _).mono ?_
    rintro e w' ⟨rfl, rfl⟩
    go_wp2_with fail
    refine (signed_any _ _ a0 a1).mono ?_
    rintro e w' ⟨rfl, rfl⟩
    go_wp2_with fail
    refine (signed_any _ _ b0 b1).mono ?_
    rintro e w' ⟨rfl, rfl⟩
    go_wp2_with fail
    refine (carry_any _ _).mono ?_
    rintro e w' ⟨rfl, rfl⟩
    go_wp2_with fail
    refine (mod_eq _ (subR a b c) _ (by omega) (by omega) (by unfold subR; omega)).mono ?_
    rintro e w' ⟨rfl, rfl⟩
    go_wp2_with fail
    refine (bit_any _ _ _ r0 r1 (by decide) (by decide)).mono ?_
    rintro e w1 ⟨rfl, hb1⟩
    go_wp2_with fail
    refine (bit_any _ _ _ r0 r1 (by decide) (by decide)).mono ?_
    rintro e w2 ⟨rfl, hb2⟩
    go_wp2_with fail
    refine (carry_any _ _).mono ?_
    rintro e w' ⟨rfl, rfl⟩
    go_wp2_with fail
    refine (bit_any _ _ _ r0 r1 (by decide) (by decide)).mono ?_
    rintro e w3 ⟨rfl, hb3⟩
    go_wp2_with fail
    refine (flags_is _ _ _ _ _ _ _ _ _ _ HF.out).mono ?_
    rintro e w4 ⟨rfl, hb4⟩
    go_wp2_with fail
    go_ret2
    exact ⟨rfl, below_step (below_step (below_step hb1 hb2) hb3) hb4⟩


end Go.Proofs.Ytndnadcmekjmnaa
