/- The document's Daa: its contract. -/
import Derived.Test.YtndnadcmekjmnaaAluRef
namespace Go.Proofs.Ytndnadcmekjmnaa
open Go.RowKit

theorem flags_held_is {S : World → Prop} (hS : ∀ w w', S w → Below w.heap.size w w' → S w') (s z y h x p n c : Bool) (r : Int) (w : World) (e : flagsOf s z y h x p n c = r) (hw : S w) :
    Calls Try.prog 44 #[.bool s, .bool z, .bool y, .bool h, .bool x, .bool p, .bool n, .bool c] w fun e w' => e = .returned (.int .u8 r) ∧ S w' := by
  subst e; exact flags_held hS s z y h x p n c w hw

set_option maxHeartbeats 8000000 in
theorem refDaa_mh (a f : Int) (w : World) (a0 : 0 ≤ a) (a1 : a ≤ 255) (f0 : 0 ≤ f) (f1 : f ≤ 255) (e6 : bitN f 6 = true) (e3 : bitN f 3 = true) :
    Calls Try.prog 29 #[.int .u8 a, .int .u8 f] w fun e w' => e = .returned (.tuple #[.int .u8 (daaR a f), .int .u8 (daaF a f)]) ∧ Below w.heap.size w w' := by
  obtain ⟨r0, r1⟩ := daaR_bd a f
  have hp : flagsOf (bitN (daaR a f) 0) (daaR a f == 0) (bitN (daaR a f) 2) (if bitN f 6 then bitN f 3 && decide (a % 16 < 6) else decide (9 < a % 16)) (bitN (daaR a f) 4) (evenB (daaR a f)) (bitN f 6) (bitN f 7 || decide (153 < a)) = daaF a f := rfl
  have hr : daaR a f = if bitN f 6 then (a - ((if bitN f 3 || decide (9 < a % 16) then 6 else 0) + (if bitN f 7 || decide (153 < a) then 96 else 0))) % 256 else (a + ((if bitN f 3 || decide (9 < a % 16) then 6 else 0) + (if bitN f 7 || decide (153 < a) then 96 else 0))) % 256 := rfl
  rw [e6, e3] at hp hr
  cases e7 : bitN f 7
  · by_cases g153 : 153 < a
    · have HR := Lib.hid (show (a - 102) % 256 = daaR a f by rw [hr, e7]; simp [g153])
      have HF := Lib.hid (show flagsOf (bitN (daaR a f) 0) (daaR a f == 0) (bitN (daaR a f) 2) (decide (a % 16 < 6)) (bitN (daaR a f) 4) (evenB (daaR a f)) true true = daaF a f by rw [← hp, e7]; simp [g153])
      have E7 := Lib.hid e7
      have E6 := Lib.hid e6
      have E3 := Lib.hid e3
      clear hr hp e7 e6 e3
      go_enter Try.func29, Try.ntmps29
      go_wp2_with fail
      refine (bits_any _ _ f0 f1).mono ?_
      rintro e w1 ⟨v, rfl, hv, hb1⟩
      obtain ⟨g, cap, rfl, hg, hc, hm, hcell⟩ := bits_cells hv
      have c3 := hcell 3 (by decide)
      rw [E3.out] at c3
      have c6 := hcell 6 (by decide)
      rw [E6.out] at c6
      have c7 := hcell 7 (by decide)
      rw [E7.out] at c7
      have hst : ∀ u u' : World, (fun w' => w'.cell? ⟨g, 6, none⟩ = some (.bool true) ∧ g < w'.heap.size ∧ Below w1.heap.size w1 w') u → Below u.heap.size u u' → (fun w' => w'.cell? ⟨g, 6, none⟩ = some (.bool true) ∧ g < w'.heap.size ∧ Below w1.heap.size w1 w') u' := fun u u' ⟨c0, kg, hB⟩ hb => ⟨(hb.cell kg).trans c0, Nat.lt_of_lt_of_le kg hb.size, below_step hB hb⟩
      have hS0 : (fun w' => w'.cell? ⟨g, 6, none⟩ = some (.bool true) ∧ g < w'.heap.size ∧ Below w1.heap.size w1 w') w1.drew := ⟨c6, hg, (Below.refl _ _).drew⟩
      have HST := Lib.hid hst
      clear hst hcell hv
      go_wp2_with fail
      refine (mod_any _ _ (by omega) (by omega)).mono ?_
      rintro e w' ⟨rfl, rfl⟩
      go_wp2_with fail
      refine (mod_eq _ (daaR a f) _ (by omega) (by omega) (by have := HR.out; omega)).mono ?_
      rintro e w' ⟨rfl, rfl⟩
      go_wp2_with fail
      go_region_held3 (fun w' => w'.cell? ⟨g, 6, none⟩ = some (.bool true) ∧ g < w'.heap.size ∧ Below w1.heap.size w1 w') (assumption) (first | (go_at_call 35; refine (bit_held HST.out _ _ _ r0 r1 (by decide) (by decide) (by assumption)).mono ?_; rintro e w' ⟨rfl, hSB⟩) | (go_at_call 49; refine (refEven_held HST.out _ _ r0 r1 (by assumption)).mono ?_; rintro e w' ⟨rfl, hSE⟩) | (go_at_call 44; refine (flags_held_is HST.out _ _ _ _ _ _ _ _ _ _ HF.out (by assumption)).mono ?_; rintro e w' ⟨rfl, hSF⟩))
      go_wp2_with fail
      go_ret2
      exact ⟨rfl, below_step hb1 hSF.2.2⟩
    · have d153 : decide (153 < a) = false := decide_eq_false g153
      have HR := Lib.hid (show (a - 6) % 256 = daaR a f by rw [hr, e7]; simp [g153])
      have HF := Lib.hid (show flagsOf (bitN (daaR a f) 0) (daaR a f == 0) (bitN (daaR a f) 2) (decide (a % 16 < 6)) (bitN (daaR a f) 4) (evenB (daaR a f)) true false = daaF a f by rw [← hp, e7]; simp [g153])
      have E7 := Lib.hid e7
      have E6 := Lib.hid e6
      have E3 := Lib.hid e3
      clear hr hp e7 e6 e3
      go_enter Try.func29, Try.ntmps29
      go_wp2_with fail
      refine (bits_any _ _ f0 f1).mono ?_
      rintro e w1 ⟨v, rfl, hv, hb1⟩
      obtain ⟨g, cap, rfl, hg, hc, hm, hcell⟩ := bits_cells hv
      have c3 := hcell 3 (by decide)
      rw [E3.out] at c3
      have c6 := hcell 6 (by decide)
      rw [E6.out] at c6
      have c7 := hcell 7 (by decide)
      rw [E7.out] at c7
      have hst : ∀ u u' : World, (fun w' => w'.cell? ⟨g, 6, none⟩ = some (.bool true) ∧ g < w'.heap.size ∧ Below w1.heap.size w1 w') u → Below u.heap.size u u' → (fun w' => w'.cell? ⟨g, 6, none⟩ = some (.bool true) ∧ g < w'.heap.size ∧ Below w1.heap.size w1 w') u' := fun u u' ⟨c0, kg, hB⟩ hb => ⟨(hb.cell kg).trans c0, Nat.lt_of_lt_of_le kg hb.size, below_step hB hb⟩
      have hS0 : (fun w' => w'.cell? ⟨g, 6, none⟩ = some (.bool true) ∧ g < w'.heap.size ∧ Below w1.heap.size w1 w') w1.drew := ⟨c6, hg, (Below.refl _ _).drew⟩
      have HST := Lib.hid hst
      clear hst hcell hv
      go_wp2_with fail
      refine (mod_any _ _ (by omega) (by omega)).mono ?_
      rintro e w' ⟨rfl, rfl⟩
      go_wp2_with fail
      refine (mod_eq _ (daaR a f) _ (by omega) (by omega) (by have := HR.out; omega)).mono ?_
      rintro e w' ⟨rfl, rfl⟩
      go_wp2_with fail
      go_region_held3 (fun w' => w'.cell? ⟨g, 6, none⟩ = some (.bool true) ∧ g < w'.heap.size ∧ Below w1.heap.size w1 w') (assumption) (first | (go_at_call 35; refine (bit_held HST.out _ _ _ r0 r1 (by decide) (by decide) (by assumption)).mono ?_; rintro e w' ⟨rfl, hSB⟩) | (go_at_call 49; refine (refEven_held HST.out _ _ r0 r1 (by assumption)).mono ?_; rintro e w' ⟨rfl, hSE⟩) | (go_at_call 44; refine (flags_held_is HST.out _ _ _ _ _ _ _ _ _ _ HF.out (by assumption)).mono ?_; rintro e w' ⟨rfl, hSF⟩))
      go_wp2_with fail
      go_ret2
      exact ⟨rfl, below_step hb1 hSF.2.2⟩
  · have HR := Lib.hid (show (a - 102) % 256 = daaR a f by rw [hr, e7]; simp)
    have HF := Lib.hid (show flagsOf (bitN (daaR a f) 0) (daaR a f == 0) (bitN (daaR a f) 2) (decide (a % 16 < 6)) (bitN (daaR a f) 4) (evenB (daaR a f)) true true = daaF a f by rw [← hp, e7]; simp)
    have E7 := Lib.hid e7
    have E6 := Lib.hid e6
    have E3 := Lib.hid e3
    clear hr hp e7 e6 e3
    go_enter Try.func29, Try.ntmps29
    go_wp2_with fail
    refine (bits_any _ _ f0 f1).mono ?_
    rintro e w1 ⟨v, rfl, hv, hb1⟩
    obtain ⟨g, cap, rfl, hg, hc, hm, hcell⟩ := bits_cells hv
    have c3 := hcell 3 (by decide)
    rw [E3.out] at c3
    have c6 := hcell 6 (by decide)
    rw [E6.out] at c6
    have c7 := hcell 7 (by decide)
    rw [E7.out] at c7
    have hst : ∀ u u' : World, (fun w' => w'.cell? ⟨g, 6, none⟩ = some (.bool true) ∧ g < w'.heap.size ∧ Below w1.heap.size w1 w') u → Below u.heap.size u u' → (fun w' => w'.cell? ⟨g, 6, none⟩ = some (.bool true) ∧ g < w'.heap.size ∧ Below w1.heap.size w1 w') u' := fun u u' ⟨c0, kg, hB⟩ hb => ⟨(hb.cell kg).trans c0, Nat.lt_of_lt_of_le kg hb.size, below_step hB hb⟩
    have hS0 : (fun w' => w'.cell? ⟨g, 6, none⟩ = some (.bool true) ∧ g < w'.heap.size ∧ Below w1.heap.size w1 w') w1.drew := ⟨c6, hg, (Below.refl _ _).drew⟩
    have HST := Lib.hid hst
    clear hst hcell hv
    go_wp2_with fail
    refine (mod_any _ _ (by omega) (by omega)).mono ?_
    rintro e w' ⟨rfl, rfl⟩
    go_wp2_with fail
    refine (mod_eq _ (daaR a f) _ (by omega) (by omega) (by have := HR.out; omega)).mono ?_
    rintro e w' ⟨rfl, rfl⟩
    go_wp2_with fail
    go_region_held3 (fun w' => w'.cell? ⟨g, 6, none⟩ = some (.bool true) ∧ g < w'.heap.size ∧ Below w1.heap.size w1 w') (assumption) (first | (go_at_call 35; refine (bit_held HST.out _ _ _ r0 r1 (by decide) (by decide) (by assumption)).mono ?_; rintro e w' ⟨rfl, hSB⟩) | (go_at_call 49; refine (refEven_held HST.out _ _ r0 r1 (by assumption)).mono ?_; rintro e w' ⟨rfl, hSE⟩) | (go_at_call 44; refine (flags_held_is HST.out _ _ _ _ _ _ _ _ _ _ HF.out (by assumption)).mono ?_; rintro e w' ⟨rfl, hSF⟩))
    go_wp2_with fail
    go_ret2
    exact ⟨rfl, below_step hb1 hSF.2.2⟩

set_option maxHeartbeats 8000000 in
theorem refDaa_mn (a f : Int) (w : World) (a0 : 0 ≤ a) (a1 : a ≤ 255) (f0 : 0 ≤ f) (f1 : f ≤ 255) (e6 : bitN f 6 = true) (e3 : bitN f 3 = false) :
    Calls Try.prog 29 #[.int .u8 a, .int .u8 f] w fun e w' => e = .returned (.tuple #[.int .u8 (daaR a f), .int .u8 (daaF a f)]) ∧ Below w.heap.size w w' := by
  obtain ⟨r0, r1⟩ := daaR_bd a f
  have hp : flagsOf (bitN (daaR a f) 0) (daaR a f == 0) (bitN (daaR a f) 2) (if bitN f 6 then bitN f 3 && decide (a % 16 < 6) else decide (9 < a % 16)) (bitN (daaR a f) 4) (evenB (daaR a f)) (bitN f 6) (bitN f 7 || decide (153 < a)) = daaF a f := rfl
  have hr : daaR a f = if bitN f 6 then (a - ((if bitN f 3 || decide (9 < a % 16) then 6 else 0) + (if bitN f 7 || decide (153 < a) then 96 else 0))) % 256 else (a + ((if bitN f 3 || decide (9 < a % 16) then 6 else 0) + (if bitN f 7 || decide (153 < a) then 96 else 0))) % 256 := rfl
  rw [e6, e3] at hp hr
  cases e7 : bitN f 7
  · by_cases g153 : 153 < a
    · by_cases g9 : 9 < a % 16
      · have HR := Lib.hid (show (a - 102) % 256 = daaR a f by rw [hr, e7]; simp [g9, g153])
        have HF := Lib.hid (show flagsOf (bitN (daaR a f) 0) (daaR a f == 0) (bitN (daaR a f) 2) (false) (bitN (daaR a f) 4) (evenB (daaR a f)) true true = daaF a f by rw [← hp, e7]; simp [g153])
        have E7 := Lib.hid e7
        have E6 := Lib.hid e6
        have E3 := Lib.hid e3
        clear hr hp e7 e6 e3
        go_enter Try.func29, Try.ntmps29
        go_wp2_with fail
        refine (bits_any _ _ f0 f1).mono ?_
        rintro e w1 ⟨v, rfl, hv, hb1⟩
        obtain ⟨g, cap, rfl, hg, hc, hm, hcell⟩ := bits_cells hv
        have c3 := hcell 3 (by decide)
        rw [E3.out] at c3
        have c6 := hcell 6 (by decide)
        rw [E6.out] at c6
        have c7 := hcell 7 (by decide)
        rw [E7.out] at c7
        have hst : ∀ u u' : World, (fun w' => w'.cell? ⟨g, 6, none⟩ = some (.bool true) ∧ g < w'.heap.size ∧ Below w1.heap.size w1 w') u → Below u.heap.size u u' → (fun w' => w'.cell? ⟨g, 6, none⟩ = some (.bool true) ∧ g < w'.heap.size ∧ Below w1.heap.size w1 w') u' := fun u u' ⟨c0, kg, hB⟩ hb => ⟨(hb.cell kg).trans c0, Nat.lt_of_lt_of_le kg hb.size, below_step hB hb⟩
        have hS0 : (fun w' => w'.cell? ⟨g, 6, none⟩ = some (.bool true) ∧ g < w'.heap.size ∧ Below w1.heap.size w1 w') w1.drew := ⟨c6, hg, (Below.refl _ _).drew⟩
        have HST := Lib.hid hst
        clear hst hcell hv
        go_wp2_with fail
        refine (mod_any _ _ (by omega) (by omega)).mono ?_
        rintro e w' ⟨rfl, rfl⟩
        go_wp2_with fail
        refine (mod_eq _ (daaR a f) _ (by omega) (by omega) (by have := HR.out; omega)).mono ?_
        rintro e w' ⟨rfl, rfl⟩
        go_wp2_with fail
        go_region_held3 (fun w' => w'.cell? ⟨g, 6, none⟩ = some (.bool true) ∧ g < w'.heap.size ∧ Below w1.heap.size w1 w') (assumption) (first | (go_at_call 35; refine (bit_held HST.out _ _ _ r0 r1 (by decide) (by decide) (by assumption)).mono ?_; rintro e w' ⟨rfl, hSB⟩) | (go_at_call 49; refine (refEven_held HST.out _ _ r0 r1 (by assumption)).mono ?_; rintro e w' ⟨rfl, hSE⟩) | (go_at_call 44; refine (flags_held_is HST.out _ _ _ _ _ _ _ _ _ _ HF.out (by assumption)).mono ?_; rintro e w' ⟨rfl, hSF⟩))
        go_wp2_with fail
        go_ret2
        exact ⟨rfl, below_step hb1 hSF.2.2⟩
      · have d9 : decide (9 < a % 16) = false := decide_eq_false g9
        have HR := Lib.hid (show (a - 96) % 256 = daaR a f by rw [hr, e7]; simp [g9, g153])
        have HF := Lib.hid (show flagsOf (bitN (daaR a f) 0) (daaR a f == 0) (bitN (daaR a f) 2) (false) (bitN (daaR a f) 4) (evenB (daaR a f)) true true = daaF a f by rw [← hp, e7]; simp [g153])
        have E7 := Lib.hid e7
        have E6 := Lib.hid e6
        have E3 := Lib.hid e3
        clear hr hp e7 e6 e3
        go_enter Try.func29, Try.ntmps29
        go_wp2_with fail
        refine (bits_any _ _ f0 f1).mono ?_
        rintro e w1 ⟨v, rfl, hv, hb1⟩
        obtain ⟨g, cap, rfl, hg, hc, hm, hcell⟩ := bits_cells hv
        have c3 := hcell 3 (by decide)
        rw [E3.out] at c3
        have c6 := hcell 6 (by decide)
        rw [E6.out] at c6
        have c7 := hcell 7 (by decide)
        rw [E7.out] at c7
        have hst : ∀ u u' : World, (fun w' => w'.cell? ⟨g, 6, none⟩ = some (.bool true) ∧ g < w'.heap.size ∧ Below w1.heap.size w1 w') u → Below u.heap.size u u' → (fun w' => w'.cell? ⟨g, 6, none⟩ = some (.bool true) ∧ g < w'.heap.size ∧ Below w1.heap.size w1 w') u' := fun u u' ⟨c0, kg, hB⟩ hb => ⟨(hb.cell kg).trans c0, Nat.lt_of_lt_of_le kg hb.size, below_step hB hb⟩
        have hS0 : (fun w' => w'.cell? ⟨g, 6, none⟩ = some (.bool true) ∧ g < w'.heap.size ∧ Below w1.heap.size w1 w') w1.drew := ⟨c6, hg, (Below.refl _ _).drew⟩
        have HST := Lib.hid hst
        clear hst hcell hv
        go_wp2_with fail
        refine (mod_any _ _ (by omega) (by omega)).mono ?_
        rintro e w' ⟨rfl, rfl⟩
        go_wp2_with fail
        refine (mod_eq _ (daaR a f) _ (by omega) (by omega) (by have := HR.out; omega)).mono ?_
        rintro e w' ⟨rfl, rfl⟩
        go_wp2_with fail
        go_region_held3 (fun w' => w'.cell? ⟨g, 6, none⟩ = some (.bool true) ∧ g < w'.heap.size ∧ Below w1.heap.size w1 w') (assumption) (first | (go_at_call 35; refine (bit_held HST.out _ _ _ r0 r1 (by decide) (by decide) (by assumption)).mono ?_; rintro e w' ⟨rfl, hSB⟩) | (go_at_call 49; refine (refEven_held HST.out _ _ r0 r1 (by assumption)).mono ?_; rintro e w' ⟨rfl, hSE⟩) | (go_at_call 44; refine (flags_held_is HST.out _ _ _ _ _ _ _ _ _ _ HF.out (by assumption)).mono ?_; rintro e w' ⟨rfl, hSF⟩))
        go_wp2_with fail
        go_ret2
        exact ⟨rfl, below_step hb1 hSF.2.2⟩
    · by_cases g9 : 9 < a % 16
      · have d153 : decide (153 < a) = false := decide_eq_false g153
        have HR := Lib.hid (show (a - 6) % 256 = daaR a f by rw [hr, e7]; simp [g9, g153])
        have HF := Lib.hid (show flagsOf (bitN (daaR a f) 0) (daaR a f == 0) (bitN (daaR a f) 2) (false) (bitN (daaR a f) 4) (evenB (daaR a f)) true false = daaF a f by rw [← hp, e7]; simp [g153])
        have E7 := Lib.hid e7
        have E6 := Lib.hid e6
        have E3 := Lib.hid e3
        clear hr hp e7 e6 e3
        go_enter Try.func29, Try.ntmps29
        go_wp2_with fail
        refine (bits_any _ _ f0 f1).mono ?_
        rintro e w1 ⟨v, rfl, hv, hb1⟩
        obtain ⟨g, cap, rfl, hg, hc, hm, hcell⟩ := bits_cells hv
        have c3 := hcell 3 (by decide)
        rw [E3.out] at c3
        have c6 := hcell 6 (by decide)
        rw [E6.out] at c6
        have c7 := hcell 7 (by decide)
        rw [E7.out] at c7
        have hst : ∀ u u' : World, (fun w' => w'.cell? ⟨g, 6, none⟩ = some (.bool true) ∧ g < w'.heap.size ∧ Below w1.heap.size w1 w') u → Below u.heap.size u u' → (fun w' => w'.cell? ⟨g, 6, none⟩ = some (.bool true) ∧ g < w'.heap.size ∧ Below w1.heap.size w1 w') u' := fun u u' ⟨c0, kg, hB⟩ hb => ⟨(hb.cell kg).trans c0, Nat.lt_of_lt_of_le kg hb.size, below_step hB hb⟩
        have hS0 : (fun w' => w'.cell? ⟨g, 6, none⟩ = some (.bool true) ∧ g < w'.heap.size ∧ Below w1.heap.size w1 w') w1.drew := ⟨c6, hg, (Below.refl _ _).drew⟩
        have HST := Lib.hid hst
        clear hst hcell hv
        go_wp2_with fail
        refine (mod_any _ _ (by omega) (by omega)).mono ?_
        rintro e w' ⟨rfl, rfl⟩
        go_wp2_with fail
        refine (mod_eq _ (daaR a f) _ (by omega) (by omega) (by have := HR.out; omega)).mono ?_
        rintro e w' ⟨rfl, rfl⟩
        go_wp2_with fail
        go_region_held3 (fun w' => w'.cell? ⟨g, 6, none⟩ = some (.bool true) ∧ g < w'.heap.size ∧ Below w1.heap.size w1 w') (assumption) (first | (go_at_call 35; refine (bit_held HST.out _ _ _ r0 r1 (by decide) (by decide) (by assumption)).mono ?_; rintro e w' ⟨rfl, hSB⟩) | (go_at_call 49; refine (refEven_held HST.out _ _ r0 r1 (by assumption)).mono ?_; rintro e w' ⟨rfl, hSE⟩) | (go_at_call 44; refine (flags_held_is HST.out _ _ _ _ _ _ _ _ _ _ HF.out (by assumption)).mono ?_; rintro e w' ⟨rfl, hSF⟩))
        go_wp2_with fail
        go_ret2
        exact ⟨rfl, below_step hb1 hSF.2.2⟩
      · have d9 : decide (9 < a % 16) = false := decide_eq_false g9
        have d153 : decide (153 < a) = false := decide_eq_false g153
        have HR := Lib.hid (show (a - 0) % 256 = daaR a f by rw [hr, e7]; simp [g9, g153])
        have HF := Lib.hid (show flagsOf (bitN (daaR a f) 0) (daaR a f == 0) (bitN (daaR a f) 2) (false) (bitN (daaR a f) 4) (evenB (daaR a f)) true false = daaF a f by rw [← hp, e7]; simp [g153])
        have E7 := Lib.hid e7
        have E6 := Lib.hid e6
        have E3 := Lib.hid e3
        clear hr hp e7 e6 e3
        go_enter Try.func29, Try.ntmps29
        go_wp2_with fail
        refine (bits_any _ _ f0 f1).mono ?_
        rintro e w1 ⟨v, rfl, hv, hb1⟩
        obtain ⟨g, cap, rfl, hg, hc, hm, hcell⟩ := bits_cells hv
        have c3 := hcell 3 (by decide)
        rw [E3.out] at c3
        have c6 := hcell 6 (by decide)
        rw [E6.out] at c6
        have c7 := hcell 7 (by decide)
        rw [E7.out] at c7
        have hst : ∀ u u' : World, (fun w' => w'.cell? ⟨g, 6, none⟩ = some (.bool true) ∧ g < w'.heap.size ∧ Below w1.heap.size w1 w') u → Below u.heap.size u u' → (fun w' => w'.cell? ⟨g, 6, none⟩ = some (.bool true) ∧ g < w'.heap.size ∧ Below w1.heap.size w1 w') u' := fun u u' ⟨c0, kg, hB⟩ hb => ⟨(hb.cell kg).trans c0, Nat.lt_of_lt_of_le kg hb.size, below_step hB hb⟩
        have hS0 : (fun w' => w'.cell? ⟨g, 6, none⟩ = some (.bool true) ∧ g < w'.heap.size ∧ Below w1.heap.size w1 w') w1.drew := ⟨c6, hg, (Below.refl _ _).drew⟩
        have HST := Lib.hid hst
        clear hst hcell hv
        go_wp2_with fail
        refine (mod_any _ _ (by omega) (by omega)).mono ?_
        rintro e w' ⟨rfl, rfl⟩
        go_wp2_with fail
        refine (mod_eq _ (daaR a f) _ (by omega) (by omega) (by have := HR.out; omega)).mono ?_
        rintro e w' ⟨rfl, rfl⟩
        go_wp2_with fail
        go_region_held3 (fun w' => w'.cell? ⟨g, 6, none⟩ = some (.bool true) ∧ g < w'.heap.size ∧ Below w1.heap.size w1 w') (assumption) (first | (go_at_call 35; refine (bit_held HST.out _ _ _ r0 r1 (by decide) (by decide) (by assumption)).mono ?_; rintro e w' ⟨rfl, hSB⟩) | (go_at_call 49; refine (refEven_held HST.out _ _ r0 r1 (by assumption)).mono ?_; rintro e w' ⟨rfl, hSE⟩) | (go_at_call 44; refine (flags_held_is HST.out _ _ _ _ _ _ _ _ _ _ HF.out (by assumption)).mono ?_; rintro e w' ⟨rfl, hSF⟩))
        go_wp2_with fail
        go_ret2
        exact ⟨rfl, below_step hb1 hSF.2.2⟩
  · by_cases g9 : 9 < a % 16
    · have HR := Lib.hid (show (a - 102) % 256 = daaR a f by rw [hr, e7]; simp [g9])
      have HF := Lib.hid (show flagsOf (bitN (daaR a f) 0) (daaR a f == 0) (bitN (daaR a f) 2) (false) (bitN (daaR a f) 4) (evenB (daaR a f)) true true = daaF a f by rw [← hp, e7]; simp)
      have E7 := Lib.hid e7
      have E6 := Lib.hid e6
      have E3 := Lib.hid e3
      clear hr hp e7 e6 e3
      go_enter Try.func29, Try.ntmps29
      go_wp2_with fail
      refine (bits_any _ _ f0 f1).mono ?_
      rintro e w1 ⟨v, rfl, hv, hb1⟩
      obtain ⟨g, cap, rfl, hg, hc, hm, hcell⟩ := bits_cells hv
      have c3 := hcell 3 (by decide)
      rw [E3.out] at c3
      have c6 := hcell 6 (by decide)
      rw [E6.out] at c6
      have c7 := hcell 7 (by decide)
      rw [E7.out] at c7
      have hst : ∀ u u' : World, (fun w' => w'.cell? ⟨g, 6, none⟩ = some (.bool true) ∧ g < w'.heap.size ∧ Below w1.heap.size w1 w') u → Below u.heap.size u u' → (fun w' => w'.cell? ⟨g, 6, none⟩ = some (.bool true) ∧ g < w'.heap.size ∧ Below w1.heap.size w1 w') u' := fun u u' ⟨c0, kg, hB⟩ hb => ⟨(hb.cell kg).trans c0, Nat.lt_of_lt_of_le kg hb.size, below_step hB hb⟩
      have hS0 : (fun w' => w'.cell? ⟨g, 6, none⟩ = some (.bool true) ∧ g < w'.heap.size ∧ Below w1.heap.size w1 w') w1.drew := ⟨c6, hg, (Below.refl _ _).drew⟩
      have HST := Lib.hid hst
      clear hst hcell hv
      go_wp2_with fail
      refine (mod_any _ _ (by omega) (by omega)).mono ?_
      rintro e w' ⟨rfl, rfl⟩
      go_wp2_with fail
      refine (mod_eq _ (daaR a f) _ (by omega) (by omega) (by have := HR.out; omega)).mono ?_
      rintro e w' ⟨rfl, rfl⟩
      go_wp2_with fail
      go_region_held3 (fun w' => w'.cell? ⟨g, 6, none⟩ = some (.bool true) ∧ g < w'.heap.size ∧ Below w1.heap.size w1 w') (assumption) (first | (go_at_call 35; refine (bit_held HST.out _ _ _ r0 r1 (by decide) (by decide) (by assumption)).mono ?_; rintro e w' ⟨rfl, hSB⟩) | (go_at_call 49; refine (refEven_held HST.out _ _ r0 r1 (by assumption)).mono ?_; rintro e w' ⟨rfl, hSE⟩) | (go_at_call 44; refine (flags_held_is HST.out _ _ _ _ _ _ _ _ _ _ HF.out (by assumption)).mono ?_; rintro e w' ⟨rfl, hSF⟩))
      go_wp2_with fail
      go_ret2
      exact ⟨rfl, below_step hb1 hSF.2.2⟩
    · have d9 : decide (9 < a % 16) = false := decide_eq_false g9
      have HR := Lib.hid (show (a - 96) % 256 = daaR a f by rw [hr, e7]; simp [g9])
      have HF := Lib.hid (show flagsOf (bitN (daaR a f) 0) (daaR a f == 0) (bitN (daaR a f) 2) (false) (bitN (daaR a f) 4) (evenB (daaR a f)) true true = daaF a f by rw [← hp, e7]; simp)
      have E7 := Lib.hid e7
      have E6 := Lib.hid e6
      have E3 := Lib.hid e3
      clear hr hp e7 e6 e3
      go_enter Try.func29, Try.ntmps29
      go_wp2_with fail
      refine (bits_any _ _ f0 f1).mono ?_
      rintro e w1 ⟨v, rfl, hv, hb1⟩
      obtain ⟨g, cap, rfl, hg, hc, hm, hcell⟩ := bits_cells hv
      have c3 := hcell 3 (by decide)
      rw [E3.out] at c3
      have c6 := hcell 6 (by decide)
      rw [E6.out] at c6
      have c7 := hcell 7 (by decide)
      rw [E7.out] at c7
      have hst : ∀ u u' : World, (fun w' => w'.cell? ⟨g, 6, none⟩ = some (.bool true) ∧ g < w'.heap.size ∧ Below w1.heap.size w1 w') u → Below u.heap.size u u' → (fun w' => w'.cell? ⟨g, 6, none⟩ = some (.bool true) ∧ g < w'.heap.size ∧ Below w1.heap.size w1 w') u' := fun u u' ⟨c0, kg, hB⟩ hb => ⟨(hb.cell kg).trans c0, Nat.lt_of_lt_of_le kg hb.size, below_step hB hb⟩
      have hS0 : (fun w' => w'.cell? ⟨g, 6, none⟩ = some (.bool true) ∧ g < w'.heap.size ∧ Below w1.heap.size w1 w') w1.drew := ⟨c6, hg, (Below.refl _ _).drew⟩
      have HST := Lib.hid hst
      clear hst hcell hv
      go_wp2_with fail
      refine (mod_any _ _ (by omega) (by omega)).mono ?_
      rintro e w' ⟨rfl, rfl⟩
      go_wp2_with fail
      refine (mod_eq _ (daaR a f) _ (by omega) (by omega) (by have := HR.out; omega)).mono ?_
      rintro e w' ⟨rfl, rfl⟩
      go_wp2_with fail
      go_region_held3 (fun w' => w'.cell? ⟨g, 6, none⟩ = some (.bool true) ∧ g < w'.heap.size ∧ Below w1.heap.size w1 w') (assumption) (first | (go_at_call 35; refine (bit_held HST.out _ _ _ r0 r1 (by decide) (by decide) (by assumption)).mono ?_; rintro e w' ⟨rfl, hSB⟩) | (go_at_call 49; refine (refEven_held HST.out _ _ r0 r1 (by assumption)).mono ?_; rintro e w' ⟨rfl, hSE⟩) | (go_at_call 44; refine (flags_held_is HST.out _ _ _ _ _ _ _ _ _ _ HF.out (by assumption)).mono ?_; rintro e w' ⟨rfl, hSF⟩))
      go_wp2_with fail
      go_ret2
      exact ⟨rfl, below_step hb1 hSF.2.2⟩

set_option maxHeartbeats 8000000 in
theorem refDaa_ph (a f : Int) (w : World) (a0 : 0 ≤ a) (a1 : a ≤ 255) (f0 : 0 ≤ f) (f1 : f ≤ 255) (e6 : bitN f 6 = false) (e3 : bitN f 3 = true) :
    Calls Try.prog 29 #[.int .u8 a, .int .u8 f] w fun e w' => e = .returned (.tuple #[.int .u8 (daaR a f), .int .u8 (daaF a f)]) ∧ Below w.heap.size w w' := by
  obtain ⟨r0, r1⟩ := daaR_bd a f
  have hp : flagsOf (bitN (daaR a f) 0) (daaR a f == 0) (bitN (daaR a f) 2) (if bitN f 6 then bitN f 3 && decide (a % 16 < 6) else decide (9 < a % 16)) (bitN (daaR a f) 4) (evenB (daaR a f)) (bitN f 6) (bitN f 7 || decide (153 < a)) = daaF a f := rfl
  have hr : daaR a f = if bitN f 6 then (a - ((if bitN f 3 || decide (9 < a % 16) then 6 else 0) + (if bitN f 7 || decide (153 < a) then 96 else 0))) % 256 else (a + ((if bitN f 3 || decide (9 < a % 16) then 6 else 0) + (if bitN f 7 || decide (153 < a) then 96 else 0))) % 256 := rfl
  rw [e6, e3] at hp hr
  cases e7 : bitN f 7
  · by_cases g153 : 153 < a
    · have HR := Lib.hid (show (a + 102) % 256 = daaR a f by rw [hr, e7]; simp [g153])
      have HF := Lib.hid (show flagsOf (bitN (daaR a f) 0) (daaR a f == 0) (bitN (daaR a f) 2) (decide (9 < a % 16)) (bitN (daaR a f) 4) (evenB (daaR a f)) false true = daaF a f by rw [← hp, e7]; simp [g153])
      have E7 := Lib.hid e7
      have E6 := Lib.hid e6
      have E3 := Lib.hid e3
      clear hr hp e7 e6 e3
      go_enter Try.func29, Try.ntmps29
      go_wp2_with fail
      refine (bits_any _ _ f0 f1).mono ?_
      rintro e w1 ⟨v, rfl, hv, hb1⟩
      obtain ⟨g, cap, rfl, hg, hc, hm, hcell⟩ := bits_cells hv
      have c3 := hcell 3 (by decide)
      rw [E3.out] at c3
      have c6 := hcell 6 (by decide)
      rw [E6.out] at c6
      have c7 := hcell 7 (by decide)
      rw [E7.out] at c7
      have hst : ∀ u u' : World, (fun w' => w'.cell? ⟨g, 6, none⟩ = some (.bool false) ∧ g < w'.heap.size ∧ Below w1.heap.size w1 w') u → Below u.heap.size u u' → (fun w' => w'.cell? ⟨g, 6, none⟩ = some (.bool false) ∧ g < w'.heap.size ∧ Below w1.heap.size w1 w') u' := fun u u' ⟨c0, kg, hB⟩ hb => ⟨(hb.cell kg).trans c0, Nat.lt_of_lt_of_le kg hb.size, below_step hB hb⟩
      have hS0 : (fun w' => w'.cell? ⟨g, 6, none⟩ = some (.bool false) ∧ g < w'.heap.size ∧ Below w1.heap.size w1 w') w1.drew := ⟨c6, hg, (Below.refl _ _).drew⟩
      have HST := Lib.hid hst
      clear hst hcell hv
      go_wp2_with fail
      refine (mod_eq _ (daaR a f) _ (by omega) (by omega) (by have := HR.out; omega)).mono ?_
      rintro e w' ⟨rfl, rfl⟩
      go_wp2_with fail
      go_region_held3 (fun w' => w'.cell? ⟨g, 6, none⟩ = some (.bool false) ∧ g < w'.heap.size ∧ Below w1.heap.size w1 w') (assumption) (first | (go_at_call 35; refine (bit_held HST.out _ _ _ r0 r1 (by decide) (by decide) (by assumption)).mono ?_; rintro e w' ⟨rfl, hSB⟩) | (go_at_call 49; refine (refEven_held HST.out _ _ r0 r1 (by assumption)).mono ?_; rintro e w' ⟨rfl, hSE⟩) | (go_at_call 44; refine (flags_held_is HST.out _ _ _ _ _ _ _ _ _ _ HF.out (by assumption)).mono ?_; rintro e w' ⟨rfl, hSF⟩))
      go_wp2_with fail
      go_ret2
      exact ⟨rfl, below_step hb1 hSF.2.2⟩
    · have d153 : decide (153 < a) = false := decide_eq_false g153
      have HR := Lib.hid (show (a + 6) % 256 = daaR a f by rw [hr, e7]; simp [g153])
      have HF := Lib.hid (show flagsOf (bitN (daaR a f) 0) (daaR a f == 0) (bitN (daaR a f) 2) (decide (9 < a % 16)) (bitN (daaR a f) 4) (evenB (daaR a f)) false false = daaF a f by rw [← hp, e7]; simp [g153])
      have E7 := Lib.hid e7
      have E6 := Lib.hid e6
      have E3 := Lib.hid e3
      clear hr hp e7 e6 e3
      go_enter Try.func29, Try.ntmps29
      go_wp2_with fail
      refine (bits_any _ _ f0 f1).mono ?_
      rintro e w1 ⟨v, rfl, hv, hb1⟩
      obtain ⟨g, cap, rfl, hg, hc, hm, hcell⟩ := bits_cells hv
      have c3 := hcell 3 (by decide)
      rw [E3.out] at c3
      have c6 := hcell 6 (by decide)
      rw [E6.out] at c6
      have c7 := hcell 7 (by decide)
      rw [E7.out] at c7
      have hst : ∀ u u' : World, (fun w' => w'.cell? ⟨g, 6, none⟩ = some (.bool false) ∧ g < w'.heap.size ∧ Below w1.heap.size w1 w') u → Below u.heap.size u u' → (fun w' => w'.cell? ⟨g, 6, none⟩ = some (.bool false) ∧ g < w'.heap.size ∧ Below w1.heap.size w1 w') u' := fun u u' ⟨c0, kg, hB⟩ hb => ⟨(hb.cell kg).trans c0, Nat.lt_of_lt_of_le kg hb.size, below_step hB hb⟩
      have hS0 : (fun w' => w'.cell? ⟨g, 6, none⟩ = some (.bool false) ∧ g < w'.heap.size ∧ Below w1.heap.size w1 w') w1.drew := ⟨c6, hg, (Below.refl _ _).drew⟩
      have HST := Lib.hid hst
      clear hst hcell hv
      go_wp2_with fail
      refine (mod_eq _ (daaR a f) _ (by omega) (by omega) (by have := HR.out; omega)).mono ?_
      rintro e w' ⟨rfl, rfl⟩
      go_wp2_with fail
      go_region_held3 (fun w' => w'.cell? ⟨g, 6, none⟩ = some (.bool false) ∧ g < w'.heap.size ∧ Below w1.heap.size w1 w') (assumption) (first | (go_at_call 35; refine (bit_held HST.out _ _ _ r0 r1 (by decide) (by decide) (by assumption)).mono ?_; rintro e w' ⟨rfl, hSB⟩) | (go_at_call 49; refine (refEven_held HST.out _ _ r0 r1 (by assumption)).mono ?_; rintro e w' ⟨rfl, hSE⟩) | (go_at_call 44; refine (flags_held_is HST.out _ _ _ _ _ _ _ _ _ _ HF.out (by assumption)).mono ?_; rintro e w' ⟨rfl, hSF⟩))
      go_wp2_with fail
      go_ret2
      exact ⟨rfl, below_step hb1 hSF.2.2⟩
  · have HR := Lib.hid (show (a + 102) % 256 = daaR a f by rw [hr, e7]; simp)
    have HF := Lib.hid (show flagsOf (bitN (daaR a f) 0) (daaR a f == 0) (bitN (daaR a f) 2) (decide (9 < a % 16)) (bitN (daaR a f) 4) (evenB (daaR a f)) false true = daaF a f by rw [← hp, e7]; simp)
    have E7 := Lib.hid e7
    have E6 := Lib.hid e6
    have E3 := Lib.hid e3
    clear hr hp e7 e6 e3
    go_enter Try.func29, Try.ntmps29
    go_wp2_with fail
    refine (bits_any _ _ f0 f1).mono ?_
    rintro e w1 ⟨v, rfl, hv, hb1⟩
    obtain ⟨g, cap, rfl, hg, hc, hm, hcell⟩ := bits_cells hv
    have c3 := hcell 3 (by decide)
    rw [E3.out] at c3
    have c6 := hcell 6 (by decide)
    rw [E6.out] at c6
    have c7 := hcell 7 (by decide)
    rw [E7.out] at c7
    have hst : ∀ u u' : World, (fun w' => w'.cell? ⟨g, 6, none⟩ = some (.bool false) ∧ g < w'.heap.size ∧ Below w1.heap.size w1 w') u → Below u.heap.size u u' → (fun w' => w'.cell? ⟨g, 6, none⟩ = some (.bool false) ∧ g < w'.heap.size ∧ Below w1.heap.size w1 w') u' := fun u u' ⟨c0, kg, hB⟩ hb => ⟨(hb.cell kg).trans c0, Nat.lt_of_lt_of_le kg hb.size, below_step hB hb⟩
    have hS0 : (fun w' => w'.cell? ⟨g, 6, none⟩ = some (.bool false) ∧ g < w'.heap.size ∧ Below w1.heap.size w1 w') w1.drew := ⟨c6, hg, (Below.refl _ _).drew⟩
    have HST := Lib.hid hst
    clear hst hcell hv
    go_wp2_with fail
    refine (mod_eq _ (daaR a f) _ (by omega) (by omega) (by have := HR.out; omega)).mono ?_
    rintro e w' ⟨rfl, rfl⟩
    go_wp2_with fail
    go_region_held3 (fun w' => w'.cell? ⟨g, 6, none⟩ = some (.bool false) ∧ g < w'.heap.size ∧ Below w1.heap.size w1 w') (assumption) (first | (go_at_call 35; refine (bit_held HST.out _ _ _ r0 r1 (by decide) (by decide) (by assumption)).mono ?_; rintro e w' ⟨rfl, hSB⟩) | (go_at_call 49; refine (refEven_held HST.out _ _ r0 r1 (by assumption)).mono ?_; rintro e w' ⟨rfl, hSE⟩) | (go_at_call 44; refine (flags_held_is HST.out _ _ _ _ _ _ _ _ _ _ HF.out (by assumption)).mono ?_; rintro e w' ⟨rfl, hSF⟩))
    go_wp2_with fail
    go_ret2
    exact ⟨rfl, below_step hb1 hSF.2.2⟩

set_option maxHeartbeats 8000000 in
theorem refDaa_pn (a f : Int) (w : World) (a0 : 0 ≤ a) (a1 : a ≤ 255) (f0 : 0 ≤ f) (f1 : f ≤ 255) (e6 : bitN f 6 = false) (e3 : bitN f 3 = false) :
    Calls Try.prog 29 #[.int .u8 a, .int .u8 f] w fun e w' => e = .returned (.tuple #[.int .u8 (daaR a f), .int .u8 (daaF a f)]) ∧ Below w.heap.size w w' := by
  obtain ⟨r0, r1⟩ := daaR_bd a f
  have hp : flagsOf (bitN (daaR a f) 0) (daaR a f == 0) (bitN (daaR a f) 2) (if bitN f 6 then bitN f 3 && decide (a % 16 < 6) else decide (9 < a % 16)) (bitN (daaR a f) 4) (evenB (daaR a f)) (bitN f 6) (bitN f 7 || decide (153 < a)) = daaF a f := rfl
  have hr : daaR a f = if bitN f 6 then (a - ((if bitN f 3 || decide (9 < a % 16) then 6 else 0) + (if bitN f 7 || decide (153 < a) then 96 else 0))) % 256 else (a + ((if bitN f 3 || decide (9 < a % 16) then 6 else 0) + (if bitN f 7 || decide (153 < a) then 96 else 0))) % 256 := rfl
  rw [e6, e3] at hp hr
  cases e7 : bitN f 7
  · by_cases g153 : 153 < a
    · by_cases g9 : 9 < a % 16
      · have HR := Lib.hid (show (a + 102) % 256 = daaR a f by rw [hr, e7]; simp [g9, g153])
        have HF := Lib.hid (show flagsOf (bitN (daaR a f) 0) (daaR a f == 0) (bitN (daaR a f) 2) (true) (bitN (daaR a f) 4) (evenB (daaR a f)) false true = daaF a f by rw [← hp, e7]; simp [g9, g153])
        have E7 := Lib.hid e7
        have E6 := Lib.hid e6
        have E3 := Lib.hid e3
        clear hr hp e7 e6 e3
        go_enter Try.func29, Try.ntmps29
        go_wp2_with fail
        refine (bits_any _ _ f0 f1).mono ?_
        rintro e w1 ⟨v, rfl, hv, hb1⟩
        obtain ⟨g, cap, rfl, hg, hc, hm, hcell⟩ := bits_cells hv
        have c3 := hcell 3 (by decide)
        rw [E3.out] at c3
        have c6 := hcell 6 (by decide)
        rw [E6.out] at c6
        have c7 := hcell 7 (by decide)
        rw [E7.out] at c7
        have hst : ∀ u u' : World, (fun w' => w'.cell? ⟨g, 6, none⟩ = some (.bool false) ∧ g < w'.heap.size ∧ Below w1.heap.size w1 w') u → Below u.heap.size u u' → (fun w' => w'.cell? ⟨g, 6, none⟩ = some (.bool false) ∧ g < w'.heap.size ∧ Below w1.heap.size w1 w') u' := fun u u' ⟨c0, kg, hB⟩ hb => ⟨(hb.cell kg).trans c0, Nat.lt_of_lt_of_le kg hb.size, below_step hB hb⟩
        have hS0 : (fun w' => w'.cell? ⟨g, 6, none⟩ = some (.bool false) ∧ g < w'.heap.size ∧ Below w1.heap.size w1 w') w1.drew := ⟨c6, hg, (Below.refl _ _).drew⟩
        have HST := Lib.hid hst
        clear hst hcell hv
        go_wp2_with fail
        refine (mod_eq _ (daaR a f) _ (by omega) (by omega) (by have := HR.out; omega)).mono ?_
        rintro e w' ⟨rfl, rfl⟩
        go_wp2_with fail
        go_region_held3 (fun w' => w'.cell? ⟨g, 6, none⟩ = some (.bool false) ∧ g < w'.heap.size ∧ Below w1.heap.size w1 w') (assumption) (first | (go_at_call 35; refine (bit_held HST.out _ _ _ r0 r1 (by decide) (by decide) (by assumption)).mono ?_; rintro e w' ⟨rfl, hSB⟩) | (go_at_call 49; refine (refEven_held HST.out _ _ r0 r1 (by assumption)).mono ?_; rintro e w' ⟨rfl, hSE⟩) | (go_at_call 44; refine (flags_held_is HST.out _ _ _ _ _ _ _ _ _ _ HF.out (by assumption)).mono ?_; rintro e w' ⟨rfl, hSF⟩))
        go_wp2_with fail
        go_ret2
        exact ⟨rfl, below_step hb1 hSF.2.2⟩
      · have d9 : decide (9 < a % 16) = false := decide_eq_false g9
        have HR := Lib.hid (show (a + 96) % 256 = daaR a f by rw [hr, e7]; simp [g9, g153])
        have HF := Lib.hid (show flagsOf (bitN (daaR a f) 0) (daaR a f == 0) (bitN (daaR a f) 2) (false) (bitN (daaR a f) 4) (evenB (daaR a f)) false true = daaF a f by rw [← hp, e7]; simp [g9, g153])
        have E7 := Lib.hid e7
        have E6 := Lib.hid e6
        have E3 := Lib.hid e3
        clear hr hp e7 e6 e3
        go_enter Try.func29, Try.ntmps29
        go_wp2_with fail
        refine (bits_any _ _ f0 f1).mono ?_
        rintro e w1 ⟨v, rfl, hv, hb1⟩
        obtain ⟨g, cap, rfl, hg, hc, hm, hcell⟩ := bits_cells hv
        have c3 := hcell 3 (by decide)
        rw [E3.out] at c3
        have c6 := hcell 6 (by decide)
        rw [E6.out] at c6
        have c7 := hcell 7 (by decide)
        rw [E7.out] at c7
        have hst : ∀ u u' : World, (fun w' => w'.cell? ⟨g, 6, none⟩ = some (.bool false) ∧ g < w'.heap.size ∧ Below w1.heap.size w1 w') u → Below u.heap.size u u' → (fun w' => w'.cell? ⟨g, 6, none⟩ = some (.bool false) ∧ g < w'.heap.size ∧ Below w1.heap.size w1 w') u' := fun u u' ⟨c0, kg, hB⟩ hb => ⟨(hb.cell kg).trans c0, Nat.lt_of_lt_of_le kg hb.size, below_step hB hb⟩
        have hS0 : (fun w' => w'.cell? ⟨g, 6, none⟩ = some (.bool false) ∧ g < w'.heap.size ∧ Below w1.heap.size w1 w') w1.drew := ⟨c6, hg, (Below.refl _ _).drew⟩
        have HST := Lib.hid hst
        clear hst hcell hv
        go_wp2_with fail
        refine (mod_eq _ (daaR a f) _ (by omega) (by omega) (by have := HR.out; omega)).mono ?_
        rintro e w' ⟨rfl, rfl⟩
        go_wp2_with fail
        go_region_held3 (fun w' => w'.cell? ⟨g, 6, none⟩ = some (.bool false) ∧ g < w'.heap.size ∧ Below w1.heap.size w1 w') (assumption) (first | (go_at_call 35; refine (bit_held HST.out _ _ _ r0 r1 (by decide) (by decide) (by assumption)).mono ?_; rintro e w' ⟨rfl, hSB⟩) | (go_at_call 49; refine (refEven_held HST.out _ _ r0 r1 (by assumption)).mono ?_; rintro e w' ⟨rfl, hSE⟩) | (go_at_call 44; refine (flags_held_is HST.out _ _ _ _ _ _ _ _ _ _ HF.out (by assumption)).mono ?_; rintro e w' ⟨rfl, hSF⟩))
        go_wp2_with fail
        go_ret2
        exact ⟨rfl, below_step hb1 hSF.2.2⟩
    · by_cases g9 : 9 < a % 16
      · have d153 : decide (153 < a) = false := decide_eq_false g153
        have HR := Lib.hid (show (a + 6) % 256 = daaR a f by rw [hr, e7]; simp [g9, g153])
        have HF := Lib.hid (show flagsOf (bitN (daaR a f) 0) (daaR a f == 0) (bitN (daaR a f) 2) (true) (bitN (daaR a f) 4) (evenB (daaR a f)) false false = daaF a f by rw [← hp, e7]; simp [g9, g153])
        have E7 := Lib.hid e7
        have E6 := Lib.hid e6
        have E3 := Lib.hid e3
        clear hr hp e7 e6 e3
        go_enter Try.func29, Try.ntmps29
        go_wp2_with fail
        refine (bits_any _ _ f0 f1).mono ?_
        rintro e w1 ⟨v, rfl, hv, hb1⟩
        obtain ⟨g, cap, rfl, hg, hc, hm, hcell⟩ := bits_cells hv
        have c3 := hcell 3 (by decide)
        rw [E3.out] at c3
        have c6 := hcell 6 (by decide)
        rw [E6.out] at c6
        have c7 := hcell 7 (by decide)
        rw [E7.out] at c7
        have hst : ∀ u u' : World, (fun w' => w'.cell? ⟨g, 6, none⟩ = some (.bool false) ∧ g < w'.heap.size ∧ Below w1.heap.size w1 w') u → Below u.heap.size u u' → (fun w' => w'.cell? ⟨g, 6, none⟩ = some (.bool false) ∧ g < w'.heap.size ∧ Below w1.heap.size w1 w') u' := fun u u' ⟨c0, kg, hB⟩ hb => ⟨(hb.cell kg).trans c0, Nat.lt_of_lt_of_le kg hb.size, below_step hB hb⟩
        have hS0 : (fun w' => w'.cell? ⟨g, 6, none⟩ = some (.bool false) ∧ g < w'.heap.size ∧ Below w1.heap.size w1 w') w1.drew := ⟨c6, hg, (Below.refl _ _).drew⟩
        have HST := Lib.hid hst
        clear hst hcell hv
        go_wp2_with fail
        refine (mod_eq _ (daaR a f) _ (by omega) (by omega) (by have := HR.out; omega)).mono ?_
        rintro e w' ⟨rfl, rfl⟩
        go_wp2_with fail
        go_region_held3 (fun w' => w'.cell? ⟨g, 6, none⟩ = some (.bool false) ∧ g < w'.heap.size ∧ Below w1.heap.size w1 w') (assumption) (first | (go_at_call 35; refine (bit_held HST.out _ _ _ r0 r1 (by decide) (by decide) (by assumption)).mono ?_; rintro e w' ⟨rfl, hSB⟩) | (go_at_call 49; refine (refEven_held HST.out _ _ r0 r1 (by assumption)).mono ?_; rintro e w' ⟨rfl, hSE⟩) | (go_at_call 44; refine (flags_held_is HST.out _ _ _ _ _ _ _ _ _ _ HF.out (by assumption)).mono ?_; rintro e w' ⟨rfl, hSF⟩))
        go_wp2_with fail
        go_ret2
        exact ⟨rfl, below_step hb1 hSF.2.2⟩
      · have d9 : decide (9 < a % 16) = false := decide_eq_false g9
        have d153 : decide (153 < a) = false := decide_eq_false g153
        have HR := Lib.hid (show (a + 0) % 256 = daaR a f by rw [hr, e7]; simp [g9, g153])
        have HF := Lib.hid (show flagsOf (bitN (daaR a f) 0) (daaR a f == 0) (bitN (daaR a f) 2) (false) (bitN (daaR a f) 4) (evenB (daaR a f)) false false = daaF a f by rw [← hp, e7]; simp [g9, g153])
        have E7 := Lib.hid e7
        have E6 := Lib.hid e6
        have E3 := Lib.hid e3
        clear hr hp e7 e6 e3
        go_enter Try.func29, Try.ntmps29
        go_wp2_with fail
        refine (bits_any _ _ f0 f1).mono ?_
        rintro e w1 ⟨v, rfl, hv, hb1⟩
        obtain ⟨g, cap, rfl, hg, hc, hm, hcell⟩ := bits_cells hv
        have c3 := hcell 3 (by decide)
        rw [E3.out] at c3
        have c6 := hcell 6 (by decide)
        rw [E6.out] at c6
        have c7 := hcell 7 (by decide)
        rw [E7.out] at c7
        have hst : ∀ u u' : World, (fun w' => w'.cell? ⟨g, 6, none⟩ = some (.bool false) ∧ g < w'.heap.size ∧ Below w1.heap.size w1 w') u → Below u.heap.size u u' → (fun w' => w'.cell? ⟨g, 6, none⟩ = some (.bool false) ∧ g < w'.heap.size ∧ Below w1.heap.size w1 w') u' := fun u u' ⟨c0, kg, hB⟩ hb => ⟨(hb.cell kg).trans c0, Nat.lt_of_lt_of_le kg hb.size, below_step hB hb⟩
        have hS0 : (fun w' => w'.cell? ⟨g, 6, none⟩ = some (.bool false) ∧ g < w'.heap.size ∧ Below w1.heap.size w1 w') w1.drew := ⟨c6, hg, (Below.refl _ _).drew⟩
        have HST := Lib.hid hst
        clear hst hcell hv
        go_wp2_with fail
        refine (mod_eq _ (daaR a f) _ (by omega) (by omega) (by have := HR.out; omega)).mono ?_
        rintro e w' ⟨rfl, rfl⟩
        go_wp2_with fail
        go_region_held3 (fun w' => w'.cell? ⟨g, 6, none⟩ = some (.bool false) ∧ g < w'.heap.size ∧ Below w1.heap.size w1 w') (assumption) (first | (go_at_call 35; refine (bit_held HST.out _ _ _ r0 r1 (by decide) (by decide) (by assumption)).mono ?_; rintro e w' ⟨rfl, hSB⟩) | (go_at_call 49; refine (refEven_held HST.out _ _ r0 r1 (by assumption)).mono ?_; rintro e w' ⟨rfl, hSE⟩) | (go_at_call 44; refine (flags_held_is HST.out _ _ _ _ _ _ _ _ _ _ HF.out (by assumption)).mono ?_; rintro e w' ⟨rfl, hSF⟩))
        go_wp2_with fail
        go_ret2
        exact ⟨rfl, below_step hb1 hSF.2.2⟩
  · by_cases g9 : 9 < a % 16
    · have HR := Lib.hid (show (a + 102) % 256 = daaR a f by rw [hr, e7]; simp [g9])
      have HF := Lib.hid (show flagsOf (bitN (daaR a f) 0) (daaR a f == 0) (bitN (daaR a f) 2) (true) (bitN (daaR a f) 4) (evenB (daaR a f)) false true = daaF a f by rw [← hp, e7]; simp [g9])
      have E7 := Lib.hid e7
      have E6 := Lib.hid e6
      have E3 := Lib.hid e3
      clear hr hp e7 e6 e3
      go_enter Try.func29, Try.ntmps29
      go_wp2_with fail
      refine (bits_any _ _ f0 f1).mono ?_
      rintro e w1 ⟨v, rfl, hv, hb1⟩
      obtain ⟨g, cap, rfl, hg, hc, hm, hcell⟩ := bits_cells hv
      have c3 := hcell 3 (by decide)
      rw [E3.out] at c3
      have c6 := hcell 6 (by decide)
      rw [E6.out] at c6
      have c7 := hcell 7 (by decide)
      rw [E7.out] at c7
      have hst : ∀ u u' : World, (fun w' => w'.cell? ⟨g, 6, none⟩ = some (.bool false) ∧ g < w'.heap.size ∧ Below w1.heap.size w1 w') u → Below u.heap.size u u' → (fun w' => w'.cell? ⟨g, 6, none⟩ = some (.bool false) ∧ g < w'.heap.size ∧ Below w1.heap.size w1 w') u' := fun u u' ⟨c0, kg, hB⟩ hb => ⟨(hb.cell kg).trans c0, Nat.lt_of_lt_of_le kg hb.size, below_step hB hb⟩
      have hS0 : (fun w' => w'.cell? ⟨g, 6, none⟩ = some (.bool false) ∧ g < w'.heap.size ∧ Below w1.heap.size w1 w') w1.drew := ⟨c6, hg, (Below.refl _ _).drew⟩
      have HST := Lib.hid hst
      clear hst hcell hv
      go_wp2_with fail
      refine (mod_eq _ (daaR a f) _ (by omega) (by omega) (by have := HR.out; omega)).mono ?_
      rintro e w' ⟨rfl, rfl⟩
      go_wp2_with fail
      go_region_held3 (fun w' => w'.cell? ⟨g, 6, none⟩ = some (.bool false) ∧ g < w'.heap.size ∧ Below w1.heap.size w1 w') (assumption) (first | (go_at_call 35; refine (bit_held HST.out _ _ _ r0 r1 (by decide) (by decide) (by assumption)).mono ?_; rintro e w' ⟨rfl, hSB⟩) | (go_at_call 49; refine (refEven_held HST.out _ _ r0 r1 (by assumption)).mono ?_; rintro e w' ⟨rfl, hSE⟩) | (go_at_call 44; refine (flags_held_is HST.out _ _ _ _ _ _ _ _ _ _ HF.out (by assumption)).mono ?_; rintro e w' ⟨rfl, hSF⟩))
      go_wp2_with fail
      go_ret2
      exact ⟨rfl, below_step hb1 hSF.2.2⟩
    · have d9 : decide (9 < a % 16) = false := decide_eq_false g9
      have HR := Lib.hid (show (a + 96) % 256 = daaR a f by rw [hr, e7]; simp [g9])
      have HF := Lib.hid (show flagsOf (bitN (daaR a f) 0) (daaR a f == 0) (bitN (daaR a f) 2) (false) (bitN (daaR a f) 4) (evenB (daaR a f)) false true = daaF a f by rw [← hp, e7]; simp [g9])
      have E7 := Lib.hid e7
      have E6 := Lib.hid e6
      have E3 := Lib.hid e3
      clear hr hp e7 e6 e3
      go_enter Try.func29, Try.ntmps29
      go_wp2_with fail
      refine (bits_any _ _ f0 f1).mono ?_
      rintro e w1 ⟨v, rfl, hv, hb1⟩
      obtain ⟨g, cap, rfl, hg, hc, hm, hcell⟩ := bits_cells hv
      have c3 := hcell 3 (by decide)
      rw [E3.out] at c3
      have c6 := hcell 6 (by decide)
      rw [E6.out] at c6
      have c7 := hcell 7 (by decide)
      rw [E7.out] at c7
      have hst : ∀ u u' : World, (fun w' => w'.cell? ⟨g, 6, none⟩ = some (.bool false) ∧ g < w'.heap.size ∧ Below w1.heap.size w1 w') u → Below u.heap.size u u' → (fun w' => w'.cell? ⟨g, 6, none⟩ = some (.bool false) ∧ g < w'.heap.size ∧ Below w1.heap.size w1 w') u' := fun u u' ⟨c0, kg, hB⟩ hb => ⟨(hb.cell kg).trans c0, Nat.lt_of_lt_of_le kg hb.size, below_step hB hb⟩
      have hS0 : (fun w' => w'.cell? ⟨g, 6, none⟩ = some (.bool false) ∧ g < w'.heap.size ∧ Below w1.heap.size w1 w') w1.drew := ⟨c6, hg, (Below.refl _ _).drew⟩
      have HST := Lib.hid hst
      clear hst hcell hv
      go_wp2_with fail
      refine (mod_eq _ (daaR a f) _ (by omega) (by omega) (by have := HR.out; omega)).mono ?_
      rintro e w' ⟨rfl, rfl⟩
      go_wp2_with fail
      go_region_held3 (fun w' => w'.cell? ⟨g, 6, none⟩ = some (.bool false) ∧ g < w'.heap.size ∧ Below w1.heap.size w1 w') (assumption) (first | (go_at_call 35; refine (bit_held HST.out _ _ _ r0 r1 (by decide) (by decide) (by assumption)).mono ?_; rintro e w' ⟨rfl, hSB⟩) | (go_at_call 49; refine (refEven_held HST.out _ _ r0 r1 (by assumption)).mono ?_; rintro e w' ⟨rfl, hSE⟩) | (go_at_call 44; refine (flags_held_is HST.out _ _ _ _ _ _ _ _ _ _ HF.out (by assumption)).mono ?_; rintro e w' ⟨rfl, hSF⟩))
      go_wp2_with fail
      go_ret2
      exact ⟨rfl, below_step hb1 hSF.2.2⟩

theorem refDaa_any (a f : Int) (w : World) (a0 : 0 ≤ a) (a1 : a ≤ 255) (f0 : 0 ≤ f) (f1 : f ≤ 255) :
    Calls Try.prog 29 #[.int .u8 a, .int .u8 f] w fun e w' => e = .returned (.tuple #[.int .u8 (daaR a f), .int .u8 (daaF a f)]) ∧ Below w.heap.size w w' := by
  cases e6 : bitN f 6
  · cases e3 : bitN f 3
    · exact refDaa_pn a f w a0 a1 f0 f1 e6 e3
    · exact refDaa_ph a f w a0 a1 f0 f1 e6 e3
  · cases e3 : bitN f 3
    · exact refDaa_mn a f w a0 a1 f0 f1 e6 e3
    · exact refDaa_mh a f w a0 a1 f0 f1 e6 e3

end Go.Proofs.Ytndnadcmekjmnaa
