/- alu.Daa: its contract. -/
import Derived.Test.YtndnadcmekjmnaaAluMore
namespace Go.Proofs.Ytndnadcmekjmnaa
open Go.RowKit

theorem ofP_eq (x b : Int) (w : World) (h0 : 0 ≤ b) (h1 : b ≤ 255) (h : x = b) : Calls Try.prog 47 #[.int .u8 x] w fun e w' => e = .returned (.int .u8 (ofPB b)) ∧ w = w' := by
  subst h; exact ofP_any x w h0 h1
theorem ret2_eq {k : IntKind} {x y : Int} (h : x = y) (v : Value) : Ending.returned (.tuple #[.int k x, v]) = .returned (.tuple #[.int k y, v]) := by rw [h]

set_option maxHeartbeats 4000000 in
theorem daa_mh (a f : Int) (w : World) (a0 : 0 ≤ a) (a1 : a ≤ 255) (f0 : 0 ≤ f) (f1 : f ≤ 255) (e6 : bitN f 6 = true) (e3 : bitN f 3 = true) :
    Calls Try.prog 27 #[.int .u8 a, .int .u8 f] w fun e w' => e = .returned (.tuple #[.int .u8 (daaR a f), .int .u8 (daaF a f)]) ∧ Below w.heap.size w w' := by
  obtain ⟨r0, r1⟩ := daaR_bd a f
  have R0 := Lib.hid r0
  have R1 := Lib.hid r1
  have hp := daa_put a f
  have hr : daaR a f = if bitN f 6 then (a - ((if bitN f 3 || decide (9 < a % 16) then 6 else 0) + (if bitN f 7 || decide (153 < a) then 96 else 0))) % 256 else (a + ((if bitN f 3 || decide (9 < a % 16) then 6 else 0) + (if bitN f 7 || decide (153 < a) then 96 else 0))) % 256 := rfl
  have hh : daaH a f = if bitN f 6 then bitN f 3 && decide (a % 16 < 6) else decide (9 < a % 16) := rfl
  have H2 := Lib.hid ((has_2 f f0 f1).trans e6)
  have H16 := Lib.hid ((has_16 f f0 f1).trans e3)
  have hC := has_1 f f0 f1
  rw [hh] at hp
  rw [e6, e3] at hp hr
  clear hh r0 r1 e6 e3
  generalize bitN f 7 = l7 at *
  cases l7
  · by_cases g153 : 153 < a
    · have HR := Lib.hid (show daaR a f = (a - 102) % 256 by rw [hr]; simp [g153])
      have HP := Lib.hid (show putB (ofPB (daaR a f)) [(16, decide (a % 16 < 6)), (2, true), (1, true)] = daaF a f by rw [← hp]; simp [g153])
      have HC := Lib.hid hC
      clear hr hp hC
      go_enter Try.func27, Try.ntmps27
      go_wp2_with fail
      refine (has_is _ _ _ _ H2.out).mono ?_
      rintro e w' ⟨rfl, rfl⟩
      go_wp2_with fail
      refine (has_is _ _ _ _ H16.out).mono ?_
      rintro e w' ⟨rfl, rfl⟩
      go_wp2_with fail
      refine (has_is _ _ _ _ HC.out).mono ?_
      rintro e w' ⟨rfl, rfl⟩
      go_wp2_with fail
      refine (low_any _ _ a0 a1).mono ?_
      rintro e w' ⟨rfl, rfl⟩
      go_wp2_with fail
      refine (low_any _ _ a0 a1).mono ?_
      rintro e w' ⟨rfl, rfl⟩
      go_wp2_with fail
      refine (ofP_eq _ (daaR a f) _ R0.out R1.out (by have := HR.out; omega)).mono ?_
      rintro e w' ⟨rfl, rfl⟩
      go_wp2_with fail
      refine (put3 _ _ _ _ _ _ _ _ _ _ HP.out).mono ?_
      rintro e w1 ⟨rfl, hb1⟩
      go_wp2_with fail
      go_ret2
      exact ⟨ret2_eq (by have := HR.out; omega) _, hb1⟩
    · have d153 : decide (153 < a) = false := decide_eq_false g153
      have HR := Lib.hid (show daaR a f = (a - 6) % 256 by rw [hr]; simp [g153])
      have HP := Lib.hid (show putB (ofPB (daaR a f)) [(16, decide (a % 16 < 6)), (2, true), (1, false)] = daaF a f by rw [← hp]; simp [g153])
      have HC := Lib.hid hC
      clear hr hp hC
      go_enter Try.func27, Try.ntmps27
      go_wp2_with fail
      refine (has_is _ _ _ _ H2.out).mono ?_
      rintro e w' ⟨rfl, rfl⟩
      go_wp2_with fail
      refine (has_is _ _ _ _ H16.out).mono ?_
      rintro e w' ⟨rfl, rfl⟩
      go_wp2_with fail
      refine (has_is _ _ _ _ HC.out).mono ?_
      rintro e w' ⟨rfl, rfl⟩
      go_wp2_with fail
      refine (low_any _ _ a0 a1).mono ?_
      rintro e w' ⟨rfl, rfl⟩
      go_wp2_with fail
      refine (low_any _ _ a0 a1).mono ?_
      rintro e w' ⟨rfl, rfl⟩
      go_wp2_with fail
      refine (ofP_eq _ (daaR a f) _ R0.out R1.out (by have := HR.out; omega)).mono ?_
      rintro e w' ⟨rfl, rfl⟩
      go_wp2_with fail
      refine (put3 _ _ _ _ _ _ _ _ _ _ HP.out).mono ?_
      rintro e w1 ⟨rfl, hb1⟩
      go_wp2_with fail
      go_ret2
      exact ⟨ret2_eq (by have := HR.out; omega) _, hb1⟩
  · have HR := Lib.hid (show daaR a f = (a - 102) % 256 by rw [hr]; simp)
    have HP := Lib.hid (show putB (ofPB (daaR a f)) [(16, decide (a % 16 < 6)), (2, true), (1, true)] = daaF a f by rw [← hp]; simp)
    have HC := Lib.hid hC
    clear hr hp hC
    go_enter Try.func27, Try.ntmps27
    go_wp2_with fail
    refine (has_is _ _ _ _ H2.out).mono ?_
    rintro e w' ⟨rfl, rfl⟩
    go_wp2_with fail
    refine (has_is _ _ _ _ H16.out).mono ?_
    rintro e w' ⟨rfl, rfl⟩
    go_wp2_with fail
    refine (has_is _ _ _ _ HC.out).mono ?_
    rintro e w' ⟨rfl, rfl⟩
    go_wp2_with fail
    refine (low_any _ _ a0 a1).mono ?_
    rintro e w' ⟨rfl, rfl⟩
    go_wp2_with fail
    refine (low_any _ _ a0 a1).mono ?_
    rintro e w' ⟨rfl, rfl⟩
    go_wp2_with fail
    refine (ofP_eq _ (daaR a f) _ R0.out R1.out (by have := HR.out; omega)).mono ?_
    rintro e w' ⟨rfl, rfl⟩
    go_wp2_with fail
    refine (put3 _ _ _ _ _ _ _ _ _ _ HP.out).mono ?_
    rintro e w1 ⟨rfl, hb1⟩
    go_wp2_with fail
    go_ret2
    exact ⟨ret2_eq (by have := HR.out; omega) _, hb1⟩

set_option maxHeartbeats 4000000 in
theorem daa_mn (a f : Int) (w : World) (a0 : 0 ≤ a) (a1 : a ≤ 255) (f0 : 0 ≤ f) (f1 : f ≤ 255) (e6 : bitN f 6 = true) (e3 : bitN f 3 = false) :
    Calls Try.prog 27 #[.int .u8 a, .int .u8 f] w fun e w' => e = .returned (.tuple #[.int .u8 (daaR a f), .int .u8 (daaF a f)]) ∧ Below w.heap.size w w' := by
  obtain ⟨r0, r1⟩ := daaR_bd a f
  have R0 := Lib.hid r0
  have R1 := Lib.hid r1
  have hp := daa_put a f
  have hr : daaR a f = if bitN f 6 then (a - ((if bitN f 3 || decide (9 < a % 16) then 6 else 0) + (if bitN f 7 || decide (153 < a) then 96 else 0))) % 256 else (a + ((if bitN f 3 || decide (9 < a % 16) then 6 else 0) + (if bitN f 7 || decide (153 < a) then 96 else 0))) % 256 := rfl
  have hh : daaH a f = if bitN f 6 then bitN f 3 && decide (a % 16 < 6) else decide (9 < a % 16) := rfl
  have H2 := Lib.hid ((has_2 f f0 f1).trans e6)
  have H16 := Lib.hid ((has_16 f f0 f1).trans e3)
  have hC := has_1 f f0 f1
  rw [hh] at hp
  rw [e6, e3] at hp hr
  clear hh r0 r1 e6 e3
  generalize bitN f 7 = l7 at *
  by_cases g9 : 9 < a % 16
  · cases l7
    · by_cases g153 : 153 < a
      · have HR := Lib.hid (show daaR a f = (a - 102) % 256 by rw [hr]; simp [g9, g153])
        have HP := Lib.hid (show putB (ofPB (daaR a f)) [(16, false), (2, true), (1, true)] = daaF a f by rw [← hp]; simp [g153])
        have HC := Lib.hid hC
        clear hr hp hC
        go_enter Try.func27, Try.ntmps27
        go_wp2_with fail
        refine (has_is _ _ _ _ H2.out).mono ?_
        rintro e w' ⟨rfl, rfl⟩
        go_wp2_with fail
        refine (has_is _ _ _ _ H16.out).mono ?_
        rintro e w' ⟨rfl, rfl⟩
        go_wp2_with fail
        refine (has_is _ _ _ _ HC.out).mono ?_
        rintro e w' ⟨rfl, rfl⟩
        go_wp2_with fail
        refine (low_any _ _ a0 a1).mono ?_
        rintro e w' ⟨rfl, rfl⟩
        go_wp2_with fail
        refine (low_any _ _ a0 a1).mono ?_
        rintro e w' ⟨rfl, rfl⟩
        go_wp2_with fail
        refine (ofP_eq _ (daaR a f) _ R0.out R1.out (by have := HR.out; omega)).mono ?_
        rintro e w' ⟨rfl, rfl⟩
        go_wp2_with fail
        refine (put3 _ _ _ _ _ _ _ _ _ _ HP.out).mono ?_
        rintro e w1 ⟨rfl, hb1⟩
        go_wp2_with fail
        go_ret2
        exact ⟨ret2_eq (by have := HR.out; omega) _, hb1⟩
      · have d153 : decide (153 < a) = false := decide_eq_false g153
        have HR := Lib.hid (show daaR a f = (a - 6) % 256 by rw [hr]; simp [g9, g153])
        have HP := Lib.hid (show putB (ofPB (daaR a f)) [(16, false), (2, true), (1, false)] = daaF a f by rw [← hp]; simp [g153])
        have HC := Lib.hid hC
        clear hr hp hC
        go_enter Try.func27, Try.ntmps27
        go_wp2_with fail
        refine (has_is _ _ _ _ H2.out).mono ?_
        rintro e w' ⟨rfl, rfl⟩
        go_wp2_with fail
        refine (has_is _ _ _ _ H16.out).mono ?_
        rintro e w' ⟨rfl, rfl⟩
        go_wp2_with fail
        refine (has_is _ _ _ _ HC.out).mono ?_
        rintro e w' ⟨rfl, rfl⟩
        go_wp2_with fail
        refine (low_any _ _ a0 a1).mono ?_
        rintro e w' ⟨rfl, rfl⟩
        go_wp2_with fail
        refine (low_any _ _ a0 a1).mono ?_
        rintro e w' ⟨rfl, rfl⟩
        go_wp2_with fail
        refine (ofP_eq _ (daaR a f) _ R0.out R1.out (by have := HR.out; omega)).mono ?_
        rintro e w' ⟨rfl, rfl⟩
        go_wp2_with fail
        refine (put3 _ _ _ _ _ _ _ _ _ _ HP.out).mono ?_
        rintro e w1 ⟨rfl, hb1⟩
        go_wp2_with fail
        go_ret2
        exact ⟨ret2_eq (by have := HR.out; omega) _, hb1⟩
    · have HR := Lib.hid (show daaR a f = (a - 102) % 256 by rw [hr]; simp [g9])
      have HP := Lib.hid (show putB (ofPB (daaR a f)) [(16, false), (2, true), (1, true)] = daaF a f by rw [← hp]; simp)
      have HC := Lib.hid hC
      clear hr hp hC
      go_enter Try.func27, Try.ntmps27
      go_wp2_with fail
      refine (has_is _ _ _ _ H2.out).mono ?_
      rintro e w' ⟨rfl, rfl⟩
      go_wp2_with fail
      refine (has_is _ _ _ _ H16.out).mono ?_
      rintro e w' ⟨rfl, rfl⟩
      go_wp2_with fail
      refine (has_is _ _ _ _ HC.out).mono ?_
      rintro e w' ⟨rfl, rfl⟩
      go_wp2_with fail
      refine (low_any _ _ a0 a1).mono ?_
      rintro e w' ⟨rfl, rfl⟩
      go_wp2_with fail
      refine (low_any _ _ a0 a1).mono ?_
      rintro e w' ⟨rfl, rfl⟩
      go_wp2_with fail
      refine (ofP_eq _ (daaR a f) _ R0.out R1.out (by have := HR.out; omega)).mono ?_
      rintro e w' ⟨rfl, rfl⟩
      go_wp2_with fail
      refine (put3 _ _ _ _ _ _ _ _ _ _ HP.out).mono ?_
      rintro e w1 ⟨rfl, hb1⟩
      go_wp2_with fail
      go_ret2
      exact ⟨ret2_eq (by have := HR.out; omega) _, hb1⟩
  · have d9 : decide (9 < a % 16) = false := decide_eq_false g9
    cases l7
    · by_cases g153 : 153 < a
      · have HR := Lib.hid (show daaR a f = (a - 96) % 256 by rw [hr]; simp [g9, g153])
        have HP := Lib.hid (show putB (ofPB (daaR a f)) [(16, false), (2, true), (1, true)] = daaF a f by rw [← hp]; simp [g153])
        have HC := Lib.hid hC
        clear hr hp hC
        go_enter Try.func27, Try.ntmps27
        go_wp2_with fail
        refine (has_is _ _ _ _ H2.out).mono ?_
        rintro e w' ⟨rfl, rfl⟩
        go_wp2_with fail
        refine (has_is _ _ _ _ H16.out).mono ?_
        rintro e w' ⟨rfl, rfl⟩
        go_wp2_with fail
        refine (has_is _ _ _ _ HC.out).mono ?_
        rintro e w' ⟨rfl, rfl⟩
        go_wp2_with fail
        refine (low_any _ _ a0 a1).mono ?_
        rintro e w' ⟨rfl, rfl⟩
        go_wp2_with fail
        refine (low_any _ _ a0 a1).mono ?_
        rintro e w' ⟨rfl, rfl⟩
        go_wp2_with fail
        refine (ofP_eq _ (daaR a f) _ R0.out R1.out (by have := HR.out; omega)).mono ?_
        rintro e w' ⟨rfl, rfl⟩
        go_wp2_with fail
        refine (put3 _ _ _ _ _ _ _ _ _ _ HP.out).mono ?_
        rintro e w1 ⟨rfl, hb1⟩
        go_wp2_with fail
        go_ret2
        exact ⟨ret2_eq (by have := HR.out; omega) _, hb1⟩
      · have d153 : decide (153 < a) = false := decide_eq_false g153
        have HR := Lib.hid (show daaR a f = (a - 0) % 256 by rw [hr]; simp [g9, g153])
        have HP := Lib.hid (show putB (ofPB (daaR a f)) [(16, false), (2, true), (1, false)] = daaF a f by rw [← hp]; simp [g153])
        have HC := Lib.hid hC
        clear hr hp hC
        go_enter Try.func27, Try.ntmps27
        go_wp2_with fail
        refine (has_is _ _ _ _ H2.out).mono ?_
        rintro e w' ⟨rfl, rfl⟩
        go_wp2_with fail
        refine (has_is _ _ _ _ H16.out).mono ?_
        rintro e w' ⟨rfl, rfl⟩
        go_wp2_with fail
        refine (has_is _ _ _ _ HC.out).mono ?_
        rintro e w' ⟨rfl, rfl⟩
        go_wp2_with fail
        refine (low_any _ _ a0 a1).mono ?_
        rintro e w' ⟨rfl, rfl⟩
        go_wp2_with fail
        refine (low_any _ _ a0 a1).mono ?_
        rintro e w' ⟨rfl, rfl⟩
        go_wp2_with fail
        refine (ofP_eq _ (daaR a f) _ R0.out R1.out (by have := HR.out; omega)).mono ?_
        rintro e w' ⟨rfl, rfl⟩
        go_wp2_with fail
        refine (put3 _ _ _ _ _ _ _ _ _ _ HP.out).mono ?_
        rintro e w1 ⟨rfl, hb1⟩
        go_wp2_with fail
        go_ret2
        exact ⟨ret2_eq (by have := HR.out; omega) _, hb1⟩
    · have HR := Lib.hid (show daaR a f = (a - 96) % 256 by rw [hr]; simp [g9])
      have HP := Lib.hid (show putB (ofPB (daaR a f)) [(16, false), (2, true), (1, true)] = daaF a f by rw [← hp]; simp)
      have HC := Lib.hid hC
      clear hr hp hC
      go_enter Try.func27, Try.ntmps27
      go_wp2_with fail
      refine (has_is _ _ _ _ H2.out).mono ?_
      rintro e w' ⟨rfl, rfl⟩
      go_wp2_with fail
      refine (has_is _ _ _ _ H16.out).mono ?_
      rintro e w' ⟨rfl, rfl⟩
      go_wp2_with fail
      refine (has_is _ _ _ _ HC.out).mono ?_
      rintro e w' ⟨rfl, rfl⟩
      go_wp2_with fail
      refine (low_any _ _ a0 a1).mono ?_
      rintro e w' ⟨rfl, rfl⟩
      go_wp2_with fail
      refine (low_any _ _ a0 a1).mono ?_
      rintro e w' ⟨rfl, rfl⟩
      go_wp2_with fail
      refine (ofP_eq _ (daaR a f) _ R0.out R1.out (by have := HR.out; omega)).mono ?_
      rintro e w' ⟨rfl, rfl⟩
      go_wp2_with fail
      refine (put3 _ _ _ _ _ _ _ _ _ _ HP.out).mono ?_
      rintro e w1 ⟨rfl, hb1⟩
      go_wp2_with fail
      go_ret2
      exact ⟨ret2_eq (by have := HR.out; omega) _, hb1⟩

set_option maxHeartbeats 4000000 in
theorem daa_ph (a f : Int) (w : World) (a0 : 0 ≤ a) (a1 : a ≤ 255) (f0 : 0 ≤ f) (f1 : f ≤ 255) (e6 : bitN f 6 = false) (e3 : bitN f 3 = true) :
    Calls Try.prog 27 #[.int .u8 a, .int .u8 f] w fun e w' => e = .returned (.tuple #[.int .u8 (daaR a f), .int .u8 (daaF a f)]) ∧ Below w.heap.size w w' := by
  obtain ⟨r0, r1⟩ := daaR_bd a f
  have R0 := Lib.hid r0
  have R1 := Lib.hid r1
  have hp := daa_put a f
  have hr : daaR a f = if bitN f 6 then (a - ((if bitN f 3 || decide (9 < a % 16) then 6 else 0) + (if bitN f 7 || decide (153 < a) then 96 else 0))) % 256 else (a + ((if bitN f 3 || decide (9 < a % 16) then 6 else 0) + (if bitN f 7 || decide (153 < a) then 96 else 0))) % 256 := rfl
  have hh : daaH a f = if bitN f 6 then bitN f 3 && decide (a % 16 < 6) else decide (9 < a % 16) := rfl
  have H2 := Lib.hid ((has_2 f f0 f1).trans e6)
  have H16 := Lib.hid ((has_16 f f0 f1).trans e3)
  have hC := has_1 f f0 f1
  rw [hh] at hp
  rw [e6, e3] at hp hr
  clear hh r0 r1 e6 e3
  generalize bitN f 7 = l7 at *
  cases l7
  · by_cases g153 : 153 < a
    · have HR := Lib.hid (show daaR a f = (a + 102) % 256 by rw [hr]; simp [g153])
      have HP := Lib.hid (show putB (ofPB (daaR a f)) [(16, decide (9 < a % 16)), (2, false), (1, true)] = daaF a f by rw [← hp]; simp [g153])
      have HC := Lib.hid hC
      clear hr hp hC
      go_enter Try.func27, Try.ntmps27
      go_wp2_with fail
      refine (has_is _ _ _ _ H2.out).mono ?_
      rintro e w' ⟨rfl, rfl⟩
      go_wp2_with fail
      refine (has_is _ _ _ _ H16.out).mono ?_
      rintro e w' ⟨rfl, rfl⟩
      go_wp2_with fail
      refine (has_is _ _ _ _ HC.out).mono ?_
      rintro e w' ⟨rfl, rfl⟩
      go_wp2_with fail
      refine (low_any _ _ a0 a1).mono ?_
      rintro e w' ⟨rfl, rfl⟩
      go_wp2_with fail
      refine (ofP_eq _ (daaR a f) _ R0.out R1.out (by have := HR.out; omega)).mono ?_
      rintro e w' ⟨rfl, rfl⟩
      go_wp2_with fail
      refine (put3 _ _ _ _ _ _ _ _ _ _ HP.out).mono ?_
      rintro e w1 ⟨rfl, hb1⟩
      go_wp2_with fail
      go_ret2
      exact ⟨ret2_eq (by have := HR.out; omega) _, hb1⟩
    · have d153 : decide (153 < a) = false := decide_eq_false g153
      have HR := Lib.hid (show daaR a f = (a + 6) % 256 by rw [hr]; simp [g153])
      have HP := Lib.hid (show putB (ofPB (daaR a f)) [(16, decide (9 < a % 16)), (2, false), (1, false)] = daaF a f by rw [← hp]; simp [g153])
      have HC := Lib.hid hC
      clear hr hp hC
      go_enter Try.func27, Try.ntmps27
      go_wp2_with fail
      refine (has_is _ _ _ _ H2.out).mono ?_
      rintro e w' ⟨rfl, rfl⟩
      go_wp2_with fail
      refine (has_is _ _ _ _ H16.out).mono ?_
      rintro e w' ⟨rfl, rfl⟩
      go_wp2_with fail
      refine (has_is _ _ _ _ HC.out).mono ?_
      rintro e w' ⟨rfl, rfl⟩
      go_wp2_with fail
      refine (low_any _ _ a0 a1).mono ?_
      rintro e w' ⟨rfl, rfl⟩
      go_wp2_with fail
      refine (ofP_eq _ (daaR a f) _ R0.out R1.out (by have := HR.out; omega)).mono ?_
      rintro e w' ⟨rfl, rfl⟩
      go_wp2_with fail
      refine (put3 _ _ _ _ _ _ _ _ _ _ HP.out).mono ?_
      rintro e w1 ⟨rfl, hb1⟩
      go_wp2_with fail
      go_ret2
      exact ⟨ret2_eq (by have := HR.out; omega) _, hb1⟩
  · have HR := Lib.hid (show daaR a f = (a + 102) % 256 by rw [hr]; simp)
    have HP := Lib.hid (show putB (ofPB (daaR a f)) [(16, decide (9 < a % 16)), (2, false), (1, true)] = daaF a f by rw [← hp]; simp)
    have HC := Lib.hid hC
    clear hr hp hC
    go_enter Try.func27, Try.ntmps27
    go_wp2_with fail
    refine (has_is _ _ _ _ H2.out).mono ?_
    rintro e w' ⟨rfl, rfl⟩
    go_wp2_with fail
    refine (has_is _ _ _ _ H16.out).mono ?_
    rintro e w' ⟨rfl, rfl⟩
    go_wp2_with fail
    refine (has_is _ _ _ _ HC.out).mono ?_
    rintro e w' ⟨rfl, rfl⟩
    go_wp2_with fail
    refine (low_any _ _ a0 a1).mono ?_
    rintro e w' ⟨rfl, rfl⟩
    go_wp2_with fail
    refine (ofP_eq _ (daaR a f) _ R0.out R1.out (by have := HR.out; omega)).mono ?_
    rintro e w' ⟨rfl, rfl⟩
    go_wp2_with fail
    refine (put3 _ _ _ _ _ _ _ _ _ _ HP.out).mono ?_
    rintro e w1 ⟨rfl, hb1⟩
    go_wp2_with fail
    go_ret2
    exact ⟨ret2_eq (by have := HR.out; omega) _, hb1⟩

set_option maxHeartbeats 4000000 in
theorem daa_pn (a f : Int) (w : World) (a0 : 0 ≤ a) (a1 : a ≤ 255) (f0 : 0 ≤ f) (f1 : f ≤ 255) (e6 : bitN f 6 = false) (e3 : bitN f 3 = false) :
    Calls Try.prog 27 #[.int .u8 a, .int .u8 f] w fun e w' => e = .returned (.tuple #[.int .u8 (daaR a f), .int .u8 (daaF a f)]) ∧ Below w.heap.size w w' := by
  obtain ⟨r0, r1⟩ := daaR_bd a f
  have R0 := Lib.hid r0
  have R1 := Lib.hid r1
  have hp := daa_put a f
  have hr : daaR a f = if bitN f 6 then (a - ((if bitN f 3 || decide (9 < a % 16) then 6 else 0) + (if bitN f 7 || decide (153 < a) then 96 else 0))) % 256 else (a + ((if bitN f 3 || decide (9 < a % 16) then 6 else 0) + (if bitN f 7 || decide (153 < a) then 96 else 0))) % 256 := rfl
  have hh : daaH a f = if bitN f 6 then bitN f 3 && decide (a % 16 < 6) else decide (9 < a % 16) := rfl
  have H2 := Lib.hid ((has_2 f f0 f1).trans e6)
  have H16 := Lib.hid ((has_16 f f0 f1).trans e3)
  have hC := has_1 f f0 f1
  rw [hh] at hp
  rw [e6, e3] at hp hr
  clear hh r0 r1 e6 e3
  generalize bitN f 7 = l7 at *
  by_cases g9 : 9 < a % 16
  · cases l7
    · by_cases g153 : 153 < a
      · have HR := Lib.hid (show daaR a f = (a + 102) % 256 by rw [hr]; simp [g9, g153])
        have HP := Lib.hid (show putB (ofPB (daaR a f)) [(16, true), (2, false), (1, true)] = daaF a f by rw [← hp]; simp [g9, g153])
        have HC := Lib.hid hC
        clear hr hp hC
        go_enter Try.func27, Try.ntmps27
        go_wp2_with fail
        refine (has_is _ _ _ _ H2.out).mono ?_
        rintro e w' ⟨rfl, rfl⟩
        go_wp2_with fail
        refine (has_is _ _ _ _ H16.out).mono ?_
        rintro e w' ⟨rfl, rfl⟩
        go_wp2_with fail
        refine (has_is _ _ _ _ HC.out).mono ?_
        rintro e w' ⟨rfl, rfl⟩
        go_wp2_with fail
        refine (low_any _ _ a0 a1).mono ?_
        rintro e w' ⟨rfl, rfl⟩
        go_wp2_with fail
        refine (low_any _ _ a0 a1).mono ?_
        rintro e w' ⟨rfl, rfl⟩
        go_wp2_with fail
        refine (ofP_eq _ (daaR a f) _ R0.out R1.out (by have := HR.out; omega)).mono ?_
        rintro e w' ⟨rfl, rfl⟩
        go_wp2_with fail
        refine (put3 _ _ _ _ _ _ _ _ _ _ HP.out).mono ?_
        rintro e w1 ⟨rfl, hb1⟩
        go_wp2_with fail
        go_ret2
        exact ⟨ret2_eq (by have := HR.out; omega) _, hb1⟩
      · have d153 : decide (153 < a) = false := decide_eq_false g153
        have HR := Lib.hid (show daaR a f = (a + 6) % 256 by rw [hr]; simp [g9, g153])
        have HP := Lib.hid (show putB (ofPB (daaR a f)) [(16, true), (2, false), (1, false)] = daaF a f by rw [← hp]; simp [g9, g153])
        have HC := Lib.hid hC
        clear hr hp hC
        go_enter Try.func27, Try.ntmps27
        go_wp2_with fail
        refine (has_is _ _ _ _ H2.out).mono ?_
        rintro e w' ⟨rfl, rfl⟩
        go_wp2_with fail
        refine (has_is _ _ _ _ H16.out).mono ?_
        rintro e w' ⟨rfl, rfl⟩
        go_wp2_with fail
        refine (has_is _ _ _ _ HC.out).mono ?_
        rintro e w' ⟨rfl, rfl⟩
        go_wp2_with fail
        refine (low_any _ _ a0 a1).mono ?_
        rintro e w' ⟨rfl, rfl⟩
        go_wp2_with fail
        refine (low_any _ _ a0 a1).mono ?_
        rintro e w' ⟨rfl, rfl⟩
        go_wp2_with fail
        refine (ofP_eq _ (daaR a f) _ R0.out R1.out (by have := HR.out; omega)).mono ?_
        rintro e w' ⟨rfl, rfl⟩
        go_wp2_with fail
        refine (put3 _ _ _ _ _ _ _ _ _ _ HP.out).mono ?_
        rintro e w1 ⟨rfl, hb1⟩
        go_wp2_with fail
        go_ret2
        exact ⟨ret2_eq (by have := HR.out; omega) _, hb1⟩
    · have HR := Lib.hid (show daaR a f = (a + 102) % 256 by rw [hr]; simp [g9])
      have HP := Lib.hid (show putB (ofPB (daaR a f)) [(16, true), (2, false), (1, true)] = daaF a f by rw [← hp]; simp [g9])
      have HC := Lib.hid hC
      clear hr hp hC
      go_enter Try.func27, Try.ntmps27
      go_wp2_with fail
      refine (has_is _ _ _ _ H2.out).mono ?_
      rintro e w' ⟨rfl, rfl⟩
      go_wp2_with fail
      refine (has_is _ _ _ _ H16.out).mono ?_
      rintro e w' ⟨rfl, rfl⟩
      go_wp2_with fail
      refine (has_is _ _ _ _ HC.out).mono ?_
      rintro e w' ⟨rfl, rfl⟩
      go_wp2_with fail
      refine (low_any _ _ a0 a1).mono ?_
      rintro e w' ⟨rfl, rfl⟩
      go_wp2_with fail
      refine (low_any _ _ a0 a1).mono ?_
      rintro e w' ⟨rfl, rfl⟩
      go_wp2_with fail
      refine (ofP_eq _ (daaR a f) _ R0.out R1.out (by have := HR.out; omega)).mono ?_
      rintro e w' ⟨rfl, rfl⟩
      go_wp2_with fail
      refine (put3 _ _ _ _ _ _ _ _ _ _ HP.out).mono ?_
      rintro e w1 ⟨rfl, hb1⟩
      go_wp2_with fail
      go_ret2
      exact ⟨ret2_eq (by have := HR.out; omega) _, hb1⟩
  · have d9 : decide (9 < a % 16) = false := decide_eq_false g9
    cases l7
    · by_cases g153 : 153 < a
      · have HR := Lib.hid (show daaR a f = (a + 96) % 256 by rw [hr]; simp [g9, g153])
        have HP := Lib.hid (show putB (ofPB (daaR a f)) [(16, false), (2, false), (1, true)] = daaF a f by rw [← hp]; simp [g9, g153])
        have HC := Lib.hid hC
        clear hr hp hC
        go_enter Try.func27, Try.ntmps27
        go_wp2_with fail
        refine (has_is _ _ _ _ H2.out).mono ?_
        rintro e w' ⟨rfl, rfl⟩
        go_wp2_with fail
        refine (has_is _ _ _ _ H16.out).mono ?_
        rintro e w' ⟨rfl, rfl⟩
        go_wp2_with fail
        refine (has_is _ _ _ _ HC.out).mono ?_
        rintro e w' ⟨rfl, rfl⟩
        go_wp2_with fail
        refine (low_any _ _ a0 a1).mono ?_
        rintro e w' ⟨rfl, rfl⟩
        go_wp2_with fail
        refine (low_any _ _ a0 a1).mono ?_
        rintro e w' ⟨rfl, rfl⟩
        go_wp2_with fail
        refine (ofP_eq _ (daaR a f) _ R0.out R1.out (by have := HR.out; omega)).mono ?_
        rintro e w' ⟨rfl, rfl⟩
        go_wp2_with fail
        refine (put3 _ _ _ _ _ _ _ _ _ _ HP.out).mono ?_
        rintro e w1 ⟨rfl, hb1⟩
        go_wp2_with fail
        go_ret2
        exact ⟨ret2_eq (by have := HR.out; omega) _, hb1⟩
      · have d153 : decide (153 < a) = false := decide_eq_false g153
        have HR := Lib.hid (show daaR a f = (a + 0) % 256 by rw [hr]; simp [g9, g153])
        have HP := Lib.hid (show putB (ofPB (daaR a f)) [(16, false), (2, false), (1, false)] = daaF a f by rw [← hp]; simp [g9, g153])
        have HC := Lib.hid hC
        clear hr hp hC
        go_enter Try.func27, Try.ntmps27
        go_wp2_with fail
        refine (has_is _ _ _ _ H2.out).mono ?_
        rintro e w' ⟨rfl, rfl⟩
        go_wp2_with fail
        refine (has_is _ _ _ _ H16.out).mono ?_
        rintro e w' ⟨rfl, rfl⟩
        go_wp2_with fail
        refine (has_is _ _ _ _ HC.out).mono ?_
        rintro e w' ⟨rfl, rfl⟩
        go_wp2_with fail
        refine (low_any _ _ a0 a1).mono ?_
        rintro e w' ⟨rfl, rfl⟩
        go_wp2_with fail
        refine (low_any _ _ a0 a1).mono ?_
        rintro e w' ⟨rfl, rfl⟩
        go_wp2_with fail
        refine (ofP_eq _ (daaR a f) _ R0.out R1.out (by have := HR.out; omega)).mono ?_
        rintro e w' ⟨rfl, rfl⟩
        go_wp2_with fail
        refine (put3 _ _ _ _ _ _ _ _ _ _ HP.out).mono ?_
        rintro e w1 ⟨rfl, hb1⟩
        go_wp2_with fail
        go_ret2
        exact ⟨ret2_eq (by have := HR.out; omega) _, hb1⟩
    · have HR := Lib.hid (show daaR a f = (a + 96) % 256 by rw [hr]; simp [g9])
      have HP := Lib.hid (show putB (ofPB (daaR a f)) [(16, false), (2, false), (1, true)] = daaF a f by rw [← hp]; simp [g9])
      have HC := Lib.hid hC
      clear hr hp hC
      go_enter Try.func27, Try.ntmps27
      go_wp2_with fail
      refine (has_is _ _ _ _ H2.out).mono ?_
      rintro e w' ⟨rfl, rfl⟩
      go_wp2_with fail
      refine (has_is _ _ _ _ H16.out).mono ?_
      rintro e w' ⟨rfl, rfl⟩
      go_wp2_with fail
      refine (has_is _ _ _ _ HC.out).mono ?_
      rintro e w' ⟨rfl, rfl⟩
      go_wp2_with fail
      refine (low_any _ _ a0 a1).mono ?_
      rintro e w' ⟨rfl, rfl⟩
      go_wp2_with fail
      refine (low_any _ _ a0 a1).mono ?_
      rintro e w' ⟨rfl, rfl⟩
      go_wp2_with fail
      refine (ofP_eq _ (daaR a f) _ R0.out R1.out (by have := HR.out; omega)).mono ?_
      rintro e w' ⟨rfl, rfl⟩
      go_wp2_with fail
      refine (put3 _ _ _ _ _ _ _ _ _ _ HP.out).mono ?_
      rintro e w1 ⟨rfl, hb1⟩
      go_wp2_with fail
      go_ret2
      exact ⟨ret2_eq (by have := HR.out; omega) _, hb1⟩

theorem daa_any (a f : Int) (w : World) (a0 : 0 ≤ a) (a1 : a ≤ 255) (f0 : 0 ≤ f) (f1 : f ≤ 255) :
    Calls Try.prog 27 #[.int .u8 a, .int .u8 f] w fun e w' => e = .returned (.tuple #[.int .u8 (daaR a f), .int .u8 (daaF a f)]) ∧ Below w.heap.size w w' := by
  cases e6 : bitN f 6
  · cases e3 : bitN f 3
    · exact daa_pn a f w a0 a1 f0 f1 e6 e3
    · exact daa_ph a f w a0 a1 f0 f1 e6 e3
  · cases e3 : bitN f 3
    · exact daa_mn a f w a0 a1 f0 f1 e6 e3
    · exact daa_mh a f w a0 a1 f0 f1 e6 e3

end Go.Proofs.Ytndnadcmekjmnaa
