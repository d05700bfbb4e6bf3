/- huff's Take, of one bit. -/
import Derived.Test.YtifkldllhbcmkaaDoorHuffRead
namespace Go.Proofs.YtifkldllhbcmkaaDoor
open Go.RowKit

theorem w64 (n : Int) (h₀ : 0 ≤ n) (h₁ : n < 2 ^ 31) : IntKind.i64.wrap n = n := by rw [IntKind.wrap_i64]; omega
theorem take_no (F : Nat → Prop) (g : Nat) (l : List Int) (p : Nat) (w : World) (h : BitsAt F w g l p) (hp : 8 * l.length ≤ p) (hl : l.length ≤ 1000000) :
    Calls Tryd.prog 17 #[.pointer (some ⟨g, 0, none⟩), .int .i64 1] w fun e w' => e = .returned (.tuple #[.int .i64 0, .bool false]) ∧ ∃ k, w' = w.drewN k := by
  obtain ⟨h1, h2, A, n, cap, h3, h4⟩ := h
  have c0 := cell_of_row w g 0 _ _ (0, 0) h3
  have c1 := cell_of_row w g 1 _ _ (0, 0) h3
  simp at c0 c1
  have hlen := h4.len
  have hf := h4.fit
  have hm := h4.max
  unfold maxLen at hm
  have d1 : decide ((8 * (n : Int) - p) < 1) = true := decide_eq_true (by omega)
  clear h3 h4 h1
  go_enter Tryd.func17, Tryd.ntmps17
  go_wp2_with fail
  go_quiet (fail)
  go_wp2_with fail
  go_ret2
  exact ⟨rfl, _, rfl⟩
def Took (F : Nat → Prop) (w : World) (g : Nat) (l : List Int) (p : Nat) (e : Ending) (w' : World) : Prop := e = .returned (.tuple #[.int .i64 (bitN l p : Nat), .bool true]) ∧ BitsAt F w' g l (p + 1) ∧ Ch (fun k => k = g) w w'
theorem BitsAt.drewN {F : Nat → Prop} {w : World} {g : Nat} {l : List Int} {p : Nat} (h : BitsAt F w g l p) (m : Nat) : BitsAt F (w.drewN m) g l p := h.below (bdrawn (Below.refl _ _) m)
theorem BitsAt.set {F : Nat → Prop} {w : World} {g : Nat} {l : List Int} {p : Nat} (h : BitsAt F w g l p) (q : Nat) (hq : q ≤ 8 * l.length) (v : Int) (hv : v = (q : Int)) : BitsAt F (w.setCell ⟨g, 1, none⟩ (.int .i64 v)) g l q := by
  obtain ⟨h1, h2, A, n, cap, h3, h4⟩ := h
  subst hv
  refine ⟨h1, hq, A, n, cap, heap_setCell_same w g 1 _ _ _ h3, h4.keep (by simp [World.setCell]) fun k _ hF => Below.heap_setCell _ ⟨g, 1, none⟩ _ _ (fun e => h1 (by rw [← show k = g from e]; exact hF))⟩
set_option maxHeartbeats 1600000 in
theorem take_yes (F : Nat → Prop) (g : Nat) (l : List Int) (p : Nat) (w : World) (h : BitsAt F w g l p) (hp : p < 8 * l.length) (hl : l.length ≤ 1000000) :
    Calls Tryd.prog 17 #[.pointer (some ⟨g, 0, none⟩), .int .i64 1] w (Took F w g l p) := by
  have HH := Lib.hid h
  obtain ⟨h1, h2, A, n, cap, h3, h4⟩ := h
  have c0 := cell_of_row w g 0 _ _ (0, 0) h3
  have c1 := cell_of_row w g 1 _ _ (0, 0) h3
  simp at c0 c1
  have f1 := frozen_of_row w g 1 _ _ h3
  have hlen := h4.len
  have hf := h4.fit
  have hm := h4.max
  unfold maxLen at hm
  have d1 : decide ((8 * (n : Int) - p) < 1) = false := decide_eq_false (by omega)
  obtain ⟨i, hi⟩ : ∃ i, p % 8 = i := ⟨_, rfl⟩
  obtain ⟨j, hj⟩ : ∃ j, p / 8 = j := ⟨_, rfl⟩
  have hi1 : (p : Int) % 8 = (i : Int) := by omega
  have hj1 : (p : Int) / 8 = (j : Int) := by omega
  obtain ⟨b, o, rfl, hb, hbl, hc⟩ := h4.lies (by omega)
  have cj := hc j (by omega)
  have hx := h4.bd j
  obtain ⟨x, hxx⟩ : ∃ x, gI l j = x := ⟨_, rfl⟩
  rw [hxx] at cj hx
  have hj2 : j < n := by omega
  have hi8 : i < 8 := by omega
  obtain ⟨V, hV⟩ : ∃ V, bitN l p = V := ⟨_, rfl⟩
  have hV1 : V ≤ 1 := by rw [← hV]; exact bitN_le l p
  have hand : bits .and .i64 (x / 2 ^ i) 1 = (V : Int) := by
    have e1 : x / 2 ^ i = ((x.toNat / 2 ^ i : Nat) : Int) := by
      have : x = (x.toNat : Int) := by omega
      rw [this]; simp
    have e2 : x.toNat / 2 ^ i % 2 = V := by rw [← hV]; unfold bitN; rw [hi, hj, hxx]
    have e3 := Nat.div_le_self x.toNat (2 ^ i)
    rw [e1]
    generalize x.toNat / 2 ^ i = q at *
    have e4 : bits .and .i64 (q : Int) 1 = (q : Int) % 2 := bits_mask .i64 31 (by decide) w64 1 (by decide) (q : Int) (by omega) (by omega)
    rw [e4]
    omega
  have hor : bits .or .i64 0 (V : Int) = (V : Int) := by
    have : V = 0 ∨ V = 1 := by omega
    rcases this with rfl | rfl <;> decide
  have hmin : (if (1 : Int) < 8 - (i : Int) then (1 : Int) else 8 - (i : Int)) = 1 := by split <;> omega
  have hmin2 : (if 8 - (i : Int) < (1 : Int) then 8 - (i : Int) else (1 : Int)) = 1 := by split <;> omega
  have hp8 : p < 8 * n := by omega
  unfold Took
  rw [hV]
  clear hc h1 h3 h4 hV hi hj hxx
  go_enter Tryd.func17, Tryd.ntmps17
  go_wp2_with fail
  go_quiet (fail)
  go_wp2_with fail
  go_loopw [6, 7] (fun v t wr => (v = .int .i64 0 ∧ t = .int .i64 0 ∧ ∃ m, wr = w.drewN m) ∨ (v = .int .i64 (V : Nat) ∧ t = .int .i64 1 ∧ Hid (BitsAt F wr g l (p + 1) ∧ Ch (fun k => k = g) w wr))) (fun _ t _ => 1 - (intOf t).toNat)
  case atStart => exact Or.inl ⟨rfl, rfl, _, rfl⟩
  case round =>
    rcases hrel with ⟨rfl, rfl, m, rfl⟩ | ⟨rfl, rfl, HE⟩
    · go_wp2_with fail
      go_quiet (fail)
      go_wp2_with fail
      refine ⟨Or.inr ⟨rfl, rfl, Lib.hid ⟨(HH.out.drewN _).set (p + 1) (by omega) _ (by omega), (Ch.of_below (bdrawn (Below.refl _ _) _)).then (Ch.set (F := fun k => k = g) _ g 1 _ rfl)⟩⟩, by simp [intOf]⟩
    · go_wp2_with fail
      go_ret2
      exact ⟨rfl, HE.out.1, HE.out.2⟩

end Go.Proofs.YtifkldllhbcmkaaDoor
