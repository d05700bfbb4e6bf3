/- huff's Align and Bytes, of bits that are there. -/
import Derived.Test.YtifkldllhbcmkaaDoorHuffTakeN
namespace Go.Proofs.YtifkldllhbcmkaaDoor
open Go.RowKit

/-- The next whole byte. -/
def upB (p : Nat) : Nat := (p + 7) / 8
theorem upB_le {l : List Int} {p : Nat} (h : p ≤ 8 * l.length) : upB p ≤ l.length := by unfold upB; omega
def Aligned (F : Nat → Prop) (w : World) (g : Nat) (l : List Int) (p : Nat) (e : Ending) (w' : World) : Prop := e = .returned (.tuple #[]) ∧ BitsAt F w' g l (8 * upB p) ∧ Ch (fun k => k = g) w w'
theorem align_any (F : Nat → Prop) (w : World) (g : Nat) (l : List Int) (p : Nat) (h : BitsAt F w g l p) (hl : l.length ≤ 1000000) :
    Calls Tryd.prog 18 #[.pointer (some ⟨g, 0, none⟩)] w (Aligned F w g l p) := by
  have HA := Lib.hid (at_any F w g l p h hl)
  have hfit := h.fit
  have hup := upB_le hfit
  have HS := Lib.hid (h.set (8 * upB p) (by omega))
  obtain ⟨h1, h2, A, n, cap, h3, h4⟩ := h
  have c1 := cell_of_row w g 1 _ _ (0, 0) h3
  simp at c1
  have f1 := frozen_of_row w g 1 _ _ h3
  have hu : (p + 7) / 8 = upB p := rfl
  rw [hu] at HA
  unfold Aligned
  clear h1 h3 h4 hu
  generalize upB p = U at *
  go_enter Tryd.func18, Tryd.ntmps18
  go_wp2_with fail
  refine HA.out.mono ?_
  rintro e w' ⟨rfl, rfl⟩
  go_wp2_with fail
  go_end0
  exact ⟨rfl, HS.out (8 * (U : Int)) (by omega), Ch.set (F := fun k => k = g) _ g 1 _ rfl⟩
theorem bytesN_no (F : Nat → Prop) (g : Nat) (l : List Int) (p : Nat) (n : Int) (w : World) (h : BitsAt F w g l p) (hn : n < 0 ∨ (l.length : Int) < (upB p : Int) + n) (hl : l.length ≤ 1000000) :
    Calls Tryd.prog 20 #[.pointer (some ⟨g, 0, none⟩), .int .i64 n] w fun e w' => e = .returned (.tuple #[.slice none 0 0, .bool false]) ∧ ∃ k, w' = w.drewN k := by
  have HA := Lib.hid (fun k => Calls.quiet_of_same (w := w) (n := k) ((at_any F (w.drewN k) g l p (h.drewN k) hl).mono fun _ _ ⟨a, b⟩ => ⟨a, b.symm⟩))
  have HB := Lib.hid (h.drewN)
  have hfit := h.fit
  have hup := upB_le hfit
  obtain ⟨h1, h2, A, m, cap, h3, h4⟩ := h
  have c0 := cell_of_row w g 0 _ _ (0, 0) h3
  simp at c0
  have hlen := h4.len
  have hf := h4.fit
  have hm := h4.max
  unfold maxLen at hm
  have hu : (p + 7) / 8 = upB p := rfl
  rw [hu] at HA
  clear h1 h3 h4 hu
  generalize upB p = U at *
  by_cases hn1 : n < 0
  · have d1 : decide (n < 0) = true := decide_eq_true hn1
    go_enter Tryd.func20, Tryd.ntmps20
    go_wp2_with fail
    go_quiet (fail)
    go_wp2_with fail
    go_ret2
    exact ⟨rfl, _, rfl⟩
  have d1 : decide (n < 0) = false := decide_eq_false hn1
  have d2 : decide (((m : Int) - U) < n) = true := decide_eq_true (by omega)
  go_enter Tryd.func20, Tryd.ntmps20
  go_wp2_with fail
  go_quiet ((go_at_call 11; exact HA.out _))
  go_wp2_with fail
  go_ret2
  exact ⟨rfl, _, rfl⟩
def BytesN (F : Nat → Prop) (w : World) (g : Nat) (l : List Int) (p n : Nat) (e : Ending) (w' : World) : Prop :=
  ∃ A cap, e = .returned (.tuple #[.slice A n cap, .bool true]) ∧ BAt8 (fun k => w.heap.size ≤ k) w' A n cap ((l.drop (upB p)).take n) ∧ BitsAt F w' g l (8 * (upB p + n)) ∧ Ch (fun k => k = g) w w'
theorem BitsAt.cells {F : Nat → Prop} {w : World} {g : Nat} {l : List Int} {p : Nat} (h : BitsAt F w g l p) : ∃ A n cap, w.cell? ⟨g, 0, none⟩ = some (.slice A n cap) ∧ w.cell? ⟨g, 1, none⟩ = some (.int .i64 (p : Nat)) ∧ w.frozen? ⟨g, 1, none⟩ = false ∧ BAt8 F w A n cap l := by
  obtain ⟨_, _, A, n, cap, h3, h4⟩ := h
  exact ⟨A, n, cap, cell_of_row w g 0 _ _ (0, 0) h3, cell_of_row w g 1 _ _ (0, 0) h3, frozen_of_row w g 1 _ _ h3, h4⟩
set_option maxHeartbeats 1600000 in
theorem bytesN_yes (F : Nat → Prop) (g : Nat) (l : List Int) (p n : Nat) (w : World) (h : BitsAt F w g l p) (hn : upB p + n ≤ l.length) (hl : l.length ≤ 1000000) :
    Calls Tryd.prog 20 #[.pointer (some ⟨g, 0, none⟩), .int .i64 (n : Nat)] w (BytesN F w g l p n) := by
  have HA := Lib.hid (fun k => Calls.quiet_of_same (w := w) (n := k) ((at_any F (w.drewN k) g l p (h.drewN k) hl).mono fun _ _ ⟨a, b⟩ => ⟨a, b.symm⟩))
  have HG := Lib.hid (fun u (hu : BitsAt F u g l p) => align_any F u g l p hu hl)
  have HB := Lib.hid (h.drewN)
  obtain ⟨A, m, cap, c0, c1, f1, h4⟩ := h.cells
  have hlen := h4.len
  have hf := h4.fit
  have hm := h4.max
  unfold maxLen at hm
  have hu : (p + 7) / 8 = upB p := rfl
  rw [hu] at HA
  unfold Aligned at HG
  unfold BytesN
  clear h4 hu h c1
  generalize upB p = U at *
  have d1 : decide ((n : Int) < 0) = false := decide_eq_false (by omega)
  have d2 : decide (((m : Int) - U) < (n : Int)) = false := decide_eq_false (by omega)
  go_enter Tryd.func20, Tryd.ntmps20
  go_wp2_with fail
  go_quiet ((go_at_call 11; exact HA.out _))
  have HBq := Lib.hid (HB.out nq)
  go_wp2_with fail
  refine (HG.out _ HBq.out).mono ?_
  rintro e w1 ⟨rfl, hb1, hc1⟩
  clear HA HG HB HBq
  have HB1 := Lib.hid hb1
  have HC1 := Lib.hid ((Ch.of_below (bdrawn (Below.refl w.heap.size w) nq)).then hc1)
  obtain ⟨A1, m1, cap1, k0, k1, kf, h4⟩ := hb1.cells
  have hlen1 := h4.len
  have hf1 := h4.fit
  have hm1 := h4.max
  unfold maxLen at hm1
  have h8 : ((8 * U : Nat) : Int) / 8 = (U : Int) := by omega
  have h8' : (8 * (U : Int)) / 8 = (U : Int) := by omega
  have HS := Lib.hid (hb1.set (8 * (U + n)) (by omega) (8 * (U : Int) + 8 * n) (by omega))
  have hap := hb1.apart
  have h5 := h4.ch (Ch.set (F := fun k => k = g) w1 g 1 (.int .i64 (8 * (U : Int) + 8 * n)) rfl) (fun k hk e => hap (by rw [← show k = g from e]; exact hk))
  obtain ⟨A3, c3, sl, hS⟩ := cut_lh h5 (U : Int) ((U : Int) + n) U (U + n) rfl (by omega) (by omega) (by omega)
  rw [Nat.add_sub_cancel_left] at sl hS
  have hdt : (l.take (U + n)).drop U = (l.drop U).take n := by rw [List.drop_take, Nat.add_sub_cancel_left]
  rw [hdt] at hS
  have HCl := Lib.hid (clone_any F A3 n c3 _ _ hS (by omega))
  have HC2 := Lib.hid (HC1.out.then (Ch.set (F := fun k => k = g) w1 g 1 (.int .i64 (8 * (U : Int) + 8 * n)) rfl))
  have hU63 : U ≤ 1000000 := by omega
  clear h4 h5 hS hb1 hc1 hdt hap
  have k1' : w1.cell? ⟨g, 1, none⟩ = some (.int .i64 (8 * (U : Int))) := by rw [k1]; simp
  clear k1
  go_wp2_with fail
  refine HCl.out.mono ?_
  rintro e w2 ⟨A4, c4, rfl, hB4, hb4⟩
  have HR : Hid (BAt8 (fun k => w.heap.size ≤ k) w2 A4 n c4 ((l.drop U).take n) ∧ BitsAt F w2 g l (8 * (U + n)) ∧ Ch (fun k => k = g) w w2) := Lib.hid ⟨hB4.weak (fun k _ hk => Nat.le_trans HC2.out.size hk), HS.out.below hb4, HC2.out.less (hb4.mono HC2.out.size)⟩
  clear hB4 hb4
  go_wp2_with fail
  go_ret2
  exact ⟨_, _, rfl, HR.out⟩

end Go.Proofs.YtifkldllhbcmkaaDoor
