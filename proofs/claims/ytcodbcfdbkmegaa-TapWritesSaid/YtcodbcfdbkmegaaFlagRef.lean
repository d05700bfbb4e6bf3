/- The document's answers for layer 1: their contracts. -/
import Derived.Test.YtcodbcfdbkmegaaFlagHas
import Derived.Test.YtcodbcfdbkmegaaKit
namespace Go.Proofs.Ytcodbcfdbkmegaa
open Go.RowKit

theorem infoBool : (Try.prog.info? 4).map (fun i => (i.zero, i.size, i.bytes)) = some (some (.bool false), 1, 1) := by kernel_rfl

set_option maxHeartbeats 800000 in
theorem bits_own (b : Int) (w : World) (h0 : 0 ≤ b) (h1 : b ≤ 255) :
    Calls Try.prog 33 #[.int .u8 b] w fun e w' => ∃ v, e = .returned v ∧ w'.ownsRow w.heap.size 4 1 v 8 ((bitsTo b 8).map Value.bool) ∧ Below w.heap.size w w' := by
  go_enter Try.func33, Try.ntmps33
  go_wp2_with fail
  go_loopw [3, 4, 5] (fun v m p wr => ∃ i : Nat, i ≤ 8 ∧ p = .int .i64 (wgt i) ∧ m = .int .i64 (rst b i) ∧
      wr.ownsRow w.heap.size 4 1 v i ((bitsTo b i).map Value.bool) ∧ Below w.heap.size w wr) (fun _ _ p _ => (intOf p).toNat)
  case atStart => exact ⟨0, by omega, by rw [wgt_zero], by rw [rst_zero b h0 h1], World.ownsRow_nil _ _ _ _, Below.refl _ _⟩
  case round =>
    obtain ⟨i, hi8, rfl, rfl, hown, hnx⟩ := hrel
    have hsz := hnx.size
    by_cases hlt : i < 8
    · obtain ⟨p1, p2, p3⟩ := wgt_step i hlt
      obtain ⟨m1, m2, m3⟩ := rst_step b h0 h1 i hlt
      have hs := bitsTo_succ b i
      have HP := Lib.hid p3; clear p3
      have HS := Lib.hid hs; clear hs
      have HL := Lib.hid (bitsTo_length b i)
      generalize hx : bitN b i = x at m3 HS
      cases x
      · simp only [Bool.false_eq_true, if_false] at m3
        obtain ⟨m4, m5⟩ := m3
        have HM := Lib.hid m5; clear m5 hx
        have hd : decide (wgt i ≤ rst b i) = false := by simp; omega
        go_wp2_with (at_builtin; refine wpList_append_one w.heap.size 4 73 infoBool Try.underlying73 rfl rfl _ _ rfl _ _ _ rfl hown (.bool false) rfl rfl (by decide) (by omega) hsz ?_)
        intro v' w1 hown1 hb1
        have hnx1 := hnx.trans hb1
        clear hown hb1 hnx
        go_wp2_with fail
        go_roundw
        case rel => exact ⟨i + 1, by omega, by rw [HP.out], by rw [HM.out], by rw [HS.out]; simpa using hown1, hnx1⟩
        case measure => simp [intOf]; omega
      · simp only [if_true] at m3
        obtain ⟨m4, m5⟩ := m3
        have HM := Lib.hid m5; clear m5 hx
        have hd : decide (wgt i ≤ rst b i) = true := by simp; omega
        go_wp2_with (at_builtin; refine wpList_append_one w.heap.size 4 73 infoBool Try.underlying73 rfl rfl _ _ rfl _ _ _ rfl hown (.bool true) rfl rfl (by decide) (by omega) hsz ?_)
        intro v' w1 hown1 hb1
        have hnx1 := hnx.trans hb1
        clear hown hb1 hnx
        go_wp2_with fail
        go_roundw
        case rel => exact ⟨i + 1, by omega, by rw [HP.out], by rw [HM.out], by rw [HS.out]; simpa using hown1, hnx1⟩
        case measure => simp [intOf]; omega
    · obtain rfl : i = 8 := by omega
      have h8 := wgt_eight
      go_wp2_with fail
      go_ret
      exact ⟨_, rfl, hown, hnx⟩

theorem bits_any (b : Int) (w : World) (h0 : 0 ≤ b) (h1 : b ≤ 255) :
    Calls Try.prog 33 #[.int .u8 b] w fun e w' => ∃ v, e = .returned v ∧ RowAt w' v ((bitsTo b 8).map Value.bool) ∧ Below w.heap.size w w' :=
  (bits_own b w h0 h1).mono fun _ _ ⟨v, he, hown, hb⟩ => ⟨v, he, rowAt_of_own hown (by omega), hb⟩

set_option maxHeartbeats 800000 in
theorem rbyte_any (l : List Bool) (v : Value) (w : World) (hl : l.length = 8) (hv : RowAt w v (l.map Value.bool)) :
    Calls Try.prog 34 #[v] w fun e w' => e = .returned (.int .u8 (byteOf l)) ∧ w = w' := by
  obtain ⟨g, cap, rfl, hg, hc, hm, hcell⟩ := hv
  simp only [List.length_map, hl] at hc hcell ⊢
  go_enter Try.func34, Try.ntmps34
  go_wp2_with fail
  go_loop [3, 4] (fun n i => ∃ k : Nat, k ≤ 8 ∧ i = .int .i64 k ∧ n = .int .i64 (byteOf (l.take k))) (fun _ i => 8 - (intOf i).toNat)
  case atStart => exact ⟨0, by omega, rfl, rfl⟩
  case round =>
    obtain ⟨k, hk, rfl, rfl⟩ := hrel
    obtain ⟨b0, b1⟩ := byteOf_take_bd l hl k hk
    by_cases hlt : k < 8
    · have hck := hcell k hlt
      have hs := byteOf_take_succ l k (by omega)
      simp only [List.getElem_map] at hck
      have HS := Lib.hid hs; clear hs
      clear hcell
      generalize l[k] = x at hck HS
      generalize byteOf (l.take k) = n at *
      cases x
      all_goals
        go_wp2_with fail
        go_round
        case rel => exact ⟨k + 1, by omega, by go_num, by rw [HS.out]; simp [byteStep]⟩
        case measure => simp [intOf]; omega
    · obtain rfl : k = 8 := by omega
      clear hcell
      have ht : l.take 8 = l := List.take_of_length_le (by omega)
      rw [ht] at b0 b1 ⊢
      go_wp2_with fail
      go_ret
      exact ⟨rfl, rfl⟩

/-- The eight cells of the row that the document's Bits answers. -/
theorem bits_cells {w : World} {v : Value} {b : Int} (h : RowAt w v ((bitsTo b 8).map Value.bool)) :
    ∃ g cap, v = .slice (some ⟨g, 0, none⟩) 8 cap ∧ g < w.heap.size ∧ 8 ≤ cap ∧ cap ≤ maxLen ∧ ∀ i, i < 8 → w.cell? ⟨g, i, none⟩ = some (.bool (bitN b i)) := by
  obtain ⟨g, cap, hv, hg, hc, hm, hcell⟩ := h.bools
  simp only [bitsTo_length] at hv hc
  exact ⟨g, cap, hv, hg, hc, hm, fun i hi => by rw [hcell i (by rw [bitsTo_length]; exact hi), bits8_at]⟩

theorem rowAt_lit (w : World) (l : List Bool) (e : TypeId) (h0 : 0 < l.length) (hm : l.length ≤ maxLen) :
    RowAt (w.alloc (.cells (l.map Value.bool).toArray e)) (.slice (some ⟨w.heap.size, 0, none⟩) l.length l.length) (l.map Value.bool) := by
  have := World.ownsRow_lit (base := w.heap.size) (e := e) (size := 1) w (l.map Value.bool).toArray l.length (Nat.le_refl _) hm (by simp)
  simpa using rowAt_of_own this h0

end Go.Proofs.Ytcodbcfdbkmegaa
