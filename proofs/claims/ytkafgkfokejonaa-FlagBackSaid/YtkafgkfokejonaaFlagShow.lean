/- flag.Show, flag.Read and the document's Show: their contracts. -/
import Derived.Test.YtkafgkfokejonaaFlagRef
namespace Go.Proofs.Ytkafgkfokejonaa
open Go.RowKit

/-- Of the eight cells of block B the first k hold the text's signs. -/
def Shown (B t : Nat) (b : Int) (k : Nat) (w : World) : Prop :=
  ∃ C : Array Value, w.heap[B]? = some (.cells C t (0, 0)) ∧ C.size = 8 ∧ ∀ i, i < k → C[i]? = some (.int .u8 ((showN b i).toNat : Int))

theorem Shown.cell {B t k : Nat} {b : Int} {w : World} (h : Shown B t b k w) (i : Nat) (hi : i < 8) : ∃ v, w.cell? ⟨B, i, none⟩ = some v := by
  obtain ⟨C, hC, hs, _⟩ := h
  rw [cell_of_row w B i C t (0, 0) hC]
  exact ⟨C[i], by rw [Array.getElem?_eq_getElem]⟩
theorem Shown.frozen {B t k : Nat} {b : Int} {w : World} (h : Shown B t b k w) (i : Nat) : w.frozen? ⟨B, i, none⟩ = false := by
  obtain ⟨C, hC, hs, _⟩ := h
  exact frozen_of_row w B i C t hC
theorem Shown.put {B t k : Nat} {b : Int} {w : World} (h : Shown B t b k w) (hk : k < 8) (n : Int) (hn : n = ((showN b k).toNat : Int)) : Shown B t b (k + 1) (w.setCell ⟨B, k, none⟩ (.int .u8 n)) := by
  obtain ⟨C, hC, hs, hcs⟩ := h
  refine ⟨_, heap_setCell_same w B k C t _ hC, by simpa using hs, fun i hi => ?_⟩
  by_cases e : i = k
  · subst e; rw [Array.getElem?_setIfInBounds_self_of_lt (by omega), hn]
  · rw [Array.getElem?_setIfInBounds_ne (by omega)]; exact hcs i (by omega)
theorem Shown.put0 {B t k : Nat} {b : Int} {w : World} (h : Shown B t b k w) (v : Value) : Shown B t b k (w.setCell ⟨B, k, none⟩ v) := by
  obtain ⟨C, hC, hs, hcs⟩ := h
  refine ⟨_, heap_setCell_same w B k C t _ hC, by simpa using hs, fun i hi => ?_⟩
  rw [Array.getElem?_setIfInBounds_ne (by omega)]; exact hcs i hi

theorem Shown.text {B t : Nat} {b : Int} {w : World} {P : Program} (h : Shown B t b 8 w) (src dst : TypeId) {e : TypeId} (hs : P.underlying src = some (.slice e)) (he : P.underlying e = some (.int .u8)) (hd : P.underlying dst = some .string) :
    (convert src dst (.slice (some ⟨B, 0, none⟩) 8 8)).run P w = .ok (.string (showS b)) w := by
  obtain ⟨C, hC, hsz, hcs⟩ := h
  have := run_convert_bytes_back (P := P) w src dst e ⟨B, 0, none⟩ 8 (showTo b 8) hs he hd (fun j hj => by
    have hj8 : j < 8 := by simpa [showTo_length] using hj
    have hadd : (⟨B, 0, none⟩ : Addr).add j = ⟨B, j, none⟩ := by unfold Addr.add; split <;> simp_all
    rw [hadd, cell_of_row w B j C t (0, 0) hC, hcs j hj8, showTo_at])
  rw [showTo_length] at this
  exact this

set_option maxHeartbeats 800000 in
theorem show_any (b : Int) (w : World) (h0 : 0 ≤ b) (h1 : b ≤ 255) :
    Calls Try.prog 23 #[.int .u8 b] w fun e w' => e = .returned (.string (showS b)) ∧ Below w.heap.size w w' := by
  go_enter Try.func23, Try.ntmps23
  go_wp2_with fail
  go_loopw [5] (fun i wr => ∃ k : Nat, k ≤ 8 ∧ i = .int .i64 k ∧ Below w.heap.size w wr ∧ Shown w.heap.size 41 b k wr) (fun i _ => 8 - (intOf i).toNat)
  case atStart => exact ⟨0, by omega, rfl, (Below.refl _ _).alloc (Nat.le_refl _) _, ⟨_, heap_alloc_new w _, rfl, fun i hi => by omega⟩⟩
  case round =>
    obtain ⟨k, hk, rfl, hnx, hsh⟩ := hrel
    by_cases hlt : k < 8
    · obtain ⟨c0, hc0⟩ := hsh.cell k hlt
      have hf0 := hsh.frozen k
      have HB := Lib.hid (has_bit b h0 h1 k hlt)
      generalize hx : bitN b k = x at HB
      have HX := Lib.hid hx; clear hx
      cases x
      all_goals
        go_wp2_with fail
        refine (bitAt_any _ _ (by omega) (by omega)).mono ?_
        rintro e w' ⟨rfl, rfl⟩
        go_wp2_with fail
        refine (has_is _ _ _ _ HB.out).mono ?_
        rintro e w' ⟨rfl, rfl⟩
        go_wp2_with fail
      · go_roundw
        case rel => exact ⟨k + 1, by omega, by go_num, hnx.setCell (Nat.le_refl _) _, hsh.put hlt _ (by rw [showN_no b k HX.out]; rfl)⟩
        case measure => simp [intOf]; omega
      · go_roundw
        case rel => exact ⟨k + 1, by omega, by go_num, (hnx.setCell (Nat.le_refl _) _).setCell (Nat.le_refl _) _, (hsh.put0 _).put hlt _ (by rw [showN_yes b k HX.out, sign_at k hlt])⟩
        case measure => simp [intOf]; omega
    · obtain rfl : k = 8 := by omega
      have hconv := hsh.text 42 9 Try.underlying42 Try.underlying5 Try.underlying9
      go_wp2_with fail
      go_ret
      exact ⟨rfl, hnx⟩

set_option maxHeartbeats 800000 in
theorem refShow_any (b : Int) (w : World) (h0 : 0 ≤ b) (h1 : b ≤ 255) :
    Calls Try.prog 22 #[.int .u8 b] w fun e w' => e = .returned (.string (showS b)) ∧ Below w.heap.size w w' := by
  go_enter Try.func22, Try.ntmps22
  go_wp2_with fail
  refine (bits_any _ _ h0 h1).mono ?_
  rintro e w1 ⟨v, rfl, hv, hb⟩
  obtain ⟨g, cap, rfl, hg, hc, hm, hcell⟩ := bits_cells hv
  have HC := Lib.hid hcell
  clear hcell hv
  go_wp2_with fail
  go_loop [5, 6] (fun s i => ∃ k : Nat, k ≤ 8 ∧ i = .int .i64 k ∧ s = .string ⟨(showTo b k).toArray⟩) (fun _ i => 8 - (intOf i).toNat)
  case atStart => exact ⟨0, by omega, rfl, rfl⟩
  case round =>
    obtain ⟨k, hk, rfl, rfl⟩ := hrel
    by_cases hlt : k < 8
    · have hck := HC.out k hlt
      have HS := Lib.hid (showTo_succ b k)
      have HL := Lib.hid (showTo_length b k)
      generalize hx : bitN b k = x at hck
      have HX := Lib.hid hx; clear hx
      generalize showTo b k = t at HS HL ⊢
      have hL : t.length ≤ 8 := by rw [HL.out]; omega
      cases x
      · go_wp2_with fail
        go_round
        case rel => exact ⟨k + 1, by omega, by go_num, by rw [HS.out, showN_no b k HX.out, cat_one]⟩
        case measure => simp [intOf]; omega
      · go_wp2_with fail
        go_round
        case rel => exact ⟨k + 1, by omega, by go_num, by rw [HS.out, showN_yes b k HX.out, sign_cut k hlt, cat_one]⟩
        case measure => simp [intOf]; omega
    · obtain rfl : k = 8 := by omega
      go_wp2_with fail
      go_ret
      exact ⟨rfl, hb⟩

end Go.Proofs.Ytkafgkfokejonaa
