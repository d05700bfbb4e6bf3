/- The document's calls of layer 10: their contracts. -/
import Derived.Test.YtkcfacbnbjkheaaDoorKeysTab
import Derived.Test.YtkcfacbnbjkheaaDoorAppendRow
namespace Go.Proofs.YtkcfacbnbjkheaaDoor
open Go.RowKit
set_option maxRecDepth 100000

set_option maxRecDepth 100000 in
set_option maxHeartbeats 1600000 in
theorem refNames (w : World) : Calls Tryd.prog 58 #[] w fun e w' => ∃ v, e = .returned v ∧ RowAt w' v ((List.range 40).map nmV) ∧ Below w.heap.size w w' := by
  go_enter Tryd.func58, Tryd.ntmps58
  go_wp2_with fail
  go_ret
  refine ⟨_, rfl, ⟨w.heap.size, 40, rfl, by simp, by simp, by unfold maxLen; simp, fun i hi => ?_⟩, (Below.refl _ _).alloc (Nat.le_refl _) _⟩
  rw [cell_of_row _ _ i _ _ (0, 0) (heap_alloc_new _ _)]
  have e : ∀ l : List Value, l = (List.range 40).map nmV → l.toArray[i]? = some (((List.range 40).map nmV)[i]) := by
    intro l h; subst h; rw [List.getElem?_toArray, List.getElem?_eq_getElem hi]
  exact e _ (by kernel_rfl)

theorem rowAt_names {w : World} {v : Value} (h : RowAt w v ((List.range 40).map nmV)) : ∃ g cap, v = .slice (some ⟨g, 0, none⟩) 40 cap ∧ g < w.heap.size ∧ 40 ≤ cap ∧ cap ≤ maxLen ∧ ∀ i, i < 40 → w.cell? ⟨g, i, none⟩ = some (.string (nm i)) := by
  obtain ⟨g, cap, hv, hg, hc, hm, hcell⟩ := h
  simp only [List.length_map, List.length_range] at hv hc hcell
  exact ⟨g, cap, hv, hg, hc, hm, fun i hi => by rw [hcell i hi]; simp [nmV]⟩

set_option maxHeartbeats 800000 in
theorem refFind_yes (s : ByteArray) (n : Nat) (w : World) (hn : n < 40) (hk : keyN s = n) : Calls Tryd.prog 37 #[.string s] w fun e w' => e = .returned (.int .i64 n) ∧ Below w.heap.size w w' := by
  have HK := Lib.hid hk
  clear hk
  go_enter Tryd.func37, Tryd.ntmps37
  go_wp2_with fail
  refine (refNames w).mono ?_
  rintro e w1 ⟨v, rfl, hv, hb⟩
  obtain ⟨g, cap, rfl, hg, hc, hm, hcell⟩ := rowAt_names hv
  have HC := Lib.hid hcell
  clear hcell hv
  go_wp2_with fail
  go_loop [4] (fun i => ∃ k : Nat, i = .int .i64 k ∧ k ≤ n) (fun i => 40 - (intOf i).toNat)
  case atStart => exact ⟨0, rfl, by omega⟩
  case round =>
    obtain ⟨k, rfl, hk⟩ := hrel
    have hck := HC.out k (by omega)
    have hN := nm_size k
    by_cases he : k = n
    · have hbb : ((nm k).toList == s.toList) = true := str_eq (nm_of_key (by omega) (by rw [he]; exact HK.out))
      generalize nm k = N at *
      subst he
      go_wp2_with fail
      go_ret
      exact ⟨rfl, hb⟩
    · have hbb : ((nm k).toList == s.toList) = false := str_ne (keyN_ne (by omega) HK.out he)
      generalize nm k = N at *
      go_wp2_with fail
      go_round
      case rel => exact ⟨k + 1, by go_num, by omega⟩
      case measure => simp [intOf]; omega
set_option maxHeartbeats 800000 in
theorem refFind_no (s : ByteArray) (w : World) (hk : keyN s = 40) : Calls Tryd.prog 37 #[.string s] w fun e w' => e = .returned (.int .i64 (-1)) ∧ Below w.heap.size w w' := by
  have HK := Lib.hid hk
  clear hk
  go_enter Tryd.func37, Tryd.ntmps37
  go_wp2_with fail
  refine (refNames w).mono ?_
  rintro e w1 ⟨v, rfl, hv, hb⟩
  obtain ⟨g, cap, rfl, hg, hc, hm, hcell⟩ := rowAt_names hv
  have HC := Lib.hid hcell
  clear hcell hv
  go_wp2_with fail
  go_loop [4] (fun i => ∃ k : Nat, i = .int .i64 k ∧ k ≤ 40) (fun i => 40 - (intOf i).toNat)
  case atStart => exact ⟨0, rfl, by omega⟩
  case round =>
    obtain ⟨k, rfl, hk⟩ := hrel
    by_cases he : k < 40
    · have hck := HC.out k he
      have hN := nm_size k
      have hbb : ((nm k).toList == s.toList) = false := str_ne (keyN_ne he HK.out (by omega))
      generalize nm k = N at *
      go_wp2_with fail
      go_round
      case rel => exact ⟨k + 1, by go_num, by omega⟩
      case measure => simp [intOf]; omega
    · obtain rfl : k = 40 := by omega
      go_wp2_with fail
      go_ret
      exact ⟨rfl, hb⟩

/-- The slice v has the numbers L, in a block from B on. -/
def RowI (w : World) (B : Nat) (v : Value) (L : List Int) : Prop :=
  ∃ A cap, v = .slice A L.length cap ∧ L.length ≤ cap ∧ cap ≤ maxLen ∧ (0 < L.length → ∃ g, A = some ⟨g, 0, none⟩ ∧ B ≤ g ∧ g < w.heap.size ∧ ∀ i, i < L.length → w.cell? ⟨g, i, none⟩ = some (.int .i64 (L.getD i 0)))
def i64V (n : Int) : Value := .int .i64 n
theorem RowI.nil (w : World) (B : Nat) : RowI w B (.slice none 0 0) [] := ⟨none, 0, rfl, Nat.le_refl _, by unfold maxLen; omega, fun h => absurd h (by simp)⟩
theorem RowI.own {w : World} {B n : Nat} {v : Value} {L : List Int} (h : w.ownsRow B 3 1 v n (L.map i64V)) : RowI w B v L := by
  have hlen : L.length = n := by have := h.1; simpa using this
  have hcopy := h
  rcases h.2 with ⟨rfl, h0⟩ | ⟨g, cap, cur, rfl, hB, hg, hnc, hm, _, _⟩
  · obtain rfl : L = [] := List.eq_nil_of_length_eq_zero (by omega)
    exact RowI.nil w B
  · refine ⟨some ⟨g, 0, none⟩, cap, by rw [hlen], by omega, hm, fun _ => ⟨g, rfl, hB, (Array.getElem?_eq_some_iff.1 hg).1, fun i hi => ?_⟩⟩
    rw [hcopy.cellAt i (by omega), List.getElem?_map, List.getElem?_eq_getElem hi, List.getD_eq_getElem?_getD, List.getElem?_eq_getElem hi]
    rfl
theorem RowI.keep {w w' : World} {B : Nat} {v : Value} {L : List Int} (h : RowI w B v L) (hs : w.heap.size ≤ w'.heap.size) (hb : ∀ k, B ≤ k → k < w.heap.size → w'.heap[k]? = w.heap[k]?) : RowI w' B v L := by
  obtain ⟨A, cap, rfl, h1, h2, h3⟩ := h
  refine ⟨A, cap, rfl, h1, h2, fun h0 => ?_⟩
  obtain ⟨g, rfl, hg, hlt, hc⟩ := h3 h0
  exact ⟨g, rfl, hg, by omega, fun i hi => (World.cell?_of_block (hb g hg hlt)).trans (hc i hi)⟩
theorem RowI.below {w w' : World} {B : Nat} {v : Value} {L : List Int} (h : RowI w B v L) (hb : Below w.heap.size w w') : RowI w' B v L := h.keep hb.size fun k _ hk => hb.block k hk
theorem RowI.less {w : World} {B C : Nat} {v : Value} {L : List Int} (h : RowI w B v L) (hC : C ≤ B) : RowI w C v L := by
  obtain ⟨A, cap, rfl, h1, h2, h3⟩ := h
  refine ⟨A, cap, rfl, h1, h2, fun h0 => ?_⟩
  obtain ⟨g, rfl, hg, hlt, hc⟩ := h3 h0
  exact ⟨g, rfl, by omega, hlt, hc⟩
theorem mem_at {L : List Int} {k : Nat} (hk : k < L.length) : L.getD k 0 ∈ L := by
  rw [List.getD_eq_getElem?_getD, List.getElem?_eq_getElem hk]
  exact List.getElem_mem hk

set_option maxHeartbeats 800000 in
theorem refIn (x : Int) (v : Value) (L : List Int) (b : Bool) (B : Nat) (w : World) (hv : RowI w B v L) (hb : decide (x ∈ L) = b) : Calls Tryd.prog 67 #[.int .i64 x, v] w fun e w' => e = .returned (.bool b) ∧ w = w' := by
  obtain ⟨A, cap, rfl, h1, h2, h3⟩ := hv
  have H3 := Lib.hid h3
  have HB := Lib.hid hb
  clear h3 hb
  have hL : L.length ≤ maxLen := by omega
  unfold maxLen at h2 hL
  go_enter Tryd.func67, Tryd.ntmps67
  go_wp2_with fail
  go_loop [5] (fun i => ∃ k : Nat, i = .int .i64 k ∧ k ≤ L.length ∧ Hid (∀ m, m < k → L.getD m 0 ≠ x)) (fun i => L.length - (intOf i).toNat)
  case atStart => exact ⟨0, rfl, by omega, Lib.hid (fun m hm => absurd hm (by omega))⟩
  case round =>
    obtain ⟨k, rfl, hk, HM⟩ := hrel
    by_cases hlt : k < L.length
    · obtain ⟨g, rfl, _, hg, hcell⟩ := H3.out (by omega)
      have hck := hcell k hlt
      have HE := Lib.hid (mem_at hlt)
      clear hcell H3
      by_cases he : L.getD k 0 = x
      · have hbb : (L.getD k 0 == x) = true := by simpa using he
        have hbt : b = true := by rw [← HB.out, ← he]; exact decide_eq_true HE.out
        clear he HE HB HM
        generalize L.getD k 0 = y at *
        subst hbt
        go_wp2_with fail
        go_ret
        exact ⟨rfl, rfl⟩
      · have hbb : (L.getD k 0 == x) = false := by simpa using he
        have HM2 := Lib.hid (show ∀ m, m < k + 1 → L.getD m 0 ≠ x by
          intro m hm
          by_cases e : m = k
          · rw [e]; exact he
          · exact HM.out m (by omega))
        clear he HE HM
        generalize L.getD k 0 = y at *
        go_wp2_with fail
        go_round
        case rel => exact ⟨k + 1, by go_num, by omega, HM2⟩
        case measure => simp [intOf]; omega
    · have hbf : b = false := by
        rw [← HB.out]
        refine decide_eq_false fun hx => ?_
        obtain ⟨m, hm, e⟩ := List.mem_iff_getElem.1 hx
        refine HM.out m (by omega) ?_
        rw [List.getD_eq_getElem?_getD, List.getElem?_eq_getElem hm]; exact e
      obtain rfl : k = L.length := by omega
      clear HB HM
      subst hbf
      go_wp2_with fail
      go_ret
      exact ⟨rfl, rfl⟩

theorem infoInt : (Tryd.prog.info? 3).map (fun i => (i.zero, i.size, i.bytes)) = some (some (.int .i64 0), 1, 8) := by kernel_rfl
/-- The numbers ahead of k that are not n. -/
def befF (L : List Int) (n : Int) (k : Nat) : List Int := (L.take k).filter fun x => x != n
theorem take_more (L : List Int) (k : Nat) (h : k < L.length) : L.take (k + 1) = L.take k ++ [L.getD k 0] := by
  rw [List.take_succ_eq_append_getElem h, List.getD_eq_getElem?_getD, List.getElem?_eq_getElem h]; rfl
theorem befF_yes (L : List Int) (n : Int) (k : Nat) (h : k < L.length) (hn : L.getD k 0 ≠ n) : befF L n (k + 1) = befF L n k ++ [L.getD k 0] := by
  unfold befF; rw [take_more L k h, List.filter_append]; simp only [List.filter_cons, List.filter_nil]; rw [if_pos (by simpa using hn)]
theorem befF_no (L : List Int) (n : Int) (k : Nat) (h : k < L.length) (hn : L.getD k 0 = n) : befF L n (k + 1) = befF L n k := by
  unfold befF; rw [take_more L k h, hn, List.filter_append]; simp
theorem befF_le (L : List Int) (n : Int) (k : Nat) : (befF L n k).length ≤ k := by
  have := List.length_filter_le (fun x => x != n) (L.take k)
  unfold befF
  simp at this ⊢
  omega
set_option maxHeartbeats 1600000 in
theorem refPut (v : Value) (L : List Int) (n : Int) (on : Bool) (B : Nat) (w : World) (hv : RowI w B v L) (hl : L.length ≤ 1000) : Calls Tryd.prog 39 #[v, .int .i64 n, .bool on] w fun e w' => ∃ v', e = .returned v' ∧ RowI w' w.heap.size v' (putF L n on) ∧ Below w.heap.size w w' := by
  obtain ⟨A, cap, rfl, h1, h2, h3⟩ := hv
  have H3 := Lib.hid h3
  clear h3
  unfold maxLen at h2
  have HP := Lib.hid (show putF L n on = befF L n L.length ++ (if on then [n] else []) by unfold putF befF; rw [List.take_length])
  go_enter Tryd.func39, Tryd.ntmps39
  go_wp2_with fail
  go_loopw [7, 8] (fun o i wr => ∃ k : Nat, i = .int .i64 k ∧ k ≤ L.length ∧ wr.ownsRow w.heap.size 3 1 o (befF L n k).length ((befF L n k).map i64V) ∧ Below w.heap.size w wr) (fun _ i _ => L.length - (intOf i).toNat)
  case atStart => exact ⟨0, rfl, by omega, World.ownsRow_nil _ _ _ _, Below.refl _ _⟩
  case round =>
    obtain ⟨k, rfl, hk, hown, hnx⟩ := hrel
    have hsz := hnx.size
    have hbl := befF_le L n k
    by_cases hlt : k < L.length
    · obtain ⟨g, rfl, _, hg, hcell⟩ := H3.out (by omega)
      have hck := (hnx.cell (p := ⟨g, k, none⟩) hg).trans (hcell k hlt)
      clear hcell H3
      by_cases he : L.getD k 0 = n
      · have hbb : (L.getD k 0 == n) = true := by simpa using he
        have hbc : (L.getD k 0 != n) = false := by simpa using he
        have HE := Lib.hid (befF_no L n k hlt he)
        generalize befF L n k = l at *
        clear he
        generalize L.getD k 0 = y at *
        go_wp2_with fail
        go_roundw
        case rel => exact ⟨k + 1, by go_num, by omega, by rw [HE.out]; exact hown, hnx⟩
        case measure => simp [intOf]; omega
      · have hbb : (L.getD k 0 == n) = false := by simpa using he
        have hbc : (L.getD k 0 != n) = true := by simpa using he
        have HE := Lib.hid (show (befF L n (k + 1)).map i64V = (befF L n k).map i64V ++ [.int .i64 (L.getD k 0)] by rw [befF_yes L n k hlt he, List.map_append]; rfl)
        have HN := Lib.hid (show (befF L n (k + 1)).length = (befF L n k).length + 1 by rw [befF_yes L n k hlt he]; simp)
        generalize (befF L n k).length = m at *
        generalize (befF L n k).map i64V = l at *
        clear he
        generalize L.getD k 0 = y at *
        go_wp2_with (at_builtin; refine wpList_append_one w.heap.size 3 46 infoInt Tryd.underlying46 rfl rfl _ _ rfl _ _ _ rfl hown _ rfl rfl (by decide) (by omega) hsz ?_)
        intro v' w3 hown3 hb3
        have hnx3 := hnx.trans hb3
        clear hown hb3 hnx hck
        go_wp2_with fail
        go_roundw
        case rel => exact ⟨k + 1, by go_num, by omega, by rw [HE.out, HN.out]; exact hown3, hnx3⟩
        case measure => simp [intOf]; omega
    · obtain rfl : k = L.length := by omega
      cases on
      · have HR := Lib.hid (show putF L n false = befF L n L.length by rw [HP.out]; simp)
        have HO := Lib.hid (RowI.own hown)
        clear hown HP
        go_wp2_with fail
        go_ret
        exact ⟨_, rfl, by rw [HR.out]; exact HO.out, hnx⟩
      · have HR := Lib.hid (show (putF L n true).map i64V = (befF L n L.length).map i64V ++ [.int .i64 n] by rw [HP.out, if_pos rfl, List.map_append]; rfl)
        generalize (befF L n L.length).length = m at *
        generalize (befF L n L.length).map i64V = l at *
        clear HP
        go_wp2_with (at_builtin; refine wpList_append_one w.heap.size 3 46 infoInt Tryd.underlying46 rfl rfl _ _ rfl _ _ _ rfl hown _ rfl rfl (by decide) (by omega) hsz ?_)
        intro v' w3 hown3 hb3
        have hnx3 := hnx.trans hb3
        have hri : RowI w3 w.heap.size v' (putF L n true) := RowI.own (by rw [HR.out]; exact hown3)
        clear hown hb3 hnx hown3
        go_wp2_with fail
        go_ret
        exact ⟨_, rfl, hri, hnx3⟩
end Go.Proofs.YtkcfacbnbjkheaaDoor
