/- Steps of presses and releases, played by a keyboard and by the document's: their contract. -/
import Derived.Test.YtfppbhpokeafpaaDoorKeysLaws
namespace Go.Proofs.YtfppbhpokeafpaaDoor
open Go.RowKit

abbrev Step := ByteArray × Bool
def stepAt (l : List Step) (k : Nat) : Step := l.getD k (ByteArray.empty, false)
/-- The slice v has the steps l. -/
def OpsAt (w : World) (v : Value) (l : List Step) : Prop :=
  ∃ A cap, v = .slice A l.length cap ∧ l.length ≤ cap ∧ cap ≤ maxLen ∧ ∀ i, i < l.length → ∃ b o, A = some ⟨b, o, none⟩ ∧ b < w.heap.size ∧ w.cell? ⟨b, o + i * 2, none⟩ = some (.string (stepAt l i).1) ∧ w.cell? ⟨b, o + i * 2 + 1, none⟩ = some (.bool (stepAt l i).2)
/-- The keys that are down behind the first k steps. -/
def stF (l : List Step) : Nat → Nat → Bool
  | 0 => fun _ => false
  | k + 1 => if keyN (stepAt l k).1 < 40 then setS (stF l k) (keyN (stepAt l k).1) (stepAt l k).2 else stF l k
/-- How both stand behind the first k steps. -/
structure Inv (l : List Step) (w : World) (k : Nat) (L : List Int) (x : Value) (wr : World) : Prop where
  len : L.length ≤ k
  lst : Lst L (stF l k)
  row : RowI wr (w.heap.size + 1) x L
  keys : KeysAt wr w.heap.size (stF l k)
  bel : Below w.heap.size w wr

theorem Inv.wrote {w2 w3 : World} {b : Nat} {x : Value} {L : List Int} (h : RowI w2 (b + 1) x L) (hw : Wrote b w2 w3) : RowI w3 (b + 1) x L :=
  h.keep (Nat.le_of_eq hw.size.symm) fun k hk _ => hw.block k (by omega)
set_option maxHeartbeats 3200000 in
theorem play_any (A : Array Value) (v : Value) (l : List Step) (w : World) (hT : NmTab A w) (hv : OpsAt w v l) (hl : l.length ≤ 200) :
    Calls Tryd.prog 8 #[v] w fun e w' => ∃ x L, e = .returned (.tuple #[.pointer (some ⟨w.heap.size, 0, none⟩), x, .bool true]) ∧ Inv l w l.length L x w' := by
  obtain ⟨B, cap, rfl, h1, h2, h3⟩ := hv
  have HO := Lib.hid h3
  have HT := Lib.hid hT
  have HK := Lib.hid (KeysAt.new w)
  clear h3 hT
  unfold maxLen at h2
  go_enter Tryd.func8, Tryd.ntmps8
  go_wp2_with fail
  go_loopw [6, 7] (fun x i wr => ∃ (k : Nat) (y : Value), i = .int .i64 k ∧ k ≤ l.length ∧ y = x ∧ ∃ L, Inv l w k L y wr) (fun _ i _ => l.length - (intOf i).toNat)
  case atStart => exact ⟨0, _, rfl, by omega, rfl, [], ⟨Nat.le_refl _, Lst.nil, RowI.nil _ _, HK.out, balloc w _⟩⟩
  case round =>
    obtain ⟨k, x, rfl, hk, rfl, L, hi⟩ := hrel
    have HI := Lib.hid hi
    have hLl := hi.len
    have hx := hi.row
    clear hi
    by_cases hlt : k < l.length
    · obtain ⟨g, o, rfl, hg, hc1, hc2⟩ := HO.out k hlt
      have HS : Hid (stF l (k + 1) = if keyN (stepAt l k).1 < 40 then setS (stF l k) (keyN (stepAt l k).1) (stepAt l k).2 else stF l k) := rfl
      obtain ⟨s, hs⟩ : ∃ s, (stepAt l k).1 = s := ⟨_, rfl⟩
      obtain ⟨on, hon⟩ : ∃ on, (stepAt l k).2 = on := ⟨_, rfl⟩
      rw [hs] at hc1
      rw [hon] at hc2
      rw [hs, hon] at HS
      have HC1 := Lib.hid (fun u (hb : Below w.heap.size w u) => (hb.cell (p := ⟨g, o + k * 2, none⟩) hg).trans hc1)
      have HC2 := Lib.hid (fun u (hb : Below w.heap.size w u) => (hb.cell (p := ⟨g, o + k * 2 + 1, none⟩) hg).trans hc2)
      have hnx := HI.out.bel
      have d1 := HC1.out _ hnx
      clear hc1 hc2 HO hs hon
      have hle := keyN_le s
      by_cases hk40 : keyN s = 40
      · have HQ := Lib.hid (show stF l (k + 1) = stF l k by rw [HS.out, if_neg (by omega)])
        have HK4 := Lib.hid hk40
        clear HS hk40 hle
        go_wp2_with fail
        refine (refFind_no s wr HK4.out).mono ?_
        rintro e w1 ⟨rfl, hb1⟩
        have hnx1 : Below w.heap.size w w1 := hnx.trans (hb1.mono hnx.size)
        have d2 := HC2.out _ hnx1
        have d3 := HC1.out _ hnx1
        cases on
        · go_wp2_with fail
          refine (release_no A _ s w1 (HT.out.below hnx1) HK4.out).mono ?_
          rintro e w' ⟨rfl, rfl⟩
          go_wp2_with fail
          go_roundw
          case rel => exact ⟨k + 1, _, by go_num, by omega, rfl, L, ⟨by omega, by rw [HQ.out]; exact HI.out.lst, HI.out.row.below hb1, by rw [HQ.out]; exact HI.out.keys.below hb1, hnx1⟩⟩
          case measure => simp [intOf]; omega
        · go_wp2_with fail
          refine (press_no A _ s w1 (HT.out.below hnx1) HK4.out).mono ?_
          rintro e w' ⟨rfl, rfl⟩
          go_wp2_with fail
          go_roundw
          case rel => exact ⟨k + 1, _, by go_num, by omega, rfl, L, ⟨by omega, by rw [HQ.out]; exact HI.out.lst, HI.out.row.below hb1, by rw [HQ.out]; exact HI.out.keys.below hb1, hnx1⟩⟩
          case measure => simp [intOf]; omega
      · obtain ⟨n, hn⟩ : ∃ n, keyN s = n := ⟨_, rfl⟩
        obtain ⟨R, hR⟩ : ∃ R, n / 5 = R := ⟨_, rfl⟩
        obtain ⟨J, hJ⟩ : ∃ J, n % 5 = J := ⟨_, rfl⟩
        rw [hn] at hle hk40 HS
        have hn40 : n < 40 := by omega
        have hnR : n = 5 * R + J := by omega
        have hR8 : R < 8 := by omega
        have hJ5 : J < 5 := by omega
        have HN := Lib.hid hn
        have HNR := Lib.hid hnR
        have HQ := Lib.hid (show stF l (k + 1) = setS (stF l k) n on by rw [HS.out, if_pos hn40])
        clear HS hR hJ hnR hn hk40 hle
        go_wp2_with fail
        refine (refFind_yes s n wr hn40 HN.out).mono ?_
        rintro e w1 ⟨rfl, hb1⟩
        have hnx1 : Below w.heap.size w w1 := hnx.trans (hb1.mono hnx.size)
        have d2 := HC2.out _ hnx1
        go_wp2_with fail
        refine (refPut x L n on _ w1 (hx.below hb1) (by omega)).mono ?_
        rintro e w2 ⟨x2, rfl, hx2, hb2⟩
        have hnx2 : Below w.heap.size w w2 := hnx1.trans (hb2.mono hnx1.size)
        have d3 := HC1.out _ hnx2
        have d4 := HC2.out _ hnx2
        have hk2 : KeysAt w2 w.heap.size (stF l k) := (HI.out.keys.below hb1).below hb2
        have hz : w.heap.size + 1 ≤ w1.heap.size := (HI.out.keys.below hb1).lt
        have HX2 := Lib.hid (hx2.less hz)
        have HK2 := Lib.hid hk2
        have hll := putF_len L n on
        clear hx2 hk2 d1 d2
        cases on
        · go_wp2_with fail
          refine (release_yes A _ _ s R J w2 (HT.out.below hnx2) HK2.out hR8 hJ5 (HN.out.trans HNR.out)).mono ?_
          rintro e w3 ⟨rfl, hk3, hw3⟩
          have HK3 := Lib.hid hk3
          have HW3 := Lib.hid hw3
          clear hk3 hw3
          go_wp2_with fail
          go_roundw
          case rel => exact ⟨k + 1, _, by go_num, by omega, rfl, _, ⟨Nat.le_trans hll (by omega), by rw [HQ.out]; exact HI.out.lst.put n false, Inv.wrote HX2.out HW3.out, by rw [HQ.out, HNR.out]; exact HK3.out, hnx2.trans (HW3.out.below (Nat.le_refl _))⟩⟩
          case measure => simp [intOf]; omega
        · go_wp2_with fail
          refine (press_yes A _ _ s R J w2 (HT.out.below hnx2) HK2.out hR8 hJ5 (HN.out.trans HNR.out)).mono ?_
          rintro e w3 ⟨rfl, hk3, hw3⟩
          have HK3 := Lib.hid hk3
          have HW3 := Lib.hid hw3
          clear hk3 hw3
          go_wp2_with fail
          go_roundw
          case rel => exact ⟨k + 1, _, by go_num, by omega, rfl, _, ⟨Nat.le_trans hll (by omega), by rw [HQ.out]; exact HI.out.lst.put n true, Inv.wrote HX2.out HW3.out, by rw [HQ.out, HNR.out]; exact HK3.out, hnx2.trans (HW3.out.below (Nat.le_refl _))⟩⟩
          case measure => simp [intOf]; omega
    · obtain rfl : k = l.length := by omega
      clear hx
      go_wp2_with fail
      go_ret3
      exact ⟨_, L, rfl, HI.out⟩
end Go.Proofs.YtfppbhpokeafpaaDoor
