/- tzx.Sound: its contract. -/
import Derived.Test.YthlaglhlmbkniaaTzxLeads
namespace Go.Proofs.Ythlaglhlmbkniaa
open Go.RowKit
set_option linter.unusedVariables false
set_option linter.unusedSimpArgs false
set_option maxRecDepth 100000

/-- How far Sound has come: blocks ahead of i are sound, its two nests stand so. -/
structure Snd (w wr : World) (L : List Lb) (i : Nat) (r1 r2 : Int) : Prop where
  n1 : NestAt wr w.heap.size 36 37 r1 (openF L 36 37 i)
  n2 : NestAt wr (w.heap.size + 1) 33 34 r2 (openF L 33 34 i)
  bel : Below w.heap.size w wr
  ok : ∀ j, j < i → wrongF L j = 0
theorem Snd.new (w : World) (L : List Lb) (r1 r2 : Int) : Snd w ((w.alloc (.cells #[.int .i64 36, .int .i64 37, .int .i64 r1, .bool false] 58)).alloc (.cells #[.int .i64 33, .int .i64 34, .int .i64 r2, .bool false] 58)) L 0 r1 r2 := by
  have b1 := bnew (w.alloc (.cells #[.int .i64 36, .int .i64 37, .int .i64 r1, .bool false] 58)) (.cells #[.int .i64 33, .int .i64 34, .int .i64 r2, .bool false] 58)
  have b0 := bnew w (.cells #[.int .i64 36, .int .i64 37, .int .i64 r1, .bool false] 58)
  have s1 : (w.alloc (.cells #[.int .i64 36, .int .i64 37, .int .i64 r1, .bool false] 58)).heap.size = w.heap.size + 1 := by simp
  refine ⟨?_, ?_, b0.trans (b1.mono (by omega)), fun j hj => absurd hj (by omega)⟩
  · exact (b1.block _ (by simp)).trans (heap_alloc_new w _)
  · unfold NestAt
    rw [← s1]
    exact heap_alloc_new _ _
def SoundE (w : World) (L : List Lb) (x : Ending) (w' : World) : Prop := ∃ (r : Nat) (e : Int), x = .returned (.tuple #[.int .i64 (r : Nat), .int .i64 e]) ∧ SoundIs L r e ∧ Below w.heap.size w w'
attribute [local simp ↓ high] blkLoad_as blkStore_as blkAlloc_as
set_option maxHeartbeats 3200000 in
theorem sound_any (F : Nat → Prop) (w : World) (B : Option Addr) (n c : Nat) (L : List Lb) (h : BlAt F w B n c L) (hn : n ≤ 1000000) :
    Calls Try.prog 7 #[.slice B n c] w (SoundE w L) := by
  have HL1 := Lib.hid (last_any F w B n c L h hn 37)
  have HL2 := Lib.hid (fun u (hu : Below w.heap.size w u) => last_any F u B n c L (h.below hu) hn 34)
  have H := Lib.hid (fun j (hj : j < n) => h.later j hj)
  have HN := Lib.hid h.len
  have hal := run_blkAlloc
  clear h
  go_enter Try.func7, Try.ntmps7
  go_wp2_with fail
  refine HL1.out.mono ?_
  rintro e w' ⟨r1, rfl, hr1, rfl⟩
  have HR1 := Lib.hid hr1
  clear hr1 HL1
  go_wp2_with fail
  refine (HL2.out _ (bnew w _)).mono ?_
  rintro e w' ⟨r2, rfl, hr2, rfl⟩
  have HR2 := Lib.hid hr2
  clear hr2 HL2
  have HS := Lib.hid (Snd.new w L r1 r2)
  go_wp2_with fail
  go_loopw [16] (fun v wr => ∃ j : Nat, v = .int .i64 j ∧ j ≤ n ∧ Hid (Snd w wr L j r1 r2)) (fun v _ => n - (intOf v).toNat)
  case atStart => exact ⟨0, rfl, by omega, HS⟩
  case round =>
    obtain ⟨j, rfl, hj, HA⟩ := hrel
    by_cases hlt : j < n
    · obtain ⟨g, cs, rfl, hlat⟩ := H.out j hlt
      have HV := Lib.hid hlat
      obtain ⟨hm, hv⟩ := hlat wr HA.out.bel
      clear hlat
      have hld := run_blkLoad hm
      have hb1 := BIn.new wr (cs := blkZ) rfl
      have hst := run_blkStore hb1 hv.size hv.one
      obtain ⟨hb2, hc2⟩ := hb1.put (cs := cs) hv.size
      obtain ⟨W2, hW2⟩ : ∃ W2, (wr.alloc (.cells blkZ 30)).setRow wr.heap.size cs = W2 := ⟨_, rfl⟩
      rw [hW2] at hst hb2 hc2
      have hc : Below wr.heap.size wr W2 := (bnew wr _).trans (hc2.below (fun k hk => by rw [hk]; exact Nat.le_refl _) (by simp))
      obtain ⟨gb, hgb⟩ : ∃ gb, wr.heap.size = gb := ⟨_, rfl⟩
      have l1 := HA.out.n1.lt
      have l2 := HA.out.n2.lt
      have hC2 : Ch (fun _ => False) wr W2 := Ch.of_below hc
      have N1 := HA.out.n1.ch hC2 id
      have N2 := HA.out.n2.ch hC2 id
      have HB := Lib.hid hb2
      have c0 := hb2.cell hv.id
      have HBl := Lib.hid hc
      have HW := Lib.hid hgb
      obtain ⟨y, hy⟩ : ∃ y, (gL L j).id = y := ⟨_, rfl⟩
      have HY := Lib.hid hy
      have H0 : Hid (cs[0]? = some (.int .i64 y)) := Lib.hid (by rw [← hy]; exact hv.id)
      obtain ⟨R1, hR1⟩ : ∃ R, fitF 36 37 r1 (openF L 36 37 j) j y = R := ⟨_, rfl⟩
      obtain ⟨R2, hR2⟩ : ∃ R, fitF 33 34 r2 (openF L 33 34 j) j y = R := ⟨_, rfl⟩
      have hR2' := hR2
      have HF1 := Lib.hid (fit_is (L := L) (b := 36) (e := 37) (i := j) (by decide) (by rw [HN.out]; exact hlt) HR1.out)
      have HF2 := Lib.hid (fit_is (L := L) (b := 33) (e := 34) (i := j) (by decide) (by rw [HN.out]; exact hlt) HR2.out)
      rw [hy, hR1] at HF1
      rw [hy, hR2] at HF2
      have hf1 := fits_any W2 _ 36 37 r1 _ N1 j y
      rw [hR1] at hf1
      have HC1 := Lib.hid hf1
      have HN2 := Lib.hid N2
      have HG := Lib.hid (show w.heap.size < gb ∧ w.heap.size + 1 < gb by omega)
      rw [hy] at c0
      have hsz : wr.heap.size = gb := hgb
      rw [hgb] at hst hb2 c0 HB
      clear hb1 hm hv hc2 hc hC2 N1 N2 hf1 l1 l2 hgb hy hb2 hW2 hR1 hR2
      obtain ⟨q1, o1⟩ := R1
      have HB2 : Hid (Below w.heap.size w W2) := Lib.hid (HA.out.bel.trans (HBl.out.mono HA.out.bel.size))
      go_wp2_with fail
      clear hsz
      refine HC1.out.mono ?_
      rintro e w3 ⟨rfl, n3, c3⟩
      have HN3 := Lib.hid n3
      have c0' := (HB.out.ch c3 (by have := HG.out; omega)).cell H0.out
      have HB3 := Lib.hid (HB.out.ch c3 (by have := HG.out; omega))
      have hN23 := HN2.out.ch c3 (by omega)
      have HL3 : Hid (Below w.heap.size w w3) := Lib.hid (HB2.out.trans (c3.below (fun k hk => by omega) HB2.out.size))
      clear c3 n3 HC1 hst hld
      cases q1
      · have HE : Hid (SoundIs L j 6) := Lib.hid ⟨HA.out.ok, Or.inl ⟨by rw [HN.out]; exact hlt, wrong_loop (Or.inl (HF1.out.1 (by first | trivial | rfl))), by decide⟩⟩
        go_wp2_with fail
        go_ret2
        exact ⟨j, 6, rfl, HE.out, HL3.out⟩
      · have HC2 := Lib.hid (fits_any w3 _ 33 34 r2 _ hN23 j y)
        have HR := Lib.hid hR2'
        rw [HR.out] at HC2
        clear hN23 hR2'
        obtain ⟨q2, o2⟩ := R2
        go_wp2_with fail
        refine HC2.out.mono ?_
        rintro e w4 ⟨rfl, n4, c4⟩
        have HN24 := Lib.hid n4
        have HN14 := Lib.hid (HN3.out.ch c4 (by omega))
        have HB4 := Lib.hid (HB3.out.ch c4 (by have := HG.out; omega))
        have HL4 : Hid (Below w.heap.size w w4) := Lib.hid (HL3.out.trans (c4.below (fun k hk => by omega) HL3.out.size))
        clear c4 n4 HC2 HR c0'
        have O1 := HF1.out.2 (by first | trivial | rfl)
        cases q2
        · have HE : Hid (SoundIs L j 6) := Lib.hid ⟨HA.out.ok, Or.inl ⟨by rw [HN.out]; exact hlt, wrong_loop (Or.inr (HF2.out.1 (by first | trivial | rfl))), by decide⟩⟩
          clear O1
          go_wp2_with fail
          go_ret2
          exact ⟨j, 6, rfl, HE.out, HL4.out⟩
        · have O2 := HF2.out.2 (by first | trivial | rfl)
          have HO := Lib.hid (And.intro O1 O2)
          clear O1 O2
          have hld4 := run_blkLoad HB4.out.mid
          have HD := Lib.hid (leads_any F w4 cs (gL L j) (HV.out w4 HL4.out).2 j n hlt hn)
          go_wp2_with fail
          refine HD.out.mono ?_
          rintro e w5 ⟨q3, rfl, hq3, hb5⟩
          have HQ := Lib.hid hq3
          have HB5 := Lib.hid hb5
          clear hq3 hb5 hld4 HD
          cases q3
          · have HE : Hid (SoundIs L j 5) := Lib.hid ⟨HA.out.ok, Or.inl ⟨by rw [HN.out]; exact hlt, wrong_far HO.out.1.1 HO.out.2.1 (by
              unfold farBad
              rw [HN.out]
              exact Classical.byContradiction fun x => by have := HQ.out.2 x; cases this), by decide⟩⟩
            go_wp2_with fail
            go_ret2
            exact ⟨j, 5, rfl, HE.out, HL4.out.trans (HB5.out.mono HL4.out.size)⟩
          · have HE : Hid (Snd w w5 L (j + 1) r1 r2) := Lib.hid ⟨by
                have e1 : o1 = openF L 36 37 (j + 1) := HO.out.1.2
                rw [← e1]
                exact (HB5.out.block _ HN14.out.lt).trans HN14.out, by
                have e2 : o2 = openF L 33 34 (j + 1) := HO.out.2.2
                rw [← e2]
                exact (HB5.out.block _ HN24.out.lt).trans HN24.out, HL4.out.trans (HB5.out.mono HL4.out.size), fun j' hj' => by
                by_cases x : j' = j
                · rw [x]
                  refine wrong_no HO.out.1.1 HO.out.2.1 ?_
                  unfold farBad
                  rw [HN.out]
                  exact HQ.out.1 (by first | trivial | rfl)
                · exact HA.out.ok j' (by omega)⟩
            go_wp2_with fail
            go_roundw
            case rel => exact ⟨j + 1, by go_num, by omega, HE⟩
            case measure => simp [intOf]; omega
    · have HE : Hid (SoundIs L 0 0) := Lib.hid ⟨fun j' h' => absurd h' (by omega), Or.inr ⟨rfl, rfl, fun j' h' => HA.out.ok j' (by rw [HN.out] at h'; omega)⟩⟩
      go_wp2_with fail
      go_ret2
      exact ⟨0, 0, rfl, HE.out, HA.out.bel⟩

end Go.Proofs.Ythlaglhlmbkniaa
