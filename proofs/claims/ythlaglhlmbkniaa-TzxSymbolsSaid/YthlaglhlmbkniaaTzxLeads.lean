/- tzx.leads: its contract. -/
import Derived.Test.YthlaglhlmbkniaaTzxFits
namespace Go.Proofs.Ythlaglhlmbkniaa
open Go.RowKit
set_option linter.unusedVariables false
set_option linter.unusedSimpArgs false
set_option maxRecDepth 100000

/-- Three boxes: a block's, two numbers'. -/
structure Led (w w3 : World) (cs : Array Value) (i n : Nat) : Prop where
  b : BIn w3 w.heap.size cs
  ci : w3.cell? ⟨w.heap.size + 1, 0, none⟩ = some (.int .i64 (i : Nat))
  cn : w3.cell? ⟨w.heap.size + 2, 0, none⟩ = some (.int .i64 (n : Nat))
  bel : Below w.heap.size w w3
theorem Led.below {w w3 w4 : World} {cs : Array Value} {i n : Nat} (h : Led w w3 cs i n) (hb : Below w3.heap.size w3 w4) : Led w w4 cs i n :=
  ⟨h.b.below hb, (World.cell?_of_block (a := ⟨w.heap.size + 1, 0, none⟩) (hb.block _ (blk_lt h.ci))).trans h.ci, (World.cell?_of_block (a := ⟨w.heap.size + 2, 0, none⟩) (hb.block _ (blk_lt h.cn))).trans h.cn, h.bel.trans (hb.mono h.bel.size)⟩
theorem Led.new (w : World) {cs : Array Value} (hs : cs.size = 18) (i n : Nat) : Led w (((w.alloc (.cells cs 30)).alloc (.cells #[.int .i64 (i : Nat)] 3)).alloc (.cells #[.int .i64 (n : Nat)] 3)) cs i n := by
  have h0 := BIn.new w hs
  have b1 := bnew (w.alloc (.cells cs 30)) (.cells #[.int .i64 (i : Nat)] 3)
  have b2 := bnew ((w.alloc (.cells cs 30)).alloc (.cells #[.int .i64 (i : Nat)] 3)) (.cells #[.int .i64 (n : Nat)] 3)
  have b0 := bnew w (.cells cs 30)
  have s1 : (w.alloc (.cells cs 30)).heap.size = w.heap.size + 1 := by simp
  have s2 : ((w.alloc (.cells cs 30)).alloc (.cells #[.int .i64 (i : Nat)] 3)).heap.size = w.heap.size + 2 := by simp
  refine ⟨(h0.below b1).below b2, ?_, ?_, (b0.trans (b1.mono (by omega))).trans (b2.mono (by omega))⟩
  · rw [← s1]
    refine (World.cell?_of_block (a := ⟨_, 0, none⟩) (b2.block _ (by simp))).trans ?_
    exact cell_of_row _ _ 0 _ _ (0, 0) (heap_alloc_new _ _)
  · rw [← s2]
    exact cell_of_row _ _ 0 _ _ (0, 0) (heap_alloc_new _ _)
attribute [local simp ↓ high] blkLoad_as blkStore_as blkAlloc_as
set_option maxHeartbeats 1600000 in
theorem leads_any (F : Nat → Prop) (w : World) (cs : Array Value) (b : Lb) (h : BV F w cs b) (i n : Nat) (hi : i < n) (hn : n ≤ 1000000) :
    Calls Try.prog 20 #[.agg cs, .int .i64 (i : Nat), .int .i64 (n : Nat)] w fun x w' => ∃ q, x = .returned (.bool q) ∧ (q = true ↔ ¬ farB b n i) ∧ Below w.heap.size w w' := by
  have hbx : (Value.agg cs).cells = cs := rfl
  have hmf : ∀ (fn : Fn) (first cap : Array Value) (w : World), (Instr.makeFunc fn first cap).run Try.prog w = .ok (.func fn first cap) w := fun _ _ _ _ => rfl
  have hl3 := Led.new w h.size i n
  have HB : Hid (∀ u, Below w.heap.size w u → BV F u cs b) := Lib.hid fun u hu => h.below hu
  obtain ⟨h1, h2, hid, ⟨At, mt, ct, h4, h5⟩, Ai, mi, ci, h6, h7⟩ := h
  have c0 := hl3.b.cell hid
  have c13 := hl3.b.cell h4
  have c14 := hl3.b.cell h6
  have ht1 := h5.fit
  have ht2 := h5.max
  have hi1 := h7.fit
  have hi2 := h7.max
  unfold maxLen at ht2 hi2
  have HT := Lib.hid (fun u (hu : Below w.heap.size w u) => h5.below hu)
  have HI := Lib.hid (fun u (hu : Below w.heap.size w u) => h7.keep hu.size fun k hk _ => hu.block k hk)
  have HL := Lib.hid hl3
  have HTl := Lib.hid h5.len
  have HIl := Lib.hid h7.len
  clear h1 h2 hid h4 h5 h6 h7 hl3 HB
  have HF : Hid (farB b n i ↔ farB b n i) := Lib.hid Iff.rfl
  by_cases k1 : b.id = 35 ∨ b.id = 38
  · have HK : Hid (farB b n i ↔ ∃ j, j < mt ∧ away n i (gI b.ts j)) := Lib.hid (by
      unfold farB
      rw [HTl.out]
      refine ⟨fun x => ?_, fun x => Or.inl ⟨k1, x⟩⟩
      rcases x with x | x
      · exact x.2
      · omega)
    clear HF HI HIl hi1 hi2 c14
    have hq : ∃ q : Bool, (b.id == 35) = q ∧ (q = false → (b.id == 38) = true) := ⟨_, rfl, fun x => by
      rw [beq_eq_false_iff_ne] at x
      rw [beq_iff_eq]
      exact k1.resolve_left x⟩
    obtain ⟨q, d1, d2'⟩ := hq
    generalize b.id = y at *
    clear k1
    have hts : ∃ q2 : Bool, q = false → (y == 38) = q2 := ⟨_, fun _ => rfl⟩
    have hd : Hid (q = false → (y == 38) = true) := Lib.hid d2'
    clear hts d2'
    cases q
    · have d2 := hd.out rfl
      clear hd
      go_enter Try.func20, Try.ntmps20
      go_wp2_with fail
      generalize hW : World.alloc (World.alloc (World.alloc w _) _) _ = W3 at *
      clear hW
      go_loopw [21] (fun v wr => ∃ j : Nat, v = .int .i64 j ∧ j ≤ mt ∧ wr = W3 ∧ Hid (∀ j', j' < j → ¬ away n i (gI b.ts j'))) (fun v _ => mt - (intOf v).toNat)
      case atStart => exact ⟨0, rfl, by omega, rfl, Lib.hid fun j' hj => absurd hj (by omega)⟩
      case round =>
        obtain ⟨j, rfl, hj, rfl, HA⟩ := hrel
        by_cases hlt : j < mt
        · obtain ⟨g, o, rfl, _, _, hk⟩ := (HT.out wr HL.out.bel).lies (by omega)
          have cj : wr.cell? ⟨g, o + j, none⟩ = some (.int .i64 (gI b.ts j)) := hk j hlt
          have HC := Lib.hid (away_any wr _ _ i n HL.out.ci HL.out.cn hn hi (gI b.ts j))
          obtain ⟨x, hx⟩ : ∃ x, gI b.ts j = x := ⟨_, rfl⟩
          rw [hx] at cj HC
          have HX := Lib.hid hx
          clear hk hx
          go_wp2_with fail
          refine HC.out.mono ?_
          rintro e w' ⟨q, rfl, hq, rfl⟩
          have HQ := Lib.hid hq
          clear hq HC
          cases q
          · have HE : Hid (∀ j', j' < j + 1 → ¬ away n i (gI b.ts j')) := Lib.hid fun j' hj' => by
              by_cases e : j' = j
              · rw [e, HX.out]; exact fun y => by have := HQ.out.2 y; cases this
              · exact HA.out j' (by omega)
            go_wp2_with fail
            go_roundw
            case rel => exact ⟨j + 1, by go_num, by omega, trivial, HE⟩
            case measure => simp [intOf]; omega
          · have HE : Hid (farB b n i) := Lib.hid (HK.out.2 ⟨j, hlt, by rw [HX.out]; exact HQ.out.1 rfl⟩)
            go_wp2_with fail
            go_ret
            exact ⟨_, rfl, ⟨fun x => (by cases x), fun x => absurd HE.out x⟩, HL.out.bel⟩
        · have HE : Hid (¬ farB b n i) := Lib.hid fun x => by
            obtain ⟨j', h1, h2⟩ := HK.out.1 x
            exact HA.out j' (by omega) h2
          go_wp2_with fail
          go_ret
          exact ⟨_, rfl, ⟨fun _ => HE.out, fun _ => rfl⟩, HL.out.bel⟩
    · clear hd
      go_enter Try.func20, Try.ntmps20
      go_wp2_with fail
      generalize hW : World.alloc (World.alloc (World.alloc w _) _) _ = W3 at *
      clear hW
      go_loopw [21] (fun v wr => ∃ j : Nat, v = .int .i64 j ∧ j ≤ mt ∧ wr = W3 ∧ Hid (∀ j', j' < j → ¬ away n i (gI b.ts j'))) (fun v _ => mt - (intOf v).toNat)
      case atStart => exact ⟨0, rfl, by omega, rfl, Lib.hid fun j' hj => absurd hj (by omega)⟩
      case round =>
        obtain ⟨j, rfl, hj, rfl, HA⟩ := hrel
        by_cases hlt : j < mt
        · obtain ⟨g, o, rfl, _, _, hk⟩ := (HT.out wr HL.out.bel).lies (by omega)
          have cj : wr.cell? ⟨g, o + j, none⟩ = some (.int .i64 (gI b.ts j)) := hk j hlt
          have HC := Lib.hid (away_any wr _ _ i n HL.out.ci HL.out.cn hn hi (gI b.ts j))
          obtain ⟨x, hx⟩ : ∃ x, gI b.ts j = x := ⟨_, rfl⟩
          rw [hx] at cj HC
          have HX := Lib.hid hx
          clear hk hx
          go_wp2_with fail
          refine HC.out.mono ?_
          rintro e w' ⟨q, rfl, hq, rfl⟩
          have HQ := Lib.hid hq
          clear hq HC
          cases q
          · have HE : Hid (∀ j', j' < j + 1 → ¬ away n i (gI b.ts j')) := Lib.hid fun j' hj' => by
              by_cases e : j' = j
              · rw [e, HX.out]; exact fun y => by have := HQ.out.2 y; cases this
              · exact HA.out j' (by omega)
            go_wp2_with fail
            go_roundw
            case rel => exact ⟨j + 1, by go_num, by omega, trivial, HE⟩
            case measure => simp [intOf]; omega
          · have HE : Hid (farB b n i) := Lib.hid (HK.out.2 ⟨j, hlt, by rw [HX.out]; exact HQ.out.1 rfl⟩)
            go_wp2_with fail
            go_ret
            exact ⟨_, rfl, ⟨fun x => (by cases x), fun x => absurd HE.out x⟩, HL.out.bel⟩
        · have HE : Hid (¬ farB b n i) := Lib.hid fun x => by
            obtain ⟨j', h1, h2⟩ := HK.out.1 x
            exact HA.out j' (by omega) h2
          go_wp2_with fail
          go_ret
          exact ⟨_, rfl, ⟨fun _ => HE.out, fun _ => rfl⟩, HL.out.bel⟩
  · have k2 : b.id ≠ 35 := fun x => k1 (Or.inl x)
    have k3 : b.id ≠ 38 := fun x => k1 (Or.inr x)
    have d1 : (b.id == 35) = false := by rw [beq_eq_false_iff_ne]; exact k2
    have d2 : (b.id == 38) = false := by rw [beq_eq_false_iff_ne]; exact k3
    clear HT HTl ht1 ht2 c13
    by_cases k4 : b.id = 40
    · have d3 : (b.id == 40) = true := by rw [beq_iff_eq]; exact k4
      have HK : Hid (farB b n i ↔ ∃ j, j < mi ∧ away n i (gI b.ns j)) := Lib.hid (by
        unfold farB
        rw [HIl.out]
        refine ⟨fun x => ?_, fun x => Or.inr ⟨k4, x⟩⟩
        rcases x with x | x
        · exact absurd x.1 k1
        · exact x.2)
      clear HF k1 k2 k3 k4
      generalize b.id = y at *
      go_enter Try.func20, Try.ntmps20
      go_wp2_with fail
      generalize hW : World.alloc (World.alloc (World.alloc w _) _) _ = W3 at *
      clear hW
      go_loopw [34] (fun v wr => ∃ j : Nat, v = .int .i64 j ∧ j ≤ mi ∧ Hid (Below W3.heap.size W3 wr) ∧ Hid (∀ j', j' < j → ¬ away n i (gI b.ns j'))) (fun v _ => mi - (intOf v).toNat)
      case atStart => exact ⟨0, rfl, by omega, Lib.hid (Below.refl _ _), Lib.hid fun j' hj => absurd hj (by omega)⟩
      case round =>
        obtain ⟨j, rfl, hj, HBl, HA⟩ := hrel
        have HLr := Lib.hid (HL.out.below HBl.out)
        by_cases hlt : j < mi
        · obtain ⟨g, o, rfl, _, hgl, hk⟩ := (HI.out wr HLr.out.bel).lies (by omega)
          obtain ⟨cj, D, dm, dc, cj2⟩ := hk j hlt
          obtain ⟨x, hx⟩ : ∃ x, gI b.ns j = x := ⟨_, rfl⟩
          rw [hx] at cj
          have HX := Lib.hid hx
          have HbN : Hid (Below wr.heap.size wr (wr.alloc (.cells #[.int .i64 x, .slice D dm dc] 32))) := Lib.hid (bnew wr _)
          have HC := Lib.hid (away_any (wr.alloc (.cells #[.int .i64 x, .slice D dm dc] 32)) _ _ i n (HLr.out.below HbN.out).ci (HLr.out.below HbN.out).cn hn hi x)
          clear hk hx hgl
          go_wp2_with fail
          refine HC.out.mono ?_
          rintro e w' ⟨q, rfl, hq, rfl⟩
          have HQ := Lib.hid hq
          clear hq HC
          cases q
          · have HE : Hid (∀ j', j' < j + 1 → ¬ away n i (gI b.ns j')) := Lib.hid fun j' hj' => by
              by_cases e : j' = j
              · rw [e, HX.out]; exact fun y => by have := HQ.out.2 y; cases this
              · exact HA.out j' (by omega)
            have HB2 := Lib.hid (HBl.out.trans (HbN.out.mono HBl.out.size))
            go_wp2_with fail
            go_roundw
            case rel => exact ⟨j + 1, by go_num, by omega, HB2, HE⟩
            case measure => simp [intOf]; omega
          · have HE : Hid (farB b n i) := Lib.hid (HK.out.2 ⟨j, hlt, by rw [HX.out]; exact HQ.out.1 rfl⟩)
            go_wp2_with fail
            go_ret
            exact ⟨_, rfl, ⟨fun x => (by cases x), fun x => absurd HE.out x⟩, (HLr.out.below HbN.out).bel⟩
        · have HE : Hid (¬ farB b n i) := Lib.hid fun x => by
            obtain ⟨j', h1, h2⟩ := HK.out.1 x
            exact HA.out j' (by omega) h2
          go_wp2_with fail
          go_ret
          exact ⟨_, rfl, ⟨fun _ => HE.out, fun _ => rfl⟩, HLr.out.bel⟩
    · have d3 : (b.id == 40) = false := by rw [beq_eq_false_iff_ne]; exact k4
      have HE : Hid (¬ farB b n i) := Lib.hid (by
        unfold farB
        rintro (x | x)
        · exact k1 x.1
        · exact k4 x.1)
      clear k1 k2 k3 k4 HF
      generalize b.id = y at *
      go_enter Try.func20, Try.ntmps20
      go_wp2_with fail
      go_ret
      exact ⟨_, rfl, ⟨fun _ => HE.out, fun _ => rfl⟩, HL.out.bel⟩

end Go.Proofs.Ythlaglhlmbkniaa
