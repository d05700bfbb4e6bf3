/- Out of the document's board: its contract. -/
import Derived.Test.YtkcfacbnbjkheaaDoorDocNext
namespace Go.Proofs.YtkcfacbnbjkheaaDoor
open Go.RowKit
set_option maxRecDepth 100000

/-- Behind the two levels, as the document writes them. -/
def lvS (s : St) (v : Int) (k : Bool) : St := { s with border := v % 8, spk := k }
theorem lv_same (s : St) (v : Int) (m k : Bool) (h : m = s.mic) : ({ lvS s v k with mic := m } : St) = spkS (micS (paintS s v) m) k := by
  have e : micS (paintS s v) m = paintS s v := if_pos h
  rw [e]; subst h; rfl
theorem lv_other (s : St) (v : Int) (m k : Bool) (h : ¬ m = s.mic) : ({ { lvS s v k with edges := (lvS s v k).edges ++ [s.t] } with mic := m } : St) = spkS (micS (paintS s v) m) k := by
  have e : micS (paintS s v) m = { paintS s v with mic := m, edges := (paintS s v).edges ++ [(paintS s v).t] } := if_neg h
  rw [e]; rfl
theorem ch_own {w w' : World} {x : Nat} {vd ea ee : Value} {L : List Int} (h : Ch (fun i => i = x) w w') : Ch (Fd x vd ea ee L) w w' := (Ch.refl _ w).trans h (fun _ hk => Or.inl (Or.inl hk))

set_option maxHeartbeats 12800000 in
theorem dout_any (x base : Nat) (s : St) (ph : Int) (vd ea ee : Value) (L : List Int) (w : World) (hD : DAt w x base s ph vd ea ee L) (p v : Int) (p0 : 0 ≤ p) (p1 : p ≤ 65535) (v0 : 0 ≤ v) (v1 : v ≤ 255) (hl : s.acts.length ≤ 90000) (hl2 : s.edges.length ≤ 90000) :
    Calls Tryd.prog 33 #[.pointer (some ⟨x, 0, none⟩), .int .u16 p, .int .u8 v] w fun e w' => e = .returned (.tuple #[]) ∧ Dwent x base (outS s p v) ph vd ea ee L L w w' := by
  have hflat := hD.c_flat
  by_cases hp : p % 2 = 0
  · have HO := Lib.hid (over_any x base s ph vd ea ee L w hD)
    have HD := Lib.hid (fun w1 (hb : Below w.heap.size w w1) => hD.below hb)
    have HF := Lib.hid (fun w1 w' hb => @Dwent.from w w1 w' x base (outS s p v) ph vd ea ee L L hb)
    have HQ := Lib.hid (show outS s p v = logS (spkS (micS (paintS s v) (v / 8 % 2 == 1)) (v / 16 % 2 == 1)) true p v from if_pos hp)
    have hq : (p % 2 == 1) = false := by
      have : p % 2 ≠ 1 := by omega
      simpa using this
    obtain ⟨m, em⟩ : ∃ m, (v / 8 % 2 == 1) = m := ⟨_, rfl⟩
    obtain ⟨k, ek⟩ : ∃ k, (v / 16 % 2 == 1) = k := ⟨_, rfl⟩
    rw [em, ek] at HQ
    clear hD hp
    by_cases hm : m = s.mic
    · have HE := Lib.hid (lv_same s v m k hm)
      cases hlog : s.log
      · go_enter Tryd.func33, Tryd.ntmps33
        go_wp2_with fail
        refine (HO.out).mono ?_
        rintro e w1 ⟨rfl, hb1⟩
        have hD1 := HD.out _ hb1
        have c1 := hD1.c_border
        have c2 := hD1.c_spk
        have c3 := hD1.c_mic
        have c4 := hD1.c_log
        have f1 := hD1.frz 65547
        have f2 := hD1.frz 65549
        have f3 := hD1.frz 65548
        rw [hlog] at c4
        have hD3 : DAt ((w1.setCell ⟨x, 65547, none⟩ (.int .u8 (v % 8))).setCell ⟨x, 65549, none⟩ (.bool k)) x base (lvS s v k) ph vd ea ee L := (hD1.set 65547 (.int .u8 (v % 8)) (dset_border s ph vd ea ee (v % 8)) rfl rfl rfl hD1.fr).set 65549 (.bool k) (dset_spk _ ph vd ea ee k) rfl rfl rfl hD1.fr
        have hc3 : Ch (fun i => i = x) w1 ((w1.setCell ⟨x, 65547, none⟩ (.int .u8 (v % 8))).setCell ⟨x, 65549, none⟩ (.bool k)) := (Ch.set (F := fun i => i = x) w1 x 65547 _ rfl).trans (Ch.set (F := fun i => i = x) _ x 65549 _ rfl) (fun _ h => Or.inl h)
        rw [← hm] at c3
        clear hm
        have hD4 : DAt (((w1.setCell ⟨x, 65547, none⟩ (.int .u8 (v % 8))).setCell ⟨x, 65549, none⟩ (.bool k)).setCell ⟨x, 65548, none⟩ (.bool m)) x base { lvS s v k with mic := m } ph vd ea ee L := hD3.set 65548 (.bool m) (dset_mic _ ph vd ea ee m) rfl rfl rfl hD3.fr
        have hc4 : Ch (fun i => i = x) w1 (((w1.setCell ⟨x, 65547, none⟩ (.int .u8 (v % 8))).setCell ⟨x, 65549, none⟩ (.bool k)).setCell ⟨x, 65548, none⟩ (.bool m)) := hc3.trans (Ch.set (F := fun i => i = x) _ x 65548 _ rfl) (fun _ h => Or.inl h)
        rw [HE.out] at hD4
        have HD4 := Lib.hid hD4
        have HC4 := Lib.hid hc4
        clear hD1 hD3 hc3 hD4 hc4
        go_wp2_with fail
        go_end0
        exact ⟨rfl, HF.out _ _ hb1 (by rw [HQ.out]; unfold logS; rw [show (spkS (micS (paintS s v) m) k).log = false by rw [← HE.out]; exact hlog]; exact Dwent.stay HD4.out (ch_own HC4.out))⟩
      · go_enter Tryd.func33, Tryd.ntmps33
        go_wp2_with fail
        refine (HO.out).mono ?_
        rintro e w1 ⟨rfl, hb1⟩
        have hD1 := HD.out _ hb1
        have c1 := hD1.c_border
        have c2 := hD1.c_spk
        have c3 := hD1.c_mic
        have c4 := hD1.c_log
        have f1 := hD1.frz 65547
        have f2 := hD1.frz 65549
        have f3 := hD1.frz 65548
        rw [hlog] at c4
        have hD3 : DAt ((w1.setCell ⟨x, 65547, none⟩ (.int .u8 (v % 8))).setCell ⟨x, 65549, none⟩ (.bool k)) x base (lvS s v k) ph vd ea ee L := (hD1.set 65547 (.int .u8 (v % 8)) (dset_border s ph vd ea ee (v % 8)) rfl rfl rfl hD1.fr).set 65549 (.bool k) (dset_spk _ ph vd ea ee k) rfl rfl rfl hD1.fr
        have hc3 : Ch (fun i => i = x) w1 ((w1.setCell ⟨x, 65547, none⟩ (.int .u8 (v % 8))).setCell ⟨x, 65549, none⟩ (.bool k)) := (Ch.set (F := fun i => i = x) w1 x 65547 _ rfl).trans (Ch.set (F := fun i => i = x) _ x 65549 _ rfl) (fun _ h => Or.inl h)
        rw [← hm] at c3
        clear hm
        have hD4 : DAt (((w1.setCell ⟨x, 65547, none⟩ (.int .u8 (v % 8))).setCell ⟨x, 65549, none⟩ (.bool k)).setCell ⟨x, 65548, none⟩ (.bool m)) x base { lvS s v k with mic := m } ph vd ea ee L := hD3.set 65548 (.bool m) (dset_mic _ ph vd ea ee m) rfl rfl rfl hD3.fr
        have hc4 : Ch (fun i => i = x) w1 (((w1.setCell ⟨x, 65547, none⟩ (.int .u8 (v % 8))).setCell ⟨x, 65549, none⟩ (.bool k)).setCell ⟨x, 65548, none⟩ (.bool m)) := hc3.trans (Ch.set (F := fun i => i = x) _ x 65548 _ rfl) (fun _ h => Or.inl h)
        rw [HE.out] at hD4
        have HD4 := Lib.hid hD4
        have HC4 := Lib.hid hc4
        clear hD1 hD3 hc3 hD4 hc4
        go_wp2_with fail
        have hD4 := HD4.out
        have hc4 := HC4.out
        clear HD4 HC4
        rw [← HE.out] at hD4
        generalize ((w1.setCell ⟨x, 65547, none⟩ (.int .u8 (v % 8))).setCell ⟨x, 65549, none⟩ (.bool k)).setCell ⟨x, 65548, none⟩ (.bool m) = w4 at hD4 hc4 ⊢
        have HD4 := Lib.hid hD4
        have HFIN := Lib.hid (fun (u : World) n gg cap (hgr : ((w4.alloc (.cells #[.int .u64 s.t, .bool true, .int .u16 p, .int .u8 v] 84)).drewN n).grownBy u ea.ownBlock) ho ha => show Dwent x base (outS s p v) ph vd ea ee L L w (u.setCell ⟨x, 65550, none⟩ (.slice (some ⟨gg, 0, none⟩) (s.acts.length + 1) cap)) from HF.out _ _ hb1 (Dwent.trans (ch_own hc4) (fun _ h => Or.inl h) (by rw [HQ.out, ← HE.out]; unfold logS; rw [if_pos (show ({ lvS s v k with mic := m } : St).log = true from hlog)]; exact dlog_any (n := n) hD4 true p v hgr ho ha)))
        clear hD4 hc4 c1 c2 c3 c4 f1 f2 f3 HD HF HE HQ HO
        have c_ea : w4.cell? ⟨x, 65550, none⟩ = some ea := HD4.out.c_ea
        have c_t : w4.cell? ⟨x, 65537, none⟩ = some (.int .u64 s.t) := HD4.out.c_t
        have f_ea := HD4.out.frz 65550
        have hlt := HD4.out.lt
        have hne := HD4.out.ea_ne
        have hrow : w4.ownsRow base 84 4 ea s.acts.length (flatA s.acts) := HD4.out.row
        have hbs : base ≤ w4.heap.size := Nat.le_trans HD4.out.lo (Nat.le_of_lt HD4.out.lt)
        obtain ⟨i0, hi, hz0, hz1, hz2⟩ := info_parts infoAct
        have HS := Lib.hid (fun (u : World) (hu : u.heap[x]? = w4.heap[x]?) => show u.cell? ⟨x, 65550, none⟩ = some ea ∧ u.frozen? ⟨x, 65550, none⟩ = false from ⟨(World.cell?_of_block (a := ⟨x, 65550, none⟩) hu).trans c_ea, (World.frozen?_of_block (a := ⟨x, 65550, none⟩) hu).trans f_ea⟩)
        go_region_law ((refine step_append_lies _ (by rfl) _ _ _ (by rfl) base 84 i0 _ 4 16 Tryd.underlying37 hi hz0 hz1 hz2 rfl (by decide) ea s.acts.length (flatA s.acts) (by rfl) (show _ from (hrow.alloc (.cells #[.int .u64 s.t, .bool true, .int .u16 p, .int .u8 v] 84))) ⟨w4.heap.size, 0, none⟩ 1 1 [.int .u64 s.t, .bool true, .int .u16 p, .int .u8 v] (by rfl) (by rfl) (World.news_of_block (cs := #[.int .u64 s.t, .bool true, .int .u16 p, .int .u8 v]) (t := 84) (fr := (0, 0)) (heap_alloc_new w4 _)) (by simp [Value.oneCell']) (by decide) (by unfold maxLen; omega) (by omega) (by simp; omega) (w4.heap.size + 1) (by simp) ?_; intro gg cap w9 hown1 hgrow hat hlt1; obtain ⟨d1, d3⟩ := HS.out w9 ((hgrow.block x (by simp; omega) (fun e => hne e.symm)).trans ((balloc w4 _).block x hlt))))
        all_goals
          go_wp2_with fail
          go_end0
          exact ⟨rfl, HFIN.out w9 1 gg cap hgrow hown1 hat⟩
    · have HE := Lib.hid (lv_other s v m k hm)
      have hne1 : (m == s.mic) = false := by
        cases h1 : m <;> cases h2 : s.mic <;> simp_all
      cases hlog : s.log
      · go_enter Tryd.func33, Tryd.ntmps33
        go_wp2_with fail
        refine (HO.out).mono ?_
        rintro e w1 ⟨rfl, hb1⟩
        have hD1 := HD.out _ hb1
        have c1 := hD1.c_border
        have c2 := hD1.c_spk
        have c3 := hD1.c_mic
        have c4 := hD1.c_log
        have f1 := hD1.frz 65547
        have f2 := hD1.frz 65549
        have f3 := hD1.frz 65548
        rw [hlog] at c4
        have hD3 : DAt ((w1.setCell ⟨x, 65547, none⟩ (.int .u8 (v % 8))).setCell ⟨x, 65549, none⟩ (.bool k)) x base (lvS s v k) ph vd ea ee L := (hD1.set 65547 (.int .u8 (v % 8)) (dset_border s ph vd ea ee (v % 8)) rfl rfl rfl hD1.fr).set 65549 (.bool k) (dset_spk _ ph vd ea ee k) rfl rfl rfl hD1.fr
        have hc3 : Ch (fun i => i = x) w1 ((w1.setCell ⟨x, 65547, none⟩ (.int .u8 (v % 8))).setCell ⟨x, 65549, none⟩ (.bool k)) := (Ch.set (F := fun i => i = x) w1 x 65547 _ rfl).trans (Ch.set (F := fun i => i = x) _ x 65549 _ rfl) (fun _ h => Or.inl h)
        have HD3 := Lib.hid hD3
        have HC3 := Lib.hid hc3
        clear hD1 hD3 hc3 hm
        go_wp2_with fail
        have hD3 := HD3.out
        have hc3 := HC3.out
        clear HD3 HC3
        generalize ((w1.setCell ⟨x, 65547, none⟩ (.int .u8 (v % 8))).setCell ⟨x, 65549, none⟩ (.bool k)) = w3 at hD3 hc3 ⊢
        have HD3 := Lib.hid hD3
        have HC3 := Lib.hid hc3
        have HGE := Lib.hid (fun (u : World) n gg cap (hgr : ((w3.alloc (.cells #[.int .u64 s.t] 35)).drewN n).grownBy u ee.ownBlock) ho ha => hD3.grewE (v' := .slice (some ⟨gg, 0, none⟩) (s.edges.length + 1) cap) (n := s.t) (Grew.of hgr) ho (lies_ok ha))
        clear hD3 hc3 c1 c2 c3 c4 f1 f2 f3 HD HO
        have c_ee : w3.cell? ⟨x, 65551, none⟩ = some ee := HD3.out.c_ee
        have c_t : w3.cell? ⟨x, 65537, none⟩ = some (.int .u64 s.t) := HD3.out.c_t
        have f_ee := HD3.out.frz 65551
        have hlt := HD3.out.lt
        have hne := HD3.out.ee_ne
        have hrow : w3.ownsRow base 35 1 ee s.edges.length (s.edges.map u64V) := HD3.out.tim
        have hbs : base ≤ w3.heap.size := Nat.le_trans HD3.out.lo (Nat.le_of_lt HD3.out.lt)
        obtain ⟨i0, hi, hz0, hz1, hz2⟩ := info_parts infoU64
        have HS := Lib.hid (fun (u : World) (hu : u.heap[x]? = w3.heap[x]?) => show u.cell? ⟨x, 65551, none⟩ = some ee ∧ u.frozen? ⟨x, 65551, none⟩ = false from ⟨(World.cell?_of_block (a := ⟨x, 65551, none⟩) hu).trans c_ee, (World.frozen?_of_block (a := ⟨x, 65551, none⟩) hu).trans f_ee⟩)
        go_region_law ((refine step_append_lies _ (by rfl) _ _ _ (by rfl) base 35 i0 _ 1 8 Tryd.underlying38 hi hz0 hz1 hz2 rfl (by decide) ee s.edges.length (s.edges.map u64V) (by rfl) (show _ from (hrow.alloc (.cells #[.int .u64 s.t] 35))) ⟨w3.heap.size, 0, none⟩ 1 1 [.int .u64 s.t] (by rfl) (by rfl) (World.news_of_block (cs := #[.int .u64 s.t]) (t := 35) (fr := (0, 0)) (heap_alloc_new w3 _)) (by simp [Value.oneCell']) (by decide) (by unfold maxLen; omega) (by omega) (by simp; omega) (w3.heap.size + 1) (by simp) ?_; intro gg cap w9 hown1 hgrow hat hlt1; obtain ⟨d1, d3⟩ := HS.out w9 ((hgrow.block x (by simp; omega) (fun e => hne e.symm)).trans ((balloc w3 _).block x hlt))))
        all_goals
          obtain ⟨vd2, ea2, ee2, hD5, hc5, hk5⟩ := HGE.out w9 1 gg cap hgrow hown1 hat
          generalize w9.setCell ⟨x, 65551, none⟩ (.slice (some ⟨gg, 0, none⟩) (s.edges.length + 1) cap) = w5 at hD5 hc5 ⊢
          have c5 : w5.cell? ⟨x, 65548, none⟩ = some (.bool s.mic) := hD5.c_mic
          have c6 : w5.cell? ⟨x, 65546, none⟩ = some _ := hD5.c_at
          have c7 : w5.cell? ⟨x, 65542, none⟩ = some (.bool s.log) := hD5.c_log
          rw [hlog] at c7
          have f5 := hD5.frz 65548
          have hD6 : DAt (w5.setCell ⟨x, 65548, none⟩ (.bool m)) x base { { lvS s v k with edges := (lvS s v k).edges ++ [s.t] } with mic := m } ph vd2 ea2 ee2 L := hD5.set 65548 (.bool m) (dset_mic _ ph vd2 ea2 ee2 m) rfl rfl rfl hD5.fr
          have hc6 : Ch (Fd x vd ea ee L) w3 (w5.setCell ⟨x, 65548, none⟩ (.bool m)) := hc5.trans (Ch.set (F := fun i => i = x) w5 x 65548 _ rfl) (fun _ h => Or.inl (Or.inl h))
          clear d1 d3 hD5 hc5 hown1 hgrow hat hlt1 c6 c_ee c_t f_ee hlt hne hrow HS HGE HD3 hbs
          go_wp2_with fail
          go_end0
          exact ⟨rfl, HF.out _ _ hb1 (Dwent.trans (ch_own HC3.out) (fun _ h => Or.inl h) ⟨vd2, ea2, ee2, by rw [HQ.out]; unfold logS; rw [show (spkS (micS (paintS s v) m) k).log = false by rw [← HE.out]; exact hlog]; rw [← HE.out]; exact hD6, hc6, hk5⟩)⟩
      · go_enter Tryd.func33, Tryd.ntmps33
        go_wp2_with fail
        refine (HO.out).mono ?_
        rintro e w1 ⟨rfl, hb1⟩
        have hD1 := HD.out _ hb1
        have c1 := hD1.c_border
        have c2 := hD1.c_spk
        have c3 := hD1.c_mic
        have c4 := hD1.c_log
        have f1 := hD1.frz 65547
        have f2 := hD1.frz 65549
        have f3 := hD1.frz 65548
        rw [hlog] at c4
        have hD3 : DAt ((w1.setCell ⟨x, 65547, none⟩ (.int .u8 (v % 8))).setCell ⟨x, 65549, none⟩ (.bool k)) x base (lvS s v k) ph vd ea ee L := (hD1.set 65547 (.int .u8 (v % 8)) (dset_border s ph vd ea ee (v % 8)) rfl rfl rfl hD1.fr).set 65549 (.bool k) (dset_spk _ ph vd ea ee k) rfl rfl rfl hD1.fr
        have hc3 : Ch (fun i => i = x) w1 ((w1.setCell ⟨x, 65547, none⟩ (.int .u8 (v % 8))).setCell ⟨x, 65549, none⟩ (.bool k)) := (Ch.set (F := fun i => i = x) w1 x 65547 _ rfl).trans (Ch.set (F := fun i => i = x) _ x 65549 _ rfl) (fun _ h => Or.inl h)
        have HD3 := Lib.hid hD3
        have HC3 := Lib.hid hc3
        clear hD1 hD3 hc3 hm
        go_wp2_with fail
        have hD3 := HD3.out
        have hc3 := HC3.out
        clear HD3 HC3
        generalize ((w1.setCell ⟨x, 65547, none⟩ (.int .u8 (v % 8))).setCell ⟨x, 65549, none⟩ (.bool k)) = w3 at hD3 hc3 ⊢
        have HD3 := Lib.hid hD3
        have HC3 := Lib.hid hc3
        have HGE := Lib.hid (fun (u : World) n gg cap (hgr : ((w3.alloc (.cells #[.int .u64 s.t] 35)).drewN n).grownBy u ee.ownBlock) ho ha => hD3.grewE (v' := .slice (some ⟨gg, 0, none⟩) (s.edges.length + 1) cap) (n := s.t) (Grew.of hgr) ho (lies_ok ha))
        clear hD3 hc3 c1 c2 c3 c4 f1 f2 f3 HD HO
        have c_ee : w3.cell? ⟨x, 65551, none⟩ = some ee := HD3.out.c_ee
        have c_t : w3.cell? ⟨x, 65537, none⟩ = some (.int .u64 s.t) := HD3.out.c_t
        have f_ee := HD3.out.frz 65551
        have hlt := HD3.out.lt
        have hne := HD3.out.ee_ne
        have hrow : w3.ownsRow base 35 1 ee s.edges.length (s.edges.map u64V) := HD3.out.tim
        have hbs : base ≤ w3.heap.size := Nat.le_trans HD3.out.lo (Nat.le_of_lt HD3.out.lt)
        obtain ⟨i0, hi, hz0, hz1, hz2⟩ := info_parts infoU64
        have HS := Lib.hid (fun (u : World) (hu : u.heap[x]? = w3.heap[x]?) => show u.cell? ⟨x, 65551, none⟩ = some ee ∧ u.frozen? ⟨x, 65551, none⟩ = false from ⟨(World.cell?_of_block (a := ⟨x, 65551, none⟩) hu).trans c_ee, (World.frozen?_of_block (a := ⟨x, 65551, none⟩) hu).trans f_ee⟩)
        go_region_law ((refine step_append_lies _ (by rfl) _ _ _ (by rfl) base 35 i0 _ 1 8 Tryd.underlying38 hi hz0 hz1 hz2 rfl (by decide) ee s.edges.length (s.edges.map u64V) (by rfl) (show _ from (hrow.alloc (.cells #[.int .u64 s.t] 35))) ⟨w3.heap.size, 0, none⟩ 1 1 [.int .u64 s.t] (by rfl) (by rfl) (World.news_of_block (cs := #[.int .u64 s.t]) (t := 35) (fr := (0, 0)) (heap_alloc_new w3 _)) (by simp [Value.oneCell']) (by decide) (by unfold maxLen; omega) (by omega) (by simp; omega) (w3.heap.size + 1) (by simp) ?_; intro gg cap w9 hown1 hgrow hat hlt1; obtain ⟨d1, d3⟩ := HS.out w9 ((hgrow.block x (by simp; omega) (fun e => hne e.symm)).trans ((balloc w3 _).block x hlt))))
        all_goals
          obtain ⟨vd2, ea2, ee2, hD5, hc5, hk5⟩ := HGE.out w9 1 gg cap hgrow hown1 hat
          generalize w9.setCell ⟨x, 65551, none⟩ (.slice (some ⟨gg, 0, none⟩) (s.edges.length + 1) cap) = w5 at hD5 hc5 ⊢
          have c5 : w5.cell? ⟨x, 65548, none⟩ = some (.bool s.mic) := hD5.c_mic
          have c6 : w5.cell? ⟨x, 65546, none⟩ = some _ := hD5.c_at
          have c7 : w5.cell? ⟨x, 65542, none⟩ = some (.bool s.log) := hD5.c_log
          rw [hlog] at c7
          have f5 := hD5.frz 65548
          have hD6 : DAt (w5.setCell ⟨x, 65548, none⟩ (.bool m)) x base { { lvS s v k with edges := (lvS s v k).edges ++ [s.t] } with mic := m } ph vd2 ea2 ee2 L := hD5.set 65548 (.bool m) (dset_mic _ ph vd2 ea2 ee2 m) rfl rfl rfl hD5.fr
          have hc6 : Ch (Fd x vd ea ee L) w3 (w5.setCell ⟨x, 65548, none⟩ (.bool m)) := hc5.trans (Ch.set (F := fun i => i = x) w5 x 65548 _ rfl) (fun _ h => Or.inl (Or.inl h))
          clear d1 d3 hD5 hc5 hown1 hgrow hat hlt1 c6 c_ee c_t f_ee hlt hne hrow HS HGE HD3 hbs
          have HD6 := Lib.hid hD6
          have HC6 := Lib.hid hc6
          clear hD6 hc6
          go_wp2_with fail
          have hD6 := HD6.out
          have hc6 := HC6.out
          clear HD6 HC6
          generalize w5.setCell ⟨x, 65548, none⟩ (.bool m) = w6 at hD6 hc6 ⊢
          have HD6 := Lib.hid hD6
          have HFIN := Lib.hid (fun (u : World) n gg cap (hgr : ((w6.alloc (.cells #[.int .u64 s.t, .bool true, .int .u16 p, .int .u8 v] 84)).drewN n).grownBy u ea2.ownBlock) ho ha => show Dwent x base (outS s p v) ph vd ea ee L L w (u.setCell ⟨x, 65550, none⟩ (.slice (some ⟨gg, 0, none⟩) (s.acts.length + 1) cap)) from HF.out _ _ hb1 (Dwent.trans (ch_own HC3.out) (fun _ h => Or.inl h) (Dwent.trans hc6 hk5 (by rw [HQ.out, ← HE.out]; unfold logS; split; exact dlog_any (n := n) hD6 true p v hgr ho ha; rename_i hh; exact absurd hlog hh))))
          clear hD6 hc6 c5 c7 f5 HF HE HQ HC3
          have c_ea : w6.cell? ⟨x, 65550, none⟩ = some ea2 := HD6.out.c_ea
          have c_t : w6.cell? ⟨x, 65537, none⟩ = some (.int .u64 s.t) := HD6.out.c_t
          have f_ea := HD6.out.frz 65550
          have hlt := HD6.out.lt
          have hne := HD6.out.ea_ne
          have hrow : w6.ownsRow base 84 4 ea2 s.acts.length (flatA s.acts) := HD6.out.row
          have hbs : base ≤ w6.heap.size := Nat.le_trans HD6.out.lo (Nat.le_of_lt HD6.out.lt)
          obtain ⟨i0, hi, hz0, hz1, hz2⟩ := info_parts infoAct
          have HS := Lib.hid (fun (u : World) (hu : u.heap[x]? = w6.heap[x]?) => show u.cell? ⟨x, 65550, none⟩ = some ea2 ∧ u.frozen? ⟨x, 65550, none⟩ = false from ⟨(World.cell?_of_block (a := ⟨x, 65550, none⟩) hu).trans c_ea, (World.frozen?_of_block (a := ⟨x, 65550, none⟩) hu).trans f_ea⟩)
          go_region_law ((refine step_append_lies _ (by rfl) _ _ _ (by rfl) base 84 i0 _ 4 16 Tryd.underlying37 hi hz0 hz1 hz2 rfl (by decide) ea2 s.acts.length (flatA s.acts) (by rfl) (show _ from (hrow.alloc (.cells #[.int .u64 s.t, .bool true, .int .u16 p, .int .u8 v] 84))) ⟨w6.heap.size, 0, none⟩ 1 1 [.int .u64 s.t, .bool true, .int .u16 p, .int .u8 v] (by rfl) (by rfl) (World.news_of_block (cs := #[.int .u64 s.t, .bool true, .int .u16 p, .int .u8 v]) (t := 84) (fr := (0, 0)) (heap_alloc_new w6 _)) (by simp [Value.oneCell']) (by decide) (by unfold maxLen; omega) (by omega) (by simp; omega) (w6.heap.size + 1) (by simp) ?_; intro gg cap w9 hown1 hgrow hat hlt1; obtain ⟨d1, d3⟩ := HS.out w9 ((hgrow.block x (by simp; omega) (fun e => hne e.symm)).trans ((balloc w6 _).block x hlt))))
          all_goals
            go_wp2_with fail
            go_end0
            exact ⟨rfl, HFIN.out w9 1 gg cap hgrow hown1 hat⟩
  · have hq : (p % 2 == 1) = true := by simp; omega
    have HN := Lib.hid (show Dwent x base (outS s p v) ph vd ea ee L L w w by unfold outS; rw [if_neg hp]; exact Dwent.refl hD)
    clear hD hp hl hl2
    go_enter Tryd.func33, Tryd.ntmps33
    go_wp2_with fail
    refine bodyPost_ret (results_none rfl _ _ _) rfl ?_
    exact ⟨rfl, HN.out⟩

end Go.Proofs.YtkcfacbnbjkheaaDoor
