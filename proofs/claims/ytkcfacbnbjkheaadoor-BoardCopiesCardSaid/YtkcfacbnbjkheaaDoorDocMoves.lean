/- The calls of the document's board that write: their contracts. -/
import Derived.Test.YtkcfacbnbjkheaaDoorDocCalls
namespace Go.Proofs.YtkcfacbnbjkheaaDoor
open Go.RowKit
set_option maxRecDepth 100000

theorem DAt.grewA {w w1 : World} {x base : Nat} {s : St} {ph : Int} {vd ea ee v' : Value} {L : List Int} {a : Ac} (h : DAt w x base s ph vd ea ee L) (hg : Grew w w1 ea) (hr : w1.ownsRow base 84 4 v' (s.acts.length + 1) (flatA s.acts ++ flatA [a])) (hv : ∀ k, v'.ownBlock = some k → ea.ownBlock = some k ∨ w.heap.size ≤ k) :
    Dwent x base { s with acts := s.acts ++ [a] } ph vd ea ee L L w (w1.setCell ⟨x, 65550, none⟩ v') := by
  have hc := h.cells.block (hg.2.2.2.2 x h.lt h.ea_ne)
  have hsz := hg.2.2.2.1
  have ht : w1.ownsRow base 35 1 ee s.edges.length (s.edges.map u64V) := own_keep h.tim fun k hk => by
    refine hg.2.2.2.2 k (h.tim.lt k hk).2 (fun e => ?_)
    rcases own_own h.tim h.row (by decide) with y | y
    · rw [y] at hk; cases hk
    · exact y (hk.trans e.symm)
  have hn : v'.ownBlock ≠ some x := own_ty hr hc (by decide)
  have hk : ∀ k, k ≠ x → (w1.setCell ⟨x, 65550, none⟩ v').heap[k]? = w1.heap[k]? := fun k hk => Below.heap_setCell _ _ _ _ hk
  have hvd : ∀ k, 0 < L.length → vd.ownBlock = some k → (w1.setCell ⟨x, 65550, none⟩ v').heap[k]? = w.heap[k]? := fun k h0 e => by
    obtain ⟨a1, a2, a3⟩ := h.far k h0 e
    rw [hk k a1]
    exact hg.2.2.2.2 k (rowI_block h.dn h0 k e).2 a2
  refine ⟨vd, v', ee, ⟨?_, h.lo, ?_, ?_, ?_, ?_, h.lst, h.fr, h.ph0, h.ph1⟩, ?_, ?_⟩
  · have := hc.set 65550 v'
    rw [dset_ea] at this
    exact this
  · refine own_keep (w := w1) ?_ fun k e => hk k (fun e' => by subst e'; exact hn e)
    rw [List.length_append, flatA_app]; exact hr
  · exact own_keep ht fun k e => hk k (fun e' => by subst e'; exact h.ee_ne e)
  · exact rowI_keep h.dn (by simpa [World.setCell] using hsz) hvd
  · intro k h0 e
    obtain ⟨a1, a2, a3⟩ := h.far k h0 e
    refine ⟨a1, fun e' => ?_, a3⟩
    rcases hv k e' with y | y
    · exact a2 y
    · have := (rowI_block h.dn h0 k e).2; omega
  · refine ⟨hg.1, hg.2.1, hg.2.2.1, by simpa [World.setCell] using hsz, fun k hk2 hF => ?_⟩
    rw [hk k (fun e => hF (Or.inl e))]
    exact hg.2.2.2.2 k hk2 (fun e => hF (Or.inr (Or.inr (Or.inl e))))
  · intro k hk2
    rcases hk2 with y | y | y | y
    · exact Or.inl (Or.inl y)
    · exact Or.inl (Or.inr (Or.inl y))
    · rcases hv k y with z | z
      · exact Or.inl (Or.inr (Or.inr (Or.inl z)))
      · exact Or.inr z
    · exact Or.inl (Or.inr (Or.inr (Or.inr y)))
theorem DAt.grewE {w w1 : World} {x base : Nat} {s : St} {ph : Int} {vd ea ee v' : Value} {L : List Int} {n : Int} (h : DAt w x base s ph vd ea ee L) (hg : Grew w w1 ee) (hr : w1.ownsRow base 35 1 v' (s.edges.length + 1) (s.edges.map u64V ++ [.int .u64 n])) (hv : ∀ k, v'.ownBlock = some k → ee.ownBlock = some k ∨ w.heap.size ≤ k) :
    Dwent x base { s with edges := s.edges ++ [n] } ph vd ea ee L L w (w1.setCell ⟨x, 65551, none⟩ v') := by
  have hc := h.cells.block (hg.2.2.2.2 x h.lt h.ee_ne)
  have hsz := hg.2.2.2.1
  have ht : w1.ownsRow base 84 4 ea s.acts.length (flatA s.acts) := own_keep h.row fun k hk => by
    refine hg.2.2.2.2 k (h.row.lt k hk).2 (fun e => ?_)
    rcases own_own h.row h.tim (by decide) with y | y
    · rw [y] at hk; cases hk
    · exact y (hk.trans e.symm)
  have hn : v'.ownBlock ≠ some x := own_ty hr hc (by decide)
  have hk : ∀ k, k ≠ x → (w1.setCell ⟨x, 65551, none⟩ v').heap[k]? = w1.heap[k]? := fun k hk => Below.heap_setCell _ _ _ _ hk
  have hvd : ∀ k, 0 < L.length → vd.ownBlock = some k → (w1.setCell ⟨x, 65551, none⟩ v').heap[k]? = w.heap[k]? := fun k h0 e => by
    obtain ⟨a1, a2, a3⟩ := h.far k h0 e
    rw [hk k a1]
    exact hg.2.2.2.2 k (rowI_block h.dn h0 k e).2 a3
  refine ⟨vd, ea, v', ⟨?_, h.lo, ?_, ?_, ?_, ?_, h.lst, h.fr, h.ph0, h.ph1⟩, ?_, ?_⟩
  · have := hc.set 65551 v'
    rw [dset_ee] at this
    exact this
  · exact own_keep ht fun k e => hk k (fun e' => by subst e'; exact h.ea_ne e)
  · refine own_keep (w := w1) ?_ fun k e => hk k (fun e' => by subst e'; exact hn e)
    rw [List.length_append, List.map_append]; exact hr
  · exact rowI_keep h.dn (by simpa [World.setCell] using hsz) hvd
  · intro k h0 e
    obtain ⟨a1, a2, a3⟩ := h.far k h0 e
    refine ⟨a1, a2, fun e' => ?_⟩
    rcases hv k e' with y | y
    · exact a3 y
    · have := (rowI_block h.dn h0 k e).2; omega
  · refine ⟨hg.1, hg.2.1, hg.2.2.1, by simpa [World.setCell] using hsz, fun k hk2 hF => ?_⟩
    rw [hk k (fun e => hF (Or.inl e))]
    exact hg.2.2.2.2 k hk2 (fun e => hF (Or.inr (Or.inr (Or.inr e))))
  · intro k hk2
    rcases hk2 with y | y | y | y
    · exact Or.inl (Or.inl y)
    · exact Or.inl (Or.inr (Or.inl y))
    · exact Or.inl (Or.inr (Or.inr (Or.inl y)))
    · rcases hv k y with z | z
      · exact Or.inl (Or.inr (Or.inr (Or.inr z)))
      · exact Or.inr z
theorem Dwent.from {w w1 w' : World} {x base : Nat} {s' : St} {ph : Int} {vd ea ee : Value} {L L' : List Int} (hb : Below w.heap.size w w1) (k : Dwent x base s' ph vd ea ee L L' w1 w') : Dwent x base s' ph vd ea ee L L' w w' :=
  Dwent.trans (Ch.of_below hb) (fun _ hk => Or.inl hk) k

set_option maxHeartbeats 1600000 in
theorem dwrite_any (x base : Nat) (s : St) (ph : Int) (vd ea ee : Value) (L : List Int) (w : World) (hD : DAt w x base s ph vd ea ee L) (a : Nat) (v : Int) (ha : a < 65536) :
    Calls Tryd.prog 31 #[.pointer (some ⟨x, 0, none⟩), .int .u16 a, .int .u8 v] w fun e w' => e = .returned (.tuple #[]) ∧ Dwent x base (writeS s a v) ph vd ea ee L L w w' := by
  have HO := Lib.hid (over_any x base s ph vd ea ee L w hD)
  have HD := Lib.hid (fun w1 (hb : Below w.heap.size w w1) => hD.below hb)
  have HF := Lib.hid (fun w1 w' hb => @Dwent.from w w1 w' x base (writeS s a v) ph vd ea ee L L hb)
  clear hD
  by_cases h : a < 16384
  · have hs : writeS s a v = s := if_pos h
    have i1 : decide ((16384 : Int) ≤ (a : Int)) = false := decide_eq_false (by omega)
    clear h ha
    go_enter Tryd.func31, Tryd.ntmps31
    go_wp2_with fail
    refine (HO.out).mono ?_
    rintro e w1 ⟨rfl, hb1⟩
    have c := (HD.out _ hb1).c_flat
    go_wp2_with fail
    go_end0
    exact ⟨rfl, HF.out _ _ hb1 (by rw [hs]; exact Dwent.refl (HD.out _ hb1))⟩
  · have hs : writeS s a v = { s with M := updN s.M a v } := if_neg h
    have i1 : decide ((16384 : Int) ≤ (a : Int)) = true := decide_eq_true (by omega)
    have i2 : (a : Int) < 65536 := by omega
    have ha' := ha
    clear h ha
    go_enter Tryd.func31, Tryd.ntmps31
    go_wp2_with fail
    refine (HO.out).mono ?_
    rintro e w1 ⟨rfl, hb1⟩
    have hD1 := HD.out _ hb1
    have c := hD1.c_flat
    have c1 := hD1.c_M a ha'
    have f1 := hD1.frz (1 + a)
    have HN := Lib.hid (hD1.set (1 + a) (.int .u8 v) (dset_M s ph vd ea ee a v ha') rfl rfl rfl hD1.fr)
    clear hD1 ha'
    go_wp2_with fail
    go_end0
    exact ⟨rfl, HF.out _ _ hb1 (by rw [hs]; exact Dwent.stay HN.out (Ch.set _ _ _ _ (Or.inl rfl)))⟩

/-- Something put behind the acts, in a region that draws its order. -/
theorem dlog_any {w w1 : World} {x base : Nat} {s : St} {ph : Int} {vd ea ee : Value} {L : List Int} (h : DAt w x base s ph vd ea ee L) (out : Bool) (p v : Int) {o : Obj} {n gg cap : Nat} (hgrow : ((w.alloc o).drewN n).grownBy w1 ea.ownBlock)
    (hown : w1.ownsRow base 84 4 (.slice (some ⟨gg, 0, none⟩) (s.acts.length + 1) cap) (s.acts.length + 1) (flatA s.acts ++ [.int .u64 s.t, .bool out, .int .u16 p, .int .u8 v])) (hat : ea.ownBlock = some gg ∨ gg = w.heap.size + 1) :
    Dwent x base { s with acts := s.acts ++ [⟨s.t, out, p, v⟩] } ph vd ea ee L L w (w1.setCell ⟨x, 65550, none⟩ (.slice (some ⟨gg, 0, none⟩) (s.acts.length + 1) cap)) :=
  h.grewA (a := ⟨s.t, out, p, v⟩) (Grew.of hgrow) hown (lies_ok hat)

set_option maxHeartbeats 3200000 in
theorem din_any (x base : Nat) (s : St) (ph : Int) (vd ea ee : Value) (L : List Int) (w : World) (hD : DAt w x base s ph vd ea ee L) (p : Int) (p0 : 0 ≤ p) (p1 : p ≤ 65535) (t0 : 0 ≤ s.t) (t1 : s.t ≤ 1000000000) (hl : s.acts.length ≤ 90000) :
    Calls Tryd.prog 32 #[.pointer (some ⟨x, 0, none⟩), .int .u16 p] w fun e w' => e = .returned (.int .u8 (inR s p)) ∧ Dwent x base (inS s p) ph vd ea ee L L w w' := by
  have HD := Lib.hid (fun w1 (hb : Below w.heap.size w w1) => hD.below hb)
  have hflat := hD.c_flat
  have f0 : 0 ≤ s.frame := by rw [hD.fr]; exact (frameV_bd _).1
  have f1 : s.frame < 69888 := by rw [hD.fr]; exact (frameV_bd _).2
  have HFR := Lib.hid (dframe_any x base s ph vd ea ee L w hD t0 t1)
  by_cases hp : p % 2 = 0
  · have hR : inR s p = inV s p := if_pos hp
    have hS : inS s p = logS s false p (inV s p) := if_pos hp
    have HR := Lib.hid hR
    have HS0 := Lib.hid hS
    have HO := Lib.hid (over_any x base s ph vd ea ee L w hD)
    have h0 : 0 ≤ p / 256 := by omega
    have h1 : p / 256 ≤ 255 := by omega
    have HP := Lib.hid (fun w1 (hb : Below w.heap.size w w1) => pressed_any x base s ph vd ea ee L w1 (hD.below hb))
    have HK := Lib.hid (fun w1 (hb : Below w.heap.size w w1) => refRead vd L s.S (p / 256) base w1 (hD.below hb).dn hD.lst h0 h1)
    have HL := Lib.hid (fun w1 (hb : Below w.heap.size w w1) => level_any x base s ph vd ea ee L w1 (hD.below hb))
    obtain ⟨r0, r1⟩ := readF_bd s.S (p / 256)
    have HV := Lib.hid (show inV s p = readF s.S (p / 256) + 160 + if s.ear then 64 else 0 from rfl)
    have HF := Lib.hid (fun w1 w' hb => @Dwent.from w w1 w' x base (inS s p) ph vd ea ee L L hb)
    generalize readF s.S (p / 256) = r at *
    have hq : p % 2 ≠ 1 := by omega
    have hq1 : (p % 2 == 1) = false := by simpa using hq
    clear hD hp hR hS hq HFR
    cases he : s.ear
    · rw [he] at HL HV
      have HV := Lib.hid (show inV s p = r + 160 by rw [HV.out]; simp)
      cases hlog : s.log
      · go_enter Tryd.func32, Tryd.ntmps32
        go_wp2_with fail
        refine (HO.out).mono ?_
        rintro e w1 ⟨rfl, hb1⟩
        go_wp2_with fail
        refine (HP.out w1 hb1).mono ?_
        rintro e w2 ⟨rfl, hb2⟩
        have hb12 := below_step hb1 hb2
        clear hb1 hb2
        go_wp2_with fail
        refine (HK.out _ hb12).mono ?_
        rintro e w' ⟨rfl, rfl⟩
        go_wp2_with fail
        refine (HL.out _ hb12).mono ?_
        rintro e w3 ⟨rfl, hb3⟩
        have hb13 := below_step hb12 hb3
        have hlg := (HD.out _ hb13).c_log
        rw [hlog] at hlg
        have HDL := Lib.hid (HD.out _ hb13)
        clear hb12 hb3
        go_wp2_with fail
        go_ret
        exact ⟨by rw [HR.out, HV.out]; rfl, HF.out _ _ hb13 (by rw [HS0.out]; unfold logS; rw [hlog]; exact Dwent.refl HDL.out)⟩
      · go_enter Tryd.func32, Tryd.ntmps32
        go_wp2_with fail
        refine (HO.out).mono ?_
        rintro e w1 ⟨rfl, hb1⟩
        go_wp2_with fail
        refine (HP.out w1 hb1).mono ?_
        rintro e w2 ⟨rfl, hb2⟩
        have hb12 := below_step hb1 hb2
        clear hb1 hb2
        go_wp2_with fail
        refine (HK.out _ hb12).mono ?_
        rintro e w' ⟨rfl, rfl⟩
        go_wp2_with fail
        refine (HL.out _ hb12).mono ?_
        rintro e w3 ⟨rfl, hb3⟩
        have hb13 := below_step hb12 hb3
        have hlg := (HD.out _ hb13).c_log
        rw [hlog] at hlg
        have HDL := Lib.hid (HD.out _ hb13)
        clear hb12 hb3
        have c1 := HDL.out.c_ea
        have c2 := HDL.out.c_t
        have c3 := HDL.out.frz 65550
        have hlt := HDL.out.lt
        have hne := HDL.out.ea_ne
        have hrow := HDL.out.row
        have hbs : base ≤ w3.heap.size := Nat.le_trans HDL.out.lo (Nat.le_of_lt HDL.out.lt)
        obtain ⟨i0, hi, hz0, hz1, hz2⟩ := info_parts infoAct
        have HS := Lib.hid (fun (u : World) (hu : u.heap[x]? = w3.heap[x]?) => show u.cell? ⟨x, 65550, none⟩ = some _ ∧ u.frozen? ⟨x, 65550, none⟩ = false from ⟨(World.cell?_of_block (a := ⟨x, 65550, none⟩) hu).trans c1, (World.frozen?_of_block (a := ⟨x, 65550, none⟩) hu).trans c3⟩)
        have HFIN := Lib.hid (fun (u : World) n gg cap (hgr : ((w3.alloc (.cells #[.int .u64 s.t, .bool false, .int .u16 p, .int .u8 (r + 160)] 84)).drewN n).grownBy u ea.ownBlock) ho ha => show Dwent x base (inS s p) ph vd ea ee L L w (u.setCell ⟨x, 65550, none⟩ (.slice (some ⟨gg, 0, none⟩) (s.acts.length + 1) cap)) from HF.out _ _ hb13 (by rw [HS0.out, HV.out]; unfold logS; rw [if_pos hlog]; exact dlog_any (n := n) HDL.out false p (r + 160) hgr ho ha))
        clear HF HD HP HK HL hlog HDL HS0
        generalize s.t = T at *
        generalize s.acts.length = n at *
        generalize flatA s.acts = xs at *
        go_wp2_with fail
        go_region_law ((refine step_append_lies _ (by rfl) _ _ _ (by rfl) base 84 i0 _ 4 16 Tryd.underlying37 hi hz0 hz1 hz2 rfl (by decide) ea n xs (by rfl) (show _ from (hrow.alloc (.cells #[.int .u64 T, .bool false, .int .u16 p, .int .u8 (r + 160)] 84))) ⟨w3.heap.size, 0, none⟩ 1 1 [.int .u64 T, .bool false, .int .u16 p, .int .u8 (r + 160)] (by rfl) (by rfl) (World.news_of_block (cs := #[.int .u64 T, .bool false, .int .u16 p, .int .u8 (r + 160)]) (t := 84) (fr := (0, 0)) (heap_alloc_new w3 _)) (by simp [Value.oneCell']) (by decide) (by unfold maxLen; omega) (by omega) (by simp; omega) (w3.heap.size + 1) (by simp) ?_; intro gg cap w9 hown1 hgrow hat hlt1; obtain ⟨d1, d3⟩ := HS.out w9 ((hgrow.block x (by simp; omega) (fun e => hne e.symm)).trans ((balloc w3 _).block x hlt))))
        all_goals
          go_wp2_with fail
          go_ret
          exact ⟨by rw [HR.out, HV.out]; rfl, HFIN.out w9 1 gg cap hgrow hown1 hat⟩
    · rw [he] at HL HV
      have HV := Lib.hid (show inV s p = r + 160 + 64 by rw [HV.out]; rfl)
      cases hlog : s.log
      · go_enter Tryd.func32, Tryd.ntmps32
        go_wp2_with fail
        refine (HO.out).mono ?_
        rintro e w1 ⟨rfl, hb1⟩
        go_wp2_with fail
        refine (HP.out w1 hb1).mono ?_
        rintro e w2 ⟨rfl, hb2⟩
        have hb12 := below_step hb1 hb2
        clear hb1 hb2
        go_wp2_with fail
        refine (HK.out _ hb12).mono ?_
        rintro e w' ⟨rfl, rfl⟩
        go_wp2_with fail
        refine (HL.out _ hb12).mono ?_
        rintro e w3 ⟨rfl, hb3⟩
        have hb13 := below_step hb12 hb3
        have hlg := (HD.out _ hb13).c_log
        rw [hlog] at hlg
        have HDL := Lib.hid (HD.out _ hb13)
        clear hb12 hb3
        go_wp2_with fail
        go_ret
        exact ⟨by rw [HR.out, HV.out]; rfl, HF.out _ _ hb13 (by rw [HS0.out]; unfold logS; rw [hlog]; exact Dwent.refl HDL.out)⟩
      · go_enter Tryd.func32, Tryd.ntmps32
        go_wp2_with fail
        refine (HO.out).mono ?_
        rintro e w1 ⟨rfl, hb1⟩
        go_wp2_with fail
        refine (HP.out w1 hb1).mono ?_
        rintro e w2 ⟨rfl, hb2⟩
        have hb12 := below_step hb1 hb2
        clear hb1 hb2
        go_wp2_with fail
        refine (HK.out _ hb12).mono ?_
        rintro e w' ⟨rfl, rfl⟩
        go_wp2_with fail
        refine (HL.out _ hb12).mono ?_
        rintro e w3 ⟨rfl, hb3⟩
        have hb13 := below_step hb12 hb3
        have hlg := (HD.out _ hb13).c_log
        rw [hlog] at hlg
        have HDL := Lib.hid (HD.out _ hb13)
        clear hb12 hb3
        have c1 := HDL.out.c_ea
        have c2 := HDL.out.c_t
        have c3 := HDL.out.frz 65550
        have hlt := HDL.out.lt
        have hne := HDL.out.ea_ne
        have hrow := HDL.out.row
        have hbs : base ≤ w3.heap.size := Nat.le_trans HDL.out.lo (Nat.le_of_lt HDL.out.lt)
        obtain ⟨i0, hi, hz0, hz1, hz2⟩ := info_parts infoAct
        have HS := Lib.hid (fun (u : World) (hu : u.heap[x]? = w3.heap[x]?) => show u.cell? ⟨x, 65550, none⟩ = some _ ∧ u.frozen? ⟨x, 65550, none⟩ = false from ⟨(World.cell?_of_block (a := ⟨x, 65550, none⟩) hu).trans c1, (World.frozen?_of_block (a := ⟨x, 65550, none⟩) hu).trans c3⟩)
        have HFIN := Lib.hid (fun (u : World) n gg cap (hgr : ((w3.alloc (.cells #[.int .u64 s.t, .bool false, .int .u16 p, .int .u8 (r + 160 + 64)] 84)).drewN n).grownBy u ea.ownBlock) ho ha => show Dwent x base (inS s p) ph vd ea ee L L w (u.setCell ⟨x, 65550, none⟩ (.slice (some ⟨gg, 0, none⟩) (s.acts.length + 1) cap)) from HF.out _ _ hb13 (by rw [HS0.out, HV.out]; unfold logS; rw [if_pos hlog]; exact dlog_any (n := n) HDL.out false p (r + 160 + 64) hgr ho ha))
        clear HF HD HP HK HL hlog HDL HS0
        generalize s.t = T at *
        generalize s.acts.length = n at *
        generalize flatA s.acts = xs at *
        go_wp2_with fail
        go_region_law ((refine step_append_lies _ (by rfl) _ _ _ (by rfl) base 84 i0 _ 4 16 Tryd.underlying37 hi hz0 hz1 hz2 rfl (by decide) ea n xs (by rfl) (show _ from (hrow.alloc (.cells #[.int .u64 T, .bool false, .int .u16 p, .int .u8 (r + 160 + 64)] 84))) ⟨w3.heap.size, 0, none⟩ 1 1 [.int .u64 T, .bool false, .int .u16 p, .int .u8 (r + 160 + 64)] (by rfl) (by rfl) (World.news_of_block (cs := #[.int .u64 T, .bool false, .int .u16 p, .int .u8 (r + 160 + 64)]) (t := 84) (fr := (0, 0)) (heap_alloc_new w3 _)) (by simp [Value.oneCell']) (by decide) (by unfold maxLen; omega) (by omega) (by simp; omega) (w3.heap.size + 1) (by simp) ?_; intro gg cap w9 hown1 hgrow hat hlt1; obtain ⟨d1, d3⟩ := HS.out w9 ((hgrow.block x (by simp; omega) (fun e => hne e.symm)).trans ((balloc w3 _).block x hlt))))
        all_goals
          go_wp2_with fail
          go_ret
          exact ⟨by rw [HR.out, HV.out]; rfl, HFIN.out w9 1 gg cap hgrow hown1 hat⟩

  · have hR : inR s p = floatV s := if_neg hp
    have hS : inS s p = s := if_neg hp
    have HR := Lib.hid hR
    have HN := Lib.hid (fun w1 (hb : Below w.heap.size w w1) => show Dwent x base (inS s p) ph vd ea ee L L w w1 by rw [hS]; exact Dwent.stay (hD.below hb) (Ch.of_below hb))
    have hq : (p % 2 == 1) = true := by simp; omega
    clear hR hS hD hp
    cases ho : fetOn s.frame with
    | true =>
      have HX := Lib.hid (fun w => show Calls Tryd.prog 54 #[.int .i64 s.frame] w fun e w' => e = .returned (.tuple #[.int .u16 (fetA s.frame), .int .i64 (fetP s.frame), .bool true]) ∧ w = w' by
        have := refFetched_yes s.frame w (by rw [frame_in f0 f1]; exact ho)
        rw [frame_in f0 f1, (fetA_is ho).1, (fetP_is ho).1] at this
        exact this)
      obtain ⟨_, _, a2⟩ := fetA_is ho
      have a3 : (fetA s.frame : Int) < 65536 := by omega
      have a4 : fetA s.frame < 65536 := by omega
      have HV := Lib.hid (show floatV s = s.M (fetA s.frame) from if_pos ho)
      clear ho a2
      generalize fetA s.frame = A at *
      go_enter Tryd.func32, Tryd.ntmps32
      go_wp2_with fail
      refine (HFR.out).mono ?_
      rintro e w1 ⟨rfl, hb1⟩
      go_wp2_with fail
      refine (HX.out _).mono ?_
      rintro e w' ⟨rfl, rfl⟩
      have c := (HD.out _ hb1).c_M A a4
      go_wp2_with fail
      go_ret
      exact ⟨by rw [HR.out, HV.out]; rfl, HN.out _ hb1⟩
    | false =>
      have HX := Lib.hid (fun w => show Calls Tryd.prog 54 #[.int .i64 s.frame] w fun e w' => e = .returned (.tuple #[.int .u16 0, .int .i64 0, .bool false]) ∧ w = w' from refFetched_no s.frame w (by rw [frame_in f0 f1]; exact ho))
      have HV := Lib.hid (show floatV s = 255 by unfold floatV; rw [ho]; rfl)
      clear ho
      go_enter Tryd.func32, Tryd.ntmps32
      go_wp2_with fail
      refine (HFR.out).mono ?_
      rintro e w1 ⟨rfl, hb1⟩
      go_wp2_with fail
      refine (HX.out _).mono ?_
      rintro e w' ⟨rfl, rfl⟩
      go_wp2_with fail
      go_ret
      exact ⟨by rw [HR.out, HV.out]; rfl, HN.out _ hb1⟩

end Go.Proofs.YtkcfacbnbjkheaaDoor
