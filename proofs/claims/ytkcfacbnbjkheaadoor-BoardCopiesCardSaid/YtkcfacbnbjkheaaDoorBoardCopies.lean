/- The law BoardCopies of layer 11, walked. -/
import Derived.Test.YtkcfacbnbjkheaaDoorBoardPlays
namespace Go.Proofs.YtkcfacbnbjkheaaDoor
open Go.RowKit
set_option maxRecDepth 100000
set_option linter.unusedVariables false

/-- A step by value. -/
def OprV (v : Value) (y : Opr) : Prop := y.Ok ∧ v = .agg #[.int .i64 y.K, .int .i64 y.N, .int .u16 y.A, .int .u8 y.V, .string y.nm]
set_option maxHeartbeats 6400000 in
theorem copies_walk (v : Value) (l : List Opr) (y : Opr) (hy : y.Ok) (w : World) (hT : Waits w ∧ ∃ tb, NmTab tb w) (hv : OprsAt w v l) :
    Calls Tryd.prog 4 #[v, .agg #[.int .i64 y.K, .int .i64 y.N, .int .u16 y.A, .int .u8 y.V, .string y.nm]] w fun e w' => e = .returned (.bool true) ∧ Below w.heap.size w w' := by
  obtain ⟨hW, tb, hN⟩ := hT
  have HV := Lib.hid (fun u hu => lives_in w u hu)
  obtain ⟨K, N, A, V, nm⟩ := y
  obtain ⟨hA, v0, v1⟩ := hy
  dsimp only at hA v0 v1 ⊢
  have hv0 := hv
  obtain ⟨B, cap, rfl, n1, n2, n3⟩ := hv
  have HO := Lib.hid n3
  have HST := Lib.hid (fun u (hu : Below w.heap.size w u) (hl : l.length ≤ 60) => steps_any _ l u (hv0.below hu) hl)
  have HWT := Lib.hid (fun u (hu : Below w.heap.size w u) => hW.below hu)
  have HNT := Lib.hid (fun u (hu : Below w.heap.size w u) => hN.below hu)
  unfold maxLen at n2
  clear n3 hv0 hW hN
  go_enter Tryd.func4, Tryd.ntmps4
  go_wp2_with fail
  have ho0 := cell_of_row _ _ 0 _ _ (0, 0) (heap_alloc_new w (.cells #[.int .i64 K, .int .i64 N, .int .u16 A, .int .u8 V, .string nm] 53))
  have ho1 := cell_of_row _ _ 1 _ _ (0, 0) (heap_alloc_new w (.cells #[.int .i64 K, .int .i64 N, .int .u16 A, .int .u8 V, .string nm] 53))
  have ho2 := cell_of_row _ _ 2 _ _ (0, 0) (heap_alloc_new w (.cells #[.int .i64 K, .int .i64 N, .int .u16 A, .int .u8 V, .string nm] 53))
  have ho3 := cell_of_row _ _ 3 _ _ (0, 0) (heap_alloc_new w (.cells #[.int .i64 K, .int .i64 N, .int .u16 A, .int .u8 V, .string nm] 53))
  have ho4 := cell_of_row _ _ 4 _ _ (0, 0) (heap_alloc_new w (.cells #[.int .i64 K, .int .i64 N, .int .u16 A, .int .u8 V, .string nm] 53))
  obtain ⟨w0, hw0⟩ : ∃ u, w.alloc (.cells #[.int .i64 K, .int .i64 N, .int .u16 A, .int .u8 V, .string nm] 53) = u := ⟨_, rfl⟩
  have hbw0 : Below w.heap.size w w0 := by rw [← hw0]; exact balloc w _
  have hs0 : w0.heap.size = w.heap.size + 1 := by rw [← hw0]; simp
  rw [hw0] at ho0 ho1 ho2 ho3 ho4 ⊢
  obtain ⟨g0, hg0⟩ : ∃ u, w.heap.size = u := ⟨_, rfl⟩
  rw [hg0] at ho0 ho1 ho2 ho3 ho4 ⊢
  have HG := Lib.hid (show g0 < w0.heap.size ∧ w.heap.size ≤ w0.heap.size by omega)
  clear hw0 hs0 hg0
  refine (n_write 20000 1 w0).mono ?_
  rintro e w' ⟨rfl, rfl⟩
  go_wp2_with fail
  refine (n_out 254 1 w0).mono ?_
  rintro e w' ⟨rfl, rfl⟩
  go_wp2_with fail
  refine (n_next w0).mono ?_
  rintro e w' ⟨rfl, rfl⟩
  go_wp2_with fail
  refine (n_read 5 w0).mono ?_
  rintro e w' ⟨rfl, rfl⟩
  go_wp2_with fail
  refine (n_in 254 w0).mono ?_
  rintro e w' ⟨rfl, rfl⟩
  go_wp2_with fail
  refine (n_hold 0 16384 0 w0).mono ?_
  rintro e w' ⟨rfl, rfl⟩
  go_wp2_with fail
  refine (n_int w0).mono ?_
  rintro e w' ⟨rfl, rfl⟩
  go_wp2_with fail
  refine (n_t w0).mono ?_
  rintro e w' ⟨rfl, rfl⟩
  go_wp2_with fail
  refine (n_frame w0).mono ?_
  rintro e w' ⟨rfl, rfl⟩
  go_wp2_with fail
  refine (n_border w0).mono ?_
  rintro e w' ⟨rfl, rfl⟩
  go_wp2_with fail
  refine (n_mic w0).mono ?_
  rintro e w' ⟨rfl, rfl⟩
  go_wp2_with fail
  refine (n_spk w0).mono ?_
  rintro e w' ⟨rfl, rfl⟩
  go_wp2_with fail
  refine (n_acts w0).mono ?_
  rintro e w' ⟨rfl, rfl⟩
  go_wp2_with fail
  refine (n_edges w0).mono ?_
  rintro e w' ⟨rfl, rfl⟩
  go_wp2_with fail
  refine (n_picture w0).mono ?_
  rintro e w' ⟨rfl, rfl⟩
  go_wp2_with fail
  refine (n_copy w0).mono ?_
  rintro e w' ⟨rfl, rfl⟩
  by_cases hl : l.length ≤ 60
  · have hl6 : decide ((60 : Int) < (l.length : Int)) = false := decide_eq_false (by omega)
    go_wp2_with fail
    refine ((HST.out _ hbw0) hl).mono ?_
    rintro e w' ⟨⟨m, rfl⟩, rfl⟩
    by_cases hm : 20000 < m
    · have hm2 : decide (20000 < m) = true := decide_eq_true hm
      go_wp2_with fail
      refine (HV.out _ hbw0).mono ?_
      rintro e w1 ⟨rfl, hb1⟩
      go_wp2_with fail
      go_ret
      exact ⟨rfl, hb1⟩
    · have hm2 : decide (20000 < m) = false := decide_eq_false hm
      clear hm HST
      by_cases hN3 : 3000 < N
      · have hm3 : decide (3000 < N) = true := decide_eq_true hN3
        go_wp2_with fail
        refine (HV.out _ hbw0).mono ?_
        rintro e w1 ⟨rfl, hb1⟩
        go_wp2_with fail
        go_ret
        exact ⟨rfl, hb1⟩
      · have hm3 : decide (3000 < N) = false := decide_eq_false hN3
        go_wp2_with fail
        refine (rom_any 201 w0).mono ?_
        rintro e w1 ⟨rfl, hC1, hb1⟩
        have HC1 := Lib.hid hC1
        have hs1 := hb1.size
        clear hC1 hl6 hm2 hm3
        have HNEW := Lib.hid (new_any (some ⟨w0.heap.size, 0, none⟩) none 16384 0 0 (fun _ => 201) (fun _ => 0) 0 w1 HC1.out.src (fun h => absurd h (by decide)) (by decide))
        go_wp2_with fail
        refine HNEW.out.mono ?_
        rintro e w3 ⟨rfl, hB3, hb3⟩
        have hb13 := below_step hb1 hb3
        obtain ⟨b, hbn⟩ : ∃ b, w1.heap.size = b := ⟨_, rfl⟩
        have hwb : w0.heap.size ≤ b := by rw [← hbn]; exact hb1.size
        rw [hbn] at hB3 ⊢
        clear HNEW HC1 hb1 hb3 hbn hs1
        have hb3lt := hB3.lt
        have f2 := hB3.cells.frozen 65546
        have q2 : w3.cell? ⟨b, 65546, none⟩ = some (.bool false) := hB3.cells.cell 65546 (by decide)
        have HB4 := Lib.hid (hB3.set 65546 (.bool true) (set_log _ _ _ true) rfl rfl)
        clear hB3
        go_wp2_with fail
        obtain ⟨w4, hw4⟩ : ∃ u, w3.setCell ⟨b, 65546, none⟩ (.bool true) = u := ⟨_, rfl⟩
        have hb14 : Below w0.heap.size w0 w4 := by rw [← hw4]; exact below_set hb13 b _ _ hwb
        have hb4lt : b < w4.heap.size := by rw [← hw4]; simpa using hb3lt
        rw [hw4] at HB4 ⊢
        clear hw4 q2 f2 hb13 hb3lt
        refine (rom_any 201 w4).mono ?_
        rintro e w5 ⟨rfl, hC5, hb5⟩
        have HC5 := Lib.hid hC5
        have hs5 := hb5.size
        have HDN := Lib.hid (dnew_any (some ⟨w4.heap.size, 0, none⟩) none 16384 0 0 (fun _ => 201) (fun _ => 0) 0 w5 HC5.out.src (fun h => absurd h (by decide)) (by decide))
        go_wp2_with fail
        refine HDN.out.mono ?_
        rintro e w7 ⟨rfl, hD7, hb7⟩
        obtain ⟨x, hxn⟩ : ∃ x, w5.heap.size = x := ⟨_, rfl⟩
        have hb47 : Below w4.heap.size w4 w7 := below_step hb5 hb7
        have hx4 : w4.heap.size ≤ x := by rw [← hxn]; exact hb5.size
        have hb17 : Below w0.heap.size w0 w7 := hb14.trans (hb47.mono hb14.size)
        rw [hxn] at hD7 ⊢
        obtain ⟨p0, p1⟩ := frameV_bd 0
        have hx7 := hD7.lt
        have HP := Lib.hid (show Pr w7 (fun _ => False) b x w0.heap.size { newS (fun _ => 201) (fun _ => 0) 0 (frameV 0) with log := true } (newS (fun _ => 201) (fun _ => 0) 0 (frameV 0)) nilV nilV (frameV 0) nilV nilV nilV [] 0 0 from
          ⟨(HB4.out.below hb47).less hwb, hD7.less (by omega), fun k hk hd => by
            have e1 : k = b := by rcases hk with h | h | h <;> first | exact h | exact absurd h (by simp [Value.ownBlock])
            have e2 : k = x := by rcases hd with h | h | h | h <;> first | exact h | exact absurd h.1 (by simp) | exact absurd h (by simp [Value.ownBlock])
            omega, fun _ h => h.elim, fun _ h => h.elim, fun _ h => h.elim, hb17.size, ⟨Nat.le_refl _, Nat.le_refl _, Int.le_refl _, Int.le_refl _, p0, p1⟩, ⟨Nat.le_refl _, Nat.le_refl _, Int.le_refl _, Int.le_refl _, p0, p1⟩, Nat.le_refl _⟩)
        clear HDN HC5 hC5 hb5 hb7 hxn hb47 hD7 HB4 hb14 hs5
        have g2 := HP.out.D.cells.frozen 65542
        have r2 : w7.cell? ⟨x, 65542, none⟩ = some (.bool false) := HP.out.D.cells.cell 65542 (by decide)
        go_wp2_with fail
        obtain ⟨w8, hw8⟩ : ∃ u, w7.setCell ⟨x, 65542, none⟩ (.bool true) = u := ⟨_, rfl⟩
        have hsz : w8.heap.size = w7.heap.size := by rw [← hw8]; simp [World.setCell]
        obtain ⟨w9, hw9⟩ : ∃ u, w8.alloc (.cells #[.pointer (some ⟨b, 0, none⟩), .pointer (some ⟨x, 0, none⟩)] 45) = u := ⟨_, rfl⟩
        have HB0 := Lib.hid (show Both w0 w9 w7.heap.size b x 0 by
          obtain ⟨vd3, ea3, ee3, h3, kk⟩ := HP.out.stepD (n' := 0) (T' := 3000 * ((0 : Nat) : Int)) (Dwent.stay (HP.out.D.set 65542 (.bool true) (dset_log _ _ _ _ _ true) rfl rfl rfl HP.out.D.fr) (Ch.set _ x _ _ (Or.inl rfl))) ⟨Nat.le_refl _, Nat.le_refl _, Int.le_refl _, Int.le_refl _, p0, p1⟩ (Nat.le_refl _) (Int.le_refl _) (Nat.le_refl _)
          rw [hw8] at h3 kk
          have h4 := (h3.box (.cells #[.pointer (some ⟨b, 0, none⟩), .pointer (some ⟨x, 0, none⟩)] 45)).less (R' := fun k => k = w7.heap.size) (fun k hk => Or.inr (hk.trans hsz.symm))
          have kb := (hb17.trans kk.bel).trans ((balloc w8 (.cells #[.pointer (some ⟨b, 0, none⟩), .pointer (some ⟨x, 0, none⟩)] 45)).mono h3.bs)
          rw [hw9] at h4 kb
          refine ⟨_, _, _, _, _, _, _, _, h4, kb, ?_, ?_⟩
          · rw [← hw9, ← hsz]; exact cell_of_row _ _ 0 _ _ (0, 0) (heap_alloc_new w8 _)
          · rw [← hw9, ← hsz]; exact cell_of_row _ _ 1 _ _ (0, 0) (heap_alloc_new w8 _))
        rw [hw8]
        rw [hw9]
        obtain ⟨p, hp⟩ : ∃ p, w7.heap.size = p := ⟨_, rfl⟩
        rw [hp] at HB0 ⊢
        clear HP hw8 hw9 hsz g2 r2 hb17 hx7 hx4 hb4lt hp p0 p1
        go_loopw [9] (fun i wr => ∃ k : Nat, i = .int .i64 k ∧ k ≤ l.length ∧ Hid (Both w0 wr p b x k)) (fun i _ => ((l.length : Int) - intOf i).toNat)
        case atStart => exact ⟨0, rfl, by omega, HB0⟩
        case round =>
          obtain ⟨k, rfl, hk, HK⟩ := hrel
          clear HB0
          obtain ⟨s, va, ve, ph2, vd, ea, ee, L, hPr, hbw, hc0, hc1⟩ := HK.out
          have hbww : Below w.heap.size w wr := hbw0.trans (hbw.mono HG.out.2)
          by_cases hlt : k < l.length
          · obtain ⟨ok, g, o, rfl, hg, d0, d1, d2, d3, d4⟩ := HO.out k hlt
            have e0 := (hbww.cell (p := ⟨g, o + k * 5, none⟩) hg).trans d0
            have e1 := (hbww.cell (p := ⟨g, o + k * 5 + 1, none⟩) hg).trans d1
            have e2 := (hbww.cell (p := ⟨g, o + k * 5 + 2, none⟩) hg).trans d2
            have e3 := (hbww.cell (p := ⟨g, o + k * 5 + 3, none⟩) hg).trans d3
            have e4 := (hbww.cell (p := ⟨g, o + k * 5 + 4, none⟩) hg).trans d4
            have HS := Lib.hid (step_any (fun i => i = p) p b x w0.heap.size s s va ve ph2 vd ea ee L k (3000 * (k : Int)) (oprAt l k).K (oprAt l k).N (oprAt l k).A (oprAt l k).V (oprAt l k).nm tb wr hPr rfl hc0 hc1 ok.a ok.v0 ok.v1 (by omega) (by omega) (fun u hu => HWT.out u (hbww.trans (hu.mono HG.out.2))) (fun u hu => HNT.out u (hbww.trans (hu.mono HG.out.2))))
            have HBS := Lib.hid (fun w' e (h : SPost (fun i => i = p) b x w0.heap.size s s k (3000 * (k : Int)) wr e w') => Both.step hbw hc0 hc1 h)
            have i1 : decide ((k : Int) < (l.length : Int)) = true := decide_eq_true (by omega)
            have i0 : (0 : Int) ≤ (k : Int) := by omega
            have i2 : (k : Int) < (l.length : Int) := by omega
            clear d0 d1 d2 d3 d4 hPr hbw hc0 hc1 ok HK hg hbww ho0 ho1 ho2 ho3 ho4
            generalize (oprAt l k).K = K' at *
            generalize (oprAt l k).N = N' at *
            generalize (oprAt l k).A = A' at *
            generalize (oprAt l k).V = V' at *
            generalize (oprAt l k).nm = nm' at *
            go_wp2_with fail
            refine HS.out.mono ?_
            rintro e w' hpost
            obtain ⟨rfl, hB⟩ := HBS.out _ _ hpost
            clear hpost HS HBS e0 e1 e2 e3 e4
            go_wp2_with fail
            go_roundw
            case rel => exact ⟨k + 1, by go_num, by omega, Lib.hid hB⟩
            case measure => simp [intOf]; omega
          · have i1 : decide ((k : Int) < (l.length : Int)) = false := decide_eq_false (by omega)
            have HCP := Lib.hid (copy_any b w0.heap.size s va ve wr hPr.B (by have := hPr.b1.acts; omega) (by have := hPr.b1.edges; omega))
            have HPr := Lib.hid hPr
            have HBW := Lib.hid hbw
            have HC01 := Lib.hid (And.intro hc0 hc1)
            have HK60 := Lib.hid (show k ≤ 60 by omega)
            clear hPr hbw hc0 hc1 HK HO hbww
            go_wp2_with fail
            refine HCP.out.mono ?_
            rintro e u1 ⟨rfl, ⟨va1, ve1, hB1⟩, hb1⟩
            obtain ⟨c, hc⟩ : ∃ c, wr.heap.size = c := ⟨_, rfl⟩
            rw [hc] at hB1 hb1 ⊢
            have HC1 := Lib.hid hB1
            have hwc : w0.heap.size ≤ c := by rw [← hc]; exact HBW.out.size
            clear HCP hB1
            go_wp2_with fail
            refine (rom_any 201 u1).mono ?_
            rintro e u2 ⟨rfl, hR2, hb2⟩
            have HR2 := Lib.hid hR2
            have HDN := Lib.hid (dnew_any (some ⟨u1.heap.size, 0, none⟩) none 16384 0 0 (fun _ => 201) (fun _ => 0) 0 u2 HR2.out.src (fun h => absurd h (by decide)) (by decide))
            clear hR2
            go_wp2_with fail
            refine HDN.out.mono ?_
            rintro e u3 ⟨rfl, hD3, hb3⟩
            obtain ⟨y, hyn⟩ : ∃ y, u2.heap.size = y := ⟨_, rfl⟩
            have h13 : Below u1.heap.size u1 u3 := below_step hb2 hb3
            have h1y : u1.heap.size ≤ y := by rw [← hyn]; exact hb2.size
            have hcu1 : c ≤ u1.heap.size := by have := HC1.out.lt; omega
            have hc3 : Below c wr u3 := hb1.trans (h13.mono hcu1)
            rw [hyn] at hD3 ⊢
            obtain ⟨p0, p1⟩ := frameV_bd 0
            have HQ := Lib.hid (show Pr u3 (fun _ => False) c y c s (newS (fun _ => 201) (fun _ => 0) 0 (frameV 0)) va1 ve1 (frameV 0) nilV nilV nilV [] k (3000 * (k : Int)) from
              ⟨HC1.out.below h13, hD3.less (by omega), fun j hj hd => by
                have e1 := (HC1.out.fb_lt j hj).2
                have e2 : j = y := by rcases hd with h | h | h | h <;> first | exact h | exact absurd h.1 (by simp) | exact absurd h (by simp [Value.ownBlock])
                omega, fun _ h => h.elim, fun _ h => h.elim, fun _ h => h.elim, by have := h13.size; omega, HPr.out.b1, ⟨Nat.zero_le _, Nat.zero_le _, Int.le_refl _, (by show (0 : Int) ≤ _; omega), p0, p1⟩, Nat.zero_le _⟩)
            have h03 : Below w0.heap.size w0 u3 := HBW.out.trans (hc3.mono hwc)
            have hg3 : g0 < u3.heap.size := Nat.lt_of_lt_of_le HG.out.1 h03.size
            have o0 : u3.cell? ⟨g0, 0, none⟩ = some (.int .i64 K) := (h03.cell (p := ⟨g0, 0, none⟩) HG.out.1).trans ho0
            have o1 : u3.cell? ⟨g0, 1, none⟩ = some (.int .i64 N) := (h03.cell (p := ⟨g0, 1, none⟩) HG.out.1).trans ho1
            have o2 : u3.cell? ⟨g0, 2, none⟩ = some (.int .u16 A) := (h03.cell (p := ⟨g0, 2, none⟩) HG.out.1).trans ho2
            have o3 : u3.cell? ⟨g0, 3, none⟩ = some (.int .u8 V) := (h03.cell (p := ⟨g0, 3, none⟩) HG.out.1).trans ho3
            have o4 : u3.cell? ⟨g0, 4, none⟩ = some (.string nm) := (h03.cell (p := ⟨g0, 4, none⟩) HG.out.1).trans ho4
            clear HDN HR2 hD3 hb2 hb3 hyn h13
            have hu3 : y < u3.heap.size := HQ.out.D.lt
            go_wp2_with fail
            have hq4 := (HQ.out.box (.cells #[.pointer (some ⟨c, 0, none⟩), .pointer (some ⟨y, 0, none⟩)] 45)).less (R' := fun j => j = u3.heap.size) (fun j hj => Or.inr hj)
            have hq0 : (u3.alloc (.cells #[.pointer (some ⟨c, 0, none⟩), .pointer (some ⟨y, 0, none⟩)] 45)).cell? ⟨u3.heap.size, 0, none⟩ = some (.pointer (some ⟨c, 0, none⟩)) := cell_of_row _ _ 0 _ _ (0, 0) (heap_alloc_new u3 (.cells #[.pointer (some ⟨c, 0, none⟩), .pointer (some ⟨y, 0, none⟩)] 45))
            have hq1 : (u3.alloc (.cells #[.pointer (some ⟨c, 0, none⟩), .pointer (some ⟨y, 0, none⟩)] 45)).cell? ⟨u3.heap.size, 1, none⟩ = some (.pointer (some ⟨y, 0, none⟩)) := cell_of_row _ _ 1 _ _ (0, 0) (heap_alloc_new u3 (.cells #[.pointer (some ⟨c, 0, none⟩), .pointer (some ⟨y, 0, none⟩)] 45))
            have hc4 : Below c wr (u3.alloc (.cells #[.pointer (some ⟨c, 0, none⟩), .pointer (some ⟨y, 0, none⟩)] 45)) := hc3.trans ((balloc u3 _).mono HQ.out.bs)
            obtain ⟨u4, hu4⟩ : ∃ u, u3.alloc (.cells #[.pointer (some ⟨c, 0, none⟩), .pointer (some ⟨y, 0, none⟩)] 45) = u := ⟨_, rfl⟩
            rw [hu4] at hq4 hq0 hq1 hc4 ⊢
            obtain ⟨q, hqn⟩ : ∃ q, u3.heap.size = q := ⟨_, rfl⟩
            rw [hqn] at hq4 hq0 hq1 ⊢
            have HW0 := Lib.hid (fun u (hu : Below c wr u) => show Below w.heap.size w u from hbw0.trans ((HBW.out.trans (hu.mono hwc)).mono HG.out.2))
            have HS := Lib.hid (step_any (fun j => j = q) q c y c s (newS (fun _ => 201) (fun _ => 0) 0 (frameV 0)) va1 ve1 (frameV 0) nilV nilV nilV [] k (3000 * (k : Int)) K N A V nm tb u4 hq4 rfl hq0 hq1 hA v0 v1 (by have := HK60.out; omega) (by have := HK60.out; omega) (fun u hu => HWT.out u (HW0.out u (hc4.trans hu))) (fun u hu => HNT.out u (HW0.out u (hc4.trans hu))))
            clear hq4 hq0 hq1 o0 o1 o2 o3 o4 HQ hu4 hqn hu3 hg3 h03 hc3 p0 p1 h1y hcu1 HC1 hb1
            refine HS.out.mono ?_
            rintro e u5 ⟨r, s5, d5, va5, ve5, ph5, vd5, ea5, ee5, L5, rfl, hP5, hK5, -⟩
            have hc5 : Below c wr u5 := hc4.trans hK5.bel
            have HO6 := Lib.hid (hP5.callB (Below.refl _ _) (fun hB => out_any c c 254 8 s5 va5 ve5 u5 hB hP5.bs (by have := hP5.b1.acts; have := HK60.out; omega) (by have := hP5.b1.edges; have := HK60.out; omega) (by decide) (by decide) (by decide) (by decide)) (hP5.b1.out 254 8) (Nat.le_succ _) (Int.le_refl _))
            clear hP5 hK5 HS hc4
            go_wp2_with fail
            refine HO6.out.mono ?_
            rintro e u6 ⟨rfl, va6, ve6, hP6, hK6⟩
            have hc6 := hc5.trans hK6.bel
            have HO7 := Lib.hid (hP6.callB (Below.refl _ _) (fun hB => out_any c c 254 0 _ va6 ve6 u6 hB hP6.bs (by have := hP6.b1.acts; have := HK60.out; omega) (by have := hP6.b1.edges; have := HK60.out; omega) (by decide) (by decide) (by decide) (by decide)) (hP6.b1.out 254 0) (Nat.le_succ _) (Int.le_refl _))
            clear hP6 hK6 HO6 hc5
            go_wp2_with fail
            refine HO7.out.mono ?_
            rintro e u7 ⟨rfl, va7, ve7, hP7, hK7⟩
            have hc7 := hc6.trans hK7.bel
            have HO8 := Lib.hid (hP7.callB (Below.refl _ _) (fun hB => (next_any c c _ va7 ve7 u7 hB hP7.b1.t0 (by have := hP7.b1.t1; have := HK60.out; omega) hP7.b1.f0 hP7.b1.f1).mono (fun e w' hh => ⟨hh.1, Went.stay hh.2.1 hh.2.2⟩)) hP7.b1.next (Nat.le_refl _) (by omega))
            clear hP7 hK7 HO7 hc6
            go_wp2_with fail
            refine HO8.out.mono ?_
            rintro e u8 ⟨rfl, va8, ve8, hP8, hK8⟩
            have hc8 := hc7.trans hK8.bel
            clear hP8 hK8 HO8 hc7
            have HPC := Lib.hid (picture_any b w0.heap.size s va ve u8 (HPr.out.below (by rw [hc]; exact hc8)).B)
            go_wp2_with fail
            refine HPC.out.mono ?_
            rintro e u9 ⟨rfl, hC9, hb9⟩
            obtain ⟨g, hg⟩ : ∃ g, u8.heap.size = g := ⟨_, rfl⟩
            have hcg : c ≤ g := by rw [← hg, ← hc]; exact hc8.size
            rw [hg] at hC9 hb9 ⊢
            go_wp2_with fail
            have HB9 : Hid (∃ f : Nat → Int, Cells u9 g 5 12288 (fun j => .int .u8 (f j)) ∧ Below g u8 u9) := Lib.hid ⟨s.pic, hC9, hb9⟩
            have HC8 := Lib.hid hc8
            clear hC9 hb9 HPC hg hc8
            go_loopw [13] (fun i wq => ∃ n : Nat, i = .int .i64 n ∧ n ≤ 12288 ∧ Hid (∃ f : Nat → Int, Cells wq g 5 12288 (fun j => .int .u8 (f j)) ∧ Below g u8 wq)) (fun i _ => (12288 - intOf i).toNat)
            case atStart => exact ⟨0, rfl, by omega, HB9⟩
            case round =>
              obtain ⟨n, rfl, hn, HF⟩ := hrel
              rename World => wq
              clear HB9
              obtain ⟨f, hCf, hbf⟩ := HF.out
              by_cases hnl : n < 12288
              · have j1 : decide ((n : Int) < 12288) = true := decide_eq_true (by omega)
                have j0 : (0 : Int) ≤ (n : Int) := by omega
                have j2 : (n : Int) < 12288 := by omega
                have cf : wq.cell? ⟨g, n, none⟩ = some (.int .u8 (f n)) := hCf.cell n hnl
                have cz := hCf.frozen n
                obtain ⟨z, hz⟩ : ∃ z, IntKind.u8.wrap (f n + 1) = z := ⟨_, rfl⟩
                have HN : Hid (∃ f' : Nat → Int, Cells (wq.setCell ⟨g, n, none⟩ (.int .u8 z)) g 5 12288 (fun j => .int .u8 (f' j)) ∧ Below g u8 (wq.setCell ⟨g, n, none⟩ (.int .u8 z))) := Lib.hid ⟨fun j => if j = n then z else f j, (hCf.set n _).congr fun j _ => by unfold upd; by_cases h : j = n <;> simp [h], below_set hbf g n _ (Nat.le_refl _)⟩
                clear hCf hbf HF
                go_wp2_with fail
                go_roundw
                case rel => exact ⟨n + 1, by go_num, by omega, HN⟩
                case measure => simp [intOf]; omega
              · have j1 : decide ((n : Int) < 12288) = false := decide_eq_false (by omega)
                have hcq : Below c wr wq := HC8.out.trans (hbf.mono hcg)
                have hpc : p < c := by rw [← hc]; exact HPr.out.rl p rfl
                have HSM := Lib.hid (same_any (fun i => i = p) p b x w0.heap.size s va ve ph2 vd ea ee L k (3000 * (k : Int)) wq (HPr.out.below (by rw [hc]; exact hcq)) rfl ((hcq.cell (p := ⟨p, 0, none⟩) hpc).trans HC01.out.1) ((hcq.cell (p := ⟨p, 1, none⟩) hpc).trans HC01.out.2) (by have := HK60.out; omega))
                have hcsz : c ≤ wq.heap.size := by have := hcq.size; omega
                clear hbf HF hCf
                go_wp2_with fail
                refine HSM.out.mono ?_
                rintro e u10 ⟨rfl, hb10⟩
                have hc10 : Below c wr u10 := hcq.trans (hb10.mono hcsz)
                have HP10 := Lib.hid (HPr.out.below (by rw [hc]; exact hc10))
                have h010 : Below w0.heap.size w0 u10 := HBW.out.trans (hc10.mono hwc)
                have o3 : u10.cell? ⟨g0, 3, none⟩ = some (.int .u8 V) := (h010.cell (p := ⟨g0, 3, none⟩) HG.out.1).trans ho3
                have HC10 := Lib.hid (show Below c wr u10 ∧ Below w0.heap.size w0 u10 from ⟨hc10, h010⟩)
                clear hcq hcsz hb10 hc10 h010 HSM
                go_wp2_with fail
                refine (n_paint 3 u10).mono ?_
                rintro e w' ⟨rfl, rfl⟩
                have HPT := Lib.hid (HP10.out.callB (n' := k) (T' := 3000 * (k : Int)) (Below.refl _ _) (fun hB => (paint_any b w0.heap.size V s va ve u10 hB v0 v1).mono (fun e w' hh => ⟨hh.1, Went.stay hh.2.1 hh.2.2⟩)) ⟨HP10.out.b1.acts, HP10.out.b1.edges, HP10.out.b1.t0, HP10.out.b1.t1, HP10.out.b1.f0, HP10.out.b1.f1⟩ (Nat.le_refl _) (Int.le_refl _))
                go_wp2_with fail
                refine HPT.out.mono ?_
                rintro e u11 ⟨rfl, va11, ve11, hP11, hK11⟩
                obtain ⟨E, hE⟩ : ∃ E, V % 8 = E := ⟨_, rfl⟩
                have hxp : p ≠ x := fun e => hP11.rd p rfl (Or.inl e)
                have hxg : g0 ≠ x := by have := hP11.D.lo; have := HG.out.1; omega
                have k0 : u11.cell? ⟨p, 0, none⟩ = some (.pointer (some ⟨b, 0, none⟩)) := (World.cell?_of_block (a := ⟨p, 0, none⟩) (hK11.old p rfl)).trans ((HC10.out.1.cell (p := ⟨p, 0, none⟩) hpc).trans HC01.out.1)
                have k1 : u11.cell? ⟨p, 1, none⟩ = some (.pointer (some ⟨x, 0, none⟩)) := (World.cell?_of_block (a := ⟨p, 1, none⟩) (hK11.old p rfl)).trans ((HC10.out.1.cell (p := ⟨p, 1, none⟩) hpc).trans HC01.out.2)
                have k2 : u11.cell? ⟨g0, 3, none⟩ = some (.int .u8 V) := (hK11.bel.cell (p := ⟨g0, 3, none⟩) HG.out.1).trans o3
                have k3 := hP11.D.c_border
                have k4 := hP11.D.frz 65547
                obtain ⟨vd12, ea12, ee12, hP12, hK12⟩ := hP11.stepD (n' := k) (T' := 3000 * (k : Int)) (Dwent.stay (hP11.D.set 65547 (.int .u8 (V % 8)) (dset_border _ _ _ _ _ (V % 8)) rfl rfl rfl hP11.D.fr) (Ch.set _ x _ _ (Or.inl rfl))) ⟨HP10.out.b1.acts, HP10.out.b1.edges, HP10.out.b1.t0, HP10.out.b1.t1, HP10.out.b1.f0, HP10.out.b1.f1⟩ (Nat.le_refl _) (Int.le_refl _) hP11.ll
                rw [hE] at hP12 hK12
                have j0 : (u11.setCell ⟨x, 65547, none⟩ (.int .u8 E)).cell? ⟨p, 0, none⟩ = some (.pointer (some ⟨b, 0, none⟩)) := (World.cell?_of_block (a := ⟨p, 0, none⟩) (hK12.old p rfl)).trans k0
                have j1' : (u11.setCell ⟨x, 65547, none⟩ (.int .u8 E)).cell? ⟨p, 1, none⟩ = some (.pointer (some ⟨x, 0, none⟩)) := (World.cell?_of_block (a := ⟨p, 1, none⟩) (hK12.old p rfl)).trans k1
                have j2 : (u11.setCell ⟨x, 65547, none⟩ (.int .u8 E)).cell? ⟨g0, 3, none⟩ = some (.int .u8 V) := (hK12.bel.cell (p := ⟨g0, 3, none⟩) HG.out.1).trans k2
                have hbe := HC10.out.2.trans (hK11.bel.trans hK12.bel)
                have HE := Lib.hid (show Below w.heap.size w (u11.setCell ⟨x, 65547, none⟩ (.int .u8 E)) from hbw0.trans (hbe.mono HG.out.2))
                have hp12 : p < (u11.setCell ⟨x, 65547, none⟩ (.int .u8 E)).heap.size := hP12.rl p rfl
                have HS2 := Lib.hid (fun u (hu : Below (u11.setCell ⟨x, 65547, none⟩ (.int .u8 E)).heap.size (u11.setCell ⟨x, 65547, none⟩ (.int .u8 E)) u) => same_any (fun i => i = p) p b x w0.heap.size (paintS s V) va11 ve11 ph2 vd12 ea12 ee12 L k (3000 * (k : Int)) u ((show Pr (u11.setCell ⟨x, 65547, none⟩ (.int .u8 E)) (fun i => i = p) b x w0.heap.size (paintS s V) (paintS s V) va11 ve11 ph2 vd12 ea12 ee12 L k (3000 * (k : Int)) by have := hP12; rw [← hE] at this ⊢; exact this).below hu) rfl ((hu.cell (p := ⟨p, 0, none⟩) hp12).trans j0) ((hu.cell (p := ⟨p, 1, none⟩) hp12).trans j1') (by have := HK60.out; omega))
                have HL := Lib.hid (fun u (hu : Below (u11.setCell ⟨x, 65547, none⟩ (.int .u8 E)).heap.size (u11.setCell ⟨x, 65547, none⟩ (.int .u8 E)) u) => HV.out u (HE.out.trans (hu.mono HE.out.size)))
                have e1 : IntKind.i64.wrap V = V := by rw [IntKind.wrap_i64]; omega
                have e2 : V.tmod 8 = E := by rw [Int.tmod_eq_emod_of_nonneg v0, hE]
                have e3 : IntKind.u8.wrap E = E := by rw [IntKind.wrap_u8]; omega
                have e4 : IntKind.i64.wrap E = E := by rw [IntKind.wrap_i64]; omega
                clear hP11 hK11 hP12 hK12 hbe hp12 HE HPT HP10 HC10 o3 hE j0 k0
                go_wp2_with fail
                go_region_held3 (fun u => u.cell? ⟨p, 1, none⟩ = some (.pointer (some ⟨x, 0, none⟩)) ∧ u.cell? ⟨g0, 3, none⟩ = some (.int .u8 V)) (first | exact ⟨j1', j2⟩ | go_keep) (fail)
                go_wp2_with fail
                refine (HS2.out _ ((Below.refl _ _).drew)).mono ?_
                rintro e u13 ⟨rfl, hb13⟩
                have hb14 := below_step ((Below.refl (u11.setCell ⟨x, 65547, none⟩ (.int .u8 E)).heap.size (u11.setCell ⟨x, 65547, none⟩ (.int .u8 E))).drew) hb13
                go_wp2_with fail
                refine (HL.out _ hb14).mono ?_
                rintro e u14 ⟨rfl, hh⟩
                go_wp2_with fail
                go_ret
                exact ⟨rfl, hh⟩
  · have hl6 : decide ((60 : Int) < (l.length : Int)) = true := decide_eq_true (by omega)
    go_wp2_with fail
    refine (HV.out _ hbw0).mono ?_
    rintro e w1 ⟨rfl, hb1⟩
    go_wp2_with fail
    go_ret
    exact ⟨rfl, hb1⟩
theorem copies_law (v : Value) (l : List Opr) (u : Value) (y : Opr) (w : World) (hT : Waits w ∧ ∃ tb, NmTab tb w) (hv : OprsAt w v l) (hu : OprV u y) :
    Calls Tryd.prog 4 #[v, u] w fun e w' => e = .returned (.bool true) ∧ Below w.heap.size w w' := by
  obtain ⟨hy, rfl⟩ := hu
  exact copies_walk v l y hy w hT hv

end Go.Proofs.YtkcfacbnbjkheaaDoor
