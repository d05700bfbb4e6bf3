/- Texts put together: ZlibBack. -/
import Derived.Test.YtehnilmfeoadgaaDoorBas2
/- ZlibBack, walked. -/
namespace Go.Proofs.YtehnilmfeoadgaaDoor
open Go.RowKit
set_option linter.unusedVariables false
set_option linter.unusedSimpArgs false

theorem zip_byte (b more : List Int) (i : Nat) (hi : i < b.length) (hb : b.length ≤ 65535) : gI (zipL b ++ more) (7 + i) = gI b i := by
  have e : zipL b ++ more = ([120, 1] ++ headL 1 b.length) ++ (b ++ (sumL (sumOf b) ++ more)) := by
    unfold zipL
    rw [stoR_end (by omega)]
    simp
  have e2 : ([120, 1] ++ headL 1 b.length).length = 7 := rfl
  rw [e, gI_app_right _ _ _ (by omega), e2, show 7 + i - 7 = i by omega, gI_app_left _ _ _ hi]
/-- Unpack on bytes of which it is known what they are unpacked to. -/
theorem unpack_yes (F : Nat → Prop) (A : Option Addr) (n cap : Nat) (l : List Int) (lim : Nat) (w : World) (hl : BAt8 F w A n cap l) (hn : n ≤ 1000000) (hlim : lim ≤ 1048576) (hO : OrdAt w.heap.size w) (o : List Int) (k m : Nat) (ho : o.length = m) (h : unpM l lim = .ok (o, k)) :
    Calls Tryd.prog 7 #[.slice A n cap, .int .i64 (lim : Nat)] w fun e w' => ∃ A' cap', e = .returned (.tuple #[.slice A' m cap', .int .i64 (k : Nat), .int .i64 0]) ∧ BAt8 (fun k => w.heap.size ≤ k) w' A' m cap' o ∧ Below w.heap.size w w' := by
  refine (unpack_any F A n cap l lim w hl hn hlim hO).mono ?_
  rintro e w' ⟨hb, ⟨o', k', A', n', cap', h1, rfl, h2⟩ | ⟨x, h1, _⟩⟩
  · rw [h] at h1
    simp only [Except.ok.injEq, Prod.mk.injEq] at h1
    obtain ⟨rfl, rfl⟩ := h1
    obtain rfl : n' = m := by rw [← h2.len, ho]
    exact ⟨A', cap', rfl, h2, hb⟩
  · rw [h] at h1
    cases h1
theorem unpack_no (F : Nat → Prop) (A : Option Addr) (n cap : Nat) (l : List Int) (lim : Nat) (w : World) (hl : BAt8 F w A n cap l) (hn : n ≤ 1000000) (hlim : lim ≤ 1048576) (hO : OrdAt w.heap.size w) (x : Nat) (h : unpM l lim = .error x) :
    Calls Tryd.prog 7 #[.slice A n cap, .int .i64 (lim : Nat)] w fun e w' => e = .returned (.tuple #[.slice none 0 0, .int .i64 0, .int .i64 (x : Nat)]) ∧ Below w.heap.size w w' := by
  refine (unpack_any F A n cap l lim w hl hn hlim hO).mono ?_
  rintro e w' ⟨hb, ⟨o', k', A', n', cap', h1, rfl, h2⟩ | ⟨x, h1, _, rfl⟩⟩
  · rw [h] at h1
    cases h1
  · rw [h] at h1
    injection h1 with h1
    subst h1
    exact ⟨rfl, hb⟩
set_option maxRecDepth 100000 in
set_option maxHeartbeats 6400000 in
theorem zback_walk (v : Value) (l : List Int) (v2 : Value) (y : List Int) (n0 n1 : Int) (hw0 : (Lit.int .i64 n0).wf = true) (hw1 : (Lit.int .i64 n1).wf = true) (w : World) (hO : OrdAt w.heap.size w) (hv : BytesV w v l) (hv2 : BytesV w v2 y) :
    Calls Tryd.prog 3 #[v, v2, .agg #[.int .i64 n0, .int .i64 n1]] w fun e w' => e = .returned (.bool true) ∧ Below w.heap.size w w' := by
  obtain ⟨A, n, cap, rfl, hI⟩ := hv
  obtain ⟨B, ny, capy, rfl, hJ⟩ := hv2
  have hm := hI.max
  have hf := hI.fit
  have hmb := hJ.max
  have hfb := hJ.fit
  unfold maxLen at hm hmb
  have HL := Lib.hid (fun u (hu : Below w.heap.size w u) => zlives u hu)
  by_cases hbig : 60000 < n
  · have d1 : decide ((60000 : Int) < (n : Int)) = true := decide_eq_true (by omega)
    clear hI hJ hO
    go_enter Tryd.func3, Tryd.ntmps3
    go_wp2_with fail
    refine (HL.out _ (bnew w _)).mono ?_
    rintro e w1 ⟨rfl, hb⟩
    go_wp2_with fail
    go_ret
    exact ⟨rfl, hb⟩
  have d1 : decide ((60000 : Int) < (n : Int)) = false := decide_eq_false (by omega)
  by_cases hbig2 : 1000 < ny
  · have d2 : decide ((1000 : Int) < (ny : Int)) = true := decide_eq_true (by omega)
    clear hI hJ hO
    go_enter Tryd.func3, Tryd.ntmps3
    go_wp2_with fail
    refine (HL.out _ (bnew w _)).mono ?_
    rintro e w1 ⟨rfl, hb⟩
    go_wp2_with fail
    go_ret
    exact ⟨rfl, hb⟩
  have d2 : decide ((1000 : Int) < (ny : Int)) = false := decide_eq_false (by omega)
  have hlen := hI.len
  have hleny := hJ.len
  have H1 := Lib.hid (fun o => pack_any (fun k => k < w.heap.size) A n cap l (w.alloc o) ((hI.weak (G := fun k => k < w.heap.size) fun k hk _ => hk).below (bnew w o)) (fun k hk => by simp; omega) (by omega))
  have HI := Lib.hid hI
  have HJ := Lib.hid hJ
  have HO := Lib.hid hO
  have hzl := zipL_len l (by omega)
  rw [hlen] at hzl
  have h8Z := zipL_byte l hI.bd
  obtain ⟨Z, hZ⟩ : ∃ Z, zipL l = Z := ⟨_, rfl⟩
  have HZ := Lib.hid hZ
  rw [hZ] at H1 hzl h8Z
  have H8Z := Lib.hid h8Z
  obtain ⟨N, hN⟩ : ∃ N : Nat, N = n + 11 := ⟨_, rfl⟩
  rw [← hN] at hzl
  have HZL := Lib.hid hzl
  have hNi : (n : Int) + 11 = (N : Int) := by omega
  have hnn : n ≤ 60000 := by omega
  have hny : ny ≤ 1000 := by omega
  have hNN : Hid (N = n + 11) := Lib.hid hN
  have hNu : N ≤ 60011 := by omega
  have hN11 : 11 ≤ N := by omega
  obtain ⟨hb00, hb01⟩ : -9223372036854775808 ≤ n0 ∧ n0 ≤ 9223372036854775807 := bounds_i64 hw0
  obtain ⟨hb10, hb11⟩ : -9223372036854775808 ≤ n1 ∧ n1 ≤ 9223372036854775807 := bounds_i64 hw1
  clear hI hJ hO hZ hzl h8Z hbig hbig2 hN hw0 hw1
  go_enter Tryd.func3, Tryd.ntmps3
  go_wp2_with fail
  refine (H1.out _).mono ?_
  rintro e w1 ⟨v1, rfl, ho1, hb1⟩
  rw [HZL.out] at ho1
  have hlow : w.heap.size < w1.heap.size := by
    have := hb1.size
    simp at this
    omega
  have c0 : w1.cell? ⟨w.heap.size, 0, none⟩ = some (.int .i64 n0) := (hb1.cell (p := ⟨w.heap.size, 0, none⟩) (by simp)).trans (by simp)
  have c1 : w1.cell? ⟨w.heap.size, 1, none⟩ = some (.int .i64 n1) := (hb1.cell (p := ⟨w.heap.size, 1, none⟩) (by simp)).trans (by simp)
  have hbw := (bnew w _).trans (hb1.mono (by simp))
  obtain ⟨A1, cap1, rfl, hn1, hm1⟩ := own_slice ho1
  unfold maxLen at hm1
  have HBS := Lib.hid (bytes_own ho1 H8Z.out)
  have HB1 := Lib.hid hbw
  have HJ1 := Lib.hid (HJ.out.below hbw)
  clear ho1 hb1 hbw H1
  have HO0 := Lib.hid (World.ownsRow_nil w1 w1.heap.size 5 1)
  have hC := Lib.hid (fun (u : World) (hu : Below w1.heap.size w1 u) => show u.cell? ⟨w.heap.size, 0, none⟩ = some (.int .i64 n0) ∧ u.cell? ⟨w.heap.size, 1, none⟩ = some (.int .i64 n1) from ⟨(hu.cell (p := ⟨w.heap.size, 0, none⟩) hlow).trans c0, (hu.cell (p := ⟨w.heap.size, 1, none⟩) hlow).trans c1⟩)
  clear c0 c1
  go_wp2_with (first
    | (at_builtin
       refine wpList_append_u8 (P := Tryd.prog) w1.heap.size 5 22 infoB8 Tryd.underlying22 rfl (.tmp 37) (.tmp 38) rfl _ 0 [] rfl HO0.out rfl HBS.out (by omega) (Nat.le_refl _) ?_
       intro v2 w2 hown2 hb2
       have HB2 := Lib.hid hb2
       have hown2' : w2.ownsRow w1.heap.size 5 1 v2 N (Z.map u8I) := by simpa using hown2
       clear hown2
       have hown2 := hown2'
       clear hown2'
       have HO2 := Lib.hid hown2
       have HY2 := Lib.hid (HJ1.out.below hb2)
       obtain ⟨A2, cap2, rfl, hn2, hm2⟩ := own_slice hown2
       clear hown2 hb2)
    | (at_builtin
       refine wpList_append_u8 (P := Tryd.prog) w1.heap.size 5 22 infoB8 Tryd.underlying22 rfl (.tmp 39) (.tmp 40) rfl _ N Z rfl HO2.out rfl HY2.out (by omega) HB2.out.size ?_
       intro v3 w3 hown3 hb3
       have HB3 := Lib.hid (HB2.out.trans hb3)
       have HO3 := Lib.hid hown3
       obtain ⟨A3, cap3, rfl, hn3, hm3⟩ := own_slice hown3
       clear hown3 hb3))
  have h8T : Byte8 (Z ++ y) := H8Z.out.app HJ.out.bd
  have hBT := bytes_own HO3.out h8T
  have HBw3 := Lib.hid (HB1.out.trans (HB3.out.mono HB1.out.size))
  have H2 := Lib.hid (unpack_yes _ A3 (N + ny) cap3 (Z ++ y) n w3 hBT (by omega) (by omega) (HO.out.later (B := 0) HBw3.out) l N n hlen (by rw [← HZ.out, ← hlen, unp_back, HZ.out, HZL.out]))
  clear h8T hBT HO2 HY2 HJ1 HB2 HO0
  go_wp2_with fail
  refine H2.out.mono ?_
  rintro e w4 ⟨A4, c4, rfl, h3, hb4⟩
  have HBw4 := Lib.hid (HBw3.out.trans (hb4.mono HBw3.out.size))
  have q1 := conv_of h3
  have q2 := conv_of (HI.out.below HBw4.out)
  obtain ⟨c0, _⟩ := hC.out w4 (HB3.out.trans (hb4.mono HB3.out.size))
  have HO4 := Lib.hid (own_less HO3.out hb4)
  have HS4 := Lib.hid (HBS.out.below (HB3.out.trans (hb4.mono HB3.out.size)))
  have HB4 := Lib.hid (HB3.out.trans (hb4.mono HB3.out.size))
  clear h3 hb4 H2 HBS HO3 HB3 HBw3
  obtain ⟨ms, hms⟩ : ∃ ms, N - 1 = ms := ⟨_, rfl⟩
  have hmi : (N : Int) - 1 = (ms : Int) := by omega
  have hmsn : ms < N := by omega
  obtain ⟨MN, hMN⟩ : ∃ MN : Int, (if (ms : Int) < n0 then (ms : Int) else n0) = MN := ⟨_, rfl⟩
  have hMN2 : (if n0 < (ms : Int) then n0 else (ms : Int)) = MN := by rw [← hMN]; split <;> split <;> omega
  have hMNle : MN ≤ (ms : Int) := by rw [← hMN]; split <;> omega
  obtain ⟨K, hK⟩ : ∃ K : Nat, K = MN.toNat := ⟨_, rfl⟩
  have hK1 : (if (0 : Int) < MN then MN else 0) = (K : Int) := by split <;> omega
  have hK2 : (if MN < 0 then (0 : Int) else MN) = (K : Int) := by split <;> omega
  have hKs : K < N := by omega
  clear hK hms
  obtain ⟨A9, c9, k9, hC9⟩ := cut_h HS4.out (K : Int) K rfl (by omega)
  have HCut := Lib.hid (unpack_no _ A9 K c9 (Z.take K) n w4 hC9 (by omega) (by omega) (HO.out.later (B := 0) HBw4.out) 2 (by rw [← HZ.out, ← hlen]; exact unp_cut l K (by rw [HZ.out, HZL.out]; exact hKs)))
  clear hC9
  go_wp2_with fail
  refine HCut.out.mono ?_
  rintro e w5 ⟨rfl, hb5⟩
  have HBw5 := Lib.hid (HBw4.out.trans (hb5.mono HBw4.out.size))
  have HO5 := Lib.hid (own_less HO4.out hb5)
  have HB5 := Lib.hid (HB4.out.trans (hb5.mono HB4.out.size))
  obtain ⟨_, c1⟩ := hC.out w5 HB5.out
  clear hb5 HCut c0 q1 q2 k9 hMN hMN2 hMNle hK1 hK2 HO4 HB4 HS4
  by_cases h0 : n = 0
  · have d3 : decide ((0 : Int) < (n : Int)) = false := decide_eq_false (by omega)
    have d3' : decide (0 < n) = false := decide_eq_false (by omega)
    have HL5 := Lib.hid (HL.out w5 HBw5.out)
    clear h0 HL
    go_wp2_with fail
    refine HL5.out.mono ?_
    rintro e w9 ⟨rfl, hb9⟩
    go_wp2_with fail
    go_ret
    exact ⟨rfl, hb9⟩
  have d3 : decide ((0 : Int) < (n : Int)) = true := decide_eq_true (by omega)
  have d3' : decide (0 < n) = true := decide_eq_true (by omega)
  obtain ⟨N1, hN1⟩ : ∃ N1, n - 1 = N1 := ⟨_, rfl⟩
  have hni : (n : Int) - 1 = (N1 : Int) := by omega
  have hN1n : N1 < n := by omega
  obtain ⟨MN, hMN⟩ : ∃ MN : Int, (if (N1 : Int) < n1 then (N1 : Int) else n1) = MN := ⟨_, rfl⟩
  have hMN2 : (if n1 < (N1 : Int) then n1 else (N1 : Int)) = MN := by rw [← hMN]; split <;> split <;> omega
  have hMNle : MN ≤ (N1 : Int) := by rw [← hMN]; split <;> omega
  obtain ⟨D, hD⟩ : ∃ D : Nat, D = MN.toNat := ⟨_, rfl⟩
  have hD1 : (if (0 : Int) < MN then MN else 0) = (D : Int) := by split <;> omega
  have hD2 : (if MN < 0 then (0 : Int) else MN) = (D : Int) := by split <;> omega
  have hDn : D < n := by omega
  obtain ⟨P, hP⟩ : ∃ P, 7 + D = P := ⟨_, rfl⟩
  have hPi : 7 + (D : Int) = (P : Int) := by omega
  have hPl : P < N + ny := by have := hNN.out; omega
  clear hD hN1
  obtain ⟨g, cap9, he, hg0, hg1⟩ := HO5.out.form (by omega)
  injection he with e1 e2 e3
  subst e1 e3
  have hZb : gI (Z ++ y) P = gI l D := by rw [← HZ.out, ← hP]; exact zip_byte l y D (by omega) (by omega)
  have hZl : (Z ++ y).length = N + ny := by rw [List.length_append, HZL.out, hleny]
  have cP : w5.cell? ⟨g, P, none⟩ = some (.int .u8 (gI l D)) := by
    rw [HO5.out.cellAt P (by omega), u8I_at _ P (by omega), hZb]
  have fP := HO5.out.frozenAt P
  obtain ⟨x0, x1⟩ := HI.out.bd D
  have hne : gI l D ≠ (gI l D + 1) % 256 := by omega
  have h9 : Byte8 ((Z ++ y).set P ((gI l D + 1) % 256)) := (H8Z.out.app HJ.out.bd).set P (by omega) (by omega)
  have hBT := bytes_own (row_set HO5.out P ((gI l D + 1) % 256)) h9
  have hbs : Below w.heap.size w (w5.setCell ⟨g, P, none⟩ (.int .u8 ((gI l D + 1) % 256))) := HBw5.out.setCell (show w.heap.size ≤ g by omega) _
  have HSp := Lib.hid (unpack_no _ _ (N + ny) _ _ n _ hBT (by omega) (by omega) (HO.out.later (B := 0) hbs) 7 (by
    rw [← HZ.out, ← hP, ← hlen]
    exact unp_spoilt l y D _ (by omega) (by omega) HI.out.bd (by omega) (by omega) hne))
  have HBs := Lib.hid hbs
  generalize gI l D = x at *
  clear hBT hbs h9 hZb hZl hne HO5 hP
  go_wp2_with fail
  refine HSp.out.mono ?_
  rintro e w6 ⟨rfl, hb6⟩
  have HL6 := Lib.hid (HL.out w6 (HBs.out.trans (hb6.mono HBs.out.size)))
  clear hb6 HSp HL
  go_wp2_with fail
  refine HL6.out.mono ?_
  rintro e w9 ⟨rfl, hb9⟩
  go_wp2_with fail
  go_ret
  exact ⟨rfl, hb9⟩

end Go.Proofs.YtehnilmfeoadgaaDoor
