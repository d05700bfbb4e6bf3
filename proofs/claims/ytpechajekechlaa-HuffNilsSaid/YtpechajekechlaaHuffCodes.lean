/- huff's Codes and New. -/
import Derived.Test.YtpechajekechlaaHuffFirsts
namespace Go.Proofs.Ytpechajekechlaa
open Go.RowKit
attribute [local simp ↓ high] arrAlloc_as1 arrAlloc_as2 arrStore_as1 arrStore_as2 arrLoad_as1 arrLoad_as2 arrEql_as arrBuild_as

theorem Lg.ok {l : List Int} (h : Lg l 0) : l.length ≤ 320 ∧ Fine l ∧ okS (nOf l) := by
  rcases h with ⟨h1, _⟩ | ⟨h1, h2, ⟨_, h3⟩ | ⟨h3, _⟩⟩
  · omega
  · exact ⟨h1, h2, h3⟩
  · omega
theorem Lg.cases {l : List Int} {e : Int} (h : Lg l e) : e = 0 ∨ e = 1 ∨ e = 4 := by
  rcases h with ⟨h1, _⟩ | ⟨h1, h2, ⟨h3, _⟩ | ⟨h3, _⟩⟩ <;> omega
theorem nOf_zero (l : List Int) : nOf l 0 = 0 := cN_zero _ _
theorem nOf_end {l : List Int} (h : okS (nOf l)) (t : Nat) (ht : t ≤ 15) : endC (nOf l) t ≤ 32768 := by
  have h1 := end_le (nOf l) (h.sum (nOf_zero l)) t ht
  have h2 : 2 ^ t ≤ 2 ^ 15 := Nat.pow_le_pow_right (by decide) ht
  omega
theorem plc_le {l : List Int} (h : Fine l) (t : Nat) (ht : t ≤ 16) : plc (nOf l) t ≤ l.length := by
  have h1 := csum_is (lnN l) (fun i => (h.ln i).2) l.length
  have h2 := csum_le (lnN l) l.length
  have h3 := plc_mono (nOf l) t 16 ht
  unfold nOf at *
  omega
theorem code_small {l : List Int} (h : okS (nOf l)) (i : Nat) (hi : i < l.length) (h15 : lnN l i ≤ 15) : codeC (lnN l) l.length i < 2 ^ lnN l i := by
  by_cases c : lnN l i = 0
  · unfold codeC; rw [if_pos c]; exact Nat.two_pow_pos _
  · have h1 := code_hi (lnN l) l.length i c hi
    have h2 := end_le (nOf l) (h.sum (nOf_zero l)) (lnN l i) h15
    unfold nOf at h2
    omega
/-- The next code of each length, behind k symbols. -/
def nxF (f : Nat → Nat) (a : Nat → Nat) (k j : Nat) : Int := if j = 0 then 0 else ((f j + cnt a j k : Nat) : Int)
theorem nxF_start (f a : Nat → Nat) (h : f 0 = 0) (j : Nat) : toI f j = nxF f a 0 j := by
  unfold nxF toI
  by_cases c : j = 0
  · subst c; rw [if_pos rfl, h]; rfl
  · rw [if_neg c, cnt]; rfl
theorem nxF_zero (f a : Nat → Nat) (k : Nat) (h : a k = 0) (j : Nat) : nxF f a k j = nxF f a (k + 1) j := by
  unfold nxF
  by_cases c : j = 0
  · rw [if_pos c, if_pos c]
  · rw [if_neg c, if_neg c, cnt, if_neg (by omega), Nat.add_zero]
theorem nxF_next (f a : Nat → Nat) (k m : Nat) (h : a k = m) (hm : m ≠ 0) (j : Nat) : updN (nxF f a k) m (nxF f a k m + 1) j = nxF f a (k + 1) j := by
  unfold nxF
  by_cases c : j = m
  · subst c
    rw [updN_same, if_neg hm, if_neg hm, cnt, if_pos h]
    omega
  · rw [updN_other _ _ _ _ c]
    by_cases d : j = 0
    · rw [if_pos d, if_pos d]
    · rw [if_neg d, if_neg d, cnt, if_neg (by omega), Nat.add_zero]
/-- Behind k symbols: the codes. -/
structure Cod (w wr : World) (l : List Int) (g2 g3 k : Nat) : Prop where
  nx : ArrAt wr g2 51 (nxF (fstC (nOf l)) (lnN l) k)
  cs : Cells wr g3 3 l.length (fun j => .int .i64 (if j < k then ((codeC (lnN l) l.length j : Nat) : Int) else 0))
  ne : g2 ≠ g3
  b2 : w.heap.size ≤ g2
  b3 : w.heap.size ≤ g3
  bel : Below w.heap.size w wr
theorem Cod.skip {w wr : World} {l : List Int} {g2 g3 k : Nat} (h : Cod w wr l g2 g3 k) (h0 : lnN l k = 0) : Cod w wr l g2 g3 (k + 1) := by
  obtain ⟨h1, h2, h3, h4, h5, h6⟩ := h
  refine ⟨h1.congr fun j _ => nxF_zero _ _ k h0 j, h2.congr fun j _ => ?_, h3, h4, h5, h6⟩
  by_cases c : j < k
  · rw [if_pos c, if_pos (by omega)]
  · rw [if_neg c]
    by_cases d : j < k + 1
    · obtain rfl : j = k := by omega
      rw [if_pos d]; unfold codeC; rw [if_pos h0]; rfl
    · rw [if_neg d]
theorem Cod.next {w wr : World} {l : List Int} {g2 g3 k m : Nat} (h : Cod w wr l g2 g3 k) (hm : lnN l k = m) (h0 : m ≠ 0) (x : Int) (hx : nxF (fstC (nOf l)) (lnN l) k m = x) :
    Cod w ((wr.setCell ⟨g3, k, none⟩ (.int .i64 x)).setCell ⟨g2, m, none⟩ (.int .i64 (x + 1))) l g2 g3 (k + 1) := by
  obtain ⟨h1, h2, h3, h4, h5, h6⟩ := h
  subst hx
  refine ⟨ArrAt.congr (ArrAt.set (Cells.block h1 (Below.heap_setCell _ ⟨g3, k, none⟩ _ _ h3)) m _) fun j hj => nxF_next _ _ k m hm h0 j,
    Cells.congr (Cells.block (Cells.set h2 k _) (Below.heap_setCell _ ⟨g2, m, none⟩ _ _ (Ne.symm h3))) fun j _ => ?_, h3, h4, h5, (h6.setCell (show w.heap.size ≤ g3 from h5) _).setCell (show w.heap.size ≤ g2 from h4) _⟩
  by_cases c : j = k
  · subst c
    rw [upd_same, if_pos (by omega)]
    have e : codeC (lnN l) l.length j = fstC (nOf l) m + cnt (lnN l) m j := by
      unfold codeC nOf; rw [if_neg (by omega), hm]
    rw [e]; unfold nxF; rw [if_neg h0]
  · unfold upd
    rw [if_neg c]
    dsimp only
    by_cases d : j < k
    · rw [if_pos d, if_pos (by omega)]
    · rw [if_neg d, if_neg (by omega)]
/-- The codes as numbers. -/
def codesL (l : List Int) (e : Int) : List Int := if e = 0 then lstF (fun i => ((codeC (lnN l) l.length i : Nat) : Int)) l.length else []
def Coded (w : World) (l : List Int) (e : Int) (x : Ending) (w' : World) : Prop := ∃ A n cap, x = .returned (.tuple #[.slice A n cap, .int .i64 e]) ∧ IAt (fun k => w.heap.size ≤ k) w' A n cap (codesL l e) ∧ Below w.heap.size w w'
theorem Cod.done {w wr : World} {l : List Int} {g2 g3 : Nat} (h : Cod w wr l g2 g3 l.length) (hl : l.length ≤ 320) : IAt (fun k => w.heap.size ≤ k) wr (some ⟨g3, 0, none⟩) l.length l.length (codesL l 0) := by
  have hc := h.cs.congr (D := fun j => .int .i64 ((codeC (lnN l) l.length j : Nat) : Int)) fun j hj => by rw [if_pos hj]
  have := IAt.of_cells (f := fun i => ((codeC (lnN l) l.length i : Nat) : Int)) hc (by unfold maxLen; omega)
  unfold codesL
  rw [if_pos rfl]
  exact this.weak fun k _ hk => by rw [hk]; exact h.b3
theorem nx_small {l : List Int} (hk : okS (nOf l)) (k m : Nat) (hlt : k < l.length) (hm : lnN l k = m) (h0 : m ≠ 0) (h15 : m ≤ 15) : 0 ≤ nxF (fstC (nOf l)) (lnN l) k m ∧ nxF (fstC (nOf l)) (lnN l) k m < 32768 := by
  have h1 := nOf_end hk m h15
  have h2 := cnt_lt (lnN l) m k l.length hlt hm
  unfold endC at h1
  have h3 : nOf l m = cnt (lnN l) m l.length := cN_pos _ _ _ h0
  unfold nxF
  rw [if_neg h0]
  omega
set_option maxHeartbeats 3200000 in
theorem codes_any (A : Option Addr) (n cap : Nat) (l : List Int) (e : Int) (w : World) (hl : IAt (fun _ => True) w A n cap l) (he : Lg l e) :
    Calls Try.prog 8 #[.slice A n cap] w (Coded w l e) := by
  have a1 := run_arrAlloc1
  have a2 := run_arrAlloc2
  have H1 := Lib.hid (count_any A n cap l e w hl he)
  have hlen := hl.len
  have hf := hl.fit
  have hm := hl.max
  have HL := Lib.hid hl
  unfold maxLen at hm
  clear hl
  go_enter Try.func8, Try.ntmps8
  go_wp2_with fail
  refine H1.out.mono ?_
  rintro e' w1 ⟨rfl, hb1⟩
  clear H1
  by_cases e0 : e = 0
  · subst e0
    obtain ⟨h320, hfine, hok⟩ := he.ok
    rw [cntR_yes]
    obtain ⟨W, hs1, hW, hC1⟩ := run_arrStore2 (ArrAt.new w1 52 fun _ => 0) (toI (nOf l))
    have ld1 := run_arrLoad2 hW.cells
    have hbW : Below w.heap.size w W := (hb1.alloc hb1.size (.cells (arrA fun _ => 0) 52)).trans (hC1.below (fun k hk => by have := hb1.size; omega) (by have := hb1.size; simp; omega))
    have HF := Lib.hid (firsts_any (nOf l) (nOf_end hok) W)
    have HbW := Lib.hid hbW
    clear hb1 hW hC1 hbW
    go_wp2_with fail
    refine HF.out.mono ?_
    rintro e' w2 ⟨rfl, hb2⟩
    obtain ⟨V, hs2, hV, hC2⟩ := run_arrStore1 (ArrAt.new w2 51 fun _ => 0) (toI (fstC (nOf l)))
    have hb3 : Below w.heap.size w w2 := HbW.out.trans (hb2.mono HbW.out.size)
    have hbV : Below w.heap.size w V := (hb3.alloc hb3.size (.cells (arrA fun _ => 0) 51)).trans (hC2.below (fun k hk => by have := hb3.size; omega) (by have := hb3.size; simp; omega))
    obtain ⟨U, mk, hU, hbU⟩ := make_ints n V (by omega)
    obtain ⟨g2, hg2⟩ : ∃ g2, w2.heap.size = g2 := ⟨_, rfl⟩
    obtain ⟨g3, hg3⟩ : ∃ g3, V.heap.size = g3 := ⟨_, rfl⟩
    have h23 : g2 < g3 := by rw [← hg3, ← hg2]; exact hV.lt
    have hS : Cod w U l g2 g3 0 := by
      refine ⟨?_, ?_, by omega, by have := hb3.size; omega, by have := hb3.size; omega, hbV.trans (hbU.mono hbV.size)⟩
      · rw [← hg2]
        exact ArrAt.congr (Cells.block hV (hbU.block _ hV.lt)) fun j _ => nxF_start _ (lnN l) rfl j
      · rw [← hg3, hlen]; exact hU
    have HS := Lib.hid hS
    have HO := Lib.hid hok
    have HF := Lib.hid hfine
    clear hb2 hV hC2 hb3 hbV hU hbU hS h23 hok hfine HbW ld1 hs1
    rw [hg2] at hs2
    rw [hg3] at mk
    go_wp2_with fail
    clear hs2 mk hg2 hg3
    go_loopw [25] (fun i wr => ∃ k : Nat, i = .int .i64 k ∧ k ≤ n ∧ Hid (Cod w wr l g2 g3 k)) (fun i _ => n - (intOf i).toNat)
    case atStart => exact ⟨0, rfl, by omega, HS⟩
    case round =>
      obtain ⟨k, rfl, hk, HI⟩ := hrel
      by_cases hlt : k < n
      · obtain ⟨b, o, rfl, _, hbl, hc⟩ := HL.out.lies (by omega)
        have c0 := (HI.out.bel.cell (p := ⟨b, o + k, none⟩) hbl).trans (hc k hlt)
        clear hc
        obtain ⟨m, hm⟩ : ∃ m, lnN l k = m := ⟨_, rfl⟩
        obtain ⟨hx, h15⟩ := HF.out.ln k
        rw [hm] at hx h15
        rw [hx] at c0
        by_cases h0 : m = 0
        · have HN := Lib.hid (HI.out.skip (by omega))
          subst h0
          clear hm hx
          go_wp2_with fail
          go_roundw
          case rel => exact ⟨k + 1, by go_num, by omega, HN⟩
          case measure => first | (simp [intOf]; done) | (simp [intOf]; omega)
        · obtain ⟨x, hx2⟩ : ∃ x, nxF (fstC (nOf l)) (lnN l) k m = x := ⟨_, rfl⟩
          have hsm := nx_small HO.out k m (by omega) hm h0 h15
          rw [hx2] at hsm
          have HN := Lib.hid (HI.out.next hm h0 x hx2)
          have c1 := HI.out.nx.cells m (by omega)
          rw [hx2] at c1
          have f1 := Cells.frozen HI.out.nx m
          have c2 := HI.out.cs.cell k (by omega)
          have f2 := Cells.frozen HI.out.cs k
          have ne := HI.out.ne
          have ne2 := Ne.symm ne
          have d1 : decide ((0 : Int) < (m : Int)) = true := decide_eq_true (by omega)
          clear hm hx hx2 HI
          go_wp2_with fail
          go_roundw
          case rel => exact ⟨k + 1, by go_num, by omega, HN⟩
          case measure => first | (simp [intOf]; done) | (simp [intOf]; omega)
      · obtain rfl : k = n := by omega
        subst hlen
        have HD := Lib.hid (HI.out.done h320)
        have HB := Lib.hid HI.out.bel
        clear HI
        go_wp2_with fail
        go_ret2
        exact ⟨_, _, _, rfl, HD.out, HB.out⟩
  · rw [cntR_no l e e0]
    obtain ⟨W, hs1, hW, hC1⟩ := run_arrStore2 (ArrAt.new w1 52 fun _ => 0) (fun _ => 0)
    have hbW : Below w.heap.size w W := (hb1.alloc hb1.size (.cells (arrA fun _ => 0) 52)).trans (hC1.below (fun k hk => by have := hb1.size; omega) (by have := hb1.size; simp; omega))
    have HR : Hid (Coded w l e (.returned (.tuple #[.slice none 0 0, .int .i64 e])) W) := Lib.hid ⟨none, 0, 0, rfl, by unfold codesL; rw [if_neg e0]; exact IAt.empty _ _, hbW⟩
    have he2 := he.cases
    clear hb1 hW hC1 hbW he
    have he3 : e = 1 ∨ e = 4 := by omega
    rcases he3 with rfl | rfl
    · go_wp2_with fail
      go_ret2
      exact HR.out
    · go_wp2_with fail
      go_ret2
      exact HR.out

end Go.Proofs.Ytpechajekechlaa
