/- huff's New. -/
import Derived.Test.YtifkldllhbcmkaaDoorHuffCodes
namespace Go.Proofs.YtifkldllhbcmkaaDoor
open Go.RowKit
attribute [local simp ↓ high] arrAlloc_as1 arrAlloc_as2 arrStore_as1 arrStore_as2 arrLoad_as1 arrLoad_as2 arrEql_as arrBuild_as

/-- Behind k symbols: the table's symbols. -/
structure Nw (w wr : World) (l : List Int) (g1 g2 g3 k : Nat) : Prop where
  ct : ArrAt wr g1 74 (toI (nOf l))
  nx : ArrAt wr g2 73 (nxF (plc (nOf l)) (lnN l) k)
  cs : Cells wr g3 3 (plc (nOf l) 16) (fun j => .int .i64 ((tabF (lnN l) (nOf l) k j : Nat) : Int))
  n12 : g1 ≠ g2
  n13 : g1 ≠ g3
  ne : g2 ≠ g3
  b1 : w.heap.size ≤ g1
  b2 : w.heap.size ≤ g2
  b3 : w.heap.size ≤ g3
  bel : Below w.heap.size w wr
theorem Nw.skip {w wr : World} {l : List Int} {g1 g2 g3 k : Nat} (h : Nw w wr l g1 g2 g3 k) (h0 : lnN l k = 0) : Nw w wr l g1 g2 g3 (k + 1) := by
  obtain ⟨h0', h1, h2, n12, n13, h3, h3', h4, h5, h6⟩ := h
  refine ⟨h0', h1.congr fun j _ => nxF_zero _ _ k h0 j, h2.congr fun j _ => ?_, n12, n13, h3, h3', h4, h5, h6⟩
  rw [tabF, if_pos h0]
theorem Nw.next {w wr : World} {l : List Int} {g1 g2 g3 k m p : Nat} (h : Nw w wr l g1 g2 g3 k) (hm : lnN l k = m) (h0 : m ≠ 0) (hp : plc (nOf l) m + cnt (lnN l) m k = p) :
    Nw w ((wr.setCell ⟨g3, p, none⟩ (.int .i64 (k : Nat))).setCell ⟨g2, m, none⟩ (.int .i64 ((p : Int) + 1))) l g1 g2 g3 (k + 1) := by
  obtain ⟨h0', h1, h2, n12, n13, h3, h3', h4, h5, h6⟩ := h
  have hx : ((p : Int) + 1) = nxF (plc (nOf l)) (lnN l) k m + 1 := by unfold nxF; rw [if_neg h0, hp]
  rw [hx]
  refine ⟨Cells.block (Cells.block h0' (Below.heap_setCell _ ⟨g3, p, none⟩ _ _ n13)) (Below.heap_setCell _ ⟨g2, m, none⟩ _ _ n12),
    ArrAt.congr (ArrAt.set (Cells.block h1 (Below.heap_setCell _ ⟨g3, p, none⟩ _ _ h3)) m _) fun j hj => nxF_next _ _ k m hm h0 j,
    Cells.congr (Cells.block (Cells.set h2 p _) (Below.heap_setCell _ ⟨g2, m, none⟩ _ _ (Ne.symm h3))) fun j _ => ?_, n12, n13, h3, h3', h4, h5, (h6.setCell (show w.heap.size ≤ g3 from h5) _).setCell (show w.heap.size ≤ g2 from h4) _⟩
  rw [tabF, if_neg (by omega), hm, hp]
  by_cases c : j = p
  · subst c
    rw [upd_same, if_pos rfl]
  · unfold upd
    rw [if_neg c, if_neg c]
/-- The symbols in the order of their codes. -/
def symsL (l : List Int) : List Int := lstF (fun j => ((tabF (lnN l) (nOf l) l.length j : Nat) : Int)) (plc (nOf l) 16)
/-- A table's cells. -/
def tC (l : List Int) (v : Value) (j : Nat) : Value := if j < 16 then .int .i64 (toI (nOf l) j) else v
def tabA (M : Nat → Int) (v : Value) : Array Value := (((List.range 16).map fun j => Value.int .i64 (M j)) ++ [v]).toArray
theorem tabA_size (M : Nat → Int) (v : Value) : (tabA M v).size = 17 := by simp [tabA]
theorem tabA_at (M : Nat → Int) (v : Value) (j : Nat) (h : j < 17) : (tabA M v)[j]? = some (if j < 16 then .int .i64 (M j) else v) := by
  unfold tabA
  rw [List.getElem?_toArray]
  by_cases c : j < 16
  · rw [List.getElem?_append_left (by simpa using c), if_pos c]
    simp [c]
  · obtain rfl : j = 16 := by omega
    rfl
structure TabAt (F : Nat → Prop) (w : World) (g : Nat) (l : List Int) : Prop where
  here : F g
  is : ∃ A n cap, Cells w g 76 17 (tC l (.slice A n cap)) ∧ IAt F w A n cap (symsL l)
theorem TabAt.keep {F : Nat → Prop} {w w' : World} {g : Nat} {l : List Int} (h : TabAt F w g l) (hs : w.heap.size ≤ w'.heap.size) (hb : ∀ k, k < w.heap.size → F k → w'.heap[k]? = w.heap[k]?) : TabAt F w' g l := by
  obtain ⟨h1, A, n, cap, h2, h3⟩ := h
  exact ⟨h1, A, n, cap, h2.block (hb g h2.lt h1), h3.keep hs hb⟩
theorem TabAt.below {F : Nat → Prop} {w w' : World} {g : Nat} {l : List Int} (h : TabAt F w g l) (hb : Below w.heap.size w w') : TabAt F w' g l := h.keep hb.size fun k hk _ => hb.block k hk
theorem TabAt.ch {F G : Nat → Prop} {w w' : World} {g : Nat} {l : List Int} (h : TabAt F w g l) (hb : Ch G w w') (hF : ∀ k, F k → ¬ G k) : TabAt F w' g l := h.keep hb.size fun k hk hf => hb.block k hk (hF k hf)
theorem TabAt.weak {F G : Nat → Prop} {w : World} {g : Nat} {l : List Int} (h : TabAt F w g l) (hF : ∀ k, k < w.heap.size → F k → G k) : TabAt G w g l := by
  obtain ⟨h1, A, n, cap, h2, h3⟩ := h
  exact ⟨hF g h2.lt h1, A, n, cap, h2, h3.weak hF⟩
def tabBuild (l : Array (Nat × Value)) : Sem Value := Instr.build 76 l
theorem tabBuild_as (l : Array (Nat × Value)) : Instr.build 76 l = tabBuild l := rfl
theorem run_tabBuild (M : Nat → Int) (A : Option Addr) (n cap : Nat) (u : World) : (tabBuild #[(0, .agg (arrA M)), (1, .slice A n cap)]).run Tryd.prog u = .ok (.agg (tabA M (.slice A n cap))) u :=
  run_build u _ _ _ (show Tryd.prog.built 76 [(0, .agg (arrA M)), (1, .slice A n cap)] = some (tabA M (.slice A n cap)) by kernel_rfl)
def Newed (w : World) (l : List Int) (e : Int) (x : Ending) (w' : World) : Prop := ∃ P, x = .returned (.tuple #[.pointer P, .int .i64 e]) ∧ Below w.heap.size w w' ∧ (e ≠ 0 → P = none) ∧ (e = 0 → ∃ g, P = some ⟨g, 0, none⟩ ∧ TabAt (fun k => w.heap.size ≤ k) w' g l)
theorem Nw.done {w wr : World} {l : List Int} {g1 g2 g3 : Nat} (h : Nw w wr l g1 g2 g3 l.length) (hl : plc (nOf l) 16 ≤ 320) :
    Newed w l 0 (.returned (.tuple #[.pointer (some ⟨wr.heap.size, 0, none⟩), .int .i64 0])) (wr.alloc (.cells (tabA (toI (nOf l)) (.slice (some ⟨g3, 0, none⟩) (plc (nOf l) 16) (plc (nOf l) 16))) 76)) := by
  have hI := IAt.of_cells (f := fun j => ((tabF (lnN l) (nOf l) l.length j : Nat) : Int)) h.cs (by unfold maxLen; omega)
  have hs := h.bel.size
  refine ⟨_, rfl, h.bel.alloc hs _, fun x => absurd rfl x, fun _ => ⟨_, rfl, hs, _, _, _, Cells.new wr _ _ 17 _ (tabA_size _ _) (fun j hj => tabA_at _ _ j hj), ?_⟩⟩
  exact (hI.weak (G := fun k => w.heap.size ≤ k) fun k _ hk => by rw [hk]; exact h.b3).below (bnew _ _)
attribute [local simp ↓ high] tabBuild_as
theorem pl_small {l : List Int} (k m : Nat) (hlt : k < l.length) (hm : lnN l k = m) (h0 : m ≠ 0) (h15 : m ≤ 15) : plc (nOf l) m + cnt (lnN l) m k < plc (nOf l) 16 := by
  have h1 := slot_lt (lnN l) l.length k (by omega) hlt
  rw [hm] at h1
  have h2 := plc_mono (nOf l) (m + 1) 16 (by omega)
  unfold nOf at *
  omega
set_option maxHeartbeats 3200000 in
theorem new_any (A : Option Addr) (n cap : Nat) (l : List Int) (e : Int) (w : World) (hl : IAt (fun _ => True) w A n cap l) (he : Lg l e) :
    Calls Tryd.prog 31 #[.slice A n cap] w (Newed w l e) := by
  have a1 := run_arrAlloc1
  have a2 := run_arrAlloc2
  have H1 := Lib.hid (count_any A n cap l e w hl he)
  have hlen := hl.len
  have hf := hl.fit
  have hm := hl.max
  have HL := Lib.hid hl
  unfold maxLen at hm
  clear hl
  go_enter Tryd.func31, Tryd.ntmps31
  go_wp2_with fail
  refine H1.out.mono ?_
  rintro e' w1 ⟨rfl, hb1⟩
  clear H1
  by_cases e0 : e = 0
  · subst e0
    obtain ⟨h320, hfine, hok⟩ := he.ok
    rw [cntR_yes]
    obtain ⟨W, hs1, hW, hC1⟩ := run_arrStore2 (ArrAt.new w1 74 fun _ => 0) (toI (nOf l))
    have ld1 := run_arrLoad2 hW.cells
    have hbW : Below w.heap.size w W := (hb1.alloc hb1.size (.cells (arrA fun _ => 0) 74)).trans (hC1.below (fun k hk => by have := hb1.size; omega) (by have := hb1.size; simp; omega))
    have HF := Lib.hid (places_any (nOf l) (fun t ht => by have := plc_le hfine t ht; omega) W)
    have HbW := Lib.hid hbW
    have HW := Lib.hid hW
    have hg1 : w.heap.size ≤ w1.heap.size := hb1.size
    clear hb1 hW hC1 hbW
    go_wp2_with fail
    refine HF.out.mono ?_
    rintro e' w2 ⟨rfl, hb2⟩
    obtain ⟨V, hs2, hV, hC2⟩ := run_arrStore1 (ArrAt.new w2 73 fun _ => 0) (toI (plc (nOf l)))
    have hb3 : Below w.heap.size w w2 := HbW.out.trans (hb2.mono HbW.out.size)
    have hbV : Below w.heap.size w V := (hb3.alloc hb3.size (.cells (arrA fun _ => 0) 73)).trans (hC2.below (fun k hk => by have := hb3.size; omega) (by have := hb3.size; simp; omega))
    have hp16 := plc_le hfine 16 (Nat.le_refl _)
    have hlt1 : w1.heap.size < w2.heap.size := Nat.lt_of_lt_of_le HW.out.lt hb2.size
    have hWV : ArrAt V w1.heap.size 74 (toI (nOf l)) := Cells.block (Cells.below (Cells.below HW.out hb2) (bnew w2 _)) (hC2.block _ (by simp; omega) (by omega))
    obtain ⟨U, mk, hU, hbU⟩ := make_ints (plc (nOf l) 16) V (by omega)
    obtain ⟨g1, hg1'⟩ : ∃ g1, w1.heap.size = g1 := ⟨_, rfl⟩
    obtain ⟨g2, hg2⟩ : ∃ g2, w2.heap.size = g2 := ⟨_, rfl⟩
    obtain ⟨g3, hg3⟩ : ∃ g3, V.heap.size = g3 := ⟨_, rfl⟩
    have h23 : g2 < g3 := by rw [← hg3, ← hg2]; exact hV.lt
    have hS : Nw w U l g1 g2 g3 0 := by
      refine ⟨?_, ?_, ?_, by omega, by omega, by omega, by omega, by have := hb3.size; omega, by have := hb3.size; omega, hbV.trans (hbU.mono hbV.size)⟩
      · rw [← hg1']
        exact Cells.block hWV (hbU.block _ hWV.lt)
      · rw [← hg2]
        exact ArrAt.congr (Cells.block hV (hbU.block _ hV.lt)) fun j _ => nxF_start _ (lnN l) rfl j
      · rw [← hg3]; exact hU
    have HS := Lib.hid hS
    have HF := Lib.hid hfine
    have c15 := hV.cells 15 (by decide)
    have d15 := hWV.cells 15 (by decide)
    obtain ⟨p15, hp15⟩ : ∃ p, plc (nOf l) 15 = p := ⟨_, rfl⟩
    obtain ⟨n15, hn15⟩ : ∃ p, nOf l 15 = p := ⟨_, rfl⟩
    obtain ⟨S, hS16⟩ : ∃ S, plc (nOf l) 16 = S := ⟨_, rfl⟩
    have hsum : ((p15 : Int) + n15) = S := by
      have : plc (nOf l) 16 = plc (nOf l) 15 + nOf l 15 := rfl
      omega
    unfold toI at c15 d15
    rw [hp15, hg2] at c15
    rw [hn15, hg1'] at d15
    rw [hS16] at hp16 mk
    rw [hg2] at hs2
    rw [hg3] at mk
    have hp15l : p15 ≤ 320 := by omega
    have hn15l : n15 ≤ 320 := by omega
    have HT := Lib.hid hS16
    clear hb2 hV hC2 hb3 hbV hU hbU hS h23 hfine HbW ld1 hs1 hWV HW hp15 hn15 hS16 hlt1
    go_wp2_with fail
    clear hs2 mk hg2 hg3 hg1' hsum
    go_loopw [28] (fun i wr => ∃ k : Nat, i = .int .i64 k ∧ k ≤ n ∧ Hid (Nw w wr l g1 g2 g3 k)) (fun i _ => n - (intOf i).toNat)
    case atStart => exact ⟨0, rfl, by omega, HS⟩
    case round =>
      obtain ⟨k, rfl, hk, HI⟩ := hrel
      by_cases hlt : k < n
      · obtain ⟨b, o, rfl, _, hbl, hc⟩ := HL.out.lies (by omega)
        have c0 := (HI.out.bel.cell (p := ⟨b, o + k, none⟩) hbl).trans (hc k hlt)
        clear hc
        obtain ⟨m, hm⟩ : ∃ m, lnN l k = m := ⟨_, rfl⟩
        obtain ⟨hx, h15⟩ := HF.out.ln k
        rw [hm] at hx h15
        rw [hx] at c0
        by_cases h0 : m = 0
        · have HN := Lib.hid (HI.out.skip (by omega))
          subst h0
          clear hm hx
          go_wp2_with fail
          go_roundw
          case rel => exact ⟨k + 1, by go_num, by omega, HN⟩
          case measure => first | (simp [intOf]; done) | (simp [intOf]; omega)
        · obtain ⟨x, hx2⟩ : ∃ x, plc (nOf l) m + cnt (lnN l) m k = x := ⟨_, rfl⟩
          have hsm := pl_small (l := l) k m (by omega) hm h0 h15
          rw [hx2, HT.out] at hsm
          have HN := Lib.hid (HI.out.next hm h0 hx2)
          have c1 := HI.out.nx.cells m (by omega)
          unfold nxF at c1
          rw [if_neg h0, hx2] at c1
          have f1 := Cells.frozen HI.out.nx m
          have c2 := HI.out.cs.cell x (by rw [HT.out]; omega)
          have f2 := Cells.frozen HI.out.cs x
          have ne := HI.out.ne
          have ne2 := Ne.symm ne
          have d1 : decide ((0 : Int) < (m : Int)) = true := decide_eq_true (by omega)
          clear hm hx hx2 HI
          go_wp2_with fail
          go_roundw
          case rel => exact ⟨k + 1, by go_num, by omega, HN⟩
          case measure => first | (simp [intOf]; done) | (simp [intOf]; omega)
      · obtain rfl : k = n := by omega
        subst hlen
        have HD := Lib.hid (HI.out.done (by rw [HT.out]; omega))
        have ld := run_arrLoad2 HI.out.ct.cells
        have tb := run_tabBuild
        rw [HT.out] at HD
        clear HI
        go_wp2_with fail
        go_ret2
        exact HD.out
  · rw [cntR_no l e e0]
    obtain ⟨W, hs1, hW, hC1⟩ := run_arrStore2 (ArrAt.new w1 74 fun _ => 0) (fun _ => 0)
    have hbW : Below w.heap.size w W := (hb1.alloc hb1.size (.cells (arrA fun _ => 0) 74)).trans (hC1.below (fun k hk => by have := hb1.size; omega) (by have := hb1.size; simp; omega))
    have HR : Hid (Newed w l e (.returned (.tuple #[.pointer none, .int .i64 e])) W) := Lib.hid ⟨none, rfl, hbW, fun _ => rfl, fun h => absurd h e0⟩
    have he2 := he.cases
    clear hb1 hW hC1 hbW he
    have he3 : e = 1 ∨ e = 4 := by omega
    rcases he3 with rfl | rfl
    · go_wp2_with fail
      go_ret2
      exact HR.out
    · go_wp2_with fail
      go_ret2
      exact HR.out

end Go.Proofs.YtifkldllhbcmkaaDoor
