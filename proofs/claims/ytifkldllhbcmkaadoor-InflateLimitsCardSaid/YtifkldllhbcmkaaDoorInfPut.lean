/- The unpacker's put: what came out has grown. -/
import Derived.Test.YtifkldllhbcmkaaDoorInfDist
import Derived.Deep.AppendLies
namespace Go.Proofs.YtifkldllhbcmkaaDoor
open Go.RowKit
set_option linter.unusedVariables false
set_option linter.unusedSimpArgs false

theorem BitsAt.ch {F G : Nat → Prop} {w w' : World} {g : Nat} {l : List Int} {p : Nat} (h : BitsAt F w g l p) (hc : Ch G w w') (h1 : ¬ G g) (h2 : ∀ k, F k → ¬ G k) : BitsAt F w' g l p := by
  have hg := h.lt
  obtain ⟨a, b, A, n, cap, h3, h4⟩ := h
  exact ⟨a, b, A, n, cap, (hc.block g hg h1).trans h3, h4.ch hc h2⟩
/-- What came out lies in block g now, and is o2. -/
theorem UAt.grow {c : Cx} {w wa w' : World} {ob : Option Nat} {p g n cap : Nat} {o o2 : List Int} (h : UAt c w ob p o) (hwa : Below w.heap.size w wa) (hg : wa.grownBy w' ob)
    (hrow : w'.ownsRow (c.gu + 1) 5 1 (.slice (some ⟨g, 0, none⟩) n cap) n (o2.map u8I)) (hn : n = o2.length) (hat : ob = some g ∨ w.heap.size ≤ g) (hlt : g < w'.heap.size) (h8 : Byte8 o2) (hl : o2.length ≤ c.lim) :
    UAt c (w'.setCell ⟨c.gu, 1, none⟩ (.slice (some ⟨g, 0, none⟩) n cap)) (some g) p o2 ∧ Mv c w ob (w'.setCell ⟨c.gu, 1, none⟩ (.slice (some ⟨g, 0, none⟩) n cap)) (some g) := by
  have hgu := h.gu
  have hob := h.ob
  have hgb := h.bits.lt
  have b1 := c.b1
  have b2 := c.b2
  subst hn
  have hgg : c.gu + 1 ≤ g := by
    rcases hrow.2 with ⟨e, _⟩ | ⟨g', cap', cur, e, hb', _⟩
    · cases e
    · injection e with e _ _
      injection e with e
      injection e with e
      omega
  have hC : Ch (fun k => k = c.gu ∨ ob = some k) w (w'.setCell ⟨c.gu, 1, none⟩ (.slice (some ⟨g, 0, none⟩) o2.length cap)) := by
    refine ⟨?_, ?_, ?_, ?_, fun k hk hF => ?_⟩
    · exact hg.os.trans hwa.os
    · exact hg.tape.trans hwa.tape
    · exact hg.output.trans hwa.output
    · have := hg.size; have := hwa.size; simp [World.setCell]; omega
    · rw [Below.heap_setCell _ _ _ _ (fun e => hF (Or.inl e))]
      have := hwa.size
      exact (hg.block k (by omega) (fun e => hF (Or.inr e.symm))).trans (hwa.block k hk)
  have hM : Mv c w ob (w'.setCell ⟨c.gu, 1, none⟩ (.slice (some ⟨g, 0, none⟩) o2.length cap)) (some g) :=
    ⟨hC.weak fun i hi => by rcases hi with x | x; exact Or.inl x; exact Or.inr (Or.inr x), fun k hk => by injection hk with hk; subst hk; exact hat⟩
  refine ⟨?_, hM⟩
  obtain ⟨⟨v, fs, fd, h1, h2, h3, h4⟩, h5, h6, h7⟩ := h
  have hnob : ∀ k, k ≤ c.gu → some k ≠ ob := fun k hk e => by have := (hob k e.symm).1; omega
  have hws := hwa.size
  have e1 : w'.heap[c.gu]? = some (.cells (uC c v fs fd) 37 (0, 0)) := (hg.block _ (by omega) (hnob _ (Nat.le_refl _))).trans ((hwa.block _ hgu).trans h1)
  refine ⟨⟨.slice (some ⟨g, 0, none⟩) o2.length cap, fs, fd, ?_, rfl, own_kept' hrow fun k hk e => ?_, h4.mv hM⟩, ?_, h8, hl⟩
  · rw [heap_setCell_same w' c.gu 1 _ _ _ e1]; rfl
  · injection e with e
    exact Below.heap_setCell _ _ _ _ (fun x => by
      have : k = c.gu := x
      have e' : g = k := e
      omega)
  · exact h5.ch hC (fun x => by
      rcases x with x | x
      · omega
      · have := (hob _ x).1; omega) fun k hk x => by
        rcases x with x | x
        · omega
        · have := (hob _ x).1; omega
/-- The unpacker's cells, behind an append. -/
theorem UAt.grown {c : Cx} {w wa w' : World} {ob : Option Nat} {p : Nat} {o : List Int} (h : UAt c w ob p o) (hwa : Below w.heap.size w wa) (hg : wa.grownBy w' ob) : w'.heap[c.gu]? = w.heap[c.gu]? := by
  have hgu := h.gu
  have hob := h.ob
  exact (hg.block _ (Nat.lt_of_lt_of_le hgu hwa.size) (fun e => by have := (hob _ e.symm).1; omega)).trans (hwa.block _ hgu)
theorem info8 : (Tryd.prog.info? 5).map (fun i => (i.zero, i.size, i.bytes)) = some (some (.int .u8 0), 1, 1) := by kernel_rfl
theorem Byte8.one {x : Int} (h0 : 0 ≤ x) (h1 : x ≤ 255) : Byte8 [x] := byte8_of _ fun y hy => by simp at hy; omega
set_option maxHeartbeats 1600000 in
theorem put_u (c : Cx) (w : World) (ob : Option Nat) (p : Nat) (o : List Int) (x : Nat) (hx : x ≤ 255) (h : UAt c w ob p o) :
    Calls Tryd.prog 26 #[.pointer (some ⟨c.gu, 0, none⟩), .int .u8 (x : Nat)] w (GaveO c w ob (putM c.lim x p o)) := by
  have hlim := c.hlim
  have hlo := h.lim
  by_cases hl : o.length < c.lim
  · have HR := Lib.hid (room_u c w ob p o 1 (by omega) h true (by rw [eq_comm, decide_eq_true_iff]; omega))
    have HP : Hid (putM c.lim x p o = .ok (o ++ [(x : Int)], p)) := Lib.hid (if_pos hl)
    have HU := Lib.hid (fun u (hu : Below w.heap.size w u) => h.below hu)
    have HN := Lib.hid (fun u (hu : Below w.heap.size w u) => Mv.new (c := c) (ob := ob) hu)
    clear h
    go_enter Tryd.func26, Tryd.ntmps26
    go_wp2_with fail
    refine HR.out.mono ?_
    rintro e w1 ⟨rfl, hb1⟩
    have h1 := HU.out w1 hb1
    have HM1 := Lib.hid (HN.out w1 hb1)
    have HU1 := Lib.hid h1
    obtain ⟨v, fs, fd, c0, c1, c2, _, _, hv, hO, _⟩ := h1.cells
    have f1 := h1.frozen 1
    have hgu := h1.gu
    have hob := h1.ob
    obtain ⟨A, cap, rfl, hcap, hmax⟩ := own_slice hO
    obtain ⟨i0, hi, hz0, hz1, hz2⟩ := info_parts info8
    have HO := Lib.hid hO
    have h8 : Byte8 (o ++ [(x : Int)]) := h1.by8.app (Byte8.one (by omega) (by omega))
    have HS := Lib.hid (fun (u : World) (hu : u.heap[c.gu]? = w1.heap[c.gu]?) => show u.cell? ⟨c.gu, 1, none⟩ = some (.slice A o.length cap) ∧ u.frozen? ⟨c.gu, 1, none⟩ = false from
      ⟨(World.cell?_of_block (a := ⟨c.gu, 1, none⟩) hu).trans c1, (World.frozen?_of_block (a := ⟨c.gu, 1, none⟩) hu).trans f1⟩)
    have HG := Lib.hid (fun (u : World) (hu : (w1.alloc (.cells #[.int .u8 (x : Nat)] 5)).grownBy u ob) => HU1.out.grown (bnew w1 _) hu)
    have HE := Lib.hid (fun (u : World) (g cap2 : Nat) (hu : (w1.alloc (.cells #[.int .u8 (x : Nat)] 5)).grownBy u ob)
      (hr : u.ownsRow (c.gu + 1) 5 1 (.slice (some ⟨g, 0, none⟩) (o.length + 1) cap2) (o.length + 1) (o.map u8I ++ [.int .u8 (x : Nat)])) (hat : ob = some g ∨ w1.heap.size ≤ g) (hlt : g < u.heap.size) =>
      show GaveO c w ob (putM c.lim x p o) (.returned (.int .i64 0)) (u.setCell ⟨c.gu, 1, none⟩ (.slice (some ⟨g, 0, none⟩) (o.length + 1) cap2)) from by
        obtain ⟨k1, k2⟩ := HU1.out.grow (o2 := o ++ [(x : Int)]) (bnew w1 _) hu (by rw [List.map_append]; exact hr) (by simp) hat hlt h8 (by simp; omega)
        exact Or.inl ⟨_, p, some g, HP.out, rfl, k1, HM1.out.then k2⟩)
    clear h1 hb1 HU HN HR hO h8 HU1 HM1
    go_wp2_with (first
      | (at_builtin
         refine wpList_append_lies _ rfl _ _ _ rfl (c.gu + 1) 5 i0 _ 1 1 Tryd.underlying22 hi hz0 hz1 hz2 rfl (by decide) _ o.length _ rfl (HO.out.alloc (.cells #[.int .u8 (x : Nat)] 5)) ⟨w1.heap.size, 0, none⟩ 1 1 [.int .u8 (x : Nat)] rfl rfl (cell_one_new _ _ _) (by intro u hu; simp at hu; subst hu; rfl) (by decide) (by unfold maxLen; omega) (by omega) (by simp; omega) _ rfl ?_
         intro g cap2 w2 k1 k2 k3 k4
         have k2' : (w1.alloc (.cells #[.int .u8 (x : Nat)] 5)).grownBy w2 ob := by rw [← hv]; exact k2
         have k3' : ob = some g ∨ w1.heap.size ≤ g := by
           rcases k3 with k3 | k3
           · exact Or.inl (by rw [← hv]; exact k3)
           · exact Or.inr (by rw [k3]; simp)
         have HR := Lib.hid (HE.out w2 g cap2 k2' k1 k3' k4)
         obtain ⟨d1, d2⟩ := HS.out w2 (HG.out w2 k2')
         clear k1 k2 k3 k4 k2' k3' c1 f1))
    go_ret
    exact HR.out
  · have HR := Lib.hid (room_u c w ob p o 1 (by omega) h false (by rw [eq_comm, decide_eq_false_iff_not]; omega))
    have HB := Lib.hid (fun u (hu : Below w.heap.size w u) => h.newBelow hu)
    have HP : Hid (putM c.lim x p o = .error 8) := Lib.hid (if_neg hl)
    clear h
    go_enter Tryd.func26, Tryd.ntmps26
    go_wp2_with fail
    refine HR.out.mono ?_
    rintro e w1 ⟨rfl, hb1⟩
    have HE : Hid (GaveO c w ob (putM c.lim x p o) (.returned (.int .i64 8)) w1) := Lib.hid (Or.inr ⟨8, HP.out, by omega, rfl, HB.out w1 hb1⟩)
    clear hb1
    go_wp2_with fail
    go_ret
    exact HE.out

end Go.Proofs.YtifkldllhbcmkaaDoor
