/- New of the document's board: its contract. -/
import Derived.Test.YtkcfacbnbjkheaaDoorDocNext
namespace Go.Proofs.YtkcfacbnbjkheaaDoor
open Go.RowKit
set_option maxRecDepth 100000

def docBuild (p : Array (Nat × Value)) : Sem Value := Instr.build 49 p
theorem docBuild_as (p : Array (Nat × Value)) : Instr.build 49 p = docBuild p := rfl
theorem dset_ph (s : St) (ph f : Int) (vd ea ee : Value) : upd (dC s ph vd ea ee) 65540 (.int .i64 f) = dC s f vd ea ee := by
  funext j
  by_cases e : j = 65540
  · subst e
    rfl
  · simp only [upd, if_neg e, dC]
theorem run_docBuild (f : Int) : ∃ A : Array Value, A.size = 77842 ∧ (∀ j, j < 77842 → A[j]? = some (dC zeroS f nilV nilV nilV j)) ∧ ∀ u, (docBuild #[(5, .int .i64 f)]).run Tryd.prog u = .ok (.agg A) u := by
  obtain ⟨i, A, h1, h2, h3, h4⟩ := docZero
  have hb := built_one Tryd.prog 49 _ i A [(0, 1), (1, 65536), (65537, 1), (65538, 1), (65539, 1), (65540, 1), (65541, 1), (65542, 1), (65543, 1), (65544, 1), (65545, 1), (65546, 1), (65547, 1), (65548, 1), (65549, 1), (65550, 1), (65551, 1), (65552, 12288), (77840, 1), (77841, 1)] 5 65540 (.int .i64 f) h1 Tryd.underlying49 h2 (by kernel_rfl) rfl rfl (by omega)
  refine ⟨A.setIfInBounds 65540 (.int .i64 f), by simpa using h3, fun j hj => ?_, fun u => run_build u _ _ _ hb⟩
  rw [← dset_ph zeroS 0 f nilV nilV nilV]
  unfold upd
  by_cases e : 65540 = j
  · subst e
    rw [Array.getElem?_setIfInBounds_self_of_lt (by omega), if_pos rfl]
  · rw [Array.getElem?_setIfInBounds_ne e, if_neg (fun x => e x.symm), h4 j hj]
attribute [local simp ↓ high] docBuild_as

/-- The memory while it is filled. -/
def fillM (r m : Nat → Int) (k l : Nat) : Nat → Int := fun i => if i < k then r i else if 16384 ≤ i ∧ i < 16384 + l then m (i - 16384) else 0
def fillS (r m : Nat → Int) (k l : Nat) : St := { zeroS with M := fillM r m k l }
theorem fill_rom (r m : Nat → Int) (k : Nat) : ({ fillS r m k 0 with M := updN (fillS r m k 0).M k (r k) } : St) = fillS r m (k + 1) 0 := by
  have e : updN (fillM r m k 0) k (r k) = fillM r m (k + 1) 0 := by
    funext i
    unfold updN fillM
    by_cases c : i = k
    · rw [if_pos c, if_pos (by omega), c]
    · rw [if_neg c]
      by_cases d : i < k
      · rw [if_pos d, if_pos (by omega)]
      · rw [if_neg d, if_neg (by omega), if_neg (by omega)]
  show ({ fillS r m k 0 with M := updN (fillM r m k 0) k (r k) } : St) = _
  rw [e]; rfl
theorem fill_ram (r m : Nat → Int) (l : Nat) : ({ fillS r m 16384 l with M := updN (fillS r m 16384 l).M (16384 + l) (m l) } : St) = fillS r m 16384 (l + 1) := by
  have e : updN (fillM r m 16384 l) (16384 + l) (m l) = fillM r m 16384 (l + 1) := by
    funext i
    unfold updN fillM
    by_cases c : i = 16384 + l
    · rw [if_pos c, if_neg (by omega), if_pos ⟨by omega, by omega⟩, c, Nat.add_sub_cancel_left]
    · rw [if_neg c]
      by_cases d : i < 16384
      · rw [if_pos d, if_pos d]
      · rw [if_neg d, if_neg d]
        by_cases f : i < 16384 + l
        · rw [if_pos ⟨by omega, f⟩, if_pos ⟨by omega, by omega⟩]
        · rw [if_neg (by omega), if_neg (by omega)]
  show ({ fillS r m 16384 l with M := updN (fillM r m 16384 l) (16384 + l) (m l) } : St) = _
  rw [e]; rfl
theorem fill_new (r m : Nat → Int) (l : Nat) (f : Int) (vd ea ee : Value) (j : Nat) : dC (fillS r m 16384 l) f vd ea ee j = dC (newS r m l f) f vd ea ee j := by
  unfold dC
  have e : (fillS r m 16384 l).M = (newS r m l f).M := by
    funext i
    show fillM r m 16384 l i = _
    unfold fillM
    show _ = if i < 16384 then r i else if i - 16384 < l then m (i - 16384) else 0
    by_cases c : i < 16384
    · rw [if_pos c, if_pos c]
    · rw [if_neg c, if_neg c]
      by_cases d : i - 16384 < l
      · rw [if_pos d, if_pos ⟨by omega, by omega⟩]
      · rw [if_neg d, if_neg (by omega)]
  rw [e]
  rfl
/-- The board while it is filled. -/
structure Fill (w wr : World) (x : Nat) (s : St) (f : Int) : Prop where
  cells : Cells wr x 49 77842 (dC s f nilV nilV nilV)
  lo : w.heap.size ≤ x
  bel : Below w.heap.size w wr
theorem Fill.set {w wr : World} {x : Nat} {s : St} {f : Int} (h : Fill w wr x s f) (a : Nat) (v : Int) (ha : a < 65536) : Fill w (wr.setCell ⟨x, 1 + a, none⟩ (.int .u8 v)).drew x { s with M := updN s.M a v } f := by
  have h1 := h.cells.set (1 + a) (.int .u8 v)
  rw [dset_M _ _ _ _ _ _ _ ha] at h1
  exact ⟨h1.block rfl, h.lo, (below_set h.bel _ _ _ h.lo).drew⟩

set_option maxHeartbeats 3200000 in
theorem dnew_any (rp mp : Option Addr) (rc ml mc : Nat) (r m : Nat → Int) (ph : Int) (w : World) (hr : SrcAt w rp 16384 r) (hs : SrcAt w mp ml m) (hm : ml ≤ 49152) :
    Calls Tryd.prog 9 #[.slice rp 16384 rc, .slice mp ml mc, .int .i64 ph] w fun e w' => e = .returned (.pointer (some ⟨w.heap.size, 0, none⟩)) ∧ DAt w' w.heap.size w.heap.size (newS r m ml (frameV ph)) (frameV ph) nilV nilV nilV [] ∧ Below w.heap.size w w' := by
  obtain ⟨A, hA, hAc, hbuild⟩ := run_docBuild (frameV ph)
  obtain ⟨p0, p1⟩ := frameV_bd ph
  have HC0 := Lib.hid (Cells.new w A 49 77842 _ hA hAc)
  have HF0 := Lib.hid (show Fill w (w.alloc (.cells A 49)) w.heap.size (fillS r m 0 0) (frameV ph) from ⟨HC0.out.congr fun j _ => by
    have e : fillS r m 0 0 = zeroS := by
      have : fillM r m 0 0 = fun _ => 0 := by
        funext i
        show (if i < 0 then r i else if 16384 ≤ i ∧ i < 16384 + 0 then m (i - 16384) else 0) = 0
        rw [if_neg (Nat.not_lt_zero i), if_neg (fun h => by omega)]
      unfold fillS; rw [this]; rfl
    rw [e], Nat.le_refl _, balloc w _⟩)
  have HF := Lib.hid (refFrame_any ph w)
  have HR := Lib.hid hr
  have HS := Lib.hid hs
  have hml : (ml : Int) ≤ 49152 := by omega
  obtain ⟨x, hx⟩ : ∃ x, w.heap.size = x := ⟨_, rfl⟩
  have hfn : frameV ph = frameV (0 + frameV ph) := by unfold frameV; omega
  have HFN := Lib.hid hfn
  generalize frameV ph = f at *
  clear hA hAc hr hs HC0 hfn
  go_enter Tryd.func9, Tryd.ntmps9
  go_wp2_with fail
  refine (HF.out).mono ?_
  rintro e w' ⟨rfl, rfl⟩
  go_wp2_with fail
  go_loopw [8] (fun i wr => ∃ k : Nat, i = .int .i64 k ∧ k ≤ 16384 ∧ Hid (Fill w wr x (fillS r m k 0) f)) (fun i _ => (16384 - intOf i).toNat)
  case atStart => exact ⟨0, rfl, by omega, by rw [← hx]; exact HF0⟩
  case round =>
    obtain ⟨k, rfl, hk, HK⟩ := hrel
    by_cases hlt : k < 16384
    · obtain ⟨g, o, rfl, hg, hc⟩ := HR.out (by decide)
      have c1 := (HK.out.bel.cell (p := ⟨g, o + k, none⟩) hg).trans (hc k hlt)
      have c2 : wr.cell? ⟨x, 1 + k, none⟩ = some (.int .u8 ((fillS r m k 0).M k)) := by rw [HK.out.cells.cell _ (by omega), dC_M _ _ _ _ _ _ (by omega)]
      have f2 := HK.out.cells.frozen (1 + k)
      have i1 : decide ((k : Int) < 16384) = true := decide_eq_true (by omega)
      have i2 : (k : Int) < 65536 := by omega
      have i3 : (0 : Int) ≤ (k : Int) := by omega
      have i4 : (k : Int) < 16384 := by omega
      have hgx : g ≠ x := by omega
      have hk2 : (wr.setCell ⟨x, 1 + k, none⟩ (.int .u8 (r k))).cell? ⟨g, o + k, none⟩ = some (.int .u8 (r k)) := by
        rw [World.cell?_setCell_other _ _ _ _ (by intro hh; injection hh with h1 _; exact hgx h1.symm)]; exact c1
      have HN := Lib.hid (by have := HK.out.set k (r k) (by omega); rwa [fill_rom r m k] at this)
      clear hc hlt HF0 hx hg
      go_wp2_with fail
      go_region_held3 (fun w' => w'.cell? ⟨g, o + k, none⟩ = some (.int .u8 (r k))) (first | exact hk2 | go_keep) (fail)
      clear c1 c2 f2 hk2
      go_wp2_with fail
      go_roundw
      case rel => exact ⟨k + 1, by go_num, by omega, HN⟩
      case measure => simp [intOf]; omega
    · have hk16 : k = 16384 := by omega
      have i1 : decide ((k : Int) < 16384) = false := decide_eq_false (by omega)
      rw [hk16] at HK
      clear hk16
      obtain ⟨wq, rfl⟩ : ∃ wq : World, wq = wr := ⟨_, rfl⟩
      clear hlt hk
      go_wp2_with fail
      clear i1
      go_loopw [9] (fun i wr => ∃ l : Nat, i = .int .i64 l ∧ l ≤ ml ∧ Hid (Fill w wr x (fillS r m 16384 l) f)) (fun i _ => (ml - intOf i).toNat)
      case atStart => exact ⟨0, rfl, by omega, HK⟩
      case round =>
        obtain ⟨l, rfl, hl, HL⟩ := hrel
        clear HK
        by_cases hlt : l < ml
        · obtain ⟨g, o, rfl, hg, hc⟩ := HS.out (by omega)
          have c1 := (HL.out.bel.cell (p := ⟨g, o + l, none⟩) hg).trans (hc l hlt)
          obtain ⟨q, hq⟩ : ∃ q, 16384 + l = q := ⟨_, rfl⟩
          have hqi : (16384 : Int) + (l : Int) = (q : Int) := by omega
          have c2 : wr.cell? ⟨x, 1 + q, none⟩ = some (.int .u8 ((fillS r m 16384 l).M q)) := by rw [HL.out.cells.cell _ (by omega), dC_M _ _ _ _ _ _ (by omega)]
          have f2 := HL.out.cells.frozen (1 + q)
          have i1 : decide ((l : Int) < (ml : Int)) = true := decide_eq_true (by omega)
          have i2 : (q : Int) < 65536 := by omega
          have i6 : IntKind.i64.wrap (16384 + (l : Int)) = (q : Int) := by rw [IntKind.wrap_i64]; omega
          clear hqi
          have i3 : (0 : Int) ≤ (l : Int) := by omega
          have i5 : (0 : Int) ≤ (q : Int) := by omega
          have i4 : (l : Int) < (ml : Int) := by omega
          have hgx : g ≠ x := by omega
          have hk2 : (wr.setCell ⟨x, 1 + q, none⟩ (.int .u8 (m l))).cell? ⟨g, o + l, none⟩ = some (.int .u8 (m l)) := by
            rw [World.cell?_setCell_other _ _ _ _ (by intro hh; injection hh with h1 _; exact hgx h1.symm)]; exact c1
          have HN := Lib.hid (by have := HL.out.set (16384 + l) (m l) (by omega); rw [fill_ram r m l, hq] at this; exact this)
          clear hc hlt HF0 hx hg HL
          go_wp2_with fail
          go_region_held3 (fun w' => w'.cell? ⟨g, o + l, none⟩ = some (.int .u8 (m l))) (first | exact hk2 | go_keep) (fail)
          clear c1 c2 f2 hk2
          go_wp2_with fail
          go_roundw
          case rel => exact ⟨l + 1, by go_num, by omega, HN⟩
          case measure => simp [intOf]; omega
        · obtain rfl : l = ml := by omega
          clear hlt hl HF0 hml
          go_wp2_with fail
          go_ret
          refine ⟨by rw [hx]; rfl, ⟨?_, by omega, World.ownsRow_nil _ _ _ _, World.ownsRow_nil _ _ _ _, RowI.nil _ _, fun _ h => absurd h (by simp), Lst.nil, HFN.out, p0, p1⟩, HL.out.bel⟩
          rw [hx]
          exact HL.out.cells.congr fun j _ => fill_new r m l f _ _ _ j

end Go.Proofs.YtkcfacbnbjkheaaDoor
