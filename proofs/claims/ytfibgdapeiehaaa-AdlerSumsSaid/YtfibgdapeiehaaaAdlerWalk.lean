/- adler's calls: their contracts. -/
import Derived.Test.YtfibgdapeiehaaaAdlerMath
import Derived.Test.YtfibgdapeiehaaaBytes
import Derived.Test.YtfibgdapeiehaaaProg
import Derived.Deep.QuietTactic
import Derived.BigQuiet
import Derived.RegionTactic
import Derived.ChangeAlike
import Derived.LoopTactic
import Derived.Lib.Hide
namespace Go.Proofs.Ytfibgdapeiehaaa
open Go.RowKit

/-- A sum in block g. -/
def SumRow (w : World) (g : Nat) (a s : Int) : Prop := w.heap[g]? = some (.cells #[.int .u32 a, .int .u32 s] 30 (0, 0))
structure SumIs (a s : Int) (p : Int × Int) : Prop where
  a0 : 0 ≤ a
  a1 : a < 65521
  s0 : 0 ≤ s
  s1 : s < 65521
  x : (a + 1) % 65521 = p.1
  y : s = p.2
def SumAt (w : World) (g : Nat) (p : Int × Int) : Prop := ∃ a s, SumRow w g a s ∧ SumIs a s p
theorem SumRow.lt {w : World} {g : Nat} {a s : Int} (h : SumRow w g a s) : g < w.heap.size := (Array.getElem?_eq_some_iff.1 h).1
theorem SumRow.c0 {w : World} {g : Nat} {a s : Int} (h : SumRow w g a s) : w.cell? ⟨g, 0, none⟩ = some (.int .u32 a) := cell_of_row w g 0 _ _ (0, 0) h
theorem SumRow.c1 {w : World} {g : Nat} {a s : Int} (h : SumRow w g a s) : w.cell? ⟨g, 1, none⟩ = some (.int .u32 s) := cell_of_row w g 1 _ _ (0, 0) h
theorem SumRow.free {w : World} {g : Nat} {a s : Int} (h : SumRow w g a s) (j : Nat) : w.frozen? ⟨g, j, none⟩ = false := frozen_of_row w g j _ _ h
theorem SumRow.set {w : World} {g : Nat} {a s : Int} (h : SumRow w g a s) (b t : Int) : SumRow ((w.setCell ⟨g, 0, none⟩ (.int .u32 b)).setCell ⟨g, 1, none⟩ (.int .u32 t)) g b t := by
  unfold SumRow
  rw [heap_setCell_same _ g 1 _ _ _ (heap_setCell_same w g 0 _ _ _ h)]
  rfl
theorem SumAt.lt {w : World} {g : Nat} {p : Int × Int} (h : SumAt w g p) : g < w.heap.size := by obtain ⟨a, s, h, _⟩ := h; exact h.lt
theorem SumAt.block {w w' : World} {g : Nat} {p : Int × Int} (h : SumAt w g p) (hb : w'.heap[g]? = w.heap[g]?) : SumAt w' g p := by
  obtain ⟨a, s, h, k⟩ := h
  exact ⟨a, s, hb.trans h, k⟩
theorem SumAt.below {w w' : World} {g : Nat} {p : Int × Int} (h : SumAt w g p) (hb : Below w.heap.size w w') : SumAt w' g p := h.block (hb.block g h.lt)
theorem SumAt.new (w : World) : SumAt (w.alloc (.cells #[.int .u32 0, .int .u32 0] 30)) w.heap.size (1, 0) := ⟨0, 0, heap_alloc_new w _, by omega, by omega, by omega, by omega, by decide, rfl⟩
/-- Within a piece: k bytes were added. -/
structure Pc (p : Int × Int) (l : List Int) (k : Nat) (x y : Int) : Prop where
  x0 : 0 ≤ x
  x1 : x ≤ 65520 + 255 * k
  y0 : 0 ≤ y
  y1 : 2 * y ≤ 131040 + 131042 * (k : Int) + 255 * ((k * (k + 1) : Nat) : Int)
  ex : (x + 1) % 65521 = (adF p (l.take k)).1
  ey : y % 65521 = (adF p (l.take k)).2
theorem Pc.start {p : Int × Int} {a s : Int} (h : SumIs a s p) (l : List Int) : Pc p l 0 a s := by
  obtain ⟨h1, h2, h3, h4, h5, h6⟩ := h
  refine ⟨h1, by omega, h3, by omega, ?_, ?_⟩
  · rw [List.take_zero, adF_nil]; exact h5
  · rw [List.take_zero, adF_nil]; omega
theorem Pc.sq (k : Nat) (h : k ≤ 4096) : k * (k + 1) ≤ 16781312 := Nat.le_trans (Nat.mul_le_mul h (Nat.add_le_add_right h 1)) (by decide)
theorem Pc.next {p : Int × Int} {l : List Int} {k : Nat} {x y : Int} (h : Pc p l k x y) (hk : k < l.length) (hb : Byte8 l) : Pc p l (k + 1) (x + gI l k) (y + (x + gI l k + 1)) := by
  obtain ⟨h1, h2, h3, h4, h5, h6⟩ := h
  have hg := hb k
  have ht := take_gI l k hk
  have hs : adF p (l.take (k + 1)) = adP (adF p (l.take k)) (gI l k) := by rw [ht, adF_snoc]
  have e : (k + 1) * (k + 1 + 1) = k * (k + 1) + 2 * (k + 1) := by
    rw [Nat.mul_comm (k + 1), Nat.add_mul, Nat.one_mul, Nat.add_mul, Nat.one_mul]; omega
  refine ⟨by omega, by omega, by omega, ?_, ?_, ?_⟩
  · rw [e]; generalize k * (k + 1) = q at *; omega
  · rw [hs]; unfold adP; dsimp only; omega
  · rw [hs]; unfold adP; dsimp only; omega

/-- What 'addPiece' and 'Add' leave. -/
def Added (w : World) (g : Nat) (p : Int × Int) (e : Ending) (w' : World) : Prop := e = .returned (.tuple #[]) ∧ SumAt w' g p ∧ Ch (fun k => k = g) w w'
theorem Added.mk {w : World} {g : Nat} {a s b t : Int} {p q : Int × Int} (h : SumRow w g a s) (k : SumIs b t q) (m : Nat) (e : q = p) :
    Added w g p (.returned (.tuple #[])) (((w.drewN m).setCell ⟨g, 0, none⟩ (.int .u32 b)).setCell ⟨g, 1, none⟩ (.int .u32 t)) := by
  subst e
  have hs : SumRow (w.drewN m) g a s := h
  have hc : Ch (fun k => k = g) w (w.drewN m) := Ch.of_below (bdrawn (Below.refl _ _) m)
  exact ⟨rfl, ⟨b, t, hs.set b t, k⟩, (hc.then ((Ch.set (F := fun k => k = g) _ g 0 _ rfl).then (Ch.set (F := fun k => k = g) _ g 1 _ rfl)))⟩
theorem Pc.done {p : Int × Int} {l : List Int} {k : Nat} {x y : Int} (h : Pc p l k x y) (hk : k = l.length) : SumIs (x % 65521) (y % 65521) (adF p l) := by
  obtain ⟨h1, h2, h3, h4, h5, h6⟩ := h
  rw [hk, List.take_length] at h5 h6
  exact ⟨by omega, by omega, by omega, by omega, by omega, h6⟩
set_option maxHeartbeats 1600000 in
theorem addPiece_any (g : Nat) (A : Option Addr) (n cap : Nat) (l : List Int) (p : Int × Int) (w : World) (h : SumAt w g p) (hl : BAt8 (fun k => k ≠ g) w A n cap l) (hn : n ≤ 4096) :
    Calls Try.prog 11 #[.pointer (some ⟨g, 0, none⟩), .slice A n cap] w (Added w g (adF p l)) := by
  obtain ⟨a, s, hr, hi⟩ := h
  have c0 := hr.c0
  have c1 := hr.c1
  have f0 := hr.free 0
  have f1 := hr.free 1
  have HS := Lib.hid (Pc.start hi l)
  have HL := Lib.hid hl
  have HR := Lib.hid hr
  clear hr hi hl
  go_enter Try.func11, Try.ntmps11
  go_wp2_with fail
  go_quiet (fail)
  go_wp2_with fail
  go_loop [4, 5, 18] (fun x y i => ∃ (k : Nat) (u v : Int), i = .int .i64 k ∧ k ≤ n ∧ x = .int .u32 u ∧ y = .int .u32 v ∧ Hid (Pc p l k u v)) (fun _ _ i => n - (intOf i).toNat)
  case atStart => exact ⟨0, _, _, rfl, by omega, rfl, rfl, HS⟩
  case round =>
    obtain ⟨k, u, v, rfl, hk, rfl, rfl, HK⟩ := hrel
    have hx1 := HK.out.x0
    have hx2 := HK.out.x1
    have hy1 := HK.out.y0
    have hy2 : v ≤ 2500000000 := by
      have := HK.out.y1
      have := Pc.sq k (by omega)
      generalize k * (k + 1) = q at *
      omega
    by_cases hlt : k < n
    · obtain ⟨b, o, rfl, hb, hbl, hc⟩ := HL.out.lies (by omega)
      have c := hc k hlt
      have hbd := HL.out.bd k
      have HN := Lib.hid (HK.out.next (by rw [HL.out.len]; omega) HL.out.bd)
      generalize gI l k = x at *
      clear HK hc
      go_wp2_with fail
      go_round
      case rel => exact ⟨k + 1, _, _, by go_num, by omega, rfl, rfl, HN⟩
      case measure => simp [intOf]; omega
    · have HD := Lib.hid (HK.out.done (by rw [HL.out.len]; omega))
      clear HK
      go_wp2_with fail
      go_end0
      exact (Added.mk HR.out HD.out _ rfl)

end Go.Proofs.Ytfibgdapeiehaaa
