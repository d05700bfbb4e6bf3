/- op.target, loadText: their contracts; an instruction and a code's parts in boxes. -/
import Derived.Test.YtkjibnnoeceaeaaDoorOpText2
import Derived.Deep.DeepCutAuto
namespace Go.Proofs.YtkjibnnoeceaeaaDoor
open Go.RowKit

/-- The place that a distance leads to. -/
def tgtN (x : In) (pc : Nat) : Nat := (plusW (((pc : Int) + x.len) % 65536) ((x.n : Int) % 256)).toNat
theorem tgtN_lt (x : In) (pc : Nat) : tgtN x pc < 65536 := by
  have := plusW_bd (((pc : Int) + x.len) % 65536) ((x.n : Int) % 256)
  unfold tgtN; omega
theorem tgtN_int (x : In) (pc : Nat) : plusW (((pc : Int) + x.len) % 65536) ((x.n : Int) % 256) = (tgtN x pc : Int) := by
  have := plusW_bd (((pc : Int) + x.len) % 65536) ((x.n : Int) % 256)
  unfold tgtN; omega

theorem wordT (x : In) (tt : Nat) (w : World) (h : OpTab w) (ok : x.Ok) : Calls Tryd.prog 57 #[.int .u16 x.n] w fun e w' => e = .returned (.string (txt (x.en tt) [.w4])) ∧ Below w.heap.size w w' := by
  rw [txt_w4]; exact opWord x.n w h ok.n
theorem octT (x : In) (tt : Nat) (w : World) (h : OpTab w) : Calls Tryd.prog 59 #[.int .u16 x.n] w fun e w' => e = .returned (.string (txt (x.en tt) [.n2])) ∧ Below w.heap.size w w' := by
  rw [txt_n2]; exact opOct x.n w h
theorem wordIs (n : Int) (m : Nat) (w : World) (h : OpTab w) (hm : n = (m : Int)) (hn : m < 65536) : Calls Tryd.prog 57 #[.int .u16 n] w fun e w' => e = .returned (.string (strL (wordL m))) ∧ Below w.heap.size w w' := by
  subst hm; exact opWord m w h hn

theorem wrapL (pc : Nat) (l : Int) : IntKind.u16.wrap ((pc : Int) + IntKind.u16.wrap l) = ((pc : Int) + l) % 65536 := by
  simp [IntKind.wrap, IntKind.bits, IntKind.signed]
set_option maxHeartbeats 800000 in
theorem opTgt (x : In) (pc : Nat) (w : World) (h : OpTab w) : Calls Tryd.prog 67 #[.agg x.arr, .int .u16 pc] w fun e w' => e = .returned (.string (txt (x.en (tgtN x pc)) [.e4])) ∧ Below w.heap.size w w' := by
  have H := Lib.hid h
  clear h
  have wl := wrapL pc x.len
  have HW := Lib.hid (fun w h => wordIs _ _ w h (tgtN_int x pc) (tgtN_lt x pc))
  have n0 : 0 ≤ (x.n : Int) % 256 := by omega
  have n1 : (x.n : Int) % 256 ≤ 255 := by omega
  rw [txt_e4]
  unfold In.arr
  go_enter Tryd.func67, Tryd.ntmps67
  go_wp2_with fail
  refine (loO _ _).mono ?_
  rintro e w' ⟨rfl, rfl⟩
  go_wp2_with fail
  refine (plusO _ _ _ n0 n1).mono ?_
  rintro e w' ⟨rfl, rfl⟩
  go_wp2_with fail
  refine (HW.out _ (H.out.alloc _)).mono ?_
  rintro e w1 ⟨rfl, hb1⟩
  go_wp2_with fail
  go_ret
  exact ⟨rfl, below_step (balloc w _) hb1⟩

set_option maxHeartbeats 800000 in
theorem opLoad (E : En) (what place : List Tk) (q : Int) (w : World) (hd : E.d < 256) (q0 : 0 ≤ q) (q1 : q ≤ 1) (h1 : what.length ≤ 10) (h2 : place.length ≤ 10) : Calls Tryd.prog 65 #[.string (txt E what), .string (txt E place), .int .u8 q] w fun e w' => e = .returned (.string (txt E (loadT what place q.toNat))) ∧ w = w' := by
  have s1 := txt_le E what 100 hd (by omega)
  have s2 := txt_le E place 100 hd (by omega)
  have e : q = 0 ∨ q = 1 := by omega
  clear q0 q1 h1 h2 hd
  rcases e with rfl | rfl
  · have HZ := Lib.hid (show (⟨#[108, 100, 32, 40]⟩ : ByteArray) ++ txt E place ++ ⟨#[41, 44]⟩ ++ txt E what = txt E (loadT what place 0) by
      rw [txt_arr E #[108, 100, 32, 40], txt_arr E #[41, 44], txt_app, txt_app, txt_app]; rfl)
    go_enter Tryd.func65, Tryd.ntmps65
    go_wp2_with fail
    go_ret
    exact ⟨by rw [show Int.toNat 0 = 0 from rfl, ← HZ.out]; rfl, rfl⟩
  · have HZ := Lib.hid (show (⟨#[108, 100, 32]⟩ : ByteArray) ++ txt E what ++ ⟨#[44, 40]⟩ ++ txt E place ++ ⟨#[41]⟩ = txt E (loadT what place 1) by
      rw [txt_arr E #[108, 100, 32], txt_arr E #[44, 40], txt_arr E #[41], txt_app, txt_app, txt_app, txt_app]; rfl)
    go_enter Tryd.func65, Tryd.ntmps65
    go_wp2_with fail
    go_ret
    exact ⟨by rw [show Int.toNat 1 = 1 from rfl, ← HZ.out]; rfl, rfl⟩

/-- An instruction and a code's parts in two boxes of the call's own. -/
structure TwoAt (w : World) (x : In) (a b c d e : Int) (u : World) : Prop where
  i0 : u.cell? ⟨w.heap.size, 0, none⟩ = some (.int .i64 x.set)
  i1 : u.cell? ⟨w.heap.size, 1, none⟩ = some (.int .i64 x.ix)
  i2 : u.cell? ⟨w.heap.size, 2, none⟩ = some (.int .u8 x.code)
  i3 : u.cell? ⟨w.heap.size, 3, none⟩ = some (.int .u8 x.d)
  i4 : u.cell? ⟨w.heap.size, 4, none⟩ = some (.int .u16 x.n)
  i5 : u.cell? ⟨w.heap.size, 5, none⟩ = some (.int .i64 x.len)
  p0 : u.cell? ⟨w.heap.size + 1, 0, none⟩ = some (.int .u8 a)
  p1 : u.cell? ⟨w.heap.size + 1, 1, none⟩ = some (.int .u8 b)
  p2 : u.cell? ⟨w.heap.size + 1, 2, none⟩ = some (.int .u8 c)
  p3 : u.cell? ⟨w.heap.size + 1, 3, none⟩ = some (.int .u8 d)
  p4 : u.cell? ⟨w.heap.size + 1, 4, none⟩ = some (.int .u8 e)
  lt : w.heap.size + 1 < u.heap.size
  tab : OpTab u
  below : Below w.heap.size w u
theorem TwoAt.later {w : World} {x : In} {a b c d e : Int} {u u' : World} (h : TwoAt w x a b c d e u) (hb : Below u.heap.size u u') : TwoAt w x a b c d e u' where
  i0 := (hb.cell (p := ⟨w.heap.size, 0, none⟩) (Nat.lt_of_succ_lt h.lt)).trans h.i0
  i1 := (hb.cell (p := ⟨w.heap.size, 1, none⟩) (Nat.lt_of_succ_lt h.lt)).trans h.i1
  i2 := (hb.cell (p := ⟨w.heap.size, 2, none⟩) (Nat.lt_of_succ_lt h.lt)).trans h.i2
  i3 := (hb.cell (p := ⟨w.heap.size, 3, none⟩) (Nat.lt_of_succ_lt h.lt)).trans h.i3
  i4 := (hb.cell (p := ⟨w.heap.size, 4, none⟩) (Nat.lt_of_succ_lt h.lt)).trans h.i4
  i5 := (hb.cell (p := ⟨w.heap.size, 5, none⟩) (Nat.lt_of_succ_lt h.lt)).trans h.i5
  p0 := (hb.cell (p := ⟨w.heap.size + 1, 0, none⟩) h.lt).trans h.p0
  p1 := (hb.cell (p := ⟨w.heap.size + 1, 1, none⟩) h.lt).trans h.p1
  p2 := (hb.cell (p := ⟨w.heap.size + 1, 2, none⟩) h.lt).trans h.p2
  p3 := (hb.cell (p := ⟨w.heap.size + 1, 3, none⟩) h.lt).trans h.p3
  p4 := (hb.cell (p := ⟨w.heap.size + 1, 4, none⟩) h.lt).trans h.p4
  lt := Nat.lt_of_lt_of_le h.lt hb.size
  tab := h.tab.below hb
  below := below_step h.below hb
theorem TwoAt.drew {w : World} {x : In} {a b c d e : Int} {u : World} (h : TwoAt w x a b c d e u) : TwoAt w x a b c d e u.drew := h.later (Below.refl _ _).drew
theorem two_made (w : World) (x : In) (a b c d e : Int) (t t' : TypeId) (h : OpTab w) : TwoAt w x a b c d e ((w.alloc (.cells x.arr t)).alloc (.cells #[.int .u8 a, .int .u8 b, .int .u8 c, .int .u8 d, .int .u8 e] t')) := by
  have hz : (w.alloc (.cells x.arr t)).heap.size = w.heap.size + 1 := by simp
  have hb := balloc (w.alloc (.cells x.arr t)) (.cells #[.int .u8 a, .int .u8 b, .int .u8 c, .int .u8 d, .int .u8 e] t')
  have key : ∀ j v, x.arr[j]? = some v → ((w.alloc (.cells x.arr t)).alloc (.cells #[.int .u8 a, .int .u8 b, .int .u8 c, .int .u8 d, .int .u8 e] t')).cell? ⟨w.heap.size, j, none⟩ = some v := fun j v hv => box_at hb j v hv
  have key2 : ∀ j v, (#[.int .u8 a, .int .u8 b, .int .u8 c, .int .u8 d, .int .u8 e] : Array Value)[j]? = some v → ((w.alloc (.cells x.arr t)).alloc (.cells #[.int .u8 a, .int .u8 b, .int .u8 c, .int .u8 d, .int .u8 e] t')).cell? ⟨w.heap.size + 1, j, none⟩ = some v := fun j v hv => by
    have := box_at (Below.refl ((w.alloc (.cells x.arr t)).alloc (.cells #[.int .u8 a, .int .u8 b, .int .u8 c, .int .u8 d, .int .u8 e] t')).heap.size _) j v hv
    rwa [hz] at this
  exact ⟨key 0 _ rfl, key 1 _ rfl, key 2 _ rfl, key 3 _ rfl, key 4 _ rfl, key 5 _ rfl, key2 0 _ rfl, key2 1 _ rfl, key2 2 _ rfl, key2 3 _ rfl, key2 4 _ rfl, by simp, (h.alloc _).alloc _, below_step (balloc w _) hb⟩

end Go.Proofs.YtkjibnnoeceaeaaDoor
