/- OpShows: its walk. -/
import Derived.Test.YtkjibnnoeceaeaaDoorOpRShow
import Derived.Test.YtkjibnnoeceaeaaDoorOpLives
import Derived.Test.YtkjibnnoeceaeaaDoorOpShow2
namespace Go.Proofs.YtkjibnnoeceaeaaDoor
open Go.RowKit

/-- The document's instruction and the program's in two boxes of the call's own. -/
structure TwoX (w : World) (x : In) (u : World) : Prop where
  i0 : u.cell? ⟨w.heap.size, 0, none⟩ = some (.int .i64 x.set)
  i1 : u.cell? ⟨w.heap.size, 1, none⟩ = some (.int .i64 x.ix)
  i2 : u.cell? ⟨w.heap.size, 2, none⟩ = some (.int .u8 x.code)
  i3 : u.cell? ⟨w.heap.size, 3, none⟩ = some (.int .u8 x.d)
  i4 : u.cell? ⟨w.heap.size, 4, none⟩ = some (.int .u16 x.n)
  i5 : u.cell? ⟨w.heap.size, 5, none⟩ = some (.int .i64 x.len)
  j0 : u.cell? ⟨w.heap.size + 1, 0, none⟩ = some (.int .i64 x.set)
  j1 : u.cell? ⟨w.heap.size + 1, 1, none⟩ = some (.int .i64 x.ix)
  j2 : u.cell? ⟨w.heap.size + 1, 2, none⟩ = some (.int .u8 x.code)
  j3 : u.cell? ⟨w.heap.size + 1, 3, none⟩ = some (.int .u8 x.d)
  j4 : u.cell? ⟨w.heap.size + 1, 4, none⟩ = some (.int .u16 x.n)
  j5 : u.cell? ⟨w.heap.size + 1, 5, none⟩ = some (.int .i64 x.len)
  lt : w.heap.size + 1 < u.heap.size
  tab : OpTab u
  below : Below w.heap.size w u
theorem TwoX.later {w : World} {x : In} {u u' : World} (h : TwoX w x u) (hb : Below u.heap.size u u') : TwoX w x u' where
  i0 := (hb.cell (p := ⟨w.heap.size, 0, none⟩) (Nat.lt_of_succ_lt h.lt)).trans h.i0
  i1 := (hb.cell (p := ⟨w.heap.size, 1, none⟩) (Nat.lt_of_succ_lt h.lt)).trans h.i1
  i2 := (hb.cell (p := ⟨w.heap.size, 2, none⟩) (Nat.lt_of_succ_lt h.lt)).trans h.i2
  i3 := (hb.cell (p := ⟨w.heap.size, 3, none⟩) (Nat.lt_of_succ_lt h.lt)).trans h.i3
  i4 := (hb.cell (p := ⟨w.heap.size, 4, none⟩) (Nat.lt_of_succ_lt h.lt)).trans h.i4
  i5 := (hb.cell (p := ⟨w.heap.size, 5, none⟩) (Nat.lt_of_succ_lt h.lt)).trans h.i5
  j0 := (hb.cell (p := ⟨w.heap.size + 1, 0, none⟩) h.lt).trans h.j0
  j1 := (hb.cell (p := ⟨w.heap.size + 1, 1, none⟩) h.lt).trans h.j1
  j2 := (hb.cell (p := ⟨w.heap.size + 1, 2, none⟩) h.lt).trans h.j2
  j3 := (hb.cell (p := ⟨w.heap.size + 1, 3, none⟩) h.lt).trans h.j3
  j4 := (hb.cell (p := ⟨w.heap.size + 1, 4, none⟩) h.lt).trans h.j4
  j5 := (hb.cell (p := ⟨w.heap.size + 1, 5, none⟩) h.lt).trans h.j5
  lt := Nat.lt_of_lt_of_le h.lt hb.size
  tab := h.tab.below hb
  below := below_step h.below hb
theorem TwoX.drew {w : World} {x : In} {u : World} (h : TwoX w x u) : TwoX w x u.drew := h.later (Below.refl _ _).drew
theorem twoX_made (w : World) (x : In) (t t' : TypeId) (h : OpTab w) : TwoX w x ((w.alloc (.cells x.arr t)).alloc (.cells x.arr t')) := by
  have hz : (w.alloc (.cells x.arr t)).heap.size = w.heap.size + 1 := by simp
  have hb := balloc (w.alloc (.cells x.arr t)) (.cells x.arr t')
  have key : ∀ j v, x.arr[j]? = some v → ((w.alloc (.cells x.arr t)).alloc (.cells x.arr t')).cell? ⟨w.heap.size, j, none⟩ = some v := fun j v hv => box_at hb j v hv
  have key2 : ∀ j v, x.arr[j]? = some v → ((w.alloc (.cells x.arr t)).alloc (.cells x.arr t')).cell? ⟨w.heap.size + 1, j, none⟩ = some v := fun j v hv => by
    have := box_at (Below.refl ((w.alloc (.cells x.arr t)).alloc (.cells x.arr t')).heap.size _) j v hv
    rwa [hz] at this
  exact ⟨key 0 _ rfl, key 1 _ rfl, key 2 _ rfl, key 3 _ rfl, key 4 _ rfl, key 5 _ rfl, key2 0 _ rfl, key2 1 _ rfl, key2 2 _ rfl, key2 3 _ rfl, key2 4 _ rfl, key2 5 _ rfl, by simp, (h.alloc _).alloc _, below_step (balloc w _) hb⟩

set_option maxRecDepth 100000 in
set_option maxHeartbeats 1600000 in
theorem shows1 (x : In) (pc : Nat) (w : World) (h : OpTab w) (hl : decide (x.len < 0) = true) : Calls Tryd.prog 4 #[.agg x.arr, .int .u16 pc] w fun e w' => e = .returned (.bool true) ∧ Below w.heap.size w w' := by
  have H := Lib.hid h
  clear h
  unfold In.arr
  go_enter Tryd.func4, Tryd.ntmps4
  go_wp2_with fail
  refine (lives7 _ (H.out.alloc _)).mono ?_
  rintro e w1 ⟨rfl, hb1⟩
  go_wp2_with fail
  go_ret
  exact ⟨rfl, below_step (balloc w _) hb1⟩
set_option maxRecDepth 100000 in
set_option maxHeartbeats 1600000 in
theorem shows2 (x : In) (pc : Nat) (w : World) (h : OpTab w) (hk : decide (x.len < 0) = false) (hl : decide (8 < x.len) = true) : Calls Tryd.prog 4 #[.agg x.arr, .int .u16 pc] w fun e w' => e = .returned (.bool true) ∧ Below w.heap.size w w' := by
  have H := Lib.hid h
  clear h
  unfold In.arr
  go_enter Tryd.func4, Tryd.ntmps4
  go_wp2_with fail
  refine (lives7 _ (H.out.alloc _)).mono ?_
  rintro e w1 ⟨rfl, hb1⟩
  go_wp2_with fail
  go_ret
  exact ⟨rfl, below_step (balloc w _) hb1⟩
set_option maxRecDepth 100000 in
set_option maxHeartbeats 1600000 in
theorem shows3 (x : In) (pc : Nat) (w : World) (h : OpTab w) (ok : x.Ok) (hpc : pc < 65536) (l0 : 0 ≤ x.len) (l8 : x.len ≤ 8) : Calls Tryd.prog 4 #[.agg x.arr, .int .u16 pc] w fun e w' => e = .returned (.bool true) ∧ Below w.heap.size w w' := by
  have hk : decide (x.len < 0) = false := by simp; omega
  have hl : decide (8 < x.len) = false := by simp; omega
  obtain ⟨T, hT⟩ : ∃ T, txt (x.en (tgtN x pc)) (showT x.set (hasI x.ix) (nameL x.ix) x.code) = T := ⟨_, rfl⟩
  have hR : strL (refShow x.set x.ix x.code x.d x.n (tgtN x pc)) = T := by rw [← hT]; exact congrArg strL (show_eq (x.en (tgtN x pc)) x.set x.code ok.code)
  have hq : (T.toList == T.toList) = true := str_eq rfl
  have HU := Lib.hid (show ∀ u, TwoX w x u → (fun u => (u.cell? ⟨w.heap.size, 0, none⟩ = some (.int .i64 x.set) ∧ u.cell? ⟨w.heap.size, 1, none⟩ = some (.int .i64 x.ix) ∧ u.cell? ⟨w.heap.size, 2, none⟩ = some (.int .u8 x.code) ∧ u.cell? ⟨w.heap.size, 3, none⟩ = some (.int .u8 x.d) ∧ u.cell? ⟨w.heap.size, 4, none⟩ = some (.int .u16 x.n) ∧ u.cell? ⟨w.heap.size, 5, none⟩ = some (.int .i64 x.len) ∧ u.cell? ⟨w.heap.size + 1, 0, none⟩ = some (.int .i64 x.set) ∧ u.cell? ⟨w.heap.size + 1, 1, none⟩ = some (.int .i64 x.ix) ∧ u.cell? ⟨w.heap.size + 1, 2, none⟩ = some (.int .u8 x.code) ∧ u.cell? ⟨w.heap.size + 1, 3, none⟩ = some (.int .u8 x.d) ∧ u.cell? ⟨w.heap.size + 1, 4, none⟩ = some (.int .u16 x.n) ∧ u.cell? ⟨w.heap.size + 1, 5, none⟩ = some (.int .i64 x.len)) ∧ TwoX w x u) u from fun u hu => ⟨⟨hu.i0, hu.i1, hu.i2, hu.i3, hu.i4, hu.i5, hu.j0, hu.j1, hu.j2, hu.j3, hu.j4, hu.j5⟩, hu⟩)
  have C0 := Lib.hid (show ∀ u, (fun u => (u.cell? ⟨w.heap.size, 0, none⟩ = some (.int .i64 x.set) ∧ u.cell? ⟨w.heap.size, 1, none⟩ = some (.int .i64 x.ix) ∧ u.cell? ⟨w.heap.size, 2, none⟩ = some (.int .u8 x.code) ∧ u.cell? ⟨w.heap.size, 3, none⟩ = some (.int .u8 x.d) ∧ u.cell? ⟨w.heap.size, 4, none⟩ = some (.int .u16 x.n) ∧ u.cell? ⟨w.heap.size, 5, none⟩ = some (.int .i64 x.len) ∧ u.cell? ⟨w.heap.size + 1, 0, none⟩ = some (.int .i64 x.set) ∧ u.cell? ⟨w.heap.size + 1, 1, none⟩ = some (.int .i64 x.ix) ∧ u.cell? ⟨w.heap.size + 1, 2, none⟩ = some (.int .u8 x.code) ∧ u.cell? ⟨w.heap.size + 1, 3, none⟩ = some (.int .u8 x.d) ∧ u.cell? ⟨w.heap.size + 1, 4, none⟩ = some (.int .u16 x.n) ∧ u.cell? ⟨w.heap.size + 1, 5, none⟩ = some (.int .i64 x.len)) ∧ TwoX w x u) u → Calls Tryd.prog 12 #[.agg x.arr, .int .u16 pc] u fun e w' => e = .returned (.string T) ∧ (fun u => (u.cell? ⟨w.heap.size, 0, none⟩ = some (.int .i64 x.set) ∧ u.cell? ⟨w.heap.size, 1, none⟩ = some (.int .i64 x.ix) ∧ u.cell? ⟨w.heap.size, 2, none⟩ = some (.int .u8 x.code) ∧ u.cell? ⟨w.heap.size, 3, none⟩ = some (.int .u8 x.d) ∧ u.cell? ⟨w.heap.size, 4, none⟩ = some (.int .u16 x.n) ∧ u.cell? ⟨w.heap.size, 5, none⟩ = some (.int .i64 x.len) ∧ u.cell? ⟨w.heap.size + 1, 0, none⟩ = some (.int .i64 x.set) ∧ u.cell? ⟨w.heap.size + 1, 1, none⟩ = some (.int .i64 x.ix) ∧ u.cell? ⟨w.heap.size + 1, 2, none⟩ = some (.int .u8 x.code) ∧ u.cell? ⟨w.heap.size + 1, 3, none⟩ = some (.int .u8 x.d) ∧ u.cell? ⟨w.heap.size + 1, 4, none⟩ = some (.int .u16 x.n) ∧ u.cell? ⟨w.heap.size + 1, 5, none⟩ = some (.int .i64 x.len)) ∧ TwoX w x u) w' from fun u hu => (hT ▸ opShow x pc u hu.2.tab ok).mono fun _ _ ⟨he, hb⟩ => ⟨he, HU.out _ (hu.2.later hb)⟩)
  have C1 := Lib.hid (show ∀ u, (fun u => (u.cell? ⟨w.heap.size, 0, none⟩ = some (.int .i64 x.set) ∧ u.cell? ⟨w.heap.size, 1, none⟩ = some (.int .i64 x.ix) ∧ u.cell? ⟨w.heap.size, 2, none⟩ = some (.int .u8 x.code) ∧ u.cell? ⟨w.heap.size, 3, none⟩ = some (.int .u8 x.d) ∧ u.cell? ⟨w.heap.size, 4, none⟩ = some (.int .u16 x.n) ∧ u.cell? ⟨w.heap.size, 5, none⟩ = some (.int .i64 x.len) ∧ u.cell? ⟨w.heap.size + 1, 0, none⟩ = some (.int .i64 x.set) ∧ u.cell? ⟨w.heap.size + 1, 1, none⟩ = some (.int .i64 x.ix) ∧ u.cell? ⟨w.heap.size + 1, 2, none⟩ = some (.int .u8 x.code) ∧ u.cell? ⟨w.heap.size + 1, 3, none⟩ = some (.int .u8 x.d) ∧ u.cell? ⟨w.heap.size + 1, 4, none⟩ = some (.int .u16 x.n) ∧ u.cell? ⟨w.heap.size + 1, 5, none⟩ = some (.int .i64 x.len)) ∧ TwoX w x u) u → Calls Tryd.prog 13 #[.agg x.arr, .int .u16 pc] u fun e w' => e = .returned (.string T) ∧ (fun u => (u.cell? ⟨w.heap.size, 0, none⟩ = some (.int .i64 x.set) ∧ u.cell? ⟨w.heap.size, 1, none⟩ = some (.int .i64 x.ix) ∧ u.cell? ⟨w.heap.size, 2, none⟩ = some (.int .u8 x.code) ∧ u.cell? ⟨w.heap.size, 3, none⟩ = some (.int .u8 x.d) ∧ u.cell? ⟨w.heap.size, 4, none⟩ = some (.int .u16 x.n) ∧ u.cell? ⟨w.heap.size, 5, none⟩ = some (.int .i64 x.len) ∧ u.cell? ⟨w.heap.size + 1, 0, none⟩ = some (.int .i64 x.set) ∧ u.cell? ⟨w.heap.size + 1, 1, none⟩ = some (.int .i64 x.ix) ∧ u.cell? ⟨w.heap.size + 1, 2, none⟩ = some (.int .u8 x.code) ∧ u.cell? ⟨w.heap.size + 1, 3, none⟩ = some (.int .u8 x.d) ∧ u.cell? ⟨w.heap.size + 1, 4, none⟩ = some (.int .u16 x.n) ∧ u.cell? ⟨w.heap.size + 1, 5, none⟩ = some (.int .i64 x.len)) ∧ TwoX w x u) w' from fun u hu => (hR ▸ refShowAny x pc u ok hpc l0 l8).mono fun _ _ ⟨he, hb⟩ => ⟨he, HU.out _ (hu.2.later hb)⟩)
  have C2 := Lib.hid (show ∀ u, (fun u => (u.cell? ⟨w.heap.size, 0, none⟩ = some (.int .i64 x.set) ∧ u.cell? ⟨w.heap.size, 1, none⟩ = some (.int .i64 x.ix) ∧ u.cell? ⟨w.heap.size, 2, none⟩ = some (.int .u8 x.code) ∧ u.cell? ⟨w.heap.size, 3, none⟩ = some (.int .u8 x.d) ∧ u.cell? ⟨w.heap.size, 4, none⟩ = some (.int .u16 x.n) ∧ u.cell? ⟨w.heap.size, 5, none⟩ = some (.int .i64 x.len) ∧ u.cell? ⟨w.heap.size + 1, 0, none⟩ = some (.int .i64 x.set) ∧ u.cell? ⟨w.heap.size + 1, 1, none⟩ = some (.int .i64 x.ix) ∧ u.cell? ⟨w.heap.size + 1, 2, none⟩ = some (.int .u8 x.code) ∧ u.cell? ⟨w.heap.size + 1, 3, none⟩ = some (.int .u8 x.d) ∧ u.cell? ⟨w.heap.size + 1, 4, none⟩ = some (.int .u16 x.n) ∧ u.cell? ⟨w.heap.size + 1, 5, none⟩ = some (.int .i64 x.len)) ∧ TwoX w x u) u → Calls Tryd.prog 8 #[] u fun e w' => e = .returned (.bool true) ∧ (fun u => (u.cell? ⟨w.heap.size, 0, none⟩ = some (.int .i64 x.set) ∧ u.cell? ⟨w.heap.size, 1, none⟩ = some (.int .i64 x.ix) ∧ u.cell? ⟨w.heap.size, 2, none⟩ = some (.int .u8 x.code) ∧ u.cell? ⟨w.heap.size, 3, none⟩ = some (.int .u8 x.d) ∧ u.cell? ⟨w.heap.size, 4, none⟩ = some (.int .u16 x.n) ∧ u.cell? ⟨w.heap.size, 5, none⟩ = some (.int .i64 x.len) ∧ u.cell? ⟨w.heap.size + 1, 0, none⟩ = some (.int .i64 x.set) ∧ u.cell? ⟨w.heap.size + 1, 1, none⟩ = some (.int .i64 x.ix) ∧ u.cell? ⟨w.heap.size + 1, 2, none⟩ = some (.int .u8 x.code) ∧ u.cell? ⟨w.heap.size + 1, 3, none⟩ = some (.int .u8 x.d) ∧ u.cell? ⟨w.heap.size + 1, 4, none⟩ = some (.int .u16 x.n) ∧ u.cell? ⟨w.heap.size + 1, 5, none⟩ = some (.int .i64 x.len)) ∧ TwoX w x u) w' from fun u hu => (lives7 u hu.2.tab).mono fun _ _ ⟨he, hb⟩ => ⟨he, HU.out _ (hu.2.later hb)⟩)
  have K := Lib.hid (twoX_made w x 29 26 h)
  clear h ok hpc l0 l8 hT hR
  unfold In.arr at *
  go_enter Tryd.func4, Tryd.ntmps4
  go_upto_region 4 with (fail)
  have k := K.out
  clear K
  generalize (w.alloc (.cells #[.int .i64 x.set, .int .i64 x.ix, .int .u8 x.code, .int .u8 x.d, .int .u16 x.n, .int .i64 x.len] 29)).alloc (.cells #[.int .i64 x.set, .int .i64 x.ix, .int .u8 x.code, .int .u8 x.d, .int .u16 x.n, .int .i64 x.len] 26) = w1 at k ⊢
  have hS1 := HU.out _ k.drew
  clear k
  go_region_held3 (fun u => (u.cell? ⟨w.heap.size, 0, none⟩ = some (.int .i64 x.set) ∧ u.cell? ⟨w.heap.size, 1, none⟩ = some (.int .i64 x.ix) ∧ u.cell? ⟨w.heap.size, 2, none⟩ = some (.int .u8 x.code) ∧ u.cell? ⟨w.heap.size, 3, none⟩ = some (.int .u8 x.d) ∧ u.cell? ⟨w.heap.size, 4, none⟩ = some (.int .u16 x.n) ∧ u.cell? ⟨w.heap.size, 5, none⟩ = some (.int .i64 x.len) ∧ u.cell? ⟨w.heap.size + 1, 0, none⟩ = some (.int .i64 x.set) ∧ u.cell? ⟨w.heap.size + 1, 1, none⟩ = some (.int .i64 x.ix) ∧ u.cell? ⟨w.heap.size + 1, 2, none⟩ = some (.int .u8 x.code) ∧ u.cell? ⟨w.heap.size + 1, 3, none⟩ = some (.int .u8 x.d) ∧ u.cell? ⟨w.heap.size + 1, 4, none⟩ = some (.int .u16 x.n) ∧ u.cell? ⟨w.heap.size + 1, 5, none⟩ = some (.int .i64 x.len)) ∧ TwoX w x u) (assumption) ((first | (go_at_call 12; refine (C0.out _ (by assumption)).mono ?_; rintro e w' ⟨rfl, hE⟩) | (go_at_call 13; refine (C1.out _ (by assumption)).mono ?_; rintro e w' ⟨rfl, hE⟩) | (go_at_call 8; refine (C2.out _ (by assumption)).mono ?_; rintro e w' ⟨rfl, hF⟩)))
  have B := Lib.hid hF.2.below
  clear hF hS1
  go_wp2_with fail
  go_ret
  exact ⟨rfl, B.out⟩
theorem shows_law (x : In) (a : Int) (ok : x.Ok) (wa : (Lit.int .u16 a).wf = true) (w : World) (h : OpTab w) : Calls Tryd.prog 4 #[.agg x.arr, .int .u16 a] w fun e w' => e = .returned (.bool true) ∧ Below w.heap.size w w' := by
  have hb := bounds_u16 wa
  obtain ⟨n, rfl⟩ := Int.eq_ofNat_of_zero_le (a := a) (by omega)
  by_cases h0 : x.len < 0
  · exact shows1 x n w h (by simpa using h0)
  by_cases h8 : 8 < x.len
  · exact shows2 x n w h (by simpa using h0) (by simpa using h8)
  · exact shows3 x n w h ok (by omega) (by omega) (by omega)

end Go.Proofs.YtkjibnnoeceaeaaDoor
