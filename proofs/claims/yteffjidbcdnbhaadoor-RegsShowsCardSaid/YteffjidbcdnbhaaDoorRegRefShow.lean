/- The document's Show: its contract. -/
import Derived.Test.YteffjidbcdnbhaaDoorRegRefPair
import Derived.Test.YteffjidbcdnbhaaDoorHexRef
import Derived.Test.YteffjidbcdnbhaaDoorRegShow
import Derived.Test.YteffjidbcdnbhaaDoorRegStep
import Derived.Test.YteffjidbcdnbhaaDoorRegKeep
import Derived.LoopN
import Derived.Deep.DeepCutAuto
import Derived.Deep.RegionHeld3
namespace Go.Proofs.YteffjidbcdnbhaaDoor
open Go.RowKit

attribute [local simp ↓ high] load_as

theorem digits_is (n : Int) (k : Nat) (D : ByteArray) (w : World) (n0 : 0 ≤ n) (n1 : n ≤ 65535) (hk : k ≤ 4) (h : strL (hexN k n.toNat) = D) : Calls Tryd.prog 37 #[.int .i64 n, .int .i64 k] w fun e w' => e = .returned (.string D) ∧ w = w' := by
  obtain ⟨m, rfl⟩ := Int.eq_ofNat_of_zero_le n0
  subst h
  exact digits_any m k w (by omega) hk
theorem hex_any (k : Nat) (n : Int) : ∃ D : ByteArray, strL (hexN k n.toNat) = D ∧ D.size = k := ⟨_, rfl, by rw [strL_size, hexN_len]⟩

/-- What holds in the whole of the call: the registers lie in block R, the names in block g. -/
def DocS (w0 : World) (R g : Nat) (x : Rg) (u : World) : Prop := RegAt u R x ∧ (g < u.heap.size ∧ u.cell? ⟨g, 0, none⟩ = some (.string ⟨#[32, 66, 67, 61]⟩) ∧ u.cell? ⟨g, 1, none⟩ = some (.string ⟨#[32, 68, 69, 61]⟩) ∧ u.cell? ⟨g, 2, none⟩ = some (.string ⟨#[32, 72, 76, 61]⟩)) ∧ Below w0.heap.size w0 u
theorem DocS.below {w0 u u' : World} {R g : Nat} {x : Rg} (h : DocS w0 R g x u) (hb : Below u.heap.size u u') : DocS w0 R g x u' := by
  obtain ⟨h1, ⟨h2, h3, h4, h5⟩, h6⟩ := h
  exact ⟨h1.below hb, ⟨Nat.lt_of_lt_of_le h2 hb.size, (hb.cell (p := ⟨g, 0, none⟩) h2).trans h3, (hb.cell (p := ⟨g, 1, none⟩) h2).trans h4, (hb.cell (p := ⟨g, 2, none⟩) h2).trans h5⟩, below_step h6 hb⟩

theorem mkL (l : List UInt8) : (⟨l.toArray⟩ : ByteArray) = strL l := rfl
theorem text_gen (l0 l1 l2 l3 l4 l5 l6 l7 l8 l9 : List UInt8) : (⟨#[65, 70, 61]⟩ : ByteArray) ++ strL l0 ++ ⟨#[32, 66, 67, 61]⟩ ++ strL l1 ++ ⟨#[32, 68, 69, 61]⟩ ++ strL l2 ++ ⟨#[32, 72, 76, 61]⟩ ++ strL l3 ++ ⟨#[32, 73, 88, 61]⟩ ++ strL l4 ++ ⟨#[32, 73, 89, 61]⟩ ++ strL l5 ++ ⟨#[32, 83, 80, 61]⟩ ++ strL l6 ++ ⟨#[32, 80, 67, 61]⟩ ++ strL l7 ++ ⟨#[32, 73, 61]⟩ ++ strL l8 ++ ⟨#[32, 82, 61]⟩ ++ strL l9 = strL ([65, 70, 61] ++ l0 ++ [32, 66, 67, 61] ++ l1 ++ [32, 68, 69, 61] ++ l2 ++ [32, 72, 76, 61] ++ l3 ++ [32, 73, 88, 61] ++ l4 ++ [32, 73, 89, 61] ++ l5 ++ [32, 83, 80, 61] ++ l6 ++ [32, 80, 67, 61] ++ l7 ++ [32, 73, 61] ++ l8 ++ [32, 82, 61] ++ l9) := by
  simp only [mkL, strL_app]
theorem showL_is (x : Rg) : showL x = [65, 70, 61] ++ hexN 4 (x.a * 256 + x.f).toNat ++ [32, 66, 67, 61] ++ hexN 4 (pairV x 0 0).toNat ++ [32, 68, 69, 61] ++ hexN 4 (pairV x 1 0).toNat ++ [32, 72, 76, 61] ++ hexN 4 (pairV x 2 0).toNat ++ [32, 73, 88, 61] ++ hexN 4 (x.ix).toNat ++ [32, 73, 89, 61] ++ hexN 4 (x.iy).toNat ++ [32, 83, 80, 61] ++ hexN 4 (x.sp).toNat ++ [32, 80, 67, 61] ++ hexN 4 (x.pc).toNat ++ [32, 73, 61] ++ hexN 2 (x.i).toNat ++ [32, 82, 61] ++ hexN 2 (x.r).toNat := by
  unfold showL parts part
  generalize hexN 4 (x.a * 256 + x.f).toNat = l0, hexN 4 (pairV x 0 0).toNat = l1, hexN 4 (pairV x 1 0).toNat = l2, hexN 4 (pairV x 2 0).toNat = l3, hexN 4 (x.ix).toNat = l4, hexN 4 (x.iy).toNat = l5, hexN 4 (x.sp).toNat = l6, hexN 4 (x.pc).toNat = l7, hexN 2 (x.i).toNat = l8, hexN 2 (x.r).toNat = l9
  simp [Lib.join]
theorem text_is (x : Rg) : (⟨#[65, 70, 61]⟩ : ByteArray) ++ strL (hexN 4 (x.a * 256 + x.f).toNat) ++ ⟨#[32, 66, 67, 61]⟩ ++ strL (hexN 4 (pairV x 0 0).toNat) ++ ⟨#[32, 68, 69, 61]⟩ ++ strL (hexN 4 (pairV x 1 0).toNat) ++ ⟨#[32, 72, 76, 61]⟩ ++ strL (hexN 4 (pairV x 2 0).toNat) ++ ⟨#[32, 73, 88, 61]⟩ ++ strL (hexN 4 (x.ix).toNat) ++ ⟨#[32, 73, 89, 61]⟩ ++ strL (hexN 4 (x.iy).toNat) ++ ⟨#[32, 83, 80, 61]⟩ ++ strL (hexN 4 (x.sp).toNat) ++ ⟨#[32, 80, 67, 61]⟩ ++ strL (hexN 4 (x.pc).toNat) ++ ⟨#[32, 73, 61]⟩ ++ strL (hexN 2 (x.i).toNat) ++ ⟨#[32, 82, 61]⟩ ++ strL (hexN 2 (x.r).toNat) = strL (showL x) :=
  (text_gen _ _ _ _ _ _ _ _ _ _).trans (congrArg strL (showL_is x).symm)

set_option maxRecDepth 100000 in
set_option maxHeartbeats 1000000 in
theorem refShow_any (x : Rg) (w : World) (ok : x.Ok) : Calls Tryd.prog 23 #[.agg x.cells.toArray] w fun e w' => e = .returned (.string (strL (showL x))) ∧ Below w.heap.size w w' := by
  have K := Lib.hid (show RegAt (w.alloc (.cells x.cells.toArray 24)) w.heap.size x ∧ Below w.heap.size w (w.alloc (.cells x.cells.toArray 24)) from ⟨RegAt.new w x 24, (Below.refl _ _).alloc (Nat.le_refl _) _⟩)
  obtain ⟨a0, a1⟩ := ok.a
  obtain ⟨b0, b1⟩ := ok.f
  obtain ⟨ix0, ix1⟩ := ok.ix
  obtain ⟨iy0, iy1⟩ := ok.iy
  obtain ⟨sp0, sp1⟩ := ok.sp
  obtain ⟨pc0, pc1⟩ := ok.pc
  obtain ⟨i0, i1⟩ := ok.i
  obtain ⟨r0, r1⟩ := ok.r
  obtain ⟨p00, p01⟩ := pairV_bd x ok 0 0
  obtain ⟨p10, p11⟩ := pairV_bd x ok 1 0
  obtain ⟨p20, p21⟩ := pairV_bd x ok 2 0
  obtain ⟨D0, hd0, s0⟩ := hex_any 4 (x.a * 256 + x.f)
  have H0 := Lib.hid (fun w => digits_is (256 * x.a + x.f) 4 D0 w (by omega) (by omega) (by omega) (by rw [Int.mul_comm]; exact hd0))
  obtain ⟨D1, hd1, s1⟩ := hex_any 4 (pairV x 0 0)
  have H1 := Lib.hid (fun w => digits_is (pairV x 0 0) 4 D1 w (by omega) (by omega) (by omega) hd1)
  obtain ⟨D2, hd2, s2⟩ := hex_any 4 (pairV x 1 0)
  have H2 := Lib.hid (fun w => digits_is (pairV x 1 0) 4 D2 w (by omega) (by omega) (by omega) hd2)
  obtain ⟨D3, hd3, s3⟩ := hex_any 4 (pairV x 2 0)
  have H3 := Lib.hid (fun w => digits_is (pairV x 2 0) 4 D3 w (by omega) (by omega) (by omega) hd3)
  obtain ⟨D4, hd4, s4⟩ := hex_any 4 (x.ix)
  have H4 := Lib.hid (fun w => digits_is (x.ix) 4 D4 w (by omega) (by omega) (by omega) hd4)
  obtain ⟨D5, hd5, s5⟩ := hex_any 4 (x.iy)
  have H5 := Lib.hid (fun w => digits_is (x.iy) 4 D5 w (by omega) (by omega) (by omega) hd5)
  obtain ⟨D6, hd6, s6⟩ := hex_any 4 (x.sp)
  have H6 := Lib.hid (fun w => digits_is (x.sp) 4 D6 w (by omega) (by omega) (by omega) hd6)
  obtain ⟨D7, hd7, s7⟩ := hex_any 4 (x.pc)
  have H7 := Lib.hid (fun w => digits_is (x.pc) 4 D7 w (by omega) (by omega) (by omega) hd7)
  obtain ⟨D8, hd8, s8⟩ := hex_any 2 (x.i)
  have H8 := Lib.hid (fun w => digits_is (x.i) 2 D8 w (by omega) (by omega) (by omega) hd8)
  obtain ⟨D9, hd9, s9⟩ := hex_any 2 (x.r)
  have H9 := Lib.hid (fun w => digits_is (x.r) 2 D9 w (by omega) (by omega) (by omega) hd9)
  have HX := Lib.hid (show (⟨#[65, 70, 61]⟩ : ByteArray) ++ D0 ++ ⟨#[32, 66, 67, 61]⟩ ++ D1 ++ ⟨#[32, 68, 69, 61]⟩ ++ D2 ++ ⟨#[32, 72, 76, 61]⟩ ++ D3 ++ ⟨#[32, 73, 88, 61]⟩ ++ D4 ++ ⟨#[32, 73, 89, 61]⟩ ++ D5 ++ ⟨#[32, 83, 80, 61]⟩ ++ D6 ++ ⟨#[32, 80, 67, 61]⟩ ++ D7 ++ ⟨#[32, 73, 61]⟩ ++ D8 ++ ⟨#[32, 82, 61]⟩ ++ D9 = strL (showL x) by
    subst hd0 hd1 hd2 hd3 hd4 hd5 hd6 hd7 hd8 hd9
    exact text_is x)
  have cv0 : IntKind.i64.wrap (pairV x 0 0) = pairV x 0 0 := IntWalk.i64_in _ (by omega)
  have cv1 : IntKind.i64.wrap (pairV x 1 0) = pairV x 1 0 := IntWalk.i64_in _ (by omega)
  have cv2 : IntKind.i64.wrap (pairV x 2 0) = pairV x 2 0 := IntWalk.i64_in _ (by omega)
  have cvix : IntKind.i64.wrap x.ix = x.ix := IntWalk.i64_in _ (by omega)
  have cviy : IntKind.i64.wrap x.iy = x.iy := IntWalk.i64_in _ (by omega)
  have cvsp : IntKind.i64.wrap x.sp = x.sp := IntWalk.i64_in _ (by omega)
  have cvpc : IntKind.i64.wrap x.pc = x.pc := IntWalk.i64_in _ (by omega)
  have cvi : IntKind.i64.wrap x.i = x.i := IntWalk.i64_in _ (by omega)
  have cvr : IntKind.i64.wrap x.r = x.r := IntWalk.i64_in _ (by omega)
  have HP0 := Lib.hid (fun w => refPair_any x 0 0 w ok)
  have HP1 := Lib.hid (fun w => refPair_any x 1 0 w ok)
  have HP2 := Lib.hid (fun w => refPair_any x 2 0 w ok)
  clear ok hd0 hd1 hd2 hd3 hd4 hd5 hd6 hd7 hd8 hd9
  go_enter Tryd.func23, Tryd.ntmps23
  go_upto_region 1 with (fail)
  have k := K.out
  clear K
  generalize w.alloc (.cells x.cells.toArray 24) = w1 at k ⊢
  have c0 := k.1.cell 0 _ rfl
  have c1 := k.1.cell 1 _ rfl
  have K := Lib.hid k
  clear k
  go_wp2_with fail
  refine (H0.out _).mono ?_
  rintro e w' ⟨rfl, rfl⟩
  go_upto_region 3 with (fail)
  have k := K.out
  clear K c0 c1
  have d : DocS w w.heap.size w1.heap.size x (w1.alloc (.cells #[.string ⟨#[32, 66, 67, 61]⟩, .string ⟨#[32, 68, 69, 61]⟩, .string ⟨#[32, 72, 76, 61]⟩] 9)) := by
    have hh := heap_alloc_new w1 (.cells #[.string ⟨#[32, 66, 67, 61]⟩, .string ⟨#[32, 68, 69, 61]⟩, .string ⟨#[32, 72, 76, 61]⟩] 9)
    exact ⟨k.1.below ((Below.refl _ _).alloc (Nat.le_refl _) _), ⟨by simp, cell_of_row _ _ 0 _ _ _ hh, cell_of_row _ _ 1 _ _ _ hh, cell_of_row _ _ 2 _ _ _ hh⟩, k.2.alloc k.2.size _⟩
  clear k
  generalize w1.alloc (.cells #[.string ⟨#[32, 66, 67, 61]⟩, .string ⟨#[32, 68, 69, 61]⟩, .string ⟨#[32, 72, 76, 61]⟩] 9) = w2 at d ⊢
  have HU := Lib.hid (show ∀ u : World, DocS w w.heap.size w1.heap.size x u → (fun u => u.rangeAt w.heap.size 0 x.cells ∧ (u.cell? ⟨w1.heap.size, 0, none⟩ = some (.string ⟨#[32, 66, 67, 61]⟩) ∧ u.cell? ⟨w1.heap.size, 1, none⟩ = some (.string ⟨#[32, 68, 69, 61]⟩) ∧ u.cell? ⟨w1.heap.size, 2, none⟩ = some (.string ⟨#[32, 72, 76, 61]⟩)) ∧ DocS w w.heap.size w1.heap.size x u) u from fun u hu => ⟨hu.1.at', hu.2.1.2, hu⟩)
  have HST := Lib.hid (show ∀ u u' : World, (fun u => u.rangeAt w.heap.size 0 x.cells ∧ (u.cell? ⟨w1.heap.size, 0, none⟩ = some (.string ⟨#[32, 66, 67, 61]⟩) ∧ u.cell? ⟨w1.heap.size, 1, none⟩ = some (.string ⟨#[32, 68, 69, 61]⟩) ∧ u.cell? ⟨w1.heap.size, 2, none⟩ = some (.string ⟨#[32, 72, 76, 61]⟩)) ∧ DocS w w.heap.size w1.heap.size x u) u → Below u.heap.size u u' → (fun u => u.rangeAt w.heap.size 0 x.cells ∧ (u.cell? ⟨w1.heap.size, 0, none⟩ = some (.string ⟨#[32, 66, 67, 61]⟩) ∧ u.cell? ⟨w1.heap.size, 1, none⟩ = some (.string ⟨#[32, 68, 69, 61]⟩) ∧ u.cell? ⟨w1.heap.size, 2, none⟩ = some (.string ⟨#[32, 72, 76, 61]⟩)) ∧ DocS w w.heap.size w1.heap.size x u) u' from fun u u' hu hb => HU.out _ (hu.2.2.below hb))
  have HD := Lib.hid (show ∀ u : World, (fun u => u.rangeAt w.heap.size 0 x.cells ∧ (u.cell? ⟨w1.heap.size, 0, none⟩ = some (.string ⟨#[32, 66, 67, 61]⟩) ∧ u.cell? ⟨w1.heap.size, 1, none⟩ = some (.string ⟨#[32, 68, 69, 61]⟩) ∧ u.cell? ⟨w1.heap.size, 2, none⟩ = some (.string ⟨#[32, 72, 76, 61]⟩)) ∧ DocS w w.heap.size w1.heap.size x u) u → (fun u => u.rangeAt w.heap.size 0 x.cells ∧ (u.cell? ⟨w1.heap.size, 0, none⟩ = some (.string ⟨#[32, 66, 67, 61]⟩) ∧ u.cell? ⟨w1.heap.size, 1, none⟩ = some (.string ⟨#[32, 68, 69, 61]⟩) ∧ u.cell? ⟨w1.heap.size, 2, none⟩ = some (.string ⟨#[32, 72, 76, 61]⟩)) ∧ DocS w w.heap.size w1.heap.size x u) u.drew from fun u hu => HST.out _ _ hu (Below.refl _ _).drew)
  have J1 := Lib.hid (show ∀ u : World, (fun u => u.rangeAt w.heap.size 0 x.cells ∧ (u.cell? ⟨w1.heap.size, 0, none⟩ = some (.string ⟨#[32, 66, 67, 61]⟩) ∧ u.cell? ⟨w1.heap.size, 1, none⟩ = some (.string ⟨#[32, 68, 69, 61]⟩) ∧ u.cell? ⟨w1.heap.size, 2, none⟩ = some (.string ⟨#[32, 72, 76, 61]⟩)) ∧ DocS w w.heap.size w1.heap.size x u) u → Calls Tryd.prog 37 #[.int .i64 (pairV x 0 0), .int .i64 4] u fun e w' => e = .returned (.string D1) ∧ (fun u => u.rangeAt w.heap.size 0 x.cells ∧ (u.cell? ⟨w1.heap.size, 0, none⟩ = some (.string ⟨#[32, 66, 67, 61]⟩) ∧ u.cell? ⟨w1.heap.size, 1, none⟩ = some (.string ⟨#[32, 68, 69, 61]⟩) ∧ u.cell? ⟨w1.heap.size, 2, none⟩ = some (.string ⟨#[32, 72, 76, 61]⟩)) ∧ DocS w w.heap.size w1.heap.size x u) w' from fun u hu => keep_S hu (H1.out u))
  have P0 := Lib.hid (show ∀ u : World, (fun u => u.rangeAt w.heap.size 0 x.cells ∧ (u.cell? ⟨w1.heap.size, 0, none⟩ = some (.string ⟨#[32, 66, 67, 61]⟩) ∧ u.cell? ⟨w1.heap.size, 1, none⟩ = some (.string ⟨#[32, 68, 69, 61]⟩) ∧ u.cell? ⟨w1.heap.size, 2, none⟩ = some (.string ⟨#[32, 72, 76, 61]⟩)) ∧ DocS w w.heap.size w1.heap.size x u) u → Calls Tryd.prog 16 #[.agg x.cells.toArray, .int .i64 0, .int .i64 0] u fun e w' => e = .returned (.int .u16 (pairV x 0 0)) ∧ (fun u => u.rangeAt w.heap.size 0 x.cells ∧ (u.cell? ⟨w1.heap.size, 0, none⟩ = some (.string ⟨#[32, 66, 67, 61]⟩) ∧ u.cell? ⟨w1.heap.size, 1, none⟩ = some (.string ⟨#[32, 68, 69, 61]⟩) ∧ u.cell? ⟨w1.heap.size, 2, none⟩ = some (.string ⟨#[32, 72, 76, 61]⟩)) ∧ DocS w w.heap.size w1.heap.size x u) w' from fun u hu => keep_B HST.out hu (HP0.out u))
  have J2 := Lib.hid (show ∀ u : World, (fun u => u.rangeAt w.heap.size 0 x.cells ∧ (u.cell? ⟨w1.heap.size, 0, none⟩ = some (.string ⟨#[32, 66, 67, 61]⟩) ∧ u.cell? ⟨w1.heap.size, 1, none⟩ = some (.string ⟨#[32, 68, 69, 61]⟩) ∧ u.cell? ⟨w1.heap.size, 2, none⟩ = some (.string ⟨#[32, 72, 76, 61]⟩)) ∧ DocS w w.heap.size w1.heap.size x u) u → Calls Tryd.prog 37 #[.int .i64 (pairV x 1 0), .int .i64 4] u fun e w' => e = .returned (.string D2) ∧ (fun u => u.rangeAt w.heap.size 0 x.cells ∧ (u.cell? ⟨w1.heap.size, 0, none⟩ = some (.string ⟨#[32, 66, 67, 61]⟩) ∧ u.cell? ⟨w1.heap.size, 1, none⟩ = some (.string ⟨#[32, 68, 69, 61]⟩) ∧ u.cell? ⟨w1.heap.size, 2, none⟩ = some (.string ⟨#[32, 72, 76, 61]⟩)) ∧ DocS w w.heap.size w1.heap.size x u) w' from fun u hu => keep_S hu (H2.out u))
  have P1 := Lib.hid (show ∀ u : World, (fun u => u.rangeAt w.heap.size 0 x.cells ∧ (u.cell? ⟨w1.heap.size, 0, none⟩ = some (.string ⟨#[32, 66, 67, 61]⟩) ∧ u.cell? ⟨w1.heap.size, 1, none⟩ = some (.string ⟨#[32, 68, 69, 61]⟩) ∧ u.cell? ⟨w1.heap.size, 2, none⟩ = some (.string ⟨#[32, 72, 76, 61]⟩)) ∧ DocS w w.heap.size w1.heap.size x u) u → Calls Tryd.prog 16 #[.agg x.cells.toArray, .int .i64 1, .int .i64 0] u fun e w' => e = .returned (.int .u16 (pairV x 1 0)) ∧ (fun u => u.rangeAt w.heap.size 0 x.cells ∧ (u.cell? ⟨w1.heap.size, 0, none⟩ = some (.string ⟨#[32, 66, 67, 61]⟩) ∧ u.cell? ⟨w1.heap.size, 1, none⟩ = some (.string ⟨#[32, 68, 69, 61]⟩) ∧ u.cell? ⟨w1.heap.size, 2, none⟩ = some (.string ⟨#[32, 72, 76, 61]⟩)) ∧ DocS w w.heap.size w1.heap.size x u) w' from fun u hu => keep_B HST.out hu (HP1.out u))
  have J3 := Lib.hid (show ∀ u : World, (fun u => u.rangeAt w.heap.size 0 x.cells ∧ (u.cell? ⟨w1.heap.size, 0, none⟩ = some (.string ⟨#[32, 66, 67, 61]⟩) ∧ u.cell? ⟨w1.heap.size, 1, none⟩ = some (.string ⟨#[32, 68, 69, 61]⟩) ∧ u.cell? ⟨w1.heap.size, 2, none⟩ = some (.string ⟨#[32, 72, 76, 61]⟩)) ∧ DocS w w.heap.size w1.heap.size x u) u → Calls Tryd.prog 37 #[.int .i64 (pairV x 2 0), .int .i64 4] u fun e w' => e = .returned (.string D3) ∧ (fun u => u.rangeAt w.heap.size 0 x.cells ∧ (u.cell? ⟨w1.heap.size, 0, none⟩ = some (.string ⟨#[32, 66, 67, 61]⟩) ∧ u.cell? ⟨w1.heap.size, 1, none⟩ = some (.string ⟨#[32, 68, 69, 61]⟩) ∧ u.cell? ⟨w1.heap.size, 2, none⟩ = some (.string ⟨#[32, 72, 76, 61]⟩)) ∧ DocS w w.heap.size w1.heap.size x u) w' from fun u hu => keep_S hu (H3.out u))
  have P2 := Lib.hid (show ∀ u : World, (fun u => u.rangeAt w.heap.size 0 x.cells ∧ (u.cell? ⟨w1.heap.size, 0, none⟩ = some (.string ⟨#[32, 66, 67, 61]⟩) ∧ u.cell? ⟨w1.heap.size, 1, none⟩ = some (.string ⟨#[32, 68, 69, 61]⟩) ∧ u.cell? ⟨w1.heap.size, 2, none⟩ = some (.string ⟨#[32, 72, 76, 61]⟩)) ∧ DocS w w.heap.size w1.heap.size x u) u → Calls Tryd.prog 16 #[.agg x.cells.toArray, .int .i64 2, .int .i64 0] u fun e w' => e = .returned (.int .u16 (pairV x 2 0)) ∧ (fun u => u.rangeAt w.heap.size 0 x.cells ∧ (u.cell? ⟨w1.heap.size, 0, none⟩ = some (.string ⟨#[32, 66, 67, 61]⟩) ∧ u.cell? ⟨w1.heap.size, 1, none⟩ = some (.string ⟨#[32, 68, 69, 61]⟩) ∧ u.cell? ⟨w1.heap.size, 2, none⟩ = some (.string ⟨#[32, 72, 76, 61]⟩)) ∧ DocS w w.heap.size w1.heap.size x u) w' from fun u hu => keep_B HST.out hu (HP2.out u))
  have hl := fun u => run_regLoad u w.heap.size x
  have hS0 := HD.out _ (HU.out _ d)
  clear d
  go_wp2_with fail
  refine wp_loop_rounds 4 ?_
  rw [rounds_succ]
  go_wp2_with fail
  go_region_held3 (fun u => u.rangeAt w.heap.size 0 x.cells ∧ (u.cell? ⟨w1.heap.size, 0, none⟩ = some (.string ⟨#[32, 66, 67, 61]⟩) ∧ u.cell? ⟨w1.heap.size, 1, none⟩ = some (.string ⟨#[32, 68, 69, 61]⟩) ∧ u.cell? ⟨w1.heap.size, 2, none⟩ = some (.string ⟨#[32, 72, 76, 61]⟩)) ∧ DocS w w.heap.size w1.heap.size x u) (assumption) (first | (go_at_call 16; refine (P0.out _ (by assumption)).mono ?_; rintro e w' ⟨rfl, hA0⟩) | (go_at_call 37; refine (J1.out _ (by assumption)).mono ?_; rintro e w' ⟨rfl, hB0⟩))
  have hS1 := HD.out _ hB0
  clear hS0
  go_wp2_with fail
  rw [rounds_succ]
  go_wp2_with fail
  go_region_held3 (fun u => u.rangeAt w.heap.size 0 x.cells ∧ (u.cell? ⟨w1.heap.size, 0, none⟩ = some (.string ⟨#[32, 66, 67, 61]⟩) ∧ u.cell? ⟨w1.heap.size, 1, none⟩ = some (.string ⟨#[32, 68, 69, 61]⟩) ∧ u.cell? ⟨w1.heap.size, 2, none⟩ = some (.string ⟨#[32, 72, 76, 61]⟩)) ∧ DocS w w.heap.size w1.heap.size x u) (assumption) (first | (go_at_call 16; refine (P1.out _ (by assumption)).mono ?_; rintro e w' ⟨rfl, hA1⟩) | (go_at_call 37; refine (J2.out _ (by assumption)).mono ?_; rintro e w' ⟨rfl, hB1⟩))
  have hS2 := HD.out _ hB1
  clear hS1
  go_wp2_with fail
  rw [rounds_succ]
  go_wp2_with fail
  go_region_held3 (fun u => u.rangeAt w.heap.size 0 x.cells ∧ (u.cell? ⟨w1.heap.size, 0, none⟩ = some (.string ⟨#[32, 66, 67, 61]⟩) ∧ u.cell? ⟨w1.heap.size, 1, none⟩ = some (.string ⟨#[32, 68, 69, 61]⟩) ∧ u.cell? ⟨w1.heap.size, 2, none⟩ = some (.string ⟨#[32, 72, 76, 61]⟩)) ∧ DocS w w.heap.size w1.heap.size x u) (assumption) (first | (go_at_call 16; refine (P2.out _ (by assumption)).mono ?_; rintro e w' ⟨rfl, hA2⟩) | (go_at_call 37; refine (J3.out _ (by assumption)).mono ?_; rintro e w' ⟨rfl, hB2⟩))
  clear hS2
  go_wp2_with fail
  rw [rounds_succ]
  clear hl
  have DS := Lib.hid hB2.2.2
  clear hB0 hB1 hB2
  go_wp2_with fail
  have HV := Lib.hid (show ∀ u : World, DocS w w.heap.size w1.heap.size x u → (fun u => (u.cell? ⟨w.heap.size, 19, none⟩ = some (.int .u16 x.ix) ∧ u.cell? ⟨w.heap.size, 20, none⟩ = some (.int .u16 x.iy) ∧ u.cell? ⟨w.heap.size, 21, none⟩ = some (.int .u16 x.sp) ∧ u.cell? ⟨w.heap.size, 22, none⟩ = some (.int .u16 x.pc) ∧ u.cell? ⟨w.heap.size, 16, none⟩ = some (.int .u8 x.i) ∧ u.cell? ⟨w.heap.size, 17, none⟩ = some (.int .u8 x.r)) ∧ DocS w w.heap.size w1.heap.size x u) u from fun u hu => ⟨⟨hu.1.cell 19 _ rfl, hu.1.cell 20 _ rfl, hu.1.cell 21 _ rfl, hu.1.cell 22 _ rfl, hu.1.cell 16 _ rfl, hu.1.cell 17 _ rfl⟩, hu⟩)
  have hV0 := HV.out _ (DS.out.below (Below.refl _ _).drew)
  have V4 := Lib.hid (show ∀ u : World, (fun u => (u.cell? ⟨w.heap.size, 19, none⟩ = some (.int .u16 x.ix) ∧ u.cell? ⟨w.heap.size, 20, none⟩ = some (.int .u16 x.iy) ∧ u.cell? ⟨w.heap.size, 21, none⟩ = some (.int .u16 x.sp) ∧ u.cell? ⟨w.heap.size, 22, none⟩ = some (.int .u16 x.pc) ∧ u.cell? ⟨w.heap.size, 16, none⟩ = some (.int .u8 x.i) ∧ u.cell? ⟨w.heap.size, 17, none⟩ = some (.int .u8 x.r)) ∧ DocS w w.heap.size w1.heap.size x u) u → Calls Tryd.prog 37 #[.int .i64 (x.ix), .int .i64 4] u fun e w' => e = .returned (.string D4) ∧ (fun u => (u.cell? ⟨w.heap.size, 19, none⟩ = some (.int .u16 x.ix) ∧ u.cell? ⟨w.heap.size, 20, none⟩ = some (.int .u16 x.iy) ∧ u.cell? ⟨w.heap.size, 21, none⟩ = some (.int .u16 x.sp) ∧ u.cell? ⟨w.heap.size, 22, none⟩ = some (.int .u16 x.pc) ∧ u.cell? ⟨w.heap.size, 16, none⟩ = some (.int .u8 x.i) ∧ u.cell? ⟨w.heap.size, 17, none⟩ = some (.int .u8 x.r)) ∧ DocS w w.heap.size w1.heap.size x u) w' from fun u hu => keep_S hu (H4.out u))
  have V5 := Lib.hid (show ∀ u : World, (fun u => (u.cell? ⟨w.heap.size, 19, none⟩ = some (.int .u16 x.ix) ∧ u.cell? ⟨w.heap.size, 20, none⟩ = some (.int .u16 x.iy) ∧ u.cell? ⟨w.heap.size, 21, none⟩ = some (.int .u16 x.sp) ∧ u.cell? ⟨w.heap.size, 22, none⟩ = some (.int .u16 x.pc) ∧ u.cell? ⟨w.heap.size, 16, none⟩ = some (.int .u8 x.i) ∧ u.cell? ⟨w.heap.size, 17, none⟩ = some (.int .u8 x.r)) ∧ DocS w w.heap.size w1.heap.size x u) u → Calls Tryd.prog 37 #[.int .i64 (x.iy), .int .i64 4] u fun e w' => e = .returned (.string D5) ∧ (fun u => (u.cell? ⟨w.heap.size, 19, none⟩ = some (.int .u16 x.ix) ∧ u.cell? ⟨w.heap.size, 20, none⟩ = some (.int .u16 x.iy) ∧ u.cell? ⟨w.heap.size, 21, none⟩ = some (.int .u16 x.sp) ∧ u.cell? ⟨w.heap.size, 22, none⟩ = some (.int .u16 x.pc) ∧ u.cell? ⟨w.heap.size, 16, none⟩ = some (.int .u8 x.i) ∧ u.cell? ⟨w.heap.size, 17, none⟩ = some (.int .u8 x.r)) ∧ DocS w w.heap.size w1.heap.size x u) w' from fun u hu => keep_S hu (H5.out u))
  have V6 := Lib.hid (show ∀ u : World, (fun u => (u.cell? ⟨w.heap.size, 19, none⟩ = some (.int .u16 x.ix) ∧ u.cell? ⟨w.heap.size, 20, none⟩ = some (.int .u16 x.iy) ∧ u.cell? ⟨w.heap.size, 21, none⟩ = some (.int .u16 x.sp) ∧ u.cell? ⟨w.heap.size, 22, none⟩ = some (.int .u16 x.pc) ∧ u.cell? ⟨w.heap.size, 16, none⟩ = some (.int .u8 x.i) ∧ u.cell? ⟨w.heap.size, 17, none⟩ = some (.int .u8 x.r)) ∧ DocS w w.heap.size w1.heap.size x u) u → Calls Tryd.prog 37 #[.int .i64 (x.sp), .int .i64 4] u fun e w' => e = .returned (.string D6) ∧ (fun u => (u.cell? ⟨w.heap.size, 19, none⟩ = some (.int .u16 x.ix) ∧ u.cell? ⟨w.heap.size, 20, none⟩ = some (.int .u16 x.iy) ∧ u.cell? ⟨w.heap.size, 21, none⟩ = some (.int .u16 x.sp) ∧ u.cell? ⟨w.heap.size, 22, none⟩ = some (.int .u16 x.pc) ∧ u.cell? ⟨w.heap.size, 16, none⟩ = some (.int .u8 x.i) ∧ u.cell? ⟨w.heap.size, 17, none⟩ = some (.int .u8 x.r)) ∧ DocS w w.heap.size w1.heap.size x u) w' from fun u hu => keep_S hu (H6.out u))
  have V7 := Lib.hid (show ∀ u : World, (fun u => (u.cell? ⟨w.heap.size, 19, none⟩ = some (.int .u16 x.ix) ∧ u.cell? ⟨w.heap.size, 20, none⟩ = some (.int .u16 x.iy) ∧ u.cell? ⟨w.heap.size, 21, none⟩ = some (.int .u16 x.sp) ∧ u.cell? ⟨w.heap.size, 22, none⟩ = some (.int .u16 x.pc) ∧ u.cell? ⟨w.heap.size, 16, none⟩ = some (.int .u8 x.i) ∧ u.cell? ⟨w.heap.size, 17, none⟩ = some (.int .u8 x.r)) ∧ DocS w w.heap.size w1.heap.size x u) u → Calls Tryd.prog 37 #[.int .i64 (x.pc), .int .i64 4] u fun e w' => e = .returned (.string D7) ∧ (fun u => (u.cell? ⟨w.heap.size, 19, none⟩ = some (.int .u16 x.ix) ∧ u.cell? ⟨w.heap.size, 20, none⟩ = some (.int .u16 x.iy) ∧ u.cell? ⟨w.heap.size, 21, none⟩ = some (.int .u16 x.sp) ∧ u.cell? ⟨w.heap.size, 22, none⟩ = some (.int .u16 x.pc) ∧ u.cell? ⟨w.heap.size, 16, none⟩ = some (.int .u8 x.i) ∧ u.cell? ⟨w.heap.size, 17, none⟩ = some (.int .u8 x.r)) ∧ DocS w w.heap.size w1.heap.size x u) w' from fun u hu => keep_S hu (H7.out u))
  have V8 := Lib.hid (show ∀ u : World, (fun u => (u.cell? ⟨w.heap.size, 19, none⟩ = some (.int .u16 x.ix) ∧ u.cell? ⟨w.heap.size, 20, none⟩ = some (.int .u16 x.iy) ∧ u.cell? ⟨w.heap.size, 21, none⟩ = some (.int .u16 x.sp) ∧ u.cell? ⟨w.heap.size, 22, none⟩ = some (.int .u16 x.pc) ∧ u.cell? ⟨w.heap.size, 16, none⟩ = some (.int .u8 x.i) ∧ u.cell? ⟨w.heap.size, 17, none⟩ = some (.int .u8 x.r)) ∧ DocS w w.heap.size w1.heap.size x u) u → Calls Tryd.prog 37 #[.int .i64 (x.i), .int .i64 2] u fun e w' => e = .returned (.string D8) ∧ (fun u => (u.cell? ⟨w.heap.size, 19, none⟩ = some (.int .u16 x.ix) ∧ u.cell? ⟨w.heap.size, 20, none⟩ = some (.int .u16 x.iy) ∧ u.cell? ⟨w.heap.size, 21, none⟩ = some (.int .u16 x.sp) ∧ u.cell? ⟨w.heap.size, 22, none⟩ = some (.int .u16 x.pc) ∧ u.cell? ⟨w.heap.size, 16, none⟩ = some (.int .u8 x.i) ∧ u.cell? ⟨w.heap.size, 17, none⟩ = some (.int .u8 x.r)) ∧ DocS w w.heap.size w1.heap.size x u) w' from fun u hu => keep_S hu (H8.out u))
  have V9 := Lib.hid (show ∀ u : World, (fun u => (u.cell? ⟨w.heap.size, 19, none⟩ = some (.int .u16 x.ix) ∧ u.cell? ⟨w.heap.size, 20, none⟩ = some (.int .u16 x.iy) ∧ u.cell? ⟨w.heap.size, 21, none⟩ = some (.int .u16 x.sp) ∧ u.cell? ⟨w.heap.size, 22, none⟩ = some (.int .u16 x.pc) ∧ u.cell? ⟨w.heap.size, 16, none⟩ = some (.int .u8 x.i) ∧ u.cell? ⟨w.heap.size, 17, none⟩ = some (.int .u8 x.r)) ∧ DocS w w.heap.size w1.heap.size x u) u → Calls Tryd.prog 37 #[.int .i64 (x.r), .int .i64 2] u fun e w' => e = .returned (.string D9) ∧ (fun u => (u.cell? ⟨w.heap.size, 19, none⟩ = some (.int .u16 x.ix) ∧ u.cell? ⟨w.heap.size, 20, none⟩ = some (.int .u16 x.iy) ∧ u.cell? ⟨w.heap.size, 21, none⟩ = some (.int .u16 x.sp) ∧ u.cell? ⟨w.heap.size, 22, none⟩ = some (.int .u16 x.pc) ∧ u.cell? ⟨w.heap.size, 16, none⟩ = some (.int .u8 x.i) ∧ u.cell? ⟨w.heap.size, 17, none⟩ = some (.int .u8 x.r)) ∧ DocS w w.heap.size w1.heap.size x u) w' from fun u hu => keep_S hu (H9.out u))
  go_region_held3 (fun u => (u.cell? ⟨w.heap.size, 19, none⟩ = some (.int .u16 x.ix) ∧ u.cell? ⟨w.heap.size, 20, none⟩ = some (.int .u16 x.iy) ∧ u.cell? ⟨w.heap.size, 21, none⟩ = some (.int .u16 x.sp) ∧ u.cell? ⟨w.heap.size, 22, none⟩ = some (.int .u16 x.pc) ∧ u.cell? ⟨w.heap.size, 16, none⟩ = some (.int .u8 x.i) ∧ u.cell? ⟨w.heap.size, 17, none⟩ = some (.int .u8 x.r)) ∧ DocS w w.heap.size w1.heap.size x u) (assumption) ((go_at_call 37; (first | (with_reducible refine (V4.out _ (by assumption)).mono ?_) | (with_reducible refine (V5.out _ (by assumption)).mono ?_) | (with_reducible refine (V6.out _ (by assumption)).mono ?_) | (with_reducible refine (V7.out _ (by assumption)).mono ?_)); rintro e w' ⟨rfl, hC⟩))
  have hV1 := HV.out _ (hC.2.below (Below.refl _ _).drew)
  clear hV0
  go_wp2_with fail
  go_region_held3 (fun u => (u.cell? ⟨w.heap.size, 19, none⟩ = some (.int .u16 x.ix) ∧ u.cell? ⟨w.heap.size, 20, none⟩ = some (.int .u16 x.iy) ∧ u.cell? ⟨w.heap.size, 21, none⟩ = some (.int .u16 x.sp) ∧ u.cell? ⟨w.heap.size, 22, none⟩ = some (.int .u16 x.pc) ∧ u.cell? ⟨w.heap.size, 16, none⟩ = some (.int .u8 x.i) ∧ u.cell? ⟨w.heap.size, 17, none⟩ = some (.int .u8 x.r)) ∧ DocS w w.heap.size w1.heap.size x u) (assumption) ((go_at_call 37; (first | (with_reducible refine (V8.out _ (by assumption)).mono ?_) | (with_reducible refine (V9.out _ (by assumption)).mono ?_)); rintro e w' ⟨rfl, hE⟩))
  have B := Lib.hid hE.2.2.2
  clear hE hV1
  go_wp2_with fail
  go_ret
  exact ⟨by rw [← HX.out]; rfl, B.out⟩

end Go.Proofs.YteffjidbcdnbhaaDoor
