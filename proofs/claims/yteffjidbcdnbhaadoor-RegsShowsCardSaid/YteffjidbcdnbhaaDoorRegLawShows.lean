/- The walk of the law on Ir, Tick, Show, Same. -/
import Derived.Test.YteffjidbcdnbhaaDoorRegLawPairs
import Derived.Test.YteffjidbcdnbhaaDoorRegRefShow
namespace Go.Proofs.YteffjidbcdnbhaaDoor
open Go.RowKit

attribute [local simp ↓ high] load_as eql_as
attribute [local simp] run_regEql regs_guard

def tickR (x : Rg) : Rg := { x with r := tickV x.r }
def LawW (w0 : World) (A B X Y : Nat) (x y z : Rg) (u : World) : Prop := (RegAt u A x ∧ RegAt u B y ∧ RegAt u X z ∧ RegAt u Y z) ∧ Tab u ∧ Below w0.heap.size w0 u
theorem LawW.below {w0 u u' : World} {A B X Y : Nat} {x y z : Rg} (h : LawW w0 A B X Y x y z u) (hb : Below u.heap.size u u') : LawW w0 A B X Y x y z u' :=
  ⟨⟨h.1.1.below hb, h.1.2.1.below hb, h.1.2.2.1.below hb, h.1.2.2.2.below hb⟩, h.2.1.below hb, below_step h.2.2 hb⟩
theorem regs_two (w : World) (x y : Rg) (t : TypeId) : RegAt ((w.alloc (.cells x.cells.toArray t)).alloc (.cells y.cells.toArray t)) w.heap.size x ∧ RegAt ((w.alloc (.cells x.cells.toArray t)).alloc (.cells y.cells.toArray t)) (w.heap.size + 1) y ∧ Below w.heap.size w ((w.alloc (.cells x.cells.toArray t)).alloc (.cells y.cells.toArray t)) := by
  have h1 := RegAt.new w x t
  have h2 := RegAt.new (w.alloc (.cells x.cells.toArray t)) y t
  have e : (w.alloc (.cells x.cells.toArray t)).heap.size = w.heap.size + 1 := by simp
  rw [e] at h2
  exact ⟨h1.below ((Below.refl _ _).alloc (Nat.le_refl _) _), h2, ((Below.refl _ _).alloc (Nat.le_refl _) _).alloc (by simp) _⟩

set_option maxRecDepth 100000 in
set_option maxHeartbeats 4000000 in
theorem shows_walk (x y : Rg) (ok : x.Ok) (_oy : y.Ok) (w : World) (ht : Tab w) : Calls Tryd.prog 5 #[.agg x.cells.toArray, .agg y.cells.toArray] w fun e w' => e = .returned (.bool true) ∧ Below w.heap.size w w' := by
  have K := Lib.hid (regs_two w x y 24)
  have H := Lib.hid ht
  have OK := Lib.hid ok
  obtain ⟨i0, i1⟩ := ok.i
  obtain ⟨r0, r1⟩ := ok.r
  clear ht ok
  go_enter Tryd.func5, Tryd.ntmps5
  go_upto_region 1 with (fail)
  have k0 := K.out
  clear K
  generalize (w.alloc (.cells x.cells.toArray 24)).alloc (.cells y.cells.toArray 24) = w1 at k0 ⊢
  have ha := k0.1.at'
  have hl := fun u => run_regLoad u w.heap.size x
  have hz := regs_two w1 Rg.zero Rg.zero 24
  rw [zero_arr] at hz
  have HZ := Lib.hid hz
  have K0 := Lib.hid k0
  clear hz k0
  go_wp2_with (fail)
  have z := HZ.out
  clear HZ ha
  generalize (w1.alloc (.cells #[.int .u8 0, .int .u8 0, .int .u8 0, .int .u8 0, .int .u8 0, .int .u8 0, .int .u8 0, .int .u8 0, .int .u8 0, .int .u8 0, .int .u8 0, .int .u8 0, .int .u8 0, .int .u8 0, .int .u8 0, .int .u8 0, .int .u8 0, .int .u8 0, .int .u8 0, .int .u16 0, .int .u16 0, .int .u16 0, .int .u16 0, .int .u16 0, .bool false, .bool false, .bool false, .bool false, .int .u8 0, .int .u8 0] 24)).alloc (.cells #[.int .u8 0, .int .u8 0, .int .u8 0, .int .u8 0, .int .u8 0, .int .u8 0, .int .u8 0, .int .u8 0, .int .u8 0, .int .u8 0, .int .u8 0, .int .u8 0, .int .u8 0, .int .u8 0, .int .u8 0, .int .u8 0, .int .u8 0, .int .u8 0, .int .u8 0, .int .u16 0, .int .u16 0, .int .u16 0, .int .u16 0, .int .u16 0, .bool false, .bool false, .bool false, .bool false, .int .u8 0, .int .u8 0] 24) = w2 at z ⊢
  obtain ⟨y1, y2, bb⟩ := z
  have hst := run_storeRegs y1 x
  rw [hst]
  have g1 := y1.fill x
  have g2 := Wrote.setCells w1.heap.size x.cells 0 w2
  clear hst y1
  generalize w2.setCells w1.heap.size 0 x.cells = w3 at g1 g2 ⊢
  have Y := Lib.hid (show RegAt w3 w1.heap.size x ∧ RegAt w3 (w1.heap.size + 1) Rg.zero ∧ Below w1.heap.size w1 w3 from ⟨g1, y2.wrote g2 (by omega), bb.trans (g2.below (by omega))⟩)
  clear g1 g2 y2 bb
  go_wp2_with (fail)
  obtain ⟨y1, y2, bb⟩ := Y.out
  clear Y
  have hst := run_storeRegs y2 x
  rw [hst]
  have g1 := y2.fill x
  have g2 := Wrote.setCells (w1.heap.size + 1) x.cells 0 w3
  clear hst y2
  generalize w3.setCells (w1.heap.size + 1) 0 x.cells = w4 at g1 g2 ⊢
  have hlt := K0.out.1.lt
  have hl2 := K0.out.2.1.lt
  have b4 : Below w1.heap.size w1 w4 := bb.trans (g2.below (by omega))
  have K3 := Lib.hid (show (RegAt w4 w.heap.size x ∧ RegAt w4 (w.heap.size + 1) y ∧ RegAt w4 w1.heap.size x ∧ RegAt w4 (w1.heap.size + 1) x) ∧ Below w.heap.size w w4 from ⟨⟨K0.out.1.below b4, K0.out.2.1.below b4, y1.wrote g2 (by omega), g1⟩, below_step K0.out.2.2 b4⟩)
  clear y1 g1 g2 bb b4 K0
  go_wp2_with (fail)
  refine (tick_any w1.heap.size x _ K3.out.1.2.2.1 OK.out.r).mono ?_
  intro e w5 hP
  obtain ⟨rfl, hw, hr⟩ := hP
  have K5 := Lib.hid (show (RegAt w5 w.heap.size x ∧ RegAt w5 (w.heap.size + 1) y ∧ RegAt w5 w1.heap.size (tickR x) ∧ RegAt w5 (w1.heap.size + 1) x) ∧ Below w.heap.size w w5 from ⟨⟨K3.out.1.1.wrote hw (by omega), K3.out.1.2.1.wrote hw (by omega), hr, K3.out.1.2.2.2.wrote hw (by omega)⟩, K3.out.2.trans (hw.below (by omega))⟩)
  have c0 := K5.out.1.1.cell 17 _ rfl
  clear hw hr K3
  go_wp2_with (fail)
  refine (refTick_any x.r _ r0 r1).mono ?_
  rintro e w' ⟨rfl, rfl⟩
  have c1 := K5.out.1.2.2.2.cell 17 _ rfl
  have g1 := K5.out.1.2.2.2.free 17
  have r8 : RegAt (w5.setCell ⟨w1.heap.size + 1, 17, none⟩ (.int .u8 (tickV x.r))) (w1.heap.size + 1) (tickR x) := K5.out.1.2.2.2.set (y := tickR x) 17 _ (by decide) rfl
  have w8r := Wrote.setCell (w1.heap.size + 1) 17 w5 (.int .u8 (tickV x.r))
  have s8 : LawW w w.heap.size (w.heap.size + 1) w1.heap.size (w1.heap.size + 1) x y (tickR x) (w5.setCell ⟨w1.heap.size + 1, 17, none⟩ (.int .u8 (tickV x.r))) := ⟨⟨K5.out.1.1.wrote w8r (by omega), K5.out.1.2.1.wrote w8r (by omega), K5.out.1.2.2.1.wrote w8r (by omega), r8⟩, H.out.below (K5.out.2.trans (w8r.below (by omega))), K5.out.2.trans (w8r.below (by omega))⟩
  have S8 := Lib.hid s8
  clear K5 r8 w8r s8 c0
  go_wp2_with (fail)
  have s8 := S8.out
  clear S8 c1 g1
  generalize w5.setCell ⟨w1.heap.size + 1, 17, none⟩ (.int .u8 (tickV x.r)) = w8 at s8 ⊢
  have HU := Lib.hid (show ∀ u : World, LawW w w.heap.size (w.heap.size + 1) w1.heap.size (w1.heap.size + 1) x y (tickR x) u → (fun u => (u.rangeAt w.heap.size 0 x.cells ∧ u.rangeAt (w.heap.size + 1) 0 y.cells ∧ u.rangeAt w1.heap.size 0 (tickR x).cells ∧ u.rangeAt (w1.heap.size + 1) 0 (tickR x).cells) ∧ (u.cell? ⟨w.heap.size, 16, none⟩ = some (.int .u8 x.i) ∧ u.cell? ⟨w.heap.size, 17, none⟩ = some (.int .u8 x.r)) ∧ LawW w w.heap.size (w.heap.size + 1) w1.heap.size (w1.heap.size + 1) x y (tickR x) u) u from fun u hu => ⟨⟨hu.1.1.at', hu.1.2.1.at', hu.1.2.2.1.at', hu.1.2.2.2.at'⟩, ⟨hu.1.1.cell 16 _ rfl, hu.1.1.cell 17 _ rfl⟩, hu⟩)
  have HST := Lib.hid (show ∀ u u' : World, (fun u => (u.rangeAt w.heap.size 0 x.cells ∧ u.rangeAt (w.heap.size + 1) 0 y.cells ∧ u.rangeAt w1.heap.size 0 (tickR x).cells ∧ u.rangeAt (w1.heap.size + 1) 0 (tickR x).cells) ∧ (u.cell? ⟨w.heap.size, 16, none⟩ = some (.int .u8 x.i) ∧ u.cell? ⟨w.heap.size, 17, none⟩ = some (.int .u8 x.r)) ∧ LawW w w.heap.size (w.heap.size + 1) w1.heap.size (w1.heap.size + 1) x y (tickR x) u) u → Below u.heap.size u u' → (fun u => (u.rangeAt w.heap.size 0 x.cells ∧ u.rangeAt (w.heap.size + 1) 0 y.cells ∧ u.rangeAt w1.heap.size 0 (tickR x).cells ∧ u.rangeAt (w1.heap.size + 1) 0 (tickR x).cells) ∧ (u.cell? ⟨w.heap.size, 16, none⟩ = some (.int .u8 x.i) ∧ u.cell? ⟨w.heap.size, 17, none⟩ = some (.int .u8 x.r)) ∧ LawW w w.heap.size (w.heap.size + 1) w1.heap.size (w1.heap.size + 1) x y (tickR x) u) u' from fun u u' hu hb => HU.out _ (hu.2.2.below hb))
  have hl2 := fun u => run_regLoad u (w.heap.size + 1) y
  have hm := fun u => run_regLoad u w1.heap.size (tickR x)
  have hm2 := fun u => run_regLoad u (w1.heap.size + 1) (tickR x)
  have ht := eqR_self (tickR x)
  obtain ⟨T, hT⟩ : ∃ T, strL (showL x) = T := ⟨_, rfl⟩
  have HT := Lib.hid hT
  clear hT
  have JI := Lib.hid (show ∀ u : World, (fun u => (u.rangeAt w.heap.size 0 x.cells ∧ u.rangeAt (w.heap.size + 1) 0 y.cells ∧ u.rangeAt w1.heap.size 0 (tickR x).cells ∧ u.rangeAt (w1.heap.size + 1) 0 (tickR x).cells) ∧ (u.cell? ⟨w.heap.size, 16, none⟩ = some (.int .u8 x.i) ∧ u.cell? ⟨w.heap.size, 17, none⟩ = some (.int .u8 x.r)) ∧ LawW w w.heap.size (w.heap.size + 1) w1.heap.size (w1.heap.size + 1) x y (tickR x) u) u → Calls Tryd.prog 21 #[.pointer (some ⟨w.heap.size, 0, none⟩)] u fun e w' => e = .returned (.int .u16 (256 * x.i + x.r)) ∧ (fun u => (u.rangeAt w.heap.size 0 x.cells ∧ u.rangeAt (w.heap.size + 1) 0 y.cells ∧ u.rangeAt w1.heap.size 0 (tickR x).cells ∧ u.rangeAt (w1.heap.size + 1) 0 (tickR x).cells) ∧ (u.cell? ⟨w.heap.size, 16, none⟩ = some (.int .u8 x.i) ∧ u.cell? ⟨w.heap.size, 17, none⟩ = some (.int .u8 x.r)) ∧ LawW w w.heap.size (w.heap.size + 1) w1.heap.size (w1.heap.size + 1) x y (tickR x) u) w' from fun u hu => keep_B HST.out hu (by have := ir_any w.heap.size x u hu.2.2.1.1 OK.out; rw [Int.mul_comm] at this; exact this))
  have JA := Lib.hid (show ∀ u : World, (fun u => (u.rangeAt w.heap.size 0 x.cells ∧ u.rangeAt (w.heap.size + 1) 0 y.cells ∧ u.rangeAt w1.heap.size 0 (tickR x).cells ∧ u.rangeAt (w1.heap.size + 1) 0 (tickR x).cells) ∧ (u.cell? ⟨w.heap.size, 16, none⟩ = some (.int .u8 x.i) ∧ u.cell? ⟨w.heap.size, 17, none⟩ = some (.int .u8 x.r)) ∧ LawW w w.heap.size (w.heap.size + 1) w1.heap.size (w1.heap.size + 1) x y (tickR x) u) u → Calls Tryd.prog 22 #[.pointer (some ⟨w.heap.size, 0, none⟩)] u fun e w' => e = .returned (.string T) ∧ (fun u => (u.rangeAt w.heap.size 0 x.cells ∧ u.rangeAt (w.heap.size + 1) 0 y.cells ∧ u.rangeAt w1.heap.size 0 (tickR x).cells ∧ u.rangeAt (w1.heap.size + 1) 0 (tickR x).cells) ∧ (u.cell? ⟨w.heap.size, 16, none⟩ = some (.int .u8 x.i) ∧ u.cell? ⟨w.heap.size, 17, none⟩ = some (.int .u8 x.r)) ∧ LawW w w.heap.size (w.heap.size + 1) w1.heap.size (w1.heap.size + 1) x y (tickR x) u) w' from fun u hu => keep_B HST.out hu (HT.out ▸ show_any w.heap.size x u hu.2.2.1.1 OK.out hu.2.2.2.1))
  have JB := Lib.hid (show ∀ u : World, (fun u => (u.rangeAt w.heap.size 0 x.cells ∧ u.rangeAt (w.heap.size + 1) 0 y.cells ∧ u.rangeAt w1.heap.size 0 (tickR x).cells ∧ u.rangeAt (w1.heap.size + 1) 0 (tickR x).cells) ∧ (u.cell? ⟨w.heap.size, 16, none⟩ = some (.int .u8 x.i) ∧ u.cell? ⟨w.heap.size, 17, none⟩ = some (.int .u8 x.r)) ∧ LawW w w.heap.size (w.heap.size + 1) w1.heap.size (w1.heap.size + 1) x y (tickR x) u) u → Calls Tryd.prog 23 #[.agg x.cells.toArray] u fun e w' => e = .returned (.string T) ∧ (fun u => (u.rangeAt w.heap.size 0 x.cells ∧ u.rangeAt (w.heap.size + 1) 0 y.cells ∧ u.rangeAt w1.heap.size 0 (tickR x).cells ∧ u.rangeAt (w1.heap.size + 1) 0 (tickR x).cells) ∧ (u.cell? ⟨w.heap.size, 16, none⟩ = some (.int .u8 x.i) ∧ u.cell? ⟨w.heap.size, 17, none⟩ = some (.int .u8 x.r)) ∧ LawW w w.heap.size (w.heap.size + 1) w1.heap.size (w1.heap.size + 1) x y (tickR x) u) w' from fun u hu => keep_B HST.out hu (HT.out ▸ refShow_any x u OK.out))
  have JS := Lib.hid (show ∀ u : World, (fun u => (u.rangeAt w.heap.size 0 x.cells ∧ u.rangeAt (w.heap.size + 1) 0 y.cells ∧ u.rangeAt w1.heap.size 0 (tickR x).cells ∧ u.rangeAt (w1.heap.size + 1) 0 (tickR x).cells) ∧ (u.cell? ⟨w.heap.size, 16, none⟩ = some (.int .u8 x.i) ∧ u.cell? ⟨w.heap.size, 17, none⟩ = some (.int .u8 x.r)) ∧ LawW w w.heap.size (w.heap.size + 1) w1.heap.size (w1.heap.size + 1) x y (tickR x) u) u → Calls Tryd.prog 24 #[.pointer (some ⟨w.heap.size, 0, none⟩), .pointer (some ⟨w.heap.size + 1, 0, none⟩)] u fun e w' => e = .returned (.bool (eqR x y)) ∧ (fun u => (u.rangeAt w.heap.size 0 x.cells ∧ u.rangeAt (w.heap.size + 1) 0 y.cells ∧ u.rangeAt w1.heap.size 0 (tickR x).cells ∧ u.rangeAt (w1.heap.size + 1) 0 (tickR x).cells) ∧ (u.cell? ⟨w.heap.size, 16, none⟩ = some (.int .u8 x.i) ∧ u.cell? ⟨w.heap.size, 17, none⟩ = some (.int .u8 x.r)) ∧ LawW w w.heap.size (w.heap.size + 1) w1.heap.size (w1.heap.size + 1) x y (tickR x) u) w' from fun u hu => keep_B HST.out hu (same_any _ _ x y u hu.2.2.1.1 hu.2.2.1.2.1))
  have JT := Lib.hid (show ∀ u : World, (fun u => (u.rangeAt w.heap.size 0 x.cells ∧ u.rangeAt (w.heap.size + 1) 0 y.cells ∧ u.rangeAt w1.heap.size 0 (tickR x).cells ∧ u.rangeAt (w1.heap.size + 1) 0 (tickR x).cells) ∧ (u.cell? ⟨w.heap.size, 16, none⟩ = some (.int .u8 x.i) ∧ u.cell? ⟨w.heap.size, 17, none⟩ = some (.int .u8 x.r)) ∧ LawW w w.heap.size (w.heap.size + 1) w1.heap.size (w1.heap.size + 1) x y (tickR x) u) u → Calls Tryd.prog 24 #[.pointer (some ⟨w.heap.size, 0, none⟩), .pointer (some ⟨w.heap.size, 0, none⟩)] u fun e w' => e = .returned (.bool true) ∧ (fun u => (u.rangeAt w.heap.size 0 x.cells ∧ u.rangeAt (w.heap.size + 1) 0 y.cells ∧ u.rangeAt w1.heap.size 0 (tickR x).cells ∧ u.rangeAt (w1.heap.size + 1) 0 (tickR x).cells) ∧ (u.cell? ⟨w.heap.size, 16, none⟩ = some (.int .u8 x.i) ∧ u.cell? ⟨w.heap.size, 17, none⟩ = some (.int .u8 x.r)) ∧ LawW w w.heap.size (w.heap.size + 1) w1.heap.size (w1.heap.size + 1) x y (tickR x) u) w' from fun u hu => keep_B HST.out hu (eqR_self x ▸ same_any _ _ x x u hu.2.2.1.1 hu.2.2.1.1))
  have JL := Lib.hid (show ∀ u : World, (fun u => (u.rangeAt w.heap.size 0 x.cells ∧ u.rangeAt (w.heap.size + 1) 0 y.cells ∧ u.rangeAt w1.heap.size 0 (tickR x).cells ∧ u.rangeAt (w1.heap.size + 1) 0 (tickR x).cells) ∧ (u.cell? ⟨w.heap.size, 16, none⟩ = some (.int .u8 x.i) ∧ u.cell? ⟨w.heap.size, 17, none⟩ = some (.int .u8 x.r)) ∧ LawW w w.heap.size (w.heap.size + 1) w1.heap.size (w1.heap.size + 1) x y (tickR x) u) u → Calls Tryd.prog 12 #[] u fun e w' => e = .returned (.bool true) ∧ (fun u => (u.rangeAt w.heap.size 0 x.cells ∧ u.rangeAt (w.heap.size + 1) 0 y.cells ∧ u.rangeAt w1.heap.size 0 (tickR x).cells ∧ u.rangeAt (w1.heap.size + 1) 0 (tickR x).cells) ∧ (u.cell? ⟨w.heap.size, 16, none⟩ = some (.int .u8 x.i) ∧ u.cell? ⟨w.heap.size, 17, none⟩ = some (.int .u8 x.r)) ∧ LawW w w.heap.size (w.heap.size + 1) w1.heap.size (w1.heap.size + 1) x y (tickR x) u) w' from fun u hu => keep_B HST.out hu (lives_any u hu.2.2.2.1))
  have cva : IntKind.i64.wrap x.i = x.i := IntWalk.i64_in _ (by omega)
  have cvf : IntKind.i64.wrap x.r = x.r := IntWalk.i64_in _ (by omega)
  have cv1 : IntKind.i64.wrap (256 * x.i) = 256 * x.i := IntWalk.i64_in _ (by omega)
  have cv2 : IntKind.i64.wrap (256 * x.i + x.r) = 256 * x.i + x.r := IntWalk.i64_in _ (by omega)
  have hS1 := HST.out _ _ (HU.out _ s8) (Below.refl _ _).drew
  clear s8
  go_region_held3 (fun u => (u.rangeAt w.heap.size 0 x.cells ∧ u.rangeAt (w.heap.size + 1) 0 y.cells ∧ u.rangeAt w1.heap.size 0 (tickR x).cells ∧ u.rangeAt (w1.heap.size + 1) 0 (tickR x).cells) ∧ (u.cell? ⟨w.heap.size, 16, none⟩ = some (.int .u8 x.i) ∧ u.cell? ⟨w.heap.size, 17, none⟩ = some (.int .u8 x.r)) ∧ LawW w w.heap.size (w.heap.size + 1) w1.heap.size (w1.heap.size + 1) x y (tickR x) u) (assumption) (first | (go_at_call 21; refine (JI.out _ (by assumption)).mono ?_; rintro e w' ⟨rfl, hE⟩) | (go_at_call 22; refine (JA.out _ (by assumption)).mono ?_; rintro e w' ⟨rfl, hE⟩) | (go_at_call 23; refine (JB.out _ (by assumption)).mono ?_; rintro e w' ⟨rfl, hE⟩) | (go_at_call 24; (first | (with_reducible refine (JS.out _ (by assumption)).mono ?_) | (with_reducible refine (JT.out _ (by assumption)).mono ?_)); rintro e w' ⟨rfl, hE⟩) | (go_at_call 12; refine (JL.out _ (by assumption)).mono ?_; rintro e w' ⟨rfl, hF⟩))
  have B := Lib.hid hF.2.2.2.2
  clear hF hS1
  go_wp2_with fail
  go_ret
  exact ⟨rfl, B.out⟩

end Go.Proofs.YteffjidbcdnbhaaDoor
