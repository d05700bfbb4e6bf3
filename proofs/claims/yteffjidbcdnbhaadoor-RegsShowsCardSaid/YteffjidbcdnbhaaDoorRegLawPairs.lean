/- The walk of the law on pairs. -/
import Derived.Test.YteffjidbcdnbhaaDoorRegLawBytes
namespace Go.Proofs.YteffjidbcdnbhaaDoor
open Go.RowKit

attribute [local simp ↓ high] load_as eql_as
attribute [local simp] run_regEql regs_guard eqR_self

def afV (x : Rg) (n : Int) : Rg := { x with a := n / 256, f := n % 256 }
def LawP (w0 : World) (R N X Y V : Nat) (x y z : Rg) (k i : Int) (u : World) : Prop := (RegAt u R x ∧ RegAt u X y ∧ RegAt u Y z ∧ RegAt u V z) ∧ NumAt u N k i ∧ Tab u ∧ Below w0.heap.size w0 u
theorem LawP.below {w0 u u' : World} {R N X Y V : Nat} {x y z : Rg} {k i : Int} (h : LawP w0 R N X Y V x y z k i u) (hb : Below u.heap.size u u') : LawP w0 R N X Y V x y z k i u' :=
  ⟨⟨h.1.1.below hb, h.1.2.1.below hb, h.1.2.2.1.below hb, h.1.2.2.2.below hb⟩, h.2.1.below hb, h.2.2.1.below hb, below_step h.2.2.2 hb⟩
theorem new_three (w : World) (t : TypeId) : RegAt (((w.alloc (.cells Rg.zero.cells.toArray t)).alloc (.cells Rg.zero.cells.toArray t)).alloc (.cells Rg.zero.cells.toArray t)) w.heap.size Rg.zero ∧ RegAt (((w.alloc (.cells Rg.zero.cells.toArray t)).alloc (.cells Rg.zero.cells.toArray t)).alloc (.cells Rg.zero.cells.toArray t)) (w.heap.size + 1) Rg.zero ∧ RegAt (((w.alloc (.cells Rg.zero.cells.toArray t)).alloc (.cells Rg.zero.cells.toArray t)).alloc (.cells Rg.zero.cells.toArray t)) (w.heap.size + 2) Rg.zero ∧ Below w.heap.size w (((w.alloc (.cells Rg.zero.cells.toArray t)).alloc (.cells Rg.zero.cells.toArray t)).alloc (.cells Rg.zero.cells.toArray t)) := by
  have h1 := RegAt.new w Rg.zero t
  have h2 := RegAt.new (w.alloc (.cells Rg.zero.cells.toArray t)) Rg.zero t
  have h3 := RegAt.new ((w.alloc (.cells Rg.zero.cells.toArray t)).alloc (.cells Rg.zero.cells.toArray t)) Rg.zero t
  have e1 : (w.alloc (.cells Rg.zero.cells.toArray t)).heap.size = w.heap.size + 1 := by simp
  have e2 : ((w.alloc (.cells Rg.zero.cells.toArray t)).alloc (.cells Rg.zero.cells.toArray t)).heap.size = w.heap.size + 2 := by simp
  rw [e1] at h2
  rw [e2] at h3
  have bn : ∀ u : World, Below u.heap.size u (u.alloc (.cells Rg.zero.cells.toArray t)) := fun u => (Below.refl _ _).alloc (Nat.le_refl _) _
  exact ⟨(h1.below (bn _)).below (bn _), h2.below (bn _), h3, ((bn w).alloc (by simp) _).alloc (by simp; omega) _⟩
theorem wrapW {n : Int} (h0 : 0 ≤ n) (h1 : n ≤ 65535) : IntKind.i64.wrap n = n := IntWalk.i64_in _ (by omega)

set_option maxRecDepth 100000 in
set_option maxHeartbeats 4000000 in
theorem pairs_walk (x : Rg) (k i n : Int) (ok : x.Ok) (hn : (Lit.int .u16 n).wf = true) (w : World) (ht : Tab w) : Calls Tryd.prog 4 #[.agg x.cells.toArray, .agg #[.int .i64 k, .int .i64 i], .int .u16 n] w fun e w' => e = .returned (.bool true) ∧ Below w.heap.size w w' := by
  have hb16 := bounds_u16 hn
  have v0 : 0 ≤ n := by omega
  have v1 : n ≤ 65535 := by omega
  have K := Lib.hid (boxed_two w x k i 24 25)
  have H := Lib.hid ht
  have OK := Lib.hid ok
  obtain ⟨a0, a1⟩ := ok.a
  obtain ⟨f0, f1⟩ := ok.f
  clear ht ok hn hb16
  go_enter Tryd.func4, Tryd.ntmps4
  go_upto_region 1 with (fail)
  have k0 := K.out
  clear K
  generalize (w.alloc (.cells x.cells.toArray 24)).alloc (.cells #[.int .i64 k, .int .i64 i] 25) = w1 at k0 ⊢
  have ha := k0.1.at'
  have hl := fun u => run_regLoad u w.heap.size x
  have hz := new_three w1 24
  rw [zero_arr] at hz
  have HZ := Lib.hid hz
  have K0 := Lib.hid k0
  clear hz k0
  go_wp2_with (fail)
  have z := HZ.out
  clear HZ ha
  generalize ((w1.alloc (.cells #[.int .u8 0, .int .u8 0, .int .u8 0, .int .u8 0, .int .u8 0, .int .u8 0, .int .u8 0, .int .u8 0, .int .u8 0, .int .u8 0, .int .u8 0, .int .u8 0, .int .u8 0, .int .u8 0, .int .u8 0, .int .u8 0, .int .u8 0, .int .u8 0, .int .u8 0, .int .u16 0, .int .u16 0, .int .u16 0, .int .u16 0, .int .u16 0, .bool false, .bool false, .bool false, .bool false, .int .u8 0, .int .u8 0] 24)).alloc (.cells #[.int .u8 0, .int .u8 0, .int .u8 0, .int .u8 0, .int .u8 0, .int .u8 0, .int .u8 0, .int .u8 0, .int .u8 0, .int .u8 0, .int .u8 0, .int .u8 0, .int .u8 0, .int .u8 0, .int .u8 0, .int .u8 0, .int .u8 0, .int .u8 0, .int .u8 0, .int .u16 0, .int .u16 0, .int .u16 0, .int .u16 0, .int .u16 0, .bool false, .bool false, .bool false, .bool false, .int .u8 0, .int .u8 0] 24)).alloc (.cells #[.int .u8 0, .int .u8 0, .int .u8 0, .int .u8 0, .int .u8 0, .int .u8 0, .int .u8 0, .int .u8 0, .int .u8 0, .int .u8 0, .int .u8 0, .int .u8 0, .int .u8 0, .int .u8 0, .int .u8 0, .int .u8 0, .int .u8 0, .int .u8 0, .int .u8 0, .int .u16 0, .int .u16 0, .int .u16 0, .int .u16 0, .int .u16 0, .bool false, .bool false, .bool false, .bool false, .int .u8 0, .int .u8 0] 24) = w2 at z ⊢
  have y1 := z.1
  have y2 := z.2.1
  have y3 := z.2.2.1
  have bb := z.2.2.2
  clear z
  have hst := run_storeRegs y1 x
  rw [hst]
  have g1 := y1.fill x
  have g2 := Wrote.setCells w1.heap.size x.cells 0 w2
  clear hst y1
  generalize w2.setCells w1.heap.size 0 x.cells = w3 at g1 g2 ⊢
  replace y2 := y2.wrote g2 (by omega)
  replace y3 := y3.wrote g2 (by omega)
  have y1 := g1
  replace bb := bb.trans (g2.below (by omega))
  clear g1 g2
  have Y := Lib.hid (And.intro y1 (And.intro y2 (And.intro y3 bb)))
  clear y1 y2 y3 bb
  go_wp2_with (fail)
  obtain ⟨y1, y2, y3, bb⟩ := Y.out
  clear Y
  have hst := run_storeRegs y2 x
  rw [hst]
  have g1 := y2.fill x
  have g2 := Wrote.setCells (w1.heap.size + 1) x.cells 0 w3
  clear hst y2
  generalize w3.setCells (w1.heap.size + 1) 0 x.cells = w4 at g1 g2 ⊢
  replace y1 := y1.wrote g2 (by omega)
  replace y3 := y3.wrote g2 (by omega)
  have y2 := g1
  replace bb := bb.trans (g2.below (by omega))
  clear g1 g2
  have Y := Lib.hid (And.intro y1 (And.intro y2 (And.intro y3 bb)))
  clear y1 y2 y3 bb
  go_wp2_with (fail)
  obtain ⟨y1, y2, y3, bb⟩ := Y.out
  clear Y
  have hst := run_storeRegs y3 x
  rw [hst]
  have g1 := y3.fill x
  have g2 := Wrote.setCells (w1.heap.size + 1 + 1) x.cells 0 w4
  clear hst y3
  generalize w4.setCells (w1.heap.size + 1 + 1) 0 x.cells = w5 at g1 g2 ⊢
  replace y1 := y1.wrote g2 (by omega)
  replace y2 := y2.wrote g2 (by omega)
  have y3 := g1
  replace bb := bb.trans (g2.below (by omega))
  clear g1 g2
  have hlt := K0.out.1.lt
  have hl2 := K0.out.2.1.1
  have K3 := Lib.hid (show (RegAt w5 w.heap.size x ∧ RegAt w5 w1.heap.size x ∧ RegAt w5 (w1.heap.size + 1) x ∧ RegAt w5 (w1.heap.size + 1 + 1) x) ∧ NumAt w5 (w.heap.size + 1) k i ∧ Below w.heap.size w w5 from ⟨⟨K0.out.1.below bb, y1, y2, y3⟩, K0.out.2.1.below bb, below_step K0.out.2.2 bb⟩)
  have n0 := K3.out.2.1.2.1
  have n1 := K3.out.2.1.2.2
  clear y1 y2 y3 bb K0
  go_wp2_with (fail)
  refine (putPair_any w1.heap.size x k i n _ K3.out.1.2.1 v0 v1).mono ?_
  intro e w6 hP
  obtain ⟨rfl, hw, hr⟩ := hP
  have K6 := Lib.hid (show (RegAt w6 w.heap.size x ∧ RegAt w6 w1.heap.size (putPairV x k i n) ∧ RegAt w6 (w1.heap.size + 1) x ∧ RegAt w6 (w1.heap.size + 1 + 1) x) ∧ NumAt w6 (w.heap.size + 1) k i ∧ Below w.heap.size w w6 from ⟨⟨K3.out.1.1.wrote hw (by omega), hr, K3.out.1.2.2.1.wrote hw (by omega), K3.out.1.2.2.2.wrote hw (by omega)⟩, K3.out.2.1.wrote hw (by omega), K3.out.2.2.trans (hw.below (by omega))⟩)
  clear hw hr n0 n1 K3
  go_wp2_with (fail)
  refine (putAf_any (w1.heap.size + 1) x n _ K6.out.1.2.2.1 v0 v1).mono ?_
  intro e w7 hP
  obtain ⟨rfl, hw, hr⟩ := hP
  have K7 := Lib.hid (show (RegAt w7 w.heap.size x ∧ RegAt w7 w1.heap.size (putPairV x k i n) ∧ RegAt w7 (w1.heap.size + 1) (afV x n) ∧ RegAt w7 (w1.heap.size + 1 + 1) x) ∧ NumAt w7 (w.heap.size + 1) k i ∧ Below w.heap.size w w7 from ⟨⟨K6.out.1.1.wrote hw (by omega), K6.out.1.2.1.wrote hw (by omega), hr, K6.out.1.2.2.2.wrote hw (by omega)⟩, K6.out.2.1.wrote hw (by omega), K6.out.2.2.trans (hw.below (by omega))⟩)
  have c0 := K7.out.1.2.2.2.cell 0 _ rfl
  have c1 := K7.out.1.2.2.2.cell 1 _ rfl
  have g0 := K7.out.1.2.2.2.free 0
  have g1 := K7.out.1.2.2.2.free 1
  have r8 : RegAt ((w7.setCell ⟨w1.heap.size + 1 + 1, 0, none⟩ (.int .u8 (n / 256))).setCell ⟨w1.heap.size + 1 + 1, 1, none⟩ (.int .u8 (n % 256))) (w1.heap.size + 1 + 1) (afV x n) :=
    (K7.out.1.2.2.2.set (y := { x with a := n / 256 }) 0 _ (by decide) rfl).set (y := afV x n) 1 _ (by decide) rfl
  have w8r : Wrote (w1.heap.size + 1 + 1) w7 ((w7.setCell ⟨w1.heap.size + 1 + 1, 0, none⟩ (.int .u8 (n / 256))).setCell ⟨w1.heap.size + 1 + 1, 1, none⟩ (.int .u8 (n % 256))) := (Wrote.setCell _ _ _ _).trans (Wrote.setCell _ _ _ _)
  have s8 : LawP w w.heap.size (w.heap.size + 1) w1.heap.size (w1.heap.size + 1) (w1.heap.size + 1 + 1) x (putPairV x k i n) (afV x n) k i ((w7.setCell ⟨w1.heap.size + 1 + 1, 0, none⟩ (.int .u8 (n / 256))).setCell ⟨w1.heap.size + 1 + 1, 1, none⟩ (.int .u8 (n % 256))) := ⟨⟨K7.out.1.1.wrote w8r (by omega), K7.out.1.2.1.wrote w8r (by omega), K7.out.1.2.2.1.wrote w8r (by omega), r8⟩, K7.out.2.1.wrote w8r (by omega), H.out.below (K7.out.2.2.trans (w8r.below (by omega))), K7.out.2.2.trans (w8r.below (by omega))⟩
  have S8 := Lib.hid s8
  clear hw hr K6 K7 r8 w8r s8
  go_wp2_with (fail)
  have s8 := S8.out
  clear S8 c0 c1 g0 g1
  generalize (w7.setCell ⟨w1.heap.size + 1 + 1, 0, none⟩ (.int .u8 (n / 256))).setCell ⟨w1.heap.size + 1 + 1, 1, none⟩ (.int .u8 (n % 256)) = w8 at s8 ⊢
  have HU := Lib.hid (show ∀ u : World, LawP w w.heap.size (w.heap.size + 1) w1.heap.size (w1.heap.size + 1) (w1.heap.size + 1 + 1) x (putPairV x k i n) (afV x n) k i u → (fun u => (u.rangeAt w.heap.size 0 x.cells ∧ u.rangeAt w1.heap.size 0 (putPairV x k i n).cells ∧ u.rangeAt (w1.heap.size + 1) 0 (afV x n).cells ∧ u.rangeAt (w1.heap.size + 1 + 1) 0 (afV x n).cells) ∧ (u.cell? ⟨w.heap.size + 1, 0, none⟩ = some (.int .i64 k) ∧ u.cell? ⟨w.heap.size + 1, 1, none⟩ = some (.int .i64 i)) ∧ (u.cell? ⟨w.heap.size, 0, none⟩ = some (.int .u8 x.a) ∧ u.cell? ⟨w.heap.size, 1, none⟩ = some (.int .u8 x.f)) ∧ LawP w w.heap.size (w.heap.size + 1) w1.heap.size (w1.heap.size + 1) (w1.heap.size + 1 + 1) x (putPairV x k i n) (afV x n) k i u) u from fun u hu => ⟨⟨hu.1.1.at', hu.1.2.1.at', hu.1.2.2.1.at', hu.1.2.2.2.at'⟩, hu.2.1.2, ⟨hu.1.1.cell 0 _ rfl, hu.1.1.cell 1 _ rfl⟩, hu⟩)
  have HST := Lib.hid (show ∀ u u' : World, (fun u => (u.rangeAt w.heap.size 0 x.cells ∧ u.rangeAt w1.heap.size 0 (putPairV x k i n).cells ∧ u.rangeAt (w1.heap.size + 1) 0 (afV x n).cells ∧ u.rangeAt (w1.heap.size + 1 + 1) 0 (afV x n).cells) ∧ (u.cell? ⟨w.heap.size + 1, 0, none⟩ = some (.int .i64 k) ∧ u.cell? ⟨w.heap.size + 1, 1, none⟩ = some (.int .i64 i)) ∧ (u.cell? ⟨w.heap.size, 0, none⟩ = some (.int .u8 x.a) ∧ u.cell? ⟨w.heap.size, 1, none⟩ = some (.int .u8 x.f)) ∧ LawP w w.heap.size (w.heap.size + 1) w1.heap.size (w1.heap.size + 1) (w1.heap.size + 1 + 1) x (putPairV x k i n) (afV x n) k i u) u → Below u.heap.size u u' → (fun u => (u.rangeAt w.heap.size 0 x.cells ∧ u.rangeAt w1.heap.size 0 (putPairV x k i n).cells ∧ u.rangeAt (w1.heap.size + 1) 0 (afV x n).cells ∧ u.rangeAt (w1.heap.size + 1 + 1) 0 (afV x n).cells) ∧ (u.cell? ⟨w.heap.size + 1, 0, none⟩ = some (.int .i64 k) ∧ u.cell? ⟨w.heap.size + 1, 1, none⟩ = some (.int .i64 i)) ∧ (u.cell? ⟨w.heap.size, 0, none⟩ = some (.int .u8 x.a) ∧ u.cell? ⟨w.heap.size, 1, none⟩ = some (.int .u8 x.f)) ∧ LawP w w.heap.size (w.heap.size + 1) w1.heap.size (w1.heap.size + 1) (w1.heap.size + 1 + 1) x (putPairV x k i n) (afV x n) k i u) u' from fun u u' hu hb => HU.out _ (hu.2.2.2.below hb))
  have hm := fun u => run_regLoad u w1.heap.size (putPairV x k i n)
  have hm2 := fun u => run_regLoad u (w1.heap.size + 1) (afV x n)
  have hm3 := fun u => run_regLoad u (w1.heap.size + 1 + 1) (afV x n)
  have JA := Lib.hid (show ∀ u : World, (fun u => (u.rangeAt w.heap.size 0 x.cells ∧ u.rangeAt w1.heap.size 0 (putPairV x k i n).cells ∧ u.rangeAt (w1.heap.size + 1) 0 (afV x n).cells ∧ u.rangeAt (w1.heap.size + 1 + 1) 0 (afV x n).cells) ∧ (u.cell? ⟨w.heap.size + 1, 0, none⟩ = some (.int .i64 k) ∧ u.cell? ⟨w.heap.size + 1, 1, none⟩ = some (.int .i64 i)) ∧ (u.cell? ⟨w.heap.size, 0, none⟩ = some (.int .u8 x.a) ∧ u.cell? ⟨w.heap.size, 1, none⟩ = some (.int .u8 x.f)) ∧ LawP w w.heap.size (w.heap.size + 1) w1.heap.size (w1.heap.size + 1) (w1.heap.size + 1 + 1) x (putPairV x k i n) (afV x n) k i u) u → Calls Tryd.prog 15 #[.pointer (some ⟨w.heap.size, 0, none⟩), .int .i64 k, .int .i64 i] u fun e w' => e = .returned (.int .u16 (pairV x k i)) ∧ (fun u => (u.rangeAt w.heap.size 0 x.cells ∧ u.rangeAt w1.heap.size 0 (putPairV x k i n).cells ∧ u.rangeAt (w1.heap.size + 1) 0 (afV x n).cells ∧ u.rangeAt (w1.heap.size + 1 + 1) 0 (afV x n).cells) ∧ (u.cell? ⟨w.heap.size + 1, 0, none⟩ = some (.int .i64 k) ∧ u.cell? ⟨w.heap.size + 1, 1, none⟩ = some (.int .i64 i)) ∧ (u.cell? ⟨w.heap.size, 0, none⟩ = some (.int .u8 x.a) ∧ u.cell? ⟨w.heap.size, 1, none⟩ = some (.int .u8 x.f)) ∧ LawP w w.heap.size (w.heap.size + 1) w1.heap.size (w1.heap.size + 1) (w1.heap.size + 1 + 1) x (putPairV x k i n) (afV x n) k i u) w' from fun u hu => keep_B HST.out hu (pair_any w.heap.size x k i u hu.2.2.2.1.1 OK.out))
  have JB := Lib.hid (show ∀ u : World, (fun u => (u.rangeAt w.heap.size 0 x.cells ∧ u.rangeAt w1.heap.size 0 (putPairV x k i n).cells ∧ u.rangeAt (w1.heap.size + 1) 0 (afV x n).cells ∧ u.rangeAt (w1.heap.size + 1 + 1) 0 (afV x n).cells) ∧ (u.cell? ⟨w.heap.size + 1, 0, none⟩ = some (.int .i64 k) ∧ u.cell? ⟨w.heap.size + 1, 1, none⟩ = some (.int .i64 i)) ∧ (u.cell? ⟨w.heap.size, 0, none⟩ = some (.int .u8 x.a) ∧ u.cell? ⟨w.heap.size, 1, none⟩ = some (.int .u8 x.f)) ∧ LawP w w.heap.size (w.heap.size + 1) w1.heap.size (w1.heap.size + 1) (w1.heap.size + 1 + 1) x (putPairV x k i n) (afV x n) k i u) u → Calls Tryd.prog 16 #[.agg x.cells.toArray, .int .i64 k, .int .i64 i] u fun e w' => e = .returned (.int .u16 (pairV x k i)) ∧ (fun u => (u.rangeAt w.heap.size 0 x.cells ∧ u.rangeAt w1.heap.size 0 (putPairV x k i n).cells ∧ u.rangeAt (w1.heap.size + 1) 0 (afV x n).cells ∧ u.rangeAt (w1.heap.size + 1 + 1) 0 (afV x n).cells) ∧ (u.cell? ⟨w.heap.size + 1, 0, none⟩ = some (.int .i64 k) ∧ u.cell? ⟨w.heap.size + 1, 1, none⟩ = some (.int .i64 i)) ∧ (u.cell? ⟨w.heap.size, 0, none⟩ = some (.int .u8 x.a) ∧ u.cell? ⟨w.heap.size, 1, none⟩ = some (.int .u8 x.f)) ∧ LawP w w.heap.size (w.heap.size + 1) w1.heap.size (w1.heap.size + 1) (w1.heap.size + 1 + 1) x (putPairV x k i n) (afV x n) k i u) w' from fun u hu => keep_B HST.out hu (refPair_any x k i u OK.out))
  have JP := Lib.hid (show ∀ u : World, (fun u => (u.rangeAt w.heap.size 0 x.cells ∧ u.rangeAt w1.heap.size 0 (putPairV x k i n).cells ∧ u.rangeAt (w1.heap.size + 1) 0 (afV x n).cells ∧ u.rangeAt (w1.heap.size + 1 + 1) 0 (afV x n).cells) ∧ (u.cell? ⟨w.heap.size + 1, 0, none⟩ = some (.int .i64 k) ∧ u.cell? ⟨w.heap.size + 1, 1, none⟩ = some (.int .i64 i)) ∧ (u.cell? ⟨w.heap.size, 0, none⟩ = some (.int .u8 x.a) ∧ u.cell? ⟨w.heap.size, 1, none⟩ = some (.int .u8 x.f)) ∧ LawP w w.heap.size (w.heap.size + 1) w1.heap.size (w1.heap.size + 1) (w1.heap.size + 1 + 1) x (putPairV x k i n) (afV x n) k i u) u → Calls Tryd.prog 17 #[.agg x.cells.toArray, .int .i64 k, .int .i64 i, .int .u16 n] u fun e w' => e = .returned (.agg (putPairV x k i n).cells.toArray) ∧ (fun u => (u.rangeAt w.heap.size 0 x.cells ∧ u.rangeAt w1.heap.size 0 (putPairV x k i n).cells ∧ u.rangeAt (w1.heap.size + 1) 0 (afV x n).cells ∧ u.rangeAt (w1.heap.size + 1 + 1) 0 (afV x n).cells) ∧ (u.cell? ⟨w.heap.size + 1, 0, none⟩ = some (.int .i64 k) ∧ u.cell? ⟨w.heap.size + 1, 1, none⟩ = some (.int .i64 i)) ∧ (u.cell? ⟨w.heap.size, 0, none⟩ = some (.int .u8 x.a) ∧ u.cell? ⟨w.heap.size, 1, none⟩ = some (.int .u8 x.f)) ∧ LawP w w.heap.size (w.heap.size + 1) w1.heap.size (w1.heap.size + 1) (w1.heap.size + 1 + 1) x (putPairV x k i n) (afV x n) k i u) w' from fun u hu => keep_B HST.out hu (refPutPair_any x k i n u OK.out v0 v1))
  have JF := Lib.hid (show ∀ u : World, (fun u => (u.rangeAt w.heap.size 0 x.cells ∧ u.rangeAt w1.heap.size 0 (putPairV x k i n).cells ∧ u.rangeAt (w1.heap.size + 1) 0 (afV x n).cells ∧ u.rangeAt (w1.heap.size + 1 + 1) 0 (afV x n).cells) ∧ (u.cell? ⟨w.heap.size + 1, 0, none⟩ = some (.int .i64 k) ∧ u.cell? ⟨w.heap.size + 1, 1, none⟩ = some (.int .i64 i)) ∧ (u.cell? ⟨w.heap.size, 0, none⟩ = some (.int .u8 x.a) ∧ u.cell? ⟨w.heap.size, 1, none⟩ = some (.int .u8 x.f)) ∧ LawP w w.heap.size (w.heap.size + 1) w1.heap.size (w1.heap.size + 1) (w1.heap.size + 1 + 1) x (putPairV x k i n) (afV x n) k i u) u → Calls Tryd.prog 18 #[.pointer (some ⟨w.heap.size, 0, none⟩)] u fun e w' => e = .returned (.int .u16 (256 * x.a + x.f)) ∧ (fun u => (u.rangeAt w.heap.size 0 x.cells ∧ u.rangeAt w1.heap.size 0 (putPairV x k i n).cells ∧ u.rangeAt (w1.heap.size + 1) 0 (afV x n).cells ∧ u.rangeAt (w1.heap.size + 1 + 1) 0 (afV x n).cells) ∧ (u.cell? ⟨w.heap.size + 1, 0, none⟩ = some (.int .i64 k) ∧ u.cell? ⟨w.heap.size + 1, 1, none⟩ = some (.int .i64 i)) ∧ (u.cell? ⟨w.heap.size, 0, none⟩ = some (.int .u8 x.a) ∧ u.cell? ⟨w.heap.size, 1, none⟩ = some (.int .u8 x.f)) ∧ LawP w w.heap.size (w.heap.size + 1) w1.heap.size (w1.heap.size + 1) (w1.heap.size + 1 + 1) x (putPairV x k i n) (afV x n) k i u) w' from fun u hu => keep_B HST.out hu (by have := af_any w.heap.size x u hu.2.2.2.1.1 OK.out; rw [Int.mul_comm] at this; exact this))
  have JL := Lib.hid (show ∀ u : World, (fun u => (u.rangeAt w.heap.size 0 x.cells ∧ u.rangeAt w1.heap.size 0 (putPairV x k i n).cells ∧ u.rangeAt (w1.heap.size + 1) 0 (afV x n).cells ∧ u.rangeAt (w1.heap.size + 1 + 1) 0 (afV x n).cells) ∧ (u.cell? ⟨w.heap.size + 1, 0, none⟩ = some (.int .i64 k) ∧ u.cell? ⟨w.heap.size + 1, 1, none⟩ = some (.int .i64 i)) ∧ (u.cell? ⟨w.heap.size, 0, none⟩ = some (.int .u8 x.a) ∧ u.cell? ⟨w.heap.size, 1, none⟩ = some (.int .u8 x.f)) ∧ LawP w w.heap.size (w.heap.size + 1) w1.heap.size (w1.heap.size + 1) (w1.heap.size + 1 + 1) x (putPairV x k i n) (afV x n) k i u) u → Calls Tryd.prog 12 #[] u fun e w' => e = .returned (.bool true) ∧ (fun u => (u.rangeAt w.heap.size 0 x.cells ∧ u.rangeAt w1.heap.size 0 (putPairV x k i n).cells ∧ u.rangeAt (w1.heap.size + 1) 0 (afV x n).cells ∧ u.rangeAt (w1.heap.size + 1 + 1) 0 (afV x n).cells) ∧ (u.cell? ⟨w.heap.size + 1, 0, none⟩ = some (.int .i64 k) ∧ u.cell? ⟨w.heap.size + 1, 1, none⟩ = some (.int .i64 i)) ∧ (u.cell? ⟨w.heap.size, 0, none⟩ = some (.int .u8 x.a) ∧ u.cell? ⟨w.heap.size, 1, none⟩ = some (.int .u8 x.f)) ∧ LawP w w.heap.size (w.heap.size + 1) w1.heap.size (w1.heap.size + 1) (w1.heap.size + 1 + 1) x (putPairV x k i n) (afV x n) k i u) w' from fun u hu => keep_B HST.out hu (lives_any u hu.2.2.2.2.2.1))
  have cva : IntKind.i64.wrap x.a = x.a := IntWalk.i64_in _ (by omega)
  have cvf : IntKind.i64.wrap x.f = x.f := IntWalk.i64_in _ (by omega)
  have cv1 : IntKind.i64.wrap (256 * x.a) = 256 * x.a := IntWalk.i64_in _ (by omega)
  have cv2 : IntKind.i64.wrap (256 * x.a + x.f) = 256 * x.a + x.f := IntWalk.i64_in _ (by omega)
  have hS1 := HST.out _ _ (HU.out _ s8) (Below.refl _ _).drew
  clear s8
  go_region_held3 (fun u => (u.rangeAt w.heap.size 0 x.cells ∧ u.rangeAt w1.heap.size 0 (putPairV x k i n).cells ∧ u.rangeAt (w1.heap.size + 1) 0 (afV x n).cells ∧ u.rangeAt (w1.heap.size + 1 + 1) 0 (afV x n).cells) ∧ (u.cell? ⟨w.heap.size + 1, 0, none⟩ = some (.int .i64 k) ∧ u.cell? ⟨w.heap.size + 1, 1, none⟩ = some (.int .i64 i)) ∧ (u.cell? ⟨w.heap.size, 0, none⟩ = some (.int .u8 x.a) ∧ u.cell? ⟨w.heap.size, 1, none⟩ = some (.int .u8 x.f)) ∧ LawP w w.heap.size (w.heap.size + 1) w1.heap.size (w1.heap.size + 1) (w1.heap.size + 1 + 1) x (putPairV x k i n) (afV x n) k i u) (assumption) (first | (go_at_call 15; refine (JA.out _ (by assumption)).mono ?_; rintro e w' ⟨rfl, hE⟩) | (go_at_call 16; refine (JB.out _ (by assumption)).mono ?_; rintro e w' ⟨rfl, hE⟩) | (go_at_call 17; refine (JP.out _ (by assumption)).mono ?_; rintro e w' ⟨rfl, hE⟩) | (go_at_call 18; refine (JF.out _ (by assumption)).mono ?_; rintro e w' ⟨rfl, hE⟩) | (go_at_call 12; refine (JL.out _ (by assumption)).mono ?_; rintro e w' ⟨rfl, hF⟩))
  have B := Lib.hid hF.2.2.2.2.2.2
  clear hF hS1
  go_wp2_with fail
  go_ret
  exact ⟨rfl, B.out⟩

end Go.Proofs.YteffjidbcdnbhaaDoor
