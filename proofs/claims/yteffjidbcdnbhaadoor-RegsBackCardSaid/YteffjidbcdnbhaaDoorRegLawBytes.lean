/- The walk of the law on single bytes. -/
import Derived.Test.YteffjidbcdnbhaaDoorRegLives
import Derived.Test.YteffjidbcdnbhaaDoorRegKeep
import Derived.Test.YteffjidbcdnbhaaDoorRegRefPair
import Derived.Deep.RegionHeld3
namespace Go.Proofs.YteffjidbcdnbhaaDoor
open Go.RowKit
set_option linter.unusedSimpArgs false

attribute [local simp ↓ high] load_as eql_as
attribute [local simp] run_regEql regs_guard eqR_self

/-- Two numbers lie in block N. -/
def NumAt (u : World) (N : Nat) (k i : Int) : Prop := N < u.heap.size ∧ u.cell? ⟨N, 0, none⟩ = some (.int .i64 k) ∧ u.cell? ⟨N, 1, none⟩ = some (.int .i64 i)
theorem NumAt.block {u u' : World} {N : Nat} {k i : Int} (h : NumAt u N k i) (hb : u'.heap[N]? = u.heap[N]?) (hs : N < u'.heap.size) : NumAt u' N k i :=
  ⟨hs, (World.cell?_of_block (w := u) (a := ⟨N, 0, none⟩) hb).trans h.2.1, (World.cell?_of_block (w := u) (a := ⟨N, 1, none⟩) hb).trans h.2.2⟩
theorem NumAt.below {u u' : World} {N : Nat} {k i : Int} (h : NumAt u N k i) (hb : Below u.heap.size u u') : NumAt u' N k i := h.block (hb.block N h.1) (Nat.lt_of_lt_of_le h.1 hb.size)
theorem NumAt.wrote {u u' : World} {N b : Nat} {k i : Int} (h : NumAt u N k i) (hw : Wrote b u u') (hn : N ≠ b) : NumAt u' N k i := h.block (hw.block N hn) (by rw [hw.size]; exact h.1)
theorem Tab.wrote {u u' : World} {b : Nat} (h : Tab u) (hw : Wrote b u u') (hn : 3 ≠ b) : Tab u' := ⟨(World.cell?_of_block (w := u) (a := ⟨3, 15, none⟩) (hw.block 3 hn)).trans h.1, by rw [hw.size]; exact h.2⟩
def LawS (w0 : World) (R N X : Nat) (x y : Rg) (k i : Int) (u : World) : Prop := RegAt u R x ∧ RegAt u X y ∧ NumAt u N k i ∧ Tab u ∧ Below w0.heap.size w0 u
theorem LawS.below {w0 u u' : World} {R N X : Nat} {x y : Rg} {k i : Int} (h : LawS w0 R N X x y k i u) (hb : Below u.heap.size u u') : LawS w0 R N X x y k i u' :=
  ⟨h.1.below hb, h.2.1.below hb, h.2.2.1.below hb, h.2.2.2.1.below hb, below_step h.2.2.2.2 hb⟩
theorem boxed_two (w : World) (x : Rg) (k i : Int) (t t' : TypeId) : RegAt ((w.alloc (.cells x.cells.toArray t)).alloc (.cells #[.int .i64 k, .int .i64 i] t')) w.heap.size x ∧ NumAt ((w.alloc (.cells x.cells.toArray t)).alloc (.cells #[.int .i64 k, .int .i64 i] t')) (w.heap.size + 1) k i ∧ Below w.heap.size w ((w.alloc (.cells x.cells.toArray t)).alloc (.cells #[.int .i64 k, .int .i64 i] t')) := by
  have h1 := RegAt.new w x t
  have hh := heap_alloc_new (w.alloc (.cells x.cells.toArray t)) (.cells #[.int .i64 k, .int .i64 i] t')
  have e : (w.alloc (.cells x.cells.toArray t)).heap.size = w.heap.size + 1 := by simp
  rw [e] at hh
  exact ⟨h1.below ((Below.refl _ _).alloc (Nat.le_refl _) _), ⟨by simp, cell_of_row _ _ 0 _ _ _ hh, cell_of_row _ _ 1 _ _ _ hh⟩, ((Below.refl _ _).alloc (Nat.le_refl _) _).alloc (by simp) _⟩
theorem list_cell (x : Rg) (i : Int) (kk : Nat) (hk : kk < 8) {w : World} {g : Nat} {t : TypeId} (h : w.heap[g]? = some (.cells (listV x i) t (0, 0))) : w.cell? ⟨g, kk, none⟩ = some (.int .u8 (byteV x kk i)) := by
  rw [cell_of_row w g kk _ _ _ h]
  have e : kk = 0 ∨ kk = 1 ∨ kk = 2 ∨ kk = 3 ∨ kk = 4 ∨ kk = 5 ∨ kk = 6 ∨ kk = 7 := by omega
  rcases e with rfl | rfl | rfl | rfl | rfl | rfl | rfl | rfl
  all_goals rfl

set_option maxRecDepth 100000 in
set_option maxHeartbeats 2000000 in
theorem bytes_in (x : Rg) (kk : Nat) (i v : Int) (w : World) (ok : x.Ok) (v0 : 0 ≤ v) (v1 : v ≤ 255) (ht : Tab w) (hk : kk < 8) : Calls Tryd.prog 3 #[.agg x.cells.toArray, .agg #[.int .i64 (kk : Int), .int .i64 i], .int .u8 v] w fun e w' => e = .returned (.bool true) ∧ Below w.heap.size w w' := by
  have K := Lib.hid (boxed_two w x (kk : Int) i 24 25)
  have H := Lib.hid ht
  have OK := Lib.hid ok
  obtain ⟨b, hb⟩ : ∃ b, byteV x (kk : Int) i = b := ⟨_, rfl⟩
  have HB := Lib.hid hb
  have hk7 : (kk : Int) < 8 := by omega
  clear ht ok hb
  go_enter Tryd.func3, Tryd.ntmps3
  go_upto_region 1 with (fail)
  have k0 := K.out
  clear K
  generalize (w.alloc (.cells x.cells.toArray 24)).alloc (.cells #[.int .i64 (kk : Int), .int .i64 i] 25) = w1 at k0 ⊢
  have ha := k0.1.at'
  have hl := fun u => run_regLoad u w.heap.size x
  have hz : RegAt (w1.alloc (.cells #[.int .u8 0, .int .u8 0, .int .u8 0, .int .u8 0, .int .u8 0, .int .u8 0, .int .u8 0, .int .u8 0, .int .u8 0, .int .u8 0, .int .u8 0, .int .u8 0, .int .u8 0, .int .u8 0, .int .u8 0, .int .u8 0, .int .u8 0, .int .u8 0, .int .u8 0, .int .u16 0, .int .u16 0, .int .u16 0, .int .u16 0, .int .u16 0, .bool false, .bool false, .bool false, .bool false, .int .u8 0, .int .u8 0] 24)) w1.heap.size Rg.zero ∧ Below w1.heap.size w1 (w1.alloc (.cells #[.int .u8 0, .int .u8 0, .int .u8 0, .int .u8 0, .int .u8 0, .int .u8 0, .int .u8 0, .int .u8 0, .int .u8 0, .int .u8 0, .int .u8 0, .int .u8 0, .int .u8 0, .int .u8 0, .int .u8 0, .int .u8 0, .int .u8 0, .int .u8 0, .int .u8 0, .int .u16 0, .int .u16 0, .int .u16 0, .int .u16 0, .int .u16 0, .bool false, .bool false, .bool false, .bool false, .int .u8 0, .int .u8 0] 24)) := by
    have := RegAt.new w1 Rg.zero 24
    rw [zero_arr] at this
    exact ⟨this, (Below.refl _ _).alloc (Nat.le_refl _) _⟩
  have HZ := Lib.hid hz
  have K0 := Lib.hid k0
  clear hz k0
  go_wp2_with (fail)
  have z := HZ.out
  clear HZ ha
  generalize w1.alloc (.cells #[.int .u8 0, .int .u8 0, .int .u8 0, .int .u8 0, .int .u8 0, .int .u8 0, .int .u8 0, .int .u8 0, .int .u8 0, .int .u8 0, .int .u8 0, .int .u8 0, .int .u8 0, .int .u8 0, .int .u8 0, .int .u8 0, .int .u8 0, .int .u8 0, .int .u8 0, .int .u16 0, .int .u16 0, .int .u16 0, .int .u16 0, .int .u16 0, .bool false, .bool false, .bool false, .bool false, .int .u8 0, .int .u8 0] 24) = w2 at z ⊢
  have hst := run_storeRegs z.1 x
  rw [hst]
  have g1 := z.1.fill x
  have g2 := Wrote.setCells w1.heap.size x.cells 0 w2
  clear hst
  generalize w2.setCells w1.heap.size 0 x.cells = w3 at g1 g2 ⊢
  have hlt := K0.out.1.lt
  have hl2 := K0.out.2.1.1
  have b3 : Below w1.heap.size w1 w3 := z.2.trans (g2.below (Nat.le_refl _))
  have K3 := Lib.hid (show RegAt w3 w.heap.size x ∧ RegAt w3 w1.heap.size x ∧ NumAt w3 (w.heap.size + 1) (kk : Int) i ∧ Below w.heap.size w w3 from ⟨K0.out.1.below b3, g1, K0.out.2.1.below b3, below_step K0.out.2.2 b3⟩)
  have n0 := K3.out.2.2.1.2.1
  have n1 := K3.out.2.2.1.2.2
  clear z g1 g2 b3 K0
  go_wp2_with (fail)
  refine (putByte_any w1.heap.size x (kk : Int) i v _ K3.out.2.1 OK.out v0 v1).mono ?_
  intro e w4 hP
  obtain ⟨rfl, hw, hr⟩ := hP
  have s4 : LawS w w.heap.size (w.heap.size + 1) w1.heap.size x (putV x (kk : Int) i v) (kk : Int) i w4 := ⟨K3.out.1.wrote hw (by omega), hr, K3.out.2.2.1.wrote hw (by omega), H.out.below (K3.out.2.2.2.trans (hw.below (by omega))), K3.out.2.2.2.trans (hw.below (by omega))⟩
  have m0 := s4.2.2.1.2.1
  have m1 := s4.2.2.1.2.2
  clear hw hr n0 n1 K3 hlt hl2
  have HU := Lib.hid (show ∀ u : World, LawS w w.heap.size (w.heap.size + 1) w1.heap.size x (putV x (kk : Int) i v) (kk : Int) i u → (fun u => u.rangeAt w.heap.size 0 x.cells ∧ u.rangeAt w1.heap.size 0 (putV x (kk : Int) i v).cells ∧ (u.cell? ⟨w.heap.size + 1, 0, none⟩ = some (.int .i64 (kk : Int)) ∧ u.cell? ⟨w.heap.size + 1, 1, none⟩ = some (.int .i64 i)) ∧ LawS w w.heap.size (w.heap.size + 1) w1.heap.size x (putV x (kk : Int) i v) (kk : Int) i u) u from fun u hu => ⟨hu.1.at', hu.2.1.at', hu.2.2.1.2, hu⟩)
  have HST := Lib.hid (show ∀ u u' : World, (fun u => u.rangeAt w.heap.size 0 x.cells ∧ u.rangeAt w1.heap.size 0 (putV x (kk : Int) i v).cells ∧ (u.cell? ⟨w.heap.size + 1, 0, none⟩ = some (.int .i64 (kk : Int)) ∧ u.cell? ⟨w.heap.size + 1, 1, none⟩ = some (.int .i64 i)) ∧ LawS w w.heap.size (w.heap.size + 1) w1.heap.size x (putV x (kk : Int) i v) (kk : Int) i u) u → Below u.heap.size u u' → (fun u => u.rangeAt w.heap.size 0 x.cells ∧ u.rangeAt w1.heap.size 0 (putV x (kk : Int) i v).cells ∧ (u.cell? ⟨w.heap.size + 1, 0, none⟩ = some (.int .i64 (kk : Int)) ∧ u.cell? ⟨w.heap.size + 1, 1, none⟩ = some (.int .i64 i)) ∧ LawS w w.heap.size (w.heap.size + 1) w1.heap.size x (putV x (kk : Int) i v) (kk : Int) i u) u' from fun u u' hu hb => HU.out _ (hu.2.2.2.below hb))
  have hm := fun u => run_regLoad u w1.heap.size (putV x (kk : Int) i v)
  have JB := Lib.hid (show ∀ u : World, (fun u => u.rangeAt w.heap.size 0 x.cells ∧ u.rangeAt w1.heap.size 0 (putV x (kk : Int) i v).cells ∧ (u.cell? ⟨w.heap.size + 1, 0, none⟩ = some (.int .i64 (kk : Int)) ∧ u.cell? ⟨w.heap.size + 1, 1, none⟩ = some (.int .i64 i)) ∧ LawS w w.heap.size (w.heap.size + 1) w1.heap.size x (putV x (kk : Int) i v) (kk : Int) i u) u → Calls Tryd.prog 10 #[.pointer (some ⟨w.heap.size, 0, none⟩), .int .i64 (kk : Int), .int .i64 i] u fun e w' => e = .returned (.int .u8 b) ∧ (fun u => u.rangeAt w.heap.size 0 x.cells ∧ u.rangeAt w1.heap.size 0 (putV x (kk : Int) i v).cells ∧ (u.cell? ⟨w.heap.size + 1, 0, none⟩ = some (.int .i64 (kk : Int)) ∧ u.cell? ⟨w.heap.size + 1, 1, none⟩ = some (.int .i64 i)) ∧ LawS w w.heap.size (w.heap.size + 1) w1.heap.size x (putV x (kk : Int) i v) (kk : Int) i u) w' from fun u hu => keep_S hu (by have := byte_any w.heap.size x (kk : Int) i u hu.2.2.2.1 OK.out; rw [HB.out] at this; exact this))
  have JP := Lib.hid (show ∀ u : World, (fun u => u.rangeAt w.heap.size 0 x.cells ∧ u.rangeAt w1.heap.size 0 (putV x (kk : Int) i v).cells ∧ (u.cell? ⟨w.heap.size + 1, 0, none⟩ = some (.int .i64 (kk : Int)) ∧ u.cell? ⟨w.heap.size + 1, 1, none⟩ = some (.int .i64 i)) ∧ LawS w w.heap.size (w.heap.size + 1) w1.heap.size x (putV x (kk : Int) i v) (kk : Int) i u) u → Calls Tryd.prog 11 #[.agg x.cells.toArray, .int .i64 (kk : Int), .int .i64 i, .int .u8 v] u fun e w' => e = .returned (.agg (putV x (kk : Int) i v).cells.toArray) ∧ (fun u => u.rangeAt w.heap.size 0 x.cells ∧ u.rangeAt w1.heap.size 0 (putV x (kk : Int) i v).cells ∧ (u.cell? ⟨w.heap.size + 1, 0, none⟩ = some (.int .i64 (kk : Int)) ∧ u.cell? ⟨w.heap.size + 1, 1, none⟩ = some (.int .i64 i)) ∧ LawS w w.heap.size (w.heap.size + 1) w1.heap.size x (putV x (kk : Int) i v) (kk : Int) i u) w' from fun u hu => keep_B HST.out hu (refPut_any x (kk : Int) i v u OK.out ⟨v0, v1⟩))
  have JL := Lib.hid (show ∀ u : World, (fun u => u.rangeAt w.heap.size 0 x.cells ∧ u.rangeAt w1.heap.size 0 (putV x (kk : Int) i v).cells ∧ (u.cell? ⟨w.heap.size + 1, 0, none⟩ = some (.int .i64 (kk : Int)) ∧ u.cell? ⟨w.heap.size + 1, 1, none⟩ = some (.int .i64 i)) ∧ LawS w w.heap.size (w.heap.size + 1) w1.heap.size x (putV x (kk : Int) i v) (kk : Int) i u) u → Calls Tryd.prog 12 #[] u fun e w' => e = .returned (.bool true) ∧ (fun u => u.rangeAt w.heap.size 0 x.cells ∧ u.rangeAt w1.heap.size 0 (putV x (kk : Int) i v).cells ∧ (u.cell? ⟨w.heap.size + 1, 0, none⟩ = some (.int .i64 (kk : Int)) ∧ u.cell? ⟨w.heap.size + 1, 1, none⟩ = some (.int .i64 i)) ∧ LawS w w.heap.size (w.heap.size + 1) w1.heap.size x (putV x (kk : Int) i v) (kk : Int) i u) w' from fun u hu => keep_B HST.out hu (lives_any u hu.2.2.2.2.2.2.1))
  have JI := Lib.hid (show ∀ u : World, (fun u => u.rangeAt w.heap.size 0 x.cells ∧ u.rangeAt w1.heap.size 0 (putV x (kk : Int) i v).cells ∧ (u.cell? ⟨w.heap.size + 1, 0, none⟩ = some (.int .i64 (kk : Int)) ∧ u.cell? ⟨w.heap.size + 1, 1, none⟩ = some (.int .i64 i)) ∧ LawS w w.heap.size (w.heap.size + 1) w1.heap.size x (putV x (kk : Int) i v) (kk : Int) i u) u → Calls Tryd.prog 9 #[.agg x.cells.toArray, .int .i64 i] u fun e w' => ∃ g, e = .returned (.slice (some ⟨g, 0, none⟩) 8 8) ∧ w'.cell? ⟨g, kk, none⟩ = some (.int .u8 b) ∧ (fun u => u.rangeAt w.heap.size 0 x.cells ∧ u.rangeAt w1.heap.size 0 (putV x (kk : Int) i v).cells ∧ (u.cell? ⟨w.heap.size + 1, 0, none⟩ = some (.int .i64 (kk : Int)) ∧ u.cell? ⟨w.heap.size + 1, 1, none⟩ = some (.int .i64 i)) ∧ LawS w w.heap.size (w.heap.size + 1) w1.heap.size x (putV x (kk : Int) i v) (kk : Int) i u) w' from fun u hu => (list_any x i u OK.out).mono fun _ _ ⟨g, he, _, hc, hb⟩ => ⟨g, he, HB.out ▸ list_cell x i kk hk hc, HST.out _ _ hu hb⟩)
  have hS0 := HST.out _ _ (HU.out _ s4) (Below.refl _ _).drew
  clear s4
  go_wp2_with (fail)
  first | refine wp_region_noPanic ?_ | skip
  refine wp_region_held_drew (S := (fun u => u.rangeAt w.heap.size 0 x.cells ∧ u.rangeAt w1.heap.size 0 (putV x (kk : Int) i v).cells ∧ (u.cell? ⟨w.heap.size + 1, 0, none⟩ = some (.int .i64 (kk : Int)) ∧ u.cell? ⟨w.heap.size + 1, 1, none⟩ = some (.int .i64 i)) ∧ LawS w w.heap.size (w.heap.size + 1) w1.heap.size x (putV x (kk : Int) i v) (kk : Int) i u)) (by kernel_rfl) hS0 (fun hHeld => ?_)
  refine wpAnyH_take (i := 0) (v := ?v1) rfl (by kernel_rfl) (by kernel_rfl) (by kernel_rfl) (fun _ _ _ h => h) (Or.inl ⟨by rfl, ?hy1⟩) (by assumption) ?rest1
  case hy1 => (intro w hSw; (try dsimp only at hSw); go_simp; try with_reducible rfl)
  try simp only [Act.put, List.getElem_toArray, List.getElem_cons_succ, List.getElem_cons_zero, List.setIfInBounds_toArray, List.set_cons_zero, List.set_cons_succ]
  refine wpAnyH_take (i := 1) (v := ?v2) rfl (by kernel_rfl) (by kernel_rfl) (by kernel_rfl) (fun _ _ _ h => h) (Or.inl ⟨by rfl, ?hy2⟩) (by assumption) ?rest2
  case hy2 => (intro w hSw; (try dsimp only at hSw); go_simp; try with_reducible rfl)
  try simp only [Act.put, List.getElem_toArray, List.getElem_cons_succ, List.getElem_cons_zero, List.setIfInBounds_toArray, List.set_cons_zero, List.set_cons_succ]
  refine wpAnyH_take (i := 2) (v := ?v3) rfl (by kernel_rfl) (by kernel_rfl) (by kernel_rfl) (fun _ _ _ h => h) (Or.inl ⟨by rfl, ?hy3⟩) (by assumption) ?rest3
  case hy3 => (intro w hSw; (try dsimp only at hSw); go_simp; try with_reducible rfl)
  try simp only [Act.put, List.getElem_toArray, List.getElem_cons_succ, List.getElem_cons_zero, List.setIfInBounds_toArray, List.set_cons_zero, List.set_cons_succ]
  refine wpAnyH_take (i := 4) (v := ?v4) rfl (by kernel_rfl) (by kernel_rfl) (by kernel_rfl) (fun _ _ _ h => h) (Or.inl ⟨by rfl, ?hy4⟩) (by assumption) ?rest4
  case hy4 => (intro w hSw; (try dsimp only at hSw); go_simp; try with_reducible rfl)
  try simp only [Act.put, List.getElem_toArray, List.getElem_cons_succ, List.getElem_cons_zero, List.setIfInBounds_toArray, List.set_cons_zero, List.set_cons_succ]
  refine wpAnyH_take (i := 5) (v := ?v5) rfl (by kernel_rfl) (by kernel_rfl) (by kernel_rfl) (fun _ _ _ h => h) (Or.inl ⟨by rfl, ?hy5⟩) (by assumption) ?rest5
  case hy5 => (intro w hSw; (try dsimp only at hSw); go_simp; try with_reducible rfl)
  try simp only [Act.put, List.getElem_toArray, List.getElem_cons_succ, List.getElem_cons_zero, List.setIfInBounds_toArray, List.set_cons_zero, List.set_cons_succ]
  refine wpAnyH_ready (rs := [3]) (by kernel_rfl) (by simp) ?_
  refine AllReadyH.cons (o := _) rfl (fun K hK => ?_) AllReadyH.nil
  go_simp
  refine (JI.out _ (by assumption)).mono ?_
  rintro e w' ⟨g, rfl, hc, hI⟩
  go_wp2_with fail
  refine hK.out _ _ hI (fun hHeld => ?_)
  clear hK K
  try simp only [Act.put, List.getElem_toArray, List.getElem_cons_succ, List.getElem_cons_zero, List.setIfInBounds_toArray, List.set_cons_zero, List.set_cons_succ]
  refine wpAnyH_take (i := 6) (v := ?v6) rfl (by kernel_rfl) (by kernel_rfl) (by kernel_rfl) (fun _ _ _ h => h) (Or.inl ⟨by rfl, ?hy6⟩) (by assumption) ?rest6
  case hy6 => (intro w hSw; (try dsimp only at hSw); go_simp; try with_reducible rfl)
  try simp only [Act.put, List.getElem_toArray, List.getElem_cons_succ, List.getElem_cons_zero, List.setIfInBounds_toArray, List.set_cons_zero, List.set_cons_succ]
  refine wpAnyH_ready (rs := [7]) (by kernel_rfl) (by simp) ?_
  refine AllReadyH.cons (o := _) rfl (fun K hK => ?_) AllReadyH.nil
  go_simp
  refine hK.out _ _ (by assumption) (fun hHeld => ?_)
  clear hK K
  try simp only [Act.put, List.getElem_toArray, List.getElem_cons_succ, List.getElem_cons_zero, List.setIfInBounds_toArray, List.set_cons_zero, List.set_cons_succ]
  refine wpAnyH_take (i := 8) (v := ?v7) rfl (by kernel_rfl) (by kernel_rfl) (by kernel_rfl) (fun _ _ _ h => h) (Or.inl ⟨by rfl, ?hy7⟩) (by assumption) ?rest7
  case hy7 => (intro w hSw; (try dsimp only at hSw); go_simp; try with_reducible rfl)
  try simp only [Act.put, List.getElem_toArray, List.getElem_cons_succ, List.getElem_cons_zero, List.setIfInBounds_toArray, List.set_cons_zero, List.set_cons_succ]
  refine wpAnyH_done (by kernel_rfl) ?_ _
  first | refine NoPanic.normal ?_ | skip
  have hS1 := HST.out _ _ hI (Below.refl _ _).drew
  clear hS0 hc
  go_wp2_with (fail)
  go_region_held3 (fun u => u.rangeAt w.heap.size 0 x.cells ∧ u.rangeAt w1.heap.size 0 (putV x (kk : Int) i v).cells ∧ (u.cell? ⟨w.heap.size + 1, 0, none⟩ = some (.int .i64 (kk : Int)) ∧ u.cell? ⟨w.heap.size + 1, 1, none⟩ = some (.int .i64 i)) ∧ LawS w w.heap.size (w.heap.size + 1) w1.heap.size x (putV x (kk : Int) i v) (kk : Int) i u) (assumption) (first | (go_at_call 10; refine (JB.out _ (by assumption)).mono ?_; rintro e w' ⟨rfl, hE⟩) | (go_at_call 11; refine (JP.out _ (by assumption)).mono ?_; rintro e w' ⟨rfl, hE⟩) | (go_at_call 12; refine (JL.out _ (by assumption)).mono ?_; rintro e w' ⟨rfl, hF⟩))
  have B := Lib.hid hF.2.2.2.2.2.2.2
  clear hF hS1
  go_wp2_with fail
  go_ret
  exact ⟨rfl, B.out⟩

set_option maxRecDepth 100000 in
set_option maxHeartbeats 2000000 in
theorem bytes_out (x : Rg) (k i v : Int) (w : World) (ok : x.Ok) (v0 : 0 ≤ v) (v1 : v ≤ 255) (ht : Tab w) (hk : k < 0 ∨ 8 ≤ k) : Calls Tryd.prog 3 #[.agg x.cells.toArray, .agg #[.int .i64 k, .int .i64 i], .int .u8 v] w fun e w' => e = .returned (.bool true) ∧ Below w.heap.size w w' := by
  have K := Lib.hid (boxed_two w x k i 24 25)
  have H := Lib.hid ht
  have OK := Lib.hid ok
  obtain ⟨b, hb, hz⟩ : ∃ b, byteV x k i = b ∧ b = 0 := ⟨0, by unfold byteV; repeat' split; all_goals omega, rfl⟩
  have HB := Lib.hid (hb.trans hz)
  clear ht ok hb hz b
  rcases hk with hk | hk
  · have hd : decide (0 ≤ k) = false := by simp; omega
    go_enter Tryd.func3, Tryd.ntmps3
    go_upto_region 1 with (fail)
    have k0 := K.out
    clear K
    generalize (w.alloc (.cells x.cells.toArray 24)).alloc (.cells #[.int .i64 k, .int .i64 i] 25) = w1 at k0 ⊢
    have ha := k0.1.at'
    have hl := fun u => run_regLoad u w.heap.size x
    have hz : RegAt (w1.alloc (.cells #[.int .u8 0, .int .u8 0, .int .u8 0, .int .u8 0, .int .u8 0, .int .u8 0, .int .u8 0, .int .u8 0, .int .u8 0, .int .u8 0, .int .u8 0, .int .u8 0, .int .u8 0, .int .u8 0, .int .u8 0, .int .u8 0, .int .u8 0, .int .u8 0, .int .u8 0, .int .u16 0, .int .u16 0, .int .u16 0, .int .u16 0, .int .u16 0, .bool false, .bool false, .bool false, .bool false, .int .u8 0, .int .u8 0] 24)) w1.heap.size Rg.zero ∧ Below w1.heap.size w1 (w1.alloc (.cells #[.int .u8 0, .int .u8 0, .int .u8 0, .int .u8 0, .int .u8 0, .int .u8 0, .int .u8 0, .int .u8 0, .int .u8 0, .int .u8 0, .int .u8 0, .int .u8 0, .int .u8 0, .int .u8 0, .int .u8 0, .int .u8 0, .int .u8 0, .int .u8 0, .int .u8 0, .int .u16 0, .int .u16 0, .int .u16 0, .int .u16 0, .int .u16 0, .bool false, .bool false, .bool false, .bool false, .int .u8 0, .int .u8 0] 24)) := by
      have := RegAt.new w1 Rg.zero 24
      rw [zero_arr] at this
      exact ⟨this, (Below.refl _ _).alloc (Nat.le_refl _) _⟩
    have HZ := Lib.hid hz
    have K0 := Lib.hid k0
    clear hz k0
    go_wp2_with (fail)
    have z := HZ.out
    clear HZ ha
    generalize w1.alloc (.cells #[.int .u8 0, .int .u8 0, .int .u8 0, .int .u8 0, .int .u8 0, .int .u8 0, .int .u8 0, .int .u8 0, .int .u8 0, .int .u8 0, .int .u8 0, .int .u8 0, .int .u8 0, .int .u8 0, .int .u8 0, .int .u8 0, .int .u8 0, .int .u8 0, .int .u8 0, .int .u16 0, .int .u16 0, .int .u16 0, .int .u16 0, .int .u16 0, .bool false, .bool false, .bool false, .bool false, .int .u8 0, .int .u8 0] 24) = w2 at z ⊢
    have hst := run_storeRegs z.1 x
    rw [hst]
    have g1 := z.1.fill x
    have g2 := Wrote.setCells w1.heap.size x.cells 0 w2
    clear hst
    generalize w2.setCells w1.heap.size 0 x.cells = w3 at g1 g2 ⊢
    have hlt := K0.out.1.lt
    have hl2 := K0.out.2.1.1
    have b3 : Below w1.heap.size w1 w3 := z.2.trans (g2.below (Nat.le_refl _))
    have K3 := Lib.hid (show RegAt w3 w.heap.size x ∧ RegAt w3 w1.heap.size x ∧ NumAt w3 (w.heap.size + 1) k i ∧ Below w.heap.size w w3 from ⟨K0.out.1.below b3, g1, K0.out.2.1.below b3, below_step K0.out.2.2 b3⟩)
    have n0 := K3.out.2.2.1.2.1
    have n1 := K3.out.2.2.1.2.2
    clear z g1 g2 b3 K0
    go_wp2_with (fail)
    refine (putByte_any w1.heap.size x k i v _ K3.out.2.1 OK.out v0 v1).mono ?_
    intro e w4 hP
    obtain ⟨rfl, hw, hr⟩ := hP
    have s4 : LawS w w.heap.size (w.heap.size + 1) w1.heap.size x (putV x k i v) k i w4 := ⟨K3.out.1.wrote hw (by omega), hr, K3.out.2.2.1.wrote hw (by omega), H.out.below (K3.out.2.2.2.trans (hw.below (by omega))), K3.out.2.2.2.trans (hw.below (by omega))⟩
    have m0 := s4.2.2.1.2.1
    have m1 := s4.2.2.1.2.2
    clear hw hr n0 n1 K3 hlt hl2
    have HU := Lib.hid (show ∀ u : World, LawS w w.heap.size (w.heap.size + 1) w1.heap.size x (putV x k i v) k i u → (fun u => u.rangeAt w.heap.size 0 x.cells ∧ u.rangeAt w1.heap.size 0 (putV x k i v).cells ∧ (u.cell? ⟨w.heap.size + 1, 0, none⟩ = some (.int .i64 k) ∧ u.cell? ⟨w.heap.size + 1, 1, none⟩ = some (.int .i64 i)) ∧ LawS w w.heap.size (w.heap.size + 1) w1.heap.size x (putV x k i v) k i u) u from fun u hu => ⟨hu.1.at', hu.2.1.at', hu.2.2.1.2, hu⟩)
    have HST := Lib.hid (show ∀ u u' : World, (fun u => u.rangeAt w.heap.size 0 x.cells ∧ u.rangeAt w1.heap.size 0 (putV x k i v).cells ∧ (u.cell? ⟨w.heap.size + 1, 0, none⟩ = some (.int .i64 k) ∧ u.cell? ⟨w.heap.size + 1, 1, none⟩ = some (.int .i64 i)) ∧ LawS w w.heap.size (w.heap.size + 1) w1.heap.size x (putV x k i v) k i u) u → Below u.heap.size u u' → (fun u => u.rangeAt w.heap.size 0 x.cells ∧ u.rangeAt w1.heap.size 0 (putV x k i v).cells ∧ (u.cell? ⟨w.heap.size + 1, 0, none⟩ = some (.int .i64 k) ∧ u.cell? ⟨w.heap.size + 1, 1, none⟩ = some (.int .i64 i)) ∧ LawS w w.heap.size (w.heap.size + 1) w1.heap.size x (putV x k i v) k i u) u' from fun u u' hu hb => HU.out _ (hu.2.2.2.below hb))
    have hm := fun u => run_regLoad u w1.heap.size (putV x k i v)
    have JB := Lib.hid (show ∀ u : World, (fun u => u.rangeAt w.heap.size 0 x.cells ∧ u.rangeAt w1.heap.size 0 (putV x k i v).cells ∧ (u.cell? ⟨w.heap.size + 1, 0, none⟩ = some (.int .i64 k) ∧ u.cell? ⟨w.heap.size + 1, 1, none⟩ = some (.int .i64 i)) ∧ LawS w w.heap.size (w.heap.size + 1) w1.heap.size x (putV x k i v) k i u) u → Calls Tryd.prog 10 #[.pointer (some ⟨w.heap.size, 0, none⟩), .int .i64 k, .int .i64 i] u fun e w' => e = .returned (.int .u8 0) ∧ (fun u => u.rangeAt w.heap.size 0 x.cells ∧ u.rangeAt w1.heap.size 0 (putV x k i v).cells ∧ (u.cell? ⟨w.heap.size + 1, 0, none⟩ = some (.int .i64 k) ∧ u.cell? ⟨w.heap.size + 1, 1, none⟩ = some (.int .i64 i)) ∧ LawS w w.heap.size (w.heap.size + 1) w1.heap.size x (putV x k i v) k i u) w' from fun u hu => keep_S hu (by have := byte_any w.heap.size x k i u hu.2.2.2.1 OK.out; rw [HB.out] at this; exact this))
    have JP := Lib.hid (show ∀ u : World, (fun u => u.rangeAt w.heap.size 0 x.cells ∧ u.rangeAt w1.heap.size 0 (putV x k i v).cells ∧ (u.cell? ⟨w.heap.size + 1, 0, none⟩ = some (.int .i64 k) ∧ u.cell? ⟨w.heap.size + 1, 1, none⟩ = some (.int .i64 i)) ∧ LawS w w.heap.size (w.heap.size + 1) w1.heap.size x (putV x k i v) k i u) u → Calls Tryd.prog 11 #[.agg x.cells.toArray, .int .i64 k, .int .i64 i, .int .u8 v] u fun e w' => e = .returned (.agg (putV x k i v).cells.toArray) ∧ (fun u => u.rangeAt w.heap.size 0 x.cells ∧ u.rangeAt w1.heap.size 0 (putV x k i v).cells ∧ (u.cell? ⟨w.heap.size + 1, 0, none⟩ = some (.int .i64 k) ∧ u.cell? ⟨w.heap.size + 1, 1, none⟩ = some (.int .i64 i)) ∧ LawS w w.heap.size (w.heap.size + 1) w1.heap.size x (putV x k i v) k i u) w' from fun u hu => keep_B HST.out hu (refPut_any x k i v u OK.out ⟨v0, v1⟩))
    have JL := Lib.hid (show ∀ u : World, (fun u => u.rangeAt w.heap.size 0 x.cells ∧ u.rangeAt w1.heap.size 0 (putV x k i v).cells ∧ (u.cell? ⟨w.heap.size + 1, 0, none⟩ = some (.int .i64 k) ∧ u.cell? ⟨w.heap.size + 1, 1, none⟩ = some (.int .i64 i)) ∧ LawS w w.heap.size (w.heap.size + 1) w1.heap.size x (putV x k i v) k i u) u → Calls Tryd.prog 12 #[] u fun e w' => e = .returned (.bool true) ∧ (fun u => u.rangeAt w.heap.size 0 x.cells ∧ u.rangeAt w1.heap.size 0 (putV x k i v).cells ∧ (u.cell? ⟨w.heap.size + 1, 0, none⟩ = some (.int .i64 k) ∧ u.cell? ⟨w.heap.size + 1, 1, none⟩ = some (.int .i64 i)) ∧ LawS w w.heap.size (w.heap.size + 1) w1.heap.size x (putV x k i v) k i u) w' from fun u hu => keep_B HST.out hu (lives_any u hu.2.2.2.2.2.2.1))
    have hS1 := HST.out _ _ (HU.out _ s4) (Below.refl _ _).drew
    clear s4
    go_wp2_with (fail)
    go_region_held3 (fun u => u.rangeAt w.heap.size 0 x.cells ∧ u.rangeAt w1.heap.size 0 (putV x k i v).cells ∧ (u.cell? ⟨w.heap.size + 1, 0, none⟩ = some (.int .i64 k) ∧ u.cell? ⟨w.heap.size + 1, 1, none⟩ = some (.int .i64 i)) ∧ LawS w w.heap.size (w.heap.size + 1) w1.heap.size x (putV x k i v) k i u) (assumption) (first | (go_at_call 10; refine (JB.out _ (by assumption)).mono ?_; rintro e w' ⟨rfl, hE⟩) | (go_at_call 11; refine (JP.out _ (by assumption)).mono ?_; rintro e w' ⟨rfl, hE⟩) | (go_at_call 12; refine (JL.out _ (by assumption)).mono ?_; rintro e w' ⟨rfl, hF⟩))
    have B := Lib.hid hF.2.2.2.2.2.2.2
    clear hF hS1
    go_wp2_with fail
    go_ret
    exact ⟨rfl, B.out⟩
  · have hd : decide (k < 8) = false := by simp; omega
    go_enter Tryd.func3, Tryd.ntmps3
    go_upto_region 1 with (fail)
    have k0 := K.out
    clear K
    generalize (w.alloc (.cells x.cells.toArray 24)).alloc (.cells #[.int .i64 k, .int .i64 i] 25) = w1 at k0 ⊢
    have ha := k0.1.at'
    have hl := fun u => run_regLoad u w.heap.size x
    have hz : RegAt (w1.alloc (.cells #[.int .u8 0, .int .u8 0, .int .u8 0, .int .u8 0, .int .u8 0, .int .u8 0, .int .u8 0, .int .u8 0, .int .u8 0, .int .u8 0, .int .u8 0, .int .u8 0, .int .u8 0, .int .u8 0, .int .u8 0, .int .u8 0, .int .u8 0, .int .u8 0, .int .u8 0, .int .u16 0, .int .u16 0, .int .u16 0, .int .u16 0, .int .u16 0, .bool false, .bool false, .bool false, .bool false, .int .u8 0, .int .u8 0] 24)) w1.heap.size Rg.zero ∧ Below w1.heap.size w1 (w1.alloc (.cells #[.int .u8 0, .int .u8 0, .int .u8 0, .int .u8 0, .int .u8 0, .int .u8 0, .int .u8 0, .int .u8 0, .int .u8 0, .int .u8 0, .int .u8 0, .int .u8 0, .int .u8 0, .int .u8 0, .int .u8 0, .int .u8 0, .int .u8 0, .int .u8 0, .int .u8 0, .int .u16 0, .int .u16 0, .int .u16 0, .int .u16 0, .int .u16 0, .bool false, .bool false, .bool false, .bool false, .int .u8 0, .int .u8 0] 24)) := by
      have := RegAt.new w1 Rg.zero 24
      rw [zero_arr] at this
      exact ⟨this, (Below.refl _ _).alloc (Nat.le_refl _) _⟩
    have HZ := Lib.hid hz
    have K0 := Lib.hid k0
    clear hz k0
    go_wp2_with (fail)
    have z := HZ.out
    clear HZ ha
    generalize w1.alloc (.cells #[.int .u8 0, .int .u8 0, .int .u8 0, .int .u8 0, .int .u8 0, .int .u8 0, .int .u8 0, .int .u8 0, .int .u8 0, .int .u8 0, .int .u8 0, .int .u8 0, .int .u8 0, .int .u8 0, .int .u8 0, .int .u8 0, .int .u8 0, .int .u8 0, .int .u8 0, .int .u16 0, .int .u16 0, .int .u16 0, .int .u16 0, .int .u16 0, .bool false, .bool false, .bool false, .bool false, .int .u8 0, .int .u8 0] 24) = w2 at z ⊢
    have hst := run_storeRegs z.1 x
    rw [hst]
    have g1 := z.1.fill x
    have g2 := Wrote.setCells w1.heap.size x.cells 0 w2
    clear hst
    generalize w2.setCells w1.heap.size 0 x.cells = w3 at g1 g2 ⊢
    have hlt := K0.out.1.lt
    have hl2 := K0.out.2.1.1
    have b3 : Below w1.heap.size w1 w3 := z.2.trans (g2.below (Nat.le_refl _))
    have K3 := Lib.hid (show RegAt w3 w.heap.size x ∧ RegAt w3 w1.heap.size x ∧ NumAt w3 (w.heap.size + 1) k i ∧ Below w.heap.size w w3 from ⟨K0.out.1.below b3, g1, K0.out.2.1.below b3, below_step K0.out.2.2 b3⟩)
    have n0 := K3.out.2.2.1.2.1
    have n1 := K3.out.2.2.1.2.2
    clear z g1 g2 b3 K0
    go_wp2_with (fail)
    refine (putByte_any w1.heap.size x k i v _ K3.out.2.1 OK.out v0 v1).mono ?_
    intro e w4 hP
    obtain ⟨rfl, hw, hr⟩ := hP
    have s4 : LawS w w.heap.size (w.heap.size + 1) w1.heap.size x (putV x k i v) k i w4 := ⟨K3.out.1.wrote hw (by omega), hr, K3.out.2.2.1.wrote hw (by omega), H.out.below (K3.out.2.2.2.trans (hw.below (by omega))), K3.out.2.2.2.trans (hw.below (by omega))⟩
    have m0 := s4.2.2.1.2.1
    have m1 := s4.2.2.1.2.2
    clear hw hr n0 n1 K3 hlt hl2
    have HU := Lib.hid (show ∀ u : World, LawS w w.heap.size (w.heap.size + 1) w1.heap.size x (putV x k i v) k i u → (fun u => u.rangeAt w.heap.size 0 x.cells ∧ u.rangeAt w1.heap.size 0 (putV x k i v).cells ∧ (u.cell? ⟨w.heap.size + 1, 0, none⟩ = some (.int .i64 k) ∧ u.cell? ⟨w.heap.size + 1, 1, none⟩ = some (.int .i64 i)) ∧ LawS w w.heap.size (w.heap.size + 1) w1.heap.size x (putV x k i v) k i u) u from fun u hu => ⟨hu.1.at', hu.2.1.at', hu.2.2.1.2, hu⟩)
    have HST := Lib.hid (show ∀ u u' : World, (fun u => u.rangeAt w.heap.size 0 x.cells ∧ u.rangeAt w1.heap.size 0 (putV x k i v).cells ∧ (u.cell? ⟨w.heap.size + 1, 0, none⟩ = some (.int .i64 k) ∧ u.cell? ⟨w.heap.size + 1, 1, none⟩ = some (.int .i64 i)) ∧ LawS w w.heap.size (w.heap.size + 1) w1.heap.size x (putV x k i v) k i u) u → Below u.heap.size u u' → (fun u => u.rangeAt w.heap.size 0 x.cells ∧ u.rangeAt w1.heap.size 0 (putV x k i v).cells ∧ (u.cell? ⟨w.heap.size + 1, 0, none⟩ = some (.int .i64 k) ∧ u.cell? ⟨w.heap.size + 1, 1, none⟩ = some (.int .i64 i)) ∧ LawS w w.heap.size (w.heap.size + 1) w1.heap.size x (putV x k i v) k i u) u' from fun u u' hu hb => HU.out _ (hu.2.2.2.below hb))
    have hm := fun u => run_regLoad u w1.heap.size (putV x k i v)
    have JB := Lib.hid (show ∀ u : World, (fun u => u.rangeAt w.heap.size 0 x.cells ∧ u.rangeAt w1.heap.size 0 (putV x k i v).cells ∧ (u.cell? ⟨w.heap.size + 1, 0, none⟩ = some (.int .i64 k) ∧ u.cell? ⟨w.heap.size + 1, 1, none⟩ = some (.int .i64 i)) ∧ LawS w w.heap.size (w.heap.size + 1) w1.heap.size x (putV x k i v) k i u) u → Calls Tryd.prog 10 #[.pointer (some ⟨w.heap.size, 0, none⟩), .int .i64 k, .int .i64 i] u fun e w' => e = .returned (.int .u8 0) ∧ (fun u => u.rangeAt w.heap.size 0 x.cells ∧ u.rangeAt w1.heap.size 0 (putV x k i v).cells ∧ (u.cell? ⟨w.heap.size + 1, 0, none⟩ = some (.int .i64 k) ∧ u.cell? ⟨w.heap.size + 1, 1, none⟩ = some (.int .i64 i)) ∧ LawS w w.heap.size (w.heap.size + 1) w1.heap.size x (putV x k i v) k i u) w' from fun u hu => keep_S hu (by have := byte_any w.heap.size x k i u hu.2.2.2.1 OK.out; rw [HB.out] at this; exact this))
    have JP := Lib.hid (show ∀ u : World, (fun u => u.rangeAt w.heap.size 0 x.cells ∧ u.rangeAt w1.heap.size 0 (putV x k i v).cells ∧ (u.cell? ⟨w.heap.size + 1, 0, none⟩ = some (.int .i64 k) ∧ u.cell? ⟨w.heap.size + 1, 1, none⟩ = some (.int .i64 i)) ∧ LawS w w.heap.size (w.heap.size + 1) w1.heap.size x (putV x k i v) k i u) u → Calls Tryd.prog 11 #[.agg x.cells.toArray, .int .i64 k, .int .i64 i, .int .u8 v] u fun e w' => e = .returned (.agg (putV x k i v).cells.toArray) ∧ (fun u => u.rangeAt w.heap.size 0 x.cells ∧ u.rangeAt w1.heap.size 0 (putV x k i v).cells ∧ (u.cell? ⟨w.heap.size + 1, 0, none⟩ = some (.int .i64 k) ∧ u.cell? ⟨w.heap.size + 1, 1, none⟩ = some (.int .i64 i)) ∧ LawS w w.heap.size (w.heap.size + 1) w1.heap.size x (putV x k i v) k i u) w' from fun u hu => keep_B HST.out hu (refPut_any x k i v u OK.out ⟨v0, v1⟩))
    have JL := Lib.hid (show ∀ u : World, (fun u => u.rangeAt w.heap.size 0 x.cells ∧ u.rangeAt w1.heap.size 0 (putV x k i v).cells ∧ (u.cell? ⟨w.heap.size + 1, 0, none⟩ = some (.int .i64 k) ∧ u.cell? ⟨w.heap.size + 1, 1, none⟩ = some (.int .i64 i)) ∧ LawS w w.heap.size (w.heap.size + 1) w1.heap.size x (putV x k i v) k i u) u → Calls Tryd.prog 12 #[] u fun e w' => e = .returned (.bool true) ∧ (fun u => u.rangeAt w.heap.size 0 x.cells ∧ u.rangeAt w1.heap.size 0 (putV x k i v).cells ∧ (u.cell? ⟨w.heap.size + 1, 0, none⟩ = some (.int .i64 k) ∧ u.cell? ⟨w.heap.size + 1, 1, none⟩ = some (.int .i64 i)) ∧ LawS w w.heap.size (w.heap.size + 1) w1.heap.size x (putV x k i v) k i u) w' from fun u hu => keep_B HST.out hu (lives_any u hu.2.2.2.2.2.2.1))
    have hS1 := HST.out _ _ (HU.out _ s4) (Below.refl _ _).drew
    clear s4
    go_wp2_with (fail)
    go_region_held3 (fun u => u.rangeAt w.heap.size 0 x.cells ∧ u.rangeAt w1.heap.size 0 (putV x k i v).cells ∧ (u.cell? ⟨w.heap.size + 1, 0, none⟩ = some (.int .i64 k) ∧ u.cell? ⟨w.heap.size + 1, 1, none⟩ = some (.int .i64 i)) ∧ LawS w w.heap.size (w.heap.size + 1) w1.heap.size x (putV x k i v) k i u) (assumption) (first | (go_at_call 10; refine (JB.out _ (by assumption)).mono ?_; rintro e w' ⟨rfl, hE⟩) | (go_at_call 11; refine (JP.out _ (by assumption)).mono ?_; rintro e w' ⟨rfl, hE⟩) | (go_at_call 12; refine (JL.out _ (by assumption)).mono ?_; rintro e w' ⟨rfl, hF⟩))
    have B := Lib.hid hF.2.2.2.2.2.2.2
    clear hF hS1
    go_wp2_with fail
    go_ret
    exact ⟨rfl, B.out⟩

theorem bytes_walk (x : Rg) (k i v : Int) (ok : x.Ok) (hv : (Lit.int .u8 v).wf = true) (w : World) (ht : Tab w) : Calls Tryd.prog 3 #[.agg x.cells.toArray, .agg #[.int .i64 k, .int .i64 i], .int .u8 v] w fun e w' => e = .returned (.bool true) ∧ Below w.heap.size w w' := by
  obtain ⟨v0, v1⟩ := u8_bd hv
  by_cases h : 0 ≤ k ∧ k < 8
  · obtain ⟨m, rfl⟩ := Int.eq_ofNat_of_zero_le h.1
    exact bytes_in x m i v w ok v0 v1 ht (by omega)
  · exact bytes_out x k i v w ok v0 v1 ht (by omega)

end Go.Proofs.YteffjidbcdnbhaaDoor
