/- Texts put together: TzxPacked, TzxMeas, TzxApp, TzxListI, TzxLists, HeldTail, TzxItem, TzxItems, Shelf, TzxSymMore. -/
import Derived.Test.YthlaglhlmbkniaaBas2
import Derived.StillTail
import Derived.Deep.RegionHeld3
import Derived.Shelf.Small.Bits
import Derived.Shelf.Strconv.Itoa0
import Derived.Test.YthlaglhlmbkniaaProg
import Derived.WalkKit
import Derived.LoopTactic
import Derived.BigQuiet
import Derived.RegionTactic
import Derived.ChangeAlike
import Derived.Lib.Hide
/- tzx.packedBlock, levelBlock, glueBlock: their contracts. -/
namespace Go.Proofs.Ythlaglhlmbkniaa
open Go.RowKit
set_option linter.unusedVariables false
set_option linter.unusedSimpArgs false
set_option maxRecDepth 100000
attribute [local simp ↓ high] blkLoad_as blkStore_as blkAlloc_as blkBuild_as

set_option maxHeartbeats 3200000 in
theorem packed_any (F : Nat → Prop) (w : World) (g : Nat) (l : List Int) (s : Rst) (h : Hid (RS F w g l s)) (hF : Hid (∀ i, F i → i < w.heap.size)) (hl : l.length ≤ 1000000) (h8 : Hid (Byte8 l)) (begin' : Nat) :
    Calls Try.prog 46 #[.pointer (some ⟨g, 0, none⟩), .int .i64 (begin' : Nat)] w (BlkE F w g l (packedS l begin' s) 24) := by
  have hal := run_blkAlloc
  have H4 := Lib.hid (fun u t (hr : Hid (RS F u g l t)) => num_any F u g l t hr hl 4 4 rfl (by decide) (by decide))
  have H2 := Lib.hid (fun u t (hr : Hid (RS F u g l t)) => num_any F u g l t hr hl 2 2 rfl (by decide) (by decide))
  have H3 := Lib.hid (fun u t (hr : Hid (RS F u g l t)) => num_any F u g l t hr hl 3 3 rfl (by decide) (by decide))
  have H1 := Lib.hid (fun u t (hr : Hid (RS F u g l t)) => num_any F u g l t hr hl 1 1 rfl (by decide) (by decide))
  have HFl := Lib.hid (fun u t (hr : Hid (RS F u g l t)) => fail_any F u g l t hr 4 (begin' : Nat) (by decide))
  have HTk := Lib.hid (fun u t n (hr : Hid (RS F u g l t)) hn => take_any F u g l t hr hl n hn)
  have H0 := Lib.hid (R0.new h.out hF.out)
  have hbd : ∀ (x0 x1 x2 x3 : Int) u, (blkBuild #[(0, .int .i64 24), (1, .int .i64 x0), (10, .int .i64 x1), (11, .int .i64 x2), (8, .int .i64 x3)]).run Try.prog u = .ok (.agg (bcs [(0, .int .i64 24), (1, .int .i64 x0), (10, .int .i64 x1), (11, .int .i64 x2), (8, .int .i64 x3)])) u := fun x0 x1 x2 x3 u => run_build u _ _ _ (show Try.prog.built 30 [(0, .int .i64 24), (1, .int .i64 x0), (10, .int .i64 x1), (11, .int .i64 x2), (8, .int .i64 x3)] = some _ by kernel_rfl)
  have HV0 : Hid (∀ (x0 x1 x2 x3 : Int), (bcs [(0, .int .i64 24), (1, .int .i64 x0), (10, .int .i64 x1), (11, .int .i64 x2), (8, .int .i64 x3)]).all (·.oneCell') = true) := Lib.hid fun x0 x1 x2 x3 => by kernel_rfl
  have HV : Hid (∀ (x0 x1 x2 x3 : Int) (A : Option Addr) (n c : Nat) u, BV (fun _ => False) u ((bcs [(0, .int .i64 24), (1, .int .i64 x0), (10, .int .i64 x1), (11, .int .i64 x2), (8, .int .i64 x3)]).setIfInBounds 12 (.slice A n c)) ⟨24, [], []⟩) := Lib.hid fun x0 x1 x2 x3 A n c u => ⟨by rw [Array.size_setIfInBounds]; exact bcs_size _, by kernel_rfl, by kernel_rfl, ⟨none, 0, 0, by kernel_rfl, IAt.empty _ _⟩, none, 0, 0, by kernel_rfl, ItAt.empty _ _⟩
  have HC12 : Hid (∀ (x0 x1 x2 x3 : Int), (bcs [(0, .int .i64 24), (1, .int .i64 x0), (10, .int .i64 x1), (11, .int .i64 x2), (8, .int .i64 x3)])[12]? = some (.slice none 0 0)) := Lib.hid fun x0 x1 x2 x3 => by kernel_rfl
  obtain ⟨b2, hb2⟩ : ∃ b2, w.heap.size = b2 := ⟨_, rfl⟩
  rw [hb2] at H0
  have hV0 := (numV_bd h8.out s 4)
  obtain ⟨V, hV⟩ : ∃ V, numV l s 4 = V := ⟨_, rfl⟩
  have HPk : Hid (packedS l begin' s = takS l (if V < 10 then failS (packT l s) 4 begin' else packT l s) (V - 10).toNat) := Lib.hid (by unfold packedS; rw [hV])
  have HV4 := Lib.hid hV
  rw [hV] at hV0
  have hVb : 0 ≤ V ∧ V < 4294967296 := hV0
  obtain ⟨hVa, hVc⟩ := hVb
  clear h hF hV hV0
  go_enter Try.func46, Try.ntmps46
  go_wp2_with fail
  clear hb2
  refine (H4.out _ _ (Lib.hid H0.out.rs)).mono ?_
  rintro x u0 ⟨rfl, hr, hc⟩
  have K1 := Lib.hid (H0.out.rd hr hc)
  clear hr hc
  rw [HV4.out]
  go_wp2_with fail
  refine (H2.out _ _ (Lib.hid K1.out.rs)).mono ?_
  rintro x u1 ⟨rfl, hr, hc⟩
  have K2 := Lib.hid (K1.out.rd hr hc)
  clear hr hc
  generalize numV l _ _ = x0
  go_wp2_with fail
  refine (H3.out _ _ (Lib.hid K2.out.rs)).mono ?_
  rintro x u2 ⟨rfl, hr, hc⟩
  have K3 := Lib.hid (K2.out.rd hr hc)
  clear hr hc
  generalize numV l _ _ = x1
  go_wp2_with fail
  refine (H1.out _ _ (Lib.hid K3.out.rs)).mono ?_
  rintro x u3 ⟨rfl, hr, hc⟩
  have K4 := Lib.hid (K3.out.rd hr hc)
  clear hr hc
  generalize numV l _ _ = x2
  go_wp2_with fail
  refine (H4.out _ _ (Lib.hid K4.out.rs)).mono ?_
  rintro x u4 ⟨rfl, hr, hc⟩
  have K5 : Hid (R0 F w u4 g l (packT l s) b2) := Lib.hid (K4.out.rd hr hc)
  clear hr hc
  generalize numV l _ _ = x3
  have hst := run_blkStore (BIn.new u4 (cs := blkZ) rfl) (bcs_size _) (HV0.out x0 x1 x2 x3)
  have K6 := Lib.hid (K5.out.var (bcs_size [(0, .int .i64 24), (1, .int .i64 x0), (10, .int .i64 x1), (11, .int .i64 x2), (8, .int .i64 x3)]))
  obtain ⟨W6, hW6⟩ : ∃ W6, (u4.alloc (.cells blkZ 30)).setRow u4.heap.size (bcs [(0, .int .i64 24), (1, .int .i64 x0), (10, .int .i64 x1), (11, .int .i64 x2), (8, .int .i64 x3)]) = W6 := ⟨_, rfl⟩
  obtain ⟨b3, hb3⟩ : ∃ b3, u4.heap.size = b3 := ⟨_, rfl⟩
  rw [hW6] at hst K6
  rw [hb3] at hst K6
  clear hW6
  have HB := Lib.hid (HV.out x0 x1 x2 x3)
  have HB12 := Lib.hid (HC12.out x0 x1 x2 x3)
  have hbd1 := hbd x0 x1 x2 x3
  clear hbd
  generalize bcs [(0, .int .i64 24), (1, .int .i64 x0), (10, .int .i64 x1), (11, .int .i64 x2), (8, .int .i64 x3)] = cs at *
  by_cases hten : V < 10
  · have d : decide (V < 10) = true := decide_eq_true hten
    have HPk2 : Hid (packedS l begin' s = takS l (failS (packT l s) 4 begin') (V - 10).toNat) := Lib.hid (by rw [HPk.out, if_pos hten])
    have HBad : Hid ((failS (packT l s) 4 (begin' : Nat)).e ≠ 0) := Lib.hid (by
      unfold failS
      split
      · rename_i x; exact x
      · exact (show (4 : Int) ≠ 0 by decide))
    go_wp2_with fail
    clear hb3 hst hbd1
    refine (HFl.out _ _ (Lib.hid K6.out.r0.rs)).mono ?_
    rintro x u7 ⟨rfl, hr, hc⟩
    have K7 := Lib.hid (K6.out.rd hr hc)
    clear hr hc
    go_wp2_with fail
    refine (HTk.out _ _ (V - 10) (Lib.hid K7.out.r0.rs) (Or.inl HBad.out)).mono ?_
    rintro x u8 ⟨A, n, c, rfl, _, hr, hc⟩
    have K8 := Lib.hid (K7.out.rd hr hc)
    clear hr hc
    have c12 := K8.out.c3.cell HB12.out
    have f12 := K8.out.c3.frozen 12
    have K9 := Lib.hid (K8.out.put 12 (.slice A n c))
    have hld := run_blkLoad K9.out.c3.mid
    have hst := run_blkStore K9.out.r0.c2 (HB.out A n c w).size (HB.out A n c w).one
    have HE : Hid (BlkE F w g l (takS l (failS (packT l s) 4 begin') (V - 10).toNat) 24 (.returned (.agg _)) _ ∧ BIn _ b2 _) := Lib.hid (K9.out.r0.made (HB.out A n c _))
    have HE2 : Hid (BlkE F w g l (packedS l begin' s) 24 (.returned (.agg _)) _ ∧ BIn _ b2 _) := Lib.hid (HPk2.out ▸ HE.out)
    clear HE HPk HPk2
    go_wp2_with fail
    exact bodyPost_ret (results_blk rfl _ HE2.out.2 rfl) rfl HE2.out.1
  · have d : decide (V < 10) = false := decide_eq_false hten
    have HPk2 : Hid (packedS l begin' s = takS l (packT l s) (V - 10).toNat) := Lib.hid (by rw [HPk.out, if_neg hten])
    go_wp2_with fail
    clear hb3 hst hbd1
    refine (HTk.out _ _ (V - 10) (Lib.hid K6.out.r0.rs) (Or.inr (by omega))).mono ?_
    rintro x u8 ⟨A, n, c, rfl, _, hr, hc⟩
    have K8 := Lib.hid (K6.out.rd hr hc)
    clear hr hc
    have c12 := K8.out.c3.cell HB12.out
    have f12 := K8.out.c3.frozen 12
    have K9 := Lib.hid (K8.out.put 12 (.slice A n c))
    have hld := run_blkLoad K9.out.c3.mid
    have hst := run_blkStore K9.out.r0.c2 (HB.out A n c w).size (HB.out A n c w).one
    have HE : Hid (BlkE F w g l (takS l (packT l s) (V - 10).toNat) 24 (.returned (.agg _)) _ ∧ BIn _ b2 _) := Lib.hid (K9.out.r0.made (HB.out A n c _))
    have HE2 : Hid (BlkE F w g l (packedS l begin' s) 24 (.returned (.agg _)) _ ∧ BIn _ b2 _) := Lib.hid (HPk2.out ▸ HE.out)
    clear HE HPk HPk2
    go_wp2_with fail
    exact bodyPost_ret (results_blk rfl _ HE2.out.2 rfl) rfl HE2.out.1
set_option maxHeartbeats 3200000 in
theorem level_any (F : Nat → Prop) (w : World) (g : Nat) (l : List Int) (s : Rst) (h : Hid (RS F w g l s)) (hF : Hid (∀ i, F i → i < w.heap.size)) (hl : l.length ≤ 1000000) (h8 : Hid (Byte8 l)) :
    Calls Try.prog 55 #[.pointer (some ⟨g, 0, none⟩)] w (BlkE F w g l (levelS l s) 43) := by
  have hal := run_blkAlloc
  have HO := Lib.hid (fun u t (hr : Hid (RS F u g l t)) => only_any F u g l t hr hl 1)
  have HA := Lib.hid (fun u t (hr : Hid (RS F u g l t)) => at_s F u g l t hr)
  have H1 := Lib.hid (fun u t (hr : Hid (RS F u g l t)) => num_any F u g l t hr hl 1 1 rfl (by decide) (by decide))
  have HFl := Lib.hid (fun u t (P : Nat) (hr : Hid (RS F u g l t)) => fail_any F u g l t hr 4 (P : Nat) (by decide))
  have H0 := Lib.hid (R0.new h.out hF.out)
  have hbd : ∀ (x0 : Int) u, (blkBuild #[(0, .int .i64 43), (9, .int .i64 x0)]).run Try.prog u = .ok (.agg (bcs [(0, .int .i64 43), (9, .int .i64 x0)])) u := fun x0 u => run_build u _ _ _ (show Try.prog.built 30 [(0, .int .i64 43), (9, .int .i64 x0)] = some _ by kernel_rfl)
  have HV : Hid (∀ (x0 : Int) u, BV (fun _ => False) u (bcs [(0, .int .i64 43), (9, .int .i64 x0)]) ⟨43, [], []⟩) := Lib.hid fun x0 u => bv_of (by kernel_rfl) (by kernel_rfl) (by kernel_rfl) (by kernel_rfl)
  have HC9 : Hid (∀ (x0 : Int), (bcs [(0, .int .i64 43), (9, .int .i64 x0)])[9]? = some (.int .i64 x0)) := Lib.hid fun x0 => by kernel_rfl
  obtain ⟨b2, hb2⟩ : ∃ b2, w.heap.size = b2 := ⟨_, rfl⟩
  rw [hb2] at H0
  obtain ⟨t, ht⟩ : ∃ t, onlyS l s 1 = t := ⟨_, rfl⟩
  have HLv : Hid (levelS l s = if 1 < numV l t 1 then failS (takS l t 1) 4 t.p else takS l t 1) := Lib.hid (by unfold levelS; rw [ht])
  have HT := Lib.hid ht
  clear h hF ht
  go_enter Try.func55, Try.ntmps55
  go_wp2_with fail
  clear hb2
  refine (HO.out _ _ (Lib.hid H0.out.rs)).mono ?_
  rintro x u0 ⟨rfl, hr, hc⟩
  have K1 := Lib.hid (H0.out.rd hr hc)
  rw [HT.out] at K1
  clear hr hc
  go_wp2_with fail
  refine (HA.out _ _ (Lib.hid K1.out.rs)).mono ?_
  rintro x u1 ⟨rfl, rfl⟩
  go_wp2_with fail
  refine (H1.out _ _ (Lib.hid K1.out.rs)).mono ?_
  rintro x u2 ⟨rfl, hr, hc⟩
  have K2 := Lib.hid (K1.out.rd hr hc)
  clear hr hc
  obtain ⟨V, hV⟩ : ∃ V, numV l t 1 = V := ⟨_, rfl⟩
  rw [hV] at HLv ⊢
  clear hV
  have hst := run_blkStore (BIn.new u2 (cs := blkZ) rfl) (bcs_size _) (HV.out V w).one
  have K6 := Lib.hid (K2.out.var (bcs_size [(0, .int .i64 43), (9, .int .i64 V)]))
  obtain ⟨W6, hW6⟩ : ∃ W6, (u2.alloc (.cells blkZ 30)).setRow u2.heap.size (bcs [(0, .int .i64 43), (9, .int .i64 V)]) = W6 := ⟨_, rfl⟩
  obtain ⟨b3, hb3⟩ : ∃ b3, u2.heap.size = b3 := ⟨_, rfl⟩
  rw [hW6] at hst K6
  rw [hb3] at hst K6
  clear hW6
  have HB := Lib.hid (HV.out V)
  have c9 := K6.out.c3.cell (HC9.out V)
  have hbd1 := hbd V
  clear hbd
  generalize bcs [(0, .int .i64 43), (9, .int .i64 V)] = cs at *
  have hld := run_blkLoad K6.out.c3.mid
  by_cases hone : 1 < V
  · have d : decide (1 < V) = true := decide_eq_true hone
    have HL2 : Hid (levelS l s = failS (takS l t 1) 4 t.p) := Lib.hid (by rw [HLv.out, if_pos hone])
    go_wp2_with fail
    clear hb3 hst hbd1 hld
    refine (HFl.out _ _ _ (Lib.hid K6.out.r0.rs)).mono ?_
    rintro x u7 ⟨rfl, hr, hc⟩
    have K7 := Lib.hid (K6.out.rd hr hc)
    clear hr hc
    have hld := run_blkLoad K7.out.c3.mid
    have hst := run_blkStore K7.out.r0.c2 (HB.out w).size (HB.out w).one
    have HE : Hid (BlkE F w g l (failS (takS l t 1) 4 t.p) 43 (.returned (.agg _)) _ ∧ BIn _ b2 _) := Lib.hid (K7.out.r0.made (HB.out _))
    have HE2 : Hid (BlkE F w g l (levelS l s) 43 (.returned (.agg _)) _ ∧ BIn _ b2 _) := Lib.hid (HL2.out ▸ HE.out)
    clear HE HLv HL2 c9
    go_wp2_with fail
    exact bodyPost_ret (results_blk rfl _ HE2.out.2 rfl) rfl HE2.out.1
  · have d : decide (1 < V) = false := decide_eq_false hone
    have HL2 : Hid (levelS l s = takS l t 1) := Lib.hid (by rw [HLv.out, if_neg hone])
    have hst2 := run_blkStore K6.out.r0.c2 (HB.out w).size (HB.out w).one
    have HE : Hid (BlkE F w g l (takS l t 1) 43 (.returned (.agg _)) _ ∧ BIn _ b2 _) := Lib.hid (K6.out.r0.made (HB.out _))
    have HE2 : Hid (BlkE F w g l (levelS l s) 43 (.returned (.agg _)) _ ∧ BIn _ b2 _) := Lib.hid (HL2.out ▸ HE.out)
    clear HE HLv HL2
    go_wp2_with fail
    exact bodyPost_ret (results_blk rfl _ HE2.out.2 rfl) rfl HE2.out.1

end Go.Proofs.Ythlaglhlmbkniaa
/- tzx.measured with each function that is handed in: its contracts, by that function's. -/
namespace Go.Proofs.Ythlaglhlmbkniaa
open Go.RowKit
set_option linter.unusedVariables false
set_option linter.unusedSimpArgs false
set_option maxRecDepth 100000
attribute [local simp ↓ high] blkLoad_as blkStore_as blkAlloc_as blkBuild_as

theorem R0.make {F G : Nat → Prop} {w u : World} {g : Nat} {l : List Int} {s : Rst} {b2 : Nat} (h : R0 F w u g l s b2) {cs : Array Value} {b : Lb} (hv : BV G u cs b) (hG : ∀ k, k < u.heap.size → G k → w.heap.size ≤ k ∧ k ≠ b2) : BlkE F w g l s b.id (.returned (.agg cs)) (u.setRow b2 cs) ∧ BIn (u.setRow b2 cs) b2 cs := by
  have h1 := h.o1
  have h2 := h.o2
  obtain ⟨k1, k2⟩ := h.c2.put hv.size
  have hw : BV (fun k => w.heap.size ≤ k ∧ k ≠ b2) u cs b := hv.weak hG
  exact ⟨⟨cs, b, rfl, rfl, (hw.ch k2 fun k hk => hk.2).weak fun k _ hk => hk.1, h.rs.ch k2 (by omega) (fun i hi => by have := h.o5 i hi; omega), h.ch.trans k2 fun i hi => Or.inr (by omega)⟩, k1⟩
/-- A variable holds a block whose lists lie elsewhere. -/
structure Ms (F : Nat → Prop) (w u : World) (g : Nat) (l : List Int) (s : Rst) (b2 b3 : Nat) (cs : Array Value) (b : Lb) : Prop where
  k : Rk F w u g l s b2 b3 cs
  bv : BV (fun k => w.heap.size ≤ k ∧ k ≠ b2 ∧ k ≠ b3) u cs b
theorem Ms.rd {F : Nat → Prop} {w u u' : World} {g : Nat} {l : List Int} {s s' : Rst} {b2 b3 : Nat} {cs : Array Value} {b : Lb} (h : Ms F w u g l s b2 b3 cs b) (hr : RS F u' g l s') (hc : Ch (fun k => k = g) u u') : Ms F w u' g l s' b2 b3 cs b := by
  have h1 := h.k.r0.o1
  exact ⟨h.k.rd hr hc, h.bv.ch hc fun k hk => by omega⟩
theorem Ms.new {F : Nat → Prop} {w u u' : World} {g : Nat} {l : List Int} {s s' : Rst} {b2 : Nat} (h : R0 F w u g l s b2) {cs : Array Value} {b : Lb} (hv : BV (fun k => u.heap.size ≤ k) u' cs b) (hr : RS F u' g l s') (hc : Ch (fun k => k = g) u u') : Ms F w ((u'.alloc (.cells blkZ 30)).setRow u'.heap.size cs) g l s' b2 u'.heap.size cs b := by
  have h1 := h.o1
  have h2 := h.o2
  have h3 := h.c2.lt
  have h4 := h.ch.size
  have hw : BV (fun k => w.heap.size ≤ k ∧ k ≠ b2 ∧ k ≠ u'.heap.size) u' cs b := hv.weak fun k hk hk2 => by omega
  have hb1 := BIn.new u' (cs := blkZ) rfl
  obtain ⟨hb2, hc2⟩ := hb1.put (cs := cs) hv.size
  exact ⟨(h.rd hr hc).var hv.size, (hw.below (bnew u' _)).ch hc2 fun k hk => hk.2.2⟩
theorem Ms.made {F : Nat → Prop} {w u : World} {g : Nat} {l : List Int} {s : Rst} {b2 b3 : Nat} {cs : Array Value} {b : Lb} (h : Ms F w u g l s b2 b3 cs b) : BlkE F w g l s b.id (.returned (.agg cs)) (u.setRow b2 cs) ∧ BIn (u.setRow b2 cs) b2 cs := h.k.r0.make h.bv fun k _ hk => ⟨hk.1, hk.2.1⟩
set_option maxHeartbeats 3200000 in
theorem meas_g (F : Nat → Prop) (w : World) (g : Nat) (l : List Int) (s : Rst) (rest : Rst → Rst) (begin' : Nat) (n : Int) (m : Nat) (hm : n = m) (h1 : 1 ≤ m) (h4 : m ≤ 4) (id : Int) (a0 : Value) (h : Hid (RS F w g l s)) (hF : Hid (∀ i, F i → i < w.heap.size)) (hl : l.length ≤ 1000000)
    (HC : Hid (∀ u t, Hid (RS F u g l t) → Hid (Ch (fun k => k = g) w u) → Calls Try.prog 48 #[a0] u (BlkE F u g l (rest t) id))) :
    Calls Try.prog 47 #[.pointer (some ⟨g, 0, none⟩), .int .i64 (begin' : Nat), .int .i64 n, .func (.func 48) #[] #[a0]] w (BlkE F w g l (measS' l rest begin' s m) id) := by
  have hal := run_blkAlloc
  subst hm
  have HN := Lib.hid (fun u (hr : Hid (RS F u g l s)) => num_any F u g l s hr hl (m : Nat) m rfl h1 h4)
  have HA := Lib.hid (fun u t (hr : Hid (RS F u g l t)) => at_s F u g l t hr)
  have HFl := Lib.hid (fun u t (hr : Hid (RS F u g l t)) => fail_any F u g l t hr 4 (begin' : Nat) (by decide))
  have H0 := Lib.hid (R0.new h.out hF.out)
  obtain ⟨b2, hb2⟩ : ∃ b2, w.heap.size = b2 := ⟨_, rfl⟩
  rw [hb2] at H0
  obtain ⟨V, hV⟩ : ∃ V, numV l s m = V := ⟨_, rfl⟩
  have HM : Hid (measS' l rest begin' s m = if ((rest (takS l s m)).p : Int) - (takS l s m).p = V then rest (takS l s m) else failS (rest (takS l s m)) 4 begin') := Lib.hid (by unfold measS'; rw [hV])
  have HV := Lib.hid hV
  clear h hF hV
  go_enter Try.func47, Try.ntmps47
  go_wp2_with fail
  clear hb2
  refine (HN.out _ (Lib.hid H0.out.rs)).mono ?_
  rintro x u0 ⟨rfl, hr, hc⟩
  have K1 := Lib.hid (H0.out.rd hr hc)
  clear hr hc
  rw [HV.out]
  generalize takS l s m = t at *
  go_wp2_with fail
  refine (HA.out _ _ (Lib.hid K1.out.rs)).mono ?_
  rintro x u1 ⟨rfl, rfl⟩
  go_wp2_with fail
  refine (HC.out _ _ (Lib.hid K1.out.rs) (Lib.hid K1.out.ch)).mono ?_
  rintro x u2 ⟨cs, b, rfl, hid, hv, hr, hc⟩
  generalize rest t = t2 at *
  have hst := run_blkStore (BIn.new u2 (cs := blkZ) rfl) hv.size hv.one
  have K2 := Lib.hid (Ms.new K1.out hv hr hc)
  obtain ⟨W6, hW6⟩ : ∃ W6, (u2.alloc (.cells blkZ 30)).setRow u2.heap.size cs = W6 := ⟨_, rfl⟩
  obtain ⟨b3, hb3⟩ : ∃ b3, u2.heap.size = b3 := ⟨_, rfl⟩
  have HId := Lib.hid hid
  rw [hW6] at hst K2
  rw [hb3] at hst K2
  clear hv hr hc hW6 hid
  obtain ⟨P1, hP1⟩ : ∃ P1, t.p = P1 := ⟨_, rfl⟩
  obtain ⟨P2, hP3⟩ : ∃ P2, t2.p = P2 := ⟨_, rfl⟩
  have hq1 : P1 ≤ 1000000 := by have h5 : t.p ≤ l.length := (show RdAt _ _ _ _ _ _ _ from K1.out.rs).fit; omega
  have hq2 : P2 ≤ 1000000 := by have h5 : t2.p ≤ l.length := (show RdAt _ _ _ _ _ _ _ from K2.out.k.r0.rs).fit; omega
  have HAt : Hid (∀ u (hr : Hid (RS F u g l t2)), Calls Try.prog 37 #[.pointer (some ⟨g, 0, none⟩)] u fun x w' => x = .returned (.int .i64 (P2 : Nat)) ∧ u = w') := Lib.hid (by intro u hr; rw [← hP3]; exact HA.out u t2 hr)
  rw [hP1, hP3] at HM
  rw [hP1]
  by_cases e : (P2 : Int) - (P1 : Int) = V
  · have d : ((P2 : Int) - (P1 : Int) != V) = false := by rw [e]; simp
    have HM2 : Hid (measS' l rest begin' s m = t2) := Lib.hid (by rw [HM.out, if_pos e])
    clear HM e hP1 hP3
    go_wp2_with fail
    clear hb3 hst
    refine (HAt.out _ (Lib.hid K2.out.k.r0.rs)).mono ?_
    rintro x u3 ⟨rfl, rfl⟩
    have hld := run_blkLoad K2.out.k.c3.mid
    have hst := run_blkStore K2.out.k.r0.c2 K2.out.bv.size K2.out.bv.one
    have HE : Hid (BlkE F w g l (measS' l rest begin' s m) id (.returned (.agg cs)) (W6.setRow b2 cs) ∧ BIn (W6.setRow b2 cs) b2 cs) := Lib.hid (by rw [HM2.out, ← HId.out]; exact K2.out.made)
    go_wp2_with fail
    exact bodyPost_ret (results_blk rfl _ HE.out.2 rfl) rfl HE.out.1
  · have d : ((P2 : Int) - (P1 : Int) != V) = true := by simpa using e
    have HM2 : Hid (measS' l rest begin' s m = failS t2 4 begin') := Lib.hid (by rw [HM.out, if_neg e])
    clear HM e hP1 hP3
    go_wp2_with fail
    clear hb3 hst
    refine (HAt.out _ (Lib.hid K2.out.k.r0.rs)).mono ?_
    rintro x u3 ⟨rfl, rfl⟩
    go_wp2_with fail
    refine (HFl.out _ _ (Lib.hid K2.out.k.r0.rs)).mono ?_
    rintro x u4 ⟨rfl, hr, hc⟩
    have K3 := Lib.hid (K2.out.rd hr hc)
    clear hr hc
    have hld := run_blkLoad K3.out.k.c3.mid
    have hst := run_blkStore K3.out.k.r0.c2 K3.out.bv.size K3.out.bv.one
    have HE : Hid (BlkE F w g l (measS' l rest begin' s m) id (.returned (.agg cs)) (u4.setRow b2 cs) ∧ BIn (u4.setRow b2 cs) b2 cs) := Lib.hid (by rw [HM2.out, ← HId.out]; exact K3.out.made)
    go_wp2_with fail
    exact bodyPost_ret (results_blk rfl _ HE.out.2 rfl) rfl HE.out.1
set_option maxHeartbeats 3200000 in
theorem meas_c (F : Nat → Prop) (w : World) (g : Nat) (l : List Int) (s : Rst) (rest : Rst → Rst) (begin' : Nat) (n : Int) (m : Nat) (hm : n = m) (h1 : 1 ≤ m) (h4 : m ≤ 4) (id : Int) (a0 a1 : Value) (h : Hid (RS F w g l s)) (hF : Hid (∀ i, F i → i < w.heap.size)) (hl : l.length ≤ 1000000)
    (HC : Hid (∀ u t, Hid (RS F u g l t) → Hid (Ch (fun k => k = g) w u) → Calls Try.prog 52 #[a0, a1] u (BlkE F u g l (rest t) id))) :
    Calls Try.prog 47 #[.pointer (some ⟨g, 0, none⟩), .int .i64 (begin' : Nat), .int .i64 n, .func (.func 52) #[] #[a0, a1]] w (BlkE F w g l (measS' l rest begin' s m) id) := by
  have hal := run_blkAlloc
  subst hm
  have HN := Lib.hid (fun u (hr : Hid (RS F u g l s)) => num_any F u g l s hr hl (m : Nat) m rfl h1 h4)
  have HA := Lib.hid (fun u t (hr : Hid (RS F u g l t)) => at_s F u g l t hr)
  have HFl := Lib.hid (fun u t (hr : Hid (RS F u g l t)) => fail_any F u g l t hr 4 (begin' : Nat) (by decide))
  have H0 := Lib.hid (R0.new h.out hF.out)
  obtain ⟨b2, hb2⟩ : ∃ b2, w.heap.size = b2 := ⟨_, rfl⟩
  rw [hb2] at H0
  obtain ⟨V, hV⟩ : ∃ V, numV l s m = V := ⟨_, rfl⟩
  have HM : Hid (measS' l rest begin' s m = if ((rest (takS l s m)).p : Int) - (takS l s m).p = V then rest (takS l s m) else failS (rest (takS l s m)) 4 begin') := Lib.hid (by unfold measS'; rw [hV])
  have HV := Lib.hid hV
  clear h hF hV
  go_enter Try.func47, Try.ntmps47
  go_wp2_with fail
  clear hb2
  refine (HN.out _ (Lib.hid H0.out.rs)).mono ?_
  rintro x u0 ⟨rfl, hr, hc⟩
  have K1 := Lib.hid (H0.out.rd hr hc)
  clear hr hc
  rw [HV.out]
  generalize takS l s m = t at *
  go_wp2_with fail
  refine (HA.out _ _ (Lib.hid K1.out.rs)).mono ?_
  rintro x u1 ⟨rfl, rfl⟩
  go_wp2_with fail
  refine (HC.out _ _ (Lib.hid K1.out.rs) (Lib.hid K1.out.ch)).mono ?_
  rintro x u2 ⟨cs, b, rfl, hid, hv, hr, hc⟩
  generalize rest t = t2 at *
  have hst := run_blkStore (BIn.new u2 (cs := blkZ) rfl) hv.size hv.one
  have K2 := Lib.hid (Ms.new K1.out hv hr hc)
  obtain ⟨W6, hW6⟩ : ∃ W6, (u2.alloc (.cells blkZ 30)).setRow u2.heap.size cs = W6 := ⟨_, rfl⟩
  obtain ⟨b3, hb3⟩ : ∃ b3, u2.heap.size = b3 := ⟨_, rfl⟩
  have HId := Lib.hid hid
  rw [hW6] at hst K2
  rw [hb3] at hst K2
  clear hv hr hc hW6 hid
  obtain ⟨P1, hP1⟩ : ∃ P1, t.p = P1 := ⟨_, rfl⟩
  obtain ⟨P2, hP3⟩ : ∃ P2, t2.p = P2 := ⟨_, rfl⟩
  have hq1 : P1 ≤ 1000000 := by have h5 : t.p ≤ l.length := (show RdAt _ _ _ _ _ _ _ from K1.out.rs).fit; omega
  have hq2 : P2 ≤ 1000000 := by have h5 : t2.p ≤ l.length := (show RdAt _ _ _ _ _ _ _ from K2.out.k.r0.rs).fit; omega
  have HAt : Hid (∀ u (hr : Hid (RS F u g l t2)), Calls Try.prog 37 #[.pointer (some ⟨g, 0, none⟩)] u fun x w' => x = .returned (.int .i64 (P2 : Nat)) ∧ u = w') := Lib.hid (by intro u hr; rw [← hP3]; exact HA.out u t2 hr)
  rw [hP1, hP3] at HM
  rw [hP1]
  by_cases e : (P2 : Int) - (P1 : Int) = V
  · have d : ((P2 : Int) - (P1 : Int) != V) = false := by rw [e]; simp
    have HM2 : Hid (measS' l rest begin' s m = t2) := Lib.hid (by rw [HM.out, if_pos e])
    clear HM e hP1 hP3
    go_wp2_with fail
    clear hb3 hst
    refine (HAt.out _ (Lib.hid K2.out.k.r0.rs)).mono ?_
    rintro x u3 ⟨rfl, rfl⟩
    have hld := run_blkLoad K2.out.k.c3.mid
    have hst := run_blkStore K2.out.k.r0.c2 K2.out.bv.size K2.out.bv.one
    have HE : Hid (BlkE F w g l (measS' l rest begin' s m) id (.returned (.agg cs)) (W6.setRow b2 cs) ∧ BIn (W6.setRow b2 cs) b2 cs) := Lib.hid (by rw [HM2.out, ← HId.out]; exact K2.out.made)
    go_wp2_with fail
    exact bodyPost_ret (results_blk rfl _ HE.out.2 rfl) rfl HE.out.1
  · have d : ((P2 : Int) - (P1 : Int) != V) = true := by simpa using e
    have HM2 : Hid (measS' l rest begin' s m = failS t2 4 begin') := Lib.hid (by rw [HM.out, if_neg e])
    clear HM e hP1 hP3
    go_wp2_with fail
    clear hb3 hst
    refine (HAt.out _ (Lib.hid K2.out.k.r0.rs)).mono ?_
    rintro x u3 ⟨rfl, rfl⟩
    go_wp2_with fail
    refine (HFl.out _ _ (Lib.hid K2.out.k.r0.rs)).mono ?_
    rintro x u4 ⟨rfl, hr, hc⟩
    have K3 := Lib.hid (K2.out.rd hr hc)
    clear hr hc
    have hld := run_blkLoad K3.out.k.c3.mid
    have hst := run_blkStore K3.out.k.r0.c2 K3.out.bv.size K3.out.bv.one
    have HE : Hid (BlkE F w g l (measS' l rest begin' s m) id (.returned (.agg cs)) (u4.setRow b2 cs) ∧ BIn (u4.setRow b2 cs) b2 cs) := Lib.hid (by rw [HM2.out, ← HId.out]; exact K3.out.made)
    go_wp2_with fail
    exact bodyPost_ret (results_blk rfl _ HE.out.2 rfl) rfl HE.out.1
set_option maxHeartbeats 3200000 in
theorem meas_a (F : Nat → Prop) (w : World) (g : Nat) (l : List Int) (s : Rst) (rest : Rst → Rst) (begin' : Nat) (n : Int) (m : Nat) (hm : n = m) (h1 : 1 ≤ m) (h4 : m ≤ 4) (id : Int) (a0 a1 a2 : Value) (h : Hid (RS F w g l s)) (hF : Hid (∀ i, F i → i < w.heap.size)) (hl : l.length ≤ 1000000)
    (HC : Hid (∀ u t, Hid (RS F u g l t) → Hid (Ch (fun k => k = g) w u) → Calls Try.prog 57 #[a0, a1, a2] u (BlkE F u g l (rest t) id))) :
    Calls Try.prog 47 #[.pointer (some ⟨g, 0, none⟩), .int .i64 (begin' : Nat), .int .i64 n, .func (.func 57) #[] #[a0, a1, a2]] w (BlkE F w g l (measS' l rest begin' s m) id) := by
  have hal := run_blkAlloc
  subst hm
  have HN := Lib.hid (fun u (hr : Hid (RS F u g l s)) => num_any F u g l s hr hl (m : Nat) m rfl h1 h4)
  have HA := Lib.hid (fun u t (hr : Hid (RS F u g l t)) => at_s F u g l t hr)
  have HFl := Lib.hid (fun u t (hr : Hid (RS F u g l t)) => fail_any F u g l t hr 4 (begin' : Nat) (by decide))
  have H0 := Lib.hid (R0.new h.out hF.out)
  obtain ⟨b2, hb2⟩ : ∃ b2, w.heap.size = b2 := ⟨_, rfl⟩
  rw [hb2] at H0
  obtain ⟨V, hV⟩ : ∃ V, numV l s m = V := ⟨_, rfl⟩
  have HM : Hid (measS' l rest begin' s m = if ((rest (takS l s m)).p : Int) - (takS l s m).p = V then rest (takS l s m) else failS (rest (takS l s m)) 4 begin') := Lib.hid (by unfold measS'; rw [hV])
  have HV := Lib.hid hV
  clear h hF hV
  go_enter Try.func47, Try.ntmps47
  go_wp2_with fail
  clear hb2
  refine (HN.out _ (Lib.hid H0.out.rs)).mono ?_
  rintro x u0 ⟨rfl, hr, hc⟩
  have K1 := Lib.hid (H0.out.rd hr hc)
  clear hr hc
  rw [HV.out]
  generalize takS l s m = t at *
  go_wp2_with fail
  refine (HA.out _ _ (Lib.hid K1.out.rs)).mono ?_
  rintro x u1 ⟨rfl, rfl⟩
  go_wp2_with fail
  refine (HC.out _ _ (Lib.hid K1.out.rs) (Lib.hid K1.out.ch)).mono ?_
  rintro x u2 ⟨cs, b, rfl, hid, hv, hr, hc⟩
  generalize rest t = t2 at *
  have hst := run_blkStore (BIn.new u2 (cs := blkZ) rfl) hv.size hv.one
  have K2 := Lib.hid (Ms.new K1.out hv hr hc)
  obtain ⟨W6, hW6⟩ : ∃ W6, (u2.alloc (.cells blkZ 30)).setRow u2.heap.size cs = W6 := ⟨_, rfl⟩
  obtain ⟨b3, hb3⟩ : ∃ b3, u2.heap.size = b3 := ⟨_, rfl⟩
  have HId := Lib.hid hid
  rw [hW6] at hst K2
  rw [hb3] at hst K2
  clear hv hr hc hW6 hid
  obtain ⟨P1, hP1⟩ : ∃ P1, t.p = P1 := ⟨_, rfl⟩
  obtain ⟨P2, hP3⟩ : ∃ P2, t2.p = P2 := ⟨_, rfl⟩
  have hq1 : P1 ≤ 1000000 := by have h5 : t.p ≤ l.length := (show RdAt _ _ _ _ _ _ _ from K1.out.rs).fit; omega
  have hq2 : P2 ≤ 1000000 := by have h5 : t2.p ≤ l.length := (show RdAt _ _ _ _ _ _ _ from K2.out.k.r0.rs).fit; omega
  have HAt : Hid (∀ u (hr : Hid (RS F u g l t2)), Calls Try.prog 37 #[.pointer (some ⟨g, 0, none⟩)] u fun x w' => x = .returned (.int .i64 (P2 : Nat)) ∧ u = w') := Lib.hid (by intro u hr; rw [← hP3]; exact HA.out u t2 hr)
  rw [hP1, hP3] at HM
  rw [hP1]
  by_cases e : (P2 : Int) - (P1 : Int) = V
  · have d : ((P2 : Int) - (P1 : Int) != V) = false := by rw [e]; simp
    have HM2 : Hid (measS' l rest begin' s m = t2) := Lib.hid (by rw [HM.out, if_pos e])
    clear HM e hP1 hP3
    go_wp2_with fail
    clear hb3 hst
    refine (HAt.out _ (Lib.hid K2.out.k.r0.rs)).mono ?_
    rintro x u3 ⟨rfl, rfl⟩
    have hld := run_blkLoad K2.out.k.c3.mid
    have hst := run_blkStore K2.out.k.r0.c2 K2.out.bv.size K2.out.bv.one
    have HE : Hid (BlkE F w g l (measS' l rest begin' s m) id (.returned (.agg cs)) (W6.setRow b2 cs) ∧ BIn (W6.setRow b2 cs) b2 cs) := Lib.hid (by rw [HM2.out, ← HId.out]; exact K2.out.made)
    go_wp2_with fail
    exact bodyPost_ret (results_blk rfl _ HE.out.2 rfl) rfl HE.out.1
  · have d : ((P2 : Int) - (P1 : Int) != V) = true := by simpa using e
    have HM2 : Hid (measS' l rest begin' s m = failS t2 4 begin') := Lib.hid (by rw [HM.out, if_neg e])
    clear HM e hP1 hP3
    go_wp2_with fail
    clear hb3 hst
    refine (HAt.out _ (Lib.hid K2.out.k.r0.rs)).mono ?_
    rintro x u3 ⟨rfl, rfl⟩
    go_wp2_with fail
    refine (HFl.out _ _ (Lib.hid K2.out.k.r0.rs)).mono ?_
    rintro x u4 ⟨rfl, hr, hc⟩
    have K3 := Lib.hid (K2.out.rd hr hc)
    clear hr hc
    have hld := run_blkLoad K3.out.k.c3.mid
    have hst := run_blkStore K3.out.k.r0.c2 K3.out.bv.size K3.out.bv.one
    have HE : Hid (BlkE F w g l (measS' l rest begin' s m) id (.returned (.agg cs)) (u4.setRow b2 cs) ∧ BIn (u4.setRow b2 cs) b2 cs) := Lib.hid (by rw [HM2.out, ← HId.out]; exact K3.out.made)
    go_wp2_with fail
    exact bodyPost_ret (results_blk rfl _ HE.out.2 rfl) rfl HE.out.1

end Go.Proofs.Ythlaglhlmbkniaa
/- A value of several cells put behind a row of the call's own. -/
namespace Go.Proofs.Ythlaglhlmbkniaa
open Go.RowKit
set_option linter.unusedVariables false

/-- Which blocks may have changed, and where the row lies now. -/
theorem wpList_append_gen {P : Program} {ops : Array Oper} {rest : List Oper} {o : Oper} {a : Act} {Q : Exit → Act → World → Prop} {wr : World} {base : Nat} (e t : TypeId) (z : Value) (sz by' : Nat)
    (hinfo : (P.info? e).map (fun i => (i.zero, i.size, i.bytes)) = some (some z, sz, by')) (hzs : z.cells.size = sz) (hs0 : 0 < sz) (ht : P.underlying t = some (.slice e))
    (hgd : o.guard = none) (s x : Operand) (ho : o.op = .call { callee := .builtin .append, args := #[s, x], argTypes := #[t, t] })
    (A : Option Addr) (n c : Nat) (xs : List Value) (hs : a.eval s = .slice A n c) (h5 : wr.ownsRow base e sz (.slice A n c) n xs) (cs : Array Value) (hcs : cs.size = sz) (hone : cs.all (·.oneCell') = true) (bk : Nat) (hbk : bk = wr.heap.size) (hlow : base ≤ wr.heap.size) (hx : a.eval x = .slice (some ⟨bk, 0, none⟩) 1 1) (hn : n + 1 ≤ maxLen) (hby : (n + 1) * by' ≤ 140737488355328)
    (h : ∀ g c' w', w'.ownsRow base e sz (.slice (some ⟨g, 0, none⟩) (n + 1) c') (n + 1) (xs ++ cs.toList) → Ch (fun k => (Value.slice A n c).ownBlock = some k) wr w' → (∀ k, k < wr.heap.size → (Value.slice A n c).ownBlock ≠ some k → (Value.slice (some ⟨g, 0, none⟩) (n + 1) c').ownBlock ≠ some k) → wpList P ops Q rest (a.put o.dst (.slice (some ⟨g, 0, none⟩) (n + 1) c')) w') : wpList P ops Q (o :: rest) a (wr.alloc (.cells cs e)) := by
  subst hbk
  obtain ⟨i0, hi, hz0, hz1, hz2⟩ := info_parts hinfo
  have hlc : cs.toList.length = sz := by rw [Array.length_toList, hcs]
  refine wpList_append_lies _ hgd s x t ho base e i0 _ sz by' ht hi hz0 hz1 hz2 hzs hs0 _ n _ hs (h5.alloc _) ⟨wr.heap.size, 0, none⟩ 1 1 cs.toList hx (by rw [hlc, Nat.one_mul]) (World.news_of_block (cs := cs) (heap_alloc_new wr _)) (fun u hu => (Array.all_eq_true_iff_forall_mem.1 hone) u (by simpa using hu)) (by decide) hn hby (by simp; omega) _ rfl ?_
  intro g cap1 w' k1 k2 k3 k4
  have hbel : Below base wr w' := (((Below.refl _ _).alloc (Nat.le_refl _) _).mono hlow).grown k2 (by simp; omega) (fun k hk => (own_low h5 k hk).1)
  refine h g cap1 w' k1 ⟨hbel.os, hbel.tape, hbel.output, hbel.size, fun k hk hf => ?_⟩ fun k hk hf e => ?_
  · have e1 := k2.block k (by simp; omega) (fun e => hf e.symm)
    rw [e1]
    exact (bnew wr (.cells cs e)).block k hk
  · simp only [Value.ownBlock, Option.some.injEq] at e
    subst e
    rcases k3 with k3 | k3
    · exact hf k3
    · simp at k3; omega
/-- A row of Items. -/
def itemsL (l : List (Int × (Option Addr × Nat × Nat))) : List Value := l.flatMap fun x => [.int .i64 x.1, .slice x.2.1 x.2.2.1 x.2.2.2]
theorem itemsL_len : ∀ l, (itemsL l).length = l.length * 2
  | [] => rfl
  | x :: l => by
    have := itemsL_len l
    unfold itemsL at this ⊢
    rw [List.flatMap_cons, List.length_append, this, List.length_cons]
    simp; omega
theorem itemsL_snoc (l : List (Int × (Option Addr × Nat × Nat))) (x : Int) (A : Option Addr) (m c : Nat) : itemsL l ++ [.int .i64 x, .slice A m c] = itemsL (l ++ [(x, A, m, c)]) := by unfold itemsL; rw [List.flatMap_append]; simp
theorem itemsL_at : ∀ (l : List (Int × (Option Addr × Nat × Nat))) (j : Nat), j < l.length → (itemsL l)[j * 2]? = some (.int .i64 (gI (l.map (·.1)) j)) ∧ ∃ D m c, (itemsL l)[j * 2 + 1]? = some (.slice D m c)
  | [], j, h => absurd h (by simp)
  | x :: l, 0, _ => ⟨rfl, x.2.1, x.2.2.1, x.2.2.2, rfl⟩
  | x :: l, j + 1, h => by
    have ih := itemsL_at l j (by simpa using h)
    have e : itemsL (x :: l) = [.int .i64 x.1, .slice x.2.1 x.2.2.1 x.2.2.2] ++ itemsL l := by unfold itemsL; rw [List.flatMap_cons]
    rw [e]
    refine ⟨?_, ?_⟩
    · rw [List.getElem?_append_right (by simp; omega)]
      have e2 : (j + 1) * 2 - ([.int .i64 x.1, .slice x.2.1 x.2.2.1 x.2.2.2] : List Value).length = j * 2 := by simp; omega
      rw [e2, ih.1]
      rfl
    · obtain ⟨D, m, c, h2⟩ := ih.2
      refine ⟨D, m, c, ?_⟩
      rw [List.getElem?_append_right (by simp; omega)]
      have e2 : (j + 1) * 2 + 1 - ([.int .i64 x.1, .slice x.2.1 x.2.2.1 x.2.2.2] : List Value).length = j * 2 + 1 := by simp; omega
      rw [e2, h2]
theorem items_own {w : World} {base n : Nat} {A : Option Addr} {m cap : Nat} {l : List (Int × (Option Addr × Nat × Nat))} (h : w.ownsRow base 32 2 (.slice A m cap) n (itemsL l)) : ItAt (fun k => base ≤ k) w A n cap (l.map (·.1)) := by
  have hlen : l.length = n := by have := h.1; rw [itemsL_len] at this; omega
  have hcopy := h
  rcases h.2 with ⟨e1, h0⟩ | ⟨g, cap', cur, e1, hb, hg, hnc, hm, _, _⟩
  · injection e1 with e1 e2 e3
    subst e1 e2 e3
    exact ⟨by simpa using hlen, by omega, Nat.zero_le _, fun h => absurd h (by omega)⟩
  · injection e1 with e1 e2 e3
    subst e1 e2 e3
    refine ⟨by simpa using hlen, by omega, hm, fun _ => ⟨g, 0, rfl, hb, (Array.getElem?_eq_some_iff.1 hg).1, fun j hj => ?_⟩⟩
    obtain ⟨k1, D, m2, c2, k2⟩ := itemsL_at l j (by omega)
    refine ⟨?_, D, m2, c2, ?_⟩
    · rw [Nat.zero_add, hcopy.cellAt (j * 2) (by omega), k1]
    · rw [Nat.zero_add, hcopy.cellAt (j * 2 + 1) (by omega), k2]
theorem infoIt : (Try.prog.info? 32).map (fun i => (i.zero, i.size, i.bytes)) = some (some (.agg #[.int .i64 0, .slice none 0 0]), 2, 32) := by kernel_rfl

end Go.Proofs.Ythlaglhlmbkniaa
/- tzx.list of numbers with a sign: its contract. -/
namespace Go.Proofs.Ythlaglhlmbkniaa
open Go.RowKit
set_option linter.unusedVariables false
set_option linter.unusedSimpArgs false
set_option maxRecDepth 100000

theorem listS_bad {one : Rst → Rst} {s : Rst} (h : s.e ≠ 0) : ∀ k, listS one k s = s
  | 0 => rfl
  | k + 1 => by rw [listS, if_neg h]
theorem listS_on {one : Rst → Rst} {s : Rst} (h : s.e = 0) {N j : Nat} (hj : j < N) : listS one (N - j) s = listS one (N - (j + 1)) (one s) := by
  rw [show N - j = (N - (j + 1)) + 1 by omega, listS, if_pos h]
/-- How far a list has come: its row, the reader's state. -/
structure Ls (F : Nat → Prop) (w wr : World) (g : Nat) (l : List Int) (one : Rst → Rst) (N j : Nat) (R t : Rst) : Prop where
  rs : RS F wr g l t
  ch : Ch (fun k => k = g) w wr
  is : listS one (N - j) t = R
  o1 : g < w.heap.size
  o5 : ∀ i, F i → i < w.heap.size
theorem Ls.rd {F : Nat → Prop} {w wr w' : World} {g : Nat} {l : List Int} {one : Rst → Rst} {N j : Nat} {R t : Rst} (h : Ls F w wr g l one N j R t) (ht : t.e = 0) (hj : j < N) (hr : RS F w' g l (one t)) (hc : Ch (fun k => k = g) wr w') : Ls F w w' g l one N (j + 1) R (one t) :=
  ⟨hr, h.ch.then hc, by rw [← h.is, listS_on ht hj], h.o1, h.o5⟩
/-- A row of the call's own, where a reader's block alone changed. -/
theorem own_rd {w wr w' : World} {g : Nat} {e : TypeId} {sz : Nat} {v : Value} {n : Nat} {xs : List Value} (h : wr.ownsRow w.heap.size e sz v n xs) (hg : g < w.heap.size) (hc : Ch (fun k => k = g) wr w') : w'.ownsRow w.heap.size e sz v n xs := own_kept' h fun i hi e => hc.block i hi (by have := own_low h i e; omega)
theorem Ls.row {F : Nat → Prop} {w wr w' : World} {g : Nat} {l : List Int} {one : Rst → Rst} {N j : Nat} {R t : Rst} (h : Ls F w wr g l one N j R t) {e : TypeId} {sz : Nat} {v : Value} {n : Nat} {xs : List Value} (ho : wr.ownsRow w.heap.size e sz v n xs) (hc : Ch (fun k => v.ownBlock = some k) wr w') : Ls F w w' g l one N j R t := by
  have h1 := h.o1
  have hb : ∀ i, v.ownBlock = some i → w.heap.size ≤ i := fun i e => (own_low ho i e).1
  exact ⟨h.rs.ch hc (fun e => by have := hb _ e; omega) fun i hi e => by have := hb _ e; have := h.o5 i hi; omega, h.ch.trans hc fun i hi => Or.inr (hb i hi), h.is, h1, h.o5⟩
set_option maxHeartbeats 3200000 in
theorem listI_any (F : Nat → Prop) (w : World) (g : Nat) (l : List Int) (s : Rst) (h : Hid (RS F w g l s)) (hF : Hid (∀ i, F i → i < w.heap.size)) (hl : l.length ≤ 1000000) (N : Nat) (hN : N ≤ 4294967296) (R : Rst) (hR : listS (fun t => takS l t 2) N s = R) :
    Calls Try.prog 51 #[.pointer (some ⟨g, 0, none⟩), .int .i64 (N : Nat), .func (.func 50) #[.pointer (some ⟨g, 0, none⟩)] #[]] w (GotI F w g l R) := by
  have HB := Lib.hid (fun u t q (hr : Hid (RS F u g l t)) hq => bad_s F u g l t hr q hq)
  have HS := Lib.hid (fun u t (hr : Hid (RS F u g l t)) => signed_any F u g l t hr hl)
  have H0 : Hid (Ls F w w g l (fun t => takS l t 2) N 0 R s) := Lib.hid ⟨h.out, Ch.refl _ _, hR, h.out.lt, hF.out⟩
  have HO : Hid (w.ownsRow w.heap.size 3 1 (.slice none 0 0) 0 (([] : List Int).map i64I)) := Lib.hid (World.ownsRow_nil _ _ _ _)
  clear h hF hR
  go_enter Try.func51, Try.ntmps51
  go_wp2_with fail
  go_loopw [7, 9] (fun sl v wr => ∃ (j m : Nat) (A : Option Addr) (c : Nat) (xs : List Int) (t : Rst), v = .int .i64 j ∧ j ≤ N ∧ m ≤ j ∧ sl = .slice A m c ∧ Hid (wr.ownsRow w.heap.size 3 1 (.slice A m c) m (xs.map i64I)) ∧ Hid (Ls F w wr g l (fun t => takS l t 2) N j R t)) (fun _ v _ => N - (intOf v).toNat)
  case atStart => exact ⟨0, 0, none, 0, [], s, rfl, by omega, by omega, rfl, HO, H0⟩
  case round =>
    obtain ⟨j, m, A, c, xs, t, rfl, hj, hm, rfl, HW, HL⟩ := hrel
    obtain ⟨A9, c9, e9, hn9, hm9⟩ := own_slice HW.out
    injection e9 with e91 e92 e93
    subst e91 e93
    unfold maxLen at hm9
    clear e92
    by_cases hlt : j < N
    · by_cases he : t.e = 0
      · have HBd := Lib.hid (HB.out wr t true (Lib.hid HL.out.rs) (by rw [he]; rfl))
        have HE := Lib.hid he
        clear he
        go_wp2_with fail
        refine HBd.out.mono ?_
        rintro x w1 ⟨rfl, rfl⟩
        go_wp2_with fail
        refine (HS.out _ _ (Lib.hid HL.out.rs)).mono ?_
        rintro x w2 ⟨v, rfl, hr, hc⟩
        have HL2 := Lib.hid (HL.out.rd HE.out hlt hr hc)
        have HW2 := Lib.hid (own_rd HW.out HL.out.o1 hc)
        have hlow : w.heap.size ≤ w2.heap.size := HL2.out.ch.size
        clear hr hc HBd
        go_wp2_with (at_builtin; refine wpList_append_int 22 infoI64 Try.underlying22 rfl (.tmp 13) (.tmp 16) rfl A m c xs rfl HW2.out v _ rfl hlow rfl (by omega) ?_; intro g7 c7 w7 k7 m7 _; have HW7 := Lib.hid k7; have HL7 := Lib.hid (HL2.out.row HW2.out m7); clear k7 m7)
        go_roundw
        case rel => exact ⟨j + 1, m + 1, _, c7, _, _, by go_num, by omega, by omega, rfl, HW7, HL7⟩
        case measure => simp [intOf]; omega
      · have HBd := Lib.hid (HB.out wr t false (Lib.hid HL.out.rs) (by simpa using he))
        have HE : Hid (GotI F w g l R (.returned (.slice none 0 0)) wr) := Lib.hid ⟨none, 0, 0, [], rfl, IAt.empty _ _, by rw [← HL.out.is, listS_bad he]; exact HL.out.rs, HL.out.ch⟩
        clear he
        go_wp2_with fail
        refine HBd.out.mono ?_
        rintro x w1 ⟨rfl, rfl⟩
        go_wp2_with fail
        go_ret
        exact HE.out
    · have HE : Hid (GotI F w g l R (.returned (.slice A m c)) wr) := Lib.hid ⟨A, m, c, xs, rfl, ints_own HW.out, by
        have e : R = t := by rw [← HL.out.is, show N - j = 0 by omega]; rfl
        rw [e]; exact HL.out.rs, HL.out.ch⟩
      go_wp2_with fail
      go_ret
      exact HE.out

end Go.Proofs.Ythlaglhlmbkniaa
/- tzx.list of items, symbols, repeats: its contracts, by that of the function handed in. -/
namespace Go.Proofs.Ythlaglhlmbkniaa
open Go.RowKit
set_option linter.unusedVariables false
set_option linter.unusedSimpArgs false
set_option maxRecDepth 100000

/-- A number and a slice are answered, as a struct. -/
def ItE (F : Nat → Prop) (w : World) (g : Nat) (l : List Int) (s : Rst) (x : Ending) (w' : World) : Prop := ∃ v A n c, x = .returned (.agg #[.int .i64 v, .slice A n c]) ∧ RS F w' g l s ∧ Ch (fun k => k = g) w w'
/-- Two numbers. -/
def RpE (F : Nat → Prop) (w : World) (g : Nat) (l : List Int) (s : Rst) (x : Ending) (w' : World) : Prop := ∃ v t, x = .returned (.agg #[.int .i64 v, .int .i64 t]) ∧ RS F w' g l s ∧ Ch (fun k => k = g) w w'
def GotIt (F : Nat → Prop) (w : World) (g : Nat) (l : List Int) (s : Rst) (x : Ending) (w' : World) : Prop := ∃ A n c ns, x = .returned (.slice A n c) ∧ ItAt (fun k => w.heap.size ≤ k) w' A n c ns ∧ RS F w' g l s ∧ Ch (fun k => k = g) w w'
theorem infoSym : (Try.prog.info? 103).map (fun i => (i.zero, i.size, i.bytes)) = some (some (.agg #[.int .i64 0, .slice none 0 0]), 2, 32) := by kernel_rfl
theorem infoRep : (Try.prog.info? 94).map (fun i => (i.zero, i.size, i.bytes)) = some (some (.agg #[.int .i64 0, .int .i64 0]), 2, 16) := by kernel_rfl
theorem one_is (v : Int) (A : Option Addr) (n c : Nat) : (#[.int .i64 v, .slice A n c] : Array Value).all (·.oneCell') = true := by kernel_rfl
theorem one_ii (v t : Int) : (#[.int .i64 v, .int .i64 t] : Array Value).all (·.oneCell') = true := by kernel_rfl
set_option maxHeartbeats 3200000 in
theorem listIt_any (F : Nat → Prop) (w : World) (g : Nat) (l : List Int) (s : Rst) (one : Rst → Rst) (a0 a1 : Value) (h : Hid (RS F w g l s)) (hF : Hid (∀ i, F i → i < w.heap.size)) (hl : l.length ≤ 1000000) (N : Nat) (hN : N ≤ 4294967296) (R : Rst) (hR : listS one N s = R)
    (HC : Hid (∀ u t, Hid (RS F u g l t) → Hid (Ch (fun k => k = g) w u) → Calls Try.prog 65 #[a0, a1] u (ItE F u g l (one t)))) :
    Calls Try.prog 64 #[.pointer (some ⟨g, 0, none⟩), .int .i64 (N : Nat), .func (.func 65) #[] #[a0, a1]] w (GotIt F w g l R) := by
  have HB := Lib.hid (fun u t q (hr : Hid (RS F u g l t)) hq => bad_s F u g l t hr q hq)
  have H0 : Hid (Ls F w w g l one N 0 R s) := Lib.hid ⟨h.out, Ch.refl _ _, hR, h.out.lt, hF.out⟩
  have HO : Hid (w.ownsRow w.heap.size 32 2 (.slice none 0 0) 0 (itemsL [])) := Lib.hid (World.ownsRow_nil _ _ _ _)
  clear h hF hR
  go_enter Try.func64, Try.ntmps64
  go_wp2_with fail
  go_loopw [7, 9] (fun sl v wr => ∃ (j m : Nat) (A : Option Addr) (c : Nat) (its : List (Int × (Option Addr × Nat × Nat))) (t : Rst), v = .int .i64 j ∧ j ≤ N ∧ m ≤ j ∧ sl = .slice A m c ∧ Hid (wr.ownsRow w.heap.size 32 2 (.slice A m c) m (itemsL its)) ∧ Hid (Ls F w wr g l one N j R t)) (fun _ v _ => N - (intOf v).toNat)
  case atStart => exact ⟨0, 0, none, 0, [], s, rfl, by omega, by omega, rfl, HO, H0⟩
  case round =>
    obtain ⟨j, m, A, c, its, t, rfl, hj, hm, rfl, HW, HL⟩ := hrel
    obtain ⟨A9, c9, e9, hn9, hm9⟩ := own_slice HW.out
    injection e9 with e91 e92 e93
    subst e91 e93
    unfold maxLen at hm9
    clear e92
    by_cases hlt : j < N
    · by_cases he : t.e = 0
      · have HBd := Lib.hid (HB.out wr t true (Lib.hid HL.out.rs) (by rw [he]; rfl))
        have HE := Lib.hid he
        clear he
        go_wp2_with fail
        refine HBd.out.mono ?_
        rintro x w1 ⟨rfl, rfl⟩
        go_wp2_with fail
        refine (HC.out _ _ (Lib.hid HL.out.rs) (Lib.hid HL.out.ch)).mono ?_
        rintro x w2 ⟨v, A5, n5, c5, rfl, hr, hc⟩
        have HL2 := Lib.hid (HL.out.rd HE.out hlt hr hc)
        have HW2 := Lib.hid (own_rd HW.out HL.out.o1 hc)
        have hlow : w.heap.size ≤ w2.heap.size := HL2.out.ch.size
        have H1c := Lib.hid (one_is v A5 n5 c5)
        clear hr hc HBd
        go_wp2_with (at_builtin; refine wpList_append_gen 32 26 _ 2 32 infoIt rfl (by decide) Try.underlying26 rfl (.tmp 13) (.tmp 16) rfl A m c (itemsL its) rfl HW2.out #[.int .i64 v, .slice A5 n5 c5] rfl H1c.out _ rfl hlow rfl (by unfold maxLen; omega) (by omega) ?_; intro g7 c7 w7 k7 m7 _; have HW7 := Lib.hid (itemsL_snoc its v A5 n5 c5 ▸ k7); have HL7 := Lib.hid (HL2.out.row HW2.out m7); clear k7 m7)
        go_roundw
        case rel => exact ⟨j + 1, m + 1, _, c7, _, _, by go_num, by omega, by omega, rfl, HW7, HL7⟩
        case measure => simp [intOf]; omega
      · have HBd := Lib.hid (HB.out wr t false (Lib.hid HL.out.rs) (by simpa using he))
        have HE : Hid (GotIt F w g l R (.returned (.slice none 0 0)) wr) := Lib.hid ⟨none, 0, 0, [], rfl, ItAt.empty _ _, by rw [← HL.out.is, listS_bad he]; exact HL.out.rs, HL.out.ch⟩
        clear he
        go_wp2_with fail
        refine HBd.out.mono ?_
        rintro x w1 ⟨rfl, rfl⟩
        go_wp2_with fail
        go_ret
        exact HE.out
    · have HE : Hid (GotIt F w g l R (.returned (.slice A m c)) wr) := Lib.hid ⟨A, m, c, _, rfl, items_own HW.out, by
        have e : R = t := by rw [← HL.out.is, show N - j = 0 by omega]; rfl
        rw [e]; exact HL.out.rs, HL.out.ch⟩
      go_wp2_with fail
      go_ret
      exact HE.out
set_option maxHeartbeats 3200000 in
theorem listSym_any (F : Nat → Prop) (w : World) (g : Nat) (l : List Int) (s : Rst) (one : Rst → Rst) (a0 a1 : Value) (h : Hid (RS F w g l s)) (hF : Hid (∀ i, F i → i < w.heap.size)) (hl : l.length ≤ 1000000) (N : Nat) (hN : N ≤ 4294967296) (R : Rst) (hR : listS one N s = R)
    (HC : Hid (∀ u t, Hid (RS F u g l t) → Hid (Ch (fun k => k = g) w u) → Calls Try.prog 67 #[a0, a1] u (ItE F u g l (one t)))) :
    Calls Try.prog 66 #[.pointer (some ⟨g, 0, none⟩), .int .i64 (N : Nat), .func (.func 67) #[] #[a0, a1]] w (GotA F w g l R) := by
  have HB := Lib.hid (fun u t q (hr : Hid (RS F u g l t)) hq => bad_s F u g l t hr q hq)
  have H0 : Hid (Ls F w w g l one N 0 R s) := Lib.hid ⟨h.out, Ch.refl _ _, hR, h.out.lt, hF.out⟩
  have HO : Hid (w.ownsRow w.heap.size 103 2 (.slice none 0 0) 0 (([] : List Value))) := Lib.hid (World.ownsRow_nil _ _ _ _)
  clear h hF hR
  go_enter Try.func66, Try.ntmps66
  go_wp2_with fail
  go_loopw [7, 9] (fun sl v wr => ∃ (j m : Nat) (A : Option Addr) (c : Nat) (its : List Value) (t : Rst), v = .int .i64 j ∧ j ≤ N ∧ m ≤ j ∧ sl = .slice A m c ∧ Hid (wr.ownsRow w.heap.size 103 2 (.slice A m c) m (its)) ∧ Hid (Ls F w wr g l one N j R t)) (fun _ v _ => N - (intOf v).toNat)
  case atStart => exact ⟨0, 0, none, 0, [], s, rfl, by omega, by omega, rfl, HO, H0⟩
  case round =>
    obtain ⟨j, m, A, c, its, t, rfl, hj, hm, rfl, HW, HL⟩ := hrel
    obtain ⟨A9, c9, e9, hn9, hm9⟩ := own_slice HW.out
    injection e9 with e91 e92 e93
    subst e91 e93
    unfold maxLen at hm9
    clear e92
    by_cases hlt : j < N
    · by_cases he : t.e = 0
      · have HBd := Lib.hid (HB.out wr t true (Lib.hid HL.out.rs) (by rw [he]; rfl))
        have HE := Lib.hid he
        clear he
        go_wp2_with fail
        refine HBd.out.mono ?_
        rintro x w1 ⟨rfl, rfl⟩
        go_wp2_with fail
        refine (HC.out _ _ (Lib.hid HL.out.rs) (Lib.hid HL.out.ch)).mono ?_
        rintro x w2 ⟨v, A5, n5, c5, rfl, hr, hc⟩
        have HL2 := Lib.hid (HL.out.rd HE.out hlt hr hc)
        have HW2 := Lib.hid (own_rd HW.out HL.out.o1 hc)
        have hlow : w.heap.size ≤ w2.heap.size := HL2.out.ch.size
        have H1c := Lib.hid (one_is v A5 n5 c5)
        clear hr hc HBd
        go_wp2_with (at_builtin; refine wpList_append_gen 103 27 _ 2 32 infoSym rfl (by decide) Try.underlying27 rfl (.tmp 13) (.tmp 16) rfl A m c (its) rfl HW2.out #[.int .i64 v, .slice A5 n5 c5] rfl H1c.out _ rfl hlow rfl (by unfold maxLen; omega) (by omega) ?_; intro g7 c7 w7 k7 m7 _; have HW7 := Lib.hid k7; have HL7 := Lib.hid (HL2.out.row HW2.out m7); clear k7 m7)
        go_roundw
        case rel => exact ⟨j + 1, m + 1, _, c7, _, _, by go_num, by omega, by omega, rfl, HW7, HL7⟩
        case measure => simp [intOf]; omega
      · have HBd := Lib.hid (HB.out wr t false (Lib.hid HL.out.rs) (by simpa using he))
        have HE : Hid (GotA F w g l R (.returned (.slice none 0 0)) wr) := Lib.hid ⟨none, 0, 0, rfl, by rw [← HL.out.is, listS_bad he]; exact HL.out.rs, HL.out.ch⟩
        clear he
        go_wp2_with fail
        refine HBd.out.mono ?_
        rintro x w1 ⟨rfl, rfl⟩
        go_wp2_with fail
        go_ret
        exact HE.out
    · have HE : Hid (GotA F w g l R (.returned (.slice A m c)) wr) := Lib.hid ⟨A, m, c, rfl, by
        have e : R = t := by rw [← HL.out.is, show N - j = 0 by omega]; rfl
        rw [e]; exact HL.out.rs, HL.out.ch⟩
      go_wp2_with fail
      go_ret
      exact HE.out
set_option maxHeartbeats 3200000 in
theorem listRep_any (F : Nat → Prop) (w : World) (g : Nat) (l : List Int) (s : Rst) (one : Rst → Rst) (a0 a1 : Value) (h : Hid (RS F w g l s)) (hF : Hid (∀ i, F i → i < w.heap.size)) (hl : l.length ≤ 1000000) (N : Nat) (hN : N ≤ 4294967296) (R : Rst) (hR : listS one N s = R)
    (HC : Hid (∀ u t, Hid (RS F u g l t) → Hid (Ch (fun k => k = g) w u) → Calls Try.prog 61 #[a0, a1] u (RpE F u g l (one t)))) :
    Calls Try.prog 60 #[.pointer (some ⟨g, 0, none⟩), .int .i64 (N : Nat), .func (.func 61) #[] #[a0, a1]] w (GotA F w g l R) := by
  have HB := Lib.hid (fun u t q (hr : Hid (RS F u g l t)) hq => bad_s F u g l t hr q hq)
  have H0 : Hid (Ls F w w g l one N 0 R s) := Lib.hid ⟨h.out, Ch.refl _ _, hR, h.out.lt, hF.out⟩
  have HO : Hid (w.ownsRow w.heap.size 94 2 (.slice none 0 0) 0 (([] : List Value))) := Lib.hid (World.ownsRow_nil _ _ _ _)
  clear h hF hR
  go_enter Try.func60, Try.ntmps60
  go_wp2_with fail
  go_loopw [7, 9] (fun sl v wr => ∃ (j m : Nat) (A : Option Addr) (c : Nat) (its : List Value) (t : Rst), v = .int .i64 j ∧ j ≤ N ∧ m ≤ j ∧ sl = .slice A m c ∧ Hid (wr.ownsRow w.heap.size 94 2 (.slice A m c) m (its)) ∧ Hid (Ls F w wr g l one N j R t)) (fun _ v _ => N - (intOf v).toNat)
  case atStart => exact ⟨0, 0, none, 0, [], s, rfl, by omega, by omega, rfl, HO, H0⟩
  case round =>
    obtain ⟨j, m, A, c, its, t, rfl, hj, hm, rfl, HW, HL⟩ := hrel
    obtain ⟨A9, c9, e9, hn9, hm9⟩ := own_slice HW.out
    injection e9 with e91 e92 e93
    subst e91 e93
    unfold maxLen at hm9
    clear e92
    by_cases hlt : j < N
    · by_cases he : t.e = 0
      · have HBd := Lib.hid (HB.out wr t true (Lib.hid HL.out.rs) (by rw [he]; rfl))
        have HE := Lib.hid he
        clear he
        go_wp2_with fail
        refine HBd.out.mono ?_
        rintro x w1 ⟨rfl, rfl⟩
        go_wp2_with fail
        refine (HC.out _ _ (Lib.hid HL.out.rs) (Lib.hid HL.out.ch)).mono ?_
        rintro x w2 ⟨v, t5, rfl, hr, hc⟩
        have HL2 := Lib.hid (HL.out.rd HE.out hlt hr hc)
        have HW2 := Lib.hid (own_rd HW.out HL.out.o1 hc)
        have hlow : w.heap.size ≤ w2.heap.size := HL2.out.ch.size
        have H1c := Lib.hid (one_ii v t5)
        clear hr hc HBd
        go_wp2_with (at_builtin; refine wpList_append_gen 94 28 _ 2 16 infoRep rfl (by decide) Try.underlying28 rfl (.tmp 13) (.tmp 16) rfl A m c (its) rfl HW2.out #[.int .i64 v, .int .i64 t5] rfl H1c.out _ rfl hlow rfl (by unfold maxLen; omega) (by omega) ?_; intro g7 c7 w7 k7 m7 _; have HW7 := Lib.hid k7; have HL7 := Lib.hid (HL2.out.row HW2.out m7); clear k7 m7)
        go_roundw
        case rel => exact ⟨j + 1, m + 1, _, c7, _, _, by go_num, by omega, by omega, rfl, HW7, HL7⟩
        case measure => simp [intOf]; omega
      · have HBd := Lib.hid (HB.out wr t false (Lib.hid HL.out.rs) (by simpa using he))
        have HE : Hid (GotA F w g l R (.returned (.slice none 0 0)) wr) := Lib.hid ⟨none, 0, 0, rfl, by rw [← HL.out.is, listS_bad he]; exact HL.out.rs, HL.out.ch⟩
        clear he
        go_wp2_with fail
        refine HBd.out.mono ?_
        rintro x w1 ⟨rfl, rfl⟩
        go_wp2_with fail
        go_ret
        exact HE.out
    · have HE : Hid (GotA F w g l R (.returned (.slice A m c)) wr) := Lib.hid ⟨A, m, c, rfl, by
        have e : R = t := by rw [← HL.out.is, show N - j = 0 by omega]; rfl
        rw [e]; exact HL.out.rs, HL.out.ch⟩
      go_wp2_with fail
      go_ret
      exact HE.out

end Go.Proofs.Ythlaglhlmbkniaa
/- A region that draws its order, whose last operations come in one forced order behind all others, and may write what the others read. No program is named here. -/
namespace Go.Proofs.Ythlaglhlmbkniaa
open Go


variable {P : Program} {ops : Array Oper} {Q : Exit → Act → World → Prop} {md : Region.Mode} {S : World → Prop} {n : Nat}

/-- Whatever order is picked from here on, and S holds behind every operation ahead of number n. -/
def wpAnyT (P : Program) (md : Region.Mode) (ops : Array Oper) (n : Nat) (Q : Exit → Act → World → Prop) (S : World → Prop) : Nat → Array Bool → Act → World → Prop
  | 0, listed, a, w => Region.ready md ops listed = [] ∧ Q .normal a w
  | fuel + 1, listed, a, w =>
    (Region.ready md ops listed = [] → Q .normal a w) ∧
    ∀ i ∈ Region.ready md ops listed, wpOp P ops Q i (fun a' w' => (i < n → S w') ∧ wpAnyT P md ops n Q S fuel (listed.setIfInBounds i true) a' w') a w
theorem wpAny_of_T : ∀ (fuel : Nat) (listed : Array Bool) (a : Act) (w : World), wpAnyT P md ops n Q S fuel listed a w → wpAny P md ops Q fuel listed a w
  | 0, _, _, _, h => h
  | fuel + 1, _, _, _, h => ⟨h.1, fun i hi => wpOp_mono (fun a' w' h' => wpAny_of_T fuel _ a' w' h'.2) (h.2 i hi)⟩

/-- Number n waits for all ahead of it, and each behind it for the one ahead. -/
def tailB (md : Region.Mode) (ops : Array Oper) (n : Nat) : Bool := decide (n < ops.size) && Region.sinkB md ops n && Region.chainB md ops n

theorem wpAnyT_first (hT : tailB md ops n = true) {i : Nat} {oi : Oper} {v : Value} (hi : ops[i]? = some oi) (hin : i < n) (hsel : ∀ (j : Nat) (o : Oper) cs b, ops[j]? = some o → o.op ≠ .select cs b)
    (hQ : ∀ c a w, Q (.panic c) (a.put oi.dst v) w → Q (.panic c) a w) :
    ∀ (fuel : Nat) (listed : Array Bool) (a : Act) (w : World), HeadInv md ops n listed →
      (∀ j oj, ops[j]? = some oj → j ≠ i → listed.getD j true = false → (∀ e ∈ oj.after, Region.binds md e = true → e.on ≠ i) → oi.apart ops oj = true) →
      i ∈ Region.ready md ops listed → YieldsIf P ops S oi v a → S w →
      wpAnyT P md ops n Q S fuel (listed.setIfInBounds i true) (a.put oi.dst v) w → wpAnyT P md ops n Q S (fuel + 1) listed a w := by
  simp only [tailB, Bool.and_eq_true, decide_eq_true_eq] at hT
  obtain ⟨⟨hn, hs⟩, hc⟩ := hT
  intro fuel
  induction fuel with
  | zero =>
    intro listed a w _ _ hr hy hS H
    refine ⟨fun h => (by rw [h] at hr; cases hr), fun j hj => ?_⟩
    by_cases hji : j = i
    · subst hji; exact hy.wpOp hi hS ⟨fun _ => hS, H⟩
    · have := ready_mono hj hji
      rw [H.1] at this
      cases this
  | succ fuel ih =>
    intro listed a w inv hfree hr hy hS H
    have hun := (mem_ready.1 hr).1
    refine ⟨fun h => (by rw [h] at hr; cases hr), fun j hj => ?_⟩
    by_cases hji : j = i
    · subst hji; exact hy.wpOp hi hS ⟨fun _ => hS, H⟩
    · have hjn : j < n := by
        rcases Nat.lt_or_ge j n with h | h
        · exact h
        · exact absurd hj (tail_waits hs hc hn inv _ i rfl hin hun j h)
      have h1 := H.2 j (ready_mono hj hji)
      obtain ⟨hjun, oj, hoj, hall⟩ := mem_ready.1 hj
      have hnot : ∀ e ∈ oj.after, Region.binds md e = true → e.on ≠ i := fun e he hb heq => by
        have h1 := hall e he hb
        rw [heq, getD_both hun] at h1
        cases h1
      have h2 := wpOp_putIf hoj (hfree j oj hoj hji hjun hnot) (fun cs b => hsel i oi cs b hi) (fun cs b => hsel j oj cs b hoj) hQ hy h1
      have hfree' : ∀ k ok, ops[k]? = some ok → k ≠ i → (listed.setIfInBounds j true).getD k true = false →
          (∀ e ∈ ok.after, Region.binds md e = true → e.on ≠ i) → oi.apart ops ok = true := fun k ok hk hki hun hno => by
        refine hfree k ok hk hki ?_ hno
        by_cases hjk : j = k
        · subst hjk; exact hjun
        · rw [getD_set_ne true hjk] at hun; exact hun
      refine wpOp_mono (fun a' w' h3 => ⟨h3.2.1, ih (listed.setIfInBounds j true) a' w' (inv.set hj hjn) hfree' (ready_mono hr (Ne.symm hji)) h3.1 (h3.2.1 hjn) ?_⟩) h2
      rw [Array.setIfInBounds_comm _ _ hji]
      exact h3.2.2

/-- The same, where the operations that have come up are closed. -/
def wpAnyU (P : Program) (md : Region.Mode) (ops : Array Oper) (n : Nat) (Q : Exit → Act → World → Prop) (S : World → Prop) (fuel : Nat) (listed : Array Bool) (a : Act) (w : World) : Prop :=
  tailB md ops n = true → HeadInv md ops n listed → wpAnyT P md ops n Q S fuel listed a w
theorem wpAnyU_take {i : Nat} {oi : Oper} {v : Value} {fuel : Nat} {listed : Array Bool} {a : Act} {w : World} (hi : ops[i]? = some oi) (hin : decide (i < n) = true)
    (hs : Region.noSelect ops = true) (hf : Region.free md ops listed i = true) (hr : (Region.ready md ops listed).contains i = true)
    (hQ : ∀ c a w, Q (.panic c) (a.put oi.dst v) w → Q (.panic c) a w) (hy : YieldsIf P ops S oi v a) (hS : S w)
    (h : wpAnyU P md ops n Q S fuel (listed.setIfInBounds i true) (a.put oi.dst v) w) : wpAnyU P md ops n Q S (fuel + 1) listed a w := fun hT inv =>
  wpAnyT_first hT hi (of_decide_eq_true hin) (Region.noSelect_spec hs) hQ fuel listed a w inv (Region.free_spec hi hf) (by simpa using hr) hy hS
    (h hT (inv.set (by simpa using hr) (of_decide_eq_true hin)))
theorem wpAnyU_ready {i : Nat} {o : Oper} {fuel : Nat} {listed : Array Bool} {a : Act} {w : World} (hr : Region.ready md ops listed = [i]) (hin : decide (i < n) = true) (ho : ops[i]? = some o)
    (h : ∀ K' : Act → World → Prop, Shut (∀ a w, S w → (S w → wpAnyU P md ops n Q S fuel (listed.setIfInBounds i true) a w) → K' a w) → if Region.wanted o (yielded ops a.tmps) = true then Oper.wp P o a w K' Q else K' (a.put o.dst undef) w) :
    wpAnyU P md ops n Q S (fuel + 1) listed a w := fun hT inv => by
  have hi : i ∈ Region.ready md ops listed := by rw [hr]; simp
  have inv' := inv.set hi (of_decide_eq_true hin)
  refine ⟨fun h0 => (by rw [hr] at h0; cases h0), fun j hj => ?_⟩
  rw [hr] at hj
  obtain rfl : j = i := by simpa using hj
  exact wpOp_step ho (fun K' hK => h K' (fun a w hS hW => hK a w ⟨fun _ => hS, hW hS hT inv'⟩))
theorem wpAnyT_of_seq : ∀ (l : List Oper) (k : Nat) (listed : Array Bool) (a : Act) (w : World), n ≤ k → (∀ j, l[j]? = ops[k + j]?) →
    Region.seqB md ops l.length k listed = true → wpList P ops Q l a w → wpAnyT P md ops n Q S l.length listed a w
  | [], _, _, _, _, _, _, hB, h => ⟨by simpa [Region.seqB] using hB, h⟩
  | o :: l, k, listed, a, w, hk, hl, hB, h => by
    have h0 : ops[k]? = some o := by simpa using (hl 0).symm
    simp only [List.length_cons, Region.seqB, Bool.and_eq_true, decide_eq_true_eq] at hB
    refine ⟨fun h1 => (by rw [hB.1] at h1; cases h1), fun i hi => ?_⟩
    rw [hB.1] at hi
    have hik : i = k := by simpa using hi
    subst hik
    have hw : wpOp P ops Q i (wpList P ops Q l) a w := by unfold wpOp; simp only [h0]; exact h
    exact wpOp_mono (fun a' w' h' => ⟨fun hlt => by omega, wpAnyT_of_seq l (i + 1) _ a' w' (by omega) (fun j => by have := hl (j + 1); simpa [Nat.add_assoc, Nat.add_comm 1 j] using this) hB.2 h'⟩) hw
/-- What is left is the tail. -/
theorem wpAnyU_tail {L : List Oper} {g : Nat} {listed : Array Bool} {a : Act} {w : World} (hg : (L.drop n).length = g) (hB : Region.seqB md L.toArray g n listed = true) (h : wpList P L.toArray Q (L.drop n) a w) :
    wpAnyU P md L.toArray n Q S g listed a w := fun _ _ => by
  subst hg
  exact wpAnyT_of_seq (L.drop n) n listed a w (Nat.le_refl _) (fun j => by simp [List.getElem?_drop]) hB h
/-- The beginning. -/
theorem wp_region_U {id : Nat} {a : Act} {w : World} (hm : P.follows .mixedOrders = true) (hT : tailB .any ops n = true) (hS : S w.drew)
    (h : S w.drew → wpAnyU P .any ops n Q S ops.size (Array.replicate ops.size false) a w.drew) : (Code.region id ops true).wp P Q a w := by
  have hT' := hT
  simp only [tailB, Bool.and_eq_true, decide_eq_true_eq] at hT'
  refine wp_region_any hm (wpAny_of_T (S := S) (n := n) _ _ _ _ (h hS hT ⟨by simp, fun j oj _ hl => (by rw [getD_replicate_false] at hl; cases hl), fun t _ ht => getD_in (by simpa using ht) (getD_replicate_false _ _)⟩))
end Go.Proofs.Ythlaglhlmbkniaa
namespace Go.Proofs.Ythlaglhlmbkniaa
open Go

end Go.Proofs.Ythlaglhlmbkniaa
/- The functions that lists are handed: their contracts. -/
namespace Go.Proofs.Ythlaglhlmbkniaa
open Go.RowKit
set_option linter.unusedVariables false
set_option linter.unusedSimpArgs false
set_option maxRecDepth 100000

theorem results_p2 {fn : Func} {p : Tmp} {T : TypeId} {d : TypeDesc} (h : fn.results = #[.cell p T]) (hu : Try.prog.underlying T = some d) (hd : d.isRow = true) (hi : (Try.prog.info? T).map (·.size) = some 2) (tmps : Array Value) {w : World} {g : Nat} {x y : Value} (hr : w.heap[g]? = some (.cells #[x, y] T (0, 0))) (hp : tmps.getD p undef = .pointer (some ⟨g, 0, none⟩)) :
    (results fn tmps).run Try.prog w = .ok (.agg #[x, y]) w := by
  have hp' : tmps[p]?.getD undef = .pointer (some ⟨g, 0, none⟩) := by simpa using hp
  have hl := run_loadVar_mid (P := Try.prog) w g 0 T [x, y] d (fun j v hj => by
    match j, hj with
    | 0, hj => simp at hj; subst hj; exact cell_of_row w g 0 _ _ (0, 0) hr
    | 1, hj => simp at hj; subst hj; exact cell_of_row w g 1 _ _ (0, 0) hr) hu hd hi
  simp [results, h, hp', asAddr, hl]
/-- A result of two cells is made; a reader is called. -/
structure R2 (F : Nat → Prop) (w u : World) (g : Nat) (l : List Int) (s : Rst) (b2 : Nat) (T : TypeId) (z0 z1 : Value) : Prop where
  rs : RS F u g l s
  c2 : u.heap[b2]? = some (.cells #[z0, z1] T (0, 0))
  ch : Ch (fun k => k = g) w u
  o1 : g < w.heap.size
  o2 : w.heap.size ≤ b2
  o5 : ∀ i, F i → i < w.heap.size
theorem R2.new {F : Nat → Prop} {w : World} {g : Nat} {l : List Int} {s : Rst} (h : RS F w g l s) (hF : ∀ i, F i → i < w.heap.size) (T : TypeId) (z0 z1 : Value) : R2 F w (w.alloc (.cells #[z0, z1] T)) g l s w.heap.size T z0 z1 := ⟨h.below (bnew w _), heap_alloc_new w _, Ch.of_below (bnew w _), h.lt, Nat.le_refl _, hF⟩
theorem R2.rd {F : Nat → Prop} {w u u' : World} {g : Nat} {l : List Int} {s s' : Rst} {b2 : Nat} {T : TypeId} {z0 z1 : Value} (h : R2 F w u g l s b2 T z0 z1) (hr : RS F u' g l s') (hc : Ch (fun k => k = g) u u') : R2 F w u' g l s' b2 T z0 z1 := by
  have h1 := h.o1
  have h2 := h.o2
  exact ⟨hr, (hc.block b2 (Array.getElem?_eq_some_iff.1 h.c2).1 (by omega)).trans h.c2, h.ch.then hc, h1, h2, h.o5⟩
theorem R2.drew {F : Nat → Prop} {w u : World} {g : Nat} {l : List Int} {s : Rst} {b2 : Nat} {T : TypeId} {z0 z1 : Value} (h : R2 F w u g l s b2 T z0 z1) : R2 F w u.drew g l s b2 T z0 z1 := h.rd (h.rs.below (Below.refl _ _).drew) (Ch.of_below (Below.refl _ _).drew)
theorem R2.cells {F : Nat → Prop} {w u : World} {g : Nat} {l : List Int} {s : Rst} {b2 : Nat} {T : TypeId} {z0 z1 : Value} (h : R2 F w u g l s b2 T z0 z1) : u.cell? ⟨b2, 0, none⟩ = some z0 ∧ u.cell? ⟨b2, 1, none⟩ = some z1 ∧ u.frozen? ⟨b2, 0, none⟩ = false ∧ u.frozen? ⟨b2, 1, none⟩ = false := ⟨cell_of_row u b2 0 _ _ (0, 0) h.c2, cell_of_row u b2 1 _ _ (0, 0) h.c2, frozen_of_row u b2 0 _ _ h.c2, frozen_of_row u b2 1 _ _ h.c2⟩
theorem R2.made {F : Nat → Prop} {w u : World} {g : Nat} {l : List Int} {s : Rst} {b2 : Nat} {T : TypeId} {z0 z1 : Value} (h : R2 F w u g l s b2 T z0 z1) (x y : Value) : ((u.setCell ⟨b2, 0, none⟩ x).setCell ⟨b2, 1, none⟩ y).heap[b2]? = some (.cells #[x, y] T (0, 0)) ∧ RS F ((u.setCell ⟨b2, 0, none⟩ x).setCell ⟨b2, 1, none⟩ y) g l s ∧ Ch (fun k => k = g) w ((u.setCell ⟨b2, 0, none⟩ x).setCell ⟨b2, 1, none⟩ y) := by
  have h1 := h.o1
  have h2 := h.o2
  have k1 := heap_setCell_same u b2 0 _ _ x h.c2
  have k2 := heap_setCell_same _ b2 1 _ _ y k1
  have hC : Ch (fun k => k = b2) u ((u.setCell ⟨b2, 0, none⟩ x).setCell ⟨b2, 1, none⟩ y) := (Ch.set (F := fun k => k = b2) u b2 0 x rfl).then (Ch.set _ b2 1 y rfl)
  exact ⟨k2, h.rs.ch hC (by omega) (fun i hi => by have := h.o5 i hi; omega), h.ch.trans hC fun i hi => Or.inr (by omega)⟩
theorem cell_rd {w w' : World} {g b o : Nat} {v : Value} (hc : Ch (fun k => k = g) w w') (h : w.cell? ⟨b, o, none⟩ = some v) (hb : b ≠ g) : w'.cell? ⟨b, o, none⟩ = some v := (World.cell?_of_block (a := ⟨b, o, none⟩) (hc.block b (blk_lt h) hb)).trans h
set_option maxHeartbeats 3200000 in
theorem item_s (F : Nat → Prop) (w : World) (g : Nat) (l : List Int) (s : Rst) (bn br : Nat) (h : Hid (RS F w g l s)) (hF : Hid (∀ i, F i → i < w.heap.size)) (hl : l.length ≤ 1000000) (h8 : Hid (Byte8 l))
    (cn : w.cell? ⟨bn, 0, none⟩ = some (.func (.func 50) #[.pointer (some ⟨g, 0, none⟩)] #[])) (cr : w.cell? ⟨br, 0, none⟩ = some (.pointer (some ⟨g, 0, none⟩))) (hbn : bn ≠ g) (hbr : br ≠ g) :
    Calls Try.prog 65 #[.pointer (some ⟨bn, 0, none⟩), .pointer (some ⟨br, 0, none⟩)] w (ItE F w g l (itemS l (fun t => takS l t 2) s)) := by
  have HS := Lib.hid (fun u t (hr : Hid (RS F u g l t)) => signed_any F u g l t hr hl)
  have HD := Lib.hid (fun u t (hr : Hid (RS F u g l t)) => data_any F u g l t hr hl h8 1 1 rfl (by decide) (by decide))
  have H0 := Lib.hid (R2.new h.out hF.out 32 (.int .i64 0) (.slice none 0 0))
  have hb0 := bnew w (.cells #[.int .i64 0, .slice none 0 0] 32)
  have cn0 := (hb0.cell (p := ⟨bn, 0, none⟩) (blk_lt cn)).trans cn
  have cr0 := (hb0.cell (p := ⟨br, 0, none⟩) (blk_lt cr)).trans cr
  have HN := Lib.hid (And.intro hbn hbr)
  obtain ⟨W0, hW0⟩ : ∃ W0, w.alloc (.cells #[.int .i64 0, .slice none 0 0] 32) = W0 := ⟨_, rfl⟩
  obtain ⟨b2, hb2⟩ : ∃ b2, w.heap.size = b2 := ⟨_, rfl⟩
  rw [hW0, hb2] at H0
  rw [hW0] at cn0 cr0
  have K0 := Lib.hid H0.out.drew
  clear cn cr h hF hb0 hbn hbr
  go_enter Try.func65, Try.ntmps65
  go_wp2_with fail
  clear hW0 hb2
  first | refine wp_region_noPanic ?_ | skip
  refine wp_region_U (n := 5) (S := (fun u : World => u.cell? ⟨bn, 0, none⟩ = some (.func (.func 50) #[.pointer (some ⟨g, 0, none⟩)] #[]) ∧ u.cell? ⟨br, 0, none⟩ = some (.pointer (some ⟨g, 0, none⟩)))) (by kernel_rfl) (by kernel_rfl) (⟨cn0, cr0⟩) (fun hHeld => ?_)
  refine wpAnyU_take (i := 0) (v := ?v1) rfl (by kernel_rfl) (by kernel_rfl) (by kernel_rfl) (by kernel_rfl) (fun _ _ _ h => h) (Or.inl ⟨by rfl, ?hy1⟩) (by assumption) ?rest1
  case hy1 => (intro w hSw; (try dsimp only at hSw); go_simp; try with_reducible rfl)
  try simp only [Act.put, List.getElem_toArray, List.getElem_cons_succ, List.getElem_cons_zero, List.setIfInBounds_toArray, List.set_cons_zero, List.set_cons_succ]
  refine wpAnyU_take (i := 2) (v := ?v2) rfl (by kernel_rfl) (by kernel_rfl) (by kernel_rfl) (by kernel_rfl) (fun _ _ _ h => h) (Or.inl ⟨by rfl, ?hy2⟩) (by assumption) ?rest2
  case hy2 => (intro w hSw; (try dsimp only at hSw); go_simp; try with_reducible rfl)
  try simp only [Act.put, List.getElem_toArray, List.getElem_cons_succ, List.getElem_cons_zero, List.setIfInBounds_toArray, List.set_cons_zero, List.set_cons_succ]
  refine wpAnyU_ready (i := 1) (by kernel_rfl) (by kernel_rfl) rfl (fun K hK => ?_)
  go_simp
  refine (((HS.out _ _ (Lib.hid K0.out.rs)))).mono ?_
  rintro e w' ⟨v, rfl, hr, hc⟩
  go_wp2_with fail
  refine hK.out _ _ (⟨cell_rd hc cn0 HN.out.1, cell_rd hc cr0 HN.out.2⟩) (fun hHeld => ?_)
  clear hK K
  try simp only [Act.put, List.getElem_toArray, List.getElem_cons_succ, List.getElem_cons_zero, List.setIfInBounds_toArray, List.set_cons_zero, List.set_cons_succ]
  have K1 := Lib.hid (K0.out.rd hr hc)
  have cn1 : w'.cell? ⟨bn, 0, none⟩ = some (.func (.func 50) #[.pointer (some ⟨g, 0, none⟩)] #[]) := cell_rd hc cn0 HN.out.1
  have cr1 : w'.cell? ⟨br, 0, none⟩ = some (.pointer (some ⟨g, 0, none⟩)) := cell_rd hc cr0 HN.out.2
  clear hr hc cn0 cr0
  refine wpAnyU_ready (i := 3) (by kernel_rfl) (by kernel_rfl) rfl (fun K hK => ?_)
  go_simp
  refine (((HD.out _ _ (Lib.hid K1.out.rs)))).mono ?_
  rintro e w' ⟨A, n, c, rfl, hr, hc⟩
  go_wp2_with fail
  refine hK.out _ _ (⟨cell_rd hc cn1 HN.out.1, cell_rd hc cr1 HN.out.2⟩) (fun hHeld => ?_)
  clear hK K
  try simp only [Act.put, List.getElem_toArray, List.getElem_cons_succ, List.getElem_cons_zero, List.setIfInBounds_toArray, List.set_cons_zero, List.set_cons_succ]
  have K2 := Lib.hid (K1.out.rd hr hc)
  clear hr hc cn1 cr1
  refine wpAnyU_take (i := 4) (v := ?v3) rfl (by kernel_rfl) (by kernel_rfl) (by kernel_rfl) (by kernel_rfl) (fun _ _ _ h => h) (Or.inl ⟨by rfl, ?hy3⟩) (by assumption) ?rest3
  case hy3 => (intro w hSw; (try dsimp only at hSw); go_simp; try with_reducible rfl)
  try simp only [Act.put, List.getElem_toArray, List.getElem_cons_succ, List.getElem_cons_zero, List.setIfInBounds_toArray, List.set_cons_zero, List.set_cons_succ]
  refine wpAnyU_tail rfl (by kernel_rfl) ?_
  simp only [List.drop_succ_cons, List.drop_zero]
  obtain ⟨a0, a1, f0, f1⟩ := K2.out.cells
  have HE := Lib.hid (K2.out.made (.int .i64 v) (.slice A n c))
  go_wp2_with fail
  refine NoPanic.normal ?_
  go_wp2_with fail
  exact bodyPost_ret (results_p2 rfl Try.underlying32 rfl (by kernel_rfl) _ HE.out.1 rfl) rfl ⟨v, A, n, c, rfl, HE.out.2.1, HE.out.2.2⟩
set_option maxHeartbeats 800000 in
theorem number_s (F : Nat → Prop) (w : World) (g : Nat) (l : List Int) (s : Rst) (bq : Nat) (h : Hid (RS F w g l s)) (hl : l.length ≤ 1000000) (cq : w.cell? ⟨bq, 0, none⟩ = some (.pointer (some ⟨g, 0, none⟩))) :
    Calls Try.prog 56 #[.pointer (some ⟨bq, 0, none⟩)] w (fun x w' => ∃ v, Got F (.int .i64 v) w g l (takS l s 1) x w') := by
  have HN := Lib.hid (num_any F w g l s h hl 1 1 rfl (by decide) (by decide))
  clear h
  go_enter Try.func56, Try.ntmps56
  go_wp2_with fail
  refine HN.out.mono ?_
  rintro x w1 ⟨rfl, hr, hc⟩
  have HR := Lib.hid (And.intro hr hc)
  clear hr hc
  go_wp2_with fail
  go_ret
  exact ⟨_, rfl, HR.out.1, HR.out.2⟩
set_option maxHeartbeats 3200000 in
theorem item_n (F : Nat → Prop) (w : World) (g : Nat) (l : List Int) (s : Rst) (bn br bq : Nat) (h : Hid (RS F w g l s)) (hF : Hid (∀ i, F i → i < w.heap.size)) (hl : l.length ≤ 1000000) (h8 : Hid (Byte8 l))
    (cn : w.cell? ⟨bn, 0, none⟩ = some (.func (.func 56) #[] #[.pointer (some ⟨bq, 0, none⟩)])) (cr : w.cell? ⟨br, 0, none⟩ = some (.pointer (some ⟨g, 0, none⟩))) (cq : w.cell? ⟨bq, 0, none⟩ = some (.pointer (some ⟨g, 0, none⟩))) (hbn : bn ≠ g) (hbr : br ≠ g) :
    Calls Try.prog 65 #[.pointer (some ⟨bn, 0, none⟩), .pointer (some ⟨br, 0, none⟩)] w (ItE F w g l (itemS l (fun t => takS l t 1) s)) := by
  have HS := Lib.hid (fun u t (hr : Hid (RS F u g l t)) (cq : u.cell? ⟨bq, 0, none⟩ = some (.pointer (some ⟨g, 0, none⟩))) => number_s F u g l t bq hr hl cq)
  have HD := Lib.hid (fun u t (hr : Hid (RS F u g l t)) => data_any F u g l t hr hl h8 1 1 rfl (by decide) (by decide))
  have H0 := Lib.hid (R2.new h.out hF.out 32 (.int .i64 0) (.slice none 0 0))
  have hb0 := bnew w (.cells #[.int .i64 0, .slice none 0 0] 32)
  have cn0 := (hb0.cell (p := ⟨bn, 0, none⟩) (blk_lt cn)).trans cn
  have cr0 := (hb0.cell (p := ⟨br, 0, none⟩) (blk_lt cr)).trans cr
  have cq0 := (hb0.cell (p := ⟨bq, 0, none⟩) (blk_lt cq)).trans cq
  have HN := Lib.hid (And.intro hbn hbr)
  obtain ⟨W0, hW0⟩ : ∃ W0, w.alloc (.cells #[.int .i64 0, .slice none 0 0] 32) = W0 := ⟨_, rfl⟩
  obtain ⟨b2, hb2⟩ : ∃ b2, w.heap.size = b2 := ⟨_, rfl⟩
  rw [hW0, hb2] at H0
  rw [hW0] at cn0 cr0
  rw [hW0] at cq0
  have HQ : Hid (W0.drew.cell? ⟨bq, 0, none⟩ = some (.pointer (some ⟨g, 0, none⟩))) := Lib.hid cq0
  have K0 := Lib.hid H0.out.drew
  clear cn cr h hF hb0 hbn hbr cq cq0
  go_enter Try.func65, Try.ntmps65
  go_wp2_with fail
  clear hW0 hb2
  first | refine wp_region_noPanic ?_ | skip
  refine wp_region_U (n := 5) (S := (fun u : World => u.cell? ⟨bn, 0, none⟩ = some (.func (.func 56) #[] #[.pointer (some ⟨bq, 0, none⟩)]) ∧ u.cell? ⟨br, 0, none⟩ = some (.pointer (some ⟨g, 0, none⟩)))) (by kernel_rfl) (by kernel_rfl) (⟨cn0, cr0⟩) (fun hHeld => ?_)
  refine wpAnyU_take (i := 0) (v := ?v4) rfl (by kernel_rfl) (by kernel_rfl) (by kernel_rfl) (by kernel_rfl) (fun _ _ _ h => h) (Or.inl ⟨by rfl, ?hy4⟩) (by assumption) ?rest4
  case hy4 => (intro w hSw; (try dsimp only at hSw); go_simp; try with_reducible rfl)
  try simp only [Act.put, List.getElem_toArray, List.getElem_cons_succ, List.getElem_cons_zero, List.setIfInBounds_toArray, List.set_cons_zero, List.set_cons_succ]
  refine wpAnyU_take (i := 2) (v := ?v5) rfl (by kernel_rfl) (by kernel_rfl) (by kernel_rfl) (by kernel_rfl) (fun _ _ _ h => h) (Or.inl ⟨by rfl, ?hy5⟩) (by assumption) ?rest5
  case hy5 => (intro w hSw; (try dsimp only at hSw); go_simp; try with_reducible rfl)
  try simp only [Act.put, List.getElem_toArray, List.getElem_cons_succ, List.getElem_cons_zero, List.setIfInBounds_toArray, List.set_cons_zero, List.set_cons_succ]
  refine wpAnyU_ready (i := 1) (by kernel_rfl) (by kernel_rfl) rfl (fun K hK => ?_)
  go_simp
  refine (((HS.out _ _ (Lib.hid K0.out.rs) HQ.out))).mono ?_
  rintro e w' ⟨v, rfl, hr, hc⟩
  go_wp2_with fail
  refine hK.out _ _ (⟨cell_rd hc cn0 HN.out.1, cell_rd hc cr0 HN.out.2⟩) (fun hHeld => ?_)
  clear hK K
  try simp only [Act.put, List.getElem_toArray, List.getElem_cons_succ, List.getElem_cons_zero, List.setIfInBounds_toArray, List.set_cons_zero, List.set_cons_succ]
  have K1 := Lib.hid (K0.out.rd hr hc)
  have cn1 : w'.cell? ⟨bn, 0, none⟩ = some (.func (.func 56) #[] #[.pointer (some ⟨bq, 0, none⟩)]) := cell_rd hc cn0 HN.out.1
  have cr1 : w'.cell? ⟨br, 0, none⟩ = some (.pointer (some ⟨g, 0, none⟩)) := cell_rd hc cr0 HN.out.2
  clear hr hc cn0 cr0
  refine wpAnyU_ready (i := 3) (by kernel_rfl) (by kernel_rfl) rfl (fun K hK => ?_)
  go_simp
  refine (((HD.out _ _ (Lib.hid K1.out.rs)))).mono ?_
  rintro e w' ⟨A, n, c, rfl, hr, hc⟩
  go_wp2_with fail
  refine hK.out _ _ (⟨cell_rd hc cn1 HN.out.1, cell_rd hc cr1 HN.out.2⟩) (fun hHeld => ?_)
  clear hK K
  try simp only [Act.put, List.getElem_toArray, List.getElem_cons_succ, List.getElem_cons_zero, List.setIfInBounds_toArray, List.set_cons_zero, List.set_cons_succ]
  have K2 := Lib.hid (K1.out.rd hr hc)
  clear hr hc cn1 cr1
  refine wpAnyU_take (i := 4) (v := ?v6) rfl (by kernel_rfl) (by kernel_rfl) (by kernel_rfl) (by kernel_rfl) (fun _ _ _ h => h) (Or.inl ⟨by rfl, ?hy6⟩) (by assumption) ?rest6
  case hy6 => (intro w hSw; (try dsimp only at hSw); go_simp; try with_reducible rfl)
  try simp only [Act.put, List.getElem_toArray, List.getElem_cons_succ, List.getElem_cons_zero, List.setIfInBounds_toArray, List.set_cons_zero, List.set_cons_succ]
  refine wpAnyU_tail rfl (by kernel_rfl) ?_
  simp only [List.drop_succ_cons, List.drop_zero]
  obtain ⟨a0, a1, f0, f1⟩ := K2.out.cells
  have HE := Lib.hid (K2.out.made (.int .i64 v) (.slice A n c))
  go_wp2_with fail
  refine NoPanic.normal ?_
  go_wp2_with fail
  exact bodyPost_ret (results_p2 rfl Try.underlying32 rfl (by kernel_rfl) _ HE.out.1 rfl) rfl ⟨v, A, n, c, rfl, HE.out.2.1, HE.out.2.2⟩

end Go.Proofs.Ythlaglhlmbkniaa
/- tzx.items, alphabet, rep and the functions that they hand in: their contracts. -/
namespace Go.Proofs.Ythlaglhlmbkniaa
open Go.RowKit
set_option linter.unusedVariables false
set_option linter.unusedSimpArgs false
set_option maxRecDepth 100000

set_option maxHeartbeats 3200000 in
theorem items_s (F : Nat → Prop) (w : World) (g : Nat) (l : List Int) (s : Rst) (h : Hid (RS F w g l s)) (hF : Hid (∀ i, F i → i < w.heap.size)) (hl : l.length ≤ 1000000) (h8 : Hid (Byte8 l)) :
    Calls Try.prog 53 #[.pointer (some ⟨g, 0, none⟩), .func (.func 50) #[.pointer (some ⟨g, 0, none⟩)] #[]] w (GotIt F w g l (itemsS l (fun t => takS l t 2) s)) := by
  have hmf : ∀ (fn : Fn) (first cap : Array Value) (w : World), (Instr.makeFunc fn first cap).run Try.prog w = .ok (.func fn first cap) w := fun _ _ _ _ => rfl
  have HN := Lib.hid (fun u t (hr : Hid (RS F u g l t)) => num_any F u g l t hr hl 1 1 rfl (by decide) (by decide))
  have hV := numV_bd h8.out s 1
  obtain ⟨N, hN⟩ : ∃ N : Nat, numV l s 1 = N := ⟨(numV l s 1).toNat, by omega⟩
  have hN2 : N ≤ 255 := by have h2 : numV l s 1 < 256 := hV.2; omega
  have HI : Hid (itemsS l (fun t => takS l t 2) s = listS (itemS l (fun t => takS l t 2)) N (takS l s 1)) := Lib.hid (by unfold itemsS; rw [hN, Int.toNat_natCast])
  have HNN := Lib.hid hN
  have hg := h.out.lt
  have hb0 := bnew w (.cells #[.pointer (some ⟨g, 0, none⟩)] 64)
  have hb1 := bnew (w.alloc (.cells #[.pointer (some ⟨g, 0, none⟩)] 64)) (.cells #[.func (.func 50) #[.pointer (some ⟨g, 0, none⟩)] #[]] 79)
  have cr0 : ((w.alloc (.cells #[.pointer (some ⟨g, 0, none⟩)] 64)).alloc (.cells #[.func (.func 50) #[.pointer (some ⟨g, 0, none⟩)] #[]] 79)).cell? ⟨w.heap.size, 0, none⟩ = some (.pointer (some ⟨g, 0, none⟩)) := (hb1.cell (p := ⟨w.heap.size, 0, none⟩) (by simp)).trans (cell_of_row _ _ 0 _ _ (0, 0) (heap_alloc_new w _))
  have cn0 : ((w.alloc (.cells #[.pointer (some ⟨g, 0, none⟩)] 64)).alloc (.cells #[.func (.func 50) #[.pointer (some ⟨g, 0, none⟩)] #[]] 79)).cell? ⟨w.heap.size + 1, 0, none⟩ = some (.func (.func 50) #[.pointer (some ⟨g, 0, none⟩)] #[]) := by
    have := cell_of_row _ _ 0 _ _ (0, 0) (heap_alloc_new (w.alloc (.cells #[.pointer (some ⟨g, 0, none⟩)] 64)) (.cells #[.func (.func 50) #[.pointer (some ⟨g, 0, none⟩)] #[]] 79))
    rw [show (w.alloc (.cells #[.pointer (some ⟨g, 0, none⟩)] 64)).heap.size = w.heap.size + 1 by simp] at this
    exact this
  have h0 := (h.out.below hb0).below hb1
  have HC0 : Hid (Ch (fun k => k = g) w ((w.alloc (.cells #[.pointer (some ⟨g, 0, none⟩)] 64)).alloc (.cells #[.func (.func 50) #[.pointer (some ⟨g, 0, none⟩)] #[]] 79))) := Lib.hid ((Ch.of_below hb0).less (hb1.mono (by simp)))
  obtain ⟨W0, hW0⟩ : ∃ W0, (w.alloc (.cells #[.pointer (some ⟨g, 0, none⟩)] 64)).alloc (.cells #[.func (.func 50) #[.pointer (some ⟨g, 0, none⟩)] #[]] 79) = W0 := ⟨_, rfl⟩
  obtain ⟨br, hbr⟩ : ∃ br, w.heap.size = br := ⟨_, rfl⟩
  have HNe : Hid (br + 1 ≠ g ∧ br ≠ g ∧ br = w.heap.size) := Lib.hid (by omega)
  rw [hW0] at cr0 cn0 h0 HC0
  rw [hbr] at cr0 cn0
  have HR0 : Hid (RS F W0.drew g l s) := Lib.hid (h0.below (Below.refl _ _).drew)
  have HC00 : Hid (Ch (fun k => k = g) w W0.drew) := Lib.hid (HC0.out.less ((Below.refl _ _).drew.mono HC0.out.size))
  clear h hN hV hg hb0 hb1 h0
  go_enter Try.func53, Try.ntmps53
  go_wp2_with fail
  clear hW0 hbr
  first | refine wp_region_noPanic ?_ | skip
  refine wp_region_U (n := 5) (S := (fun u : World => u.cell? ⟨br + 1, 0, none⟩ = some (.func (.func 50) #[.pointer (some ⟨g, 0, none⟩)] #[]) ∧ u.cell? ⟨br, 0, none⟩ = some (.pointer (some ⟨g, 0, none⟩)))) (by kernel_rfl) (by kernel_rfl) (⟨cn0, cr0⟩) (fun hHeld => ?_)
  refine wpAnyU_take (i := 0) (v := ?v1) rfl (by kernel_rfl) (by kernel_rfl) (by kernel_rfl) (by kernel_rfl) (fun _ _ _ h => h) (Or.inl ⟨by rfl, ?hy1⟩) (by assumption) ?rest1
  case hy1 => (intro w hSw; (try dsimp only at hSw); go_simp; try with_reducible rfl)
  try simp only [Act.put, List.getElem_toArray, List.getElem_cons_succ, List.getElem_cons_zero, List.setIfInBounds_toArray, List.set_cons_zero, List.set_cons_succ]
  refine wpAnyU_take (i := 1) (v := ?v2) rfl (by kernel_rfl) (by kernel_rfl) (by kernel_rfl) (by kernel_rfl) (fun _ _ _ h => h) (Or.inl ⟨by rfl, ?hy2⟩) (by assumption) ?rest2
  case hy2 => (intro w hSw; (try dsimp only at hSw); go_simp; try with_reducible rfl)
  try simp only [Act.put, List.getElem_toArray, List.getElem_cons_succ, List.getElem_cons_zero, List.setIfInBounds_toArray, List.set_cons_zero, List.set_cons_succ]
  refine wpAnyU_take (i := 3) (v := ?v3) rfl (by kernel_rfl) (by kernel_rfl) (by kernel_rfl) (by kernel_rfl) (fun _ _ _ h => h) (Or.inl ⟨by rfl, ?hy3⟩) (by assumption) ?rest3
  case hy3 => (intro w hSw; (try dsimp only at hSw); go_simp; try with_reducible rfl)
  try simp only [Act.put, List.getElem_toArray, List.getElem_cons_succ, List.getElem_cons_zero, List.setIfInBounds_toArray, List.set_cons_zero, List.set_cons_succ]
  refine wpAnyU_ready (i := 2) (by kernel_rfl) (by kernel_rfl) rfl (fun K hK => ?_)
  go_simp
  refine (((HN.out _ _ HR0))).mono ?_
  rintro e w' ⟨rfl, hr, hc⟩
  go_wp2_with fail
  refine hK.out _ _ (⟨cell_rd hc cn0 HNe.out.1, cell_rd hc cr0 HNe.out.2.1⟩) (fun hHeld => ?_)
  clear hK K
  try simp only [Act.put, List.getElem_toArray, List.getElem_cons_succ, List.getElem_cons_zero, List.setIfInBounds_toArray, List.set_cons_zero, List.set_cons_succ]
  have cn1 : w'.cell? ⟨br + 1, 0, none⟩ = some (.func (.func 50) #[.pointer (some ⟨g, 0, none⟩)] #[]) := cell_rd hc cn0 HNe.out.1
  have cr1 : w'.cell? ⟨br, 0, none⟩ = some (.pointer (some ⟨g, 0, none⟩)) := cell_rd hc cr0 HNe.out.2.1
  have HR1 := Lib.hid hr
  have HC1 := Lib.hid (HC00.out.then hc)
  clear hr hc cn0 cr0
  rw [HNN.out]
  have HL := Lib.hid (listIt_any F w' g l _ (itemS l (fun t => takS l t 2)) (.pointer (some ⟨br + 1, 0, none⟩)) (.pointer (some ⟨br, 0, none⟩)) HR1 (Lib.hid fun i hi => Nat.lt_of_lt_of_le (hF.out i hi) HC1.out.size) hl N (by omega) _ rfl (Lib.hid fun u t hr hch => item_s F u g l t (br + 1) br hr (Lib.hid fun i hi => Nat.lt_of_lt_of_le (hF.out i hi) (HC1.out.then hch.out).size) hl h8 (cell_rd hch.out cn1 HNe.out.1) (cell_rd hch.out cr1 HNe.out.2.1) HNe.out.1 HNe.out.2.1))
  refine wpAnyU_ready (i := 4) (by kernel_rfl) (by kernel_rfl) rfl (fun K hK => ?_)
  go_simp
  refine ((HL.out)).mono ?_
  rintro e w' ⟨A, n, c, ns, rfl, hi, hr, hc⟩
  go_wp2_with fail
  refine hK.out _ _ (⟨cell_rd hc cn1 HNe.out.1, cell_rd hc cr1 HNe.out.2.1⟩) (fun hHeld => ?_)
  clear hK K
  try simp only [Act.put, List.getElem_toArray, List.getElem_cons_succ, List.getElem_cons_zero, List.setIfInBounds_toArray, List.set_cons_zero, List.set_cons_succ]
  have HE : Hid (GotIt F w g l (itemsS l (fun t => takS l t 2) s) (.returned (.slice A n c)) _) := Lib.hid ⟨A, n, c, ns, rfl, hi.weak fun k _ hk => Nat.le_trans HC1.out.size hk, HI.out ▸ hr, HC1.out.then hc⟩
  clear hi hr hc
  refine wpAnyU_tail rfl (by kernel_rfl) ?_
  simp only [List.drop_succ_cons, List.drop_zero]
  go_wp2_with fail
  refine NoPanic.normal ?_
  go_wp2_with fail
  go_ret
  exact HE.out
set_option maxHeartbeats 3200000 in
theorem items_n (F : Nat → Prop) (w : World) (g : Nat) (l : List Int) (s : Rst) (bq : Nat) (h : Hid (RS F w g l s)) (hF : Hid (∀ i, F i → i < w.heap.size)) (hl : l.length ≤ 1000000) (h8 : Hid (Byte8 l)) (cq : w.cell? ⟨bq, 0, none⟩ = some (.pointer (some ⟨g, 0, none⟩))) (hbq : bq ≠ g) :
    Calls Try.prog 53 #[.pointer (some ⟨g, 0, none⟩), .func (.func 56) #[] #[.pointer (some ⟨bq, 0, none⟩)]] w (GotIt F w g l (itemsS l (fun t => takS l t 1) s)) := by
  have hmf : ∀ (fn : Fn) (first cap : Array Value) (w : World), (Instr.makeFunc fn first cap).run Try.prog w = .ok (.func fn first cap) w := fun _ _ _ _ => rfl
  have HN := Lib.hid (fun u t (hr : Hid (RS F u g l t)) => num_any F u g l t hr hl 1 1 rfl (by decide) (by decide))
  have hV := numV_bd h8.out s 1
  obtain ⟨N, hN⟩ : ∃ N : Nat, numV l s 1 = N := ⟨(numV l s 1).toNat, by omega⟩
  have hN2 : N ≤ 255 := by have h2 : numV l s 1 < 256 := hV.2; omega
  have HI : Hid (itemsS l (fun t => takS l t 1) s = listS (itemS l (fun t => takS l t 1)) N (takS l s 1)) := Lib.hid (by unfold itemsS; rw [hN, Int.toNat_natCast])
  have HNN := Lib.hid hN
  have hg := h.out.lt
  have hb0 := bnew w (.cells #[.pointer (some ⟨g, 0, none⟩)] 64)
  have hb1 := bnew (w.alloc (.cells #[.pointer (some ⟨g, 0, none⟩)] 64)) (.cells #[.func (.func 56) #[] #[.pointer (some ⟨bq, 0, none⟩)]] 79)
  have cr0 : ((w.alloc (.cells #[.pointer (some ⟨g, 0, none⟩)] 64)).alloc (.cells #[.func (.func 56) #[] #[.pointer (some ⟨bq, 0, none⟩)]] 79)).cell? ⟨w.heap.size, 0, none⟩ = some (.pointer (some ⟨g, 0, none⟩)) := (hb1.cell (p := ⟨w.heap.size, 0, none⟩) (by simp)).trans (cell_of_row _ _ 0 _ _ (0, 0) (heap_alloc_new w _))
  have cn0 : ((w.alloc (.cells #[.pointer (some ⟨g, 0, none⟩)] 64)).alloc (.cells #[.func (.func 56) #[] #[.pointer (some ⟨bq, 0, none⟩)]] 79)).cell? ⟨w.heap.size + 1, 0, none⟩ = some (.func (.func 56) #[] #[.pointer (some ⟨bq, 0, none⟩)]) := by
    have := cell_of_row _ _ 0 _ _ (0, 0) (heap_alloc_new (w.alloc (.cells #[.pointer (some ⟨g, 0, none⟩)] 64)) (.cells #[.func (.func 56) #[] #[.pointer (some ⟨bq, 0, none⟩)]] 79))
    rw [show (w.alloc (.cells #[.pointer (some ⟨g, 0, none⟩)] 64)).heap.size = w.heap.size + 1 by simp] at this
    exact this
  have cq0 := (hb1.cell (p := ⟨bq, 0, none⟩) (blk_lt ((hb0.cell (p := ⟨bq, 0, none⟩) (blk_lt cq)).trans cq))).trans ((hb0.cell (p := ⟨bq, 0, none⟩) (blk_lt cq)).trans cq)
  have HQn := Lib.hid hbq
  have h0 := (h.out.below hb0).below hb1
  have HC0 : Hid (Ch (fun k => k = g) w ((w.alloc (.cells #[.pointer (some ⟨g, 0, none⟩)] 64)).alloc (.cells #[.func (.func 56) #[] #[.pointer (some ⟨bq, 0, none⟩)]] 79))) := Lib.hid ((Ch.of_below hb0).less (hb1.mono (by simp)))
  obtain ⟨W0, hW0⟩ : ∃ W0, (w.alloc (.cells #[.pointer (some ⟨g, 0, none⟩)] 64)).alloc (.cells #[.func (.func 56) #[] #[.pointer (some ⟨bq, 0, none⟩)]] 79) = W0 := ⟨_, rfl⟩
  obtain ⟨br, hbr⟩ : ∃ br, w.heap.size = br := ⟨_, rfl⟩
  have HNe : Hid (br + 1 ≠ g ∧ br ≠ g ∧ br = w.heap.size) := Lib.hid (by omega)
  rw [hW0] at cr0 cn0 h0 HC0 cq0
  rw [hbr] at cr0 cn0
  have HR0 : Hid (RS F W0.drew g l s) := Lib.hid (h0.below (Below.refl _ _).drew)
  have HC00 : Hid (Ch (fun k => k = g) w W0.drew) := Lib.hid (HC0.out.less ((Below.refl _ _).drew.mono HC0.out.size))
  clear h hN hV hg hb0 hb1 h0 cq hbq
  go_enter Try.func53, Try.ntmps53
  go_wp2_with fail
  clear hW0 hbr
  first | refine wp_region_noPanic ?_ | skip
  refine wp_region_U (n := 5) (S := (fun u : World => u.cell? ⟨br + 1, 0, none⟩ = some (.func (.func 56) #[] #[.pointer (some ⟨bq, 0, none⟩)]) ∧ u.cell? ⟨br, 0, none⟩ = some (.pointer (some ⟨g, 0, none⟩)))) (by kernel_rfl) (by kernel_rfl) (⟨cn0, cr0⟩) (fun hHeld => ?_)
  refine wpAnyU_take (i := 0) (v := ?v4) rfl (by kernel_rfl) (by kernel_rfl) (by kernel_rfl) (by kernel_rfl) (fun _ _ _ h => h) (Or.inl ⟨by rfl, ?hy4⟩) (by assumption) ?rest4
  case hy4 => (intro w hSw; (try dsimp only at hSw); go_simp; try with_reducible rfl)
  try simp only [Act.put, List.getElem_toArray, List.getElem_cons_succ, List.getElem_cons_zero, List.setIfInBounds_toArray, List.set_cons_zero, List.set_cons_succ]
  refine wpAnyU_take (i := 1) (v := ?v5) rfl (by kernel_rfl) (by kernel_rfl) (by kernel_rfl) (by kernel_rfl) (fun _ _ _ h => h) (Or.inl ⟨by rfl, ?hy5⟩) (by assumption) ?rest5
  case hy5 => (intro w hSw; (try dsimp only at hSw); go_simp; try with_reducible rfl)
  try simp only [Act.put, List.getElem_toArray, List.getElem_cons_succ, List.getElem_cons_zero, List.setIfInBounds_toArray, List.set_cons_zero, List.set_cons_succ]
  refine wpAnyU_take (i := 3) (v := ?v6) rfl (by kernel_rfl) (by kernel_rfl) (by kernel_rfl) (by kernel_rfl) (fun _ _ _ h => h) (Or.inl ⟨by rfl, ?hy6⟩) (by assumption) ?rest6
  case hy6 => (intro w hSw; (try dsimp only at hSw); go_simp; try with_reducible rfl)
  try simp only [Act.put, List.getElem_toArray, List.getElem_cons_succ, List.getElem_cons_zero, List.setIfInBounds_toArray, List.set_cons_zero, List.set_cons_succ]
  refine wpAnyU_ready (i := 2) (by kernel_rfl) (by kernel_rfl) rfl (fun K hK => ?_)
  go_simp
  refine (((HN.out _ _ HR0))).mono ?_
  rintro e w' ⟨rfl, hr, hc⟩
  go_wp2_with fail
  refine hK.out _ _ (⟨cell_rd hc cn0 HNe.out.1, cell_rd hc cr0 HNe.out.2.1⟩) (fun hHeld => ?_)
  clear hK K
  try simp only [Act.put, List.getElem_toArray, List.getElem_cons_succ, List.getElem_cons_zero, List.setIfInBounds_toArray, List.set_cons_zero, List.set_cons_succ]
  have cn1 : w'.cell? ⟨br + 1, 0, none⟩ = some (.func (.func 56) #[] #[.pointer (some ⟨bq, 0, none⟩)]) := cell_rd hc cn0 HNe.out.1
  have cr1 : w'.cell? ⟨br, 0, none⟩ = some (.pointer (some ⟨g, 0, none⟩)) := cell_rd hc cr0 HNe.out.2.1
  have cq1 : w'.cell? ⟨bq, 0, none⟩ = some (.pointer (some ⟨g, 0, none⟩)) := cell_rd hc cq0 HQn.out
  have HR1 := Lib.hid hr
  have HC1 := Lib.hid (HC00.out.then hc)
  clear hr hc cn0 cr0 cq0
  rw [HNN.out]
  have HL := Lib.hid (listIt_any F w' g l _ (itemS l (fun t => takS l t 1)) (.pointer (some ⟨br + 1, 0, none⟩)) (.pointer (some ⟨br, 0, none⟩)) HR1 (Lib.hid fun i hi => Nat.lt_of_lt_of_le (hF.out i hi) HC1.out.size) hl N (by omega) _ rfl (Lib.hid fun u t hr hch => item_n F u g l t (br + 1) br bq hr (Lib.hid fun i hi => Nat.lt_of_lt_of_le (hF.out i hi) (HC1.out.then hch.out).size) hl h8 (cell_rd hch.out cn1 HNe.out.1) (cell_rd hch.out cr1 HNe.out.2.1) (cell_rd hch.out cq1 HQn.out) HNe.out.1 HNe.out.2.1))
  refine wpAnyU_ready (i := 4) (by kernel_rfl) (by kernel_rfl) rfl (fun K hK => ?_)
  go_simp
  refine ((HL.out)).mono ?_
  rintro e w' ⟨A, n, c, ns, rfl, hi, hr, hc⟩
  go_wp2_with fail
  refine hK.out _ _ (⟨cell_rd hc cn1 HNe.out.1, cell_rd hc cr1 HNe.out.2.1⟩) (fun hHeld => ?_)
  clear hK K
  try simp only [Act.put, List.getElem_toArray, List.getElem_cons_succ, List.getElem_cons_zero, List.setIfInBounds_toArray, List.set_cons_zero, List.set_cons_succ]
  have HE : Hid (GotIt F w g l (itemsS l (fun t => takS l t 1) s) (.returned (.slice A n c)) _) := Lib.hid ⟨A, n, c, ns, rfl, hi.weak fun k _ hk => Nat.le_trans HC1.out.size hk, HI.out ▸ hr, HC1.out.then hc⟩
  clear hi hr hc
  refine wpAnyU_tail rfl (by kernel_rfl) ?_
  simp only [List.drop_succ_cons, List.drop_zero]
  go_wp2_with fail
  refine NoPanic.normal ?_
  go_wp2_with fail
  go_ret
  exact HE.out

end Go.Proofs.Ythlaglhlmbkniaa
/- The library's contracts that the texts lean on, at this program's numbers. -/
namespace Go.Proofs
open Go.Shelf
open Go.RowKit
def Try.lays125_ren : Go.Shelf.Ren := ⟨fun | 125 => 22 | 128 => 29 | 129 => 30 | n => n, fun | 46 => 62 | 3 => 3 | 51 => 72 | 53 => 74 | 4 => 4 | 5 => 5 | 9 => 9 | n => n, fun | n => n⟩
theorem Try.lays125 : Go.Proofs.Lays.n125 Try.prog Try.lays125_ren := {
  mixed := by kernel_rfl
  f125 := Try.func22.trans (congrArg some (by kernel_rfl))
  f128 := Try.func29.trans (congrArg some (by kernel_rfl))
  f129 := Try.func30.trans (congrArg some (by kernel_rfl))
  t3 := Try.underlying3
  a3 := Try.isAgg3
  z3 := Try.sizeOf3
  v3 := Try.zeroValue3
  t4 := Try.underlying4
  a4 := Try.isAgg4
  z4 := Try.sizeOf4
  v4 := Try.zeroValue4
  t5 := Try.underlying5
  a5 := Try.isAgg5
  z5 := Try.sizeOf5
  v5 := Try.zeroValue5
  t9 := Try.underlying9
  a9 := Try.isAgg9
  z9 := Try.sizeOf9
  v9 := Try.zeroValue9
  t46 := Try.underlying62
  a46 := Try.isAgg62
  z46 := Try.sizeOf62
  v46 := Try.zeroValue62
  t51 := Try.underlying72
  a51 := Try.isAgg72
  z51 := Try.sizeOf72
  v51 := Try.zeroValue72
  t53 := Try.underlying74
  a53 := Try.isAgg74
  z53 := Try.sizeOf74
  v53 := Try.zeroValue74 }
theorem Try.bits_Len (x : Int) (w : World) (h0 : 0 ≤ x) (h1 : x ≤ 18446744073709551615) :
    Calls Try.prog 22 #[.int .u64 x] w fun e w' => e = .returned (.int .i64 (Lib.bitLen x.toNat)) ∧ w' = w := Any.bits_Len Try.lays125 x w h0 h1
end Go.Proofs
/- tzx.Bits, Many, and the document's: their contracts. -/
namespace Go.Proofs.Ythlaglhlmbkniaa
open Go.RowKit
set_option linter.unusedVariables false
set_option linter.unusedSimpArgs false
set_option maxRecDepth 100000

theorem bits_any (n : Int) (h : n ≤ 1000000) (w : World) : Calls Try.prog 11 #[.int .i64 n] w fun x w' => ∃ b : Nat, x = .returned (.int .i64 (b : Nat)) ∧ LeastIs n b ∧ b ≤ 20 ∧ w = w' := by
  by_cases h2 : n < 2
  · have d : decide (n < 2) = true := decide_eq_true h2
    have HE := Lib.hid (least_small n h2)
    clear h2
    go_enter Try.func11, Try.ntmps11
    go_wp2_with fail
    go_ret
    exact ⟨0, rfl, HE.out, by omega, rfl⟩
  · have d : decide (n < 2) = false := decide_eq_false h2
    have HE := Lib.hid (least_bitLen n (by omega) h)
    have HF := Lib.hid (bitLen_few n (by omega) h)
    have HC := Lib.hid (fun u => Try.bits_Len (n - 1) u (by omega) (by omega))
    have e1 : IntKind.u64.wrap (n - 1) = n - 1 := by rw [IntKind.wrap_u64]; omega
    obtain ⟨b, hb⟩ : ∃ b, Lib.bitLen (n - 1).toNat = b := ⟨_, rfl⟩
    rw [hb] at HE HF HC
    clear hb
    go_enter Try.func11, Try.ntmps11
    go_wp2_with fail
    refine (HC.out _).mono ?_
    rintro x w' ⟨rfl, rfl⟩
    go_wp2_with fail
    go_ret
    exact ⟨b, rfl, HE.out, HF.out, rfl⟩
theorem many_any (n : Int) (w : World) : Calls Try.prog 13 #[.int .i64 n] w fun x w' => x = .returned (.int .i64 (if n = 0 then 256 else n)) ∧ w = w' := by
  by_cases h : n = 0
  · subst h
    go_enter Try.func13, Try.ntmps13
    go_wp2_with fail
    go_ret
    exact ⟨rfl, rfl⟩
  · have d : (n == 0) = false := by rw [beq_eq_false_iff_ne]; exact h
    have e : (if n = 0 then 256 else n) = n := if_neg h
    rw [e]
    clear h e
    go_enter Try.func13, Try.ntmps13
    go_wp2_with fail
    go_ret
    exact ⟨rfl, rfl⟩
end Go.Proofs.Ythlaglhlmbkniaa
