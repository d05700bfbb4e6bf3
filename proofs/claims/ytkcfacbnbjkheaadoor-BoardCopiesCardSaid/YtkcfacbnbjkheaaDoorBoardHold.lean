/- Hold, Int, Frame and Copy of a board, and a board that isn't there: their contracts. -/
import Derived.Test.YtkcfacbnbjkheaaDoorDocCalls
namespace Go.Proofs.YtkcfacbnbjkheaaDoor
open Go.RowKit
set_option maxRecDepth 100000

theorem bframe_any (b base : Nat) (s : St) (va ve : Value) (w : World) (hB : BAt w b base s va ve) : Calls Tryd.prog 20 #[.pointer (some ⟨b, 0, none⟩)] w fun e w' => e = .returned (.int .i64 s.frame) ∧ w = w' := by
  have c := hB.c_frame
  clear hB
  go_enter Tryd.func20, Tryd.ntmps20
  go_wp2_with fail
  go_ret
  exact ⟨rfl, rfl⟩
theorem bint_any (b base : Nat) (s : St) (va ve : Value) (w : World) (hB : BAt w b base s va ve) (h0 : 0 ≤ s.frame) (h1 : s.frame < 69888) : Calls Tryd.prog 18 #[.pointer (some ⟨b, 0, none⟩)] w fun e w' => e = .returned (.bool (decide (s.frame < 32))) ∧ w = w' := by
  have c := hB.c_frame
  have HA := Lib.hid (fun w => asks_any s.frame w)
  rw [frame_in h0 h1] at HA
  clear hB
  go_enter Tryd.func18, Tryd.ntmps18
  go_wp2_with fail
  refine (HA.out _).mono ?_
  rintro e w' ⟨rfl, rfl⟩
  go_wp2_with fail
  go_ret
  exact ⟨rfl, rfl⟩
theorem bhold_any (b base : Nat) (s : St) (va ve : Value) (w : World) (hB : BAt w b base s va ve) (kind a k : Int) (a0 : 0 ≤ a) (a1 : a ≤ 65535) (hT : Waits w) :
    Calls Tryd.prog 17 #[.pointer (some ⟨b, 0, none⟩), .int .i64 kind, .int .u16 a, .int .i64 k] w fun e w' => e = .returned (.int .i64 (if s.slow then holdV kind a k s.frame else 0)) ∧ w = w' := by
  have c1 := hB.c_slow
  have c2 := hB.c_frame
  have HH := Lib.hid (hold_any kind a k s.frame w a0 a1 hT)
  clear hB hT
  cases hs : s.slow with
  | true =>
    rw [hs] at c1
    go_enter Tryd.func17, Tryd.ntmps17
    go_wp2_with fail
    refine (HH.out).mono ?_
    rintro e w' ⟨rfl, rfl⟩
    go_wp2_with fail
    go_ret
    exact ⟨rfl, rfl⟩
  | false =>
    rw [hs] at c1
    go_enter Tryd.func17, Tryd.ntmps17
    go_wp2_with fail
    go_ret
    exact ⟨rfl, rfl⟩

theorem n_write (a v : Int) (w : World) : Calls Tryd.prog 12 #[.pointer none, .int .u16 a, .int .u8 v] w fun e w' => e = .returned (.tuple #[]) ∧ w = w' := by
  go_enter Tryd.func12, Tryd.ntmps12
  go_wp2_with fail
  refine bodyPost_ret (results_none rfl _ _ _) rfl ?_
  exact ⟨rfl, rfl⟩
theorem n_out (a v : Int) (w : World) : Calls Tryd.prog 13 #[.pointer none, .int .u16 a, .int .u8 v] w fun e w' => e = .returned (.tuple #[]) ∧ w = w' := by
  go_enter Tryd.func13, Tryd.ntmps13
  go_wp2_with fail
  refine bodyPost_ret (results_none rfl _ _ _) rfl ?_
  exact ⟨rfl, rfl⟩
theorem n_next (w : World) : Calls Tryd.prog 14 #[.pointer none] w fun e w' => e = .returned (.tuple #[]) ∧ w = w' := by
  go_enter Tryd.func14, Tryd.ntmps14
  go_wp2_with fail
  refine bodyPost_ret (results_none rfl _ _ _) rfl ?_
  exact ⟨rfl, rfl⟩
theorem n_paint (v : Int) (w : World) : Calls Tryd.prog 28 #[.pointer none, .int .u8 v] w fun e w' => e = .returned (.tuple #[]) ∧ w = w' := by
  go_enter Tryd.func28, Tryd.ntmps28
  go_wp2_with fail
  refine bodyPost_ret (results_none rfl _ _ _) rfl ?_
  exact ⟨rfl, rfl⟩
theorem n_read (a : Int) (w : World) : Calls Tryd.prog 15 #[.pointer none, .int .u16 a] w fun e w' => e = .returned (.int .u8 255) ∧ w = w' := by
  go_enter Tryd.func15, Tryd.ntmps15
  go_wp2_with fail
  go_ret
  exact ⟨rfl, rfl⟩
theorem n_in (a : Int) (w : World) : Calls Tryd.prog 16 #[.pointer none, .int .u16 a] w fun e w' => e = .returned (.int .u8 255) ∧ w = w' := by
  go_enter Tryd.func16, Tryd.ntmps16
  go_wp2_with fail
  go_ret
  exact ⟨rfl, rfl⟩
theorem n_hold (k a i : Int) (w : World) : Calls Tryd.prog 17 #[.pointer none, .int .i64 k, .int .u16 a, .int .i64 i] w fun e w' => e = .returned (.int .i64 0) ∧ w = w' := by
  go_enter Tryd.func17, Tryd.ntmps17
  go_wp2_with fail
  go_ret
  exact ⟨rfl, rfl⟩
theorem n_int (w : World) : Calls Tryd.prog 18 #[.pointer none] w fun e w' => e = .returned (.bool false) ∧ w = w' := by
  go_enter Tryd.func18, Tryd.ntmps18
  go_wp2_with fail
  go_ret
  exact ⟨rfl, rfl⟩
theorem n_t (w : World) : Calls Tryd.prog 19 #[.pointer none] w fun e w' => e = .returned (.int .u64 0) ∧ w = w' := by
  go_enter Tryd.func19, Tryd.ntmps19
  go_wp2_with fail
  go_ret
  exact ⟨rfl, rfl⟩
theorem n_frame (w : World) : Calls Tryd.prog 20 #[.pointer none] w fun e w' => e = .returned (.int .i64 0) ∧ w = w' := by
  go_enter Tryd.func20, Tryd.ntmps20
  go_wp2_with fail
  go_ret
  exact ⟨rfl, rfl⟩
theorem n_border (w : World) : Calls Tryd.prog 21 #[.pointer none] w fun e w' => e = .returned (.int .u8 0) ∧ w = w' := by
  go_enter Tryd.func21, Tryd.ntmps21
  go_wp2_with fail
  go_ret
  exact ⟨rfl, rfl⟩
theorem n_mic (w : World) : Calls Tryd.prog 22 #[.pointer none] w fun e w' => e = .returned (.bool false) ∧ w = w' := by
  go_enter Tryd.func22, Tryd.ntmps22
  go_wp2_with fail
  go_ret
  exact ⟨rfl, rfl⟩
theorem n_spk (w : World) : Calls Tryd.prog 23 #[.pointer none] w fun e w' => e = .returned (.bool false) ∧ w = w' := by
  go_enter Tryd.func23, Tryd.ntmps23
  go_wp2_with fail
  go_ret
  exact ⟨rfl, rfl⟩
theorem n_acts (w : World) : Calls Tryd.prog 24 #[.pointer none] w fun e w' => e = .returned (.slice none 0 0) ∧ w = w' := by
  go_enter Tryd.func24, Tryd.ntmps24
  go_wp2_with fail
  go_ret
  exact ⟨rfl, rfl⟩
theorem n_edges (w : World) : Calls Tryd.prog 25 #[.pointer none] w fun e w' => e = .returned (.slice none 0 0) ∧ w = w' := by
  go_enter Tryd.func25, Tryd.ntmps25
  go_wp2_with fail
  go_ret
  exact ⟨rfl, rfl⟩
theorem n_picture (w : World) : Calls Tryd.prog 26 #[.pointer none] w fun e w' => e = .returned (.slice none 0 0) ∧ w = w' := by
  go_enter Tryd.func26, Tryd.ntmps26
  go_wp2_with fail
  go_ret
  exact ⟨rfl, rfl⟩
theorem n_copy (w : World) : Calls Tryd.prog 27 #[.pointer none] w fun e w' => e = .returned (.pointer none) ∧ w = w' := by
  go_enter Tryd.func27, Tryd.ntmps27
  go_wp2_with fail
  go_ret
  exact ⟨rfl, rfl⟩

/-! A copy. -/
def boardAlloc (h : Bool) (o : Value) : Sem Value := Instr.alloc 40 h o
theorem boardAlloc_as (h : Bool) (o : Value) : Instr.alloc 40 h o = boardAlloc h o := rfl
def boardLoad (v : Value) : Sem Value := Instr.loadAt 40 v
theorem boardLoad_as (v : Value) : Instr.loadAt 40 v = boardLoad v := rfl
def boardStore (p v : Value) : Sem Unit := Instr.storeAt 40 p v
theorem boardStore_as (p v : Value) : Instr.storeAt 40 p v = boardStore p v := rfl
attribute [local simp ↓ high] boardAlloc_as boardLoad_as boardStore_as
theorem run_boardAlloc : ∃ Z : Array Value, Z.size = 77842 ∧ ∀ u, (boardAlloc true (.tuple #[])).run Tryd.prog u = .ok (.pointer (some ⟨u.heap.size, 0, none⟩)) (u.alloc (.cells Z 40)) := by
  obtain ⟨i, A, h1, h2, h3, _⟩ := boardZero
  have hc : (Value.agg A).cells = A := rfl
  refine ⟨A, h3, fun u => ?_⟩
  simp only [boardAlloc, Instr.alloc, zeroValue, Sem.run_bind, typeInfo, newVar, newRow]
  simp [h1, h2, hc]
theorem own_less {w : World} {base B : Nat} {e : TypeId} {size : Nat} {v : Value} {n : Nat} {xs : List Value} (h : w.ownsRow B e size v n xs) (hB : base ≤ B) : w.ownsRow base e size v n xs := by
  refine ⟨h.1, ?_⟩
  rcases h.2 with hn | ⟨g, cap, cur, e1, hb, rest⟩
  · exact .inl hn
  · exact .inr ⟨g, cap, cur, e1, Nat.le_trans hB hb, rest⟩
theorem ite_one {p : Prop} [Decidable p] {a b : Value} (ha : a.oneCell' = true) (hb : b.oneCell' = true) : (if p then a else b).oneCell' = true := by
  by_cases h : p
  · rw [if_pos h]; exact ha
  · rw [if_neg h]; exact hb
theorem bC_one (s : St) (va ve : Value) (ha : va.oneCell' = true) (he : ve.oneCell' = true) (j : Nat) : (bC s va ve j).oneCell' = true :=
  ite_one rfl (ite_one rfl (ite_one rfl (ite_one rfl (ite_one rfl (ite_one rfl (ite_one rfl (ite_one rfl (ite_one rfl (ite_one rfl (ite_one rfl (ite_one ha he)))))))))))
theorem own_one {w : World} {base : Nat} {e : TypeId} {size : Nat} {v : Value} {n : Nat} {xs : List Value} (h : w.ownsRow base e size v n xs) : v.oneCell' = true := by
  rcases h.2 with ⟨rfl, _⟩ | ⟨g, cap, cur, rfl, _⟩ <;> rfl
set_option maxHeartbeats 1600000 in
theorem copy_any (b base : Nat) (s : St) (va ve : Value) (w : World) (hB : BAt w b base s va ve) (hl : s.acts.length ≤ 100000) (hl2 : s.edges.length ≤ 100000) :
    Calls Tryd.prog 27 #[.pointer (some ⟨b, 0, none⟩)] w fun e w' => e = .returned (.pointer (some ⟨w.heap.size, 0, none⟩)) ∧ (∃ va' ve', BAt w' w.heap.size w.heap.size s va' ve') ∧ Below w.heap.size w w' := by
  obtain ⟨A, hA, hAs, hAc⟩ := hB.cells
  obtain ⟨Z, hZ, halloc⟩ := run_boardAlloc
  have hload : (boardLoad (.pointer (some ⟨b, 0, none⟩))).run Tryd.prog w = .ok (.agg A) w := by
    have := run_loadAt_mid (P := Tryd.prog) w b 0 40 A.toList _ (fun j v hj => by rw [Nat.zero_add, cell_of_row w b j _ _ (0, 0) hA]; simpa using hj) Tryd.underlying40 rfl (by rw [Array.length_toList, hAs]; kernel_rfl)
    rw [Array.toArray_toList] at this
    exact this
  have h1 : A.all (·.oneCell') = true := Array.all_eq_true.2 fun j hj => by
    have e := hAc j (by omega)
    rw [Array.getElem?_eq_getElem hj] at e
    injection e with e
    rw [e]
    exact bC_one s va ve (own_one hB.row) (own_one hB.tim) j
  have hnew : (w.alloc (.cells Z 40)).heap[w.heap.size]? = some (.cells Z 40 (0, 0)) := heap_alloc_new w _
  have hstore : (boardStore (.pointer (some ⟨w.heap.size, 0, none⟩)) (.agg A)).run Tryd.prog (w.alloc (.cells Z 40)) = .ok () ((w.alloc (.cells Z 40)).setRow w.heap.size A) := by
    have := run_storeVar_row (P := Tryd.prog) (w.alloc (.cells Z 40)) w.heap.size 40 40 Z A hnew (by rw [hAs]; kernel_rfl) (by rw [hZ, hAs]) h1
    simp only [boardStore, Instr.storeAt, Instr.sureAddr, Sem.run_bind, Sem.run_pure, Result.andThen_ok, this]
  have hb1 : Below w.heap.size w ((w.alloc (.cells Z 40)).setRow w.heap.size A) := below_setRow (balloc w _) (Nat.le_refl _) A
  have hC1 : Cells ((w.alloc (.cells Z 40)).setRow w.heap.size A) w.heap.size 40 77842 (bC s va ve) := ⟨A, setRow_heap _ _ _ _ _ _ hnew, hAs, hAc⟩
  obtain ⟨w1, hw1⟩ : ∃ w1, (w.alloc (.cells Z 40)).setRow w.heap.size A = w1 := ⟨_, rfl⟩
  rw [hw1] at hb1 hC1 hstore
  have hB1 := hB.below hb1
  have HB := Lib.hid hB1
  have HC := Lib.hid hC1
  have c1 := hB1.c_va
  have HK := Lib.hid (cloneA base va _ _ w1 hB1.row (flatA_one _) hl)
  have HK2 := Lib.hid (fun u (hu : BAt u b base s va ve) => cloneE base ve _ _ u hu.tim (fun q hq => by obtain ⟨y, _, rfl⟩ := List.mem_map.1 hq; rfl) hl2)
  obtain ⟨c, hc⟩ : ∃ c, w.heap.size = c := ⟨_, rfl⟩
  rw [hc] at hstore hC1 HC
  have hbc : b < c := by have := hB.lt; omega
  have HBK := Lib.hid (fun k (hk : Fb b va ve k) => show k ≠ c by have := (hB.fb_lt k hk).2; omega)
  have hs1 := hb1.size
  clear hA hAs hAc hZ h1 hnew hB hw1 hB1
  go_enter Tryd.func27, Tryd.ntmps27
  go_wp2_with fail
  refine HK.out.mono ?_
  rintro e w2 ⟨va2, rfl, hr2, hb2⟩
  have hC2 := HC.out.below hb2
  have hB2 := HB.out.below hb2
  have d1 : w2.cell? ⟨c, 77840, none⟩ = some va := hC2.cell 77840 (by decide)
  have d2 := hC2.frozen 77840
  obtain ⟨a2, k2, hv2, _, _⟩ := len_own hr2
  have hlt1 : c < w1.heap.size := hC1.lt
  have hb13 : Below c w w2 := by rw [← hc]; exact below_step hb1 hb2
  have HR2 := Lib.hid (own_less hr2 (Nat.le_of_lt hlt1))
  have HB3 := Lib.hid (show BAt (w2.setCell ⟨c, 77840, none⟩ va2) b base s va ve from hB2.keep fun k hk => Below.heap_setCell _ _ _ _ (HBK.out k hk))
  have hC3 := hC2.set 77840 va2
  rw [set_va] at hC3
  have hn3 : va2.ownBlock ≠ some c := own_ty hr2 hC2 (by decide)
  have HR3 := Lib.hid (own_keep HR2.out (w' := w2.setCell ⟨c, 77840, none⟩ va2) fun k hk => Below.heap_setCell _ _ _ _ (fun e => by subst e; exact hn3 hk))
  have hb14 : Below c w (w2.setCell ⟨c, 77840, none⟩ va2) := below_set hb13 _ _ _ (Nat.le_refl _)
  obtain ⟨w3, hw3⟩ : ∃ w3, w2.setCell ⟨c, 77840, none⟩ va2 = w3 := ⟨_, rfl⟩
  rw [hw3] at HB3 hC3 HR3 hb14
  have e1 := HB3.out.c_ve
  have HC3 := Lib.hid hC3
  have HK3 := Lib.hid (HK2.out w3 HB3.out)
  have hlt3 : c < w3.heap.size := hC3.lt
  clear hr2 hC2 hB2 hC3 hn3 HK2 hb2 HR2
  rw [hv2] at hw3
  rw [hv2]
  go_wp2_with fail
  clear hw3 d1 d2
  refine HK3.out.mono ?_
  rintro e w4 ⟨ve2, rfl, hr4, hb4⟩
  have hC4 := HC3.out.below hb4
  have d3 : w4.cell? ⟨c, 77841, none⟩ = some ve := hC4.cell 77841 (by decide)
  have d4 := hC4.frozen 77841
  obtain ⟨a4, k4, hv4, _, _⟩ := len_own hr4
  have hn4 : ve2.ownBlock ≠ some c := own_ty hr4 hC4 (by decide)
  have hr5 := own_keep HR3.out (w' := w4) fun k hk => hb4.block k (HR3.out.lt k hk).2
  have hn5 : va2.ownBlock ≠ some c := own_ty hr5 hC4 (by decide)
  have hk : ∀ k, k ≠ c → (w4.setCell ⟨c, 77841, none⟩ ve2).heap[k]? = w4.heap[k]? := fun k h => Below.heap_setCell _ _ _ _ h
  have HFIN := Lib.hid (show BAt (w4.setCell ⟨c, 77841, none⟩ ve2) c c s va2 ve2 from
    ⟨(hC4.set 77841 ve2).congr fun j hj => set_ve s va2 ve ve2 j hj, Nat.le_refl _, own_keep hr5 fun k e => hk k (fun e' => by subst e'; exact hn5 e), own_keep (own_less hr4 (Nat.le_of_lt hlt3)) fun k e => hk k (fun e' => by subst e'; exact hn4 e)⟩)
  have hb15 : Below c w (w4.setCell ⟨c, 77841, none⟩ ve2) := below_set (hb14.trans (hb4.mono (Nat.le_of_lt hlt3))) _ _ _ (Nat.le_refl _)
  clear hC4 hn4 hr5 hn5 hr4 hk
  rw [hv4] at HFIN hb15
  rw [hv4]
  go_wp2_with fail
  go_ret
  exact ⟨by rw [hc]; rfl, ⟨va2, _, by rw [hc]; exact HFIN.out⟩, by rw [hc]; exact hb15⟩
end Go.Proofs.YtkcfacbnbjkheaaDoor
