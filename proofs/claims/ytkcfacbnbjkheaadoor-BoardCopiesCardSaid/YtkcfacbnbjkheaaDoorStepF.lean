/- A step on both boards: time goes by. -/
import Derived.Test.YtkcfacbnbjkheaaDoorBoardPair
namespace Go.Proofs.YtkcfacbnbjkheaaDoor
open Go.RowKit
set_option maxRecDepth 100000
set_option linter.unusedVariables false
set_option linter.unusedSimpArgs false

theorem next_went {u : World} {b base : Nat} {s : St} {va ve : Value} {f : FuncId} {args : Array Value} {r : Ending} (h : Calls Tryd.prog f args u fun e w' => e = r ∧ BAt w' b base (nextS s) va ve ∧ Ch (Fb b va ve) u w') : Calls Tryd.prog f args u fun e w' => e = r ∧ Went b base (nextS s) va ve u w' :=
  h.mono fun _ _ ⟨h1, h2, h3⟩ => ⟨h1, Went.stay h2 h3⟩
theorem next_dwent {u : World} {x base : Nat} {s : St} {ph : Int} {vd ea ee : Value} {L : List Int} {f : FuncId} {args : Array Value} {r : Ending} (h : Calls Tryd.prog f args u fun e w' => e = r ∧ DAt w' x base (nextS s) ph vd ea ee L ∧ Ch (Fd x vd ea ee L) u w') : Calls Tryd.prog f args u fun e w' => e = r ∧ Dwent x base (nextS s) ph vd ea ee L L u w' :=
  h.mono fun _ _ ⟨h1, h2, h3⟩ => ⟨h1, Dwent.stay h2 h3⟩

set_option maxHeartbeats 12800000 in
theorem step4 (R : Nat → Prop) (p b x base : Nat) (s d : St) (va ve : Value) (ph : Int) (vd ea ee : Value) (L : List Int) (n : Nat) (T : Int) (N : Int) (A : Nat) (V : Int) (nm : ByteArray) (tb : Array Value) (w : World) (hP : Pr w R b x base s d va ve ph vd ea ee L n T) (hp : R p) (hp0 : w.cell? ⟨p, 0, none⟩ = some (.pointer (some ⟨b, 0, none⟩))) (hp1 : w.cell? ⟨p, 1, none⟩ = some (.pointer (some ⟨x, 0, none⟩)))
    (hA : A < 65536) (v0 : 0 ≤ V) (v1 : V ≤ 255) (hn : n ≤ 80000) (hT : T ≤ 900000000) (hW : ∀ u, Below base w u → Waits u) (hN : ∀ u, Below base w u → NmTab tb u) :
    Calls Tryd.prog 10 #[.pointer (some ⟨p, 0, none⟩), .agg #[.int .i64 4, .int .i64 N, .int .u16 A, .int .u8 V, .string nm]] w (SPost R b x base s d n T w) := by
  have hb0 := balloc w (.cells #[.int .i64 4, .int .i64 N, .int .u16 A, .int .u8 V, .string nm] 53)
  have hP1 := hP.box (.cells #[.int .i64 4, .int .i64 N, .int .u16 A, .int .u8 V, .string nm] 53)
  have hk1 := hP.kpb hb0
  have hnew := heap_alloc_new w (.cells #[.int .i64 4, .int .i64 N, .int .u16 A, .int .u8 V, .string nm] 53)
  have hpl := hP.rl p hp
  obtain ⟨w1, hw1⟩ : ∃ w1, w.alloc (.cells #[.int .i64 4, .int .i64 N, .int .u16 A, .int .u8 V, .string nm] 53) = w1 := ⟨_, rfl⟩
  rw [hw1] at hb0 hP1 hk1 hnew
  obtain ⟨o, ho⟩ : ∃ o, w.heap.size = o := ⟨_, rfl⟩
  rw [ho] at hP1 hnew
  have ck : w1.cell? ⟨o, 0, none⟩ = some (.int .i64 4) := by rw [cell_of_row _ _ 0 _ _ (0, 0) hnew]; rfl
  have HSO := Lib.hid (fun (u : World) (hu : ∀ k, (R k ∨ k = o) → u.heap[k]? = w1.heap[k]?) => show u.cell? ⟨p, 0, none⟩ = some (.pointer (some ⟨b, 0, none⟩)) ∧ u.cell? ⟨p, 1, none⟩ = some (.pointer (some ⟨x, 0, none⟩)) ∧ u.cell? ⟨o, 1, none⟩ = some (.int .i64 N) ∧ u.cell? ⟨o, 2, none⟩ = some (.int .u16 A) ∧ u.cell? ⟨o, 3, none⟩ = some (.int .u8 V) ∧ u.cell? ⟨o, 4, none⟩ = some (.string nm) from
    ⟨(World.cell?_of_block (a := ⟨p, 0, none⟩) ((hu p (Or.inl hp)).trans (hk1.old p hp))).trans hp0, (World.cell?_of_block (a := ⟨p, 1, none⟩) ((hu p (Or.inl hp)).trans (hk1.old p hp))).trans hp1,
      (World.cell?_of_block (a := ⟨o, 1, none⟩) (hu o (Or.inr rfl))).trans (by rw [cell_of_row _ _ 1 _ _ (0, 0) hnew]; rfl), (World.cell?_of_block (a := ⟨o, 2, none⟩) (hu o (Or.inr rfl))).trans (by rw [cell_of_row _ _ 2 _ _ (0, 0) hnew]; rfl),
      (World.cell?_of_block (a := ⟨o, 3, none⟩) (hu o (Or.inr rfl))).trans (by rw [cell_of_row _ _ 3 _ _ (0, 0) hnew]; rfl), (World.cell?_of_block (a := ⟨o, 4, none⟩) (hu o (Or.inr rfl))).trans (by rw [cell_of_row _ _ 4 _ _ (0, 0) hnew]; rfl)⟩)
  have HP1 := Lib.hid hP1
  have HK1 := Lib.hid hk1
  have HB1 := Lib.hid hb0
  obtain ⟨M, hM⟩ : ∃ M, (if (3000 : Int) < N then (3000 : Int) else N) = M := ⟨_, rfl⟩
  have hM3 : M ≤ 3000 := by rw [← hM]; split <;> omega
  have HRR := Lib.hid (fun h : s = d => h)
  clear hP1 hk1 hnew hb0 hP hp hp0 hp1 hpl hW hN
  obtain ⟨q0, q1, r1, r2, r3, r4⟩ := HSO.out w1 (fun _ _ => rfl)
  go_enter Tryd.func10, Tryd.ntmps10
  go_wp2_with fail
  clear ck hw1 ho
  clear q0 q1 r1 r2 r3 r4
  go_loopw [5] (fun i wr => ∃ (j : Nat) (s1 d1 : St) (va1 ve1 vd1 ea1 ee1 : Value), i = .int .i64 j ∧ j ≤ 3000 ∧ Hid (Pr wr (fun k => R k ∨ k = o) b x base s1 d1 va1 ve1 ph vd1 ea1 ee1 L n (T + j)) ∧ Hid (Kp (fun k => R k ∨ k = o) base w1 wr) ∧ Hid (s = d → s1 = d1)) (fun i _ => (3000 - intOf i).toNat)
  case atStart => exact ⟨0, s, d, va, ve, vd, ea, ee, rfl, by omega, Lib.hid (by simpa using HP1.out), Lib.hid (Kp.refl _ _ _), HRR⟩
  case round =>
    obtain ⟨j, s1, d1, va1, ve1, vd1, ea1, ee1, rfl, hj, HP, HK, HR⟩ := hrel
    obtain ⟨q0, q1, r1, r2, r3, r4⟩ := HSO.out wr HK.out.old
    by_cases hlt : (j : Int) < M
    · have l1 : decide ((j : Int) < M) = true := decide_eq_true hlt
      have b1 := HP.out.b1
      have b2 := HP.out.b2
      have t1 : s1.t ≤ 1000000000 := by have := b1.t1; omega
      have t2 : d1.t ≤ 1000000000 := by have := b2.t1; omega
      have HB1 := Lib.hid (fun u (hu : Below wr.heap.size wr u) => bint_any b base s1 va1 ve1 u (HP.out.below hu).B b1.f0 b1.f1)
      have HD1 := Lib.hid (fun u (hu : Below wr.heap.size wr u) => dint_any x base d1 ph vd1 ea1 ee1 L u (HP.out.below hu).D b2.t0 t2)
      have HB2 := Lib.hid (fun u (hu : Below wr.heap.size wr u) => bframe_any b base s1 va1 ve1 u (HP.out.below hu).B)
      have HD2 := Lib.hid (fun u (hu : Below wr.heap.size wr u) => dframe_any x base d1 ph vd1 ea1 ee1 L u (HP.out.below hu).D b2.t0 t2)
      have HX1 := Lib.hid (fun u (h : BAt u b base s1 va1 ve1) => next_any b base s1 va1 ve1 u h b1.t0 t1 b1.f0 b1.f1)
      have HX2 := Lib.hid (fun u (h : DAt u x base d1 ph vd1 ea1 ee1 L) => dnext_any x base d1 ph vd1 ea1 ee1 L u h b2.t0 t2)
      obtain ⟨y1, hy1⟩ : ∃ y, decide (s1.frame < 32) = y := ⟨_, rfl⟩
      obtain ⟨y2, hy2⟩ : ∃ y, decide (d1.frame < 32) = y := ⟨_, rfl⟩
      obtain ⟨f1, hf1⟩ : ∃ y, s1.frame = y := ⟨_, rfl⟩
      obtain ⟨f2, hf2⟩ : ∃ y, d1.frame = y := ⟨_, rfl⟩
      rw [hy1] at HB1
      rw [hy2] at HD1
      rw [hf1] at HB2
      rw [hf2] at HD2
      have HNI := Lib.hid (fun (h : s1 = d1) => show y1 = y2 by rw [← hy1, ← hy2, h])
      have HNF := Lib.hid (fun (h : s1 = d1) => show f1 = f2 by rw [← hf1, ← hf2, h])
      clear b1 b2 t1 t2 hy1 hy2 hf1 hf2
      go_wp2_with fail
      clear l1 r1 r2 r3 r4 q0 q1
      have hS1 := HSO.out wr HK.out.old
      cases y1 <;> cases y2
      · by_cases hff : f1 = f2
        · have e1 : (f1 == f2) = true := by simpa using hff
          clear hff
          go_region_held3 (fun w' => w'.cell? ⟨p, 0, none⟩ = some (.pointer (some ⟨b, 0, none⟩)) ∧ w'.cell? ⟨p, 1, none⟩ = some (.pointer (some ⟨x, 0, none⟩)) ∧ w'.cell? ⟨o, 1, none⟩ = some (.int .i64 N) ∧ w'.cell? ⟨o, 2, none⟩ = some (.int .u16 A) ∧ w'.cell? ⟨o, 3, none⟩ = some (.int .u8 V) ∧ w'.cell? ⟨o, 4, none⟩ = some (.string nm)) (first | exact HSO.out _ (fun _ _ => rfl) | exact HSO.out _ HK.out.old | exact HSO.out _ hk3o | exact HSO.out _ hk4o) (first
                    | (go_at_call 18; refine (HB1.out _ ?_).mono ?_; exact (Below.refl _ _).drew; rintro e w2 ⟨rfl, rfl⟩)
                    | (go_at_call 34; refine (HD1.out _ ?_).mono ?_; exact (Below.refl _ _).drew; rintro e w3 ⟨rfl, hb3⟩; have hb3' : Below wr.heap.size wr w3 := ((Below.refl wr.heap.size wr).drew).trans hb3; have hk3o := (HK.out.trans (HP.out.kpb hb3')).old)
                    | (go_at_call 20; refine (HB2.out _ ?_).mono ?_; exact hb3'; rintro e w2 ⟨rfl, rfl⟩)
                    | (go_at_call 35; refine (HD2.out _ ?_).mono ?_; exact hb3'; rintro e w4 ⟨rfl, hb4⟩; have hb4' := below_step hb3' hb4; have hk4o := (HK.out.trans (HP.out.kpb hb4')).old))
          have HP4 := Lib.hid (HP.out.below hb4')
          have HK4 := Lib.hid (HK.out.trans (HP.out.kpb hb4'))
          obtain ⟨q0, q1, _, _, _, _⟩ := HSO.out w4 hk4o
          clear hS1 hb3 hb3' hb4 hb4' hk3o hk4o HB1 HB2 HD1 HD2 HNI HNF
          go_wp2_with fail
          refine ((HP4.out.callB (r := .returned (.tuple #[])) (Below.refl _ _) (fun h => next_went (HX1.out _ h)) HP4.out.b1.next (Nat.le_refl _) (by omega))).mono ?_
          rintro e w5 ⟨rfl, va5, ve5, hP5, hk5⟩
          have HP5 := Lib.hid hP5
          have HK5 := Lib.hid (HK4.out.trans hk5)
          clear hP5 hk5 q0 q1
          obtain ⟨q0, q1, _, _, _, _⟩ := HSO.out w5 HK5.out.old
          go_wp2_with fail
          refine ((HP5.out.callD (T' := T + (j : Int) + 1) (r := .returned (.tuple #[])) (Below.refl _ _) (fun h => next_dwent (HX2.out _ h)) HP4.out.b2.next (Nat.le_refl _) (Int.le_refl _))).mono ?_
          rintro e w6 ⟨rfl, vd6, ea6, ee6, hP6, hk6⟩
          have HP6 := Lib.hid hP6
          have HK6 := Lib.hid (HK5.out.trans hk6)
          clear hP6 hk6 q0 q1
          go_wp2_with fail
          go_roundw
          case rel => exact ⟨j + 1, nextS s1, nextS d1, _, _, _, _, _, by go_num, by omega, Lib.hid (HP6.out.mono (Nat.le_refl _) (by omega)), HK6, Lib.hid (fun h => by rw [HR.out h])⟩
          case measure => simp [intOf]; omega
        · have e1 : (f1 == f2) = false := by simpa using hff
          go_region_held3 (fun w' => w'.cell? ⟨p, 0, none⟩ = some (.pointer (some ⟨b, 0, none⟩)) ∧ w'.cell? ⟨p, 1, none⟩ = some (.pointer (some ⟨x, 0, none⟩)) ∧ w'.cell? ⟨o, 1, none⟩ = some (.int .i64 N) ∧ w'.cell? ⟨o, 2, none⟩ = some (.int .u16 A) ∧ w'.cell? ⟨o, 3, none⟩ = some (.int .u8 V) ∧ w'.cell? ⟨o, 4, none⟩ = some (.string nm)) (first | exact HSO.out _ (fun _ _ => rfl) | exact HSO.out _ HK.out.old | exact HSO.out _ hk3o | exact HSO.out _ hk4o) (first
                    | (go_at_call 18; refine (HB1.out _ ?_).mono ?_; exact (Below.refl _ _).drew; rintro e w2 ⟨rfl, rfl⟩)
                    | (go_at_call 34; refine (HD1.out _ ?_).mono ?_; exact (Below.refl _ _).drew; rintro e w3 ⟨rfl, hb3⟩; have hb3' : Below wr.heap.size wr w3 := ((Below.refl wr.heap.size wr).drew).trans hb3; have hk3o := (HK.out.trans (HP.out.kpb hb3')).old)
                    | (go_at_call 20; refine (HB2.out _ ?_).mono ?_; exact hb3'; rintro e w2 ⟨rfl, rfl⟩)
                    | (go_at_call 35; refine (HD2.out _ ?_).mono ?_; exact hb3'; rintro e w4 ⟨rfl, hb4⟩; have hb4' := below_step hb3' hb4; have hk4o := (HK.out.trans (HP.out.kpb hb4')).old))
          go_wp2_with fail
          go_ret
          exact ⟨false, s1, d1, _, _, _, _, _, _, _, rfl, ((HP.out.below hb4').less (fun _ h => Or.inl h)).mono (Nat.le_succ _) (by omega), HK1.out.trans ((HK.out.trans (HP.out.kpb hb4')).less (fun _ h => Or.inl h)), fun h => absurd (HR.out h) (fun hh => hff (HNF.out hh))⟩
      · first | refine wp_region_noPanic ?_ | skip
        refine wp_region_held_drew (S := (fun w' => w'.cell? ⟨p, 0, none⟩ = some (.pointer (some ⟨b, 0, none⟩)) ∧ w'.cell? ⟨p, 1, none⟩ = some (.pointer (some ⟨x, 0, none⟩)) ∧ w'.cell? ⟨o, 1, none⟩ = some (.int .i64 N) ∧ w'.cell? ⟨o, 2, none⟩ = some (.int .u16 A) ∧ w'.cell? ⟨o, 3, none⟩ = some (.int .u8 V) ∧ w'.cell? ⟨o, 4, none⟩ = some (.string nm))) (by kernel_rfl) hS1 (fun hHeld => ?_)
        refine wpAnyH_take (i := 0) (v := ?v1) rfl (by kernel_rfl) (by kernel_rfl) (by kernel_rfl) (fun _ _ _ h => h) (Or.inl ⟨by rfl, ?hy1⟩) (by assumption) ?rest1
        case hy1 => (intro w hSw; (try dsimp only at hSw); go_simp; try with_reducible rfl)
        try simp only [Act.put, List.getElem_toArray, List.getElem_cons_succ, List.getElem_cons_zero, List.setIfInBounds_toArray, List.set_cons_zero, List.set_cons_succ]
        refine wpAnyH_take (i := 1) (v := ?v2) rfl (by kernel_rfl) (by kernel_rfl) (by kernel_rfl) (fun _ _ _ h => h) (Or.inl ⟨by rfl, ?hy2⟩) (by assumption) ?rest2
        case hy2 => (intro w hSw; (try dsimp only at hSw); go_simp; try with_reducible rfl)
        try simp only [Act.put, List.getElem_toArray, List.getElem_cons_succ, List.getElem_cons_zero, List.setIfInBounds_toArray, List.set_cons_zero, List.set_cons_succ]
        refine wpAnyH_take (i := 2) (v := ?v3) rfl (by kernel_rfl) (by kernel_rfl) (by kernel_rfl) (fun _ _ _ h => h) (Or.inl ⟨by rfl, ?hy3⟩) (by assumption) ?rest3
        case hy3 => (intro w hSw; (try dsimp only at hSw); go_simp; try with_reducible rfl)
        try simp only [Act.put, List.getElem_toArray, List.getElem_cons_succ, List.getElem_cons_zero, List.setIfInBounds_toArray, List.set_cons_zero, List.set_cons_succ]
        refine wpAnyH_take (i := 3) (v := ?v4) rfl (by kernel_rfl) (by kernel_rfl) (by kernel_rfl) (fun _ _ _ h => h) (Or.inl ⟨by rfl, ?hy4⟩) (by assumption) ?rest4
        case hy4 => (intro w hSw; (try dsimp only at hSw); go_simp; try with_reducible rfl)
        try simp only [Act.put, List.getElem_toArray, List.getElem_cons_succ, List.getElem_cons_zero, List.setIfInBounds_toArray, List.set_cons_zero, List.set_cons_succ]
        refine wpAnyH_take (i := 5) (v := ?v5) rfl (by kernel_rfl) (by kernel_rfl) (by kernel_rfl) (fun _ _ _ h => h) (Or.inl ⟨by rfl, ?hy5⟩) (by assumption) ?rest5
        case hy5 => (intro w hSw; (try dsimp only at hSw); go_simp; try with_reducible rfl)
        try simp only [Act.put, List.getElem_toArray, List.getElem_cons_succ, List.getElem_cons_zero, List.setIfInBounds_toArray, List.set_cons_zero, List.set_cons_succ]
        refine wpAnyH_take (i := 6) (v := ?v6) rfl (by kernel_rfl) (by kernel_rfl) (by kernel_rfl) (fun _ _ _ h => h) (Or.inl ⟨by rfl, ?hy6⟩) (by assumption) ?rest6
        case hy6 => (intro w hSw; (try dsimp only at hSw); go_simp; try with_reducible rfl)
        try simp only [Act.put, List.getElem_toArray, List.getElem_cons_succ, List.getElem_cons_zero, List.setIfInBounds_toArray, List.set_cons_zero, List.set_cons_succ]
        refine wpAnyH_take (i := 7) (v := ?v7) rfl (by kernel_rfl) (by kernel_rfl) (by kernel_rfl) (fun _ _ _ h => h) (Or.inl ⟨by rfl, ?hy7⟩) (by assumption) ?rest7
        case hy7 => (intro w hSw; (try dsimp only at hSw); go_simp; try with_reducible rfl)
        try simp only [Act.put, List.getElem_toArray, List.getElem_cons_succ, List.getElem_cons_zero, List.setIfInBounds_toArray, List.set_cons_zero, List.set_cons_succ]
        refine wpAnyH_take (i := 8) (v := ?v8) rfl (by kernel_rfl) (by kernel_rfl) (by kernel_rfl) (fun _ _ _ h => h) (Or.inl ⟨by rfl, ?hy8⟩) (by assumption) ?rest8
        case hy8 => (intro w hSw; (try dsimp only at hSw); go_simp; try with_reducible rfl)
        try simp only [Act.put, List.getElem_toArray, List.getElem_cons_succ, List.getElem_cons_zero, List.setIfInBounds_toArray, List.set_cons_zero, List.set_cons_succ]
        refine wpAnyH_ready (rs := [4]) (by kernel_rfl) (by simp) ?_
        refine AllReadyH.cons (o := _) rfl (fun K hK => ?_) AllReadyH.nil
        go_simp
        refine (HB1.out _ ((Below.refl wr.heap.size wr).drew)).mono ?_
        rintro e w' ⟨rfl, rfl⟩
        go_wp2_with fail
        refine hK.out _ _ (HSO.out _ HK.out.old) (fun hHeld => ?_)
        clear hK K
        try simp only [Act.put, List.getElem_toArray, List.getElem_cons_succ, List.getElem_cons_zero, List.setIfInBounds_toArray, List.set_cons_zero, List.set_cons_succ]
        refine wpAnyH_ready (rs := [9]) (by kernel_rfl) (by simp) ?_
        refine AllReadyH.cons (o := _) rfl (fun K hK => ?_) AllReadyH.nil
        go_simp
        refine (HD1.out _ ((Below.refl wr.heap.size wr).drew)).mono ?_
        rintro e w' ⟨rfl, hb3⟩
        go_wp2_with fail
        refine hK.out _ _ (HSO.out _ ((HK.out.trans (HP.out.kpb (((Below.refl wr.heap.size wr).drew).trans hb3))).old)) (fun hHeld => ?_)
        clear hK K
        try simp only [Act.put, List.getElem_toArray, List.getElem_cons_succ, List.getElem_cons_zero, List.setIfInBounds_toArray, List.set_cons_zero, List.set_cons_succ]
        refine wpAnyH_take (i := 10) (v := ?v9) rfl (by kernel_rfl) (by kernel_rfl) (by kernel_rfl) (fun _ _ _ h => h) (Or.inl ⟨by rfl, ?hy9⟩) (by assumption) ?rest9
        case hy9 => (intro w hSw; (try dsimp only at hSw); go_simp; try with_reducible rfl)
        try simp only [Act.put, List.getElem_toArray, List.getElem_cons_succ, List.getElem_cons_zero, List.setIfInBounds_toArray, List.set_cons_zero, List.set_cons_succ]
        refine wpAnyH_take (i := 11) (v := ?v10) rfl (by kernel_rfl) (by kernel_rfl) (by kernel_rfl) (fun _ _ _ h => h) (Or.inl ⟨by rfl, ?hy10⟩) (by assumption) ?rest10
        case hy10 => (intro w hSw; (try dsimp only at hSw); go_simp; try with_reducible rfl)
        try simp only [Act.put, List.getElem_toArray, List.getElem_cons_succ, List.getElem_cons_zero, List.setIfInBounds_toArray, List.set_cons_zero, List.set_cons_succ]
        refine wpAnyH_take (i := 12) (v := undef) rfl (by kernel_rfl) (by kernel_rfl) (by kernel_rfl) (fun _ _ _ h => h) (Or.inr ⟨by rfl, rfl⟩) (by assumption) ?_
        try simp only [Act.put, List.getElem_toArray, List.getElem_cons_succ, List.getElem_cons_zero, List.setIfInBounds_toArray, List.set_cons_zero, List.set_cons_succ]
        refine wpAnyH_take (i := 13) (v := undef) rfl (by kernel_rfl) (by kernel_rfl) (by kernel_rfl) (fun _ _ _ h => h) (Or.inr ⟨by rfl, rfl⟩) (by assumption) ?_
        try simp only [Act.put, List.getElem_toArray, List.getElem_cons_succ, List.getElem_cons_zero, List.setIfInBounds_toArray, List.set_cons_zero, List.set_cons_succ]
        refine wpAnyH_take (i := 14) (v := undef) rfl (by kernel_rfl) (by kernel_rfl) (by kernel_rfl) (fun _ _ _ h => h) (Or.inr ⟨by rfl, rfl⟩) (by assumption) ?_
        try simp only [Act.put, List.getElem_toArray, List.getElem_cons_succ, List.getElem_cons_zero, List.setIfInBounds_toArray, List.set_cons_zero, List.set_cons_succ]
        refine wpAnyH_take (i := 15) (v := undef) rfl (by kernel_rfl) (by kernel_rfl) (by kernel_rfl) (fun _ _ _ h => h) (Or.inr ⟨by rfl, rfl⟩) (by assumption) ?_
        try simp only [Act.put, List.getElem_toArray, List.getElem_cons_succ, List.getElem_cons_zero, List.setIfInBounds_toArray, List.set_cons_zero, List.set_cons_succ]
        refine wpAnyH_take (i := 16) (v := undef) rfl (by kernel_rfl) (by kernel_rfl) (by kernel_rfl) (fun _ _ _ h => h) (Or.inr ⟨by rfl, rfl⟩) (by assumption) ?_
        try simp only [Act.put, List.getElem_toArray, List.getElem_cons_succ, List.getElem_cons_zero, List.setIfInBounds_toArray, List.set_cons_zero, List.set_cons_succ]
        refine wpAnyH_take (i := 17) (v := undef) rfl (by kernel_rfl) (by kernel_rfl) (by kernel_rfl) (fun _ _ _ h => h) (Or.inr ⟨by rfl, rfl⟩) (by assumption) ?_
        try simp only [Act.put, List.getElem_toArray, List.getElem_cons_succ, List.getElem_cons_zero, List.setIfInBounds_toArray, List.set_cons_zero, List.set_cons_succ]
        refine wpAnyH_take (i := 18) (v := undef) rfl (by kernel_rfl) (by kernel_rfl) (by kernel_rfl) (fun _ _ _ h => h) (Or.inr ⟨by rfl, rfl⟩) (by assumption) ?_
        try simp only [Act.put, List.getElem_toArray, List.getElem_cons_succ, List.getElem_cons_zero, List.setIfInBounds_toArray, List.set_cons_zero, List.set_cons_succ]
        refine wpAnyH_take (i := 19) (v := undef) rfl (by kernel_rfl) (by kernel_rfl) (by kernel_rfl) (fun _ _ _ h => h) (Or.inr ⟨by rfl, rfl⟩) (by assumption) ?_
        try simp only [Act.put, List.getElem_toArray, List.getElem_cons_succ, List.getElem_cons_zero, List.setIfInBounds_toArray, List.set_cons_zero, List.set_cons_succ]
        refine wpAnyH_take (i := 20) (v := undef) rfl (by kernel_rfl) (by kernel_rfl) (by kernel_rfl) (fun _ _ _ h => h) (Or.inr ⟨by rfl, rfl⟩) (by assumption) ?_
        try simp only [Act.put, List.getElem_toArray, List.getElem_cons_succ, List.getElem_cons_zero, List.setIfInBounds_toArray, List.set_cons_zero, List.set_cons_succ]
        refine wpAnyH_take (i := 21) (v := undef) rfl (by kernel_rfl) (by kernel_rfl) (by kernel_rfl) (fun _ _ _ h => h) (Or.inr ⟨by rfl, rfl⟩) (by assumption) ?_
        try simp only [Act.put, List.getElem_toArray, List.getElem_cons_succ, List.getElem_cons_zero, List.setIfInBounds_toArray, List.set_cons_zero, List.set_cons_succ]
        refine wpAnyH_take (i := 22) (v := undef) rfl (by kernel_rfl) (by kernel_rfl) (by kernel_rfl) (fun _ _ _ h => h) (Or.inr ⟨by rfl, rfl⟩) (by assumption) ?_
        try simp only [Act.put, List.getElem_toArray, List.getElem_cons_succ, List.getElem_cons_zero, List.setIfInBounds_toArray, List.set_cons_zero, List.set_cons_succ]
        refine wpAnyH_take (i := 23) (v := ?v11) rfl (by kernel_rfl) (by kernel_rfl) (by kernel_rfl) (fun _ _ _ h => h) (Or.inl ⟨by rfl, ?hy11⟩) (by assumption) ?rest11
        case hy11 => (intro w hSw; (try dsimp only at hSw); go_simp; try with_reducible rfl)
        try simp only [Act.put, List.getElem_toArray, List.getElem_cons_succ, List.getElem_cons_zero, List.setIfInBounds_toArray, List.set_cons_zero, List.set_cons_succ]
        refine wpAnyH_done (by kernel_rfl) ?_ _
        first | refine NoPanic.normal ?_ | skip
        have hb3' := ((Below.refl wr.heap.size wr).drew).trans hb3
        go_wp2_with fail
        go_ret
        exact ⟨false, s1, d1, _, _, _, _, _, _, _, rfl, ((HP.out.below hb3').less (fun _ h => Or.inl h)).mono (Nat.le_succ _) (by omega), HK1.out.trans ((HK.out.trans (HP.out.kpb hb3')).less (fun _ h => Or.inl h)), fun h => absurd (HR.out h) (fun hh => by have := HNI.out hh; cases this)⟩
      · first | refine wp_region_noPanic ?_ | skip
        refine wp_region_held_drew (S := (fun w' => w'.cell? ⟨p, 0, none⟩ = some (.pointer (some ⟨b, 0, none⟩)) ∧ w'.cell? ⟨p, 1, none⟩ = some (.pointer (some ⟨x, 0, none⟩)) ∧ w'.cell? ⟨o, 1, none⟩ = some (.int .i64 N) ∧ w'.cell? ⟨o, 2, none⟩ = some (.int .u16 A) ∧ w'.cell? ⟨o, 3, none⟩ = some (.int .u8 V) ∧ w'.cell? ⟨o, 4, none⟩ = some (.string nm))) (by kernel_rfl) hS1 (fun hHeld => ?_)
        refine wpAnyH_take (i := 0) (v := ?v12) rfl (by kernel_rfl) (by kernel_rfl) (by kernel_rfl) (fun _ _ _ h => h) (Or.inl ⟨by rfl, ?hy12⟩) (by assumption) ?rest12
        case hy12 => (intro w hSw; (try dsimp only at hSw); go_simp; try with_reducible rfl)
        try simp only [Act.put, List.getElem_toArray, List.getElem_cons_succ, List.getElem_cons_zero, List.setIfInBounds_toArray, List.set_cons_zero, List.set_cons_succ]
        refine wpAnyH_take (i := 1) (v := ?v13) rfl (by kernel_rfl) (by kernel_rfl) (by kernel_rfl) (fun _ _ _ h => h) (Or.inl ⟨by rfl, ?hy13⟩) (by assumption) ?rest13
        case hy13 => (intro w hSw; (try dsimp only at hSw); go_simp; try with_reducible rfl)
        try simp only [Act.put, List.getElem_toArray, List.getElem_cons_succ, List.getElem_cons_zero, List.setIfInBounds_toArray, List.set_cons_zero, List.set_cons_succ]
        refine wpAnyH_take (i := 2) (v := ?v14) rfl (by kernel_rfl) (by kernel_rfl) (by kernel_rfl) (fun _ _ _ h => h) (Or.inl ⟨by rfl, ?hy14⟩) (by assumption) ?rest14
        case hy14 => (intro w hSw; (try dsimp only at hSw); go_simp; try with_reducible rfl)
        try simp only [Act.put, List.getElem_toArray, List.getElem_cons_succ, List.getElem_cons_zero, List.setIfInBounds_toArray, List.set_cons_zero, List.set_cons_succ]
        refine wpAnyH_take (i := 3) (v := ?v15) rfl (by kernel_rfl) (by kernel_rfl) (by kernel_rfl) (fun _ _ _ h => h) (Or.inl ⟨by rfl, ?hy15⟩) (by assumption) ?rest15
        case hy15 => (intro w hSw; (try dsimp only at hSw); go_simp; try with_reducible rfl)
        try simp only [Act.put, List.getElem_toArray, List.getElem_cons_succ, List.getElem_cons_zero, List.setIfInBounds_toArray, List.set_cons_zero, List.set_cons_succ]
        refine wpAnyH_take (i := 5) (v := ?v16) rfl (by kernel_rfl) (by kernel_rfl) (by kernel_rfl) (fun _ _ _ h => h) (Or.inl ⟨by rfl, ?hy16⟩) (by assumption) ?rest16
        case hy16 => (intro w hSw; (try dsimp only at hSw); go_simp; try with_reducible rfl)
        try simp only [Act.put, List.getElem_toArray, List.getElem_cons_succ, List.getElem_cons_zero, List.setIfInBounds_toArray, List.set_cons_zero, List.set_cons_succ]
        refine wpAnyH_take (i := 6) (v := ?v17) rfl (by kernel_rfl) (by kernel_rfl) (by kernel_rfl) (fun _ _ _ h => h) (Or.inl ⟨by rfl, ?hy17⟩) (by assumption) ?rest17
        case hy17 => (intro w hSw; (try dsimp only at hSw); go_simp; try with_reducible rfl)
        try simp only [Act.put, List.getElem_toArray, List.getElem_cons_succ, List.getElem_cons_zero, List.setIfInBounds_toArray, List.set_cons_zero, List.set_cons_succ]
        refine wpAnyH_take (i := 7) (v := ?v18) rfl (by kernel_rfl) (by kernel_rfl) (by kernel_rfl) (fun _ _ _ h => h) (Or.inl ⟨by rfl, ?hy18⟩) (by assumption) ?rest18
        case hy18 => (intro w hSw; (try dsimp only at hSw); go_simp; try with_reducible rfl)
        try simp only [Act.put, List.getElem_toArray, List.getElem_cons_succ, List.getElem_cons_zero, List.setIfInBounds_toArray, List.set_cons_zero, List.set_cons_succ]
        refine wpAnyH_take (i := 8) (v := ?v19) rfl (by kernel_rfl) (by kernel_rfl) (by kernel_rfl) (fun _ _ _ h => h) (Or.inl ⟨by rfl, ?hy19⟩) (by assumption) ?rest19
        case hy19 => (intro w hSw; (try dsimp only at hSw); go_simp; try with_reducible rfl)
        try simp only [Act.put, List.getElem_toArray, List.getElem_cons_succ, List.getElem_cons_zero, List.setIfInBounds_toArray, List.set_cons_zero, List.set_cons_succ]
        refine wpAnyH_ready (rs := [4]) (by kernel_rfl) (by simp) ?_
        refine AllReadyH.cons (o := _) rfl (fun K hK => ?_) AllReadyH.nil
        go_simp
        refine (HB1.out _ ((Below.refl wr.heap.size wr).drew)).mono ?_
        rintro e w' ⟨rfl, rfl⟩
        go_wp2_with fail
        refine hK.out _ _ (HSO.out _ HK.out.old) (fun hHeld => ?_)
        clear hK K
        try simp only [Act.put, List.getElem_toArray, List.getElem_cons_succ, List.getElem_cons_zero, List.setIfInBounds_toArray, List.set_cons_zero, List.set_cons_succ]
        refine wpAnyH_ready (rs := [9]) (by kernel_rfl) (by simp) ?_
        refine AllReadyH.cons (o := _) rfl (fun K hK => ?_) AllReadyH.nil
        go_simp
        refine (HD1.out _ ((Below.refl wr.heap.size wr).drew)).mono ?_
        rintro e w' ⟨rfl, hb3⟩
        go_wp2_with fail
        refine hK.out _ _ (HSO.out _ ((HK.out.trans (HP.out.kpb (((Below.refl wr.heap.size wr).drew).trans hb3))).old)) (fun hHeld => ?_)
        clear hK K
        try simp only [Act.put, List.getElem_toArray, List.getElem_cons_succ, List.getElem_cons_zero, List.setIfInBounds_toArray, List.set_cons_zero, List.set_cons_succ]
        refine wpAnyH_take (i := 10) (v := ?v20) rfl (by kernel_rfl) (by kernel_rfl) (by kernel_rfl) (fun _ _ _ h => h) (Or.inl ⟨by rfl, ?hy20⟩) (by assumption) ?rest20
        case hy20 => (intro w hSw; (try dsimp only at hSw); go_simp; try with_reducible rfl)
        try simp only [Act.put, List.getElem_toArray, List.getElem_cons_succ, List.getElem_cons_zero, List.setIfInBounds_toArray, List.set_cons_zero, List.set_cons_succ]
        refine wpAnyH_take (i := 11) (v := ?v21) rfl (by kernel_rfl) (by kernel_rfl) (by kernel_rfl) (fun _ _ _ h => h) (Or.inl ⟨by rfl, ?hy21⟩) (by assumption) ?rest21
        case hy21 => (intro w hSw; (try dsimp only at hSw); go_simp; try with_reducible rfl)
        try simp only [Act.put, List.getElem_toArray, List.getElem_cons_succ, List.getElem_cons_zero, List.setIfInBounds_toArray, List.set_cons_zero, List.set_cons_succ]
        refine wpAnyH_take (i := 12) (v := undef) rfl (by kernel_rfl) (by kernel_rfl) (by kernel_rfl) (fun _ _ _ h => h) (Or.inr ⟨by rfl, rfl⟩) (by assumption) ?_
        try simp only [Act.put, List.getElem_toArray, List.getElem_cons_succ, List.getElem_cons_zero, List.setIfInBounds_toArray, List.set_cons_zero, List.set_cons_succ]
        refine wpAnyH_take (i := 13) (v := undef) rfl (by kernel_rfl) (by kernel_rfl) (by kernel_rfl) (fun _ _ _ h => h) (Or.inr ⟨by rfl, rfl⟩) (by assumption) ?_
        try simp only [Act.put, List.getElem_toArray, List.getElem_cons_succ, List.getElem_cons_zero, List.setIfInBounds_toArray, List.set_cons_zero, List.set_cons_succ]
        refine wpAnyH_take (i := 14) (v := undef) rfl (by kernel_rfl) (by kernel_rfl) (by kernel_rfl) (fun _ _ _ h => h) (Or.inr ⟨by rfl, rfl⟩) (by assumption) ?_
        try simp only [Act.put, List.getElem_toArray, List.getElem_cons_succ, List.getElem_cons_zero, List.setIfInBounds_toArray, List.set_cons_zero, List.set_cons_succ]
        refine wpAnyH_take (i := 15) (v := undef) rfl (by kernel_rfl) (by kernel_rfl) (by kernel_rfl) (fun _ _ _ h => h) (Or.inr ⟨by rfl, rfl⟩) (by assumption) ?_
        try simp only [Act.put, List.getElem_toArray, List.getElem_cons_succ, List.getElem_cons_zero, List.setIfInBounds_toArray, List.set_cons_zero, List.set_cons_succ]
        refine wpAnyH_take (i := 16) (v := undef) rfl (by kernel_rfl) (by kernel_rfl) (by kernel_rfl) (fun _ _ _ h => h) (Or.inr ⟨by rfl, rfl⟩) (by assumption) ?_
        try simp only [Act.put, List.getElem_toArray, List.getElem_cons_succ, List.getElem_cons_zero, List.setIfInBounds_toArray, List.set_cons_zero, List.set_cons_succ]
        refine wpAnyH_take (i := 17) (v := undef) rfl (by kernel_rfl) (by kernel_rfl) (by kernel_rfl) (fun _ _ _ h => h) (Or.inr ⟨by rfl, rfl⟩) (by assumption) ?_
        try simp only [Act.put, List.getElem_toArray, List.getElem_cons_succ, List.getElem_cons_zero, List.setIfInBounds_toArray, List.set_cons_zero, List.set_cons_succ]
        refine wpAnyH_take (i := 18) (v := undef) rfl (by kernel_rfl) (by kernel_rfl) (by kernel_rfl) (fun _ _ _ h => h) (Or.inr ⟨by rfl, rfl⟩) (by assumption) ?_
        try simp only [Act.put, List.getElem_toArray, List.getElem_cons_succ, List.getElem_cons_zero, List.setIfInBounds_toArray, List.set_cons_zero, List.set_cons_succ]
        refine wpAnyH_take (i := 19) (v := undef) rfl (by kernel_rfl) (by kernel_rfl) (by kernel_rfl) (fun _ _ _ h => h) (Or.inr ⟨by rfl, rfl⟩) (by assumption) ?_
        try simp only [Act.put, List.getElem_toArray, List.getElem_cons_succ, List.getElem_cons_zero, List.setIfInBounds_toArray, List.set_cons_zero, List.set_cons_succ]
        refine wpAnyH_take (i := 20) (v := undef) rfl (by kernel_rfl) (by kernel_rfl) (by kernel_rfl) (fun _ _ _ h => h) (Or.inr ⟨by rfl, rfl⟩) (by assumption) ?_
        try simp only [Act.put, List.getElem_toArray, List.getElem_cons_succ, List.getElem_cons_zero, List.setIfInBounds_toArray, List.set_cons_zero, List.set_cons_succ]
        refine wpAnyH_take (i := 21) (v := undef) rfl (by kernel_rfl) (by kernel_rfl) (by kernel_rfl) (fun _ _ _ h => h) (Or.inr ⟨by rfl, rfl⟩) (by assumption) ?_
        try simp only [Act.put, List.getElem_toArray, List.getElem_cons_succ, List.getElem_cons_zero, List.setIfInBounds_toArray, List.set_cons_zero, List.set_cons_succ]
        refine wpAnyH_take (i := 22) (v := undef) rfl (by kernel_rfl) (by kernel_rfl) (by kernel_rfl) (fun _ _ _ h => h) (Or.inr ⟨by rfl, rfl⟩) (by assumption) ?_
        try simp only [Act.put, List.getElem_toArray, List.getElem_cons_succ, List.getElem_cons_zero, List.setIfInBounds_toArray, List.set_cons_zero, List.set_cons_succ]
        refine wpAnyH_take (i := 23) (v := ?v22) rfl (by kernel_rfl) (by kernel_rfl) (by kernel_rfl) (fun _ _ _ h => h) (Or.inl ⟨by rfl, ?hy22⟩) (by assumption) ?rest22
        case hy22 => (intro w hSw; (try dsimp only at hSw); go_simp; try with_reducible rfl)
        try simp only [Act.put, List.getElem_toArray, List.getElem_cons_succ, List.getElem_cons_zero, List.setIfInBounds_toArray, List.set_cons_zero, List.set_cons_succ]
        refine wpAnyH_done (by kernel_rfl) ?_ _
        first | refine NoPanic.normal ?_ | skip
        have hb3' := ((Below.refl wr.heap.size wr).drew).trans hb3
        go_wp2_with fail
        go_ret
        exact ⟨false, s1, d1, _, _, _, _, _, _, _, rfl, ((HP.out.below hb3').less (fun _ h => Or.inl h)).mono (Nat.le_succ _) (by omega), HK1.out.trans ((HK.out.trans (HP.out.kpb hb3')).less (fun _ h => Or.inl h)), fun h => absurd (HR.out h) (fun hh => by have := HNI.out hh; cases this)⟩
      · by_cases hff : f1 = f2
        · have e1 : (f1 == f2) = true := by simpa using hff
          clear hff
          go_region_held3 (fun w' => w'.cell? ⟨p, 0, none⟩ = some (.pointer (some ⟨b, 0, none⟩)) ∧ w'.cell? ⟨p, 1, none⟩ = some (.pointer (some ⟨x, 0, none⟩)) ∧ w'.cell? ⟨o, 1, none⟩ = some (.int .i64 N) ∧ w'.cell? ⟨o, 2, none⟩ = some (.int .u16 A) ∧ w'.cell? ⟨o, 3, none⟩ = some (.int .u8 V) ∧ w'.cell? ⟨o, 4, none⟩ = some (.string nm)) (first | exact HSO.out _ (fun _ _ => rfl) | exact HSO.out _ HK.out.old | exact HSO.out _ hk3o | exact HSO.out _ hk4o) (first
                    | (go_at_call 18; refine (HB1.out _ ?_).mono ?_; exact (Below.refl _ _).drew; rintro e w2 ⟨rfl, rfl⟩)
                    | (go_at_call 34; refine (HD1.out _ ?_).mono ?_; exact (Below.refl _ _).drew; rintro e w3 ⟨rfl, hb3⟩; have hb3' : Below wr.heap.size wr w3 := ((Below.refl wr.heap.size wr).drew).trans hb3; have hk3o := (HK.out.trans (HP.out.kpb hb3')).old)
                    | (go_at_call 20; refine (HB2.out _ ?_).mono ?_; exact hb3'; rintro e w2 ⟨rfl, rfl⟩)
                    | (go_at_call 35; refine (HD2.out _ ?_).mono ?_; exact hb3'; rintro e w4 ⟨rfl, hb4⟩; have hb4' := below_step hb3' hb4; have hk4o := (HK.out.trans (HP.out.kpb hb4')).old))
          have HP4 := Lib.hid (HP.out.below hb4')
          have HK4 := Lib.hid (HK.out.trans (HP.out.kpb hb4'))
          obtain ⟨q0, q1, _, _, _, _⟩ := HSO.out w4 hk4o
          clear hS1 hb3 hb3' hb4 hb4' hk3o hk4o HB1 HB2 HD1 HD2 HNI HNF
          go_wp2_with fail
          refine ((HP4.out.callB (r := .returned (.tuple #[])) (Below.refl _ _) (fun h => next_went (HX1.out _ h)) HP4.out.b1.next (Nat.le_refl _) (by omega))).mono ?_
          rintro e w5 ⟨rfl, va5, ve5, hP5, hk5⟩
          have HP5 := Lib.hid hP5
          have HK5 := Lib.hid (HK4.out.trans hk5)
          clear hP5 hk5 q0 q1
          obtain ⟨q0, q1, _, _, _, _⟩ := HSO.out w5 HK5.out.old
          go_wp2_with fail
          refine ((HP5.out.callD (T' := T + (j : Int) + 1) (r := .returned (.tuple #[])) (Below.refl _ _) (fun h => next_dwent (HX2.out _ h)) HP4.out.b2.next (Nat.le_refl _) (Int.le_refl _))).mono ?_
          rintro e w6 ⟨rfl, vd6, ea6, ee6, hP6, hk6⟩
          have HP6 := Lib.hid hP6
          have HK6 := Lib.hid (HK5.out.trans hk6)
          clear hP6 hk6 q0 q1
          go_wp2_with fail
          go_roundw
          case rel => exact ⟨j + 1, nextS s1, nextS d1, _, _, _, _, _, by go_num, by omega, Lib.hid (HP6.out.mono (Nat.le_refl _) (by omega)), HK6, Lib.hid (fun h => by rw [HR.out h])⟩
          case measure => simp [intOf]; omega
        · have e1 : (f1 == f2) = false := by simpa using hff
          go_region_held3 (fun w' => w'.cell? ⟨p, 0, none⟩ = some (.pointer (some ⟨b, 0, none⟩)) ∧ w'.cell? ⟨p, 1, none⟩ = some (.pointer (some ⟨x, 0, none⟩)) ∧ w'.cell? ⟨o, 1, none⟩ = some (.int .i64 N) ∧ w'.cell? ⟨o, 2, none⟩ = some (.int .u16 A) ∧ w'.cell? ⟨o, 3, none⟩ = some (.int .u8 V) ∧ w'.cell? ⟨o, 4, none⟩ = some (.string nm)) (first | exact HSO.out _ (fun _ _ => rfl) | exact HSO.out _ HK.out.old | exact HSO.out _ hk3o | exact HSO.out _ hk4o) (first
                    | (go_at_call 18; refine (HB1.out _ ?_).mono ?_; exact (Below.refl _ _).drew; rintro e w2 ⟨rfl, rfl⟩)
                    | (go_at_call 34; refine (HD1.out _ ?_).mono ?_; exact (Below.refl _ _).drew; rintro e w3 ⟨rfl, hb3⟩; have hb3' : Below wr.heap.size wr w3 := ((Below.refl wr.heap.size wr).drew).trans hb3; have hk3o := (HK.out.trans (HP.out.kpb hb3')).old)
                    | (go_at_call 20; refine (HB2.out _ ?_).mono ?_; exact hb3'; rintro e w2 ⟨rfl, rfl⟩)
                    | (go_at_call 35; refine (HD2.out _ ?_).mono ?_; exact hb3'; rintro e w4 ⟨rfl, hb4⟩; have hb4' := below_step hb3' hb4; have hk4o := (HK.out.trans (HP.out.kpb hb4')).old))
          go_wp2_with fail
          go_ret
          exact ⟨false, s1, d1, _, _, _, _, _, _, _, rfl, ((HP.out.below hb4').less (fun _ h => Or.inl h)).mono (Nat.le_succ _) (by omega), HK1.out.trans ((HK.out.trans (HP.out.kpb hb4')).less (fun _ h => Or.inl h)), fun h => absurd (HR.out h) (fun hh => hff (HNF.out hh))⟩
    · have l1 : decide ((j : Int) < M) = false := decide_eq_false hlt
      go_wp2_with fail
      go_ret
      exact ⟨true, s1, d1, _, _, _, _, _, _, _, rfl, (HP.out.less (fun _ h => Or.inl h)).mono (Nat.le_succ _) (by omega), HK1.out.trans (HK.out.less (fun _ h => Or.inl h)), fun h => ⟨rfl, HR.out h⟩⟩

end Go.Proofs.YtkcfacbnbjkheaaDoor
