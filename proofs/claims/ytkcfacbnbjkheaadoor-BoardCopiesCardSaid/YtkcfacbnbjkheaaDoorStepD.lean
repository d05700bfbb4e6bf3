/- A step on both boards: a key that is pressed. -/
import Derived.Test.YtkcfacbnbjkheaaDoorBoardPair
namespace Go.Proofs.YtkcfacbnbjkheaaDoor
open Go.RowKit
set_option maxRecDepth 100000
set_option linter.unusedVariables false

theorem press_went {u : World} {b base : Nat} {s : St} {va ve : Value} (h : BAt u b base s va ve) (R J n : Nat) (hR : R < 8) (hJ : J < 5) : Went b base { s with S := setS s.S (5 * R + J) true } va ve u ((u.drewN n).setCell ⟨b, 65536 + R, none⟩ (.int .u8 (rowV (setS s.S (5 * R + J) true) R))) := by
  have h1 : BAt (u.drewN n) b base s va ve := h.keep fun _ _ => rfl
  refine Went.stay (h1.set (65536 + R) _ (set_S s va ve R J true hR hJ) rfl rfl) ?_
  exact ⟨rfl, rfl, rfl, by simp [World.setCell], fun k _ hk => Below.heap_setCell _ _ _ _ (fun e => hk (Or.inl e))⟩
theorem Bd.key {s : St} {n : Nat} {T : Int} (h : Bd s n T) (S : Nat → Bool) : Bd { s with S := S } n T := ⟨h.acts, h.edges, h.t0, h.t1, h.f0, h.f1⟩
theorem put_dwent {w0 w : World} {x base : Nat} {s : St} {ph : Int} {vd ea ee v' : Value} {L L' : List Int} {S' : Nat → Bool} (h0 : DAt w0 x base s ph vd ea ee L) (hb : Below w0.heap.size w0 w) (hr : RowI w w0.heap.size v' L') (hl : Lst L' S') :
    Dwent x base { s with S := S' } ph vd ea ee L L' w0 (w.setCell ⟨x, 65543, none⟩ v') := by
  have h := h0.below hb
  have hk : ∀ k, k ≠ x → (w.setCell ⟨x, 65543, none⟩ v').heap[k]? = w.heap[k]? := fun k hk => Below.heap_setCell _ _ _ _ hk
  have hx := h0.lt
  have hbs : base ≤ w0.heap.size := by have := h0.lo; omega
  have hnew : ∀ k, 0 < L'.length → v'.ownBlock = some k → w0.heap.size ≤ k := fun k h1 e => (rowI_block hr h1 k e).1
  refine ⟨v', ea, ee, ⟨?_, h.lo, ?_, ?_, ?_, ?_, hl, h.fr, h.ph0, h.ph1⟩, ?_, ?_⟩
  · have := h.cells.set 65543 v'
    rw [dset_vd] at this
    exact this
  · exact own_keep h.row fun k e => hk k (fun e' => by subst e'; exact h.ea_ne e)
  · exact own_keep h.tim fun k e => hk k (fun e' => by subst e'; exact h.ee_ne e)
  · exact rowI_keep (hr.less hbs) (by simp [World.setCell]) fun k h1 e => hk k (by have := hnew k h1 e; omega)
  · intro k h1 e
    have := hnew k h1 e
    refine ⟨by omega, fun e' => ?_, fun e' => ?_⟩
    · have := (h0.row.lt k e').2; omega
    · have := (h0.tim.lt k e').2; omega
  · refine ⟨hb.os, hb.tape, hb.output, by simpa [World.setCell] using hb.size, fun k hk2 hF => ?_⟩
    rw [hk k (fun e => hF (Or.inl e))]
    exact hb.block k hk2
  · intro k hk2
    rcases hk2 with y | ⟨h1, y⟩ | y | y
    · exact Or.inl (Or.inl y)
    · exact Or.inr (hnew k h1 y)
    · exact Or.inl (Or.inr (Or.inr (Or.inl y)))
    · exact Or.inl (Or.inr (Or.inr (Or.inr y)))
set_option maxHeartbeats 3200000 in
theorem step5n (R : Nat → Prop) (p b x base : Nat) (s d : St) (va ve : Value) (ph : Int) (vd ea ee : Value) (L : List Int) (n : Nat) (T : Int) (N : Int) (A : Nat) (V : Int) (nm : ByteArray) (tb : Array Value) (w : World) (hP : Pr w R b x base s d va ve ph vd ea ee L n T) (hp : R p) (hp0 : w.cell? ⟨p, 0, none⟩ = some (.pointer (some ⟨b, 0, none⟩))) (hp1 : w.cell? ⟨p, 1, none⟩ = some (.pointer (some ⟨x, 0, none⟩)))
    (hA : A < 65536) (v0 : 0 ≤ V) (v1 : V ≤ 255) (hn : n ≤ 900) (hT : T ≤ 900000000) (hW : ∀ u, Below base w u → Waits u) (hN : ∀ u, Below base w u → NmTab tb u) (hk40 : keyN nm = 40) :
    Calls Tryd.prog 10 #[.pointer (some ⟨p, 0, none⟩), .agg #[.int .i64 5, .int .i64 N, .int .u16 A, .int .u8 V, .string nm]] w (SPost R b x base s d n T w) := by
  have hb0 := balloc w (.cells #[.int .i64 5, .int .i64 N, .int .u16 A, .int .u8 V, .string nm] 53)
  have hP1 := hP.box (.cells #[.int .i64 5, .int .i64 N, .int .u16 A, .int .u8 V, .string nm] 53)
  have hk1 := hP.kpb hb0
  have hnew := heap_alloc_new w (.cells #[.int .i64 5, .int .i64 N, .int .u16 A, .int .u8 V, .string nm] 53)
  have hpl := hP.rl p hp
  obtain ⟨w1, hw1⟩ : ∃ w1, w.alloc (.cells #[.int .i64 5, .int .i64 N, .int .u16 A, .int .u8 V, .string nm] 53) = w1 := ⟨_, rfl⟩
  rw [hw1] at hb0 hP1 hk1 hnew
  obtain ⟨o, ho⟩ : ∃ o, w.heap.size = o := ⟨_, rfl⟩
  rw [ho] at hP1 hnew
  have ck : w1.cell? ⟨o, 0, none⟩ = some (.int .i64 5) := by rw [cell_of_row _ _ 0 _ _ (0, 0) hnew]; rfl
  have HSO := Lib.hid (fun (u : World) (hu : ∀ k, (R k ∨ k = o) → u.heap[k]? = w1.heap[k]?) => show u.cell? ⟨p, 0, none⟩ = some (.pointer (some ⟨b, 0, none⟩)) ∧ u.cell? ⟨p, 1, none⟩ = some (.pointer (some ⟨x, 0, none⟩)) ∧ u.cell? ⟨o, 1, none⟩ = some (.int .i64 N) ∧ u.cell? ⟨o, 2, none⟩ = some (.int .u16 A) ∧ u.cell? ⟨o, 3, none⟩ = some (.int .u8 V) ∧ u.cell? ⟨o, 4, none⟩ = some (.string nm) from
    ⟨(World.cell?_of_block (a := ⟨p, 0, none⟩) ((hu p (Or.inl hp)).trans (hk1.old p hp))).trans hp0, (World.cell?_of_block (a := ⟨p, 1, none⟩) ((hu p (Or.inl hp)).trans (hk1.old p hp))).trans hp1,
      (World.cell?_of_block (a := ⟨o, 1, none⟩) (hu o (Or.inr rfl))).trans (by rw [cell_of_row _ _ 1 _ _ (0, 0) hnew]; rfl), (World.cell?_of_block (a := ⟨o, 2, none⟩) (hu o (Or.inr rfl))).trans (by rw [cell_of_row _ _ 2 _ _ (0, 0) hnew]; rfl),
      (World.cell?_of_block (a := ⟨o, 3, none⟩) (hu o (Or.inr rfl))).trans (by rw [cell_of_row _ _ 3 _ _ (0, 0) hnew]; rfl), (World.cell?_of_block (a := ⟨o, 4, none⟩) (hu o (Or.inr rfl))).trans (by rw [cell_of_row _ _ 4 _ _ (0, 0) hnew]; rfl)⟩)
  have HP1 := Lib.hid hP1
  have HK1 := Lib.hid hk1
  have HB1 := Lib.hid hb0
  have HF := Lib.hid (refFind_no nm w1 hk40)
  have HN := Lib.hid (fun u (hu : Below w1.heap.size w1 u) => press_no tb b 65536 nm u (hN u (HK1.out.bel.trans (HP1.out.kpb hu).bel)) hk40)
  clear hP1 hk1 hnew hb0 hP hp hp0 hp1 hpl hW hN hk40
  obtain ⟨q0, q1, r1, r2, r3, r4⟩ := HSO.out w1 (fun _ _ => rfl)
  go_enter Tryd.func10, Tryd.ntmps10
  go_wp2_with fail
  clear ck hw1 ho
  refine HF.out.mono ?_
  rintro e w2 ⟨rfl, hb2⟩
  have hk2o := (HP1.out.kpb hb2).old
  have hS2 := HSO.out w2 hk2o
  clear q0 q1 r1 r2 r3 r4
  go_wp2_with fail
  go_region_held3 (fun w' => w'.cell? ⟨p, 0, none⟩ = some (.pointer (some ⟨b, 0, none⟩)) ∧ w'.cell? ⟨p, 1, none⟩ = some (.pointer (some ⟨x, 0, none⟩)) ∧ w'.cell? ⟨o, 1, none⟩ = some (.int .i64 N) ∧ w'.cell? ⟨o, 2, none⟩ = some (.int .u16 A) ∧ w'.cell? ⟨o, 3, none⟩ = some (.int .u8 V) ∧ w'.cell? ⟨o, 4, none⟩ = some (.string nm)) (first | exact HSO.out _ (fun _ _ => rfl) | exact HSO.out _ hk2o) (first | (go_at_call 38; refine (HN.out _ ?_).mono ?_; exact hb2.trans ((Below.refl _ _).drew); rintro e w3 ⟨rfl, rfl⟩))
  go_wp2_with fail
  go_ret
  have hb3 : Below w1.heap.size w1 w2.drew := hb2.trans ((Below.refl _ _).drew)
  exact ⟨true, s, d, _, _, _, _, _, _, _, rfl, ((HP1.out.below hb3).less (fun _ h => Or.inl h)).mono (Nat.le_succ _) (by omega), (HK1.out.trans ((HP1.out.kpb hb3).less (fun _ h => Or.inl h))), fun h => ⟨rfl, h⟩⟩
set_option maxHeartbeats 3200000 in
theorem step5y (R : Nat → Prop) (p b x base : Nat) (s d : St) (va ve : Value) (ph : Int) (vd ea ee : Value) (L : List Int) (n : Nat) (T : Int) (N : Int) (A : Nat) (V : Int) (nm : ByteArray) (tb : Array Value) (w : World) (hP : Pr w R b x base s d va ve ph vd ea ee L n T) (hp : R p) (hp0 : w.cell? ⟨p, 0, none⟩ = some (.pointer (some ⟨b, 0, none⟩))) (hp1 : w.cell? ⟨p, 1, none⟩ = some (.pointer (some ⟨x, 0, none⟩)))
    (hA : A < 65536) (v0 : 0 ≤ V) (v1 : V ≤ 255) (hn : n ≤ 900) (hT : T ≤ 900000000) (hW : ∀ u, Below base w u → Waits u) (hN : ∀ u, Below base w u → NmTab tb u) (hk40 : keyN nm < 40) :
    Calls Tryd.prog 10 #[.pointer (some ⟨p, 0, none⟩), .agg #[.int .i64 5, .int .i64 N, .int .u16 A, .int .u8 V, .string nm]] w (SPost R b x base s d n T w) := by
  have hb0 := balloc w (.cells #[.int .i64 5, .int .i64 N, .int .u16 A, .int .u8 V, .string nm] 53)
  have hP1 := hP.box (.cells #[.int .i64 5, .int .i64 N, .int .u16 A, .int .u8 V, .string nm] 53)
  have hk1 := hP.kpb hb0
  have hnew := heap_alloc_new w (.cells #[.int .i64 5, .int .i64 N, .int .u16 A, .int .u8 V, .string nm] 53)
  have hpl := hP.rl p hp
  obtain ⟨w1, hw1⟩ : ∃ w1, w.alloc (.cells #[.int .i64 5, .int .i64 N, .int .u16 A, .int .u8 V, .string nm] 53) = w1 := ⟨_, rfl⟩
  rw [hw1] at hb0 hP1 hk1 hnew
  obtain ⟨o, ho⟩ : ∃ o, w.heap.size = o := ⟨_, rfl⟩
  rw [ho] at hP1 hnew
  have ck : w1.cell? ⟨o, 0, none⟩ = some (.int .i64 5) := by rw [cell_of_row _ _ 0 _ _ (0, 0) hnew]; rfl
  have HSO := Lib.hid (fun (u : World) (hu : ∀ k, (R k ∨ k = o) → u.heap[k]? = w1.heap[k]?) => show u.cell? ⟨p, 0, none⟩ = some (.pointer (some ⟨b, 0, none⟩)) ∧ u.cell? ⟨p, 1, none⟩ = some (.pointer (some ⟨x, 0, none⟩)) ∧ u.cell? ⟨o, 1, none⟩ = some (.int .i64 N) ∧ u.cell? ⟨o, 2, none⟩ = some (.int .u16 A) ∧ u.cell? ⟨o, 3, none⟩ = some (.int .u8 V) ∧ u.cell? ⟨o, 4, none⟩ = some (.string nm) from
    ⟨(World.cell?_of_block (a := ⟨p, 0, none⟩) ((hu p (Or.inl hp)).trans (hk1.old p hp))).trans hp0, (World.cell?_of_block (a := ⟨p, 1, none⟩) ((hu p (Or.inl hp)).trans (hk1.old p hp))).trans hp1,
      (World.cell?_of_block (a := ⟨o, 1, none⟩) (hu o (Or.inr rfl))).trans (by rw [cell_of_row _ _ 1 _ _ (0, 0) hnew]; rfl), (World.cell?_of_block (a := ⟨o, 2, none⟩) (hu o (Or.inr rfl))).trans (by rw [cell_of_row _ _ 2 _ _ (0, 0) hnew]; rfl),
      (World.cell?_of_block (a := ⟨o, 3, none⟩) (hu o (Or.inr rfl))).trans (by rw [cell_of_row _ _ 3 _ _ (0, 0) hnew]; rfl), (World.cell?_of_block (a := ⟨o, 4, none⟩) (hu o (Or.inr rfl))).trans (by rw [cell_of_row _ _ 4 _ _ (0, 0) hnew]; rfl)⟩)
  have HP1 := Lib.hid hP1
  have HK1 := Lib.hid hk1
  have HB1 := Lib.hid hb0
  obtain ⟨RR, hRR⟩ : ∃ r, keyN nm / 5 = r := ⟨_, rfl⟩
  obtain ⟨J, hJ⟩ : ∃ r, keyN nm % 5 = r := ⟨_, rfl⟩
  have hR8 : RR < 8 := by omega
  have hJ5 : J < 5 := by omega
  have hkn : keyN nm = 5 * RR + J := by omega
  obtain ⟨k, hk⟩ : ∃ k, 5 * RR + J = k := ⟨_, rfl⟩
  have hk4 : k < 40 := by omega
  have hll := hP.ll
  have HF := Lib.hid (refFind_yes nm k w1 hk4 (hkn.trans hk))
  have HN := Lib.hid (fun u (hu : Below w1.heap.size w1 u) => HP1.out.callB (s' := { s with S := setS s.S k true }) (u := u) (r := .returned (.int .i64 0)) hu (fun h => (press_yes tb b 65536 s.S nm RR J u (hN u (HK1.out.bel.trans (HP1.out.kpb hu).bel)) h.keys (fun j => h.fr j) hR8 hJ5 hkn).mono fun e w' ⟨he, m, hm⟩ => by
    subst hm; rw [← hk]; exact ⟨he, press_went h RR J m hR8 hJ5⟩) (HP1.out.b1.key _) (Nat.le_refl _) (Int.le_refl _))
  clear hP1 hk1 hnew hb0 hP hp hp0 hp1 hpl hW hN hk40 hkn hRR hJ hR8 hJ5 hk
  obtain ⟨q0, q1, r1, r2, r3, r4⟩ := HSO.out w1 (fun _ _ => rfl)
  go_enter Tryd.func10, Tryd.ntmps10
  go_wp2_with fail
  clear ck hw1 ho
  refine HF.out.mono ?_
  rintro e w2 ⟨rfl, hb2⟩
  have hk2o := (HP1.out.kpb hb2).old
  have hS2 := HSO.out w2 hk2o
  clear q0 q1 r1 r2 r3 r4
  go_wp2_with fail
  go_region_held3 (fun w' => w'.cell? ⟨p, 0, none⟩ = some (.pointer (some ⟨b, 0, none⟩)) ∧ w'.cell? ⟨p, 1, none⟩ = some (.pointer (some ⟨x, 0, none⟩)) ∧ w'.cell? ⟨o, 1, none⟩ = some (.int .i64 N) ∧ w'.cell? ⟨o, 2, none⟩ = some (.int .u16 A) ∧ w'.cell? ⟨o, 3, none⟩ = some (.int .u8 V) ∧ w'.cell? ⟨o, 4, none⟩ = some (.string nm)) (first | exact HSO.out _ (fun _ _ => rfl) | exact HSO.out _ hk2o | exact HSO.out _ hk3o) (first | (go_at_call 38; refine (HN.out _ ?_).mono ?_; exact hb2.trans ((Below.refl _ _).drew); rintro e w3 ⟨rfl, va3, ve3, hP3, hk3⟩; have hk3o := hk3.old; have HP3 := Lib.hid hP3; have HK3 := Lib.hid hk3; clear hP3 hk3))
  clear hS2 hk2o
  have HPUT := Lib.hid (fun u (hu : Below w3.heap.size w3 u) => refPut vd L k true base u (HP3.out.below hu).D.dn (by omega))
  obtain ⟨q0, q1, r1, r2, r3, r4⟩ := HSO.out w3 hk3o
  have c1 := HP3.out.D.c_vd
  have HC := Lib.hid (fun u (hu : Below w3.heap.size w3 u) => (HP3.out.below hu).D.c_vd)
  have HFZ := Lib.hid (fun u (hu : Below w3.heap.size w3 u) => (HP3.out.below hu).D.frz 65543)
  have hk0 : decide ((0 : Int) ≤ (k : Int)) = true := decide_eq_true (by omega)
  go_wp2_with fail
  go_region_with (go_at_call 39; refine (HPUT.out _ ?_).mono ?_; exact (Below.refl _ _).drew; rintro e w5 ⟨v5, rfl, hri, hb5⟩; have hb5' := ((Below.refl w3.heap.size w3).drew).trans hb5; have q5 := (HSO.out w5 (HK3.out.trans (HP3.out.kpb hb5')).old).2.1; have c5 := HC.out w5 hb5'; have f5 := HFZ.out w5 hb5'; have HRI := Lib.hid hri; obtain ⟨A5, cap5, rfl, _, _, _⟩ := hri)
  all_goals
    obtain ⟨vd6, ea6, ee6, hP6, hk6⟩ := HP3.out.stepD (d' := { d with S := setS d.S k true }) (Dwent.trans (Ch.of_below ((Below.refl w3.heap.size w3).drew)) (fun _ h => Or.inl h) (put_dwent (HP3.out.below ((Below.refl w3.heap.size w3).drew)).D hb5 HRI.out ((HP3.out.D.lst).put k true))) (n' := n + 1) (T' := T) ((HP3.out.b2.key _).mono (Nat.le_succ _) (Int.le_refl _)) (Nat.le_succ _) (Int.le_refl _) (Nat.le_trans (putF_len L k true) (Nat.succ_le_succ HP3.out.ll))
    have HP6 := Lib.hid hP6
    have HK6 := Lib.hid (HK3.out.trans hk6)
    clear hP6 hk6
    go_wp2_with fail
    go_ret
    exact ⟨true, { s with S := setS s.S k true }, { d with S := setS d.S k true }, _, _, _, _, _, _, _, rfl, (HP6.out.less (fun _ h => Or.inl h)).mono (Nat.le_refl _) (by omega), (HK1.out.trans (HK6.out.less (fun _ h => Or.inl h))), fun h => ⟨rfl, by rw [h]⟩⟩

end Go.Proofs.YtkcfacbnbjkheaaDoor
