/- A step on both boards: the level at EAR. -/
import Derived.Test.YtkcfacbnbjkheaaDoorBoardPair
namespace Go.Proofs.YtkcfacbnbjkheaaDoor
open Go.RowKit
set_option maxRecDepth 100000
set_option linter.unusedVariables false

theorem ear_went {w : World} {b base : Nat} {s : St} {va ve : Value} (h : BAt w b base s va ve) (y : Bool) : Went b base { s with ear := y } va ve w (w.setCell ⟨b, 65545, none⟩ (.bool y)) := Went.set h 65545 _ (set_ear s va ve y) rfl rfl
theorem ear_dwent {w : World} {x base : Nat} {s : St} {ph : Int} {vd ea ee : Value} {L : List Int} (h : DAt w x base s ph vd ea ee L) (y : Bool) : Dwent x base { s with ear := y } ph vd ea ee L L w (w.setCell ⟨x, 65544, none⟩ (.bool y)) :=
  Dwent.stay (h.set 65544 _ (dset_ear s ph vd ea ee y) rfl rfl rfl h.fr) (Ch.set _ _ _ _ (Or.inl rfl))
theorem Bd.ear {s : St} {n : Nat} {T : Int} (h : Bd s n T) (y : Bool) : Bd { s with ear := y } n T := ⟨h.acts, h.edges, h.t0, h.t1, h.f0, h.f1⟩
set_option maxHeartbeats 3200000 in
theorem step6 (R : Nat → Prop) (p b x base : Nat) (s d : St) (va ve : Value) (ph : Int) (vd ea ee : Value) (L : List Int) (n : Nat) (T : Int) (N : Int) (A : Nat) (V : Int) (nm : ByteArray) (tb : Array Value) (w : World) (hP : Pr w R b x base s d va ve ph vd ea ee L n T) (hp : R p) (hp0 : w.cell? ⟨p, 0, none⟩ = some (.pointer (some ⟨b, 0, none⟩))) (hp1 : w.cell? ⟨p, 1, none⟩ = some (.pointer (some ⟨x, 0, none⟩)))
    (hA : A < 65536) (v0 : 0 ≤ V) (v1 : V ≤ 255) (hn : n ≤ 80000) (hT : T ≤ 900000000) (hW : ∀ u, Below base w u → Waits u) (hN : ∀ u, Below base w u → NmTab tb u) :
    Calls Tryd.prog 10 #[.pointer (some ⟨p, 0, none⟩), .agg #[.int .i64 6, .int .i64 N, .int .u16 A, .int .u8 V, .string nm]] w (SPost R b x base s d n T w) := by
  have hb0 := balloc w (.cells #[.int .i64 6, .int .i64 N, .int .u16 A, .int .u8 V, .string nm] 53)
  have hP1 := hP.box (.cells #[.int .i64 6, .int .i64 N, .int .u16 A, .int .u8 V, .string nm] 53)
  have hk1 := hP.kpb hb0
  have hnew := heap_alloc_new w (.cells #[.int .i64 6, .int .i64 N, .int .u16 A, .int .u8 V, .string nm] 53)
  have hpl := hP.rl p hp
  obtain ⟨w1, hw1⟩ : ∃ w1, w.alloc (.cells #[.int .i64 6, .int .i64 N, .int .u16 A, .int .u8 V, .string nm] 53) = w1 := ⟨_, rfl⟩
  rw [hw1] at hb0 hP1 hk1 hnew
  obtain ⟨o, ho⟩ : ∃ o, w.heap.size = o := ⟨_, rfl⟩
  rw [ho] at hP1 hnew
  have ck : w1.cell? ⟨o, 0, none⟩ = some (.int .i64 6) := by rw [cell_of_row _ _ 0 _ _ (0, 0) hnew]; rfl
  have HSO := Lib.hid (fun (u : World) (hu : ∀ k, (R k ∨ k = o) → u.heap[k]? = w1.heap[k]?) => show u.cell? ⟨p, 0, none⟩ = some (.pointer (some ⟨b, 0, none⟩)) ∧ u.cell? ⟨p, 1, none⟩ = some (.pointer (some ⟨x, 0, none⟩)) ∧ u.cell? ⟨o, 1, none⟩ = some (.int .i64 N) ∧ u.cell? ⟨o, 2, none⟩ = some (.int .u16 A) ∧ u.cell? ⟨o, 3, none⟩ = some (.int .u8 V) ∧ u.cell? ⟨o, 4, none⟩ = some (.string nm) from
    ⟨(World.cell?_of_block (a := ⟨p, 0, none⟩) ((hu p (Or.inl hp)).trans (hk1.old p hp))).trans hp0, (World.cell?_of_block (a := ⟨p, 1, none⟩) ((hu p (Or.inl hp)).trans (hk1.old p hp))).trans hp1,
      (World.cell?_of_block (a := ⟨o, 1, none⟩) (hu o (Or.inr rfl))).trans (by rw [cell_of_row _ _ 1 _ _ (0, 0) hnew]; rfl), (World.cell?_of_block (a := ⟨o, 2, none⟩) (hu o (Or.inr rfl))).trans (by rw [cell_of_row _ _ 2 _ _ (0, 0) hnew]; rfl),
      (World.cell?_of_block (a := ⟨o, 3, none⟩) (hu o (Or.inr rfl))).trans (by rw [cell_of_row _ _ 3 _ _ (0, 0) hnew]; rfl), (World.cell?_of_block (a := ⟨o, 4, none⟩) (hu o (Or.inr rfl))).trans (by rw [cell_of_row _ _ 4 _ _ (0, 0) hnew]; rfl)⟩)
  have HP1 := Lib.hid hP1
  have HK1 := Lib.hid hk1
  have HB1 := Lib.hid hb0
  clear hP1 hk1 hnew hb0 hP hp hp0 hp1 hpl hW hN
  go_enter Tryd.func10, Tryd.ntmps10
  go_wp2_with fail
  clear ck hw1 ho
  obtain ⟨q0, q1, r1, r2, r3, r4⟩ := HSO.out w1 (fun _ _ => rfl)
  have c1 := HP1.out.B.c_ear
  have f1 := HP1.out.B.fr 65545
  go_region
  obtain ⟨va2, ve2, hP2, hk2⟩ := HP1.out.stepB ((ear_went HP1.out.B (!s.ear)).below (w'' := (w1.setCell ⟨b, 65545, none⟩ (.bool (!s.ear))).drew) ((Below.refl _ _).drew)) (HP1.out.b1.ear _) (Nat.le_refl _) (Int.le_refl _)
  generalize (w1.setCell ⟨b, 65545, none⟩ (.bool (!s.ear))).drew = w2 at hP2 hk2 ⊢
  have HP2 := Lib.hid hP2
  have HK2 := Lib.hid hk2
  clear hP2 q0 q1 r1 r2 r3 r4 c1 f1
  obtain ⟨q0, q1, r1, r2, r3, r4⟩ := HSO.out w2 hk2.old
  have c1 := HP2.out.D.c_ear
  have f1 := HP2.out.D.frz 65544
  clear hk2
  go_wp2_with fail
  go_region
  obtain ⟨vd3, ea3, ee3, hP3, hk3⟩ := HP2.out.stepD (w' := (w2.setCell ⟨x, 65544, none⟩ (.bool (!d.ear))).drew) (by
    obtain ⟨a1, a2, a3, h1, h2, h3⟩ := ear_dwent HP2.out.D (!d.ear)
    exact ⟨a1, a2, a3, h1.below ((Below.refl _ _).drew), h2.drew 1, h3⟩) (HP2.out.b2.ear _) (Nat.le_refl _) (Int.le_refl _) HP2.out.ll
  generalize (w2.setCell ⟨x, 65544, none⟩ (.bool (!d.ear))).drew = w3 at hP3 hk3 ⊢
  have HP3 := Lib.hid hP3
  have HK3 := Lib.hid (HK2.out.trans hk3)
  clear hP3 hk3 q0 q1 r1 r2 r3 r4 c1 f1
  go_wp2_with fail
  go_ret
  exact ⟨true, { s with ear := !s.ear }, { d with ear := !d.ear }, _, _, _, _, _, _, _, rfl, (HP3.out.less (fun _ h => Or.inl h)).mono (Nat.le_succ _) (by omega), (HK1.out.trans (HK3.out.less (fun _ h => Or.inl h))), fun h => ⟨rfl, by rw [h]⟩⟩

end Go.Proofs.YtkcfacbnbjkheaaDoor
