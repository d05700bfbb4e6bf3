/- A step on both boards: reading, asking the port, and how long they are held. -/
import Derived.Test.YtkcfacbnbjkheaaDoorBoardPair
namespace Go.Proofs.YtkcfacbnbjkheaaDoor
open Go.RowKit
set_option maxRecDepth 100000
set_option linter.unusedVariables false
set_option linter.unusedSimpArgs false

set_option maxHeartbeats 3200000 in
theorem step1 (R : Nat → Prop) (p b x base : Nat) (s d : St) (va ve : Value) (ph : Int) (vd ea ee : Value) (L : List Int) (n : Nat) (T : Int) (N : Int) (A : Nat) (V : Int) (nm : ByteArray) (tb : Array Value) (w : World) (hP : Pr w R b x base s d va ve ph vd ea ee L n T) (hp : R p) (hp0 : w.cell? ⟨p, 0, none⟩ = some (.pointer (some ⟨b, 0, none⟩))) (hp1 : w.cell? ⟨p, 1, none⟩ = some (.pointer (some ⟨x, 0, none⟩)))
    (hA : A < 65536) (v0 : 0 ≤ V) (v1 : V ≤ 255) (hn : n ≤ 80000) (hT : T ≤ 900000000) (hW : ∀ u, Below base w u → Waits u) (hN : ∀ u, Below base w u → NmTab tb u) :
    Calls Tryd.prog 10 #[.pointer (some ⟨p, 0, none⟩), .agg #[.int .i64 1, .int .i64 N, .int .u16 A, .int .u8 V, .string nm]] w (SPost R b x base s d n T w) := by
  have hb0 := balloc w (.cells #[.int .i64 1, .int .i64 N, .int .u16 A, .int .u8 V, .string nm] 53)
  have hP1 := hP.box (.cells #[.int .i64 1, .int .i64 N, .int .u16 A, .int .u8 V, .string nm] 53)
  have hk1 := hP.kpb hb0
  have hnew := heap_alloc_new w (.cells #[.int .i64 1, .int .i64 N, .int .u16 A, .int .u8 V, .string nm] 53)
  have hpl := hP.rl p hp
  obtain ⟨w1, hw1⟩ : ∃ w1, w.alloc (.cells #[.int .i64 1, .int .i64 N, .int .u16 A, .int .u8 V, .string nm] 53) = w1 := ⟨_, rfl⟩
  rw [hw1] at hb0 hP1 hk1 hnew
  obtain ⟨o, ho⟩ : ∃ o, w.heap.size = o := ⟨_, rfl⟩
  rw [ho] at hP1 hnew
  have ck : w1.cell? ⟨o, 0, none⟩ = some (.int .i64 1) := by rw [cell_of_row _ _ 0 _ _ (0, 0) hnew]; rfl
  have HSO := Lib.hid (fun (u : World) (hu : ∀ k, (R k ∨ k = o) → u.heap[k]? = w1.heap[k]?) => show u.cell? ⟨p, 0, none⟩ = some (.pointer (some ⟨b, 0, none⟩)) ∧ u.cell? ⟨p, 1, none⟩ = some (.pointer (some ⟨x, 0, none⟩)) ∧ u.cell? ⟨o, 1, none⟩ = some (.int .i64 N) ∧ u.cell? ⟨o, 2, none⟩ = some (.int .u16 A) ∧ u.cell? ⟨o, 3, none⟩ = some (.int .u8 V) ∧ u.cell? ⟨o, 4, none⟩ = some (.string nm) from
    ⟨(World.cell?_of_block (a := ⟨p, 0, none⟩) ((hu p (Or.inl hp)).trans (hk1.old p hp))).trans hp0, (World.cell?_of_block (a := ⟨p, 1, none⟩) ((hu p (Or.inl hp)).trans (hk1.old p hp))).trans hp1,
      (World.cell?_of_block (a := ⟨o, 1, none⟩) (hu o (Or.inr rfl))).trans (by rw [cell_of_row _ _ 1 _ _ (0, 0) hnew]; rfl), (World.cell?_of_block (a := ⟨o, 2, none⟩) (hu o (Or.inr rfl))).trans (by rw [cell_of_row _ _ 2 _ _ (0, 0) hnew]; rfl),
      (World.cell?_of_block (a := ⟨o, 3, none⟩) (hu o (Or.inr rfl))).trans (by rw [cell_of_row _ _ 3 _ _ (0, 0) hnew]; rfl), (World.cell?_of_block (a := ⟨o, 4, none⟩) (hu o (Or.inr rfl))).trans (by rw [cell_of_row _ _ 4 _ _ (0, 0) hnew]; rfl)⟩)
  have HP1 := Lib.hid hP1
  have HK1 := Lib.hid hk1
  have HB1 := Lib.hid hb0
  have a0 : (A : Int) < 65536 := by omega
  have a1 : (0 : Int) ≤ (A : Int) := by omega
  have HB := Lib.hid (fun u (hu : Below w1.heap.size w1 u) => bread_any b base A s va ve u (HP1.out.below hu).B hA)
  have cM := HP1.out.D.c_M A hA
  have HSX := Lib.hid (fun (u : World) (hu : u.heap = w1.heap) => by
    have h := HSO.out u (fun k _ => by rw [hu])
    exact (show _ from (⟨h.1, h.2.1, h.2.2.1, h.2.2.2.1, h.2.2.2.2.1, h.2.2.2.2.2, (World.cell?_of_block (w := w1) (w' := u) (a := ⟨x, 1 + A, none⟩) (by rw [hu])).trans cM⟩ : u.cell? ⟨p, 0, none⟩ = some (.pointer (some ⟨b, 0, none⟩)) ∧ u.cell? ⟨p, 1, none⟩ = some (.pointer (some ⟨x, 0, none⟩)) ∧ u.cell? ⟨o, 1, none⟩ = some (.int .i64 N) ∧ u.cell? ⟨o, 2, none⟩ = some (.int .u16 A) ∧ u.cell? ⟨o, 3, none⟩ = some (.int .u8 V) ∧ u.cell? ⟨o, 4, none⟩ = some (.string nm) ∧ u.cell? ⟨x, 1 + A, none⟩ = some (.int .u8 (d.M A)))))
  clear hP1 hk1 hnew hb0 hP hp hp0 hp1 hpl hW hN
  go_enter Tryd.func10, Tryd.ntmps10
  go_wp2_with fail
  clear ck hw1 ho
  have hS1 := HSX.out w1 rfl
  go_region_held3 (fun w' => w'.cell? ⟨p, 0, none⟩ = some (.pointer (some ⟨b, 0, none⟩)) ∧ w'.cell? ⟨p, 1, none⟩ = some (.pointer (some ⟨x, 0, none⟩)) ∧ w'.cell? ⟨o, 1, none⟩ = some (.int .i64 N) ∧ w'.cell? ⟨o, 2, none⟩ = some (.int .u16 A) ∧ w'.cell? ⟨o, 3, none⟩ = some (.int .u8 V) ∧ w'.cell? ⟨o, 4, none⟩ = some (.string nm) ∧ w'.cell? ⟨x, 1 + A, none⟩ = some (.int .u8 (d.M A))) (first | exact HSX.out _ rfl) (first | (go_at_call 15; refine (HB.out _ ?_).mono ?_; exact (Below.refl _ _).drew; rintro e w2 ⟨rfl, rfl⟩))
  go_wp2_with fail
  go_ret
  have hd : Below w1.heap.size w1 w1.drew := (Below.refl _ _).drew
  exact ⟨(s.M A == d.M A), s, d, _, _, _, _, _, _, _, rfl, ((HP1.out.below hd).less (fun _ h => Or.inl h)).mono (Nat.le_succ _) (by omega), (HK1.out.trans ((HP1.out.kpb hd).less (fun _ h => Or.inl h))), fun h => ⟨by rw [h]; simp, h⟩⟩
set_option maxHeartbeats 3200000 in
theorem step2 (R : Nat → Prop) (p b x base : Nat) (s d : St) (va ve : Value) (ph : Int) (vd ea ee : Value) (L : List Int) (n : Nat) (T : Int) (N : Int) (A : Nat) (V : Int) (nm : ByteArray) (tb : Array Value) (w : World) (hP : Pr w R b x base s d va ve ph vd ea ee L n T) (hp : R p) (hp0 : w.cell? ⟨p, 0, none⟩ = some (.pointer (some ⟨b, 0, none⟩))) (hp1 : w.cell? ⟨p, 1, none⟩ = some (.pointer (some ⟨x, 0, none⟩)))
    (hA : A < 65536) (v0 : 0 ≤ V) (v1 : V ≤ 255) (hn : n ≤ 80000) (hT : T ≤ 900000000) (hW : ∀ u, Below base w u → Waits u) (hN : ∀ u, Below base w u → NmTab tb u) :
    Calls Tryd.prog 10 #[.pointer (some ⟨p, 0, none⟩), .agg #[.int .i64 2, .int .i64 N, .int .u16 A, .int .u8 V, .string nm]] w (SPost R b x base s d n T w) := by
  have hb0 := balloc w (.cells #[.int .i64 2, .int .i64 N, .int .u16 A, .int .u8 V, .string nm] 53)
  have hP1 := hP.box (.cells #[.int .i64 2, .int .i64 N, .int .u16 A, .int .u8 V, .string nm] 53)
  have hk1 := hP.kpb hb0
  have hnew := heap_alloc_new w (.cells #[.int .i64 2, .int .i64 N, .int .u16 A, .int .u8 V, .string nm] 53)
  have hpl := hP.rl p hp
  obtain ⟨w1, hw1⟩ : ∃ w1, w.alloc (.cells #[.int .i64 2, .int .i64 N, .int .u16 A, .int .u8 V, .string nm] 53) = w1 := ⟨_, rfl⟩
  rw [hw1] at hb0 hP1 hk1 hnew
  obtain ⟨o, ho⟩ : ∃ o, w.heap.size = o := ⟨_, rfl⟩
  rw [ho] at hP1 hnew
  have ck : w1.cell? ⟨o, 0, none⟩ = some (.int .i64 2) := by rw [cell_of_row _ _ 0 _ _ (0, 0) hnew]; rfl
  have HSO := Lib.hid (fun (u : World) (hu : ∀ k, (R k ∨ k = o) → u.heap[k]? = w1.heap[k]?) => show u.cell? ⟨p, 0, none⟩ = some (.pointer (some ⟨b, 0, none⟩)) ∧ u.cell? ⟨p, 1, none⟩ = some (.pointer (some ⟨x, 0, none⟩)) ∧ u.cell? ⟨o, 1, none⟩ = some (.int .i64 N) ∧ u.cell? ⟨o, 2, none⟩ = some (.int .u16 A) ∧ u.cell? ⟨o, 3, none⟩ = some (.int .u8 V) ∧ u.cell? ⟨o, 4, none⟩ = some (.string nm) from
    ⟨(World.cell?_of_block (a := ⟨p, 0, none⟩) ((hu p (Or.inl hp)).trans (hk1.old p hp))).trans hp0, (World.cell?_of_block (a := ⟨p, 1, none⟩) ((hu p (Or.inl hp)).trans (hk1.old p hp))).trans hp1,
      (World.cell?_of_block (a := ⟨o, 1, none⟩) (hu o (Or.inr rfl))).trans (by rw [cell_of_row _ _ 1 _ _ (0, 0) hnew]; rfl), (World.cell?_of_block (a := ⟨o, 2, none⟩) (hu o (Or.inr rfl))).trans (by rw [cell_of_row _ _ 2 _ _ (0, 0) hnew]; rfl),
      (World.cell?_of_block (a := ⟨o, 3, none⟩) (hu o (Or.inr rfl))).trans (by rw [cell_of_row _ _ 3 _ _ (0, 0) hnew]; rfl), (World.cell?_of_block (a := ⟨o, 4, none⟩) (hu o (Or.inr rfl))).trans (by rw [cell_of_row _ _ 4 _ _ (0, 0) hnew]; rfl)⟩)
  have HP1 := Lib.hid hP1
  have HK1 := Lib.hid hk1
  have HB1 := Lib.hid hb0
  have a0 : (A : Int) ≤ 65535 := by omega
  have l1 := hP.b1.acts
  have l3 := hP.b2.acts
  have g0 := hP.b1.f0
  have g1 := hP.b1.f1
  have g2 := hP.b2.t0
  have g3 := hP.b2.t1
  have HB := Lib.hid (fun u hu => HP1.out.callB (u := u) (r := .returned (.int .u8 (inR s A))) hu (fun h => in_any b base A s va ve u h (Nat.le_trans h.lo (Nat.le_of_lt h.lt)) (by omega) (by omega) a0 g0 g1) (HP1.out.b1.in_ A) (Nat.le_succ _) (Int.le_refl _))
  have HBD := Lib.hid (HP1.out.b2.in_ A)
  clear hP1 hk1 hnew hb0 hP hp hp0 hp1 hpl hW hN
  go_enter Tryd.func10, Tryd.ntmps10
  go_wp2_with fail
  clear ck hw1 ho
  have hS1 := HSO.out w1 (fun _ _ => rfl)
  go_region_held3 (fun w' => w'.cell? ⟨p, 0, none⟩ = some (.pointer (some ⟨b, 0, none⟩)) ∧ w'.cell? ⟨p, 1, none⟩ = some (.pointer (some ⟨x, 0, none⟩)) ∧ w'.cell? ⟨o, 1, none⟩ = some (.int .i64 N) ∧ w'.cell? ⟨o, 2, none⟩ = some (.int .u16 A) ∧ w'.cell? ⟨o, 3, none⟩ = some (.int .u8 V) ∧ w'.cell? ⟨o, 4, none⟩ = some (.string nm)) (first | exact HSO.out _ (fun _ _ => rfl) | exact HSO.out _ hk2o | exact HSO.out _ hk3o) (first
    | (go_at_call 16; refine (HB.out _ ?_).mono ?_; exact (Below.refl _ _).drew; rintro e w2 ⟨rfl, va2, ve2, hP2, hk2⟩; have hk2o := hk2.old; have HP2 := Lib.hid hP2; have HK2 := Lib.hid hk2; clear hP2 hk2)
    | (go_at_call 32; refine (HP2.out.callD (r := .returned (.int .u8 (inR d A))) ?_ (fun h => din_any x base d ph vd ea ee L _ h A (by omega) a0 g2 (by omega) (by omega)) HBD.out (Nat.le_refl _) (Int.le_refl _)).mono ?_; exact (Below.refl _ _); rintro e w3 ⟨rfl, vd3, ea3, ee3, hP3, hk3⟩; have hk3o := (HK2.out.trans hk3).old; have HP3 := Lib.hid hP3; have HK3 := Lib.hid (HK2.out.trans hk3); clear hP3 hk3))
  go_wp2_with fail
  go_ret
  exact ⟨(inR s A == inR d A), (inS s A), (inS d A), _, _, _, _, _, _, _, rfl, (HP3.out.less (fun _ h => Or.inl h)).mono (Nat.le_refl _) (by omega), (HK1.out.trans (HK3.out.less (fun _ h => Or.inl h))), fun h => ⟨by rw [h]; simp, by rw [h]⟩⟩

end Go.Proofs.YtkcfacbnbjkheaaDoor
