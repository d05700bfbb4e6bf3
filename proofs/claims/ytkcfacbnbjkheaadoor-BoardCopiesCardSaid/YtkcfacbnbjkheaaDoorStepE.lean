/- A step on both boards: how long they are held. -/
import Derived.Test.YtkcfacbnbjkheaaDoorBoardPair
namespace Go.Proofs.YtkcfacbnbjkheaaDoor
open Go.RowKit
set_option maxRecDepth 100000
set_option linter.unusedVariables false
set_option linter.unusedSimpArgs false

set_option maxHeartbeats 3200000 in
theorem step7 (R : Nat → Prop) (p b x base : Nat) (s d : St) (va ve : Value) (ph : Int) (vd ea ee : Value) (L : List Int) (n : Nat) (T : Int) (N : Int) (A : Nat) (V : Int) (nm : ByteArray) (tb : Array Value) (w : World) (hP : Pr w R b x base s d va ve ph vd ea ee L n T) (hp : R p) (hp0 : w.cell? ⟨p, 0, none⟩ = some (.pointer (some ⟨b, 0, none⟩))) (hp1 : w.cell? ⟨p, 1, none⟩ = some (.pointer (some ⟨x, 0, none⟩)))
    (hA : A < 65536) (v0 : 0 ≤ V) (v1 : V ≤ 255) (hn : n ≤ 80000) (hT : T ≤ 900000000) (hW : ∀ u, Below base w u → Waits u) (hN : ∀ u, Below base w u → NmTab tb u) :
    Calls Tryd.prog 10 #[.pointer (some ⟨p, 0, none⟩), .agg #[.int .i64 7, .int .i64 N, .int .u16 A, .int .u8 V, .string nm]] w (SPost R b x base s d n T w) := by
  have hb0 := balloc w (.cells #[.int .i64 7, .int .i64 N, .int .u16 A, .int .u8 V, .string nm] 53)
  have hP1 := hP.box (.cells #[.int .i64 7, .int .i64 N, .int .u16 A, .int .u8 V, .string nm] 53)
  have hk1 := hP.kpb hb0
  have hnew := heap_alloc_new w (.cells #[.int .i64 7, .int .i64 N, .int .u16 A, .int .u8 V, .string nm] 53)
  have hpl := hP.rl p hp
  obtain ⟨w1, hw1⟩ : ∃ w1, w.alloc (.cells #[.int .i64 7, .int .i64 N, .int .u16 A, .int .u8 V, .string nm] 53) = w1 := ⟨_, rfl⟩
  rw [hw1] at hb0 hP1 hk1 hnew
  obtain ⟨o, ho⟩ : ∃ o, w.heap.size = o := ⟨_, rfl⟩
  rw [ho] at hP1 hnew
  have ck : w1.cell? ⟨o, 0, none⟩ = some (.int .i64 7) := by rw [cell_of_row _ _ 0 _ _ (0, 0) hnew]; rfl
  have HSO := Lib.hid (fun (u : World) (hu : ∀ k, (R k ∨ k = o) → u.heap[k]? = w1.heap[k]?) => show u.cell? ⟨p, 0, none⟩ = some (.pointer (some ⟨b, 0, none⟩)) ∧ u.cell? ⟨p, 1, none⟩ = some (.pointer (some ⟨x, 0, none⟩)) ∧ u.cell? ⟨o, 1, none⟩ = some (.int .i64 N) ∧ u.cell? ⟨o, 2, none⟩ = some (.int .u16 A) ∧ u.cell? ⟨o, 3, none⟩ = some (.int .u8 V) ∧ u.cell? ⟨o, 4, none⟩ = some (.string nm) from
    ⟨(World.cell?_of_block (a := ⟨p, 0, none⟩) ((hu p (Or.inl hp)).trans (hk1.old p hp))).trans hp0, (World.cell?_of_block (a := ⟨p, 1, none⟩) ((hu p (Or.inl hp)).trans (hk1.old p hp))).trans hp1,
      (World.cell?_of_block (a := ⟨o, 1, none⟩) (hu o (Or.inr rfl))).trans (by rw [cell_of_row _ _ 1 _ _ (0, 0) hnew]; rfl), (World.cell?_of_block (a := ⟨o, 2, none⟩) (hu o (Or.inr rfl))).trans (by rw [cell_of_row _ _ 2 _ _ (0, 0) hnew]; rfl),
      (World.cell?_of_block (a := ⟨o, 3, none⟩) (hu o (Or.inr rfl))).trans (by rw [cell_of_row _ _ 3 _ _ (0, 0) hnew]; rfl), (World.cell?_of_block (a := ⟨o, 4, none⟩) (hu o (Or.inr rfl))).trans (by rw [cell_of_row _ _ 4 _ _ (0, 0) hnew]; rfl)⟩)
  have HP1 := Lib.hid hP1
  have HK1 := Lib.hid hk1
  have HB1 := Lib.hid hb0
  have a0 : (A : Int) ≤ 65535 := by omega
  have g2 := hP.b2.t0
  have g3 := hP.b2.t1
  have HW := Lib.hid (hW w1 (by have := HK1.out.bel; exact this))
  have HB := Lib.hid (fun u (hu : Below w1.heap.size w1 u) => bhold_any b base s va ve u (HP1.out.below hu).B N A V (by omega) a0 (HW.out.below hu))
  have HD := Lib.hid (fun u (hu : Below w1.heap.size w1 u) => dhold_any x base d ph vd ea ee L u (HP1.out.below hu).D N A V g2 (by omega) (by omega) a0)
  obtain ⟨y, hy⟩ : ∃ y, (if s.slow then holdV N A V s.frame else 0) = y := ⟨_, rfl⟩
  obtain ⟨z, hz⟩ : ∃ z, (if d.slow then holdV N A V d.frame else 0) = z := ⟨_, rfl⟩
  rw [hy] at HB
  rw [hz] at HD
  have HE := Lib.hid (fun (h : s = d) => show (y == z) = true by rw [← hy, ← hz, h]; simp)
  clear hP1 hk1 hnew hb0 hP hp hp0 hp1 hpl hW hN hy hz
  have hwv : IntKind.i64.wrap V = V := by rw [IntKind.wrap_i64]; omega
  go_enter Tryd.func10, Tryd.ntmps10
  go_wp2_with fail
  clear ck hw1 ho
  have hS1 := HSO.out w1 (fun _ _ => rfl)
  go_region_held3 (fun w' => w'.cell? ⟨p, 0, none⟩ = some (.pointer (some ⟨b, 0, none⟩)) ∧ w'.cell? ⟨p, 1, none⟩ = some (.pointer (some ⟨x, 0, none⟩)) ∧ w'.cell? ⟨o, 1, none⟩ = some (.int .i64 N) ∧ w'.cell? ⟨o, 2, none⟩ = some (.int .u16 A) ∧ w'.cell? ⟨o, 3, none⟩ = some (.int .u8 V) ∧ w'.cell? ⟨o, 4, none⟩ = some (.string nm)) (first | exact HSO.out _ (fun _ _ => rfl) | exact HSO.out _ hk3o) (first
    | (go_at_call 17; refine (HB.out _ ?_).mono ?_; exact (Below.refl _ _).drew; rintro e w2 ⟨rfl, rfl⟩)
    | (go_at_call 40; refine (HD.out _ ?_).mono ?_; exact (Below.refl _ _).drew; rintro e w3 ⟨rfl, hb3⟩; have hb3' : Below w1.heap.size w1 w3 := ((Below.refl w1.heap.size w1).drew).trans hb3; have hk3o := (HP1.out.kpb hb3').old))
  go_wp2_with fail
  go_ret
  exact ⟨(y == z), s, d, _, _, _, _, _, _, _, rfl, ((HP1.out.below hb3').less (fun _ h => Or.inl h)).mono (Nat.le_succ _) (by omega), (HK1.out.trans ((HP1.out.kpb hb3').less (fun _ h => Or.inl h))), fun h => ⟨HE.out h, h⟩⟩

end Go.Proofs.YtkcfacbnbjkheaaDoor
