/- Out, In and Next of a board: their contracts. -/
import Derived.Test.YtkcfacbnbjkheaaDoorBoardPort
namespace Go.Proofs.YtkcfacbnbjkheaaDoor
open Go.RowKit
set_option maxRecDepth 100000

theorem and8 (v : Int) (h0 : 0 ≤ v) (h1 : v ≤ 255) : bits .and .u8 v 8 = if (v / 8 % 2 == 1) = true then 8 else 0 := by
  obtain ⟨n, rfl⟩ := Int.eq_ofNat_of_zero_le h0
  have key : ∀ n : Fin 256, bits .and .u8 ((n.val : Nat) : Int) 8 = if ((n.val : Int) / 8 % 2 == 1) = true then 8 else 0 := by decide +kernel
  exact key ⟨n, by omega⟩
theorem and16 (v : Int) (h0 : 0 ≤ v) (h1 : v ≤ 255) : bits .and .u8 v 16 = if (v / 16 % 2 == 1) = true then 16 else 0 := by
  obtain ⟨n, rfl⟩ := Int.eq_ofNat_of_zero_le h0
  have key : ∀ n : Fin 256, bits .and .u8 ((n.val : Nat) : Int) 16 = if ((n.val : Int) / 16 % 2 == 1) = true then 16 else 0 := by decide +kernel
  exact key ⟨n, by omega⟩
theorem or160 (r : Int) (h0 : 0 ≤ r) (h1 : r ≤ 31) : bits .or .u8 r 160 = r + 160 ∧ bits .or .u8 (r + 160) 64 = r + 160 + 64 := by
  obtain ⟨n, rfl⟩ := Int.eq_ofNat_of_zero_le h0
  have key : ∀ n : Fin 32, bits .or .u8 ((n.val : Nat) : Int) 160 = (n.val : Int) + 160 ∧ bits .or .u8 ((n.val : Int) + 160) 64 = (n.val : Int) + 160 + 64 := by decide +kernel
  exact key ⟨n, by omega⟩
theorem micS_acts (s : St) (m : Bool) : (micS s m).acts = s.acts := by unfold micS; split <;> rfl
theorem micS_edges (s : St) (m : Bool) : (micS s m).edges.length ≤ s.edges.length + 1 := by
  unfold micS
  split
  · omega
  · simp

set_option maxRecDepth 100000 in
set_option maxHeartbeats 1600000 in
theorem out_any (b base : Nat) (p v : Int) (s : St) (va ve : Value) (w : World) (hB : BAt w b base s va ve) (hbase : base ≤ w.heap.size) (hl : s.acts.length ≤ 90000) (hl2 : s.edges.length ≤ 90000) (p0 : 0 ≤ p) (p1 : p ≤ 65535) (v0 : 0 ≤ v) (v1 : v ≤ 255) :
    Calls Tryd.prog 13 #[.pointer (some ⟨b, 0, none⟩), .int .u16 p, .int .u8 v] w fun e w' => e = .returned (.tuple #[]) ∧ Went b base (outS s p v) va ve w w' := by
  by_cases hp : p % 2 = 0
  · have hq : (p % 2 == 0) = true := by simpa using hp
    have HO := Lib.hid (show outS s p v = logS (spkS (micS (paintS s v) (v / 8 % 2 == 1)) (v / 16 % 2 == 1)) true p v by unfold outS; rw [if_pos hp])
    have e8 := and8 v v0 v1
    have e16 := and16 v v0 v1
    generalize (v / 8 % 2 == 1) = m at *
    generalize (v / 16 % 2 == 1) = k at *
    have HP := Lib.hid (paint_any b base v s va ve w hB v0 v1)
    have hA : (micS (paintS s v) m).acts.length ≤ 100000 := by rw [micS_acts]; show s.acts.length ≤ _; omega
    have hE : (paintS s v).edges.length ≤ 100000 := by show s.edges.length ≤ _; omega
    have HU := Lib.hid (fun w => isUla_any p w p0 p1)
    clear hB hp hl hl2
    cases m <;> cases k <;> simp only [if_true, if_false, Bool.false_eq_true] at e8 e16
    all_goals
      go_enter Tryd.func13, Tryd.ntmps13
      go_wp2_with fail
      refine (HU.out _).mono ?_
      rintro e w' ⟨rfl, rfl⟩
      go_wp2_with fail
      refine HP.out.mono ?_
      rintro e w1 ⟨rfl, hB1, hc1⟩
      have hb1 : base ≤ w1.heap.size := Nat.le_trans hbase hc1.size
      have HM := Lib.hid (fun m => setMic_any b base m _ va ve w1 hB1 hb1 hE)
      clear hB1
      go_wp2_with fail
      refine (HM.out _).mono ?_
      rintro e w2 ⟨rfl, va2, ve2, hB2, hc2, hk2⟩
      have hc12 := hc1.trans hc2 (fun _ h => Or.inl h)
      have hk12 : ∀ k, Fb b va2 ve2 k → Fb b va ve k ∨ w.heap.size ≤ k := fun k hk => (hk2 k hk).imp id (fun x => Nat.le_trans hc1.size x)
      have c := hB2.c_spk
      have f := hB2.fr 65551
      have HB3 := Lib.hid (fun k => hB2.set 65551 (.bool k) (set_spk _ va2 ve2 k) rfl rfl)
      have hb3 : ∀ k, base ≤ (w2.setCell ⟨b, 65551, none⟩ (.bool k)).heap.size := fun k => by simpa [World.setCell] using Nat.le_trans hb1 hc2.size
      have HL := Lib.hid (fun k => log_any b base true p v _ va2 ve2 _ (HB3.out k) (hb3 k) hA)
      clear hB2 hb3 HM
      go_wp2_with fail
      refine (HL.out _).mono ?_
      rintro e w4 ⟨rfl, hw4⟩
      go_wp2_with fail
      go_end0
      exact ⟨rfl, by rw [HO.out]; exact Went.trans (hc12.trans (Ch.set (F := fun i => i = b) w2 b 65551 _ rfl) (fun k hk => Or.inl (Or.inl hk))) hk12 hw4⟩
  · have hq : (p % 2 == 0) = false := by simpa using hp
    have HB := Lib.hid (show Went b base (outS s p v) va ve w w by unfold outS; rw [if_neg hp]; exact Went.refl hB)
    clear hB hp
    go_enter Tryd.func13, Tryd.ntmps13
    go_wp2_with fail
    refine (isUla_any p _ p0 p1).mono ?_
    rintro e w' ⟨rfl, rfl⟩
    go_wp2_with fail
    refine bodyPost_ret (results_none rfl _ _ _) rfl ?_
    exact ⟨rfl, HB.out⟩

theorem readF_bd (S : Nat → Bool) (h : Int) : 0 ≤ readF S h ∧ readF S h ≤ 31 := redF_bd S h 8
set_option maxRecDepth 100000 in
set_option maxHeartbeats 1600000 in
theorem in_any (b base : Nat) (p : Int) (s : St) (va ve : Value) (w : World) (hB : BAt w b base s va ve) (hbase : base ≤ w.heap.size) (hl : s.acts.length ≤ 90000) (p0 : 0 ≤ p) (p1 : p ≤ 65535) (f0 : 0 ≤ s.frame) (f1 : s.frame < 69888) :
    Calls Tryd.prog 16 #[.pointer (some ⟨b, 0, none⟩), .int .u16 p] w fun e w' => e = .returned (.int .u8 (inR s p)) ∧ Went b base (inS s p) va ve w w' := by
  by_cases hp : p % 2 = 0
  · have hq : (p % 2 == 0) = true := by simpa using hp
    have h0 : 0 ≤ p / 256 := by omega
    have h1 : p / 256 ≤ 255 := by omega
    have HR := Lib.hid (show inR s p = readF s.S (p / 256) + 160 + if s.ear then 64 else 0 by unfold inR inV; rw [if_pos hp])
    have HS := Lib.hid (show inS s p = logS s false p (readF s.S (p / 256) + 160 + if s.ear then 64 else 0) by unfold inS inV; rw [if_pos hp])
    have HL := Lib.hid (fun v => log_any b base false p v s va ve w hB hbase (by omega))
    have HK := Lib.hid (read_any s.S b 65536 (p / 256) w hB.keys h0 h1)
    obtain ⟨r0, r1⟩ := readF_bd s.S (p / 256)
    obtain ⟨e1, e2⟩ := or160 _ r0 r1
    have c := hB.c_ear
    generalize readF s.S (p / 256) = r at *
    clear hB hp hl
    cases he : s.ear with
    | true =>
      rw [he] at HR HS c
      clear he
      go_enter Tryd.func16, Tryd.ntmps16
      go_wp2_with fail
      refine (isUla_any p _ p0 p1).mono ?_
      rintro e w' ⟨rfl, rfl⟩
      go_wp2_with fail
      refine (HK.out).mono ?_
      rintro e w' ⟨rfl, rfl⟩
      go_wp2_with fail
      refine (HL.out _).mono ?_
      rintro e w1 ⟨rfl, hw⟩
      go_wp2_with fail
      go_ret
      exact ⟨by rw [HR.out]; rfl, by rw [HS.out]; exact hw⟩
    | false =>
      rw [he] at HR HS c
      clear he
      have HL2 := Lib.hid (show Calls Tryd.prog 45 #[.pointer (some ⟨b, 0, none⟩), .bool false, .int .u16 p, .int .u8 (r + 160)] w fun e w' => e = .returned (.tuple #[]) ∧ Went b base (inS s p) va ve w w' by
        have := HL.out (r + 160)
        rw [HS.out]; simpa using this)
      clear HL
      go_enter Tryd.func16, Tryd.ntmps16
      go_wp2_with fail
      refine (isUla_any p _ p0 p1).mono ?_
      rintro e w' ⟨rfl, rfl⟩
      go_wp2_with fail
      refine (HK.out).mono ?_
      rintro e w' ⟨rfl, rfl⟩
      go_wp2_with fail
      refine HL2.out.mono ?_
      rintro e w1 ⟨rfl, hw⟩
      go_wp2_with fail
      go_ret
      exact ⟨by rw [HR.out]; simp, hw⟩
  · have hq : (p % 2 == 0) = false := by simpa using hp
    have HR := Lib.hid (show inR s p = floatV s by unfold inR; rw [if_neg hp])
    have HB := Lib.hid (fun w' hb => show Went b base (inS s p) va ve w w' by unfold inS; rw [if_neg hp]; exact (Went.refl hB).below hb)
    have HF := Lib.hid (floating_any b base s va ve w hB f0 f1)
    clear hB hp
    go_enter Tryd.func16, Tryd.ntmps16
    go_wp2_with fail
    refine (isUla_any p _ p0 p1).mono ?_
    rintro e w' ⟨rfl, rfl⟩
    go_wp2_with fail
    refine HF.out.mono ?_
    rintro e w1 ⟨rfl, hb1⟩
    go_wp2_with fail
    go_ret
    exact ⟨by rw [HR.out]; rfl, HB.out _ hb1⟩

set_option maxRecDepth 100000 in
set_option maxHeartbeats 1600000 in
theorem next_any (b base : Nat) (s : St) (va ve : Value) (w : World) (hB : BAt w b base s va ve) (t0 : 0 ≤ s.t) (t1 : s.t ≤ 1000000000) (f0 : 0 ≤ s.frame) (f1 : s.frame < 69888) :
    Calls Tryd.prog 14 #[.pointer (some ⟨b, 0, none⟩)] w fun e w' => e = .returned (.tuple #[]) ∧ BAt w' b base (nextS s) va ve ∧ Ch (Fb b va ve) w w' := by
  have c := hB.c_frame
  cases h : fetOn s.frame with
  | true =>
    have HP := Lib.hid (fun w => place_on s.frame w f0 f1 h)
    obtain ⟨_, hP⟩ := fetP_is h
    have hP0 : (0 : Int) ≤ (fetP s.frame : Int) := by omega
    have hP1 : (fetP s.frame : Int) < 12288 := by omega
    have HF := Lib.hid (fun w hB => floating_any b base s va ve w hB f0 f1)
    have HV := Lib.hid (show floatV s = s.M (fetA s.frame) by unfold floatV; rw [if_pos h])
    have HN := Lib.hid (show nextS s = { s with pic := updN s.pic (fetP s.frame) (s.M (fetA s.frame)), t := s.t + 1, frame := frameV (s.frame + 1) } by unfold nextS; rw [if_pos h])
    generalize fetP s.frame = P at *
    have HB := Lib.hid (fun w1 (hb : Below w.heap.size w w1) => (hB.below hb))
    clear h hB
    go_enter Tryd.func14, Tryd.ntmps14
    go_wp2_with fail
    refine (HP.out _).mono ?_
    rintro e w1 ⟨rfl, hb1⟩
    have HB1 := Lib.hid (fun (u : World) (hu : u.heap = w1.heap) => show BAt u b base s va ve from (HB.out _ hb1).keep fun k _ => by rw [hu])
    go_wp2_with fail
    go_region_with (go_at_call 47; refine (HF.out _ ?_).mono ?_; exact HB1.out _ rfl; rintro e w2 ⟨rfl, hb2⟩; have hB2 := (HB1.out w1.drew rfl).below hb2; have c3 := hB2.c_pic P hP; have d3 := hB2.fr (65552 + P))
    have hc2 : Ch (fun i => i = b) w1 w2 := Ch.of_below (((Below.refl w1.heap.size w1).drew).trans hb2)
    have hB3 := hB2.set (65552 + P) (.int .u8 (floatV s)) (set_pic s va ve P _ hP) rfl rfl
    have hc3 : Ch (fun i => i = b) w2 (w2.setCell ⟨b, 65552 + P, none⟩ (.int .u8 (floatV s))) := Ch.set _ _ _ _ rfl
    generalize w2.setCell ⟨b, 65552 + P, none⟩ (.int .u8 (floatV s)) = w3 at hB3 hc3 ⊢
    have c1 : w3.cell? ⟨b, 65547, none⟩ = some (.int .u64 s.t) := hB3.c_t
    have d1 := hB3.fr 65547
    have c2 : w3.cell? ⟨b, 65548, none⟩ = some (.int .i64 s.frame) := hB3.c_frame
    have d2 := hB3.fr 65548
    have HB2 := Lib.hid ((hB3.set 65547 (.int .u64 (s.t + 1)) (set_t _ va ve (s.t + 1)) rfl rfl).set 65548 (.int .i64 (frameV (s.frame + 1))) (set_frame _ va ve _) rfl rfl)
    clear hB2 hB3 c3 d3
    go_wp2_with fail
    refine (frame_any _ _).mono ?_
    rintro e w' ⟨rfl, rfl⟩
    go_wp2_with fail
    go_end0
    exact ⟨rfl, by rw [HN.out, ← HV.out]; exact HB2.out, (Ch.of_below hb1).trans ((hc2.trans hc3 (fun k hk => Or.inl hk)).trans ((Ch.set (F := fun i => i = b) _ b 65547 _ rfl).trans (Ch.set (F := fun i => i = b) _ b 65548 _ rfl) (fun k hk => Or.inl hk)) (fun k hk => Or.inl hk)) (fun k hk => Or.inl (Or.inl hk))⟩
  | false =>
    have HP := Lib.hid (fun w => place_off s.frame w f0 f1 h)
    have HN := Lib.hid (show nextS s = { s with t := s.t + 1, frame := frameV (s.frame + 1) } by unfold nextS; rw [h]; rfl)
    have HB := Lib.hid (fun w1 (hb : Below w.heap.size w w1) => (hB.below hb))
    clear h hB
    go_enter Tryd.func14, Tryd.ntmps14
    go_wp2_with fail
    refine (HP.out _).mono ?_
    rintro e w1 ⟨rfl, hb1⟩
    have hB1 := HB.out _ hb1
    have c1 := hB1.c_t
    have d1 := hB1.fr 65547
    have c2 := hB1.c_frame
    have d2 := hB1.fr 65548
    have HB2 := Lib.hid ((hB1.set 65547 (.int .u64 (s.t + 1)) (set_t s va ve (s.t + 1)) rfl rfl).set 65548 (.int .i64 (frameV (s.frame + 1))) (set_frame _ va ve _) rfl rfl)
    clear hB1
    go_wp2_with fail
    refine (frame_any _ _).mono ?_
    rintro e w' ⟨rfl, rfl⟩
    go_wp2_with fail
    go_end0
    exact ⟨rfl, by rw [HN.out]; exact HB2.out, (Ch.of_below hb1).trans ((Ch.set (F := fun i => i = b) _ b 65547 _ rfl).trans (Ch.set (F := fun i => i = b) _ b 65548 _ rfl) (fun k hk => Or.inl hk)) (fun k hk => Or.inl (Or.inl hk))⟩

end Go.Proofs.YtkcfacbnbjkheaaDoor
