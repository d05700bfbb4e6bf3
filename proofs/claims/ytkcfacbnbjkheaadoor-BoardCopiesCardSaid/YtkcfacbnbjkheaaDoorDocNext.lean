/- Next and New of the document's board: their contracts. -/
import Derived.Test.YtkcfacbnbjkheaaDoorDocMoves
namespace Go.Proofs.YtkcfacbnbjkheaaDoor
open Go.RowKit
set_option maxRecDepth 100000

theorem dset_time (s : St) (ph : Int) (vd ea ee : Value) (y f : Int) : upd (dC s ph vd ea ee) 65537 (.int .u64 y) = dC { s with t := y, frame := f } ph vd ea ee := dset_t s ph vd ea ee y
theorem frame_next (t ph : Int) : frameV (frameV (t + ph) + 1) = frameV (t + 1 + ph) := by unfold frameV; omega
set_option maxHeartbeats 3200000 in
theorem dnext_any (x base : Nat) (s : St) (ph : Int) (vd ea ee : Value) (L : List Int) (w : World) (hD : DAt w x base s ph vd ea ee L) (t0 : 0 ≤ s.t) (t1 : s.t ≤ 1000000000) :
    Calls Tryd.prog 36 #[.pointer (some ⟨x, 0, none⟩)] w fun e w' => e = .returned (.tuple #[]) ∧ DAt w' x base (nextS s) ph vd ea ee L ∧ Ch (Fd x vd ea ee L) w w' := by
  have HD := Lib.hid (fun w1 (hb : Below w.heap.size w w1) => hD.below hb)
  have hflat := hD.c_flat
  have f0 : 0 ≤ s.frame := by rw [hD.fr]; exact (frameV_bd _).1
  have f1 : s.frame < 69888 := by rw [hD.fr]; exact (frameV_bd _).2
  have HFR := Lib.hid (fun w1 (hb : Below w.heap.size w w1) => dframe_any x base s ph vd ea ee L w1 (hD.below hb) t0 t1)
  have HO := Lib.hid (over_any x base s ph vd ea ee L w hD)
  have hfn : frameV (s.frame + 1) = frameV (s.t + 1 + ph) := by rw [hD.fr]; exact frame_next _ _
  have HFN := Lib.hid hfn
  clear hD hfn
  cases ho : fetOn s.frame with
  | true =>
    have HX := Lib.hid (fun w => show Calls Tryd.prog 54 #[.int .i64 s.frame] w fun e w' => e = .returned (.tuple #[.int .u16 (fetA s.frame), .int .i64 (fetP s.frame), .bool true]) ∧ w = w' by
      have := refFetched_yes s.frame w (by rw [frame_in f0 f1]; exact ho)
      rw [frame_in f0 f1, (fetA_is ho).1, (fetP_is ho).1] at this
      exact this)
    obtain ⟨_, _, a2⟩ := fetA_is ho
    obtain ⟨_, q2⟩ := fetP_is ho
    have a3 : (fetA s.frame : Int) < 65536 := by omega
    have a4 : fetA s.frame < 65536 := by omega
    have q3 : (fetP s.frame : Int) < 12288 := by omega
    have q4 : (0 : Int) ≤ (fetP s.frame : Int) := by omega
    have HN := Lib.hid (show nextS s = { s with pic := updN s.pic (fetP s.frame) (s.M (fetA s.frame)), t := s.t + 1, frame := frameV (s.frame + 1) } by unfold nextS; rw [if_pos ho])
    clear ho a2
    generalize fetA s.frame = A at *
    generalize fetP s.frame = Q at *
    go_enter Tryd.func36, Tryd.ntmps36
    go_wp2_with fail
    refine (HO.out).mono ?_
    rintro e w1 ⟨rfl, hb1⟩
    go_wp2_with fail
    refine (HFR.out _ hb1).mono ?_
    rintro e w2 ⟨rfl, hb2⟩
    have hb12 := below_step hb1 hb2
    clear hb1 hb2
    go_wp2_with fail
    refine (HX.out _).mono ?_
    rintro e w' ⟨rfl, rfl⟩
    have hD2 := HD.out _ hb12
    have c1 := hD2.c_M A a4
    have c2 := hD2.c_pic Q q2
    have f2 := hD2.frz (65552 + Q)
    have HD2 := Lib.hid hD2
    obtain ⟨V, hV⟩ : ∃ V, s.M A = V := ⟨_, rfl⟩
    rw [hV] at c1
    clear hD2
    go_wp2_with fail
    have hk : (w2.setCell ⟨x, 65552 + Q, none⟩ (.int .u8 V)).cell? ⟨x, 1 + A, none⟩ = some (.int .u8 V) := by
      rw [World.cell?_setCell_other _ _ _ _ (by intro hh; injection hh with _ h2; omega)]; exact c1
    go_region_held3 (fun w' => w'.cell? ⟨x, 1 + A, none⟩ = some (.int .u8 V)) (first | exact hk | go_keep) (fail)
    have hD3 : DAt (w2.setCell ⟨x, 65552 + Q, none⟩ (.int .u8 V)).drew x base { s with pic := updN s.pic Q V } ph vd ea ee L := (HD2.out.set (65552 + Q) (.int .u8 V) (dset_pic s ph vd ea ee Q V q2) rfl rfl rfl HD2.out.fr).keep (Nat.le_refl _) (fun _ _ => rfl)
    have hc3 : Ch (fun i => i = x) w2 (w2.setCell ⟨x, 65552 + Q, none⟩ (.int .u8 V)).drew := (Ch.set (F := fun i => i = x) w2 x (65552 + Q) (.int .u8 V) rfl).drew 1
    generalize (w2.setCell ⟨x, 65552 + Q, none⟩ (.int .u8 V)).drew = w3 at hD3 hc3 ⊢
    have d1 : w3.cell? ⟨x, 65537, none⟩ = some (.int .u64 s.t) := hD3.c_t
    have d2 := hD3.frz 65537
    have HS := Lib.hid (hD3.set 65537 (.int .u64 (s.t + 1)) (dset_time _ ph vd ea ee (s.t + 1) (frameV (s.frame + 1))) rfl rfl rfl HFN.out)
    clear hD3 hk c1 c2 f2
    go_wp2_with fail
    go_end0
    exact ⟨rfl, by rw [HN.out, hV]; exact HS.out, (Ch.of_below hb12).trans (hc3.trans (Ch.set (F := fun i => i = x) _ x 65537 _ rfl) (fun k hk => Or.inl hk)) (fun k hk => Or.inl (Or.inl hk))⟩
  | false =>
    have HX := Lib.hid (fun w => show Calls Tryd.prog 54 #[.int .i64 s.frame] w fun e w' => e = .returned (.tuple #[.int .u16 0, .int .i64 0, .bool false]) ∧ w = w' from refFetched_no s.frame w (by rw [frame_in f0 f1]; exact ho))
    have HN := Lib.hid (show nextS s = { s with t := s.t + 1, frame := frameV (s.frame + 1) } by unfold nextS; rw [ho]; rfl)
    clear ho
    go_enter Tryd.func36, Tryd.ntmps36
    go_wp2_with fail
    refine (HO.out).mono ?_
    rintro e w1 ⟨rfl, hb1⟩
    go_wp2_with fail
    refine (HFR.out _ hb1).mono ?_
    rintro e w2 ⟨rfl, hb2⟩
    have hb12 := below_step hb1 hb2
    clear hb1 hb2
    go_wp2_with fail
    refine (HX.out _).mono ?_
    rintro e w' ⟨rfl, rfl⟩
    have hD2 := HD.out _ hb12
    have c1 := hD2.c_t
    have f1 := hD2.frz 65537
    have HS := Lib.hid (hD2.set 65537 (.int .u64 (s.t + 1)) (dset_time s ph vd ea ee (s.t + 1) (frameV (s.frame + 1))) rfl rfl rfl HFN.out)
    clear hD2
    go_wp2_with fail
    go_end0
    exact ⟨rfl, by rw [HN.out]; exact HS.out, (Ch.of_below hb12).trans (Ch.set (F := fun i => i = x) _ x 65537 _ rfl) (fun k hk => Or.inl (Or.inl hk))⟩

end Go.Proofs.YtkcfacbnbjkheaaDoor
