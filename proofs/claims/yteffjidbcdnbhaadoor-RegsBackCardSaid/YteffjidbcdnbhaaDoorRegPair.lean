/- regs.Pair, PutPair, Af, PutAf, Ir, Tick: their contracts. -/
import Derived.Test.YteffjidbcdnbhaaDoorRegByte
import Derived.Deep.QuietTactic
import Derived.BigQuiet
import Derived.RegionTactic
namespace Go.Proofs.YteffjidbcdnbhaaDoor
open Go.RowKit

def pairV (x : Rg) (k i : Int) : Int := if k = 0 then x.b * 256 + x.c else if k = 1 then x.d * 256 + x.e else if k = 2 then (if i = 1 then x.ix else if i = 2 then x.iy else x.h * 256 + x.l) else if k = 3 then x.sp else 0
def putPairV (x : Rg) (k i n : Int) : Rg := if k = 0 then { x with b := n / 256, c := n % 256 } else if k = 1 then { x with d := n / 256, e := n % 256 } else if k = 2 then (if i = 1 then { x with ix := n } else if i = 2 then { x with iy := n } else { x with h := n / 256, l := n % 256 }) else if k = 3 then { x with sp := n } else x

theorem below_drewN (w : World) (n : Nat) : Below w.heap.size w (w.drewN n) := ⟨rfl, rfl, rfl, Nat.le_refl _, fun _ _ => rfl⟩
theorem quiet_eq {P : Program} {f : FuncId} {args : Array Value} {w : World} {n : Nat} {v : Value} (h : Calls P f args (w.drewN n) fun e w' => e = .returned v ∧ w.drewN n = w') : Calls P f args (w.drewN n) fun e w'' => e = .returned v ∧ ∃ m, w'' = w.drewN m :=
  h.mono fun _ _ ⟨he, hm⟩ => ⟨he, n, hm.symm⟩

set_option maxHeartbeats 400000 in
theorem pair_word (b : Nat) (k i : Int) (o : Nat) (n : Int) (w : World) (hk : offW k i = some o) (hc : w.cell? ⟨b, o, none⟩ = some (.int .u16 n)) :
    Calls Tryd.prog 15 #[.pointer (some ⟨b, 0, none⟩), .int .i64 k, .int .i64 i] w fun e w' => e = .returned (.int .u16 n) ∧ Below w.heap.size w w' := by
  have HK := Lib.hid hk
  clear hk
  go_enter Tryd.func15, Tryd.ntmps15
  go_wp2_with fail
  refine (wordAt_at _ _ _ o _ HK.out).mono ?_
  rintro e w' ⟨rfl, rfl⟩
  go_wp2_with fail
  go_ret
  exact ⟨rfl, Below.refl _ _⟩
set_option maxHeartbeats 400000 in
theorem pair_two (b : Nat) (k i : Int) (o p : Nat) (m n r : Int) (w : World) (hk : offW k i = none) (hp : offP k = some (o, p)) (ho : w.cell? ⟨b, o, none⟩ = some (.int .u8 m)) (hc : w.cell? ⟨b, p, none⟩ = some (.int .u8 n)) (m8 : B8 m) (n8 : B8 n) (hr : m * 256 + n = r) :
    Calls Tryd.prog 15 #[.pointer (some ⟨b, 0, none⟩), .int .i64 k, .int .i64 i] w fun e w' => e = .returned (.int .u16 r) ∧ Below w.heap.size w w' := by
  have HK := Lib.hid hk
  have HP := Lib.hid hp
  have M8 := Lib.hid m8
  have N8 := Lib.hid n8
  have HW := Lib.hid (fun w => word_any m n w m8.1 m8.2 n8.1 n8.2)
  rw [hr] at HW
  clear hk hp m8 n8 hr
  go_enter Tryd.func15, Tryd.ntmps15
  go_wp2_with fail
  refine (wordAt_no _ _ _ _ HK.out).mono ?_
  rintro e w' ⟨rfl, rfl⟩
  go_wp2_with fail
  refine (halves_at _ _ o p _ HP.out).mono ?_
  rintro e w' ⟨rfl, rfl⟩
  go_wp2_with fail
  go_quiet ((go_at_call 29; exact quiet_eq (HW.out _)))
  go_wp2_with fail
  go_ret
  exact ⟨rfl, below_drewN _ _⟩
set_option maxHeartbeats 400000 in
theorem pair_no (b : Nat) (k i : Int) (w : World) (hk : offW k i = none) (h0 : k ≠ 0) (h1 : k ≠ 1) (h2 : k ≠ 2) :
    Calls Tryd.prog 15 #[.pointer (some ⟨b, 0, none⟩), .int .i64 k, .int .i64 i] w fun e w' => e = .returned (.int .u16 0) ∧ Below w.heap.size w w' := by
  have HK := Lib.hid hk
  have HN := Lib.hid (fun w => halves_no b k w h0 h1 h2)
  clear hk h0 h1 h2
  go_enter Tryd.func15, Tryd.ntmps15
  go_wp2_with fail
  refine (wordAt_no _ _ _ _ HK.out).mono ?_
  rintro e w' ⟨rfl, rfl⟩
  go_wp2_with fail
  refine (HN.out _).mono ?_
  rintro e w' ⟨rfl, rfl⟩
  go_wp2_with fail
  go_ret
  exact ⟨rfl, Below.refl _ _⟩
set_option maxHeartbeats 400000 in
theorem pair_nil (k i : Int) (w : World) : Calls Tryd.prog 15 #[.pointer none, .int .i64 k, .int .i64 i] w fun e w' => e = .returned (.int .u16 0) ∧ w = w' := by
  go_enter Tryd.func15, Tryd.ntmps15
  go_wp2_with fail
  refine (wordAt_nil _ _ _).mono ?_
  rintro e w' ⟨rfl, rfl⟩
  go_wp2_with fail
  refine (halves_nil _ _).mono ?_
  rintro e w' ⟨rfl, rfl⟩
  go_wp2_with fail
  go_ret
  exact ⟨rfl, rfl⟩

theorem pairs_of (k i : Int) : (k = 0 ∧ offW k i = none) ∨ (k = 1 ∧ offW k i = none) ∨ (k = 2 ∧ i = 1 ∧ offW k i = some 19) ∨ (k = 2 ∧ i = 2 ∧ offW k i = some 20) ∨ (k = 2 ∧ i ≠ 1 ∧ i ≠ 2 ∧ offW k i = none) ∨ (k = 3 ∧ offW k i = some 21) ∨ (k ≠ 0 ∧ k ≠ 1 ∧ k ≠ 2 ∧ k ≠ 3 ∧ offW k i = none) := by
  by_cases h0 : k = 0
  · left; subst h0; exact ⟨rfl, rfl⟩
  by_cases h1 : k = 1
  · right; left; subst h1; exact ⟨rfl, rfl⟩
  by_cases h2 : k = 2
  · subst h2
    rcases off_of i with ⟨e, h⟩ | ⟨e, h⟩ | ⟨e1, e2, h⟩
    · right; right; left; exact ⟨rfl, e, h⟩
    · right; right; right; left; exact ⟨rfl, e, h⟩
    · right; right; right; right; left; exact ⟨rfl, e1, e2, h⟩
  by_cases h3 : k = 3
  · right; right; right; right; right; left; subst h3; exact ⟨rfl, rfl⟩
  · right; right; right; right; right; right
    exact ⟨h0, h1, h2, h3, by unfold offW; rw [if_neg h2, if_neg h3]⟩
theorem pair_any (b : Nat) (x : Rg) (k i : Int) (w : World) (h : RegAt w b x) (ok : x.Ok) :
    Calls Tryd.prog 15 #[.pointer (some ⟨b, 0, none⟩), .int .i64 k, .int .i64 i] w fun e w' => e = .returned (.int .u16 (pairV x k i)) ∧ Below w.heap.size w w' := by
  rcases pairs_of k i with ⟨rfl, hk⟩ | ⟨rfl, hk⟩ | ⟨rfl, rfl, hk⟩ | ⟨rfl, rfl, hk⟩ | ⟨rfl, h1, h2, hk⟩ | ⟨rfl, hk⟩ | ⟨h0, h1, h2, h3, hk⟩
  · exact pair_two b 0 i 2 3 _ _ _ w hk rfl (h.cell 2 _ rfl) (h.cell 3 _ rfl) ok.b ok.c rfl
  · exact pair_two b 1 i 4 5 _ _ _ w hk rfl (h.cell 4 _ rfl) (h.cell 5 _ rfl) ok.d ok.e rfl
  · exact pair_word b 2 1 19 _ w hk (h.cell 19 _ rfl)
  · exact pair_word b 2 2 20 _ w hk (h.cell 20 _ rfl)
  · rw [show pairV x 2 i = x.h * 256 + x.l by simp [pairV, h1, h2]]
    exact pair_two b 2 i 6 7 _ _ _ w hk rfl (h.cell 6 _ rfl) (h.cell 7 _ rfl) ok.h ok.l rfl
  · exact pair_word b 3 i 21 _ w hk (h.cell 21 _ rfl)
  · rw [show pairV x k i = 0 by simp [pairV, h0, h1, h2, h3]]
    exact pair_no b k i w hk h0 h1 h2

set_option maxHeartbeats 400000 in
theorem putPair_word (b : Nat) (k i : Int) (o : Nat) (m n : Int) (w : World) (hk : offW k i = some o) (hc : w.cell? ⟨b, o, none⟩ = some (.int .u16 m)) (hf : w.frozen? ⟨b, o, none⟩ = false) :
    Calls Tryd.prog 13 #[.pointer (some ⟨b, 0, none⟩), .int .i64 k, .int .i64 i, .int .u16 n] w fun e w' => e = .returned (.tuple #[]) ∧ w' = w.setCell ⟨b, o, none⟩ (.int .u16 n) := by
  have HK := Lib.hid hk
  clear hk
  go_enter Tryd.func13, Tryd.ntmps13
  go_wp2_with fail
  refine (wordAt_at _ _ _ o _ HK.out).mono ?_
  rintro e w' ⟨rfl, rfl⟩
  go_wp2_with fail
  refine bodyPost_ret (results_none rfl _ _ _) rfl ?_
  exact ⟨rfl, rfl⟩
set_option maxHeartbeats 800000 in
theorem putPair_two (b : Nat) (k i : Int) (o p : Nat) (u v n : Int) (w : World) (hk : offW k i = none) (hp : offP k = some (o, p)) (ho : w.cell? ⟨b, o, none⟩ = some (.int .u8 u)) (hc : w.cell? ⟨b, p, none⟩ = some (.int .u8 v))
    (hf : w.frozen? ⟨b, o, none⟩ = false) (hg : w.frozen? ⟨b, p, none⟩ = false) (hne : o ≠ p) (n0 : 0 ≤ n) (n1 : n ≤ 65535) :
    Calls Tryd.prog 13 #[.pointer (some ⟨b, 0, none⟩), .int .i64 k, .int .i64 i, .int .u16 n] w fun e w' => e = .returned (.tuple #[]) ∧ w' = (w.setCell ⟨b, o, none⟩ (.int .u8 (n / 256))).setCell ⟨b, p, none⟩ (.int .u8 (n % 256)) := by
  have HK := Lib.hid hk
  have HP := Lib.hid hp
  have hc2 : (w.setCell ⟨b, o, none⟩ (.int .u8 (n / 256))).cell? ⟨b, p, none⟩ = some (.int .u8 v) := by
    rw [World.cell?_setCell_other _ _ _ _ (by intro hh; injection hh with _ h2; exact hne h2)]; exact hc
  clear hk hp
  go_enter Tryd.func13, Tryd.ntmps13
  go_wp2_with fail
  refine (wordAt_no _ _ _ _ HK.out).mono ?_
  rintro e w' ⟨rfl, rfl⟩
  go_wp2_with fail
  refine (halves_at _ _ o p _ HP.out).mono ?_
  rintro e w' ⟨rfl, rfl⟩
  go_wp2_with fail
  refine (hi_any _ _ n0 n1).mono ?_
  rintro e w' ⟨rfl, rfl⟩
  go_wp2_with fail
  refine (lo_any _ _).mono ?_
  rintro e w' ⟨rfl, rfl⟩
  go_wp2_with fail
  go_end0
  exact ⟨rfl, rfl⟩
set_option maxHeartbeats 400000 in
theorem putPair_no (b : Nat) (k i n : Int) (w : World) (hk : offW k i = none) (h0 : k ≠ 0) (h1 : k ≠ 1) (h2 : k ≠ 2) :
    Calls Tryd.prog 13 #[.pointer (some ⟨b, 0, none⟩), .int .i64 k, .int .i64 i, .int .u16 n] w fun e w' => e = .returned (.tuple #[]) ∧ w' = w := by
  have HK := Lib.hid hk
  have HN := Lib.hid (fun w => halves_no b k w h0 h1 h2)
  clear hk h0 h1 h2
  go_enter Tryd.func13, Tryd.ntmps13
  go_wp2_with fail
  refine (wordAt_no _ _ _ _ HK.out).mono ?_
  rintro e w' ⟨rfl, rfl⟩
  go_wp2_with fail
  refine (HN.out _).mono ?_
  rintro e w' ⟨rfl, rfl⟩
  go_wp2_with fail
  go_end0
  exact ⟨rfl, rfl⟩
set_option maxHeartbeats 400000 in
theorem putPair_nil (k i n : Int) (w : World) : Calls Tryd.prog 13 #[.pointer none, .int .i64 k, .int .i64 i, .int .u16 n] w fun e w' => e = .returned (.tuple #[]) ∧ w = w' := by
  go_enter Tryd.func13, Tryd.ntmps13
  go_wp2_with fail
  refine (wordAt_nil _ _ _).mono ?_
  rintro e w' ⟨rfl, rfl⟩
  go_wp2_with fail
  refine (halves_nil _ _).mono ?_
  rintro e w' ⟨rfl, rfl⟩
  go_wp2_with fail
  go_end0
  exact ⟨rfl, rfl⟩
theorem puts_two {b : Nat} {x z y : Rg} {w : World} {f : FuncId} {args : Array Value} (h : RegAt w b x) (o p : Nat) (u v : Value) (ho : o < 30) (hp : p < 30) (hz : z.cells = x.cells.set o u) (hy : y.cells = z.cells.set p v)
    (hc : Calls Tryd.prog f args w fun e w' => e = .returned (.tuple #[]) ∧ w' = (w.setCell ⟨b, o, none⟩ u).setCell ⟨b, p, none⟩ v) : Calls Tryd.prog f args w (Puts b y w) :=
  hc.mono fun _ _ ⟨he, hw⟩ => ⟨he, hw ▸ (Wrote.setCell _ _ _ _).trans (Wrote.setCell _ _ _ _), hw ▸ (h.set o u ho hz).set p v hp hy⟩
theorem putPair_any (b : Nat) (x : Rg) (k i n : Int) (w : World) (h : RegAt w b x) (n0 : 0 ≤ n) (n1 : n ≤ 65535) :
    Calls Tryd.prog 13 #[.pointer (some ⟨b, 0, none⟩), .int .i64 k, .int .i64 i, .int .u16 n] w (Puts b (putPairV x k i n) w) := by
  rcases pairs_of k i with ⟨rfl, hk⟩ | ⟨rfl, hk⟩ | ⟨rfl, rfl, hk⟩ | ⟨rfl, rfl, hk⟩ | ⟨rfl, h1, h2, hk⟩ | ⟨rfl, hk⟩ | ⟨h0, h1, h2, h3, hk⟩
  · exact puts_two (z := { x with b := n / 256 }) h 2 3 _ _ (by decide) (by decide) rfl rfl (putPair_two b 0 i 2 3 _ _ n w hk rfl (h.cell 2 _ rfl) (h.cell 3 _ rfl) (h.free _) (h.free _) (by decide) n0 n1)
  · exact puts_two (z := { x with d := n / 256 }) h 4 5 _ _ (by decide) (by decide) rfl rfl (putPair_two b 1 i 4 5 _ _ n w hk rfl (h.cell 4 _ rfl) (h.cell 5 _ rfl) (h.free _) (h.free _) (by decide) n0 n1)
  · exact puts_of h 19 _ (by decide) rfl (putPair_word b 2 1 19 _ n w hk (h.cell 19 _ rfl) (h.free _))
  · exact puts_of h 20 _ (by decide) rfl (putPair_word b 2 2 20 _ n w hk (h.cell 20 _ rfl) (h.free _))
  · rw [show putPairV x 2 i n = { x with h := n / 256, l := n % 256 } by simp [putPairV, h1, h2]]
    exact puts_two (z := { x with h := n / 256 }) h 6 7 _ _ (by decide) (by decide) rfl rfl (putPair_two b 2 i 6 7 _ _ n w hk rfl (h.cell 6 _ rfl) (h.cell 7 _ rfl) (h.free _) (h.free _) (by decide) n0 n1)
  · exact puts_of h 21 _ (by decide) rfl (putPair_word b 3 i 21 _ n w hk (h.cell 21 _ rfl) (h.free _))
  · rw [show putPairV x k i n = x by simp [putPairV, h0, h1, h2, h3]]
    exact (putPair_no b k i n w hk h0 h1 h2).mono fun _ _ ⟨he, hw⟩ => ⟨he, hw ▸ Wrote.refl _ _, hw ▸ h⟩

set_option maxHeartbeats 400000 in
theorem af_any (b : Nat) (x : Rg) (w : World) (h : RegAt w b x) (ok : x.Ok) : Calls Tryd.prog 18 #[.pointer (some ⟨b, 0, none⟩)] w fun e w' => e = .returned (.int .u16 (x.a * 256 + x.f)) ∧ Below w.heap.size w w' := by
  have c0 := h.cell 0 _ rfl
  have c1 := h.cell 1 _ rfl
  have HW := Lib.hid (fun w => word_any x.a x.f w ok.a.1 ok.a.2 ok.f.1 ok.f.2)
  clear h ok
  go_enter Tryd.func18, Tryd.ntmps18
  go_wp2_with fail
  go_quiet ((go_at_call 29; exact quiet_eq (HW.out _)))
  go_wp2_with fail
  go_ret
  exact ⟨rfl, below_drewN _ _⟩
set_option maxHeartbeats 400000 in
theorem af_nil (w : World) : Calls Tryd.prog 18 #[.pointer none] w fun e w' => e = .returned (.int .u16 0) ∧ w = w' := by
  go_enter Tryd.func18, Tryd.ntmps18
  go_wp2_with fail
  go_ret
  exact ⟨rfl, rfl⟩
set_option maxHeartbeats 400000 in
theorem ir_any (b : Nat) (x : Rg) (w : World) (h : RegAt w b x) (ok : x.Ok) : Calls Tryd.prog 21 #[.pointer (some ⟨b, 0, none⟩)] w fun e w' => e = .returned (.int .u16 (x.i * 256 + x.r)) ∧ Below w.heap.size w w' := by
  have c0 := h.cell 16 _ rfl
  have c1 := h.cell 17 _ rfl
  have HW := Lib.hid (fun w => word_any x.i x.r w ok.i.1 ok.i.2 ok.r.1 ok.r.2)
  clear h ok
  go_enter Tryd.func21, Tryd.ntmps21
  go_wp2_with fail
  go_quiet ((go_at_call 29; exact quiet_eq (HW.out _)))
  go_wp2_with fail
  go_ret
  exact ⟨rfl, below_drewN _ _⟩
set_option maxHeartbeats 400000 in
theorem ir_nil (w : World) : Calls Tryd.prog 21 #[.pointer none] w fun e w' => e = .returned (.int .u16 0) ∧ w = w' := by
  go_enter Tryd.func21, Tryd.ntmps21
  go_wp2_with fail
  go_ret
  exact ⟨rfl, rfl⟩
set_option maxHeartbeats 400000 in
theorem putAf_any (b : Nat) (x : Rg) (n : Int) (w : World) (h : RegAt w b x) (n0 : 0 ≤ n) (n1 : n ≤ 65535) : Calls Tryd.prog 14 #[.pointer (some ⟨b, 0, none⟩), .int .u16 n] w (Puts b { x with a := n / 256, f := n % 256 } w) := by
  refine puts_two (z := { x with a := n / 256 }) h 0 1 _ _ (by decide) (by decide) rfl rfl ?_
  have c0 := h.cell 0 _ rfl
  have c1 := h.cell 1 _ rfl
  have f0 := h.free 0
  have f1 := h.free 1
  clear h
  go_enter Tryd.func14, Tryd.ntmps14
  go_wp2_with fail
  refine (hi_any _ _ n0 n1).mono ?_
  rintro e w' ⟨rfl, rfl⟩
  go_wp2_with fail
  refine (lo_any _ _).mono ?_
  rintro e w' ⟨rfl, rfl⟩
  go_wp2_with fail
  go_end0
  exact ⟨rfl, rfl⟩
set_option maxHeartbeats 400000 in
theorem putAf_nil (n : Int) (w : World) : Calls Tryd.prog 14 #[.pointer none, .int .u16 n] w fun e w' => e = .returned (.tuple #[]) ∧ w = w' := by
  go_enter Tryd.func14, Tryd.ntmps14
  go_wp2_with fail
  refine bodyPost_ret (results_none rfl _ _ _) rfl ?_
  exact ⟨rfl, rfl⟩

end Go.Proofs.YteffjidbcdnbhaaDoor
