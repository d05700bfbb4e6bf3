/- regs.Byte and PutByte: their contracts. -/
import Derived.Test.YteffjidbcdnbhaaDoorRegSpot
namespace Go.Proofs.YteffjidbcdnbhaaDoor
open Go.RowKit

def hiX (x : Rg) (i : Int) : Int := if i = 1 then x.ix / 256 else if i = 2 then x.iy / 256 else x.h
def loX (x : Rg) (i : Int) : Int := if i = 1 then x.ix % 256 else if i = 2 then x.iy % 256 else x.l
def byteV (x : Rg) (k i : Int) : Int := if k = 0 then x.b else if k = 1 then x.c else if k = 2 then x.d else if k = 3 then x.e else if k = 4 then hiX x i else if k = 5 then loX x i else if k = 7 then x.a else 0
def putHi (x : Rg) (i v : Int) : Rg := if i = 1 then { x with ix := v * 256 + x.ix % 256 } else if i = 2 then { x with iy := v * 256 + x.iy % 256 } else { x with h := v }
def putLo (x : Rg) (i v : Int) : Rg := if i = 1 then { x with ix := x.ix / 256 * 256 + v } else if i = 2 then { x with iy := x.iy / 256 * 256 + v } else { x with l := v }
def putV (x : Rg) (k i v : Int) : Rg := if k = 0 then { x with b := v } else if k = 1 then { x with c := v } else if k = 2 then { x with d := v } else if k = 3 then { x with e := v } else if k = 4 then putHi x i v else if k = 5 then putLo x i v else if k = 7 then { x with a := v } else x

theorem ne_of_off {i : Int} (h : offI i = none) : i ≠ 1 ∧ i ≠ 2 := by
  unfold offI at h
  refine ⟨fun e => ?_, fun e => ?_⟩
  · rw [if_pos e] at h; cases h
  · rw [if_neg (by omega), if_pos e] at h; cases h
theorem off_of (i : Int) : (i = 1 ∧ offI i = some 19) ∨ (i = 2 ∧ offI i = some 20) ∨ (i ≠ 1 ∧ i ≠ 2 ∧ offI i = none) := by
  by_cases h1 : i = 1
  · left; subst h1; exact ⟨rfl, rfl⟩
  by_cases h2 : i = 2
  · right; left; subst h2; exact ⟨rfl, rfl⟩
  · right; right; exact ⟨h1, h2, by unfold offI; rw [if_neg h1, if_neg h2]⟩
theorem offB_of (k : Int) : (k = 0 ∧ offB k = some 2) ∨ (k = 1 ∧ offB k = some 3) ∨ (k = 2 ∧ offB k = some 4) ∨ (k = 3 ∧ offB k = some 5) ∨ k = 4 ∨ k = 5 ∨ (k = 7 ∧ offB k = some 0) ∨ (k ≠ 0 ∧ k ≠ 1 ∧ k ≠ 2 ∧ k ≠ 3 ∧ k ≠ 4 ∧ k ≠ 5 ∧ k ≠ 7 ∧ offB k = none) := by
  by_cases h0 : k = 0
  · left; subst h0; exact ⟨rfl, rfl⟩
  by_cases h1 : k = 1
  · right; left; subst h1; exact ⟨rfl, rfl⟩
  by_cases h2 : k = 2
  · right; right; left; subst h2; exact ⟨rfl, rfl⟩
  by_cases h3 : k = 3
  · right; right; right; left; subst h3; exact ⟨rfl, rfl⟩
  by_cases h4 : k = 4
  · right; right; right; right; left; exact h4
  by_cases h5 : k = 5
  · right; right; right; right; right; left; exact h5
  by_cases h7 : k = 7
  · right; right; right; right; right; right; left; subst h7; exact ⟨rfl, rfl⟩
  · right; right; right; right; right; right; right
    exact ⟨h0, h1, h2, h3, h4, h5, h7, by unfold offB; rw [if_neg h0, if_neg h1, if_neg h2, if_neg h3, if_neg h4, if_neg h5, if_neg h7]⟩

set_option maxHeartbeats 400000 in
theorem byte_hi (b : Nat) (i : Int) (o : Nat) (n : Int) (w : World) (hi : offI i = some o) (hc : w.cell? ⟨b, o, none⟩ = some (.int .u16 n)) (n0 : 0 ≤ n) (n1 : n ≤ 65535) :
    Calls Tryd.prog 10 #[.pointer (some ⟨b, 0, none⟩), .int .i64 4, .int .i64 i] w fun e w' => e = .returned (.int .u8 (n / 256)) ∧ w = w' := by
  have HI := Lib.hid hi
  clear hi
  go_enter Tryd.func10, Tryd.ntmps10
  go_wp2_with fail
  refine (index_at _ _ o _ HI.out).mono ?_
  rintro e w' ⟨rfl, rfl⟩
  go_wp2_with fail
  refine (hi_any _ _ n0 n1).mono ?_
  rintro e w' ⟨rfl, rfl⟩
  go_wp2_with fail
  go_ret
  exact ⟨rfl, rfl⟩
set_option maxHeartbeats 400000 in
theorem byte_lo (b : Nat) (i : Int) (o : Nat) (n : Int) (w : World) (hi : offI i = some o) (hc : w.cell? ⟨b, o, none⟩ = some (.int .u16 n)) :
    Calls Tryd.prog 10 #[.pointer (some ⟨b, 0, none⟩), .int .i64 5, .int .i64 i] w fun e w' => e = .returned (.int .u8 (n % 256)) ∧ w = w' := by
  have HI := Lib.hid hi
  clear hi
  go_enter Tryd.func10, Tryd.ntmps10
  go_wp2_with fail
  refine (index_at _ _ o _ HI.out).mono ?_
  rintro e w' ⟨rfl, rfl⟩
  go_wp2_with fail
  refine (lo_any _ _).mono ?_
  rintro e w' ⟨rfl, rfl⟩
  go_wp2_with fail
  go_ret
  exact ⟨rfl, rfl⟩
set_option maxHeartbeats 800000 in
theorem byte_at (b : Nat) (k i : Int) (o : Nat) (n : Int) (w : World) (hk : offB k = some o) (h : (k ≠ 4 ∧ k ≠ 5) ∨ offI i = none) (hc : w.cell? ⟨b, o, none⟩ = some (.int .u8 n)) :
    Calls Tryd.prog 10 #[.pointer (some ⟨b, 0, none⟩), .int .i64 k, .int .i64 i] w fun e w' => e = .returned (.int .u8 n) ∧ w = w' := by
  have HK := Lib.hid hk
  clear hk
  rcases hi : offI i with _ | p
  · have HI := Lib.hid hi
    clear hi h
    go_enter Tryd.func10, Tryd.ntmps10
    go_wp2_with fail
    refine (index_no _ _ _ HI.out).mono ?_
    rintro e w' ⟨rfl, rfl⟩
    go_wp2_with fail
    refine (single_at _ _ o _ HK.out).mono ?_
    rintro e w' ⟨rfl, rfl⟩
    go_wp2_with fail
    go_ret
    exact ⟨rfl, rfl⟩
  · have HI := Lib.hid hi
    obtain ⟨h4, h5⟩ : k ≠ 4 ∧ k ≠ 5 := h.resolve_right (by rw [hi]; simp)
    have e4 : (k == 4) = false := by simpa using h4
    have e5 : (k == 5) = false := by simpa using h5
    clear hi h h4 h5
    go_enter Tryd.func10, Tryd.ntmps10
    go_wp2_with fail
    refine (index_at _ _ p _ HI.out).mono ?_
    rintro e w' ⟨rfl, rfl⟩
    go_wp2_with fail
    refine (single_at _ _ o _ HK.out).mono ?_
    rintro e w' ⟨rfl, rfl⟩
    go_wp2_with fail
    go_ret
    exact ⟨rfl, rfl⟩
set_option maxHeartbeats 800000 in
theorem byte_no (b : Nat) (k i : Int) (w : World) (hk : offB k = none) (h4 : k ≠ 4) (h5 : k ≠ 5) :
    Calls Tryd.prog 10 #[.pointer (some ⟨b, 0, none⟩), .int .i64 k, .int .i64 i] w fun e w' => e = .returned (.int .u8 0) ∧ w = w' := by
  have HK := Lib.hid hk
  have e4 : (k == 4) = false := by simpa using h4
  have e5 : (k == 5) = false := by simpa using h5
  clear hk h4 h5
  rcases hi : offI i with _ | p
  · have HI := Lib.hid hi
    clear hi
    go_enter Tryd.func10, Tryd.ntmps10
    go_wp2_with fail
    refine (index_no _ _ _ HI.out).mono ?_
    rintro e w' ⟨rfl, rfl⟩
    go_wp2_with fail
    refine (single_no _ _ _ HK.out).mono ?_
    rintro e w' ⟨rfl, rfl⟩
    go_wp2_with fail
    go_ret
    exact ⟨rfl, rfl⟩
  · have HI := Lib.hid hi
    clear hi
    go_enter Tryd.func10, Tryd.ntmps10
    go_wp2_with fail
    refine (index_at _ _ p _ HI.out).mono ?_
    rintro e w' ⟨rfl, rfl⟩
    go_wp2_with fail
    refine (single_no _ _ _ HK.out).mono ?_
    rintro e w' ⟨rfl, rfl⟩
    go_wp2_with fail
    go_ret
    exact ⟨rfl, rfl⟩
set_option maxHeartbeats 400000 in
theorem byte_nil (k i : Int) (w : World) : Calls Tryd.prog 10 #[.pointer none, .int .i64 k, .int .i64 i] w fun e w' => e = .returned (.int .u8 0) ∧ w = w' := by
  go_enter Tryd.func10, Tryd.ntmps10
  go_wp2_with fail
  refine (index_nil _ _).mono ?_
  rintro e w' ⟨rfl, rfl⟩
  go_wp2_with fail
  refine (single_nil _ _).mono ?_
  rintro e w' ⟨rfl, rfl⟩
  go_wp2_with fail
  go_ret
  exact ⟨rfl, rfl⟩
theorem byte_any (b : Nat) (x : Rg) (k i : Int) (w : World) (h : RegAt w b x) (ok : x.Ok) :
    Calls Tryd.prog 10 #[.pointer (some ⟨b, 0, none⟩), .int .i64 k, .int .i64 i] w fun e w' => e = .returned (.int .u8 (byteV x k i)) ∧ w = w' := by
  rcases offB_of k with ⟨rfl, hk⟩ | ⟨rfl, hk⟩ | ⟨rfl, hk⟩ | ⟨rfl, hk⟩ | rfl | rfl | ⟨rfl, hk⟩ | ⟨h0, h1, h2, h3, h4, h5, h7, hk⟩
  · exact byte_at b 0 i 2 _ w hk (Or.inl (by decide)) (h.cell 2 _ rfl)
  · exact byte_at b 1 i 3 _ w hk (Or.inl (by decide)) (h.cell 3 _ rfl)
  · exact byte_at b 2 i 4 _ w hk (Or.inl (by decide)) (h.cell 4 _ rfl)
  · exact byte_at b 3 i 5 _ w hk (Or.inl (by decide)) (h.cell 5 _ rfl)
  · rcases off_of i with ⟨rfl, hi⟩ | ⟨rfl, hi⟩ | ⟨h1, h2, hi⟩
    · exact byte_hi b 1 19 _ w hi (h.cell 19 _ rfl) ok.ix.1 ok.ix.2
    · exact byte_hi b 2 20 _ w hi (h.cell 20 _ rfl) ok.iy.1 ok.iy.2
    · rw [show byteV x 4 i = x.h by simp [byteV, hiX, h1, h2]]
      exact byte_at b 4 i 6 _ w rfl (Or.inr hi) (h.cell 6 _ rfl)
  · rcases off_of i with ⟨rfl, hi⟩ | ⟨rfl, hi⟩ | ⟨h1, h2, hi⟩
    · exact byte_lo b 1 19 _ w hi (h.cell 19 _ rfl)
    · exact byte_lo b 2 20 _ w hi (h.cell 20 _ rfl)
    · rw [show byteV x 5 i = x.l by simp [byteV, loX, h1, h2]]
      exact byte_at b 5 i 7 _ w rfl (Or.inr hi) (h.cell 7 _ rfl)
  · exact byte_at b 7 i 0 _ w hk (Or.inl (by decide)) (h.cell 0 _ rfl)
  · rw [show byteV x k i = 0 by simp [byteV, h0, h1, h2, h3, h4, h5, h7]]
    exact byte_no b k i w hk h4 h5

set_option maxHeartbeats 400000 in
theorem putByte_hi (b : Nat) (i : Int) (o : Nat) (n v : Int) (w : World) (hi : offI i = some o) (hc : w.cell? ⟨b, o, none⟩ = some (.int .u16 n)) (hf : w.frozen? ⟨b, o, none⟩ = false) (v0 : 0 ≤ v) (v1 : v ≤ 255) :
    Calls Tryd.prog 8 #[.pointer (some ⟨b, 0, none⟩), .int .i64 4, .int .i64 i, .int .u8 v] w fun e w' => e = .returned (.tuple #[]) ∧ w' = w.setCell ⟨b, o, none⟩ (.int .u16 (v * 256 + n % 256)) := by
  have HI := Lib.hid hi
  clear hi
  have l0 : 0 ≤ n % 256 := by omega
  have l1 : n % 256 ≤ 255 := by omega
  go_enter Tryd.func8, Tryd.ntmps8
  go_wp2_with fail
  refine (index_at _ _ o _ HI.out).mono ?_
  rintro e w' ⟨rfl, rfl⟩
  go_wp2_with fail
  refine (lo_any _ _).mono ?_
  rintro e w' ⟨rfl, rfl⟩
  go_wp2_with fail
  refine (word_any _ _ _ v0 v1 l0 l1).mono ?_
  rintro e w' ⟨rfl, rfl⟩
  go_wp2_with fail
  refine bodyPost_ret (results_none rfl _ _ _) rfl ?_
  exact ⟨rfl, rfl⟩
set_option maxHeartbeats 400000 in
theorem putByte_lo (b : Nat) (i : Int) (o : Nat) (n v : Int) (w : World) (hi : offI i = some o) (hc : w.cell? ⟨b, o, none⟩ = some (.int .u16 n)) (hf : w.frozen? ⟨b, o, none⟩ = false) (n0 : 0 ≤ n) (n1 : n ≤ 65535) (v0 : 0 ≤ v) (v1 : v ≤ 255) :
    Calls Tryd.prog 8 #[.pointer (some ⟨b, 0, none⟩), .int .i64 5, .int .i64 i, .int .u8 v] w fun e w' => e = .returned (.tuple #[]) ∧ w' = w.setCell ⟨b, o, none⟩ (.int .u16 (n / 256 * 256 + v)) := by
  have HI := Lib.hid hi
  clear hi
  have l0 : 0 ≤ n / 256 := by omega
  have l1 : n / 256 ≤ 255 := by omega
  go_enter Tryd.func8, Tryd.ntmps8
  go_wp2_with fail
  refine (index_at _ _ o _ HI.out).mono ?_
  rintro e w' ⟨rfl, rfl⟩
  go_wp2_with fail
  refine (hi_any _ _ n0 n1).mono ?_
  rintro e w' ⟨rfl, rfl⟩
  go_wp2_with fail
  refine (word_any _ _ _ l0 l1 v0 v1).mono ?_
  rintro e w' ⟨rfl, rfl⟩
  go_wp2_with fail
  refine bodyPost_ret (results_none rfl _ _ _) rfl ?_
  exact ⟨rfl, rfl⟩
set_option maxHeartbeats 800000 in
theorem putByte_at (b : Nat) (k i : Int) (o : Nat) (n v : Int) (w : World) (hk : offB k = some o) (h : (k ≠ 4 ∧ k ≠ 5) ∨ offI i = none) (hc : w.cell? ⟨b, o, none⟩ = some (.int .u8 n)) (hf : w.frozen? ⟨b, o, none⟩ = false) :
    Calls Tryd.prog 8 #[.pointer (some ⟨b, 0, none⟩), .int .i64 k, .int .i64 i, .int .u8 v] w fun e w' => e = .returned (.tuple #[]) ∧ w' = w.setCell ⟨b, o, none⟩ (.int .u8 v) := by
  have HK := Lib.hid hk
  clear hk
  rcases hi : offI i with _ | p
  · have HI := Lib.hid hi
    clear hi h
    go_enter Tryd.func8, Tryd.ntmps8
    go_wp2_with fail
    refine (index_no _ _ _ HI.out).mono ?_
    rintro e w' ⟨rfl, rfl⟩
    go_wp2_with fail
    refine (single_at _ _ o _ HK.out).mono ?_
    rintro e w' ⟨rfl, rfl⟩
    go_wp2_with fail
    go_end0
    exact ⟨rfl, rfl⟩
  · have HI := Lib.hid hi
    obtain ⟨h4, h5⟩ : k ≠ 4 ∧ k ≠ 5 := h.resolve_right (by rw [hi]; simp)
    have e4 : (k == 4) = false := by simpa using h4
    have e5 : (k == 5) = false := by simpa using h5
    clear hi h h4 h5
    go_enter Tryd.func8, Tryd.ntmps8
    go_wp2_with fail
    refine (index_at _ _ p _ HI.out).mono ?_
    rintro e w' ⟨rfl, rfl⟩
    go_wp2_with fail
    refine (single_at _ _ o _ HK.out).mono ?_
    rintro e w' ⟨rfl, rfl⟩
    go_wp2_with fail
    go_end0
    exact ⟨rfl, rfl⟩
set_option maxHeartbeats 800000 in
theorem putByte_no (b : Nat) (k i v : Int) (w : World) (hk : offB k = none) (h4 : k ≠ 4) (h5 : k ≠ 5) :
    Calls Tryd.prog 8 #[.pointer (some ⟨b, 0, none⟩), .int .i64 k, .int .i64 i, .int .u8 v] w fun e w' => e = .returned (.tuple #[]) ∧ w' = w := by
  have HK := Lib.hid hk
  have e4 : (k == 4) = false := by simpa using h4
  have e5 : (k == 5) = false := by simpa using h5
  clear hk h4 h5
  rcases hi : offI i with _ | p
  · have HI := Lib.hid hi
    clear hi
    go_enter Tryd.func8, Tryd.ntmps8
    go_wp2_with fail
    refine (index_no _ _ _ HI.out).mono ?_
    rintro e w' ⟨rfl, rfl⟩
    go_wp2_with fail
    refine (single_no _ _ _ HK.out).mono ?_
    rintro e w' ⟨rfl, rfl⟩
    go_wp2_with fail
    go_end0
    exact ⟨rfl, rfl⟩
  · have HI := Lib.hid hi
    clear hi
    go_enter Tryd.func8, Tryd.ntmps8
    go_wp2_with fail
    refine (index_at _ _ p _ HI.out).mono ?_
    rintro e w' ⟨rfl, rfl⟩
    go_wp2_with fail
    refine (single_no _ _ _ HK.out).mono ?_
    rintro e w' ⟨rfl, rfl⟩
    go_wp2_with fail
    go_end0
    exact ⟨rfl, rfl⟩
set_option maxHeartbeats 400000 in
theorem putByte_nil (k i v : Int) (w : World) : Calls Tryd.prog 8 #[.pointer none, .int .i64 k, .int .i64 i, .int .u8 v] w fun e w' => e = .returned (.tuple #[]) ∧ w = w' := by
  go_enter Tryd.func8, Tryd.ntmps8
  go_wp2_with fail
  refine (index_nil _ _).mono ?_
  rintro e w' ⟨rfl, rfl⟩
  go_wp2_with fail
  refine (single_nil _ _).mono ?_
  rintro e w' ⟨rfl, rfl⟩
  go_wp2_with fail
  go_end0
  exact ⟨rfl, rfl⟩

/-- What a call that writes registers at b leaves. -/
def Puts (b : Nat) (y : Rg) (w : World) (e : Ending) (w' : World) : Prop := e = .returned (.tuple #[]) ∧ Wrote b w w' ∧ RegAt w' b y
theorem puts_of {b : Nat} {x y : Rg} {w : World} {f : FuncId} {args : Array Value} (h : RegAt w b x) (o : Nat) (v : Value) (ho : o < 30) (hy : y.cells = x.cells.set o v)
    (hc : Calls Tryd.prog f args w fun e w' => e = .returned (.tuple #[]) ∧ w' = w.setCell ⟨b, o, none⟩ v) : Calls Tryd.prog f args w (Puts b y w) :=
  hc.mono fun _ _ ⟨he, hw⟩ => ⟨he, hw ▸ Wrote.setCell _ _ _ _, hw ▸ h.set o v ho hy⟩
theorem putByte_any (b : Nat) (x : Rg) (k i v : Int) (w : World) (h : RegAt w b x) (ok : x.Ok) (v0 : 0 ≤ v) (v1 : v ≤ 255) :
    Calls Tryd.prog 8 #[.pointer (some ⟨b, 0, none⟩), .int .i64 k, .int .i64 i, .int .u8 v] w (Puts b (putV x k i v) w) := by
  rcases offB_of k with ⟨rfl, hk⟩ | ⟨rfl, hk⟩ | ⟨rfl, hk⟩ | ⟨rfl, hk⟩ | rfl | rfl | ⟨rfl, hk⟩ | ⟨h0, h1, h2, h3, h4, h5, h7, hk⟩
  · exact puts_of h 2 _ (by decide) rfl (putByte_at b 0 i 2 _ v w hk (Or.inl (by decide)) (h.cell 2 _ rfl) (h.free _))
  · exact puts_of h 3 _ (by decide) rfl (putByte_at b 1 i 3 _ v w hk (Or.inl (by decide)) (h.cell 3 _ rfl) (h.free _))
  · exact puts_of h 4 _ (by decide) rfl (putByte_at b 2 i 4 _ v w hk (Or.inl (by decide)) (h.cell 4 _ rfl) (h.free _))
  · exact puts_of h 5 _ (by decide) rfl (putByte_at b 3 i 5 _ v w hk (Or.inl (by decide)) (h.cell 5 _ rfl) (h.free _))
  · rcases off_of i with ⟨rfl, hi⟩ | ⟨rfl, hi⟩ | ⟨h1, h2, hi⟩
    · exact puts_of h 19 _ (by decide) rfl (putByte_hi b 1 19 _ v w hi (h.cell 19 _ rfl) (h.free _) v0 v1)
    · exact puts_of h 20 _ (by decide) rfl (putByte_hi b 2 20 _ v w hi (h.cell 20 _ rfl) (h.free _) v0 v1)
    · rw [show putV x 4 i v = { x with h := v } by simp [putV, putHi, h1, h2]]
      exact puts_of h 6 _ (by decide) rfl (putByte_at b 4 i 6 _ v w rfl (Or.inr hi) (h.cell 6 _ rfl) (h.free _))
  · rcases off_of i with ⟨rfl, hi⟩ | ⟨rfl, hi⟩ | ⟨h1, h2, hi⟩
    · exact puts_of h 19 _ (by decide) rfl (putByte_lo b 1 19 _ v w hi (h.cell 19 _ rfl) (h.free _) ok.ix.1 ok.ix.2 v0 v1)
    · exact puts_of h 20 _ (by decide) rfl (putByte_lo b 2 20 _ v w hi (h.cell 20 _ rfl) (h.free _) ok.iy.1 ok.iy.2 v0 v1)
    · rw [show putV x 5 i v = { x with l := v } by simp [putV, putLo, h1, h2]]
      exact puts_of h 7 _ (by decide) rfl (putByte_at b 5 i 7 _ v w rfl (Or.inr hi) (h.cell 7 _ rfl) (h.free _))
  · exact puts_of h 0 _ (by decide) rfl (putByte_at b 7 i 0 _ v w hk (Or.inl (by decide)) (h.cell 0 _ rfl) (h.free _))
  · rw [show putV x k i v = x by simp [putV, h0, h1, h2, h3, h4, h5, h7]]
    exact (putByte_no b k i v w hk h4 h5).mono fun _ _ ⟨he, hw⟩ => ⟨he, hw ▸ Wrote.refl _ _, hw ▸ h⟩

end Go.Proofs.YteffjidbcdnbhaaDoor
