/- A fault's text; the document's Digits; what is told of nil. -/
import Derived.Test.YtliohkgaonnioaaDoorWireLives
import Derived.Test.YtliohkgaonnioaaDoorDecMath
import Derived.Test.YtliohkgaonnioaaDoorShelf
import Derived.Deep.RegionHeld3
import Derived.Lib.AppendIntMem
import Derived.LoopTactic
namespace Go.Proofs.YtliohkgaonnioaaDoor
open Go.RowKit
set_option linter.unusedVariables false
set_option linter.unusedSimpArgs false

/-- The library's table of powers. -/
def Pows (w : World) : Prop := Lib.TabIs Tryd.prog w "internal/strconv.uint64pow10" .u64 Lib.pow10Tab
theorem Pows.below {w w' : World} (h : Pows w) (hb : Below w.heap.size w w') : Pows w' := Lib.tabBelow_of_tabIs h w' hb
theorem grown_below (w : World) (k : Nat) (os : Array Obj) : Below w.heap.size w (Go.Sort.grow (w.drewN k) os) := by
  refine ⟨rfl, rfl, rfl, ?_, fun j hj => ?_⟩
  · show w.heap.size ≤ (w.heap ++ os).size
    rw [Array.size_append]; omega
  · show (w.heap ++ os)[j]? = w.heap[j]?
    rw [Array.getElem?_append_left hj]
theorem itoa_any (n : Int) (T : ByteArray) (w : World) (h : Pows w) (h0 : -9223372036854775808 ≤ n) (h1 : n ≤ 9223372036854775807) (hT : strL (Lib.itoa n) = T) :
    Calls Tryd.prog 20 #[.int .i64 n] w fun e w' => e = .returned (.string T) ∧ Below w.heap.size w w' := by
  subst hT
  exact (Tryd.strconv_Itoa n h0 h1 w h).mono fun e w' ⟨he, k, os, hw⟩ => ⟨he, by rw [hw]; exact grown_below w k os⟩
set_option maxRecDepth 100000 in
set_option maxHeartbeats 800000 in
theorem digits_any (n : Nat) (w : World) (hn : n ≤ 1000000) : Calls Tryd.prog 8 #[.int .i64 n] w fun e w' => e = .returned (.string (strL (Lib.decDigits n))) ∧ w = w' := by
  have hx0 := dec_sub (n % 10) (by omega)
  have hm0 : (n : Int) % 10 = ((n % 10 : Nat) : Int) := by omega
  obtain ⟨d, hd⟩ : ∃ d, n % 10 = d := ⟨_, rfl⟩
  have HD := Lib.hid (show Lib.decDigits n = decUp n ++ [dgB d] by rw [← hd]; exact decUp_at n)
  have HL := Lib.hid (dec_len_le n)
  rw [hd] at hx0 hm0
  have d10 : d < 10 := by omega
  clear hd
  go_enter Tryd.func8, Tryd.ntmps8
  go_wp2_with fail
  clear hx0 hm0
  go_loop [0, 4] (fun u s => ∃ (m : Nat) (T : List UInt8), u = .int .i64 m ∧ m ≤ 1000000 ∧ s = .string (strL T) ∧ Hid (Lib.decDigits n = decUp m ++ T)) (fun u _ => (intOf u).toNat)
  case atStart => exact ⟨n, [dgB d], rfl, hn, rfl, HD⟩
  case round =>
    obtain ⟨m, T, rfl, hm, rfl, HE⟩ := hrel
    have tl : (strL T).size ≤ 1000001 := by
      rw [strL_size]
      have h1 := HL.out
      rw [HE.out, List.length_append] at h1
      omega
    by_cases hlt : 10 ≤ m
    · obtain ⟨q, hq⟩ : ∃ q, m / 10 = q := ⟨_, rfl⟩
      have hq' : (m : Int) / 10 = (q : Int) := by omega
      obtain ⟨c, hc⟩ : ∃ c, q % 10 = c := ⟨_, rfl⟩
      have hc' : (q : Int) % 10 = (c : Int) := by omega
      have c10 : c < 10 := by omega
      have hxc := dec_sub c c10
      have hz : (strL [dgB c]).size = 1 := rfl
      have q1 : q ≤ 1000000 := by omega
      have q2 : q < m := by omega
      have HF := Lib.hid (show Lib.decDigits n = decUp q ++ (dgB c :: T) by
        rw [HE.out, show decUp m = Lib.decDigits q by unfold decUp; rw [if_neg (by omega), hq], decUp_at q, hc, List.append_assoc]; rfl)
      have HS := Lib.hid (show strL [dgB c] ++ strL T = strL (dgB c :: T) by rw [strL_app]; rfl)
      clear hq hc HE
      go_wp2_with fail
      go_round
      case rel => exact ⟨q, dgB c :: T, rfl, q1, by rw [← HS.out], HF⟩
      case measure => simp [intOf]; omega
    · have HS := Lib.hid (show Lib.decDigits n = T by rw [HE.out, show decUp m = [] by unfold decUp; rw [if_pos (by omega)]]; rfl)
      have hlt2 : (m : Int) < 10 := by omega
      go_wp2_with fail
      go_ret
      exact ⟨by rw [HS.out]; rfl, rfl⟩
theorem error_nil (w : World) : Calls Tryd.prog 7 #[.pointer none] w fun e w' => e = .returned (.string ⟨#[]⟩) ∧ w = w' := by
  go_enter Tryd.func7, Tryd.ntmps7
  go_wp2_with fail
  go_ret
  exact ⟨rfl, rfl⟩
theorem sure_any (v : Value) (w : World) : Calls Tryd.prog 21 #[.iface 30 v] w fun e w' => e = .returned v ∧ w = w' := by
  have q : ∀ u, (Instr.typeAssert (.iface 30 v) 28 30 false).run Tryd.prog u = .ok v u := fun _ => rfl
  go_enter Tryd.func21, Tryd.ntmps21
  go_wp2_with fail
  go_ret
  exact ⟨rfl, rfl⟩
theorem only_any (v : Value) (w : World) : Calls Tryd.prog 9 #[.iface 30 v] w fun e w' => e = .returned v ∧ w = w' := by
  have H := Lib.hid (sure_any v)
  go_enter Tryd.func9, Tryd.ntmps9
  go_wp2_with fail
  refine (H.out _).mono ?_
  rintro e w' ⟨rfl, rfl⟩
  go_wp2_with fail
  go_ret
  exact ⟨rfl, rfl⟩
theorem signed_nil (w : World) : Calls Tryd.prog 12 #[.pointer none] w (Looks (.int .i64 0) w) := by
  go_enter Tryd.func12, Tryd.ntmps12
  go_wp2_with fail
  refine (read_nil 2 (by decide) (by decide) _).mono ?_
  rintro e w1 ⟨rfl, k, rfl⟩
  go_wp2_with fail
  go_ret
  exact ⟨rfl, k, rfl⟩
theorem clone_nil (w : World) : Calls Tryd.prog 19 #[.slice none 0 0] w fun e w' => e = .returned (.slice none 0 0) ∧ w = w' := by
  have q := eql_none
  go_enter Tryd.func19, Tryd.ntmps19
  go_wp2_with fail
  go_ret
  exact ⟨rfl, rfl⟩
theorem take_nil (w : World) : Calls Tryd.prog 13 #[.pointer none, .int .i64 1] w (Looks (.slice none 0 0) w) := by
  go_enter Tryd.func13, Tryd.ntmps13
  go_wp2_with fail
  refine (next_nil 1 (by decide) _).mono ?_
  rintro e w1 ⟨rfl, k, rfl⟩
  go_wp2_with fail
  refine (clone_nil _).mono ?_
  rintro e w' ⟨rfl, rfl⟩
  go_wp2_with fail
  go_ret
  exact ⟨rfl, k, rfl⟩
theorem numbers_nil (w : World) : Calls Tryd.prog 14 #[.pointer none, .int .i64 1, .int .i64 1] w (Looks (.slice none 0 0) w) := by
  have HM := Lib.hid (mayBe_any 1 true rfl)
  go_enter Tryd.func14, Tryd.ntmps14
  go_wp2_with fail
  refine (left_nil _).mono ?_
  rintro e w1 ⟨rfl, k, rfl⟩
  go_wp2_with fail
  refine (at_nil _).mono ?_
  rintro e w' ⟨rfl, rfl⟩
  go_wp2_with fail
  refine (fail_nil _ _ _).mono ?_
  rintro e w' ⟨rfl, rfl⟩
  go_wp2_with fail
  refine (HM.out _).mono ?_
  rintro e w' ⟨rfl, rfl⟩
  go_wp2_with fail
  go_ret
  exact ⟨rfl, k, rfl⟩
theorem held_of {S : World → Prop} (HST : ∀ u u' : World, S u → Below u.heap.size u u' → S u') {f : FuncId} {args : Array Value} {u : World} {x : Value} (h : S u) (k : Calls Tryd.prog f args u fun e w' => e = .returned x ∧ Below u.heap.size u w') : Calls Tryd.prog f args u fun e w' => e = .returned x ∧ S w' :=
  k.mono fun _ _ ⟨he, hb⟩ => ⟨he, HST _ _ h hb⟩
set_option maxRecDepth 100000 in
set_option maxHeartbeats 1600000 in
theorem error_any (w : World) (k : Nat) (e f : Int) (T1 T2 : ByteArray) (hf : FaultAt w k e f) (hp : Pows w) (e0 : 0 ≤ e) (e1 : e ≤ 1000000) (f0 : 0 ≤ f) (f1 : f ≤ 1000000) (h1 : strL (Lib.itoa e) = T1) (h2 : strL (Lib.itoa f) = T2) (s1 : T1.size ≤ 2000000) (s2 : T2.size ≤ 2000000) :
    Calls Tryd.prog 7 #[.pointer (some ⟨k, 0, none⟩)] w fun x w' => x = .returned (.string (⟨#[102, 97, 117, 108, 116, 32]⟩ ++ T1 ++ ⟨#[32, 97, 116, 32, 98, 121, 116, 101, 32]⟩ ++ T2)) ∧ Below w.heap.size w w' := by
  have HST := Lib.hid (fun (u u' : World) (h : (fun (u : World) => (u.cell? ⟨k, 0, none⟩ = some (.int .i64 e) ∧ u.cell? ⟨k, 1, none⟩ = some (.int .i64 f)) ∧ k < u.heap.size ∧ Pows u ∧ Below w.heap.size w u) u) (hb : Below u.heap.size u u') => show (fun (u : World) => (u.cell? ⟨k, 0, none⟩ = some (.int .i64 e) ∧ u.cell? ⟨k, 1, none⟩ = some (.int .i64 f)) ∧ k < u.heap.size ∧ Pows u ∧ Below w.heap.size w u) u' from
    ⟨⟨(hb.cell (p := ⟨k, 0, none⟩) h.2.1).trans h.1.1, (hb.cell (p := ⟨k, 1, none⟩) h.2.1).trans h.1.2⟩, Nat.lt_of_lt_of_le h.2.1 hb.size, h.2.2.1.below hb, h.2.2.2.trans (hb.mono h.2.2.2.size)⟩)
  have c0 := cell_of_row w k 0 _ _ (0, 0) hf
  have c1 := cell_of_row w k 1 _ _ (0, 0) hf
  simp at c0 c1
  have hS0 := HST.out w w.drew ⟨⟨c0, c1⟩, hf.lt, hp, Below.refl _ _⟩ (Below.refl _ _).drew
  have HI1 := Lib.hid (fun (u : World) (h : (fun (u : World) => (u.cell? ⟨k, 0, none⟩ = some (.int .i64 e) ∧ u.cell? ⟨k, 1, none⟩ = some (.int .i64 f)) ∧ k < u.heap.size ∧ Pows u ∧ Below w.heap.size w u) u) => held_of HST.out h (itoa_any e T1 u h.2.2.1 (by omega) (by omega) h1))
  have HI2 := Lib.hid (fun (u : World) (h : (fun (u : World) => (u.cell? ⟨k, 0, none⟩ = some (.int .i64 e) ∧ u.cell? ⟨k, 1, none⟩ = some (.int .i64 f)) ∧ k < u.heap.size ∧ Pows u ∧ Below w.heap.size w u) u) => held_of HST.out h (itoa_any f T2 u h.2.2.1 (by omega) (by omega) h2))
  have g1 : ¬ (9223372036854775807 < 6 + T1.size) := by omega
  have g2 : ¬ (9223372036854775807 < 6 + T1.size + 9) := by omega
  have g3 : ¬ (9223372036854775807 < 6 + T1.size + 9 + T2.size) := by omega
  clear hf hp h1 h2 c0 c1
  go_enter Tryd.func7, Tryd.ntmps7
  go_wp2_with fail
  go_region_held3 (fun (u : World) => (u.cell? ⟨k, 0, none⟩ = some (.int .i64 e) ∧ u.cell? ⟨k, 1, none⟩ = some (.int .i64 f)) ∧ k < u.heap.size ∧ Pows u ∧ Below w.heap.size w u) (assumption) (first | (go_at_call 20; refine (HI1.out _ (by assumption)).mono ?_; rintro x w3 ⟨rfl, hS3⟩) | (go_at_call 20; refine (HI2.out _ (by assumption)).mono ?_; rintro x w4 ⟨rfl, hS4⟩))
  all_goals
    go_wp2_with fail
    go_ret
    exact ⟨rfl, by first | exact hS4.2.2.2 | exact hS3.2.2.2⟩

end Go.Proofs.YtliohkgaonnioaaDoor
