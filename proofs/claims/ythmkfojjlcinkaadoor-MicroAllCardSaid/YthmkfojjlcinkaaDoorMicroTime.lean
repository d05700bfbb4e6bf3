/- micro.Time, Fetches, Bytes: their contracts. -/
import Derived.Test.YthmkfojjlcinkaaDoorMicroRow
import Derived.Test.YthmkfojjlcinkaaDoorOpArgs
import Derived.LoopTactic
namespace Go.Proofs.YthmkfojjlcinkaaDoor
open Go.RowKit
set_option linter.unusedVariables false

/-- v has the steps L, wherever they lie. -/
def Steps (w : World) (v : Value) (L : List Sp) : Prop :=
  ∃ A cap, v = .slice A L.length cap ∧ L.length ≤ cap ∧ cap ≤ maxLen ∧ (0 < L.length → ∃ g, A = some ⟨g, 0, none⟩ ∧ g < w.heap.size ∧ ∀ i a, (flat L)[i]? = some a → w.cell? ⟨g, i, none⟩ = some a)
theorem Steps.below {w w' : World} {v : Value} {L : List Sp} (h : Steps w v L) (hb : Below w.heap.size w w') : Steps w' v L := by
  obtain ⟨A, cap, e, h1, h2, hx⟩ := h
  refine ⟨A, cap, e, h1, h2, fun hp => ?_⟩
  obtain ⟨g, e, hg, hc⟩ := hx hp
  exact ⟨g, e, Nat.lt_of_lt_of_le hg hb.size, fun i a hi => (hb.cell (p := ⟨g, i, none⟩) hg).trans (hc i a hi)⟩
theorem Own.steps {w : World} {v : Value} {L : List Sp} {c base : Nat} (h : Own w v L c base) : Steps w v L := by
  have hr := h.row
  rcases hr.2 with ⟨rfl, h0⟩ | ⟨g, cap, cur, rfl, _, hg, hnc, hm, _, _⟩
  · exact ⟨none, 0, by rw [h0], by omega, Nat.zero_le _, fun hp => absurd hp (by omega)⟩
  · refine ⟨some ⟨g, 0, none⟩, cap, rfl, hnc, hm, fun _ => ⟨g, rfl, (Array.getElem?_eq_some_iff.1 hg).1, fun i a hi => ?_⟩⟩
    have := hr.cells (g := g) rfl i a hi
    rw [Go.WideShapes.add_plain, Nat.zero_add] at this
    exact this
theorem flat_get : ∀ (L : List Sp) (k : Nat) (h : k < L.length), (flat L)[k * 4]? = some (.int .i64 L[k].k) ∧ (flat L)[k * 4 + 1]? = some (.int .i64 L[k].a) ∧ (flat L)[k * 4 + 2]? = some (.int .i64 L[k].w) ∧ (flat L)[k * 4 + 3]? = some (.int .i64 L[k].n)
  | s :: l, 0, _ => ⟨rfl, rfl, rfl, rfl⟩
  | s :: l, k + 1, h => by
    have := flat_get l k (by simpa using h)
    have e : (k + 1) * 4 = k * 4 + 1 + 1 + 1 + 1 := by omega
    rw [e]
    exact this
/-- The cells of the step k. -/
theorem Steps.at {w : World} {g : Nat} {L : List Sp} (h : ∀ i a, (flat L)[i]? = some a → w.cell? ⟨g, i, none⟩ = some a) (k : Nat) (hk : k < L.length) :
    w.cell? ⟨g, k * 4, none⟩ = some (.int .i64 L[k].k) ∧ w.cell? ⟨g, k * 4 + 1, none⟩ = some (.int .i64 L[k].a) ∧ w.cell? ⟨g, k * 4 + 2, none⟩ = some (.int .i64 L[k].w) ∧ w.cell? ⟨g, k * 4 + 3, none⟩ = some (.int .i64 L[k].n) := by
  obtain ⟨h0, h1, h2, h3⟩ := flat_get L k hk
  exact ⟨h _ _ h0, h _ _ h1, h _ _ h2, h _ _ h3⟩

set_option maxHeartbeats 1600000 in
theorem stepTime_any (k a wh n : Int) (w : World) : Calls Tryd.prog 19 #[.agg #[.int .i64 k, .int .i64 a, .int .i64 wh, .int .i64 n]] w fun e w' => e = .returned (.int .i64 (costS ⟨k, a, wh, n⟩)) ∧ Below w.heap.size w w' := by
  by_cases h0 : k = 0
  · subst h0
    go_enter Tryd.func19, Tryd.ntmps19
    go_wp2_with fail
    go_ret
    exact ⟨rfl, balloc _ _⟩
  by_cases h1 : k = 1
  · subst h1
    go_enter Tryd.func19, Tryd.ntmps19
    go_wp2_with fail
    go_ret
    exact ⟨rfl, balloc _ _⟩
  by_cases h2 : k = 2
  · subst h2
    go_enter Tryd.func19, Tryd.ntmps19
    go_wp2_with fail
    go_ret
    exact ⟨rfl, balloc _ _⟩
  by_cases h3 : k = 3
  · subst h3
    go_enter Tryd.func19, Tryd.ntmps19
    go_wp2_with fail
    go_ret
    exact ⟨rfl, balloc _ _⟩
  by_cases h4 : k = 4
  · subst h4
    go_enter Tryd.func19, Tryd.ntmps19
    go_wp2_with fail
    go_ret
    exact ⟨rfl, balloc _ _⟩
  have HX := Lib.hid (show costS ⟨k, a, wh, n⟩ = 0 by unfold costS; simp only [if_neg h0, if_neg h1, if_neg h2, if_neg h3, if_neg h4])
  have f0 : (k == 0) = false := by simpa using h0
  have f1 : (k == 1) = false := by simpa using h1
  have f2 : (k == 2) = false := by simpa using h2
  have f3 : (k == 3) = false := by simpa using h3
  have f4 : (k == 4) = false := by simpa using h4
  clear h0 h1 h2 h3 h4
  go_enter Tryd.func19, Tryd.ntmps19
  go_wp2_with fail
  go_ret
  exact ⟨by rw [HX.out]; rfl, balloc _ _⟩
theorem stepTimeIs (k a wh n r : Int) (w : World) (h : costS ⟨k, a, wh, n⟩ = r) : Calls Tryd.prog 19 #[.agg #[.int .i64 k, .int .i64 a, .int .i64 wh, .int .i64 n]] w fun e w' => e = .returned (.int .i64 r) ∧ Below w.heap.size w w' := by
  subst h; exact stepTime_any k a wh n w

theorem timeS_stop (L : List Sp) (k : Nat) (hk : k < L.length) (h : L[k].k = 6) : timeS false (L.drop k) = 0 := by
  rw [List.drop_eq_getElem_cons hk]
  unfold timeS
  rw [if_pos ⟨h, rfl⟩]
theorem timeS_go (met : Bool) (L : List Sp) (k : Nat) (hk : k < L.length) (h : ¬ (L[k].k = 6 ∧ met = false)) : timeS met (L.drop k) = costS L[k] + timeS met (L.drop (k + 1)) := by
  rw [List.drop_eq_getElem_cons hk]
  conv => lhs; unfold timeS
  rw [if_neg h]
theorem short_at (L : List Sp) (h : shortS L = true) : L.length ≤ 20 ∧ ∀ k (hk : k < L.length), 0 ≤ costS L[k] ∧ costS L[k] ≤ 100 := by
  unfold shortS at h
  rw [Bool.and_eq_true] at h
  refine ⟨of_decide_eq_true h.1, fun k hk => ?_⟩
  have := List.all_eq_true.1 h.2 L[k] (List.getElem_mem hk)
  rw [Bool.and_eq_true] at this
  exact ⟨of_decide_eq_true this.1, of_decide_eq_true this.2⟩

set_option maxRecDepth 100000 in
set_option maxHeartbeats 1600000 in
theorem time_at (met : Bool) (L : List Sp) (g cap : Nat) (w : World) (h0 : 0 < L.length) (hcap : L.length ≤ cap) (hm : cap ≤ maxLen) (hg : g < w.heap.size) (hcell : ∀ i a, (flat L)[i]? = some a → w.cell? ⟨g, i, none⟩ = some a) (hs : shortS L = true) :
    Calls Tryd.prog 7 #[.slice (some ⟨g, 0, none⟩) L.length cap, .bool met] w fun e w' => e = .returned (.int .i64 (timeS met L)) ∧ Below w.heap.size w w' := by
  obtain ⟨h20, hcost⟩ := short_at L hs
  have HC := Lib.hid hcell
  have HK := Lib.hid hcost
  clear hcell hcost hs
  unfold maxLen at hm
  go_enter Tryd.func7, Tryd.ntmps7
  go_wp2_with fail
  go_loopw [5, 10] (fun s i wr => ∃ (k : Nat) (acc : Int), k ≤ L.length ∧ i = .int .i64 k ∧ s = .int .i64 acc ∧ 0 ≤ acc ∧ acc ≤ 100 * (k : Int) ∧ Hid (timeS met L = acc + timeS met (L.drop k)) ∧ Below w.heap.size w wr) (fun _ i _ => L.length - (intOf i).toNat)
  case atStart => exact ⟨0, 0, by omega, rfl, rfl, by omega, by omega, Lib.hid (by simp), Below.refl _ _⟩
  case round =>
    obtain ⟨k, acc, hk, rfl, rfl, a0, a1, HT, hb⟩ := hrel
    have hsz := hb.size
    by_cases hlt : k < L.length
    · obtain ⟨c0, c1, c2, c3⟩ := Steps.at (fun i a hi => (hb.cell (p := ⟨g, i, none⟩) hg).trans (HC.out i a hi)) k hlt
      obtain ⟨d0, d1⟩ := HK.out k hlt
      by_cases h6 : L[k].k = 6
      · cases met with
        | false =>
          have HR := Lib.hid (show timeS false L = acc by rw [HT.out, timeS_stop L k hlt h6]; omega)
          rw [h6] at c0
          clear HT d0 d1 h6
          generalize L[k].a = sa at *
          generalize L[k].w = sw at *
          generalize L[k].n = sn at *
          go_wp2_with fail
          go_ret
          exact ⟨by rw [HR.out]; rfl, hb.alloc hsz _⟩
        | true =>
          have hd := timeS_go true L k hlt (by simp)
          obtain ⟨r, hr⟩ : ∃ r, costS L[k] = r := ⟨_, rfl⟩
          rw [hr] at hd d0 d1
          have HD := Lib.hid (show timeS true L = (acc + r) + timeS true (L.drop (k + 1)) by rw [HT.out, hd]; omega)
          have HR := Lib.hid (show costS ⟨L[k].k, L[k].a, L[k].w, L[k].n⟩ = r from hr)
          clear HT hd hr
          rw [h6] at c0 HR
          clear h6
          generalize L[k].a = sa at *
          generalize L[k].w = sw at *
          generalize L[k].n = sn at *
          go_wp2_with fail
          refine (stepTimeIs _ _ _ _ _ _ HR.out).mono ?_
          rintro e w1 ⟨rfl, hb1⟩
          go_wp2_with fail
          go_roundw
          case rel => exact ⟨k + 1, acc + r, by omega, by go_num, rfl, by omega, by omega, HD, (hb.alloc hsz _).trans (hb1.mono (by simp; omega))⟩
          case measure => simp [intOf]; omega
      · have f6 : (L[k].k == 6) = false := by simpa using h6
        have hd := timeS_go met L k hlt (fun e => h6 e.1)
        obtain ⟨r, hr⟩ : ∃ r, costS L[k] = r := ⟨_, rfl⟩
        rw [hr] at hd d0 d1
        have HD := Lib.hid (show timeS met L = (acc + r) + timeS met (L.drop (k + 1)) by rw [HT.out, hd]; omega)
        have HR := Lib.hid (show costS ⟨L[k].k, L[k].a, L[k].w, L[k].n⟩ = r from hr)
        clear HT hd hr h6
        generalize L[k].k = sk at *
        generalize L[k].a = sa at *
        generalize L[k].w = sw at *
        generalize L[k].n = sn at *
        go_wp2_with fail
        refine (stepTimeIs _ _ _ _ _ _ HR.out).mono ?_
        rintro e w1 ⟨rfl, hb1⟩
        go_wp2_with fail
        go_roundw
        case rel => exact ⟨k + 1, acc + r, by omega, by go_num, rfl, by omega, by omega, HD, (hb.alloc hsz _).trans (hb1.mono (by simp; omega))⟩
        case measure => simp [intOf]; omega
    · obtain rfl : k = L.length := by omega
      have HR := Lib.hid (show timeS met L = acc by rw [HT.out, List.drop_length]; simp [timeS])
      clear HT
      go_wp2_with fail
      go_ret
      exact ⟨by rw [HR.out]; rfl, hb⟩

set_option maxRecDepth 100000 in
set_option maxHeartbeats 1600000 in
theorem time_nil (met : Bool) (A : Option Addr) (cap : Nat) (w : World) (hm : cap ≤ maxLen) :
    Calls Tryd.prog 7 #[.slice A 0 cap, .bool met] w fun e w' => e = .returned (.int .i64 0) ∧ Below w.heap.size w w' := by
  unfold maxLen at hm
  go_enter Tryd.func7, Tryd.ntmps7
  go_wp2_with fail
  go_loopw [5, 10] (fun s i wr => i = .int .i64 0 ∧ s = .int .i64 0 ∧ Below w.heap.size w wr) (fun _ _ _ => 0)
  case atStart => exact ⟨rfl, rfl, Below.refl _ _⟩
  case round =>
    obtain ⟨rfl, rfl, hb⟩ := hrel
    go_wp2_with fail
    go_ret
    exact ⟨rfl, hb⟩
theorem time_any (met : Bool) (v : Value) (L : List Sp) (w : World) (h : Steps w v L) (hs : shortS L = true) :
    Calls Tryd.prog 7 #[v, .bool met] w fun e w' => e = .returned (.int .i64 (timeS met L)) ∧ Below w.heap.size w w' := by
  obtain ⟨A, cap, rfl, hc, hm, hx⟩ := h
  by_cases h0 : 0 < L.length
  · obtain ⟨g, rfl, hg, hcell⟩ := hx h0
    exact time_at met L g cap w h0 hc hm hg hcell hs
  · obtain rfl : L = [] := List.eq_nil_of_length_eq_zero (by omega)
    exact time_nil met A cap w hm
theorem timeIs (met : Bool) (v : Value) (L : List Sp) (r : Int) (w : World) (h : Steps w v L) (hs : shortS L = true) (hr : timeS met L = r) :
    Calls Tryd.prog 7 #[v, .bool met] w fun e w' => e = .returned (.int .i64 r) ∧ Below w.heap.size w w' := by
  subst hr; exact time_any met v L w h hs

theorem fetS_go (L : List Sp) (k : Nat) (hk : k < L.length) : fetS (L.drop k) = (if L[k].k = 1 ∧ L[k].a = 0 then 1 else 0) + fetS (L.drop (k + 1)) := by
  rw [List.drop_eq_getElem_cons hk]
  conv => lhs; unfold fetS
set_option maxRecDepth 100000 in
set_option maxHeartbeats 1600000 in
theorem fetches_at (L : List Sp) (g cap : Nat) (w : World) (hcap : L.length ≤ cap) (hm : cap ≤ maxLen) (hg : g < w.heap.size) (hcell : ∀ i a, (flat L)[i]? = some a → w.cell? ⟨g, i, none⟩ = some a) (h20 : L.length ≤ 20) :
    Calls Tryd.prog 12 #[.slice (some ⟨g, 0, none⟩) L.length cap] w fun e w' => e = .returned (.int .i64 (fetS L)) ∧ Below w.heap.size w w' := by
  have HC := Lib.hid hcell
  clear hcell
  unfold maxLen at hm
  go_enter Tryd.func12, Tryd.ntmps12
  go_wp2_with fail
  go_loopw [3, 8] (fun s i wr => ∃ (k : Nat) (acc : Int), k ≤ L.length ∧ i = .int .i64 k ∧ s = .int .i64 acc ∧ 0 ≤ acc ∧ acc ≤ (k : Int) ∧ Hid (fetS L = acc + fetS (L.drop k)) ∧ Below w.heap.size w wr) (fun _ i _ => L.length - (intOf i).toNat)
  case atStart => exact ⟨0, 0, by omega, rfl, rfl, by omega, by omega, Lib.hid (by simp), Below.refl _ _⟩
  case round =>
    obtain ⟨k, acc, hk, rfl, rfl, a0, a1, HT, hb⟩ := hrel
    have hsz := hb.size
    by_cases hlt : k < L.length
    · obtain ⟨c0, c1, c2, c3⟩ := Steps.at (fun i a hi => (hb.cell (p := ⟨g, i, none⟩) hg).trans (HC.out i a hi)) k hlt
      have hd := fetS_go L k hlt
      by_cases h1 : L[k].k = 1
      · by_cases h2 : L[k].a = 0
        · have HD := Lib.hid (show fetS L = (acc + 1) + fetS (L.drop (k + 1)) by rw [HT.out, hd, if_pos ⟨h1, h2⟩]; omega)
          rw [h1] at c0
          rw [h2] at c1
          clear HT hd h1 h2
          generalize L[k].w = sw at *
          generalize L[k].n = sn at *
          go_wp2_with fail
          go_roundw
          case rel => exact ⟨k + 1, acc + 1, by omega, by go_num, rfl, by omega, by omega, HD, hb.alloc hsz _⟩
          case measure => simp [intOf]; omega
        · have HD := Lib.hid (show fetS L = acc + fetS (L.drop (k + 1)) by rw [HT.out, hd, if_neg (fun e => h2 e.2)]; omega)
          have f2 : (L[k].a == 0) = false := by simpa using h2
          rw [h1] at c0
          clear HT hd h1 h2
          generalize L[k].a = sa at *
          generalize L[k].w = sw at *
          generalize L[k].n = sn at *
          go_wp2_with fail
          go_roundw
          case rel => exact ⟨k + 1, acc, by omega, by go_num, rfl, by omega, by omega, HD, hb.alloc hsz _⟩
          case measure => simp [intOf]; omega
      · have HD := Lib.hid (show fetS L = acc + fetS (L.drop (k + 1)) by rw [HT.out, hd, if_neg (fun e => h1 e.1)]; omega)
        have f1 : (L[k].k == 1) = false := by simpa using h1
        clear HT hd h1
        generalize L[k].k = sk at *
        generalize L[k].a = sa at *
        generalize L[k].w = sw at *
        generalize L[k].n = sn at *
        go_wp2_with fail
        go_roundw
        case rel => exact ⟨k + 1, acc, by omega, by go_num, rfl, by omega, by omega, HD, hb.alloc hsz _⟩
        case measure => simp [intOf]; omega
    · obtain rfl : k = L.length := by omega
      have HR := Lib.hid (show fetS L = acc by rw [HT.out, List.drop_length]; simp [fetS])
      clear HT
      go_wp2_with fail
      go_ret
      exact ⟨by rw [HR.out]; rfl, hb⟩
set_option maxRecDepth 100000 in
set_option maxHeartbeats 1600000 in
theorem fetches_nil (A : Option Addr) (cap : Nat) (w : World) (hm : cap ≤ maxLen) :
    Calls Tryd.prog 12 #[.slice A 0 cap] w fun e w' => e = .returned (.int .i64 0) ∧ Below w.heap.size w w' := by
  unfold maxLen at hm
  go_enter Tryd.func12, Tryd.ntmps12
  go_wp2_with fail
  go_loopw [3, 8] (fun s i wr => i = .int .i64 0 ∧ s = .int .i64 0 ∧ Below w.heap.size w wr) (fun _ _ _ => 0)
  case atStart => exact ⟨rfl, rfl, Below.refl _ _⟩
  case round =>
    obtain ⟨rfl, rfl, hb⟩ := hrel
    go_wp2_with fail
    go_ret
    exact ⟨rfl, hb⟩
theorem fetchesIs (v : Value) (L : List Sp) (r : Int) (w : World) (h : Steps w v L) (hs : shortS L = true) (hr : fetS L = r) :
    Calls Tryd.prog 12 #[v] w fun e w' => e = .returned (.int .i64 r) ∧ Below w.heap.size w w' := by
  subst hr
  obtain ⟨A, cap, rfl, hc, hm, hx⟩ := h
  by_cases h0 : 0 < L.length
  · obtain ⟨g, rfl, hg, hcell⟩ := hx h0
    exact fetches_at L g cap w hc hm hg hcell (short_at L hs).1
  · obtain rfl : L = [] := List.eq_nil_of_length_eq_zero (by omega)
    exact fetches_nil A cap w hm

theorem argC_le (c : Nat) (hc : c < 256) : argC c ≤ 2 := by
  have := all256 (f := fun c => decide (argC c ≤ 2)) (by decide +kernel) c hc
  simpa using this
set_option maxHeartbeats 800000 in
theorem bytes_any (ix : Int) (c : Nat) (r : Int) (w : World) (hc : c < 256) (hr : (argC c : Int) + (if 0 < ix ∧ memC c = true then 1 else 0) = r) :
    Calls Tryd.prog 13 #[.int .i64 ix, .int .u8 c] w fun e w' => e = .returned (.int .i64 r) ∧ Below w.heap.size w w' := by
  have h2 := argC_le c hc
  obtain ⟨n, hn⟩ : ∃ n, argC c = n := ⟨_, rfl⟩
  have HA := Lib.hid (fun w => hn ▸ opArgs c w hc)
  rw [hn] at hr h2
  by_cases hi : 0 < ix
  · cases hm : memC c with
    | true =>
      have HR := Lib.hid (show r = (n : Int) + 1 by rw [← hr, if_pos ⟨hi, hm⟩])
      have HM := Lib.hid hm
      clear hr hm hn
      go_enter Tryd.func13, Tryd.ntmps13
      go_wp2_with fail
      refine (opMemIs _ true _ hc HM.out).mono ?_
      rintro e w1 ⟨rfl, hb1⟩
      go_wp2_with fail
      refine (HA.out _).mono ?_
      rintro e w2 ⟨rfl, hb2⟩
      go_wp2_with fail
      go_ret
      exact ⟨by rw [HR.out]; rfl, below_step hb1 hb2⟩
    | false =>
      have HR := Lib.hid (show r = (n : Int) by rw [← hr, if_neg (by rw [hm]; simp)]; omega)
      have HM := Lib.hid hm
      clear hr hm hn
      go_enter Tryd.func13, Tryd.ntmps13
      go_wp2_with fail
      refine (opMemIs _ false _ hc HM.out).mono ?_
      rintro e w1 ⟨rfl, hb1⟩
      go_wp2_with fail
      refine (HA.out _).mono ?_
      rintro e w2 ⟨rfl, hb2⟩
      go_wp2_with fail
      go_ret
      exact ⟨by rw [HR.out]; rfl, below_step hb1 hb2⟩
  · have HR := Lib.hid (show r = (n : Int) by rw [← hr, if_neg (fun e => hi e.1)]; omega)
    have f : decide (0 < ix) = false := by simpa using hi
    clear hr hn hi
    go_enter Tryd.func13, Tryd.ntmps13
    go_wp2_with fail
    refine (HA.out _).mono ?_
    rintro e w1 ⟨rfl, hb1⟩
    go_wp2_with fail
    go_ret
    exact ⟨by rw [HR.out]; rfl, hb1⟩

end Go.Proofs.YthmkfojjlcinkaaDoor
