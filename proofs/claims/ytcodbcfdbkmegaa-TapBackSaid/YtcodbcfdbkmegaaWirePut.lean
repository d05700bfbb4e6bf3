/- wire.Put: its contract, which says what it may have changed: the row's own block alone. -/
import Derived.Test.YtcodbcfdbkmegaaWireAt
import Derived.Test.YtcodbcfdbkmegaaOwnKept
import Derived.LoopN
namespace Go.Proofs.Ytcodbcfdbkmegaa
open Go.RowKit
set_option linter.unusedVariables false
set_option linter.unusedSimpArgs false

/-- A row of bytes that grew since w0, out of one in block f; other blocks are as they were. -/
structure Gr (f : Option Nat) (base : Nat) (w0 wr : World) (A : Option Addr) (n cap : Nat) (L : List Int) : Prop where
  own : wr.ownsRow base 5 1 (.slice A n cap) n (L.map u8I)
  ch : Ch (fun k => f = some k) w0 wr
  low : ∀ g, (Value.slice A n cap).ownBlock = some g → f = some g ∨ w0.heap.size ≤ g
  fit : n ≤ cap
  max : cap ≤ maxLen
theorem Gr.start {base : Nat} {w : World} {A : Option Addr} {n cap : Nat} {L : List Int} (h : w.ownsRow base 5 1 (.slice A n cap) n (L.map u8I)) : Gr (Value.slice A n cap).ownBlock base w w A n cap L := by
  obtain ⟨A1, c1, e, h1, h2⟩ := own_slice h
  injection e with _ _ e
  subst e
  exact ⟨h, Ch.refl _ _, fun g hg => Or.inl hg, h1, h2⟩
theorem ch_of_grown {w w' : World} {f : Option Nat} (h : w.grownBy w' f) : Ch (fun k => f = some k) w w' := ⟨h.os, h.tape, h.output, h.size, fun k hk hf => h.block k hk (fun e => hf e.symm)⟩
/-- One byte put behind such a row. -/
theorem wpList_append_gr {P : Program} {ops : Array Oper} {rest : List Oper} {o : Oper} {a : Act} {Q : Exit → Act → World → Prop} {w0 wr : World} {f : Option Nat} {base : Nat} (t : TypeId)
    (hinfo : (P.info? 5).map (fun i => (i.zero, i.size, i.bytes)) = some (some (.int .u8 0), 1, 1)) (ht : P.underlying t = some (.slice 5))
    (hgd : o.guard = none) (s x : Operand) (ho : o.op = .call { callee := .builtin .append, args := #[s, x], argTypes := #[t, t] })
    (A : Option Addr) (n cap : Nat) (L : List Int) (hs : a.eval s = .slice A n cap) (h2 : Gr f base w0 wr A n cap L) (z : Int) (hx : a.eval x = .slice (some ⟨wr.heap.size, 0, none⟩) 1 1) (hn : n ≤ 4000000) (hbase : base ≤ w0.heap.size)
    (h : ∀ g c' w', Gr f base w0 w' (some ⟨g, 0, none⟩) (n + 1) c' (L ++ [z]) → wpList P ops Q rest (a.put o.dst (.slice (some ⟨g, 0, none⟩) (n + 1) c')) w') : wpList P ops Q (o :: rest) a (wr.alloc (.cells #[.int .u8 z] 5)) := by
  obtain ⟨i0, hi, hz0, hz1, hz2⟩ := info_parts hinfo
  refine wpList_append_lies _ hgd s x t ho base 5 i0 _ 1 1 ht hi hz0 hz1 hz2 rfl (by decide) _ n _ hs (h2.own.alloc _) ⟨wr.heap.size, 0, none⟩ 1 1 [.int .u8 z] hx rfl (cell_one_new _ _ _) (by intro u hu; simp at hu; subst hu; rfl) (by decide) (by unfold maxLen; omega) (by omega) (by have := h2.ch.size; simp; omega) _ rfl ?_
  intro g cap1 w' k1 k2 k3 k4
  have hsz := h2.ch.size
  have hrow : w'.ownsRow base 5 1 (.slice (some ⟨g, 0, none⟩) (n + 1) cap1) (n + 1) ((L ++ [z]).map u8I) := by
    rw [List.map_append]
    exact k1
  obtain ⟨A3, cap3, e3, hn3, hm3⟩ := own_slice hrow
  injection e3 with _ _ e3
  subst e3
  refine h g cap1 w' ⟨hrow, ?_, ?_, hn3, hm3⟩
  · have hC : Ch (fun k => f = some k) w0 (wr.alloc (.cells #[.int .u8 z] 5)) := h2.ch.less ((bnew wr _).mono hsz)
    exact hC.trans (ch_of_grown k2) fun i hi => h2.low i hi
  · intro j hj
    simp only [Value.ownBlock, Option.some.injEq] at hj
    subst hj
    rcases k3 with k3 | k3
    · exact h2.low _ k3
    · refine Or.inr ?_
      rw [k3]; simp; omega
def PutE (f : Option Nat) (base : Nat) (w : World) (n : Nat) (L : List Int) (e : Ending) (w' : World) : Prop := ∃ A cap, e = .returned (.slice A n cap) ∧ Gr f base w w' A n cap L
theorem put_no (A : Option Addr) (m cap : Nat) (n v : Int) (hn : n < 1 ∨ 4 < n) (w : World) : Calls Try.prog 30 #[.slice A m cap, .int .i64 n, .int .i64 v] w fun e w' => e = .returned (.slice A m cap) ∧ w = w' := by
  have HM := Lib.hid (mayBe_any n false (by rw [Bool.and_eq_false_iff]; exact hn.imp (fun h => decide_eq_false (by omega)) (fun h => decide_eq_false (by omega))))
  clear hn
  go_enter Try.func30, Try.ntmps30
  go_wp2_with fail
  refine (HM.out _).mono ?_
  rintro e w' ⟨rfl, rfl⟩
  go_wp2_with fail
  go_ret
  exact ⟨rfl, rfl⟩
theorem putL_is (v : Int) : putL 1 v = [v % 256] ∧ putL 2 v = [v % 256, v / 256 % 256] ∧ putL 3 v = [v % 256, v / 256 % 256, v / 65536 % 256] ∧ putL 4 v = [v % 256, v / 256 % 256, v / 65536 % 256, v / 16777216 % 256] := by
  have e2 : v / 256 / 256 = v / 65536 := by omega
  have e3 : v / 65536 / 256 = v / 16777216 := by omega
  refine ⟨rfl, rfl, ?_, ?_⟩ <;> simp only [putL, e2, e3]
set_option maxHeartbeats 1600000 in
theorem put_1 (base : Nat) (A : Option Addr) (m cap : Nat) (xs : List Int) (v : Int) (w : World) (h : w.ownsRow base 5 1 (.slice A m cap) m (xs.map u8I)) (hm : m ≤ 2000000) (hbase : base ≤ w.heap.size) (v0 : -9223372036854775808 ≤ v) (v1 : v ≤ 9223372036854775807) :
    Calls Try.prog 30 #[.slice A m cap, .int .i64 1, .int .i64 v] w (PutE (Value.slice A m cap).ownBlock base w (m + 1) (xs ++ putL 1 v)) := by
  have HM := Lib.hid (mayBe_any 1 true rfl)
  have HG0 := Lib.hid (Gr.start h)
  have HB := Lib.hid hbase
  have HE := Lib.hid (show xs ++ [v % 256] = xs ++ putL 1 v by rw [(putL_is v).1])
  have hf0 := HG0.out.fit
  have hx0 := HG0.out.max
  unfold maxLen at hx0
  generalize (Value.slice A m cap).ownBlock = f at HG0 ⊢
  clear h hbase
  go_enter Try.func30, Try.ntmps30
  go_wp2_with fail
  refine (HM.out _).mono ?_
  rintro e w' ⟨rfl, rfl⟩
  go_wp2_with fail
  refine wp_loop_rounds 2 ?_
  rw [rounds_succ]
  go_wp2_with (at_builtin; refine wpList_append_gr 22 infoB8 Try.underlying22 rfl _ _ rfl A m cap _ rfl HG0.out (v % 256) rfl (by omega) HB.out ?_; intro g1 c1 w1 hg; have hf1 := hg.fit; have hx1 := hg.max; unfold maxLen at hx1; have HG1 := Lib.hid hg; clear hg HG0)
  rw [rounds_succ]
  have HR : Hid (PutE f base w (m + 1) (xs ++ putL 1 v) (.returned (.slice (some ⟨g1, 0, none⟩) (m + 1) c1)) w1) := Lib.hid ⟨_, _, rfl, by have h := HG1.out; rw [HE.out] at h; exact h⟩
  go_wp2_with fail
  go_ret
  exact HR.out
set_option maxHeartbeats 1600000 in
theorem put_2 (base : Nat) (A : Option Addr) (m cap : Nat) (xs : List Int) (v : Int) (w : World) (h : w.ownsRow base 5 1 (.slice A m cap) m (xs.map u8I)) (hm : m ≤ 2000000) (hbase : base ≤ w.heap.size) (v0 : -9223372036854775808 ≤ v) (v1 : v ≤ 9223372036854775807) :
    Calls Try.prog 30 #[.slice A m cap, .int .i64 2, .int .i64 v] w (PutE (Value.slice A m cap).ownBlock base w (m + 2) (xs ++ putL 2 v)) := by
  have HM := Lib.hid (mayBe_any 2 true rfl)
  have HG0 := Lib.hid (Gr.start h)
  have HB := Lib.hid hbase
  have HE := Lib.hid (show xs ++ [v % 256] ++ [v / 256 % 256] = xs ++ putL 2 v by rw [(putL_is v).2.1]; simp)
  have hf0 := HG0.out.fit
  have hx0 := HG0.out.max
  unfold maxLen at hx0
  generalize (Value.slice A m cap).ownBlock = f at HG0 ⊢
  clear h hbase
  go_enter Try.func30, Try.ntmps30
  go_wp2_with fail
  refine (HM.out _).mono ?_
  rintro e w' ⟨rfl, rfl⟩
  go_wp2_with fail
  refine wp_loop_rounds 3 ?_
  rw [rounds_succ]
  go_wp2_with (at_builtin; refine wpList_append_gr 22 infoB8 Try.underlying22 rfl _ _ rfl A m cap _ rfl HG0.out (v % 256) rfl (by omega) HB.out ?_; intro g1 c1 w1 hg; have hf1 := hg.fit; have hx1 := hg.max; unfold maxLen at hx1; have HG1 := Lib.hid hg; clear hg HG0)
  rw [rounds_succ]
  go_wp2_with (at_builtin; refine wpList_append_gr 22 infoB8 Try.underlying22 rfl _ _ rfl _ _ c1 _ rfl HG1.out (v / 256 % 256) rfl (by omega) HB.out ?_; intro g2 c2 w2 hg; have hf2 := hg.fit; have hx2 := hg.max; unfold maxLen at hx2; have HG2 := Lib.hid hg; clear hg HG1)
  rw [rounds_succ]
  have HR : Hid (PutE f base w (m + 2) (xs ++ putL 2 v) (.returned (.slice (some ⟨g2, 0, none⟩) (m + 2) c2)) w2) := Lib.hid ⟨_, _, rfl, by have h := HG2.out; rw [HE.out] at h; exact h⟩
  go_wp2_with fail
  go_ret
  exact HR.out
set_option maxHeartbeats 1600000 in
theorem put_3 (base : Nat) (A : Option Addr) (m cap : Nat) (xs : List Int) (v : Int) (w : World) (h : w.ownsRow base 5 1 (.slice A m cap) m (xs.map u8I)) (hm : m ≤ 2000000) (hbase : base ≤ w.heap.size) (v0 : -9223372036854775808 ≤ v) (v1 : v ≤ 9223372036854775807) :
    Calls Try.prog 30 #[.slice A m cap, .int .i64 3, .int .i64 v] w (PutE (Value.slice A m cap).ownBlock base w (m + 3) (xs ++ putL 3 v)) := by
  have HM := Lib.hid (mayBe_any 3 true rfl)
  have HG0 := Lib.hid (Gr.start h)
  have HB := Lib.hid hbase
  have HE := Lib.hid (show xs ++ [v % 256] ++ [v / 256 % 256] ++ [v / 65536 % 256] = xs ++ putL 3 v by rw [(putL_is v).2.2.1]; simp)
  have hf0 := HG0.out.fit
  have hx0 := HG0.out.max
  unfold maxLen at hx0
  generalize (Value.slice A m cap).ownBlock = f at HG0 ⊢
  clear h hbase
  go_enter Try.func30, Try.ntmps30
  go_wp2_with fail
  refine (HM.out _).mono ?_
  rintro e w' ⟨rfl, rfl⟩
  go_wp2_with fail
  refine wp_loop_rounds 4 ?_
  rw [rounds_succ]
  go_wp2_with (at_builtin; refine wpList_append_gr 22 infoB8 Try.underlying22 rfl _ _ rfl A m cap _ rfl HG0.out (v % 256) rfl (by omega) HB.out ?_; intro g1 c1 w1 hg; have hf1 := hg.fit; have hx1 := hg.max; unfold maxLen at hx1; have HG1 := Lib.hid hg; clear hg HG0)
  rw [rounds_succ]
  go_wp2_with (at_builtin; refine wpList_append_gr 22 infoB8 Try.underlying22 rfl _ _ rfl _ _ c1 _ rfl HG1.out (v / 256 % 256) rfl (by omega) HB.out ?_; intro g2 c2 w2 hg; have hf2 := hg.fit; have hx2 := hg.max; unfold maxLen at hx2; have HG2 := Lib.hid hg; clear hg HG1)
  rw [rounds_succ]
  go_wp2_with (at_builtin; refine wpList_append_gr 22 infoB8 Try.underlying22 rfl _ _ rfl _ _ c2 _ rfl HG2.out (v / 65536 % 256) rfl (by omega) HB.out ?_; intro g3 c3 w3 hg; have hf3 := hg.fit; have hx3 := hg.max; unfold maxLen at hx3; have HG3 := Lib.hid hg; clear hg HG2)
  rw [rounds_succ]
  have HR : Hid (PutE f base w (m + 3) (xs ++ putL 3 v) (.returned (.slice (some ⟨g3, 0, none⟩) (m + 3) c3)) w3) := Lib.hid ⟨_, _, rfl, by have h := HG3.out; rw [HE.out] at h; exact h⟩
  go_wp2_with fail
  go_ret
  exact HR.out
set_option maxHeartbeats 1600000 in
theorem put_4 (base : Nat) (A : Option Addr) (m cap : Nat) (xs : List Int) (v : Int) (w : World) (h : w.ownsRow base 5 1 (.slice A m cap) m (xs.map u8I)) (hm : m ≤ 2000000) (hbase : base ≤ w.heap.size) (v0 : -9223372036854775808 ≤ v) (v1 : v ≤ 9223372036854775807) :
    Calls Try.prog 30 #[.slice A m cap, .int .i64 4, .int .i64 v] w (PutE (Value.slice A m cap).ownBlock base w (m + 4) (xs ++ putL 4 v)) := by
  have HM := Lib.hid (mayBe_any 4 true rfl)
  have HG0 := Lib.hid (Gr.start h)
  have HB := Lib.hid hbase
  have HE := Lib.hid (show xs ++ [v % 256] ++ [v / 256 % 256] ++ [v / 65536 % 256] ++ [v / 16777216 % 256] = xs ++ putL 4 v by rw [(putL_is v).2.2.2]; simp)
  have hf0 := HG0.out.fit
  have hx0 := HG0.out.max
  unfold maxLen at hx0
  generalize (Value.slice A m cap).ownBlock = f at HG0 ⊢
  clear h hbase
  go_enter Try.func30, Try.ntmps30
  go_wp2_with fail
  refine (HM.out _).mono ?_
  rintro e w' ⟨rfl, rfl⟩
  go_wp2_with fail
  refine wp_loop_rounds 5 ?_
  rw [rounds_succ]
  go_wp2_with (at_builtin; refine wpList_append_gr 22 infoB8 Try.underlying22 rfl _ _ rfl A m cap _ rfl HG0.out (v % 256) rfl (by omega) HB.out ?_; intro g1 c1 w1 hg; have hf1 := hg.fit; have hx1 := hg.max; unfold maxLen at hx1; have HG1 := Lib.hid hg; clear hg HG0)
  rw [rounds_succ]
  go_wp2_with (at_builtin; refine wpList_append_gr 22 infoB8 Try.underlying22 rfl _ _ rfl _ _ c1 _ rfl HG1.out (v / 256 % 256) rfl (by omega) HB.out ?_; intro g2 c2 w2 hg; have hf2 := hg.fit; have hx2 := hg.max; unfold maxLen at hx2; have HG2 := Lib.hid hg; clear hg HG1)
  rw [rounds_succ]
  go_wp2_with (at_builtin; refine wpList_append_gr 22 infoB8 Try.underlying22 rfl _ _ rfl _ _ c2 _ rfl HG2.out (v / 65536 % 256) rfl (by omega) HB.out ?_; intro g3 c3 w3 hg; have hf3 := hg.fit; have hx3 := hg.max; unfold maxLen at hx3; have HG3 := Lib.hid hg; clear hg HG2)
  rw [rounds_succ]
  go_wp2_with (at_builtin; refine wpList_append_gr 22 infoB8 Try.underlying22 rfl _ _ rfl _ _ c3 _ rfl HG3.out (v / 16777216 % 256) rfl (by omega) HB.out ?_; intro g4 c4 w4 hg; have hf4 := hg.fit; have hx4 := hg.max; unfold maxLen at hx4; have HG4 := Lib.hid hg; clear hg HG3)
  rw [rounds_succ]
  have HR : Hid (PutE f base w (m + 4) (xs ++ putL 4 v) (.returned (.slice (some ⟨g4, 0, none⟩) (m + 4) c4)) w4) := Lib.hid ⟨_, _, rfl, by have h := HG4.out; rw [HE.out] at h; exact h⟩
  go_wp2_with fail
  go_ret
  exact HR.out
theorem put_yes (base : Nat) (A : Option Addr) (m cap : Nat) (xs : List Int) (n : Int) (k : Nat) (hk : n = k) (h1 : 1 ≤ k) (h4 : k ≤ 4) (v : Int) (w : World) (h : w.ownsRow base 5 1 (.slice A m cap) m (xs.map u8I)) (hm : m ≤ 2000000) (hbase : base ≤ w.heap.size) (v0 : -9223372036854775808 ≤ v) (v1 : v ≤ 9223372036854775807) :
    Calls Try.prog 30 #[.slice A m cap, .int .i64 n, .int .i64 v] w (PutE (Value.slice A m cap).ownBlock base w (m + k) (xs ++ putL k v)) := by
  subst hk
  have e : k = 1 ∨ k = 2 ∨ k = 3 ∨ k = 4 := by omega
  rcases e with rfl | rfl | rfl | rfl
  · exact put_1 base A m cap xs v w h hm hbase v0 v1
  · exact put_2 base A m cap xs v w h hm hbase v0 v1
  · exact put_3 base A m cap xs v w h hm hbase v0 v1
  · exact put_4 base A m cap xs v w h hm hbase v0 v1

end Go.Proofs.Ytcodbcfdbkmegaa
