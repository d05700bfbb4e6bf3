/- OpAlone: its walk. -/
import Derived.Test.YtkjibnnoeceaeaaDoorOpAppend
import Derived.Test.YtkjibnnoeceaeaaDoorOpLives
namespace Go.Proofs.YtkjibnnoeceaeaaDoor
open Go.RowKit

set_option maxRecDepth 100000 in
set_option maxHeartbeats 1600000 in
theorem alone1 (A B : Option Addr) (p q cp cq : Nat) (w : World) (ht : OpTab w) (hs : decide (1000 < (p : Int)) = true) : Calls Tryd.prog 7 #[.slice A p cp, .slice B q cq] w fun e w' => e = .returned (.bool true) ∧ Below w.heap.size w w' := by
  have H := Lib.hid ht
  clear ht
  go_enter Tryd.func7, Tryd.ntmps7
  go_wp2_with fail
  refine (lives7 _ H.out).mono ?_
  rintro e w1 ⟨rfl, hb1⟩
  go_wp2_with fail
  go_ret
  exact ⟨rfl, hb1⟩
set_option maxRecDepth 100000 in
set_option maxHeartbeats 1600000 in
theorem alone2 (A B : Option Addr) (p q cp cq : Nat) (w : World) (ht : OpTab w) (hs : decide (1000 < (p : Int)) = false) (hq : decide (1000 < (q : Int)) = true) : Calls Tryd.prog 7 #[.slice A p cp, .slice B q cq] w fun e w' => e = .returned (.bool true) ∧ Below w.heap.size w w' := by
  have H := Lib.hid ht
  clear ht
  go_enter Tryd.func7, Tryd.ntmps7
  go_wp2_with fail
  refine (lives7 _ H.out).mono ?_
  rintro e w1 ⟨rfl, hb1⟩
  go_wp2_with fail
  go_ret
  exact ⟨rfl, hb1⟩
/-- The program's instruction in its box. -/
structure OneA (w : World) (g : Nat) (x : In) (u : World) : Prop where
  a : OwnI u g x
  bel : Below w.heap.size w u
theorem OneA.later {w : World} {g : Nat} {x : In} {u u' : World} (h : OneA w g x u) (hb : Below u.heap.size u u') : OneA w g x u' := ⟨h.a.later hb, below_step h.bel hb⟩
theorem OneA.new {w w1 : World} (x : In) (hb : Below w.heap.size w w1) : OneA w w1.heap.size x (w1.alloc (.cells x.arr 26)) := ⟨OwnI.new w1 x, below_step hb (balloc w1 _)⟩
set_option maxRecDepth 100000 in
set_option maxHeartbeats 1600000 in
theorem alone3 (l : List Nat) (v : Value) (B : Option Addr) (q cq : Nat) (w : World) (h : BytesAt w w.heap.size v l) (ht : OpTab w) (hs : l.length ≤ 1000) (hq : q ≤ 1000) (hn : readB l = false) : Calls Tryd.prog 7 #[v, .slice B q cq] w fun e w' => e = .returned (.bool true) ∧ Below w.heap.size w w' := by
  have h4 := insK4 l h.lt
  have hx : readR l = zeroI ∧ l.length < insK l := by
    unfold readB at hn
    have h1 : l.length < insK l := by simpa using hn
    exact ⟨(read_no h1).1, h1⟩
  have C0 := Lib.hid (readIs' w h hx.1 hn)
  obtain ⟨A, cap, rfl, hc, hm⟩ := h.slice
  have H := Lib.hid ht
  have hd : decide (1000 < (l.length : Int)) = false := by simp; omega
  have hd2 : decide (1000 < (q : Int)) = false := by simp; omega
  have hd3 : decide ((l.length : Int) < 4) = true := by simp; omega
  have N1 := Lib.hid (fun (w1 : World) (hb1 : Below w.heap.size w w1) => OneA.new zeroI hb1)
  clear h ht hs hq hx hn h4
  unfold In.arr zeroI at *
  go_enter Tryd.func7, Tryd.ntmps7
  go_wp2_with fail
  refine C0.out.mono ?_
  rintro e w1 ⟨rfl, hb1⟩
  have K1 := Lib.hid (N1.out w1 hb1)
  clear hb1 C0 N1
  go_upto_region 4 with (fail)
  have k1 := K1.out
  clear K1
  generalize w1.alloc (.cells #[.int .i64 0, .int .i64 0, .int .u8 0, .int .u8 0, .int .u16 0, .int .i64 0] 26) = u1 at k1 ⊢
  generalize w1.heap.size = g1 at k1 ⊢
  have i0 : u1.cell? ⟨g1, 0, none⟩ = some (.int .i64 0) := k1.a.cell 0 _ rfl
  have i1 : u1.cell? ⟨g1, 1, none⟩ = some (.int .i64 0) := k1.a.cell 1 _ rfl
  have i2 : u1.cell? ⟨g1, 2, none⟩ = some (.int .u8 0) := k1.a.cell 2 _ rfl
  have i3 : u1.cell? ⟨g1, 3, none⟩ = some (.int .u8 0) := k1.a.cell 3 _ rfl
  have i4 : u1.cell? ⟨g1, 4, none⟩ = some (.int .u16 0) := k1.a.cell 4 _ rfl
  have i5 : u1.cell? ⟨g1, 5, none⟩ = some (.int .i64 0) := k1.a.cell 5 _ rfl
  have K1 := Lib.hid k1
  clear k1
  go_wp2_with fail
  refine (lives7 _ (H.out.below K1.out.bel)).mono ?_
  rintro e w2 ⟨rfl, hb2⟩
  go_wp2_with fail
  go_ret
  exact ⟨rfl, below_step K1.out.bel hb2⟩
theorem readLess {v : Value} {l : List Nat} (w : World) (h : BytesAt w w.heap.size v l) (hb : readB l = false) : Calls Tryd.prog 9 #[v] w fun e w' => e = .returned (.tuple #[.agg #[.int .i64 0, .int .i64 0, .int .u8 0, .int .u8 0, .int .u16 0, .int .i64 0], .bool false]) ∧ Below w.heap.size w w' := by
  have hx : readR l = zeroI := by
    unfold readB at hb
    exact (read_no (by simpa using hb)).1
  exact readIs' w h hx hb
theorem prefix_show (ix : Int) (c d n : Nat) (w : World) (h : OpTab w) (ok : (In.mk 4 ix c d n 1).Ok) : Calls Tryd.prog 12 #[.agg #[.int .i64 4, .int .i64 ix, .int .u8 c, .int .u8 d, .int .u16 n, .int .i64 1], .int .u16 0] w fun e w' => ∃ T : ByteArray, e = .returned (.string T) ∧ T.size = 9 ∧ Below w.heap.size w w' := by
  refine (opShow (In.mk 4 ix c d n 1) 0 w h ok).mono fun e w' ⟨he, hb⟩ => ⟨_, he, ?_, hb⟩
  have e : showT 4 (hasI ix) (nameL ix) c = lit [112, 114, 101, 102, 105, 120, 32] ++ lit (nameL ix) := rfl
  show (txt _ (showT 4 (hasI ix) (nameL ix) c)).size = 9
  rw [e, ← txt_app, txt_lit, txt_lit, strL_app, strL_size]
  have : (nameL ix).length = 2 := by unfold nameL; split <;> rfl
  simp [this]
/-- Two instructions in their boxes. -/
structure TwoA (w : World) (g1 g2 : Nat) (x y : In) (u : World) : Prop where
  a : OwnI u g1 x
  r : OwnI u g2 y
  bel : Below w.heap.size w u
theorem TwoA.later {w : World} {g1 g2 : Nat} {x y : In} {u u' : World} (h : TwoA w g1 g2 x y u) (hb : Below u.heap.size u u') : TwoA w g1 g2 x y u' := ⟨h.a.later hb, h.r.later hb, below_step h.bel hb⟩
theorem TwoA.new {w w1 w2 : World} {g1 : Nat} {x : In} (y : In) (h : OneA w g1 x w1) (hb : Below w1.heap.size w1 w2) : TwoA w g1 w2.heap.size x y (w2.alloc (.cells y.arr 26)) :=
  have b := balloc w2 (.cells y.arr 26)
  ⟨(h.a.later hb).later b, OwnI.new w2 y, below_step (below_step h.bel hb) b⟩
/-- Behind the rows that the call made itself. -/
theorem OneA.own {w : World} {g : Nat} {x : In} {u u' : World} (h : OneA w g x u) (hb : Below u.heap.size u u') : OneA w g x u' := h.later hb
set_option maxRecDepth 100000 in
set_option maxHeartbeats 1600000 in
theorem alone4 (l m p : List Nat) (v : Value) (B : Option Addr) (cq : Nat) (ix : Int) (c d n : Nat) (y : In) (b2 : Bool) (w : World) (hp : p = l.take 1) (h : BytesAt w w.heap.size v l) (hm : Src8 w (.slice B m.length cq) m) (ht : OpTab w) (hs : l.length ≤ 1000) (hq : m.length ≤ 1000) (hn : readB l = true) (hx : readR l = In.mk 4 ix c d n 1) (hl : 1 ≤ l.length) (ok : (In.mk 4 ix c d n 1).Ok) (hy : readR (p ++ m) = y) (hyb : readB (p ++ m) = b2) : Calls Tryd.prog 7 #[v, .slice B m.length cq] w fun e w' => e = .returned (.bool true) ∧ Below w.heap.size w w' := by
  have C0 := Lib.hid (readIs' w h hx hn)
  have C1 := Lib.hid (fun (u : World) (q0 : Nat) (v' : Value) (q : Nat) (hv : u.ownsRow q0 5 1 v' q ((p ++ m).map u8V)) => readIs' u (bytes_of_own hv (lt_app _ _ (by subst hp; exact lt_take l h.lt _) hm.1.lt)) hy hyb)
  obtain ⟨b, off, cap, rfl, hc, hmx, hlt, hcell⟩ := bytes_open2 h (by omega)
  have H := Lib.hid ht
  have hd : decide (1000 < (l.length : Int)) = false := by simp; omega
  have hd2 : decide (1000 < (m.length : Int)) = false := by simp; omega
  have N1 := Lib.hid (fun (w1 : World) (hb1 : Below w.heap.size w w1) => OneA.new (In.mk 4 ix c d n 1) hb1)
  have N2 := Lib.hid (fun (u : World) (hu : Below w.heap.size w u) => (show Src8 u (.slice (some ⟨b, off, none⟩) 1 cap) p by subst hp; exact ⟨take_bytes 1 (h.up' hu) (by omega) hl, Or.inr ⟨⟨b, off, none⟩, cap, by rw [List.length_take, Nat.min_eq_left hl]⟩⟩))
  have N3 := Lib.hid (fun (u : World) (hu : Below w.heap.size w u) => hm.up hu)
  have N4 := Lib.hid (fun (w1 w2 : World) (g1 : Nat) (h : OneA w g1 (In.mk 4 ix c d n 1) w1) (hb : Below w1.heap.size w1 w2) => TwoA.new y h hb)
  have hlen : p.length = 1 := by subst hp; rw [List.length_take, Nat.min_eq_left hl]
  have C3 := Lib.hid (fun (u : World) (hu : OpTab u) => prefix_show ix c d n u hu ok)
  have e3 : decide ((l.length : Int) < 1) = false := by simp; omega
  clear h hm ht hs hx hn hy hyb ok hcell hp
  unfold In.arr at *
  go_enter Tryd.func7, Tryd.ntmps7
  go_wp2_with fail
  refine C0.out.mono ?_
  rintro e w1 ⟨rfl, hb1⟩
  have K1 := Lib.hid (N1.out w1 hb1)
  clear hb1 C0 N1
  go_upto_region 4 with (fail)
  have k1 := K1.out
  clear K1
  generalize w1.alloc (.cells #[.int .i64 4, .int .i64 ix, .int .u8 c, .int .u8 d, .int .u16 n, .int .i64 1] 26) = u1 at k1 ⊢
  generalize w1.heap.size = g1 at k1 ⊢
  have i0 : u1.cell? ⟨g1, 0, none⟩ = some (.int .i64 4) := k1.a.cell 0 _ rfl
  have i1 : u1.cell? ⟨g1, 1, none⟩ = some (.int .i64 ix) := k1.a.cell 1 _ rfl
  have i2 : u1.cell? ⟨g1, 2, none⟩ = some (.int .u8 c) := k1.a.cell 2 _ rfl
  have i3 : u1.cell? ⟨g1, 3, none⟩ = some (.int .u8 d) := k1.a.cell 3 _ rfl
  have i4 : u1.cell? ⟨g1, 4, none⟩ = some (.int .u16 n) := k1.a.cell 4 _ rfl
  have i5 : u1.cell? ⟨g1, 5, none⟩ = some (.int .i64 1) := k1.a.cell 5 _ rfl
  have K1 := Lib.hid k1
  clear k1
  go_wp2_with (at_builtin; refine wpList_append_bytes u1.heap.size rfl _ _ rfl _ 0 [] rfl (World.ownsRow_nil _ _ _ _) _ p rfl (N2.out _ K1.out.bel) (by omega) (Nat.le_refl _) ?_)
  intro v2 w2 hown hb2
  have hown : w2.ownsRow u1.heap.size 5 1 v2 1 (p.map u8V) := by simpa [hlen] using hown
  have J2 := Lib.hid (K1.out.later hb2)
  go_wp2_with (at_builtin; refine wpList_append_bytes u1.heap.size rfl _ _ rfl _ 1 p rfl hown _ m rfl (N3.out _ J2.out.bel) (by omega) hb2.size ?_)
  intro v3 w3 hown3 hb3
  have K3 := Lib.hid (K1.out.later (hb2.trans hb3))
  clear hb2 hb3 J2 K1 N2 N3 hown i0 i1 i2 i3 i4 i5
  have hown3 : w3.ownsRow u1.heap.size 5 1 v3 (1 + m.length) ((p ++ m).map u8V) := by simpa using hown3
  go_wp2_with fail
  refine (C1.out _ _ _ _ hown3).mono ?_
  rintro e w4 ⟨rfl, hb4⟩
  have K4 := Lib.hid (N4.out w3 w4 g1 K3.out hb4)
  clear hb4 K3 C1 N4 hown3
  go_upto_region 11 with (fail)
  have k4 := K4.out
  clear K4
  generalize w4.alloc (.cells #[.int .i64 y.set, .int .i64 y.ix, .int .u8 y.code, .int .u8 y.d, .int .u16 y.n, .int .i64 y.len] 26) = u4 at k4 ⊢
  generalize w4.heap.size = g4 at k4 ⊢
  have i0 : u4.cell? ⟨g1, 0, none⟩ = some (.int .i64 4) := k4.a.cell 0 _ rfl
  have i1 : u4.cell? ⟨g1, 1, none⟩ = some (.int .i64 ix) := k4.a.cell 1 _ rfl
  have i2 : u4.cell? ⟨g1, 2, none⟩ = some (.int .u8 c) := k4.a.cell 2 _ rfl
  have i3 : u4.cell? ⟨g1, 3, none⟩ = some (.int .u8 d) := k4.a.cell 3 _ rfl
  have i4 : u4.cell? ⟨g1, 4, none⟩ = some (.int .u16 n) := k4.a.cell 4 _ rfl
  have i5 : u4.cell? ⟨g1, 5, none⟩ = some (.int .i64 1) := k4.a.cell 5 _ rfl
  have K4 := Lib.hid k4
  clear k4
  go_wp2_with fail
  refine (C3.out _ (H.out.below K4.out.bel)).mono ?_
  rintro e w5 ⟨T, rfl, hT, hb5⟩
  have h9 : ((T.size : Int) == 9) = true := by rw [hT]; rfl
  have D5 := Lib.hid (below_step K4.out.bel hb5)
  clear hb5 K4 hT
  go_wp2_with fail
  refine (lives7 _ (H.out.below D5.out)).mono ?_
  rintro e w6 ⟨rfl, hb6⟩
  go_wp2_with fail
  go_ret
  exact ⟨rfl, below_step D5.out hb6⟩
set_option maxRecDepth 100000 in
set_option maxHeartbeats 1600000 in
theorem alone5 (l m p : List Nat) (v : Value) (B : Option Addr) (cq : Nat) (s : Int) (k : Nat) (ix : Int) (c d n : Nat) (w : World) (hp : p = l.take (k + 1)) (h : BytesAt w w.heap.size v l) (hm : Src8 w (.slice B m.length cq) m) (ht : OpTab w) (hs : l.length ≤ 1000) (hq : m.length ≤ 1000) (hn : readB l = true) (hx : readR l = In.mk s ix c d n ((k : Int) + 1)) (hk4 : k + 1 ≤ 4) (hs4 : (s == 4) = false) (hl : (k + 1) ≤ l.length) (hy : readR (p ++ m) = (In.mk s ix c d n ((k : Int) + 1))) (hyb : readB (p ++ m) = true) (hz : readB (l.take k) = false) : Calls Tryd.prog 7 #[v, .slice B m.length cq] w fun e w' => e = .returned (.bool true) ∧ Below w.heap.size w w' := by
  have C0 := Lib.hid (readIs' w h hx hn)
  have C1 := Lib.hid (fun (u : World) (q0 : Nat) (v' : Value) (q : Nat) (hv : u.ownsRow q0 5 1 v' q ((p ++ m).map u8V)) => readIs' u (bytes_of_own hv (lt_app _ _ (by subst hp; exact lt_take l h.lt _) hm.1.lt)) hy hyb)
  obtain ⟨b, off, cap, rfl, hc, hmx, hlt, hcell⟩ := bytes_open2 h (by omega)
  have H := Lib.hid ht
  have hd : decide (1000 < (l.length : Int)) = false := by simp; omega
  have hd2 : decide (1000 < (m.length : Int)) = false := by simp; omega
  have N1 := Lib.hid (fun (w1 : World) (hb1 : Below w.heap.size w w1) => OneA.new (In.mk s ix c d n ((k : Int) + 1)) hb1)
  have N2 := Lib.hid (fun (u : World) (hu : Below w.heap.size w u) => (show Src8 u (.slice (some ⟨b, off, none⟩) (k + 1) cap) p by subst hp; exact ⟨take_bytes (k + 1) (h.up' hu) (by omega) hl, Or.inr ⟨⟨b, off, none⟩, cap, by rw [List.length_take, Nat.min_eq_left hl]⟩⟩))
  have N3 := Lib.hid (fun (u : World) (hu : Below w.heap.size w u) => hm.up hu)
  have N4 := Lib.hid (fun (w1 w2 : World) (g1 : Nat) (h : OneA w g1 (In.mk s ix c d n ((k : Int) + 1)) w1) (hb : Below w1.heap.size w1 w2) => TwoA.new (In.mk s ix c d n ((k : Int) + 1)) h hb)
  have hlen : p.length = (k + 1) := by subst hp; rw [List.length_take, Nat.min_eq_left hl]
  have C3 := Lib.hid (fun (u : World) (hu : Below w.heap.size w u) => readLess u (take_bytes k (h.up' hu) (by omega) (by omega)) hz)
  have e1 : decide ((k : Int) + 1 < 1) = false := by simp; omega
  have e2 : decide (4 < (k : Int) + 1) = false := by simp; omega
  have e3 : decide ((l.length : Int) < (k : Int) + 1) = false := by simp; omega
  clear h hm ht hs hx hn hy hyb hz hcell hp
  unfold In.arr at *
  go_enter Tryd.func7, Tryd.ntmps7
  go_wp2_with fail
  refine C0.out.mono ?_
  rintro e w1 ⟨rfl, hb1⟩
  have K1 := Lib.hid (N1.out w1 hb1)
  clear hb1 C0 N1
  go_upto_region 4 with (fail)
  have k1 := K1.out
  clear K1
  generalize w1.alloc (.cells #[.int .i64 s, .int .i64 ix, .int .u8 c, .int .u8 d, .int .u16 n, .int .i64 ((k : Int) + 1)] 26) = u1 at k1 ⊢
  generalize w1.heap.size = g1 at k1 ⊢
  have i0 : u1.cell? ⟨g1, 0, none⟩ = some (.int .i64 s) := k1.a.cell 0 _ rfl
  have i1 : u1.cell? ⟨g1, 1, none⟩ = some (.int .i64 ix) := k1.a.cell 1 _ rfl
  have i2 : u1.cell? ⟨g1, 2, none⟩ = some (.int .u8 c) := k1.a.cell 2 _ rfl
  have i3 : u1.cell? ⟨g1, 3, none⟩ = some (.int .u8 d) := k1.a.cell 3 _ rfl
  have i4 : u1.cell? ⟨g1, 4, none⟩ = some (.int .u16 n) := k1.a.cell 4 _ rfl
  have i5 : u1.cell? ⟨g1, 5, none⟩ = some (.int .i64 ((k : Int) + 1)) := k1.a.cell 5 _ rfl
  have K1 := Lib.hid k1
  clear k1
  go_wp2_with (at_builtin; refine wpList_append_bytes u1.heap.size rfl _ _ rfl _ 0 [] rfl (World.ownsRow_nil _ _ _ _) _ p rfl (N2.out _ K1.out.bel) (by omega) (Nat.le_refl _) ?_)
  intro v2 w2 hown hb2
  have hown : w2.ownsRow u1.heap.size 5 1 v2 (k + 1) (p.map u8V) := by simpa [hlen] using hown
  have J2 := Lib.hid (K1.out.later hb2)
  go_wp2_with (at_builtin; refine wpList_append_bytes u1.heap.size rfl _ _ rfl _ (k + 1) p rfl hown _ m rfl (N3.out _ J2.out.bel) (by omega) hb2.size ?_)
  intro v3 w3 hown3 hb3
  have K3 := Lib.hid (K1.out.later (hb2.trans hb3))
  clear hb2 hb3 J2 K1 N2 N3 hown i0 i1 i2 i3 i4 i5
  have hown3 : w3.ownsRow u1.heap.size 5 1 v3 ((k + 1) + m.length) ((p ++ m).map u8V) := by simpa using hown3
  go_wp2_with fail
  refine (C1.out _ _ _ _ hown3).mono ?_
  rintro e w4 ⟨rfl, hb4⟩
  have K4 := Lib.hid (N4.out w3 w4 g1 K3.out hb4)
  clear hb4 K3 C1 N4 hown3
  go_upto_region 11 with (fail)
  have k4 := K4.out
  clear K4
  generalize w4.alloc (.cells #[.int .i64 s, .int .i64 ix, .int .u8 c, .int .u8 d, .int .u16 n, .int .i64 ((k : Int) + 1)] 26) = u4 at k4 ⊢
  generalize w4.heap.size = g4 at k4 ⊢
  have i0 : u4.cell? ⟨g1, 0, none⟩ = some (.int .i64 s) := k4.a.cell 0 _ rfl
  have i1 : u4.cell? ⟨g1, 1, none⟩ = some (.int .i64 ix) := k4.a.cell 1 _ rfl
  have i2 : u4.cell? ⟨g1, 2, none⟩ = some (.int .u8 c) := k4.a.cell 2 _ rfl
  have i3 : u4.cell? ⟨g1, 3, none⟩ = some (.int .u8 d) := k4.a.cell 3 _ rfl
  have i4 : u4.cell? ⟨g1, 4, none⟩ = some (.int .u16 n) := k4.a.cell 4 _ rfl
  have i5 : u4.cell? ⟨g1, 5, none⟩ = some (.int .i64 ((k : Int) + 1)) := k4.a.cell 5 _ rfl
  have j0 : u4.cell? ⟨g4, 0, none⟩ = some (.int .i64 s) := k4.r.cell 0 _ rfl
  have j1 : u4.cell? ⟨g4, 1, none⟩ = some (.int .i64 ix) := k4.r.cell 1 _ rfl
  have j2 : u4.cell? ⟨g4, 2, none⟩ = some (.int .u8 c) := k4.r.cell 2 _ rfl
  have j3 : u4.cell? ⟨g4, 3, none⟩ = some (.int .u8 d) := k4.r.cell 3 _ rfl
  have j4 : u4.cell? ⟨g4, 4, none⟩ = some (.int .u16 n) := k4.r.cell 4 _ rfl
  have j5 : u4.cell? ⟨g4, 5, none⟩ = some (.int .i64 ((k : Int) + 1)) := k4.r.cell 5 _ rfl
  have K4 := Lib.hid k4
  clear k4
  go_wp2_with fail
  refine (C3.out _ K4.out.bel).mono ?_
  rintro e w5 ⟨rfl, hb5⟩
  have K5 := Lib.hid ((K4.out.later hb5).later (balloc w5 (.cells #[.int .i64 0, .int .i64 0, .int .u8 0, .int .u8 0, .int .u16 0, .int .i64 0] 26)))
  clear hb5 K4 C3 i0 j0 i1 j1 i2 j2 i3 j3 i4 j4 i5 j5
  go_upto_region 14 with (fail)
  have k5 := K5.out
  clear K5
  generalize w5.alloc (.cells #[.int .i64 0, .int .i64 0, .int .u8 0, .int .u8 0, .int .u16 0, .int .i64 0] 26) = u5 at k5 ⊢
  generalize w5.heap.size = g5 at k5 ⊢
  have i0 : u5.cell? ⟨g1, 0, none⟩ = some (.int .i64 s) := k5.a.cell 0 _ rfl
  have i1 : u5.cell? ⟨g1, 1, none⟩ = some (.int .i64 ix) := k5.a.cell 1 _ rfl
  have i2 : u5.cell? ⟨g1, 2, none⟩ = some (.int .u8 c) := k5.a.cell 2 _ rfl
  have i3 : u5.cell? ⟨g1, 3, none⟩ = some (.int .u8 d) := k5.a.cell 3 _ rfl
  have i4 : u5.cell? ⟨g1, 4, none⟩ = some (.int .u16 n) := k5.a.cell 4 _ rfl
  have i5 : u5.cell? ⟨g1, 5, none⟩ = some (.int .i64 ((k : Int) + 1)) := k5.a.cell 5 _ rfl
  have j0 : u5.cell? ⟨g4, 0, none⟩ = some (.int .i64 s) := k5.r.cell 0 _ rfl
  have j1 : u5.cell? ⟨g4, 1, none⟩ = some (.int .i64 ix) := k5.r.cell 1 _ rfl
  have j2 : u5.cell? ⟨g4, 2, none⟩ = some (.int .u8 c) := k5.r.cell 2 _ rfl
  have j3 : u5.cell? ⟨g4, 3, none⟩ = some (.int .u8 d) := k5.r.cell 3 _ rfl
  have j4 : u5.cell? ⟨g4, 4, none⟩ = some (.int .u16 n) := k5.r.cell 4 _ rfl
  have j5 : u5.cell? ⟨g4, 5, none⟩ = some (.int .i64 ((k : Int) + 1)) := k5.r.cell 5 _ rfl
  have K5 := Lib.hid k5
  clear k5
  go_wp2_with fail
  refine (lives7 _ (H.out.below K5.out.bel)).mono ?_
  rintro e w6 ⟨rfl, hb6⟩
  go_wp2_with fail
  go_ret
  exact ⟨rfl, below_step K5.out.bel hb6⟩
theorem alone_law (w : World) (ht : OpTab w) (l m : List Nat) {v u : Value} (hl : Src8 w v l) (hm : Src8 w u m) : Calls Tryd.prog 7 #[v, u] w fun e w' => e = .returned (.bool true) ∧ Below w.heap.size w w' := by
  obtain ⟨B, cq, rfl, _, _⟩ := hm.1.slice
  by_cases h1 : 1000 < l.length
  · obtain ⟨A, cp, rfl, _, _⟩ := hl.1.slice
    exact alone1 A B l.length m.length cp cq w ht (by simp; omega)
  by_cases h2 : 1000 < m.length
  · obtain ⟨A, cp, rfl, _, _⟩ := hl.1.slice
    exact alone2 A B l.length m.length cp cq w ht (by simp; omega) (by simp; omega)
  by_cases hb : readB l = true
  · have hbd := hl.1.lt
    obtain ⟨s1, s2, s3⟩ := set_same l hb
    have h4 := insK4 l hbd
    have hp := insK_pos l
    obtain ⟨k, hk⟩ : ∃ k, insK l = k + 1 := ⟨insK l - 1, by omega⟩
    obtain ⟨⟨s, ix, c, d, n, z⟩, hx⟩ : ∃ x, readR l = x := ⟨_, rfl⟩
    rw [hx] at s1 s2
    have hz : z = (k : Int) + 1 := by rw [hk] at s2; simpa using s2
    subst hz
    by_cases hs4 : s = 4
    · subst hs4
      have hk0 : k = 0 := by have := set4 l s1.symm; omega
      subst hk0
      have ok := readR_ok l hbd
      rw [hx] at ok
      exact alone4 l m (l.take 1) v B cq ix c d n (readR (l.take 1 ++ m)) (readB (l.take 1 ++ m)) w rfl hl.1 hm ht (by omega) (by omega) hb hx (by omega) ok rfl rfl
    · obtain ⟨a1, a2⟩ := read_again l m hb (by rw [hx]; exact hs4)
      have a3 := read_less l hb (by rw [hx]; exact hs4)
      rw [hk] at a1 a2 a3
      rw [hx] at a1
      exact alone5 l m (l.take (k + 1)) v B cq s k ix c d n w rfl hl.1 hm ht (by omega) (by omega) hb hx (by omega) (by simpa using hs4) (by omega) a1 a2 a3
  · exact alone3 l v B m.length cq w hl.1 ht (by omega) (by omega) (by simpa using hb)

end Go.Proofs.YtkjibnnoeceaeaaDoor
