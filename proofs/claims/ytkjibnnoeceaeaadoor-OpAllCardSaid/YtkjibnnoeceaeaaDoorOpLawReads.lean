/- OpReads: its walk. -/
import Derived.Test.YtkjibnnoeceaeaaDoorOpRRead2
import Derived.Test.YtkjibnnoeceaeaaDoorOpBytes
import Derived.Test.YtkjibnnoeceaeaaDoorOpLives
namespace Go.Proofs.YtkjibnnoeceaeaaDoor
open Go.RowKit

theorem BytesAt.up {w u : World} {v : Value} {l : List Nat} (h : BytesAt w w.heap.size v l) (hb : Below w.heap.size w u) : BytesAt u u.heap.size v l := (h.keep fun k hk => hb.block k hk).more hb.size
theorem readIs {v : Value} {l : List Nat} {x : In} {b : Bool} (w : World) (h : BytesAt w w.heap.size v l) (hx : readR l = x) (hb : readB l = b) : Calls Tryd.prog 9 #[v] w fun e w' => e = .returned (.tuple #[.agg x.arr, .bool b]) ∧ Below w.heap.size w w' := by
  subst hx hb; exact read_any v l w h
/-- The program's instruction in a box, the document's behind it. -/
structure PlK (w : World) (x : In) (u : World) : Prop where
  a : OwnI u w.heap.size x
  r : OwnR u (w.heap.size + 1) zeroI
  b : Below w.heap.size w u
theorem PlK.made (w : World) (x : In) : PlK w x ((w.alloc (.cells x.arr 26)).alloc (.cells zeroI.arr 29)) := by
  have hz : (w.alloc (.cells x.arr 26)).heap.size = w.heap.size + 1 := by simp
  have h2 := balloc (w.alloc (.cells x.arr 26)) (.cells zeroI.arr 29)
  have h3 := OwnR.new (w.alloc (.cells x.arr 26)) zeroI
  rw [hz] at h3
  exact ⟨(OwnI.new w x).later h2, h3, below_step (balloc w _) h2⟩
set_option maxRecDepth 100000 in
set_option maxHeartbeats 1600000 in
theorem plain_is (x : In) (w : World) : Calls Tryd.prog 11 #[.agg x.arr] w fun e w' => e = .returned (.agg x.arr) ∧ Below w.heap.size w w' := by
  have K := Lib.hid (PlK.made w x)
  unfold In.arr zeroI at *
  go_enter Tryd.func11, Tryd.ntmps11
  go_upto_region 1 with (fail)
  have k := K.out
  clear K
  generalize (w.alloc (.cells #[.int .i64 x.set, .int .i64 x.ix, .int .u8 x.code, .int .u8 x.d, .int .u16 x.n, .int .i64 x.len] 26)).alloc (.cells #[.int .i64 0, .int .i64 0, .int .u8 0, .int .u8 0, .int .u16 0, .int .i64 0] 29) = u at k ⊢
  have i0 : u.cell? ⟨w.heap.size, 0, none⟩ = some (.int .i64 x.set) := k.a.cell 0 _ rfl
  have i1 : u.cell? ⟨w.heap.size, 1, none⟩ = some (.int .i64 x.ix) := k.a.cell 1 _ rfl
  have i2 : u.cell? ⟨w.heap.size, 2, none⟩ = some (.int .u8 x.code) := k.a.cell 2 _ rfl
  have i3 : u.cell? ⟨w.heap.size, 3, none⟩ = some (.int .u8 x.d) := k.a.cell 3 _ rfl
  have i4 : u.cell? ⟨w.heap.size, 4, none⟩ = some (.int .u16 x.n) := k.a.cell 4 _ rfl
  have i5 : u.cell? ⟨w.heap.size, 5, none⟩ = some (.int .i64 x.len) := k.a.cell 5 _ rfl
  have r0 : u.cell? ⟨w.heap.size + 1, 0, none⟩ = some (.int .i64 0) := k.r.cell 0 _ rfl
  have r1 : u.cell? ⟨w.heap.size + 1, 1, none⟩ = some (.int .i64 0) := k.r.cell 1 _ rfl
  have r2 : u.cell? ⟨w.heap.size + 1, 2, none⟩ = some (.int .u8 0) := k.r.cell 2 _ rfl
  have r3 : u.cell? ⟨w.heap.size + 1, 3, none⟩ = some (.int .u8 0) := k.r.cell 3 _ rfl
  have r4 : u.cell? ⟨w.heap.size + 1, 4, none⟩ = some (.int .u16 0) := k.r.cell 4 _ rfl
  have r5 : u.cell? ⟨w.heap.size + 1, 5, none⟩ = some (.int .i64 0) := k.r.cell 5 _ rfl
  have f0 := k.r.free 0
  have f1 := k.r.free 1
  have f2 := k.r.free 2
  have f3 := k.r.free 3
  have f4 := k.r.free 4
  have f5 := k.r.free 5
  have B := Lib.hid k.b
  clear k
  go_wp2_with fail
  exact bodyPost_ret (v := .agg #[.int .i64 x.set, .int .i64 x.ix, .int .u8 x.code, .int .u8 x.d, .int .u16 x.n, .int .i64 x.len]) (by simp [results, Tryd.results11, go_sem, r0, r1, r2, r3, r4, r5]) rfl ⟨rfl, below_fill B.out (Nat.le_succ _) _ _ _ _ _ _⟩

/-- What was read, by the program and by the document. -/
structure TwoR (w : World) (g1 g2 : Nat) (x : In) (u : World) : Prop where
  a : OwnI u g1 x
  r : OwnR u g2 x
  tab : OpTab u
  bel : Below w.heap.size w u
theorem TwoR.later {w : World} {g1 g2 : Nat} {x : In} {u u' : World} (h : TwoR w g1 g2 x u) (hb : Below u.heap.size u u') : TwoR w g1 g2 x u' :=
  ⟨h.a.later hb, h.r.later hb, h.tab.below hb, below_step h.bel hb⟩
theorem TwoR.drew {w : World} {g1 g2 : Nat} {x : In} {u : World} (h : TwoR w g1 g2 x u) : TwoR w g1 g2 x u.drew := h.later (Below.refl _ _).drew
/-- The first of the two. -/
structure OneR (w : World) (g1 : Nat) (x : In) (u : World) : Prop where
  a : OwnI u g1 x
  bel : Below w.heap.size w u
theorem OneR.new {w w1 : World} (x : In) (hb : Below w.heap.size w w1) : OneR w w1.heap.size x (w1.alloc (.cells x.arr 26)) := ⟨OwnI.new w1 x, below_step hb (balloc w1 _)⟩
theorem TwoR.new {w w1 w2 : World} {g1 : Nat} {x : In} (h : OneR w g1 x w1) (ht : OpTab w) (hb : Below w1.heap.size w1 w2) : TwoR w g1 w2.heap.size x (w2.alloc (.cells x.arr 29)) :=
  have b := balloc w2 (.cells x.arr 29)
  ⟨(h.a.later hb).later b, OwnR.new w2 x, ht.below (below_step (below_step h.bel hb) b), below_step (below_step h.bel hb) b⟩
set_option maxRecDepth 100000 in
set_option maxHeartbeats 1600000 in
theorem reads1 (l : List Nat) (v : Value) (w : World) (h : BytesAt w w.heap.size v l) (ht : OpTab w) (hs : 1000 < l.length) : Calls Tryd.prog 3 #[v] w fun e w' => e = .returned (.bool true) ∧ Below w.heap.size w w' := by
  obtain ⟨A, cap, rfl, hc, hm⟩ := h.slice
  have H := Lib.hid ht
  have hd : decide (1000 < (l.length : Int)) = true := by simp; omega
  clear h ht
  go_enter Tryd.func3, Tryd.ntmps3
  go_wp2_with fail
  refine (lives7 _ H.out).mono ?_
  rintro e w1 ⟨rfl, hb1⟩
  go_wp2_with fail
  go_ret
  exact ⟨rfl, hb1⟩
set_option maxRecDepth 100000 in
set_option maxHeartbeats 1600000 in
theorem reads2 (l : List Nat) (v : Value) (w : World) (h : BytesAt w w.heap.size v l) (ht : OpTab w) (hs : l.length ≤ 1000) (HR : ∀ (u : World) (x : In) (b : Bool), BytesAt u u.heap.size v l → readR l = x → readB l = b → Calls Tryd.prog 10 #[v] u fun e w' => e = .returned (.tuple #[.agg x.arr, .bool b]) ∧ Below u.heap.size u w') : Calls Tryd.prog 3 #[v] w fun e w' => e = .returned (.bool true) ∧ Below w.heap.size w w' := by
  obtain ⟨x, hx⟩ : ∃ x, readR l = x := ⟨_, rfl⟩
  obtain ⟨b, hb⟩ : ∃ b, readB l = b := ⟨_, rfl⟩
  obtain ⟨A, cap, rfl, hc, hm⟩ := h.slice
  have C0 := Lib.hid (readIs w h hx hb)
  have C1 := Lib.hid (fun u (hu : Below w.heap.size w u) => HR u x b (h.up hu) hx hb)
  have C2 := Lib.hid (fun u => plain_is x u)
  have H := Lib.hid ht
  have hd : decide (1000 < (l.length : Int)) = false := by simp; omega
  have N1 := Lib.hid (fun (w1 : World) (hb1 : Below w.heap.size w w1) => OneR.new x hb1)
  have N2 := Lib.hid (fun (w1 w2 : World) (g1 : Nat) (h : OneR w g1 x w1) (hb : Below w1.heap.size w1 w2) => TwoR.new h ht hb)
  have HU := Lib.hid (show ∀ g1 g2 u, TwoR w g1 g2 x u → (fun u => (u.cell? ⟨g1, 0, none⟩ = some (.int .i64 x.set) ∧ u.cell? ⟨g1, 1, none⟩ = some (.int .i64 x.ix) ∧ u.cell? ⟨g1, 2, none⟩ = some (.int .u8 x.code) ∧ u.cell? ⟨g1, 3, none⟩ = some (.int .u8 x.d) ∧ u.cell? ⟨g1, 4, none⟩ = some (.int .u16 x.n) ∧ u.cell? ⟨g1, 5, none⟩ = some (.int .i64 x.len) ∧ u.cell? ⟨g2, 0, none⟩ = some (.int .i64 x.set) ∧ u.cell? ⟨g2, 1, none⟩ = some (.int .i64 x.ix) ∧ u.cell? ⟨g2, 2, none⟩ = some (.int .u8 x.code) ∧ u.cell? ⟨g2, 3, none⟩ = some (.int .u8 x.d) ∧ u.cell? ⟨g2, 4, none⟩ = some (.int .u16 x.n) ∧ u.cell? ⟨g2, 5, none⟩ = some (.int .i64 x.len)) ∧ TwoR w g1 g2 x u) u from fun g1 g2 u k => ⟨⟨k.a.cell 0 _ rfl, k.a.cell 1 _ rfl, k.a.cell 2 _ rfl, k.a.cell 3 _ rfl, k.a.cell 4 _ rfl, k.a.cell 5 _ rfl, k.r.cell 0 _ rfl, k.r.cell 1 _ rfl, k.r.cell 2 _ rfl, k.r.cell 3 _ rfl, k.r.cell 4 _ rfl, k.r.cell 5 _ rfl⟩, k⟩)
  clear h ht hs HR hx hb
  unfold In.arr at *
  go_enter Tryd.func3, Tryd.ntmps3
  go_wp2_with fail
  refine C0.out.mono ?_
  rintro e w1 ⟨rfl, hb1⟩
  have K1 := Lib.hid (N1.out w1 hb1)
  clear hb1 C0 N1
  go_upto_region 4 with (fail)
  have k1 := K1.out
  clear K1
  generalize w1.alloc (.cells #[.int .i64 x.set, .int .i64 x.ix, .int .u8 x.code, .int .u8 x.d, .int .u16 x.n, .int .i64 x.len] 26) = u1 at k1 ⊢
  generalize w1.heap.size = g1 at k1 ⊢
  have K1 := Lib.hid k1
  clear k1
  go_wp2_with fail
  refine (C1.out _ K1.out.bel).mono ?_
  rintro e w2 ⟨rfl, hb2⟩
  have K2 := Lib.hid (N2.out u1 w2 g1 K1.out hb2)
  clear hb2 K1 C1 N2
  go_upto_region 5 with (fail)
  have k2 := K2.out
  clear K2
  generalize w2.alloc (.cells #[.int .i64 x.set, .int .i64 x.ix, .int .u8 x.code, .int .u8 x.d, .int .u16 x.n, .int .i64 x.len] 29) = u2 at k2 ⊢
  generalize w2.heap.size = g2 at k2 ⊢
  have hS1 := HU.out g1 g2 _ k2.drew
  have P2 := Lib.hid (show ∀ u, (fun u => (u.cell? ⟨g1, 0, none⟩ = some (.int .i64 x.set) ∧ u.cell? ⟨g1, 1, none⟩ = some (.int .i64 x.ix) ∧ u.cell? ⟨g1, 2, none⟩ = some (.int .u8 x.code) ∧ u.cell? ⟨g1, 3, none⟩ = some (.int .u8 x.d) ∧ u.cell? ⟨g1, 4, none⟩ = some (.int .u16 x.n) ∧ u.cell? ⟨g1, 5, none⟩ = some (.int .i64 x.len) ∧ u.cell? ⟨g2, 0, none⟩ = some (.int .i64 x.set) ∧ u.cell? ⟨g2, 1, none⟩ = some (.int .i64 x.ix) ∧ u.cell? ⟨g2, 2, none⟩ = some (.int .u8 x.code) ∧ u.cell? ⟨g2, 3, none⟩ = some (.int .u8 x.d) ∧ u.cell? ⟨g2, 4, none⟩ = some (.int .u16 x.n) ∧ u.cell? ⟨g2, 5, none⟩ = some (.int .i64 x.len)) ∧ TwoR w g1 g2 x u) u → Calls Tryd.prog 11 #[.agg #[.int .i64 x.set, .int .i64 x.ix, .int .u8 x.code, .int .u8 x.d, .int .u16 x.n, .int .i64 x.len]] u fun e w' => e = .returned (.agg #[.int .i64 x.set, .int .i64 x.ix, .int .u8 x.code, .int .u8 x.d, .int .u16 x.n, .int .i64 x.len]) ∧ (fun u => (u.cell? ⟨g1, 0, none⟩ = some (.int .i64 x.set) ∧ u.cell? ⟨g1, 1, none⟩ = some (.int .i64 x.ix) ∧ u.cell? ⟨g1, 2, none⟩ = some (.int .u8 x.code) ∧ u.cell? ⟨g1, 3, none⟩ = some (.int .u8 x.d) ∧ u.cell? ⟨g1, 4, none⟩ = some (.int .u16 x.n) ∧ u.cell? ⟨g1, 5, none⟩ = some (.int .i64 x.len) ∧ u.cell? ⟨g2, 0, none⟩ = some (.int .i64 x.set) ∧ u.cell? ⟨g2, 1, none⟩ = some (.int .i64 x.ix) ∧ u.cell? ⟨g2, 2, none⟩ = some (.int .u8 x.code) ∧ u.cell? ⟨g2, 3, none⟩ = some (.int .u8 x.d) ∧ u.cell? ⟨g2, 4, none⟩ = some (.int .u16 x.n) ∧ u.cell? ⟨g2, 5, none⟩ = some (.int .i64 x.len)) ∧ TwoR w g1 g2 x u) w' from fun u hu => (C2.out u).mono fun _ _ ⟨he, hb⟩ => ⟨he, HU.out _ _ _ (hu.2.later hb)⟩)
  have P3 := Lib.hid (show ∀ u, (fun u => (u.cell? ⟨g1, 0, none⟩ = some (.int .i64 x.set) ∧ u.cell? ⟨g1, 1, none⟩ = some (.int .i64 x.ix) ∧ u.cell? ⟨g1, 2, none⟩ = some (.int .u8 x.code) ∧ u.cell? ⟨g1, 3, none⟩ = some (.int .u8 x.d) ∧ u.cell? ⟨g1, 4, none⟩ = some (.int .u16 x.n) ∧ u.cell? ⟨g1, 5, none⟩ = some (.int .i64 x.len) ∧ u.cell? ⟨g2, 0, none⟩ = some (.int .i64 x.set) ∧ u.cell? ⟨g2, 1, none⟩ = some (.int .i64 x.ix) ∧ u.cell? ⟨g2, 2, none⟩ = some (.int .u8 x.code) ∧ u.cell? ⟨g2, 3, none⟩ = some (.int .u8 x.d) ∧ u.cell? ⟨g2, 4, none⟩ = some (.int .u16 x.n) ∧ u.cell? ⟨g2, 5, none⟩ = some (.int .i64 x.len)) ∧ TwoR w g1 g2 x u) u → Calls Tryd.prog 8 #[] u fun e w' => e = .returned (.bool true) ∧ (fun u => (u.cell? ⟨g1, 0, none⟩ = some (.int .i64 x.set) ∧ u.cell? ⟨g1, 1, none⟩ = some (.int .i64 x.ix) ∧ u.cell? ⟨g1, 2, none⟩ = some (.int .u8 x.code) ∧ u.cell? ⟨g1, 3, none⟩ = some (.int .u8 x.d) ∧ u.cell? ⟨g1, 4, none⟩ = some (.int .u16 x.n) ∧ u.cell? ⟨g1, 5, none⟩ = some (.int .i64 x.len) ∧ u.cell? ⟨g2, 0, none⟩ = some (.int .i64 x.set) ∧ u.cell? ⟨g2, 1, none⟩ = some (.int .i64 x.ix) ∧ u.cell? ⟨g2, 2, none⟩ = some (.int .u8 x.code) ∧ u.cell? ⟨g2, 3, none⟩ = some (.int .u8 x.d) ∧ u.cell? ⟨g2, 4, none⟩ = some (.int .u16 x.n) ∧ u.cell? ⟨g2, 5, none⟩ = some (.int .i64 x.len)) ∧ TwoR w g1 g2 x u) w' from fun u hu => (lives7 u hu.2.tab).mono fun _ _ ⟨he, hb⟩ => ⟨he, HU.out _ _ _ (hu.2.later hb)⟩)
  clear k2
  go_region_held3 (fun u => (u.cell? ⟨g1, 0, none⟩ = some (.int .i64 x.set) ∧ u.cell? ⟨g1, 1, none⟩ = some (.int .i64 x.ix) ∧ u.cell? ⟨g1, 2, none⟩ = some (.int .u8 x.code) ∧ u.cell? ⟨g1, 3, none⟩ = some (.int .u8 x.d) ∧ u.cell? ⟨g1, 4, none⟩ = some (.int .u16 x.n) ∧ u.cell? ⟨g1, 5, none⟩ = some (.int .i64 x.len) ∧ u.cell? ⟨g2, 0, none⟩ = some (.int .i64 x.set) ∧ u.cell? ⟨g2, 1, none⟩ = some (.int .i64 x.ix) ∧ u.cell? ⟨g2, 2, none⟩ = some (.int .u8 x.code) ∧ u.cell? ⟨g2, 3, none⟩ = some (.int .u8 x.d) ∧ u.cell? ⟨g2, 4, none⟩ = some (.int .u16 x.n) ∧ u.cell? ⟨g2, 5, none⟩ = some (.int .i64 x.len)) ∧ TwoR w g1 g2 x u) (assumption) ((first | (go_at_call 11; refine (P2.out _ (by assumption)).mono ?_; rintro e w' ⟨rfl, hE⟩) | (go_at_call 8; refine (P3.out _ (by assumption)).mono ?_; rintro e w' ⟨rfl, hF⟩)))
  have B := Lib.hid hF.2.bel
  clear hF hS1
  go_wp2_with fail
  go_ret
  exact ⟨rfl, B.out⟩
theorem reads_law (w : World) (ht : OpTab w) (l : List Nat) {v : Value} (h : Src8 w v l) : Calls Tryd.prog 3 #[v] w fun e w' => e = .returned (.bool true) ∧ Below w.heap.size w w' := by
  by_cases hs : 1000 < l.length
  · exact reads1 l v w h.1 ht hs
  · exact reads2 l v w h.1 ht (by omega) (fun u x b hu hx hb => by subst hx hb; exact rread_any v l u hu)

end Go.Proofs.YtkjibnnoeceaeaaDoor
