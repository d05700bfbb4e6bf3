/- The document's Read: behind the sets, the plain codes. -/
import Derived.Test.YtkjibnnoeceaeaaDoorOpRRead
namespace Go.Proofs.YtkjibnnoeceaeaaDoor
open Go.RowKit

theorem refArgsIs (c n : Nat) (w : World) (hc : c < 256) (h : argC c = n) : Calls Tryd.prog 15 #[.int .u8 c] w fun e w' => e = .returned (.int .i64 ((n : Nat) : Int)) ∧ Below w.heap.size w w' := by
  subst h
  exact refArgs c w hc

set_option maxRecDepth 100000 in
set_option maxHeartbeats 1600000 in
theorem rreadp00 (v : Value) (l : List Nat) (w : World) (h : BytesAt w w.heap.size v l) (q203 : (((gN l 0 : Nat) : Int) == 203) = false) (q237 : (((gN l 0 : Nat) : Int) == 237) = false) (q221 : (((gN l 0 : Nat) : Int) == 221) = false) (q253 : (((gN l 0 : Nat) : Int) == 253) = false) (hcc : gN l 0 < 256) (harg : argC (gN l 0) = 0) (n1 : 1 ≤ l.length) : Calls Tryd.prog 10 #[v] w fun e w' => e = .returned (.tuple #[.agg (In.mk 0 0 (gN l 0) 0 0 1).arr, .bool true]) ∧ Below w.heap.size w w' := by
  obtain ⟨b, off, cap, rfl, hc, hm, hb, hcell⟩ := bytes_open h (by omega)
  unfold maxLen at hm
  have a0 : (w.alloc (.cells #[.int .i64 0, .int .i64 0, .int .u8 0, .int .u8 0, .int .u16 0, .int .i64 0] 29)).cell? ⟨b, off, none⟩ = some (.int .u8 ((gN l 0 : Nat) : Int)) := hcell (w.alloc (.cells #[.int .i64 0, .int .i64 0, .int .u8 0, .int .u8 0, .int .u16 0, .int .i64 0] 29)) (balloc w _) 0 (by omega)
  have HCELL := Lib.hid hcell
  have HA := Lib.hid (fun w => refArgsIs (gN l 0) 0 w hcc harg)
  clear harg
  have K := Lib.hid (RpAt.made w ⟨0, 0, gN l 0, 0, 0, 1⟩)
  clear hcell h
  unfold In.arr zeroI at *
  go_enter Tryd.func10, Tryd.ntmps10
  go_wp2_with fail
  refine (HA.out _).mono ?_
  rintro e w2 ⟨rfl, hb2⟩
  have k3 := K.out.later hb2
  clear hb2 K
  have i0 : w2.cell? ⟨w.heap.size + 1, 0, none⟩ = some (.int .i64 0) := k3.ins.cell 0 _ rfl
  have i1 : w2.cell? ⟨w.heap.size + 1, 1, none⟩ = some (.int .i64 0) := k3.ins.cell 1 _ rfl
  have i2 : w2.cell? ⟨w.heap.size + 1, 2, none⟩ = some (.int .u8 ((gN l 0 : Nat) : Int)) := k3.ins.cell 2 _ rfl
  have i3 : w2.cell? ⟨w.heap.size + 1, 3, none⟩ = some (.int .u8 0) := k3.ins.cell 3 _ rfl
  have i4 : w2.cell? ⟨w.heap.size + 1, 4, none⟩ = some (.int .u16 0) := k3.ins.cell 4 _ rfl
  have i5 : w2.cell? ⟨w.heap.size + 1, 5, none⟩ = some (.int .i64 1) := k3.ins.cell 5 _ rfl
  have r0 : w2.cell? ⟨w.heap.size, 0, none⟩ = some (.int .i64 0) := k3.res.cell 0 _ rfl
  have r1 : w2.cell? ⟨w.heap.size, 1, none⟩ = some (.int .i64 0) := k3.res.cell 1 _ rfl
  have r2 : w2.cell? ⟨w.heap.size, 2, none⟩ = some (.int .u8 0) := k3.res.cell 2 _ rfl
  have r3 : w2.cell? ⟨w.heap.size, 3, none⟩ = some (.int .u8 0) := k3.res.cell 3 _ rfl
  have r4 : w2.cell? ⟨w.heap.size, 4, none⟩ = some (.int .u16 0) := k3.res.cell 4 _ rfl
  have r5 : w2.cell? ⟨w.heap.size, 5, none⟩ = some (.int .i64 0) := k3.res.cell 5 _ rfl
  have f0 := k3.res.free 0
  have f1 := k3.res.free 1
  have f2 := k3.res.free 2
  have f3 := k3.res.free 3
  have f4 := k3.res.free 4
  have f5 := k3.res.free 5
  have fi4 := k3.ins.free 4
  have fi5 := k3.ins.free 5
  have lt1 := k3.ins.lt
  have B := Lib.hid k3.bel
  clear k3
  go_wp2_with fail
  exact bodyPost_ret (v := .tuple #[.agg #[.int .i64 0, .int .i64 0, .int .u8 ((gN l 0 : Nat) : Int), .int .u8 0, .int .u16 0, .int .i64 1], .bool true]) (by simp [results, Tryd.results10, go_sem, r0, r1, r2, r3, r4, r5]) rfl ⟨rfl, by repeat (with_reducible first | exact B.out | refine Below.drew ?_ | refine Below.setCell ?_ (by first | exact Nat.le_refl _ | exact Nat.le_succ _ | simp) _)⟩
set_option maxRecDepth 100000 in
set_option maxHeartbeats 1600000 in
theorem rreadp01n (v : Value) (l : List Nat) (w : World) (h : BytesAt w w.heap.size v l) (q203 : (((gN l 0 : Nat) : Int) == 203) = false) (q237 : (((gN l 0 : Nat) : Int) == 237) = false) (q221 : (((gN l 0 : Nat) : Int) == 221) = false) (q253 : (((gN l 0 : Nat) : Int) == 253) = false) (hcc : gN l 0 < 256) (harg : argC (gN l 0) = 1) (n1 : 1 ≤ l.length) (n2 : l.length < 2) : Calls Tryd.prog 10 #[v] w fun e w' => e = .returned (.tuple #[.agg zeroI.arr, .bool false]) ∧ Below w.heap.size w w' := by
  obtain ⟨b, off, cap, rfl, hc, hm, hb, hcell⟩ := bytes_open h (by omega)
  unfold maxLen at hm
  have a0 : (w.alloc (.cells #[.int .i64 0, .int .i64 0, .int .u8 0, .int .u8 0, .int .u16 0, .int .i64 0] 29)).cell? ⟨b, off, none⟩ = some (.int .u8 ((gN l 0 : Nat) : Int)) := hcell (w.alloc (.cells #[.int .i64 0, .int .i64 0, .int .u8 0, .int .u8 0, .int .u16 0, .int .i64 0] 29)) (balloc w _) 0 (by omega)
  have HCELL := Lib.hid hcell
  have HA := Lib.hid (fun w => refArgsIs (gN l 0) 1 w hcc harg)
  clear harg
  have K := Lib.hid (RpAt.made w ⟨0, 0, gN l 0, 0, 0, 1⟩)
  clear hcell h
  unfold In.arr zeroI at *
  go_enter Tryd.func10, Tryd.ntmps10
  go_wp2_with fail
  refine (HA.out _).mono ?_
  rintro e w2 ⟨rfl, hb2⟩
  have k3 := K.out.later hb2
  clear hb2 K
  have i5 : w2.cell? ⟨w.heap.size + 1, 5, none⟩ = some (.int .i64 1) := k3.ins.cell 5 _ rfl
  have r0 : w2.cell? ⟨w.heap.size, 0, none⟩ = some (.int .i64 0) := k3.res.cell 0 _ rfl
  have r1 : w2.cell? ⟨w.heap.size, 1, none⟩ = some (.int .i64 0) := k3.res.cell 1 _ rfl
  have r2 : w2.cell? ⟨w.heap.size, 2, none⟩ = some (.int .u8 0) := k3.res.cell 2 _ rfl
  have r3 : w2.cell? ⟨w.heap.size, 3, none⟩ = some (.int .u8 0) := k3.res.cell 3 _ rfl
  have r4 : w2.cell? ⟨w.heap.size, 4, none⟩ = some (.int .u16 0) := k3.res.cell 4 _ rfl
  have r5 : w2.cell? ⟨w.heap.size, 5, none⟩ = some (.int .i64 0) := k3.res.cell 5 _ rfl
  have f0 := k3.res.free 0
  have f1 := k3.res.free 1
  have f2 := k3.res.free 2
  have f3 := k3.res.free 3
  have f4 := k3.res.free 4
  have f5 := k3.res.free 5
  have B := Lib.hid k3.bel
  clear k3
  go_wp2_with fail
  exact bodyPost_ret (v := .tuple #[.agg #[.int .i64 0, .int .i64 0, .int .u8 0, .int .u8 0, .int .u16 0, .int .i64 0], .bool false]) (by simp [results, Tryd.results10, go_sem, r0, r1, r2, r3, r4, r5]) rfl ⟨rfl, below_fill B.out (Nat.le_refl _) _ _ _ _ _ _⟩
set_option maxRecDepth 100000 in
set_option maxHeartbeats 1600000 in
theorem rreadp01 (v : Value) (l : List Nat) (w : World) (h : BytesAt w w.heap.size v l) (q203 : (((gN l 0 : Nat) : Int) == 203) = false) (q237 : (((gN l 0 : Nat) : Int) == 237) = false) (q221 : (((gN l 0 : Nat) : Int) == 221) = false) (q253 : (((gN l 0 : Nat) : Int) == 253) = false) (hcc : gN l 0 < 256) (harg : argC (gN l 0) = 1) (n1 : 2 ≤ l.length) (hb1 : gN l 1 < 256) : Calls Tryd.prog 10 #[v] w fun e w' => e = .returned (.tuple #[.agg (In.mk 0 0 (gN l 0) 0 (gN l 1) 2).arr, .bool true]) ∧ Below w.heap.size w w' := by
  obtain ⟨b, off, cap, rfl, hc, hm, hb, hcell⟩ := bytes_open h (by omega)
  unfold maxLen at hm
  have a0 : (w.alloc (.cells #[.int .i64 0, .int .i64 0, .int .u8 0, .int .u8 0, .int .u16 0, .int .i64 0] 29)).cell? ⟨b, off, none⟩ = some (.int .u8 ((gN l 0 : Nat) : Int)) := hcell (w.alloc (.cells #[.int .i64 0, .int .i64 0, .int .u8 0, .int .u8 0, .int .u16 0, .int .i64 0] 29)) (balloc w _) 0 (by omega)
  have HCELL := Lib.hid hcell
  have HA := Lib.hid (fun w => refArgsIs (gN l 0) 1 w hcc harg)
  clear harg
  have K := Lib.hid (RpAt.made w ⟨0, 0, gN l 0, 0, 0, 1⟩)
  clear hcell h
  unfold In.arr zeroI at *
  go_enter Tryd.func10, Tryd.ntmps10
  go_wp2_with fail
  refine (HA.out _).mono ?_
  rintro e w2 ⟨rfl, hb2⟩
  have k3 := K.out.later hb2
  clear hb2 K
  have i0 : w2.cell? ⟨w.heap.size + 1, 0, none⟩ = some (.int .i64 0) := k3.ins.cell 0 _ rfl
  have i1 : w2.cell? ⟨w.heap.size + 1, 1, none⟩ = some (.int .i64 0) := k3.ins.cell 1 _ rfl
  have i2 : w2.cell? ⟨w.heap.size + 1, 2, none⟩ = some (.int .u8 ((gN l 0 : Nat) : Int)) := k3.ins.cell 2 _ rfl
  have i3 : w2.cell? ⟨w.heap.size + 1, 3, none⟩ = some (.int .u8 0) := k3.ins.cell 3 _ rfl
  have i4 : w2.cell? ⟨w.heap.size + 1, 4, none⟩ = some (.int .u16 0) := k3.ins.cell 4 _ rfl
  have i5 : w2.cell? ⟨w.heap.size + 1, 5, none⟩ = some (.int .i64 1) := k3.ins.cell 5 _ rfl
  have r0 : w2.cell? ⟨w.heap.size, 0, none⟩ = some (.int .i64 0) := k3.res.cell 0 _ rfl
  have r1 : w2.cell? ⟨w.heap.size, 1, none⟩ = some (.int .i64 0) := k3.res.cell 1 _ rfl
  have r2 : w2.cell? ⟨w.heap.size, 2, none⟩ = some (.int .u8 0) := k3.res.cell 2 _ rfl
  have r3 : w2.cell? ⟨w.heap.size, 3, none⟩ = some (.int .u8 0) := k3.res.cell 3 _ rfl
  have r4 : w2.cell? ⟨w.heap.size, 4, none⟩ = some (.int .u16 0) := k3.res.cell 4 _ rfl
  have r5 : w2.cell? ⟨w.heap.size, 5, none⟩ = some (.int .i64 0) := k3.res.cell 5 _ rfl
  have f0 := k3.res.free 0
  have f1 := k3.res.free 1
  have f2 := k3.res.free 2
  have f3 := k3.res.free 3
  have f4 := k3.res.free 4
  have f5 := k3.res.free 5
  have c1 : w2.cell? ⟨b, off + 1, none⟩ = some (.int .u8 ((gN l 1 : Nat) : Int)) := HCELL.out _ k3.bel 1 (by omega)
  have fi4 := k3.ins.free 4
  have fi5 := k3.ins.free 5
  have lt1 := k3.ins.lt
  have B := Lib.hid k3.bel
  clear k3
  go_wp2_with fail
  exact bodyPost_ret (v := .tuple #[.agg #[.int .i64 0, .int .i64 0, .int .u8 ((gN l 0 : Nat) : Int), .int .u8 0, .int .u16 ((gN l 1 : Nat) : Int), .int .i64 2], .bool true]) (by simp [results, Tryd.results10, go_sem, r0, r1, r2, r3, r4, r5]) rfl ⟨rfl, by repeat (with_reducible first | exact B.out | refine Below.drew ?_ | refine Below.setCell ?_ (by first | exact Nat.le_refl _ | exact Nat.le_succ _ | simp) _)⟩
set_option maxRecDepth 100000 in
set_option maxHeartbeats 1600000 in
theorem rreadp02n (v : Value) (l : List Nat) (w : World) (h : BytesAt w w.heap.size v l) (q203 : (((gN l 0 : Nat) : Int) == 203) = false) (q237 : (((gN l 0 : Nat) : Int) == 237) = false) (q221 : (((gN l 0 : Nat) : Int) == 221) = false) (q253 : (((gN l 0 : Nat) : Int) == 253) = false) (hcc : gN l 0 < 256) (harg : argC (gN l 0) = 2) (n1 : 1 ≤ l.length) (n2 : l.length < 3) : Calls Tryd.prog 10 #[v] w fun e w' => e = .returned (.tuple #[.agg zeroI.arr, .bool false]) ∧ Below w.heap.size w w' := by
  obtain ⟨b, off, cap, rfl, hc, hm, hb, hcell⟩ := bytes_open h (by omega)
  unfold maxLen at hm
  have a0 : (w.alloc (.cells #[.int .i64 0, .int .i64 0, .int .u8 0, .int .u8 0, .int .u16 0, .int .i64 0] 29)).cell? ⟨b, off, none⟩ = some (.int .u8 ((gN l 0 : Nat) : Int)) := hcell (w.alloc (.cells #[.int .i64 0, .int .i64 0, .int .u8 0, .int .u8 0, .int .u16 0, .int .i64 0] 29)) (balloc w _) 0 (by omega)
  have HCELL := Lib.hid hcell
  have HA := Lib.hid (fun w => refArgsIs (gN l 0) 2 w hcc harg)
  clear harg
  have K := Lib.hid (RpAt.made w ⟨0, 0, gN l 0, 0, 0, 1⟩)
  clear hcell h
  unfold In.arr zeroI at *
  go_enter Tryd.func10, Tryd.ntmps10
  go_wp2_with fail
  refine (HA.out _).mono ?_
  rintro e w2 ⟨rfl, hb2⟩
  have k3 := K.out.later hb2
  clear hb2 K
  have i5 : w2.cell? ⟨w.heap.size + 1, 5, none⟩ = some (.int .i64 1) := k3.ins.cell 5 _ rfl
  have r0 : w2.cell? ⟨w.heap.size, 0, none⟩ = some (.int .i64 0) := k3.res.cell 0 _ rfl
  have r1 : w2.cell? ⟨w.heap.size, 1, none⟩ = some (.int .i64 0) := k3.res.cell 1 _ rfl
  have r2 : w2.cell? ⟨w.heap.size, 2, none⟩ = some (.int .u8 0) := k3.res.cell 2 _ rfl
  have r3 : w2.cell? ⟨w.heap.size, 3, none⟩ = some (.int .u8 0) := k3.res.cell 3 _ rfl
  have r4 : w2.cell? ⟨w.heap.size, 4, none⟩ = some (.int .u16 0) := k3.res.cell 4 _ rfl
  have r5 : w2.cell? ⟨w.heap.size, 5, none⟩ = some (.int .i64 0) := k3.res.cell 5 _ rfl
  have f0 := k3.res.free 0
  have f1 := k3.res.free 1
  have f2 := k3.res.free 2
  have f3 := k3.res.free 3
  have f4 := k3.res.free 4
  have f5 := k3.res.free 5
  have B := Lib.hid k3.bel
  clear k3
  go_wp2_with fail
  exact bodyPost_ret (v := .tuple #[.agg #[.int .i64 0, .int .i64 0, .int .u8 0, .int .u8 0, .int .u16 0, .int .i64 0], .bool false]) (by simp [results, Tryd.results10, go_sem, r0, r1, r2, r3, r4, r5]) rfl ⟨rfl, below_fill B.out (Nat.le_refl _) _ _ _ _ _ _⟩
set_option maxRecDepth 100000 in
set_option maxHeartbeats 1600000 in
theorem rreadp02 (v : Value) (l : List Nat) (w : World) (h : BytesAt w w.heap.size v l) (q203 : (((gN l 0 : Nat) : Int) == 203) = false) (q237 : (((gN l 0 : Nat) : Int) == 237) = false) (q221 : (((gN l 0 : Nat) : Int) == 221) = false) (q253 : (((gN l 0 : Nat) : Int) == 253) = false) (hcc : gN l 0 < 256) (harg : argC (gN l 0) = 2) (n1 : 3 ≤ l.length) (hb1 : gN l 1 < 256) (hb2 : gN l 2 < 256) : Calls Tryd.prog 10 #[v] w fun e w' => e = .returned (.tuple #[.agg (In.mk 0 0 (gN l 0) 0 (gN l 1 + 256 * gN l 2) 3).arr, .bool true]) ∧ Below w.heap.size w w' := by
  obtain ⟨b, off, cap, rfl, hc, hm, hb, hcell⟩ := bytes_open h (by omega)
  unfold maxLen at hm
  have a0 : (w.alloc (.cells #[.int .i64 0, .int .i64 0, .int .u8 0, .int .u8 0, .int .u16 0, .int .i64 0] 29)).cell? ⟨b, off, none⟩ = some (.int .u8 ((gN l 0 : Nat) : Int)) := hcell (w.alloc (.cells #[.int .i64 0, .int .i64 0, .int .u8 0, .int .u8 0, .int .u16 0, .int .i64 0] 29)) (balloc w _) 0 (by omega)
  have HCELL := Lib.hid hcell
  have HA := Lib.hid (fun w => refArgsIs (gN l 0) 2 w hcc harg)
  clear harg
  have K := Lib.hid (RpAt.made w ⟨0, 0, gN l 0, 0, 0, 1⟩)
  clear hcell h
  unfold In.arr zeroI at *
  go_enter Tryd.func10, Tryd.ntmps10
  go_wp2_with fail
  refine (HA.out _).mono ?_
  rintro e w2 ⟨rfl, hb2⟩
  have k3 := K.out.later hb2
  clear hb2 K
  have i0 : w2.cell? ⟨w.heap.size + 1, 0, none⟩ = some (.int .i64 0) := k3.ins.cell 0 _ rfl
  have i1 : w2.cell? ⟨w.heap.size + 1, 1, none⟩ = some (.int .i64 0) := k3.ins.cell 1 _ rfl
  have i2 : w2.cell? ⟨w.heap.size + 1, 2, none⟩ = some (.int .u8 ((gN l 0 : Nat) : Int)) := k3.ins.cell 2 _ rfl
  have i3 : w2.cell? ⟨w.heap.size + 1, 3, none⟩ = some (.int .u8 0) := k3.ins.cell 3 _ rfl
  have i4 : w2.cell? ⟨w.heap.size + 1, 4, none⟩ = some (.int .u16 0) := k3.ins.cell 4 _ rfl
  have i5 : w2.cell? ⟨w.heap.size + 1, 5, none⟩ = some (.int .i64 1) := k3.ins.cell 5 _ rfl
  have r0 : w2.cell? ⟨w.heap.size, 0, none⟩ = some (.int .i64 0) := k3.res.cell 0 _ rfl
  have r1 : w2.cell? ⟨w.heap.size, 1, none⟩ = some (.int .i64 0) := k3.res.cell 1 _ rfl
  have r2 : w2.cell? ⟨w.heap.size, 2, none⟩ = some (.int .u8 0) := k3.res.cell 2 _ rfl
  have r3 : w2.cell? ⟨w.heap.size, 3, none⟩ = some (.int .u8 0) := k3.res.cell 3 _ rfl
  have r4 : w2.cell? ⟨w.heap.size, 4, none⟩ = some (.int .u16 0) := k3.res.cell 4 _ rfl
  have r5 : w2.cell? ⟨w.heap.size, 5, none⟩ = some (.int .i64 0) := k3.res.cell 5 _ rfl
  have f0 := k3.res.free 0
  have f1 := k3.res.free 1
  have f2 := k3.res.free 2
  have f3 := k3.res.free 3
  have f4 := k3.res.free 4
  have f5 := k3.res.free 5
  have c1 : w2.cell? ⟨b, off + 1, none⟩ = some (.int .u8 ((gN l 1 : Nat) : Int)) := HCELL.out _ k3.bel 1 (by omega)
  have c2 : w2.cell? ⟨b, off + 2, none⟩ = some (.int .u8 ((gN l 2 : Nat) : Int)) := HCELL.out _ k3.bel 2 (by omega)
  have fi4 := k3.ins.free 4
  have fi5 := k3.ins.free 5
  have lt1 := k3.ins.lt
  have B := Lib.hid k3.bel
  clear k3
  go_wp2_with fail
  go_region
  go_wp2_with fail
  exact bodyPost_ret (v := .tuple #[.agg #[.int .i64 0, .int .i64 0, .int .u8 ((gN l 0 : Nat) : Int), .int .u8 0, .int .u16 (((gN l 1 : Nat) : Int) + 256 * ((gN l 2 : Nat) : Int)), .int .i64 3], .bool true]) (by simp [results, Tryd.results10, go_sem, r0, r1, r2, r3, r4, r5]) rfl ⟨rfl, by repeat (with_reducible first | exact B.out | refine Below.drew ?_ | refine Below.setCell ?_ (by first | exact Nat.le_refl _ | exact Nat.le_succ _ | simp) _)⟩
set_option maxRecDepth 100000 in
set_option maxHeartbeats 1600000 in
theorem rreadp1md (v : Value) (l : List Nat) (w : World) (h : BytesAt w w.heap.size v l) (q203 : (((gN l 0 : Nat) : Int) == 203) = false) (q237 : (((gN l 0 : Nat) : Int) == 237) = false) (q221 : (((gN l 0 : Nat) : Int) == 221) = true) (q253 : (((gN l 0 : Nat) : Int) == 253) = false) (r221 : (((gN l 1 : Nat) : Int) == 221) = false) (r237 : (((gN l 1 : Nat) : Int) == 237) = false) (r253 : (((gN l 1 : Nat) : Int) == 253) = false) (r203 : (((gN l 1 : Nat) : Int) == 203) = false) (hcc : gN l 1 < 256) (hmem : memC (gN l 1) = true) (n1 : 2 ≤ l.length) (n2 : l.length < 3) : Calls Tryd.prog 10 #[v] w fun e w' => e = .returned (.tuple #[.agg zeroI.arr, .bool false]) ∧ Below w.heap.size w w' := by
  obtain ⟨b, off, cap, rfl, hc, hm, hb, hcell⟩ := bytes_open h (by omega)
  unfold maxLen at hm
  have a0 : (w.alloc (.cells #[.int .i64 0, .int .i64 0, .int .u8 0, .int .u8 0, .int .u16 0, .int .i64 0] 29)).cell? ⟨b, off, none⟩ = some (.int .u8 ((gN l 0 : Nat) : Int)) := hcell (w.alloc (.cells #[.int .i64 0, .int .i64 0, .int .u8 0, .int .u8 0, .int .u16 0, .int .i64 0] 29)) (balloc w _) 0 (by omega)
  have a1 : (w.alloc (.cells #[.int .i64 0, .int .i64 0, .int .u8 0, .int .u8 0, .int .u16 0, .int .i64 0] 29)).cell? ⟨b, off + 1, none⟩ = some (.int .u8 ((gN l 1 : Nat) : Int)) := hcell (w.alloc (.cells #[.int .i64 0, .int .i64 0, .int .u8 0, .int .u8 0, .int .u16 0, .int .i64 0] 29)) (balloc w _) 1 (by omega)
  have HCELL := Lib.hid hcell
  have HM := Lib.hid (fun w => refMemIs (gN l 1) true w hcc hmem)
  clear hmem
  have K := Lib.hid (RpAt.made w ⟨0, 1, gN l 1, 0, 0, 2⟩)
  clear hcell h
  unfold In.arr zeroI at *
  go_enter Tryd.func10, Tryd.ntmps10
  go_wp2_with fail
  refine (HM.out _).mono ?_
  rintro e w1 ⟨rfl, hb1⟩
  have k1 := K.out.later hb1
  clear hb1 K
  have i5 : w1.cell? ⟨w.heap.size + 1, 5, none⟩ = some (.int .i64 2) := k1.ins.cell 5 _ rfl
  have r0 : w1.cell? ⟨w.heap.size, 0, none⟩ = some (.int .i64 0) := k1.res.cell 0 _ rfl
  have r1 : w1.cell? ⟨w.heap.size, 1, none⟩ = some (.int .i64 0) := k1.res.cell 1 _ rfl
  have r2 : w1.cell? ⟨w.heap.size, 2, none⟩ = some (.int .u8 0) := k1.res.cell 2 _ rfl
  have r3 : w1.cell? ⟨w.heap.size, 3, none⟩ = some (.int .u8 0) := k1.res.cell 3 _ rfl
  have r4 : w1.cell? ⟨w.heap.size, 4, none⟩ = some (.int .u16 0) := k1.res.cell 4 _ rfl
  have r5 : w1.cell? ⟨w.heap.size, 5, none⟩ = some (.int .i64 0) := k1.res.cell 5 _ rfl
  have f0 := k1.res.free 0
  have f1 := k1.res.free 1
  have f2 := k1.res.free 2
  have f3 := k1.res.free 3
  have f4 := k1.res.free 4
  have f5 := k1.res.free 5
  have B := Lib.hid k1.bel
  clear k1
  go_wp2_with fail
  exact bodyPost_ret (v := .tuple #[.agg #[.int .i64 0, .int .i64 0, .int .u8 0, .int .u8 0, .int .u16 0, .int .i64 0], .bool false]) (by simp [results, Tryd.results10, go_sem, r0, r1, r2, r3, r4, r5]) rfl ⟨rfl, below_fill B.out (Nat.le_refl _) _ _ _ _ _ _⟩
set_option maxRecDepth 100000 in
set_option maxHeartbeats 1600000 in
theorem rreadp1m0 (v : Value) (l : List Nat) (w : World) (h : BytesAt w w.heap.size v l) (q203 : (((gN l 0 : Nat) : Int) == 203) = false) (q237 : (((gN l 0 : Nat) : Int) == 237) = false) (q221 : (((gN l 0 : Nat) : Int) == 221) = true) (q253 : (((gN l 0 : Nat) : Int) == 253) = false) (r221 : (((gN l 1 : Nat) : Int) == 221) = false) (r237 : (((gN l 1 : Nat) : Int) == 237) = false) (r253 : (((gN l 1 : Nat) : Int) == 253) = false) (r203 : (((gN l 1 : Nat) : Int) == 203) = false) (hcc : gN l 1 < 256) (hmem : memC (gN l 1) = true) (harg : argC (gN l 1) = 0) (n1 : 3 ≤ l.length) (hb2 : gN l 2 < 256) : Calls Tryd.prog 10 #[v] w fun e w' => e = .returned (.tuple #[.agg (In.mk 0 1 (gN l 1) (gN l 2) 0 3).arr, .bool true]) ∧ Below w.heap.size w w' := by
  obtain ⟨b, off, cap, rfl, hc, hm, hb, hcell⟩ := bytes_open h (by omega)
  unfold maxLen at hm
  have a0 : (w.alloc (.cells #[.int .i64 0, .int .i64 0, .int .u8 0, .int .u8 0, .int .u16 0, .int .i64 0] 29)).cell? ⟨b, off, none⟩ = some (.int .u8 ((gN l 0 : Nat) : Int)) := hcell (w.alloc (.cells #[.int .i64 0, .int .i64 0, .int .u8 0, .int .u8 0, .int .u16 0, .int .i64 0] 29)) (balloc w _) 0 (by omega)
  have a1 : (w.alloc (.cells #[.int .i64 0, .int .i64 0, .int .u8 0, .int .u8 0, .int .u16 0, .int .i64 0] 29)).cell? ⟨b, off + 1, none⟩ = some (.int .u8 ((gN l 1 : Nat) : Int)) := hcell (w.alloc (.cells #[.int .i64 0, .int .i64 0, .int .u8 0, .int .u8 0, .int .u16 0, .int .i64 0] 29)) (balloc w _) 1 (by omega)
  have HCELL := Lib.hid hcell
  have HM := Lib.hid (fun w => refMemIs (gN l 1) true w hcc hmem)
  clear hmem
  have HA := Lib.hid (fun w => refArgsIs (gN l 1) 0 w hcc harg)
  clear harg
  have K := Lib.hid (RpAt.made w ⟨0, 1, gN l 1, 0, 0, 2⟩)
  clear hcell h
  unfold In.arr zeroI at *
  go_enter Tryd.func10, Tryd.ntmps10
  go_wp2_with fail
  refine (HM.out _).mono ?_
  rintro e w1 ⟨rfl, hb1⟩
  have k1 := K.out.later hb1
  clear hb1 K
  have i2 : w1.cell? ⟨w.heap.size + 1, 2, none⟩ = some (.int .u8 ((gN l 1 : Nat) : Int)) := k1.ins.cell 2 _ rfl
  have i3 : w1.cell? ⟨w.heap.size + 1, 3, none⟩ = some (.int .u8 0) := k1.ins.cell 3 _ rfl
  have i5 : w1.cell? ⟨w.heap.size + 1, 5, none⟩ = some (.int .i64 2) := k1.ins.cell 5 _ rfl
  have c2 : w1.cell? ⟨b, off + 2, none⟩ = some (.int .u8 ((gN l 2 : Nat) : Int)) := HCELL.out _ k1.bel 2 (by omega)
  have fi3 := k1.ins.free 3
  have fi5 := k1.ins.free 5
  have k2 := (k1.put (y := ⟨0, 1, gN l 1, gN l 2, 0, 2⟩) 3 _ rfl).put (y := ⟨0, 1, gN l 1, gN l 2, 0, 3⟩) 5 (.int .i64 3) rfl
  have K := Lib.hid k2
  clear k1 k2
  go_wp2_with fail
  refine (HA.out _).mono ?_
  rintro e w2 ⟨rfl, hb2⟩
  have k3 := K.out.later hb2
  clear hb2 K i2 i3 i5 c2 fi3 fi5
  have i0 : w2.cell? ⟨w.heap.size + 1, 0, none⟩ = some (.int .i64 0) := k3.ins.cell 0 _ rfl
  have i1 : w2.cell? ⟨w.heap.size + 1, 1, none⟩ = some (.int .i64 1) := k3.ins.cell 1 _ rfl
  have i2 : w2.cell? ⟨w.heap.size + 1, 2, none⟩ = some (.int .u8 ((gN l 1 : Nat) : Int)) := k3.ins.cell 2 _ rfl
  have i3 : w2.cell? ⟨w.heap.size + 1, 3, none⟩ = some (.int .u8 ((gN l 2 : Nat) : Int)) := k3.ins.cell 3 _ rfl
  have i4 : w2.cell? ⟨w.heap.size + 1, 4, none⟩ = some (.int .u16 0) := k3.ins.cell 4 _ rfl
  have i5 : w2.cell? ⟨w.heap.size + 1, 5, none⟩ = some (.int .i64 3) := k3.ins.cell 5 _ rfl
  have r0 : w2.cell? ⟨w.heap.size, 0, none⟩ = some (.int .i64 0) := k3.res.cell 0 _ rfl
  have r1 : w2.cell? ⟨w.heap.size, 1, none⟩ = some (.int .i64 0) := k3.res.cell 1 _ rfl
  have r2 : w2.cell? ⟨w.heap.size, 2, none⟩ = some (.int .u8 0) := k3.res.cell 2 _ rfl
  have r3 : w2.cell? ⟨w.heap.size, 3, none⟩ = some (.int .u8 0) := k3.res.cell 3 _ rfl
  have r4 : w2.cell? ⟨w.heap.size, 4, none⟩ = some (.int .u16 0) := k3.res.cell 4 _ rfl
  have r5 : w2.cell? ⟨w.heap.size, 5, none⟩ = some (.int .i64 0) := k3.res.cell 5 _ rfl
  have f0 := k3.res.free 0
  have f1 := k3.res.free 1
  have f2 := k3.res.free 2
  have f3 := k3.res.free 3
  have f4 := k3.res.free 4
  have f5 := k3.res.free 5
  have fi4 := k3.ins.free 4
  have fi5 := k3.ins.free 5
  have lt1 := k3.ins.lt
  have B := Lib.hid k3.bel
  clear k3
  go_wp2_with fail
  exact bodyPost_ret (v := .tuple #[.agg #[.int .i64 0, .int .i64 1, .int .u8 ((gN l 1 : Nat) : Int), .int .u8 ((gN l 2 : Nat) : Int), .int .u16 0, .int .i64 3], .bool true]) (by simp [results, Tryd.results10, go_sem, r0, r1, r2, r3, r4, r5]) rfl ⟨rfl, by repeat (with_reducible first | exact B.out | refine Below.drew ?_ | refine Below.setCell ?_ (by first | exact Nat.le_refl _ | exact Nat.le_succ _ | simp) _)⟩
set_option maxRecDepth 100000 in
set_option maxHeartbeats 1600000 in
theorem rreadp1m1n (v : Value) (l : List Nat) (w : World) (h : BytesAt w w.heap.size v l) (q203 : (((gN l 0 : Nat) : Int) == 203) = false) (q237 : (((gN l 0 : Nat) : Int) == 237) = false) (q221 : (((gN l 0 : Nat) : Int) == 221) = true) (q253 : (((gN l 0 : Nat) : Int) == 253) = false) (r221 : (((gN l 1 : Nat) : Int) == 221) = false) (r237 : (((gN l 1 : Nat) : Int) == 237) = false) (r253 : (((gN l 1 : Nat) : Int) == 253) = false) (r203 : (((gN l 1 : Nat) : Int) == 203) = false) (hcc : gN l 1 < 256) (hmem : memC (gN l 1) = true) (harg : argC (gN l 1) = 1) (n1 : 3 ≤ l.length) (n2 : l.length < 4) (hb2 : gN l 2 < 256) : Calls Tryd.prog 10 #[v] w fun e w' => e = .returned (.tuple #[.agg zeroI.arr, .bool false]) ∧ Below w.heap.size w w' := by
  obtain ⟨b, off, cap, rfl, hc, hm, hb, hcell⟩ := bytes_open h (by omega)
  unfold maxLen at hm
  have a0 : (w.alloc (.cells #[.int .i64 0, .int .i64 0, .int .u8 0, .int .u8 0, .int .u16 0, .int .i64 0] 29)).cell? ⟨b, off, none⟩ = some (.int .u8 ((gN l 0 : Nat) : Int)) := hcell (w.alloc (.cells #[.int .i64 0, .int .i64 0, .int .u8 0, .int .u8 0, .int .u16 0, .int .i64 0] 29)) (balloc w _) 0 (by omega)
  have a1 : (w.alloc (.cells #[.int .i64 0, .int .i64 0, .int .u8 0, .int .u8 0, .int .u16 0, .int .i64 0] 29)).cell? ⟨b, off + 1, none⟩ = some (.int .u8 ((gN l 1 : Nat) : Int)) := hcell (w.alloc (.cells #[.int .i64 0, .int .i64 0, .int .u8 0, .int .u8 0, .int .u16 0, .int .i64 0] 29)) (balloc w _) 1 (by omega)
  have HCELL := Lib.hid hcell
  have HM := Lib.hid (fun w => refMemIs (gN l 1) true w hcc hmem)
  clear hmem
  have HA := Lib.hid (fun w => refArgsIs (gN l 1) 1 w hcc harg)
  clear harg
  have K := Lib.hid (RpAt.made w ⟨0, 1, gN l 1, 0, 0, 2⟩)
  clear hcell h
  unfold In.arr zeroI at *
  go_enter Tryd.func10, Tryd.ntmps10
  go_wp2_with fail
  refine (HM.out _).mono ?_
  rintro e w1 ⟨rfl, hb1⟩
  have k1 := K.out.later hb1
  clear hb1 K
  have i2 : w1.cell? ⟨w.heap.size + 1, 2, none⟩ = some (.int .u8 ((gN l 1 : Nat) : Int)) := k1.ins.cell 2 _ rfl
  have i3 : w1.cell? ⟨w.heap.size + 1, 3, none⟩ = some (.int .u8 0) := k1.ins.cell 3 _ rfl
  have i5 : w1.cell? ⟨w.heap.size + 1, 5, none⟩ = some (.int .i64 2) := k1.ins.cell 5 _ rfl
  have c2 : w1.cell? ⟨b, off + 2, none⟩ = some (.int .u8 ((gN l 2 : Nat) : Int)) := HCELL.out _ k1.bel 2 (by omega)
  have fi3 := k1.ins.free 3
  have fi5 := k1.ins.free 5
  have k2 := (k1.put (y := ⟨0, 1, gN l 1, gN l 2, 0, 2⟩) 3 _ rfl).put (y := ⟨0, 1, gN l 1, gN l 2, 0, 3⟩) 5 (.int .i64 3) rfl
  have K := Lib.hid k2
  clear k1 k2
  go_wp2_with fail
  refine (HA.out _).mono ?_
  rintro e w2 ⟨rfl, hb2⟩
  have k3 := K.out.later hb2
  clear hb2 K i2 i3 i5 c2 fi3 fi5
  have i5 : w2.cell? ⟨w.heap.size + 1, 5, none⟩ = some (.int .i64 3) := k3.ins.cell 5 _ rfl
  have r0 : w2.cell? ⟨w.heap.size, 0, none⟩ = some (.int .i64 0) := k3.res.cell 0 _ rfl
  have r1 : w2.cell? ⟨w.heap.size, 1, none⟩ = some (.int .i64 0) := k3.res.cell 1 _ rfl
  have r2 : w2.cell? ⟨w.heap.size, 2, none⟩ = some (.int .u8 0) := k3.res.cell 2 _ rfl
  have r3 : w2.cell? ⟨w.heap.size, 3, none⟩ = some (.int .u8 0) := k3.res.cell 3 _ rfl
  have r4 : w2.cell? ⟨w.heap.size, 4, none⟩ = some (.int .u16 0) := k3.res.cell 4 _ rfl
  have r5 : w2.cell? ⟨w.heap.size, 5, none⟩ = some (.int .i64 0) := k3.res.cell 5 _ rfl
  have f0 := k3.res.free 0
  have f1 := k3.res.free 1
  have f2 := k3.res.free 2
  have f3 := k3.res.free 3
  have f4 := k3.res.free 4
  have f5 := k3.res.free 5
  have B := Lib.hid k3.bel
  clear k3
  go_wp2_with fail
  exact bodyPost_ret (v := .tuple #[.agg #[.int .i64 0, .int .i64 0, .int .u8 0, .int .u8 0, .int .u16 0, .int .i64 0], .bool false]) (by simp [results, Tryd.results10, go_sem, r0, r1, r2, r3, r4, r5]) rfl ⟨rfl, below_fill B.out (Nat.le_refl _) _ _ _ _ _ _⟩
set_option maxRecDepth 100000 in
set_option maxHeartbeats 1600000 in
theorem rreadp1m1 (v : Value) (l : List Nat) (w : World) (h : BytesAt w w.heap.size v l) (q203 : (((gN l 0 : Nat) : Int) == 203) = false) (q237 : (((gN l 0 : Nat) : Int) == 237) = false) (q221 : (((gN l 0 : Nat) : Int) == 221) = true) (q253 : (((gN l 0 : Nat) : Int) == 253) = false) (r221 : (((gN l 1 : Nat) : Int) == 221) = false) (r237 : (((gN l 1 : Nat) : Int) == 237) = false) (r253 : (((gN l 1 : Nat) : Int) == 253) = false) (r203 : (((gN l 1 : Nat) : Int) == 203) = false) (hcc : gN l 1 < 256) (hmem : memC (gN l 1) = true) (harg : argC (gN l 1) = 1) (n1 : 4 ≤ l.length) (hb2 : gN l 2 < 256) (hb3 : gN l 3 < 256) : Calls Tryd.prog 10 #[v] w fun e w' => e = .returned (.tuple #[.agg (In.mk 0 1 (gN l 1) (gN l 2) (gN l 3) 4).arr, .bool true]) ∧ Below w.heap.size w w' := by
  obtain ⟨b, off, cap, rfl, hc, hm, hb, hcell⟩ := bytes_open h (by omega)
  unfold maxLen at hm
  have a0 : (w.alloc (.cells #[.int .i64 0, .int .i64 0, .int .u8 0, .int .u8 0, .int .u16 0, .int .i64 0] 29)).cell? ⟨b, off, none⟩ = some (.int .u8 ((gN l 0 : Nat) : Int)) := hcell (w.alloc (.cells #[.int .i64 0, .int .i64 0, .int .u8 0, .int .u8 0, .int .u16 0, .int .i64 0] 29)) (balloc w _) 0 (by omega)
  have a1 : (w.alloc (.cells #[.int .i64 0, .int .i64 0, .int .u8 0, .int .u8 0, .int .u16 0, .int .i64 0] 29)).cell? ⟨b, off + 1, none⟩ = some (.int .u8 ((gN l 1 : Nat) : Int)) := hcell (w.alloc (.cells #[.int .i64 0, .int .i64 0, .int .u8 0, .int .u8 0, .int .u16 0, .int .i64 0] 29)) (balloc w _) 1 (by omega)
  have HCELL := Lib.hid hcell
  have HM := Lib.hid (fun w => refMemIs (gN l 1) true w hcc hmem)
  clear hmem
  have HA := Lib.hid (fun w => refArgsIs (gN l 1) 1 w hcc harg)
  clear harg
  have K := Lib.hid (RpAt.made w ⟨0, 1, gN l 1, 0, 0, 2⟩)
  clear hcell h
  unfold In.arr zeroI at *
  go_enter Tryd.func10, Tryd.ntmps10
  go_wp2_with fail
  refine (HM.out _).mono ?_
  rintro e w1 ⟨rfl, hb1⟩
  have k1 := K.out.later hb1
  clear hb1 K
  have i2 : w1.cell? ⟨w.heap.size + 1, 2, none⟩ = some (.int .u8 ((gN l 1 : Nat) : Int)) := k1.ins.cell 2 _ rfl
  have i3 : w1.cell? ⟨w.heap.size + 1, 3, none⟩ = some (.int .u8 0) := k1.ins.cell 3 _ rfl
  have i5 : w1.cell? ⟨w.heap.size + 1, 5, none⟩ = some (.int .i64 2) := k1.ins.cell 5 _ rfl
  have c2 : w1.cell? ⟨b, off + 2, none⟩ = some (.int .u8 ((gN l 2 : Nat) : Int)) := HCELL.out _ k1.bel 2 (by omega)
  have fi3 := k1.ins.free 3
  have fi5 := k1.ins.free 5
  have k2 := (k1.put (y := ⟨0, 1, gN l 1, gN l 2, 0, 2⟩) 3 _ rfl).put (y := ⟨0, 1, gN l 1, gN l 2, 0, 3⟩) 5 (.int .i64 3) rfl
  have K := Lib.hid k2
  clear k1 k2
  go_wp2_with fail
  refine (HA.out _).mono ?_
  rintro e w2 ⟨rfl, hb2⟩
  have k3 := K.out.later hb2
  clear hb2 K i2 i3 i5 c2 fi3 fi5
  have i0 : w2.cell? ⟨w.heap.size + 1, 0, none⟩ = some (.int .i64 0) := k3.ins.cell 0 _ rfl
  have i1 : w2.cell? ⟨w.heap.size + 1, 1, none⟩ = some (.int .i64 1) := k3.ins.cell 1 _ rfl
  have i2 : w2.cell? ⟨w.heap.size + 1, 2, none⟩ = some (.int .u8 ((gN l 1 : Nat) : Int)) := k3.ins.cell 2 _ rfl
  have i3 : w2.cell? ⟨w.heap.size + 1, 3, none⟩ = some (.int .u8 ((gN l 2 : Nat) : Int)) := k3.ins.cell 3 _ rfl
  have i4 : w2.cell? ⟨w.heap.size + 1, 4, none⟩ = some (.int .u16 0) := k3.ins.cell 4 _ rfl
  have i5 : w2.cell? ⟨w.heap.size + 1, 5, none⟩ = some (.int .i64 3) := k3.ins.cell 5 _ rfl
  have r0 : w2.cell? ⟨w.heap.size, 0, none⟩ = some (.int .i64 0) := k3.res.cell 0 _ rfl
  have r1 : w2.cell? ⟨w.heap.size, 1, none⟩ = some (.int .i64 0) := k3.res.cell 1 _ rfl
  have r2 : w2.cell? ⟨w.heap.size, 2, none⟩ = some (.int .u8 0) := k3.res.cell 2 _ rfl
  have r3 : w2.cell? ⟨w.heap.size, 3, none⟩ = some (.int .u8 0) := k3.res.cell 3 _ rfl
  have r4 : w2.cell? ⟨w.heap.size, 4, none⟩ = some (.int .u16 0) := k3.res.cell 4 _ rfl
  have r5 : w2.cell? ⟨w.heap.size, 5, none⟩ = some (.int .i64 0) := k3.res.cell 5 _ rfl
  have f0 := k3.res.free 0
  have f1 := k3.res.free 1
  have f2 := k3.res.free 2
  have f3 := k3.res.free 3
  have f4 := k3.res.free 4
  have f5 := k3.res.free 5
  have c3 : w2.cell? ⟨b, off + 3, none⟩ = some (.int .u8 ((gN l 3 : Nat) : Int)) := HCELL.out _ k3.bel 3 (by omega)
  have fi4 := k3.ins.free 4
  have fi5 := k3.ins.free 5
  have lt1 := k3.ins.lt
  have B := Lib.hid k3.bel
  clear k3
  go_wp2_with fail
  exact bodyPost_ret (v := .tuple #[.agg #[.int .i64 0, .int .i64 1, .int .u8 ((gN l 1 : Nat) : Int), .int .u8 ((gN l 2 : Nat) : Int), .int .u16 ((gN l 3 : Nat) : Int), .int .i64 4], .bool true]) (by simp [results, Tryd.results10, go_sem, r0, r1, r2, r3, r4, r5]) rfl ⟨rfl, by repeat (with_reducible first | exact B.out | refine Below.drew ?_ | refine Below.setCell ?_ (by first | exact Nat.le_refl _ | exact Nat.le_succ _ | simp) _)⟩
set_option maxRecDepth 100000 in
set_option maxHeartbeats 1600000 in
theorem rreadp1f0 (v : Value) (l : List Nat) (w : World) (h : BytesAt w w.heap.size v l) (q203 : (((gN l 0 : Nat) : Int) == 203) = false) (q237 : (((gN l 0 : Nat) : Int) == 237) = false) (q221 : (((gN l 0 : Nat) : Int) == 221) = true) (q253 : (((gN l 0 : Nat) : Int) == 253) = false) (r221 : (((gN l 1 : Nat) : Int) == 221) = false) (r237 : (((gN l 1 : Nat) : Int) == 237) = false) (r253 : (((gN l 1 : Nat) : Int) == 253) = false) (r203 : (((gN l 1 : Nat) : Int) == 203) = false) (hcc : gN l 1 < 256) (hmem : memC (gN l 1) = false) (harg : argC (gN l 1) = 0) (n1 : 2 ≤ l.length) : Calls Tryd.prog 10 #[v] w fun e w' => e = .returned (.tuple #[.agg (In.mk 0 1 (gN l 1) 0 0 2).arr, .bool true]) ∧ Below w.heap.size w w' := by
  obtain ⟨b, off, cap, rfl, hc, hm, hb, hcell⟩ := bytes_open h (by omega)
  unfold maxLen at hm
  have a0 : (w.alloc (.cells #[.int .i64 0, .int .i64 0, .int .u8 0, .int .u8 0, .int .u16 0, .int .i64 0] 29)).cell? ⟨b, off, none⟩ = some (.int .u8 ((gN l 0 : Nat) : Int)) := hcell (w.alloc (.cells #[.int .i64 0, .int .i64 0, .int .u8 0, .int .u8 0, .int .u16 0, .int .i64 0] 29)) (balloc w _) 0 (by omega)
  have a1 : (w.alloc (.cells #[.int .i64 0, .int .i64 0, .int .u8 0, .int .u8 0, .int .u16 0, .int .i64 0] 29)).cell? ⟨b, off + 1, none⟩ = some (.int .u8 ((gN l 1 : Nat) : Int)) := hcell (w.alloc (.cells #[.int .i64 0, .int .i64 0, .int .u8 0, .int .u8 0, .int .u16 0, .int .i64 0] 29)) (balloc w _) 1 (by omega)
  have HCELL := Lib.hid hcell
  have HM := Lib.hid (fun w => refMemIs (gN l 1) false w hcc hmem)
  clear hmem
  have HA := Lib.hid (fun w => refArgsIs (gN l 1) 0 w hcc harg)
  clear harg
  have K := Lib.hid (RpAt.made w ⟨0, 1, gN l 1, 0, 0, 2⟩)
  clear hcell h
  unfold In.arr zeroI at *
  go_enter Tryd.func10, Tryd.ntmps10
  go_wp2_with fail
  refine (HM.out _).mono ?_
  rintro e w1 ⟨rfl, hb1⟩
  have k1 := K.out.later hb1
  clear hb1 K
  have i2 : w1.cell? ⟨w.heap.size + 1, 2, none⟩ = some (.int .u8 ((gN l 1 : Nat) : Int)) := k1.ins.cell 2 _ rfl
  have K := Lib.hid k1
  clear k1
  go_wp2_with fail
  refine (HA.out _).mono ?_
  rintro e w2 ⟨rfl, hb2⟩
  have k3 := K.out.later hb2
  clear hb2 K i2
  have i0 : w2.cell? ⟨w.heap.size + 1, 0, none⟩ = some (.int .i64 0) := k3.ins.cell 0 _ rfl
  have i1 : w2.cell? ⟨w.heap.size + 1, 1, none⟩ = some (.int .i64 1) := k3.ins.cell 1 _ rfl
  have i2 : w2.cell? ⟨w.heap.size + 1, 2, none⟩ = some (.int .u8 ((gN l 1 : Nat) : Int)) := k3.ins.cell 2 _ rfl
  have i3 : w2.cell? ⟨w.heap.size + 1, 3, none⟩ = some (.int .u8 0) := k3.ins.cell 3 _ rfl
  have i4 : w2.cell? ⟨w.heap.size + 1, 4, none⟩ = some (.int .u16 0) := k3.ins.cell 4 _ rfl
  have i5 : w2.cell? ⟨w.heap.size + 1, 5, none⟩ = some (.int .i64 2) := k3.ins.cell 5 _ rfl
  have r0 : w2.cell? ⟨w.heap.size, 0, none⟩ = some (.int .i64 0) := k3.res.cell 0 _ rfl
  have r1 : w2.cell? ⟨w.heap.size, 1, none⟩ = some (.int .i64 0) := k3.res.cell 1 _ rfl
  have r2 : w2.cell? ⟨w.heap.size, 2, none⟩ = some (.int .u8 0) := k3.res.cell 2 _ rfl
  have r3 : w2.cell? ⟨w.heap.size, 3, none⟩ = some (.int .u8 0) := k3.res.cell 3 _ rfl
  have r4 : w2.cell? ⟨w.heap.size, 4, none⟩ = some (.int .u16 0) := k3.res.cell 4 _ rfl
  have r5 : w2.cell? ⟨w.heap.size, 5, none⟩ = some (.int .i64 0) := k3.res.cell 5 _ rfl
  have f0 := k3.res.free 0
  have f1 := k3.res.free 1
  have f2 := k3.res.free 2
  have f3 := k3.res.free 3
  have f4 := k3.res.free 4
  have f5 := k3.res.free 5
  have fi4 := k3.ins.free 4
  have fi5 := k3.ins.free 5
  have lt1 := k3.ins.lt
  have B := Lib.hid k3.bel
  clear k3
  go_wp2_with fail
  exact bodyPost_ret (v := .tuple #[.agg #[.int .i64 0, .int .i64 1, .int .u8 ((gN l 1 : Nat) : Int), .int .u8 0, .int .u16 0, .int .i64 2], .bool true]) (by simp [results, Tryd.results10, go_sem, r0, r1, r2, r3, r4, r5]) rfl ⟨rfl, by repeat (with_reducible first | exact B.out | refine Below.drew ?_ | refine Below.setCell ?_ (by first | exact Nat.le_refl _ | exact Nat.le_succ _ | simp) _)⟩
set_option maxRecDepth 100000 in
set_option maxHeartbeats 1600000 in
theorem rreadp1f1n (v : Value) (l : List Nat) (w : World) (h : BytesAt w w.heap.size v l) (q203 : (((gN l 0 : Nat) : Int) == 203) = false) (q237 : (((gN l 0 : Nat) : Int) == 237) = false) (q221 : (((gN l 0 : Nat) : Int) == 221) = true) (q253 : (((gN l 0 : Nat) : Int) == 253) = false) (r221 : (((gN l 1 : Nat) : Int) == 221) = false) (r237 : (((gN l 1 : Nat) : Int) == 237) = false) (r253 : (((gN l 1 : Nat) : Int) == 253) = false) (r203 : (((gN l 1 : Nat) : Int) == 203) = false) (hcc : gN l 1 < 256) (hmem : memC (gN l 1) = false) (harg : argC (gN l 1) = 1) (n1 : 2 ≤ l.length) (n2 : l.length < 3) : Calls Tryd.prog 10 #[v] w fun e w' => e = .returned (.tuple #[.agg zeroI.arr, .bool false]) ∧ Below w.heap.size w w' := by
  obtain ⟨b, off, cap, rfl, hc, hm, hb, hcell⟩ := bytes_open h (by omega)
  unfold maxLen at hm
  have a0 : (w.alloc (.cells #[.int .i64 0, .int .i64 0, .int .u8 0, .int .u8 0, .int .u16 0, .int .i64 0] 29)).cell? ⟨b, off, none⟩ = some (.int .u8 ((gN l 0 : Nat) : Int)) := hcell (w.alloc (.cells #[.int .i64 0, .int .i64 0, .int .u8 0, .int .u8 0, .int .u16 0, .int .i64 0] 29)) (balloc w _) 0 (by omega)
  have a1 : (w.alloc (.cells #[.int .i64 0, .int .i64 0, .int .u8 0, .int .u8 0, .int .u16 0, .int .i64 0] 29)).cell? ⟨b, off + 1, none⟩ = some (.int .u8 ((gN l 1 : Nat) : Int)) := hcell (w.alloc (.cells #[.int .i64 0, .int .i64 0, .int .u8 0, .int .u8 0, .int .u16 0, .int .i64 0] 29)) (balloc w _) 1 (by omega)
  have HCELL := Lib.hid hcell
  have HM := Lib.hid (fun w => refMemIs (gN l 1) false w hcc hmem)
  clear hmem
  have HA := Lib.hid (fun w => refArgsIs (gN l 1) 1 w hcc harg)
  clear harg
  have K := Lib.hid (RpAt.made w ⟨0, 1, gN l 1, 0, 0, 2⟩)
  clear hcell h
  unfold In.arr zeroI at *
  go_enter Tryd.func10, Tryd.ntmps10
  go_wp2_with fail
  refine (HM.out _).mono ?_
  rintro e w1 ⟨rfl, hb1⟩
  have k1 := K.out.later hb1
  clear hb1 K
  have i2 : w1.cell? ⟨w.heap.size + 1, 2, none⟩ = some (.int .u8 ((gN l 1 : Nat) : Int)) := k1.ins.cell 2 _ rfl
  have K := Lib.hid k1
  clear k1
  go_wp2_with fail
  refine (HA.out _).mono ?_
  rintro e w2 ⟨rfl, hb2⟩
  have k3 := K.out.later hb2
  clear hb2 K i2
  have i5 : w2.cell? ⟨w.heap.size + 1, 5, none⟩ = some (.int .i64 2) := k3.ins.cell 5 _ rfl
  have r0 : w2.cell? ⟨w.heap.size, 0, none⟩ = some (.int .i64 0) := k3.res.cell 0 _ rfl
  have r1 : w2.cell? ⟨w.heap.size, 1, none⟩ = some (.int .i64 0) := k3.res.cell 1 _ rfl
  have r2 : w2.cell? ⟨w.heap.size, 2, none⟩ = some (.int .u8 0) := k3.res.cell 2 _ rfl
  have r3 : w2.cell? ⟨w.heap.size, 3, none⟩ = some (.int .u8 0) := k3.res.cell 3 _ rfl
  have r4 : w2.cell? ⟨w.heap.size, 4, none⟩ = some (.int .u16 0) := k3.res.cell 4 _ rfl
  have r5 : w2.cell? ⟨w.heap.size, 5, none⟩ = some (.int .i64 0) := k3.res.cell 5 _ rfl
  have f0 := k3.res.free 0
  have f1 := k3.res.free 1
  have f2 := k3.res.free 2
  have f3 := k3.res.free 3
  have f4 := k3.res.free 4
  have f5 := k3.res.free 5
  have B := Lib.hid k3.bel
  clear k3
  go_wp2_with fail
  exact bodyPost_ret (v := .tuple #[.agg #[.int .i64 0, .int .i64 0, .int .u8 0, .int .u8 0, .int .u16 0, .int .i64 0], .bool false]) (by simp [results, Tryd.results10, go_sem, r0, r1, r2, r3, r4, r5]) rfl ⟨rfl, below_fill B.out (Nat.le_refl _) _ _ _ _ _ _⟩
set_option maxRecDepth 100000 in
set_option maxHeartbeats 1600000 in
theorem rreadp1f1 (v : Value) (l : List Nat) (w : World) (h : BytesAt w w.heap.size v l) (q203 : (((gN l 0 : Nat) : Int) == 203) = false) (q237 : (((gN l 0 : Nat) : Int) == 237) = false) (q221 : (((gN l 0 : Nat) : Int) == 221) = true) (q253 : (((gN l 0 : Nat) : Int) == 253) = false) (r221 : (((gN l 1 : Nat) : Int) == 221) = false) (r237 : (((gN l 1 : Nat) : Int) == 237) = false) (r253 : (((gN l 1 : Nat) : Int) == 253) = false) (r203 : (((gN l 1 : Nat) : Int) == 203) = false) (hcc : gN l 1 < 256) (hmem : memC (gN l 1) = false) (harg : argC (gN l 1) = 1) (n1 : 3 ≤ l.length) (hb2 : gN l 2 < 256) : Calls Tryd.prog 10 #[v] w fun e w' => e = .returned (.tuple #[.agg (In.mk 0 1 (gN l 1) 0 (gN l 2) 3).arr, .bool true]) ∧ Below w.heap.size w w' := by
  obtain ⟨b, off, cap, rfl, hc, hm, hb, hcell⟩ := bytes_open h (by omega)
  unfold maxLen at hm
  have a0 : (w.alloc (.cells #[.int .i64 0, .int .i64 0, .int .u8 0, .int .u8 0, .int .u16 0, .int .i64 0] 29)).cell? ⟨b, off, none⟩ = some (.int .u8 ((gN l 0 : Nat) : Int)) := hcell (w.alloc (.cells #[.int .i64 0, .int .i64 0, .int .u8 0, .int .u8 0, .int .u16 0, .int .i64 0] 29)) (balloc w _) 0 (by omega)
  have a1 : (w.alloc (.cells #[.int .i64 0, .int .i64 0, .int .u8 0, .int .u8 0, .int .u16 0, .int .i64 0] 29)).cell? ⟨b, off + 1, none⟩ = some (.int .u8 ((gN l 1 : Nat) : Int)) := hcell (w.alloc (.cells #[.int .i64 0, .int .i64 0, .int .u8 0, .int .u8 0, .int .u16 0, .int .i64 0] 29)) (balloc w _) 1 (by omega)
  have HCELL := Lib.hid hcell
  have HM := Lib.hid (fun w => refMemIs (gN l 1) false w hcc hmem)
  clear hmem
  have HA := Lib.hid (fun w => refArgsIs (gN l 1) 1 w hcc harg)
  clear harg
  have K := Lib.hid (RpAt.made w ⟨0, 1, gN l 1, 0, 0, 2⟩)
  clear hcell h
  unfold In.arr zeroI at *
  go_enter Tryd.func10, Tryd.ntmps10
  go_wp2_with fail
  refine (HM.out _).mono ?_
  rintro e w1 ⟨rfl, hb1⟩
  have k1 := K.out.later hb1
  clear hb1 K
  have i2 : w1.cell? ⟨w.heap.size + 1, 2, none⟩ = some (.int .u8 ((gN l 1 : Nat) : Int)) := k1.ins.cell 2 _ rfl
  have K := Lib.hid k1
  clear k1
  go_wp2_with fail
  refine (HA.out _).mono ?_
  rintro e w2 ⟨rfl, hb2⟩
  have k3 := K.out.later hb2
  clear hb2 K i2
  have i0 : w2.cell? ⟨w.heap.size + 1, 0, none⟩ = some (.int .i64 0) := k3.ins.cell 0 _ rfl
  have i1 : w2.cell? ⟨w.heap.size + 1, 1, none⟩ = some (.int .i64 1) := k3.ins.cell 1 _ rfl
  have i2 : w2.cell? ⟨w.heap.size + 1, 2, none⟩ = some (.int .u8 ((gN l 1 : Nat) : Int)) := k3.ins.cell 2 _ rfl
  have i3 : w2.cell? ⟨w.heap.size + 1, 3, none⟩ = some (.int .u8 0) := k3.ins.cell 3 _ rfl
  have i4 : w2.cell? ⟨w.heap.size + 1, 4, none⟩ = some (.int .u16 0) := k3.ins.cell 4 _ rfl
  have i5 : w2.cell? ⟨w.heap.size + 1, 5, none⟩ = some (.int .i64 2) := k3.ins.cell 5 _ rfl
  have r0 : w2.cell? ⟨w.heap.size, 0, none⟩ = some (.int .i64 0) := k3.res.cell 0 _ rfl
  have r1 : w2.cell? ⟨w.heap.size, 1, none⟩ = some (.int .i64 0) := k3.res.cell 1 _ rfl
  have r2 : w2.cell? ⟨w.heap.size, 2, none⟩ = some (.int .u8 0) := k3.res.cell 2 _ rfl
  have r3 : w2.cell? ⟨w.heap.size, 3, none⟩ = some (.int .u8 0) := k3.res.cell 3 _ rfl
  have r4 : w2.cell? ⟨w.heap.size, 4, none⟩ = some (.int .u16 0) := k3.res.cell 4 _ rfl
  have r5 : w2.cell? ⟨w.heap.size, 5, none⟩ = some (.int .i64 0) := k3.res.cell 5 _ rfl
  have f0 := k3.res.free 0
  have f1 := k3.res.free 1
  have f2 := k3.res.free 2
  have f3 := k3.res.free 3
  have f4 := k3.res.free 4
  have f5 := k3.res.free 5
  have c2 : w2.cell? ⟨b, off + 2, none⟩ = some (.int .u8 ((gN l 2 : Nat) : Int)) := HCELL.out _ k3.bel 2 (by omega)
  have fi4 := k3.ins.free 4
  have fi5 := k3.ins.free 5
  have lt1 := k3.ins.lt
  have B := Lib.hid k3.bel
  clear k3
  go_wp2_with fail
  exact bodyPost_ret (v := .tuple #[.agg #[.int .i64 0, .int .i64 1, .int .u8 ((gN l 1 : Nat) : Int), .int .u8 0, .int .u16 ((gN l 2 : Nat) : Int), .int .i64 3], .bool true]) (by simp [results, Tryd.results10, go_sem, r0, r1, r2, r3, r4, r5]) rfl ⟨rfl, by repeat (with_reducible first | exact B.out | refine Below.drew ?_ | refine Below.setCell ?_ (by first | exact Nat.le_refl _ | exact Nat.le_succ _ | simp) _)⟩
set_option maxRecDepth 100000 in
set_option maxHeartbeats 1600000 in
theorem rreadp1f2n (v : Value) (l : List Nat) (w : World) (h : BytesAt w w.heap.size v l) (q203 : (((gN l 0 : Nat) : Int) == 203) = false) (q237 : (((gN l 0 : Nat) : Int) == 237) = false) (q221 : (((gN l 0 : Nat) : Int) == 221) = true) (q253 : (((gN l 0 : Nat) : Int) == 253) = false) (r221 : (((gN l 1 : Nat) : Int) == 221) = false) (r237 : (((gN l 1 : Nat) : Int) == 237) = false) (r253 : (((gN l 1 : Nat) : Int) == 253) = false) (r203 : (((gN l 1 : Nat) : Int) == 203) = false) (hcc : gN l 1 < 256) (hmem : memC (gN l 1) = false) (harg : argC (gN l 1) = 2) (n1 : 2 ≤ l.length) (n2 : l.length < 4) : Calls Tryd.prog 10 #[v] w fun e w' => e = .returned (.tuple #[.agg zeroI.arr, .bool false]) ∧ Below w.heap.size w w' := by
  obtain ⟨b, off, cap, rfl, hc, hm, hb, hcell⟩ := bytes_open h (by omega)
  unfold maxLen at hm
  have a0 : (w.alloc (.cells #[.int .i64 0, .int .i64 0, .int .u8 0, .int .u8 0, .int .u16 0, .int .i64 0] 29)).cell? ⟨b, off, none⟩ = some (.int .u8 ((gN l 0 : Nat) : Int)) := hcell (w.alloc (.cells #[.int .i64 0, .int .i64 0, .int .u8 0, .int .u8 0, .int .u16 0, .int .i64 0] 29)) (balloc w _) 0 (by omega)
  have a1 : (w.alloc (.cells #[.int .i64 0, .int .i64 0, .int .u8 0, .int .u8 0, .int .u16 0, .int .i64 0] 29)).cell? ⟨b, off + 1, none⟩ = some (.int .u8 ((gN l 1 : Nat) : Int)) := hcell (w.alloc (.cells #[.int .i64 0, .int .i64 0, .int .u8 0, .int .u8 0, .int .u16 0, .int .i64 0] 29)) (balloc w _) 1 (by omega)
  have HCELL := Lib.hid hcell
  have HM := Lib.hid (fun w => refMemIs (gN l 1) false w hcc hmem)
  clear hmem
  have HA := Lib.hid (fun w => refArgsIs (gN l 1) 2 w hcc harg)
  clear harg
  have K := Lib.hid (RpAt.made w ⟨0, 1, gN l 1, 0, 0, 2⟩)
  clear hcell h
  unfold In.arr zeroI at *
  go_enter Tryd.func10, Tryd.ntmps10
  go_wp2_with fail
  refine (HM.out _).mono ?_
  rintro e w1 ⟨rfl, hb1⟩
  have k1 := K.out.later hb1
  clear hb1 K
  have i2 : w1.cell? ⟨w.heap.size + 1, 2, none⟩ = some (.int .u8 ((gN l 1 : Nat) : Int)) := k1.ins.cell 2 _ rfl
  have K := Lib.hid k1
  clear k1
  go_wp2_with fail
  refine (HA.out _).mono ?_
  rintro e w2 ⟨rfl, hb2⟩
  have k3 := K.out.later hb2
  clear hb2 K i2
  have i5 : w2.cell? ⟨w.heap.size + 1, 5, none⟩ = some (.int .i64 2) := k3.ins.cell 5 _ rfl
  have r0 : w2.cell? ⟨w.heap.size, 0, none⟩ = some (.int .i64 0) := k3.res.cell 0 _ rfl
  have r1 : w2.cell? ⟨w.heap.size, 1, none⟩ = some (.int .i64 0) := k3.res.cell 1 _ rfl
  have r2 : w2.cell? ⟨w.heap.size, 2, none⟩ = some (.int .u8 0) := k3.res.cell 2 _ rfl
  have r3 : w2.cell? ⟨w.heap.size, 3, none⟩ = some (.int .u8 0) := k3.res.cell 3 _ rfl
  have r4 : w2.cell? ⟨w.heap.size, 4, none⟩ = some (.int .u16 0) := k3.res.cell 4 _ rfl
  have r5 : w2.cell? ⟨w.heap.size, 5, none⟩ = some (.int .i64 0) := k3.res.cell 5 _ rfl
  have f0 := k3.res.free 0
  have f1 := k3.res.free 1
  have f2 := k3.res.free 2
  have f3 := k3.res.free 3
  have f4 := k3.res.free 4
  have f5 := k3.res.free 5
  have B := Lib.hid k3.bel
  clear k3
  go_wp2_with fail
  exact bodyPost_ret (v := .tuple #[.agg #[.int .i64 0, .int .i64 0, .int .u8 0, .int .u8 0, .int .u16 0, .int .i64 0], .bool false]) (by simp [results, Tryd.results10, go_sem, r0, r1, r2, r3, r4, r5]) rfl ⟨rfl, below_fill B.out (Nat.le_refl _) _ _ _ _ _ _⟩
set_option maxRecDepth 100000 in
set_option maxHeartbeats 1600000 in
theorem rreadp1f2 (v : Value) (l : List Nat) (w : World) (h : BytesAt w w.heap.size v l) (q203 : (((gN l 0 : Nat) : Int) == 203) = false) (q237 : (((gN l 0 : Nat) : Int) == 237) = false) (q221 : (((gN l 0 : Nat) : Int) == 221) = true) (q253 : (((gN l 0 : Nat) : Int) == 253) = false) (r221 : (((gN l 1 : Nat) : Int) == 221) = false) (r237 : (((gN l 1 : Nat) : Int) == 237) = false) (r253 : (((gN l 1 : Nat) : Int) == 253) = false) (r203 : (((gN l 1 : Nat) : Int) == 203) = false) (hcc : gN l 1 < 256) (hmem : memC (gN l 1) = false) (harg : argC (gN l 1) = 2) (n1 : 4 ≤ l.length) (hb2 : gN l 2 < 256) (hb3 : gN l 3 < 256) : Calls Tryd.prog 10 #[v] w fun e w' => e = .returned (.tuple #[.agg (In.mk 0 1 (gN l 1) 0 (gN l 2 + 256 * gN l 3) 4).arr, .bool true]) ∧ Below w.heap.size w w' := by
  obtain ⟨b, off, cap, rfl, hc, hm, hb, hcell⟩ := bytes_open h (by omega)
  unfold maxLen at hm
  have a0 : (w.alloc (.cells #[.int .i64 0, .int .i64 0, .int .u8 0, .int .u8 0, .int .u16 0, .int .i64 0] 29)).cell? ⟨b, off, none⟩ = some (.int .u8 ((gN l 0 : Nat) : Int)) := hcell (w.alloc (.cells #[.int .i64 0, .int .i64 0, .int .u8 0, .int .u8 0, .int .u16 0, .int .i64 0] 29)) (balloc w _) 0 (by omega)
  have a1 : (w.alloc (.cells #[.int .i64 0, .int .i64 0, .int .u8 0, .int .u8 0, .int .u16 0, .int .i64 0] 29)).cell? ⟨b, off + 1, none⟩ = some (.int .u8 ((gN l 1 : Nat) : Int)) := hcell (w.alloc (.cells #[.int .i64 0, .int .i64 0, .int .u8 0, .int .u8 0, .int .u16 0, .int .i64 0] 29)) (balloc w _) 1 (by omega)
  have HCELL := Lib.hid hcell
  have HM := Lib.hid (fun w => refMemIs (gN l 1) false w hcc hmem)
  clear hmem
  have HA := Lib.hid (fun w => refArgsIs (gN l 1) 2 w hcc harg)
  clear harg
  have K := Lib.hid (RpAt.made w ⟨0, 1, gN l 1, 0, 0, 2⟩)
  clear hcell h
  unfold In.arr zeroI at *
  go_enter Tryd.func10, Tryd.ntmps10
  go_wp2_with fail
  refine (HM.out _).mono ?_
  rintro e w1 ⟨rfl, hb1⟩
  have k1 := K.out.later hb1
  clear hb1 K
  have i2 : w1.cell? ⟨w.heap.size + 1, 2, none⟩ = some (.int .u8 ((gN l 1 : Nat) : Int)) := k1.ins.cell 2 _ rfl
  have K := Lib.hid k1
  clear k1
  go_wp2_with fail
  refine (HA.out _).mono ?_
  rintro e w2 ⟨rfl, hb2⟩
  have k3 := K.out.later hb2
  clear hb2 K i2
  have i0 : w2.cell? ⟨w.heap.size + 1, 0, none⟩ = some (.int .i64 0) := k3.ins.cell 0 _ rfl
  have i1 : w2.cell? ⟨w.heap.size + 1, 1, none⟩ = some (.int .i64 1) := k3.ins.cell 1 _ rfl
  have i2 : w2.cell? ⟨w.heap.size + 1, 2, none⟩ = some (.int .u8 ((gN l 1 : Nat) : Int)) := k3.ins.cell 2 _ rfl
  have i3 : w2.cell? ⟨w.heap.size + 1, 3, none⟩ = some (.int .u8 0) := k3.ins.cell 3 _ rfl
  have i4 : w2.cell? ⟨w.heap.size + 1, 4, none⟩ = some (.int .u16 0) := k3.ins.cell 4 _ rfl
  have i5 : w2.cell? ⟨w.heap.size + 1, 5, none⟩ = some (.int .i64 2) := k3.ins.cell 5 _ rfl
  have r0 : w2.cell? ⟨w.heap.size, 0, none⟩ = some (.int .i64 0) := k3.res.cell 0 _ rfl
  have r1 : w2.cell? ⟨w.heap.size, 1, none⟩ = some (.int .i64 0) := k3.res.cell 1 _ rfl
  have r2 : w2.cell? ⟨w.heap.size, 2, none⟩ = some (.int .u8 0) := k3.res.cell 2 _ rfl
  have r3 : w2.cell? ⟨w.heap.size, 3, none⟩ = some (.int .u8 0) := k3.res.cell 3 _ rfl
  have r4 : w2.cell? ⟨w.heap.size, 4, none⟩ = some (.int .u16 0) := k3.res.cell 4 _ rfl
  have r5 : w2.cell? ⟨w.heap.size, 5, none⟩ = some (.int .i64 0) := k3.res.cell 5 _ rfl
  have f0 := k3.res.free 0
  have f1 := k3.res.free 1
  have f2 := k3.res.free 2
  have f3 := k3.res.free 3
  have f4 := k3.res.free 4
  have f5 := k3.res.free 5
  have c2 : w2.cell? ⟨b, off + 2, none⟩ = some (.int .u8 ((gN l 2 : Nat) : Int)) := HCELL.out _ k3.bel 2 (by omega)
  have c3 : w2.cell? ⟨b, off + 3, none⟩ = some (.int .u8 ((gN l 3 : Nat) : Int)) := HCELL.out _ k3.bel 3 (by omega)
  have fi4 := k3.ins.free 4
  have fi5 := k3.ins.free 5
  have lt1 := k3.ins.lt
  have B := Lib.hid k3.bel
  clear k3
  go_wp2_with fail
  go_region
  go_wp2_with fail
  exact bodyPost_ret (v := .tuple #[.agg #[.int .i64 0, .int .i64 1, .int .u8 ((gN l 1 : Nat) : Int), .int .u8 0, .int .u16 (((gN l 2 : Nat) : Int) + 256 * ((gN l 3 : Nat) : Int)), .int .i64 4], .bool true]) (by simp [results, Tryd.results10, go_sem, r0, r1, r2, r3, r4, r5]) rfl ⟨rfl, by repeat (with_reducible first | exact B.out | refine Below.drew ?_ | refine Below.setCell ?_ (by first | exact Nat.le_refl _ | exact Nat.le_succ _ | simp) _)⟩
set_option maxRecDepth 100000 in
set_option maxHeartbeats 1600000 in
theorem rreadp2md (v : Value) (l : List Nat) (w : World) (h : BytesAt w w.heap.size v l) (q203 : (((gN l 0 : Nat) : Int) == 203) = false) (q237 : (((gN l 0 : Nat) : Int) == 237) = false) (q221 : (((gN l 0 : Nat) : Int) == 221) = false) (q253 : (((gN l 0 : Nat) : Int) == 253) = true) (r221 : (((gN l 1 : Nat) : Int) == 221) = false) (r237 : (((gN l 1 : Nat) : Int) == 237) = false) (r253 : (((gN l 1 : Nat) : Int) == 253) = false) (r203 : (((gN l 1 : Nat) : Int) == 203) = false) (hcc : gN l 1 < 256) (hmem : memC (gN l 1) = true) (n1 : 2 ≤ l.length) (n2 : l.length < 3) : Calls Tryd.prog 10 #[v] w fun e w' => e = .returned (.tuple #[.agg zeroI.arr, .bool false]) ∧ Below w.heap.size w w' := by
  obtain ⟨b, off, cap, rfl, hc, hm, hb, hcell⟩ := bytes_open h (by omega)
  unfold maxLen at hm
  have a0 : (w.alloc (.cells #[.int .i64 0, .int .i64 0, .int .u8 0, .int .u8 0, .int .u16 0, .int .i64 0] 29)).cell? ⟨b, off, none⟩ = some (.int .u8 ((gN l 0 : Nat) : Int)) := hcell (w.alloc (.cells #[.int .i64 0, .int .i64 0, .int .u8 0, .int .u8 0, .int .u16 0, .int .i64 0] 29)) (balloc w _) 0 (by omega)
  have a1 : (w.alloc (.cells #[.int .i64 0, .int .i64 0, .int .u8 0, .int .u8 0, .int .u16 0, .int .i64 0] 29)).cell? ⟨b, off + 1, none⟩ = some (.int .u8 ((gN l 1 : Nat) : Int)) := hcell (w.alloc (.cells #[.int .i64 0, .int .i64 0, .int .u8 0, .int .u8 0, .int .u16 0, .int .i64 0] 29)) (balloc w _) 1 (by omega)
  have HCELL := Lib.hid hcell
  have HM := Lib.hid (fun w => refMemIs (gN l 1) true w hcc hmem)
  clear hmem
  have K := Lib.hid (RpAt.made w ⟨0, 2, gN l 1, 0, 0, 2⟩)
  clear hcell h
  unfold In.arr zeroI at *
  go_enter Tryd.func10, Tryd.ntmps10
  go_wp2_with fail
  refine (HM.out _).mono ?_
  rintro e w1 ⟨rfl, hb1⟩
  have k1 := K.out.later hb1
  clear hb1 K
  have i5 : w1.cell? ⟨w.heap.size + 1, 5, none⟩ = some (.int .i64 2) := k1.ins.cell 5 _ rfl
  have r0 : w1.cell? ⟨w.heap.size, 0, none⟩ = some (.int .i64 0) := k1.res.cell 0 _ rfl
  have r1 : w1.cell? ⟨w.heap.size, 1, none⟩ = some (.int .i64 0) := k1.res.cell 1 _ rfl
  have r2 : w1.cell? ⟨w.heap.size, 2, none⟩ = some (.int .u8 0) := k1.res.cell 2 _ rfl
  have r3 : w1.cell? ⟨w.heap.size, 3, none⟩ = some (.int .u8 0) := k1.res.cell 3 _ rfl
  have r4 : w1.cell? ⟨w.heap.size, 4, none⟩ = some (.int .u16 0) := k1.res.cell 4 _ rfl
  have r5 : w1.cell? ⟨w.heap.size, 5, none⟩ = some (.int .i64 0) := k1.res.cell 5 _ rfl
  have f0 := k1.res.free 0
  have f1 := k1.res.free 1
  have f2 := k1.res.free 2
  have f3 := k1.res.free 3
  have f4 := k1.res.free 4
  have f5 := k1.res.free 5
  have B := Lib.hid k1.bel
  clear k1
  go_wp2_with fail
  exact bodyPost_ret (v := .tuple #[.agg #[.int .i64 0, .int .i64 0, .int .u8 0, .int .u8 0, .int .u16 0, .int .i64 0], .bool false]) (by simp [results, Tryd.results10, go_sem, r0, r1, r2, r3, r4, r5]) rfl ⟨rfl, below_fill B.out (Nat.le_refl _) _ _ _ _ _ _⟩
set_option maxRecDepth 100000 in
set_option maxHeartbeats 1600000 in
theorem rreadp2m0 (v : Value) (l : List Nat) (w : World) (h : BytesAt w w.heap.size v l) (q203 : (((gN l 0 : Nat) : Int) == 203) = false) (q237 : (((gN l 0 : Nat) : Int) == 237) = false) (q221 : (((gN l 0 : Nat) : Int) == 221) = false) (q253 : (((gN l 0 : Nat) : Int) == 253) = true) (r221 : (((gN l 1 : Nat) : Int) == 221) = false) (r237 : (((gN l 1 : Nat) : Int) == 237) = false) (r253 : (((gN l 1 : Nat) : Int) == 253) = false) (r203 : (((gN l 1 : Nat) : Int) == 203) = false) (hcc : gN l 1 < 256) (hmem : memC (gN l 1) = true) (harg : argC (gN l 1) = 0) (n1 : 3 ≤ l.length) (hb2 : gN l 2 < 256) : Calls Tryd.prog 10 #[v] w fun e w' => e = .returned (.tuple #[.agg (In.mk 0 2 (gN l 1) (gN l 2) 0 3).arr, .bool true]) ∧ Below w.heap.size w w' := by
  obtain ⟨b, off, cap, rfl, hc, hm, hb, hcell⟩ := bytes_open h (by omega)
  unfold maxLen at hm
  have a0 : (w.alloc (.cells #[.int .i64 0, .int .i64 0, .int .u8 0, .int .u8 0, .int .u16 0, .int .i64 0] 29)).cell? ⟨b, off, none⟩ = some (.int .u8 ((gN l 0 : Nat) : Int)) := hcell (w.alloc (.cells #[.int .i64 0, .int .i64 0, .int .u8 0, .int .u8 0, .int .u16 0, .int .i64 0] 29)) (balloc w _) 0 (by omega)
  have a1 : (w.alloc (.cells #[.int .i64 0, .int .i64 0, .int .u8 0, .int .u8 0, .int .u16 0, .int .i64 0] 29)).cell? ⟨b, off + 1, none⟩ = some (.int .u8 ((gN l 1 : Nat) : Int)) := hcell (w.alloc (.cells #[.int .i64 0, .int .i64 0, .int .u8 0, .int .u8 0, .int .u16 0, .int .i64 0] 29)) (balloc w _) 1 (by omega)
  have HCELL := Lib.hid hcell
  have HM := Lib.hid (fun w => refMemIs (gN l 1) true w hcc hmem)
  clear hmem
  have HA := Lib.hid (fun w => refArgsIs (gN l 1) 0 w hcc harg)
  clear harg
  have K := Lib.hid (RpAt.made w ⟨0, 2, gN l 1, 0, 0, 2⟩)
  clear hcell h
  unfold In.arr zeroI at *
  go_enter Tryd.func10, Tryd.ntmps10
  go_wp2_with fail
  refine (HM.out _).mono ?_
  rintro e w1 ⟨rfl, hb1⟩
  have k1 := K.out.later hb1
  clear hb1 K
  have i2 : w1.cell? ⟨w.heap.size + 1, 2, none⟩ = some (.int .u8 ((gN l 1 : Nat) : Int)) := k1.ins.cell 2 _ rfl
  have i3 : w1.cell? ⟨w.heap.size + 1, 3, none⟩ = some (.int .u8 0) := k1.ins.cell 3 _ rfl
  have i5 : w1.cell? ⟨w.heap.size + 1, 5, none⟩ = some (.int .i64 2) := k1.ins.cell 5 _ rfl
  have c2 : w1.cell? ⟨b, off + 2, none⟩ = some (.int .u8 ((gN l 2 : Nat) : Int)) := HCELL.out _ k1.bel 2 (by omega)
  have fi3 := k1.ins.free 3
  have fi5 := k1.ins.free 5
  have k2 := (k1.put (y := ⟨0, 2, gN l 1, gN l 2, 0, 2⟩) 3 _ rfl).put (y := ⟨0, 2, gN l 1, gN l 2, 0, 3⟩) 5 (.int .i64 3) rfl
  have K := Lib.hid k2
  clear k1 k2
  go_wp2_with fail
  refine (HA.out _).mono ?_
  rintro e w2 ⟨rfl, hb2⟩
  have k3 := K.out.later hb2
  clear hb2 K i2 i3 i5 c2 fi3 fi5
  have i0 : w2.cell? ⟨w.heap.size + 1, 0, none⟩ = some (.int .i64 0) := k3.ins.cell 0 _ rfl
  have i1 : w2.cell? ⟨w.heap.size + 1, 1, none⟩ = some (.int .i64 2) := k3.ins.cell 1 _ rfl
  have i2 : w2.cell? ⟨w.heap.size + 1, 2, none⟩ = some (.int .u8 ((gN l 1 : Nat) : Int)) := k3.ins.cell 2 _ rfl
  have i3 : w2.cell? ⟨w.heap.size + 1, 3, none⟩ = some (.int .u8 ((gN l 2 : Nat) : Int)) := k3.ins.cell 3 _ rfl
  have i4 : w2.cell? ⟨w.heap.size + 1, 4, none⟩ = some (.int .u16 0) := k3.ins.cell 4 _ rfl
  have i5 : w2.cell? ⟨w.heap.size + 1, 5, none⟩ = some (.int .i64 3) := k3.ins.cell 5 _ rfl
  have r0 : w2.cell? ⟨w.heap.size, 0, none⟩ = some (.int .i64 0) := k3.res.cell 0 _ rfl
  have r1 : w2.cell? ⟨w.heap.size, 1, none⟩ = some (.int .i64 0) := k3.res.cell 1 _ rfl
  have r2 : w2.cell? ⟨w.heap.size, 2, none⟩ = some (.int .u8 0) := k3.res.cell 2 _ rfl
  have r3 : w2.cell? ⟨w.heap.size, 3, none⟩ = some (.int .u8 0) := k3.res.cell 3 _ rfl
  have r4 : w2.cell? ⟨w.heap.size, 4, none⟩ = some (.int .u16 0) := k3.res.cell 4 _ rfl
  have r5 : w2.cell? ⟨w.heap.size, 5, none⟩ = some (.int .i64 0) := k3.res.cell 5 _ rfl
  have f0 := k3.res.free 0
  have f1 := k3.res.free 1
  have f2 := k3.res.free 2
  have f3 := k3.res.free 3
  have f4 := k3.res.free 4
  have f5 := k3.res.free 5
  have fi4 := k3.ins.free 4
  have fi5 := k3.ins.free 5
  have lt1 := k3.ins.lt
  have B := Lib.hid k3.bel
  clear k3
  go_wp2_with fail
  exact bodyPost_ret (v := .tuple #[.agg #[.int .i64 0, .int .i64 2, .int .u8 ((gN l 1 : Nat) : Int), .int .u8 ((gN l 2 : Nat) : Int), .int .u16 0, .int .i64 3], .bool true]) (by simp [results, Tryd.results10, go_sem, r0, r1, r2, r3, r4, r5]) rfl ⟨rfl, by repeat (with_reducible first | exact B.out | refine Below.drew ?_ | refine Below.setCell ?_ (by first | exact Nat.le_refl _ | exact Nat.le_succ _ | simp) _)⟩
set_option maxRecDepth 100000 in
set_option maxHeartbeats 1600000 in
theorem rreadp2m1n (v : Value) (l : List Nat) (w : World) (h : BytesAt w w.heap.size v l) (q203 : (((gN l 0 : Nat) : Int) == 203) = false) (q237 : (((gN l 0 : Nat) : Int) == 237) = false) (q221 : (((gN l 0 : Nat) : Int) == 221) = false) (q253 : (((gN l 0 : Nat) : Int) == 253) = true) (r221 : (((gN l 1 : Nat) : Int) == 221) = false) (r237 : (((gN l 1 : Nat) : Int) == 237) = false) (r253 : (((gN l 1 : Nat) : Int) == 253) = false) (r203 : (((gN l 1 : Nat) : Int) == 203) = false) (hcc : gN l 1 < 256) (hmem : memC (gN l 1) = true) (harg : argC (gN l 1) = 1) (n1 : 3 ≤ l.length) (n2 : l.length < 4) (hb2 : gN l 2 < 256) : Calls Tryd.prog 10 #[v] w fun e w' => e = .returned (.tuple #[.agg zeroI.arr, .bool false]) ∧ Below w.heap.size w w' := by
  obtain ⟨b, off, cap, rfl, hc, hm, hb, hcell⟩ := bytes_open h (by omega)
  unfold maxLen at hm
  have a0 : (w.alloc (.cells #[.int .i64 0, .int .i64 0, .int .u8 0, .int .u8 0, .int .u16 0, .int .i64 0] 29)).cell? ⟨b, off, none⟩ = some (.int .u8 ((gN l 0 : Nat) : Int)) := hcell (w.alloc (.cells #[.int .i64 0, .int .i64 0, .int .u8 0, .int .u8 0, .int .u16 0, .int .i64 0] 29)) (balloc w _) 0 (by omega)
  have a1 : (w.alloc (.cells #[.int .i64 0, .int .i64 0, .int .u8 0, .int .u8 0, .int .u16 0, .int .i64 0] 29)).cell? ⟨b, off + 1, none⟩ = some (.int .u8 ((gN l 1 : Nat) : Int)) := hcell (w.alloc (.cells #[.int .i64 0, .int .i64 0, .int .u8 0, .int .u8 0, .int .u16 0, .int .i64 0] 29)) (balloc w _) 1 (by omega)
  have HCELL := Lib.hid hcell
  have HM := Lib.hid (fun w => refMemIs (gN l 1) true w hcc hmem)
  clear hmem
  have HA := Lib.hid (fun w => refArgsIs (gN l 1) 1 w hcc harg)
  clear harg
  have K := Lib.hid (RpAt.made w ⟨0, 2, gN l 1, 0, 0, 2⟩)
  clear hcell h
  unfold In.arr zeroI at *
  go_enter Tryd.func10, Tryd.ntmps10
  go_wp2_with fail
  refine (HM.out _).mono ?_
  rintro e w1 ⟨rfl, hb1⟩
  have k1 := K.out.later hb1
  clear hb1 K
  have i2 : w1.cell? ⟨w.heap.size + 1, 2, none⟩ = some (.int .u8 ((gN l 1 : Nat) : Int)) := k1.ins.cell 2 _ rfl
  have i3 : w1.cell? ⟨w.heap.size + 1, 3, none⟩ = some (.int .u8 0) := k1.ins.cell 3 _ rfl
  have i5 : w1.cell? ⟨w.heap.size + 1, 5, none⟩ = some (.int .i64 2) := k1.ins.cell 5 _ rfl
  have c2 : w1.cell? ⟨b, off + 2, none⟩ = some (.int .u8 ((gN l 2 : Nat) : Int)) := HCELL.out _ k1.bel 2 (by omega)
  have fi3 := k1.ins.free 3
  have fi5 := k1.ins.free 5
  have k2 := (k1.put (y := ⟨0, 2, gN l 1, gN l 2, 0, 2⟩) 3 _ rfl).put (y := ⟨0, 2, gN l 1, gN l 2, 0, 3⟩) 5 (.int .i64 3) rfl
  have K := Lib.hid k2
  clear k1 k2
  go_wp2_with fail
  refine (HA.out _).mono ?_
  rintro e w2 ⟨rfl, hb2⟩
  have k3 := K.out.later hb2
  clear hb2 K i2 i3 i5 c2 fi3 fi5
  have i5 : w2.cell? ⟨w.heap.size + 1, 5, none⟩ = some (.int .i64 3) := k3.ins.cell 5 _ rfl
  have r0 : w2.cell? ⟨w.heap.size, 0, none⟩ = some (.int .i64 0) := k3.res.cell 0 _ rfl
  have r1 : w2.cell? ⟨w.heap.size, 1, none⟩ = some (.int .i64 0) := k3.res.cell 1 _ rfl
  have r2 : w2.cell? ⟨w.heap.size, 2, none⟩ = some (.int .u8 0) := k3.res.cell 2 _ rfl
  have r3 : w2.cell? ⟨w.heap.size, 3, none⟩ = some (.int .u8 0) := k3.res.cell 3 _ rfl
  have r4 : w2.cell? ⟨w.heap.size, 4, none⟩ = some (.int .u16 0) := k3.res.cell 4 _ rfl
  have r5 : w2.cell? ⟨w.heap.size, 5, none⟩ = some (.int .i64 0) := k3.res.cell 5 _ rfl
  have f0 := k3.res.free 0
  have f1 := k3.res.free 1
  have f2 := k3.res.free 2
  have f3 := k3.res.free 3
  have f4 := k3.res.free 4
  have f5 := k3.res.free 5
  have B := Lib.hid k3.bel
  clear k3
  go_wp2_with fail
  exact bodyPost_ret (v := .tuple #[.agg #[.int .i64 0, .int .i64 0, .int .u8 0, .int .u8 0, .int .u16 0, .int .i64 0], .bool false]) (by simp [results, Tryd.results10, go_sem, r0, r1, r2, r3, r4, r5]) rfl ⟨rfl, below_fill B.out (Nat.le_refl _) _ _ _ _ _ _⟩
set_option maxRecDepth 100000 in
set_option maxHeartbeats 1600000 in
theorem rreadp2m1 (v : Value) (l : List Nat) (w : World) (h : BytesAt w w.heap.size v l) (q203 : (((gN l 0 : Nat) : Int) == 203) = false) (q237 : (((gN l 0 : Nat) : Int) == 237) = false) (q221 : (((gN l 0 : Nat) : Int) == 221) = false) (q253 : (((gN l 0 : Nat) : Int) == 253) = true) (r221 : (((gN l 1 : Nat) : Int) == 221) = false) (r237 : (((gN l 1 : Nat) : Int) == 237) = false) (r253 : (((gN l 1 : Nat) : Int) == 253) = false) (r203 : (((gN l 1 : Nat) : Int) == 203) = false) (hcc : gN l 1 < 256) (hmem : memC (gN l 1) = true) (harg : argC (gN l 1) = 1) (n1 : 4 ≤ l.length) (hb2 : gN l 2 < 256) (hb3 : gN l 3 < 256) : Calls Tryd.prog 10 #[v] w fun e w' => e = .returned (.tuple #[.agg (In.mk 0 2 (gN l 1) (gN l 2) (gN l 3) 4).arr, .bool true]) ∧ Below w.heap.size w w' := by
  obtain ⟨b, off, cap, rfl, hc, hm, hb, hcell⟩ := bytes_open h (by omega)
  unfold maxLen at hm
  have a0 : (w.alloc (.cells #[.int .i64 0, .int .i64 0, .int .u8 0, .int .u8 0, .int .u16 0, .int .i64 0] 29)).cell? ⟨b, off, none⟩ = some (.int .u8 ((gN l 0 : Nat) : Int)) := hcell (w.alloc (.cells #[.int .i64 0, .int .i64 0, .int .u8 0, .int .u8 0, .int .u16 0, .int .i64 0] 29)) (balloc w _) 0 (by omega)
  have a1 : (w.alloc (.cells #[.int .i64 0, .int .i64 0, .int .u8 0, .int .u8 0, .int .u16 0, .int .i64 0] 29)).cell? ⟨b, off + 1, none⟩ = some (.int .u8 ((gN l 1 : Nat) : Int)) := hcell (w.alloc (.cells #[.int .i64 0, .int .i64 0, .int .u8 0, .int .u8 0, .int .u16 0, .int .i64 0] 29)) (balloc w _) 1 (by omega)
  have HCELL := Lib.hid hcell
  have HM := Lib.hid (fun w => refMemIs (gN l 1) true w hcc hmem)
  clear hmem
  have HA := Lib.hid (fun w => refArgsIs (gN l 1) 1 w hcc harg)
  clear harg
  have K := Lib.hid (RpAt.made w ⟨0, 2, gN l 1, 0, 0, 2⟩)
  clear hcell h
  unfold In.arr zeroI at *
  go_enter Tryd.func10, Tryd.ntmps10
  go_wp2_with fail
  refine (HM.out _).mono ?_
  rintro e w1 ⟨rfl, hb1⟩
  have k1 := K.out.later hb1
  clear hb1 K
  have i2 : w1.cell? ⟨w.heap.size + 1, 2, none⟩ = some (.int .u8 ((gN l 1 : Nat) : Int)) := k1.ins.cell 2 _ rfl
  have i3 : w1.cell? ⟨w.heap.size + 1, 3, none⟩ = some (.int .u8 0) := k1.ins.cell 3 _ rfl
  have i5 : w1.cell? ⟨w.heap.size + 1, 5, none⟩ = some (.int .i64 2) := k1.ins.cell 5 _ rfl
  have c2 : w1.cell? ⟨b, off + 2, none⟩ = some (.int .u8 ((gN l 2 : Nat) : Int)) := HCELL.out _ k1.bel 2 (by omega)
  have fi3 := k1.ins.free 3
  have fi5 := k1.ins.free 5
  have k2 := (k1.put (y := ⟨0, 2, gN l 1, gN l 2, 0, 2⟩) 3 _ rfl).put (y := ⟨0, 2, gN l 1, gN l 2, 0, 3⟩) 5 (.int .i64 3) rfl
  have K := Lib.hid k2
  clear k1 k2
  go_wp2_with fail
  refine (HA.out _).mono ?_
  rintro e w2 ⟨rfl, hb2⟩
  have k3 := K.out.later hb2
  clear hb2 K i2 i3 i5 c2 fi3 fi5
  have i0 : w2.cell? ⟨w.heap.size + 1, 0, none⟩ = some (.int .i64 0) := k3.ins.cell 0 _ rfl
  have i1 : w2.cell? ⟨w.heap.size + 1, 1, none⟩ = some (.int .i64 2) := k3.ins.cell 1 _ rfl
  have i2 : w2.cell? ⟨w.heap.size + 1, 2, none⟩ = some (.int .u8 ((gN l 1 : Nat) : Int)) := k3.ins.cell 2 _ rfl
  have i3 : w2.cell? ⟨w.heap.size + 1, 3, none⟩ = some (.int .u8 ((gN l 2 : Nat) : Int)) := k3.ins.cell 3 _ rfl
  have i4 : w2.cell? ⟨w.heap.size + 1, 4, none⟩ = some (.int .u16 0) := k3.ins.cell 4 _ rfl
  have i5 : w2.cell? ⟨w.heap.size + 1, 5, none⟩ = some (.int .i64 3) := k3.ins.cell 5 _ rfl
  have r0 : w2.cell? ⟨w.heap.size, 0, none⟩ = some (.int .i64 0) := k3.res.cell 0 _ rfl
  have r1 : w2.cell? ⟨w.heap.size, 1, none⟩ = some (.int .i64 0) := k3.res.cell 1 _ rfl
  have r2 : w2.cell? ⟨w.heap.size, 2, none⟩ = some (.int .u8 0) := k3.res.cell 2 _ rfl
  have r3 : w2.cell? ⟨w.heap.size, 3, none⟩ = some (.int .u8 0) := k3.res.cell 3 _ rfl
  have r4 : w2.cell? ⟨w.heap.size, 4, none⟩ = some (.int .u16 0) := k3.res.cell 4 _ rfl
  have r5 : w2.cell? ⟨w.heap.size, 5, none⟩ = some (.int .i64 0) := k3.res.cell 5 _ rfl
  have f0 := k3.res.free 0
  have f1 := k3.res.free 1
  have f2 := k3.res.free 2
  have f3 := k3.res.free 3
  have f4 := k3.res.free 4
  have f5 := k3.res.free 5
  have c3 : w2.cell? ⟨b, off + 3, none⟩ = some (.int .u8 ((gN l 3 : Nat) : Int)) := HCELL.out _ k3.bel 3 (by omega)
  have fi4 := k3.ins.free 4
  have fi5 := k3.ins.free 5
  have lt1 := k3.ins.lt
  have B := Lib.hid k3.bel
  clear k3
  go_wp2_with fail
  exact bodyPost_ret (v := .tuple #[.agg #[.int .i64 0, .int .i64 2, .int .u8 ((gN l 1 : Nat) : Int), .int .u8 ((gN l 2 : Nat) : Int), .int .u16 ((gN l 3 : Nat) : Int), .int .i64 4], .bool true]) (by simp [results, Tryd.results10, go_sem, r0, r1, r2, r3, r4, r5]) rfl ⟨rfl, by repeat (with_reducible first | exact B.out | refine Below.drew ?_ | refine Below.setCell ?_ (by first | exact Nat.le_refl _ | exact Nat.le_succ _ | simp) _)⟩
set_option maxRecDepth 100000 in
set_option maxHeartbeats 1600000 in
theorem rreadp2f0 (v : Value) (l : List Nat) (w : World) (h : BytesAt w w.heap.size v l) (q203 : (((gN l 0 : Nat) : Int) == 203) = false) (q237 : (((gN l 0 : Nat) : Int) == 237) = false) (q221 : (((gN l 0 : Nat) : Int) == 221) = false) (q253 : (((gN l 0 : Nat) : Int) == 253) = true) (r221 : (((gN l 1 : Nat) : Int) == 221) = false) (r237 : (((gN l 1 : Nat) : Int) == 237) = false) (r253 : (((gN l 1 : Nat) : Int) == 253) = false) (r203 : (((gN l 1 : Nat) : Int) == 203) = false) (hcc : gN l 1 < 256) (hmem : memC (gN l 1) = false) (harg : argC (gN l 1) = 0) (n1 : 2 ≤ l.length) : Calls Tryd.prog 10 #[v] w fun e w' => e = .returned (.tuple #[.agg (In.mk 0 2 (gN l 1) 0 0 2).arr, .bool true]) ∧ Below w.heap.size w w' := by
  obtain ⟨b, off, cap, rfl, hc, hm, hb, hcell⟩ := bytes_open h (by omega)
  unfold maxLen at hm
  have a0 : (w.alloc (.cells #[.int .i64 0, .int .i64 0, .int .u8 0, .int .u8 0, .int .u16 0, .int .i64 0] 29)).cell? ⟨b, off, none⟩ = some (.int .u8 ((gN l 0 : Nat) : Int)) := hcell (w.alloc (.cells #[.int .i64 0, .int .i64 0, .int .u8 0, .int .u8 0, .int .u16 0, .int .i64 0] 29)) (balloc w _) 0 (by omega)
  have a1 : (w.alloc (.cells #[.int .i64 0, .int .i64 0, .int .u8 0, .int .u8 0, .int .u16 0, .int .i64 0] 29)).cell? ⟨b, off + 1, none⟩ = some (.int .u8 ((gN l 1 : Nat) : Int)) := hcell (w.alloc (.cells #[.int .i64 0, .int .i64 0, .int .u8 0, .int .u8 0, .int .u16 0, .int .i64 0] 29)) (balloc w _) 1 (by omega)
  have HCELL := Lib.hid hcell
  have HM := Lib.hid (fun w => refMemIs (gN l 1) false w hcc hmem)
  clear hmem
  have HA := Lib.hid (fun w => refArgsIs (gN l 1) 0 w hcc harg)
  clear harg
  have K := Lib.hid (RpAt.made w ⟨0, 2, gN l 1, 0, 0, 2⟩)
  clear hcell h
  unfold In.arr zeroI at *
  go_enter Tryd.func10, Tryd.ntmps10
  go_wp2_with fail
  refine (HM.out _).mono ?_
  rintro e w1 ⟨rfl, hb1⟩
  have k1 := K.out.later hb1
  clear hb1 K
  have i2 : w1.cell? ⟨w.heap.size + 1, 2, none⟩ = some (.int .u8 ((gN l 1 : Nat) : Int)) := k1.ins.cell 2 _ rfl
  have K := Lib.hid k1
  clear k1
  go_wp2_with fail
  refine (HA.out _).mono ?_
  rintro e w2 ⟨rfl, hb2⟩
  have k3 := K.out.later hb2
  clear hb2 K i2
  have i0 : w2.cell? ⟨w.heap.size + 1, 0, none⟩ = some (.int .i64 0) := k3.ins.cell 0 _ rfl
  have i1 : w2.cell? ⟨w.heap.size + 1, 1, none⟩ = some (.int .i64 2) := k3.ins.cell 1 _ rfl
  have i2 : w2.cell? ⟨w.heap.size + 1, 2, none⟩ = some (.int .u8 ((gN l 1 : Nat) : Int)) := k3.ins.cell 2 _ rfl
  have i3 : w2.cell? ⟨w.heap.size + 1, 3, none⟩ = some (.int .u8 0) := k3.ins.cell 3 _ rfl
  have i4 : w2.cell? ⟨w.heap.size + 1, 4, none⟩ = some (.int .u16 0) := k3.ins.cell 4 _ rfl
  have i5 : w2.cell? ⟨w.heap.size + 1, 5, none⟩ = some (.int .i64 2) := k3.ins.cell 5 _ rfl
  have r0 : w2.cell? ⟨w.heap.size, 0, none⟩ = some (.int .i64 0) := k3.res.cell 0 _ rfl
  have r1 : w2.cell? ⟨w.heap.size, 1, none⟩ = some (.int .i64 0) := k3.res.cell 1 _ rfl
  have r2 : w2.cell? ⟨w.heap.size, 2, none⟩ = some (.int .u8 0) := k3.res.cell 2 _ rfl
  have r3 : w2.cell? ⟨w.heap.size, 3, none⟩ = some (.int .u8 0) := k3.res.cell 3 _ rfl
  have r4 : w2.cell? ⟨w.heap.size, 4, none⟩ = some (.int .u16 0) := k3.res.cell 4 _ rfl
  have r5 : w2.cell? ⟨w.heap.size, 5, none⟩ = some (.int .i64 0) := k3.res.cell 5 _ rfl
  have f0 := k3.res.free 0
  have f1 := k3.res.free 1
  have f2 := k3.res.free 2
  have f3 := k3.res.free 3
  have f4 := k3.res.free 4
  have f5 := k3.res.free 5
  have fi4 := k3.ins.free 4
  have fi5 := k3.ins.free 5
  have lt1 := k3.ins.lt
  have B := Lib.hid k3.bel
  clear k3
  go_wp2_with fail
  exact bodyPost_ret (v := .tuple #[.agg #[.int .i64 0, .int .i64 2, .int .u8 ((gN l 1 : Nat) : Int), .int .u8 0, .int .u16 0, .int .i64 2], .bool true]) (by simp [results, Tryd.results10, go_sem, r0, r1, r2, r3, r4, r5]) rfl ⟨rfl, by repeat (with_reducible first | exact B.out | refine Below.drew ?_ | refine Below.setCell ?_ (by first | exact Nat.le_refl _ | exact Nat.le_succ _ | simp) _)⟩
set_option maxRecDepth 100000 in
set_option maxHeartbeats 1600000 in
theorem rreadp2f1n (v : Value) (l : List Nat) (w : World) (h : BytesAt w w.heap.size v l) (q203 : (((gN l 0 : Nat) : Int) == 203) = false) (q237 : (((gN l 0 : Nat) : Int) == 237) = false) (q221 : (((gN l 0 : Nat) : Int) == 221) = false) (q253 : (((gN l 0 : Nat) : Int) == 253) = true) (r221 : (((gN l 1 : Nat) : Int) == 221) = false) (r237 : (((gN l 1 : Nat) : Int) == 237) = false) (r253 : (((gN l 1 : Nat) : Int) == 253) = false) (r203 : (((gN l 1 : Nat) : Int) == 203) = false) (hcc : gN l 1 < 256) (hmem : memC (gN l 1) = false) (harg : argC (gN l 1) = 1) (n1 : 2 ≤ l.length) (n2 : l.length < 3) : Calls Tryd.prog 10 #[v] w fun e w' => e = .returned (.tuple #[.agg zeroI.arr, .bool false]) ∧ Below w.heap.size w w' := by
  obtain ⟨b, off, cap, rfl, hc, hm, hb, hcell⟩ := bytes_open h (by omega)
  unfold maxLen at hm
  have a0 : (w.alloc (.cells #[.int .i64 0, .int .i64 0, .int .u8 0, .int .u8 0, .int .u16 0, .int .i64 0] 29)).cell? ⟨b, off, none⟩ = some (.int .u8 ((gN l 0 : Nat) : Int)) := hcell (w.alloc (.cells #[.int .i64 0, .int .i64 0, .int .u8 0, .int .u8 0, .int .u16 0, .int .i64 0] 29)) (balloc w _) 0 (by omega)
  have a1 : (w.alloc (.cells #[.int .i64 0, .int .i64 0, .int .u8 0, .int .u8 0, .int .u16 0, .int .i64 0] 29)).cell? ⟨b, off + 1, none⟩ = some (.int .u8 ((gN l 1 : Nat) : Int)) := hcell (w.alloc (.cells #[.int .i64 0, .int .i64 0, .int .u8 0, .int .u8 0, .int .u16 0, .int .i64 0] 29)) (balloc w _) 1 (by omega)
  have HCELL := Lib.hid hcell
  have HM := Lib.hid (fun w => refMemIs (gN l 1) false w hcc hmem)
  clear hmem
  have HA := Lib.hid (fun w => refArgsIs (gN l 1) 1 w hcc harg)
  clear harg
  have K := Lib.hid (RpAt.made w ⟨0, 2, gN l 1, 0, 0, 2⟩)
  clear hcell h
  unfold In.arr zeroI at *
  go_enter Tryd.func10, Tryd.ntmps10
  go_wp2_with fail
  refine (HM.out _).mono ?_
  rintro e w1 ⟨rfl, hb1⟩
  have k1 := K.out.later hb1
  clear hb1 K
  have i2 : w1.cell? ⟨w.heap.size + 1, 2, none⟩ = some (.int .u8 ((gN l 1 : Nat) : Int)) := k1.ins.cell 2 _ rfl
  have K := Lib.hid k1
  clear k1
  go_wp2_with fail
  refine (HA.out _).mono ?_
  rintro e w2 ⟨rfl, hb2⟩
  have k3 := K.out.later hb2
  clear hb2 K i2
  have i5 : w2.cell? ⟨w.heap.size + 1, 5, none⟩ = some (.int .i64 2) := k3.ins.cell 5 _ rfl
  have r0 : w2.cell? ⟨w.heap.size, 0, none⟩ = some (.int .i64 0) := k3.res.cell 0 _ rfl
  have r1 : w2.cell? ⟨w.heap.size, 1, none⟩ = some (.int .i64 0) := k3.res.cell 1 _ rfl
  have r2 : w2.cell? ⟨w.heap.size, 2, none⟩ = some (.int .u8 0) := k3.res.cell 2 _ rfl
  have r3 : w2.cell? ⟨w.heap.size, 3, none⟩ = some (.int .u8 0) := k3.res.cell 3 _ rfl
  have r4 : w2.cell? ⟨w.heap.size, 4, none⟩ = some (.int .u16 0) := k3.res.cell 4 _ rfl
  have r5 : w2.cell? ⟨w.heap.size, 5, none⟩ = some (.int .i64 0) := k3.res.cell 5 _ rfl
  have f0 := k3.res.free 0
  have f1 := k3.res.free 1
  have f2 := k3.res.free 2
  have f3 := k3.res.free 3
  have f4 := k3.res.free 4
  have f5 := k3.res.free 5
  have B := Lib.hid k3.bel
  clear k3
  go_wp2_with fail
  exact bodyPost_ret (v := .tuple #[.agg #[.int .i64 0, .int .i64 0, .int .u8 0, .int .u8 0, .int .u16 0, .int .i64 0], .bool false]) (by simp [results, Tryd.results10, go_sem, r0, r1, r2, r3, r4, r5]) rfl ⟨rfl, below_fill B.out (Nat.le_refl _) _ _ _ _ _ _⟩
set_option maxRecDepth 100000 in
set_option maxHeartbeats 1600000 in
theorem rreadp2f1 (v : Value) (l : List Nat) (w : World) (h : BytesAt w w.heap.size v l) (q203 : (((gN l 0 : Nat) : Int) == 203) = false) (q237 : (((gN l 0 : Nat) : Int) == 237) = false) (q221 : (((gN l 0 : Nat) : Int) == 221) = false) (q253 : (((gN l 0 : Nat) : Int) == 253) = true) (r221 : (((gN l 1 : Nat) : Int) == 221) = false) (r237 : (((gN l 1 : Nat) : Int) == 237) = false) (r253 : (((gN l 1 : Nat) : Int) == 253) = false) (r203 : (((gN l 1 : Nat) : Int) == 203) = false) (hcc : gN l 1 < 256) (hmem : memC (gN l 1) = false) (harg : argC (gN l 1) = 1) (n1 : 3 ≤ l.length) (hb2 : gN l 2 < 256) : Calls Tryd.prog 10 #[v] w fun e w' => e = .returned (.tuple #[.agg (In.mk 0 2 (gN l 1) 0 (gN l 2) 3).arr, .bool true]) ∧ Below w.heap.size w w' := by
  obtain ⟨b, off, cap, rfl, hc, hm, hb, hcell⟩ := bytes_open h (by omega)
  unfold maxLen at hm
  have a0 : (w.alloc (.cells #[.int .i64 0, .int .i64 0, .int .u8 0, .int .u8 0, .int .u16 0, .int .i64 0] 29)).cell? ⟨b, off, none⟩ = some (.int .u8 ((gN l 0 : Nat) : Int)) := hcell (w.alloc (.cells #[.int .i64 0, .int .i64 0, .int .u8 0, .int .u8 0, .int .u16 0, .int .i64 0] 29)) (balloc w _) 0 (by omega)
  have a1 : (w.alloc (.cells #[.int .i64 0, .int .i64 0, .int .u8 0, .int .u8 0, .int .u16 0, .int .i64 0] 29)).cell? ⟨b, off + 1, none⟩ = some (.int .u8 ((gN l 1 : Nat) : Int)) := hcell (w.alloc (.cells #[.int .i64 0, .int .i64 0, .int .u8 0, .int .u8 0, .int .u16 0, .int .i64 0] 29)) (balloc w _) 1 (by omega)
  have HCELL := Lib.hid hcell
  have HM := Lib.hid (fun w => refMemIs (gN l 1) false w hcc hmem)
  clear hmem
  have HA := Lib.hid (fun w => refArgsIs (gN l 1) 1 w hcc harg)
  clear harg
  have K := Lib.hid (RpAt.made w ⟨0, 2, gN l 1, 0, 0, 2⟩)
  clear hcell h
  unfold In.arr zeroI at *
  go_enter Tryd.func10, Tryd.ntmps10
  go_wp2_with fail
  refine (HM.out _).mono ?_
  rintro e w1 ⟨rfl, hb1⟩
  have k1 := K.out.later hb1
  clear hb1 K
  have i2 : w1.cell? ⟨w.heap.size + 1, 2, none⟩ = some (.int .u8 ((gN l 1 : Nat) : Int)) := k1.ins.cell 2 _ rfl
  have K := Lib.hid k1
  clear k1
  go_wp2_with fail
  refine (HA.out _).mono ?_
  rintro e w2 ⟨rfl, hb2⟩
  have k3 := K.out.later hb2
  clear hb2 K i2
  have i0 : w2.cell? ⟨w.heap.size + 1, 0, none⟩ = some (.int .i64 0) := k3.ins.cell 0 _ rfl
  have i1 : w2.cell? ⟨w.heap.size + 1, 1, none⟩ = some (.int .i64 2) := k3.ins.cell 1 _ rfl
  have i2 : w2.cell? ⟨w.heap.size + 1, 2, none⟩ = some (.int .u8 ((gN l 1 : Nat) : Int)) := k3.ins.cell 2 _ rfl
  have i3 : w2.cell? ⟨w.heap.size + 1, 3, none⟩ = some (.int .u8 0) := k3.ins.cell 3 _ rfl
  have i4 : w2.cell? ⟨w.heap.size + 1, 4, none⟩ = some (.int .u16 0) := k3.ins.cell 4 _ rfl
  have i5 : w2.cell? ⟨w.heap.size + 1, 5, none⟩ = some (.int .i64 2) := k3.ins.cell 5 _ rfl
  have r0 : w2.cell? ⟨w.heap.size, 0, none⟩ = some (.int .i64 0) := k3.res.cell 0 _ rfl
  have r1 : w2.cell? ⟨w.heap.size, 1, none⟩ = some (.int .i64 0) := k3.res.cell 1 _ rfl
  have r2 : w2.cell? ⟨w.heap.size, 2, none⟩ = some (.int .u8 0) := k3.res.cell 2 _ rfl
  have r3 : w2.cell? ⟨w.heap.size, 3, none⟩ = some (.int .u8 0) := k3.res.cell 3 _ rfl
  have r4 : w2.cell? ⟨w.heap.size, 4, none⟩ = some (.int .u16 0) := k3.res.cell 4 _ rfl
  have r5 : w2.cell? ⟨w.heap.size, 5, none⟩ = some (.int .i64 0) := k3.res.cell 5 _ rfl
  have f0 := k3.res.free 0
  have f1 := k3.res.free 1
  have f2 := k3.res.free 2
  have f3 := k3.res.free 3
  have f4 := k3.res.free 4
  have f5 := k3.res.free 5
  have c2 : w2.cell? ⟨b, off + 2, none⟩ = some (.int .u8 ((gN l 2 : Nat) : Int)) := HCELL.out _ k3.bel 2 (by omega)
  have fi4 := k3.ins.free 4
  have fi5 := k3.ins.free 5
  have lt1 := k3.ins.lt
  have B := Lib.hid k3.bel
  clear k3
  go_wp2_with fail
  exact bodyPost_ret (v := .tuple #[.agg #[.int .i64 0, .int .i64 2, .int .u8 ((gN l 1 : Nat) : Int), .int .u8 0, .int .u16 ((gN l 2 : Nat) : Int), .int .i64 3], .bool true]) (by simp [results, Tryd.results10, go_sem, r0, r1, r2, r3, r4, r5]) rfl ⟨rfl, by repeat (with_reducible first | exact B.out | refine Below.drew ?_ | refine Below.setCell ?_ (by first | exact Nat.le_refl _ | exact Nat.le_succ _ | simp) _)⟩
set_option maxRecDepth 100000 in
set_option maxHeartbeats 1600000 in
theorem rreadp2f2n (v : Value) (l : List Nat) (w : World) (h : BytesAt w w.heap.size v l) (q203 : (((gN l 0 : Nat) : Int) == 203) = false) (q237 : (((gN l 0 : Nat) : Int) == 237) = false) (q221 : (((gN l 0 : Nat) : Int) == 221) = false) (q253 : (((gN l 0 : Nat) : Int) == 253) = true) (r221 : (((gN l 1 : Nat) : Int) == 221) = false) (r237 : (((gN l 1 : Nat) : Int) == 237) = false) (r253 : (((gN l 1 : Nat) : Int) == 253) = false) (r203 : (((gN l 1 : Nat) : Int) == 203) = false) (hcc : gN l 1 < 256) (hmem : memC (gN l 1) = false) (harg : argC (gN l 1) = 2) (n1 : 2 ≤ l.length) (n2 : l.length < 4) : Calls Tryd.prog 10 #[v] w fun e w' => e = .returned (.tuple #[.agg zeroI.arr, .bool false]) ∧ Below w.heap.size w w' := by
  obtain ⟨b, off, cap, rfl, hc, hm, hb, hcell⟩ := bytes_open h (by omega)
  unfold maxLen at hm
  have a0 : (w.alloc (.cells #[.int .i64 0, .int .i64 0, .int .u8 0, .int .u8 0, .int .u16 0, .int .i64 0] 29)).cell? ⟨b, off, none⟩ = some (.int .u8 ((gN l 0 : Nat) : Int)) := hcell (w.alloc (.cells #[.int .i64 0, .int .i64 0, .int .u8 0, .int .u8 0, .int .u16 0, .int .i64 0] 29)) (balloc w _) 0 (by omega)
  have a1 : (w.alloc (.cells #[.int .i64 0, .int .i64 0, .int .u8 0, .int .u8 0, .int .u16 0, .int .i64 0] 29)).cell? ⟨b, off + 1, none⟩ = some (.int .u8 ((gN l 1 : Nat) : Int)) := hcell (w.alloc (.cells #[.int .i64 0, .int .i64 0, .int .u8 0, .int .u8 0, .int .u16 0, .int .i64 0] 29)) (balloc w _) 1 (by omega)
  have HCELL := Lib.hid hcell
  have HM := Lib.hid (fun w => refMemIs (gN l 1) false w hcc hmem)
  clear hmem
  have HA := Lib.hid (fun w => refArgsIs (gN l 1) 2 w hcc harg)
  clear harg
  have K := Lib.hid (RpAt.made w ⟨0, 2, gN l 1, 0, 0, 2⟩)
  clear hcell h
  unfold In.arr zeroI at *
  go_enter Tryd.func10, Tryd.ntmps10
  go_wp2_with fail
  refine (HM.out _).mono ?_
  rintro e w1 ⟨rfl, hb1⟩
  have k1 := K.out.later hb1
  clear hb1 K
  have i2 : w1.cell? ⟨w.heap.size + 1, 2, none⟩ = some (.int .u8 ((gN l 1 : Nat) : Int)) := k1.ins.cell 2 _ rfl
  have K := Lib.hid k1
  clear k1
  go_wp2_with fail
  refine (HA.out _).mono ?_
  rintro e w2 ⟨rfl, hb2⟩
  have k3 := K.out.later hb2
  clear hb2 K i2
  have i5 : w2.cell? ⟨w.heap.size + 1, 5, none⟩ = some (.int .i64 2) := k3.ins.cell 5 _ rfl
  have r0 : w2.cell? ⟨w.heap.size, 0, none⟩ = some (.int .i64 0) := k3.res.cell 0 _ rfl
  have r1 : w2.cell? ⟨w.heap.size, 1, none⟩ = some (.int .i64 0) := k3.res.cell 1 _ rfl
  have r2 : w2.cell? ⟨w.heap.size, 2, none⟩ = some (.int .u8 0) := k3.res.cell 2 _ rfl
  have r3 : w2.cell? ⟨w.heap.size, 3, none⟩ = some (.int .u8 0) := k3.res.cell 3 _ rfl
  have r4 : w2.cell? ⟨w.heap.size, 4, none⟩ = some (.int .u16 0) := k3.res.cell 4 _ rfl
  have r5 : w2.cell? ⟨w.heap.size, 5, none⟩ = some (.int .i64 0) := k3.res.cell 5 _ rfl
  have f0 := k3.res.free 0
  have f1 := k3.res.free 1
  have f2 := k3.res.free 2
  have f3 := k3.res.free 3
  have f4 := k3.res.free 4
  have f5 := k3.res.free 5
  have B := Lib.hid k3.bel
  clear k3
  go_wp2_with fail
  exact bodyPost_ret (v := .tuple #[.agg #[.int .i64 0, .int .i64 0, .int .u8 0, .int .u8 0, .int .u16 0, .int .i64 0], .bool false]) (by simp [results, Tryd.results10, go_sem, r0, r1, r2, r3, r4, r5]) rfl ⟨rfl, below_fill B.out (Nat.le_refl _) _ _ _ _ _ _⟩
set_option maxRecDepth 100000 in
set_option maxHeartbeats 1600000 in
theorem rreadp2f2 (v : Value) (l : List Nat) (w : World) (h : BytesAt w w.heap.size v l) (q203 : (((gN l 0 : Nat) : Int) == 203) = false) (q237 : (((gN l 0 : Nat) : Int) == 237) = false) (q221 : (((gN l 0 : Nat) : Int) == 221) = false) (q253 : (((gN l 0 : Nat) : Int) == 253) = true) (r221 : (((gN l 1 : Nat) : Int) == 221) = false) (r237 : (((gN l 1 : Nat) : Int) == 237) = false) (r253 : (((gN l 1 : Nat) : Int) == 253) = false) (r203 : (((gN l 1 : Nat) : Int) == 203) = false) (hcc : gN l 1 < 256) (hmem : memC (gN l 1) = false) (harg : argC (gN l 1) = 2) (n1 : 4 ≤ l.length) (hb2 : gN l 2 < 256) (hb3 : gN l 3 < 256) : Calls Tryd.prog 10 #[v] w fun e w' => e = .returned (.tuple #[.agg (In.mk 0 2 (gN l 1) 0 (gN l 2 + 256 * gN l 3) 4).arr, .bool true]) ∧ Below w.heap.size w w' := by
  obtain ⟨b, off, cap, rfl, hc, hm, hb, hcell⟩ := bytes_open h (by omega)
  unfold maxLen at hm
  have a0 : (w.alloc (.cells #[.int .i64 0, .int .i64 0, .int .u8 0, .int .u8 0, .int .u16 0, .int .i64 0] 29)).cell? ⟨b, off, none⟩ = some (.int .u8 ((gN l 0 : Nat) : Int)) := hcell (w.alloc (.cells #[.int .i64 0, .int .i64 0, .int .u8 0, .int .u8 0, .int .u16 0, .int .i64 0] 29)) (balloc w _) 0 (by omega)
  have a1 : (w.alloc (.cells #[.int .i64 0, .int .i64 0, .int .u8 0, .int .u8 0, .int .u16 0, .int .i64 0] 29)).cell? ⟨b, off + 1, none⟩ = some (.int .u8 ((gN l 1 : Nat) : Int)) := hcell (w.alloc (.cells #[.int .i64 0, .int .i64 0, .int .u8 0, .int .u8 0, .int .u16 0, .int .i64 0] 29)) (balloc w _) 1 (by omega)
  have HCELL := Lib.hid hcell
  have HM := Lib.hid (fun w => refMemIs (gN l 1) false w hcc hmem)
  clear hmem
  have HA := Lib.hid (fun w => refArgsIs (gN l 1) 2 w hcc harg)
  clear harg
  have K := Lib.hid (RpAt.made w ⟨0, 2, gN l 1, 0, 0, 2⟩)
  clear hcell h
  unfold In.arr zeroI at *
  go_enter Tryd.func10, Tryd.ntmps10
  go_wp2_with fail
  refine (HM.out _).mono ?_
  rintro e w1 ⟨rfl, hb1⟩
  have k1 := K.out.later hb1
  clear hb1 K
  have i2 : w1.cell? ⟨w.heap.size + 1, 2, none⟩ = some (.int .u8 ((gN l 1 : Nat) : Int)) := k1.ins.cell 2 _ rfl
  have K := Lib.hid k1
  clear k1
  go_wp2_with fail
  refine (HA.out _).mono ?_
  rintro e w2 ⟨rfl, hb2⟩
  have k3 := K.out.later hb2
  clear hb2 K i2
  have i0 : w2.cell? ⟨w.heap.size + 1, 0, none⟩ = some (.int .i64 0) := k3.ins.cell 0 _ rfl
  have i1 : w2.cell? ⟨w.heap.size + 1, 1, none⟩ = some (.int .i64 2) := k3.ins.cell 1 _ rfl
  have i2 : w2.cell? ⟨w.heap.size + 1, 2, none⟩ = some (.int .u8 ((gN l 1 : Nat) : Int)) := k3.ins.cell 2 _ rfl
  have i3 : w2.cell? ⟨w.heap.size + 1, 3, none⟩ = some (.int .u8 0) := k3.ins.cell 3 _ rfl
  have i4 : w2.cell? ⟨w.heap.size + 1, 4, none⟩ = some (.int .u16 0) := k3.ins.cell 4 _ rfl
  have i5 : w2.cell? ⟨w.heap.size + 1, 5, none⟩ = some (.int .i64 2) := k3.ins.cell 5 _ rfl
  have r0 : w2.cell? ⟨w.heap.size, 0, none⟩ = some (.int .i64 0) := k3.res.cell 0 _ rfl
  have r1 : w2.cell? ⟨w.heap.size, 1, none⟩ = some (.int .i64 0) := k3.res.cell 1 _ rfl
  have r2 : w2.cell? ⟨w.heap.size, 2, none⟩ = some (.int .u8 0) := k3.res.cell 2 _ rfl
  have r3 : w2.cell? ⟨w.heap.size, 3, none⟩ = some (.int .u8 0) := k3.res.cell 3 _ rfl
  have r4 : w2.cell? ⟨w.heap.size, 4, none⟩ = some (.int .u16 0) := k3.res.cell 4 _ rfl
  have r5 : w2.cell? ⟨w.heap.size, 5, none⟩ = some (.int .i64 0) := k3.res.cell 5 _ rfl
  have f0 := k3.res.free 0
  have f1 := k3.res.free 1
  have f2 := k3.res.free 2
  have f3 := k3.res.free 3
  have f4 := k3.res.free 4
  have f5 := k3.res.free 5
  have c2 : w2.cell? ⟨b, off + 2, none⟩ = some (.int .u8 ((gN l 2 : Nat) : Int)) := HCELL.out _ k3.bel 2 (by omega)
  have c3 : w2.cell? ⟨b, off + 3, none⟩ = some (.int .u8 ((gN l 3 : Nat) : Int)) := HCELL.out _ k3.bel 3 (by omega)
  have fi4 := k3.ins.free 4
  have fi5 := k3.ins.free 5
  have lt1 := k3.ins.lt
  have B := Lib.hid k3.bel
  clear k3
  go_wp2_with fail
  go_region
  go_wp2_with fail
  exact bodyPost_ret (v := .tuple #[.agg #[.int .i64 0, .int .i64 2, .int .u8 ((gN l 1 : Nat) : Int), .int .u8 0, .int .u16 (((gN l 2 : Nat) : Int) + 256 * ((gN l 3 : Nat) : Int)), .int .i64 4], .bool true]) (by simp [results, Tryd.results10, go_sem, r0, r1, r2, r3, r4, r5]) rfl ⟨rfl, by repeat (with_reducible first | exact B.out | refine Below.drew ?_ | refine Below.setCell ?_ (by first | exact Nat.le_refl _ | exact Nat.le_succ _ | simp) _)⟩

end Go.Proofs.YtkjibnnoeceaeaaDoor
