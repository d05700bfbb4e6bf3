/- The document's List: its contract. -/
import Derived.Test.YteffjidbcdnbhaaDoorRegByte
import Derived.Deep.QuietTactic
import Derived.BigQuiet
import Derived.Outline
namespace Go.Proofs.YteffjidbcdnbhaaDoor
open Go.RowKit

/-- The registers' type: what the walk asks of it. -/
theorem regs_size : (Tryd.prog.info? 24).map (·.size) = some 30 := by kernel_rfl

def listV (x : Rg) (i : Int) : Array Value := #[.int .u8 x.b, .int .u8 x.c, .int .u8 x.d, .int .u8 x.e, .int .u8 (hiX x i), .int .u8 (loX x i), .int .u8 0, .int .u8 x.a]

theorem below_drewN2 (B : Nat) (w : World) (n : Nat) : Below B w (w.drewN n) := ⟨rfl, rfl, rfl, Nat.le_refl _, fun _ _ => rfl⟩

set_option maxHeartbeats 1600000 in
theorem list_any (x : Rg) (i : Int) (w : World) (ok : x.Ok) : Calls Tryd.prog 9 #[.agg x.cells.toArray, .int .i64 i] w fun e w' => ∃ g, e = .returned (.slice (some ⟨g, 0, none⟩) 8 8) ∧ w.heap.size ≤ g ∧ w'.heap[g]? = some (.cells (listV x i) 5 (0, 0)) ∧ Below w.heap.size w w' := by
  obtain ⟨x0, x1⟩ := ok.ix
  obtain ⟨y0, y1⟩ := ok.iy
  rcases off_of i with ⟨rfl, hi⟩ | ⟨rfl, hi⟩ | ⟨h1, h2, hi⟩
  · clear hi
    have k : RegAt (w.alloc (.cells x.cells.toArray 24)) w.heap.size x ∧ Below w.heap.size w (w.alloc (.cells x.cells.toArray 24)) := ⟨RegAt.new w x _, (Below.refl _ _).alloc (Nat.le_refl _) _⟩
    have K := Lib.hid k
    clear k ok
    go_enter Tryd.func9, Tryd.ntmps9
    go_wp2_with fail
    have k := K.out
    clear K
    generalize w.alloc (.cells x.cells.toArray 24) = w1 at k ⊢
    obtain ⟨k, hb⟩ := k
    have hz := hb.size
    have d0 := k.cell 0 _ rfl
    have d2 := k.cell 2 _ rfl
    have d3 := k.cell 3 _ rfl
    have d4 := k.cell 4 _ rfl
    have d5 := k.cell 5 _ rfl
    have d6 := k.cell 6 _ rfl
    have d7 := k.cell 7 _ rfl
    have d19 := k.cell 19 _ rfl
    have d20 := k.cell 20 _ rfl
    have HB := Lib.hid hb
    have HZ := Lib.hid hz
    clear k hb hz
    go_quiet (fail)
    go_wp2_with fail
    go_ret
    exact ⟨_, rfl, HZ.out, heap_alloc_new _ _, (HB.out.trans (below_drewN2 _ _ _)).alloc HZ.out _⟩
  · clear hi
    have k : RegAt (w.alloc (.cells x.cells.toArray 24)) w.heap.size x ∧ Below w.heap.size w (w.alloc (.cells x.cells.toArray 24)) := ⟨RegAt.new w x _, (Below.refl _ _).alloc (Nat.le_refl _) _⟩
    have K := Lib.hid k
    clear k ok
    go_enter Tryd.func9, Tryd.ntmps9
    go_wp2_with fail
    have k := K.out
    clear K
    generalize w.alloc (.cells x.cells.toArray 24) = w1 at k ⊢
    obtain ⟨k, hb⟩ := k
    have hz := hb.size
    have d0 := k.cell 0 _ rfl
    have d2 := k.cell 2 _ rfl
    have d3 := k.cell 3 _ rfl
    have d4 := k.cell 4 _ rfl
    have d5 := k.cell 5 _ rfl
    have d6 := k.cell 6 _ rfl
    have d7 := k.cell 7 _ rfl
    have d19 := k.cell 19 _ rfl
    have d20 := k.cell 20 _ rfl
    have HB := Lib.hid hb
    have HZ := Lib.hid hz
    clear k hb hz
    go_quiet (fail)
    go_wp2_with fail
    go_ret
    exact ⟨_, rfl, HZ.out, heap_alloc_new _ _, (HB.out.trans (below_drewN2 _ _ _)).alloc HZ.out _⟩
  · have e : listV x i = #[.int .u8 x.b, .int .u8 x.c, .int .u8 x.d, .int .u8 x.e, .int .u8 x.h, .int .u8 x.l, .int .u8 0, .int .u8 x.a] := by simp [listV, hiX, loX, h1, h2]
    rw [e]
    have e1 : (i == 1) = false := by simpa using h1
    have e2 : (i == 2) = false := by simpa using h2
    clear hi h1 h2 e
    have k : RegAt (w.alloc (.cells x.cells.toArray 24)) w.heap.size x ∧ Below w.heap.size w (w.alloc (.cells x.cells.toArray 24)) := ⟨RegAt.new w x _, (Below.refl _ _).alloc (Nat.le_refl _) _⟩
    have K := Lib.hid k
    clear k ok
    go_enter Tryd.func9, Tryd.ntmps9
    go_wp2_with fail
    have k := K.out
    clear K
    generalize w.alloc (.cells x.cells.toArray 24) = w1 at k ⊢
    obtain ⟨k, hb⟩ := k
    have hz := hb.size
    have d0 := k.cell 0 _ rfl
    have d2 := k.cell 2 _ rfl
    have d3 := k.cell 3 _ rfl
    have d4 := k.cell 4 _ rfl
    have d5 := k.cell 5 _ rfl
    have d6 := k.cell 6 _ rfl
    have d7 := k.cell 7 _ rfl
    have d19 := k.cell 19 _ rfl
    have d20 := k.cell 20 _ rfl
    have HB := Lib.hid hb
    have HZ := Lib.hid hz
    clear k hb hz
    go_quiet (fail)
    go_wp2_with fail
    go_ret
    exact ⟨_, rfl, HZ.out, heap_alloc_new _ _, (HB.out.trans (below_drewN2 _ _ _)).alloc HZ.out _⟩

end Go.Proofs.YteffjidbcdnbhaaDoor
