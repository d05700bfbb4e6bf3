/- huff's Clone, Read, At, Align, Take and Bytes. -/
import Derived.Test.YtifkldllhbcmkaaDoorHuffMath
import Derived.Test.YtifkldllhbcmkaaDoorBytesCut
import Derived.Test.YtifkldllhbcmkaaDoorInts
import Derived.Test.YtifkldllhbcmkaaDoorProg
import Derived.Deep.QuietTactic
import Derived.BigQuiet
import Derived.RegionTactic
import Derived.ChangeAlike
import Derived.LoopTactic
import Derived.Lib.BufferMore
import Derived.Lib.Hide
namespace Go.Proofs.YtifkldllhbcmkaaDoor
open Go.RowKit

/-- Bit p of bytes, the lowest one of each first. -/
def bitN (l : List Int) (p : Nat) : Nat := (gI l (p / 8)).toNat / 2 ^ (p % 8) % 2
theorem bitN_le (l : List Int) (p : Nat) : bitN l p ≤ 1 := by unfold bitN; omega
/-- Bits in block g: the bytes l, p bits taken; the bytes lie where F says. -/
structure BitsAt (F : Nat → Prop) (w : World) (g : Nat) (l : List Int) (p : Nat) : Prop where
  apart : ¬ F g
  fit : p ≤ 8 * l.length
  is : ∃ A n cap, w.heap[g]? = some (.cells #[.slice A n cap, .int .i64 (p : Nat)] 44 (0, 0)) ∧ BAt8 F w A n cap l
theorem BitsAt.lt {F : Nat → Prop} {w : World} {g : Nat} {l : List Int} {p : Nat} (h : BitsAt F w g l p) : g < w.heap.size := by
  obtain ⟨_, _, A, n, cap, h1, _⟩ := h
  exact (Array.getElem?_eq_some_iff.1 h1).1
theorem BitsAt.below {F : Nat → Prop} {w w' : World} {g : Nat} {l : List Int} {p : Nat} (h : BitsAt F w g l p) (hb : Below w.heap.size w w') : BitsAt F w' g l p := by
  have hg := h.lt
  obtain ⟨h1, h2, A, n, cap, h3, h4⟩ := h
  exact ⟨h1, h2, A, n, cap, (hb.block g hg).trans h3, h4.below hb⟩
theorem eql_none (u : World) : (binOp .eql 22 (.slice none 0 0) (.slice none 0 0)).run Tryd.prog u = .ok (.bool true) u := Lib.run_eql_slice_nil_nil u 0 0 Tryd.underlying22
theorem eql_some (ad : Addr) (n c : Nat) (u : World) : (binOp .eql 22 (.slice (some ad) n c) (.slice none 0 0)).run Tryd.prog u = .ok (.bool false) u := Lib.run_eql_slice_some_nil u ad n c Tryd.underlying22
def Cloned (w : World) (n : Nat) (l : List Int) (x : Ending) (w' : World) : Prop := ∃ A cap, x = .returned (.slice A n cap) ∧ BAt8 (fun k => w.heap.size ≤ k) w' A n cap l ∧ Below w.heap.size w w'
theorem clone_any (F : Nat → Prop) (A : Option Addr) (n cap : Nat) (l : List Int) (w : World) (hl : BAt8 F w A n cap l) (hn : n ≤ 1000000) :
    Calls Tryd.prog 12 #[.slice A n cap] w (Cloned w n l) := by
  have hf := hl.fit
  have hm := hl.max
  have hlen := hl.len
  unfold maxLen at hm
  rcases A with _ | ad
  · have hc := hl.nil rfl
    have hn0 : n = 0 := by omega
    obtain rfl : l = [] := List.eq_nil_of_length_eq_zero (by omega)
    subst hn0 hc
    have HB := Lib.hid (Below.refl w.heap.size w)
    have q := eql_none
    go_enter Tryd.func12, Tryd.ntmps12
    go_wp2_with fail
    go_ret
    exact ⟨none, 0, rfl, BAt8.empty _ _, HB.out⟩
  · have ho := World.ownsRow_lit (size := 1) (base := w.heap.size) (e := 5) w (#[] : Array Value) 0 (Nat.le_refl _) (Nat.zero_le _) rfl
    have HO := Lib.hid ho
    have HY := Lib.hid (hl.below (bnew w (.cells #[] 5)))
    have hbd := hl.bd
    have HB := Lib.hid (bnew w (.cells (#[] : Array Value) 5))
    have q := eql_some ad n cap
    clear hl ho
    go_enter Tryd.func12, Tryd.ntmps12
    go_wp2_with (first
      | (at_builtin
         refine wpList_append_u8 (P := Tryd.prog) w.heap.size 5 22 infoB8 Tryd.underlying22 rfl (.tmp 5) (.tmp 6) rfl _ _ [] rfl HO.out rfl HY.out (by omega) (by simp) ?_
         intro v' w3 hown3 hb3
         have hown : w3.ownsRow w.heap.size 5 1 v' n (l.map u8I) := by simpa using hown3
         clear hown3
         obtain ⟨A3, cap3, rfl, hn3, hm3⟩ := own_slice hown
         have HR : Hid (Cloned w n l (.returned (.slice A3 n cap3)) w3) := Lib.hid ⟨A3, cap3, rfl, bytes_own hown hbd, HB.out.trans hb3⟩
         clear hown hb3))
    go_ret
    exact HR.out
set_option maxHeartbeats 800000 in
theorem read_any (F : Nat → Prop) (A : Option Addr) (n cap : Nat) (l : List Int) (w : World) (hl : BAt8 F w A n cap l) (hn : n ≤ 1000000) :
    Calls Tryd.prog 9 #[.slice A n cap] w fun x w' => ∃ g, x = .returned (.pointer (some ⟨g, 0, none⟩)) ∧ w.heap.size ≤ g ∧ BitsAt (fun k => w.heap.size ≤ k ∧ k < g) w' g l 0 ∧ Below w.heap.size w w' := by
  have H := Lib.hid (clone_any F A n cap l w hl hn)
  clear hl
  go_enter Tryd.func9, Tryd.ntmps9
  go_wp2_with fail
  refine H.out.mono ?_
  rintro e w1 ⟨A1, c1, rfl, hB, hb⟩
  have HR : Hid (∃ g, Ending.returned (.pointer (some ⟨w1.heap.size, 0, none⟩)) = .returned (.pointer (some ⟨g, 0, none⟩)) ∧ w.heap.size ≤ g ∧ BitsAt (fun k => w.heap.size ≤ k ∧ k < g) (w1.alloc (.cells #[.slice A1 n c1, .int .i64 0] 44)) g l 0 ∧ Below w.heap.size w (w1.alloc (.cells #[.slice A1 n c1, .int .i64 0] 44))) :=
    Lib.hid ⟨_, rfl, hb.size, ⟨by omega, by omega, A1, n, c1, heap_alloc_new _ _, (hB.weak fun k hk h => ⟨h, hk⟩).below (bnew _ _)⟩, hb.alloc hb.size _⟩
  clear hB hb
  go_wp2_with fail
  go_ret
  exact HR.out
theorem at_nil (w : World) : Calls Tryd.prog 11 #[.pointer none] w fun e w' => e = .returned (.int .i64 0) ∧ w = w' := by
  go_enter Tryd.func11, Tryd.ntmps11
  go_wp2_with fail
  go_ret
  exact ⟨rfl, rfl⟩
theorem align_nil (w : World) : Calls Tryd.prog 18 #[.pointer none] w fun e w' => e = .returned (.tuple #[]) ∧ w = w' := by
  go_enter Tryd.func18, Tryd.ntmps18
  go_wp2_with fail
  go_end0
  exact ⟨rfl, rfl⟩
theorem take_nil (n : Int) (w : World) : Calls Tryd.prog 17 #[.pointer none, .int .i64 n] w fun e w' => e = .returned (.tuple #[.int .i64 0, .bool false]) ∧ ∃ k, w' = w.drewN k := by
  go_enter Tryd.func17, Tryd.ntmps17
  go_wp2_with fail
  go_quiet (fail)
  go_wp2_with fail
  go_ret2
  exact ⟨rfl, _, rfl⟩
theorem bytes_nil (n : Int) (w : World) : Calls Tryd.prog 20 #[.pointer none, .int .i64 n] w fun e w' => e = .returned (.tuple #[.slice none 0 0, .bool false]) ∧ ∃ k, w' = w.drewN k := by
  go_enter Tryd.func20, Tryd.ntmps20
  go_wp2_with fail
  go_quiet (fail)
  go_wp2_with fail
  go_ret2
  exact ⟨rfl, _, rfl⟩
theorem at_any (F : Nat → Prop) (w : World) (g : Nat) (l : List Int) (p : Nat) (h : BitsAt F w g l p) (hl : l.length ≤ 1000000) : Calls Tryd.prog 11 #[.pointer (some ⟨g, 0, none⟩)] w fun e w' => e = .returned (.int .i64 (((p + 7) / 8 : Nat) : Int)) ∧ w = w' := by
  obtain ⟨h1, h2, A, n, cap, h3, h4⟩ := h
  have c1 := cell_of_row w g 1 _ _ (0, 0) h3
  simp at c1
  clear h3 h4 h1
  have e : ((p : Int) + 7) / 8 = (((p + 7) / 8 : Nat) : Int) := by omega
  rw [← e]
  clear e
  go_enter Tryd.func11, Tryd.ntmps11
  go_wp2_with fail
  go_ret
  exact ⟨rfl, rfl⟩

end Go.Proofs.YtifkldllhbcmkaaDoor
