/- slices.Clone of bytes. -/
import Derived.Test.YthlaglhlmbkniaaBytesCut
import Derived.Test.YthlaglhlmbkniaaProg
import Derived.WalkKit
import Derived.Deep.QuietTactic
import Derived.BigQuiet
import Derived.RegionTactic
import Derived.ChangeAlike
import Derived.LoopTactic
import Derived.Lib.BufferMore
import Derived.Lib.Hide
namespace Go.Proofs.Ythlaglhlmbkniaa
open Go.RowKit

theorem eql_none (u : World) : (binOp .eql 25 (.slice none 0 0) (.slice none 0 0)).run Try.prog u = .ok (.bool true) u := Lib.run_eql_slice_nil_nil u 0 0 Try.underlying25
theorem eql_some (ad : Addr) (n c : Nat) (u : World) : (binOp .eql 25 (.slice (some ad) n c) (.slice none 0 0)).run Try.prog u = .ok (.bool false) u := Lib.run_eql_slice_some_nil u ad n c Try.underlying25
def Cloned (w : World) (n : Nat) (l : List Int) (x : Ending) (w' : World) : Prop := ∃ A cap, x = .returned (.slice A n cap) ∧ BAt8 (fun k => w.heap.size ≤ k) w' A n cap l ∧ Below w.heap.size w w'
theorem clone_any (F : Nat → Prop) (A : Option Addr) (n cap : Nat) (l : List Int) (w : World) (hl : BAt8 F w A n cap l) (hn : n ≤ 1000000) :
    Calls Try.prog 32 #[.slice A n cap] w (Cloned w n l) := by
  have hf := hl.fit
  have hm := hl.max
  have hlen := hl.len
  unfold maxLen at hm
  rcases A with _ | ad
  · have hc := hl.nil rfl
    have hn0 : n = 0 := by omega
    obtain rfl : l = [] := List.eq_nil_of_length_eq_zero (by omega)
    subst hn0 hc
    have HB := Lib.hid (Below.refl w.heap.size w)
    have q := eql_none
    go_enter Try.func32, Try.ntmps32
    go_wp2_with fail
    go_ret
    exact ⟨none, 0, rfl, BAt8.empty _ _, HB.out⟩
  · have ho := World.ownsRow_lit (size := 1) (base := w.heap.size) (e := 5) w (#[] : Array Value) 0 (Nat.le_refl _) (Nat.zero_le _) rfl
    have HO := Lib.hid ho
    have HY := Lib.hid (hl.below (bnew w (.cells #[] 5)))
    have hbd := hl.bd
    have HB := Lib.hid (bnew w (.cells (#[] : Array Value) 5))
    have q := eql_some ad n cap
    clear hl ho
    go_enter Try.func32, Try.ntmps32
    go_wp2_with (first
      | (at_builtin
         refine wpList_append_u8 (P := Try.prog) w.heap.size 5 25 infoB8 Try.underlying25 rfl (.tmp 5) (.tmp 6) rfl _ _ [] rfl HO.out rfl HY.out (by omega) (by simp) ?_
         intro v' w3 hown3 hb3
         have hown : w3.ownsRow w.heap.size 5 1 v' n (l.map u8I) := by simpa using hown3
         clear hown3
         obtain ⟨A3, cap3, rfl, hn3, hm3⟩ := own_slice hown
         have HR : Hid (Cloned w n l (.returned (.slice A3 n cap3)) w3) := Lib.hid ⟨A3, cap3, rfl, bytes_own hown hbd, HB.out.trans hb3⟩
         clear hown hb3))
    go_ret
    exact HR.out

end Go.Proofs.Ythlaglhlmbkniaa
