/- The walk of the law on registers that aren't there. -/
import Derived.Test.YteffjidbcdnbhaaDoorRegLives
import Derived.Test.YteffjidbcdnbhaaDoorRegEx
namespace Go.Proofs.YteffjidbcdnbhaaDoor
open Go.RowKit

attribute [local simp ↓ high] build_as
attribute [local simp] run_regBuild

set_option maxRecDepth 100000 in
set_option maxHeartbeats 800000 in
theorem nils_walk (k i n : Int) (w : World) (ht : Tab w) : Calls Tryd.prog 7 #[.int .i64 k, .int .i64 i, .int .u16 n] w fun e w' => e = .returned (.bool true) ∧ Below w.heap.size w w' := by
  have hz : RegAt (w.alloc (.cells #[.int .u8 0, .int .u8 0, .int .u8 0, .int .u8 0, .int .u8 0, .int .u8 0, .int .u8 0, .int .u8 0, .int .u8 0, .int .u8 0, .int .u8 0, .int .u8 0, .int .u8 0, .int .u8 0, .int .u8 0, .int .u8 0, .int .u8 0, .int .u8 0, .int .u8 0, .int .u16 0, .int .u16 0, .int .u16 0, .int .u16 0, .int .u16 0, .bool false, .bool false, .bool false, .bool false, .int .u8 0, .int .u8 0] 24)) w.heap.size Rg.zero ∧ Below w.heap.size w (w.alloc (.cells #[.int .u8 0, .int .u8 0, .int .u8 0, .int .u8 0, .int .u8 0, .int .u8 0, .int .u8 0, .int .u8 0, .int .u8 0, .int .u8 0, .int .u8 0, .int .u8 0, .int .u8 0, .int .u8 0, .int .u8 0, .int .u8 0, .int .u8 0, .int .u8 0, .int .u8 0, .int .u16 0, .int .u16 0, .int .u16 0, .int .u16 0, .int .u16 0, .bool false, .bool false, .bool false, .bool false, .int .u8 0, .int .u8 0] 24)) := by
    have := RegAt.new w Rg.zero 24
    rw [zero_arr] at this
    exact ⟨this, (Below.refl _ _).alloc (Nat.le_refl _) _⟩
  have H := Lib.hid ht
  have HZ := Lib.hid hz
  clear ht hz
  go_enter Tryd.func7, Tryd.ntmps7
  go_wp2_with (fail)
  have k := HZ.out
  clear HZ
  generalize w.alloc (.cells #[.int .u8 0, .int .u8 0, .int .u8 0, .int .u8 0, .int .u8 0, .int .u8 0, .int .u8 0, .int .u8 0, .int .u8 0, .int .u8 0, .int .u8 0, .int .u8 0, .int .u8 0, .int .u8 0, .int .u8 0, .int .u8 0, .int .u8 0, .int .u8 0, .int .u8 0, .int .u16 0, .int .u16 0, .int .u16 0, .int .u16 0, .int .u16 0, .bool false, .bool false, .bool false, .bool false, .int .u8 0, .int .u8 0] 24) = w1 at k ⊢
  have hst := run_storeRegs k.1 Rg.zero
  rw [hst]
  have b2 := k.2.trans ((Wrote.setCells w.heap.size Rg.zero.cells 0 w1).below (Nat.le_refl _))
  generalize w1.setCells w.heap.size 0 Rg.zero.cells = w2 at b2 ⊢
  have HL := Lib.hid (lives_any w2 (H.out.below b2))
  have HB := Lib.hid b2
  clear k b2 hst
  go_wp2_with fail
  refine (putByte_nil _ _ _ _).mono ?_
  rintro e w' ⟨rfl, rfl⟩
  go_wp2_with fail
  refine (putPair_nil _ _ _ _).mono ?_
  rintro e w' ⟨rfl, rfl⟩
  go_wp2_with fail
  refine (putAf_nil _ _).mono ?_
  rintro e w' ⟨rfl, rfl⟩
  go_wp2_with fail
  refine (exAf_nil _).mono ?_
  rintro e w' ⟨rfl, rfl⟩
  go_wp2_with fail
  refine (exx_nil _).mono ?_
  rintro e w' ⟨rfl, rfl⟩
  go_wp2_with fail
  refine (exDe_nil _).mono ?_
  rintro e w' ⟨rfl, rfl⟩
  go_wp2_with fail
  refine (tick_nil _).mono ?_
  rintro e w' ⟨rfl, rfl⟩
  go_wp2_with fail
  refine (byte_nil _ _ _).mono ?_
  rintro e w' ⟨rfl, rfl⟩
  go_wp2_with fail
  refine (pair_nil _ _ _).mono ?_
  rintro e w' ⟨rfl, rfl⟩
  go_wp2_with fail
  refine (af_nil _).mono ?_
  rintro e w' ⟨rfl, rfl⟩
  go_wp2_with fail
  refine (ir_nil _).mono ?_
  rintro e w' ⟨rfl, rfl⟩
  go_wp2_with fail
  refine (show_nil _).mono ?_
  rintro e w' ⟨rfl, rfl⟩
  go_wp2_with fail
  refine (same_nil _).mono ?_
  rintro e w' ⟨rfl, rfl⟩
  go_wp2_with fail
  refine (same_one _ _).mono ?_
  rintro e w' ⟨rfl, rfl⟩
  go_wp2_with fail
  refine (HL.out).mono ?_
  rintro e w3 ⟨rfl, hb3⟩
  have B := Lib.hid (below_step HB.out hb3)
  clear hb3 HB
  go_wp2_with fail
  go_ret
  exact ⟨rfl, B.out⟩

end Go.Proofs.YteffjidbcdnbhaaDoor
