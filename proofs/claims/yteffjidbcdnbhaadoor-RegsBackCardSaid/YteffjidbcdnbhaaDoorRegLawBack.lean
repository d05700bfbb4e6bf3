/- The walk of the law on what was put, on exchanges and on ticks. -/
import Derived.Test.YteffjidbcdnbhaaDoorRegBackMath
import Derived.Deep.QuietTactic
import Derived.BigQuiet
import Derived.LoopTactic
namespace Go.Proofs.YteffjidbcdnbhaaDoor
open Go.RowKit

attribute [local simp ↓ high] load_as eql_as
attribute [local simp] run_regEql regs_guard eqR_self

set_option maxRecDepth 100000 in
set_option maxHeartbeats 4000000 in
theorem back_walk (x : Rg) (k i v : Int) (ok : x.Ok) (hv : (Lit.int .u8 v).wf = true) (w : World) (ht : Tab w) : Calls Tryd.prog 6 #[.agg x.cells.toArray, .agg #[.int .i64 k, .int .i64 i], .int .u8 v] w fun e w' => e = .returned (.bool true) ∧ Below w.heap.size w w' := by
  obtain ⟨v0, v1⟩ := u8_bd hv
  have K := Lib.hid (boxed_two w x k i 24 25)
  have H := Lib.hid ht
  have OK := Lib.hid ok
  clear ht ok hv
  go_enter Tryd.func6, Tryd.ntmps6
  go_upto_region 1 with (fail)
  have k0 := K.out
  clear K
  generalize (w.alloc (.cells x.cells.toArray 24)).alloc (.cells #[.int .i64 k, .int .i64 i] 25) = w1 at k0 ⊢
  have ha := k0.1.at'
  have hl := fun u => run_regLoad u w.heap.size x
  have K0 := Lib.hid k0
  clear k0
  go_wp2_with (fail)
  clear ha
  have z := @made w1
  generalize w1.alloc (.cells #[.int .u8 0, .int .u8 0, .int .u8 0, .int .u8 0, .int .u8 0, .int .u8 0, .int .u8 0, .int .u8 0, .int .u8 0, .int .u8 0, .int .u8 0, .int .u8 0, .int .u8 0, .int .u8 0, .int .u8 0, .int .u8 0, .int .u8 0, .int .u8 0, .int .u8 0, .int .u16 0, .int .u16 0, .int .u16 0, .int .u16 0, .int .u16 0, .bool false, .bool false, .bool false, .bool false, .int .u8 0, .int .u8 0] 24) = w2 at z ⊢
  rw [run_storeRegs z.1 x]
  have g := filled z x
  clear z
  generalize w2.setCells w1.heap.size 0 x.cells = w3 at g ⊢
  have hlt := K0.out.1.lt
  have hl2 := K0.out.2.1.1
  have K3 := Lib.hid (show RegAt w3 w.heap.size x ∧ RegAt w3 w1.heap.size x ∧ NumAt w3 (w.heap.size + 1) k i ∧ Below w.heap.size w w3 from ⟨K0.out.1.below g.2, g.1, K0.out.2.1.below g.2, below_step K0.out.2.2 g.2⟩)
  have n0 := K3.out.2.2.1.2.1
  have n1 := K3.out.2.2.1.2.2
  clear g K0
  go_wp2_with (fail)
  refine (putByte_any w1.heap.size x k i v _ K3.out.2.1 OK.out v0 v1).mono ?_
  intro e w4 hP
  obtain ⟨rfl, hw, hr⟩ := hP
  have s4 : LawS w w.heap.size (w.heap.size + 1) w1.heap.size x (putV x k i v) k i w4 := ⟨K3.out.1.wrote hw (by omega), hr, K3.out.2.2.1.wrote hw (by omega), H.out.below (K3.out.2.2.2.trans (hw.below (by omega))), K3.out.2.2.2.trans (hw.below (by omega))⟩
  have S4 := Lib.hid s4
  clear hw hr n0 n1 K3 s4
  go_wp2_with (fail)
  go_loopw [8] (fun q wr => ∃ j : Nat, j ≤ 8 ∧ q = .int .i64 j ∧ Hid (LawS w w.heap.size (w.heap.size + 1) w1.heap.size x (putV x k i v) k i wr)) (fun q _ => 8 - (intOf q).toNat)
  case atStart => exact ⟨0, by omega, rfl, S4⟩
  case round =>
    obtain ⟨j, hj, rfl, hs⟩ := hrel
    by_cases hlt8 : j < 8
    · have m0 := hs.out.2.2.1.2.1
      have m1 := hs.out.2.2.1.2.2
      by_cases hjk : (j : Int) = k
      · subst hjk
        by_cases h6 : j = 6
        · subst h6
          go_wp2_with (fail)
          go_quiet ((fail))
          have e : Hid (LawS w w.heap.size (w.heap.size + 1) w1.heap.size x (putV x ((6 : Nat) : Int) i v) ((6 : Nat) : Int) i (wr.drewN nq)) := Lib.hid (hs.out.below (below_drewN2 _ _ _))
          clear m0 m1
          go_wp2_with (fail)
          go_roundw
          case rel => exact ⟨7, by omega, by go_num, e⟩
          case measure => simp [intOf]
        · have HX := Lib.hid (fun q => by
            have := byte_any w1.heap.size (putV x (j : Int) i v) (j : Int) i (wr.drewN q) (hs.out.2.1.block rfl hs.out.2.1.lt) (putV_ok x (j : Int) i v OK.out ⟨v0, v1⟩)
            rw [byte_own x (j : Int) i v OK.out ⟨v0, v1⟩ (by omega) (by omega) (by omega)] at this
            exact this)
          have n6 : ((j : Int) == 6) = false := by simp; omega
          have n6' : ((j : Int) != 6) = true := by simp; omega
          go_wp2_with (fail)
          go_quiet (((go_at_call 10; with_reducible exact quiet_eq (HX.out _))))
          have e : Hid (LawS w w.heap.size (w.heap.size + 1) w1.heap.size x (putV x (j : Int) i v) (j : Int) i (wr.drewN nq)) := Lib.hid (hs.out.below (below_drewN2 _ _ _))
          clear m0 m1
          go_wp2_with (fail)
          go_roundw
          case rel => exact ⟨j + 1, by omega, by go_num, e⟩
          case measure => simp [intOf]; omega
      · obtain ⟨b, hb⟩ : ∃ b, byteV x (j : Int) i = b := ⟨_, rfl⟩
        have HX := Lib.hid (fun q => by
          have := byte_any w1.heap.size (putV x k i v) (j : Int) i (wr.drewN q) (hs.out.2.1.block rfl hs.out.2.1.lt) (putV_ok x k i v OK.out ⟨v0, v1⟩)
          rw [byte_same x k i v (j : Int) OK.out ⟨v0, v1⟩ hjk, hb] at this
          exact this)
        have HR := Lib.hid (fun q => by
          have := byte_any w.heap.size x (j : Int) i (wr.drewN q) (hs.out.1.block rfl hs.out.1.lt) OK.out
          rw [hb] at this
          exact this)
        have nk : ((j : Int) == k) = false := by simpa using hjk
        have nk' : ((j : Int) != k) = true := by simpa using hjk
        clear hjk hb
        go_wp2_with (fail)
        go_quiet (((go_at_call 10; first | (with_reducible exact quiet_eq (HX.out _)) | (with_reducible exact quiet_eq (HR.out _)))))
        have e : Hid (LawS w w.heap.size (w.heap.size + 1) w1.heap.size x (putV x k i v) k i (wr.drewN nq)) := Lib.hid (hs.out.below (below_drewN2 _ _ _))
        clear m0 m1
        go_wp2_with (fail)
        go_roundw
        case rel => exact ⟨j + 1, by omega, by go_num, e⟩
        case measure => simp [intOf]; omega
    · obtain ⟨wo, rfl⟩ : ∃ wo : World, wo = wr := ⟨_, rfl⟩
      have sr := hs.out.1
      have bw := hs.out.2.2.2.2
      have qR := hs.out.1.lt
      clear hs
      have ha := sr.at'
      have S := Lib.hid (And.intro sr bw)
      clear sr bw
      go_wp2_with (fail)
      clear ha
      have z := @made wo
      generalize wo.alloc (.cells #[.int .u8 0, .int .u8 0, .int .u8 0, .int .u8 0, .int .u8 0, .int .u8 0, .int .u8 0, .int .u8 0, .int .u8 0, .int .u8 0, .int .u8 0, .int .u8 0, .int .u8 0, .int .u8 0, .int .u8 0, .int .u8 0, .int .u8 0, .int .u8 0, .int .u8 0, .int .u16 0, .int .u16 0, .int .u16 0, .int .u16 0, .int .u16 0, .bool false, .bool false, .bool false, .bool false, .int .u8 0, .int .u8 0] 24) = u2 at z ⊢
      rw [run_storeRegs z.1 (x)]
      have g := filled z (x)
      clear z
      generalize u2.setCells wo.heap.size 0 (Rg.cells (x)) = u3 at g ⊢
      have T := Lib.hid (show RegAt u3 w.heap.size x ∧ RegAt u3 wo.heap.size (x) ∧ Below w.heap.size w u3 from ⟨S.out.1.below g.2, g.1, below_step S.out.2 g.2⟩)
      clear S g
      have S := T
      clear T
      go_wp2_with (fail)
      refine (exAf_any wo.heap.size (x) _ S.out.2.1).mono ?_
      intro e u4 hP
      obtain ⟨rfl, hw, hr⟩ := hP
      have T := Lib.hid (show RegAt u4 w.heap.size x ∧ RegAt u4 wo.heap.size (exAf (x)) ∧ Below w.heap.size w u4 from ⟨S.out.1.wrote hw (by omega), hr, S.out.2.2.trans (hw.below (by omega))⟩)
      clear S hw hr
      have S := T
      clear T
      have ha := S.out.2.1.at'
      have hl2 := fun u => run_regLoad u wo.heap.size (exAf (x))
      have qA := S.out.2.1.lt
      go_wp2_with (fail)
      clear hl2
      clear ha
      have z := @made u4
      generalize u4.alloc (.cells #[.int .u8 0, .int .u8 0, .int .u8 0, .int .u8 0, .int .u8 0, .int .u8 0, .int .u8 0, .int .u8 0, .int .u8 0, .int .u8 0, .int .u8 0, .int .u8 0, .int .u8 0, .int .u8 0, .int .u8 0, .int .u8 0, .int .u8 0, .int .u8 0, .int .u8 0, .int .u16 0, .int .u16 0, .int .u16 0, .int .u16 0, .int .u16 0, .bool false, .bool false, .bool false, .bool false, .int .u8 0, .int .u8 0] 24) = u5 at z ⊢
      rw [run_storeRegs z.1 (exAf (x))]
      have g := filled z (exAf (x))
      clear z
      generalize u5.setCells u4.heap.size 0 (Rg.cells (exAf (x))) = u6 at g ⊢
      have T := Lib.hid (show RegAt u6 w.heap.size x ∧ RegAt u6 wo.heap.size (exAf (x)) ∧ RegAt u6 u4.heap.size (exAf (x)) ∧ Below w.heap.size w u6 from ⟨S.out.1.below g.2, S.out.2.1.below g.2, g.1, below_step S.out.2.2 g.2⟩)
      clear S g
      have S := T
      clear T
      go_wp2_with (fail)
      refine (exx_any wo.heap.size (exAf (x)) _ S.out.2.1).mono ?_
      intro e u7 hP
      obtain ⟨rfl, hw, hr⟩ := hP
      have T := Lib.hid (show RegAt u7 w.heap.size x ∧ RegAt u7 wo.heap.size (exx (exAf (x))) ∧ RegAt u7 u4.heap.size (exAf (x)) ∧ Below w.heap.size w u7 from ⟨S.out.1.wrote hw (by omega), hr, S.out.2.2.1.wrote hw (by omega), S.out.2.2.2.trans (hw.below (by omega))⟩)
      clear S hw hr
      have S := T
      clear T
      have ha := S.out.2.1.at'
      have hl2 := fun u => run_regLoad u wo.heap.size (exx (exAf (x)))
      have qB := S.out.2.1.lt
      go_wp2_with (fail)
      clear hl2
      clear ha
      have z := @made u7
      generalize u7.alloc (.cells #[.int .u8 0, .int .u8 0, .int .u8 0, .int .u8 0, .int .u8 0, .int .u8 0, .int .u8 0, .int .u8 0, .int .u8 0, .int .u8 0, .int .u8 0, .int .u8 0, .int .u8 0, .int .u8 0, .int .u8 0, .int .u8 0, .int .u8 0, .int .u8 0, .int .u8 0, .int .u16 0, .int .u16 0, .int .u16 0, .int .u16 0, .int .u16 0, .bool false, .bool false, .bool false, .bool false, .int .u8 0, .int .u8 0] 24) = u8 at z ⊢
      rw [run_storeRegs z.1 (exx (exAf (x)))]
      have g := filled z (exx (exAf (x)))
      clear z
      generalize u8.setCells u7.heap.size 0 (Rg.cells (exx (exAf (x)))) = u9 at g ⊢
      have T := Lib.hid (show RegAt u9 w.heap.size x ∧ RegAt u9 wo.heap.size (exx (exAf (x))) ∧ RegAt u9 u4.heap.size (exAf (x)) ∧ RegAt u9 u7.heap.size (exx (exAf (x))) ∧ Below w.heap.size w u9 from ⟨S.out.1.below g.2, S.out.2.1.below g.2, S.out.2.2.1.below g.2, g.1, below_step S.out.2.2.2 g.2⟩)
      clear S g
      have S := T
      clear T
      go_wp2_with (fail)
      refine (exDe_any wo.heap.size (exx (exAf (x))) _ S.out.2.1).mono ?_
      intro e u10 hP
      obtain ⟨rfl, hw, hr⟩ := hP
      have T := Lib.hid (show RegAt u10 w.heap.size x ∧ RegAt u10 wo.heap.size (exDe (exx (exAf (x)))) ∧ RegAt u10 u4.heap.size (exAf (x)) ∧ RegAt u10 u7.heap.size (exx (exAf (x))) ∧ Below w.heap.size w u10 from ⟨S.out.1.wrote hw (by omega), hr, S.out.2.2.1.wrote hw (by omega), S.out.2.2.2.1.wrote hw (by omega), S.out.2.2.2.2.trans (hw.below (by omega))⟩)
      clear S hw hr
      have S := T
      clear T
      have ha := S.out.2.1.at'
      have hl2 := fun u => run_regLoad u wo.heap.size (exDe (exx (exAf (x))))
      have qC := S.out.2.1.lt
      go_wp2_with (fail)
      clear hl2
      clear ha
      have z := @made u10
      generalize u10.alloc (.cells #[.int .u8 0, .int .u8 0, .int .u8 0, .int .u8 0, .int .u8 0, .int .u8 0, .int .u8 0, .int .u8 0, .int .u8 0, .int .u8 0, .int .u8 0, .int .u8 0, .int .u8 0, .int .u8 0, .int .u8 0, .int .u8 0, .int .u8 0, .int .u8 0, .int .u8 0, .int .u16 0, .int .u16 0, .int .u16 0, .int .u16 0, .int .u16 0, .bool false, .bool false, .bool false, .bool false, .int .u8 0, .int .u8 0] 24) = u11 at z ⊢
      rw [run_storeRegs z.1 (exDe (exx (exAf (x))))]
      have g := filled z (exDe (exx (exAf (x))))
      clear z
      generalize u11.setCells u10.heap.size 0 (Rg.cells (exDe (exx (exAf (x))))) = u12 at g ⊢
      have T := Lib.hid (show RegAt u12 w.heap.size x ∧ RegAt u12 wo.heap.size (exDe (exx (exAf (x)))) ∧ RegAt u12 u4.heap.size (exAf (x)) ∧ RegAt u12 u7.heap.size (exx (exAf (x))) ∧ RegAt u12 u10.heap.size (exDe (exx (exAf (x)))) ∧ Below w.heap.size w u12 from ⟨S.out.1.below g.2, S.out.2.1.below g.2, S.out.2.2.1.below g.2, S.out.2.2.2.1.below g.2, g.1, below_step S.out.2.2.2.2 g.2⟩)
      clear S g
      have S := T
      clear T
      go_wp2_with (fail)
      refine (exDe_any wo.heap.size (exDe (exx (exAf (x)))) _ S.out.2.1).mono ?_
      intro e u13 hP
      obtain ⟨rfl, hw, hr⟩ := hP
      have T := Lib.hid (show RegAt u13 w.heap.size x ∧ RegAt u13 wo.heap.size (exDe (exDe (exx (exAf (x))))) ∧ RegAt u13 u4.heap.size (exAf (x)) ∧ RegAt u13 u7.heap.size (exx (exAf (x))) ∧ RegAt u13 u10.heap.size (exDe (exx (exAf (x)))) ∧ Below w.heap.size w u13 from ⟨S.out.1.wrote hw (by omega), hr, S.out.2.2.1.wrote hw (by omega), S.out.2.2.2.1.wrote hw (by omega), S.out.2.2.2.2.1.wrote hw (by omega), S.out.2.2.2.2.2.trans (hw.below (by omega))⟩)
      clear S hw hr
      have S := T
      clear T
      go_wp2_with (fail)
      refine (exx_any wo.heap.size (exDe (exDe (exx (exAf (x))))) _ S.out.2.1).mono ?_
      intro e u14 hP
      obtain ⟨rfl, hw, hr⟩ := hP
      have T := Lib.hid (show RegAt u14 w.heap.size x ∧ RegAt u14 wo.heap.size (exx (exDe (exDe (exx (exAf (x)))))) ∧ RegAt u14 u4.heap.size (exAf (x)) ∧ RegAt u14 u7.heap.size (exx (exAf (x))) ∧ RegAt u14 u10.heap.size (exDe (exx (exAf (x)))) ∧ Below w.heap.size w u14 from ⟨S.out.1.wrote hw (by omega), hr, S.out.2.2.1.wrote hw (by omega), S.out.2.2.2.1.wrote hw (by omega), S.out.2.2.2.2.1.wrote hw (by omega), S.out.2.2.2.2.2.trans (hw.below (by omega))⟩)
      clear S hw hr
      have S := T
      clear T
      go_wp2_with (fail)
      refine (exAf_any wo.heap.size (exx (exDe (exDe (exx (exAf (x)))))) _ S.out.2.1).mono ?_
      intro e u15 hP
      obtain ⟨rfl, hw, hr⟩ := hP
      have T := Lib.hid (show RegAt u15 w.heap.size x ∧ RegAt u15 wo.heap.size (exAf (exx (exDe (exDe (exx (exAf (x))))))) ∧ RegAt u15 u4.heap.size (exAf (x)) ∧ RegAt u15 u7.heap.size (exx (exAf (x))) ∧ RegAt u15 u10.heap.size (exDe (exx (exAf (x)))) ∧ Below w.heap.size w u15 from ⟨S.out.1.wrote hw (by omega), hr, S.out.2.2.1.wrote hw (by omega), S.out.2.2.2.1.wrote hw (by omega), S.out.2.2.2.2.1.wrote hw (by omega), S.out.2.2.2.2.2.trans (hw.below (by omega))⟩)
      clear S hw hr
      have S := T
      clear T
      have T := Lib.hid (show BackS w w.heap.size wo.heap.size u4.heap.size u7.heap.size u10.heap.size x (tkR 0 x) u15 from by
        have e : exAf (exx (exDe (exDe (exx (exAf (x)))))) = tkR 0 x := ex_all x
        have := S.out
        rw [e] at this
        exact this)
      clear S
      go_wp2_with (fail)
      go_loopw [13] (fun q wt => ∃ m : Nat, m ≤ 128 ∧ q = .int .i64 m ∧ Hid (BackS w w.heap.size wo.heap.size u4.heap.size u7.heap.size u10.heap.size x (tkR m x) wt)) (fun q _ => 128 - (intOf q).toNat)
      case atStart => exact ⟨0, by omega, rfl, T⟩
      case round =>
        obtain ⟨m, hm, rfl, ht⟩ := hrel
        by_cases hlt9 : m < 128
        · go_wp2_with (fail)
          refine (tick_step wo.heap.size m x _ ht.out.2.1 OK.out.r).mono ?_
          intro e wn hP
          obtain ⟨rfl, hw, hr⟩ := hP
          have e : Hid (BackS w w.heap.size wo.heap.size u4.heap.size u7.heap.size u10.heap.size x (tkR (m + 1) x) wn) := Lib.hid ⟨ht.out.1.wrote hw (by omega), hr, ht.out.2.2.1.wrote hw (by omega), ht.out.2.2.2.1.wrote hw (by omega), ht.out.2.2.2.2.1.wrote hw (by omega), ht.out.2.2.2.2.2.trans (hw.below (by omega))⟩
          clear hw hr
          go_wp2_with (fail)
          go_roundw
          case rel => exact ⟨m + 1, by omega, by go_num, e⟩
          case measure => simp [intOf]; omega
        · have em : m = 128 := by omega
          subst em
          have ey : tkR 128 x = x := tkR_all x OK.out.r
          have hu := ht.out
          rw [ey] at hu
          have hy := hu.2.1.at'
          have hx := hu.1.at'
          have hl2 := fun u => run_regLoad u wo.heap.size x
          have r8 := hu.1.cell 8 _ rfl
          have r1 := hu.1.cell 1 _ rfl
          have r10 := hu.1.cell 10 _ rfl
          have r7 := hu.1.cell 7 _ rfl
          have a0 := hu.2.2.1.cell 0 _ rfl
          have a9 := hu.2.2.1.cell 9 _ rfl
          have b2 := hu.2.2.2.1.cell 2 _ rfl
          have b15 := hu.2.2.2.1.cell 15 _ rfl
          have b4 := hu.2.2.2.1.cell 4 _ rfl
          have b7 := hu.2.2.2.1.cell 7 _ rfl
          have c6 := hu.2.2.2.2.1.cell 6 _ rfl
          have c5 := hu.2.2.2.2.1.cell 5 _ rfl
          simp only [exAf, exx, exDe] at a0 a9 b2 b15 b4 b7 c6 c5
          have HL := Lib.hid (lives_any _ (H.out.below hu.2.2.2.2.2))
          have HB := Lib.hid hu.2.2.2.2.2
          clear hu ht ey
          go_wp2_with (fail)
          refine (HL.out).mono ?_
          rintro e wz ⟨rfl, hbz⟩
          have B := Lib.hid (below_step HB.out hbz)
          clear hbz HB
          go_wp2_with fail
          go_ret
          exact ⟨rfl, B.out⟩

end Go.Proofs.YteffjidbcdnbhaaDoor
