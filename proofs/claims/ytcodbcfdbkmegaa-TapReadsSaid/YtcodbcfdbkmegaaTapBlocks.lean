/- tap's blocks and Parse: their contracts. -/
import Derived.Test.YtcodbcfdbkmegaaTapRows
import Derived.Test.YtcodbcfdbkmegaaWireTake
import Derived.Test.YtcodbcfdbkmegaaWireNumber
import Derived.Test.YtcodbcfdbkmegaaWireEnd
import Derived.Deep.LoopGhost
namespace Go.Proofs.Ytcodbcfdbkmegaa
open Go.RowKit
set_option linter.unusedVariables false
set_option linter.unusedSimpArgs false

/-- How far a reader of blocks has come: R is what comes of it. -/
structure Blk (F : Nat → Prop) (w wr : World) (g : Nat) (l : List Int) (R : Except (Int × Nat) (List (List Int))) (A : Option Addr) (n cap : Nat) (L : List (List Int)) (p : Nat) : Prop where
  row : Rows8 (fun k => w.heap.size ≤ k) w.heap.size wr A n cap L
  rd : RdAt F wr g l p 0 0
  ch : Ch (fun k => k = g) w wr
  lg : L.length ≤ 4096
  is : pre L (tapR l p L.length) = R
def BlkBad (F : Nat → Prop) (w wr : World) (g : Nat) (l : List Int) (R : Except (Int × Nat) (List (List Int))) : Prop := ∃ (p : Nat) (e : Int) (f : Nat), e ≠ 0 ∧ R = .error (e, f) ∧ RdAt F wr g l p e f ∧ Ch (fun k => k = g) w wr
def BlkAt (F : Nat → Prop) (w wr : World) (g : Nat) (l : List Int) (R : Except (Int × Nat) (List (List Int))) (A : Option Addr) (n cap : Nat) (m : Nat) : Prop := (∃ L p, m = l.length - p + 1 ∧ Blk F w wr g l R A n cap L p) ∨ (m = 0 ∧ BlkBad F w wr g l R)
def BlkOk (F : Nat → Prop) (w wr : World) (g : Nat) (l : List Int) (R : Except (Int × Nat) (List (List Int))) (A : Option Addr) (n cap : Nat) : Prop := ∃ L, R = .ok L ∧ Parts (fun k => w.heap.size ≤ k) wr A n cap L ∧ RdAt F wr g l l.length 0 0 ∧ Ch (fun k => k = g) w wr
def BlkE (F : Nat → Prop) (w : World) (g : Nat) (l : List Int) (R : Except (Int × Nat) (List (List Int))) (x : Ending) (w' : World) : Prop := ∃ A n cap, x = .returned (.slice A n cap) ∧ (BlkOk F w w' g l R A n cap ∨ BlkBad F w w' g l R)
set_option maxHeartbeats 4000000 in
set_option maxRecDepth 100000 in
theorem blocks_any (F : Nat → Prop) (w : World) (g : Nat) (l : List Int) (h : RdAt F w g l 0 0 0) (hF : ∀ k, F k → k < w.heap.size) (hl : l.length ≤ 1000000) (hb8 : Byte8 l) (R : Except (Int × Nat) (List (List Int))) (hR : tapR l 0 0 = R) :
    Calls Try.prog 21 #[.pointer (some ⟨g, 0, none⟩)] w (BlkE F w g l R) := by
  have HF := Lib.hid (fun (k : Nat) (e : k = g ∨ F k) => show k < w.heap.size from e.elim (fun e => by rw [e]; exact h.lt) (hF k))
  have HS : Hid (BlkAt F w w g l R none 0 0 (l.length + 1)) := Lib.hid (Or.inl ⟨[], 0, rfl, Rows8.nil _ _ _ (Nat.le_refl _), h, Ch.refl _ _, by simp, by rw [pre_nil]; exact hR⟩)
  have H8 := Lib.hid hb8
  clear h hF hR hb8
  go_enter Try.func21, Try.ntmps21
  go_wp2_with fail
  go_loopg [3] (l.length + 1) (fun m v wr => ∃ A n cap, v = .slice A n cap ∧ Hid (BlkAt F w wr g l R A n cap m))
  case atStart => exact ⟨none, 0, 0, rfl, HS⟩
  case round =>
    obtain ⟨A, n, cap, rfl, HA⟩ := hrel
    rcases HA.out with ⟨L, p, hm, hB⟩ | ⟨hm, hB⟩
    · have HB := Lib.hid hB
      have hp := hB.rd.fit
      have hn : n ≤ 4096 := by have := hB.row.len; have := hB.lg; omega
      have hcap := hB.row.fit
      have hmax := hB.row.max
      unfold maxLen at hmax
      have HLn := Lib.hid hB.row.len
      have HLi := Lib.hid hB.is
      have HM := Lib.hid hm
      clear hB HA hm
      obtain ⟨D, hD⟩ : ∃ D, l.length - p = D := ⟨_, rfl⟩
      have HL := Lib.hid (left_any F wr g l p 0 HB.out.rd D hD hl)
      by_cases hend : p < l.length
      · have d1 : decide ((0 : Int) < (D : Int)) = true := decide_eq_true (by omega)
        have d1' : decide (0 < D) = true := decide_eq_true (by omega)
        go_wp2_with fail
        refine HL.out.mono ?_
        rintro e w1 ⟨rfl, k1, rfl⟩
        have HB1 : Hid (Blk F w (wr.drewN k1) g l R A n cap L p) := Lib.hid ⟨HB.out.row.below (bdrawn (Below.refl _ _) k1), HB.out.rd.drew k1, HB.out.ch.less (bdrawn (Below.refl _ _) k1), HB.out.lg, HB.out.is⟩
        clear HB HL
        generalize wr.drewN k1 = w1 at *
        by_cases hmany : n = 4096
        · subst hmany
          have HN := Lib.hid (fail_new F w1 g l p 0 HB1.out.rd 8 (p : Nat) (by decide))
          have HA := Lib.hid (at_any F w1 g l p 0 0 HB1.out.rd)
          go_wp2_with fail
          refine HA.out.mono ?_
          rintro e w2 ⟨rfl, rfl⟩
          go_wp2_with fail
          refine HN.out.mono ?_
          rintro e w2 ⟨rfl, hr, hc⟩
          have HE : Hid (BlkE F w g l R (.returned (.slice none 0 0)) w2) := Lib.hid ⟨none, 0, 0, rfl, Or.inr ⟨p, 8, p, by decide, by rw [← HLi.out, HLn.out, tap_many l p hend]; rfl, hr, HB1.out.ch.then hc⟩⟩
          clear hr hc
          go_wp2_with fail
          go_ret
          exact HE.out
        · have d2 : decide ((n : Int) = 4096) = false := decide_eq_false (by omega)
          have d2' : ((n : Int) == 4096) = false := by rw [beq_eq_false_iff_ne]; omega
          have hk : L.length ≠ 4096 := by rw [HLn.out]; exact hmany
          by_cases h2 : l.length < p + 2
          · have HN := Lib.hid (read_no F w1 g l p 0 HB1.out.rd hl 2 (by decide) (by decide) (by omega))
            have HC : Hid (R = .error (2, p)) := Lib.hid (by rw [← HLi.out, tap_cut l p _ hend hk h2]; rfl)
            go_wp2_with fail
            refine HN.out.mono ?_
            rintro e w2 ⟨rfl, hr, hc⟩
            have HK := Lib.hid (take_bad F w2 g l p 2 (p : Nat) hr (by decide))
            have HX : Hid (Rows8 (fun k => w.heap.size ≤ k) w.heap.size w2 A n cap L) := Lib.hid (HB1.out.row.ch hc fun k hk e => by subst e; have := HF.out k (Or.inl rfl); omega)
            have HH := Lib.hid (HB1.out.ch.then hc)
            clear hr hc
            go_wp2_with fail
            refine HK.out.mono ?_
            rintro e w3 ⟨A3, c3, rfl, hb3, hr3, hc3⟩
            have hsz := HH.out.size
            have HO := Lib.hid (fun k (hk : (Value.slice A n cap).ownBlock = some k) (hf : w2.heap.size ≤ k) => show False by have := HX.out.blk k hk; omega)
            have HX3 : Hid (Rows8 (fun k => w.heap.size ≤ k) w.heap.size w3 A n cap L) := Lib.hid (HX.out.ch hc3 fun k hk e => by subst e; have := HF.out k (Or.inl rfl); omega)
            have HG3 : Hid (BAt8 (fun k => w2.heap.size ≤ k) w3 A3 0 c3 ([])) := Lib.hid hb3
            have HR3 := Lib.hid hr3
            have HH3 := Lib.hid (HH.out.then hc3)
            have HZ : Hid (∀ k, k < w3.heap.size → w2.heap.size ≤ k → w.heap.size ≤ k ∧ (Value.slice A n cap).ownBlock ≠ some k) := Lib.hid (fun k _ hf => ⟨Nat.le_trans hsz hf, fun e => HO.out k e hf⟩)
            have hcb := hb3.fit
            have hmb := hb3.max
            unfold maxLen at hmb
            clear hb3 hr3 hc3 HK HX HH hsz HO
            go_wp2_with (at_builtin; refine wpList_append_rows 24 infoB24 Try.underlying24 rfl _ _ rfl A n cap L rfl HX3.out A3 0 c3 ([]) HG3.out HZ.out _ rfl rfl (by omega) ?_; intro g4 c4 w4 hx4 hb4; have hf4 := hx4.fit; have hm4 := hx4.max; unfold maxLen at hm4; have HX4 := Lib.hid hx4; have HB4 := Lib.hid hb4; clear hx4 hb4)
            have HE : Hid (BlkAt F w w4 g l R (some ⟨g4, 0, none⟩) (n + 1) c4 0) := Lib.hid (Or.inr ⟨rfl, p, 2, p, by decide, HC.out, HR3.out.base HB4.out HF.out, HH3.out.less HB4.out⟩)
            go_roundg 0
            case measure => have := HM.out; omega
            case rel => exact ⟨_, _, _, rfl, HE⟩
          · have h2' : p + 2 ≤ l.length := by omega
            obtain ⟨V, hV⟩ : ∃ V, leV ((l.drop p).take 2) = V := ⟨_, rfl⟩
            have hvb := leV_bd ((l.drop p).take 2) ((H8.out.drop p).take 2) 2 (by simp; omega)
            rw [List.take_take, Nat.min_self, hV] at hvb
            obtain ⟨v0, v1⟩ := hvb
            have v1' : V < 65536 := v1
            obtain ⟨N, hN⟩ : ∃ N : Nat, V = N := ⟨V.toNat, by omega⟩
            subst hN
            have HV : Hid ((leV ((l.drop p).take 2)).toNat = N) := Lib.hid (by rw [hV]; exact Int.toNat_natCast _)
            have HN := Lib.hid (read_yes F w1 g l p 0 HB1.out.rd hl 2 2 rfl (by decide) (by decide) (by omega) N hV)
            clear v0 v1 hV
            by_cases h3 : l.length < p + 2 + N
            · have HC : Hid (R = .error (2, p + 2)) := Lib.hid (by rw [← HLi.out, tap_short l p _ N hend hk h2' HV.out h3]; rfl)
              go_wp2_with fail
              refine HN.out.mono ?_
              rintro e w2 ⟨rfl, hr, hc⟩
              have HK := Lib.hid (take_no F w2 g l (p + 2) 0 hr hl N (by omega))
              have HX : Hid (Rows8 (fun k => w.heap.size ≤ k) w.heap.size w2 A n cap L) := Lib.hid (HB1.out.row.ch hc fun k hk e => by subst e; have := HF.out k (Or.inl rfl); omega)
              have HH := Lib.hid (HB1.out.ch.then hc)
              clear hr hc
              go_wp2_with fail
              refine HK.out.mono ?_
              rintro e w3 ⟨A3, c3, rfl, hb3, hr3, hc3⟩
              have hsz := HH.out.size
              have HO := Lib.hid (fun k (hk : (Value.slice A n cap).ownBlock = some k) (hf : w2.heap.size ≤ k) => show False by have := HX.out.blk k hk; omega)
              have HX3 : Hid (Rows8 (fun k => w.heap.size ≤ k) w.heap.size w3 A n cap L) := Lib.hid (HX.out.ch hc3 fun k hk e => by subst e; have := HF.out k (Or.inl rfl); omega)
              have HG3 : Hid (BAt8 (fun k => w2.heap.size ≤ k) w3 A3 0 c3 ([])) := Lib.hid hb3
              have HR3 := Lib.hid hr3
              have HH3 := Lib.hid (HH.out.then hc3)
              have HZ : Hid (∀ k, k < w3.heap.size → w2.heap.size ≤ k → w.heap.size ≤ k ∧ (Value.slice A n cap).ownBlock ≠ some k) := Lib.hid (fun k _ hf => ⟨Nat.le_trans hsz hf, fun e => HO.out k e hf⟩)
              have hcb := hb3.fit
              have hmb := hb3.max
              unfold maxLen at hmb
              clear hb3 hr3 hc3 HK HX HH hsz HO
              go_wp2_with (at_builtin; refine wpList_append_rows 24 infoB24 Try.underlying24 rfl _ _ rfl A n cap L rfl HX3.out A3 0 c3 ([]) HG3.out HZ.out _ rfl rfl (by omega) ?_; intro g4 c4 w4 hx4 hb4; have hf4 := hx4.fit; have hm4 := hx4.max; unfold maxLen at hm4; have HX4 := Lib.hid hx4; have HB4 := Lib.hid hb4; clear hx4 hb4)
              have HE : Hid (BlkAt F w w4 g l R (some ⟨g4, 0, none⟩) (n + 1) c4 0) := Lib.hid (Or.inr ⟨rfl, p + 2, 2, p + 2, by decide, HC.out, HR3.out.base HB4.out HF.out, HH3.out.less HB4.out⟩)
              go_roundg 0
              case measure => have := HM.out; omega
              case rel => exact ⟨_, _, _, rfl, HE⟩
            · have h3' : p + 2 + N ≤ l.length := by omega
              have HC : Hid (pre (L ++ [(l.drop (p + 2)).take N]) (tapR l (p + 2 + N) (L ++ [(l.drop (p + 2)).take N]).length) = R) := Lib.hid (by rw [← HLi.out, tap_on l p _ N hend hk h2' HV.out h3', pre_cons]; simp)
              go_wp2_with fail
              refine HN.out.mono ?_
              rintro e w2 ⟨rfl, hr, hc⟩
              have HK := Lib.hid (take_yes F w2 g l (p + 2) 0 hr hl N N rfl h3')
              have HX : Hid (Rows8 (fun k => w.heap.size ≤ k) w.heap.size w2 A n cap L) := Lib.hid (HB1.out.row.ch hc fun k hk e => by subst e; have := HF.out k (Or.inl rfl); omega)
              have HH := Lib.hid (HB1.out.ch.then hc)
              clear hr hc
              go_wp2_with fail
              refine HK.out.mono ?_
              rintro e w3 ⟨A3, c3, rfl, hb3, hr3, hc3⟩
              have hsz := HH.out.size
              have HO := Lib.hid (fun k (hk : (Value.slice A n cap).ownBlock = some k) (hf : w2.heap.size ≤ k) => show False by have := HX.out.blk k hk; omega)
              have HX3 : Hid (Rows8 (fun k => w.heap.size ≤ k) w.heap.size w3 A n cap L) := Lib.hid (HX.out.ch hc3 fun k hk e => by subst e; have := HF.out k (Or.inl rfl); omega)
              have HG3 : Hid (BAt8 (fun k => w2.heap.size ≤ k) w3 A3 N c3 ((l.drop (p + 2)).take N)) := Lib.hid hb3
              have HR3 := Lib.hid hr3
              have HH3 := Lib.hid (HH.out.then hc3)
              have HZ : Hid (∀ k, k < w3.heap.size → w2.heap.size ≤ k → w.heap.size ≤ k ∧ (Value.slice A n cap).ownBlock ≠ some k) := Lib.hid (fun k _ hf => ⟨Nat.le_trans hsz hf, fun e => HO.out k e hf⟩)
              have hcb := hb3.fit
              have hmb := hb3.max
              unfold maxLen at hmb
              clear hb3 hr3 hc3 HK HX HH hsz HO
              go_wp2_with (at_builtin; refine wpList_append_rows 24 infoB24 Try.underlying24 rfl _ _ rfl A n cap L rfl HX3.out A3 N c3 ((l.drop (p + 2)).take N) HG3.out HZ.out _ rfl rfl (by omega) ?_; intro g4 c4 w4 hx4 hb4; have hf4 := hx4.fit; have hm4 := hx4.max; unfold maxLen at hm4; have HX4 := Lib.hid hx4; have HB4 := Lib.hid hb4; clear hx4 hb4)
              have HE : Hid (BlkAt F w w4 g l R (some ⟨g4, 0, none⟩) (n + 1) c4 (l.length - (p + 2 + N) + 1)) := Lib.hid (Or.inl ⟨_, p + 2 + N, rfl, HX4.out, HR3.out.base HB4.out HF.out, HH3.out.less HB4.out, by rw [List.length_append, HLn.out]; simp; omega, HC.out⟩)
              go_roundg (l.length - (p + 2 + N) + 1)
              case measure => have := HM.out; omega
              case rel => exact ⟨_, _, _, rfl, HE⟩
      · have hp2 : p = l.length := by omega
        have HE0 : Hid (R = .ok L) := Lib.hid (by rw [← HLi.out, tap_end l p _ (by omega), pre_ok, List.append_nil])
        have hD0 : D = 0 := by omega
        subst hD0
        go_wp2_with fail
        refine HL.out.mono ?_
        rintro e w1 ⟨rfl, k1, rfl⟩
        have HE : Hid (BlkE F w g l R (.returned (.slice A n cap)) (wr.drewN k1)) := Lib.hid ⟨A, n, cap, rfl, Or.inl ⟨L, HE0.out, ((HB.out.row.below (bdrawn (Below.refl _ _) k1)).parts.weak fun k _ hk => hk.elim id id), by rw [← hp2]; exact HB.out.rd.drew k1, HB.out.ch.less (bdrawn (Below.refl _ _) k1)⟩⟩
        go_wp2_with fail
        go_ret
        exact HE.out
    · obtain ⟨p, e, f, he, hRe, hr, hc⟩ := hB
      have HL := Lib.hid (left_bad F wr g l p e f hr he)
      have HE : Hid (∀ k1, BlkE F w g l R (.returned (.slice A n cap)) (wr.drewN k1)) := Lib.hid (fun k1 => ⟨A, n, cap, rfl, Or.inr ⟨p, e, f, he, hRe, hr.drew k1, hc.less (bdrawn (Below.refl _ _) k1)⟩⟩)
      clear hr hc hRe he HA hm
      go_wp2_with fail
      refine HL.out.mono ?_
      rintro x w1 ⟨rfl, k1, rfl⟩
      go_wp2_with fail
      go_ret
      exact HE.out k1

end Go.Proofs.Ytcodbcfdbkmegaa
