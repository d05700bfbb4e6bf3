/- A reader's Numbers, where all are there; sameInts of two lists that are the same. -/
import Derived.Test.YthlaglhlmbkniaaWireNumber
namespace Go.Proofs.Ythlaglhlmbkniaa
open Go.RowKit
set_option linter.unusedVariables false
set_option linter.unusedSimpArgs false

theorem RdAt.ch {F G : Nat → Prop} {w w' : World} {g : Nat} {l : List Int} {p : Nat} {e f : Int} (h : RdAt F w g l p e f) (hc : Ch G w w') (hg : ¬ G g) (hF : ∀ k, F k → ¬ G k) : RdAt F w' g l p e f := by
  have hlt := h.lt
  obtain ⟨h1, h2, A, n, cap, h3, h4⟩ := h
  exact ⟨h1, h2, A, n, cap, (hc.block g hlt hg).trans h3, h4.ch hc hF⟩
theorem RdAt.place {F : Nat → Prop} {w : World} {g : Nat} {l : List Int} {p q : Nat} {e f : Int} (h : RdAt F w g l p e f) (hq : p = q) : RdAt F w g l q e f := hq ▸ h
/-- Number j of those that stand at p. -/
def numF (l : List Int) (p k j : Nat) : Int := leV ((l.drop (p + k * j)).take k)
/-- How far Numbers has come. -/
structure Nums (F : Nat → Prop) (w wr : World) (g : Nat) (l : List Int) (p k N gn j : Nat) (f : Int) : Prop where
  r : RdAt F wr g l (p + k * j) 0 f
  c : Cells wr gn 3 N (fun i => .int .i64 (if i < j then numF l p k i else 0))
  ch : Ch (fun i => i = g) w wr
  new : w.heap.size ≤ gn
theorem Nums.frozen {F : Nat → Prop} {w wr : World} {g : Nat} {l : List Int} {p k N gn j : Nat} {f : Int} (h : Nums F w wr g l p k N gn j f) (i : Nat) : wr.frozen? ⟨gn, i, none⟩ = false := h.c.frozen i
def Read (F : Nat → Prop) (w : World) (g : Nat) (l : List Int) (p k N : Nat) (f : Int) (x : Ending) (w' : World) : Prop := ∃ gn, x = .returned (.slice (some ⟨gn, 0, none⟩) N N) ∧ w.heap.size ≤ gn ∧ IAt (fun i => i = gn) w' (some ⟨gn, 0, none⟩) N N (lstF (numF l p k) N) ∧ RdAt F w' g l (p + k * N) 0 f ∧ Ch (fun i => i = g) w w'
set_option maxHeartbeats 1600000 in
theorem numbers_yes (F : Nat → Prop) (w : World) (g : Nat) (l : List Int) (p : Nat) (f : Int) (h : RdAt F w g l p 0 f) (hF : ∀ i, F i → i < w.heap.size) (hl : l.length ≤ 1000000) (N k : Nat) (h1 : 1 ≤ k) (h4 : k ≤ 4) (hN : p + k * N ≤ l.length) : Calls Try.prog 45 #[.pointer (some ⟨g, 0, none⟩), .int .i64 (N : Nat), .int .i64 (k : Nat)] w (Read F w g l p k N f) := by
  obtain ⟨L, hL⟩ : ∃ L, l.length - p = L := ⟨_, rfl⟩
  have H1 := Lib.hid (left_any F w g l p f h L hL hl)
  have H := Lib.hid (fun n => h.drew n)
  have HLT := Lib.hid h.lt
  have HF := Lib.hid hF
  have HN := Lib.hid hN
  have HM := Lib.hid (mayBe_any (k : Nat) true (by rw [Bool.and_eq_true]; exact ⟨decide_eq_true (by omega), decide_eq_true (by omega)⟩))
  obtain ⟨Q, hQ⟩ : ∃ Q, L / k = Q := ⟨_, rfl⟩
  have hNQ : N ≤ Q := by rw [← hQ]; exact (Nat.le_div_iff_mul_le (by omega)).2 (by rw [Nat.mul_comm]; omega)
  have hQL : Q ≤ L := by rw [← hQ]; exact Nat.div_le_self _ _
  have hQi : (L : Int) / (k : Int) = (Q : Int) := by rw [← hQ]; simp
  have hQw : wrap64 (Q : Int) = (Q : Int) := IntWalk.wrap64_in _ (by omega)
  have d1 : decide ((0 : Int) < (k : Int)) = true := decide_eq_true (by omega)
  have d1' : decide (0 < k) = true := decide_eq_true (by omega)
  have d2 : decide ((Q : Int) < (N : Int)) = false := decide_eq_false (by omega)
  have d2' : decide (Q < N) = false := decide_eq_false (by omega)
  have d3 : decide ((N : Int) < 0) = false := decide_eq_false (by omega)
  have d4 : ((k : Int) == 0) = false := by rw [beq_eq_false_iff_ne]; omega
  have hkne : (k : Int) ≠ 0 := by omega
  have hNm : N ≤ 1000000 := by omega
  clear h hF hN hQ hL
  go_enter Try.func45, Try.ntmps45
  go_wp2_with fail
  refine H1.out.mono ?_
  rintro x w1 ⟨rfl, n1, rfl⟩
  go_wp2_with fail
  refine (HM.out _).mono ?_
  rintro e w' ⟨rfl, rfl⟩
  have HB := Lib.hid (bad_any F _ g l p 0 f (H.out n1) true rfl)
  have HR := Lib.hid (H.out n1)
  have HC := Lib.hid (Ch.of_below (F := fun i => i = g) (bdrawn (Below.refl _ w) n1))
  have hsz : (w.drewN n1).heap.size = w.heap.size := rfl
  have HSZ := Lib.hid hsz
  clear hsz
  generalize w.drewN n1 = w1 at *
  obtain ⟨w2, mk, hC2, hb2⟩ := make_ints N w1 hNm
  obtain ⟨gn, hgn⟩ : ∃ gn, w1.heap.size = gn := ⟨_, rfl⟩
  have HS : Hid (Nums F w w2 g l p k N gn 0 f) := Lib.hid ⟨(HR.out.below hb2).place (by omega), by rw [← hgn]; exact hC2.congr fun j hj => by simp, HC.out.less (hb2.mono (by rw [HSZ.out]; exact Nat.le_refl _)), by rw [← hgn, HSZ.out]; exact Nat.le_refl _⟩
  rw [hgn] at mk
  clear hC2 hb2 d1 d1' d2 d2' d3 H H1 hQi hQw d4
  go_wp2_with fail
  refine (HB.out).mono ?_
  rintro e w' ⟨rfl, rfl⟩
  go_wp2_with fail
  go_loopw [44] (fun i wr => ∃ j : Nat, i = .int .i64 j ∧ j ≤ N ∧ Hid (Nums F w wr g l p k N gn j f)) (fun i _ => N - (intOf i).toNat)
  case atStart => exact ⟨0, rfl, by omega, HS⟩
  case round =>
    obtain ⟨j, rfl, hj, HI⟩ := hrel
    by_cases hlt : j < N
    · have hkj : p + k * j + k ≤ l.length := by
        have h1 : k * (j + 1) ≤ k * N := Nat.mul_le_mul_left k hlt
        have h2 := HN.out
        rw [Nat.mul_succ] at h1
        omega
      obtain ⟨V, hV⟩ : ∃ V, numF l p k j = V := ⟨_, rfl⟩
      have HK := Lib.hid (read_yes F wr g l _ f HI.out.r hl (k : Nat) k rfl h1 h4 hkj V hV)
      have HV := Lib.hid hV
      clear hkj hV
      go_wp2_with fail
      refine HK.out.mono ?_
      rintro e w3 ⟨rfl, hr, hc⟩
      have hgw : g < gn := Nat.lt_of_lt_of_le HLT.out HI.out.new
      have hC3 : Cells w3 gn 3 N _ := HI.out.c.block (hc.block gn HI.out.c.lt (by omega))
      have c3 := hC3.cell j hlt
      have f3 := hC3.frozen j
      have HI3 : Hid (Nums F w (w3.setCell ⟨gn, j, none⟩ (.int .i64 V)) g l p k N gn (j + 1) f) := Lib.hid (by
        have hcs : Ch (fun i => i = gn) w3 (w3.setCell ⟨gn, j, none⟩ (.int .i64 V)) := Ch.set w3 gn j _ rfl
        refine ⟨((hr.ch hcs (by omega) fun i hi => by have := HF.out i hi; have := HI.out.new; omega).place (by rw [Nat.mul_succ]; omega)), (hC3.set j (.int .i64 V)).congr fun i hi => ?_, (HI.out.ch.then hc).trans hcs fun i hi => Or.inr (by rw [hi]; exact HI.out.new), HI.out.new⟩
        unfold upd
        by_cases e : i = j
        · subst e
          rw [if_pos rfl, if_pos (by omega), HV.out]
        · rw [if_neg e]
          dsimp only
          by_cases e2 : i < j
          · rw [if_pos e2, if_pos (by omega)]
          · rw [if_neg e2, if_neg (by omega)])
      clear hr hc hC3 hgw HI HK HV
      go_wp2_with fail
      go_roundw
      case rel => exact ⟨j + 1, by go_num, by omega, HI3⟩
      case measure => simp [intOf]; omega
    · have hjN : j = N := by omega
      have HR : Hid (Read F w g l p k N f (.returned (.slice (some ⟨gn, 0, none⟩) N N)) wr) := Lib.hid (by
        have h := HI.out
        rw [hjN] at h
        refine ⟨gn, rfl, h.new, ?_, h.r, h.ch⟩
        exact IAt.of_cells (h.c.congr fun i hi => by rw [if_pos hi]) (by unfold maxLen; omega))
      clear hjN HI
      go_wp2_with fail
      go_ret
      exact HR.out
end Go.Proofs.Ythlaglhlmbkniaa
