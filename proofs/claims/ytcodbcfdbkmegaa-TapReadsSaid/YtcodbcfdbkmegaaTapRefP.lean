/- The document's Parse: its contract. -/
import Derived.Test.YtcodbcfdbkmegaaTapRows
import Derived.Test.YtcodbcfdbkmegaaTapRef
import Derived.Deep.LoopGhost
namespace Go.Proofs.Ytcodbcfdbkmegaa
open Go.RowKit
set_option linter.unusedVariables false
set_option linter.unusedSimpArgs false

/-- The document's reader in block g, with the blocks that it has read. -/
structure RSt (w wr : World) (g : Nat) (A : Option Addr) (n cap : Nat) (p e f : Int) (B : Option Addr) (m c : Nat) (L : List (List Int)) : Prop where
  rd : RdCells wr g A n cap p e f
  row : Rows8 (fun k => k < w.heap.size) (w.heap.size + 1) wr B m c L
  bel : Below w.heap.size w wr
  g_eq : g = w.heap.size
theorem RSt.below {w wr w' : World} {g : Nat} {A : Option Addr} {n cap : Nat} {p e f : Int} {B : Option Addr} {m c : Nat} {L : List (List Int)} (h : RSt w wr g A n cap p e f B m c L) (hb : Below wr.heap.size wr w') : RSt w w' g A n cap p e f B m c L :=
  ⟨h.rd.below hb, h.row.below hb, h.bel.trans (hb.mono h.bel.size), h.g_eq⟩
theorem RSt.put {w wr : World} {g : Nat} {A : Option Addr} {n cap : Nat} {p e f : Int} {B : Option Addr} {m c : Nat} {L : List (List Int)} (h : RSt w wr g A n cap p e f B m c L) (p' e' f' : Int) : RSt w (rdPut wr g A n cap p' e' f') g A n cap p' e' f' B m c L :=
  ⟨h.rd.put A n cap p' e' f', h.row.ch (rdPut_ch wr g A n cap p' e' f') fun k hk e => by have := h.g_eq; omega, rdPut_below h.bel g (by rw [h.g_eq]; exact Nat.le_refl _) A n cap p' e' f', h.g_eq⟩
theorem RSt.bytes {w wr : World} {g : Nat} {A : Option Addr} {n cap : Nat} {p e f : Int} {B : Option Addr} {m c : Nat} {L : List (List Int)} (h : RSt w wr g A n cap p e f B m c L) {F : Nat → Prop} {l : List Int} (hB : BAt8 F w A n cap l) : BAt8 (fun k => k < w.heap.size) wr A n cap l := (hB.weak fun k hk _ => hk).below h.bel
theorem RSt.next {w wr w' : World} {g : Nat} {A : Option Addr} {n cap : Nat} {p e f : Int} {B B' : Option Addr} {m c m' c' : Nat} {L L' : List (List Int)} (h : RSt w wr g A n cap p e f B m c L) (hx : Rows8 (fun k => k < w.heap.size) (w.heap.size + 1) w' B' m' c' L') (hb : Below (w.heap.size + 1) wr w') : RSt w w' g A n cap p e f B' m' c' L' :=
  ⟨(hb.block g (by have := h.g_eq; omega)).trans h.rd, hx, h.bel.trans (hb.mono (Nat.le_succ _)), h.g_eq⟩
def RBad (w wr : World) (g : Nat) (A : Option Addr) (n cap : Nat) (R : Except (Int × Nat) (List (List Int))) (B : Option Addr) (m c : Nat) : Prop := ∃ (p e : Int) (f : Nat) (L : List (List Int)), e ≠ 0 ∧ R = .error (e, f) ∧ RSt w wr g A n cap p e f B m c L
def RRun (w wr : World) (g : Nat) (l : List Int) (A : Option Addr) (n cap : Nat) (R : Except (Int × Nat) (List (List Int))) (B : Option Addr) (m c : Nat) (r : Nat) : Prop := ∃ (p : Nat) (L : List (List Int)), r = n - p + 1 ∧ p ≤ n ∧ L.length ≤ 4096 ∧ pre L (tapR l p L.length) = R ∧ RSt w wr g A n cap (p : Nat) 0 0 B m c L
def RefParsed (w : World) (R : Except (Int × Nat) (List (List Int))) (x : Ending) (w' : World) : Prop :=
  (∃ L B m c, R = .ok L ∧ x = .returned (.tuple #[.slice B m c, .int .i64 0, .int .i64 0]) ∧ Parts (fun _ => True) w' B m c L ∧ Below w.heap.size w w') ∨
  (∃ (e : Int) (f : Nat), R = .error (e, f) ∧ e ≠ 0 ∧ x = .returned (.tuple #[.slice none 0 0, .int .i64 e, .int .i64 (f : Nat)]) ∧ Below w.heap.size w w')
theorem rparse_long (F : Nat → Prop) (A : Option Addr) (n cap : Nat) (l : List Int) (w : World) (hl : BAt8 F w A n cap l) (hn : 1048576 < n) (R : Except (Int × Nat) (List (List Int))) (hR : R = .error (8, 0)) : Calls Try.prog 9 #[.slice A n cap] w (RefParsed w R) := by
  have hf := hl.fit
  have hm := hl.max
  unfold maxLen at hm
  have d : decide (1048576 < (n : Int)) = true := decide_eq_true (by omega)
  have d' : decide (1048576 < n) = true := decide_eq_true hn
  have HR : Hid (RefParsed w R (.returned (.tuple #[.slice none 0 0, .int .i64 8, .int .i64 0])) w) := Lib.hid (Or.inr ⟨8, 0, hR, by decide, rfl, Below.refl _ _⟩)
  clear hl
  go_enter Try.func9, Try.ntmps9
  go_wp2_with fail
  go_ret3
  exact HR.out
set_option maxHeartbeats 8000000 in
set_option maxRecDepth 100000 in
theorem rparse_any (F : Nat → Prop) (A : Option Addr) (n cap : Nat) (l : List Int) (w : World) (hl : BAt8 F w A n cap l) (hn : n ≤ 1000000) (R : Except (Int × Nat) (List (List Int))) (hR : tapR l 0 0 = R) : Calls Try.prog 9 #[.slice A n cap] w (RefParsed w R) := by
  have hlen := hl.len
  have hf := hl.fit
  have hm := hl.max
  have HMX := Lib.hid hm
  unfold maxLen at hm
  have d : decide (1048576 < (n : Int)) = false := decide_eq_false (by omega)
  have d' : decide (1048576 < n) = false := decide_eq_false (by omega)
  have HL := Lib.hid hl
  have H8 := Lib.hid hl.bd
  obtain ⟨g, hg⟩ : ∃ g, w.heap.size = g := ⟨_, rfl⟩
  have HS : Hid (RRun w (w.alloc (.cells #[.slice A n cap, .int .i64 0, .int .i64 0, .int .i64 0] 62)) g l A n cap R none 0 0 (n + 1)) :=
    Lib.hid ⟨0, [], rfl, Nat.zero_le _, by simp, by rw [pre_nil]; exact hR, by rw [← hg]; exact heap_alloc_new w _, Rows8.nil _ _ _ (by simp), bnew w _, hg.symm⟩
  clear hl hR
  go_enter Try.func9, Try.ntmps9
  go_wp2_with fail
  clear hg d d'
  go_loopg [6] (n + 1) (fun r v wr => ∃ B m c, v = .slice B m c ∧ m ≤ 4097 ∧ m ≤ c ∧ c ≤ 9223372036854775807 ∧ Hid (RRun w wr g l A n cap R B m c r ∨ (r = 0 ∧ RBad w wr g A n cap R B m c)))
  case atStart => exact ⟨none, 0, 0, rfl, by omega, by omega, by omega, Lib.hid (Or.inl HS.out)⟩
  case round =>
    obtain ⟨B, m, c, rfl, hm4, hmc, hcx, HA⟩ := hrel
    rcases HA.out with ⟨p, L, hr, hpn, hL4, hRL, hS⟩ | ⟨hr, p, e, f, L, he, hRe, hS⟩
    · have HS1 := Lib.hid hS
      have HLn := Lib.hid hS.row.len
      have HLi := Lib.hid hRL
      have HM := Lib.hid hr
      have HL4 := Lib.hid hL4
      obtain ⟨⟨c0, c1, c2, c3⟩, f0, f1, f2, f3⟩ := hS.rd.all
      obtain ⟨D, hD⟩ : ∃ D, n - p = D := ⟨_, rfl⟩
      have HLf := Lib.hid (rleft_any A n cap p 0 hpn (by omega) HMX.out hf D hD)
      have hm4' : m ≤ 4096 := by rw [← HLn.out]; exact hL4
      clear hS HA hr hRL hL4
      unfold rdV at HLf
      by_cases hend : p < n
      · have d1 : decide ((0 : Int) < (D : Int)) = true := decide_eq_true (by omega)
        have d1' : decide (0 < D) = true := decide_eq_true (by omega)
        have hpl : p < l.length := by omega
        go_wp2_with fail
        refine (HLf.out _).mono ?_
        rintro x w1 ⟨rfl, hb⟩
        have HS2 := Lib.hid (HS1.out.below hb)
        clear hb HS1 HLf c0 c1 c2 c3 f0 f1 f2 f3
        obtain ⟨⟨c0, c1, c2, c3⟩, f0, f1, f2, f3⟩ := HS2.out.rd.all
        by_cases hmany : m = 4096
        · have HC : Hid (R = .error (8, p)) := Lib.hid (by rw [← HLi.out, HLn.out, hmany, tap_many l p hpl]; rfl)
          have HFl := Lib.hid (rfail_new A n cap (p : Nat) 0 8 (p : Nat) (by decide))
          unfold rdV at HFl
          have e1 : ((m : Int) == 4096) = true := by rw [beq_iff_eq]; omega
          have e2 : decide ((m : Int) = 4096) = true := decide_eq_true (by omega)
          clear hmany
          go_wp2_with fail
          refine (HFl.out _).mono ?_
          rintro x w2 ⟨rfl, hb⟩
          have HS3 := Lib.hid (HS2.out.below hb)
          have HS4 := Lib.hid (HS3.out.put (p : Nat) 8 (p : Nat))
          clear hb HS2 c0 c1 c2 c3 f0 f1 f2 f3 e1 e2
          obtain ⟨⟨c0, c1, c2, c3⟩, f0, f1, f2, f3⟩ := HS3.out.rd.all
          have HN := Lib.hid (rnumber_bad _ A n cap (p : Nat) 8 (p : Nat) (by decide) l _ (HS4.out.bytes HL.out))
          unfold rdV at HN
          go_wp2_with fail
          refine HN.out.mono ?_
          rintro x w3 ⟨rfl, hb⟩
          have HS5 := Lib.hid (HS4.out.below hb)
          have HS6 := Lib.hid (HS5.out.put (p : Nat) 8 (p : Nat))
          clear hb HN HS4 c0 c1 c2 c3 f0 f1 f2 f3
          obtain ⟨⟨c0, c1, c2, c3⟩, f0, f1, f2, f3⟩ := HS5.out.rd.all
          have HT := Lib.hid (rtake_bad (fun k => k < w.heap.size) A n cap (p : Nat) 8 (p : Nat) (by decide) 0 (by decide) (rdPut w3 g A n cap (p : Nat) 8 (p : Nat)))
          unfold rdV at HT
          go_wp2_with fail
          refine HT.out.mono ?_
          rintro x w4 ⟨A1, k1, rfl, hB1, hb⟩
          have HS7 := Lib.hid (HS6.out.below hb)
          have HS8 := Lib.hid (HS7.out.put (p : Nat) 8 (p : Nat))
          have HBB := Lib.hid (hB1.ch (rdPut_ch w4 g A n cap (p : Nat) 8 (p : Nat)) fun k hk e => by have := HS7.out.g_eq; omega)
          have HO : Hid (∀ k, k < (rdPut w4 g A n cap (p : Nat) 8 (p : Nat)).heap.size → k < w.heap.size → k < w.heap.size ∧ (Value.slice B m c).ownBlock ≠ some k) := Lib.hid (fun k _ hk => ⟨hk, fun e => by have := (HS8.out.row.blk k e).1; omega⟩)
          have hfb := hB1.fit
          have hmb := hB1.max
          unfold maxLen at hmb
          clear hb hB1 HT HS5 HS6 c0 c1 c2 c3 f0 f1 f2 f3
          obtain ⟨⟨c0, c1, c2, c3⟩, f0, f1, f2, f3⟩ := HS7.out.rd.all
          go_wp2_with (at_builtin; refine wpList_append_rows (wr := rdPut w4 g A n cap (p : Nat) 8 (p : Nat)) 24 infoB24 Try.underlying24 rfl _ _ rfl B m c L rfl HS8.out.row A1 0 k1 ([]) HBB.out HO.out w4.heap.size (rdPut_size _ _ _ _ _ _ _ _).symm rfl (by omega) ?_; intro g5 c5 w5 hx5 hb5; have hf5 := hx5.fit; have hm5 := hx5.max; unfold maxLen at hm5; have HS9 := Lib.hid (HS8.out.next hx5 hb5); clear hx5 hb5)
          have HE : Hid (RRun w w5 g l A n cap R (some ⟨g5, 0, none⟩) (m + 1) c5 (0) ∨ (0 = 0 ∧ RBad w w5 g A n cap R (some ⟨g5, 0, none⟩) (m + 1) c5)) := Lib.hid (Or.inr ⟨rfl, p, 8, p, _, by decide, HC.out, HS9.out⟩)
          go_roundg 0
          case measure => have := HM.out; omega
          case rel => exact ⟨_, _, _, rfl, by omega, by omega, by omega, HE⟩
        · have e1 : ((m : Int) == 4096) = false := by rw [beq_eq_false_iff_ne]; omega
          have e2 : decide ((m : Int) = 4096) = false := decide_eq_false (by omega)
          have hk : L.length ≠ 4096 := by rw [HLn.out]; exact hmany
          by_cases h2 : l.length < p + 2
          · have HC : Hid (R = .error (2, p)) := Lib.hid (by rw [← HLi.out, tap_cut l p _ hpl hk h2]; rfl)
            have HN := Lib.hid (rnumber_no _ A n cap p 0 l _ (HS2.out.bytes HL.out) hpn (by omega) (by omega))
            unfold rdV at HN
            go_wp2_with fail
            refine HN.out.mono ?_
            rintro x w3 ⟨rfl, hb⟩
            have HS5 := Lib.hid (HS2.out.below hb)
            have HS6 := Lib.hid (HS5.out.put (p : Nat) 2 (p : Nat))
            clear hb HN HS2 c0 c1 c2 c3 f0 f1 f2 f3
            obtain ⟨⟨c0, c1, c2, c3⟩, f0, f1, f2, f3⟩ := HS5.out.rd.all
            have HT := Lib.hid (rtake_bad (fun k => k < w.heap.size) A n cap (p : Nat) 2 (p : Nat) (by decide) 0 (by decide) (rdPut w3 g A n cap (p : Nat) 2 (p : Nat)))
            unfold rdV at HT
            go_wp2_with fail
            refine HT.out.mono ?_
            rintro x w4 ⟨A1, k1, rfl, hB1, hb⟩
            have HS7 := Lib.hid (HS6.out.below hb)
            have HS8 := Lib.hid (HS7.out.put (p : Nat) 2 (p : Nat))
            have HBB := Lib.hid (hB1.ch (rdPut_ch w4 g A n cap (p : Nat) 2 (p : Nat)) fun k hk e => by have := HS7.out.g_eq; omega)
            have HO : Hid (∀ k, k < (rdPut w4 g A n cap (p : Nat) 2 (p : Nat)).heap.size → k < w.heap.size → k < w.heap.size ∧ (Value.slice B m c).ownBlock ≠ some k) := Lib.hid (fun k _ hk => ⟨hk, fun e => by have := (HS8.out.row.blk k e).1; omega⟩)
            have hfb := hB1.fit
            have hmb := hB1.max
            unfold maxLen at hmb
            clear hb hB1 HT HS5 HS6 c0 c1 c2 c3 f0 f1 f2 f3
            obtain ⟨⟨c0, c1, c2, c3⟩, f0, f1, f2, f3⟩ := HS7.out.rd.all
            go_wp2_with (at_builtin; refine wpList_append_rows (wr := rdPut w4 g A n cap (p : Nat) 2 (p : Nat)) 24 infoB24 Try.underlying24 rfl _ _ rfl B m c L rfl HS8.out.row A1 0 k1 ([]) HBB.out HO.out w4.heap.size (rdPut_size _ _ _ _ _ _ _ _).symm rfl (by omega) ?_; intro g5 c5 w5 hx5 hb5; have hf5 := hx5.fit; have hm5 := hx5.max; unfold maxLen at hm5; have HS9 := Lib.hid (HS8.out.next hx5 hb5); clear hx5 hb5)
            have HE : Hid (RRun w w5 g l A n cap R (some ⟨g5, 0, none⟩) (m + 1) c5 (0) ∨ (0 = 0 ∧ RBad w w5 g A n cap R (some ⟨g5, 0, none⟩) (m + 1) c5)) := Lib.hid (Or.inr ⟨rfl, p, 2, p, _, by decide, HC.out, HS9.out⟩)
            go_roundg 0
            case measure => have := HM.out; omega
            case rel => exact ⟨_, _, _, rfl, by omega, by omega, by omega, HE⟩
          · have h2' : p + 2 ≤ l.length := by omega
            obtain ⟨V, hV⟩ : ∃ V, leV ((l.drop p).take 2) = V := ⟨_, rfl⟩
            have hvb := leV_bd ((l.drop p).take 2) ((H8.out.drop p).take 2) 2 (by simp; omega)
            rw [List.take_take, Nat.min_self, hV] at hvb
            obtain ⟨v0, v1⟩ := hvb
            have v1' : V < 65536 := v1
            obtain ⟨N, hN⟩ : ∃ N : Nat, V = N := ⟨V.toNat, by omega⟩
            subst hN
            have HV : Hid ((leV ((l.drop p).take 2)).toNat = N) := Lib.hid (by rw [hV]; exact Int.toNat_natCast _)
            obtain ⟨p2, hp2⟩ : ∃ p2, p + 2 = p2 := ⟨_, rfl⟩
            have HNU := Lib.hid (fun (u : World) (hu : BAt8 (fun k => k < w.heap.size) u A n cap l) => rnumber_yes _ A n cap p 0 l u hu (by omega) (by omega) N hV)
            rw [hp2] at HNU
            have HP2 := Lib.hid hp2
            have h2b : p2 ≤ n := by omega
            have h2c : p ≤ p2 := by omega
            clear v0 v1 hV hp2
            by_cases h3 : n < p2 + N
            · have HC : Hid (R = .error (2, p2)) := Lib.hid (by rw [← HLi.out, tap_short l p _ N hpl hk h2' HV.out (by have := HP2.out; omega), HP2.out]; rfl)
              have HN := Lib.hid (HNU.out _ (HS2.out.bytes HL.out))
              unfold rdV at HN
              go_wp2_with fail
              refine HN.out.mono ?_
              rintro x w3 ⟨rfl, hb⟩
              have HS5 := Lib.hid (HS2.out.below hb)
              have HS6 := Lib.hid (HS5.out.put (p2 : Nat) 0 0)
              clear hb HN HS2 c0 c1 c2 c3 f0 f1 f2 f3
              obtain ⟨⟨c0, c1, c2, c3⟩, f0, f1, f2, f3⟩ := HS5.out.rd.all
              have HT := Lib.hid (rtake_no (fun k => k < w.heap.size) A n cap p2 0 h2b (by omega) HMX.out hf N (by omega) (rdPut w3 g A n cap (p2 : Nat) 0 0))
              unfold rdV at HT
              go_wp2_with fail
              refine HT.out.mono ?_
              rintro x w4 ⟨A1, k1, rfl, hB1, hb⟩
              have HS7 := Lib.hid (HS6.out.below hb)
              have HS8 := Lib.hid (HS7.out.put (p2 : Nat) 2 (p2 : Nat))
              have HBB := Lib.hid (hB1.ch (rdPut_ch w4 g A n cap (p2 : Nat) 2 (p2 : Nat)) fun k hk e => by have := HS7.out.g_eq; omega)
              have HO : Hid (∀ k, k < (rdPut w4 g A n cap (p2 : Nat) 2 (p2 : Nat)).heap.size → k < w.heap.size → k < w.heap.size ∧ (Value.slice B m c).ownBlock ≠ some k) := Lib.hid (fun k _ hk => ⟨hk, fun e => by have := (HS8.out.row.blk k e).1; omega⟩)
              have hfb := hB1.fit
              have hmb := hB1.max
              unfold maxLen at hmb
              clear hb hB1 HT HS5 HS6 c0 c1 c2 c3 f0 f1 f2 f3
              obtain ⟨⟨c0, c1, c2, c3⟩, f0, f1, f2, f3⟩ := HS7.out.rd.all
              go_wp2_with (at_builtin; refine wpList_append_rows (wr := rdPut w4 g A n cap (p2 : Nat) 2 (p2 : Nat)) 24 infoB24 Try.underlying24 rfl _ _ rfl B m c L rfl HS8.out.row A1 0 k1 ([]) HBB.out HO.out w4.heap.size (rdPut_size _ _ _ _ _ _ _ _).symm rfl (by omega) ?_; intro g5 c5 w5 hx5 hb5; have hf5 := hx5.fit; have hm5 := hx5.max; unfold maxLen at hm5; have HS9 := Lib.hid (HS8.out.next hx5 hb5); clear hx5 hb5)
              have HE : Hid (RRun w w5 g l A n cap R (some ⟨g5, 0, none⟩) (m + 1) c5 (0) ∨ (0 = 0 ∧ RBad w w5 g A n cap R (some ⟨g5, 0, none⟩) (m + 1) c5)) := Lib.hid (Or.inr ⟨rfl, p2, 2, p2, _, by decide, HC.out, HS9.out⟩)
              go_roundg 0
              case measure => have := HM.out; omega
              case rel => exact ⟨_, _, _, rfl, by omega, by omega, by omega, HE⟩
            · obtain ⟨p3, hp3⟩ : ∃ p3, p2 + N = p3 := ⟨_, rfl⟩
              have HC : Hid (pre (L ++ [(l.drop p2).take N]) (tapR l p3 (L ++ [(l.drop p2).take N]).length) = R) := Lib.hid (by rw [← HLi.out, tap_on l p _ N hpl hk h2' HV.out (by have := HP2.out; omega), pre_cons, HP2.out, hp3]; simp)
              have HTU := Lib.hid (fun (u : World) (hu : BAt8 (fun k => k < w.heap.size) u A n cap l) => rtake_yes (fun k => k < w.heap.size) A n cap p2 0 l u hu h2b (by omega) N (by omega))
              rw [hp3] at HTU
              have h3b : p3 ≤ n := by omega
              have h3c : p < p3 := by have := HP2.out; omega
              obtain ⟨b, hb⟩ : ∃ b, (l.drop p2).take N = b := ⟨_, rfl⟩
              rw [hb] at HC HTU
              clear hp3 hb
              have HN := Lib.hid (HNU.out _ (HS2.out.bytes HL.out))
              unfold rdV at HN
              go_wp2_with fail
              refine HN.out.mono ?_
              rintro x w3 ⟨rfl, hb⟩
              have HS5 := Lib.hid (HS2.out.below hb)
              have HS6 := Lib.hid (HS5.out.put (p2 : Nat) 0 0)
              clear hb HN HS2 c0 c1 c2 c3 f0 f1 f2 f3
              obtain ⟨⟨c0, c1, c2, c3⟩, f0, f1, f2, f3⟩ := HS5.out.rd.all
              have HT := Lib.hid (HTU.out (rdPut w3 g A n cap (p2 : Nat) 0 0) (HS6.out.bytes HL.out))
              unfold rdV at HT
              go_wp2_with fail
              refine HT.out.mono ?_
              rintro x w4 ⟨A1, k1, rfl, hB1, hb⟩
              have HS7 := Lib.hid (HS6.out.below hb)
              have HS8 := Lib.hid (HS7.out.put (p3 : Nat) 0 0)
              have HBB := Lib.hid (hB1.ch (rdPut_ch w4 g A n cap (p3 : Nat) 0 0) fun k hk e => by have := HS7.out.g_eq; omega)
              have HO : Hid (∀ k, k < (rdPut w4 g A n cap (p3 : Nat) 0 0).heap.size → k < w.heap.size → k < w.heap.size ∧ (Value.slice B m c).ownBlock ≠ some k) := Lib.hid (fun k _ hk => ⟨hk, fun e => by have := (HS8.out.row.blk k e).1; omega⟩)
              have hfb := hB1.fit
              have hmb := hB1.max
              unfold maxLen at hmb
              clear hb hB1 HT HS5 HS6 c0 c1 c2 c3 f0 f1 f2 f3
              obtain ⟨⟨c0, c1, c2, c3⟩, f0, f1, f2, f3⟩ := HS7.out.rd.all
              go_wp2_with (at_builtin; refine wpList_append_rows (wr := rdPut w4 g A n cap (p3 : Nat) 0 0) 24 infoB24 Try.underlying24 rfl _ _ rfl B m c L rfl HS8.out.row A1 N k1 (b) HBB.out HO.out w4.heap.size (rdPut_size _ _ _ _ _ _ _ _).symm rfl (by omega) ?_; intro g5 c5 w5 hx5 hb5; have hf5 := hx5.fit; have hm5 := hx5.max; unfold maxLen at hm5; have HS9 := Lib.hid (HS8.out.next hx5 hb5); clear hx5 hb5)
              have HE : Hid (RRun w w5 g l A n cap R (some ⟨g5, 0, none⟩) (m + 1) c5 (n - p3 + 1) ∨ (n - p3 + 1 = 0 ∧ RBad w w5 g A n cap R (some ⟨g5, 0, none⟩) (m + 1) c5)) := Lib.hid (Or.inl ⟨p3, _, rfl, h3b, by have := HLn.out; simp; omega, HC.out, HS9.out⟩)
              go_roundg (n - p3 + 1)
              case measure => have := HM.out; omega
              case rel => exact ⟨_, _, _, rfl, by omega, by omega, by omega, HE⟩
      · have HE0 : Hid (R = .ok L) := Lib.hid (by rw [← HLi.out, tap_end l p _ (by omega), pre_ok, List.append_nil])
        have hD0 : D = 0 := by omega
        subst hD0
        go_wp2_with fail
        refine (HLf.out _).mono ?_
        rintro x w1 ⟨rfl, hb⟩
        have HS2 := Lib.hid (HS1.out.below hb)
        clear hb HS1 HLf c0 c1 c2 c3 f0 f1 f2 f3
        obtain ⟨⟨c0, c1, c2, c3⟩, f0, f1, f2, f3⟩ := HS2.out.rd.all
        have HN := Lib.hid (rend_ok A n cap p 0 (by omega) w1)
        unfold rdV at HN
        go_wp2_with fail
        refine HN.out.mono ?_
        rintro x w2 ⟨rfl, hb⟩
        have HS3 := HS2.out.below hb
        have HE : Hid (RefParsed w R (.returned (.tuple #[.slice B m c, .int .i64 0, .int .i64 0])) w2) := Lib.hid (Or.inl ⟨L, B, m, c, HE0.out, rfl, HS3.row.parts.weak fun _ _ _ => trivial, HS3.bel⟩)
        clear hb HS3
        go_wp2_with fail
        go_ret3
        exact HE.out
    · have HS1 := Lib.hid hS
      have HLf := Lib.hid (rleft_bad A n cap p e f he)
      have HEn := Lib.hid (rend_bad A n cap p e f he)
      have HRe := Lib.hid hRe
      have hn0 : (e != 0) = true := by simpa using he
      have hn1 : (e == 0) = false := by simpa using he
      have HNE := Lib.hid he
      obtain ⟨⟨c0, c1, c2, c3⟩, f0, f1, f2, f3⟩ := hS.rd.all
      clear hS hRe HA hr he
      unfold rdV at HLf HEn
      go_wp2_with fail
      refine (HLf.out _).mono ?_
      rintro x w1 ⟨rfl, hb⟩
      have HS2 := Lib.hid (HS1.out.below hb)
      clear hb HS1 HLf c0 c1 c2 c3 f0 f1 f2 f3
      obtain ⟨⟨c0, c1, c2, c3⟩, f0, f1, f2, f3⟩ := HS2.out.rd.all
      go_wp2_with fail
      refine (HEn.out _).mono ?_
      rintro x w2 ⟨rfl, hb⟩
      have HE : Hid (RefParsed w R (.returned (.tuple #[.slice none 0 0, .int .i64 e, .int .i64 (f : Nat)])) w2) := Lib.hid (Or.inr ⟨e, f, HRe.out, HNE.out, rfl, HS2.out.bel.trans (hb.mono HS2.out.bel.size)⟩)
      clear hb
      go_wp2_with fail
      go_ret3
      exact HE.out

end Go.Proofs.Ytcodbcfdbkmegaa
