/- tzx.tape: its contract, by that of block. -/
import Derived.Test.YthlaglhlmbkniaaTzxTp
import Derived.Test.YthlaglhlmbkniaaHeldTail
import Derived.Deep.LoopGhost
namespace Go.Proofs.Ythlaglhlmbkniaa
open Go.RowKit
set_option linter.unusedVariables false
set_option linter.unusedSimpArgs false
set_option maxRecDepth 100000

theorem foldB18 (a0 a1 a2 a3 a4 a5 a6 a7 a8 a9 a10 a11 a12 a13 a14 a15 a16 a17 : Value) : Array.foldl (fun (a : Array Value) (x : Value × Nat) => a.setIfInBounds x.2 x.1) #[.int .i64 0, .int .i64 0, .int .i64 0, .int .i64 0, .int .i64 0, .int .i64 0, .int .i64 0, .int .i64 0, .int .i64 0, .int .i64 0, .int .i64 0, .int .i64 0, .slice none 0 0, .slice none 0 0, .slice none 0 0, .slice none 0 0, .slice none 0 0, .slice none 0 0] (#[a0, a1, a2, a3, a4, a5, a6, a7, a8, a9, a10, a11, a12, a13, a14, a15, a16, a17] : Array Value).zipIdx 0 18 = #[a0, a1, a2, a3, a4, a5, a6, a7, a8, a9, a10, a11, a12, a13, a14, a15, a16, a17] := by kernel_rfl
theorem foldB (cs : Array Value) (h : cs.size = 18) : Array.foldl (fun (a : Array Value) (x : Value × Nat) => a.setIfInBounds x.2 x.1) #[.int .i64 0, .int .i64 0, .int .i64 0, .int .i64 0, .int .i64 0, .int .i64 0, .int .i64 0, .int .i64 0, .int .i64 0, .int .i64 0, .int .i64 0, .int .i64 0, .slice none 0 0, .slice none 0 0, .slice none 0 0, .slice none 0 0, .slice none 0 0, .slice none 0 0] cs.zipIdx 0 18 = cs := by
  obtain ⟨l⟩ := cs
  match l, h with
  | [a0, a1, a2, a3, a4, a5, a6, a7, a8, a9, a10, a11, a12, a13, a14, a15, a16, a17], _ => exact foldB18 a0 a1 a2 a3 a4 a5 a6 a7 a8 a9 a10 a11 a12 a13 a14 a15 a16 a17
/-- block's contract, wherever the loop calls it. -/
def BlkOk (F : Nat → Prop) (blk : Rst → Rst) (w : World) (g : Nat) (l : List Int) : Prop := ∀ (u : World) (k : Nat), onS blk l (s0F l) k → RS F u g l (itS blk (s0F l) k) → Ch (fun i => i = g) w u → Calls Try.prog 38 #[.pointer (some ⟨g, 0, none⟩)] u (BlkE F u g l (itS blk (s0F l) (k + 1)) (gI l (itS blk (s0F l) k).p))
def BlkOn (blk : Rst → Rst) (l : List Int) : Prop := ∀ k, onS blk l (s0F l) k → (itS blk (s0F l) (k + 1)).e = 0 → (itS blk (s0F l) k).p < (itS blk (s0F l) (k + 1)).p
/-- The tape and its result's place, made. -/
theorem Tq.new {F : Nat → Prop} {w w1 : World} {g : Nat} {l : List Int} {s : Rst} (h : RS F w1 g l s) (hc : Ch (fun i => i = g) (w.alloc (.cells #[.int .i64 0, .int .i64 0, .slice none 0 0] 43)) w1) (hg : g < w.heap.size) (hF : ∀ i, F i → i < w.heap.size) (M m : Int) :
    Tq F w (w1.alloc (.cells #[.int .i64 M, .int .i64 m, .slice none 0 0] 43)) g w.heap.size w1.heap.size l s M m none 0 0 [] none 0 0 [] := by
  have hsz := hc.size
  simp at hsz
  refine ⟨h.below (bnew w1 _), ?_, heap_alloc_new _ _, Blks.nil _ _ _ (by simp), World.ownsRow_nil _ _ _ _, ?_, hg, Nat.le_refl _, by omega, hF⟩
  · exact ((bnew w1 _).block _ (by omega)).trans ((hc.block _ (by simp) (by omega)).trans (heap_alloc_new w _))
  · exact ((Ch.of_below (bnew w _)).then hc).less ((bnew w1 _).mono (by omega))
/- own_int -/
attribute [local simp] foldB
attribute [local simp ↓ high] blkLoad_as blkStore_as blkAlloc_as blkBuild_as
set_option maxHeartbeats 6400000 in
theorem tape_any (F : Nat → Prop) (blk : Rst → Rst) (w : World) (g : Nat) (l : List Int) (h : RS F w g l ⟨0, 0, 0⟩) (hF : ∀ i, F i → i < w.heap.size) (hl : l.length ≤ 1000000) (hB : BlkOk F blk w g l) (hP : BlkOn blk l) :
    Calls Try.prog 25 #[.pointer (some ⟨g, 0, none⟩)] w (TapeE F blk w g l) := by
  have H := Lib.hid (h.below (bnew w (.cells #[.int .i64 0, .int .i64 0, .slice none 0 0] 43)))
  have HG := Lib.hid (And.intro h.lt hF)
  have HB := Lib.hid hB
  have HP := Lib.hid hP
  obtain ⟨s1, hs1⟩ : ∃ s1, takS l ⟨0, 0, 0⟩ 8 = s1 := ⟨_, rfl⟩
  obtain ⟨s2, hs2⟩ : ∃ s2, takS l s1 1 = s2 := ⟨_, rfl⟩
  obtain ⟨s3, hs3⟩ : ∃ s3, takS l s2 1 = s3 := ⟨_, rfl⟩
  obtain ⟨M, hM⟩ : ∃ M, numV l s1 1 = M := ⟨_, rfl⟩
  obtain ⟨m, hm⟩ : ∃ m, numV l s2 1 = m := ⟨_, rfl⟩
  have HMm : Hid (maj l = M ∧ mnr l = m ∧ s0F l = s3) := Lib.hid (by unfold maj mnr s0F; rw [hs1, hs2, hs3]; exact ⟨hM, hm, rfl⟩)
  have H1 : Hid (Calls Try.prog 33 #[.pointer (some ⟨g, 0, none⟩), .int .i64 8] (w.alloc (.cells #[.int .i64 0, .int .i64 0, .slice none 0 0] 43)) (GotB F (takB l ⟨0, 0, 0⟩ 8) _ g l s1)) := Lib.hid (by
    have := take_any F _ g l _ H hl 8 (Or.inr (by decide))
    rw [show Int.toNat 8 = 8 from rfl, hs1] at this
    exact this)
  have H2 := Lib.hid (fun u hr => num_any F u g l s1 hr hl 1 1 rfl (by decide) (by decide))
  have H3 := Lib.hid (fun u hr => num_any F u g l s2 hr hl 1 1 rfl (by decide) (by decide))
  rw [hM, hs2] at H2
  rw [hm, hs3] at H3
  clear h hF hB hP hs1 hs2 hs3 hM hm
  go_enter Try.func25, Try.ntmps25
  go_wp2_with fail
  refine H1.out.mono ?_
  rintro e w1 ⟨A1, n1, c1, rfl, hb1, hr1, hc1⟩
  have HR1 := Lib.hid hr1
  have HC1 := Lib.hid hc1
  clear hb1 hr1 hc1 H1
  go_wp2_with fail
  refine (H2.out _ HR1).mono ?_
  rintro e w2 ⟨rfl, hr2, hc2⟩
  have HR2 := Lib.hid hr2
  have HC2 := Lib.hid (HC1.out.then hc2)
  clear hr2 hc2 H2 HR1 HC1
  go_wp2_with fail
  refine (H3.out _ HR2).mono ?_
  rintro e w3 ⟨rfl, hr3, hc3⟩
  have HS0 := Lib.hid (Tq.new hr3 (HC2.out.then hc3) HG.out.1 HG.out.2 M m)
  have e3 : s3 = itS blk (s0F l) 0 := HMm.out.2.2.symm
  rw [e3] at HS0
  clear hr3 hc3 H3 HR2 HC2 e3
  obtain ⟨g0, hg0⟩ : ∃ g0, w.heap.size = g0 := ⟨_, rfl⟩
  obtain ⟨gt, hgt⟩ : ∃ gt, w3.heap.size = gt := ⟨_, rfl⟩
  rw [hg0, hgt] at HS0
  go_wp2_with fail
  clear hg0 hgt
  go_loopg [4] (measS l (itS blk (s0F l) 0)) (fun mm v wr => ∃ k A ca B c L bs, v = .slice A k ca ∧ mm = measS l (itS blk (s0F l) k) ∧ k ≤ 4096 ∧ Hid (Tq F w wr g g0 gt l (itS blk (s0F l) k) M m B k c L A k ca bs) ∧ Hid (Pu blk l k L bs))
  case atStart => exact ⟨0, none, 0, none, 0, [], [], rfl, rfl, by omega, HS0, Lib.hid (Pu.nil blk l)⟩
  case round =>
    obtain ⟨k, A, ca, B, c, L, bs, rfl, hmm, hk, HA, HU⟩ := hrel
    have HM := Lib.hid hmm
    obtain ⟨D, hD⟩ : ∃ D, leftN l (itS blk (s0F l) k) = D := ⟨_, rfl⟩
    have HLf := Lib.hid (left_s F wr g l _ (Lib.hid HA.out.rs) hl D hD)
    unfold leftN at hD
    clear hmm
    by_cases hon : (itS blk (s0F l) k).e = 0 ∧ (itS blk (s0F l) k).p < l.length
    · rw [if_pos hon.1] at hD
      have d1 : decide ((0 : Int) < (D : Int)) = true := decide_eq_true (by omega)
      have d1' : decide (0 < D) = true := decide_eq_true (by omega)
      have HON := Lib.hid hon
      clear hD hon
      go_wp2_with fail
      refine HLf.out.mono ?_
      rintro x w1 ⟨rfl, k1, rfl⟩
      have HA1 := Lib.hid (HA.out.below (bdrawn (Below.refl _ _) k1))
      clear HA HLf
      generalize wr.drewN k1 = w1 at *
      obtain ⟨⟨cm0, cm1, ct⟩, _, _⟩ := HA1.out.all
      clear cm0 cm1
      by_cases hmany : k = 4096
      · have HEnd : Hid (Ends blk l (s0F l) k) := Lib.hid ⟨HU.out.on, fun x => x.2.2 hmany⟩
        have d2 : ((k : Int) == 4096) = true := by rw [beq_iff_eq]; omega
        have d2' : decide ((k : Int) = 4096) = true := decide_eq_true (by omega)
        have d2'' : (k == 4096) = true := by rw [beq_iff_eq]; exact hmany
        clear hmany
        have HAt := Lib.hid (at_s F w1 g l _ (Lib.hid HA1.out.rs))
        have HFl := Lib.hid (fail_any F w1 g l _ (Lib.hid HA1.out.rs) 8 ((itS blk (s0F l) k).p : Nat) (by decide))
        go_wp2_with fail
        refine HAt.out.mono ?_
        rintro x w2 ⟨rfl, rfl⟩
        go_wp2_with fail
        refine HFl.out.mono ?_
        rintro x w2 ⟨rfl, hr2, hc2⟩
        have HA2 : Hid (Tq F w w2 g g0 gt l (finS l (itS blk (s0F l) k)) M m B k c L A k ca bs) := Lib.hid (by
          have e : failS (itS blk (s0F l) k) 8 ((itS blk (s0F l) k).p : Nat) = finS l (itS blk (s0F l) k) := by
            rw [failS_ok HON.out.1]; unfold finS; rw [if_pos HON.out]
          rw [← e]
          exact HA1.out.rd hr2 hc2)
        clear hr2 hc2 HFl HAt HA1 ct
        have HSd := Lib.hid (sound_any _ w2 B k c L HA2.out.row.at (by omega))
        obtain ⟨⟨cm0, cm1, ct⟩, _, _⟩ := HA2.out.all
        clear cm0 cm1
        go_wp2_with fail
        refine HSd.out.mono ?_
        rintro x w5 ⟨r, e, rfl, hsi, hb5⟩
        have HA5 := Lib.hid (HA2.out.below hb5)
        have HSI := Lib.hid hsi
        clear ct hsi hb5 HSd
        by_cases he : e = 0
        · subst he
          have HT : Hid (TapeIs blk l k (finS l (itS blk (s0F l) k))) := Lib.hid ⟨L, r, 0, HEnd.out, HU.out.n, HU.out.id, HSI.out, by unfold endS; rw [if_pos rfl]⟩
          have HR : Hid (TapeE F blk w g l (.returned (.agg #[.int .i64 M, .int .i64 m, .slice B k c])) (tpPut w5 g0 M m B k c)) := Lib.hid (by
            have h1 := HA5.out
            rw [← HMm.out.1, ← HMm.out.2.1] at h1 ⊢
            exact h1.made HT.out)
          have HH := Lib.hid (tpPut_heap HA5.out.res M m B k c)
          obtain ⟨⟨a0, a1, a2⟩, ⟨b0, b1, b2⟩, f0, f1, f2⟩ := HA5.out.all
          go_wp2_with fail
          exact bodyPost_ret (results_tp1 rfl _ HH.out rfl) rfl HR.out
        · have hrk : r < k := by
            rcases HSI.out.kind with x | ⟨x, _⟩
            · exact absurd x he
            · rw [HU.out.n] at x; exact x
          obtain ⟨bb, bo, rfl, _, _, hbc⟩ := (ints_own HA5.out.beg).lies (by omega)
          have cb := hbc r hrk
          have dn : (e != 0) = true := by rw [bne_iff_ne]; exact he
          obtain ⟨Y, hY⟩ : ∃ Y, gI bs r = Y := ⟨_, rfl⟩
          rw [hY] at cb
          have HF5 := Lib.hid (fail_any F w5 g l _ (Lib.hid HA5.out.rs) e Y he)
          have HYb : Hid (Y = ((itS blk (s0F l) r).p : Nat)) := Lib.hid (by rw [← hY]; exact HU.out.bg r hrk)
          have HE := Lib.hid he
          clear hbc hY he
          go_wp2_with fail
          refine HF5.out.mono ?_
          rintro x w6 ⟨rfl, hr6, hc6⟩
          have HA6 := Lib.hid (HA5.out.rd hr6 hc6)
          have HT : Hid (TapeIs blk l k (failS (finS l (itS blk (s0F l) k)) e Y)) := Lib.hid ⟨L, r, e, HEnd.out, HU.out.n, HU.out.id, HSI.out, by unfold endS; rw [if_neg HE.out, HYb.out]⟩
          clear hr6 hc6 HF5 HA5 cb
          have HR : Hid (TapeE F blk w g l (.returned (.agg #[.int .i64 M, .int .i64 m, .slice B k c])) (tpPut w6 g0 M m B k c)) := Lib.hid (by
            have h1 := HA6.out
            rw [← HMm.out.1, ← HMm.out.2.1] at h1 ⊢
            exact h1.made HT.out)
          have HH := Lib.hid (tpPut_heap HA6.out.res M m B k c)
          obtain ⟨⟨a0, a1, a2⟩, ⟨b0, b1, b2⟩, f0, f1, f2⟩ := HA6.out.all
          go_wp2_with fail
          exact bodyPost_ret (results_tp1 rfl _ HH.out rfl) rfl HR.out
      · have HOn : Hid (onS blk l (s0F l) k) := Lib.hid ⟨HON.out.1, HON.out.2, hmany⟩
        have d2 : ((k : Int) == 4096) = false := by rw [beq_eq_false_iff_ne]; omega
        have d2' : decide ((k : Int) = 4096) = false := decide_eq_false (by omega)
        have d2'' : (k == 4096) = false := by rw [beq_eq_false_iff_ne]; exact hmany
        have HAt := Lib.hid (at_s F w1 g l _ (Lib.hid HA1.out.rs))
        obtain ⟨P, hP⟩ : ∃ P, (itS blk (s0F l) k).p = P := ⟨_, rfl⟩
        rw [hP] at HAt
        have HPp := Lib.hid hP
        have hlow := Lib.hid (show gt + 1 ≤ w1.heap.size from HA1.out.low)
        obtain ⟨A0, ca0, eA, hka, hca⟩ := own_slice HA1.out.beg
        injection eA with eA1 eA2 eA3
        subst eA1 eA3
        clear hP eA2
        go_wp2_with fail
        refine HAt.out.mono ?_
        rintro x w2 ⟨rfl, rfl⟩
        clear HAt ct
        go_wp2_with (at_builtin; refine wpList_append_int 22 infoI64 Try.underlying22 rfl (.tmp 25) (.tmp 28) rfl A k ca bs rfl HA1.out.beg P _ rfl hlow.out rfl (by omega) ?_; intro g3 c3 w3 k1 k2 k3; have HA3 := Lib.hid (HA1.out.begun k1 k2 k3); obtain ⟨A9, ca9, e9, hk3, hc3⟩ := own_slice k1; injection e9 with e91 e92 e93; subst e91 e93; clear e92; obtain ⟨⟨cm0, cm1, ct⟩, _, _⟩ := HA3.out.all; clear cm0 cm1 k1 k2 k3)
        have hgl := Lib.hid HA3.out.low
        have HC := Lib.hid (HB.out w3.drew k HOn.out (HA3.out.rs.below (Below.refl _ _).drew) (HA3.out.ch.less ((Below.refl w3.heap.size w3).drew.mono HA3.out.ch.size)))
        have HGT := Lib.hid (show gt ≠ g by have := HA3.out.o1; have := HA3.out.o2; have := HA3.out.o3; omega)
        first | refine wp_region_noPanic ?_ | skip
        refine wp_region_U (n := 5) (S := (fun u => u.cell? ⟨gt, 2, none⟩ = some (.slice B k c))) (by kernel_rfl) (by kernel_rfl) (ct) (fun hHeld => ?_)
        refine wpAnyU_take (i := 0) (v := ?v1) rfl (by kernel_rfl) (by kernel_rfl) (by kernel_rfl) (by kernel_rfl) (fun _ _ _ h => h) (Or.inl ⟨by rfl, ?hy1⟩) (by assumption) ?rest1
        case hy1 => (intro w hSw; (try dsimp only at hSw); go_simp; try with_reducible rfl)
        try simp only [Act.put, List.getElem_toArray, List.getElem_cons_succ, List.getElem_cons_zero, List.setIfInBounds_toArray, List.set_cons_zero, List.set_cons_succ]
        refine wpAnyU_take (i := 1) (v := ?v2) rfl (by kernel_rfl) (by kernel_rfl) (by kernel_rfl) (by kernel_rfl) (fun _ _ _ h => h) (Or.inl ⟨by rfl, ?hy2⟩) (by assumption) ?rest2
        case hy2 => (intro w hSw; (try dsimp only at hSw); go_simp; try with_reducible rfl)
        try simp only [Act.put, List.getElem_toArray, List.getElem_cons_succ, List.getElem_cons_zero, List.setIfInBounds_toArray, List.set_cons_zero, List.set_cons_succ]
        refine wpAnyU_take (i := 2) (v := ?v3) rfl (by kernel_rfl) (by kernel_rfl) (by kernel_rfl) (by kernel_rfl) (fun _ _ _ h => h) (Or.inl ⟨by rfl, ?hy3⟩) (by assumption) ?rest3
        case hy3 => (intro w hSw; (try dsimp only at hSw); go_simp; try with_reducible rfl)
        try simp only [Act.put, List.getElem_toArray, List.getElem_cons_succ, List.getElem_cons_zero, List.setIfInBounds_toArray, List.set_cons_zero, List.set_cons_succ]
        refine wpAnyU_ready (i := 3) (by kernel_rfl) (by kernel_rfl) rfl (fun K hK => ?_)
        go_simp
        refine (HC.out).mono ?_
        rintro e w' ⟨cs, b, rfl, hbi, hbv, hbr, hbc⟩
        go_wp2_with fail
        refine hK.out _ _ ((World.cell?_of_block (a := ⟨gt, 2, none⟩) (hbc.block gt hgl.out HGT.out)).trans ct) (fun hHeld => ?_)
        clear hK K
        try simp only [Act.put, List.getElem_toArray, List.getElem_cons_succ, List.getElem_cons_zero, List.setIfInBounds_toArray, List.set_cons_zero, List.set_cons_succ]
        have hbs := hbv.size
        have ct' : w'.cell? ⟨gt, 2, none⟩ = some (.slice B k c) := (World.cell?_of_block (a := ⟨gt, 2, none⟩) (hbc.block gt hgl.out HGT.out)).trans ct
        have hS5 : (w'.alloc (.cells cs 30)).cell? ⟨gt, 2, none⟩ = some (.slice B k c) := (World.cell?_of_block (a := ⟨gt, 2, none⟩) ((bnew w' _).block gt (Nat.lt_of_lt_of_le hgl.out hbc.size))).trans ct'
        refine wpAnyU_ready (i := 4) (by kernel_rfl) (by kernel_rfl) rfl (fun K hK => ?_)
        go_simp
        refine hK.out _ _ hS5 (fun hHeld => ?_)
        clear hK K
        try simp only [Act.put, List.getElem_toArray, List.getElem_cons_succ, List.getElem_cons_zero, List.setIfInBounds_toArray, List.set_cons_zero, List.set_cons_succ]
        refine wpAnyU_tail rfl (by kernel_rfl) ?_
        simp only [List.drop_succ_cons, List.drop_zero]
        change wpList _ _ _ _ _ (w'.alloc (.cells cs 30))
        have hcd : Ch (fun i => i = g) w3 w' := (Ch.of_below (Below.refl w3.heap.size w3).drew).then hbc
        have HA4 := Lib.hid (HA3.out.rd hbr hcd)
        have HBV : Hid (BV (fun i => w3.heap.size ≤ i) w' cs b) := Lib.hid hbv
        have HGG : Hid (∀ i, i < w'.heap.size → w3.heap.size ≤ i → (gt < i ∧ (Value.slice (some ⟨g3, 0, none⟩) (k + 1) c3).ownBlock ≠ some i) ∧ (Value.slice B k c).ownBlock ≠ some i) := Lib.hid (fun i _ h2 => ⟨⟨by have := hgl.out; omega, fun e => by have := (own_low HA3.out.beg i e).2; omega⟩, fun e => by have := (HA3.out.row.blk i e).2; omega⟩)
        have HID : Hid (b.id = gI l (itS blk (s0F l) k).p) := Lib.hid hbi
        clear hbv hbr hbc hbi hcd ct' ct HC hS5 hbs
        go_wp2_with (at_builtin; refine wpList_append_blks 24 infoBlk Try.underlying24 rfl (.tmp 31) (.tmp 34) rfl B k c L rfl HA4.out.row cs b HBV.out HGG.out _ rfl rfl (by omega) ?_; intro g4 c4 w4 hx4 hc4; have hf4 := hx4.fit; have hm4 := hx4.max; unfold maxLen at hm4; have HN := HA4.out.blocked hx4 hc4; obtain ⟨⟨n1, n2⟩, hn3⟩ := HN; have HT5 := Lib.hid hn3; clear hx4 hc4 hn3)
        go_wp2_with fail
        refine NoPanic.normal ?_
        have HU5 := Lib.hid (HU.out.next HOn.out b HID.out)
        rw [HPp.out] at HU5
        go_wp2_with fail
        go_roundg (measS l (itS blk (s0F l) (k + 1)))
        case measure => exact HM.out ▸ meas_lt HON.out.1 HON.out.2 (HP.out k HOn.out)
        case rel => exact ⟨k + 1, _, c3, _, c4, _, _, rfl, rfl, by omega, HT5, HU5⟩
    · have HEnd : Hid (Ends blk l (s0F l) k) := Lib.hid ⟨HU.out.on, fun x => hon ⟨x.1, x.2.1⟩⟩
      have hD0 : D = 0 := by
        by_cases he : (itS blk (s0F l) k).e = 0
        · rw [if_pos he] at hD
          have := fun x => hon ⟨he, x⟩
          omega
        · rw [if_neg he] at hD
          exact hD.symm
      subst hD0
      go_wp2_with fail
      refine HLf.out.mono ?_
      rintro x w1 ⟨rfl, k1, rfl⟩
      have HA2 : Hid (Tq F w (wr.drewN k1) g g0 gt l (finS l (itS blk (s0F l) k)) M m B k c L A k ca bs) := Lib.hid (by
        have e : finS l (itS blk (s0F l) k) = itS blk (s0F l) k := by unfold finS; rw [if_neg hon]
        rw [e]
        exact HA.out.below (bdrawn (Below.refl _ _) k1))
      clear HA HLf hD hon
      generalize wr.drewN k1 = w2 at *
      have HSd := Lib.hid (sound_any _ w2 B k c L HA2.out.row.at (by omega))
      obtain ⟨⟨cm0, cm1, ct⟩, _, _⟩ := HA2.out.all
      clear cm0 cm1
      go_wp2_with fail
      refine HSd.out.mono ?_
      rintro x w5 ⟨r, e, rfl, hsi, hb5⟩
      have HA5 := Lib.hid (HA2.out.below hb5)
      have HSI := Lib.hid hsi
      clear ct hsi hb5 HSd
      by_cases he : e = 0
      · subst he
        have HT : Hid (TapeIs blk l k (finS l (itS blk (s0F l) k))) := Lib.hid ⟨L, r, 0, HEnd.out, HU.out.n, HU.out.id, HSI.out, by unfold endS; rw [if_pos rfl]⟩
        have HR : Hid (TapeE F blk w g l (.returned (.agg #[.int .i64 M, .int .i64 m, .slice B k c])) (tpPut w5 g0 M m B k c)) := Lib.hid (by
          have h1 := HA5.out
          rw [← HMm.out.1, ← HMm.out.2.1] at h1 ⊢
          exact h1.made HT.out)
        have HH := Lib.hid (tpPut_heap HA5.out.res M m B k c)
        obtain ⟨⟨a0, a1, a2⟩, ⟨b0, b1, b2⟩, f0, f1, f2⟩ := HA5.out.all
        go_wp2_with fail
        exact bodyPost_ret (results_tp1 rfl _ HH.out rfl) rfl HR.out
      · have hrk : r < k := by
          rcases HSI.out.kind with x | ⟨x, _⟩
          · exact absurd x he
          · rw [HU.out.n] at x; exact x
        obtain ⟨bb, bo, rfl, _, _, hbc⟩ := (ints_own HA5.out.beg).lies (by omega)
        have cb := hbc r hrk
        have dn : (e != 0) = true := by rw [bne_iff_ne]; exact he
        obtain ⟨Y, hY⟩ : ∃ Y, gI bs r = Y := ⟨_, rfl⟩
        rw [hY] at cb
        have HF5 := Lib.hid (fail_any F w5 g l _ (Lib.hid HA5.out.rs) e Y he)
        have HYb : Hid (Y = ((itS blk (s0F l) r).p : Nat)) := Lib.hid (by rw [← hY]; exact HU.out.bg r hrk)
        have HE := Lib.hid he
        clear hbc hY he
        go_wp2_with fail
        refine HF5.out.mono ?_
        rintro x w6 ⟨rfl, hr6, hc6⟩
        have HA6 := Lib.hid (HA5.out.rd hr6 hc6)
        have HT : Hid (TapeIs blk l k (failS (finS l (itS blk (s0F l) k)) e Y)) := Lib.hid ⟨L, r, e, HEnd.out, HU.out.n, HU.out.id, HSI.out, by unfold endS; rw [if_neg HE.out, HYb.out]⟩
        clear hr6 hc6 HF5 HA5 cb
        have HR : Hid (TapeE F blk w g l (.returned (.agg #[.int .i64 M, .int .i64 m, .slice B k c])) (tpPut w6 g0 M m B k c)) := Lib.hid (by
          have h1 := HA6.out
          rw [← HMm.out.1, ← HMm.out.2.1] at h1 ⊢
          exact h1.made HT.out)
        have HH := Lib.hid (tpPut_heap HA6.out.res M m B k c)
        obtain ⟨⟨a0, a1, a2⟩, ⟨b0, b1, b2⟩, f0, f1, f2⟩ := HA6.out.all
        go_wp2_with fail
        exact bodyPost_ret (results_tp1 rfl _ HH.out rfl) rfl HR.out

end Go.Proofs.Ythlaglhlmbkniaa
