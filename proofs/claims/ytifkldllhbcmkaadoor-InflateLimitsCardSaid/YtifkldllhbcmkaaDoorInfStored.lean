/- Kind 0: stored. -/
import Derived.Test.YtifkldllhbcmkaaDoorInfKind1
import Derived.Deep.AppendLies
namespace Go.Proofs.YtifkldllhbcmkaaDoor
open Go.RowKit
set_option linter.unusedVariables false
set_option linter.unusedSimpArgs false

/-- What came out is o2 now, wherever it lies. -/
theorem UAt.grow' {c : Cx} {w wa w' : World} {ob : Option Nat} {p n : Nat} {v2 : Value} {o o2 : List Int} (h : UAt c w ob p o) (hwa : Below w.heap.size w wa) (hg : wa.grownBy w' ob)
    (hrow : w'.ownsRow (c.gu + 1) 5 1 v2 n (o2.map u8I)) (hn : n = o2.length) (hat : ∀ k, v2.ownBlock = some k → ob = some k ∨ w.heap.size ≤ k) (h8 : Byte8 o2) (hl : o2.length ≤ c.lim) :
    UAt c (w'.setCell ⟨c.gu, 1, none⟩ v2) v2.ownBlock p o2 ∧ Mv c w ob (w'.setCell ⟨c.gu, 1, none⟩ v2) v2.ownBlock := by
  have hgu := h.gu
  have hob := h.ob
  have hgb := h.bits.lt
  have b1 := c.b1
  have b2 := c.b2
  subst hn
  have hgg : ∀ k, v2.ownBlock = some k → c.gu + 1 ≤ k := fun k hk => by
    rcases hrow.2 with ⟨rfl, _⟩ | ⟨g', cap', cur, rfl, hb', _⟩
    · simp [Value.ownBlock] at hk
    · simp only [Value.ownBlock, Option.some.injEq] at hk
      omega
  have hC : Ch (fun k => k = c.gu ∨ ob = some k) w (w'.setCell ⟨c.gu, 1, none⟩ v2) := by
    refine ⟨?_, ?_, ?_, ?_, fun k hk hF => ?_⟩
    · exact hg.os.trans hwa.os
    · exact hg.tape.trans hwa.tape
    · exact hg.output.trans hwa.output
    · have := hg.size; have := hwa.size; simp [World.setCell]; omega
    · rw [Below.heap_setCell _ _ _ _ (fun e => hF (Or.inl e))]
      have := hwa.size
      exact (hg.block k (by omega) (fun e => hF (Or.inr e.symm))).trans (hwa.block k hk)
  have hM : Mv c w ob (w'.setCell ⟨c.gu, 1, none⟩ v2) v2.ownBlock :=
    ⟨hC.weak fun i hi => by rcases hi with x | x; exact Or.inl x; exact Or.inr (Or.inr x), hat⟩
  refine ⟨?_, hM⟩
  obtain ⟨⟨v, fs, fd, h1, h2, h3, h4⟩, h5, h6, h7⟩ := h
  have hnob : ∀ k, k ≤ c.gu → some k ≠ ob := fun k hk e => by have := (hob k e.symm).1; omega
  have hws := hwa.size
  have e1 : w'.heap[c.gu]? = some (.cells (uC c v fs fd) 37 (0, 0)) := (hg.block _ (by omega) (hnob _ (Nat.le_refl _))).trans ((hwa.block _ hgu).trans h1)
  refine ⟨⟨v2, fs, fd, ?_, rfl, own_kept' hrow fun k hk e => ?_, h4.mv hM⟩, ?_, h8, hl⟩
  · rw [heap_setCell_same w' c.gu 1 _ _ _ e1]; rfl
  · exact Below.heap_setCell _ _ _ _ (fun x => by
      have : k = c.gu := x
      have := hgg k e
      omega)
  · exact h5.ch hC (fun x => by
      rcases x with x | x
      · omega
      · have := (hob _ x).1; omega) fun k hk x => by
        rcases x with x | x
        · omega
        · have := (hob _ x).1; omega

/-- 'append(xs, ys...)': xs a row of the call's own, ys whatever bytes; where the new row lies. -/
theorem wpList_append_out {P : Program} {ops : Array Oper} {rest : List Oper} {o : Oper} {a : Act} {Q : Exit → Act → World → Prop} {wr : World} (base : Nat) (e t : TypeId)
    (hinfo : (P.info? e).map (fun i => (i.zero, i.size, i.bytes)) = some (some (.int .u8 0), 1, 1)) (ht : P.underlying t = some (.slice e))
    (hgd : o.guard = none) (s x : Operand) (ho : o.op = .call { callee := .builtin .append, args := #[s, x], argTypes := #[t, t] })
    (v : Value) (n : Nat) (xs : List Int) (hs : a.eval s = v) (hown : wr.ownsRow base e 1 v n (xs.map u8I))
    {F : Nat → Prop} {A : Option Addr} {m cap : Nat} {ys : List Int} (hx : a.eval x = .slice A m cap) (hy : BAt8 F wr A m cap ys) (hbytes : n + m ≤ 2000000) (hbase : base ≤ wr.heap.size)
    (h : ∀ v' w', w'.ownsRow base e 1 v' (n + m) ((xs ++ ys).map u8I) → wr.grownBy w' v.ownBlock → (∀ k, v'.ownBlock = some k → v.ownBlock = some k ∨ wr.heap.size ≤ k) → wpList P ops Q rest (a.put o.dst v') w') : wpList P ops Q (o :: rest) a wr := by
  have hl := hy.len
  have hz := hy.nil
  have hf := hy.fit
  obtain ⟨i0, hi, hz0, hz1, hz2⟩ := info_parts hinfo
  rcases A with _ | ad
  · have hc := hz rfl
    have hm : m = 0 := by omega
    obtain rfl : ys = [] := List.eq_nil_of_length_eq_zero (by omega)
    subst hm hc
    refine wpList_append_own_none hgd s x t ho base e i0 1 ht hi v n _ hs hown hx (h v wr ?_ ⟨rfl, rfl, rfl, Nat.le_refl _, fun _ _ _ => rfl⟩ fun k hk => Or.inl hk)
    simpa using hown
  · by_cases hm : 0 < m
    · refine wpList_append_lies wr hgd s x t ho base e i0 _ 1 1 ht hi hz0 hz1 hz2 rfl (by decide) v n _ hs hown ad m cap (ys.map u8I) hx (by simp [hl]) (news_u8 hy) (u8I_one ys) hm (by unfold maxLen; omega) (by omega) hbase wr.heap.size rfl (fun g c2 w' h1 h2 h3 _ => h _ w' ?_ h2 fun k hk => ?_)
      · rw [List.map_append]; exact h1
      · simp only [Value.ownBlock, Option.some.injEq] at hk
        subst hk
        rcases h3 with h3 | h3
        · exact Or.inl h3
        · exact Or.inr (by omega)
    · obtain rfl : m = 0 := by omega
      obtain rfl : ys = [] := List.eq_nil_of_length_eq_zero (by omega)
      refine wpList_plain hgd fun K hK => ?_
      obtain ⟨v', w', hr, h2, h3, h4⟩ := run_append_own (P := P) wr base t o.type e i0 _ 1 1 ht hi hz0 hz1 hz2 rfl (by decide) v n _ hown ad 0 cap ([] : List Value) (by simp) (by intro j u hu; simp at hu) (by intro u hu; simp at hu) (by unfold maxLen; omega) (by omega) hbase
      unfold Oper.wp execOp
      simp only [ho, resolve, invoke, builtin, Sem.run_bind, Sem.run_pure, Result.andThen_ok, List.map_toArray, List.map_cons, List.map_nil, hs, hx, hr]
      refine hK _ _ (h v' w' (by simpa using h2) h3 fun k hk => ?_)
      rcases hown.2 with ⟨rfl, hn⟩ | ⟨g, cap', cur, rfl, hb', hg, hnc, hmx, hsz, htk⟩
      · rw [h4.2 ⟨rfl, rfl⟩] at hk
        simp [Value.ownBlock] at hk
      · have hr2 := run_append_room (P := P) (w := wr) t o.type e i0 ht hi g n cap' cur hg ad 0 cap [] (by simp) (by intro j u hu; simp at hu) (by intro u hu; simp at hu) (by omega) (by rw [hz1]; simp; omega)
        rw [hr] at hr2
        injection hr2 with e1 e2
        rw [e1] at hk
        exact Or.inl hk
theorem nat_xor_all (n : Nat) (h : n < 65536) : n ^^^ 65535 = 65535 - n := by
  refine Nat.eq_of_testBit_eq fun i => ?_
  have e1 : (65535 : Nat) = 2 ^ 16 - 1 := by decide
  have e2 : 65535 - n = 2 ^ 16 - (n + 1) := by omega
  rw [Nat.testBit_xor, e2, Nat.testBit_two_pow_sub_succ (by omega), e1, Nat.testBit_two_pow_sub_one]
  by_cases hi : i < 16
  · simp [hi]
  · have : n.testBit i = false := Nat.testBit_lt_two_pow (Nat.lt_of_lt_of_le h (Nat.pow_le_pow_right (show 0 < 2 by decide) (show 16 ≤ i by omega)))
    simp [hi, this]
theorem xor_all (n : Nat) (h : n < 65536) : bits .xor .i64 (n : Int) 65535 = ((65535 - n : Nat) : Int) := by
  show IntKind.i64.wrap ((BitVec.ofInt 64 (n : Int) ^^^ BitVec.ofInt 64 ((65535 : Nat) : Int)).toNat : Int) = _
  rw [BitVec.toNat_xor, ofInt_u64 n (by omega), ofInt_u64 65535 (by omega), nat_xor_all n h, IntKind.wrap_i64]
  omega
theorem take_lt {bs : List Int} {n p v q : Nat} (h : takeM bs n p = .ok (v, q)) : v < 2 ^ n ∧ q = p + n ∧ p + n ≤ 8 * bs.length := by
  unfold takeM at h
  split at h
  · simp only [Except.ok.injEq, Prod.mk.injEq] at h
    have := lo_lt (bitsF bs p) (fun j => bitsF_le _ _ _) n
    omega
  · cases h
set_option maxHeartbeats 6400000 in
theorem stored_u (c : Cx) (w : World) (ob : Option Nat) (p : Nat) (o : List Int) (h : UAt c w ob p o) :
    Calls Tryd.prog 14 #[.pointer (some ⟨c.gu, 0, none⟩)] w (GaveO c w ob (storedM c.bs c.lim p o)) := by
  obtain ⟨v, fs, fd, c0, _, _, _, _, _, _, _⟩ := h.cells
  have hbs := c.hbs
  have hlim := c.hlim
  have HB0 := Lib.hid (fun u ob' (hu : Mv c w ob u ob') => h.mvBelow hu)
  have H1 := Lib.hid (align_any _ w c.gb c.bs p h.bits hbs)
  have HH := Lib.hid h
  clear h
  go_enter Tryd.func14, Tryd.ntmps14
  go_wp2_with fail
  refine H1.out.mono ?_
  rintro e w1 ⟨rfl, hb1, hc1⟩
  have HU1 := Lib.hid (HH.out.bitsMv hb1 hc1)
  have HM1 := Lib.hid (Mv.bits (c := c) (ob := ob) hc1)
  have H2 := Lib.hid (take_u c w1 ob _ o 16 (by omega) HU1.out)
  clear hb1 hc1 H1 c0
  go_wp2_with fail
  refine H2.out.mono ?_
  rintro e w2 (⟨n, q, hR1, rfl, hU, hM⟩ | ⟨x, hR1, hx, rfl, hb⟩)
  · have HU2 := Lib.hid hU
    have HM2 := Lib.hid (HM1.out.then hM)
    obtain ⟨hn, _, _⟩ := take_lt hR1
    have H3 := Lib.hid (take_u c w2 ob _ o 16 (by omega) HU2.out)
    have HR1 := Lib.hid hR1
    clear hU hM hR1 H2 HM1 HU1
    go_wp2_with fail
    refine H3.out.mono ?_
    rintro e w3 (⟨m, r, hR2, rfl, hU, hM⟩ | ⟨x, hR2, hx, rfl, hb⟩)
    · have HU3 := Lib.hid hU
      have HM3 := Lib.hid (HM2.out.then hM)
      obtain ⟨hm, _, _⟩ := take_lt hR2
      have HF : Hid (storedM c.bs c.lim p o = if m + n ≠ 65535 then .error 4 else if c.lim - o.length < n then .error 8 else if upB r + n ≤ c.bs.length then .ok (o ++ (c.bs.drop (upB r)).take n, 8 * (upB r + n)) else .error 2) := Lib.hid (by
        unfold storedM; rw [HR1.out, bnd_ok, hR2, bnd_ok])
      have hxr := xor_all n (by omega)
      clear hR2 HR1 hU hM H3 HM2 HU2
      by_cases hmn : m + n = 65535
      · have d1 : (m : Int) = ((65535 - n : Nat) : Int) := by omega
        have d2 : ((m : Int) == ((65535 - n : Nat) : Int)) = true := by rw [beq_iff_eq]; exact d1
        clear d1
        generalize 65535 - n = Y at *
        by_cases h8 : c.lim - o.length < n
        · have H4 := Lib.hid (room_u c w3 ob r o n (by omega) HU3.out false (by rw [eq_comm, decide_eq_false_iff_not]; omega))
          go_wp2_with fail
          refine H4.out.mono ?_
          rintro e w4 ⟨rfl, hb4⟩
          have HE : Hid (GaveO c w ob (storedM c.bs c.lim p o) (.returned (.int .i64 8)) w4) := Lib.hid (Or.inr ⟨8, by rw [HF.out, if_neg (by omega), if_pos h8], by omega, rfl, HB0.out _ _ (HM3.out.then (Mv.new hb4))⟩)
          clear hb4
          go_wp2_with fail
          go_ret
          exact HE.out
        have H4 := Lib.hid (room_u c w3 ob r o n (by omega) HU3.out true (by rw [eq_comm, decide_eq_true_iff]; omega))
        go_wp2_with fail
        refine H4.out.mono ?_
        rintro e w4 ⟨rfl, hb4⟩
        have hU4 := HU3.out.below hb4
        have HU4 := Lib.hid hU4
        have HM4 := Lib.hid (HM3.out.then (Mv.new hb4))
        obtain ⟨v, fs, fd, c0, _, _, _, _, _, _, _⟩ := hU4.cells
        by_cases hlen : upB r + n ≤ c.bs.length
        · have H5 := Lib.hid (bytesN_yes _ c.gb c.bs r n w4 hU4.bits hlen hbs)
          clear hU4 hb4 H4 HU3 HM3
          go_wp2_with fail
          refine H5.out.mono ?_
          rintro e w5 ⟨A, cap, rfl, hB, hb5, hc5⟩
          have hU5 := HU4.out.bitsMv hb5 hc5
          have HU5 := Lib.hid hU5
          have HM5 := Lib.hid (HM4.out.then (Mv.bits hc5))
          obtain ⟨v5, fs5, fd5, _, c1, _, _, _, hv, hO, _⟩ := hU5.cells
          have f1 := hU5.frozen 1
          have hgu := hU5.gu
          obtain ⟨A5, cap5, rfl, hcap, hmax⟩ := own_slice hO
          have HO := Lib.hid hO
          have HBy := Lib.hid hB
          have hL := hB.len
          have hBf := hB.fit
          have hBm := hB.max
          have hmx := hmax
          have hol : o.length ≤ 1048576 := by have := hU5.lim; omega
          have hfin : Hid (o.length + n ≤ c.lim) := Lib.hid (by have := hU5.lim; omega)
          unfold maxLen at hmx hBm
          have HG : Hid (storedM c.bs c.lim p o = .ok (o ++ (c.bs.drop (upB r)).take n, 8 * (upB r + n))) := Lib.hid (by rw [HF.out, if_neg (by omega), if_neg h8, if_pos hlen])
          have h8' : Hid (Byte8 (o ++ (c.bs.drop (upB r)).take n)) := Lib.hid (hU5.by8.app hB.bd)
          have HS := Lib.hid (fun (u : World) (hu : w5.grownBy u ob) => show u.cell? ⟨c.gu, 1, none⟩ = some (.slice A5 o.length cap5) ∧ u.frozen? ⟨c.gu, 1, none⟩ = false from
            ⟨(World.cell?_of_block (a := ⟨c.gu, 1, none⟩) (HU5.out.grown (Below.refl _ _) hu)).trans c1, (World.frozen?_of_block (a := ⟨c.gu, 1, none⟩) (HU5.out.grown (Below.refl _ _) hu)).trans f1⟩)
          clear hU5 hB hb5 hc5 hO H5 HF HU4 HM4
          go_wp2_with (first
            | (at_builtin
               refine wpList_append_out (P := Tryd.prog) (c.gu + 1) 5 22 info8 Tryd.underlying22 rfl (.tmp 52) (.tmp 53) rfl (.slice A5 o.length cap5) o.length o rfl HO.out rfl HBy.out (by omega) (by omega) ?_
               intro v6 w6 k1 k2 k3
               have k2' : w5.grownBy w6 ob := by rw [← hv]; exact k2
               obtain ⟨d1, d2⟩ := HS.out w6 k2'
               obtain ⟨A6, cap6, rfl, hcap6, hmax6⟩ := own_slice k1
               have HE : Hid (GaveO c w ob (storedM c.bs c.lim p o) (.returned (.int .i64 0)) (w6.setCell ⟨c.gu, 1, none⟩ (.slice A6 (o.length + n) cap6))) := Lib.hid (by
                 obtain ⟨l1, l2⟩ := HU5.out.grow' (o2 := o ++ (c.bs.drop (upB r)).take n) (Below.refl _ _) k2' k1 (by rw [List.length_append, hL]) (fun k hk => by have := k3 k hk; rw [← hv]; exact this) h8'.out (by rw [List.length_append, hL]; exact hfin.out)
                 exact Or.inl ⟨_, _, _, HG.out, rfl, l1, HM5.out.then l2⟩)
               clear k1 k2 k3 k2' c1 f1))
          go_ret
          exact HE.out
        · have H5 := Lib.hid (bytesN_no _ c.gb c.bs r n w4 hU4.bits (Or.inr (by omega)) hbs)
          clear hU4 hb4 H4 HU3 HM3
          go_wp2_with fail
          refine H5.out.mono ?_
          rintro e w5 ⟨rfl, k, rfl⟩
          have HE : Hid (GaveO c w ob (storedM c.bs c.lim p o) (.returned (.int .i64 2)) (w4.drewN k)) := Lib.hid (Or.inr ⟨2, by rw [HF.out, if_neg (by omega), if_neg h8, if_neg hlen], by omega, rfl, HB0.out _ _ (HM4.out.then (Mv.new (bdrawn (Below.refl _ _) k)))⟩)
          go_wp2_with fail
          go_ret
          exact HE.out
      · have d1 : ¬ (m : Int) = ((65535 - n : Nat) : Int) := by omega
        have d2 : ((m : Int) == ((65535 - n : Nat) : Int)) = false := by rw [beq_eq_false_iff_ne]; exact d1
        clear d1
        generalize 65535 - n = Y at *
        have HE : Hid (GaveO c w ob (storedM c.bs c.lim p o) (.returned (.int .i64 4)) w3) := Lib.hid (Or.inr ⟨4, by rw [HF.out, if_pos hmn], by omega, rfl, HB0.out _ _ HM3.out⟩)
        go_wp2_with fail
        go_ret
        exact HE.out
    · have hn := nz hx
      have HE : Hid (GaveO c w ob (storedM c.bs c.lim p o) (.returned (.int .i64 (x : Nat))) w3) := Lib.hid (Or.inr ⟨x, by unfold storedM; rw [HR1.out, bnd_ok, hR2]; rfl, hx, rfl, (HB0.out _ _ HM2.out).trans hb⟩)
      clear hR2 hx hb H3
      go_wp2_with fail
      go_ret
      exact HE.out
  · have hn := nz hx
    have HE : Hid (GaveO c w ob (storedM c.bs c.lim p o) (.returned (.int .i64 (x : Nat))) w2) := Lib.hid (Or.inr ⟨x, by unfold storedM; rw [hR1]; rfl, hx, rfl, (HB0.out _ _ HM1.out).trans hb⟩)
    clear hR1 hx hb H2
    go_wp2_with fail
    go_ret
    exact HE.out

end Go.Proofs.YtifkldllhbcmkaaDoor
