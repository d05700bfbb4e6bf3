/- The document's Wrong: its contract. -/
import Derived.Test.YthlaglhlmbkniaaTzxSound
import Derived.Laws.AppendOwnNone
namespace Go.Proofs.Ythlaglhlmbkniaa
open Go.RowKit
set_option linter.unusedVariables false
set_option linter.unusedSimpArgs false
set_option maxRecDepth 100000

theorem news_i64 {F : Nat → Prop} {w : World} {a : Addr} {n cap : Nat} {l : List Int} (h : IAt F w (some a) n cap l) : ∀ j u, (l.map i64I)[j]? = some u → w.cell? (a.add j) = some u := by
  intro j u hu
  have hj : j < l.length := by have := (List.getElem?_eq_some_iff.1 hu).1; simpa using this
  have hl := h.len
  obtain ⟨b, o, e, _, _, hc⟩ := h.lies (by omega)
  injection e with e
  subst e
  rw [i64I_at l j hj] at hu
  rw [Go.WideShapes.add_plain, hc j (by omega)]
  exact hu
/-- 'append(xs, ys...)': xs a row of the call's own of numbers, ys whatever numbers. -/
theorem wpList_append_ints {P : Program} {ops : Array Oper} {rest : List Oper} {o : Oper} {a : Act} {Q : Exit → Act → World → Prop} {wr : World} (base : Nat) (t : TypeId)
    (hinfo : (P.info? 3).map (fun i => (i.zero, i.size, i.bytes)) = some (some (.int .i64 0), 1, 8)) (ht : P.underlying t = some (.slice 3))
    (hgd : o.guard = none) (s x : Operand) (ho : o.op = .call { callee := .builtin .append, args := #[s, x], argTypes := #[t, t] })
    (v : Value) (n : Nat) (xs : List Int) (hs : a.eval s = v) (hown : wr.ownsRow base 3 1 v n (xs.map i64I))
    {F : Nat → Prop} {A : Option Addr} {m cap : Nat} {ys : List Int} (hx : a.eval x = .slice A m cap) (hy : IAt F wr A m cap ys) (hbytes : (n + m) * 8 ≤ 140737488355328) (hbase : base ≤ wr.heap.size)
    (h : ∀ v' w', w'.ownsRow base 3 1 v' (n + m) ((xs ++ ys).map i64I) → Below base wr w' → wpList P ops Q rest (a.put o.dst v') w') : wpList P ops Q (o :: rest) a wr := by
  have hl := hy.len
  have hz := hy.nil
  have hf := hy.fit
  rcases A with _ | ad
  · have hc := hz rfl
    have hm : m = 0 := by omega
    obtain rfl : ys = [] := List.eq_nil_of_length_eq_zero (by omega)
    subst hm hc
    obtain ⟨i0, hi, _, _, _⟩ := info_parts hinfo
    refine wpList_append_own_none hgd s x t ho base 3 i0 1 ht hi v n _ hs hown hx (h v wr ?_ (Below.refl _ _))
    simpa using hown
  · refine wpList_append_row base 3 t hinfo ht rfl hgd s x ho v n _ hs hown ad m cap (ys.map i64I) hx (by simp [hl]) (news_i64 hy) (i64I_one ys) (by decide) (by omega) hbase (fun v' w' h1 h2 => h v' w' ?_ h2)
    rw [List.map_append]
    exact h1
/-- Does one of some numbers lead from block i to none of n? -/
def farT (T : List Int) (n i : Nat) : Prop := ∃ j, j < T.length ∧ away n i (gI T j)
attribute [local simp ↓ high] blkLoad_as blkStore_as blkAlloc_as
set_option maxHeartbeats 12800000 in
theorem wrong_any (F : Nat → Prop) (w : World) (B : Option Addr) (n c : Nat) (L : List Lb) (h : BlAt F w B n c L) (hn : n ≤ 1000000) (i : Nat) (hin : i < n) (ht5 : (gL L i).ts.length ≤ 1000000 ∧ (gL L i).ns.length ≤ 1000000) :
    Calls Try.prog 21 #[.slice B n c, .int .i64 (i : Nat)] w fun x w' => x = .returned (.int .i64 (wrongF L i)) ∧ Below w.heap.size w w' := by
  have hal := run_blkAlloc
  have HN := Lib.hid h.len
  obtain ⟨g, rfl, _, hgl, hcs⟩ := h.lies (by omega)
  obtain ⟨cs, hm, hv⟩ := hcs i hin
  have hld := run_blkLoad hm
  have hb1 := BIn.new w (cs := blkZ) rfl
  have hst := run_blkStore hb1 hv.size hv.one
  obtain ⟨hb2, hc2⟩ := hb1.put (cs := cs) hv.size
  obtain ⟨W2, hW2⟩ : ∃ W2, (w.alloc (.cells blkZ 30)).setRow w.heap.size cs = W2 := ⟨_, rfl⟩
  rw [hW2] at hst hb2 hc2
  have hbel : Below w.heap.size w W2 := (bnew w _).trans (hc2.below (fun k hk => by rw [hk]; exact Nat.le_refl _) (by simp))
  have HJ : Hid (∀ j, j < n → W2.cell? ⟨g, j * 18, none⟩ = some (.int .i64 (gL L j).id)) := Lib.hid (fun j hj => by
    obtain ⟨cj, h5, h6⟩ := hcs j hj
    exact (World.cell?_of_block (a := ⟨g, j * 18, none⟩) (hbel.block g hgl)).trans ((h5.2 0 (by omega)).trans h6.id))
  have hv2 := hv.below hbel
  obtain ⟨h1, h2, hid, ⟨At, mt, ct, h4, h5⟩, Ai, mi, ci, h6, h7⟩ := hv2
  have c0 := hb2.cell hid
  have c13 := hb2.cell h4
  have c14 := hb2.cell h6
  have HT := Lib.hid (fun u (hu : Below W2.heap.size W2 u) => h5.below hu)
  have HI := Lib.hid (fun u (hu : Below W2.heap.size W2 u) => h7.keep hu.size fun k hk _ => hu.block k hk)
  have HTl := Lib.hid h5.len
  have HIl := Lib.hid h7.len
  have HBl := Lib.hid hbel
  have HB := Lib.hid hb2
  have hlt5 : mt ≤ 1000000 := by rw [← h5.len]; exact ht5.1
  have hlt6 : mi ≤ 1000000 := by rw [← h7.len]; exact ht5.2
  obtain ⟨gb, hgb⟩ : ∃ gb, w.heap.size = gb := ⟨_, rfl⟩
  rw [hgb] at hst c0 c13 c14 HB
  obtain ⟨y, hy⟩ : ∃ y, (gL L i).id = y := ⟨_, rfl⟩
  have HY := Lib.hid hy
  rw [hy] at c0
  have HGb := Lib.hid hgb
  have ht1 := h5.fit
  have ht2 := h5.max
  have hi1 := h7.fit
  have hi2 := h7.max
  unfold maxLen at ht2 hi2
  clear h ht5 hm hv hb1 hc2 hW2 hbel h1 h2 hid h4 h5 h6 h7 hb2 hcs hgl hy
  go_enter Try.func21, Try.ntmps21
  go_wp2_with fail
  clear hgb hst hld hal
  go_loopw [6] (fun v wr => ∃ k : Int, v = .int .i64 k ∧ (k = 0 ∨ k = 1 ∨ k = 2) ∧ wr = W2 ∧ Hid ((1 ≤ k → ¬ loopBad L 36 37 i) ∧ (2 ≤ k → ¬ loopBad L 33 34 i))) (fun v _ => 2 - (intOf v).toNat)
  case atStart => exact ⟨0, rfl, by omega, rfl, Lib.hid ⟨fun x => absurd x (by omega), fun x => absurd x (by omega)⟩⟩
  case round =>
    obtain ⟨k, rfl, hk, rfl, HK⟩ := hrel
    rcases hk with rfl | rfl | rfl
    · go_wp2_with fail
      go_loopw [9, 11] (fun o v wx => ∃ j : Nat, v = .int .i64 j ∧ j ≤ i ∧ wx = wr ∧ o = .bool (openF L 36 37 j)) (fun _ v _ => i - (intOf v).toNat)
      case atStart => exact ⟨0, rfl, by omega, rfl, rfl⟩
      case round =>
        obtain ⟨j, rfl, hj, rfl, rfl⟩ := hrel
        by_cases hlt : j < i
        · have cj := HJ.out j (by omega)
          obtain ⟨z, hz⟩ : ∃ z, (gL L j).id = z := ⟨_, rfl⟩
          rw [hz] at cj
          obtain ⟨q, hq⟩ : ∃ q, openF L 36 37 j = q := ⟨_, rfl⟩
          rw [hq]
          have HO : Hid (openF L 36 37 (j + 1) = if z = 36 then true else if z = 37 then false else q) := Lib.hid (by rw [openF, hz, hq])
          have hjn : j < n := by omega
          clear hz hq
          by_cases e1 : z = 36
          · subst e1
            have HO2 : Hid (openF L 36 37 (j + 1) = true) := Lib.hid HO.out
            go_wp2_with fail
            go_roundw
            case rel => exact ⟨j + 1, by go_num, by omega, trivial, by rw [HO2.out]⟩
            case measure => simp [intOf]; omega
          · have d1 : (z == 36) = false := by rw [beq_eq_false_iff_ne]; exact e1
            have d1' : decide (z = 36) = false := decide_eq_false e1
            by_cases e2 : z = 37
            · subst e2
              have HO2 : Hid (openF L 36 37 (j + 1) = false) := Lib.hid HO.out
              clear e1 d1 d1'
              go_wp2_with fail
              go_roundw
              case rel => exact ⟨j + 1, by go_num, by omega, trivial, by rw [HO2.out]⟩
              case measure => simp [intOf]; omega
            · have d2 : (z == 37) = false := by rw [beq_eq_false_iff_ne]; exact e2
              have d2' : decide (z = 37) = false := decide_eq_false e2
              have HO2 : Hid (openF L 36 37 (j + 1) = q) := Lib.hid (by rw [HO.out, if_neg e1, if_neg e2])
              go_wp2_with fail
              go_roundw
              case rel => exact ⟨j + 1, by go_num, by omega, trivial, by rw [HO2.out]⟩
              case measure => simp [intOf]; omega
        · have hji : j = i := by omega
          subst hji
          obtain ⟨q, hq⟩ : ∃ q, openF L 36 37 j = q := ⟨_, rfl⟩
          rw [hq]
          have HQ := Lib.hid hq
          clear hq
          go_wp2_with fail
          go_loopw [10, 12] (fun o v wx => ∃ (m : Nat) (t : Bool), v = .int .i64 m ∧ j < m ∧ m ≤ n ∧ wx = wr ∧ o = .bool t ∧ Hid (t = true ↔ ∃ x, j < x ∧ x < m ∧ (gL L x).id = 37)) (fun _ v _ => n - (intOf v).toNat)
          case atStart => exact ⟨j + 1, false, by go_num, by omega, by omega, rfl, rfl, Lib.hid ⟨fun x => (by cases x), fun ⟨x, h1, h2, _⟩ => absurd h1 (by omega)⟩⟩
          case round =>
            obtain ⟨m, t, rfl, hm0, hm, rfl, rfl, HTt⟩ := hrel
            by_cases hlt2 : m < n
            · have cm := HJ.out m hlt2
              obtain ⟨z, hz⟩ : ∃ z, (gL L m).id = z := ⟨_, rfl⟩
              rw [hz] at cm
              obtain ⟨d, hd⟩ : ∃ d, (z == 37) = d := ⟨_, rfl⟩
              have HN2 : Hid ((t || d) = true ↔ ∃ x, j < x ∧ x < m + 1 ∧ (gL L x).id = 37) := Lib.hid (by
                rw [Bool.or_eq_true, HTt.out, ← hd, beq_iff_eq]
                constructor
                · rintro (⟨x, h1, h2, h3⟩ | h3)
                  · exact ⟨x, h1, by omega, h3⟩
                  · exact ⟨m, hm0, by omega, hz.trans h3⟩
                · rintro ⟨x, h1, h2, h3⟩
                  by_cases hx : x = m
                  · subst hx; exact Or.inr (hz.symm.trans h3)
                  · exact Or.inl ⟨x, h1, by omega, h3⟩)
              clear hz
              cases t
              all_goals
                go_wp2_with fail
                go_roundw
                case rel => exact ⟨m + 1, _, by go_num, by omega, by omega, trivial, rfl, by first | exact HN2 | simpa using HN2⟩
                case measure => simp [intOf]; omega
            · have hmn : m = n := by omega
              have HLt : Hid (t = true ↔ laterP L 37 j) := Lib.hid (by rw [HTt.out, hmn]; unfold laterP; rw [HN.out])
              clear HTt
              by_cases e1 : y = 36
              · have d1 : (y == 36) = true := by rw [e1]; rfl
                have d2 : (y == 37) = false := by rw [e1]; rfl
                have hqt : (q = false ∧ t = true) ∨ (q = true ∨ t = false) := by cases q <;> cases t <;> simp
                rcases hqt with ⟨rfl, rfl⟩ | hqt
                · have HNB : Hid (¬ loopBad L 36 37 j) := Lib.hid (by
                    rintro (⟨_, h2 | h2⟩ | ⟨h1, _⟩)
                    · rw [HQ.out] at h2; cases h2
                    · exact h2 (HLt.out.1 rfl)
                    · rw [HY.out, e1] at h1; exact absurd h1 (by decide))
                  clear e1
                  go_wp2_with fail
                  go_roundw
                  case rel => exact ⟨1, by go_num, by omega, trivial, Lib.hid ⟨fun _ => HNB.out, fun x => absurd x (by omega)⟩⟩
                  case measure => simp [intOf]
                · have HBD : Hid (loopBad L 36 37 j) := Lib.hid (Or.inl ⟨HY.out.trans e1, hqt.imp (fun x => HQ.out.trans x) (fun x h3 => by have := HLt.out.2 h3; rw [x] at this; cases this)⟩)
                  have HW : Hid (wrongF L j = 6) := Lib.hid (wrong_loop (Or.inl HBD.out))
                  clear e1
                  cases q <;> cases t
                  · go_wp2_with fail
                    go_ret
                    exact ⟨congrArg (fun z => Ending.returned (.int .i64 z)) HW.out.symm, HBl.out⟩
                  · exact absurd hqt (by simp)
                  · go_wp2_with fail
                    go_ret
                    exact ⟨congrArg (fun z => Ending.returned (.int .i64 z)) HW.out.symm, HBl.out⟩
                  · go_wp2_with fail
                    go_ret
                    exact ⟨congrArg (fun z => Ending.returned (.int .i64 z)) HW.out.symm, HBl.out⟩
              · have d1 : (y == 36) = false := by rw [beq_eq_false_iff_ne]; exact e1
                by_cases e2 : y = 37
                · have d2 : (y == 37) = true := by rw [e2]; rfl
                  cases q
                  · have HBD : Hid (loopBad L 36 37 j) := Lib.hid (Or.inr ⟨HY.out.trans e2, HQ.out⟩)
                    have HW : Hid (wrongF L j = 6) := Lib.hid (wrong_loop (Or.inl HBD.out))
                    clear e1 e2
                    go_wp2_with fail
                    go_ret
                    exact ⟨congrArg (fun z => Ending.returned (.int .i64 z)) HW.out.symm, HBl.out⟩
                  · have HNB : Hid (¬ loopBad L 36 37 j) := Lib.hid (by
                      rintro (⟨h1, _⟩ | ⟨_, h1⟩)
                      · exact e1 (HY.out.symm.trans h1)
                      · rw [HQ.out] at h1; cases h1)
                    clear e1 e2
                    go_wp2_with fail
                    go_roundw
                    case rel => exact ⟨1, by go_num, by omega, trivial, Lib.hid ⟨fun _ => HNB.out, fun x => absurd x (by omega)⟩⟩
                    case measure => simp [intOf]
                · have d2 : (y == 37) = false := by rw [beq_eq_false_iff_ne]; exact e2
                  have HNB : Hid (¬ loopBad L 36 37 j) := Lib.hid (by
                    rintro (⟨h1, _⟩ | ⟨h1, _⟩)
                    · exact e1 (HY.out.symm.trans h1)
                    · exact e2 (HY.out.symm.trans h1))
                  clear e1 e2
                  go_wp2_with fail
                  go_roundw
                  case rel => exact ⟨1, by go_num, by omega, trivial, Lib.hid ⟨fun _ => HNB.out, fun x => absurd x (by omega)⟩⟩
                  case measure => simp [intOf]
    · go_wp2_with fail
      go_loopw [9, 11] (fun o v wx => ∃ j : Nat, v = .int .i64 j ∧ j ≤ i ∧ wx = wr ∧ o = .bool (openF L 33 34 j)) (fun _ v _ => i - (intOf v).toNat)
      case atStart => exact ⟨0, rfl, by omega, rfl, rfl⟩
      case round =>
        obtain ⟨j, rfl, hj, rfl, rfl⟩ := hrel
        by_cases hlt : j < i
        · have cj := HJ.out j (by omega)
          obtain ⟨z, hz⟩ : ∃ z, (gL L j).id = z := ⟨_, rfl⟩
          rw [hz] at cj
          obtain ⟨q, hq⟩ : ∃ q, openF L 33 34 j = q := ⟨_, rfl⟩
          rw [hq]
          have HO : Hid (openF L 33 34 (j + 1) = if z = 33 then true else if z = 34 then false else q) := Lib.hid (by rw [openF, hz, hq])
          have hjn : j < n := by omega
          clear hz hq
          by_cases e1 : z = 33
          · subst e1
            have HO2 : Hid (openF L 33 34 (j + 1) = true) := Lib.hid HO.out
            go_wp2_with fail
            go_roundw
            case rel => exact ⟨j + 1, by go_num, by omega, trivial, by rw [HO2.out]⟩
            case measure => simp [intOf]; omega
          · have d1 : (z == 33) = false := by rw [beq_eq_false_iff_ne]; exact e1
            have d1' : decide (z = 33) = false := decide_eq_false e1
            by_cases e2 : z = 34
            · subst e2
              have HO2 : Hid (openF L 33 34 (j + 1) = false) := Lib.hid HO.out
              clear e1 d1 d1'
              go_wp2_with fail
              go_roundw
              case rel => exact ⟨j + 1, by go_num, by omega, trivial, by rw [HO2.out]⟩
              case measure => simp [intOf]; omega
            · have d2 : (z == 34) = false := by rw [beq_eq_false_iff_ne]; exact e2
              have d2' : decide (z = 34) = false := decide_eq_false e2
              have HO2 : Hid (openF L 33 34 (j + 1) = q) := Lib.hid (by rw [HO.out, if_neg e1, if_neg e2])
              go_wp2_with fail
              go_roundw
              case rel => exact ⟨j + 1, by go_num, by omega, trivial, by rw [HO2.out]⟩
              case measure => simp [intOf]; omega
        · have hji : j = i := by omega
          subst hji
          obtain ⟨q, hq⟩ : ∃ q, openF L 33 34 j = q := ⟨_, rfl⟩
          rw [hq]
          have HQ := Lib.hid hq
          clear hq
          go_wp2_with fail
          go_loopw [10, 12] (fun o v wx => ∃ (m : Nat) (t : Bool), v = .int .i64 m ∧ j < m ∧ m ≤ n ∧ wx = wr ∧ o = .bool t ∧ Hid (t = true ↔ ∃ x, j < x ∧ x < m ∧ (gL L x).id = 34)) (fun _ v _ => n - (intOf v).toNat)
          case atStart => exact ⟨j + 1, false, by go_num, by omega, by omega, rfl, rfl, Lib.hid ⟨fun x => (by cases x), fun ⟨x, h1, h2, _⟩ => absurd h1 (by omega)⟩⟩
          case round =>
            obtain ⟨m, t, rfl, hm0, hm, rfl, rfl, HTt⟩ := hrel
            by_cases hlt2 : m < n
            · have cm := HJ.out m hlt2
              obtain ⟨z, hz⟩ : ∃ z, (gL L m).id = z := ⟨_, rfl⟩
              rw [hz] at cm
              obtain ⟨d, hd⟩ : ∃ d, (z == 34) = d := ⟨_, rfl⟩
              have HN2 : Hid ((t || d) = true ↔ ∃ x, j < x ∧ x < m + 1 ∧ (gL L x).id = 34) := Lib.hid (by
                rw [Bool.or_eq_true, HTt.out, ← hd, beq_iff_eq]
                constructor
                · rintro (⟨x, h1, h2, h3⟩ | h3)
                  · exact ⟨x, h1, by omega, h3⟩
                  · exact ⟨m, hm0, by omega, hz.trans h3⟩
                · rintro ⟨x, h1, h2, h3⟩
                  by_cases hx : x = m
                  · subst hx; exact Or.inr (hz.symm.trans h3)
                  · exact Or.inl ⟨x, h1, by omega, h3⟩)
              clear hz
              cases t
              all_goals
                go_wp2_with fail
                go_roundw
                case rel => exact ⟨m + 1, _, by go_num, by omega, by omega, trivial, rfl, by first | exact HN2 | simpa using HN2⟩
                case measure => simp [intOf]; omega
            · have hmn : m = n := by omega
              have HLt : Hid (t = true ↔ laterP L 34 j) := Lib.hid (by rw [HTt.out, hmn]; unfold laterP; rw [HN.out])
              clear HTt
              by_cases e1 : y = 33
              · have d1 : (y == 33) = true := by rw [e1]; rfl
                have d2 : (y == 34) = false := by rw [e1]; rfl
                have hqt : (q = false ∧ t = true) ∨ (q = true ∨ t = false) := by cases q <;> cases t <;> simp
                rcases hqt with ⟨rfl, rfl⟩ | hqt
                · have HNB : Hid (¬ loopBad L 33 34 j) := Lib.hid (by
                    rintro (⟨_, h2 | h2⟩ | ⟨h1, _⟩)
                    · rw [HQ.out] at h2; cases h2
                    · exact h2 (HLt.out.1 rfl)
                    · rw [HY.out, e1] at h1; exact absurd h1 (by decide))
                  clear e1
                  go_wp2_with fail
                  go_roundw
                  case rel => exact ⟨2, by go_num, by omega, trivial, Lib.hid ⟨fun _ => HK.out.1 (by omega), fun _ => HNB.out⟩⟩
                  case measure => simp [intOf]
                · have HBD : Hid (loopBad L 33 34 j) := Lib.hid (Or.inl ⟨HY.out.trans e1, hqt.imp (fun x => HQ.out.trans x) (fun x h3 => by have := HLt.out.2 h3; rw [x] at this; cases this)⟩)
                  have HW : Hid (wrongF L j = 6) := Lib.hid (wrong_loop (Or.inr HBD.out))
                  clear e1
                  cases q <;> cases t
                  · go_wp2_with fail
                    go_ret
                    exact ⟨congrArg (fun z => Ending.returned (.int .i64 z)) HW.out.symm, HBl.out⟩
                  · exact absurd hqt (by simp)
                  · go_wp2_with fail
                    go_ret
                    exact ⟨congrArg (fun z => Ending.returned (.int .i64 z)) HW.out.symm, HBl.out⟩
                  · go_wp2_with fail
                    go_ret
                    exact ⟨congrArg (fun z => Ending.returned (.int .i64 z)) HW.out.symm, HBl.out⟩
              · have d1 : (y == 33) = false := by rw [beq_eq_false_iff_ne]; exact e1
                by_cases e2 : y = 34
                · have d2 : (y == 34) = true := by rw [e2]; rfl
                  cases q
                  · have HBD : Hid (loopBad L 33 34 j) := Lib.hid (Or.inr ⟨HY.out.trans e2, HQ.out⟩)
                    have HW : Hid (wrongF L j = 6) := Lib.hid (wrong_loop (Or.inr HBD.out))
                    clear e1 e2
                    go_wp2_with fail
                    go_ret
                    exact ⟨congrArg (fun z => Ending.returned (.int .i64 z)) HW.out.symm, HBl.out⟩
                  · have HNB : Hid (¬ loopBad L 33 34 j) := Lib.hid (by
                      rintro (⟨h1, _⟩ | ⟨_, h1⟩)
                      · exact e1 (HY.out.symm.trans h1)
                      · rw [HQ.out] at h1; cases h1)
                    clear e1 e2
                    go_wp2_with fail
                    go_roundw
                    case rel => exact ⟨2, by go_num, by omega, trivial, Lib.hid ⟨fun _ => HK.out.1 (by omega), fun _ => HNB.out⟩⟩
                    case measure => simp [intOf]
                · have d2 : (y == 34) = false := by rw [beq_eq_false_iff_ne]; exact e2
                  have HNB : Hid (¬ loopBad L 33 34 j) := Lib.hid (by
                    rintro (⟨h1, _⟩ | ⟨h1, _⟩)
                    · exact e1 (HY.out.symm.trans h1)
                    · exact e2 (HY.out.symm.trans h1))
                  clear e1 e2
                  go_wp2_with fail
                  go_roundw
                  case rel => exact ⟨2, by go_num, by omega, trivial, Lib.hid ⟨fun _ => HK.out.1 (by omega), fun _ => HNB.out⟩⟩
                  case measure => simp [intOf]
    · have HK1 : Hid (¬ loopBad L 36 37 i) := Lib.hid (HK.out.1 (by omega))
      have HK2 : Hid (¬ loopBad L 33 34 i) := Lib.hid (HK.out.2 (by omega))
      by_cases k1 : y = 35 ∨ y = 38
      · have HFT : Hid (farBad L i ↔ farT (gL L i).ts n i) := Lib.hid (by
          unfold farBad farB farT
          rw [HY.out, HN.out]
          refine ⟨fun x => ?_, fun x => Or.inl ⟨k1, x⟩⟩
          rcases x with x | x
          · exact x.2
          · omega)
        have HTN := HTl
        have d40 : (y == 40) = false := by rw [beq_eq_false_iff_ne]; omega
        have hq : ∃ q : Bool, (y == 35) = q ∧ (q = false → (y == 38) = true) := ⟨_, rfl, fun x => by
          rw [beq_eq_false_iff_ne] at x
          rw [beq_iff_eq]
          exact k1.resolve_left x⟩
        obtain ⟨q, d1, d2'⟩ := hq
        have HD := Lib.hid d2'
        have HTw := Lib.hid (HT.out wr (Below.refl _ _))
        have HBw := Lib.hid (show wr.heap.size ≤ wr.heap.size from Nat.le_refl _)
        clear k1 d2'
        cases q
        · have d2 := HD.out rfl
          clear HD
          go_wp2_with (at_builtin; refine wpList_append_ints (P := Try.prog) wr.heap.size 22 infoI64 Try.underlying22 rfl (.tmp 92) (.tmp 94) rfl (.slice none 0 0) 0 [] rfl (World.ownsRow_nil _ _ _ _) rfl HTw.out (by omega) HBw.out ?_; intro v7 WX h7 hb7; have hrow : WX.ownsRow wr.heap.size 3 1 v7 mt ((gL L i).ts.map i64I) := (by simpa using h7); obtain ⟨A7, c7, rfl, hn7, hm7⟩ := own_slice hrow; have HS := Lib.hid (ints_own hrow); have HBW : Hid (Below w.heap.size w WX) := Lib.hid (HBl.out.trans (hb7.mono HBl.out.size)); have c0x := (hb7.cell (p := ⟨gb, 0, none⟩) HB.out.lt).trans c0; unfold maxLen at hm7; clear h7 hb7 hrow)
          clear d1 d2 d40
          go_loopw [15] (fun v wx => ∃ jj : Nat, v = .int .i64 jj ∧ jj ≤ mt ∧ wx = WX ∧ Hid (∀ j', j' < jj → ¬ away n i (gI (gL L i).ts j'))) (fun v _ => mt - (intOf v).toNat)
          case atStart => exact ⟨0, rfl, by omega, rfl, Lib.hid fun j' h' => absurd h' (by omega)⟩
          case round =>
            obtain ⟨jj, rfl, hj, rfl, HAs⟩ := hrel
            by_cases hlt : jj < mt
            · obtain ⟨b5, o5, rfl, _, _, hc5⟩ := HS.out.lies (by omega)
              have cj := hc5 jj hlt
              obtain ⟨x, hx⟩ : ∃ x, gI (gL L i).ts jj = x := ⟨_, rfl⟩
              rw [hx] at cj
              have HX := Lib.hid hx
              clear hc5 hx
              have hneg : wrap64 (-(n : Int)) = -(n : Int) := IntWalk.wrap64_in _ (by omega)
              by_cases haw : away n i x
              · have HE : Hid (wrongF L i = 5) := Lib.hid (wrong_far HK1.out HK2.out (HFT.out.2 ⟨jj, by rw [HTN.out]; exact hlt, by rw [HX.out]; exact haw⟩))
                rcases (show x < -(n : Int) ∨ (-(n : Int) ≤ x ∧ (n : Int) < x) ∨ (-(n : Int) ≤ x ∧ x ≤ n ∧ (i : Int) + x < 0) ∨ (-(n : Int) ≤ x ∧ x ≤ n ∧ 0 ≤ (i : Int) + x ∧ (n : Int) ≤ (i : Int) + x) by unfold away at haw; omega) with k1 | ⟨k1, k2⟩ | ⟨k1, k2, k3⟩ | ⟨k1, k2, k3, k4⟩
                · have d1 : decide (x < -(n : Int)) = true := decide_eq_true k1
                  clear haw
                  go_wp2_with fail
                  go_ret
                  exact ⟨congrArg (fun z => Ending.returned (.int .i64 z)) HE.out.symm, HBW.out⟩
                · have d1 : decide (x < -(n : Int)) = false := decide_eq_false (by omega)
                  have d2 : decide ((n : Int) < x) = true := decide_eq_true k2
                  clear haw
                  go_wp2_with fail
                  go_ret
                  exact ⟨congrArg (fun z => Ending.returned (.int .i64 z)) HE.out.symm, HBW.out⟩
                · have d1 : decide (x < -(n : Int)) = false := decide_eq_false (by omega)
                  have d2 : decide ((n : Int) < x) = false := decide_eq_false (by omega)
                  have hs : wrap64 ((i : Int) + x) = (i : Int) + x := IntWalk.wrap64_in _ (by omega)
                  have d3 : decide ((i : Int) + x < 0) = true := decide_eq_true k3
                  clear haw
                  go_wp2_with fail
                  go_ret
                  exact ⟨congrArg (fun z => Ending.returned (.int .i64 z)) HE.out.symm, HBW.out⟩
                · have d1 : decide (x < -(n : Int)) = false := decide_eq_false (by omega)
                  have d2 : decide ((n : Int) < x) = false := decide_eq_false (by omega)
                  have hs : wrap64 ((i : Int) + x) = (i : Int) + x := IntWalk.wrap64_in _ (by omega)
                  have d3 : decide ((i : Int) + x < 0) = false := decide_eq_false (by omega)
                  have d4 : decide ((n : Int) ≤ (i : Int) + x) = true := decide_eq_true k4
                  clear haw
                  go_wp2_with fail
                  go_ret
                  exact ⟨congrArg (fun z => Ending.returned (.int .i64 z)) HE.out.symm, HBW.out⟩
              · have k1 : -(n : Int) ≤ x := by unfold away at haw; omega
                have k2 : x ≤ n := by unfold away at haw; omega
                have k3 : 0 ≤ (i : Int) + x := by unfold away at haw; omega
                have k4 : (i : Int) + x < n := by unfold away at haw; omega
                have d1 : decide (x < -(n : Int)) = false := decide_eq_false (by omega)
                have d2 : decide ((n : Int) < x) = false := decide_eq_false (by omega)
                have hs : wrap64 ((i : Int) + x) = (i : Int) + x := IntWalk.wrap64_in _ (by omega)
                have d3 : decide ((i : Int) + x < 0) = false := decide_eq_false (by omega)
                have d4 : decide ((n : Int) ≤ (i : Int) + x) = false := decide_eq_false (by omega)
                have HE : Hid (∀ j', j' < jj + 1 → ¬ away n i (gI (gL L i).ts j')) := Lib.hid fun j' hj' => by
                  by_cases e : j' = jj
                  · rw [e, HX.out]; exact haw
                  · exact HAs.out j' (by omega)
                clear haw
                go_wp2_with fail
                go_roundw
                case rel => exact ⟨jj + 1, by go_num, by omega, trivial, HE⟩
                case measure => simp [intOf]; omega
            · have HE : Hid (wrongF L i = 0) := Lib.hid (wrong_no HK1.out HK2.out fun x => by
                obtain ⟨j', h1, h2⟩ := HFT.out.1 x
                exact HAs.out j' (by rw [HTN.out] at h1; omega) h2)
              go_wp2_with fail
              go_ret
              exact ⟨congrArg (fun z => Ending.returned (.int .i64 z)) HE.out.symm, HBW.out⟩
        · clear HD
          go_wp2_with (at_builtin; refine wpList_append_ints (P := Try.prog) wr.heap.size 22 infoI64 Try.underlying22 rfl (.tmp 92) (.tmp 94) rfl (.slice none 0 0) 0 [] rfl (World.ownsRow_nil _ _ _ _) rfl HTw.out (by omega) HBw.out ?_; intro v7 WX h7 hb7; have hrow : WX.ownsRow wr.heap.size 3 1 v7 mt ((gL L i).ts.map i64I) := (by simpa using h7); obtain ⟨A7, c7, rfl, hn7, hm7⟩ := own_slice hrow; have HS := Lib.hid (ints_own hrow); have HBW : Hid (Below w.heap.size w WX) := Lib.hid (HBl.out.trans (hb7.mono HBl.out.size)); have c0x := (hb7.cell (p := ⟨gb, 0, none⟩) HB.out.lt).trans c0; unfold maxLen at hm7; clear h7 hb7 hrow)
          clear d1 d40
          go_loopw [15] (fun v wx => ∃ jj : Nat, v = .int .i64 jj ∧ jj ≤ mt ∧ wx = WX ∧ Hid (∀ j', j' < jj → ¬ away n i (gI (gL L i).ts j'))) (fun v _ => mt - (intOf v).toNat)
          case atStart => exact ⟨0, rfl, by omega, rfl, Lib.hid fun j' h' => absurd h' (by omega)⟩
          case round =>
            obtain ⟨jj, rfl, hj, rfl, HAs⟩ := hrel
            by_cases hlt : jj < mt
            · obtain ⟨b5, o5, rfl, _, _, hc5⟩ := HS.out.lies (by omega)
              have cj := hc5 jj hlt
              obtain ⟨x, hx⟩ : ∃ x, gI (gL L i).ts jj = x := ⟨_, rfl⟩
              rw [hx] at cj
              have HX := Lib.hid hx
              clear hc5 hx
              have hneg : wrap64 (-(n : Int)) = -(n : Int) := IntWalk.wrap64_in _ (by omega)
              by_cases haw : away n i x
              · have HE : Hid (wrongF L i = 5) := Lib.hid (wrong_far HK1.out HK2.out (HFT.out.2 ⟨jj, by rw [HTN.out]; exact hlt, by rw [HX.out]; exact haw⟩))
                rcases (show x < -(n : Int) ∨ (-(n : Int) ≤ x ∧ (n : Int) < x) ∨ (-(n : Int) ≤ x ∧ x ≤ n ∧ (i : Int) + x < 0) ∨ (-(n : Int) ≤ x ∧ x ≤ n ∧ 0 ≤ (i : Int) + x ∧ (n : Int) ≤ (i : Int) + x) by unfold away at haw; omega) with k1 | ⟨k1, k2⟩ | ⟨k1, k2, k3⟩ | ⟨k1, k2, k3, k4⟩
                · have d1 : decide (x < -(n : Int)) = true := decide_eq_true k1
                  clear haw
                  go_wp2_with fail
                  go_ret
                  exact ⟨congrArg (fun z => Ending.returned (.int .i64 z)) HE.out.symm, HBW.out⟩
                · have d1 : decide (x < -(n : Int)) = false := decide_eq_false (by omega)
                  have d2 : decide ((n : Int) < x) = true := decide_eq_true k2
                  clear haw
                  go_wp2_with fail
                  go_ret
                  exact ⟨congrArg (fun z => Ending.returned (.int .i64 z)) HE.out.symm, HBW.out⟩
                · have d1 : decide (x < -(n : Int)) = false := decide_eq_false (by omega)
                  have d2 : decide ((n : Int) < x) = false := decide_eq_false (by omega)
                  have hs : wrap64 ((i : Int) + x) = (i : Int) + x := IntWalk.wrap64_in _ (by omega)
                  have d3 : decide ((i : Int) + x < 0) = true := decide_eq_true k3
                  clear haw
                  go_wp2_with fail
                  go_ret
                  exact ⟨congrArg (fun z => Ending.returned (.int .i64 z)) HE.out.symm, HBW.out⟩
                · have d1 : decide (x < -(n : Int)) = false := decide_eq_false (by omega)
                  have d2 : decide ((n : Int) < x) = false := decide_eq_false (by omega)
                  have hs : wrap64 ((i : Int) + x) = (i : Int) + x := IntWalk.wrap64_in _ (by omega)
                  have d3 : decide ((i : Int) + x < 0) = false := decide_eq_false (by omega)
                  have d4 : decide ((n : Int) ≤ (i : Int) + x) = true := decide_eq_true k4
                  clear haw
                  go_wp2_with fail
                  go_ret
                  exact ⟨congrArg (fun z => Ending.returned (.int .i64 z)) HE.out.symm, HBW.out⟩
              · have k1 : -(n : Int) ≤ x := by unfold away at haw; omega
                have k2 : x ≤ n := by unfold away at haw; omega
                have k3 : 0 ≤ (i : Int) + x := by unfold away at haw; omega
                have k4 : (i : Int) + x < n := by unfold away at haw; omega
                have d1 : decide (x < -(n : Int)) = false := decide_eq_false (by omega)
                have d2 : decide ((n : Int) < x) = false := decide_eq_false (by omega)
                have hs : wrap64 ((i : Int) + x) = (i : Int) + x := IntWalk.wrap64_in _ (by omega)
                have d3 : decide ((i : Int) + x < 0) = false := decide_eq_false (by omega)
                have d4 : decide ((n : Int) ≤ (i : Int) + x) = false := decide_eq_false (by omega)
                have HE : Hid (∀ j', j' < jj + 1 → ¬ away n i (gI (gL L i).ts j')) := Lib.hid fun j' hj' => by
                  by_cases e : j' = jj
                  · rw [e, HX.out]; exact haw
                  · exact HAs.out j' (by omega)
                clear haw
                go_wp2_with fail
                go_roundw
                case rel => exact ⟨jj + 1, by go_num, by omega, trivial, HE⟩
                case measure => simp [intOf]; omega
            · have HE : Hid (wrongF L i = 0) := Lib.hid (wrong_no HK1.out HK2.out fun x => by
                obtain ⟨j', h1, h2⟩ := HFT.out.1 x
                exact HAs.out j' (by rw [HTN.out] at h1; omega) h2)
              go_wp2_with fail
              go_ret
              exact ⟨congrArg (fun z => Ending.returned (.int .i64 z)) HE.out.symm, HBW.out⟩
      · have d1 : (y == 35) = false := by rw [beq_eq_false_iff_ne]; exact fun x => k1 (Or.inl x)
        have d2 : (y == 38) = false := by rw [beq_eq_false_iff_ne]; exact fun x => k1 (Or.inr x)
        by_cases k2 : y = 40
        · have d40 : (y == 40) = true := by rw [beq_iff_eq]; exact k2
          have HFT : Hid (farBad L i ↔ farT (gL L i).ns n i) := Lib.hid (by
            unfold farBad farB farT
            rw [HY.out, HN.out]
            refine ⟨fun x => ?_, fun x => Or.inr ⟨k2, x⟩⟩
            rcases x with x | x
            · exact absurd x.1 k1
            · exact x.2)
          have HTN := HIl
          clear k1 k2
          go_wp2_with fail
          obtain ⟨base, hbase⟩ : ∃ base, wr.heap.size = base := ⟨_, rfl⟩
          have HB3 : Hid (wr.ownsRow base 3 1 (.slice none 0 0) 0 (((gL L i).ns.take 0).map i64I) ∧ Below base wr wr ∧ base ≤ wr.heap.size) := Lib.hid ⟨by rw [List.take_zero]; exact World.ownsRow_nil _ _ _ _, by rw [← hbase]; exact Below.refl _ _, by rw [hbase]; exact Nat.le_refl _⟩
          have HU : Hid (∀ u, Below base wr u → ItAt F u Ai mi ci (gL L i).ns ∧ u.cell? ⟨gb, 14, none⟩ = some (.slice Ai mi ci) ∧ Below w.heap.size w u) := Lib.hid (fun u hu => by
            rw [← hbase] at hu
            exact ⟨HI.out u hu, (hu.cell (p := ⟨gb, 14, none⟩) HB.out.lt).trans c14, HBl.out.trans (hu.mono HBl.out.size)⟩)
          have HIn := Lib.hid HIl.out
          clear hbase
          go_loopw [13, 14] (fun t v wx => ∃ (j : Nat) (A : Option Addr) (cc : Nat), v = .int .i64 j ∧ j ≤ mi ∧ t = .slice A j cc ∧ Hid (wx.ownsRow base 3 1 (.slice A j cc) j (((gL L i).ns.take j).map i64I) ∧ Below base wr wx ∧ base ≤ wx.heap.size)) (fun _ v _ => mi - (intOf v).toNat)
          case atStart => exact ⟨0, none, 0, rfl, by omega, rfl, HB3⟩
          case round =>
            obtain ⟨j, A, cc, rfl, hj, rfl, HA⟩ := hrel
            obtain ⟨hit, c14', hbw⟩ := HU.out wr HA.out.2.1
            clear c14 c13 c0
            by_cases hlt : j < mi
            · obtain ⟨b6, o6, rfl, _, _, hk6⟩ := hit.lies (by omega)
              obtain ⟨cj, _⟩ := hk6 j hlt
              have HTK := Lib.hid (take_gI (gL L i).ns j (by rw [HIn.out]; exact hlt))
              obtain ⟨x, hx⟩ : ∃ x, gI (gL L i).ns j = x := ⟨_, rfl⟩
              rw [hx] at cj HTK
              have hlow := HA.out.2.2
              obtain ⟨A9, c9, e9, hn9, hm9⟩ := own_slice HA.out.1
              injection e9 with e91 e92 e93
              subst e91 e93
              unfold maxLen at hm9
              clear hit hbw hk6 hx e92
              go_wp2_with (at_builtin; refine wpList_append_int 22 infoI64 Try.underlying22 rfl (.tmp 106) (.tmp 113) rfl A j cc ((gL L i).ns.take j) rfl HA.out.1 x _ rfl hlow rfl (by omega) ?_; intro g7 c7 w7 k7 m7 _; have HR7 : Hid (w7.ownsRow base 3 1 (.slice (some ⟨g7, 0, none⟩) (j + 1) c7) (j + 1) (((gL L i).ns.take (j + 1)).map i64I) ∧ Below base _ w7 ∧ base ≤ w7.heap.size) := Lib.hid ⟨HTK.out ▸ k7, HA.out.2.1.trans (m7.below (fun k hk => (own_low HA.out.1 k hk).1) hlow), Nat.le_trans hlow m7.size⟩; have c14'' := (HU.out w7 HR7.out.2.1).2.1; clear k7 m7)
              go_roundw
              case rel => exact ⟨j + 1, _, c7, by go_num, by omega, rfl, HR7⟩
              case measure => simp [intOf]; omega
            · obtain rfl : j = mi := by omega
              have HS := Lib.hid (ints_own (by have := HA.out.1; rw [List.take_of_length_le (by rw [HIn.out]; exact Nat.le_refl _)] at this; exact this))
              have HBW := Lib.hid hbw
              obtain ⟨A9, c9, e9, hn9, hm9⟩ := own_slice HA.out.1
              injection e9 with e91 e92 e93
              subst e91 e93
              unfold maxLen at hm9
              clear hit hbw e92
              go_wp2_with fail
              obtain ⟨WX, hWX⟩ : ∃ WX, wr = WX := ⟨_, rfl⟩
              subst hWX
              go_loopw [15] (fun v wx => ∃ jj : Nat, v = .int .i64 jj ∧ jj ≤ j ∧ wx = wr ∧ Hid (∀ j', j' < jj → ¬ away n i (gI (gL L i).ns j'))) (fun v _ => j - (intOf v).toNat)
              case atStart => exact ⟨0, rfl, by omega, rfl, Lib.hid fun j' h' => absurd h' (by omega)⟩
              case round =>
                obtain ⟨jj, rfl, hj, rfl, HAs⟩ := hrel
                by_cases hlt : jj < j
                · obtain ⟨b5, o5, rfl, _, _, hc5⟩ := HS.out.lies (by omega)
                  have cj := hc5 jj hlt
                  obtain ⟨x, hx⟩ : ∃ x, gI (gL L i).ns jj = x := ⟨_, rfl⟩
                  rw [hx] at cj
                  have HX := Lib.hid hx
                  clear hc5 hx
                  have hneg : wrap64 (-(n : Int)) = -(n : Int) := IntWalk.wrap64_in _ (by omega)
                  by_cases haw : away n i x
                  · have HE : Hid (wrongF L i = 5) := Lib.hid (wrong_far HK1.out HK2.out (HFT.out.2 ⟨jj, by rw [HTN.out]; exact hlt, by rw [HX.out]; exact haw⟩))
                    rcases (show x < -(n : Int) ∨ (-(n : Int) ≤ x ∧ (n : Int) < x) ∨ (-(n : Int) ≤ x ∧ x ≤ n ∧ (i : Int) + x < 0) ∨ (-(n : Int) ≤ x ∧ x ≤ n ∧ 0 ≤ (i : Int) + x ∧ (n : Int) ≤ (i : Int) + x) by unfold away at haw; omega) with k1 | ⟨k1, k2⟩ | ⟨k1, k2, k3⟩ | ⟨k1, k2, k3, k4⟩
                    · have d1 : decide (x < -(n : Int)) = true := decide_eq_true k1
                      clear haw
                      go_wp2_with fail
                      go_ret
                      exact ⟨congrArg (fun z => Ending.returned (.int .i64 z)) HE.out.symm, HBW.out⟩
                    · have d1 : decide (x < -(n : Int)) = false := decide_eq_false (by omega)
                      have d2 : decide ((n : Int) < x) = true := decide_eq_true k2
                      clear haw
                      go_wp2_with fail
                      go_ret
                      exact ⟨congrArg (fun z => Ending.returned (.int .i64 z)) HE.out.symm, HBW.out⟩
                    · have d1 : decide (x < -(n : Int)) = false := decide_eq_false (by omega)
                      have d2 : decide ((n : Int) < x) = false := decide_eq_false (by omega)
                      have hs : wrap64 ((i : Int) + x) = (i : Int) + x := IntWalk.wrap64_in _ (by omega)
                      have d3 : decide ((i : Int) + x < 0) = true := decide_eq_true k3
                      clear haw
                      go_wp2_with fail
                      go_ret
                      exact ⟨congrArg (fun z => Ending.returned (.int .i64 z)) HE.out.symm, HBW.out⟩
                    · have d1 : decide (x < -(n : Int)) = false := decide_eq_false (by omega)
                      have d2 : decide ((n : Int) < x) = false := decide_eq_false (by omega)
                      have hs : wrap64 ((i : Int) + x) = (i : Int) + x := IntWalk.wrap64_in _ (by omega)
                      have d3 : decide ((i : Int) + x < 0) = false := decide_eq_false (by omega)
                      have d4 : decide ((n : Int) ≤ (i : Int) + x) = true := decide_eq_true k4
                      clear haw
                      go_wp2_with fail
                      go_ret
                      exact ⟨congrArg (fun z => Ending.returned (.int .i64 z)) HE.out.symm, HBW.out⟩
                  · have k1 : -(n : Int) ≤ x := by unfold away at haw; omega
                    have k2 : x ≤ n := by unfold away at haw; omega
                    have k3 : 0 ≤ (i : Int) + x := by unfold away at haw; omega
                    have k4 : (i : Int) + x < n := by unfold away at haw; omega
                    have d1 : decide (x < -(n : Int)) = false := decide_eq_false (by omega)
                    have d2 : decide ((n : Int) < x) = false := decide_eq_false (by omega)
                    have hs : wrap64 ((i : Int) + x) = (i : Int) + x := IntWalk.wrap64_in _ (by omega)
                    have d3 : decide ((i : Int) + x < 0) = false := decide_eq_false (by omega)
                    have d4 : decide ((n : Int) ≤ (i : Int) + x) = false := decide_eq_false (by omega)
                    have HE : Hid (∀ j', j' < jj + 1 → ¬ away n i (gI (gL L i).ns j')) := Lib.hid fun j' hj' => by
                      by_cases e : j' = jj
                      · rw [e, HX.out]; exact haw
                      · exact HAs.out j' (by omega)
                    clear haw
                    go_wp2_with fail
                    go_roundw
                    case rel => exact ⟨jj + 1, by go_num, by omega, trivial, HE⟩
                    case measure => simp [intOf]; omega
                · have HE : Hid (wrongF L i = 0) := Lib.hid (wrong_no HK1.out HK2.out fun x => by
                    obtain ⟨j', h1, h2⟩ := HFT.out.1 x
                    exact HAs.out j' (by rw [HTN.out] at h1; omega) h2)
                  go_wp2_with fail
                  go_ret
                  exact ⟨congrArg (fun z => Ending.returned (.int .i64 z)) HE.out.symm, HBW.out⟩
        · have d40 : (y == 40) = false := by rw [beq_eq_false_iff_ne]; exact k2
          have HFT : Hid (¬ farBad L i) := Lib.hid (by
            unfold farBad farB
            rw [HY.out]
            rintro (x | x)
            · exact k1 x.1
            · exact k2 x.1)
          have HE : Hid (wrongF L i = 0) := Lib.hid (wrong_no HK1.out HK2.out HFT.out)
          clear k1 k2
          go_wp2_with fail
          refine wp_loop_rounds 1 ?_
          rw [rounds_succ]
          go_wp2_with fail
          go_ret
          exact ⟨congrArg (fun z => Ending.returned (.int .i64 z)) HE.out.symm, HBl.out⟩

end Go.Proofs.Ythlaglhlmbkniaa
