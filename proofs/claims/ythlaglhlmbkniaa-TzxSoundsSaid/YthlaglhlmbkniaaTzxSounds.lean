/- TzxSounds: the law's walk. -/
import Derived.Test.YthlaglhlmbkniaaTzxLives
import Derived.Test.YthlaglhlmbkniaaTzxRSound
import Derived.Test.YthlaglhlmbkniaaTzxSb
import Derived.Test.YthlaglhlmbkniaaHeldTail
namespace Go.Proofs.Ythlaglhlmbkniaa
open Go.RowKit
set_option linter.unusedVariables false
set_option linter.unusedSimpArgs false
set_option maxRecDepth 100000

def lawL (ids ns : List Int) : List Lb := ids.map fun id => ⟨id, ns, ns⟩
theorem lawL_len (ids ns : List Int) : (lawL ids ns).length = ids.length := by simp [lawL]
theorem lawL_snoc (ids : List Int) (ns : List Int) (x : Int) : lawL (ids ++ [x]) ns = lawL ids ns ++ [⟨x, ns, ns⟩] := by simp [lawL]
theorem lawL_few (ids ns : List Int) (h : ns.length ≤ 5) (i : Nat) (hi : i < ids.length) : (gL (lawL ids ns) i).ts.length ≤ 1000000 ∧ (gL (lawL ids ns) i).ns.length ≤ 1000000 := by
  have e : gL (lawL ids ns) i = ⟨gI ids i, ns, ns⟩ := by
    unfold gL lawL gI
    rw [List.getD_eq_getElem?_getD, List.getElem?_map, List.getElem?_eq_getElem hi, List.getD_eq_getElem?_getD, List.getElem?_eq_getElem hi]
    rfl
  rw [e]
  exact ⟨by show ns.length ≤ _; omega, by show ns.length ≤ _; omega⟩
attribute [local simp ↓ high] blkLoad_as blkStore_as blkAlloc_as blkBuild_as
attribute [local simp] foldB
set_option maxHeartbeats 12800000 in
theorem sounds_walk (v0 : Value) (ids : List Int) (v1 : Value) (ns : List Int) (w : World) (h0 : IntsV w v0 ids) (h1 : IntsV w v1 ns) : Calls Try.prog 3 #[v0, v1] w fun e w' => e = .returned (.bool true) ∧ Below w.heap.size w w' := by
  obtain ⟨A0, n0, c0, rfl, hA0⟩ := h0
  obtain ⟨A1, n1, c1, rfl, hA1⟩ := h1
  have hf0 := hA0.fit
  have hm0 := hA0.max
  have hf1 := hA1.fit
  have hm1 := hA1.max
  unfold maxLen at hm0 hm1
  have HL := Lib.hid lives19
  by_cases hbig : 200 < n0
  · have d : decide ((200 : Int) < (n0 : Int)) = true := decide_eq_true (by omega)
    have d' : decide (200 < n0) = true := decide_eq_true hbig
    clear hA0 hA1 hbig
    go_enter Try.func3, Try.ntmps3
    go_wp2_with fail
    refine (HL.out _).mono ?_
    rintro x w1 ⟨rfl, hb1⟩
    go_wp2_with fail
    go_ret
    exact ⟨rfl, hb1⟩
  have d : decide ((200 : Int) < (n0 : Int)) = false := decide_eq_false (by omega)
  have d' : decide (200 < n0) = false := decide_eq_false hbig
  have HI0 := Lib.hid (fun u (hu : Below w.heap.size w u) => hA0.below hu)
  have HI1 := Lib.hid (fun u (hu : Below w.heap.size w u) => hA1.below hu)
  have HN0 := Lib.hid hA0.len
  have HN1 := Lib.hid hA1.len
  obtain ⟨m5, hm5⟩ : ∃ m, min 5 n1 = m := ⟨_, rfl⟩
  have hm5' : m5 ≤ 5 ∧ m5 ≤ n1 ∧ (m5 < 5 → m5 = n1) := by omega
  obtain ⟨hm51, hm52, hm53⟩ := hm5'
  have HS0 : Hid (Blks (fun _ => True) w.heap.size w none 0 0 (lawL (ids.take 0) (ns.take m5)) ∧ Below w.heap.size w w) := Lib.hid ⟨by rw [List.take_zero]; exact Blks.nil _ _ _ (Nat.le_refl _), Below.refl _ _⟩
  clear hA0 hA1 hm5
  have hal := run_blkAlloc
  go_enter Try.func3, Try.ntmps3
  go_wp2_with fail
  go_loopw [5, 6] (fun l v wr => ∃ (j : Nat) (B : Option Addr) (c : Nat), v = .int .i64 j ∧ j ≤ n0 ∧ l = .slice B j c ∧ Hid (Blks (fun _ => True) w.heap.size wr B j c (lawL (ids.take j) (ns.take m5)) ∧ Below w.heap.size w wr)) (fun _ v _ => n0 - (intOf v).toNat)
  case atStart => exact ⟨0, none, 0, rfl, by omega, rfl, HS0⟩
  case round =>
    obtain ⟨j, B, c, rfl, hj, rfl, HA⟩ := hrel
    by_cases hlt : j < n0
    · obtain ⟨b0, o0, rfl, _, hb0, hk0⟩ := (HI0.out wr HA.out.2).lies (by omega)
      have cj := hk0 j hlt
      obtain ⟨id, hid⟩ : ∃ id, gI ids j = id := ⟨_, rfl⟩
      rw [hid] at cj
      have HID := Lib.hid hid
      have hbd : ∀ u, (blkBuild #[(0, .int .i64 id)]).run Try.prog u = .ok (.agg (bcs [(0, .int .i64 id)])) u := fun u => run_build u _ _ _ (show Try.prog.built 30 [(0, .int .i64 id)] = some (bcs [(0, .int .i64 id)]) by kernel_rfl)
      have hb1 := BIn.new wr (cs := blkZ) rfl
      have hall : (bcs [(0, .int .i64 id)]).all (·.oneCell') = true := by kernel_rfl
      have hst := run_blkStore hb1 (bcs_size [(0, .int .i64 id)]) hall
      obtain ⟨hb2, hc2⟩ := hb1.put (cs := bcs [(0, .int .i64 id)]) (bcs_size _)
      obtain ⟨W2, hW2⟩ : ∃ W2, (wr.alloc (.cells blkZ 30)).setRow wr.heap.size (bcs [(0, .int .i64 id)]) = W2 := ⟨_, rfl⟩
      rw [hW2] at hst hb2 hc2
      have hbel : Below wr.heap.size wr W2 := (bnew wr _).trans (hc2.below (fun k hk => by rw [hk]; exact Nat.le_refl _) (by simp))
      have HSb := Lib.hid (Sb.new wr id ns _ (bcs_size [(0, .int .i64 id)]) hall (by kernel_rfl) (by kernel_rfl) (by kernel_rfl) W2 hb2 hbel)
      obtain ⟨gb, hgb⟩ : ∃ gb, wr.heap.size = gb := ⟨_, rfl⟩
      rw [hgb] at hst HSb
      obtain ⟨cs, hcs⟩ : ∃ cs, bcs [(0, .int .i64 id)] = cs := ⟨_, rfl⟩
      rw [hcs] at hst hbd HSb
      have HG := Lib.hid hgb
      have HH1 := Lib.hid (fun u (hu : Below gb wr u) => HI1.out u (HA.out.2.trans (hu.mono (by have := HA.out.2.size; omega))))
      have HRw := Lib.hid (fun u (hu : Below gb wr u) => show Blks (fun _ => True) w.heap.size u B j c (lawL (ids.take j) (ns.take m5)) ∧ Below w.heap.size w u from by
        rw [← hgb] at hu
        exact ⟨HA.out.1.below hu, HA.out.2.trans (hu.mono HA.out.2.size)⟩)
      have HOw := Lib.hid (fun i (hi : (Value.slice B j c).ownBlock = some i) => show w.heap.size ≤ i ∧ i < gb from by
        rw [← hgb]
        exact HA.out.1.blk i hi)
      have HIdj : Hid (lawL (ids.take (j + 1)) (ns.take m5) = lawL (ids.take j) (ns.take m5) ++ [⟨id, ns.take m5, ns.take m5⟩]) := Lib.hid (by rw [take_gI ids j (by rw [HN0.out]; exact hlt), hid, lawL_snoc])
      have hfB := HA.out.1.fit
      have hmB := HA.out.1.max
      unfold maxLen at hmB
      have hgw : Hid (w.heap.size ≤ gb) := Lib.hid (by have := HA.out.2.size; omega)
      clear hk0 hid hb1 hall hb2 hc2 hW2 hbel hcs hb0
      go_wp2_with fail
      clear hst hbd hgb cj
      go_loopw [8] (fun v wx => ∃ (k : Nat) (cs : Array Value) (At : Option Addr) (ct : Nat) (Ai : Option Addr) (ci : Nat), v = .int .i64 k ∧ k ≤ m5 ∧ Hid (Sb wr wx gb cs id At k ct Ai k ci ns)) (fun v _ => m5 - (intOf v).toNat)
      case atStart => exact ⟨0, _, none, 0, none, 0, rfl, by omega, HSb⟩
      case round =>
        obtain ⟨k, cs, At, ct, Ai, ci, rfl, hk, HB⟩ := hrel
        by_cases hlt5 : k < m5
        · obtain ⟨b1, o1, rfl, _, hbl1, hk1⟩ := (HH1.out wr HB.out.bel).lies (by omega)
          have cx := hk1 k (by omega)
          obtain ⟨x, hx⟩ : ∃ x, gI ns k = x := ⟨_, rfl⟩
          rw [hx] at cx
          have c13 := HB.out.b.cell HB.out.c13
          have HX := Lib.hid hx
          have hi1 : (0 : Int) ≤ (k : Int) := by omega
          have hi2 : (k : Int) < (n1 : Int) := by omega
          have e1 : decide ((k : Int) < (n1 : Int)) = true := decide_eq_true (by omega)
          have e1' : decide (k < n1) = true := decide_eq_true (by omega)
          have e2 : decide ((k : Int) < 5) = true := decide_eq_true (by omega)
          have e2' : decide (k < 5) = true := decide_eq_true (by omega)
          have hlow := HB.out.low
          clear hk1 hx
          go_wp2_with fail
          first | refine wp_region_noPanic ?_ | skip
          refine wp_region_U (n := 7) (S := (fun u : World => u.cell? ⟨gb, 13, none⟩ = some (.slice At k ct) ∧ u.cell? ⟨b1, o1 + k, none⟩ = some (.int .i64 x))) (by kernel_rfl) (by kernel_rfl) (⟨c13, cx⟩) (fun hHeld => ?_)
          refine wpAnyU_take (i := 0) (v := ?v1) rfl (by kernel_rfl) (by kernel_rfl) (by kernel_rfl) (by kernel_rfl) (fun _ _ _ h => h) (Or.inl ⟨by rfl, ?hy1⟩) (by assumption) ?rest1
          case hy1 => (intro w hSw; (try dsimp only at hSw); go_simp; try with_reducible rfl)
          try simp only [Act.put, List.getElem_toArray, List.getElem_cons_succ, List.getElem_cons_zero, List.setIfInBounds_toArray, List.set_cons_zero, List.set_cons_succ]
          refine wpAnyU_take (i := 1) (v := ?v2) rfl (by kernel_rfl) (by kernel_rfl) (by kernel_rfl) (by kernel_rfl) (fun _ _ _ h => h) (Or.inl ⟨by rfl, ?hy2⟩) (by assumption) ?rest2
          case hy2 => (intro w hSw; (try dsimp only at hSw); go_simp; try with_reducible rfl)
          try simp only [Act.put, List.getElem_toArray, List.getElem_cons_succ, List.getElem_cons_zero, List.setIfInBounds_toArray, List.set_cons_zero, List.set_cons_succ]
          refine wpAnyU_take (i := 2) (v := ?v3) rfl (by kernel_rfl) (by kernel_rfl) (by kernel_rfl) (by kernel_rfl) (fun _ _ _ h => h) (Or.inl ⟨by rfl, ?hy3⟩) (by assumption) ?rest3
          case hy3 => (intro w hSw; (try dsimp only at hSw); go_simp; try with_reducible rfl)
          try simp only [Act.put, List.getElem_toArray, List.getElem_cons_succ, List.getElem_cons_zero, List.setIfInBounds_toArray, List.set_cons_zero, List.set_cons_succ]
          refine wpAnyU_take (i := 3) (v := ?v4) rfl (by kernel_rfl) (by kernel_rfl) (by kernel_rfl) (by kernel_rfl) (fun _ _ _ h => h) (Or.inl ⟨by rfl, ?hy4⟩) (by assumption) ?rest4
          case hy4 => (intro w hSw; (try dsimp only at hSw); go_simp; try with_reducible rfl)
          try simp only [Act.put, List.getElem_toArray, List.getElem_cons_succ, List.getElem_cons_zero, List.setIfInBounds_toArray, List.set_cons_zero, List.set_cons_succ]
          refine wpAnyU_take (i := 4) (v := ?v5) rfl (by kernel_rfl) (by kernel_rfl) (by kernel_rfl) (by kernel_rfl) (fun _ _ _ h => h) (Or.inl ⟨by rfl, ?hy5⟩) (by assumption) ?rest5
          case hy5 => (intro w hSw; (try dsimp only at hSw); go_simp; try with_reducible rfl)
          try simp only [Act.put, List.getElem_toArray, List.getElem_cons_succ, List.getElem_cons_zero, List.setIfInBounds_toArray, List.set_cons_zero, List.set_cons_succ]
          refine wpAnyU_take (i := 5) (v := ?v6) rfl (by kernel_rfl) (by kernel_rfl) (by kernel_rfl) (by kernel_rfl) (fun _ _ _ h => h) (Or.inl ⟨by rfl, ?hy6⟩) (by assumption) ?rest6
          case hy6 => (intro w hSw; (try dsimp only at hSw); go_simp; try with_reducible rfl)
          try simp only [Act.put, List.getElem_toArray, List.getElem_cons_succ, List.getElem_cons_zero, List.setIfInBounds_toArray, List.set_cons_zero, List.set_cons_succ]
          have hS6 : (wr.drew.alloc (.cells #[.int .i64 x] 3)).cell? ⟨gb, 13, none⟩ = some (.slice At k ct) ∧ (wr.drew.alloc (.cells #[.int .i64 x] 3)).cell? ⟨b1, o1 + k, none⟩ = some (.int .i64 x) := ⟨((bnew wr.drew _).cell (p := ⟨gb, 13, none⟩) (by have := HB.out.low; exact this)).trans c13, ((bnew wr.drew _).cell (p := ⟨b1, o1 + k, none⟩) hbl1).trans cx⟩
          refine wpAnyU_ready (i := 6) (by kernel_rfl) (by kernel_rfl) rfl (fun K hK => ?_)
          go_simp
          refine hK.out _ _ hS6 (fun hHeld => ?_)
          clear hK K
          try simp only [Act.put, List.getElem_toArray, List.getElem_cons_succ, List.getElem_cons_zero, List.setIfInBounds_toArray, List.set_cons_zero, List.set_cons_succ]
          refine wpAnyU_tail rfl (by kernel_rfl) ?_
          simp only [List.drop_succ_cons, List.drop_zero]
          have HBd := Lib.hid (HB.out.below (Below.refl _ _).drew)
          clear hS6 c13 cx HB
          go_wp2_with (at_builtin; refine wpList_append_int 22 infoI64 Try.underlying22 rfl (.tmp 39) (.tmp 44) rfl At k ct (ns.take k) rfl HBd.out.rt x _ rfl hlow rfl (by omega) ?_; intro g7 c7 w7 k7 m7 _; obtain ⟨A9, c9, e9, hn9, hm9⟩ := own_slice k7; injection e9 with e91 e92 e93; subst e91 e93; clear e92; unfold maxLen at hm9; have HN := HBd.out.times HX.out (by rw [HN1.out]; omega) k7 m7; obtain ⟨⟨n1', n2'⟩, hsb⟩ := HN; have HB2 := Lib.hid hsb; clear k7 m7 hsb)
          go_wp2_with fail
          refine NoPanic.normal ?_
          clear n1' n2' HBd hHeld
          generalize World.setCell w7 _ _ = w8 at *
          obtain ⟨b1', o1', eb, _, hbl1', hk1'⟩ := (HH1.out w8 HB2.out.bel).lies (by omega)
          injection eb with eb
          injection eb with eb1 eb2 eb3
          subst eb1 eb2
          have cx := hk1' k (by omega)
          rw [HX.out] at cx
          have c14 := HB2.out.b.cell HB2.out.c14
          have hlow8 := HB2.out.low
          obtain ⟨its, hri, hrm⟩ := HB2.out.ri
          have HRI := Lib.hid (And.intro hri hrm)
          clear hk1' eb3 hri hrm hlow
          go_wp2_with fail
          first | refine wp_region_noPanic ?_ | skip
          refine wp_region_U (n := 8) (S := (fun u : World => u.cell? ⟨gb, 14, none⟩ = some (.slice Ai k ci) ∧ u.cell? ⟨b1, o1 + k, none⟩ = some (.int .i64 x))) (by kernel_rfl) (by kernel_rfl) (⟨c14, cx⟩) (fun hHeld => ?_)
          refine wpAnyU_take (i := 0) (v := ?v7) rfl (by kernel_rfl) (by kernel_rfl) (by kernel_rfl) (by kernel_rfl) (fun _ _ _ h => h) (Or.inl ⟨by rfl, ?hy7⟩) (by assumption) ?rest7
          case hy7 => (intro w hSw; (try dsimp only at hSw); go_simp; try with_reducible rfl)
          try simp only [Act.put, List.getElem_toArray, List.getElem_cons_succ, List.getElem_cons_zero, List.setIfInBounds_toArray, List.set_cons_zero, List.set_cons_succ]
          refine wpAnyU_take (i := 1) (v := ?v8) rfl (by kernel_rfl) (by kernel_rfl) (by kernel_rfl) (by kernel_rfl) (fun _ _ _ h => h) (Or.inl ⟨by rfl, ?hy8⟩) (by assumption) ?rest8
          case hy8 => (intro w hSw; (try dsimp only at hSw); go_simp; try with_reducible rfl)
          try simp only [Act.put, List.getElem_toArray, List.getElem_cons_succ, List.getElem_cons_zero, List.setIfInBounds_toArray, List.set_cons_zero, List.set_cons_succ]
          refine wpAnyU_take (i := 2) (v := ?v9) rfl (by kernel_rfl) (by kernel_rfl) (by kernel_rfl) (by kernel_rfl) (fun _ _ _ h => h) (Or.inl ⟨by rfl, ?hy9⟩) (by assumption) ?rest9
          case hy9 => (intro w hSw; (try dsimp only at hSw); go_simp; try with_reducible rfl)
          try simp only [Act.put, List.getElem_toArray, List.getElem_cons_succ, List.getElem_cons_zero, List.setIfInBounds_toArray, List.set_cons_zero, List.set_cons_succ]
          refine wpAnyU_take (i := 3) (v := ?v10) rfl (by kernel_rfl) (by kernel_rfl) (by kernel_rfl) (by kernel_rfl) (fun _ _ _ h => h) (Or.inl ⟨by rfl, ?hy10⟩) (by assumption) ?rest10
          case hy10 => (intro w hSw; (try dsimp only at hSw); go_simp; try with_reducible rfl)
          try simp only [Act.put, List.getElem_toArray, List.getElem_cons_succ, List.getElem_cons_zero, List.setIfInBounds_toArray, List.set_cons_zero, List.set_cons_succ]
          refine wpAnyU_take (i := 4) (v := ?v11) rfl (by kernel_rfl) (by kernel_rfl) (by kernel_rfl) (by kernel_rfl) (fun _ _ _ h => h) (Or.inl ⟨by rfl, ?hy11⟩) (by assumption) ?rest11
          case hy11 => (intro w hSw; (try dsimp only at hSw); go_simp; try with_reducible rfl)
          try simp only [Act.put, List.getElem_toArray, List.getElem_cons_succ, List.getElem_cons_zero, List.setIfInBounds_toArray, List.set_cons_zero, List.set_cons_succ]
          refine wpAnyU_take (i := 5) (v := ?v12) rfl (by kernel_rfl) (by kernel_rfl) (by kernel_rfl) (by kernel_rfl) (fun _ _ _ h => h) (Or.inl ⟨by rfl, ?hy12⟩) (by assumption) ?rest12
          case hy12 => (intro w hSw; (try dsimp only at hSw); go_simp; try with_reducible rfl)
          try simp only [Act.put, List.getElem_toArray, List.getElem_cons_succ, List.getElem_cons_zero, List.setIfInBounds_toArray, List.set_cons_zero, List.set_cons_succ]
          refine wpAnyU_take (i := 6) (v := ?v13) rfl (by kernel_rfl) (by kernel_rfl) (by kernel_rfl) (by kernel_rfl) (fun _ _ _ h => h) (Or.inl ⟨by rfl, ?hy13⟩) (by assumption) ?rest13
          case hy13 => (intro w hSw; (try dsimp only at hSw); go_simp; try with_reducible rfl)
          try simp only [Act.put, List.getElem_toArray, List.getElem_cons_succ, List.getElem_cons_zero, List.setIfInBounds_toArray, List.set_cons_zero, List.set_cons_succ]
          have hS7 : (w8.drew.alloc (.cells #[.int .i64 x, .slice none 0 0] 32)).cell? ⟨gb, 14, none⟩ = some (.slice Ai k ci) ∧ (w8.drew.alloc (.cells #[.int .i64 x, .slice none 0 0] 32)).cell? ⟨b1, o1 + k, none⟩ = some (.int .i64 x) := ⟨((bnew w8.drew _).cell (p := ⟨gb, 14, none⟩) (by have := HB2.out.low; exact this)).trans c14, ((bnew w8.drew _).cell (p := ⟨b1, o1 + k, none⟩) hbl1').trans cx⟩
          refine wpAnyU_ready (i := 7) (by kernel_rfl) (by kernel_rfl) rfl (fun K hK => ?_)
          go_simp
          refine hK.out _ _ hS7 (fun hHeld => ?_)
          clear hK K
          try simp only [Act.put, List.getElem_toArray, List.getElem_cons_succ, List.getElem_cons_zero, List.setIfInBounds_toArray, List.set_cons_zero, List.set_cons_succ]
          refine wpAnyU_tail rfl (by kernel_rfl) ?_
          simp only [List.drop_succ_cons, List.drop_zero]
          have HBd := Lib.hid (HB2.out.below (Below.refl _ _).drew)
          have HRd : Hid (w8.drew.ownsRow (gb + 1) 32 2 (.slice Ai k ci) k (itemsL its)) := Lib.hid (own_kept' HRI.out.1 fun i hi _ => rfl)
          have H1c : Hid ((#[.int .i64 x, .slice none 0 0] : Array Value).all (·.oneCell') = true) := Lib.hid (by kernel_rfl)
          clear hS7 c14 cx HB2
          go_wp2_with (at_builtin; refine wpList_append_gen 32 26 _ 2 32 infoIt rfl (by decide) Try.underlying26 rfl (.tmp 48) (.tmp 54) rfl Ai k ci (itemsL its) rfl HRd.out #[.int .i64 x, .slice none 0 0] rfl H1c.out _ rfl hlow8 rfl (by unfold maxLen; omega) (by omega) ?_; intro g7' c7' w7' k7 m7 _; obtain ⟨A9, c9, e9, hn9', hm9'⟩ := own_slice k7; injection e9 with e91 e92 e93; subst e91 e93; clear e92; unfold maxLen at hm9'; have HN := HBd.out.items HRI.out.2 HRd.out HX.out (by rw [HN1.out]; omega) k7 m7; obtain ⟨⟨n1', n2'⟩, hsb⟩ := HN; have HB3 := Lib.hid hsb; clear k7 m7 hsb)
          go_wp2_with fail
          refine NoPanic.normal ?_
          go_wp2_with fail
          go_roundw
          case rel => exact ⟨k + 1, _, _, c7, _, c7', by go_num, by omega, HB3⟩
          case measure => simp [intOf]; omega
        · obtain rfl : k = m5 := by omega
          have e12 : (k < n1 ∧ decide ((k : Int) < (n1 : Int)) = true ∧ decide ((k : Int) < 5) = false) ∨ (¬ k < n1 ∧ decide ((k : Int) < (n1 : Int)) = false) := by
            by_cases hk1 : k < n1
            · exact Or.inl ⟨hk1, decide_eq_true (by omega), decide_eq_false (by omega)⟩
            · exact Or.inr ⟨hk1, decide_eq_false (by omega)⟩
          have hld := run_blkLoad HB.out.b.mid
          have hcs18 := HB.out.b.2
          have HRow := Lib.hid (HRw.out wr HB.out.bel)
          have HBV := Lib.hid HB.out.bv
          have HGG : Hid (∀ i, i < wr.heap.size → gb < i → (fun _ => True) i ∧ (Value.slice B j c).ownBlock ≠ some i) := Lib.hid (fun i _ h2 => ⟨trivial, fun e => by have := HOw.out i e; omega⟩)
          clear HB
          rcases e12 with ⟨h1, e1, e2⟩ | ⟨h1, e1⟩
          all_goals
            go_wp2_with (at_builtin; refine wpList_append_blks 24 infoBlk Try.underlying24 rfl (.tmp 57) (.tmp 59) rfl B j c _ rfl HRow.out.1 cs _ HBV.out HGG.out _ rfl rfl (by omega) ?_; intro g4 c4 w4 hx4 hc4; have hf4 := hx4.fit; have hm4 := hx4.max; unfold maxLen at hm4; have HE : Hid (Blks (fun _ => True) w.heap.size w4 (some ⟨g4, 0, none⟩) (j + 1) c4 (lawL (ids.take (j + 1)) (ns.take k)) ∧ Below w.heap.size w w4) := Lib.hid ⟨HIdj.out ▸ hx4, HRow.out.2.trans (hc4.below (fun i e => (HOw.out i e).1) HRow.out.2.size)⟩; clear hx4 hc4)
            go_roundw
            case rel => exact ⟨j + 1, _, c4, by go_num, by omega, rfl, HE⟩
            case measure => simp [intOf]; omega
    · obtain rfl : j = n0 := by omega
      have HAt := Lib.hid (And.intro HA.out.1.at HA.out.2)
      have hLn : ids.take j = ids := List.take_of_length_le (by rw [HN0.out]; exact Nat.le_refl _)
      rw [hLn] at HAt
      have hns5 : (ns.take m5).length ≤ 5 := by rw [List.length_take]; omega
      have HSo := Lib.hid (sound_any _ wr B j c _ HAt.out.1 (by omega))
      have HRs := Lib.hid (fun u (hu : Below wr.heap.size wr u) => rsound_any _ u B j c _ (HAt.out.1.below hu) (by omega) fun i hi => lawL_few ids _ hns5 i (by rw [HN0.out]; exact hi))
      have hfB := HA.out.1.fit
      have hmB := HA.out.1.max
      unfold maxLen at hmB
      clear hLn hns5 HA
      go_wp2_with fail
      refine HSo.out.mono ?_
      rintro x w1 ⟨r, e, rfl, hs1, hb1⟩
      have HS1 := Lib.hid hs1
      have HB1 := Lib.hid hb1
      clear hs1 hb1 HSo
      go_wp2_with fail
      refine (HRs.out w1 HB1.out).mono ?_
      rintro x w2 ⟨r', e', rfl, hs2, hb2⟩
      obtain ⟨hr, he⟩ := HS1.out.one hs2
      subst hr he
      have HB2 : Hid (Below w.heap.size w w2) := Lib.hid ((HAt.out.2.trans (HB1.out.mono HAt.out.2.size)).trans (hb2.mono (by have := HAt.out.2.size; have := HB1.out.size; omega)))
      clear hs2 hb2
      go_wp2_with fail
      refine (HL.out _).mono ?_
      rintro x w3 ⟨rfl, hb3⟩
      have HE := Lib.hid (HB2.out.trans (hb3.mono HB2.out.size))
      clear hb3
      go_wp2_with fail
      go_ret
      exact ⟨rfl, HE.out⟩

end Go.Proofs.Ythlaglhlmbkniaa
