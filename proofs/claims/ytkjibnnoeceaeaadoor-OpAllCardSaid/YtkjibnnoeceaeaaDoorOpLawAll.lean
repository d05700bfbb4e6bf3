/- OpAll: its walk. -/
import Derived.Test.YtkjibnnoeceaeaaDoorOpLawReads
import Derived.Test.YtkjibnnoeceaeaaDoorOpAppend
import Derived.Test.YtkjibnnoeceaeaaDoorOpRShow
namespace Go.Proofs.YtkjibnnoeceaeaaDoor
open Go.RowKit Go.ChangeShapes

def bx (w : World) (l : List Nat) : World := w.alloc (.cells (l.map fun n : Nat => Value.int .u8 (n : Int)).toArray 5)
theorem bx_size (w : World) (l : List Nat) : (bx w l).heap.size = w.heap.size + 1 := by simp [bx]
theorem bx_bel (w : World) (l : List Nat) : Below w.heap.size w (bx w l) := balloc w _
theorem bx_bytes (w : World) (l : List Nat) (hl : ∀ j, gN l j < 256) (hm : l.length ≤ 10) : BytesAt (bx w l) (bx w l).heap.size (.slice (some ⟨w.heap.size, 0, none⟩) l.length l.length) l := bytes_lit w l 5 hl (by unfold maxLen; omega)
theorem bx_src (w : World) (l : List Nat) (hl : ∀ j, gN l j < 256) (hm : l.length ≤ 10) : Src8 (bx w l) (.slice (some ⟨w.heap.size, 0, none⟩) l.length l.length) l := ⟨bx_bytes w l hl hm, Or.inr ⟨_, _, rfl⟩⟩
/-- The seven rows of the law. -/
theorem tow_at (w : World) (j : Nat) (hj : j < 7) : ∃ vb pre, (((((((w.alloc (.cells #[.int .u8 203] 5)).alloc (.cells #[.int .u8 237] 5)).alloc (.cells #[.int .u8 221] 5)).alloc (.cells #[.int .u8 253] 5)).alloc (.cells #[.int .u8 221, .int .u8 203] 5)).alloc (.cells #[.int .u8 253, .int .u8 203] 5)).alloc (.cells #[.slice none 0 0, .slice (some ⟨w.heap.size, 0, none⟩) 1 1, .slice (some ⟨w.heap.size + 1, 0, none⟩) 1 1, .slice (some ⟨w.heap.size + 2, 0, none⟩) 1 1, .slice (some ⟨w.heap.size + 3, 0, none⟩) 1 1, .slice (some ⟨w.heap.size + 4, 0, none⟩) 2 2, .slice (some ⟨w.heap.size + 5, 0, none⟩) 2 2] 22)).cell? ⟨w.heap.size + 6, j, none⟩ = some vb ∧ Src8 (((((((w.alloc (.cells #[.int .u8 203] 5)).alloc (.cells #[.int .u8 237] 5)).alloc (.cells #[.int .u8 221] 5)).alloc (.cells #[.int .u8 253] 5)).alloc (.cells #[.int .u8 221, .int .u8 203] 5)).alloc (.cells #[.int .u8 253, .int .u8 203] 5)).alloc (.cells #[.slice none 0 0, .slice (some ⟨w.heap.size, 0, none⟩) 1 1, .slice (some ⟨w.heap.size + 1, 0, none⟩) 1 1, .slice (some ⟨w.heap.size + 2, 0, none⟩) 1 1, .slice (some ⟨w.heap.size + 3, 0, none⟩) 1 1, .slice (some ⟨w.heap.size + 4, 0, none⟩) 2 2, .slice (some ⟨w.heap.size + 5, 0, none⟩) 2 2] 22)) vb pre ∧ pre.length ≤ 2 ∧ Below w.heap.size w (((((((w.alloc (.cells #[.int .u8 203] 5)).alloc (.cells #[.int .u8 237] 5)).alloc (.cells #[.int .u8 221] 5)).alloc (.cells #[.int .u8 253] 5)).alloc (.cells #[.int .u8 221, .int .u8 203] 5)).alloc (.cells #[.int .u8 253, .int .u8 203] 5)).alloc (.cells #[.slice none 0 0, .slice (some ⟨w.heap.size, 0, none⟩) 1 1, .slice (some ⟨w.heap.size + 1, 0, none⟩) 1 1, .slice (some ⟨w.heap.size + 2, 0, none⟩) 1 1, .slice (some ⟨w.heap.size + 3, 0, none⟩) 1 1, .slice (some ⟨w.heap.size + 4, 0, none⟩) 2 2, .slice (some ⟨w.heap.size + 5, 0, none⟩) 2 2] 22)) := by
  have z1 : (bx w [203]).heap.size = w.heap.size + 1 := by simp [bx_size]
  have z2 : (bx (bx w [203]) [237]).heap.size = w.heap.size + 2 := by simp [bx_size]
  have z3 : (bx (bx (bx w [203]) [237]) [221]).heap.size = w.heap.size + 3 := by simp [bx_size]
  have z4 : (bx (bx (bx (bx w [203]) [237]) [221]) [253]).heap.size = w.heap.size + 4 := by simp [bx_size]
  have z5 : (bx (bx (bx (bx (bx w [203]) [237]) [221]) [253]) [221, 203]).heap.size = w.heap.size + 5 := by simp [bx_size]
  have z6 : (bx (bx (bx (bx (bx (bx w [203]) [237]) [221]) [253]) [221, 203]) [253, 203]).heap.size = w.heap.size + 6 := by simp [bx_size]
  have b1 := bx_bel w [203]
  have b2 := bx_bel (bx w [203]) [237]
  have b3 := bx_bel (bx (bx w [203]) [237]) [221]
  have b4 := bx_bel (bx (bx (bx w [203]) [237]) [221]) [253]
  have b5 := bx_bel (bx (bx (bx (bx w [203]) [237]) [221]) [253]) [221, 203]
  have b6 := bx_bel (bx (bx (bx (bx (bx w [203]) [237]) [221]) [253]) [221, 203]) [253, 203]
  have b7 := balloc (bx (bx (bx (bx (bx (bx w [203]) [237]) [221]) [253]) [221, 203]) [253, 203]) (.cells #[.slice none 0 0, .slice (some ⟨w.heap.size, 0, none⟩) 1 1, .slice (some ⟨w.heap.size + 1, 0, none⟩) 1 1, .slice (some ⟨w.heap.size + 2, 0, none⟩) 1 1, .slice (some ⟨w.heap.size + 3, 0, none⟩) 1 1, .slice (some ⟨w.heap.size + 4, 0, none⟩) 2 2, .slice (some ⟨w.heap.size + 5, 0, none⟩) 2 2] 22)
  have c6 := b7
  have c5 := below_step b6 c6
  have c4 := below_step b5 c5
  have c3 := below_step b4 c4
  have c2 := below_step b3 c3
  have c1 := below_step b2 c2
  have c0 := below_step b1 c1
  have hrow : ∀ k v, (#[.slice none 0 0, .slice (some ⟨w.heap.size, 0, none⟩) 1 1, .slice (some ⟨w.heap.size + 1, 0, none⟩) 1 1, .slice (some ⟨w.heap.size + 2, 0, none⟩) 1 1, .slice (some ⟨w.heap.size + 3, 0, none⟩) 1 1, .slice (some ⟨w.heap.size + 4, 0, none⟩) 2 2, .slice (some ⟨w.heap.size + 5, 0, none⟩) 2 2] : Array Value)[k]? = some v → (((((((w.alloc (.cells #[.int .u8 203] 5)).alloc (.cells #[.int .u8 237] 5)).alloc (.cells #[.int .u8 221] 5)).alloc (.cells #[.int .u8 253] 5)).alloc (.cells #[.int .u8 221, .int .u8 203] 5)).alloc (.cells #[.int .u8 253, .int .u8 203] 5)).alloc (.cells #[.slice none 0 0, .slice (some ⟨w.heap.size, 0, none⟩) 1 1, .slice (some ⟨w.heap.size + 1, 0, none⟩) 1 1, .slice (some ⟨w.heap.size + 2, 0, none⟩) 1 1, .slice (some ⟨w.heap.size + 3, 0, none⟩) 1 1, .slice (some ⟨w.heap.size + 4, 0, none⟩) 2 2, .slice (some ⟨w.heap.size + 5, 0, none⟩) 2 2] 22)).cell? ⟨w.heap.size + 6, k, none⟩ = some v := by
    intro k v hv
    have h := heap_alloc_new (bx (bx (bx (bx (bx (bx w [203]) [237]) [221]) [253]) [221, 203]) [253, 203]) (.cells #[.slice none 0 0, .slice (some ⟨w.heap.size, 0, none⟩) 1 1, .slice (some ⟨w.heap.size + 1, 0, none⟩) 1 1, .slice (some ⟨w.heap.size + 2, 0, none⟩) 1 1, .slice (some ⟨w.heap.size + 3, 0, none⟩) 1 1, .slice (some ⟨w.heap.size + 4, 0, none⟩) 2 2, .slice (some ⟨w.heap.size + 5, 0, none⟩) 2 2] 22)
    rw [z6] at h
    exact (cell_of_row _ _ k _ _ (0, 0) h).trans hv
  match j, hj with
  | 0, _ => exact ⟨_, [], hrow 0 _ rfl, ⟨bytes_nil _ _, Or.inl rfl⟩, by simp, c0⟩
  | 1, _ =>
    have s := (bx_src w [203] (getD_lt _ (by decide)) (by decide)).up c1
    skip
    exact ⟨_, [203], hrow 1 _ rfl, s, by decide, c0⟩
  | 2, _ =>
    have s := (bx_src (bx w [203]) [237] (getD_lt _ (by decide)) (by decide)).up c2
    rw [z1] at s
    exact ⟨_, [237], hrow 2 _ rfl, s, by decide, c0⟩
  | 3, _ =>
    have s := (bx_src (bx (bx w [203]) [237]) [221] (getD_lt _ (by decide)) (by decide)).up c3
    rw [z2] at s
    exact ⟨_, [221], hrow 3 _ rfl, s, by decide, c0⟩
  | 4, _ =>
    have s := (bx_src (bx (bx (bx w [203]) [237]) [221]) [253] (getD_lt _ (by decide)) (by decide)).up c4
    rw [z3] at s
    exact ⟨_, [253], hrow 4 _ rfl, s, by decide, c0⟩
  | 5, _ =>
    have s := (bx_src (bx (bx (bx (bx w [203]) [237]) [221]) [253]) [221, 203] (getD_lt _ (by decide)) (by decide)).up c5
    rw [z4] at s
    exact ⟨_, [221, 203], hrow 5 _ rfl, s, by decide, c0⟩
  | 6, _ =>
    have s := (bx_src (bx (bx (bx (bx (bx w [203]) [237]) [221]) [253]) [221, 203]) [253, 203] (getD_lt _ (by decide)) (by decide)).up c6
    rw [z5] at s
    exact ⟨_, [253, 203], hrow 6 _ rfl, s, by decide, c0⟩
  | n + 7, h => exact absurd h (by omega)
theorem one_lt {d : Nat} (hd : d < 256) (j : Nat) : gN [d] j < 256 := by
  unfold gN
  match j with
  | 0 => exact hd
  | _ + 1 => simp
theorem four_lt {a b c d : Nat} (h0 : a < 256) (h1 : b < 256) (h2 : c < 256) (h3 : d < 256) (j : Nat) : gN [a, b, c, d] j < 256 := by
  unfold gN
  match j with
  | 0 => exact h0
  | 1 => exact h1
  | 2 => exact h2
  | 3 => exact h3
  | _ + 4 => simp
theorem rreadIs {v : Value} {l : List Nat} {x : In} {b : Bool} (w : World) (h : BytesAt w w.heap.size v l) (hx : readR l = x) (hb : readB l = b) : Calls Tryd.prog 10 #[v] w fun e w' => e = .returned (.tuple #[.agg x.arr, .bool b]) ∧ Below w.heap.size w w' := by
  subst hx hb; exact rread_any v l w h
theorem showIs (x : In) (pc : Nat) (T : ByteArray) (u : World) (h : OpTab u) (ok : x.Ok) (hT : txt (x.en (tgtN x pc)) (showT x.set (hasI x.ix) (nameL x.ix) x.code) = T) : Calls Tryd.prog 12 #[.agg x.arr, .int .u16 pc] u fun e w' => e = .returned (.string T) ∧ Below u.heap.size u w' := by
  subst hT; exact opShow x pc u h ok
theorem rshowIs (x : In) (pc : Nat) (T : ByteArray) (u : World) (ok : x.Ok) (hpc : pc < 65536) (l0 : 0 ≤ x.len) (l8 : x.len ≤ 8) (hT : txt (x.en (tgtN x pc)) (showT x.set (hasI x.ix) (nameL x.ix) x.code) = T) : Calls Tryd.prog 13 #[.agg x.arr, .int .u16 pc] u fun e w' => e = .returned (.string T) ∧ Below u.heap.size u w' := by
  have hR : strL (refShow x.set x.ix x.code x.d x.n (tgtN x pc)) = T := by rw [← hT]; exact congrArg strL (show_eq (x.en (tgtN x pc)) x.set x.code ok.code)
  subst hR; exact refShowAny x pc u ok hpc l0 l8
theorem text_ne (x : In) (pc : Nat) (T : ByteArray) (hd : x.d < 256) (h : showT x.set (hasI x.ix) (nameL x.ix) x.code ≠ []) (hT : txt (x.en (tgtN x pc)) (showT x.set (hasI x.ix) (nameL x.ix) x.code) = T) : (T.toList == []) = false := by
  have h1 := ren_ne (x.en (tgtN x pc)) hd _ h
  have h2 : T.toList = ren (x.en (tgtN x pc)) (showT x.set (hasI x.ix) (nameL x.ix) x.code) := by
    rw [← hT, ByteArray.toList_eq]
    simp [txt, strL]
  rw [h2, beq_eq_false_iff_ne]
  exact h1
/-- What a round of the law asks of the bytes that it builds. -/
theorem round_facts (l : List Nat) (pc : Nat) (hb : ∀ j, gN l j < 256) (h4 : 4 ≤ l.length) (hpc : pc < 65536) : ∃ (x : In) (T : ByteArray), x.Ok ∧ (T.toList == []) = false ∧
    (∀ u v, BytesAt u u.heap.size v l → Calls Tryd.prog 9 #[v] u fun e w' => e = .returned (.tuple #[.agg x.arr, .bool true]) ∧ Below u.heap.size u w') ∧
    (∀ u v, BytesAt u u.heap.size v l → Calls Tryd.prog 10 #[v] u fun e w' => e = .returned (.tuple #[.agg x.arr, .bool true]) ∧ Below u.heap.size u w') ∧
    (∀ u, OpTab u → Calls Tryd.prog 12 #[.agg x.arr, .int .u16 pc] u fun e w' => e = .returned (.string T) ∧ Below u.heap.size u w') ∧
    (∀ u, Calls Tryd.prog 13 #[.agg x.arr, .int .u16 pc] u fun e w' => e = .returned (.string T) ∧ Below u.heap.size u w') := by
  obtain ⟨hr, z0, z8, hne⟩ := readR_text l hb h4
  have ok := readR_ok l hb
  obtain ⟨x, hx⟩ : ∃ x, readR l = x := ⟨_, rfl⟩
  rw [hx] at z0 z8 hne ok
  obtain ⟨T, hT⟩ : ∃ T, txt (x.en (tgtN x pc)) (showT x.set (hasI x.ix) (nameL x.ix) x.code) = T := ⟨_, rfl⟩
  exact ⟨x, T, ok, text_ne x pc T ok.d hne hT, fun u v h => readIs u h hx hr, fun u v h => rreadIs u h hx hr, fun u h => showIs x pc T u h ok hT, fun u => rshowIs x pc T u ok hpc z0 z8 hT⟩

set_option maxRecDepth 100000 in
set_option maxHeartbeats 4000000 in
theorem all_walk (n d pc : Nat) (hn : n < 65536) (hd : d < 256) (hpc : pc < 65536) (w : World) (ht : OpTab w) : Calls Tryd.prog 6 #[.int .u16 n, .int .u8 d, .int .u16 pc] w fun e w' => e = .returned (.bool true) ∧ Below w.heap.size w w' := by
  have H := Lib.hid ht
  clear ht
  obtain ⟨p, ep, p256⟩ : ∃ p : Nat, (n : Int) % 256 = (p : Int) ∧ p < 256 := ⟨n % 256, by omega, by omega⟩
  obtain ⟨q, eq, q256⟩ : ∃ q : Nat, (n : Int) / 256 = (q : Int) ∧ q < 256 := ⟨n / 256, by omega, by omega⟩
  go_enter Tryd.func6, Tryd.ntmps6
  go_wp2_with fail
  go_loopw [7] (fun q wr => ∃ j : Nat, j ≤ 7 ∧ q = .int .i64 j ∧ Hid (Below w.heap.size w wr)) (fun q _ => 7 - (intOf q).toNat)
  case atStart => exact ⟨0, by omega, rfl, Lib.hid (Below.refl _ _)⟩
  case round =>
    obtain ⟨j, hj, rfl, hs⟩ := hrel
    by_cases hlt : j < 7
    · have d7 : decide ((j : Int) < 7) = true := by simp; omega
      obtain ⟨vb, pre, hc, hsrc, hp2, hbel⟩ := tow_at wr j hlt
      have K := Lib.hid (And.intro hsrc (below_step hs.out hbel))
      clear hsrc hbel hs
      go_upto_region 5 with (fail)
      have k := K.out
      clear K
      generalize (((((((wr.alloc (.cells #[.int .u8 203] 5)).alloc (.cells #[.int .u8 237] 5)).alloc (.cells #[.int .u8 221] 5)).alloc (.cells #[.int .u8 253] 5)).alloc (.cells #[.int .u8 221, .int .u8 203] 5)).alloc (.cells #[.int .u8 253, .int .u8 203] 5)).alloc (.cells #[.slice none 0 0, .slice (some ⟨wr.heap.size, 0, none⟩) 1 1, .slice (some ⟨wr.heap.size + 1, 0, none⟩) 1 1, .slice (some ⟨wr.heap.size + 2, 0, none⟩) 1 1, .slice (some ⟨wr.heap.size + 3, 0, none⟩) 1 1, .slice (some ⟨wr.heap.size + 4, 0, none⟩) 2 2, .slice (some ⟨wr.heap.size + 5, 0, none⟩) 2 2] 22)) = u at hc k ⊢
      have K := Lib.hid k
      clear k hc
      go_wp2_with fail
      go_loopw [9] (fun q wx => ∃ i : Nat, i ≤ 256 ∧ q = .int .i64 i ∧ Hid (Below u.heap.size u wx)) (fun q _ => 256 - (intOf q).toNat)
      case atStart => exact ⟨0, by omega, rfl, Lib.hid (Below.refl _ _)⟩
      case round =>
        obtain ⟨i, hi, rfl, hs2⟩ := hrel
        by_cases hlt2 : i < 256
        · have d9 : decide ((i : Int) < 256) = true := by simp; omega
          have HT := Lib.hid (H.out.below (below_step K.out.2 hs2.out))
          by_cases h5 : 5 ≤ j
          · have d5 : decide (5 ≤ (j : Int)) = true := by simp; omega
            go_wp2_with (at_builtin; refine wpList_append_bytes wr.heap.size rfl _ _ rfl _ 0 [] rfl (World.ownsRow_nil _ _ _ _) _ pre rfl (K.out.1.up hs2.out) (by omega) (Nat.le_refl _) ?_)
            intro v1 w1 hown1 hb1
            have hown1 : w1.ownsRow wr.heap.size 5 1 v1 pre.length (pre.map u8V) := by simpa using hown1
            have hd1 : ∀ j, gN [d] j < 256 := one_lt hd
            go_wp2_with (at_builtin; refine wpList_append_bytes wr.heap.size rfl _ _ rfl _ (pre.length) (pre) rfl (hown1.alloc _) _ [d] rfl (bx_src w1 [d] hd1 (by simp)) (by simp only [List.length_cons, List.length_nil]; omega) (hb1.alloc hb1.size _).size ?_)
            intro v2 w2 hown2 hb2
            have hown2 : w2.ownsRow wr.heap.size 5 1 v2 (pre.length + 1) ((pre ++ [d]).map u8V) := by simpa using hown2
            have hb2 : Below wr.heap.size wr w2 := (hb1.alloc hb1.size _).trans hb2
            have hlp : ∀ j, gN (pre ++ [d]) j < 256 := lt_app _ _ K.out.1.1.lt hd1
            have hd4 : ∀ j, gN [i, p, q, d] j < 256 := four_lt hlt2 p256 q256 hd
            go_wp2_with (at_builtin; refine wpList_append_bytes wr.heap.size rfl _ _ rfl _ ((pre.length + 1)) ((pre ++ [d])) rfl (hown2.alloc _) _ [i, p, q, d] rfl (bx_src w2 [i, p, q, d] hd4 (by simp)) (by simp only [List.length_cons, List.length_nil]; omega) (hb2.alloc hb2.size _).size ?_)
            intro v3 w3 hown3 hb3
            have hown3 : w3.ownsRow wr.heap.size 5 1 v3 ((pre.length + 1) + 4) (((pre ++ [d]) ++ [i, p, q, d]).map u8V) := by simpa using hown3
            have hb3 : Below wr.heap.size wr w3 := (hb2.alloc hb2.size _).trans hb3
            have HL := Lib.hid (lt_app _ _ hlp hd4)
            have h4 : 4 ≤ ((pre ++ [d]) ++ [i, p, q, d]).length := by simp
            generalize (pre ++ [d]) ++ [i, p, q, d] = l at hown3 HL h4
            obtain ⟨x, T, ok, hne, F1, F2, F3, F4⟩ := round_facts l pc HL.out h4 hpc
            have hq : (T.toList == T.toList) = true := str_eq rfl
            have C1 := Lib.hid (F1 w3 v3 (bytes_of_own hown3 HL.out))
            have N1 := Lib.hid (fun (w1 : World) (hb1 : Below wr.heap.size wr w1) => OneR.new x hb1)
            have C2 := Lib.hid (fun (u : World) (hu : Below w3.heap.size w3 u) => F2 u v3 ((bytes_of_own hown3 HL.out).up hu))
            have N2 := Lib.hid (fun (w1 w2 : World) (g1 : Nat) (h : OneR wr g1 x w1) (hb : Below w1.heap.size w1 w2) => TwoR.new h HT.out hb)
            have HU := Lib.hid (show ∀ g1 g2 u, TwoR wr g1 g2 x u → (fun u => (u.cell? ⟨g1, 0, none⟩ = some (.int .i64 x.set) ∧ u.cell? ⟨g1, 1, none⟩ = some (.int .i64 x.ix) ∧ u.cell? ⟨g1, 2, none⟩ = some (.int .u8 x.code) ∧ u.cell? ⟨g1, 3, none⟩ = some (.int .u8 x.d) ∧ u.cell? ⟨g1, 4, none⟩ = some (.int .u16 x.n) ∧ u.cell? ⟨g1, 5, none⟩ = some (.int .i64 x.len) ∧ u.cell? ⟨g2, 0, none⟩ = some (.int .i64 x.set) ∧ u.cell? ⟨g2, 1, none⟩ = some (.int .i64 x.ix) ∧ u.cell? ⟨g2, 2, none⟩ = some (.int .u8 x.code) ∧ u.cell? ⟨g2, 3, none⟩ = some (.int .u8 x.d) ∧ u.cell? ⟨g2, 4, none⟩ = some (.int .u16 x.n) ∧ u.cell? ⟨g2, 5, none⟩ = some (.int .i64 x.len)) ∧ TwoR wr g1 g2 x u) u from fun g1 g2 u k => ⟨⟨k.a.cell 0 _ rfl, k.a.cell 1 _ rfl, k.a.cell 2 _ rfl, k.a.cell 3 _ rfl, k.a.cell 4 _ rfl, k.a.cell 5 _ rfl, k.r.cell 0 _ rfl, k.r.cell 1 _ rfl, k.r.cell 2 _ rfl, k.r.cell 3 _ rfl, k.r.cell 4 _ rfl, k.r.cell 5 _ rfl⟩, k⟩)
            have C3 := Lib.hid F3
            have C4 := Lib.hid F4
            have C5 := Lib.hid (fun u => plain_is x u)
            have B3 := Lib.hid hb3
            clear F1 F2 F3 F4 ok hown3 hb3
            unfold In.arr at *
            go_wp2_with fail
            refine C1.out.mono ?_
            rintro e w4 ⟨rfl, hb4⟩
            have K4 := Lib.hid (And.intro (N1.out w4 (below_step B3.out hb4)) (below_step hb4 (balloc w4 (.cells #[.int .i64 x.set, .int .i64 x.ix, .int .u8 x.code, .int .u8 x.d, .int .u16 x.n, .int .i64 x.len] 26))))
            clear hb4 C1 N1 B3
            go_upto_region 14 with (fail)
            have k4 := K4.out
            clear K4
            generalize w4.alloc (.cells #[.int .i64 x.set, .int .i64 x.ix, .int .u8 x.code, .int .u8 x.d, .int .u16 x.n, .int .i64 x.len] 26) = u4 at k4 ⊢
            generalize w4.heap.size = g1 at k4 ⊢
            have K4 := Lib.hid k4
            clear k4
            go_wp2_with fail
            refine (C2.out _ K4.out.2).mono ?_
            rintro e w5 ⟨rfl, hb5⟩
            have K5 := Lib.hid (N2.out u4 w5 g1 K4.out.1 hb5)
            clear hb5 K4 C2 N2
            go_upto_region 15 with (fail)
            have k5 := K5.out
            clear K5
            generalize w5.alloc (.cells #[.int .i64 x.set, .int .i64 x.ix, .int .u8 x.code, .int .u8 x.d, .int .u16 x.n, .int .i64 x.len] 29) = u5 at k5 ⊢
            generalize w5.heap.size = g2 at k5 ⊢
            have hS1 := HU.out g1 g2 _ k5.drew
            have P1 := Lib.hid (show ∀ u, (fun u => (u.cell? ⟨g1, 0, none⟩ = some (.int .i64 x.set) ∧ u.cell? ⟨g1, 1, none⟩ = some (.int .i64 x.ix) ∧ u.cell? ⟨g1, 2, none⟩ = some (.int .u8 x.code) ∧ u.cell? ⟨g1, 3, none⟩ = some (.int .u8 x.d) ∧ u.cell? ⟨g1, 4, none⟩ = some (.int .u16 x.n) ∧ u.cell? ⟨g1, 5, none⟩ = some (.int .i64 x.len) ∧ u.cell? ⟨g2, 0, none⟩ = some (.int .i64 x.set) ∧ u.cell? ⟨g2, 1, none⟩ = some (.int .i64 x.ix) ∧ u.cell? ⟨g2, 2, none⟩ = some (.int .u8 x.code) ∧ u.cell? ⟨g2, 3, none⟩ = some (.int .u8 x.d) ∧ u.cell? ⟨g2, 4, none⟩ = some (.int .u16 x.n) ∧ u.cell? ⟨g2, 5, none⟩ = some (.int .i64 x.len)) ∧ TwoR wr g1 g2 x u) u → Calls Tryd.prog 11 #[.agg #[.int .i64 x.set, .int .i64 x.ix, .int .u8 x.code, .int .u8 x.d, .int .u16 x.n, .int .i64 x.len]] u fun e w' => e = .returned (.agg #[.int .i64 x.set, .int .i64 x.ix, .int .u8 x.code, .int .u8 x.d, .int .u16 x.n, .int .i64 x.len]) ∧ (fun u => (u.cell? ⟨g1, 0, none⟩ = some (.int .i64 x.set) ∧ u.cell? ⟨g1, 1, none⟩ = some (.int .i64 x.ix) ∧ u.cell? ⟨g1, 2, none⟩ = some (.int .u8 x.code) ∧ u.cell? ⟨g1, 3, none⟩ = some (.int .u8 x.d) ∧ u.cell? ⟨g1, 4, none⟩ = some (.int .u16 x.n) ∧ u.cell? ⟨g1, 5, none⟩ = some (.int .i64 x.len) ∧ u.cell? ⟨g2, 0, none⟩ = some (.int .i64 x.set) ∧ u.cell? ⟨g2, 1, none⟩ = some (.int .i64 x.ix) ∧ u.cell? ⟨g2, 2, none⟩ = some (.int .u8 x.code) ∧ u.cell? ⟨g2, 3, none⟩ = some (.int .u8 x.d) ∧ u.cell? ⟨g2, 4, none⟩ = some (.int .u16 x.n) ∧ u.cell? ⟨g2, 5, none⟩ = some (.int .i64 x.len)) ∧ TwoR wr g1 g2 x u) w' from fun u hu => (C5.out u).mono fun _ _ ⟨he, hb⟩ => ⟨he, HU.out _ _ _ (hu.2.later hb)⟩)
            have P2 := Lib.hid (show ∀ u, (fun u => (u.cell? ⟨g1, 0, none⟩ = some (.int .i64 x.set) ∧ u.cell? ⟨g1, 1, none⟩ = some (.int .i64 x.ix) ∧ u.cell? ⟨g1, 2, none⟩ = some (.int .u8 x.code) ∧ u.cell? ⟨g1, 3, none⟩ = some (.int .u8 x.d) ∧ u.cell? ⟨g1, 4, none⟩ = some (.int .u16 x.n) ∧ u.cell? ⟨g1, 5, none⟩ = some (.int .i64 x.len) ∧ u.cell? ⟨g2, 0, none⟩ = some (.int .i64 x.set) ∧ u.cell? ⟨g2, 1, none⟩ = some (.int .i64 x.ix) ∧ u.cell? ⟨g2, 2, none⟩ = some (.int .u8 x.code) ∧ u.cell? ⟨g2, 3, none⟩ = some (.int .u8 x.d) ∧ u.cell? ⟨g2, 4, none⟩ = some (.int .u16 x.n) ∧ u.cell? ⟨g2, 5, none⟩ = some (.int .i64 x.len)) ∧ TwoR wr g1 g2 x u) u → Calls Tryd.prog 12 #[.agg #[.int .i64 x.set, .int .i64 x.ix, .int .u8 x.code, .int .u8 x.d, .int .u16 x.n, .int .i64 x.len], .int .u16 pc] u fun e w' => e = .returned (.string T) ∧ (fun u => (u.cell? ⟨g1, 0, none⟩ = some (.int .i64 x.set) ∧ u.cell? ⟨g1, 1, none⟩ = some (.int .i64 x.ix) ∧ u.cell? ⟨g1, 2, none⟩ = some (.int .u8 x.code) ∧ u.cell? ⟨g1, 3, none⟩ = some (.int .u8 x.d) ∧ u.cell? ⟨g1, 4, none⟩ = some (.int .u16 x.n) ∧ u.cell? ⟨g1, 5, none⟩ = some (.int .i64 x.len) ∧ u.cell? ⟨g2, 0, none⟩ = some (.int .i64 x.set) ∧ u.cell? ⟨g2, 1, none⟩ = some (.int .i64 x.ix) ∧ u.cell? ⟨g2, 2, none⟩ = some (.int .u8 x.code) ∧ u.cell? ⟨g2, 3, none⟩ = some (.int .u8 x.d) ∧ u.cell? ⟨g2, 4, none⟩ = some (.int .u16 x.n) ∧ u.cell? ⟨g2, 5, none⟩ = some (.int .i64 x.len)) ∧ TwoR wr g1 g2 x u) w' from fun u hu => (C3.out u hu.2.tab).mono fun _ _ ⟨he, hb⟩ => ⟨he, HU.out _ _ _ (hu.2.later hb)⟩)
            have P3 := Lib.hid (show ∀ u, (fun u => (u.cell? ⟨g1, 0, none⟩ = some (.int .i64 x.set) ∧ u.cell? ⟨g1, 1, none⟩ = some (.int .i64 x.ix) ∧ u.cell? ⟨g1, 2, none⟩ = some (.int .u8 x.code) ∧ u.cell? ⟨g1, 3, none⟩ = some (.int .u8 x.d) ∧ u.cell? ⟨g1, 4, none⟩ = some (.int .u16 x.n) ∧ u.cell? ⟨g1, 5, none⟩ = some (.int .i64 x.len) ∧ u.cell? ⟨g2, 0, none⟩ = some (.int .i64 x.set) ∧ u.cell? ⟨g2, 1, none⟩ = some (.int .i64 x.ix) ∧ u.cell? ⟨g2, 2, none⟩ = some (.int .u8 x.code) ∧ u.cell? ⟨g2, 3, none⟩ = some (.int .u8 x.d) ∧ u.cell? ⟨g2, 4, none⟩ = some (.int .u16 x.n) ∧ u.cell? ⟨g2, 5, none⟩ = some (.int .i64 x.len)) ∧ TwoR wr g1 g2 x u) u → Calls Tryd.prog 13 #[.agg #[.int .i64 x.set, .int .i64 x.ix, .int .u8 x.code, .int .u8 x.d, .int .u16 x.n, .int .i64 x.len], .int .u16 pc] u fun e w' => e = .returned (.string T) ∧ (fun u => (u.cell? ⟨g1, 0, none⟩ = some (.int .i64 x.set) ∧ u.cell? ⟨g1, 1, none⟩ = some (.int .i64 x.ix) ∧ u.cell? ⟨g1, 2, none⟩ = some (.int .u8 x.code) ∧ u.cell? ⟨g1, 3, none⟩ = some (.int .u8 x.d) ∧ u.cell? ⟨g1, 4, none⟩ = some (.int .u16 x.n) ∧ u.cell? ⟨g1, 5, none⟩ = some (.int .i64 x.len) ∧ u.cell? ⟨g2, 0, none⟩ = some (.int .i64 x.set) ∧ u.cell? ⟨g2, 1, none⟩ = some (.int .i64 x.ix) ∧ u.cell? ⟨g2, 2, none⟩ = some (.int .u8 x.code) ∧ u.cell? ⟨g2, 3, none⟩ = some (.int .u8 x.d) ∧ u.cell? ⟨g2, 4, none⟩ = some (.int .u16 x.n) ∧ u.cell? ⟨g2, 5, none⟩ = some (.int .i64 x.len)) ∧ TwoR wr g1 g2 x u) w' from fun u hu => (C4.out u).mono fun _ _ ⟨he, hb⟩ => ⟨he, HU.out _ _ _ (hu.2.later hb)⟩)
            clear k5 C3 C4 C5
            go_region_held3 (fun u => (u.cell? ⟨g1, 0, none⟩ = some (.int .i64 x.set) ∧ u.cell? ⟨g1, 1, none⟩ = some (.int .i64 x.ix) ∧ u.cell? ⟨g1, 2, none⟩ = some (.int .u8 x.code) ∧ u.cell? ⟨g1, 3, none⟩ = some (.int .u8 x.d) ∧ u.cell? ⟨g1, 4, none⟩ = some (.int .u16 x.n) ∧ u.cell? ⟨g1, 5, none⟩ = some (.int .i64 x.len) ∧ u.cell? ⟨g2, 0, none⟩ = some (.int .i64 x.set) ∧ u.cell? ⟨g2, 1, none⟩ = some (.int .i64 x.ix) ∧ u.cell? ⟨g2, 2, none⟩ = some (.int .u8 x.code) ∧ u.cell? ⟨g2, 3, none⟩ = some (.int .u8 x.d) ∧ u.cell? ⟨g2, 4, none⟩ = some (.int .u16 x.n) ∧ u.cell? ⟨g2, 5, none⟩ = some (.int .i64 x.len)) ∧ TwoR wr g1 g2 x u) (assumption) ((first | (go_at_call 11; refine (P1.out _ (by assumption)).mono ?_; rintro e w' ⟨rfl, hE⟩) | (go_at_call 12; refine (P2.out _ (by assumption)).mono ?_; rintro e w' ⟨rfl, hE⟩) | (go_at_call 13; refine (P3.out _ (by assumption)).mono ?_; rintro e w' ⟨rfl, hE⟩)))
            have B := Lib.hid hE.2.bel
            clear hE hS1
            go_wp2_with fail
            go_roundw
            case rel => exact ⟨i + 1, by omega, by go_num, Lib.hid (below_step hs2.out B.out)⟩
            case measure => first | (simp [intOf]; done) | (simp [intOf]; omega)
          · have d5 : decide (5 ≤ (j : Int)) = false := by simp; omega
            go_wp2_with (at_builtin; refine wpList_append_bytes wr.heap.size rfl _ _ rfl _ 0 [] rfl (World.ownsRow_nil _ _ _ _) _ pre rfl (K.out.1.up hs2.out) (by omega) (Nat.le_refl _) ?_)
            intro v1 w1 hown1 hb1
            have hown1 : w1.ownsRow wr.heap.size 5 1 v1 pre.length (pre.map u8V) := by simpa using hown1
            have hlp : ∀ j, gN pre j < 256 := K.out.1.1.lt
            have hd4 : ∀ j, gN [i, p, q, d] j < 256 := four_lt hlt2 p256 q256 hd
            go_wp2_with (at_builtin; refine wpList_append_bytes wr.heap.size rfl _ _ rfl _ (pre.length) (pre) rfl (hown1.alloc _) _ [i, p, q, d] rfl (bx_src w1 [i, p, q, d] hd4 (by simp)) (by simp only [List.length_cons, List.length_nil]; omega) (hb1.alloc hb1.size _).size ?_)
            intro v2 w2 hown2 hb2
            have hown3 : w2.ownsRow wr.heap.size 5 1 v2 (pre.length + 4) ((pre ++ [i, p, q, d]).map u8V) := by simpa using hown2
            have hb3 : Below wr.heap.size wr w2 := (hb1.alloc hb1.size _).trans hb2
            have HL := Lib.hid (lt_app _ _ hlp hd4)
            have h4 : 4 ≤ (pre ++ [i, p, q, d]).length := by simp
            generalize pre ++ [i, p, q, d] = l at hown3 HL h4
            obtain ⟨x, T, ok, hne, F1, F2, F3, F4⟩ := round_facts l pc HL.out h4 hpc
            have hq : (T.toList == T.toList) = true := str_eq rfl
            have C1 := Lib.hid (F1 w2 v2 (bytes_of_own hown3 HL.out))
            have N1 := Lib.hid (fun (w1 : World) (hb1 : Below wr.heap.size wr w1) => OneR.new x hb1)
            have C2 := Lib.hid (fun (u : World) (hu : Below w2.heap.size w2 u) => F2 u v2 ((bytes_of_own hown3 HL.out).up hu))
            have N2 := Lib.hid (fun (w1 w2 : World) (g1 : Nat) (h : OneR wr g1 x w1) (hb : Below w1.heap.size w1 w2) => TwoR.new h HT.out hb)
            have HU := Lib.hid (show ∀ g1 g2 u, TwoR wr g1 g2 x u → (fun u => (u.cell? ⟨g1, 0, none⟩ = some (.int .i64 x.set) ∧ u.cell? ⟨g1, 1, none⟩ = some (.int .i64 x.ix) ∧ u.cell? ⟨g1, 2, none⟩ = some (.int .u8 x.code) ∧ u.cell? ⟨g1, 3, none⟩ = some (.int .u8 x.d) ∧ u.cell? ⟨g1, 4, none⟩ = some (.int .u16 x.n) ∧ u.cell? ⟨g1, 5, none⟩ = some (.int .i64 x.len) ∧ u.cell? ⟨g2, 0, none⟩ = some (.int .i64 x.set) ∧ u.cell? ⟨g2, 1, none⟩ = some (.int .i64 x.ix) ∧ u.cell? ⟨g2, 2, none⟩ = some (.int .u8 x.code) ∧ u.cell? ⟨g2, 3, none⟩ = some (.int .u8 x.d) ∧ u.cell? ⟨g2, 4, none⟩ = some (.int .u16 x.n) ∧ u.cell? ⟨g2, 5, none⟩ = some (.int .i64 x.len)) ∧ TwoR wr g1 g2 x u) u from fun g1 g2 u k => ⟨⟨k.a.cell 0 _ rfl, k.a.cell 1 _ rfl, k.a.cell 2 _ rfl, k.a.cell 3 _ rfl, k.a.cell 4 _ rfl, k.a.cell 5 _ rfl, k.r.cell 0 _ rfl, k.r.cell 1 _ rfl, k.r.cell 2 _ rfl, k.r.cell 3 _ rfl, k.r.cell 4 _ rfl, k.r.cell 5 _ rfl⟩, k⟩)
            have C3 := Lib.hid F3
            have C4 := Lib.hid F4
            have C5 := Lib.hid (fun u => plain_is x u)
            have B3 := Lib.hid hb3
            clear F1 F2 F3 F4 ok hown3 hb3
            unfold In.arr at *
            go_wp2_with fail
            refine C1.out.mono ?_
            rintro e w4 ⟨rfl, hb4⟩
            have K4 := Lib.hid (And.intro (N1.out w4 (below_step B3.out hb4)) (below_step hb4 (balloc w4 (.cells #[.int .i64 x.set, .int .i64 x.ix, .int .u8 x.code, .int .u8 x.d, .int .u16 x.n, .int .i64 x.len] 26))))
            clear hb4 C1 N1 B3
            go_upto_region 14 with (fail)
            have k4 := K4.out
            clear K4
            generalize w4.alloc (.cells #[.int .i64 x.set, .int .i64 x.ix, .int .u8 x.code, .int .u8 x.d, .int .u16 x.n, .int .i64 x.len] 26) = u4 at k4 ⊢
            generalize w4.heap.size = g1 at k4 ⊢
            have K4 := Lib.hid k4
            clear k4
            go_wp2_with fail
            refine (C2.out _ K4.out.2).mono ?_
            rintro e w5 ⟨rfl, hb5⟩
            have K5 := Lib.hid (N2.out u4 w5 g1 K4.out.1 hb5)
            clear hb5 K4 C2 N2
            go_upto_region 15 with (fail)
            have k5 := K5.out
            clear K5
            generalize w5.alloc (.cells #[.int .i64 x.set, .int .i64 x.ix, .int .u8 x.code, .int .u8 x.d, .int .u16 x.n, .int .i64 x.len] 29) = u5 at k5 ⊢
            generalize w5.heap.size = g2 at k5 ⊢
            have hS1 := HU.out g1 g2 _ k5.drew
            have P1 := Lib.hid (show ∀ u, (fun u => (u.cell? ⟨g1, 0, none⟩ = some (.int .i64 x.set) ∧ u.cell? ⟨g1, 1, none⟩ = some (.int .i64 x.ix) ∧ u.cell? ⟨g1, 2, none⟩ = some (.int .u8 x.code) ∧ u.cell? ⟨g1, 3, none⟩ = some (.int .u8 x.d) ∧ u.cell? ⟨g1, 4, none⟩ = some (.int .u16 x.n) ∧ u.cell? ⟨g1, 5, none⟩ = some (.int .i64 x.len) ∧ u.cell? ⟨g2, 0, none⟩ = some (.int .i64 x.set) ∧ u.cell? ⟨g2, 1, none⟩ = some (.int .i64 x.ix) ∧ u.cell? ⟨g2, 2, none⟩ = some (.int .u8 x.code) ∧ u.cell? ⟨g2, 3, none⟩ = some (.int .u8 x.d) ∧ u.cell? ⟨g2, 4, none⟩ = some (.int .u16 x.n) ∧ u.cell? ⟨g2, 5, none⟩ = some (.int .i64 x.len)) ∧ TwoR wr g1 g2 x u) u → Calls Tryd.prog 11 #[.agg #[.int .i64 x.set, .int .i64 x.ix, .int .u8 x.code, .int .u8 x.d, .int .u16 x.n, .int .i64 x.len]] u fun e w' => e = .returned (.agg #[.int .i64 x.set, .int .i64 x.ix, .int .u8 x.code, .int .u8 x.d, .int .u16 x.n, .int .i64 x.len]) ∧ (fun u => (u.cell? ⟨g1, 0, none⟩ = some (.int .i64 x.set) ∧ u.cell? ⟨g1, 1, none⟩ = some (.int .i64 x.ix) ∧ u.cell? ⟨g1, 2, none⟩ = some (.int .u8 x.code) ∧ u.cell? ⟨g1, 3, none⟩ = some (.int .u8 x.d) ∧ u.cell? ⟨g1, 4, none⟩ = some (.int .u16 x.n) ∧ u.cell? ⟨g1, 5, none⟩ = some (.int .i64 x.len) ∧ u.cell? ⟨g2, 0, none⟩ = some (.int .i64 x.set) ∧ u.cell? ⟨g2, 1, none⟩ = some (.int .i64 x.ix) ∧ u.cell? ⟨g2, 2, none⟩ = some (.int .u8 x.code) ∧ u.cell? ⟨g2, 3, none⟩ = some (.int .u8 x.d) ∧ u.cell? ⟨g2, 4, none⟩ = some (.int .u16 x.n) ∧ u.cell? ⟨g2, 5, none⟩ = some (.int .i64 x.len)) ∧ TwoR wr g1 g2 x u) w' from fun u hu => (C5.out u).mono fun _ _ ⟨he, hb⟩ => ⟨he, HU.out _ _ _ (hu.2.later hb)⟩)
            have P2 := Lib.hid (show ∀ u, (fun u => (u.cell? ⟨g1, 0, none⟩ = some (.int .i64 x.set) ∧ u.cell? ⟨g1, 1, none⟩ = some (.int .i64 x.ix) ∧ u.cell? ⟨g1, 2, none⟩ = some (.int .u8 x.code) ∧ u.cell? ⟨g1, 3, none⟩ = some (.int .u8 x.d) ∧ u.cell? ⟨g1, 4, none⟩ = some (.int .u16 x.n) ∧ u.cell? ⟨g1, 5, none⟩ = some (.int .i64 x.len) ∧ u.cell? ⟨g2, 0, none⟩ = some (.int .i64 x.set) ∧ u.cell? ⟨g2, 1, none⟩ = some (.int .i64 x.ix) ∧ u.cell? ⟨g2, 2, none⟩ = some (.int .u8 x.code) ∧ u.cell? ⟨g2, 3, none⟩ = some (.int .u8 x.d) ∧ u.cell? ⟨g2, 4, none⟩ = some (.int .u16 x.n) ∧ u.cell? ⟨g2, 5, none⟩ = some (.int .i64 x.len)) ∧ TwoR wr g1 g2 x u) u → Calls Tryd.prog 12 #[.agg #[.int .i64 x.set, .int .i64 x.ix, .int .u8 x.code, .int .u8 x.d, .int .u16 x.n, .int .i64 x.len], .int .u16 pc] u fun e w' => e = .returned (.string T) ∧ (fun u => (u.cell? ⟨g1, 0, none⟩ = some (.int .i64 x.set) ∧ u.cell? ⟨g1, 1, none⟩ = some (.int .i64 x.ix) ∧ u.cell? ⟨g1, 2, none⟩ = some (.int .u8 x.code) ∧ u.cell? ⟨g1, 3, none⟩ = some (.int .u8 x.d) ∧ u.cell? ⟨g1, 4, none⟩ = some (.int .u16 x.n) ∧ u.cell? ⟨g1, 5, none⟩ = some (.int .i64 x.len) ∧ u.cell? ⟨g2, 0, none⟩ = some (.int .i64 x.set) ∧ u.cell? ⟨g2, 1, none⟩ = some (.int .i64 x.ix) ∧ u.cell? ⟨g2, 2, none⟩ = some (.int .u8 x.code) ∧ u.cell? ⟨g2, 3, none⟩ = some (.int .u8 x.d) ∧ u.cell? ⟨g2, 4, none⟩ = some (.int .u16 x.n) ∧ u.cell? ⟨g2, 5, none⟩ = some (.int .i64 x.len)) ∧ TwoR wr g1 g2 x u) w' from fun u hu => (C3.out u hu.2.tab).mono fun _ _ ⟨he, hb⟩ => ⟨he, HU.out _ _ _ (hu.2.later hb)⟩)
            have P3 := Lib.hid (show ∀ u, (fun u => (u.cell? ⟨g1, 0, none⟩ = some (.int .i64 x.set) ∧ u.cell? ⟨g1, 1, none⟩ = some (.int .i64 x.ix) ∧ u.cell? ⟨g1, 2, none⟩ = some (.int .u8 x.code) ∧ u.cell? ⟨g1, 3, none⟩ = some (.int .u8 x.d) ∧ u.cell? ⟨g1, 4, none⟩ = some (.int .u16 x.n) ∧ u.cell? ⟨g1, 5, none⟩ = some (.int .i64 x.len) ∧ u.cell? ⟨g2, 0, none⟩ = some (.int .i64 x.set) ∧ u.cell? ⟨g2, 1, none⟩ = some (.int .i64 x.ix) ∧ u.cell? ⟨g2, 2, none⟩ = some (.int .u8 x.code) ∧ u.cell? ⟨g2, 3, none⟩ = some (.int .u8 x.d) ∧ u.cell? ⟨g2, 4, none⟩ = some (.int .u16 x.n) ∧ u.cell? ⟨g2, 5, none⟩ = some (.int .i64 x.len)) ∧ TwoR wr g1 g2 x u) u → Calls Tryd.prog 13 #[.agg #[.int .i64 x.set, .int .i64 x.ix, .int .u8 x.code, .int .u8 x.d, .int .u16 x.n, .int .i64 x.len], .int .u16 pc] u fun e w' => e = .returned (.string T) ∧ (fun u => (u.cell? ⟨g1, 0, none⟩ = some (.int .i64 x.set) ∧ u.cell? ⟨g1, 1, none⟩ = some (.int .i64 x.ix) ∧ u.cell? ⟨g1, 2, none⟩ = some (.int .u8 x.code) ∧ u.cell? ⟨g1, 3, none⟩ = some (.int .u8 x.d) ∧ u.cell? ⟨g1, 4, none⟩ = some (.int .u16 x.n) ∧ u.cell? ⟨g1, 5, none⟩ = some (.int .i64 x.len) ∧ u.cell? ⟨g2, 0, none⟩ = some (.int .i64 x.set) ∧ u.cell? ⟨g2, 1, none⟩ = some (.int .i64 x.ix) ∧ u.cell? ⟨g2, 2, none⟩ = some (.int .u8 x.code) ∧ u.cell? ⟨g2, 3, none⟩ = some (.int .u8 x.d) ∧ u.cell? ⟨g2, 4, none⟩ = some (.int .u16 x.n) ∧ u.cell? ⟨g2, 5, none⟩ = some (.int .i64 x.len)) ∧ TwoR wr g1 g2 x u) w' from fun u hu => (C4.out u).mono fun _ _ ⟨he, hb⟩ => ⟨he, HU.out _ _ _ (hu.2.later hb)⟩)
            clear k5 C3 C4 C5
            go_region_held3 (fun u => (u.cell? ⟨g1, 0, none⟩ = some (.int .i64 x.set) ∧ u.cell? ⟨g1, 1, none⟩ = some (.int .i64 x.ix) ∧ u.cell? ⟨g1, 2, none⟩ = some (.int .u8 x.code) ∧ u.cell? ⟨g1, 3, none⟩ = some (.int .u8 x.d) ∧ u.cell? ⟨g1, 4, none⟩ = some (.int .u16 x.n) ∧ u.cell? ⟨g1, 5, none⟩ = some (.int .i64 x.len) ∧ u.cell? ⟨g2, 0, none⟩ = some (.int .i64 x.set) ∧ u.cell? ⟨g2, 1, none⟩ = some (.int .i64 x.ix) ∧ u.cell? ⟨g2, 2, none⟩ = some (.int .u8 x.code) ∧ u.cell? ⟨g2, 3, none⟩ = some (.int .u8 x.d) ∧ u.cell? ⟨g2, 4, none⟩ = some (.int .u16 x.n) ∧ u.cell? ⟨g2, 5, none⟩ = some (.int .i64 x.len)) ∧ TwoR wr g1 g2 x u) (assumption) ((first | (go_at_call 11; refine (P1.out _ (by assumption)).mono ?_; rintro e w' ⟨rfl, hE⟩) | (go_at_call 12; refine (P2.out _ (by assumption)).mono ?_; rintro e w' ⟨rfl, hE⟩) | (go_at_call 13; refine (P3.out _ (by assumption)).mono ?_; rintro e w' ⟨rfl, hE⟩)))
            have B := Lib.hid hE.2.bel
            clear hE hS1
            go_wp2_with fail
            go_roundw
            case rel => exact ⟨i + 1, by omega, by go_num, Lib.hid (below_step hs2.out B.out)⟩
            case measure => first | (simp [intOf]; done) | (simp [intOf]; omega)
        · have d9 : decide ((i : Int) < 256) = false := by simp; omega
          go_wp2_with fail
          go_roundw
          case rel => exact ⟨j + 1, by omega, by go_num, Lib.hid (below_step K.out.2 hs2.out)⟩
          case measure => first | (simp [intOf]; done) | (simp [intOf]; omega)
    · have d7 : decide ((j : Int) < 7) = false := by simp; omega
      go_wp2_with fail
      refine (lives7 _ (H.out.below hs.out)).mono ?_
      rintro e w1 ⟨rfl, hb1⟩
      go_wp2_with fail
      go_ret
      exact ⟨rfl, below_step hs.out hb1⟩
theorem all_law (a b c : Int) (wa : (Lit.int .u16 a).wf = true) (wb : (Lit.int .u8 b).wf = true) (wc : (Lit.int .u16 c).wf = true) (w : World) (h : OpTab w) : Calls Tryd.prog 6 #[.int .u16 a, .int .u8 b, .int .u16 c] w fun e w' => e = .returned (.bool true) ∧ Below w.heap.size w w' := by
  have ha := bounds_u16 wa
  have hb := bounds_u8 wb
  have hc := bounds_u16 wc
  obtain ⟨n, rfl⟩ := Int.eq_ofNat_of_zero_le (a := a) (by omega)
  obtain ⟨d, rfl⟩ := Int.eq_ofNat_of_zero_le (a := b) (by omega)
  obtain ⟨pc, rfl⟩ := Int.eq_ofNat_of_zero_le (a := c) (by omega)
  exact all_walk n d pc (by omega) (by omega) (by omega) w h

end Go.Proofs.YtkjibnnoeceaeaaDoor
