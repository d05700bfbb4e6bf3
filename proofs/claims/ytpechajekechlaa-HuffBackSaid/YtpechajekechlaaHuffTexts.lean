/- The document's Texts and Bits. -/
import Derived.Test.YtpechajekechlaaHuffNumbers
import Derived.Test.YtpechajekechlaaHuffStr
import Derived.Test.YtpechajekechlaaHuffRead
namespace Go.Proofs.Ytpechajekechlaa
open Go.RowKit

/-- Symbol i's text. -/
def txtB (l : List Int) (i : Nat) : ByteArray := strB (binF (lnN l i) (codeC (lnN l) l.length i)) (lnN l i)
def txtV (l : List Int) (i : Nat) : Value := .string (txtB l i)
def txtsL (l : List Int) (k : Nat) : List Value := (List.range k).map (txtV l)
theorem txtsL_next (l : List Int) (k : Nat) : txtsL l (k + 1) = txtsL l k ++ [txtV l k] := by
  unfold txtsL; rw [List.range_succ, List.map_append]; rfl
structure TxAt (F : Nat → Prop) (w : World) (A : Option Addr) (n cap : Nat) (l : List Int) : Prop where
  len : l.length = n
  fit : n ≤ cap
  max : cap ≤ maxLen
  lies : 0 < n → ∃ b o, A = some ⟨b, o, none⟩ ∧ F b ∧ b < w.heap.size ∧ ∀ j, j < n → w.cell? ⟨b, o + j, none⟩ = some (txtV l j)
theorem TxAt.keep {F : Nat → Prop} {w w' : World} {A : Option Addr} {n cap : Nat} {l : List Int} (h : TxAt F w A n cap l) (hs : w.heap.size ≤ w'.heap.size) (hb : ∀ k, k < w.heap.size → F k → w'.heap[k]? = w.heap[k]?) : TxAt F w' A n cap l :=
  ⟨h.len, h.fit, h.max, fun hn => by
    obtain ⟨b, o, h1, h2, h3, h4⟩ := h.lies hn
    exact ⟨b, o, h1, h2, Nat.lt_of_lt_of_le h3 hs, fun j hj => (World.cell?_of_block (a := ⟨b, o + j, none⟩) (hb b h3 h2)).trans (h4 j hj)⟩⟩
theorem TxAt.below {F : Nat → Prop} {w w' : World} {A : Option Addr} {n cap : Nat} {l : List Int} (h : TxAt F w A n cap l) (hb : Below w.heap.size w w') : TxAt F w' A n cap l := h.keep hb.size fun k hk _ => hb.block k hk
theorem TxAt.ch {F G : Nat → Prop} {w w' : World} {A : Option Addr} {n cap : Nat} {l : List Int} (h : TxAt F w A n cap l) (hb : Ch G w w') (hF : ∀ k, F k → ¬ G k) : TxAt F w' A n cap l := h.keep hb.size fun k hk hf => hb.block k hk (hF k hf)
theorem TxAt.weak {F G : Nat → Prop} {w : World} {A : Option Addr} {n cap : Nat} {l : List Int} (h : TxAt F w A n cap l) (hF : ∀ k, k < w.heap.size → F k → G k) : TxAt G w A n cap l :=
  ⟨h.len, h.fit, h.max, fun hn => by
    obtain ⟨b, o, h1, h2, h3, h4⟩ := h.lies hn
    exact ⟨b, o, h1, hF b h3 h2, h3, h4⟩⟩
theorem txts_own {w : World} {base : Nat} {e : TypeId} {A : Option Addr} {m cap : Nat} {l : List Int} (h : w.ownsRow base e 1 (.slice A m cap) l.length (txtsL l l.length)) : TxAt (fun k => base ≤ k) w A l.length cap l := by
  have hcopy := h
  rcases h.2 with ⟨e1, h0⟩ | ⟨g, cap', cur, e1, hb, hg, hnc, hm, _, _⟩
  · injection e1 with e1 e2 e3
    subst e1 e2 e3
    exact ⟨rfl, by omega, Nat.zero_le _, fun h => absurd h (by omega)⟩
  · injection e1 with e1 e2 e3
    subst e1 e2 e3
    refine ⟨rfl, by omega, hm, fun _ => ⟨g, 0, rfl, hb, (Array.getElem?_eq_some_iff.1 hg).1, fun j hj => ?_⟩⟩
    rw [Nat.zero_add, hcopy.cellAt j (by omega)]
    unfold txtsL
    rw [List.getElem?_map, List.getElem?_range hj]
    rfl
theorem infoStr : (Try.prog.info? 9).map (fun i => (i.zero, i.size, i.bytes)) = some (some (.string ByteArray.empty), 1, 16) := by kernel_rfl
def Texted (w : World) (l : List Int) (x : Ending) (w' : World) : Prop := ∃ A n cap, x = .returned (.slice A n cap) ∧ TxAt (fun k => w.heap.size ≤ k) w' A n cap l ∧ Below w.heap.size w w'
structure Tx (w wr : World) (A : Option Addr) (n cap : Nat) (l : List Int) : Prop where
  own : wr.ownsRow w.heap.size 9 1 (.slice A n cap) n (txtsL l n)
  bel : Below w.heap.size w wr
set_option maxHeartbeats 3200000 in
theorem texts_any (A : Option Addr) (n cap : Nat) (l : List Int) (w : World) (hl : IAt (fun _ => True) w A n cap l) (he : Lg l 0) :
    Calls Try.prog 12 #[.slice A n cap] w (Texted w l) := by
  have HL := Lib.hid hl
  have HK := Lib.hid (numbers_any A n cap l w hl he)
  obtain ⟨h320, hfine, hok⟩ := he.ok
  have HF := Lib.hid hfine
  have HO := Lib.hid hok
  have hlen := hl.len
  have hf := hl.fit
  have hm := hl.max
  unfold maxLen at hm
  clear hl he hfine hok
  go_enter Try.func12, Try.ntmps12
  go_wp2_with fail
  refine HK.out.mono ?_
  rintro e' w1 ⟨A1, n1, cap1, rfl, hN, hb1⟩
  have hl1 := hN.len
  have hf1 := hN.fit
  have hm1 := hN.max
  unfold maxLen at hm1
  unfold codesL at hN hl1
  rw [if_pos rfl] at hN hl1
  rw [lstF_len, hlen] at hl1
  subst hl1
  have HN := Lib.hid hN
  have HB1 := Lib.hid hb1
  clear hN hb1 HK
  go_wp2_with fail
  go_loopw [4, 5] (fun o i wr => ∃ (k : Nat) (B : Option Addr) (c : Nat), i = .int .i64 k ∧ k ≤ n ∧ o = .slice B k c ∧ Hid (Tx w1 wr B k c l)) (fun _ i _ => n - (intOf i).toNat)
  case atStart => exact ⟨0, none, 0, rfl, by omega, rfl, Lib.hid ⟨World.ownsRow_nil _ _ _ _, Below.refl _ _⟩⟩
  case round =>
    obtain ⟨k, B, c, rfl, hk, rfl, HI⟩ := hrel
    by_cases hlt : k < n
    · obtain ⟨b, o, rfl, _, hbl, hc⟩ := HL.out.lies (by omega)
      have c0 := ((HB1.out.trans (HI.out.bel.mono HB1.out.size)).cell (p := ⟨b, o + k, none⟩) hbl).trans (hc k hlt)
      obtain ⟨b1, o1, rfl, _, hbl1, hc1⟩ := HN.out.lies (by omega)
      have c1 := (HI.out.bel.cell (p := ⟨b1, o1 + k, none⟩) hbl1).trans (hc1 k hlt)
      rw [gI_lstF _ _ _ (by omega)] at c1
      clear hc hc1
      obtain ⟨m, hm2⟩ : ∃ m, lnN l k = m := ⟨_, rfl⟩
      obtain ⟨hx, h15⟩ := HF.out.ln k
      rw [hm2] at hx h15
      rw [hx] at c0
      obtain ⟨C, hC⟩ : ∃ C, codeC (lnN l) l.length k = C := ⟨_, rfl⟩
      have hCs := code_small HO.out k (by omega) (HF.out.ln k).2
      rw [hC, hm2] at hCs
      rw [hC] at c1
      have hC16 : C < 32768 := Nat.lt_of_lt_of_le hCs (Nat.pow_le_pow_right (show 0 < 2 by decide) h15)
      have HT : Hid (txtB l k = strB (binF m C) m) := Lib.hid (by unfold txtB; rw [hm2, hC])
      clear hx hm2 hC hCs
      go_wp2_with fail
      go_loop [6, 7, 8] (fun s v j => ∃ r : Nat, j = .int .i64 r ∧ r ≤ m ∧ v = .int .i64 (C / 2 ^ r : Nat) ∧ s = .string (strB (binF r C) r)) (fun _ _ j => m - (intOf j).toNat)
      case atStart => exact ⟨0, rfl, by omega, by rw [Nat.pow_zero, Nat.div_one], rfl⟩
      case round =>
        obtain ⟨r, rfl, hr, rfl, rfl⟩ := hrel
        have hdl := Nat.div_le_self C (2 ^ r)
        by_cases hr2 : r < m
        · have HH : Hid (C / 2 ^ (r + 1) = C / 2 ^ r / 2) := Lib.hid (by rw [Nat.pow_succ, Nat.div_div_eq_div_mul])
          have HG := Lib.hid (bin_grow C r)
          have hsz := strB_size (binF r C) r
          generalize C / 2 ^ r = V at *
          have hv2 : V % 2 = 0 ∨ V % 2 = 1 := by omega
          rcases hv2 with hv | hv
          · rw [hv] at HG
            have d1 : (((V : Int) % 2) == 1) = false := by rw [beq_eq_false_iff_ne]; omega
            have hg := HG.out 48 rfl
            go_wp2_with fail
            go_round
            case rel => exact ⟨r + 1, by go_num, by omega, by rw [HH.out]; go_num, rfl⟩
            case measure => first | (simp [intOf]; done) | (simp [intOf]; omega)
          · rw [hv] at HG
            have d1 : (((V : Int) % 2) == 1) = true := by rw [beq_iff_eq]; omega
            have hg := HG.out 49 rfl
            go_wp2_with fail
            go_round
            case rel => exact ⟨r + 1, by go_num, by omega, by rw [HH.out]; go_num, rfl⟩
            case measure => first | (simp [intOf]; done) | (simp [intOf]; omega)
        · obtain rfl : r = m := by omega
          generalize C / 2 ^ r = V at *
          have hbase := HI.out.bel.size
          rw [← HT.out]
          go_wp2_with (first
            | (at_builtin
               refine wpList_append_one (P := Try.prog) w1.heap.size 9 34 infoStr Try.underlying34 rfl rfl (.tmp 38) (.tmp 40) rfl _ _ _ rfl HI.out.own (.string (txtB l k)) rfl rfl (by decide) (by omega) hbase ?_
               intro v' w3 hown3 hb3
               obtain ⟨A3, cap3, rfl, hn3, hm3⟩ := own_slice hown3
               have HI3 : Hid (Tx w1 w3 A3 (k + 1) cap3 l) := Lib.hid ⟨by rw [txtsL_next]; exact hown3, HI.out.bel.trans hb3⟩
               clear hown3 hb3))
          go_roundw
          case rel => exact ⟨k + 1, A3, cap3, by go_num, by omega, rfl, HI3⟩
          case measure => first | (simp [intOf]; done) | (simp [intOf]; omega)
    · obtain rfl : k = n := by omega
      subst hlen
      have HR : Hid (Texted w l (.returned (.slice B l.length c)) wr) := Lib.hid ⟨B, _, c, rfl, (txts_own HI.out.own).weak fun k _ hk => Nat.le_trans HB1.out.size hk, HB1.out.trans (HI.out.bel.mono HB1.out.size)⟩
      clear HI
      go_wp2_with fail
      go_ret
      exact HR.out

end Go.Proofs.Ytpechajekechlaa
