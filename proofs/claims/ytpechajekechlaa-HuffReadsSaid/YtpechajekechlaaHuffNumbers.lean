/- The document's Numbers. -/
import Derived.Test.YtpechajekechlaaHuffCodes
namespace Go.Proofs.Ytpechajekechlaa
open Go.RowKit

/-- The codes of the symbols of lengths up to q, and of those of length q + 1 up to j. -/
def fN (a : Nat → Nat) (n q j i : Nat) : Int := if a i ≠ 0 ∧ (a i ≤ q ∨ (a i = q + 1 ∧ i < j)) then ((codeC a n i : Nat) : Int) else 0
theorem fN_start (a : Nat → Nat) (n i : Nat) : fN a n 0 0 i = 0 := by
  unfold fN; rw [if_neg (by omega)]
theorem fN_same (a : Nat → Nat) (n q j i : Nat) (h : a j ≠ q + 1) : fN a n q (j + 1) i = fN a n q j i := by
  unfold fN
  by_cases c : a i ≠ 0 ∧ (a i ≤ q ∨ (a i = q + 1 ∧ i < j))
  · rw [if_pos c, if_pos ⟨c.1, by omega⟩]
  · rw [if_neg c, if_neg]
    rintro ⟨h1, h2 | ⟨h2, h3⟩⟩
    · exact c ⟨h1, Or.inl h2⟩
    · by_cases e : i = j
      · subst e; exact h h2
      · exact c ⟨h1, Or.inr ⟨h2, by omega⟩⟩
theorem fN_put (a : Nat → Nat) (n q j i : Nat) (h : a j = q + 1) : (if i = j then ((fstC (cN a n) (q + 1) + cnt a (q + 1) j : Nat) : Int) else fN a n q j i) = fN a n q (j + 1) i := by
  by_cases e : i = j
  · subst e
    rw [if_pos rfl]; unfold fN codeC
    rw [if_pos ⟨by omega, Or.inr ⟨h, by omega⟩⟩, if_neg (by omega), h]
  · rw [if_neg e]; unfold fN
    by_cases c : a i ≠ 0 ∧ (a i ≤ q ∨ (a i = q + 1 ∧ i < j))
    · rw [if_pos c, if_pos ⟨c.1, by omega⟩]
    · rw [if_neg c, if_neg (fun x => c ⟨x.1, by omega⟩)]
theorem fN_level (a : Nat → Nat) (n q i : Nat) (hi : i < n) : fN a n q n i = fN a n (q + 1) 0 i := by
  unfold fN
  by_cases c : a i ≠ 0 ∧ a i ≤ q + 1
  · rw [if_pos ⟨c.1, by omega⟩, if_pos ⟨c.1, by omega⟩]
  · rw [if_neg (fun x => c ⟨x.1, by omega⟩), if_neg (fun x => c ⟨x.1, by omega⟩)]
theorem fN_all (a : Nat → Nat) (n i : Nat) (h : a i ≤ 15) : fN a n 15 0 i = ((codeC a n i : Nat) : Int) := by
  unfold fN
  by_cases c : a i = 0
  · rw [if_neg (fun x => x.1 c)]; unfold codeC; rw [if_pos c]; rfl
  · rw [if_pos ⟨c, Or.inl h⟩]
theorem lstF_next (f : Nat → Int) (k : Nat) : lstF f (k + 1) = lstF f k ++ [f k] := by
  unfold lstF; rw [List.range_succ, List.map_append]; rfl
theorem lstF_set (f : Nat → Int) (n i : Nat) (x : Int) : (lstF f n).set i x = lstF (fun j => if j = i then x else f j) n := by
  apply List.ext_getElem
  · simp [lstF]
  · intro j h1 h2
    simp only [lstF, List.getElem_set, List.getElem_map, List.getElem_range]
    by_cases e : i = j
    · subst e; simp
    · rw [if_neg e, if_neg (fun x => e x.symm)]
theorem lstF_congr {f g : Nat → Int} {n : Nat} (h : ∀ j, j < n → f j = g j) : lstF f n = lstF g n := by
  unfold lstF
  exact List.map_congr_left fun j hj => h j (List.mem_range.1 hj)
theorem rowI_set {w : World} {base g n cap : Nat} {e : TypeId} {l : List Int} (h : w.ownsRow base e 1 (.slice (some ⟨g, 0, none⟩) n cap) n (l.map i64I)) (i : Nat) (x : Int) : (w.setCell ⟨g, i, none⟩ (.int .i64 x)).ownsRow base e 1 (.slice (some ⟨g, 0, none⟩) n cap) n ((l.set i x).map i64I) := by
  have := (h.stored i (.int .i64 x)).1
  rw [List.map_set]
  exact this
theorem own_some {w : World} {base n : Nat} {e : TypeId} {size : Nat} {A : Option Addr} {cap : Nat} {xs : List Value} (h : w.ownsRow base e size (.slice A n cap) n xs) (hn : 0 < n) : ∃ g, A = some ⟨g, 0, none⟩ ∧ base ≤ g := by
  rcases h.2 with ⟨_, h0⟩ | ⟨g, cap', cur, e1, hb, _⟩
  · omega
  · injection e1 with e1 _ _
    exact ⟨g, e1, hb⟩
structure Nu (w wr : World) (A : Option Addr) (n cap : Nat) (f : Nat → Int) : Prop where
  own : wr.ownsRow w.heap.size 3 1 (.slice A n cap) n ((lstF f n).map i64I)
  bel : Below w.heap.size w wr
theorem Nu.congr {w wr : World} {A : Option Addr} {n cap : Nat} {f g : Nat → Int} (h : Nu w wr A n cap f) (e : ∀ j, j < n → f j = g j) : Nu w wr A n cap g := ⟨by rw [← lstF_congr e]; exact h.own, h.bel⟩
theorem Nu.set {w wr : World} {g n cap : Nat} {f : Nat → Int} (h : Nu w wr (some ⟨g, 0, none⟩) n cap f) (hg : w.heap.size ≤ g) (i : Nat) (x : Int) : Nu w (wr.setCell ⟨g, i, none⟩ (.int .i64 x)) (some ⟨g, 0, none⟩) n cap (fun j => if j = i then x else f j) := by
  refine ⟨?_, h.bel.setCell (show w.heap.size ≤ g from hg) _⟩
  have := rowI_set h.own i x
  rwa [lstF_set] at this
theorem Nu.cell {w wr : World} {g n cap : Nat} {f : Nat → Int} (h : Nu w wr (some ⟨g, 0, none⟩) n cap f) (i : Nat) (hi : i < n) : wr.cell? ⟨g, i, none⟩ = some (.int .i64 (f i)) := by
  rw [h.own.cellAt i (by omega), i64I_at _ _ (by rw [lstF_len]; exact hi), gI_lstF _ _ _ hi]
def Numbered (w : World) (l : List Int) (x : Ending) (w' : World) : Prop := ∃ A n cap, x = .returned (.slice A n cap) ∧ IAt (fun k => w.heap.size ≤ k) w' A n cap (codesL l 0) ∧ Below w.heap.size w w'
theorem Nu.done {w wr : World} {A : Option Addr} {cap : Nat} {l : List Int} (h : Nu w wr A l.length cap (fN (lnN l) l.length 15 0)) (hf : Fine l) : Numbered w l (.returned (.slice A l.length cap)) wr := by
  refine ⟨A, l.length, cap, rfl, ?_, h.bel⟩
  unfold codesL
  rw [if_pos rfl]
  exact ints_own (h.congr fun j _ => fN_all (lnN l) l.length j (hf.ln j).2).own
set_option maxHeartbeats 3200000 in
theorem numbers_any (A : Option Addr) (n cap : Nat) (l : List Int) (w : World) (hl : IAt (fun _ => True) w A n cap l) (he : Lg l 0) :
    Calls Try.prog 11 #[.slice A n cap] w (Numbered w l) := by
  have HL := Lib.hid hl
  obtain ⟨h320, hfine, hok⟩ := he.ok
  have HF := Lib.hid hfine
  have HO := Lib.hid hok
  have hlen := hl.len
  have hf := hl.fit
  have hm := hl.max
  unfold maxLen at hm
  clear hl he hfine hok
  have HB0 := Lib.hid (Below.refl w.heap.size w)
  go_enter Try.func11, Try.ntmps11
  go_wp2_with fail
  go_loopw [3, 4] (fun o i wr => ∃ (k : Nat) (B : Option Addr) (c : Nat), i = .int .i64 k ∧ k ≤ n ∧ o = .slice B k c ∧ Hid (Nu w wr B k c (fun _ => 0))) (fun _ i _ => n - (intOf i).toNat)
  case atStart => exact ⟨0, none, 0, rfl, by omega, rfl, Lib.hid ⟨World.ownsRow_nil _ _ _ _, HB0.out⟩⟩
  case round =>
    obtain ⟨k, B, c, rfl, hk, rfl, HI⟩ := hrel
    by_cases hlt : k < n
    · have hbase := HI.out.bel.size
      go_wp2_with (first
        | (at_builtin
           refine wpList_append_one (P := Try.prog) w.heap.size 3 22 infoI64 Try.underlying22 rfl rfl (.tmp 14) (.tmp 15) rfl _ _ _ rfl HI.out.own (i64I 0) rfl rfl (by decide) (by omega) hbase ?_
           intro v' w3 hown3 hb3
           obtain ⟨A3, cap3, rfl, hn3, hm3⟩ := own_slice hown3
           have HI3 : Hid (Nu w w3 A3 (k + 1) cap3 (fun _ => 0)) := Lib.hid ⟨by rw [lstF_next, List.map_append]; exact hown3, HI.out.bel.trans hb3⟩
           clear hown3 hb3))
      go_roundw
      case rel => exact ⟨k + 1, A3, cap3, by go_num, by omega, rfl, HI3⟩
      case measure => first | (simp [intOf]; done) | (simp [intOf]; omega)
    · obtain rfl : k = n := by omega
      have HI0 := Lib.hid (HI.out.congr (g := fN (lnN l) l.length 0 0) fun j _ => (fN_start _ _ j).symm)
      have e0 : endC (nOf l) 0 = 0 := by simp [endC, fstC, nOf_zero]
      obtain ⟨wo, rfl⟩ : ∃ wo : World, wo = wr := ⟨_, rfl⟩
      clear HI
      go_wp2_with fail
      go_loopw [5, 6] (fun x i wr => ∃ q : Nat, i = .int .i64 (q + 1 : Nat) ∧ q ≤ 15 ∧ x = .int .i64 (endC (nOf l) q : Nat) ∧ Hid (Nu w wr B k c (fN (lnN l) l.length q 0))) (fun _ i _ => 17 - (intOf i).toNat)
      case atStart => exact ⟨0, rfl, by omega, by rw [e0]; rfl, HI0⟩
      case round =>
        obtain ⟨q, rfl, hq, rfl, HQ⟩ := hrel
        have hend := nOf_end HO.out q hq
        by_cases hq2 : q < 15
        · have d1 : decide (((q + 1 : Nat) : Int) ≤ 15) = true := decide_eq_true (by omega)
          obtain ⟨Q, hQ⟩ : ∃ Q, q + 1 = Q := ⟨_, rfl⟩
          have hQ15 : Q ≤ 15 := by omega
          obtain ⟨E, hE⟩ : ∃ E, endC (nOf l) q = E := ⟨_, rfl⟩
          have HE : Hid (fstC (nOf l) Q = 2 * E) := Lib.hid (by rw [← hQ, fst_next, hE])
          have HE2 : Hid (endC (nOf l) Q = fstC (nOf l) Q + cnt (lnN l) Q k) := Lib.hid (by unfold endC nOf; rw [cN_pos _ _ _ (show Q ≠ 0 by omega), hlen])
          rw [hE] at hend ⊢
          rw [hQ] at d1 ⊢
          have HQq := Lib.hid hQ
          clear hE hQ
          obtain ⟨wo, rfl⟩ : ∃ wo : World, wo = wr := ⟨_, rfl⟩
          go_wp2_with fail
          go_loopw [5, 7] (fun x i wr => ∃ j : Nat, i = .int .i64 j ∧ j ≤ k ∧ x = .int .i64 (fstC (nOf l) Q + cnt (lnN l) Q j : Nat) ∧ Hid (Nu w wr B k c (fN (lnN l) l.length q j))) (fun _ i _ => k - (intOf i).toNat)
          case atStart => exact ⟨0, rfl, by omega, by rw [cnt, HE.out]; go_num, HQ⟩
          case round =>
            obtain ⟨j, rfl, hj, rfl, HJ⟩ := hrel
            have hcl := cnt_le (lnN l) Q j
            by_cases hj2 : j < k
            · obtain ⟨b, o, rfl, _, hbl, hc⟩ := HL.out.lies (by omega)
              have c0 := (HJ.out.bel.cell (p := ⟨b, o + j, none⟩) hbl).trans (hc j hj2)
              clear hc
              obtain ⟨m, hm2⟩ : ∃ m, lnN l j = m := ⟨_, rfl⟩
              obtain ⟨hx, h15⟩ := HF.out.ln j
              rw [hm2] at hx h15
              rw [hx] at c0
              have HC1 : Hid (cnt (lnN l) Q (j + 1) = cnt (lnN l) Q j + (if m = Q then 1 else 0)) := Lib.hid (by rw [cnt, hm2])
              obtain ⟨g, rfl, hg⟩ := own_some HJ.out.own (by omega)
              by_cases hmq : m = Q
              · have HN := Lib.hid ((HJ.out.set hg j ((fstC (nOf l) Q + cnt (lnN l) Q j : Nat) : Int)).congr (g := fN (lnN l) l.length q (j + 1)) fun i _ => by
                  rw [← HQq.out]; exact fN_put (lnN l) l.length q j i (by rw [hm2, hmq, HQq.out]))
                rw [if_pos hmq] at HC1
                have c1 := HJ.out.cell j hj2
                have f1 := HJ.out.own.frozenAt j
                subst hmq
                clear hm2 hx
                generalize fN (lnN l) l.length q j j = old at *
                generalize cnt (lnN l) m j = C at *
                have hF2 : fstC (nOf l) m ≤ 65536 := by rw [HE.out]; omega
                generalize fstC (nOf l) m = S at *
                go_wp2_with fail
                go_roundw
                case rel => exact ⟨j + 1, by go_num, by omega, by rw [HC1.out]; go_num, HN⟩
                case measure => first | (simp [intOf]; done) | (simp [intOf]; omega)
              · have HN := Lib.hid (HJ.out.congr (g := fN (lnN l) l.length q (j + 1)) fun i _ => (fN_same (lnN l) l.length q j i (by rw [hm2, HQq.out]; exact hmq)).symm)
                rw [if_neg hmq] at HC1
                have d2 : ((m : Int) == (Q : Int)) = false := by rw [beq_eq_false_iff_ne]; omega
                clear hm2 hx
                go_wp2_with fail
                go_roundw
                case rel => exact ⟨j + 1, by go_num, by omega, by rw [HC1.out]; rfl, HN⟩
                case measure => first | (simp [intOf]; done) | (simp [intOf]; omega)
            · obtain rfl : j = k := by omega
              have HN := Lib.hid (HJ.out.congr (g := fN (lnN l) l.length (q + 1) 0) fun i hi => by rw [← hlen]; exact fN_level (lnN l) l.length q i (by omega))
              rw [← HE2.out]
              go_wp2_with fail
              go_roundw
              case rel => exact ⟨q + 1, by rw [HQq.out]; go_num, by omega, by rw [HQq.out], HN⟩
              case measure => have := HQq.out; simp [intOf]; omega
        · obtain rfl : q = 15 := by omega
          subst hlen
          have HR := Lib.hid (Nu.done HQ.out HF.out)
          clear HQ
          go_wp2_with fail
          go_ret
          exact HR.out

end Go.Proofs.Ytpechajekechlaa
