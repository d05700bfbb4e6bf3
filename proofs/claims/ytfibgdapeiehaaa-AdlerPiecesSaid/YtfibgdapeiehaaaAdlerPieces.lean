/- AdlerPieces, walked. -/
import Derived.Test.YtfibgdapeiehaaaAdlerLaws
namespace Go.Proofs.Ytfibgdapeiehaaa
open Go.RowKit

theorem own_ch {w w' : World} {base n : Nat} {e : TypeId} {size : Nat} {v : Value} {xs : List Value} {F : Nat → Prop} (h : w.ownsRow base e size v n xs) (hc : Ch F w w') (hF : ∀ k, base ≤ k → ¬ F k) : w'.ownsRow base e size v n xs := by
  refine ⟨h.1, ?_⟩
  rcases h.2 with h0 | ⟨g, cap, cur, e1, hb, hg, h3, h4, h5, h6⟩
  · exact Or.inl h0
  · exact Or.inr ⟨g, cap, cur, e1, hb, (hc.block g (Array.getElem?_eq_some_iff.1 hg).1 (hF g hb)).trans hg, h3, h4, h5, h6⟩
theorem own_below {w w' : World} {base n : Nat} {e : TypeId} {size : Nat} {v : Value} {xs : List Value} (h : w.ownsRow base e size v n xs) (hb : Below w.heap.size w w') : w'.ownsRow base e size v n xs := own_ch (F := fun _ => False) h (Ch.of_below hb) fun _ _ => id
/-- Behind k parts. -/
structure Pcs (w wr : World) (L : List (List Int)) (k : Nat) (x : Value) : Prop where
  own : wr.ownsRow (w.heap.size + 1) 5 1 x (catN L k).length ((catN L k).map u8I)
  bd : Byte8 (catN L k)
  sum : SumAt wr w.heap.size (adF (1, 0) (catN L k))
  bel : Below w.heap.size w wr
theorem Pcs.later {w wr wx : World} {L : List (List Int)} {k : Nat} {x : Value} (h : Pcs w wr L k x) (hb : Below wr.heap.size wr wx) : Pcs w wx L k x :=
  ⟨own_below h.own hb, h.bd, h.sum.below hb, h.bel.trans (hb.mono h.bel.size)⟩
theorem flat1 (l : List Int) : [l].flatten = l := by simp
theorem none_add (A : Option Addr) (n cap : Nat) (w : World) : Calls Try.prog 9 #[.pointer none, .slice A n cap] w fun e w' => e = .returned (.tuple #[]) ∧ w = w' := addS_nil A n cap w
theorem of_none (w : World) : Calls Try.prog 7 #[.slice none 0 0] w fun e w' => e = .returned (.int .u32 1) ∧ Below w.heap.size w w' :=
  addOf_any none 0 0 [] w (Parts.empty _ _)
set_option maxHeartbeats 3200000 in
theorem pieces_walk (v : Value) (L : List (List Int)) (w : World) (hv : PartsV w v L) :
    Calls Try.prog 4 #[v] w fun e w' => e = .returned (.bool true) ∧ Below w.heap.size w w' := by
  obtain ⟨A, n, cap, rfl, hP⟩ := hv
  have hm := hP.max
  have hf := hP.fit
  unfold maxLen at hm
  have HP := Lib.hid hP
  clear hP
  by_cases hbig : 100 < n
  · have e1 : decide ((100 : Int) < n) = true := by simp; omega
    go_enter Try.func4, Try.ntmps4
    go_wp2_with fail
    refine (lives_on w (Below.refl _ _)).mono ?_
    rintro e w1 ⟨rfl, hb⟩
    go_wp2_with fail
    go_ret
    exact ⟨rfl, hb⟩
  have e1 : decide ((100 : Int) < n) = false := by simp; omega
  have HN := Lib.hid (SumAt.new w)
  go_enter Try.func4, Try.ntmps4
  go_wp2_with fail
  clear e1
  go_loopw [5, 6] (fun x i wr => ∃ k : Nat, i = .int .i64 k ∧ k ≤ n ∧ ∃ y, y = x ∧ Hid (Pcs w wr L k y)) (fun _ i _ => n - (intOf i).toNat)
  case atStart => exact ⟨0, rfl, by omega, _, rfl, Lib.hid ⟨World.ownsRow_nil _ _ _ _, Byte8.nil, HN.out, bnew w _⟩⟩
  case round =>
    obtain ⟨k, rfl, hk, y, rfl, HI⟩ := hrel
    obtain ⟨A2, cap2, rfl, hn2, hm2⟩ := own_slice HI.out.own
    unfold maxLen at hm2
    by_cases hlt : k < n
    · obtain ⟨b, o, Aj, nj, cj, rfl, _, hbl, hc, hB⟩ := HP.out.lies k hlt
      have hfj := hB.fit
      have hmj := hB.max
      unfold maxLen at hmj
      have HB := Lib.hid hB
      have HC := Lib.hid (fun u (hu : Below w.heap.size w u) => (hu.cell (p := ⟨b, o + k, none⟩) hbl).trans hc)
      have c1 := HC.out _ HI.out.bel
      clear hB hc
      by_cases hj : 3000 < nj
      · have d1 : decide ((3000 : Int) < nj) = true := by simp; omega
        go_wp2_with fail
        refine (lives_on wr HI.out.bel).mono ?_
        rintro e w1 ⟨rfl, hb⟩
        go_wp2_with fail
        go_ret
        exact ⟨rfl, hb⟩
      have d1 : decide ((3000 : Int) < nj) = false := by simp; omega
      by_cases hj2 : 60000 < (catN L k).length
      · have d2 : decide ((60000 : Int) < (catN L k).length) = true := by simp; omega
        go_wp2_with fail
        refine (lives_on wr HI.out.bel).mono ?_
        rintro e w1 ⟨rfl, hb⟩
        go_wp2_with fail
        go_ret
        exact ⟨rfl, hb⟩
      have d2 : decide ((60000 : Int) < (catN L k).length) = false := by simp; omega
      have hg : w.heap.size < wr.heap.size := HI.out.sum.lt
      have hP1 : Parts (fun k => k ≠ w.heap.size) (wr.alloc (.cells #[.slice Aj nj cj] 22)) (some ⟨wr.heap.size, 0, none⟩) 1 1 [L.getD k []] :=
        Parts.one ((HB.out.weak fun k hk _ => by omega).below HI.out.bel) _ (by omega)
      have H1 := Lib.hid (addS_any w.heap.size _ 1 1 _ _ _ (HI.out.sum.below (bnew wr _)) hP1)
      clear hP1
      have hLk := HB.out.len
      have HNX := Lib.hid (catN_next L k (by rw [HP.out.len]; exact hlt))
      go_wp2_with fail
      refine H1.out.mono ?_
      rintro e w1 ⟨rfl, hs1, hc1⟩
      rw [flat1, ← adF_app, ← HNX.out] at hs1
      have hb1 : Below w.heap.size w w1 := (HI.out.bel.trans ((bnew wr _).mono (Nat.le_of_lt hg))).trans (hc1.below (fun k hk => by omega) (by simp; omega))
      have ho1 := own_ch ((HI.out.own).alloc (.cells #[.slice Aj nj cj] 22)) hc1 (fun k hk => by omega)
      have c2 := HC.out _ hb1
      have c3 := HC.out _ (hb1.trans ((bnew w1 (.cells #[.slice Aj nj cj] 22)).mono hb1.size))
      have ho2 := Lib.hid (ho1.alloc (.cells #[.slice Aj nj cj] 22))
      have hs2 := Lib.hid (hs1.below (bnew w1 (.cells #[.slice Aj nj cj] 22)))
      have hb2 := Lib.hid (hb1.trans ((bnew w1 (.cells #[.slice Aj nj cj] 22)).mono hb1.size))
      have hB2 := Lib.hid (HB.out.below hb2.out)
      have hg1 := hs1.lt
      have hbase : w.heap.size + 1 ≤ (w1.alloc (.cells #[.slice Aj nj cj] 22)).heap.size := by simp; omega
      clear hs1 hc1 hb1 ho1 c1 H1
      go_wp2_with fail
      refine (none_add _ _ _ _).mono ?_
      rintro e w' ⟨rfl, rfl⟩
      generalize w1.alloc (.cells #[.slice Aj nj cj] 22) = w2 at *
      go_wp2_with (first
        | (at_builtin
           refine wpList_append_u8 (P := Try.prog) (w.heap.size + 1) 5 22 infoB8 Try.underlying22 rfl (.tmp 42) (.tmp 46) rfl _ _ _ rfl ho2.out rfl hB2.out (by omega) hbase ?_
           intro v' w3 hown3 hb3
           have ho3 : w3.ownsRow (w.heap.size + 1) 5 1 v' (catN L (k + 1)).length ((catN L (k + 1)).map u8I) := by rw [HNX.out, List.length_append, hLk]; exact hown3
           clear hown3
           obtain ⟨A3, cap3, rfl, hn3, hm3⟩ := own_slice ho3
           have hs3 := hs2.out.block (hb3.block _ (by omega))
           have hb4 : Below w.heap.size w w3 := hb2.out.trans (hb3.mono (by omega))
           have HI3 : Hid (Pcs w w3 L (k + 1) (.slice A3 (catN L (k + 1)).length cap3)) := Lib.hid ⟨ho3, by rw [HNX.out]; exact HI.out.bd.app HB.out.bd, hs3, hb4⟩
           clear hb3 ho3 hs3 hb4))
      clear c2 c3 ho2 hs2 hb2 hB2 HB
      obtain ⟨V, hV⟩ : ∃ V, adV (adF (1, 0) (catN L (k + 1))) = V := ⟨_, rfl⟩
      have K2 := Lib.hid (value_some w.heap.size _ w3 HI3.out.sum)
      rw [hV] at K2
      have K3 := Lib.hid (fun m => of1_any _ _ _ _ (catN L (k + 1)) V (w3.drewN m) w3.heap.size rfl ((bytes_own HI3.out.own HI3.out.bd).below (bdrawn (Below.refl _ _) m)) hV)
      have hb3 := HI3.out.bel
      clear hV hbase hg1
      generalize (catN L (k + 1)).length = N at *
      go_wp2_with fail
      refine K2.out.mono ?_
      rintro e w' ⟨rfl, m, rfl⟩
      go_wp2_with fail
      refine (K3.out m).mono ?_
      rintro e w5 ⟨rfl, hb5⟩
      go_wp2_with fail
      go_roundw
      case rel => exact ⟨k + 1, by go_num, by omega, _, rfl, Lib.hid (HI3.out.later ((bdrawn (Below.refl _ _) m).trans hb5))⟩
      case measure => simp [intOf]; omega
    · have hkn : k = n := by omega
      obtain ⟨V, hV⟩ : ∃ V, adV (adF (1, 0) L.flatten) = V := ⟨_, rfl⟩
      have hcat : catN L k = L.flatten := by rw [hkn, ← HP.out.len, catN_all]
      have hO := bytes_own HI.out.own HI.out.bd
      rw [hcat] at hO
      have K1 := Lib.hid (addOf_any _ n cap L wr (HP.out.below HI.out.bel))
      rw [hV] at K1
      have K2 := Lib.hid (fun u (hu : Below wr.heap.size wr u) => of1_any _ _ _ _ L.flatten V u u.heap.size rfl (hO.below hu) hV)
      have hb := HI.out.bel
      clear hV hO hkn
      rw [hcat] at *
      clear hcat
      generalize (L.flatten).length = N at *
      go_wp2_with fail
      refine K1.out.mono ?_
      rintro e w1 ⟨rfl, hb1⟩
      go_wp2_with fail
      refine (K2.out w1 hb1).mono ?_
      rintro e w2 ⟨rfl, hb2⟩
      go_wp2_with fail
      refine (value_nil w2).mono ?_
      rintro e w3 ⟨rfl, hb3⟩
      go_wp2_with fail
      refine (of_none w3).mono ?_
      rintro e w4 ⟨rfl, hb4⟩
      have hb5 : Below w.heap.size w w4 := (((hb.trans (hb1.mono hb.size)).trans (hb2.mono (by have := hb.size; have := hb1.size; omega))).trans (hb3.mono (by have := hb.size; have := hb1.size; have := hb2.size; omega))).trans (hb4.mono (by have := hb.size; have := hb1.size; have := hb2.size; have := hb3.size; omega))
      clear hb1 hb2 hb3 hb4
      go_wp2_with fail
      refine (lives_on w4 hb5).mono ?_
      rintro e w5 ⟨rfl, hb6⟩
      go_wp2_with fail
      go_ret
      exact ⟨rfl, hb6⟩

end Go.Proofs.Ytfibgdapeiehaaa
