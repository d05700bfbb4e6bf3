/- The laws of layer 13, walked. -/
import Derived.Test.YtfibgdapeiehaaaAdlerAdd
import Derived.Test.YtfibgdapeiehaaaAdlerOpen
import Derived.Deep.DeepCutAuto
namespace Go.Proofs.Ytfibgdapeiehaaa
open Go.RowKit

theorem lives_on {w : World} (u : World) (hu : Below w.heap.size w u) : Calls Try.prog 6 #[] u fun e w' => e = .returned (.bool true) ∧ Below w.heap.size w w' :=
  (lives13 u).mono fun _ _ ⟨he, hb⟩ => ⟨he, hu.trans (hb.mono hu.size)⟩
set_option maxHeartbeats 1600000 in
theorem sums_walk (v : Value) (l : List Int) (w : World) (hv : BytesV w v l) :
    Calls Try.prog 3 #[v] w fun e w' => e = .returned (.bool true) ∧ Below w.heap.size w w' := by
  obtain ⟨A, n, cap, rfl, hB⟩ := hv
  have hm := hB.max
  have hf := hB.fit
  unfold maxLen at hm
  obtain ⟨V, hV⟩ : ∃ V, adV (adF (1, 0) l) = V := ⟨_, rfl⟩
  have H1 := Lib.hid (of1_any _ A n cap l V w w.heap.size rfl hB hV)
  have H2 := Lib.hid (fun u (hu : Below w.heap.size w u) => refOf13_any _ A n cap l V u (hB.below hu) hV)
  clear hV hB
  by_cases hbig : 100000 < n
  · go_enter Try.func3, Try.ntmps3
    go_wp2_with fail
    refine (lives_on w (Below.refl _ _)).mono ?_
    rintro e w1 ⟨rfl, hb⟩
    go_wp2_with fail
    go_ret
    exact ⟨rfl, hb⟩
  · go_enter Try.func3, Try.ntmps3
    go_wp2_with fail
    refine H1.out.mono ?_
    rintro e w1 ⟨rfl, hb1⟩
    go_wp2_with fail
    refine (H2.out _ hb1).mono ?_
    rintro e w' ⟨rfl, rfl⟩
    go_wp2_with fail
    refine (lives_on w1 hb1).mono ?_
    rintro e w2 ⟨rfl, hb⟩
    go_wp2_with fail
    go_ret
    exact ⟨rfl, hb⟩

theorem of_held {S : World → Prop} (hst : ∀ u u', S u → Below u.heap.size u u' → S u') {F : Nat → Prop} {A : Option Addr} {n cap : Nat} {l : List Int} {V : Int} (hB : ∀ u, S u → BAt8 F u A n cap l) (u : World) (g : Nat) (hS : S u) (hg : g < u.heap.size) (hc : u.cell? ⟨g, 0, none⟩ = some (.slice A n cap)) (hV : adV (adF (1, 0) l) = V) :
    Calls Try.prog 7 #[.slice (some ⟨g, 0, none⟩) 1 1] u fun e w' => e = .returned (.int .u32 V) ∧ S w' ∧ Below u.heap.size u w' := by
  have hP : Parts (fun _ => True) u (some ⟨g, 0, none⟩) 1 1 [l] := ⟨rfl, Nat.le_refl _, by unfold maxLen; omega, fun j hj => by
    obtain rfl : j = 0 := by omega
    exact ⟨_, _, A, n, cap, rfl, trivial, hg, hc, (hB u hS).weak fun _ _ _ => trivial⟩⟩
  refine (addOf_any _ _ _ _ _ hP).mono ?_
  rintro e w' ⟨rfl, hb⟩
  exact ⟨by rw [← hV]; simp, hst _ _ hS hb, hb⟩
theorem lives_held {S : World → Prop} (hst : ∀ u u', S u → Below u.heap.size u u' → S u') (u : World) (hS : S u) : Calls Try.prog 6 #[] u fun e w' => e = .returned (.bool true) ∧ S w' :=
  (lives13 u).mono fun _ _ ⟨he, hb⟩ => ⟨he, hst _ _ hS hb⟩
theorem row_at2 (w : World) (v : Value) (ty : TypeId) (o : Obj) : ((w.alloc (.cells #[v] ty)).alloc o).drew.cell? ⟨w.heap.size, 0, none⟩ = some v := by
  show ((w.alloc (.cells #[v] ty)).alloc o).cell? ⟨w.heap.size, 0, none⟩ = some v
  rw [World.cell?_alloc_lt _ o ⟨w.heap.size, 0, none⟩ (by simp)]
  simp
theorem row_set {w : World} {base g n cap : Nat} {e : TypeId} {l : List Int} (h : w.ownsRow base e 1 (.slice (some ⟨g, 0, none⟩) n cap) n (l.map u8I)) (i : Nat) (x : Int) : (w.setCell ⟨g, i, none⟩ (.int .u8 x)).ownsRow base e 1 (.slice (some ⟨g, 0, none⟩) n cap) n ((l.set i x).map u8I) := by
  have := (h.stored i (.int .u8 x)).1
  rw [List.map_set]
  exact this
theorem Byte8.set {l : List Int} (h : Byte8 l) (i : Nat) {x : Int} (x0 : 0 ≤ x) (x1 : x ≤ 255) : Byte8 (l.set i x) := fun j => by
  unfold gI
  rw [List.getD_eq_getElem?_getD, List.getElem?_set]
  split
  · split
    · exact ⟨x0, x1⟩
    · simp
  · have := h j
    unfold gI at this
    rw [List.getD_eq_getElem?_getD] at this
    exact this
theorem ad_set (l : List Int) (i : Nat) (x : Int) (hi : i < l.length) (hy : 0 ≤ gI l i ∧ gI l i ≤ 255) (x0 : 0 ≤ x) (x1 : x ≤ 255) : (adV (adF (1, 0) l) == adV (adF (1, 0) (l.set i x))) = (gI l i == x) := by
  have e1 : l = l.take i ++ gI l i :: l.drop (i + 1) := by
    have h : l[i] = gI l i := by have := gI_some l i hi; rw [List.getElem?_eq_getElem hi] at this; exact Option.some.inj this
    rw [← h, List.getElem_cons_drop, List.take_append_drop]
  have e2 : l.set i x = l.take i ++ x :: l.drop (i + 1) := by rw [List.set_eq_take_append_cons_drop, if_pos hi]
  rw [e2]
  have := ad_differs (l.take i) (l.drop (i + 1)) (gI l i) x hy.1 hy.2 x0 x1
  rw [← e1] at this
  exact this
set_option maxHeartbeats 1600000 in
theorem differs_walk (v : Value) (l : List Int) (pos x : Int) (_ : (Lit.int .i64 pos).wf = true) (h8 : (Lit.int .u8 x).wf = true) (w : World) (hv : BytesV w v l) :
    Calls Try.prog 5 #[v, .int .i64 pos, .int .u8 x] w fun e w' => e = .returned (.bool true) ∧ Below w.heap.size w w' := by
  obtain ⟨A, n, cap, rfl, hB⟩ := hv
  have hm := hB.max
  have hf := hB.fit
  obtain ⟨x0, x1⟩ := u8_bd h8
  clear h8
  unfold maxLen at hm
  have HB := Lib.hid hB
  clear hB
  by_cases hn : n = 0
  · subst hn
    go_enter Try.func5, Try.ntmps5
    go_wp2_with fail
    refine (lives_on w (Below.refl _ _)).mono ?_
    rintro e w1 ⟨rfl, hb⟩
    go_wp2_with fail
    go_ret
    exact ⟨rfl, hb⟩
  have e0 : ((n : Int) == 0) = false := by simp; omega
  by_cases hbig : 60000 < n
  · have e1 : decide ((60000 : Int) < n) = true := by simp; omega
    go_enter Try.func5, Try.ntmps5
    go_wp2_with fail
    refine (lives_on w (Below.refl _ _)).mono ?_
    rintro e w1 ⟨rfl, hb⟩
    go_wp2_with fail
    go_ret
    exact ⟨rfl, hb⟩
  have e1 : decide ((60000 : Int) < n) = false := by simp; omega
  have hn0 : 0 < n := by omega
  have hn1 : n ≤ 60000 := by omega
  clear hbig hn
  go_enter Try.func5, Try.ntmps5
  go_upto_region 3 with fail
  clear e0 e1
  go_cut [7] (fun s wx => ∃ i : Int, 0 ≤ i ∧ i < n ∧ s = .int .i64 i ∧ w = wx)
  case first =>
    go_wp2_with fail
    all_goals
      go_meet
      exact ⟨_, by omega, by omega, rfl, rfl⟩
  case rest =>
    obtain ⟨i, hi0, hi, rfl, rfl⟩ := hcut
    obtain ⟨i, rfl⟩ := Int.eq_ofNat_of_zero_le hi0
    have hi : i < n := by omega
    clear hi0
    have hx : w.ownsRow w.heap.size 5 1 (.slice none 0 0) 0 (([] : List Int).map u8I) := World.ownsRow_nil _ _ _ _
    go_wp2_with (first
      | (at_builtin
         refine wpList_append_u8 (P := Try.prog) w.heap.size 5 22 infoB8 Try.underlying22 rfl (.tmp 24) (.tmp 25) rfl (.slice none 0 0) 0 [] rfl hx rfl HB.out (by omega) (Nat.le_refl _) ?_
         intro v' w1 hown hb1
         have hown' : w1.ownsRow w.heap.size 5 1 v' n (l.map u8I) := by simpa using hown
         clear hown hx
         obtain ⟨g, cap2, rfl, hg0, hg1⟩ := hown'.form hn0
         have f1 := hown'.frozenAt i
         have c1 : w1.cell? ⟨g, i, none⟩ = some (.int .u8 (gI l i)) := by rw [hown'.cellAt i (by omega), u8I_at l i (by rw [HB.out.len]; exact hi)]
         have HO := Lib.hid (row_set hown' i x)
         have HG : Hid (Below w.heap.size w (w1.setCell ⟨g, i, none⟩ (.int .u8 x))) := Lib.hid (hb1.setCell hg0 _)
         clear hown' hb1))
    clear f1 c1
    obtain ⟨b, o, rfl, _, hbl, hc⟩ := HB.out.lies hn0
    have c2 : (w1.setCell ⟨g, i, none⟩ (.int .u8 x)).cell? ⟨b, o + i, none⟩ = some (.int .u8 (gI l i)) := by
      rw [HG.out.cell (p := ⟨b, o + i, none⟩) hbl]
      exact hc i hi
    have B1 := Lib.hid (HB.out.below HG.out)
    have B2 := Lib.hid (bytes_own HO.out (Byte8.set HB.out.bd i x0 x1))
    have hD := ad_set l i x (by rw [HB.out.len]; exact hi) (HB.out.bd i) x0 x1
    obtain ⟨V1, hV1⟩ : ∃ V, adV (adF (1, 0) l) = V := ⟨_, rfl⟩
    obtain ⟨V2, hV2⟩ : ∃ V, adV (adF (1, 0) (l.set i x)) = V := ⟨_, rfl⟩
    rw [hV1, hV2] at hD
    have K1 := Lib.hid hV1
    have K2 := Lib.hid hV2
    have hbl2 : b < (w1.setCell ⟨g, i, none⟩ (.int .u8 x)).heap.size := Nat.lt_of_lt_of_le hbl HG.out.size
    generalize gI l i = y at *
    generalize w1.setCell ⟨g, i, none⟩ (.int .u8 x) = w2 at *
    clear hV1 hV2 hc
    obtain ⟨q, hq⟩ : ∃ q, (y == x) = q := ⟨_, rfl⟩
    rw [hq] at hD
    have hS0 : (fun w' => w'.cell? ⟨b, o + i, none⟩ = some (.int .u8 y) ∧ b < w'.heap.size ∧ Below w2.heap.size w2 w') w2.drew := ⟨c2, hbl2, (Below.refl _ _).drew⟩
    have HST := Lib.hid (fun u u' (h : (fun w' => w'.cell? ⟨b, o + i, none⟩ = some (.int .u8 y) ∧ b < w'.heap.size ∧ Below w2.heap.size w2 w') u) (hb : Below u.heap.size u u') => show (fun w' => w'.cell? ⟨b, o + i, none⟩ = some (.int .u8 y) ∧ b < w'.heap.size ∧ Below w2.heap.size w2 w') u' from ⟨(hb.cell h.2.1).trans h.1, Nat.lt_of_lt_of_le h.2.1 hb.size, below_step h.2.2 hb⟩)
    have HSA := Lib.hid (fun (u : World) (ob : Obj) (h : (fun w' => w'.cell? ⟨b, o + i, none⟩ = some (.int .u8 y) ∧ b < w'.heap.size ∧ Below w2.heap.size w2 w') u.drew) => show (fun w' => w'.cell? ⟨b, o + i, none⟩ = some (.int .u8 y) ∧ b < w'.heap.size ∧ Below w2.heap.size w2 w') (u.alloc ob).drew from HST.out u.drew (u.alloc ob).drew h ⟨rfl, rfl, rfl, (bnew u ob).size, (bnew u ob).block⟩)
    have HSB := Lib.hid (fun (u : World) (ob : Obj) (h : (fun w' => w'.cell? ⟨b, o + i, none⟩ = some (.int .u8 y) ∧ b < w'.heap.size ∧ Below w2.heap.size w2 w') u) => show (fun w' => w'.cell? ⟨b, o + i, none⟩ = some (.int .u8 y) ∧ b < w'.heap.size ∧ Below w2.heap.size w2 w') (u.alloc ob) from HST.out u (u.alloc ob) h (bnew u ob))
    have P1 := Lib.hid (fun (u : World) (h : (fun w' => w'.cell? ⟨b, o + i, none⟩ = some (.int .u8 y) ∧ b < w'.heap.size ∧ Below w2.heap.size w2 w') u) => B1.out.below h.2.2)
    have P2 := Lib.hid (fun (u : World) (h : (fun w' => w'.cell? ⟨b, o + i, none⟩ = some (.int .u8 y) ∧ b < w'.heap.size ∧ Below w2.heap.size w2 w') u) => B2.out.below h.2.2)
    cases q
    all_goals
      go_region_held3 (fun w' => w'.cell? ⟨b, o + i, none⟩ = some (.int .u8 y) ∧ b < w'.heap.size ∧ Below w2.heap.size w2 w') (first | assumption | exact HSA.out _ _ (by assumption) | exact HSB.out _ _ (by assumption) | exact HSA.out _ _ (HSA.out _ _ (by assumption)) | exact HSB.out _ _ (HSB.out _ _ (by assumption))) (first | (go_at_call 7; refine (of_held HST.out P1.out _ _ (by first | assumption | exact HSA.out _ _ (by assumption) | exact HSB.out _ _ (by assumption) | exact HSA.out _ _ (HSA.out _ _ (by assumption)) | exact HSB.out _ _ (HSB.out _ _ (by assumption))) (by first | (simp; done) | (simp; omega)) (by first | (simp; done) | exact row_at2 _ _ _ _) K1.out).mono ?_; rintro e w3 ⟨rfl, hS3, hb3⟩) | (go_at_call 7; refine (of_held HST.out P2.out _ _ (by first | assumption | exact HSA.out _ _ (by assumption) | exact HSB.out _ _ (by assumption) | exact HSA.out _ _ (HSA.out _ _ (by assumption)) | exact HSB.out _ _ (HSB.out _ _ (by assumption))) (by first | (simp; done) | (simp; omega)) (by first | (simp; done) | exact row_at2 _ _ _ _) K2.out).mono ?_; rintro e w4 ⟨rfl, hS4, hb4⟩) | (go_at_call 7; refine (of_held HST.out P2.out _ _ (by first | assumption | exact HSA.out _ _ (by assumption) | exact HSB.out _ _ (by assumption) | exact HSA.out _ _ (HSA.out _ _ (by assumption)) | exact HSB.out _ _ (HSB.out _ _ (by assumption))) (by first | (have := hb3.size; simp at this; omega)) ((hb3.cell (by first | (simp; done) | (simp; omega))).trans (by first | (simp; done) | exact row_at2 _ _ _ _)) K2.out).mono ?_; rintro e w4 ⟨rfl, hS4, hb4⟩) | (go_at_call 6; refine (lives_held HST.out _ (by assumption)).mono ?_; rintro e w5 ⟨rfl, hS5⟩))
      all_goals
        go_wp2_with fail
        go_ret
        exact ⟨rfl, HG.out.trans (hS5.2.2.mono HG.out.size)⟩

end Go.Proofs.Ytfibgdapeiehaaa
