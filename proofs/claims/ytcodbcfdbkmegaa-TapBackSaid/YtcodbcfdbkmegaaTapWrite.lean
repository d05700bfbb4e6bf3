/- Blocks as a file: tap's Write and the document's. -/
import Derived.Test.YtcodbcfdbkmegaaTapFits
import Derived.Test.YtcodbcfdbkmegaaWirePut
import Derived.Test.YtcodbcfdbkmegaaWireRefPut
import Derived.Deep.RegionHeld3
namespace Go.Proofs.Ytcodbcfdbkmegaa
open Go.RowKit
set_option linter.unusedVariables false
set_option linter.unusedSimpArgs false

/-- 'append(xs, ys...)' as one step of a region that draws its order: xs a row of the call's own, ys whatever bytes. -/
theorem step_append_u8 {P : Program} {ops : Array Oper} {o : Oper} {a : Act} {K : Act → World → Prop} {Q : Exit → Act → World → Prop} {E : Prop} {wr : World} (base : Nat) (e t : TypeId)
    (hinfo : (P.info? e).map (fun i => (i.zero, i.size, i.bytes)) = some (some (.int .u8 0), 1, 1)) (ht : P.underlying t = some (.slice e))
    (hgd : o.guard = none) (s x : Operand) (ho : o.op = .call { callee := .builtin .append, args := #[s, x], argTypes := #[t, t] })
    (v : Value) (n : Nat) (xs : List Int) (hs : a.eval s = v) (hown : wr.ownsRow base e 1 v n (xs.map u8I))
    {F : Nat → Prop} {A : Option Addr} {m cap : Nat} {ys : List Int} (hx : a.eval x = .slice A m cap) (hy : BAt8 F wr A m cap ys) (hbytes : n + m ≤ 140737488355328) (hbase : base ≤ wr.heap.size)
    (h : ∀ v' w', w'.ownsRow base e 1 v' (n + m) ((xs ++ ys).map u8I) → Below base wr w' → K (a.put o.dst v') w') :
    if Region.wanted o (yielded ops a.tmps) = true then Oper.wp P o a wr K Q else E := by
  have hw : Region.wanted o (yielded ops a.tmps) = true := by simp [Region.wanted, hgd]
  rw [if_pos hw]
  obtain ⟨i0, hi, hz0, hz1, hz2⟩ := info_parts hinfo
  have hl := hy.len
  have hz := hy.nil
  have hf := hy.fit
  rcases A with _ | ad
  · have hc := hz rfl
    have hm : m = 0 := by omega
    obtain rfl : ys = [] := List.eq_nil_of_length_eq_zero (by omega)
    subst hm hc
    have hrun := run_append_owned_none (P := P) (w := wr) base t o.type e i0 1 ht hi v n _ hown
    unfold Oper.wp
    simp [execOp, ho, resolve, invoke, builtin, hs, hx, hrun, Result.andThen]
    exact h v wr (by simpa using hown) (Below.refl _ _)
  · refine wp_append_own wr s x t ho base e i0 _ 1 1 ht hi hz0 hz1 hz2 rfl (by decide) v n _ hs hown ad m cap (ys.map u8I) hx (by simp [hl]) (news_u8 hy) (u8I_one ys) (by unfold maxLen; omega) (by omega) hbase fun v' w' h2 h3 _ => h v' w' ?_ ((Below.refl _ _).grown h3 hbase (fun k hk => (hown.lt k hk).1))
    rw [List.map_append]
    exact h2
/-- How far a file is written. -/
structure Wr (w wr : World) (L : List (List Int)) (k : Nat) (B : Option Addr) (m c : Nat) : Prop where
  own : wr.ownsRow w.heap.size 5 1 (.slice B m c) m ((fileL (L.take k)).map u8I)
  bel : Below w.heap.size w wr
  size : m = sizeL (L.take k)
  fit : m ≤ c
  max : c ≤ maxLen
def Wrote (w : World) (L : List (List Int)) (e : Value → Value) (x : Ending) (w' : World) : Prop := ∃ A c, x = .returned (e (.slice A (sizeL L) c)) ∧ w'.ownsRow w.heap.size 5 1 (.slice A (sizeL L) c) (sizeL L) ((fileL L).map u8I) ∧ Below w.heap.size w w'
theorem write_no (F : Nat → Prop) (A : Option Addr) (n cap : Nat) (L : List (List Int)) (w : World) (hl : Parts F w A n cap L) (hF : ¬ FitsP L) : Calls Try.prog 12 #[.slice A n cap] w fun e w' => e = .returned (.tuple #[.slice none 0 0, .int .i64 8]) ∧ w = w' := by
  have H := Lib.hid (fits_any F A n cap L false w hl ⟨fun h => (by cases h), fun h => absurd h hF⟩)
  clear hl hF
  go_enter Try.func12, Try.ntmps12
  go_wp2_with fail
  refine (H.out).mono ?_
  rintro e w' ⟨rfl, rfl⟩
  go_wp2_with fail
  go_ret2
  exact ⟨rfl, rfl⟩
theorem Wr.blk {w wr : World} {L : List (List Int)} {k : Nat} {B : Option Addr} {m c : Nat} (h : Wr w wr L k B m c) (g : Nat) (hg : (Value.slice B m c).ownBlock = some g) : w.heap.size ≤ g := (own_low h.own g hg).1
set_option maxRecDepth 100000 in
set_option maxHeartbeats 1600000 in
theorem write_yes (F : Nat → Prop) (A : Option Addr) (n cap : Nat) (L : List (List Int)) (w : World) (hl : Parts F w A n cap L) (hF : FitsP L) : Calls Try.prog 12 #[.slice A n cap] w (Wrote w L fun v => .tuple #[v, .int .i64 0]) := by
  have hlen := hl.len
  have hf := hl.fit
  have hm := hl.max
  unfold maxLen at hm
  have HL := Lib.hid hl
  have HP := Lib.hid hF
  have H := Lib.hid (fits_any F A n cap L true w hl ⟨fun _ => hF, fun _ => rfl⟩)
  have HS : Hid (Wr w w L 0 none 0 0) := Lib.hid ⟨World.ownsRow_nil _ _ _ _, Below.refl _ _, by simp [sizeL], Nat.le_refl _, Nat.zero_le _⟩
  clear hl hF
  go_enter Try.func12, Try.ntmps12
  go_wp2_with fail
  refine (H.out).mono ?_
  rintro e w' ⟨rfl, rfl⟩
  go_wp2_with fail
  go_loopw [4, 12] (fun v i wr => ∃ (k : Nat) (B : Option Addr) (m c : Nat), i = .int .i64 k ∧ k ≤ n ∧ v = .slice B m c ∧ m ≤ 1048576 ∧ Hid (Wr w wr L k B m c)) (fun _ i _ => n - (intOf i).toNat)
  case atStart => exact ⟨0, none, 0, 0, rfl, by omega, rfl, by omega, HS⟩
  case round =>
    obtain ⟨k, B, m, c, rfl, hk, rfl, hm4, HW⟩ := hrel
    by_cases hlt : k < n
    · obtain ⟨b, o, Aj, cj, rfl, hbl, ck, hB⟩ := parts_len (HL.out.below HW.out.bel) k hlt
      have hz := HP.out.2.1 k (by omega)
      have hzn := sizeL_next L k (by omega)
      have hzt := sizeL_take_le L (k + 1)
      have hzm := HP.out.2.2
      have hms := HW.out.size
      obtain ⟨z, hzz⟩ : ∃ z, (gL L k).length = z := ⟨_, rfl⟩
      rw [hzz] at ck hB hz hzn
      have hcf := hB.fit
      have hcm := hB.max
      unfold maxLen at hcm
      have hn0 := HW.out.fit
      have hm0 := HW.out.max
      unfold maxLen at hm0
      have HPut := Lib.hid (put_yes w.heap.size B m c (fileL (L.take k)) 2 2 rfl (by decide) (by decide) (z : Nat) wr HW.out.own (by omega) HW.out.bel.size (by omega) (by omega))
      have HB := Lib.hid (fun (u : World) (hu : Below w.heap.size w u) => (HL.out.below hu))
      have HBj : Hid (∀ (u : World), Ch (fun g => (Value.slice B m c).ownBlock = some g) wr u → BAt8 (fun k => F k ∧ k < w.heap.size) u Aj z cj (gL L k)) := Lib.hid (fun u hu => by
        obtain ⟨b', o', Aj', cj', e1, e2, e3, e4⟩ := parts_len ((HL.out.weak (G := fun k => F k ∧ k < w.heap.size) fun k hk h => ⟨h, hk⟩).below HW.out.bel) k hlt
        injection e1 with e1
        injection e1 with e1 e5
        subst e1 e5
        rw [ck] at e3
        injection e3 with e3
        injection e3 with e3 e6 e7
        subst e3 e6 e7
        rw [hzz] at e4
        exact e4.ch hu fun g hg e => by have := HW.out.blk g e; omega)
      have HN := Lib.hid (fileL_next L k (by omega))
      have HZ := Lib.hid hzn
      have hm6 : m + 2 + z ≤ 1048576 := by omega
      have hmz : m + 2 + z = sizeL (L.take (k + 1)) := by omega
      have HMZ := Lib.hid hmz
      rw [hzz] at HN
      clear hB hzn hzt hzm hms hzz hmz
      go_wp2_with fail
      refine HPut.out.mono ?_
      rintro x w2 ⟨A2, c2, rfl, hG⟩
      have HG := Lib.hid hG
      have HB2 := Lib.hid (HBj.out w2 hG.ch)
      have hf2 := hG.fit
      have hx2 := hG.max
      unfold maxLen at hx2
      have HBl := Lib.hid (HW.out.bel.trans (hG.ch.below (fun g hg => HW.out.blk g hg) HW.out.bel.size))
      have hsz := HBl.out.size
      clear hG HBj HPut
      go_wp2_with (first
        | (at_builtin
           refine wpList_append_u8 (P := Try.prog) w.heap.size 5 22 infoB8 Try.underlying22 rfl (.tmp 19) (.tmp 20) rfl _ (m + 2) _ rfl HG.out.own rfl HB2.out (by omega) hsz ?_
           intro v3 w3 hown3 hb3
           obtain ⟨A3, cap3, rfl, hn3, hm3⟩ := own_slice hown3
           have HW3 : Hid (Wr w w3 L (k + 1) A3 (m + 2 + z) cap3) := Lib.hid ⟨by rw [HN.out, ← List.append_assoc]; exact hown3, HBl.out.trans hb3, HMZ.out, hn3, hm3⟩
           unfold maxLen at hm3
           clear hown3 hb3))
      go_roundw
      case rel => exact ⟨k + 1, A3, m + 2 + z, cap3, by go_num, by omega, rfl, hm6, HW3⟩
      case measure => simp [intOf]; omega
    · have hkn : k = L.length := by omega
      have HR : Hid (Wrote w L (fun v => .tuple #[v, .int .i64 0]) (.returned (.tuple #[.slice B m c, .int .i64 0])) wr) := Lib.hid (by
        have h := HW.out
        rw [hkn] at h
        have hs := h.size
        rw [List.take_length] at hs
        subst hs
        have ho := h.own
        rw [List.take_length] at ho
        exact ⟨B, c, rfl, ho, h.bel⟩)
      clear hkn HW
      go_wp2_with fail
      go_ret2
      exact HR.out
set_option maxRecDepth 100000 in
set_option maxHeartbeats 1600000 in
theorem rwrite_yes (F : Nat → Prop) (A : Option Addr) (n cap : Nat) (L : List (List Int)) (w : World) (hl : Parts F w A n cap L) (hF : FitsP L) : Calls Try.prog 15 #[.slice A n cap] w (Wrote w L fun v => v) := by
  have hlen := hl.len
  have hf := hl.fit
  have hm := hl.max
  unfold maxLen at hm
  have HL := Lib.hid hl
  have HP := Lib.hid hF
  have HS : Hid (Wr w w L 0 none 0 0) := Lib.hid ⟨World.ownsRow_nil _ _ _ _, Below.refl _ _, by simp [sizeL], Nat.le_refl _, Nat.zero_le _⟩
  clear hl hF
  go_enter Try.func15, Try.ntmps15
  go_wp2_with fail
  go_loopw [3, 4] (fun v i wr => ∃ (k : Nat) (B : Option Addr) (m c : Nat), i = .int .i64 k ∧ k ≤ n ∧ v = .slice B m c ∧ m ≤ 1048576 ∧ Hid (Wr w wr L k B m c)) (fun _ i _ => n - (intOf i).toNat)
  case atStart => exact ⟨0, none, 0, 0, rfl, by omega, rfl, by omega, HS⟩
  case round =>
    obtain ⟨k, B, m, c, rfl, hk, rfl, hm4, HW⟩ := hrel
    by_cases hlt : k < n
    · obtain ⟨b, o, Aj, cj, rfl, hbl, ck0, hB⟩ := parts_len HL.out k hlt
      have hz := HP.out.2.1 k (by omega)
      have hzn := sizeL_next L k (by omega)
      have hzt := sizeL_take_le L (k + 1)
      have hzm := HP.out.2.2
      have hms := HW.out.size
      obtain ⟨z, hzz⟩ : ∃ z, (gL L k).length = z := ⟨_, rfl⟩
      rw [hzz] at ck0 hB hz hzn
      have hcf := hB.fit
      have hcm := hB.max
      unfold maxLen at hcm
      have hn0 := HW.out.fit
      have hm0 := HW.out.max
      unfold maxLen at hm0
      have HWd : Hid (Wr w wr.drew L k B m c) := Lib.hid ⟨own_kept' HW.out.own fun _ _ _ => rfl, HW.out.bel.drew, HW.out.size, HW.out.fit, HW.out.max⟩
      have ck : wr.cell? ⟨b, o + k, none⟩ = some (.slice Aj z cj) := (HW.out.bel.cell (p := ⟨b, o + k, none⟩) hbl).trans ck0
      have hs0 : (fun u : World => u.cell? ⟨b, o + k, none⟩ = some (.slice Aj z cj)) wr.drew := ck
      have HPut := Lib.hid (refPut_yes w.heap.size B m c (fileL (L.take k)) 2 2 rfl (by decide) (by decide) (z : Nat) wr.drew HWd.out.own (by omega) HWd.out.bel.size (by omega) (by omega))
      have HBj : Hid (∀ (u : World), Below w.heap.size w u → BAt8 (fun g => F g ∧ g < w.heap.size) u Aj z cj (gL L k)) := Lib.hid (fun u hu => (hB.weak (G := fun g => F g ∧ g < w.heap.size) fun g hg h => ⟨h, hg⟩).below hu)
      have HCk := Lib.hid (fun (u u' : World) (hu : u.cell? ⟨b, o + k, none⟩ = some (.slice Aj z cj)) (hb : Below w.heap.size u u') => show (fun u : World => u.cell? ⟨b, o + k, none⟩ = some (.slice Aj z cj)) u' from (hb.cell (p := ⟨b, o + k, none⟩) hbl).trans hu)
      have HN := Lib.hid (fileL_next L k (by omega))
      have hm6 : m + 2 + z ≤ 1048576 := by omega
      have hmz : m + 2 + z = sizeL (L.take (k + 1)) := by omega
      have HMZ := Lib.hid hmz
      rw [hzz] at HN
      clear hB hzn hzt hzm hms hzz hmz ck0
      go_wp2_with fail
      go_region_held3 (fun u : World => u.cell? ⟨b, o + k, none⟩ = some (.slice Aj z cj)) (assumption) (first
        | (go_at_call 32; refine HPut.out.mono ?_; rintro x w2 ⟨A2, c2, rfl, hG⟩; have HG := Lib.hid hG; have hbg : Below w.heap.size wr.drew w2 := hG.ch.below (fun g hg => HWd.out.blk g hg) HWd.out.bel.size; have HBl := Lib.hid (HWd.out.bel.trans hbg); have HB2 := Lib.hid (HBj.out w2 HBl.out); have hf2 := hG.fit; have hx2 := hG.max; unfold maxLen at hx2; have hsz := HBl.out.size; have hs2 := HCk.out _ _ hs0 hbg; clear hG hbg)
        | (refine step_append_u8 (P := Try.prog) w.heap.size 5 22 infoB8 Try.underlying22 rfl (.tmp 17) (.tmp 21) rfl _ (m + 2) _ rfl HG.out.own rfl HB2.out (by omega) hsz ?_; intro v3 w3 hown3 hb3; obtain ⟨A3, cap3, rfl, hn3, hm3⟩ := own_slice hown3; have HW3 : Hid (Wr w w3 L (k + 1) A3 (m + 2 + z) cap3) := Lib.hid ⟨by rw [HN.out, ← List.append_assoc]; exact hown3, HBl.out.trans hb3, HMZ.out, hn3, hm3⟩; have hs3 := HCk.out _ _ hs2 hb3; unfold maxLen at hm3; clear hown3 hb3))
      go_wp2_with fail
      go_roundw
      case rel => exact ⟨k + 1, A3, m + 2 + z, cap3, by go_num, by omega, rfl, hm6, HW3⟩
      case measure => simp [intOf]; omega
    · have hkn : k = L.length := by omega
      have HR : Hid (Wrote w L (fun v => v) (.returned (.slice B m c)) wr) := Lib.hid (by
        have h := HW.out
        rw [hkn] at h
        have hs := h.size
        rw [List.take_length] at hs
        subst hs
        have ho := h.own
        rw [List.take_length] at ho
        exact ⟨B, c, rfl, ho, h.bel⟩)
      clear hkn HW
      go_wp2_with fail
      go_ret
      exact HR.out

end Go.Proofs.Ytcodbcfdbkmegaa
