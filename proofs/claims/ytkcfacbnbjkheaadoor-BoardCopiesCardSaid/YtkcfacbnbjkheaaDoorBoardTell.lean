/- What a board tells: its rows and its picture, copied: their contracts. -/
import Derived.Test.YtkcfacbnbjkheaaDoorBoardMake
import Derived.Lib.SliceRun
namespace Go.Proofs.YtkcfacbnbjkheaaDoor
open Go.RowKit
set_option maxRecDepth 100000

set_option maxRecDepth 100000 in
set_option maxHeartbeats 1600000 in
theorem cloneA (base : Nat) (v : Value) (n : Nat) (xs : List Value) (w : World) (hr : w.ownsRow base 84 4 v n xs) (hx : ∀ u ∈ xs, u.oneCell' = true) (hn : n ≤ 100000) :
    Calls Tryd.prog 51 #[v] w fun e w' => ∃ v', e = .returned v' ∧ w'.ownsRow w.heap.size 84 4 v' n xs ∧ Below w.heap.size w w' := by
  have q := fun (u : World) (a : Option Addr) (n c n' c' : Nat) => Lib.run_eql_slice_nil (P := Tryd.prog) u 37 84 a n c n' c' Tryd.underlying37
  obtain ⟨i0, hi, hz0, hz1, hz2⟩ := info_parts infoAct
  have hlen := hr.1
  have HCL := Lib.hid (fun g (h : v.ownBlock = some g) => hr.cells h)
  rcases hr.2 with ⟨rfl, rfl⟩ | ⟨g, cap, cur, rfl, hB, hg, hnc, hm, _, _⟩
  · have hx0 : xs = [] := List.eq_nil_of_length_eq_zero (by omega)
    clear hr HCL hx hi hz0 hz1 hz2 hlen
    go_enter Tryd.func51, Tryd.ntmps51
    go_wp2_with fail
    go_ret
    exact ⟨_, rfl, by rw [hx0]; exact World.ownsRow_nil _ _ _ _, Below.refl _ _⟩
  · have hlt : g < w.heap.size := (Array.getElem?_eq_some_iff.1 hg).1
    have HC := Lib.hid (HCL.out g rfl)
    have HX := Lib.hid hx
    clear hr HCL hx hg
    go_enter Tryd.func51, Tryd.ntmps51
    go_wp2_with (at_builtin; refine wpList_append_own _ rfl _ _ 37 rfl w.heap.size 84 i0 (.agg #[.int .u64 0, .bool false, .int .u16 0, .int .u8 0]) 4 16 Tryd.underlying37 hi hz0 hz1 hz2 rfl (by decide) _ _ _ rfl (World.ownsRow_made w #[] 0 (Nat.le_refl _) (Nat.zero_le _) rfl) ⟨g, 0, none⟩ n cap xs rfl hlen ?qc2 HX.out ?qc4 ?qc5 ?qc6 ?_)
    case qc2 =>
      intro j u hj
      have := HC.out j u hj
      rw [Addr.add_mid] at this ⊢
      exact ((balloc w _).cell (p := ⟨g, 0 + j, none⟩) hlt).trans this
    case qc4 => unfold maxLen; omega
    case qc5 => omega
    case qc6 => simp
    intro v' w1 hown hgrow hnil
    go_wp2_with fail
    go_ret
    exact ⟨v', rfl, by simpa using hown, ((Below.refl _ w).alloc (Nat.le_refl _) _).grown hgrow (by simp) (by intro k hk; simp [Value.ownBlock] at hk; omega)⟩
set_option maxRecDepth 100000 in
set_option maxHeartbeats 1600000 in
theorem cloneE (base : Nat) (v : Value) (n : Nat) (xs : List Value) (w : World) (hr : w.ownsRow base 35 1 v n xs) (hx : ∀ u ∈ xs, u.oneCell' = true) (hn : n ≤ 100000) :
    Calls Tryd.prog 52 #[v] w fun e w' => ∃ v', e = .returned v' ∧ w'.ownsRow w.heap.size 35 1 v' n xs ∧ Below w.heap.size w w' := by
  have q := fun (u : World) (a : Option Addr) (n c n' c' : Nat) => Lib.run_eql_slice_nil (P := Tryd.prog) u 38 35 a n c n' c' Tryd.underlying38
  obtain ⟨i0, hi, hz0, hz1, hz2⟩ := info_parts infoU64
  have hlen := hr.1
  have HCL := Lib.hid (fun g (h : v.ownBlock = some g) => hr.cells h)
  rcases hr.2 with ⟨rfl, rfl⟩ | ⟨g, cap, cur, rfl, hB, hg, hnc, hm, _, _⟩
  · have hx0 : xs = [] := List.eq_nil_of_length_eq_zero (by omega)
    clear hr HCL hx hi hz0 hz1 hz2 hlen
    go_enter Tryd.func52, Tryd.ntmps52
    go_wp2_with fail
    go_ret
    exact ⟨_, rfl, by rw [hx0]; exact World.ownsRow_nil _ _ _ _, Below.refl _ _⟩
  · have hlt : g < w.heap.size := (Array.getElem?_eq_some_iff.1 hg).1
    have HC := Lib.hid (HCL.out g rfl)
    have HX := Lib.hid hx
    clear hr HCL hx hg
    go_enter Tryd.func52, Tryd.ntmps52
    go_wp2_with (at_builtin; refine wpList_append_own _ rfl _ _ 38 rfl w.heap.size 35 i0 (.int .u64 0) 1 8 Tryd.underlying38 hi hz0 hz1 hz2 rfl (by decide) _ _ _ rfl (World.ownsRow_made w #[] 0 (Nat.le_refl _) (Nat.zero_le _) rfl) ⟨g, 0, none⟩ n cap xs rfl hlen ?qc2 HX.out ?qc4 ?qc5 ?qc6 ?_)
    case qc2 =>
      intro j u hj
      have := HC.out j u hj
      rw [Addr.add_mid] at this ⊢
      exact ((balloc w _).cell (p := ⟨g, 0 + j, none⟩) hlt).trans this
    case qc4 => unfold maxLen; omega
    case qc5 => omega
    case qc6 => simp
    intro v' w1 hown hgrow hnil
    go_wp2_with fail
    go_ret
    exact ⟨v', rfl, by simpa using hown, ((Below.refl _ w).alloc (Nat.le_refl _) _).grown hgrow (by simp) (by intro k hk; simp [Value.ownBlock] at hk; omega)⟩

theorem acts_any (b base : Nat) (s : St) (va ve : Value) (w : World) (hB : BAt w b base s va ve) (hl : s.acts.length ≤ 100000) :
    Calls Tryd.prog 24 #[.pointer (some ⟨b, 0, none⟩)] w fun e w' => ∃ v', e = .returned v' ∧ w'.ownsRow w.heap.size 84 4 v' s.acts.length (flatA s.acts) ∧ Below w.heap.size w w' := by
  have c := hB.c_va
  have HC := Lib.hid (cloneA base va _ _ w hB.row (flatA_one _) hl)
  clear hB
  go_enter Tryd.func24, Tryd.ntmps24
  go_wp2_with fail
  refine HC.out.mono ?_
  rintro e w1 ⟨v', rfl, hr, hb⟩
  go_wp2_with fail
  go_ret
  exact ⟨v', rfl, hr, hb⟩
theorem edges_any (b base : Nat) (s : St) (va ve : Value) (w : World) (hB : BAt w b base s va ve) (hl : s.edges.length ≤ 100000) :
    Calls Tryd.prog 25 #[.pointer (some ⟨b, 0, none⟩)] w fun e w' => ∃ v', e = .returned v' ∧ w'.ownsRow w.heap.size 35 1 v' s.edges.length (s.edges.map u64V) ∧ Below w.heap.size w w' := by
  have c := hB.c_ve
  have HC := Lib.hid (cloneE base ve _ _ w hB.tim (fun u hu => by obtain ⟨x, _, rfl⟩ := List.mem_map.1 hu; rfl) hl)
  clear hB
  go_enter Tryd.func25, Tryd.ntmps25
  go_wp2_with fail
  refine HC.out.mono ?_
  rintro e w1 ⟨v', rfl, hr, hb⟩
  go_wp2_with fail
  go_ret
  exact ⟨v', rfl, hr, hb⟩
theorem len_own {w : World} {base : Nat} {e : TypeId} {size : Nat} {v : Value} {n : Nat} {xs : List Value} (h : w.ownsRow base e size v n xs) : ∃ a cap, v = .slice a n cap ∧ n ≤ cap ∧ cap ≤ maxLen := by
  rcases h.2 with ⟨rfl, rfl⟩ | ⟨g, cap, cur, rfl, _, _, h1, h2, _⟩
  · exact ⟨none, 0, rfl, Nat.le_refl _, Nat.zero_le _⟩
  · exact ⟨_, cap, rfl, h1, h2⟩

set_option maxRecDepth 100000 in
set_option maxHeartbeats 1600000 in
theorem picture_any (b base : Nat) (s : St) (va ve : Value) (w : World) (hB : BAt w b base s va ve) :
    Calls Tryd.prog 26 #[.pointer (some ⟨b, 0, none⟩)] w fun e w' => e = .returned (.slice (some ⟨w.heap.size, 0, none⟩) 12288 12288) ∧ Cells w' w.heap.size 5 12288 (fun j => .int .u8 (s.pic j)) ∧ Below w.heap.size w w' := by
  obtain ⟨w0, hmk, hC0, hb0⟩ := make_bytes 12288 w (by decide)
  have hmk' : (Instr.makeSlice 29 (.int .i64 12288) (.int .i64 12288)).run Tryd.prog w = .ok (.slice (some ⟨w.heap.size, 0, none⟩) 12288 12288) w0 := hmk
  have HC0 := Lib.hid hC0
  have HS := Lib.hid (show SrcAt w0 (some ⟨b, 65552, none⟩) 12288 s.pic from fun _ => ⟨b, 65552, rfl, (hB.below hb0).lt, fun j hj => (hB.below hb0).c_pic j hj⟩)
  have hsz : (Tryd.prog.info? 5).map (·.size) = some 1 := by kernel_rfl
  clear hmk hC0 hB
  go_enter Tryd.func26, Tryd.ntmps26
  go_wp2_with (refine wpList_copy_mine rfl (.tmp 7) (.tmp 11) 29 29 rfl 5 Tryd.underlying29 hsz w.heap.size 0 12288 12288 (some ⟨b, 65552, none⟩) 12288 12288 rfl rfl 5 12288 _ HC0.out 12288 rfl s.pic HS.out (by decide) ?_; intro w2 HC2 hc2)
  go_ret
  exact ⟨rfl, HC2.out.congr fun j hj => by rw [if_pos (by omega), Nat.sub_zero], hb0.trans (hc2.below (B := w.heap.size) (fun k hk => Nat.le_of_eq hk.symm) hb0.size)⟩

/-- The chapter's example. -/
def liveS : St := newS (fun _ => 7) (fun _ => 0) 0 (frameV 0)
theorem live_in : inR liveS 65278 = 191 ∧ inS liveS 65278 = liveS := by
  constructor
  · decide +kernel
  · rfl
theorem live_out : (outS liveS 254 13).border = 5 ∧ (outS liveS 254 13).mic = true ∧ (outS liveS 254 13).M 3 = 7 := by
  refine ⟨?_, ?_, ?_⟩ <;> decide +kernel
set_option maxRecDepth 100000 in
set_option maxHeartbeats 1600000 in
theorem lives11 (w : World) : Calls Tryd.prog 6 #[] w fun e w' => e = .returned (.bool true) ∧ Below w.heap.size w w' := by
  obtain ⟨hi1, hi2⟩ := live_in
  obtain ⟨ho1, ho2, ho3⟩ := live_out
  have HI1 := Lib.hid hi1
  have HI2 := Lib.hid hi2
  have HO1 := Lib.hid ho1
  have HO2 := Lib.hid ho2
  have HO3 := Lib.hid ho3
  clear hi1 hi2 ho1 ho2 ho3
  go_enter Tryd.func6, Tryd.ntmps6
  go_wp2_with fail
  refine (rom_any 7 w).mono ?_
  rintro e w1 ⟨rfl, hC, hb1⟩
  have HN := Lib.hid (new_any (some ⟨w.heap.size, 0, none⟩) none 16384 0 0 (fun _ => 7) (fun _ => 0) 0 w1 hC.src (fun h => absurd h (by omega)) (by omega))
  clear hC
  go_wp2_with fail
  refine HN.out.mono ?_
  rintro e w2 ⟨rfl, hB, hb2⟩
  have HB := Lib.hid (show BAt w2 w1.heap.size w1.heap.size liveS _ _ from hB)
  have hsz := hb2.size
  have hs1 := hb1.size
  clear hB HN
  go_wp2_with fail
  refine (in_any _ _ 65278 _ _ _ w2 HB.out hsz (by decide) (by decide) (by decide) (by decide) (by decide)).mono ?_
  rintro e w3 ⟨rfl, va3, ve3, hB3, hc3, hk3⟩
  rw [HI1.out]
  rw [HI2.out] at hB3
  have HB3 := Lib.hid hB3
  have hs3 := hc3.size
  have h3 : Below w.heap.size w w3 := (hb1.trans (hb2.mono hb1.size)).trans (hc3.below (fun k hk => Nat.le_trans hs1 (HB.out.fb_lt k hk).1) (Nat.le_trans hs1 hsz))
  clear hB3 hk3
  go_wp2_with fail
  refine (out_any _ _ 254 13 _ _ _ w3 HB3.out (by omega) (by decide) (by decide) (by decide) (by decide) (by decide) (by decide)).mono ?_
  rintro e w4 ⟨rfl, va4, ve4, hB4, hc4, hk4⟩
  have h4 : Below w.heap.size w w4 := h3.trans (hc4.below (fun k hk => Nat.le_trans hs1 (HB3.out.fb_lt k hk).1) (by omega))
  have c1 := border_any _ _ _ _ _ _ hB4
  have c2 := mic_any _ _ _ _ _ _ hB4
  have c3 := bread_any _ _ 3 _ _ _ _ hB4 (by decide)
  rw [HO1.out] at c1
  rw [HO2.out] at c2
  rw [HO3.out] at c3
  have H1 := Lib.hid c1
  have H2 := Lib.hid c2
  have H3 := Lib.hid c3
  clear c1 c2 c3 hB4 hk4 hc4 hc3 h3
  go_wp2_with fail
  refine (H1.out).mono ?_
  rintro e w' ⟨rfl, rfl⟩
  go_wp2_with fail
  refine (H2.out).mono ?_
  rintro e w' ⟨rfl, rfl⟩
  go_wp2_with fail
  refine (H3.out).mono ?_
  rintro e w' ⟨rfl, rfl⟩
  go_wp2_with fail
  go_ret
  exact ⟨rfl, h4⟩

end Go.Proofs.YtkcfacbnbjkheaaDoor
