/- regs.Show: its contract. -/
import Derived.Test.YteffjidbcdnbhaaDoorRegPair
import Derived.Test.YteffjidbcdnbhaaDoorHexTold
import Derived.Deep.RegionHeld3
namespace Go.Proofs.YteffjidbcdnbhaaDoor
open Go.RowKit

def part (s : List UInt8) (d : Nat) (n : Int) : List UInt8 := s ++ [61] ++ hexN d n.toNat
theorem part_len (s : List UInt8) (d : Nat) (n : Int) : (part s d n).length = s.length + 1 + d := by simp [part, hexN_len]; omega
def parts (x : Rg) : List (List UInt8) :=
  [part [65, 70] 4 (x.a * 256 + x.f), part [66, 67] 4 (pairV x 0 0), part [68, 69] 4 (pairV x 1 0), part [72, 76] 4 (pairV x 2 0), part [73, 88] 4 x.ix, part [73, 89] 4 x.iy, part [83, 80] 4 x.sp, part [80, 67] 4 x.pc, part [73] 2 x.i, part [82] 2 x.r]
def showL (x : Rg) : List UInt8 := Lib.join (parts x) [32]

theorem told4 {S : World → Prop} (hT : ∀ w, S w → Tab w) (hS : ∀ w w', S w → Below w.heap.size w w' → S w') (s : List UInt8) (n : Int) (w : World) (h : S w) (hs : s.length ≤ 10) (n0 : 0 ≤ n) (n1 : n ≤ 65535) :
    Calls Tryd.prog 36 #[.string ⟨s.toArray⟩, .int .i64 4, .int .u16 n] w fun e w' => e = .returned (.string (strL (part s 4 n))) ∧ S w' := by
  obtain ⟨m, rfl⟩ := Int.eq_ofNat_of_zero_le n0
  exact (told_any s 4 m w (hT w h) hs (by omega) (by omega) (by omega) (by omega)).mono fun _ _ ⟨he, hb⟩ => ⟨he, hS _ _ h hb⟩
theorem told2 {S : World → Prop} (hT : ∀ w, S w → Tab w) (hS : ∀ w w', S w → Below w.heap.size w w' → S w') (s : List UInt8) (n : Int) (w : World) (h : S w) (hs : s.length ≤ 10) (n0 : 0 ≤ n) (n1 : n ≤ 255) :
    Calls Tryd.prog 36 #[.string ⟨s.toArray⟩, .int .i64 2, .int .u16 n] w fun e w' => e = .returned (.string (strL (part s 2 n))) ∧ S w' := by
  obtain ⟨m, rfl⟩ := Int.eq_ofNat_of_zero_le n0
  exact (told_any s 2 m w (hT w h) hs (by omega) (by omega) (by omega) (by omega)).mono fun _ _ ⟨he, hb⟩ => ⟨he, hS _ _ h hb⟩
theorem af_held {S : World → Prop} {b : Nat} {x : Rg} (hR : ∀ w, S w → RegAt w b x) (ok : x.Ok) (hS : ∀ w w', S w → Below w.heap.size w w' → S w') (w : World) (h : S w) :
    Calls Tryd.prog 18 #[.pointer (some ⟨b, 0, none⟩)] w fun e w' => e = .returned (.int .u16 (x.a * 256 + x.f)) ∧ S w' :=
  (af_any b x w (hR w h) ok).mono fun _ _ ⟨he, hb⟩ => ⟨he, hS _ _ h hb⟩
theorem pair_held {S : World → Prop} {b : Nat} {x : Rg} (hR : ∀ w, S w → RegAt w b x) (ok : x.Ok) (hS : ∀ w w', S w → Below w.heap.size w w' → S w') (k i : Int) (w : World) (h : S w) :
    Calls Tryd.prog 15 #[.pointer (some ⟨b, 0, none⟩), .int .i64 k, .int .i64 i] w fun e w' => e = .returned (.int .u16 (pairV x k i)) ∧ S w' :=
  (pair_any b x k i w (hR w h) ok).mono fun _ _ ⟨he, hb⟩ => ⟨he, hS _ _ h hb⟩
theorem pairV_bd (x : Rg) (ok : x.Ok) (k i : Int) : 0 ≤ pairV x k i ∧ pairV x k i ≤ 65535 := by
  obtain ⟨b0, b1⟩ := ok.b; obtain ⟨c0, c1⟩ := ok.c; obtain ⟨d0, d1⟩ := ok.d; obtain ⟨e0, e1⟩ := ok.e; obtain ⟨h0, h1⟩ := ok.h; obtain ⟨l0, l1⟩ := ok.l
  obtain ⟨x0, x1⟩ := ok.ix; obtain ⟨y0, y1⟩ := ok.iy; obtain ⟨s0, s1⟩ := ok.sp
  unfold pairV
  repeat' split
  all_goals omega

theorem join_held {S : World → Prop} (hS : ∀ w w', S w → Below w.heap.size w w' → S w') (t : TypeId) (a0 a1 a2 a3 a4 a5 a6 a7 a8 a9 : List UInt8) (u : World) (h : S (u.alloc (.cells #[.string (strL a0), .string (strL a1), .string (strL a2), .string (strL a3), .string (strL a4), .string (strL a5), .string (strL a6), .string (strL a7), .string (strL a8), .string (strL a9)] t)))
    (hl : (Lib.join [a0, a1, a2, a3, a4, a5, a6, a7, a8, a9] [32]).length ≤ 140737488355328) :
    Calls Tryd.prog 35 #[.slice (some ⟨u.heap.size, 0, none⟩) 10 10, .string ⟨#[32]⟩] (u.alloc (.cells #[.string (strL a0), .string (strL a1), .string (strL a2), .string (strL a3), .string (strL a4), .string (strL a5), .string (strL a6), .string (strL a7), .string (strL a8), .string (strL a9)] t)) fun e w' => e = .returned (.string (strL (Lib.join [a0, a1, a2, a3, a4, a5, a6, a7, a8, a9] [32]))) ∧ S w' := by
  have hh := heap_alloc_new u (.cells #[.string (strL a0), .string (strL a1), .string (strL a2), .string (strL a3), .string (strL a4), .string (strL a5), .string (strL a6), .string (strL a7), .string (strL a8), .string (strL a9)] t)
  have hj := Tryd.strings_Join u.heap.size 0 10 [strL a0, strL a1, strL a2, strL a3, strL a4, strL a5, strL a6, strL a7, strL a8, strL a9] ⟨#[32]⟩ (u.alloc (.cells #[.string (strL a0), .string (strL a1), .string (strL a2), .string (strL a3), .string (strL a4), .string (strL a5), .string (strL a6), .string (strL a7), .string (strL a8), .string (strL a9)] t))
    (fun j x hx => by
      rw [Nat.zero_add]
      simp only [World.cell?, hh]
      match j, hx with
      | 0, hx | 1, hx | 2, hx | 3, hx | 4, hx | 5, hx | 6, hx | 7, hx | 8, hx | 9, hx => 
        injection hx with hx
        subst hx
        rfl) (by simp) (by simp) (by simp) hl
  exact hj.mono fun _ _ ⟨he, hb⟩ => ⟨he, hS _ _ h hb⟩

def ShowS (b : Nat) (x : Rg) (w0 u : World) : Prop := RegAt u b x ∧ Tab u ∧ Below w0.heap.size w0 u
theorem ShowS.below {b : Nat} {x : Rg} {w0 u u' : World} (h : ShowS b x w0 u) (hb : Below u.heap.size u u') : ShowS b x w0 u' := ⟨h.1.below hb, h.2.1.below hb, below_step h.2.2 hb⟩
def ShowC (b : Nat) (x : Rg) (u : World) : Prop := u.cell? ⟨b, 19, none⟩ = some (.int .u16 x.ix) ∧ u.cell? ⟨b, 20, none⟩ = some (.int .u16 x.iy) ∧ u.cell? ⟨b, 21, none⟩ = some (.int .u16 x.sp) ∧ u.cell? ⟨b, 22, none⟩ = some (.int .u16 x.pc) ∧ u.cell? ⟨b, 16, none⟩ = some (.int .u8 x.i) ∧ u.cell? ⟨b, 17, none⟩ = some (.int .u8 x.r)
theorem ShowS.cells {b : Nat} {x : Rg} {w0 u : World} (h : ShowS b x w0 u) : ShowC b x u := ⟨h.1.cell 19 _ rfl, h.1.cell 20 _ rfl, h.1.cell 21 _ rfl, h.1.cell 22 _ rfl, h.1.cell 16 _ rfl, h.1.cell 17 _ rfl⟩

set_option maxRecDepth 100000 in
set_option maxHeartbeats 400000 in
theorem show_any (b : Nat) (x : Rg) (w : World) (h : RegAt w b x) (ok : x.Ok) (ht : Tab w) : Calls Tryd.prog 22 #[.pointer (some ⟨b, 0, none⟩)] w fun e w' => e = .returned (.string (strL (showL x))) ∧ Below w.heap.size w w' := by
  obtain ⟨p0, p1⟩ := pairV_bd x ok 0 0
  obtain ⟨q0, q1⟩ := pairV_bd x ok 1 0
  obtain ⟨r0, r1⟩ := pairV_bd x ok 2 0
  obtain ⟨a0, a1⟩ : 0 ≤ x.a * 256 + x.f ∧ x.a * 256 + x.f ≤ 65535 := by obtain ⟨y0, y1⟩ := ok.a; obtain ⟨z0, z1⟩ := ok.f; omega
  obtain ⟨x0, x1⟩ := ok.ix
  obtain ⟨y0, y1⟩ := ok.iy
  obtain ⟨s0, s1⟩ := ok.sp
  obtain ⟨c0, c1⟩ := ok.pc
  obtain ⟨i0, i1⟩ := ok.i
  obtain ⟨k0, k1⟩ := ok.r
  have wi : IntKind.u16.wrap x.i = x.i := by simp [IntKind.wrap, IntKind.bits, IntKind.signed]; omega
  have wr : IntKind.u16.wrap x.r = x.r := by simp [IntKind.wrap, IntKind.bits, IntKind.signed]; omega
  have hS0 : (fun u => (u.cell? ⟨b, 19, none⟩ = some (.int .u16 x.ix) ∧ u.cell? ⟨b, 20, none⟩ = some (.int .u16 x.iy) ∧ u.cell? ⟨b, 21, none⟩ = some (.int .u16 x.sp) ∧ u.cell? ⟨b, 22, none⟩ = some (.int .u16 x.pc) ∧ u.cell? ⟨b, 16, none⟩ = some (.int .u8 x.i) ∧ u.cell? ⟨b, 17, none⟩ = some (.int .u8 x.r)) ∧ ShowS b x w u) w.drew := by
    have hs : ShowS b x w w.drew := ⟨h.drew, ⟨ht.1, ht.2⟩, (Below.refl _ _).drew⟩
    exact ⟨hs.cells, hs⟩
  have HST := Lib.hid (show ∀ u u' : World, (fun u => (u.cell? ⟨b, 19, none⟩ = some (.int .u16 x.ix) ∧ u.cell? ⟨b, 20, none⟩ = some (.int .u16 x.iy) ∧ u.cell? ⟨b, 21, none⟩ = some (.int .u16 x.sp) ∧ u.cell? ⟨b, 22, none⟩ = some (.int .u16 x.pc) ∧ u.cell? ⟨b, 16, none⟩ = some (.int .u8 x.i) ∧ u.cell? ⟨b, 17, none⟩ = some (.int .u8 x.r)) ∧ ShowS b x w u) u → Below u.heap.size u u' → (fun u => (u.cell? ⟨b, 19, none⟩ = some (.int .u16 x.ix) ∧ u.cell? ⟨b, 20, none⟩ = some (.int .u16 x.iy) ∧ u.cell? ⟨b, 21, none⟩ = some (.int .u16 x.sp) ∧ u.cell? ⟨b, 22, none⟩ = some (.int .u16 x.pc) ∧ u.cell? ⟨b, 16, none⟩ = some (.int .u8 x.i) ∧ u.cell? ⟨b, 17, none⟩ = some (.int .u8 x.r)) ∧ ShowS b x w u) u' from fun u u' hu hb => ⟨(hu.2.below hb).cells, hu.2.below hb⟩)
  have HSA := Lib.hid (show ∀ (u : World) (o : Obj), (fun u => (u.cell? ⟨b, 19, none⟩ = some (.int .u16 x.ix) ∧ u.cell? ⟨b, 20, none⟩ = some (.int .u16 x.iy) ∧ u.cell? ⟨b, 21, none⟩ = some (.int .u16 x.sp) ∧ u.cell? ⟨b, 22, none⟩ = some (.int .u16 x.pc) ∧ u.cell? ⟨b, 16, none⟩ = some (.int .u8 x.i) ∧ u.cell? ⟨b, 17, none⟩ = some (.int .u8 x.r)) ∧ ShowS b x w u) u → (fun u => (u.cell? ⟨b, 19, none⟩ = some (.int .u16 x.ix) ∧ u.cell? ⟨b, 20, none⟩ = some (.int .u16 x.iy) ∧ u.cell? ⟨b, 21, none⟩ = some (.int .u16 x.sp) ∧ u.cell? ⟨b, 22, none⟩ = some (.int .u16 x.pc) ∧ u.cell? ⟨b, 16, none⟩ = some (.int .u8 x.i) ∧ u.cell? ⟨b, 17, none⟩ = some (.int .u8 x.r)) ∧ ShowS b x w u) (u.alloc o) from fun u o hu => HST.out _ _ hu ((Below.refl _ _).alloc (Nat.le_refl _) _))
  have HT := Lib.hid (show ∀ u : World, (fun u => (u.cell? ⟨b, 19, none⟩ = some (.int .u16 x.ix) ∧ u.cell? ⟨b, 20, none⟩ = some (.int .u16 x.iy) ∧ u.cell? ⟨b, 21, none⟩ = some (.int .u16 x.sp) ∧ u.cell? ⟨b, 22, none⟩ = some (.int .u16 x.pc) ∧ u.cell? ⟨b, 16, none⟩ = some (.int .u8 x.i) ∧ u.cell? ⟨b, 17, none⟩ = some (.int .u8 x.r)) ∧ ShowS b x w u) u → Tab u from fun u hu => hu.2.2.1)
  have HR := Lib.hid (show ∀ u : World, (fun u => (u.cell? ⟨b, 19, none⟩ = some (.int .u16 x.ix) ∧ u.cell? ⟨b, 20, none⟩ = some (.int .u16 x.iy) ∧ u.cell? ⟨b, 21, none⟩ = some (.int .u16 x.sp) ∧ u.cell? ⟨b, 22, none⟩ = some (.int .u16 x.pc) ∧ u.cell? ⟨b, 16, none⟩ = some (.int .u8 x.i) ∧ u.cell? ⟨b, 17, none⟩ = some (.int .u8 x.r)) ∧ ShowS b x w u) u → RegAt u b x from fun u hu => hu.2.1)
  have OK := Lib.hid ok
  have HL := Lib.hid (show (Lib.join (parts x) [32]).length ≤ 140737488355328 by
    simp [parts, Lib.join, part_len])
  have HX := Lib.hid (show strL (Lib.join (parts x) [32]) = strL (showL x) from rfl)
  clear h ok ht
  go_enter Tryd.func22, Tryd.ntmps22
  go_wp2_with fail
  go_region_held3? (fun u => (u.cell? ⟨b, 19, none⟩ = some (.int .u16 x.ix) ∧ u.cell? ⟨b, 20, none⟩ = some (.int .u16 x.iy) ∧ u.cell? ⟨b, 21, none⟩ = some (.int .u16 x.sp) ∧ u.cell? ⟨b, 22, none⟩ = some (.int .u16 x.pc) ∧ u.cell? ⟨b, 16, none⟩ = some (.int .u8 x.i) ∧ u.cell? ⟨b, 17, none⟩ = some (.int .u8 x.r)) ∧ ShowS b x w u) (first | assumption | (refine HSA.out _ _ ?_; assumption)) (first | (go_at_call 18; refine (af_held HR.out OK.out HST.out _ (by assumption)).mono ?_; rintro e w' ⟨rfl, hSB⟩) | (go_at_call 15; refine (pair_held HR.out OK.out HST.out _ _ _ (by assumption)).mono ?_; rintro e w' ⟨rfl, hSB⟩) | (go_at_call 36; (first | (with_reducible refine (told4 HT.out HST.out _ _ _ (by assumption) (by decide) (by assumption) (by assumption)).mono ?_) | (with_reducible refine (told2 HT.out HST.out _ _ _ (by assumption) (by decide) (by assumption) (by assumption)).mono ?_)); rintro e w' ⟨rfl, hSB⟩) | (go_at_call 35; refine (join_held HST.out _ _ _ _ _ _ _ _ _ _ _ _ (HSA.out _ _ (by assumption)) HL.out).mono ?_; rintro e w' ⟨rfl, hSJ⟩))
  go_wp2_with fail
  go_ret
  exact ⟨HX.out ▸ rfl, hSJ.2.2.2⟩

end Go.Proofs.YteffjidbcdnbhaaDoor
