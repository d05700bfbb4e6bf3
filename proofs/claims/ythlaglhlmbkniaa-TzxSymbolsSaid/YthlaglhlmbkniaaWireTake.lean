/- A reader's Take. -/
import Derived.Test.YthlaglhlmbkniaaWireNext
namespace Go.Proofs.Ythlaglhlmbkniaa
open Go.RowKit
set_option linter.unusedVariables false
set_option linter.unusedSimpArgs false

/-- A call on reader g has changed that alone, and answered bytes of its own. -/
def Took (F : Nat → Prop) (w : World) (g m : Nat) (b l : List Int) (p : Nat) (e f : Int) (x : Ending) (w' : World) : Prop := ∃ A c, x = .returned (.slice A m c) ∧ BAt8 (fun k => w.heap.size ≤ k) w' A m c b ∧ RdAt F w' g l p e f ∧ Ch (fun k => k = g) w w'
theorem RdAt.far {F G : Nat → Prop} {w w' : World} {g : Nat} {l : List Int} {p : Nat} {e f : Int} (h : RdAt F w g l p e f) (hb : Ch G w w') (hG : ∀ k, k = g ∨ F k → ¬ G k) : RdAt F w' g l p e f := by
  have hg := h.lt
  obtain ⟨h1, h2, A, n, cap, h3, h4⟩ := h
  exact ⟨h1, h2, A, n, cap, (hb.block g hg (hG g (Or.inl rfl))).trans h3, h4.ch hb fun k hk => hG k (Or.inr hk)⟩
theorem RdAt.base {F : Nat → Prop} {B : Nat} {w w' : World} {g : Nat} {l : List Int} {p : Nat} {e f : Int} (h : RdAt F w g l p e f) (hb : Below B w w') (hG : ∀ k, k = g ∨ F k → k < B) : RdAt F w' g l p e f := by
  have hg := h.lt
  obtain ⟨h1, h2, A, n, cap, h3, h4⟩ := h
  exact ⟨h1, h2, A, n, cap, (hb.block g (hG g (Or.inl rfl))).trans h3, h4.keep hb.size fun k _ hk => hb.block k (hG k (Or.inr hk))⟩
theorem next_bad0 (F : Nat → Prop) (w : World) (g : Nat) (l : List Int) (p : Nat) (e f : Int) (h : RdAt F w g l p e f) (he : e ≠ 0) : Calls Try.prog 40 #[.pointer (some ⟨g, 0, none⟩), .int .i64 0] w (Looks (.slice none 0 0) w) := by
  have H1 := Lib.hid (left_bad F w g l p e f h he)
  have H := Lib.hid (fun k => h.drew k)
  have HE := Lib.hid he
  clear h he
  go_enter Try.func40, Try.ntmps40
  go_wp2_with fail
  refine H1.out.mono ?_
  rintro x w1 ⟨rfl, k, rfl⟩
  have H4 := Lib.hid (bad_any F _ g l p e f (H.out k) false (by simpa using HE.out))
  go_wp2_with fail
  refine (H4.out).mono ?_
  rintro e w' ⟨rfl, rfl⟩
  go_wp2_with fail
  go_ret
  exact ⟨rfl, k, rfl⟩
theorem take_bad (F : Nat → Prop) (w : World) (g : Nat) (l : List Int) (p : Nat) (e f : Int) (h : RdAt F w g l p e f) (he : e ≠ 0) : Calls Try.prog 33 #[.pointer (some ⟨g, 0, none⟩), .int .i64 0] w (Took F w g 0 [] l p e f) := by
  have HN := Lib.hid (next_bad0 F w g l p e f h he)
  have H := Lib.hid h
  clear h he
  go_enter Try.func33, Try.ntmps33
  go_wp2_with fail
  refine HN.out.mono ?_
  rintro x w1 ⟨rfl, k, rfl⟩
  go_wp2_with fail
  refine (clone_any (fun _ => False) none 0 0 [] _ (BAt8.empty _ _) (by decide)).mono ?_
  rintro x w2 ⟨A, c, rfl, hB, hb⟩
  have hb2 : Below w.heap.size w w2 := (bdrawn (Below.refl _ _) k).trans hb
  have HR : Hid (Took F w g 0 [] l p e f (.returned (.slice A 0 c)) w2) := Lib.hid ⟨A, c, rfl, hB, H.out.below hb2, Ch.of_below hb2⟩
  clear hB hb hb2
  go_wp2_with fail
  go_ret
  exact HR.out
theorem take_no (F : Nat → Prop) (w : World) (g : Nat) (l : List Int) (p : Nat) (f : Int) (h : RdAt F w g l p 0 f) (hl : l.length ≤ 1000000) (n : Int) (hn : ((l.length - p : Nat) : Int) < n) : Calls Try.prog 33 #[.pointer (some ⟨g, 0, none⟩), .int .i64 n] w (Took F w g 0 [] l p 2 (p : Nat)) := by
  have HN := Lib.hid (next_no F w g l p f h hl n hn)
  have d : decide (n < 0) = false := decide_eq_false (by omega)
  clear h hn
  go_enter Try.func33, Try.ntmps33
  go_wp2_with fail
  refine HN.out.mono ?_
  rintro x w1 ⟨rfl, hr, hc⟩
  have H1 := Lib.hid hr
  have H2 := Lib.hid hc
  clear hr hc
  go_wp2_with fail
  refine (clone_any (fun _ => False) none 0 0 [] _ (BAt8.empty _ _) (by decide)).mono ?_
  rintro x w2 ⟨A, c, rfl, hB, hb⟩
  have HR : Hid (Took F w g 0 [] l p 2 (p : Nat) (.returned (.slice A 0 c)) w2) := Lib.hid ⟨A, c, rfl, hB.weak fun k _ hk => Nat.le_trans H2.out.size hk, H1.out.below hb, H2.out.less (hb.mono H2.out.size)⟩
  clear hB hb
  go_wp2_with fail
  go_ret
  exact HR.out
theorem take_yes (F : Nat → Prop) (w : World) (g : Nat) (l : List Int) (p : Nat) (f : Int) (h : RdAt F w g l p 0 f) (hl : l.length ≤ 1000000) (n : Int) (m : Nat) (hm : n = m) (hn : p + m ≤ l.length) : Calls Try.prog 33 #[.pointer (some ⟨g, 0, none⟩), .int .i64 n] w (Took F w g m ((l.drop p).take m) l (p + m) 0 f) := by
  subst hm
  have HN := Lib.hid (next_yes F w g l p f h hl m m rfl hn)
  have hm1 : m ≤ 1000000 := by omega
  clear h hn
  go_enter Try.func33, Try.ntmps33
  go_wp2_with fail
  refine HN.out.mono ?_
  rintro x w1 ⟨A1, c1, rfl, hB1, hr, hc⟩
  have HK := Lib.hid (clone_any F A1 m c1 _ w1 hB1 hm1)
  have H1 := Lib.hid hr
  have H2 := Lib.hid hc
  clear hB1 hr hc
  go_wp2_with fail
  refine HK.out.mono ?_
  rintro x w2 ⟨A, c, rfl, hB, hb⟩
  have HR : Hid (Took F w g m ((l.drop p).take m) l (p + m) 0 f (.returned (.slice A m c)) w2) := Lib.hid ⟨A, c, rfl, hB.weak fun k _ hk => Nat.le_trans H2.out.size hk, H1.out.below hb, H2.out.less (hb.mono H2.out.size)⟩
  clear hB hb
  go_wp2_with fail
  go_ret
  exact HR.out

end Go.Proofs.Ythlaglhlmbkniaa
