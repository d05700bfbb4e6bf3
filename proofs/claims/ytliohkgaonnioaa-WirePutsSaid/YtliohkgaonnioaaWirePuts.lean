/- WirePuts walked. -/
import Derived.Test.YtliohkgaonnioaaWireLives
import Derived.Test.YtliohkgaonnioaaWireRefPut
import Derived.Deep.RegionWith
namespace Go.Proofs.Ytliohkgaonnioaa
open Go.RowKit
set_option linter.unusedVariables false
set_option linter.unusedSimpArgs false

/-- The bytes of a row of the call's own lie in its block. -/
theorem bytes_block {w : World} {base n : Nat} {e : TypeId} {A : Option Addr} {m cap : Nat} {l : List Int} (h : w.ownsRow base e 1 (.slice A m cap) n (l.map u8I)) (hl : Byte8 l) : BAt8 (fun k => (Value.slice A m cap).ownBlock = some k) w A n cap l := by
  have hb := bytes_own h hl
  refine ⟨hb.len, hb.fit, hb.max, hb.nil, hb.bd, fun hn => ?_⟩
  obtain ⟨b, o, rfl, h2, h3, h4⟩ := hb.lies hn
  exact ⟨b, o, rfl, rfl, h3, h4⟩
/-- Two rows of the call's own, apart. -/
structure Duo (B : Nat) (w u : World) (A1 A2 : Option Addr) (n c1 c2 : Nat) (l : List Int) : Prop where
  o1 : u.ownsRow B 5 1 (.slice A1 n c1) n (l.map u8I)
  o2 : u.ownsRow B 5 1 (.slice A2 n c2) n (l.map u8I)
  ap : ∀ k, (Value.slice A1 n c1).ownBlock = some k → (Value.slice A2 n c2).ownBlock ≠ some k
  bel : Below B w u
theorem Duo.swap {B : Nat} {w u : World} {A1 A2 : Option Addr} {n c1 c2 : Nat} {l : List Int} (h : Duo B w u A1 A2 n c1 c2 l) : Duo B w u A2 A1 n c2 c1 l := ⟨h.o2, h.o1, fun k h1 h2 => h.ap k h2 h1, h.bel⟩
theorem Duo.drew {B : Nat} {w u : World} {A1 A2 : Option Addr} {n c1 c2 : Nat} {l : List Int} (h : Duo B w u A1 A2 n c1 c2 l) : Duo B w u.drew A1 A2 n c1 c2 l :=
  ⟨own_kept' h.o1 fun _ _ _ => rfl, own_kept' h.o2 fun _ _ _ => rfl, h.ap, h.bel.drew⟩
/-- The first has grown; the second stands. -/
structure Half (B : Nat) (w u : World) (A : Option Addr) (m c : Nat) (R : List Int) (A2 : Option Addr) (n c2 : Nat) (l : List Int) : Prop where
  b : BAt8 (fun k => (Value.slice A2 n c2).ownBlock ≠ some k) u A m c R
  o2 : u.ownsRow B 5 1 (.slice A2 n c2) n (l.map u8I)
  bel : Below B w u
theorem Duo.half {B : Nat} {w u u' : World} {A1 A2 : Option Addr} {n c1 c2 m c : Nat} {l R : List Int} {A : Option Addr} (h : Duo B w u A1 A2 n c1 c2 l) (hB : B ≤ u.heap.size) (hR : Byte8 R) (k : Gr (Value.slice A1 n c1).ownBlock B u u' A m c R) : Half B w u' A m c R A2 n c2 l := by
  refine ⟨(bytes_block k.own hR).weak fun i hi e e2 => ?_, own_kept' h.o2 fun i hi e => k.ch.block i hi fun e1 => h.ap i e1 e, h.bel.trans (k.ch.below (fun i hi => (own_low h.o1 i hi).1) hB)⟩
  rcases k.low i e with h1 | h1
  · exact h.ap i h1 e2
  · have := (own_low h.o2 i e2).2
    omega
structure Whole2 (B : Nat) (w u : World) (A : Option Addr) (m c : Nat) (A' : Option Addr) (c' : Nat) (R : List Int) : Prop where
  b : BAt8 (fun _ => True) u A m c R
  b2 : BAt8 (fun _ => True) u A' m c' R
  bel : Below B w u
theorem Half.whole {B : Nat} {w u u' : World} {A A2 A' : Option Addr} {n c2 m c c' : Nat} {l R : List Int} (h : Half B w u A m c R A2 n c2 l) (hB : B ≤ u.heap.size) (hR : Byte8 R) (k : Gr (Value.slice A2 n c2).ownBlock B u u' A' m c' R) : Whole2 B w u' A m c A' c' R :=
  ⟨((h.b.ch k.ch fun i h1 h2 => h1 h2).weak fun _ _ _ => trivial), (bytes_block k.own hR).weak fun _ _ _ => trivial, h.bel.trans (k.ch.below (fun i hi => (own_low h.o2 i hi).1) hB)⟩
theorem own_base {w : World} {base B : Nat} {e : TypeId} {size : Nat} {v : Value} {n : Nat} {xs : List Value} (h : w.ownsRow base e size v n xs) (hB : B ≤ base) : w.ownsRow B e size v n xs := by
  refine ⟨h.1, ?_⟩
  rcases h.2 with hn | ⟨g, cap, cur, rfl, hb', rest⟩
  · exact .inl hn
  · exact .inr ⟨g, cap, cur, rfl, Nat.le_trans hB hb', rest⟩
theorem duo_of {w w1 w2 : World} {A1 A2 : Option Addr} {n c1 c2 : Nat} {l : List Int} (h1 : w1.ownsRow w.heap.size 5 1 (.slice A1 n c1) n (l.map u8I)) (k1 : Below w.heap.size w w1) (h2 : w2.ownsRow w1.heap.size 5 1 (.slice A2 n c2) n (l.map u8I)) (k2 : Below w1.heap.size w1 w2) : Duo w.heap.size w w2 A1 A2 n c1 c2 l :=
  ⟨own_kept' h1 fun k hk _ => k2.block k hk, own_base h2 k1.size, fun k e1 e2 => by have := (own_low h1 k e1).2; have := (own_low h2 k e2).1; omega, k1.trans (k2.mono k1.size)⟩
def HalfE (B : Nat) (w : World) (m : Nat) (R : List Int) (A2 : Option Addr) (n c2 : Nat) (l : List Int) (e : Ending) (u' : World) : Prop := ∃ A c, e = .returned (.slice A m c) ∧ Half B w u' A m c R A2 n c2 l
def WholeE (B : Nat) (w : World) (A : Option Addr) (m c : Nat) (R : List Int) (e : Ending) (u' : World) : Prop := ∃ A' c', e = .returned (.slice A' m c') ∧ Whole2 B w u' A m c A' c' R
theorem half_of {f : FuncId} {args : Array Value} {B : Nat} {w u : World} {A1 A2 : Option Addr} {n c1 c2 m : Nat} {l R : List Int} (h : Duo B w u A1 A2 n c1 c2 l) (hw : B ≤ w.heap.size) (hR : Byte8 R) (k : Calls Try.prog f args u (PutE (Value.slice A1 n c1).ownBlock B u m R)) : Calls Try.prog f args u (HalfE B w m R A2 n c2 l) := by
  refine k.mono ?_
  rintro e u' ⟨A, c, rfl, hG⟩
  exact ⟨A, c, rfl, h.half (Nat.le_trans hw h.bel.size) hR hG⟩
theorem whole_of {f : FuncId} {args : Array Value} {B : Nat} {w u : World} {A A2 : Option Addr} {n c c2 m : Nat} {l R : List Int} (h : Half B w u A m c R A2 n c2 l) (hw : B ≤ w.heap.size) (hR : Byte8 R) (k : Calls Try.prog f args u (PutE (Value.slice A2 n c2).ownBlock B u m R)) : Calls Try.prog f args u (WholeE B w A m c R) := by
  refine k.mono ?_
  rintro e u' ⟨A', c', rfl, hG⟩
  exact ⟨A', c', rfl, h.whole (Nat.le_trans hw h.bel.size) hR hG⟩
theorem puts_lives (v : Value) (l : List Int) (n x : Int) (w : World) (h : BytesV w v l) (hx : 1000 < l.length ∨ x < -1000000000000 ∨ 1000000000000 < x) : Calls Try.prog 3 #[v, .int .i64 n, .int .i64 x] w fun e w' => e = .returned (.bool true) ∧ Below w.heap.size w w' := by
  obtain ⟨A, m, cap, rfl, hB⟩ := h
  have hlen := hB.len
  have hf := hB.fit
  have hm := hB.max
  unfold maxLen at hm
  rw [hlen] at hx
  clear hB
  obtain ⟨q1, h1⟩ : ∃ q, decide (1000 < (m : Int)) = q := ⟨_, rfl⟩
  obtain ⟨q2, h2⟩ : ∃ q, decide (x < -1000000000000) = q := ⟨_, rfl⟩
  obtain ⟨q3, h3⟩ : ∃ q, decide (1000000000000 < x) = q := ⟨_, rfl⟩
  have hq : (q1 || (q2 || q3)) = true := by
    rw [← h1, ← h2, ← h3]
    rcases hx with h | h | h
    · rw [decide_eq_true (show (1000 : Int) < (m : Int) by omega)]; rfl
    · rw [decide_eq_true h]; simp
    · rw [decide_eq_true h]; simp
  have h1' : decide (1000 < m) = q1 := by rw [← h1]; exact decide_eq_decide.2 (by omega)
  clear hx
  cases q1 <;> cases q2 <;> cases q3
  all_goals first
    | (cases hq; done)
    | skip
  all_goals
    go_enter Try.func3, Try.ntmps3
    go_wp2_with fail
    refine (lives17 _).mono ?_
    rintro e w1 ⟨rfl, hb⟩
    go_wp2_with fail
    go_ret
    exact ⟨rfl, hb⟩
set_option maxHeartbeats 3200000 in
theorem puts_walk (v : Value) (l : List Int) (n x : Int) (hn : (Lit.int .i64 n).wf = true) (hx : (Lit.int .i64 x).wf = true) (w : World) (h : BytesV w v l) : Calls Try.prog 3 #[v, .int .i64 n, .int .i64 x] w fun e w' => e = .returned (.bool true) ∧ Below w.heap.size w w' := by
  by_cases hbad : 1000 < l.length ∨ x < -1000000000000 ∨ 1000000000000 < x
  · exact puts_lives v l n x w h hbad
  obtain ⟨A, m, cap, rfl, hB⟩ := h
  have hlen := hB.len
  have hf := hB.fit
  have hm := hB.max
  unfold maxLen at hm
  have hm1 : m ≤ 1000 := by omega
  have x0 : -1000000000000 ≤ x := by omega
  have x1 : x ≤ 1000000000000 := by omega
  clear hbad
  have d1 : decide (1000 < (m : Int)) = false := decide_eq_false (by omega)
  have d1' : decide (1000 < m) = false := decide_eq_false (by omega)
  have d2 : decide (x < -1000000000000) = false := decide_eq_false (by omega)
  have d3 : decide (1000000000000 < x) = false := decide_eq_false (by omega)
  have HB := Lib.hid hB
  have hbd := Lib.hid hB.bd
  have hx0 : w.ownsRow w.heap.size 5 1 (.slice none 0 0) 0 (([] : List Int).map u8I) := World.ownsRow_nil _ _ _ _
  clear hB hlen
  go_enter Try.func3, Try.ntmps3
  go_wp2_with (first
    | (at_builtin
       refine wpList_append_u8 (P := Try.prog) w.heap.size 5 22 infoB8 Try.underlying22 rfl (.tmp 21) (.tmp 22) rfl (.slice none 0 0) 0 [] rfl hx0 rfl HB.out (by omega) (Nat.le_refl _) ?_
       intro v' w1 hown hb1
       have hown' : w1.ownsRow w.heap.size 5 1 v' m (l.map u8I) := by simpa using hown
       clear hown hx0
       obtain ⟨A1, c1, rfl, hn1, hm1⟩ := own_slice hown'
       have HO1 := Lib.hid hown'
       have HW1 := Lib.hid hb1
       have HX1 := HB.out.below hb1
       have hy0 : w1.ownsRow w1.heap.size 5 1 (.slice none 0 0) 0 (([] : List Int).map u8I) := World.ownsRow_nil _ _ _ _
       clear hown' hb1)
    | (at_builtin
       refine wpList_append_u8 (P := Try.prog) w1.heap.size 5 22 infoB8 Try.underlying22 rfl (.tmp 24) (.tmp 25) rfl (.slice none 0 0) 0 [] rfl hy0 rfl HX1 (by omega) (Nat.le_refl _) ?_
       intro v' w2 hown hb2
       have hown' : w2.ownsRow w1.heap.size 5 1 v' m (l.map u8I) := by simpa using hown
       clear hown hy0 HX1
       obtain ⟨A2, c2, rfl, hn2, hm2⟩ := own_slice hown'
       have HO2 := Lib.hid hown'
       have HW2 := Lib.hid hb2
       clear hown' hb2))
  have HD := Lib.hid (duo_of HO1.out HW1.out HO2.out HW2.out)
  by_cases hk : 1 ≤ n ∧ n ≤ 4
  · obtain ⟨k, rfl⟩ := Int.eq_ofNat_of_zero_le (show 0 ≤ n by omega)
    have k1 : 1 ≤ k := by omega
    have k4 : k ≤ 4 := by omega
    obtain ⟨R, hR⟩ : ∃ R, l ++ putL k x = R := ⟨_, rfl⟩
    have HR8 : Hid (Byte8 R) := Lib.hid (by rw [← hR]; exact hbd.out.app (putL_byte k x))
    have HL := Lib.hid (fun u (h : Duo w.heap.size w u A1 A2 m c1 c2 l) => half_of (f := 6) h (Nat.le_refl _) HR8.out (by rw [← hR]; exact put_yes w.heap.size A1 m c1 l (k : Nat) k rfl k1 k4 x u h.o1 (by omega) h.bel.size (by omega) (by omega)))
    have HM := Lib.hid (fun u (h : Duo w.heap.size w u A1 A2 m c1 c2 l) => half_of (f := 7) h.swap (Nat.le_refl _) HR8.out (by rw [← hR]; exact refPut_yes w.heap.size A2 m c2 l (k : Nat) k rfl k1 k4 x u h.o2 (by omega) h.bel.size x0 x1))
    have HLW := Lib.hid (fun u A c (h : Half w.heap.size w u A (m + k) c R A1 m c1 l) => whole_of (f := 6) h (Nat.le_refl _) HR8.out (by rw [← hR]; exact put_yes w.heap.size A1 m c1 l (k : Nat) k rfl k1 k4 x u h.o2 (by omega) h.bel.size (by omega) (by omega)))
    have HMW := Lib.hid (fun u A c (h : Half w.heap.size w u A (m + k) c R A2 m c2 l) => whole_of (f := 7) h (Nat.le_refl _) HR8.out (by rw [← hR]; exact refPut_yes w.heap.size A2 m c2 l (k : Nat) k rfl k1 k4 x u h.o2 (by omega) h.bel.size x0 x1))
    have hd := HD.out.drew
    clear HO1 HO2 HW1 HW2 HB hbd HD hk hR
    go_region_with (first
      | (go_at_call 6; refine (HL.out _ (by assumption)).mono ?_; rintro e w4 ⟨A4, c4, rfl, hs4⟩; have q4 := conv_of hs4.b)
      | (go_at_call 6; refine (HLW.out _ _ _ (by assumption)).mono ?_; rintro e w4 ⟨A4, c4, rfl, hs4⟩; have q4 := conv_of hs4.b; have q4' := conv_of hs4.b2)
      | (go_at_call 7; refine (HM.out _ (by assumption)).mono ?_; rintro e w5 ⟨A5, c5, rfl, hs5⟩; have q5 := conv_of hs5.b)
      | (go_at_call 7; refine (HMW.out _ _ _ (by assumption)).mono ?_; rintro e w5 ⟨A5, c5, rfl, hs5⟩; have q5 := conv_of hs5.b; have q5' := conv_of hs5.b2)
      | (go_at_call 5; refine (lives17 _).mono ?_; rintro e w6 ⟨rfl, hb6⟩))
    all_goals
      go_wp2_with fail
      go_ret
    all_goals first
      | exact ⟨rfl, hs4.bel.trans (hb6.mono hs4.bel.size)⟩
      | exact ⟨rfl, hs5.bel.trans (hb6.mono hs5.bel.size)⟩
  · have HL := Lib.hid (fun u => put_no A1 m c1 n x (by omega) u)
    have HM := Lib.hid (fun u => refPut_no A2 m c2 n x (by omega) u)
    have hd := HD.out.drew
    have q4 := conv_of ((bytes_own hd.o1 hbd.out).weak (G := fun _ => True) fun _ _ _ => trivial)
    have q5 := conv_of ((bytes_own hd.o2 hbd.out).weak (G := fun _ => True) fun _ _ _ => trivial)
    have HB2 := Lib.hid hd.bel
    clear HO1 HO2 HW1 HW2 HB hbd HD hk hd
    go_region_with (first
      | (go_at_call 6; refine (HL.out _).mono ?_; rintro e w4 ⟨rfl, rfl⟩)
      | (go_at_call 7; refine (HM.out _).mono ?_; rintro e w5 ⟨rfl, rfl⟩)
      | (go_at_call 5; refine (lives17 _).mono ?_; rintro e w6 ⟨rfl, hb6⟩))
    all_goals
      go_wp2_with fail
      go_ret
      exact ⟨rfl, HB2.out.trans (hb6.mono HB2.out.size)⟩

end Go.Proofs.Ytliohkgaonnioaa
