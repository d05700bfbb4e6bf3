/- The document's reader, by value: its calls. -/
import Derived.Test.YtcodbcfdbkmegaaWireMath
import Derived.Test.YtcodbcfdbkmegaaBytesCut
import Derived.Test.YtcodbcfdbkmegaaProg
import Derived.WalkKit
import Derived.Deep.QuietTactic
import Derived.BigQuiet
import Derived.RegionTactic
import Derived.ChangeAlike
import Derived.LoopTactic
import Derived.Lib.Hide
import Derived.Deep.MidRow
import Derived.Deep.RegionHeld3
import Derived.Deep.RegionWith
namespace Go.Proofs.Ytcodbcfdbkmegaa
open Go.RowKit
set_option linter.unusedVariables false
set_option linter.unusedSimpArgs false

/-- A reader's value. -/
def rdV (A : Option Addr) (n cap : Nat) (p e f : Int) : Value := .agg #[.slice A n cap, .int .i64 p, .int .i64 e, .int .i64 f]
def RdCells (w : World) (g : Nat) (A : Option Addr) (n cap : Nat) (p e f : Int) : Prop := w.heap[g]? = some (.cells #[.slice A n cap, .int .i64 p, .int .i64 e, .int .i64 f] 62 (0, 0))
theorem RdCells.below {w w' : World} {g : Nat} {A : Option Addr} {n cap : Nat} {p e f : Int} (h : RdCells w g A n cap p e f) (hb : Below w.heap.size w w') : RdCells w' g A n cap p e f := (hb.block g (Array.getElem?_eq_some_iff.1 h).1).trans h
theorem results_rd1 {fn : Func} {p : Tmp} (h : fn.results = #[.cell p 62]) (tmps : Array Value) {w : World} {g : Nat} {A : Option Addr} {n cap : Nat} {x e f : Int} (hr : RdCells w g A n cap x e f) (hp : tmps.getD p undef = .pointer (some ⟨g, 0, none⟩)) :
    (results fn tmps).run Try.prog w = .ok (rdV A n cap x e f) w := by
  have hp' : tmps[p]?.getD undef = .pointer (some ⟨g, 0, none⟩) := by simpa using hp
  have hl := run_loadVar_mid (P := Try.prog) w g 0 62 [.slice A n cap, .int .i64 x, .int .i64 e, .int .i64 f] _ (fun j v hj => by
    match j, hj with
    | 0, hj => simp at hj; subst hj; exact cell_of_row w g 0 _ _ (0, 0) hr
    | 1, hj => simp at hj; subst hj; exact cell_of_row w g 1 _ _ (0, 0) hr
    | 2, hj => simp at hj; subst hj; exact cell_of_row w g 2 _ _ (0, 0) hr
    | 3, hj => simp at hj; subst hj; exact cell_of_row w g 3 _ _ (0, 0) hr) Try.underlying62 rfl (by kernel_rfl)
  simp [results, h, hp', asAddr, hl, rdV]
theorem results_rd2 {fn : Func} {p q : Tmp} (h : fn.results = #[.cell p 62, .tmp q]) (tmps : Array Value) {w : World} {g : Nat} {A : Option Addr} {n cap : Nat} {x e f : Int} (hr : RdCells w g A n cap x e f) (hp : tmps.getD p undef = .pointer (some ⟨g, 0, none⟩)) (z : Value) (hq : tmps.getD q undef = z) :
    (results fn tmps).run Try.prog w = .ok (.tuple #[rdV A n cap x e f, z]) w := by
  have hp' : tmps[p]?.getD undef = .pointer (some ⟨g, 0, none⟩) := by simpa using hp
  have hq' : tmps[q]?.getD undef = z := by simpa using hq
  have hl := run_loadVar_mid (P := Try.prog) w g 0 62 [.slice A n cap, .int .i64 x, .int .i64 e, .int .i64 f] _ (fun j v hj => by
    match j, hj with
    | 0, hj => simp at hj; subst hj; exact cell_of_row w g 0 _ _ (0, 0) hr
    | 1, hj => simp at hj; subst hj; exact cell_of_row w g 1 _ _ (0, 0) hr
    | 2, hj => simp at hj; subst hj; exact cell_of_row w g 2 _ _ (0, 0) hr
    | 3, hj => simp at hj; subst hj; exact cell_of_row w g 3 _ _ (0, 0) hr) Try.underlying62 rfl (by kernel_rfl)
  simp [results, h, hp', hq', asAddr, hl, rdV]
def Told (v : Value) (w : World) (x : Ending) (w' : World) : Prop := x = .returned v ∧ Below w.heap.size w w'
theorem rleft_bad (A : Option Addr) (n cap : Nat) (p e f : Int) (he : e ≠ 0) (w : World) : Calls Try.prog 23 #[rdV A n cap p e f] w (Told (.int .i64 0) w) := by
  have d : (e != 0) = true := by simpa using he
  have d' : (e == 0) = false := by simpa using he
  have HB := Lib.hid (bnew w (.cells #[.slice A n cap, .int .i64 p, .int .i64 e, .int .i64 f] 62))
  unfold rdV
  clear he
  go_enter Try.func23, Try.ntmps23
  go_wp2_with fail
  go_ret
  exact ⟨rfl, HB.out⟩
theorem rleft_any (A : Option Addr) (n cap p : Nat) (f : Int) (hp : p ≤ n) (hn : n ≤ 2000000) (hc : cap ≤ maxLen) (hnc : n ≤ cap) (D : Nat) (hD : n - p = D) (w : World) : Calls Try.prog 23 #[rdV A n cap (p : Nat) 0 f] w (Told (.int .i64 (D : Nat)) w) := by
  have HB := Lib.hid (bnew w (.cells #[.slice A n cap, .int .i64 (p : Nat), .int .i64 0, .int .i64 f] 62))
  have he : ((n : Int) - (p : Int)) = (D : Int) := by omega
  have hw : wrap64 ((n : Int) - p) = (D : Int) := by rw [IntWalk.wrap64_in _ (by omega), he]
  unfold maxLen at hc
  unfold rdV
  clear hD
  go_enter Try.func23, Try.ntmps23
  go_wp2_with fail
  go_ret
  exact ⟨by first | rfl | rw [he], HB.out⟩
/-- The second of two blocks that were just made. -/
theorem new_two (w : World) (a b : Obj) : ((w.alloc a).alloc b).heap[w.heap.size + 1]? = some b := by have := heap_alloc_new (w.alloc a) b; simpa using this
theorem bnew2 (w : World) (a b : Obj) : Below w.heap.size w ((w.alloc a).alloc b) := (bnew w a).alloc (by simp) b
theorem rfail_old (A : Option Addr) (n cap : Nat) (p e f : Int) (he : e ≠ 0) (x y : Int) (w : World) : Calls Try.prog 24 #[rdV A n cap p e f, .int .i64 x, .int .i64 y] w (Told (rdV A n cap p e f) w) := by
  have d : (e == 0) = false := by simpa using he
  clear he
  unfold rdV
  go_enter Try.func24, Try.ntmps24
  go_wp2_with fail
  exact bodyPost_ret (results_rd1 rfl _ (new_two _ _ _) rfl) rfl ⟨rfl, bnew2 _ _ _⟩
theorem rfail_new (A : Option Addr) (n cap : Nat) (p f : Int) (x y : Int) (hx : x ≠ 0) (w : World) : Calls Try.prog 24 #[rdV A n cap p 0 f, .int .i64 x, .int .i64 y] w (Told (rdV A n cap p x y) w) := by
  have d : (x != 0) = true := by simpa using hx
  have d' : (x == 0) = false := by simpa using hx
  clear hx
  unfold rdV
  go_enter Try.func24, Try.ntmps24
  go_wp2_with fail
  exact bodyPost_ret (results_rd1 rfl _ (new_two _ _ _) rfl) rfl ⟨rfl, bnew2 _ _ _⟩
theorem rend_ok (A : Option Addr) (n cap p : Nat) (f : Int) (hp : p = n) (w : World) : Calls Try.prog 27 #[rdV A n cap (p : Nat) 0 f] w (Told (.tuple #[.int .i64 0, .int .i64 f]) w) := by
  subst hp
  unfold rdV
  go_enter Try.func27, Try.ntmps27
  go_wp2_with fail
  go_quiet (fail)
  go_wp2_with fail
  go_ret2
  exact ⟨rfl, bdrawn (bnew _ _) _⟩
theorem rend_bad (A : Option Addr) (n cap : Nat) (p e f : Int) (he : e ≠ 0) (w : World) : Calls Try.prog 27 #[rdV A n cap p e f] w (Told (.tuple #[.int .i64 e, .int .i64 f]) w) := by
  have d : (e == 0) = false := by simpa using he
  clear he
  unfold rdV
  go_enter Try.func27, Try.ntmps27
  go_wp2_with fail
  go_quiet (fail)
  go_wp2_with fail
  go_ret2
  exact ⟨rfl, bdrawn (bnew _ _) _⟩
/-- Two bytes as a number. -/
theorem rvalue_0 (A : Option Addr) (c : Nat) (w : World) : Calls Try.prog 41 #[.slice A 0 c] w fun e w' => e = .returned (.int .i64 0) ∧ w = w' := by
  go_enter Try.func41, Try.ntmps41
  go_wp2_with fail
  refine wp_loop_rounds 1 ?_
  rw [rounds_succ]
  go_wp2_with fail
  go_ret
  exact ⟨rfl, rfl⟩
theorem rvalue_2 (F : Nat → Prop) (A : Option Addr) (c : Nat) (l : List Int) (w : World) (h : BAt8 F w A 2 c l) (V : Int) (hV : leV l = V) : Calls Try.prog 41 #[.slice A 2 c] w fun e w' => e = .returned (.int .i64 V) ∧ w = w' := by
  have hl := h.len
  rcases l with _ | ⟨x0, _ | ⟨x1, _ | ⟨x2, l⟩⟩⟩
  · simp at hl
  · simp at hl
  · obtain ⟨b, o, rfl, _, hbl, hc⟩ := h.lies (by omega)
    have hf := h.fit
    have hm := h.max
    unfold maxLen at hm
    have c0 : w.cell? ⟨b, o + 0, none⟩ = some (.int .u8 x0) := hc 0 (by omega)
    have hb0 : 0 ≤ x0 ∧ x0 ≤ 255 := h.bd 0
    obtain ⟨p0, q0⟩ := hb0
    have c1 : w.cell? ⟨b, o + 1, none⟩ = some (.int .u8 x1) := hc 1 (by omega)
    have hb1 : 0 ≤ x1 ∧ x1 ≤ 255 := h.bd 1
    obtain ⟨p1, q1⟩ := hb1
    rw [Nat.add_zero] at c0
    have HV := Lib.hid (show x0 + 256 * x1 = V by rw [← hV]; simp only [leV]; omega)
    clear hc h hV
    go_enter Try.func41, Try.ntmps41
    go_wp2_with fail
    refine wp_loop_rounds 3 ?_
    rw [rounds_succ]
    go_wp2_with fail
    rw [rounds_succ]
    go_wp2_with fail
    rw [rounds_succ]
    go_wp2_with fail
    go_ret
    exact ⟨by rw [HV.out]; rfl, rfl⟩
  · simp at hl
/-- A reader's block. -/
theorem RdCells.all {w : World} {g : Nat} {A : Option Addr} {n cap : Nat} {p e f : Int} (h : RdCells w g A n cap p e f) : (w.cell? ⟨g, 0, none⟩ = some (.slice A n cap) ∧ w.cell? ⟨g, 1, none⟩ = some (.int .i64 p) ∧ w.cell? ⟨g, 2, none⟩ = some (.int .i64 e) ∧ w.cell? ⟨g, 3, none⟩ = some (.int .i64 f)) ∧ (w.frozen? ⟨g, 0, none⟩ = false ∧ w.frozen? ⟨g, 1, none⟩ = false ∧ w.frozen? ⟨g, 2, none⟩ = false ∧ w.frozen? ⟨g, 3, none⟩ = false) :=
  ⟨⟨cell_of_row w g 0 _ _ (0, 0) h, cell_of_row w g 1 _ _ (0, 0) h, cell_of_row w g 2 _ _ (0, 0) h, cell_of_row w g 3 _ _ (0, 0) h⟩, frozen_of_row w g 0 _ _ h, frozen_of_row w g 1 _ _ h, frozen_of_row w g 2 _ _ h, frozen_of_row w g 3 _ _ h⟩
/-- It is written whole. -/
def rdPut (w : World) (g : Nat) (A : Option Addr) (n cap : Nat) (p e f : Int) : World := (((w.setCell ⟨g, 0, none⟩ (.slice A n cap)).setCell ⟨g, 1, none⟩ (.int .i64 p)).setCell ⟨g, 2, none⟩ (.int .i64 e)).setCell ⟨g, 3, none⟩ (.int .i64 f)
theorem RdCells.put {w : World} {g : Nat} {A : Option Addr} {n cap : Nat} {p e f : Int} (h : RdCells w g A n cap p e f) (A' : Option Addr) (n' cap' : Nat) (p' e' f' : Int) : RdCells (rdPut w g A' n' cap' p' e' f') g A' n' cap' p' e' f' := by
  have h1 := heap_setCell_same w g 0 _ _ (.slice A' n' cap') h
  have h2 := heap_setCell_same _ g 1 _ _ (.int .i64 p') h1
  have h3 := heap_setCell_same _ g 2 _ _ (.int .i64 e') h2
  exact heap_setCell_same _ g 3 _ _ (.int .i64 f') h3
theorem rdPut_size (w : World) (g : Nat) (A : Option Addr) (n cap : Nat) (p e f : Int) : (rdPut w g A n cap p e f).heap.size = w.heap.size := by simp [rdPut, World.setCell]
theorem rdPut_below {B : Nat} {w w' : World} (h : Below B w w') (g : Nat) (hg : B ≤ g) (A : Option Addr) (n cap : Nat) (p e f : Int) : Below B w (rdPut w' g A n cap p e f) := (((h.setCell hg _).setCell hg _).setCell hg _).setCell hg _
theorem rdPut_ch (w : World) (g : Nat) (A : Option Addr) (n cap : Nat) (p e f : Int) : Ch (fun k => k = g) w (rdPut w g A n cap p e f) :=
  (((Ch.set (F := fun k => k = g) w g 0 (.slice A n cap) rfl).then (Ch.set _ g 1 (.int .i64 p) rfl)).then (Ch.set _ g 2 (.int .i64 e) rfl)).then (Ch.set _ g 3 (.int .i64 f) rfl)
def rGot (v : Value) (F : Nat → Prop) (m : Nat) (b : List Int) (w : World) (x : Ending) (w' : World) : Prop := ∃ A c, x = .returned (.tuple #[v, .slice A m c]) ∧ BAt8 F w' A m c b ∧ Below w.heap.size w w'
set_option maxHeartbeats 1000000 in
theorem rtake_bad (F : Nat → Prop) (A : Option Addr) (n cap : Nat) (p e f : Int) (he : e ≠ 0) (m : Int) (hm : 0 ≤ m) (w : World) : Calls Try.prog 26 #[rdV A n cap p e f, .int .i64 m] w (rGot (rdV A n cap p e f) F 0 [] w) := by
  have d0 : decide (m < 0) = false := decide_eq_false (by omega)
  have d : (e != 0) = true := by simpa using he
  have HK := Lib.hid (rfail_old A n cap p e f he 2 p)
  have HZ : Hid (RdCells ((w.alloc (.cells #[.slice A n cap, .int .i64 p, .int .i64 e, .int .i64 f] 62)).alloc (.cells #[.slice none 0 0, .int .i64 0, .int .i64 0, .int .i64 0] 62)) (w.heap.size + 1) none 0 0 0 0 0) := Lib.hid (new_two _ _ _)
  have HB := Lib.hid (bnew2 w (.cells #[.slice A n cap, .int .i64 p, .int .i64 e, .int .i64 f] 62) (.cells #[.slice none 0 0, .int .i64 0, .int .i64 0, .int .i64 0] 62))
  clear he hm
  unfold rdV at HK ⊢
  go_enter Try.func26, Try.ntmps26
  go_wp2_with fail
  refine (HK.out _).mono ?_
  rintro x w1 ⟨rfl, hb⟩
  have hr := HZ.out.below hb
  have HP := Lib.hid (hr.put A n cap p e f)
  have HD := Lib.hid (rdPut_below (HB.out.trans (hb.mono HB.out.size)) (w.heap.size + 1) (by omega) A n cap p e f)
  obtain ⟨⟨c0, c1, c2, c3⟩, f0, f1, f2, f3⟩ := hr.all
  clear hr hb HZ HB HK
  go_wp2_with fail
  exact bodyPost_ret (results_rd2 rfl _ HP.out rfl _ rfl) rfl ⟨none, 0, rfl, BAt8.empty _ _, HD.out⟩
set_option maxHeartbeats 1000000 in
theorem rtake_no (F : Nat → Prop) (A : Option Addr) (n cap p : Nat) (f : Int) (hp : p ≤ n) (hn : n ≤ 2000000) (hc : cap ≤ maxLen) (hnc : n ≤ cap) (m : Int) (hm : ((n - p : Nat) : Int) < m) (w : World) : Calls Try.prog 26 #[rdV A n cap (p : Nat) 0 f, .int .i64 m] w (rGot (rdV A n cap (p : Nat) 2 (p : Nat)) F 0 [] w) := by
  have d0 : decide (m < 0) = false := decide_eq_false (by omega)
  obtain ⟨D, hD⟩ : ∃ D, n - p = D := ⟨_, rfl⟩
  rw [hD] at hm
  have d : decide ((D : Int) < m) = true := decide_eq_true hm
  have HL := Lib.hid (rleft_any A n cap p f hp hn hc hnc D hD)
  have HK := Lib.hid (rfail_new A n cap (p : Nat) f 2 (p : Nat) (by decide))
  have HZ : Hid (RdCells ((w.alloc (.cells #[.slice A n cap, .int .i64 (p : Nat), .int .i64 0, .int .i64 f] 62)).alloc (.cells #[.slice none 0 0, .int .i64 0, .int .i64 0, .int .i64 0] 62)) (w.heap.size + 1) none 0 0 0 0 0) := Lib.hid (new_two _ _ _)
  have HX : Hid (RdCells ((w.alloc (.cells #[.slice A n cap, .int .i64 (p : Nat), .int .i64 0, .int .i64 f] 62)).alloc (.cells #[.slice none 0 0, .int .i64 0, .int .i64 0, .int .i64 0] 62)) w.heap.size A n cap (p : Nat) 0 f) := Lib.hid (RdCells.below (w := w.alloc _) (heap_alloc_new w _) (bnew _ _))
  have HB := Lib.hid (bnew2 w (.cells #[.slice A n cap, .int .i64 (p : Nat), .int .i64 0, .int .i64 f] 62) (.cells #[.slice none 0 0, .int .i64 0, .int .i64 0, .int .i64 0] 62))
  clear hD hm hp
  unfold rdV at HK HL ⊢
  go_enter Try.func26, Try.ntmps26
  go_wp2_with fail
  refine (HL.out _).mono ?_
  rintro x w1 ⟨rfl, hb⟩
  have hr := HX.out.below hb
  have HZ1 := Lib.hid (HZ.out.below hb)
  have HB1 := Lib.hid (HB.out.trans (hb.mono HB.out.size))
  obtain ⟨⟨c0, c1, c2, c3⟩, f0, f1, f2, f3⟩ := hr.all
  clear hr hb HZ HB HX
  go_wp2_with fail
  refine (HK.out _).mono ?_
  rintro x w2 ⟨rfl, hb⟩
  clear c0 c1 c2 c3 f0 f1 f2 f3
  have hr := HZ1.out.below hb
  have HP := Lib.hid (hr.put A n cap (p : Nat) 2 (p : Nat))
  have HD := Lib.hid (rdPut_below (HB1.out.trans (hb.mono HB1.out.size)) (w.heap.size + 1) (by omega) A n cap (p : Nat) 2 (p : Nat))
  obtain ⟨⟨c0, c1, c2, c3⟩, f0, f1, f2, f3⟩ := hr.all
  clear hr hb HZ1 HB1 HK
  go_wp2_with fail
  exact bodyPost_ret (results_rd2 rfl _ HP.out rfl _ rfl) rfl ⟨none, 0, rfl, BAt8.empty _ _, HD.out⟩
set_option maxHeartbeats 1000000 in
theorem rtake_yes (F : Nat → Prop) (A : Option Addr) (n cap p : Nat) (f : Int) (l : List Int) (w : World) (hB : BAt8 F w A n cap l) (hp : p ≤ n) (hn : n ≤ 2000000) (m : Nat) (hm : p + m ≤ n) : Calls Try.prog 26 #[rdV A n cap (p : Nat) 0 f, .int .i64 (m : Nat)] w (rGot (rdV A n cap ((p + m : Nat) : Int) 0 f) F m ((l.drop p).take m) w) := by
  have hc := hB.max
  have hnc := hB.fit
  have hB0 := hB.weak (G := fun k => F k ∧ k < w.heap.size) fun k hk h => ⟨h, hk⟩
  obtain ⟨D, hD⟩ : ∃ D, n - p = D := ⟨_, rfl⟩
  have d : decide ((D : Int) < (m : Int)) = false := decide_eq_false (by omega)
  have d' : decide (D < m) = false := decide_eq_false (by omega)
  have d0 : decide ((m : Int) < 0) = false := decide_eq_false (by omega)
  have HL := Lib.hid (rleft_any A n cap p f hp hn hc hnc D hD)
  have HZ : Hid (RdCells ((w.alloc (.cells #[.slice A n cap, .int .i64 (p : Nat), .int .i64 0, .int .i64 f] 62)).alloc (.cells #[.slice none 0 0, .int .i64 0, .int .i64 0, .int .i64 0] 62)) (w.heap.size + 1) none 0 0 0 0 0) := Lib.hid (new_two _ _ _)
  have HX : Hid (RdCells ((w.alloc (.cells #[.slice A n cap, .int .i64 (p : Nat), .int .i64 0, .int .i64 f] 62)).alloc (.cells #[.slice none 0 0, .int .i64 0, .int .i64 0, .int .i64 0] 62)) w.heap.size A n cap (p : Nat) 0 f) := Lib.hid (RdCells.below (w := w.alloc _) (heap_alloc_new w _) (bnew _ _))
  have HB := Lib.hid (bnew2 w (.cells #[.slice A n cap, .int .i64 (p : Nat), .int .i64 0, .int .i64 f] 62) (.cells #[.slice none 0 0, .int .i64 0, .int .i64 0, .int .i64 0] 62))
  obtain ⟨A', c', hcut, hB'⟩ := cut_lh hB0 (p : Nat) ((p + m : Nat) : Int) p (p + m) rfl rfl (by omega) (by omega)
  have e1 : p + m - p = m := by omega
  have e2 : (l.take (p + m)).drop p = (l.drop p).take m := by rw [List.drop_take, e1]
  rw [e1] at hcut hB'
  rw [e2] at hB'
  obtain ⟨P, hP⟩ : ∃ P, p + m = P := ⟨_, rfl⟩
  rw [hP] at hcut ⊢
  have HBB := Lib.hid hB'
  have hPi : (p : Int) + (m : Int) = (P : Int) := by omega
  have hPj : (P : Int) - (m : Int) = (p : Int) := by omega
  have hw : wrap64 ((p : Int) + m) = (P : Int) := by rw [IntWalk.wrap64_in _ (by omega)]; exact hPi
  have hw2 : wrap64 ((P : Int) - m) = (p : Int) := by rw [IntWalk.wrap64_in _ (by omega)]; exact hPj
  have hw3 : IntKind.i64.wrap ((P : Int) - m) = (p : Int) := by rw [IntKind.wrap_i64]; omega
  clear hD hP hB hB0 hB' e1 e2
  unfold rdV at HL ⊢
  go_enter Try.func26, Try.ntmps26
  go_wp2_with fail
  refine (HL.out _).mono ?_
  rintro x w1 ⟨rfl, hb⟩
  have hr := HX.out.below hb
  have HZ1 := Lib.hid (HZ.out.below hb)
  have HB1 := Lib.hid (HB.out.trans (hb.mono HB.out.size))
  obtain ⟨⟨c0, c1, c2, c3⟩, f0, f1, f2, f3⟩ := hr.all
  have hs : RdCells (w1.setCell ⟨w.heap.size, 1, none⟩ (.int .i64 (P : Nat))) w.heap.size A n cap (P : Nat) 0 f := heap_setCell_same w1 w.heap.size 1 _ _ (.int .i64 (P : Nat)) hr
  have hC := Ch.set (F := fun k => k = w.heap.size) w1 w.heap.size 1 (.int .i64 (P : Nat)) rfl
  have hz : RdCells (w1.setCell ⟨w.heap.size, 1, none⟩ (.int .i64 (P : Nat))) (w.heap.size + 1) none 0 0 0 0 0 := (hC.block _ (Array.getElem?_eq_some_iff.1 HZ1.out).1 (by omega)).trans HZ1.out
  have HBS := Lib.hid (HBB.out.below ((HB1.out.trans (hC.below (fun k hk => by omega) HB1.out.size))))
  have HB2 := Lib.hid (HB1.out.trans (hC.below (B := w.heap.size) (fun k hk => by omega) HB1.out.size))
  clear hb HZ HB HX HB1 HZ1 hr hC
  go_wp2_with fail
  generalize w1.setCell ⟨w.heap.size, 1, none⟩ (.int .i64 (P : Nat)) = u0 at *
  clear c0 c1 c2 c3 f0 f1 f2 f3
  obtain ⟨⟨c0, c1, c2, c3⟩, f0, f1, f2, f3⟩ := hs.all
  obtain ⟨⟨z0, z1, z2, z3⟩, y0, y1, y2, y3⟩ := hz.all
  have HP := Lib.hid (hz.put A n cap (P : Nat) 0 f)
  have HD := Lib.hid (rdPut_below HB2.out (w.heap.size + 1) (by omega) A n cap (P : Nat) 0 f)
  have hlt : w.heap.size < w.heap.size + 1 := by omega
  clear hs hz
  go_region
  go_wp2_with fail
  exact bodyPost_ret (results_rd2 rfl _ (HP.out.below (Below.refl _ _).drew) rfl _ rfl) rfl ⟨A', c', rfl, ((HBS.out.ch (rdPut_ch _ _ _ _ _ _ _ _) fun k hk => by omega).weak fun k _ hk => hk.1).below (Below.refl _ _).drew, HD.out.drew⟩
/-- A number of two bytes. -/
theorem rnumber_of (F : Nat → Prop) (A : Option Addr) (n cap : Nat) (p e f : Int) (l : List Int) (w : World) (hB : BAt8 F w A n cap l) (p' e' f' : Int) (m : Nat) (b : List Int) (V : Int)
    (hK : ∀ (G : Nat → Prop) (u : World), BAt8 G u A n cap l → Calls Try.prog 26 #[rdV A n cap p e f, .int .i64 2] u (rGot (rdV A n cap p' e' f') G m b u))
    (hV : ∀ (G : Nat → Prop) (u : World) (A1 : Option Addr) (c1 : Nat), BAt8 G u A1 m c1 b → Calls Try.prog 41 #[.slice A1 m c1] u fun x w' => x = .returned (.int .i64 V) ∧ u = w') :
    Calls Try.prog 25 #[rdV A n cap p e f, .int .i64 2] w (Told (.tuple #[rdV A n cap p' e' f', .int .i64 V]) w) := by
  have hB0 := hB.weak (G := fun k => F k ∧ k < w.heap.size) fun k hk h => ⟨h, hk⟩
  have HZ : Hid (RdCells ((w.alloc (.cells #[.slice A n cap, .int .i64 p, .int .i64 e, .int .i64 f] 62)).alloc (.cells #[.slice none 0 0, .int .i64 0, .int .i64 0, .int .i64 0] 62)) (w.heap.size + 1) none 0 0 0 0 0) := Lib.hid (new_two _ _ _)
  have HX : Hid (RdCells ((w.alloc (.cells #[.slice A n cap, .int .i64 p, .int .i64 e, .int .i64 f] 62)).alloc (.cells #[.slice none 0 0, .int .i64 0, .int .i64 0, .int .i64 0] 62)) w.heap.size A n cap p e f) := Lib.hid (RdCells.below (w := w.alloc _) (heap_alloc_new w _) (bnew _ _))
  have HB := Lib.hid (bnew2 w (.cells #[.slice A n cap, .int .i64 p, .int .i64 e, .int .i64 f] 62) (.cells #[.slice none 0 0, .int .i64 0, .int .i64 0, .int .i64 0] 62))
  have HK := Lib.hid (hK _ _ (hB0.below HB.out))
  have HV0 := Lib.hid hV
  clear hB hB0 hK hV
  unfold rdV at HK ⊢
  go_enter Try.func25, Try.ntmps25
  go_wp2_with fail
  refine HK.out.mono ?_
  rintro x w1 ⟨A1, c1, rfl, hB1, hb⟩
  have hr := HX.out.below hb
  have hz := HZ.out.below hb
  have hs := hr.put A n cap p' e' f'
  have hC := rdPut_ch w1 w.heap.size A n cap p' e' f'
  have HB1 := HB.out.trans (hb.mono HB.out.size)
  have HB2 := Lib.hid (rdPut_below HB1 w.heap.size (Nat.le_refl _) A n cap p' e' f')
  have HB3 := Lib.hid (hB1.ch hC fun k hk => by omega)
  have hzz : RdCells (rdPut w1 w.heap.size A n cap p' e' f') (w.heap.size + 1) none 0 0 0 0 0 := (hC.block _ (Array.getElem?_eq_some_iff.1 hz).1 (by omega)).trans hz
  obtain ⟨⟨a0, a1, a2, a3⟩, b0, b1, b2, b3⟩ := hr.all
  clear hr hz HK HZ HX HB HB1 hb hB1 hC
  go_wp2_with fail
  obtain ⟨u0, hu⟩ : ∃ u0, rdPut w1 w.heap.size A n cap p' e' f' = u0 := ⟨_, rfl⟩
  rw [hu] at hs HB2 HB3 hzz
  unfold rdPut at hu
  rw [hu]
  clear hu a0 a1 a2 a3 b0 b1 b2 b3
  obtain ⟨⟨a0, a1, a2, a3⟩, b0, b1, b2, b3⟩ := hs.all
  obtain ⟨⟨z0, z1, z2, z3⟩, y0, y1, y2, y3⟩ := hzz.all
  have HP := Lib.hid (hzz.put A n cap p' e' f')
  have HD := Lib.hid (rdPut_below HB2.out (w.heap.size + 1) (by omega) A n cap p' e' f')
  have HV := Lib.hid (HV0.out _ _ A1 c1 (HB3.out.below (Below.refl _ _).drew))
  clear hs hzz HV0
  go_region_with (go_at_call 41; refine HV.out.mono ?_; rintro x w3 ⟨rfl, rfl⟩)
  all_goals
    go_wp2_with fail
    exact bodyPost_ret (results_rd2 rfl _ (HP.out.below (Below.refl _ _).drew) rfl _ rfl) rfl ⟨rfl, HD.out.drew⟩
theorem rnumber_no (F : Nat → Prop) (A : Option Addr) (n cap p : Nat) (f : Int) (l : List Int) (w : World) (hB : BAt8 F w A n cap l) (hp : p ≤ n) (hn : n ≤ 2000000) (hm : n < p + 2) : Calls Try.prog 25 #[rdV A n cap (p : Nat) 0 f, .int .i64 2] w (Told (.tuple #[rdV A n cap (p : Nat) 2 (p : Nat), .int .i64 0]) w) :=
  rnumber_of F A n cap p 0 f l w hB p 2 p 0 [] 0 (fun G u h => rtake_no G A n cap p f hp hn h.max h.fit 2 (by omega) u) (fun G u A1 c1 _ => rvalue_0 A1 c1 u)
theorem rnumber_yes (F : Nat → Prop) (A : Option Addr) (n cap p : Nat) (f : Int) (l : List Int) (w : World) (hB : BAt8 F w A n cap l) (hn : n ≤ 2000000) (hm : p + 2 ≤ n) (V : Int) (hV : leV ((l.drop p).take 2) = V) : Calls Try.prog 25 #[rdV A n cap (p : Nat) 0 f, .int .i64 2] w (Told (.tuple #[rdV A n cap ((p + 2 : Nat) : Int) 0 f, .int .i64 V]) w) :=
  rnumber_of F A n cap p 0 f l w hB _ 0 f 2 _ V (fun G u h => rtake_yes G A n cap p f l u h (by omega) hn 2 hm) (fun G u A1 c1 h => rvalue_2 G A1 c1 _ u h V hV)
theorem rnumber_bad (F : Nat → Prop) (A : Option Addr) (n cap : Nat) (p e f : Int) (he : e ≠ 0) (l : List Int) (w : World) (hB : BAt8 F w A n cap l) : Calls Try.prog 25 #[rdV A n cap p e f, .int .i64 2] w (Told (.tuple #[rdV A n cap p e f, .int .i64 0]) w) :=
  rnumber_of F A n cap p e f l w hB p e f 0 [] 0 (fun G u _ => rtake_bad G A n cap p e f he 2 (by decide) u) (fun G u A1 c1 _ => rvalue_0 A1 c1 u)

end Go.Proofs.Ytcodbcfdbkmegaa
