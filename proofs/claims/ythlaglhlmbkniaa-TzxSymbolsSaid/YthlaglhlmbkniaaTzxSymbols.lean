/- TzxSymbols: two numbers by value as an argument; the law's walk. -/
import Derived.Test.YthlaglhlmbkniaaTzxLives
import Derived.Test.YthlaglhlmbkniaaTzxSym
import Derived.Test.YthlaglhlmbkniaaTzxRSym
import Derived.ProofKit
import Derived.OpenShut
import Derived.ChangeArms
import Derived.ChangeSame
import Derived.ChangeOld
namespace Go.Proofs.Ythlaglhlmbkniaa
open Go.ChangeShapes Go.WideShapes Go.RowKit Go.Deep
set_option linter.unusedVariables false
set_option linter.unusedSimpArgs false
set_option maxRecDepth 100000

def PairV (w : World) (v : Value) (l : Int × Int) : Prop := v = .agg #[.int .i64 l.1, .int .i64 l.2]
theorem open_pair {H : Type} {enc : TypeId × Value → H} {w : World} {base b0 : Nat} {spare : Nat → Bool} {held : Bool} {r : Reach} {v : Value} {d : DataW H} {p : List MemPlace}
    (hv : Value.okWide Try.prog w r b0 37 v) (h : DataW.Trod enc Try.prog w base spare held 37 v d p) : ∃ l : Int × Int, PairV w v l := by
  have hc2 : Try.prog.cellsOf 37 = 2 := by kernel_rfl
  have hc1 : Try.prog.cellsOf 3 = 1 := by kernel_rfl
  obtain ⟨cs, rfl, hsz⟩ : ∃ cs, v = .agg cs ∧ cs.size = Try.prog.cellsOf 37 := by
    simp only [Value.okWide, Try.underlying37] at hv
    obtain ⟨cs, h1, h2, _⟩ := hv
    exact ⟨cs, h1, h2⟩
  obtain ⟨fuel, hf⟩ := h
  obtain ⟨xs, m, _, hx, hl, hlen, hat⟩ := DataW.trod_array Try.underlying37 hf
  have hcs : (Value.agg cs).cells = cs := rfl
  rw [hcs] at hat hl
  rw [hc2] at hl
  rw [hc1] at hat
  obtain ⟨l⟩ := cs
  match l, hl, xs, hlen, hat, hx with
  | [c0, c1], _, [y0, y1], _, hat, hx =>
    have h0 := hat 0 (by decide)
    have h1 := hat 1 (by decide)
    simp only [Nat.zero_mul, List.drop_zero, List.take_succ_cons, List.take_zero, List.getElem?_cons_zero, Nat.one_mul, List.drop_succ_cons, List.getElem?_cons_succ] at h0 h1
    obtain ⟨a, a1, a2, a3⟩ := DataW.trod_int Try.underlying3 h0
    obtain ⟨b, b1, b2, b3⟩ := DataW.trod_int Try.underlying3 h1
    obtain rfl : c0 = .int .i64 a := by simpa using a1
    obtain rfl : c1 = .int .i64 b := by simpa using b1
    exact ⟨(a, b), rfl⟩
theorem SymV.pair {l : List Int} {k i : Int} {x y : Ending} (h : SymV l k i x) (h' : SymV l k i y) : ∃ (v : Nat) (q : Bool), x = .returned (.tuple #[.int .i64 (v : Nat), .bool q]) ∧ y = x := by
  rcases h with ⟨h1, rfl⟩ | ⟨h1, rfl⟩
  · rcases h' with ⟨h2, rfl⟩ | ⟨h2, rfl⟩
    · exact ⟨_, true, rfl, rfl⟩
    · exact absurd h1 h2
  · rcases h' with ⟨h2, rfl⟩ | ⟨h2, rfl⟩
    · exact absurd h2 h1
    · exact ⟨0, false, rfl, rfl⟩
theorem SymV.form {l : List Int} {k i : Int} {x : Ending} (h : SymV l k i x) : ∃ (v : Nat) (q : Bool), x = .returned (.tuple #[.int .i64 (v : Nat), .bool q]) := by
  rcases h with ⟨h1, rfl⟩ | ⟨h1, rfl⟩
  · exact ⟨_, true, rfl⟩
  · exact ⟨0, false, rfl⟩
set_option maxHeartbeats 3200000 in
theorem symbols_walk (v0 : Value) (l : List Int) (v1 : Value) (ki : Int × Int) (many : Int) (hm : (Lit.int .i64 many).wf = true) (w : World) (h0 : BytesV w v0 l) (h1 : PairV w v1 ki) : Calls Try.prog 4 #[v0, v1, .int .i64 many] w fun e w' => e = .returned (.bool true) ∧ Below w.heap.size w w' := by
  obtain ⟨A, n, cap, rfl, hB⟩ := h0
  obtain ⟨k, i⟩ := ki
  obtain rfl : v1 = .agg #[.int .i64 k, .int .i64 i] := h1
  have hf := hB.fit
  have hmx := hB.max
  unfold maxLen at hmx
  have HL := Lib.hid lives19
  have hb0 : Below w.heap.size w (w.alloc (.cells #[.int .i64 k, .int .i64 i] 37)) := bnew w _
  have HB0 := Lib.hid hb0
  have hbig : (1000 < n ∨ ¬ 1000 < n ∧ 1000000 < many) ∨ (n ≤ 1000 ∧ many ≤ 1000000) := by omega
  rcases hbig with hbig | ⟨hn, hmany⟩
  · have hd : ∃ q : Bool, decide ((1000 : Int) < (n : Int)) = q ∧ decide (1000 < n) = q ∧ (q = false → decide (1000000 < many) = true) := by
      rcases hbig with x | ⟨x, y⟩
      · exact ⟨true, decide_eq_true (by omega), decide_eq_true x, fun z => by cases z⟩
      · exact ⟨false, decide_eq_false (by omega), decide_eq_false x, fun _ => decide_eq_true y⟩
    obtain ⟨q, d1, d2, d3'⟩ := hd
    have HD := Lib.hid d3'
    clear d3' hB hb0 hbig
    cases q
    · have d3 := HD.out rfl
      clear HD
      go_enter Try.func4, Try.ntmps4
      go_wp2_with fail
      refine (HL.out _).mono ?_
      rintro x w1 ⟨rfl, hb1⟩
      have HE := Lib.hid (HB0.out.trans (hb1.mono HB0.out.size))
      clear hb1
      go_wp2_with fail
      go_ret
      exact ⟨rfl, HE.out⟩
    · clear HD
      go_enter Try.func4, Try.ntmps4
      go_wp2_with fail
      refine (HL.out _).mono ?_
      rintro x w1 ⟨rfl, hb1⟩
      have HE := Lib.hid (HB0.out.trans (hb1.mono HB0.out.size))
      clear hb1
      go_wp2_with fail
      go_ret
      exact ⟨rfl, HE.out⟩
  · have d1 : decide ((1000 : Int) < (n : Int)) = false := decide_eq_false (by omega)
    have d2 : decide (1000 < n) = false := decide_eq_false (by omega)
    have d3 : decide (1000000 < many) = false := decide_eq_false (by omega)
    have HS := Lib.hid (fun u (hu : Below w.heap.size w u) => symbol_any _ u A n cap l (hB.below hu) (by omega) k i)
    have HR := Lib.hid (fun u (hu : Below w.heap.size w u) => rsymbol_any _ u A n cap l (hB.below hu) (by omega) k i)
    have HBi := Lib.hid (fun u => bits_any many hmany u)
    have HRb := Lib.hid (fun u => rbits_any many hmany u)
    have HMa := Lib.hid (fun u => many_any many u)
    have HRm := Lib.hid (fun u => rmany_any many u)
    obtain ⟨mm, hmm⟩ : ∃ mm, (if many = 0 then 256 else many) = mm := ⟨_, rfl⟩
    rw [hmm] at HMa HRm
    have c0 : (w.alloc (.cells #[.int .i64 k, .int .i64 i] 37)).cell? ⟨w.heap.size, 0, none⟩ = some (.int .i64 k) := cell_of_row _ _ 0 _ _ (0, 0) (heap_alloc_new w _)
    have c1 : (w.alloc (.cells #[.int .i64 k, .int .i64 i] 37)).cell? ⟨w.heap.size, 1, none⟩ = some (.int .i64 i) := cell_of_row _ _ 1 _ _ (0, 0) (heap_alloc_new w _)
    have HC : Hid (∀ m : Nat, ((w.alloc (.cells #[.int .i64 k, .int .i64 i] 37)).drewN m).cell? ⟨w.heap.size, 0, none⟩ = some (.int .i64 k) ∧ ((w.alloc (.cells #[.int .i64 k, .int .i64 i] 37)).drewN m).cell? ⟨w.heap.size, 1, none⟩ = some (.int .i64 i)) := Lib.hid fun m => ⟨c0, c1⟩
    clear hB hb0 hmm
    go_enter Try.func4, Try.ntmps4
    go_wp2_with fail
    refine (HS.out _ HB0.out).mono ?_
    rintro x w1 ⟨hv, m, rfl⟩
    obtain ⟨v, q, rfl⟩ := hv.form
    have HV := Lib.hid hv
    obtain ⟨c0', c1'⟩ := HC.out m
    have HB1 := Lib.hid (bdrawn HB0.out m)
    clear hv c0 c1 HC
    generalize (w.alloc (.cells #[.int .i64 k, .int .i64 i] 37)).drewN m = w1 at *
    go_wp2_with fail
    refine (HR.out _ HB1.out).mono ?_
    rintro x w2 ⟨hv2, m2, rfl⟩
    obtain ⟨v', q', e1, rfl⟩ := HV.out.pair hv2
    injection e1 with e1
    have HB2 := Lib.hid (bdrawn HB1.out m2)
    clear hv2 e1
    generalize w1.drewN m2 = w2 at *
    go_wp2_with fail
    refine (HBi.out _).mono ?_
    rintro x w' ⟨b, rfl, hl1, hb20, rfl⟩
    have HL1 := Lib.hid hl1
    clear hl1
    go_wp2_with fail
    refine (HRb.out _).mono ?_
    rintro x w' ⟨b', rfl, hl2, rfl⟩
    obtain rfl : b = b' := HL1.out.one hl2
    clear hl2
    go_wp2_with fail
    refine (HMa.out _).mono ?_
    rintro x w' ⟨rfl, rfl⟩
    go_wp2_with fail
    refine (HRm.out _).mono ?_
    rintro x w' ⟨rfl, rfl⟩
    go_wp2_with fail
    refine (HL.out _).mono ?_
    rintro x w3 ⟨rfl, hb3⟩
    have HE := Lib.hid (HB2.out.trans (hb3.mono HB2.out.size))
    clear hb3
    go_wp2_with fail
    go_ret
    exact ⟨rfl, HE.out⟩

end Go.Proofs.Ythlaglhlmbkniaa
