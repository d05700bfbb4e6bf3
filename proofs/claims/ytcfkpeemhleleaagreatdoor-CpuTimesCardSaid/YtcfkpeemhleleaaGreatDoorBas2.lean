/- Texts put together: HeldTail, CpuFlat, CpuTick, CpuStart, FlagHas, FlagRef, WideWalk, WideSum, WideAdd, FlagWalk, FlagRefEven, FlagCond, CpuRegs, CpuBytes, AluWalk, AluAdd, FlagOfP, AluMore, AluDaa, FlagHeld, AluRef, AluRefMore, AluScf, AluRefDaa, AluJoin, AluDo, TurnWalk, TurnMore, CpuWorkA, BulkWalk, BulkMore, BulkOn, CpuWorkB, CpuWorkC. -/
import Derived.StillTail
import Derived.Deep.RegionHeld3
import Derived.Test.YtcfkpeemhleleaaGreatDoorBas1
import Derived.Deep.RegionLaw
import Derived.Deep.AppendLies
import Derived.Test.YtcfkpeemhleleaaGreatDoorRows
import Derived.WalkKit
import Derived.WalkSpells
import Derived.WalkLawsBesides
import Derived.Lib.Hide
import Derived.StillTailTactics
/- A region that draws its order, whose last operations come in one forced order behind all others, and may write what the others read. No program is named here. -/
namespace Go.Proofs.YtcfkpeemhleleaaGreatDoor
open Go


variable {P : Program} {ops : Array Oper} {Q : Exit → Act → World → Prop} {md : Region.Mode} {S : World → Prop} {n : Nat}

/-- Whatever order is picked from here on, and S holds behind every operation ahead of number n. -/
def wpAnyT (P : Program) (md : Region.Mode) (ops : Array Oper) (n : Nat) (Q : Exit → Act → World → Prop) (S : World → Prop) : Nat → Array Bool → Act → World → Prop
  | 0, listed, a, w => Region.ready md ops listed = [] ∧ Q .normal a w
  | fuel + 1, listed, a, w =>
    (Region.ready md ops listed = [] → Q .normal a w) ∧
    ∀ i ∈ Region.ready md ops listed, wpOp P ops Q i (fun a' w' => (i < n → S w') ∧ wpAnyT P md ops n Q S fuel (listed.setIfInBounds i true) a' w') a w
theorem wpAny_of_T : ∀ (fuel : Nat) (listed : Array Bool) (a : Act) (w : World), wpAnyT P md ops n Q S fuel listed a w → wpAny P md ops Q fuel listed a w
  | 0, _, _, _, h => h
  | fuel + 1, _, _, _, h => ⟨h.1, fun i hi => wpOp_mono (fun a' w' h' => wpAny_of_T fuel _ a' w' h'.2) (h.2 i hi)⟩

/-- Number n waits for all ahead of it, and each behind it for the one ahead. -/
def tailB (md : Region.Mode) (ops : Array Oper) (n : Nat) : Bool := decide (n < ops.size) && Region.sinkB md ops n && Region.chainB md ops n

theorem wpAnyT_first (hT : tailB md ops n = true) {i : Nat} {oi : Oper} {v : Value} (hi : ops[i]? = some oi) (hin : i < n) (hsel : ∀ (j : Nat) (o : Oper) cs b, ops[j]? = some o → o.op ≠ .select cs b)
    (hQ : ∀ c a w, Q (.panic c) (a.put oi.dst v) w → Q (.panic c) a w) :
    ∀ (fuel : Nat) (listed : Array Bool) (a : Act) (w : World), HeadInv md ops n listed →
      (∀ j oj, ops[j]? = some oj → j ≠ i → listed.getD j true = false → (∀ e ∈ oj.after, Region.binds md e = true → e.on ≠ i) → oi.apart ops oj = true) →
      i ∈ Region.ready md ops listed → YieldsIf P ops S oi v a → S w →
      wpAnyT P md ops n Q S fuel (listed.setIfInBounds i true) (a.put oi.dst v) w → wpAnyT P md ops n Q S (fuel + 1) listed a w := by
  simp only [tailB, Bool.and_eq_true, decide_eq_true_eq] at hT
  obtain ⟨⟨hn, hs⟩, hc⟩ := hT
  intro fuel
  induction fuel with
  | zero =>
    intro listed a w _ _ hr hy hS H
    refine ⟨fun h => (by rw [h] at hr; cases hr), fun j hj => ?_⟩
    by_cases hji : j = i
    · subst hji; exact hy.wpOp hi hS ⟨fun _ => hS, H⟩
    · have := ready_mono hj hji
      rw [H.1] at this
      cases this
  | succ fuel ih =>
    intro listed a w inv hfree hr hy hS H
    have hun := (mem_ready.1 hr).1
    refine ⟨fun h => (by rw [h] at hr; cases hr), fun j hj => ?_⟩
    by_cases hji : j = i
    · subst hji; exact hy.wpOp hi hS ⟨fun _ => hS, H⟩
    · have hjn : j < n := by
        rcases Nat.lt_or_ge j n with h | h
        · exact h
        · exact absurd hj (tail_waits hs hc hn inv _ i rfl hin hun j h)
      have h1 := H.2 j (ready_mono hj hji)
      obtain ⟨hjun, oj, hoj, hall⟩ := mem_ready.1 hj
      have hnot : ∀ e ∈ oj.after, Region.binds md e = true → e.on ≠ i := fun e he hb heq => by
        have h1 := hall e he hb
        rw [heq, getD_both hun] at h1
        cases h1
      have h2 := wpOp_putIf hoj (hfree j oj hoj hji hjun hnot) (fun cs b => hsel i oi cs b hi) (fun cs b => hsel j oj cs b hoj) hQ hy h1
      have hfree' : ∀ k ok, ops[k]? = some ok → k ≠ i → (listed.setIfInBounds j true).getD k true = false →
          (∀ e ∈ ok.after, Region.binds md e = true → e.on ≠ i) → oi.apart ops ok = true := fun k ok hk hki hun hno => by
        refine hfree k ok hk hki ?_ hno
        by_cases hjk : j = k
        · subst hjk; exact hjun
        · rw [getD_set_ne true hjk] at hun; exact hun
      refine wpOp_mono (fun a' w' h3 => ⟨h3.2.1, ih (listed.setIfInBounds j true) a' w' (inv.set hj hjn) hfree' (ready_mono hr (Ne.symm hji)) h3.1 (h3.2.1 hjn) ?_⟩) h2
      rw [Array.setIfInBounds_comm _ _ hji]
      exact h3.2.2

/-- The same, where the operations that have come up are closed. -/
def wpAnyU (P : Program) (md : Region.Mode) (ops : Array Oper) (n : Nat) (Q : Exit → Act → World → Prop) (S : World → Prop) (fuel : Nat) (listed : Array Bool) (a : Act) (w : World) : Prop :=
  tailB md ops n = true → HeadInv md ops n listed → wpAnyT P md ops n Q S fuel listed a w
theorem wpAnyU_take {i : Nat} {oi : Oper} {v : Value} {fuel : Nat} {listed : Array Bool} {a : Act} {w : World} (hi : ops[i]? = some oi) (hin : decide (i < n) = true)
    (hs : Region.noSelect ops = true) (hf : Region.free md ops listed i = true) (hr : (Region.ready md ops listed).contains i = true)
    (hQ : ∀ c a w, Q (.panic c) (a.put oi.dst v) w → Q (.panic c) a w) (hy : YieldsIf P ops S oi v a) (hS : S w)
    (h : wpAnyU P md ops n Q S fuel (listed.setIfInBounds i true) (a.put oi.dst v) w) : wpAnyU P md ops n Q S (fuel + 1) listed a w := fun hT inv =>
  wpAnyT_first hT hi (of_decide_eq_true hin) (Region.noSelect_spec hs) hQ fuel listed a w inv (Region.free_spec hi hf) (by simpa using hr) hy hS
    (h hT (inv.set (by simpa using hr) (of_decide_eq_true hin)))
theorem wpAnyU_ready {i : Nat} {o : Oper} {fuel : Nat} {listed : Array Bool} {a : Act} {w : World} (hr : Region.ready md ops listed = [i]) (hin : decide (i < n) = true) (ho : ops[i]? = some o)
    (h : ∀ K' : Act → World → Prop, Shut (∀ a w, S w → (S w → wpAnyU P md ops n Q S fuel (listed.setIfInBounds i true) a w) → K' a w) → if Region.wanted o (yielded ops a.tmps) = true then Oper.wp P o a w K' Q else K' (a.put o.dst undef) w) :
    wpAnyU P md ops n Q S (fuel + 1) listed a w := fun hT inv => by
  have hi : i ∈ Region.ready md ops listed := by rw [hr]; simp
  have inv' := inv.set hi (of_decide_eq_true hin)
  refine ⟨fun h0 => (by rw [hr] at h0; cases h0), fun j hj => ?_⟩
  rw [hr] at hj
  obtain rfl : j = i := by simpa using hj
  exact wpOp_step ho (fun K' hK => h K' (fun a w hS hW => hK a w ⟨fun _ => hS, hW hS hT inv'⟩))
theorem wpAnyT_of_seq : ∀ (l : List Oper) (k : Nat) (listed : Array Bool) (a : Act) (w : World), n ≤ k → (∀ j, l[j]? = ops[k + j]?) →
    Region.seqB md ops l.length k listed = true → wpList P ops Q l a w → wpAnyT P md ops n Q S l.length listed a w
  | [], _, _, _, _, _, _, hB, h => ⟨by simpa [Region.seqB] using hB, h⟩
  | o :: l, k, listed, a, w, hk, hl, hB, h => by
    have h0 : ops[k]? = some o := by simpa using (hl 0).symm
    simp only [List.length_cons, Region.seqB, Bool.and_eq_true, decide_eq_true_eq] at hB
    refine ⟨fun h1 => (by rw [hB.1] at h1; cases h1), fun i hi => ?_⟩
    rw [hB.1] at hi
    have hik : i = k := by simpa using hi
    subst hik
    have hw : wpOp P ops Q i (wpList P ops Q l) a w := by unfold wpOp; simp only [h0]; exact h
    exact wpOp_mono (fun a' w' h' => ⟨fun hlt => by omega, wpAnyT_of_seq l (i + 1) _ a' w' (by omega) (fun j => by have := hl (j + 1); simpa [Nat.add_assoc, Nat.add_comm 1 j] using this) hB.2 h'⟩) hw
/-- What is left is the tail. -/
theorem wpAnyU_tail {L : List Oper} {g : Nat} {listed : Array Bool} {a : Act} {w : World} (hg : (L.drop n).length = g) (hB : Region.seqB md L.toArray g n listed = true) (h : wpList P L.toArray Q (L.drop n) a w) :
    wpAnyU P md L.toArray n Q S g listed a w := fun _ _ => by
  subst hg
  exact wpAnyT_of_seq (L.drop n) n listed a w (Nat.le_refl _) (fun j => by simp [List.getElem?_drop]) hB h
/-- The beginning. -/
theorem wp_region_U {id : Nat} {a : Act} {w : World} (hm : P.follows .mixedOrders = true) (hT : tailB .any ops n = true) (hS : S w.drew)
    (h : S w.drew → wpAnyU P .any ops n Q S ops.size (Array.replicate ops.size false) a w.drew) : (Code.region id ops true).wp P Q a w := by
  have hT' := hT
  simp only [tailB, Bool.and_eq_true, decide_eq_true_eq] at hT'
  refine wp_region_any hm (wpAny_of_T (S := S) (n := n) _ _ _ _ (h hS hT ⟨by simp, fun j oj _ hl => (by rw [getD_replicate_false] at hl; cases hl), fun t _ ht => getD_in (by simpa using ht) (getD_replicate_false _ _)⟩))
end Go.Proofs.YtcfkpeemhleleaaGreatDoor
namespace Go.Proofs.YtcfkpeemhleleaaGreatDoor
open Go

end Go.Proofs.YtcfkpeemhleleaaGreatDoor
/- The calls of the flat bus: their contracts; the bus as what an interface holds. -/
namespace Go.Proofs.YtcfkpeemhleleaaGreatDoor
open Go.RowKit
set_option maxRecDepth 100000

theorem infoPa : (Tryz.prog.info? 195).map (fun i => (i.zero, i.size, i.bytes)) = some (some (.agg #[.int .u64 0, .bool false, .int .u16 0, .int .u8 0]), 4, 16) := by kernel_rfl
/-- The bus in block f, as what an interface holds. -/
abbrev busV (f : Nat) : Value := .iface 31 (.pointer (some ⟨f, 0, none⟩))
theorem busN_Hold (n : Nat) (a : Addr) (w : World) : (nilAhead (n + 1) 31 (.pointer (some a)) "Hold").run Tryz.prog w = .ok (some false) w := by kernel_rfl
theorem busN_Read (n : Nat) (a : Addr) (w : World) : (nilAhead (n + 1) 31 (.pointer (some a)) "Read").run Tryz.prog w = .ok (some false) w := by kernel_rfl
theorem busN_Write (n : Nat) (a : Addr) (w : World) : (nilAhead (n + 1) 31 (.pointer (some a)) "Write").run Tryz.prog w = .ok (some false) w := by kernel_rfl
theorem busN_In (n : Nat) (a : Addr) (w : World) : (nilAhead (n + 1) 31 (.pointer (some a)) "In").run Tryz.prog w = .ok (some false) w := by kernel_rfl
theorem busN_Out (n : Nat) (a : Addr) (w : World) : (nilAhead (n + 1) 31 (.pointer (some a)) "Out").run Tryz.prog w = .ok (some false) w := by kernel_rfl
theorem busN_Int (n : Nat) (a : Addr) (w : World) : (nilAhead (n + 1) 31 (.pointer (some a)) "Int").run Tryz.prog w = .ok (some false) w := by kernel_rfl
theorem bus_Hold (n : Nat) (a : Addr) (w : World) : (method (n + 1) 31 (.pointer (some a)) "Hold").run Tryz.prog w = .ok (211, .pointer (some a)) w := by kernel_rfl
theorem bus_Read (n : Nat) (a : Addr) (w : World) : (method (n + 1) 31 (.pointer (some a)) "Read").run Tryz.prog w = .ok (215, .pointer (some a)) w := by kernel_rfl
theorem bus_Write (n : Nat) (a : Addr) (w : World) : (method (n + 1) 31 (.pointer (some a)) "Write").run Tryz.prog w = .ok (216, .pointer (some a)) w := by kernel_rfl
theorem bus_In (n : Nat) (a : Addr) (w : World) : (method (n + 1) 31 (.pointer (some a)) "In").run Tryz.prog w = .ok (212, .pointer (some a)) w := by kernel_rfl
theorem bus_Out (n : Nat) (a : Addr) (w : World) : (method (n + 1) 31 (.pointer (some a)) "Out").run Tryz.prog w = .ok (214, .pointer (some a)) w := by kernel_rfl
theorem bus_Int (n : Nat) (a : Addr) (w : World) : (method (n + 1) 31 (.pointer (some a)) "Int").run Tryz.prog w = .ok (213, .pointer (some a)) w := by kernel_rfl

variable {w0 : World} {b f base : Nat} {x : Cp} {v : Value} {y : Fl} {va : Value}

theorem flHold (f : Nat) (k a n : Int) (w : World) : Calls Tryz.prog 211 #[.pointer (some ⟨f, 0, none⟩), .int .i64 k, .int .u16 a, .int .i64 n] w fun e w' => e = .returned (.int .i64 0) ∧ w = w' := by
  go_enter Tryz.func211, Tryz.ntmps211
  go_wp2_with fail
  go_ret
  exact ⟨rfl, rfl⟩
theorem flInt (w : World) (h : Mc w0 w b f base x v y va) : Calls Tryz.prog 213 #[.pointer (some ⟨f, 0, none⟩)] w fun e w' => e = .returned (.bool y.line) ∧ w = w' := by
  have c : w.cell? ⟨f, 65539, none⟩ = some (.bool y.line) := h.fl.cell 65539 (by decide)
  clear h
  go_enter Tryz.func213, Tryz.ntmps213
  go_wp2_with fail
  go_ret
  exact ⟨rfl, rfl⟩
theorem flRead (a : Nat) (w : World) (h : Mc w0 w b f base x v y va) (ha : a < 65536) : Calls Tryz.prog 215 #[.pointer (some ⟨f, 0, none⟩), .int .u16 a] w fun e w' => e = .returned (.int .u8 (y.M a)) ∧ w = w' := by
  have c := h.mem a ha
  clear h
  go_enter Tryz.func215, Tryz.ntmps215
  go_wp2_with fail
  go_ret
  exact ⟨rfl, rfl⟩
def wrS (y : Fl) (a : Nat) (n : Int) : Fl := { y with M := updN y.M a n }
theorem flWrite (a : Nat) (n : Int) (w : World) (h : Mc w0 w b f base x v y va) (ha : a < 65536) : Calls Tryz.prog 216 #[.pointer (some ⟨f, 0, none⟩), .int .u16 a, .int .u8 n] w fun e w' => e = .returned (.tuple #[]) ∧ Mc w0 w' b f base x v (wrS y a n) va := by
  have HB := Lib.hid (show Mc w0 (w.setCell ⟨f, a, none⟩ (.int .u8 n)) b f base x v (wrS y a n) va from h.fset _ _ _ (fset_M y va a n ha) rfl)
  have c := h.mem a ha
  have fz : w.frozen? ⟨f, a, none⟩ = false := h.fl.frozen a
  clear h
  go_enter Tryz.func216, Tryz.ntmps216
  go_wp2_with fail
  go_end0
  exact ⟨rfl, HB.out⟩

def Grew (w u : World) (v : Value) : Prop := u.os = w.os ∧ u.tape = w.tape ∧ u.output = w.output ∧ w.heap.size ≤ u.heap.size ∧ ∀ k, k < w.heap.size → v.ownBlock ≠ some k → u.heap[k]? = w.heap[k]?
theorem Grew.of {w u : World} {v : Value} {o : Obj} {n : Nat} (h : ((w.alloc o).drewN n).grownBy u v.ownBlock) : Grew w u v := by
  have hz : ((w.alloc o).drewN n).heap.size = w.heap.size + 1 := by simp
  have hh : ∀ k : Nat, k < w.heap.size → ((w.alloc o).drewN n).heap[k]? = w.heap[k]? := fun k hk => (balloc w o).block k hk
  refine ⟨h.os, h.tape, h.output, ?_, fun k hk hne => ?_⟩
  · have := h.size
    omega
  · exact (h.block k (by omega) (fun e => hne e.symm)).trans (hh k hk)
/-- All older blocks but f and v's own are as they were. -/
structure Kf (f : Nat) (v : Value) (w w' : World) : Prop where
  size : w.heap.size ≤ w'.heap.size
  block : ∀ k, k < w.heap.size → k ≠ f → v.ownBlock ≠ some k → w'.heap[k]? = w.heap[k]?
theorem Grew.kf {w u : World} {v : Value} (h : Grew w u v) (f j : Nat) (x : Value) : Kf f v w (u.setCell ⟨f, j, none⟩ x) :=
  ⟨by simp only [World.setCell, Array.size_modify]; exact h.2.2.2.1, fun k hk hf hv => (Below.heap_setCell _ _ _ _ hf).trans (h.2.2.2.2 k hk hv)⟩
def actS (y : Fl) (out : Bool) (p n : Int) : Fl := { y with acts := y.acts ++ [⟨y.t, out, p, n⟩] }
theorem Mc.grew {w w1 : World} (h : Mc w0 w b f base x v y va) {a : Pa} {v' : Value} (hg : Grew w w1 va) (hr : w1.ownsRow base 195 4 v' (y.acts.length + 1) (flatP y.acts ++ flatP [a])) :
    Mc w0 (w1.setCell ⟨f, 65537, none⟩ v') b f base x v { y with acts := y.acts ++ [a] } v' := by
  obtain ⟨g1, g2, g3, g4, g5⟩ := hg
  have h1 : ∀ k, k < base → k ≠ f → (w1.setCell ⟨f, 65537, none⟩ v').heap[k]? = w.heap[k]? := fun k hk hne => by
    rw [Below.heap_setCell _ _ _ _ hne]
    refine g5 k (Nat.lt_of_lt_of_le hk h.hb) (fun e => ?_)
    have := (h.acts.lt k e).1
    omega
  have hsz : (w1.setCell ⟨f, 65537, none⟩ v').heap.size = w1.heap.size := by simp [World.setCell]
  have hff : w1.heap[f]? = w.heap[f]? := g5 f h.fblk (fun e => by have := (h.acts.lt f e).1; have := h.lf; omega)
  refine ⟨fun i a hi => ?_, fun i => ?_, ?_, h.lb, h.lf, h.ne, by rw [hsz]; exact Nat.le_trans h.hb g4, ⟨own_keep h.row.row (fun k hk => ?_), by rw [hsz]; exact Nat.le_trans h.row.size g4, h.row.few⟩, ?_, modes_block h.modes (h1 _ h.mg.1 h.mg.2.2) (by rw [hsz]; exact g4), h.mg, ?_⟩
  · rw [World.cell?_of_block (w := w) (a := ⟨b, 0 + i, none⟩) (h1 b h.lb h.ne)]; exact h.cpu i a hi
  · rw [World.frozen?_of_block (w := w) (a := ⟨b, i, none⟩) (h1 b h.lb h.ne)]; exact h.free i
  · have := (h.fl.block hff).set 65537 v'
    rw [fset_va] at this
    exact this
  · have hlt := h.row.row.lt k hk
    rw [Below.heap_setCell _ _ _ _ (show k ≠ f by have := h.lf; omega)]
    refine g5 k hlt.2 (fun e => ?_)
    rcases own_own h.row.row h.acts (by decide) with z | z
    · rw [z] at hk; cases hk
    · exact z (hk.trans e.symm)
  · rw [List.length_append, flatP_app]
    exact own_keep hr (fun k hk => Below.heap_setCell _ _ _ _ (show k ≠ f by have := (hr.lt k hk).1; have := h.lf; omega))
  · exact h.fr.trans ⟨g1, g2, g3, by rw [hsz]; exact g4, fun k hk _ hf => h1 k hk hf⟩
set_option maxHeartbeats 1600000 in
theorem flAct (out : Bool) (p n : Int) (w : World) (h : Mc w0 w b f base x v y va) (hl : y.acts.length ≤ 100000) :
    Calls Tryz.prog 217 #[.pointer (some ⟨f, 0, none⟩), .bool out, .int .u16 p, .int .u8 n] w fun e w' => e = .returned (.tuple #[]) ∧ Mx w0 w' b f base x (actS y out p n) ∧ Kf f va w w' := by
  have HB := Lib.hid (fun (w1 : World) hg v' hr => (show Mx w0 (w1.setCell ⟨f, 65537, none⟩ v') b f base x (actS y out p n) from ⟨v, v', h.grew (a := ⟨y.t, out, p, n⟩) (w1 := w1) (v' := v') hg hr⟩))
  have c1 : w.cell? ⟨f, 65537, none⟩ = some va := h.fl.cell 65537 (by decide)
  have c2 : w.cell? ⟨f, 65538, none⟩ = some (.int .u64 y.t) := h.fl.cell 65538 (by decide)
  have c3 : w.frozen? ⟨f, 65537, none⟩ = false := h.fl.frozen 65537
  have hlt := h.fblk
  have hbase := h.hb
  have hne : va.ownBlock ≠ some f := fun e => by have := (h.acts.lt f e).1; have := h.lf; omega
  have hrow := h.acts
  obtain ⟨i0, hi, hz0, hz1, hz2⟩ := info_parts infoPa
  have HS := Lib.hid (fun (u : World) (hu : u.heap[f]? = w.heap[f]?) => show u.cell? ⟨f, 65537, none⟩ = some va ∧ u.cell? ⟨f, 65538, none⟩ = some (.int .u64 y.t) ∧ u.frozen? ⟨f, 65537, none⟩ = false from
    ⟨(World.cell?_of_block (a := ⟨f, 65537, none⟩) hu).trans c1, (World.cell?_of_block (a := ⟨f, 65538, none⟩) hu).trans c2, (World.frozen?_of_block (a := ⟨f, 65537, none⟩) hu).trans c3⟩)
  clear h
  generalize y.t = T at *
  generalize y.acts.length = m at *
  generalize flatP y.acts = xs at *
  go_enter Tryz.func217, Tryz.ntmps217
  go_wp2_with fail
  go_region_law ((refine step_append_lies _ (by rfl) _ _ _ (by rfl) base 195 i0 _ 4 16 Tryz.underlying34 hi hz0 hz1 hz2 rfl (by decide) va m xs (by rfl) (show _ from (hrow.alloc (.cells #[.int .u64 T, .bool out, .int .u16 p, .int .u8 n] 195))) ⟨w.heap.size, 0, none⟩ 1 1 [.int .u64 T, .bool out, .int .u16 p, .int .u8 n] (by rfl) (by rfl) (World.news_of_block (cs := #[.int .u64 T, .bool out, .int .u16 p, .int .u8 n]) (t := 195) (fr := (0, 0)) (heap_alloc_new w _)) (by simp [Value.oneCell']) (by decide) (by unfold maxLen; omega) (by omega) (by simp; omega) (w.heap.size + 1) (by simp) ?_; intro gg cap w1 hown1 hgrow hat hlt1; obtain ⟨d1, d2, d3⟩ := HS.out w1 ((hgrow.block f (by simp; omega) (fun e => hne e.symm)).trans ((balloc w _).block f hlt))))
  all_goals
    go_wp2_with fail
    go_end0
    exact ⟨rfl, HB.out w1 (Grew.of (n := 1) hgrow) _ hown1, (Grew.of (n := 1) hgrow).kf _ _ _⟩
theorem flOut (p n : Int) (w : World) (h : Mc w0 w b f base x v y va) (hl : y.acts.length ≤ 100000) :
    Calls Tryz.prog 214 #[.pointer (some ⟨f, 0, none⟩), .int .u16 p, .int .u8 n] w fun e w' => e = .returned (.tuple #[]) ∧ Mx w0 w' b f base x (actS y true p n) ∧ Kf f va w w' := by
  have H := Lib.hid (flAct true p n w h hl)
  clear h hl
  go_enter Tryz.func214, Tryz.ntmps214
  go_wp2_with fail
  refine H.out.mono ?_
  rintro e w' ⟨rfl, hm, hk⟩
  have HK := Lib.hid hk
  clear hk
  go_wp2_with fail
  go_end0
  exact ⟨rfl, hm, HK.out⟩
theorem flIn (p : Int) (w : World) (h : Mc w0 w b f base x v y va) (hl : y.acts.length ≤ 100000) :
    Calls Tryz.prog 212 #[.pointer (some ⟨f, 0, none⟩), .int .u16 p] w fun e w' => e = .returned (.int .u8 255) ∧ Mx w0 w' b f base x (actS y false p 255) ∧ Kf f va w w' := by
  have H := Lib.hid (flAct false p 255 w h hl)
  have c : w.cell? ⟨f, 65536, none⟩ = some (.slice none 0 0) := h.fl.cell 65536 (by decide)
  clear h hl
  go_enter Tryz.func212, Tryz.ntmps212
  go_wp2_with fail
  refine H.out.mono ?_
  rintro e w' ⟨rfl, hm, hk⟩
  have HK := Lib.hid hk
  clear hk
  go_wp2_with fail
  go_ret
  exact ⟨rfl, hm, HK.out⟩

end Go.Proofs.YtcfkpeemhleleaaGreatDoor
/- The processor's cycle: how it starts, whether it is held, how an instruction begins. -/
namespace Go.Proofs.YtcfkpeemhleleaaGreatDoor
open Go.RowKit
set_option maxRecDepth 100000
set_option linter.unusedVariables false
set_option linter.unusedSimpArgs false
variable {w0 : World} {b f base : Nat} {x : Cp} {v : Value} {y : Fl} {va : Value}

set_option maxHeartbeats 800000 in
theorem isHeld_any (w : World) (h : Mc w0 w b f base x v y va) (ha : x.asked = false) (h0 : x.held = 0) :
    Calls Tryz.prog 23 #[.pointer (some ⟨b, 31, none⟩), busV f] w fun e w' => e = .returned (.bool false) ∧ Mc w0 w' b f base x v y va := by
  have c1 := h.cell 32 _ rfl
  have c2 := h.cell 33 _ rfl
  have c3 := h.cell 34 _ rfl
  have c5 := h.cell 36 _ rfl
  have c6 := h.cell 37 _ rfl
  have f5 := h.free 36
  have f6 := h.free 37
  rw [ha] at c5
  rw [h0] at c6
  have HB := Lib.hid h
  have hn := fun n => busN_Hold n ⟨f, 0, none⟩
  have hm := fun n => bus_Hold n ⟨f, 0, none⟩
  have H1 := Lib.hid (h.drew.set 36 (.bool true) { x with asked := true } (by decide) rfl rfl)
  have HS : w.cell? ⟨b, 32, none⟩ = some (.int .i64 x.kind) ∧ w.cell? ⟨b, 33, none⟩ = some (.int .u16 x.addr) ∧ w.cell? ⟨b, 34, none⟩ = some (.int .i64 x.k) := ⟨h.cell 32 _ rfl, h.cell 33 _ rfl, h.cell 34 _ rfl⟩
  have HE := Lib.hid (show Mc w0 ((((w.drew.setCell ⟨b, 36, none⟩ (.bool true)).setCell ⟨b, 37, none⟩ (.int .i64 0)).setCell ⟨b, 36, none⟩ (.bool false))) b f base x v y va from by
    have e1 := (h.drew.set 36 (.bool true) { x with asked := true } (by decide) rfl rfl)
    have e2 := e1.set 37 (.int .i64 0) { x with asked := true, held := 0 } (by decide) rfl rfl
    have e3 := e2.set 36 (.bool false) { x with asked := false, held := 0 } (by decide) rfl rfl
    rwa [show ({ x with asked := false, held := 0 } : Cp) = x by rw [← ha, ← h0]] at e3)
  clear h ha h0 c1 c2 c3
  go_enter Tryz.func23, Tryz.ntmps23
  go_wp2_with fail
  first | refine wp_region_noPanic ?_ | skip
  refine wp_region_U (n := 22) (S := (fun u => u.cell? ⟨b, 32, none⟩ = some (.int .i64 x.kind) ∧ u.cell? ⟨b, 33, none⟩ = some (.int .u16 x.addr) ∧ u.cell? ⟨b, 34, none⟩ = some (.int .i64 x.k))) (by kernel_rfl) (by kernel_rfl) HS (fun hHeld => ?_)
  refine wpAnyU_take (i := 0) (v := ?v1) rfl (by kernel_rfl) (by kernel_rfl) (by kernel_rfl) (by kernel_rfl) (fun _ _ _ h => h) (Or.inl ⟨by rfl, ?hy1⟩) (by assumption) ?rest1
  case hy1 => (intro w hSw; (try dsimp only at hSw); go_simp; try with_reducible rfl)
  try simp only [Act.put, List.getElem_toArray, List.getElem_cons_succ, List.getElem_cons_zero, List.setIfInBounds_toArray, List.set_cons_zero, List.set_cons_succ]
  refine wpAnyU_take (i := 1) (v := ?v2) rfl (by kernel_rfl) (by kernel_rfl) (by kernel_rfl) (by kernel_rfl) (fun _ _ _ h => h) (Or.inl ⟨by rfl, ?hy2⟩) (by assumption) ?rest2
  case hy2 => (intro w hSw; (try dsimp only at hSw); go_simp; try with_reducible rfl)
  try simp only [Act.put, List.getElem_toArray, List.getElem_cons_succ, List.getElem_cons_zero, List.setIfInBounds_toArray, List.set_cons_zero, List.set_cons_succ]
  refine wpAnyU_take (i := 2) (v := ?v3) rfl (by kernel_rfl) (by kernel_rfl) (by kernel_rfl) (by kernel_rfl) (fun _ _ _ h => h) (Or.inl ⟨by rfl, ?hy3⟩) (by assumption) ?rest3
  case hy3 => (intro w hSw; (try dsimp only at hSw); go_simp; try with_reducible rfl)
  try simp only [Act.put, List.getElem_toArray, List.getElem_cons_succ, List.getElem_cons_zero, List.setIfInBounds_toArray, List.set_cons_zero, List.set_cons_succ]
  refine wpAnyU_take (i := 3) (v := ?v4) rfl (by kernel_rfl) (by kernel_rfl) (by kernel_rfl) (by kernel_rfl) (fun _ _ _ h => h) (Or.inl ⟨by rfl, ?hy4⟩) (by assumption) ?rest4
  case hy4 => (intro w hSw; (try dsimp only at hSw); go_simp; try with_reducible rfl)
  try simp only [Act.put, List.getElem_toArray, List.getElem_cons_succ, List.getElem_cons_zero, List.setIfInBounds_toArray, List.set_cons_zero, List.set_cons_succ]
  refine wpAnyU_take (i := 4) (v := ?v5) rfl (by kernel_rfl) (by kernel_rfl) (by kernel_rfl) (by kernel_rfl) (fun _ _ _ h => h) (Or.inl ⟨by rfl, ?hy5⟩) (by assumption) ?rest5
  case hy5 => (intro w hSw; (try dsimp only at hSw); go_simp; try with_reducible rfl)
  try simp only [Act.put, List.getElem_toArray, List.getElem_cons_succ, List.getElem_cons_zero, List.setIfInBounds_toArray, List.set_cons_zero, List.set_cons_succ]
  refine wpAnyU_take (i := 5) (v := ?v6) rfl (by kernel_rfl) (by kernel_rfl) (by kernel_rfl) (by kernel_rfl) (fun _ _ _ h => h) (Or.inl ⟨by rfl, ?hy6⟩) (by assumption) ?rest6
  case hy6 => (intro w hSw; (try dsimp only at hSw); go_simp; try with_reducible rfl)
  try simp only [Act.put, List.getElem_toArray, List.getElem_cons_succ, List.getElem_cons_zero, List.setIfInBounds_toArray, List.set_cons_zero, List.set_cons_succ]
  refine wpAnyU_take (i := 6) (v := ?v7) rfl (by kernel_rfl) (by kernel_rfl) (by kernel_rfl) (by kernel_rfl) (fun _ _ _ h => h) (Or.inl ⟨by rfl, ?hy7⟩) (by assumption) ?rest7
  case hy7 => (intro w hSw; (try dsimp only at hSw); go_simp; try with_reducible rfl)
  try simp only [Act.put, List.getElem_toArray, List.getElem_cons_succ, List.getElem_cons_zero, List.setIfInBounds_toArray, List.set_cons_zero, List.set_cons_succ]
  refine wpAnyU_take (i := 7) (v := ?v8) rfl (by kernel_rfl) (by kernel_rfl) (by kernel_rfl) (by kernel_rfl) (fun _ _ _ h => h) (Or.inl ⟨by rfl, ?hy8⟩) (by assumption) ?rest8
  case hy8 => (intro w hSw; (try dsimp only at hSw); go_simp; try with_reducible rfl)
  try simp only [Act.put, List.getElem_toArray, List.getElem_cons_succ, List.getElem_cons_zero, List.setIfInBounds_toArray, List.set_cons_zero, List.set_cons_succ]
  refine wpAnyU_take (i := 8) (v := ?v9) rfl (by kernel_rfl) (by kernel_rfl) (by kernel_rfl) (by kernel_rfl) (fun _ _ _ h => h) (Or.inl ⟨by rfl, ?hy9⟩) (by assumption) ?rest9
  case hy9 => (intro w hSw; (try dsimp only at hSw); go_simp; try with_reducible rfl)
  try simp only [Act.put, List.getElem_toArray, List.getElem_cons_succ, List.getElem_cons_zero, List.setIfInBounds_toArray, List.set_cons_zero, List.set_cons_succ]
  refine wpAnyU_take (i := 9) (v := ?v10) rfl (by kernel_rfl) (by kernel_rfl) (by kernel_rfl) (by kernel_rfl) (fun _ _ _ h => h) (Or.inl ⟨by rfl, ?hy10⟩) (by assumption) ?rest10
  case hy10 => (intro w hSw; (try dsimp only at hSw); go_simp; try with_reducible rfl)
  try simp only [Act.put, List.getElem_toArray, List.getElem_cons_succ, List.getElem_cons_zero, List.setIfInBounds_toArray, List.set_cons_zero, List.set_cons_succ]
  refine wpAnyU_take (i := 10) (v := ?v11) rfl (by kernel_rfl) (by kernel_rfl) (by kernel_rfl) (by kernel_rfl) (fun _ _ _ h => h) (Or.inl ⟨by rfl, ?hy11⟩) (by assumption) ?rest11
  case hy11 => (intro w hSw; (try dsimp only at hSw); go_simp; try with_reducible rfl)
  try simp only [Act.put, List.getElem_toArray, List.getElem_cons_succ, List.getElem_cons_zero, List.setIfInBounds_toArray, List.set_cons_zero, List.set_cons_succ]
  refine wpAnyU_take (i := 11) (v := ?v12) rfl (by kernel_rfl) (by kernel_rfl) (by kernel_rfl) (by kernel_rfl) (fun _ _ _ h => h) (Or.inl ⟨by rfl, ?hy12⟩) (by assumption) ?rest12
  case hy12 => (intro w hSw; (try dsimp only at hSw); go_simp; try with_reducible rfl)
  try simp only [Act.put, List.getElem_toArray, List.getElem_cons_succ, List.getElem_cons_zero, List.setIfInBounds_toArray, List.set_cons_zero, List.set_cons_succ]
  refine wpAnyU_take (i := 12) (v := ?v13) rfl (by kernel_rfl) (by kernel_rfl) (by kernel_rfl) (by kernel_rfl) (fun _ _ _ h => h) (Or.inl ⟨by rfl, ?hy13⟩) (by assumption) ?rest13
  case hy13 => (intro w hSw; (try dsimp only at hSw); go_simp; try with_reducible rfl)
  try simp only [Act.put, List.getElem_toArray, List.getElem_cons_succ, List.getElem_cons_zero, List.setIfInBounds_toArray, List.set_cons_zero, List.set_cons_succ]
  refine wpAnyU_take (i := 13) (v := ?v14) rfl (by kernel_rfl) (by kernel_rfl) (by kernel_rfl) (by kernel_rfl) (fun _ _ _ h => h) (Or.inl ⟨by rfl, ?hy14⟩) (by assumption) ?rest14
  case hy14 => (intro w hSw; (try dsimp only at hSw); go_simp; try with_reducible rfl)
  try simp only [Act.put, List.getElem_toArray, List.getElem_cons_succ, List.getElem_cons_zero, List.setIfInBounds_toArray, List.set_cons_zero, List.set_cons_succ]
  refine wpAnyU_take (i := 14) (v := ?v15) rfl (by kernel_rfl) (by kernel_rfl) (by kernel_rfl) (by kernel_rfl) (fun _ _ _ h => h) (Or.inl ⟨by rfl, ?hy15⟩) (by assumption) ?rest15
  case hy15 => (intro w hSw; (try dsimp only at hSw); go_simp; try with_reducible rfl)
  try simp only [Act.put, List.getElem_toArray, List.getElem_cons_succ, List.getElem_cons_zero, List.setIfInBounds_toArray, List.set_cons_zero, List.set_cons_succ]
  refine wpAnyU_take (i := 15) (v := ?v16) rfl (by kernel_rfl) (by kernel_rfl) (by kernel_rfl) (by kernel_rfl) (fun _ _ _ h => h) (Or.inl ⟨by rfl, ?hy16⟩) (by assumption) ?rest16
  case hy16 => (intro w hSw; (try dsimp only at hSw); go_simp; try with_reducible rfl)
  try simp only [Act.put, List.getElem_toArray, List.getElem_cons_succ, List.getElem_cons_zero, List.setIfInBounds_toArray, List.set_cons_zero, List.set_cons_succ]
  refine wpAnyU_take (i := 16) (v := ?v17) rfl (by kernel_rfl) (by kernel_rfl) (by kernel_rfl) (by kernel_rfl) (fun _ _ _ h => h) (Or.inl ⟨by rfl, ?hy17⟩) (by assumption) ?rest17
  case hy17 => (intro w hSw; (try dsimp only at hSw); go_simp; try with_reducible rfl)
  try simp only [Act.put, List.getElem_toArray, List.getElem_cons_succ, List.getElem_cons_zero, List.setIfInBounds_toArray, List.set_cons_zero, List.set_cons_succ]
  refine wpAnyU_take (i := 17) (v := ?v18) rfl (by kernel_rfl) (by kernel_rfl) (by kernel_rfl) (by kernel_rfl) (fun _ _ _ h => h) (Or.inl ⟨by rfl, ?hy18⟩) (by assumption) ?rest18
  case hy18 => (intro w hSw; (try dsimp only at hSw); go_simp; try with_reducible rfl)
  try simp only [Act.put, List.getElem_toArray, List.getElem_cons_succ, List.getElem_cons_zero, List.setIfInBounds_toArray, List.set_cons_zero, List.set_cons_succ]
  refine wpAnyU_ready (i := 18) (by kernel_rfl) (by kernel_rfl) rfl (fun K hK => ?_)
  go_simp
  refine (flHold f _ _ _ _).mono ?_
  rintro e w' ⟨rfl, rfl⟩
  go_wp2_with fail
  refine hK.out _ _ (by assumption) (fun hHeld => ?_)
  clear hK K
  try simp only [Act.put, List.getElem_toArray, List.getElem_cons_succ, List.getElem_cons_zero, List.setIfInBounds_toArray, List.set_cons_zero, List.set_cons_succ]
  refine wpAnyU_take (i := 19) (v := ?v19) rfl (by kernel_rfl) (by kernel_rfl) (by kernel_rfl) (by kernel_rfl) (fun _ _ _ h => h) (Or.inl ⟨by rfl, ?hy19⟩) (by assumption) ?rest19
  case hy19 => (intro w hSw; (try dsimp only at hSw); go_simp; try with_reducible rfl)
  try simp only [Act.put, List.getElem_toArray, List.getElem_cons_succ, List.getElem_cons_zero, List.setIfInBounds_toArray, List.set_cons_zero, List.set_cons_succ]
  refine wpAnyU_take (i := 20) (v := ?v20) rfl (by kernel_rfl) (by kernel_rfl) (by kernel_rfl) (by kernel_rfl) (fun _ _ _ h => h) (Or.inl ⟨by rfl, ?hy20⟩) (by assumption) ?rest20
  case hy20 => (intro w hSw; (try dsimp only at hSw); go_simp; try with_reducible rfl)
  try simp only [Act.put, List.getElem_toArray, List.getElem_cons_succ, List.getElem_cons_zero, List.setIfInBounds_toArray, List.set_cons_zero, List.set_cons_succ]
  refine wpAnyU_ready (i := 21) (by kernel_rfl) (by kernel_rfl) rfl (fun K hK => ?_)
  go_simp
  refine hK.out _ _ ⟨H1.out.cell 32 _ rfl, H1.out.cell 33 _ rfl, H1.out.cell 34 _ rfl⟩ (fun hHeld => ?_)
  clear hK K
  try simp only [Act.put, List.getElem_toArray, List.getElem_cons_succ, List.getElem_cons_zero, List.setIfInBounds_toArray, List.set_cons_zero, List.set_cons_succ]
  refine wpAnyU_tail rfl (by kernel_rfl) ?_
  simp only [List.drop_succ_cons, List.drop_zero]
  go_wp2_with fail
  refine NoPanic.normal ?_
  go_wp2_with fail
  go_ret
  exact ⟨rfl, HE.out⟩

end Go.Proofs.YtcfkpeemhleleaaGreatDoor
/- The processor's cycle: how it starts and ends, how an instruction begins. -/
namespace Go.Proofs.YtcfkpeemhleleaaGreatDoor
open Go.RowKit
set_option maxRecDepth 100000
set_option linter.unusedVariables false
set_option linter.unusedSimpArgs false
variable {w0 : World} {b f base : Nat} {x : Cp} {v : Value} {y : Fl} {va : Value}

set_option maxHeartbeats 800000 in
theorem start_any (what kind addr len : Int) (w : World) (h : Mc w0 w b f base x v y va) :
    Calls Tryz.prog 29 #[.pointer (some ⟨b, 0, none⟩), .int .i64 what, .int .i64 kind, .int .u16 addr, .int .i64 len] w fun e w' => e = .returned (.tuple #[]) ∧ Mc w0 w' b f base (startS x what kind addr len) v y va := by
  have c1 := h.cell 31 _ rfl
  have c2 := h.cell 32 _ rfl
  have c3 := h.cell 33 _ rfl
  have c4 := h.cell 34 _ rfl
  have c5 := h.cell 35 _ rfl
  have c6 := h.cell 36 _ rfl
  have c7 := h.cell 37 _ rfl
  have f1 := h.free 31
  have f2 := h.free 32
  have f3 := h.free 33
  have f4 := h.free 34
  have f5 := h.free 35
  have f6 := h.free 36
  have f7 := h.free 37
  have H := Lib.hid h
  clear h
  go_enter Tryz.func29, Tryz.ntmps29
  go_wp2_with fail
  go_end0
  refine ⟨rfl, ?_⟩
  have h1 := H.out.set 31 (.int .i64 what) { x with aim := what } (by decide) rfl rfl
  have h2 := h1.set 32 (.int .i64 kind) { x with aim := what, kind := kind } (by decide) rfl rfl
  have h3 := h2.set 33 (.int .u16 addr) { x with aim := what, kind := kind, addr := addr } (by decide) rfl rfl
  have h4 := h3.set 34 (.int .i64 0) { x with aim := what, kind := kind, addr := addr, k := 0 } (by decide) rfl rfl
  have h5 := h4.set 35 (.int .i64 len) { x with aim := what, kind := kind, addr := addr, k := 0, len := len } (by decide) rfl rfl
  have h6 := h5.set 36 (.bool false) { x with aim := what, kind := kind, addr := addr, k := 0, len := len, asked := false } (by decide) rfl rfl
  exact h6.set 37 (.int .i64 0) (startS x what kind addr len) (by decide) rfl rfl
/-- A slice's beginning of no length. -/
def cutV : Value → Value
  | .slice a _ c => .slice a 0 c
  | u => u
theorem Own.cut {u : World} {v : Value} {L : List Sp} {c base : Nat} (h : Own u v L c base) : Own u (cutV v) [] 60 base := by
  refine ⟨?_, h.size, Nat.zero_le _⟩
  rcases h.row.2 with ⟨rfl, _⟩ | ⟨g, cap, cur, rfl, h1, h2, _, h4, h5, _⟩
  · exact World.ownsRow_nil _ _ _ _
  · exact ⟨rfl, .inr ⟨g, cap, cur, rfl, h1, h2, Nat.zero_le _, h4, h5, by simp [flat]⟩⟩
theorem Mc.fin {w : World} (h : Mc w0 w b f base x v y va) (q : Int) (hq : q = if x.reck then x.r.f else 0) :
    Mx w0 ((((w.setCell ⟨b, 18, none⟩ (.int .u8 q)).setCell ⟨b, 31, none⟩ (.int .i64 0)).setCell ⟨b, 38, none⟩ (cutV v)).setCell ⟨b, 39, none⟩ (.int .i64 0)) b f base (finishS x) y := by
  have h1 := h.set 18 (.int .u8 q) { x with r := { x.r with q := q } } (by decide) rfl rfl
  have h2 := h1.set 31 (.int .i64 0) { x with r := { x.r with q := q }, aim := 0 } (by decide) rfl rfl
  have h3 := h2.row_set (cutV v) { x with r := { x.r with q := q }, aim := 0, steps := [] } h2.row.cut rfl
  have h4 := h3.set 39 (.int .i64 0) { x with r := { x.r with q := q }, aim := 0, steps := [], next := 0 } (by decide) rfl rfl
  subst hq
  exact h4.mx
set_option maxHeartbeats 800000 in
theorem finish_any (w : World) (h : Mc w0 w b f base x v y va) :
    Calls Tryz.prog 41 #[.pointer (some ⟨b, 0, none⟩)] w fun e w' => e = .returned (.tuple #[]) ∧ Mx w0 w' b f base (finishS x) y := by
  have c1 := h.cell 44 _ rfl
  have c2 := h.cell 1 _ rfl
  have c3 := h.cell 18 _ rfl
  have c4 := h.cell 31 _ rfl
  have c5 := h.cell 38 _ rfl
  have c6 := h.cell 39 _ rfl
  have f3 := h.free 18
  have f4 := h.free 31
  have f5 := h.free 38
  have f6 := h.free 39
  cases hr : x.reck with
  | false =>
    have H := Lib.hid (h.fin 0 (by rw [hr]; rfl))
    rw [hr] at c1
    rcases h.row.row.2 with ⟨rfl, _⟩ | ⟨g, cap, cur, rfl, _, _, hle, hmax, _, _⟩
    · clear h hr
      go_enter Tryz.func41, Tryz.ntmps41
      go_wp2_with fail
      go_end0
      exact ⟨rfl, H.out⟩
    · clear h hr
      go_enter Tryz.func41, Tryz.ntmps41
      go_wp2_with fail
      go_end0
      exact ⟨rfl, H.out⟩
  | true =>
    have h0 := h.set 18 (.int .u8 0) { x with r := { x.r with q := 0 } } (by decide) rfl rfl
    have H := Lib.hid (h0.fin x.r.f (by show x.r.f = if x.reck = true then x.r.f else 0; rw [hr]; rfl))
    have e : finishS { x with r := { x.r with q := 0 } } = finishS x := rfl
    rw [e] at H
    rw [hr] at c1
    rcases h.row.row.2 with ⟨rfl, _⟩ | ⟨g, cap, cur, rfl, _, _, hle, hmax, _, _⟩
    · clear h h0 hr e
      go_enter Tryz.func41, Tryz.ntmps41
      go_wp2_with fail
      go_end0
      exact ⟨rfl, H.out⟩
    · clear h h0 hr e
      go_enter Tryz.func41, Tryz.ntmps41
      go_wp2_with fail
      go_end0
      exact ⟨rfl, H.out⟩
set_option maxHeartbeats 800000 in
theorem done_any (w : World) (h : Mc w0 w b f base x v y va) :
    Calls Tryz.prog 13 #[.pointer (some ⟨b, 0, none⟩)] w fun e w' => e = .returned (.bool (x.aim == 0)) ∧ w = w' := by
  have c1 := h.cell 31 _ rfl
  clear h
  go_enter Tryz.func13, Tryz.ntmps13
  go_wp2_with fail
  go_ret
  exact ⟨rfl, rfl⟩
def indexS (n : Int) : Int := if n = 1 then 1 else if n = 2 then 2 else 0
theorem index_cpu (n : Int) (w : World) (h0 : 0 ≤ n) (h1 : n ≤ 255) : Calls Tryz.prog 42 #[.int .u8 n] w fun e w' => e = .returned (.int .i64 (indexS n)) ∧ w = w' := by
  unfold indexS
  by_cases e1 : n = 1
  · subst e1
    go_enter Tryz.func42, Tryz.ntmps42
    go_wp2_with fail
    go_ret
    exact ⟨rfl, rfl⟩
  · by_cases e2 : n = 2
    · subst e2
      go_enter Tryz.func42, Tryz.ntmps42
      go_wp2_with fail
      go_ret
      exact ⟨rfl, rfl⟩
    · rw [if_neg e1, if_neg e2]
      have d1 : (n == 1) = false := by simpa using e1
      have d2 : (n == 2) = false := by simpa using e2
      clear e1 e2
      go_enter Tryz.func42, Tryz.ntmps42
      go_wp2_with fail
      go_ret
      exact ⟨rfl, rfl⟩
/-- An instruction begins, where nothing interrupts it. -/
def beginS (x : Cp) : Cp := startS { x with r := { x.r with hold := false }, reck := false } 1 0 x.r.pc 4
set_option maxHeartbeats 1600000 in
theorem begin_any (w : World) (h : Mc w0 w b f base x v y va) (hn : x.nmi = false) (hl : y.line = false) :
    Calls Tryz.prog 22 #[.pointer (some ⟨b, 0, none⟩), busV f] w fun e w' => e = .returned (.tuple #[]) ∧ Mc w0 w' b f base (beginS x) v y va := by
  have c1 := h.cell 27 _ rfl
  have c2 := h.cell 44 _ rfl
  have c3 := h.cell 30 _ rfl
  have c4 := h.cell 22 _ rfl
  have f1 := h.free 27
  have f2 := h.free 44
  have h1 := h.set 27 (.bool false) { x with r := { x.r with hold := false } } (by decide) rfl rfl
  have h2 := h1.set 44 (.bool false) { x with r := { x.r with hold := false }, reck := false } (by decide) rfl rfl
  have HI := Lib.hid (flInt _ h2)
  rw [hl] at HI
  have HS := Lib.hid (start_any 1 0 x.r.pc 4 _ h2)
  have hm1 := fun n => busN_Int n ⟨f, 0, none⟩
  have hm2 := fun n => bus_Int n ⟨f, 0, none⟩
  rw [hn] at c3
  clear h h1 h2 hn hl
  go_enter Tryz.func22, Tryz.ntmps22
  go_wp2_with fail
  refine (HI.out).mono ?_
  rintro e w' ⟨rfl, rfl⟩
  go_wp2_with fail
  refine HS.out.mono ?_
  rintro e w' ⟨rfl, hm⟩
  go_wp2_with fail
  go_end0
  exact ⟨rfl, hm⟩

end Go.Proofs.YtcfkpeemhleleaaGreatDoor
/- The contracts of flag.Has and flag.With. -/
namespace Go.Proofs.YtcfkpeemhleleaaGreatDoor
open Go.RowKit

set_option maxHeartbeats 400000 in
theorem has_any (f b : Int) (w : World) :
    Calls Tryz.prog 87 #[.int .u8 f, .int .u8 b] w fun e w' => e = .returned (.bool (bits .and .u8 f b != 0)) ∧ w = w' := by
  go_enter Tryz.func87, Tryz.ntmps87
  go_wp2
  go_ret
  exact ⟨rfl, rfl⟩
theorem has_is (f b : Int) (r : Bool) (w : World) (h : (bits .and .u8 f b != 0) = r) :
    Calls Tryz.prog 87 #[.int .u8 f, .int .u8 b] w fun e w' => e = .returned (.bool r) ∧ w = w' := by
  rw [← h]; exact has_any f b w

set_option maxHeartbeats 400000 in
theorem with_any (f b : Int) (o : Bool) (w : World) :
    Calls Tryz.prog 164 #[.int .u8 f, .int .u8 b, .bool o] w fun e w' => e = .returned (.int .u8 (withB f b o)) ∧ w = w' := by
  cases o
  all_goals
    go_enter Tryz.func164, Tryz.ntmps164
    go_wp2
    go_ret
    exact ⟨rfl, rfl⟩
theorem with_is (f b r : Int) (o : Bool) (w : World) (h : withB f b o = r) : Calls Tryz.prog 164 #[.int .u8 f, .int .u8 b, .bool o] w fun e w' => e = .returned (.int .u8 r) ∧ w = w' := by
  subst h; exact with_any f b o w

end Go.Proofs.YtcfkpeemhleleaaGreatDoor
/- The document's answers for layer 1: their contracts. -/
namespace Go.Proofs.YtcfkpeemhleleaaGreatDoor
open Go.RowKit

end Go.Proofs.YtcfkpeemhleleaaGreatDoor
/- The contracts of layer 3's calls. -/
namespace Go.Proofs.YtcfkpeemhleleaaGreatDoor
open Go.RowKit

set_option maxHeartbeats 400000 in
theorem plus_any (a d : Int) (w : World) (d0 : 0 ≤ d) (d1 : d ≤ 255) : Calls Tryz.prog 61 #[.int .u16 a, .int .u8 d] w fun e w' => e = .returned (.int .u16 (plusW a d)) ∧ w = w' := by
  have ed := wrap_i8 d d0 d1
  have ep := wrap_plus a d
  go_enter Tryz.func61, Tryz.ntmps61
  go_wp2_with fail
  go_ret
  exact ⟨rfl, rfl⟩
set_option maxHeartbeats 400000 in
theorem outW_any (n : Int) (w : World) : Calls Tryz.prog 195 #[.int .i64 n] w fun e w' => e = .returned (.bool (outW n)) ∧ w = w' := by
  unfold outW
  by_cases h : n < -32768
  · have hd : decide (n < -32768) = true := decide_eq_true h
    go_enter Tryz.func195, Tryz.ntmps195
    go_wp2_with fail
    go_ret
    exact ⟨by simp [h], rfl⟩
  · have hd : decide (n < -32768) = false := decide_eq_false h
    go_enter Tryz.func195, Tryz.ntmps195
    go_wp2_with fail
    go_ret
    exact ⟨by simp, rfl⟩
set_option maxHeartbeats 400000 in
theorem shape_any (r : Int) (w : World) (h0 : 0 ≤ r) (h1 : r ≤ 65535) :
    Calls Tryz.prog 194 #[.int .u16 r] w fun e w' => e = .returned (.agg #[.bool (bitW r 15), .bool (r == 0), .bool (bitW r 13), .bool false, .bool (bitW r 11), .bool false, .bool false, .bool false]) ∧ Below w.heap.size w w' := by
  have b0 : 0 ≤ r / 256 := by omega
  have b1 : r / 256 ≤ 255 := by omega
  have HS := Lib.hid ((has_128 _ b0 b1).trans (hi_S r))
  have HY := Lib.hid ((has_32 _ b0 b1).trans (hi_Y r))
  have HX := Lib.hid ((has_8 _ b0 b1).trans (hi_X r))
  go_enter Tryz.func194, Tryz.ntmps194
  go_wp2_with fail
  refine (hi_any _ _ h0 h1).mono ?_
  rintro e w' ⟨rfl, rfl⟩
  go_wp2_with fail
  refine (has_is _ _ _ _ HS.out).mono ?_
  rintro e w' ⟨rfl, rfl⟩
  go_wp2_with fail
  refine (has_is _ _ _ _ HY.out).mono ?_
  rintro e w' ⟨rfl, rfl⟩
  go_wp2_with fail
  refine (has_is _ _ _ _ HX.out).mono ?_
  rintro e w' ⟨rfl, rfl⟩
  go_wp2_with fail

  exact bodyPost_ret (v := .agg #[.bool (bitW r 15), .bool (r == 0), .bool (bitW r 13), .bool false, .bool (bitW r 11), .bool false, .bool false, .bool false]) (by simp [results, Tryz.results194, go_sem]) rfl ⟨rfl, (Below.refl _ _).alloc (Nat.le_refl _) _⟩

/-- What pack makes of the flags, one behind the other. -/
theorem withW_is (f b r : Int) (o : Bool) (w : World) (h : withB f b o = r) : Calls Tryz.prog 164 #[.int .u8 f, .int .u8 b, .bool o] w fun e w' => e = .returned (.int .u8 r) ∧ w = w' := by
  subst h; exact with_any f b o w
theorem with_S0 (o : Bool) : withB 0 128 o = flagsOf o false false false false false false false := with_S false false false false false false false false o
set_option maxHeartbeats 1600000 in
theorem pack_any (s z y h x p n c : Bool) (w : World) :
    Calls Tryz.prog 180 #[.agg #[.bool s, .bool z, .bool y, .bool h, .bool x, .bool p, .bool n, .bool c]] w fun e w' => e = .returned (.int .u8 (flagsOf s z y h x p n c)) ∧ Below w.heap.size w w' := by
  cases s; cases z; cases y; cases h; cases x; cases p; cases n; cases c
  · go_enter Tryz.func180, Tryz.ntmps180
    go_wp2_with fail
    go_ret
    exact ⟨rfl, (Below.refl _ _).alloc (Nat.le_refl _) _⟩
  all_goals
    go_enter Tryz.func180, Tryz.ntmps180
    go_wp2_with fail
    refine (withW_is _ _ _ _ _ (with_S0 _)).mono ?_
    rintro e w' ⟨rfl, rfl⟩
    go_wp2_with fail
    refine (withW_is _ _ _ _ _ (with_Z _ _ _ _ _ _ _ _ _)).mono ?_
    rintro e w' ⟨rfl, rfl⟩
    go_wp2_with fail
    refine (withW_is _ _ _ _ _ (with_Y _ _ _ _ _ _ _ _ _)).mono ?_
    rintro e w' ⟨rfl, rfl⟩
    go_wp2_with fail
    refine (withW_is _ _ _ _ _ (with_H _ _ _ _ _ _ _ _ _)).mono ?_
    rintro e w' ⟨rfl, rfl⟩
    go_wp2_with fail
    refine (withW_is _ _ _ _ _ (with_X _ _ _ _ _ _ _ _ _)).mono ?_
    rintro e w' ⟨rfl, rfl⟩
    go_wp2_with fail
    refine (withW_is _ _ _ _ _ (with_P _ _ _ _ _ _ _ _ _)).mono ?_
    rintro e w' ⟨rfl, rfl⟩
    go_wp2_with fail
    refine (withW_is _ _ _ _ _ (with_N _ _ _ _ _ _ _ _ _)).mono ?_
    rintro e w' ⟨rfl, rfl⟩
    go_wp2_with fail
    refine (withW_is _ _ _ _ _ (with_C _ _ _ _ _ _ _ _ _)).mono ?_
    rintro e w' ⟨rfl, rfl⟩
    go_wp2_with fail
    go_ret
    exact ⟨rfl, (Below.refl _ _).alloc (Nat.le_refl _) _⟩

end Go.Proofs.YtcfkpeemhleleaaGreatDoor
/- The contracts of layer 3's sums. -/
namespace Go.Proofs.YtcfkpeemhleleaaGreatDoor
open Go.RowKit

theorem bcell {W w1 : World} (hb : Below W.heap.size W w1) : (∀ b o, b < W.heap.size → w1.cell? ⟨b, o, none⟩ = W.cell? ⟨b, o, none⟩) ∧ (∀ b o, b < W.heap.size → w1.frozen? ⟨b, o, none⟩ = W.frozen? ⟨b, o, none⟩) :=
  ⟨fun b o h => hb.cell (p := ⟨b, o, none⟩) h, fun b o h => hb.frozen (p := ⟨b, o, none⟩) h⟩

theorem below_boxed {w w1 : World} {o : Obj} (hb : Below (w.alloc o).heap.size (w.alloc o) w1) : Below w.heap.size w w1 :=
  ((Below.refl _ _).alloc (Nat.le_refl _) _).trans (hb.mono (by simp))
theorem below_put8 {w w1 : World} (hb : Below w.heap.size w w1) (hz : w.heap.size < w1.heap.size) (v0 v1 v2 v3 v4 v5 v6 v7 : Value) (o : Obj) :
    Below w.heap.size w (((((((((w1.setCell ⟨w.heap.size, 0, none⟩ v0).setCell ⟨w.heap.size, 1, none⟩ v1).setCell ⟨w.heap.size, 2, none⟩ v2).setCell ⟨w.heap.size, 3, none⟩ v3).setCell ⟨w.heap.size, 4, none⟩ v4).setCell ⟨w.heap.size, 5, none⟩ v5).setCell ⟨w.heap.size, 6, none⟩ v6).setCell ⟨w.heap.size, 7, none⟩ v7).alloc o) :=
  ((((((((hb.setCell (Nat.le_refl _) _).setCell (Nat.le_refl _) _).setCell (Nat.le_refl _) _).setCell (Nat.le_refl _) _).setCell (Nat.le_refl _) _).setCell (Nat.le_refl _) _).setCell (Nat.le_refl _) _).setCell (Nat.le_refl _) _).alloc (by simp [World.setCell]; omega) _

set_option maxHeartbeats 800000 in
theorem sum_any (a b n : Int) (c : Bool) (w : World) (a0 : 0 ≤ a) (a1 : a ≤ 65535) (b0 : 0 ≤ b) (b1 : b ≤ 65535) (hn : cN c = n) :
    Calls Tryz.prog 179 #[.int .u16 a, .int .u16 b, .int .i64 n] w fun e w' => e = .returned (.tuple #[.int .u16 (wadd a b c), .agg #[.bool (bitW (wadd a b c) 15), .bool (wadd a b c == 0), .bool (bitW (wadd a b c) 13), .bool (waddH a b c), .bool (bitW (wadd a b c) 11), .bool (waddP a b c), .bool false, .bool (waddC a b c)]]) ∧ Below w.heap.size w w' := by
  subst hn
  obtain ⟨c0, c1⟩ := cN_bd c
  obtain ⟨s0, s1⟩ := sgnW_bd a a0 a1
  obtain ⟨t0, t1⟩ := sgnW_bd b b0 b1
  obtain ⟨r0, r1⟩ := wadd_bd a b c
  have ea := wrap_i16 a a0 a1
  have eb := wrap_i16 b b0 b1
  have er := wrap_add a b c
  have la := low_W a a0 a1
  have lb := low_W b b0 b1
  go_enter Tryz.func179, Tryz.ntmps179
  go_wp2_with fail
  refine (shape_any _ _ r0 r1).mono ?_
  rintro e w1 ⟨rfl, hb1⟩
  obtain ⟨hc, hf⟩ := bcell hb1
  have k0 : w1.cell? ⟨w.heap.size, 0, none⟩ = some (.bool false) := (hc _ _ (by simp)).trans (by simp)
  have k1 : w1.cell? ⟨w.heap.size, 1, none⟩ = some (.bool false) := (hc _ _ (by simp)).trans (by simp)
  have k2 : w1.cell? ⟨w.heap.size, 2, none⟩ = some (.bool false) := (hc _ _ (by simp)).trans (by simp)
  have k3 : w1.cell? ⟨w.heap.size, 3, none⟩ = some (.bool false) := (hc _ _ (by simp)).trans (by simp)
  have k4 : w1.cell? ⟨w.heap.size, 4, none⟩ = some (.bool false) := (hc _ _ (by simp)).trans (by simp)
  have k5 : w1.cell? ⟨w.heap.size, 5, none⟩ = some (.bool false) := (hc _ _ (by simp)).trans (by simp)
  have k6 : w1.cell? ⟨w.heap.size, 6, none⟩ = some (.bool false) := (hc _ _ (by simp)).trans (by simp)
  have k7 : w1.cell? ⟨w.heap.size, 7, none⟩ = some (.bool false) := (hc _ _ (by simp)).trans (by simp)
  have f0 : w1.frozen? ⟨w.heap.size, 0, none⟩ = false := (hf _ _ (by simp)).trans (by simp)
  have f1 : w1.frozen? ⟨w.heap.size, 1, none⟩ = false := (hf _ _ (by simp)).trans (by simp)
  have f2 : w1.frozen? ⟨w.heap.size, 2, none⟩ = false := (hf _ _ (by simp)).trans (by simp)
  have f3 : w1.frozen? ⟨w.heap.size, 3, none⟩ = false := (hf _ _ (by simp)).trans (by simp)
  have f4 : w1.frozen? ⟨w.heap.size, 4, none⟩ = false := (hf _ _ (by simp)).trans (by simp)
  have f5 : w1.frozen? ⟨w.heap.size, 5, none⟩ = false := (hf _ _ (by simp)).trans (by simp)
  have f6 : w1.frozen? ⟨w.heap.size, 6, none⟩ = false := (hf _ _ (by simp)).trans (by simp)
  have f7 : w1.frozen? ⟨w.heap.size, 7, none⟩ = false := (hf _ _ (by simp)).trans (by simp)
  clear hc hf
  have hz : w.heap.size < w1.heap.size := by have := hb1.size; simp at this; omega
  go_wp2_with fail
  refine (outW_any _ _).mono ?_
  rintro e w' ⟨rfl, rfl⟩
  go_wp2_with fail
  go_region
  go_wp2_with fail
  have hb := below_boxed hb1
  exact bodyPost_ret (v := .tuple #[.int .u16 (wadd a b c), .agg #[.bool (bitW (wadd a b c) 15), .bool (wadd a b c == 0), .bool (bitW (wadd a b c) 13), .bool (decide (4095 < a % 4096 + b % 4096 + cN c)), .bool (bitW (wadd a b c) 11), .bool (outW (sgnW a + sgnW b + cN c)), .bool false, .bool (decide (65535 < a + b + cN c))]])
    (by simp [results, Tryz.results179, go_sem, hz, k0, k1, k2, k3, k4, k5, k6, k7]) rfl ⟨rfl, (below_put8 hb hz _ _ _ _ _ _ _ _ _).drew⟩

end Go.Proofs.YtcfkpeemhleleaaGreatDoor
/- The contracts of layer 3's three sums with their flags, and of the laws' fixed answer. -/
namespace Go.Proofs.YtcfkpeemhleleaaGreatDoor
open Go.RowKit

set_option maxHeartbeats 800000 in
theorem wideAdd_any (a b f : Int) (w : World) (a0 : 0 ≤ a) (a1 : a ≤ 65535) (b0 : 0 ≤ b) (b1 : b ≤ 65535) (f0 : 0 ≤ f) (f1 : f ≤ 255) :
    Calls Tryz.prog 136 #[.int .u16 a, .int .u16 b, .int .u8 f] w fun e w' => e = .returned (.tuple #[.int .u16 (wadd a b false), .int .u8 (addWF a b f)]) ∧ Below w.heap.size w w' := by
  have HS := Lib.hid (has_128 f f0 f1)
  have HZ := Lib.hid (has_64 f f0 f1)
  have HP := Lib.hid (has_4 f f0 f1)
  go_enter Tryz.func136, Tryz.ntmps136
  go_wp2_with fail
  refine (sum_any _ _ _ false _ a0 a1 b0 b1 rfl).mono ?_
  rintro e w1 ⟨rfl, hb1⟩
  go_wp2_with fail
  refine (has_is _ _ _ _ HS.out).mono ?_
  rintro e w' ⟨rfl, rfl⟩
  go_wp2_with fail
  refine (has_is _ _ _ _ HZ.out).mono ?_
  rintro e w' ⟨rfl, rfl⟩
  go_wp2_with fail
  refine (has_is _ _ _ _ HP.out).mono ?_
  rintro e w' ⟨rfl, rfl⟩
  go_wp2_with fail
  refine (pack_any _ _ _ _ _ _ _ _ _).mono ?_
  rintro e w2 ⟨rfl, hb2⟩
  go_wp2_with fail
  go_ret2
  exact ⟨rfl, below_step hb1 (below_boxed hb2)⟩

end Go.Proofs.YtcfkpeemhleleaaGreatDoor
/- The contracts of layer 1's other calls. -/
namespace Go.Proofs.YtcfkpeemhleleaaGreatDoor
open Go.RowKit

set_option maxHeartbeats 400000 in
theorem bitAt_any (k : Int) (w : World) (h0 : 0 ≤ k) (h7 : k ≤ 7) :
    Calls Tryz.prog 193 #[.int .i64 k] w fun e w' => e = .returned (.int .u8 (128 / 2 ^ k.toNat)) ∧ w = w' := by
  go_enter Tryz.func193, Tryz.ntmps193
  go_wp2
  go_ret
  exact ⟨rfl, rfl⟩

set_option maxHeartbeats 400000 in
theorem even_any (b : Int) (w : World) (h0 : 0 ≤ b) (h1 : b ≤ 255) :
    Calls Tryz.prog 173 #[.int .u8 b] w fun e w' => e = .returned (.bool (evenB b)) ∧ w = w' := by
  go_enter Tryz.func173, Tryz.ntmps173
  go_wp2_with fail
  go_loop [3, 5] (fun v i => ∃ k : Nat, k ≤ 8 ∧ i = .int .i64 k ∧ v = .bool (evenTo b k)) (fun _ i => 8 - (intOf i).toNat)
  case atStart => exact ⟨0, Nat.zero_le _, rfl, rfl⟩
  case round =>
    obtain ⟨k, hk, rfl, rfl⟩ := hrel
    by_cases hlt : k < 8
    · have hbit := has_bit b h0 h1 k hlt
      have hsucc := evenTo_succ b k
      have HS := Lib.hid hsucc
      clear hsucc
      have HB := Lib.hid hbit
      clear hbit
      generalize hx : bitN b k = x at HS HB
      generalize evenTo b k = ev at HS ⊢
      cases x
      all_goals
        go_wp2_with fail
        refine (bitAt_any _ _ (by omega) (by omega)).mono ?_
        rintro e w' ⟨rfl, rfl⟩
        go_wp2_with fail
        refine (has_is _ _ _ _ HB.out).mono ?_
        rintro e w' ⟨rfl, rfl⟩
        go_wp2_with fail
        go_round
        case rel => exact ⟨k + 1, by omega, by go_num, by rw [HS.out]; simp⟩
        case measure => simp [intOf]; omega
    · obtain rfl : k = 8 := by omega
      go_wp2_with fail
      go_ret
      exact ⟨rfl, rfl⟩

set_option maxHeartbeats 400000 in
theorem of_any (b : Int) (w : World) :
    Calls Tryz.prog 172 #[.int .u8 b] w fun e w' => e = .returned (.int .u8 (ofB b)) ∧ w = w' := by
  go_enter Tryz.func172, Tryz.ntmps172
  go_wp2_with fail
  refine (with_any _ _ _ _).mono ?_
  rintro e w' ⟨rfl, rfl⟩
  go_wp2_with fail
  go_ret
  exact ⟨rfl, rfl⟩

end Go.Proofs.YtcfkpeemhleleaaGreatDoor
/- The document's Even: its contract; and all of layer 1's plain calls with it. -/
namespace Go.Proofs.YtcfkpeemhleleaaGreatDoor
open Go.RowKit

end Go.Proofs.YtcfkpeemhleleaaGreatDoor
/- flag.Cond and the document's Cond: their contracts. -/
namespace Go.Proofs.YtcfkpeemhleleaaGreatDoor
open Go.RowKit

theorem eight_cases (k : Int) (h0 : 0 ≤ k) (h7 : k ≤ 7) : k = 0 ∨ k = 1 ∨ k = 2 ∨ k = 3 ∨ k = 4 ∨ k = 5 ∨ k = 6 ∨ k = 7 := by omega

set_option maxHeartbeats 1600000 in
theorem cond_any (f k : Int) (w : World) (h0 : 0 ≤ f) (h1 : f ≤ 255) :
    Calls Tryz.prog 86 #[.int .u8 f, .int .i64 k] w fun e w' => e = .returned (.bool (condB f k)) ∧ Below w.heap.size w w' := by
  have a64 := Lib.hid (has_64 f h0 h1)
  have a1 := Lib.hid (has_1 f h0 h1)
  have a4 := Lib.hid (has_4 f h0 h1)
  have a128 := Lib.hid (has_128 f h0 h1)
  by_cases hk : 0 ≤ k ∧ k ≤ 7
  · obtain ⟨k0, k7⟩ := hk
    rcases eight_cases k k0 k7 with rfl | rfl | rfl | rfl | rfl | rfl | rfl | rfl
    · clear k0 k7
      go_enter Tryz.func86, Tryz.ntmps86
      go_wp2_with fail
      refine (has_is _ _ _ _ a64.out).mono ?_
      rintro e w' ⟨rfl, rfl⟩
      go_wp2_with fail
      go_ret
      exact ⟨by rw [condB_0]; rfl, (Below.refl _ _).alloc (Nat.le_refl _) _⟩
    · clear k0 k7
      go_enter Tryz.func86, Tryz.ntmps86
      go_wp2_with fail
      refine (has_is _ _ _ _ a64.out).mono ?_
      rintro e w' ⟨rfl, rfl⟩
      go_wp2_with fail
      go_ret
      exact ⟨by rw [condB_1]; rfl, (Below.refl _ _).alloc (Nat.le_refl _) _⟩
    · clear k0 k7
      go_enter Tryz.func86, Tryz.ntmps86
      go_wp2_with fail
      refine (has_is _ _ _ _ a1.out).mono ?_
      rintro e w' ⟨rfl, rfl⟩
      go_wp2_with fail
      go_ret
      exact ⟨by rw [condB_2]; rfl, (Below.refl _ _).alloc (Nat.le_refl _) _⟩
    · clear k0 k7
      go_enter Tryz.func86, Tryz.ntmps86
      go_wp2_with fail
      refine (has_is _ _ _ _ a1.out).mono ?_
      rintro e w' ⟨rfl, rfl⟩
      go_wp2_with fail
      go_ret
      exact ⟨by rw [condB_3]; rfl, (Below.refl _ _).alloc (Nat.le_refl _) _⟩
    · clear k0 k7
      go_enter Tryz.func86, Tryz.ntmps86
      go_wp2_with fail
      refine (has_is _ _ _ _ a4.out).mono ?_
      rintro e w' ⟨rfl, rfl⟩
      go_wp2_with fail
      go_ret
      exact ⟨by rw [condB_4]; rfl, (Below.refl _ _).alloc (Nat.le_refl _) _⟩
    · clear k0 k7
      go_enter Tryz.func86, Tryz.ntmps86
      go_wp2_with fail
      refine (has_is _ _ _ _ a4.out).mono ?_
      rintro e w' ⟨rfl, rfl⟩
      go_wp2_with fail
      go_ret
      exact ⟨by rw [condB_5]; rfl, (Below.refl _ _).alloc (Nat.le_refl _) _⟩
    · clear k0 k7
      go_enter Tryz.func86, Tryz.ntmps86
      go_wp2_with fail
      refine (has_is _ _ _ _ a128.out).mono ?_
      rintro e w' ⟨rfl, rfl⟩
      go_wp2_with fail
      go_ret
      exact ⟨by rw [condB_6]; rfl, (Below.refl _ _).alloc (Nat.le_refl _) _⟩
    · clear k0 k7
      go_enter Tryz.func86, Tryz.ntmps86
      go_wp2_with fail
      refine (has_is _ _ _ _ a128.out).mono ?_
      rintro e w' ⟨rfl, rfl⟩
      go_wp2_with fail
      go_ret
      exact ⟨by rw [condB_7]; rfl, (Below.refl _ _).alloc (Nat.le_refl _) _⟩
  · have hv : condB f k = false := by simp [condB, hk]
    have HV := Lib.hid hv; clear hv
    by_cases hn : k < 0
    · go_enter Tryz.func86, Tryz.ntmps86
      go_wp2_with fail
      go_ret
      exact ⟨by rw [HV.out]; rfl, Below.refl _ _⟩
    · have hg : 7 < k := by omega
      have hn' : 0 ≤ k := by omega
      clear hk hn
      go_enter Tryz.func86, Tryz.ntmps86
      go_wp2_with fail
      go_ret
      exact ⟨by rw [HV.out]; rfl, Below.refl _ _⟩

end Go.Proofs.YtcfkpeemhleleaaGreatDoor
/- The processor's registers, latch and places: their contracts. -/
namespace Go.Proofs.YtcfkpeemhleleaaGreatDoor
open Go.RowKit
set_option maxRecDepth 100000
set_option linter.unusedVariables false
set_option linter.unusedSimpArgs false
variable {w0 : World} {b f base : Nat} {x : Cp} {v : Value} {y : Fl} {va : Value}

theorem hiX_bd (r : Rg) (ok : r.Ok) (i : Int) : B8 (hiX r i) := by
  unfold hiX
  have h1 := ok.ix
  have h2 := ok.iy
  have h3 := ok.h
  unfold B8 B16 at *
  split
  · omega
  · split <;> omega
theorem loX_bd (r : Rg) (ok : r.Ok) (i : Int) : B8 (loX r i) := by
  unfold loX
  have h3 := ok.l
  unfold B8 at *
  split
  · omega
  · split <;> omega
theorem byteV_bd (r : Rg) (ok : r.Ok) (k i : Int) : B8 (byteV r k i) := by
  have h1 := hiX_bd r ok i
  have h2 := loX_bd r ok i
  unfold byteV
  split
  · exact ok.b
  split
  · exact ok.c
  split
  · exact ok.d
  split
  · exact ok.e
  split
  · exact h1
  split
  · exact h2
  split
  · exact ok.a
  · exact ⟨by omega, by omega⟩
theorem regS_bd (ok : x.Ok) (k : Int) : B8 (regS x k) := by
  unfold regS
  split
  · exact ok.latch
  · exact byteV_bd _ ok.r _ _
theorem pairV_bd (r : Rg) (ok : r.Ok) (k i : Int) : B16 (pairV r k i) := by
  have h0 := ok.b
  have h1 := ok.c
  have h2 := ok.d
  have h3 := ok.e
  have h4 := ok.h
  have h5 := ok.l
  have h6 := ok.ix
  have h7 := ok.iy
  have h8 := ok.sp
  unfold B8 B16 at *
  unfold pairV
  repeat' split
  all_goals omega
theorem pairS_bd (ok : x.Ok) (k : Int) : B16 (pairS x k) := pairV_bd _ ok.r _ _

set_option maxHeartbeats 800000 in
theorem reg_any (k : Int) (w : World) (h : Mc w0 w b f base x v y va) (ok : x.Ok) :
    Calls Tryz.prog 68 #[.pointer (some ⟨b, 0, none⟩), .int .i64 k] w fun e w' => e = .returned (.int .u8 (regS x k)) ∧ ∃ m, w' = w.drewN m := by
  unfold regS
  by_cases hk : k = 6
  · subst hk
    rw [if_pos rfl]
    have c1 := h.cell 42 _ rfl
    clear h
    go_enter Tryz.func68, Tryz.ntmps68
    go_wp2_with fail
    go_ret
    exact ⟨rfl, 0, rfl⟩
  · rw [if_neg hk]
    have c1 := h.cell 41 _ rfl
    have d1 : (k == 6) = false := by simpa using hk
    have HB := Lib.hid (fun n => byte_any b x.r k x.ix (w.drewN n) (h.drewN n).reg ok.r)
    clear h hk
    go_enter Tryz.func68, Tryz.ntmps68
    go_wp2_with fail
    go_quiet ((go_at_call 69; exact quiet_eq (HB.out _)))
    go_wp2_with fail
    go_ret
    exact ⟨rfl, _, rfl⟩
set_option maxHeartbeats 800000 in
theorem pairC_any (k : Int) (w : World) (h : Mc w0 w b f base x v y va) (ok : x.Ok) :
    Calls Tryz.prog 62 #[.pointer (some ⟨b, 0, none⟩), .int .i64 k] w fun e w' => e = .returned (.int .u16 (pairS x k)) ∧ ∃ m, w' = w.drewN m := by
  have c1 := h.cell 41 _ rfl
  have HB := Lib.hid (fun n => pairD_any b x.r k x.ix (w.drewN n) (h.drewN n).reg ok.r)
  clear h
  have HB2 := Lib.hid (fun n => (HB.out n).mono (R' := fun e w'' => e = .returned (.int .u16 (pairS x k)) ∧ ∃ m, w'' = w.drewN m) fun _ _ ⟨he, m, hm⟩ => ⟨he, n + m, by rw [hm]; simp [World.drewN, Nat.add_assoc]⟩)
  clear HB
  go_enter Tryz.func62, Tryz.ntmps62
  go_wp2_with fail
  go_quiet ((go_at_call 89; exact HB2.out _))
  go_wp2_with fail
  go_ret
  exact ⟨rfl, _, rfl⟩
theorem Mc.drews {w w' : World} (h : Mc w0 w b f base x v y va) (hd : ∃ m, w' = w.drewN m) : Mc w0 w' b f base x v y va := by
  obtain ⟨m, rfl⟩ := hd
  exact h.drewN m
theorem tickM (w : World) (h : Mc w0 w b f base x v y va) (ok : x.Ok) :
    Calls Tryz.prog 40 #[.pointer (some ⟨b, 0, none⟩)] w fun e w' => e = .returned (.tuple #[]) ∧ Mc w0 w' b f base (tickS x) v y va :=
  (tick_any b x.r w h.reg ok.r.r).mono fun _ _ ⟨he, hw, hr⟩ => ⟨he, h.puts _ hw hr⟩
theorem putByteM (k i n : Int) (w : World) (h : Mc w0 w b f base x v y va) (ok : x.Ok) (n8 : B8 n) :
    Calls Tryz.prog 65 #[.pointer (some ⟨b, 0, none⟩), .int .i64 k, .int .i64 i, .int .u8 n] w fun e w' => e = .returned (.tuple #[]) ∧ Mc w0 w' b f base { x with r := putV x.r k i n } v y va ∧ Kb b w w' :=
  (putByte_any b x.r k i n w h.reg ok.r n8.1 n8.2).mono fun _ _ ⟨he, hw, hr⟩ => ⟨he, h.puts _ hw hr, Kb.of_wrote hw⟩
theorem putPairM (k n : Int) (w : World) (h : Mc w0 w b f base x v y va) (n16 : B16 n) :
    Calls Tryz.prog 139 #[.pointer (some ⟨b, 0, none⟩), .int .i64 k, .int .i64 x.ix, .int .u16 n] w fun e w' => e = .returned (.tuple #[]) ∧ Mc w0 w' b f base (putPairS x k n) v y va :=
  (putPair_any b x.r k x.ix n w h.reg n16.1 n16.2).mono fun _ _ ⟨he, hw, hr⟩ => ⟨he, h.puts _ hw hr⟩
set_option maxHeartbeats 800000 in
theorem putReg_any (k n : Int) (w : World) (h : Mc w0 w b f base x v y va) (ok : x.Ok) (n8 : B8 n) :
    Calls Tryz.prog 64 #[.pointer (some ⟨b, 0, none⟩), .int .i64 k, .int .u8 n] w fun e w' => e = .returned (.tuple #[]) ∧ Mc w0 w' b f base (putRegS x k n) v y va ∧ Kb b w w' := by
  unfold putRegS
  by_cases hk : k = 6
  · subst hk
    rw [if_pos rfl]
    have c1 := h.cell 42 _ rfl
    have f1 := h.free 42
    have H := Lib.hid (h.set 42 (.int .u8 n) { x with latch := n } (by decide) rfl rfl)
    clear h
    go_enter Tryz.func64, Tryz.ntmps64
    go_wp2_with fail
    refine bodyPost_ret (results_none rfl _ _ _) rfl ?_
    exact ⟨rfl, H.out, Kb.setB _ _ _ _⟩
  · rw [if_neg hk]
    have d1 : (k == 6) = false := by simpa using hk
    have HS : w.cell? ⟨b, 41, none⟩ = some (.int .i64 x.ix) := h.cell 41 _ rfl
    have HB := Lib.hid (putByteM k x.ix n w.drew h.drew ok n8)
    clear h hk
    go_enter Tryz.func64, Tryz.ntmps64
    go_wp2_with fail
    first | refine wp_region_noPanic ?_ | skip
    refine wp_region_U (n := 9) (S := (fun u => u.cell? ⟨b, 41, none⟩ = some (.int .i64 x.ix))) (by kernel_rfl) (by kernel_rfl) HS (fun hHeld => ?_)
    refine wpAnyU_take (i := 0) (v := ?v1) rfl (by kernel_rfl) (by kernel_rfl) (by kernel_rfl) (by kernel_rfl) (fun _ _ _ h => h) (Or.inl ⟨by rfl, ?hy1⟩) (by assumption) ?rest1
    case hy1 => (intro w hSw; (try dsimp only at hSw); go_simp; try with_reducible rfl)
    try simp only [Act.put, List.getElem_toArray, List.getElem_cons_succ, List.getElem_cons_zero, List.setIfInBounds_toArray, List.set_cons_zero, List.set_cons_succ]
    refine wpAnyU_take (i := 1) (v := ?v2) rfl (by kernel_rfl) (by kernel_rfl) (by kernel_rfl) (by kernel_rfl) (fun _ _ _ h => h) (Or.inl ⟨by rfl, ?hy2⟩) (by assumption) ?rest2
    case hy2 => (intro w hSw; (try dsimp only at hSw); go_simp; try with_reducible rfl)
    try simp only [Act.put, List.getElem_toArray, List.getElem_cons_succ, List.getElem_cons_zero, List.setIfInBounds_toArray, List.set_cons_zero, List.set_cons_succ]
    refine wpAnyU_take (i := 2) (v := ?v3) rfl (by kernel_rfl) (by kernel_rfl) (by kernel_rfl) (by kernel_rfl) (fun _ _ _ h => h) (Or.inl ⟨by rfl, ?hy3⟩) (by assumption) ?rest3
    case hy3 => (intro w hSw; (try dsimp only at hSw); go_simp; try with_reducible rfl)
    try simp only [Act.put, List.getElem_toArray, List.getElem_cons_succ, List.getElem_cons_zero, List.setIfInBounds_toArray, List.set_cons_zero, List.set_cons_succ]
    refine wpAnyU_take (i := 3) (v := ?v4) rfl (by kernel_rfl) (by kernel_rfl) (by kernel_rfl) (by kernel_rfl) (fun _ _ _ h => h) (Or.inl ⟨by rfl, ?hy4⟩) (by assumption) ?rest4
    case hy4 => (intro w hSw; (try dsimp only at hSw); go_simp; try with_reducible rfl)
    try simp only [Act.put, List.getElem_toArray, List.getElem_cons_succ, List.getElem_cons_zero, List.setIfInBounds_toArray, List.set_cons_zero, List.set_cons_succ]
    refine wpAnyU_take (i := 4) (v := ?v5) rfl (by kernel_rfl) (by kernel_rfl) (by kernel_rfl) (by kernel_rfl) (fun _ _ _ h => h) (Or.inl ⟨by rfl, ?hy5⟩) (by assumption) ?rest5
    case hy5 => (intro w hSw; (try dsimp only at hSw); go_simp; try with_reducible rfl)
    try simp only [Act.put, List.getElem_toArray, List.getElem_cons_succ, List.getElem_cons_zero, List.setIfInBounds_toArray, List.set_cons_zero, List.set_cons_succ]
    refine wpAnyU_take (i := 5) (v := ?v6) rfl (by kernel_rfl) (by kernel_rfl) (by kernel_rfl) (by kernel_rfl) (fun _ _ _ h => h) (Or.inl ⟨by rfl, ?hy6⟩) (by assumption) ?rest6
    case hy6 => (intro w hSw; (try dsimp only at hSw); go_simp; try with_reducible rfl)
    try simp only [Act.put, List.getElem_toArray, List.getElem_cons_succ, List.getElem_cons_zero, List.setIfInBounds_toArray, List.set_cons_zero, List.set_cons_succ]
    refine wpAnyU_take (i := 6) (v := ?v7) rfl (by kernel_rfl) (by kernel_rfl) (by kernel_rfl) (by kernel_rfl) (fun _ _ _ h => h) (Or.inl ⟨by rfl, ?hy7⟩) (by assumption) ?rest7
    case hy7 => (intro w hSw; (try dsimp only at hSw); go_simp; try with_reducible rfl)
    try simp only [Act.put, List.getElem_toArray, List.getElem_cons_succ, List.getElem_cons_zero, List.setIfInBounds_toArray, List.set_cons_zero, List.set_cons_succ]
    refine wpAnyU_take (i := 7) (v := ?v8) rfl (by kernel_rfl) (by kernel_rfl) (by kernel_rfl) (by kernel_rfl) (fun _ _ _ h => h) (Or.inl ⟨by rfl, ?hy8⟩) (by assumption) ?rest8
    case hy8 => (intro w hSw; (try dsimp only at hSw); go_simp; try with_reducible rfl)
    try simp only [Act.put, List.getElem_toArray, List.getElem_cons_succ, List.getElem_cons_zero, List.setIfInBounds_toArray, List.set_cons_zero, List.set_cons_succ]
    refine wpAnyU_take (i := 8) (v := ?v9) rfl (by kernel_rfl) (by kernel_rfl) (by kernel_rfl) (by kernel_rfl) (fun _ _ _ h => h) (Or.inl ⟨by rfl, ?hy9⟩) (by assumption) ?rest9
    case hy9 => (intro w hSw; (try dsimp only at hSw); go_simp; try with_reducible rfl)
    try simp only [Act.put, List.getElem_toArray, List.getElem_cons_succ, List.getElem_cons_zero, List.setIfInBounds_toArray, List.set_cons_zero, List.set_cons_succ]
    refine wpAnyU_tail rfl (by kernel_rfl) ?_
    simp only [List.drop_succ_cons, List.drop_zero]
    go_wp2_with fail
    refine HB.out.mono ?_
    rintro e w' ⟨rfl, hm, hkb⟩
    have HK := Lib.hid ((Kb.drew b w).trans hkb)
    clear hkb
    go_wp2_with fail
    refine NoPanic.normal ?_
    go_wp2_with fail
    go_end0
    exact ⟨rfl, hm, HK.out⟩
theorem wrap16 (n : Int) : IntKind.u16.wrap n = n % 65536 := by simp [IntKind.wrap, IntKind.bits, IntKind.signed]
theorem w16_bd (n : Int) : B16 (w16 n) := by unfold w16 B16; omega
set_option maxHeartbeats 800000 in
theorem addTo_any (k n : Int) (w : World) (h : Mc w0 w b f base x v y va) (ok : x.Ok) (hn : n = 1 ∨ n = -1) :
    Calls Tryz.prog 134 #[.pointer (some ⟨b, 0, none⟩), .int .i64 k, .int .i64 n] w fun e w' => e = .returned (.tuple #[]) ∧ Mc w0 w' b f base (addToS x k n) v y va := by
  obtain ⟨p, hp⟩ : ∃ p, pairS x k = p := ⟨_, rfl⟩
  have hpb := pairS_bd ok k
  rw [hp] at hpb
  have HS : w.cell? ⟨b, 41, none⟩ = some (.int .i64 x.ix) := h.cell 41 _ rfl
  have HP := Lib.hid (pairC_any k w.drew h.drew ok)
  rw [hp] at HP
  have HB := Lib.hid (fun u (hu : ∃ m, u = w.drew.drewN m) => putPairM k (w16 (p + n)) u (h.drew.drews hu) (w16_bd _))
  have HC := Lib.hid (fun u (hu : ∃ m, u = w.drew.drewN m) => (h.drew.drews hu).cell 41 _ rfl)
  rw [show addToS x k n = putPairS x k (w16 (p + n)) by unfold addToS; rw [hp]]
  have e1 : IntKind.u16.wrap (p + IntKind.u16.wrap n) = w16 (p + n) := by rw [wrap16, wrap16]; unfold w16; omega
  clear h hpb hp hn
  go_enter Tryz.func134, Tryz.ntmps134
  go_wp2_with fail
  first | refine wp_region_noPanic ?_ | skip
  refine wp_region_U (n := 14) (S := (fun u => u.cell? ⟨b, 41, none⟩ = some (.int .i64 x.ix))) (by kernel_rfl) (by kernel_rfl) HS (fun hHeld => ?_)
  refine wpAnyU_take (i := 0) (v := ?v10) rfl (by kernel_rfl) (by kernel_rfl) (by kernel_rfl) (by kernel_rfl) (fun _ _ _ h => h) (Or.inl ⟨by rfl, ?hy10⟩) (by assumption) ?rest10
  case hy10 => (intro w hSw; (try dsimp only at hSw); go_simp; try with_reducible rfl)
  try simp only [Act.put, List.getElem_toArray, List.getElem_cons_succ, List.getElem_cons_zero, List.setIfInBounds_toArray, List.set_cons_zero, List.set_cons_succ]
  refine wpAnyU_take (i := 1) (v := ?v11) rfl (by kernel_rfl) (by kernel_rfl) (by kernel_rfl) (by kernel_rfl) (fun _ _ _ h => h) (Or.inl ⟨by rfl, ?hy11⟩) (by assumption) ?rest11
  case hy11 => (intro w hSw; (try dsimp only at hSw); go_simp; try with_reducible rfl)
  try simp only [Act.put, List.getElem_toArray, List.getElem_cons_succ, List.getElem_cons_zero, List.setIfInBounds_toArray, List.set_cons_zero, List.set_cons_succ]
  refine wpAnyU_take (i := 2) (v := ?v12) rfl (by kernel_rfl) (by kernel_rfl) (by kernel_rfl) (by kernel_rfl) (fun _ _ _ h => h) (Or.inl ⟨by rfl, ?hy12⟩) (by assumption) ?rest12
  case hy12 => (intro w hSw; (try dsimp only at hSw); go_simp; try with_reducible rfl)
  try simp only [Act.put, List.getElem_toArray, List.getElem_cons_succ, List.getElem_cons_zero, List.setIfInBounds_toArray, List.set_cons_zero, List.set_cons_succ]
  refine wpAnyU_take (i := 3) (v := ?v13) rfl (by kernel_rfl) (by kernel_rfl) (by kernel_rfl) (by kernel_rfl) (fun _ _ _ h => h) (Or.inl ⟨by rfl, ?hy13⟩) (by assumption) ?rest13
  case hy13 => (intro w hSw; (try dsimp only at hSw); go_simp; try with_reducible rfl)
  try simp only [Act.put, List.getElem_toArray, List.getElem_cons_succ, List.getElem_cons_zero, List.setIfInBounds_toArray, List.set_cons_zero, List.set_cons_succ]
  refine wpAnyU_take (i := 4) (v := ?v14) rfl (by kernel_rfl) (by kernel_rfl) (by kernel_rfl) (by kernel_rfl) (fun _ _ _ h => h) (Or.inl ⟨by rfl, ?hy14⟩) (by assumption) ?rest14
  case hy14 => (intro w hSw; (try dsimp only at hSw); go_simp; try with_reducible rfl)
  try simp only [Act.put, List.getElem_toArray, List.getElem_cons_succ, List.getElem_cons_zero, List.setIfInBounds_toArray, List.set_cons_zero, List.set_cons_succ]
  refine wpAnyU_take (i := 5) (v := ?v15) rfl (by kernel_rfl) (by kernel_rfl) (by kernel_rfl) (by kernel_rfl) (fun _ _ _ h => h) (Or.inl ⟨by rfl, ?hy15⟩) (by assumption) ?rest15
  case hy15 => (intro w hSw; (try dsimp only at hSw); go_simp; try with_reducible rfl)
  try simp only [Act.put, List.getElem_toArray, List.getElem_cons_succ, List.getElem_cons_zero, List.setIfInBounds_toArray, List.set_cons_zero, List.set_cons_succ]
  refine wpAnyU_take (i := 6) (v := ?v16) rfl (by kernel_rfl) (by kernel_rfl) (by kernel_rfl) (by kernel_rfl) (fun _ _ _ h => h) (Or.inl ⟨by rfl, ?hy16⟩) (by assumption) ?rest16
  case hy16 => (intro w hSw; (try dsimp only at hSw); go_simp; try with_reducible rfl)
  try simp only [Act.put, List.getElem_toArray, List.getElem_cons_succ, List.getElem_cons_zero, List.setIfInBounds_toArray, List.set_cons_zero, List.set_cons_succ]
  refine wpAnyU_take (i := 7) (v := ?v17) rfl (by kernel_rfl) (by kernel_rfl) (by kernel_rfl) (by kernel_rfl) (fun _ _ _ h => h) (Or.inl ⟨by rfl, ?hy17⟩) (by assumption) ?rest17
  case hy17 => (intro w hSw; (try dsimp only at hSw); go_simp; try with_reducible rfl)
  try simp only [Act.put, List.getElem_toArray, List.getElem_cons_succ, List.getElem_cons_zero, List.setIfInBounds_toArray, List.set_cons_zero, List.set_cons_succ]
  refine wpAnyU_take (i := 8) (v := ?v18) rfl (by kernel_rfl) (by kernel_rfl) (by kernel_rfl) (by kernel_rfl) (fun _ _ _ h => h) (Or.inl ⟨by rfl, ?hy18⟩) (by assumption) ?rest18
  case hy18 => (intro w hSw; (try dsimp only at hSw); go_simp; try with_reducible rfl)
  try simp only [Act.put, List.getElem_toArray, List.getElem_cons_succ, List.getElem_cons_zero, List.setIfInBounds_toArray, List.set_cons_zero, List.set_cons_succ]
  refine wpAnyU_take (i := 9) (v := ?v19) rfl (by kernel_rfl) (by kernel_rfl) (by kernel_rfl) (by kernel_rfl) (fun _ _ _ h => h) (Or.inl ⟨by rfl, ?hy19⟩) (by assumption) ?rest19
  case hy19 => (intro w hSw; (try dsimp only at hSw); go_simp; try with_reducible rfl)
  try simp only [Act.put, List.getElem_toArray, List.getElem_cons_succ, List.getElem_cons_zero, List.setIfInBounds_toArray, List.set_cons_zero, List.set_cons_succ]
  refine wpAnyU_take (i := 11) (v := ?v20) rfl (by kernel_rfl) (by kernel_rfl) (by kernel_rfl) (by kernel_rfl) (fun _ _ _ h => h) (Or.inl ⟨by rfl, ?hy20⟩) (by assumption) ?rest20
  case hy20 => (intro w hSw; (try dsimp only at hSw); go_simp; try with_reducible rfl)
  try simp only [Act.put, List.getElem_toArray, List.getElem_cons_succ, List.getElem_cons_zero, List.setIfInBounds_toArray, List.set_cons_zero, List.set_cons_succ]
  refine wpAnyU_take (i := 12) (v := ?v21) rfl (by kernel_rfl) (by kernel_rfl) (by kernel_rfl) (by kernel_rfl) (fun _ _ _ h => h) (Or.inl ⟨by rfl, ?hy21⟩) (by assumption) ?rest21
  case hy21 => (intro w hSw; (try dsimp only at hSw); go_simp; try with_reducible rfl)
  try simp only [Act.put, List.getElem_toArray, List.getElem_cons_succ, List.getElem_cons_zero, List.setIfInBounds_toArray, List.set_cons_zero, List.set_cons_succ]
  refine wpAnyU_ready (i := 10) (by kernel_rfl) (by kernel_rfl) rfl (fun K hK => ?_)
  go_simp
  refine (HP.out).mono ?_
  rintro e w' ⟨rfl, hm⟩
  go_wp2_with fail
  refine hK.out _ _ (HC.out _ hm) (fun hHeld => ?_)
  clear hK K
  try simp only [Act.put, List.getElem_toArray, List.getElem_cons_succ, List.getElem_cons_zero, List.setIfInBounds_toArray, List.set_cons_zero, List.set_cons_succ]
  have HB1 := Lib.hid (HB.out _ hm)
  clear HB HC HP
  refine wpAnyU_take (i := 13) (v := ?v22) rfl (by kernel_rfl) (by kernel_rfl) (by kernel_rfl) (by kernel_rfl) (fun _ _ _ h => h) (Or.inl ⟨by rfl, ?hy22⟩) (by assumption) ?rest22
  case hy22 => (intro w hSw; (try dsimp only at hSw); go_simp; try with_reducible rfl)
  try simp only [Act.put, List.getElem_toArray, List.getElem_cons_succ, List.getElem_cons_zero, List.setIfInBounds_toArray, List.set_cons_zero, List.set_cons_succ]
  refine wpAnyU_tail rfl (by kernel_rfl) ?_
  simp only [List.drop_succ_cons, List.drop_zero]
  go_wp2_with fail
  refine HB1.out.mono ?_
  rintro e w' ⟨rfl, hm⟩
  go_wp2_with fail
  refine NoPanic.normal ?_
  go_wp2_with fail
  go_end0
  exact ⟨rfl, hm⟩
set_option maxHeartbeats 800000 in
theorem putF_any (g : Int) (w : World) (h : Mc w0 w b f base x v y va) :
    Calls Tryz.prog 120 #[.pointer (some ⟨b, 0, none⟩), .int .u8 g] w fun e w' => e = .returned (.tuple #[]) ∧ Mc w0 w' b f base (putFS x g) v y va := by
  have c1 := h.cell 1 _ rfl
  have c2 := h.cell 44 _ rfl
  have f1 := h.free 1
  have f2 := h.free 44
  have h1 := h.set 1 (.int .u8 g) { x with r := { x.r with f := g } } (by decide) rfl rfl
  have H := Lib.hid (h1.set 44 (.bool true) (putFS x g) (by decide) rfl rfl)
  clear h h1
  go_enter Tryz.func120, Tryz.ntmps120
  go_wp2_with fail
  go_end0
  exact ⟨rfl, H.out⟩
set_option maxHeartbeats 800000 in
theorem putAF_any (a g : Int) (w : World) (h : Mc w0 w b f base x v y va) :
    Calls Tryz.prog 117 #[.pointer (some ⟨b, 0, none⟩), .int .u8 a, .int .u8 g] w fun e w' => e = .returned (.tuple #[]) ∧ Mc w0 w' b f base (putAFS x a g) v y va := by
  have c1 := h.cell 0 _ rfl
  have f1 := h.free 0
  have h1 := h.set 0 (.int .u8 a) { x with r := { x.r with a := a } } (by decide) rfl rfl
  have H := Lib.hid (putF_any g _ h1)
  clear h h1
  go_enter Tryz.func117, Tryz.ntmps117
  go_wp2_with fail
  refine H.out.mono ?_
  rintro e w' ⟨rfl, hm⟩
  go_wp2_with fail
  go_end0
  exact ⟨rfl, hm⟩
theorem split_bits : ∀ w : Fin 512, bits .and .i64 (w.val : Int) 7 = (w.val : Int) % 8 ∧ bits .andNot .i64 (w.val : Int) 7 = (w.val : Int) - (w.val : Int) % 8 := by decide +kernel
theorem split_is (wh g k : Int) (w : World) (g0 : 0 ≤ g) (g1 : g < 500) (g8 : g % 8 = 0) (k0 : 0 ≤ k) (k7 : k ≤ 7) (hw : wh = g + k) : Calls Tryz.prog 63 #[.int .i64 wh] w fun e w' => e = .returned (.tuple #[.int .i64 g, .int .i64 k]) ∧ w = w' := by
  obtain ⟨e1, e2⟩ := split_bits ⟨wh.toNat, by omega⟩
  simp only [show ((wh.toNat : Nat) : Int) = wh by omega] at e1 e2
  rw [show wh % 8 = k by omega] at e1 e2
  rw [show wh - k = g by omega] at e2
  clear g0 g1 g8 k0 k7 hw
  go_enter Tryz.func63, Tryz.ntmps63
  go_wp2_with fail
  go_ret2
  exact ⟨rfl, rfl⟩
def behindS (x : Cp) (at_ : Int) : Cp := if at_ = 0 then { x with r := { x.r with pc := w16 (x.r.pc + 1) } } else if at_ = 4 then { x with r := { x.r with sp := w16 (x.r.sp + 1) } } else x
set_option maxHeartbeats 800000 in
theorem behind_any (at_ : Int) (w : World) (h : Mc w0 w b f base x v y va) :
    Calls Tryz.prog 51 #[.pointer (some ⟨b, 0, none⟩), .int .i64 at_] w fun e w' => e = .returned (.tuple #[]) ∧ Mc w0 w' b f base (behindS x at_) v y va := by
  unfold behindS
  by_cases h0 : at_ = 0
  · subst h0
    rw [if_pos rfl]
    have c1 := h.cell 22 _ rfl
    have f1 := h.free 22
    have e1 : IntKind.u16.wrap (x.r.pc + 1) = w16 (x.r.pc + 1) := wrap16 _
    have H := Lib.hid (h.set 22 (.int .u16 (w16 (x.r.pc + 1))) { x with r := { x.r with pc := w16 (x.r.pc + 1) } } (by decide) rfl rfl)
    generalize w16 (x.r.pc + 1) = q at *
    clear h
    go_enter Tryz.func51, Tryz.ntmps51
    go_wp2_with fail
    go_end0
    exact ⟨rfl, H.out⟩
  · rw [if_neg h0]
    by_cases h4 : at_ = 4
    · subst h4
      rw [if_pos rfl]
      have c1 := h.cell 21 _ rfl
      have f1 := h.free 21
      have e1 : IntKind.u16.wrap (x.r.sp + 1) = w16 (x.r.sp + 1) := wrap16 _
      have H := Lib.hid (h.set 21 (.int .u16 (w16 (x.r.sp + 1))) { x with r := { x.r with sp := w16 (x.r.sp + 1) } } (by decide) rfl rfl)
      generalize w16 (x.r.sp + 1) = q at *
      clear h
      go_enter Tryz.func51, Tryz.ntmps51
      go_wp2_with fail
      go_end0
      exact ⟨rfl, H.out⟩
    · rw [if_neg h4]
      have d0 : (at_ == 0) = false := by simpa using h0
      have d4 : (at_ == 4) = false := by simpa using h4
      have H := Lib.hid h
      clear h h0 h4
      go_enter Tryz.func51, Tryz.ntmps51
      go_wp2_with fail
      go_end0
      exact ⟨rfl, H.out⟩

end Go.Proofs.YtcfkpeemhleleaaGreatDoor
/- Where a cycle is; the bytes that a step reads and writes; conditions: their contracts. -/
namespace Go.Proofs.YtcfkpeemhleleaaGreatDoor
open Go.RowKit
set_option maxRecDepth 100000
set_option linter.unusedVariables false
set_option linter.unusedSimpArgs false
variable {w0 : World} {b f base : Nat} {x : Cp} {v : Value} {y : Fl} {va : Value}

/-- Where a place is, and what asking for it does. -/
def placeA (x : Cp) (at_ : Int) : Int := if at_ = 0 then x.r.pc else if at_ = 1 then (if x.ix = 0 then pairS x 2 else x.r.wz) else if at_ = 2 then pairS x 0 else if at_ = 3 then pairS x 1
  else if at_ = 4 then x.r.sp else if at_ = 5 then w16 (x.r.sp - 1) else if at_ = 6 then x.r.sp else if at_ = 7 then x.r.wz else if at_ = 8 then x.r.i * 256 + x.r.r else x.addr
def placeS (x : Cp) (at_ : Int) : Cp := if at_ = 5 then { x with r := { x.r with sp := w16 (x.r.sp - 1) } } else x
theorem placeA_bd (ok : x.Ok) (at_ : Int) : B16 (placeA x at_) := by
  have h0 := ok.r.pc
  have h1 := pairS_bd ok 2
  have h2 := pairS_bd ok 0
  have h3 := pairS_bd ok 1
  have h4 := ok.r.sp
  have h5 := w16_bd (x.r.sp - 1)
  have h6 := ok.r.wz
  have h7 := ok.r.i
  have h8 := ok.r.r
  have h9 := ok.addr
  unfold placeA
  unfold B8 B16 at *
  repeat' split
  all_goals omega
theorem placeS_ok (ok : x.Ok) (at_ : Int) : (placeS x at_).Ok := by
  unfold placeS
  split
  · exact ⟨{ ok.r with sp := w16_bd _ }, ok.addr, ok.latch, ok.dist⟩
  · exact ok

set_option maxHeartbeats 1600000 in
theorem place_any (at_ : Int) (w : World) (h : Mc w0 w b f base x v y va) (ok : x.Ok) (a0 : 0 ≤ at_) (a9 : at_ ≤ 9) :
    Calls Tryz.prog 88 #[.pointer (some ⟨b, 0, none⟩), .int .i64 at_] w fun e w' => e = .returned (.int .u16 (placeA x at_)) ∧ Mc w0 w' b f base (placeS x at_) v y va ∧ Kb b w w' := by
  have hc : at_ = 0 ∨ at_ = 1 ∨ at_ = 2 ∨ at_ = 3 ∨ at_ = 4 ∨ at_ = 5 ∨ at_ = 6 ∨ at_ = 7 ∨ at_ = 8 ∨ at_ = 9 := by omega
  have H := Lib.hid h
  have HP := Lib.hid (fun k => pairC_any k w h ok)
  have ci := h.cell 41 _ rfl
  have cp := h.cell 22 _ rfl
  have cs := h.cell 21 _ rfl
  have cw := h.cell 23 _ rfl
  have ca := h.cell 33 _ rfl
  have fs := h.free 21
  clear a0 a9
  rcases hc with rfl | rfl | rfl | rfl | rfl | rfl | rfl | rfl | rfl | rfl
  · clear h
    go_enter Tryz.func88, Tryz.ntmps88
    go_wp2_with fail
    go_ret
    exact ⟨rfl, H.out, Kb.refl _ _⟩
  · by_cases hi : x.ix = 0
    · rw [show placeA x 1 = pairS x 2 from by unfold placeA; simp [hi]]
      rw [hi] at ci
      clear h hi
      go_enter Tryz.func88, Tryz.ntmps88
      go_wp2_with fail
      refine (HP.out 2).mono ?_
      rintro e w' ⟨rfl, hd⟩
      have HD := Lib.hid hd
      clear hd
      go_wp2_with fail
      go_ret
      exact ⟨rfl, H.out.drews HD.out, Kb.drews HD.out⟩
    · rw [show placeA x 1 = x.r.wz from by unfold placeA; simp [hi]]
      have di : (x.ix != 0) = true := by simpa using hi
      clear h hi
      go_enter Tryz.func88, Tryz.ntmps88
      go_wp2_with fail
      go_ret
      exact ⟨rfl, H.out, Kb.refl _ _⟩
  · clear h
    go_enter Tryz.func88, Tryz.ntmps88
    go_wp2_with fail
    refine (HP.out 0).mono ?_
    rintro e w' ⟨rfl, hd⟩
    have HD := Lib.hid hd
    clear hd
    go_wp2_with fail
    go_ret
    exact ⟨rfl, H.out.drews HD.out, Kb.drews HD.out⟩
  · clear h
    go_enter Tryz.func88, Tryz.ntmps88
    go_wp2_with fail
    refine (HP.out 1).mono ?_
    rintro e w' ⟨rfl, hd⟩
    have HD := Lib.hid hd
    clear hd
    go_wp2_with fail
    go_ret
    exact ⟨rfl, H.out.drews HD.out, Kb.drews HD.out⟩
  · clear h
    go_enter Tryz.func88, Tryz.ntmps88
    go_wp2_with fail
    go_ret
    exact ⟨rfl, H.out, Kb.refl _ _⟩
  · have e1 : IntKind.u16.wrap (x.r.sp - 1) = w16 (x.r.sp - 1) := wrap16 _
    have H2 := Lib.hid (h.set 21 (.int .u16 (w16 (x.r.sp - 1))) (placeS x 5) (by decide) rfl rfl)
    rw [show placeA x 5 = w16 (x.r.sp - 1) from rfl]
    generalize w16 (x.r.sp - 1) = q at *
    clear h
    go_enter Tryz.func88, Tryz.ntmps88
    go_wp2_with fail
    go_ret
    exact ⟨rfl, H2.out, Kb.setB _ _ _ _⟩
  · clear h
    go_enter Tryz.func88, Tryz.ntmps88
    go_wp2_with fail
    go_ret
    exact ⟨rfl, H.out, Kb.refl _ _⟩
  · clear h
    go_enter Tryz.func88, Tryz.ntmps88
    go_wp2_with fail
    go_ret
    exact ⟨rfl, H.out, Kb.refl _ _⟩
  · have HI := Lib.hid (ir_any b x.r w h.reg ok.r)
    clear h
    go_enter Tryz.func88, Tryz.ntmps88
    go_wp2_with fail
    refine HI.out.mono ?_
    rintro e w' ⟨rfl, hb⟩
    have HB := Lib.hid hb
    clear hb
    go_wp2_with fail
    go_ret
    exact ⟨rfl, H.out.below HB.out, Kb.of_below HB.out⟩
  · clear h
    go_enter Tryz.func88, Tryz.ntmps88
    go_wp2_with fail
    go_ret
    exact ⟨rfl, H.out, Kb.refl _ _⟩

/-- The byte that a step writes or sends. -/
def byteS (x : Cp) (g k : Int) : Int := if g = 0 then regS x k else if g = 8 then byteV x.r k 0 else if g = 16 then x.r.f else if g = 48 then x.r.sp % 256 else if g = 56 then x.r.sp / 256 else if g = 64 then x.r.pc % 256 else if g = 72 then x.r.pc / 256 else 0
theorem byteS_bd (ok : x.Ok) (g k : Int) : B8 (byteS x g k) := by
  have h0 := regS_bd ok k
  have h1 := byteV_bd _ ok.r k 0
  have h2 := ok.r.f
  have h3 := ok.r.sp
  have h4 := ok.r.pc
  unfold byteS
  unfold B8 B16 at *
  repeat' split
  all_goals omega
set_option maxHeartbeats 1600000 in
theorem byteOf_any (g k : Int) (wh : Int) (w : World) (h : Mc w0 w b f base x v y va) (ok : x.Ok) (hg : g = 0 ∨ g = 8 ∨ g = 16 ∨ g = 48 ∨ g = 56 ∨ g = 64 ∨ g = 72 ∨ g = 80) (k0 : 0 ≤ k) (k7 : k ≤ 7) (hw : wh = g + k) :
    Calls Tryz.prog 52 #[.pointer (some ⟨b, 0, none⟩), .int .i64 wh] w fun e w' => e = .returned (.int .u8 (byteS x g k)) ∧ ∃ m, w' = w.drewN m := by
  have HS := Lib.hid (split_is wh g k w (by omega) (by omega) (by omega) k0 k7 hw)
  have HR := Lib.hid (reg_any k w h ok)
  have HB := Lib.hid (byte_any b x.r k 0 w h.reg ok.r)
  have cf := h.cell 1 _ rfl
  have cp := h.cell 22 _ rfl
  have cs := h.cell 21 _ rfl
  have p0 := ok.r.pc.1
  have p1 := ok.r.pc.2
  have s0 := ok.r.sp.1
  have s1 := ok.r.sp.2
  clear h hw
  rcases hg with rfl | rfl | rfl | rfl | rfl | rfl | rfl | rfl
  · go_enter Tryz.func52, Tryz.ntmps52
    go_wp2_with fail
    refine (HS.out).mono ?_
    rintro e w' ⟨rfl, rfl⟩
    go_wp2_with fail
    refine HR.out.mono ?_
    rintro e w' ⟨rfl, m, rfl⟩
    go_wp2_with fail
    go_ret
    exact ⟨rfl, m, rfl⟩
  · go_enter Tryz.func52, Tryz.ntmps52
    go_wp2_with fail
    refine (HS.out).mono ?_
    rintro e w' ⟨rfl, rfl⟩
    go_wp2_with fail
    refine (HB.out).mono ?_
    rintro e w' ⟨rfl, rfl⟩
    go_wp2_with fail
    go_ret
    exact ⟨rfl, 0, rfl⟩
  · go_enter Tryz.func52, Tryz.ntmps52
    go_wp2_with fail
    refine (HS.out).mono ?_
    rintro e w' ⟨rfl, rfl⟩
    go_wp2_with fail
    go_ret
    exact ⟨rfl, 0, rfl⟩
  · go_enter Tryz.func52, Tryz.ntmps52
    go_wp2_with fail
    refine (HS.out).mono ?_
    rintro e w' ⟨rfl, rfl⟩
    go_wp2_with fail
    refine (lo_any _ _).mono ?_
    rintro e w' ⟨rfl, rfl⟩
    go_wp2_with fail
    go_ret
    exact ⟨rfl, 0, rfl⟩
  · go_enter Tryz.func52, Tryz.ntmps52
    go_wp2_with fail
    refine (HS.out).mono ?_
    rintro e w' ⟨rfl, rfl⟩
    go_wp2_with fail
    refine (hi_any _ _ s0 s1).mono ?_
    rintro e w' ⟨rfl, rfl⟩
    go_wp2_with fail
    go_ret
    exact ⟨rfl, 0, rfl⟩
  · go_enter Tryz.func52, Tryz.ntmps52
    go_wp2_with fail
    refine (HS.out).mono ?_
    rintro e w' ⟨rfl, rfl⟩
    go_wp2_with fail
    refine (lo_any _ _).mono ?_
    rintro e w' ⟨rfl, rfl⟩
    go_wp2_with fail
    go_ret
    exact ⟨rfl, 0, rfl⟩
  · go_enter Tryz.func52, Tryz.ntmps52
    go_wp2_with fail
    refine (HS.out).mono ?_
    rintro e w' ⟨rfl, rfl⟩
    go_wp2_with fail
    refine (hi_any _ _ p0 p1).mono ?_
    rintro e w' ⟨rfl, rfl⟩
    go_wp2_with fail
    go_ret
    exact ⟨rfl, 0, rfl⟩
  · go_enter Tryz.func52, Tryz.ntmps52
    go_wp2_with fail
    refine (HS.out).mono ?_
    rintro e w' ⟨rfl, rfl⟩
    go_wp2_with fail
    go_ret
    exact ⟨rfl, 0, rfl⟩
/-- What was read, or came in. -/
def putByteS (x : Cp) (g k n : Int) : Cp := if g = 0 then putRegS x k n else if g = 8 then { x with r := putV x.r k 0 n } else if g = 16 then { x with r := { x.r with f := n } } else if g = 24 then wzS x (x.r.wz / 256 * 256 + n)
  else if g = 32 then wzS x (n * 256 + x.r.wz % 256) else if g = 40 then { x with dist := n } else if g = 48 then { x with r := { x.r with sp := x.r.sp / 256 * 256 + n } } else if g = 56 then { x with r := { x.r with sp := n * 256 + x.r.sp % 256 } } else x
set_option maxHeartbeats 1600000 in
theorem putByte_cpu (g k : Int) (wh n : Int) (w : World) (h : Mc w0 w b f base x v y va) (ok : x.Ok) (n8 : B8 n) (hg : g = 0 ∨ g = 8 ∨ g = 16 ∨ g = 24 ∨ g = 32 ∨ g = 40 ∨ g = 48 ∨ g = 56) (k0 : 0 ≤ k) (k7 : k ≤ 7) (hw : wh = g + k) :
    Calls Tryz.prog 50 #[.pointer (some ⟨b, 0, none⟩), .int .i64 wh, .int .u8 n] w fun e w' => e = .returned (.tuple #[]) ∧ Mc w0 w' b f base (putByteS x g k n) v y va ∧ Kb b w w' := by
  have HS := Lib.hid (split_is wh g k w (by omega) (by omega) (by omega) k0 k7 hw)
  have H := Lib.hid h
  have n0 := n8.1
  have n1 := n8.2
  have s0 := ok.r.sp.1
  have s1 := ok.r.sp.2
  have z0 := ok.r.wz.1
  have z1 := ok.r.wz.2
  clear hw
  rcases hg with rfl | rfl | rfl | rfl | rfl | rfl | rfl | rfl
  · have HR := Lib.hid (putReg_any k n w h ok n8)
    clear h
    go_enter Tryz.func50, Tryz.ntmps50
    go_wp2_with fail
    refine (HS.out).mono ?_
    rintro e w' ⟨rfl, rfl⟩
    go_wp2_with fail
    refine HR.out.mono ?_
    rintro e w' ⟨rfl, hm, hkb⟩
    have HK := Lib.hid hkb
    clear hkb
    go_wp2_with fail
    go_end0
    exact ⟨rfl, hm, HK.out⟩
  · have HR := Lib.hid (putByteM k 0 n w h ok n8)
    clear h
    go_enter Tryz.func50, Tryz.ntmps50
    go_wp2_with fail
    refine (HS.out).mono ?_
    rintro e w' ⟨rfl, rfl⟩
    go_wp2_with fail
    refine HR.out.mono ?_
    rintro e w' ⟨rfl, hm, hkb⟩
    have HK := Lib.hid hkb
    clear hkb
    go_wp2_with fail
    go_end0
    exact ⟨rfl, hm, HK.out⟩
  · have c := h.cell 1 _ rfl
    have fz := h.free 1
    have H2 := Lib.hid (h.set 1 (.int .u8 n) (putByteS x 16 k n) (by decide) rfl rfl)
    clear h
    go_enter Tryz.func50, Tryz.ntmps50
    go_wp2_with fail
    refine (HS.out).mono ?_
    rintro e w' ⟨rfl, rfl⟩
    go_wp2_with fail
    go_end0
    exact ⟨rfl, H2.out, Kb.setB _ _ _ _⟩
  · have c := h.cell 23 _ rfl
    have fz := h.free 23
    have H2 := Lib.hid (h.set 23 (.int .u16 (x.r.wz / 256 * 256 + n)) (putByteS x 24 k n) (by decide) rfl rfl)
    have q0 : 0 ≤ x.r.wz / 256 := by omega
    have q1 : x.r.wz / 256 ≤ 255 := by omega
    clear h
    go_enter Tryz.func50, Tryz.ntmps50
    go_wp2_with fail
    refine (HS.out).mono ?_
    rintro e w' ⟨rfl, rfl⟩
    go_wp2_with fail
    refine (hi_any _ _ z0 z1).mono ?_
    rintro e w' ⟨rfl, rfl⟩
    go_wp2_with fail
    refine (word_any _ _ _ q0 q1 n0 n1).mono ?_
    rintro e w' ⟨rfl, rfl⟩
    go_wp2_with fail
    go_end0
    exact ⟨rfl, H2.out, Kb.setB _ _ _ _⟩
  · have c := h.cell 23 _ rfl
    have fz := h.free 23
    have H2 := Lib.hid (h.set 23 (.int .u16 (n * 256 + x.r.wz % 256)) (putByteS x 32 k n) (by decide) rfl rfl)
    have q0 : 0 ≤ x.r.wz % 256 := by omega
    have q1 : x.r.wz % 256 ≤ 255 := by omega
    clear h
    go_enter Tryz.func50, Tryz.ntmps50
    go_wp2_with fail
    refine (HS.out).mono ?_
    rintro e w' ⟨rfl, rfl⟩
    go_wp2_with fail
    refine (lo_any _ _).mono ?_
    rintro e w' ⟨rfl, rfl⟩
    go_wp2_with fail
    refine (word_any _ _ _ n0 n1 q0 q1).mono ?_
    rintro e w' ⟨rfl, rfl⟩
    go_wp2_with fail
    go_end0
    exact ⟨rfl, H2.out, Kb.setB _ _ _ _⟩
  · have c := h.cell 43 _ rfl
    have fz := h.free 43
    have H2 := Lib.hid (h.set 43 (.int .u8 n) (putByteS x 40 k n) (by decide) rfl rfl)
    clear h
    go_enter Tryz.func50, Tryz.ntmps50
    go_wp2_with fail
    refine (HS.out).mono ?_
    rintro e w' ⟨rfl, rfl⟩
    go_wp2_with fail
    go_end0
    exact ⟨rfl, H2.out, Kb.setB _ _ _ _⟩
  · have c := h.cell 21 _ rfl
    have fz := h.free 21
    have H2 := Lib.hid (h.set 21 (.int .u16 (x.r.sp / 256 * 256 + n)) (putByteS x 48 k n) (by decide) rfl rfl)
    have q0 : 0 ≤ x.r.sp / 256 := by omega
    have q1 : x.r.sp / 256 ≤ 255 := by omega
    clear h
    go_enter Tryz.func50, Tryz.ntmps50
    go_wp2_with fail
    refine (HS.out).mono ?_
    rintro e w' ⟨rfl, rfl⟩
    go_wp2_with fail
    refine (hi_any _ _ s0 s1).mono ?_
    rintro e w' ⟨rfl, rfl⟩
    go_wp2_with fail
    refine (word_any _ _ _ q0 q1 n0 n1).mono ?_
    rintro e w' ⟨rfl, rfl⟩
    go_wp2_with fail
    go_end0
    exact ⟨rfl, H2.out, Kb.setB _ _ _ _⟩
  · have c := h.cell 21 _ rfl
    have fz := h.free 21
    have H2 := Lib.hid (h.set 21 (.int .u16 (n * 256 + x.r.sp % 256)) (putByteS x 56 k n) (by decide) rfl rfl)
    have q0 : 0 ≤ x.r.sp % 256 := by omega
    have q1 : x.r.sp % 256 ≤ 255 := by omega
    clear h
    go_enter Tryz.func50, Tryz.ntmps50
    go_wp2_with fail
    refine (HS.out).mono ?_
    rintro e w' ⟨rfl, rfl⟩
    go_wp2_with fail
    refine (lo_any _ _).mono ?_
    rintro e w' ⟨rfl, rfl⟩
    go_wp2_with fail
    refine (word_any _ _ _ n0 n1 q0 q1).mono ?_
    rintro e w' ⟨rfl, rfl⟩
    go_wp2_with fail
    go_end0
    exact ⟨rfl, H2.out, Kb.setB _ _ _ _⟩
/-- Whether a condition is met. -/
def metS (x : Cp) (g k : Int) : Bool := if g = 0 then condB x.r.f k else if g = 8 then x.r.b != 0 else pairS x 0 != 0
set_option maxHeartbeats 1600000 in
theorem met_any (g k : Int) (wh : Int) (w : World) (h : Mc w0 w b f base x v y va) (ok : x.Ok) (hg : g = 0 ∨ g = 8 ∨ g = 16) (k0 : 0 ≤ k) (k7 : k ≤ 7) (hw : wh = g + k) :
    Calls Tryz.prog 59 #[.pointer (some ⟨b, 0, none⟩), .int .i64 wh] w fun e w' => e = .returned (.bool (metS x g k)) ∧ Mc w0 w' b f base x v y va := by
  have HS := Lib.hid (split_is wh g k w (by omega) (by omega) (by omega) k0 k7 hw)
  have H := Lib.hid h
  have HP := Lib.hid (pairC_any 0 w h ok)
  have HC := Lib.hid (cond_any x.r.f k w ok.r.f.1 ok.r.f.2)
  have cf := h.cell 1 _ rfl
  have cb := h.cell 2 _ rfl
  clear h hw
  rcases hg with rfl | rfl | rfl
  · go_enter Tryz.func59, Tryz.ntmps59
    go_wp2_with fail
    refine (HS.out).mono ?_
    rintro e w' ⟨rfl, rfl⟩
    go_wp2_with fail
    refine HC.out.mono ?_
    rintro e w' ⟨rfl, hb⟩
    have HB := Lib.hid hb
    clear hb
    go_wp2_with fail
    go_ret
    exact ⟨rfl, H.out.below HB.out⟩
  · go_enter Tryz.func59, Tryz.ntmps59
    go_wp2_with fail
    refine (HS.out).mono ?_
    rintro e w' ⟨rfl, rfl⟩
    go_wp2_with fail
    go_ret
    exact ⟨rfl, H.out⟩
  · go_enter Tryz.func59, Tryz.ntmps59
    go_wp2_with fail
    refine (HS.out).mono ?_
    rintro e w' ⟨rfl, rfl⟩
    go_wp2_with fail
    refine HP.out.mono ?_
    rintro e w' ⟨rfl, hd⟩
    have HD := Lib.hid hd
    clear hd
    go_wp2_with fail
    go_ret
    exact ⟨rfl, H.out.drews HD.out⟩

end Go.Proofs.YtcfkpeemhleleaaGreatDoor
/- The contracts of layer 2's calls. -/
namespace Go.Proofs.YtcfkpeemhleleaaGreatDoor
open Go.RowKit

/-- The slice v has these pairs of a bit and a truth, two cells each. -/
def PairsAt (w : World) (v : Value) (l : List (Int × Bool)) : Prop :=
  ∃ g cap, v = .slice (some ⟨g, 0, none⟩) l.length cap ∧ g < w.heap.size ∧ l.length ≤ cap ∧ cap ≤ maxLen ∧
    ∀ i (h : i < l.length), w.cell? ⟨g, i * 2, none⟩ = some (.int .u8 l[i].1) ∧ w.cell? ⟨g, i * 2 + 1, none⟩ = some (.bool l[i].2)

theorem pairsAt1 (w : World) (t : TypeId) (a : Int) (b : Bool) : PairsAt (w.alloc (.cells #[.int .u8 a, .bool b] t)) (.slice (some ⟨w.heap.size, 0, none⟩) 1 1) [(a, b)] := by
  refine ⟨w.heap.size, 1, rfl, by simp, by simp, by simp [maxLen], fun i hi => ?_⟩
  obtain rfl : i = 0 := by simp at hi; omega
  simp
theorem pairsAt2 (w : World) (t : TypeId) (a c : Int) (b d : Bool) : PairsAt (w.alloc (.cells #[.int .u8 a, .bool b, .int .u8 c, .bool d] t)) (.slice (some ⟨w.heap.size, 0, none⟩) 2 2) [(a, b), (c, d)] := by
  refine ⟨w.heap.size, 2, rfl, by simp, by simp, by simp [maxLen], fun i hi => ?_⟩
  have hi' : i = 0 ∨ i = 1 := by simp at hi; omega
  rcases hi' with rfl | rfl <;> simp
theorem pairsAt3 (w : World) (t : TypeId) (a c e : Int) (b d f : Bool) : PairsAt (w.alloc (.cells #[.int .u8 a, .bool b, .int .u8 c, .bool d, .int .u8 e, .bool f] t)) (.slice (some ⟨w.heap.size, 0, none⟩) 3 3) [(a, b), (c, d), (e, f)] := by
  refine ⟨w.heap.size, 3, rfl, by simp, by simp, by simp [maxLen], fun i hi => ?_⟩
  have hi' : i = 0 ∨ i = 1 ∨ i = 2 := by simp at hi; omega
  rcases hi' with rfl | rfl | rfl <;> simp
theorem pairsAt4 (w : World) (t : TypeId) (a c e g : Int) (b d f h : Bool) : PairsAt (w.alloc (.cells #[.int .u8 a, .bool b, .int .u8 c, .bool d, .int .u8 e, .bool f, .int .u8 g, .bool h] t)) (.slice (some ⟨w.heap.size, 0, none⟩) 4 4) [(a, b), (c, d), (e, f), (g, h)] := by
  refine ⟨w.heap.size, 4, rfl, by simp, by simp, by simp [maxLen], fun i hi => ?_⟩
  have hi' : i = 0 ∨ i = 1 ∨ i = 2 ∨ i = 3 := by simp at hi; omega
  rcases hi' with rfl | rfl | rfl | rfl <;> simp

set_option maxHeartbeats 800000 in
theorem aput_any (f : Int) (l : List (Int × Bool)) (v : Value) (w : World) (hl : l.length ≤ 8) (hv : PairsAt w v l) :
    Calls Tryz.prog 166 #[.int .u8 f, v] w fun e w' => e = .returned (.int .u8 (putB f l)) ∧ Below w.heap.size w w' := by
  obtain ⟨g, cap, rfl, hg, hc, hm, hcell⟩ := hv
  have HC := Lib.hid hcell
  clear hcell
  unfold maxLen at hm
  go_enter Tryz.func166, Tryz.ntmps166
  go_wp2_with fail
  go_loopw [0, 9] (fun a i wr => ∃ k : Nat, k ≤ l.length ∧ i = .int .i64 k ∧ a = .int .u8 (putB f (l.take k)) ∧ Below w.heap.size w wr) (fun _ i _ => l.length - (intOf i).toNat)
  case atStart => exact ⟨0, by omega, rfl, rfl, Below.refl _ _⟩
  case round =>
    obtain ⟨k, hk, rfl, rfl, hb⟩ := hrel
    have hs := hb.size
    by_cases hlt : k < l.length
    · obtain ⟨h1, h2⟩ := HC.out k hlt
      have c1 := (hb.cell (p := ⟨g, k * 2, none⟩) hg).trans h1
      have c2 := (hb.cell (p := ⟨g, k * 2 + 1, none⟩) hg).trans h2
      clear h1 h2
      have HS := Lib.hid (putB_take_succ f l k hlt)
      generalize l[k].1 = bt at *
      generalize l[k].2 = on at *
      generalize putB f (l.take k) = fk at *
      go_wp2_with fail
      refine (with_any _ _ _ _).mono ?_
      rintro e w' ⟨rfl, rfl⟩
      go_wp2_with fail
      go_roundw
      case rel => exact ⟨k + 1, by omega, by go_num, by rw [HS.out], hb.alloc hs _⟩
      case measure => simp [intOf]; omega
    · obtain rfl : k = l.length := by omega
      have HT := Lib.hid (show l.take l.length = l from List.take_length)
      rw [HT.out]
      go_wp2_with fail
      go_ret
      exact ⟨rfl, hb⟩

set_option maxHeartbeats 400000 in
theorem one_any (c : Bool) (w : World) : Calls Tryz.prog 187 #[.bool c] w fun e w' => e = .returned (.int .i64 (cN c)) ∧ w = w' := by
  cases c
  all_goals
    go_enter Tryz.func187, Tryz.ntmps187
    go_wp2_with fail
    go_ret
    exact ⟨rfl, rfl⟩
set_option maxHeartbeats 400000 in
theorem alow_any (a : Int) (w : World) (h0 : 0 ≤ a) (h1 : a ≤ 255) : Calls Tryz.prog 188 #[.int .u8 a] w fun e w' => e = .returned (.int .u8 (a % 16)) ∧ w = w' := by
  go_enter Tryz.func188, Tryz.ntmps188
  go_wp2_with fail
  go_ret
  exact ⟨rfl, rfl⟩
set_option maxHeartbeats 400000 in
theorem outside_any (n : Int) (w : World) : Calls Tryz.prog 189 #[.int .i64 n] w fun e w' => e = .returned (.bool (outB n)) ∧ w = w' := by
  unfold outB
  by_cases h : n < -128
  · have hd : decide (n < -128) = true := decide_eq_true h
    go_enter Tryz.func189, Tryz.ntmps189
    go_wp2_with fail
    go_ret
    exact ⟨by simp [h], rfl⟩
  · have hd : decide (n < -128) = false := decide_eq_false h
    go_enter Tryz.func189, Tryz.ntmps189
    go_wp2_with fail
    go_ret
    exact ⟨by simp, rfl⟩

/-- 'put' of a list that the call makes: what the walk meets. -/
theorem aput1 (f r a : Int) (b : Bool) (t : TypeId) (w : World) (h : putB f [(a, b)] = r) :
    Calls Tryz.prog 166 #[.int .u8 f, .slice (some ⟨w.heap.size, 0, none⟩) 1 1] (w.alloc (.cells #[.int .u8 a, .bool b] t)) fun e w' => e = .returned (.int .u8 r) ∧ Below w.heap.size w w' := by
  subst h
  exact (aput_any f _ _ _ (by simp) (pairsAt1 w t a b)).mono fun e w' ⟨h1, h2⟩ => ⟨h1, ((Below.refl _ _).alloc (Nat.le_refl _) _).trans (h2.mono (by simp))⟩
theorem aput2 (f r a c : Int) (b d : Bool) (t : TypeId) (w : World) (h : putB f [(a, b), (c, d)] = r) :
    Calls Tryz.prog 166 #[.int .u8 f, .slice (some ⟨w.heap.size, 0, none⟩) 2 2] (w.alloc (.cells #[.int .u8 a, .bool b, .int .u8 c, .bool d] t)) fun e w' => e = .returned (.int .u8 r) ∧ Below w.heap.size w w' := by
  subst h
  exact (aput_any f _ _ _ (by simp) (pairsAt2 w t a c b d)).mono fun e w' ⟨h1, h2⟩ => ⟨h1, ((Below.refl _ _).alloc (Nat.le_refl _) _).trans (h2.mono (by simp))⟩
theorem aput3 (f r a c e : Int) (b d g : Bool) (t : TypeId) (w : World) (h : putB f [(a, b), (c, d), (e, g)] = r) :
    Calls Tryz.prog 166 #[.int .u8 f, .slice (some ⟨w.heap.size, 0, none⟩) 3 3] (w.alloc (.cells #[.int .u8 a, .bool b, .int .u8 c, .bool d, .int .u8 e, .bool g] t)) fun e w' => e = .returned (.int .u8 r) ∧ Below w.heap.size w w' := by
  subst h
  exact (aput_any f _ _ _ (by simp) (pairsAt3 w t a c e b d g)).mono fun e w' ⟨h1, h2⟩ => ⟨h1, ((Below.refl _ _).alloc (Nat.le_refl _) _).trans (h2.mono (by simp))⟩
theorem aput4 (f r a c e i : Int) (b d g j : Bool) (t : TypeId) (w : World) (h : putB f [(a, b), (c, d), (e, g), (i, j)] = r) :
    Calls Tryz.prog 166 #[.int .u8 f, .slice (some ⟨w.heap.size, 0, none⟩) 4 4] (w.alloc (.cells #[.int .u8 a, .bool b, .int .u8 c, .bool d, .int .u8 e, .bool g, .int .u8 i, .bool j] t)) fun e w' => e = .returned (.int .u8 r) ∧ Below w.heap.size w w' := by
  subst h
  exact (aput_any f _ _ _ (by simp) (pairsAt4 w t a c e i b d g j)).mono fun e w' ⟨h1, h2⟩ => ⟨h1, ((Below.refl _ _).alloc (Nat.le_refl _) _).trans (h2.mono (by simp))⟩

set_option maxHeartbeats 800000 in
theorem sub_any (a b : Int) (c : Bool) (w : World) (a0 : 0 ≤ a) (a1 : a ≤ 255) (b0 : 0 ≤ b) (b1 : b ≤ 255) :
    Calls Tryz.prog 158 #[.int .u8 a, .int .u8 b, .bool c] w fun e w' => e = .returned (.tuple #[.int .u8 (subR a b c), .int .u8 (subF a b c)]) ∧ Below w.heap.size w w' := by
  obtain ⟨c0, c1⟩ := cN_bd c
  obtain ⟨s0, s1⟩ := sgn_bd a a0 a1
  obtain ⟨t0, t1⟩ := sgn_bd b b0 b1
  have ea := wrap_i8 a a0 a1
  have eb := wrap_i8 b b0 b1
  have HP := Lib.hid (sub_put a b c)
  go_enter Tryz.func158, Tryz.ntmps158
  go_wp2_with fail
  refine (one_any _ _).mono ?_
  rintro e w' ⟨rfl, rfl⟩
  go_wp2_with fail
  refine (alow_any _ _ a0 a1).mono ?_
  rintro e w' ⟨rfl, rfl⟩
  go_wp2_with fail
  refine (alow_any _ _ b0 b1).mono ?_
  rintro e w' ⟨rfl, rfl⟩
  go_wp2_with fail
  refine (of_any _ _).mono ?_
  rintro e w' ⟨rfl, rfl⟩
  go_wp2_with fail
  refine (outside_any _ _).mono ?_
  rintro e w' ⟨rfl, rfl⟩
  go_wp2_with fail
  refine (aput4 _ _ _ _ _ _ _ _ _ _ _ _ HP.out).mono ?_
  rintro e w1 ⟨rfl, hb1⟩
  go_wp2_with fail
  go_ret2
  exact ⟨rfl, hb1⟩

end Go.Proofs.YtcfkpeemhleleaaGreatDoor
/- The contract of alu.Add. -/
namespace Go.Proofs.YtcfkpeemhleleaaGreatDoor
open Go.RowKit

set_option maxHeartbeats 800000 in
theorem add_any (a b : Int) (c : Bool) (w : World) (a0 : 0 ≤ a) (a1 : a ≤ 255) (b0 : 0 ≤ b) (b1 : b ≤ 255) :
    Calls Tryz.prog 157 #[.int .u8 a, .int .u8 b, .bool c] w fun e w' => e = .returned (.tuple #[.int .u8 (addR a b c), .int .u8 (addF a b c)]) ∧ Below w.heap.size w w' := by
  obtain ⟨c0, c1⟩ := cN_bd c
  obtain ⟨s0, s1⟩ := sgn_bd a a0 a1
  obtain ⟨t0, t1⟩ := sgn_bd b b0 b1
  have ea := wrap_i8 a a0 a1
  have eb := wrap_i8 b b0 b1
  have HP := Lib.hid (add_put a b c)
  go_enter Tryz.func157, Tryz.ntmps157
  go_wp2_with fail
  refine (one_any _ _).mono ?_
  rintro e w' ⟨rfl, rfl⟩
  go_wp2_with fail
  refine (alow_any _ _ a0 a1).mono ?_
  rintro e w' ⟨rfl, rfl⟩
  go_wp2_with fail
  refine (alow_any _ _ b0 b1).mono ?_
  rintro e w' ⟨rfl, rfl⟩
  go_wp2_with fail
  refine (of_any _ _).mono ?_
  rintro e w' ⟨rfl, rfl⟩
  go_wp2_with fail
  refine (outside_any _ _).mono ?_
  rintro e w' ⟨rfl, rfl⟩
  go_wp2_with fail
  refine (aput3 _ _ _ _ _ _ _ _ _ _ HP.out).mono ?_
  rintro e w1 ⟨rfl, hb1⟩
  go_wp2_with fail
  go_ret2
  exact ⟨rfl, hb1⟩

end Go.Proofs.YtcfkpeemhleleaaGreatDoor
/- The contract of flag.OfP. -/
namespace Go.Proofs.YtcfkpeemhleleaaGreatDoor
open Go.RowKit

set_option maxHeartbeats 400000 in
theorem ofP_any (b : Int) (w : World) (h0 : 0 ≤ b) (h1 : b ≤ 255) :
    Calls Tryz.prog 130 #[.int .u8 b] w fun e w' => e = .returned (.int .u8 (ofPB b)) ∧ w = w' := by
  go_enter Tryz.func130, Tryz.ntmps130
  go_wp2_with fail
  refine (of_any _ _).mono ?_
  rintro e w' ⟨rfl, rfl⟩
  go_wp2_with fail
  refine (even_any _ _ h0 h1).mono ?_
  rintro e w' ⟨rfl, rfl⟩
  go_wp2_with fail
  refine (with_any _ _ _ _).mono ?_
  rintro e w' ⟨rfl, rfl⟩
  go_wp2_with fail
  go_ret
  exact ⟨rfl, rfl⟩
theorem ofP_is (b r : Int) (w : World) (h0 : 0 ≤ b) (h1 : b ≤ 255) (h : ofPB b = r) : Calls Tryz.prog 130 #[.int .u8 b] w fun e w' => e = .returned (.int .u8 r) ∧ w = w' := by
  rw [← h]; exact ofP_any b w h0 h1

end Go.Proofs.YtcfkpeemhleleaaGreatDoor
/- The contracts of layer 2's other calls. -/
namespace Go.Proofs.YtcfkpeemhleleaaGreatDoor
open Go.RowKit

set_option maxHeartbeats 800000 in
theorem cp_any (a b : Int) (w : World) (a0 : 0 ≤ a) (a1 : a ≤ 255) (b0 : 0 ≤ b) (b1 : b ≤ 255) :
    Calls Tryz.prog 162 #[.int .u8 a, .int .u8 b] w fun e w' => e = .returned (.int .u8 (mixF (subF a b false) b)) ∧ Below w.heap.size w w' := by
  have hs := subF_bd a b false
  have HP := Lib.hid (mix_put (subF a b false) b hs.1 hs.2)
  have H2 := Lib.hid (has_32 b b0 b1)
  have H4 := Lib.hid (has_8 b b0 b1)
  clear hs
  go_enter Tryz.func162, Tryz.ntmps162
  go_wp2_with fail
  refine (sub_any _ _ _ _ a0 a1 b0 b1).mono ?_
  rintro e w1 ⟨rfl, hb1⟩
  go_wp2_with fail
  refine (has_is _ _ _ _ H2.out).mono ?_
  rintro e w' ⟨rfl, rfl⟩
  go_wp2_with fail
  refine (has_is _ _ _ _ H4.out).mono ?_
  rintro e w' ⟨rfl, rfl⟩
  go_wp2_with fail
  refine (aput2 _ _ _ _ _ _ _ _ HP.out).mono ?_
  rintro e w2 ⟨rfl, hb2⟩
  go_wp2_with fail
  go_ret
  exact ⟨rfl, below_step hb1 hb2⟩

set_option maxHeartbeats 800000 in
theorem and_any (a b : Int) (w : World) (a0 : 0 ≤ a) (a1 : a ≤ 255) (b0 : 0 ≤ b) (b1 : b ≤ 255) :
    Calls Tryz.prog 159 #[.int .u8 a, .int .u8 b] w fun e w' => e = .returned (.tuple #[.int .u8 (andR a b), .int .u8 (joinF (andR a b) true)]) ∧ Below w.heap.size w w' := by
  have e : bits .and .u8 a b = andR a b := bits_and a b a0 a1 b0 b1
  obtain ⟨r0, r1⟩ := andR_bd a b
  have HP := Lib.hid (join_put (andR a b) r0 r1 true)
  go_enter Tryz.func159, Tryz.ntmps159
  go_wp2_with fail
  refine (ofP_any _ _ r0 r1).mono ?_
  rintro e w' ⟨rfl, rfl⟩
  go_wp2_with fail
  refine (aput1 _ _ _ _ _ _ HP.out).mono ?_
  rintro e w1 ⟨rfl, hb1⟩
  go_wp2_with fail
  go_ret2
  exact ⟨rfl, hb1⟩

set_option maxHeartbeats 800000 in
theorem xor_any (a b : Int) (w : World) (a0 : 0 ≤ a) (a1 : a ≤ 255) (b0 : 0 ≤ b) (b1 : b ≤ 255) :
    Calls Tryz.prog 160 #[.int .u8 a, .int .u8 b] w fun e w' => e = .returned (.tuple #[.int .u8 (xorR a b), .int .u8 (joinF (xorR a b) false)]) ∧ Below w.heap.size w w' := by
  have e : bits .xor .u8 a b = xorR a b := bits_xor a b a0 a1 b0 b1
  obtain ⟨r0, r1⟩ := xorR_bd a b
  have HP := Lib.hid (join_ofP (xorR a b) r0 r1)
  go_enter Tryz.func160, Tryz.ntmps160
  go_wp2_with fail
  refine (ofP_is _ _ _ r0 r1 HP.out).mono ?_
  rintro e w' ⟨rfl, rfl⟩
  go_wp2_with fail
  go_ret2
  exact ⟨rfl, Below.refl _ _⟩

set_option maxHeartbeats 800000 in
theorem or_any (a b : Int) (w : World) (a0 : 0 ≤ a) (a1 : a ≤ 255) (b0 : 0 ≤ b) (b1 : b ≤ 255) :
    Calls Tryz.prog 161 #[.int .u8 a, .int .u8 b] w fun e w' => e = .returned (.tuple #[.int .u8 (orR a b), .int .u8 (joinF (orR a b) false)]) ∧ Below w.heap.size w w' := by
  have e : bits .or .u8 a b = orR a b := bits_or a b a0 a1 b0 b1
  obtain ⟨r0, r1⟩ := orR_bd a b
  have HP := Lib.hid (join_ofP (orR a b) r0 r1)
  go_enter Tryz.func161, Tryz.ntmps161
  go_wp2_with fail
  refine (ofP_is _ _ _ r0 r1 HP.out).mono ?_
  rintro e w' ⟨rfl, rfl⟩
  go_wp2_with fail
  go_ret2
  exact ⟨rfl, Below.refl _ _⟩

set_option maxHeartbeats 800000 in
theorem inc_any (a f : Int) (w : World) (a0 : 0 ≤ a) (a1 : a ≤ 255) (f0 : 0 ≤ f) (f1 : f ≤ 255) :
    Calls Tryz.prog 125 #[.int .u8 a, .int .u8 f] w fun e w' => e = .returned (.tuple #[.int .u8 (addR a 1 false), .int .u8 (keepF (addF a 1 false) f)]) ∧ Below w.heap.size w w' := by
  have hs := addF_bd a 1 false
  have HP := Lib.hid (keep_put (addF a 1 false) f hs.1 hs.2)
  have H1 := Lib.hid (has_1 f f0 f1)
  clear hs
  go_enter Tryz.func125, Tryz.ntmps125
  go_wp2_with fail
  refine (add_any _ _ _ _ a0 a1 (by decide) (by decide)).mono ?_
  rintro e w1 ⟨rfl, hb1⟩
  go_wp2_with fail
  refine (has_is _ _ _ _ H1.out).mono ?_
  rintro e w' ⟨rfl, rfl⟩
  go_wp2_with fail
  refine (aput1 _ _ _ _ _ _ HP.out).mono ?_
  rintro e w2 ⟨rfl, hb2⟩
  go_wp2_with fail
  go_ret2
  exact ⟨rfl, below_step hb1 hb2⟩

set_option maxHeartbeats 800000 in
theorem dec_any (a f : Int) (w : World) (a0 : 0 ≤ a) (a1 : a ≤ 255) (f0 : 0 ≤ f) (f1 : f ≤ 255) :
    Calls Tryz.prog 126 #[.int .u8 a, .int .u8 f] w fun e w' => e = .returned (.tuple #[.int .u8 (subR a 1 false), .int .u8 (keepF (subF a 1 false) f)]) ∧ Below w.heap.size w w' := by
  have hs := subF_bd a 1 false
  have HP := Lib.hid (keep_put (subF a 1 false) f hs.1 hs.2)
  have H1 := Lib.hid (has_1 f f0 f1)
  clear hs
  go_enter Tryz.func126, Tryz.ntmps126
  go_wp2_with fail
  refine (sub_any _ _ _ _ a0 a1 (by decide) (by decide)).mono ?_
  rintro e w1 ⟨rfl, hb1⟩
  go_wp2_with fail
  refine (has_is _ _ _ _ H1.out).mono ?_
  rintro e w' ⟨rfl, rfl⟩
  go_wp2_with fail
  refine (aput1 _ _ _ _ _ _ HP.out).mono ?_
  rintro e w2 ⟨rfl, hb2⟩
  go_wp2_with fail
  go_ret2
  exact ⟨rfl, below_step hb1 hb2⟩

set_option maxHeartbeats 800000 in
theorem cpl_any (a f : Int) (w : World) (a0 : 0 ≤ a) (a1 : a ≤ 255) (f0 : 0 ≤ f) (f1 : f ≤ 255) :
    Calls Tryz.prog 169 #[.int .u8 a, .int .u8 f] w fun e w' => e = .returned (.tuple #[.int .u8 (255 - a), .int .u8 (cplF a f)]) ∧ Below w.heap.size w w' := by
  have HP := Lib.hid (cpl_put a f f0 f1)
  have H2 := Lib.hid (has_32 (255 - a) (by omega) (by omega))
  have H4 := Lib.hid (has_8 (255 - a) (by omega) (by omega))
  have e := not_u8 a a0 a1
  go_enter Tryz.func169, Tryz.ntmps169
  go_wp2_with fail
  refine (has_is _ _ _ _ H2.out).mono ?_
  rintro e w' ⟨rfl, rfl⟩
  go_wp2_with fail
  refine (has_is _ _ _ _ H4.out).mono ?_
  rintro e w' ⟨rfl, rfl⟩
  go_wp2_with fail
  refine (aput3 _ _ _ _ _ _ _ _ _ _ HP.out).mono ?_
  rintro e w1 ⟨rfl, hb1⟩
  go_wp2_with fail
  go_ret2
  exact ⟨rfl, hb1⟩

set_option maxHeartbeats 800000 in
theorem leaked_any (a f q : Int) (w : World) (a0 : 0 ≤ a) (a1 : a ≤ 255) (f0 : 0 ≤ f) (f1 : f ≤ 255) (q0 : 0 ≤ q) (q1 : q ≤ 255) :
    Calls Tryz.prog 192 #[.int .u8 a, .int .u8 f, .int .u8 q] w fun e w' => e = .returned (.int .u8 (leakF a f q)) ∧ Below w.heap.size w w' := by
  have HP := Lib.hid (leak_put a f q f0 f1)
  obtain ⟨l0, l1, l2⟩ := leak_bit a f q a0 a1 f0 f1 q0 q1 2 (by decide)
  obtain ⟨_, _, l4⟩ := leak_bit a f q a0 a1 f0 f1 q0 q1 4 (by decide)
  have H2 := Lib.hid ((has_32 (leakR a f q) l0 l1).trans l2)
  have H4 := Lib.hid ((has_8 (leakR a f q) l0 l1).trans l4)
  clear l0 l1 l2 l4
  go_enter Tryz.func192, Tryz.ntmps192
  go_wp2_with fail
  refine (has_is _ _ _ _ H2.out).mono ?_
  rintro e w' ⟨rfl, rfl⟩
  go_wp2_with fail
  refine (has_is _ _ _ _ H4.out).mono ?_
  rintro e w' ⟨rfl, rfl⟩
  go_wp2_with fail
  refine (aput2 _ _ _ _ _ _ _ _ HP.out).mono ?_
  rintro e w1 ⟨rfl, hb1⟩
  go_wp2_with fail
  go_ret
  exact ⟨rfl, hb1⟩

set_option maxHeartbeats 800000 in
theorem scf_any (a f q : Int) (w : World) (a0 : 0 ≤ a) (a1 : a ≤ 255) (f0 : 0 ≤ f) (f1 : f ≤ 255) (q0 : 0 ≤ q) (q1 : q ≤ 255) :
    Calls Tryz.prog 170 #[.int .u8 a, .int .u8 f, .int .u8 q] w fun e w' => e = .returned (.int .u8 (scfF a f q)) ∧ Below w.heap.size w w' := by
  have HP := Lib.hid (scf_put a f q)
  go_enter Tryz.func170, Tryz.ntmps170
  go_wp2_with fail
  refine (leaked_any _ _ _ _ a0 a1 f0 f1 q0 q1).mono ?_
  rintro e w1 ⟨rfl, hb1⟩
  go_wp2_with fail
  refine (aput2 _ _ _ _ _ _ _ _ HP.out).mono ?_
  rintro e w2 ⟨rfl, hb2⟩
  go_wp2_with fail
  go_ret
  exact ⟨rfl, below_step hb1 hb2⟩

set_option maxHeartbeats 800000 in
theorem ccf_any (a f q : Int) (w : World) (a0 : 0 ≤ a) (a1 : a ≤ 255) (f0 : 0 ≤ f) (f1 : f ≤ 255) (q0 : 0 ≤ q) (q1 : q ≤ 255) :
    Calls Tryz.prog 171 #[.int .u8 a, .int .u8 f, .int .u8 q] w fun e w' => e = .returned (.int .u8 (ccfF a f q)) ∧ Below w.heap.size w w' := by
  have HP := Lib.hid (ccf_put a f q)
  have H1 := Lib.hid (has_1 f f0 f1)
  go_enter Tryz.func171, Tryz.ntmps171
  go_wp2_with fail
  refine (has_is _ _ _ _ H1.out).mono ?_
  rintro e w' ⟨rfl, rfl⟩
  go_wp2_with fail
  refine (leaked_any _ _ _ _ a0 a1 f0 f1 q0 q1).mono ?_
  rintro e w1 ⟨rfl, hb1⟩
  go_wp2_with fail
  refine (aput3 _ _ _ _ _ _ _ _ _ _ HP.out).mono ?_
  rintro e w2 ⟨rfl, hb2⟩
  go_wp2_with fail
  go_ret
  exact ⟨rfl, below_step hb1 hb2⟩

end Go.Proofs.YtcfkpeemhleleaaGreatDoor
/- alu.Daa: its contract. -/
namespace Go.Proofs.YtcfkpeemhleleaaGreatDoor
open Go.RowKit

theorem ofP_eq (x b : Int) (w : World) (h0 : 0 ≤ b) (h1 : b ≤ 255) (h : x = b) : Calls Tryz.prog 130 #[.int .u8 x] w fun e w' => e = .returned (.int .u8 (ofPB b)) ∧ w = w' := by
  subst h; exact ofP_any x w h0 h1
theorem ret2_eq {k : IntKind} {x y : Int} (h : x = y) (v : Value) : Ending.returned (.tuple #[.int k x, v]) = .returned (.tuple #[.int k y, v]) := by rw [h]

set_option maxHeartbeats 4000000 in
theorem daa_mh (a f : Int) (w : World) (a0 : 0 ≤ a) (a1 : a ≤ 255) (f0 : 0 ≤ f) (f1 : f ≤ 255) (e6 : bitN f 6 = true) (e3 : bitN f 3 = true) :
    Calls Tryz.prog 168 #[.int .u8 a, .int .u8 f] w fun e w' => e = .returned (.tuple #[.int .u8 (daaR a f), .int .u8 (daaF a f)]) ∧ Below w.heap.size w w' := by
  obtain ⟨r0, r1⟩ := daaR_bd a f
  have R0 := Lib.hid r0
  have R1 := Lib.hid r1
  have hp := daa_put a f
  have hr : daaR a f = if bitN f 6 then (a - ((if bitN f 3 || decide (9 < a % 16) then 6 else 0) + (if bitN f 7 || decide (153 < a) then 96 else 0))) % 256 else (a + ((if bitN f 3 || decide (9 < a % 16) then 6 else 0) + (if bitN f 7 || decide (153 < a) then 96 else 0))) % 256 := rfl
  have hh : daaH a f = if bitN f 6 then bitN f 3 && decide (a % 16 < 6) else decide (9 < a % 16) := rfl
  have H2 := Lib.hid ((has_2 f f0 f1).trans e6)
  have H16 := Lib.hid ((has_16 f f0 f1).trans e3)
  have hC := has_1 f f0 f1
  rw [hh] at hp
  rw [e6, e3] at hp hr
  clear hh r0 r1 e6 e3
  generalize bitN f 7 = l7 at *
  cases l7
  · by_cases g153 : 153 < a
    · have HR := Lib.hid (show daaR a f = (a - 102) % 256 by rw [hr]; simp [g153])
      have HP := Lib.hid (show putB (ofPB (daaR a f)) [(16, decide (a % 16 < 6)), (2, true), (1, true)] = daaF a f by rw [← hp]; simp [g153])
      have HC := Lib.hid hC
      clear hr hp hC
      go_enter Tryz.func168, Tryz.ntmps168
      go_wp2_with fail
      refine (has_is _ _ _ _ H2.out).mono ?_
      rintro e w' ⟨rfl, rfl⟩
      go_wp2_with fail
      refine (has_is _ _ _ _ H16.out).mono ?_
      rintro e w' ⟨rfl, rfl⟩
      go_wp2_with fail
      refine (has_is _ _ _ _ HC.out).mono ?_
      rintro e w' ⟨rfl, rfl⟩
      go_wp2_with fail
      refine (alow_any _ _ a0 a1).mono ?_
      rintro e w' ⟨rfl, rfl⟩
      go_wp2_with fail
      refine (alow_any _ _ a0 a1).mono ?_
      rintro e w' ⟨rfl, rfl⟩
      go_wp2_with fail
      refine (ofP_eq _ (daaR a f) _ R0.out R1.out (by have := HR.out; omega)).mono ?_
      rintro e w' ⟨rfl, rfl⟩
      go_wp2_with fail
      refine (aput3 _ _ _ _ _ _ _ _ _ _ HP.out).mono ?_
      rintro e w1 ⟨rfl, hb1⟩
      go_wp2_with fail
      go_ret2
      exact ⟨ret2_eq (by have := HR.out; omega) _, hb1⟩
    · have d153 : decide (153 < a) = false := decide_eq_false g153
      have HR := Lib.hid (show daaR a f = (a - 6) % 256 by rw [hr]; simp [g153])
      have HP := Lib.hid (show putB (ofPB (daaR a f)) [(16, decide (a % 16 < 6)), (2, true), (1, false)] = daaF a f by rw [← hp]; simp [g153])
      have HC := Lib.hid hC
      clear hr hp hC
      go_enter Tryz.func168, Tryz.ntmps168
      go_wp2_with fail
      refine (has_is _ _ _ _ H2.out).mono ?_
      rintro e w' ⟨rfl, rfl⟩
      go_wp2_with fail
      refine (has_is _ _ _ _ H16.out).mono ?_
      rintro e w' ⟨rfl, rfl⟩
      go_wp2_with fail
      refine (has_is _ _ _ _ HC.out).mono ?_
      rintro e w' ⟨rfl, rfl⟩
      go_wp2_with fail
      refine (alow_any _ _ a0 a1).mono ?_
      rintro e w' ⟨rfl, rfl⟩
      go_wp2_with fail
      refine (alow_any _ _ a0 a1).mono ?_
      rintro e w' ⟨rfl, rfl⟩
      go_wp2_with fail
      refine (ofP_eq _ (daaR a f) _ R0.out R1.out (by have := HR.out; omega)).mono ?_
      rintro e w' ⟨rfl, rfl⟩
      go_wp2_with fail
      refine (aput3 _ _ _ _ _ _ _ _ _ _ HP.out).mono ?_
      rintro e w1 ⟨rfl, hb1⟩
      go_wp2_with fail
      go_ret2
      exact ⟨ret2_eq (by have := HR.out; omega) _, hb1⟩
  · have HR := Lib.hid (show daaR a f = (a - 102) % 256 by rw [hr]; simp)
    have HP := Lib.hid (show putB (ofPB (daaR a f)) [(16, decide (a % 16 < 6)), (2, true), (1, true)] = daaF a f by rw [← hp]; simp)
    have HC := Lib.hid hC
    clear hr hp hC
    go_enter Tryz.func168, Tryz.ntmps168
    go_wp2_with fail
    refine (has_is _ _ _ _ H2.out).mono ?_
    rintro e w' ⟨rfl, rfl⟩
    go_wp2_with fail
    refine (has_is _ _ _ _ H16.out).mono ?_
    rintro e w' ⟨rfl, rfl⟩
    go_wp2_with fail
    refine (has_is _ _ _ _ HC.out).mono ?_
    rintro e w' ⟨rfl, rfl⟩
    go_wp2_with fail
    refine (alow_any _ _ a0 a1).mono ?_
    rintro e w' ⟨rfl, rfl⟩
    go_wp2_with fail
    refine (alow_any _ _ a0 a1).mono ?_
    rintro e w' ⟨rfl, rfl⟩
    go_wp2_with fail
    refine (ofP_eq _ (daaR a f) _ R0.out R1.out (by have := HR.out; omega)).mono ?_
    rintro e w' ⟨rfl, rfl⟩
    go_wp2_with fail
    refine (aput3 _ _ _ _ _ _ _ _ _ _ HP.out).mono ?_
    rintro e w1 ⟨rfl, hb1⟩
    go_wp2_with fail
    go_ret2
    exact ⟨ret2_eq (by have := HR.out; omega) _, hb1⟩

set_option maxHeartbeats 4000000 in
theorem daa_mn (a f : Int) (w : World) (a0 : 0 ≤ a) (a1 : a ≤ 255) (f0 : 0 ≤ f) (f1 : f ≤ 255) (e6 : bitN f 6 = true) (e3 : bitN f 3 = false) :
    Calls Tryz.prog 168 #[.int .u8 a, .int .u8 f] w fun e w' => e = .returned (.tuple #[.int .u8 (daaR a f), .int .u8 (daaF a f)]) ∧ Below w.heap.size w w' := by
  obtain ⟨r0, r1⟩ := daaR_bd a f
  have R0 := Lib.hid r0
  have R1 := Lib.hid r1
  have hp := daa_put a f
  have hr : daaR a f = if bitN f 6 then (a - ((if bitN f 3 || decide (9 < a % 16) then 6 else 0) + (if bitN f 7 || decide (153 < a) then 96 else 0))) % 256 else (a + ((if bitN f 3 || decide (9 < a % 16) then 6 else 0) + (if bitN f 7 || decide (153 < a) then 96 else 0))) % 256 := rfl
  have hh : daaH a f = if bitN f 6 then bitN f 3 && decide (a % 16 < 6) else decide (9 < a % 16) := rfl
  have H2 := Lib.hid ((has_2 f f0 f1).trans e6)
  have H16 := Lib.hid ((has_16 f f0 f1).trans e3)
  have hC := has_1 f f0 f1
  rw [hh] at hp
  rw [e6, e3] at hp hr
  clear hh r0 r1 e6 e3
  generalize bitN f 7 = l7 at *
  by_cases g9 : 9 < a % 16
  · cases l7
    · by_cases g153 : 153 < a
      · have HR := Lib.hid (show daaR a f = (a - 102) % 256 by rw [hr]; simp [g9, g153])
        have HP := Lib.hid (show putB (ofPB (daaR a f)) [(16, false), (2, true), (1, true)] = daaF a f by rw [← hp]; simp [g153])
        have HC := Lib.hid hC
        clear hr hp hC
        go_enter Tryz.func168, Tryz.ntmps168
        go_wp2_with fail
        refine (has_is _ _ _ _ H2.out).mono ?_
        rintro e w' ⟨rfl, rfl⟩
        go_wp2_with fail
        refine (has_is _ _ _ _ H16.out).mono ?_
        rintro e w' ⟨rfl, rfl⟩
        go_wp2_with fail
        refine (has_is _ _ _ _ HC.out).mono ?_
        rintro e w' ⟨rfl, rfl⟩
        go_wp2_with fail
        refine (alow_any _ _ a0 a1).mono ?_
        rintro e w' ⟨rfl, rfl⟩
        go_wp2_with fail
        refine (alow_any _ _ a0 a1).mono ?_
        rintro e w' ⟨rfl, rfl⟩
        go_wp2_with fail
        refine (ofP_eq _ (daaR a f) _ R0.out R1.out (by have := HR.out; omega)).mono ?_
        rintro e w' ⟨rfl, rfl⟩
        go_wp2_with fail
        refine (aput3 _ _ _ _ _ _ _ _ _ _ HP.out).mono ?_
        rintro e w1 ⟨rfl, hb1⟩
        go_wp2_with fail
        go_ret2
        exact ⟨ret2_eq (by have := HR.out; omega) _, hb1⟩
      · have d153 : decide (153 < a) = false := decide_eq_false g153
        have HR := Lib.hid (show daaR a f = (a - 6) % 256 by rw [hr]; simp [g9, g153])
        have HP := Lib.hid (show putB (ofPB (daaR a f)) [(16, false), (2, true), (1, false)] = daaF a f by rw [← hp]; simp [g153])
        have HC := Lib.hid hC
        clear hr hp hC
        go_enter Tryz.func168, Tryz.ntmps168
        go_wp2_with fail
        refine (has_is _ _ _ _ H2.out).mono ?_
        rintro e w' ⟨rfl, rfl⟩
        go_wp2_with fail
        refine (has_is _ _ _ _ H16.out).mono ?_
        rintro e w' ⟨rfl, rfl⟩
        go_wp2_with fail
        refine (has_is _ _ _ _ HC.out).mono ?_
        rintro e w' ⟨rfl, rfl⟩
        go_wp2_with fail
        refine (alow_any _ _ a0 a1).mono ?_
        rintro e w' ⟨rfl, rfl⟩
        go_wp2_with fail
        refine (alow_any _ _ a0 a1).mono ?_
        rintro e w' ⟨rfl, rfl⟩
        go_wp2_with fail
        refine (ofP_eq _ (daaR a f) _ R0.out R1.out (by have := HR.out; omega)).mono ?_
        rintro e w' ⟨rfl, rfl⟩
        go_wp2_with fail
        refine (aput3 _ _ _ _ _ _ _ _ _ _ HP.out).mono ?_
        rintro e w1 ⟨rfl, hb1⟩
        go_wp2_with fail
        go_ret2
        exact ⟨ret2_eq (by have := HR.out; omega) _, hb1⟩
    · have HR := Lib.hid (show daaR a f = (a - 102) % 256 by rw [hr]; simp [g9])
      have HP := Lib.hid (show putB (ofPB (daaR a f)) [(16, false), (2, true), (1, true)] = daaF a f by rw [← hp]; simp)
      have HC := Lib.hid hC
      clear hr hp hC
      go_enter Tryz.func168, Tryz.ntmps168
      go_wp2_with fail
      refine (has_is _ _ _ _ H2.out).mono ?_
      rintro e w' ⟨rfl, rfl⟩
      go_wp2_with fail
      refine (has_is _ _ _ _ H16.out).mono ?_
      rintro e w' ⟨rfl, rfl⟩
      go_wp2_with fail
      refine (has_is _ _ _ _ HC.out).mono ?_
      rintro e w' ⟨rfl, rfl⟩
      go_wp2_with fail
      refine (alow_any _ _ a0 a1).mono ?_
      rintro e w' ⟨rfl, rfl⟩
      go_wp2_with fail
      refine (alow_any _ _ a0 a1).mono ?_
      rintro e w' ⟨rfl, rfl⟩
      go_wp2_with fail
      refine (ofP_eq _ (daaR a f) _ R0.out R1.out (by have := HR.out; omega)).mono ?_
      rintro e w' ⟨rfl, rfl⟩
      go_wp2_with fail
      refine (aput3 _ _ _ _ _ _ _ _ _ _ HP.out).mono ?_
      rintro e w1 ⟨rfl, hb1⟩
      go_wp2_with fail
      go_ret2
      exact ⟨ret2_eq (by have := HR.out; omega) _, hb1⟩
  · have d9 : decide (9 < a % 16) = false := decide_eq_false g9
    cases l7
    · by_cases g153 : 153 < a
      · have HR := Lib.hid (show daaR a f = (a - 96) % 256 by rw [hr]; simp [g9, g153])
        have HP := Lib.hid (show putB (ofPB (daaR a f)) [(16, false), (2, true), (1, true)] = daaF a f by rw [← hp]; simp [g153])
        have HC := Lib.hid hC
        clear hr hp hC
        go_enter Tryz.func168, Tryz.ntmps168
        go_wp2_with fail
        refine (has_is _ _ _ _ H2.out).mono ?_
        rintro e w' ⟨rfl, rfl⟩
        go_wp2_with fail
        refine (has_is _ _ _ _ H16.out).mono ?_
        rintro e w' ⟨rfl, rfl⟩
        go_wp2_with fail
        refine (has_is _ _ _ _ HC.out).mono ?_
        rintro e w' ⟨rfl, rfl⟩
        go_wp2_with fail
        refine (alow_any _ _ a0 a1).mono ?_
        rintro e w' ⟨rfl, rfl⟩
        go_wp2_with fail
        refine (alow_any _ _ a0 a1).mono ?_
        rintro e w' ⟨rfl, rfl⟩
        go_wp2_with fail
        refine (ofP_eq _ (daaR a f) _ R0.out R1.out (by have := HR.out; omega)).mono ?_
        rintro e w' ⟨rfl, rfl⟩
        go_wp2_with fail
        refine (aput3 _ _ _ _ _ _ _ _ _ _ HP.out).mono ?_
        rintro e w1 ⟨rfl, hb1⟩
        go_wp2_with fail
        go_ret2
        exact ⟨ret2_eq (by have := HR.out; omega) _, hb1⟩
      · have d153 : decide (153 < a) = false := decide_eq_false g153
        have HR := Lib.hid (show daaR a f = (a - 0) % 256 by rw [hr]; simp [g9, g153])
        have HP := Lib.hid (show putB (ofPB (daaR a f)) [(16, false), (2, true), (1, false)] = daaF a f by rw [← hp]; simp [g153])
        have HC := Lib.hid hC
        clear hr hp hC
        go_enter Tryz.func168, Tryz.ntmps168
        go_wp2_with fail
        refine (has_is _ _ _ _ H2.out).mono ?_
        rintro e w' ⟨rfl, rfl⟩
        go_wp2_with fail
        refine (has_is _ _ _ _ H16.out).mono ?_
        rintro e w' ⟨rfl, rfl⟩
        go_wp2_with fail
        refine (has_is _ _ _ _ HC.out).mono ?_
        rintro e w' ⟨rfl, rfl⟩
        go_wp2_with fail
        refine (alow_any _ _ a0 a1).mono ?_
        rintro e w' ⟨rfl, rfl⟩
        go_wp2_with fail
        refine (alow_any _ _ a0 a1).mono ?_
        rintro e w' ⟨rfl, rfl⟩
        go_wp2_with fail
        refine (ofP_eq _ (daaR a f) _ R0.out R1.out (by have := HR.out; omega)).mono ?_
        rintro e w' ⟨rfl, rfl⟩
        go_wp2_with fail
        refine (aput3 _ _ _ _ _ _ _ _ _ _ HP.out).mono ?_
        rintro e w1 ⟨rfl, hb1⟩
        go_wp2_with fail
        go_ret2
        exact ⟨ret2_eq (by have := HR.out; omega) _, hb1⟩
    · have HR := Lib.hid (show daaR a f = (a - 96) % 256 by rw [hr]; simp [g9])
      have HP := Lib.hid (show putB (ofPB (daaR a f)) [(16, false), (2, true), (1, true)] = daaF a f by rw [← hp]; simp)
      have HC := Lib.hid hC
      clear hr hp hC
      go_enter Tryz.func168, Tryz.ntmps168
      go_wp2_with fail
      refine (has_is _ _ _ _ H2.out).mono ?_
      rintro e w' ⟨rfl, rfl⟩
      go_wp2_with fail
      refine (has_is _ _ _ _ H16.out).mono ?_
      rintro e w' ⟨rfl, rfl⟩
      go_wp2_with fail
      refine (has_is _ _ _ _ HC.out).mono ?_
      rintro e w' ⟨rfl, rfl⟩
      go_wp2_with fail
      refine (alow_any _ _ a0 a1).mono ?_
      rintro e w' ⟨rfl, rfl⟩
      go_wp2_with fail
      refine (alow_any _ _ a0 a1).mono ?_
      rintro e w' ⟨rfl, rfl⟩
      go_wp2_with fail
      refine (ofP_eq _ (daaR a f) _ R0.out R1.out (by have := HR.out; omega)).mono ?_
      rintro e w' ⟨rfl, rfl⟩
      go_wp2_with fail
      refine (aput3 _ _ _ _ _ _ _ _ _ _ HP.out).mono ?_
      rintro e w1 ⟨rfl, hb1⟩
      go_wp2_with fail
      go_ret2
      exact ⟨ret2_eq (by have := HR.out; omega) _, hb1⟩

set_option maxHeartbeats 4000000 in
theorem daa_ph (a f : Int) (w : World) (a0 : 0 ≤ a) (a1 : a ≤ 255) (f0 : 0 ≤ f) (f1 : f ≤ 255) (e6 : bitN f 6 = false) (e3 : bitN f 3 = true) :
    Calls Tryz.prog 168 #[.int .u8 a, .int .u8 f] w fun e w' => e = .returned (.tuple #[.int .u8 (daaR a f), .int .u8 (daaF a f)]) ∧ Below w.heap.size w w' := by
  obtain ⟨r0, r1⟩ := daaR_bd a f
  have R0 := Lib.hid r0
  have R1 := Lib.hid r1
  have hp := daa_put a f
  have hr : daaR a f = if bitN f 6 then (a - ((if bitN f 3 || decide (9 < a % 16) then 6 else 0) + (if bitN f 7 || decide (153 < a) then 96 else 0))) % 256 else (a + ((if bitN f 3 || decide (9 < a % 16) then 6 else 0) + (if bitN f 7 || decide (153 < a) then 96 else 0))) % 256 := rfl
  have hh : daaH a f = if bitN f 6 then bitN f 3 && decide (a % 16 < 6) else decide (9 < a % 16) := rfl
  have H2 := Lib.hid ((has_2 f f0 f1).trans e6)
  have H16 := Lib.hid ((has_16 f f0 f1).trans e3)
  have hC := has_1 f f0 f1
  rw [hh] at hp
  rw [e6, e3] at hp hr
  clear hh r0 r1 e6 e3
  generalize bitN f 7 = l7 at *
  cases l7
  · by_cases g153 : 153 < a
    · have HR := Lib.hid (show daaR a f = (a + 102) % 256 by rw [hr]; simp [g153])
      have HP := Lib.hid (show putB (ofPB (daaR a f)) [(16, decide (9 < a % 16)), (2, false), (1, true)] = daaF a f by rw [← hp]; simp [g153])
      have HC := Lib.hid hC
      clear hr hp hC
      go_enter Tryz.func168, Tryz.ntmps168
      go_wp2_with fail
      refine (has_is _ _ _ _ H2.out).mono ?_
      rintro e w' ⟨rfl, rfl⟩
      go_wp2_with fail
      refine (has_is _ _ _ _ H16.out).mono ?_
      rintro e w' ⟨rfl, rfl⟩
      go_wp2_with fail
      refine (has_is _ _ _ _ HC.out).mono ?_
      rintro e w' ⟨rfl, rfl⟩
      go_wp2_with fail
      refine (alow_any _ _ a0 a1).mono ?_
      rintro e w' ⟨rfl, rfl⟩
      go_wp2_with fail
      refine (ofP_eq _ (daaR a f) _ R0.out R1.out (by have := HR.out; omega)).mono ?_
      rintro e w' ⟨rfl, rfl⟩
      go_wp2_with fail
      refine (aput3 _ _ _ _ _ _ _ _ _ _ HP.out).mono ?_
      rintro e w1 ⟨rfl, hb1⟩
      go_wp2_with fail
      go_ret2
      exact ⟨ret2_eq (by have := HR.out; omega) _, hb1⟩
    · have d153 : decide (153 < a) = false := decide_eq_false g153
      have HR := Lib.hid (show daaR a f = (a + 6) % 256 by rw [hr]; simp [g153])
      have HP := Lib.hid (show putB (ofPB (daaR a f)) [(16, decide (9 < a % 16)), (2, false), (1, false)] = daaF a f by rw [← hp]; simp [g153])
      have HC := Lib.hid hC
      clear hr hp hC
      go_enter Tryz.func168, Tryz.ntmps168
      go_wp2_with fail
      refine (has_is _ _ _ _ H2.out).mono ?_
      rintro e w' ⟨rfl, rfl⟩
      go_wp2_with fail
      refine (has_is _ _ _ _ H16.out).mono ?_
      rintro e w' ⟨rfl, rfl⟩
      go_wp2_with fail
      refine (has_is _ _ _ _ HC.out).mono ?_
      rintro e w' ⟨rfl, rfl⟩
      go_wp2_with fail
      refine (alow_any _ _ a0 a1).mono ?_
      rintro e w' ⟨rfl, rfl⟩
      go_wp2_with fail
      refine (ofP_eq _ (daaR a f) _ R0.out R1.out (by have := HR.out; omega)).mono ?_
      rintro e w' ⟨rfl, rfl⟩
      go_wp2_with fail
      refine (aput3 _ _ _ _ _ _ _ _ _ _ HP.out).mono ?_
      rintro e w1 ⟨rfl, hb1⟩
      go_wp2_with fail
      go_ret2
      exact ⟨ret2_eq (by have := HR.out; omega) _, hb1⟩
  · have HR := Lib.hid (show daaR a f = (a + 102) % 256 by rw [hr]; simp)
    have HP := Lib.hid (show putB (ofPB (daaR a f)) [(16, decide (9 < a % 16)), (2, false), (1, true)] = daaF a f by rw [← hp]; simp)
    have HC := Lib.hid hC
    clear hr hp hC
    go_enter Tryz.func168, Tryz.ntmps168
    go_wp2_with fail
    refine (has_is _ _ _ _ H2.out).mono ?_
    rintro e w' ⟨rfl, rfl⟩
    go_wp2_with fail
    refine (has_is _ _ _ _ H16.out).mono ?_
    rintro e w' ⟨rfl, rfl⟩
    go_wp2_with fail
    refine (has_is _ _ _ _ HC.out).mono ?_
    rintro e w' ⟨rfl, rfl⟩
    go_wp2_with fail
    refine (alow_any _ _ a0 a1).mono ?_
    rintro e w' ⟨rfl, rfl⟩
    go_wp2_with fail
    refine (ofP_eq _ (daaR a f) _ R0.out R1.out (by have := HR.out; omega)).mono ?_
    rintro e w' ⟨rfl, rfl⟩
    go_wp2_with fail
    refine (aput3 _ _ _ _ _ _ _ _ _ _ HP.out).mono ?_
    rintro e w1 ⟨rfl, hb1⟩
    go_wp2_with fail
    go_ret2
    exact ⟨ret2_eq (by have := HR.out; omega) _, hb1⟩

set_option maxHeartbeats 4000000 in
theorem daa_pn (a f : Int) (w : World) (a0 : 0 ≤ a) (a1 : a ≤ 255) (f0 : 0 ≤ f) (f1 : f ≤ 255) (e6 : bitN f 6 = false) (e3 : bitN f 3 = false) :
    Calls Tryz.prog 168 #[.int .u8 a, .int .u8 f] w fun e w' => e = .returned (.tuple #[.int .u8 (daaR a f), .int .u8 (daaF a f)]) ∧ Below w.heap.size w w' := by
  obtain ⟨r0, r1⟩ := daaR_bd a f
  have R0 := Lib.hid r0
  have R1 := Lib.hid r1
  have hp := daa_put a f
  have hr : daaR a f = if bitN f 6 then (a - ((if bitN f 3 || decide (9 < a % 16) then 6 else 0) + (if bitN f 7 || decide (153 < a) then 96 else 0))) % 256 else (a + ((if bitN f 3 || decide (9 < a % 16) then 6 else 0) + (if bitN f 7 || decide (153 < a) then 96 else 0))) % 256 := rfl
  have hh : daaH a f = if bitN f 6 then bitN f 3 && decide (a % 16 < 6) else decide (9 < a % 16) := rfl
  have H2 := Lib.hid ((has_2 f f0 f1).trans e6)
  have H16 := Lib.hid ((has_16 f f0 f1).trans e3)
  have hC := has_1 f f0 f1
  rw [hh] at hp
  rw [e6, e3] at hp hr
  clear hh r0 r1 e6 e3
  generalize bitN f 7 = l7 at *
  by_cases g9 : 9 < a % 16
  · cases l7
    · by_cases g153 : 153 < a
      · have HR := Lib.hid (show daaR a f = (a + 102) % 256 by rw [hr]; simp [g9, g153])
        have HP := Lib.hid (show putB (ofPB (daaR a f)) [(16, true), (2, false), (1, true)] = daaF a f by rw [← hp]; simp [g9, g153])
        have HC := Lib.hid hC
        clear hr hp hC
        go_enter Tryz.func168, Tryz.ntmps168
        go_wp2_with fail
        refine (has_is _ _ _ _ H2.out).mono ?_
        rintro e w' ⟨rfl, rfl⟩
        go_wp2_with fail
        refine (has_is _ _ _ _ H16.out).mono ?_
        rintro e w' ⟨rfl, rfl⟩
        go_wp2_with fail
        refine (has_is _ _ _ _ HC.out).mono ?_
        rintro e w' ⟨rfl, rfl⟩
        go_wp2_with fail
        refine (alow_any _ _ a0 a1).mono ?_
        rintro e w' ⟨rfl, rfl⟩
        go_wp2_with fail
        refine (alow_any _ _ a0 a1).mono ?_
        rintro e w' ⟨rfl, rfl⟩
        go_wp2_with fail
        refine (ofP_eq _ (daaR a f) _ R0.out R1.out (by have := HR.out; omega)).mono ?_
        rintro e w' ⟨rfl, rfl⟩
        go_wp2_with fail
        refine (aput3 _ _ _ _ _ _ _ _ _ _ HP.out).mono ?_
        rintro e w1 ⟨rfl, hb1⟩
        go_wp2_with fail
        go_ret2
        exact ⟨ret2_eq (by have := HR.out; omega) _, hb1⟩
      · have d153 : decide (153 < a) = false := decide_eq_false g153
        have HR := Lib.hid (show daaR a f = (a + 6) % 256 by rw [hr]; simp [g9, g153])
        have HP := Lib.hid (show putB (ofPB (daaR a f)) [(16, true), (2, false), (1, false)] = daaF a f by rw [← hp]; simp [g9, g153])
        have HC := Lib.hid hC
        clear hr hp hC
        go_enter Tryz.func168, Tryz.ntmps168
        go_wp2_with fail
        refine (has_is _ _ _ _ H2.out).mono ?_
        rintro e w' ⟨rfl, rfl⟩
        go_wp2_with fail
        refine (has_is _ _ _ _ H16.out).mono ?_
        rintro e w' ⟨rfl, rfl⟩
        go_wp2_with fail
        refine (has_is _ _ _ _ HC.out).mono ?_
        rintro e w' ⟨rfl, rfl⟩
        go_wp2_with fail
        refine (alow_any _ _ a0 a1).mono ?_
        rintro e w' ⟨rfl, rfl⟩
        go_wp2_with fail
        refine (alow_any _ _ a0 a1).mono ?_
        rintro e w' ⟨rfl, rfl⟩
        go_wp2_with fail
        refine (ofP_eq _ (daaR a f) _ R0.out R1.out (by have := HR.out; omega)).mono ?_
        rintro e w' ⟨rfl, rfl⟩
        go_wp2_with fail
        refine (aput3 _ _ _ _ _ _ _ _ _ _ HP.out).mono ?_
        rintro e w1 ⟨rfl, hb1⟩
        go_wp2_with fail
        go_ret2
        exact ⟨ret2_eq (by have := HR.out; omega) _, hb1⟩
    · have HR := Lib.hid (show daaR a f = (a + 102) % 256 by rw [hr]; simp [g9])
      have HP := Lib.hid (show putB (ofPB (daaR a f)) [(16, true), (2, false), (1, true)] = daaF a f by rw [← hp]; simp [g9])
      have HC := Lib.hid hC
      clear hr hp hC
      go_enter Tryz.func168, Tryz.ntmps168
      go_wp2_with fail
      refine (has_is _ _ _ _ H2.out).mono ?_
      rintro e w' ⟨rfl, rfl⟩
      go_wp2_with fail
      refine (has_is _ _ _ _ H16.out).mono ?_
      rintro e w' ⟨rfl, rfl⟩
      go_wp2_with fail
      refine (has_is _ _ _ _ HC.out).mono ?_
      rintro e w' ⟨rfl, rfl⟩
      go_wp2_with fail
      refine (alow_any _ _ a0 a1).mono ?_
      rintro e w' ⟨rfl, rfl⟩
      go_wp2_with fail
      refine (alow_any _ _ a0 a1).mono ?_
      rintro e w' ⟨rfl, rfl⟩
      go_wp2_with fail
      refine (ofP_eq _ (daaR a f) _ R0.out R1.out (by have := HR.out; omega)).mono ?_
      rintro e w' ⟨rfl, rfl⟩
      go_wp2_with fail
      refine (aput3 _ _ _ _ _ _ _ _ _ _ HP.out).mono ?_
      rintro e w1 ⟨rfl, hb1⟩
      go_wp2_with fail
      go_ret2
      exact ⟨ret2_eq (by have := HR.out; omega) _, hb1⟩
  · have d9 : decide (9 < a % 16) = false := decide_eq_false g9
    cases l7
    · by_cases g153 : 153 < a
      · have HR := Lib.hid (show daaR a f = (a + 96) % 256 by rw [hr]; simp [g9, g153])
        have HP := Lib.hid (show putB (ofPB (daaR a f)) [(16, false), (2, false), (1, true)] = daaF a f by rw [← hp]; simp [g9, g153])
        have HC := Lib.hid hC
        clear hr hp hC
        go_enter Tryz.func168, Tryz.ntmps168
        go_wp2_with fail
        refine (has_is _ _ _ _ H2.out).mono ?_
        rintro e w' ⟨rfl, rfl⟩
        go_wp2_with fail
        refine (has_is _ _ _ _ H16.out).mono ?_
        rintro e w' ⟨rfl, rfl⟩
        go_wp2_with fail
        refine (has_is _ _ _ _ HC.out).mono ?_
        rintro e w' ⟨rfl, rfl⟩
        go_wp2_with fail
        refine (alow_any _ _ a0 a1).mono ?_
        rintro e w' ⟨rfl, rfl⟩
        go_wp2_with fail
        refine (alow_any _ _ a0 a1).mono ?_
        rintro e w' ⟨rfl, rfl⟩
        go_wp2_with fail
        refine (ofP_eq _ (daaR a f) _ R0.out R1.out (by have := HR.out; omega)).mono ?_
        rintro e w' ⟨rfl, rfl⟩
        go_wp2_with fail
        refine (aput3 _ _ _ _ _ _ _ _ _ _ HP.out).mono ?_
        rintro e w1 ⟨rfl, hb1⟩
        go_wp2_with fail
        go_ret2
        exact ⟨ret2_eq (by have := HR.out; omega) _, hb1⟩
      · have d153 : decide (153 < a) = false := decide_eq_false g153
        have HR := Lib.hid (show daaR a f = (a + 0) % 256 by rw [hr]; simp [g9, g153])
        have HP := Lib.hid (show putB (ofPB (daaR a f)) [(16, false), (2, false), (1, false)] = daaF a f by rw [← hp]; simp [g9, g153])
        have HC := Lib.hid hC
        clear hr hp hC
        go_enter Tryz.func168, Tryz.ntmps168
        go_wp2_with fail
        refine (has_is _ _ _ _ H2.out).mono ?_
        rintro e w' ⟨rfl, rfl⟩
        go_wp2_with fail
        refine (has_is _ _ _ _ H16.out).mono ?_
        rintro e w' ⟨rfl, rfl⟩
        go_wp2_with fail
        refine (has_is _ _ _ _ HC.out).mono ?_
        rintro e w' ⟨rfl, rfl⟩
        go_wp2_with fail
        refine (alow_any _ _ a0 a1).mono ?_
        rintro e w' ⟨rfl, rfl⟩
        go_wp2_with fail
        refine (alow_any _ _ a0 a1).mono ?_
        rintro e w' ⟨rfl, rfl⟩
        go_wp2_with fail
        refine (ofP_eq _ (daaR a f) _ R0.out R1.out (by have := HR.out; omega)).mono ?_
        rintro e w' ⟨rfl, rfl⟩
        go_wp2_with fail
        refine (aput3 _ _ _ _ _ _ _ _ _ _ HP.out).mono ?_
        rintro e w1 ⟨rfl, hb1⟩
        go_wp2_with fail
        go_ret2
        exact ⟨ret2_eq (by have := HR.out; omega) _, hb1⟩
    · have HR := Lib.hid (show daaR a f = (a + 96) % 256 by rw [hr]; simp [g9])
      have HP := Lib.hid (show putB (ofPB (daaR a f)) [(16, false), (2, false), (1, true)] = daaF a f by rw [← hp]; simp [g9])
      have HC := Lib.hid hC
      clear hr hp hC
      go_enter Tryz.func168, Tryz.ntmps168
      go_wp2_with fail
      refine (has_is _ _ _ _ H2.out).mono ?_
      rintro e w' ⟨rfl, rfl⟩
      go_wp2_with fail
      refine (has_is _ _ _ _ H16.out).mono ?_
      rintro e w' ⟨rfl, rfl⟩
      go_wp2_with fail
      refine (has_is _ _ _ _ HC.out).mono ?_
      rintro e w' ⟨rfl, rfl⟩
      go_wp2_with fail
      refine (alow_any _ _ a0 a1).mono ?_
      rintro e w' ⟨rfl, rfl⟩
      go_wp2_with fail
      refine (alow_any _ _ a0 a1).mono ?_
      rintro e w' ⟨rfl, rfl⟩
      go_wp2_with fail
      refine (ofP_eq _ (daaR a f) _ R0.out R1.out (by have := HR.out; omega)).mono ?_
      rintro e w' ⟨rfl, rfl⟩
      go_wp2_with fail
      refine (aput3 _ _ _ _ _ _ _ _ _ _ HP.out).mono ?_
      rintro e w1 ⟨rfl, hb1⟩
      go_wp2_with fail
      go_ret2
      exact ⟨ret2_eq (by have := HR.out; omega) _, hb1⟩

theorem daa_any (a f : Int) (w : World) (a0 : 0 ≤ a) (a1 : a ≤ 255) (f0 : 0 ≤ f) (f1 : f ≤ 255) :
    Calls Tryz.prog 168 #[.int .u8 a, .int .u8 f] w fun e w' => e = .returned (.tuple #[.int .u8 (daaR a f), .int .u8 (daaF a f)]) ∧ Below w.heap.size w w' := by
  cases e6 : bitN f 6
  · cases e3 : bitN f 3
    · exact daa_pn a f w a0 a1 f0 f1 e6 e3
    · exact daa_ph a f w a0 a1 f0 f1 e6 e3
  · cases e3 : bitN f 3
    · exact daa_mn a f w a0 a1 f0 f1 e6 e3
    · exact daa_mh a f w a0 a1 f0 f1 e6 e3

end Go.Proofs.YtcfkpeemhleleaaGreatDoor
/- The document's Bit, Even and Flags: contracts for regions that draw their order, and with the answer handed in. -/
namespace Go.Proofs.YtcfkpeemhleleaaGreatDoor
open Go.RowKit

end Go.Proofs.YtcfkpeemhleleaaGreatDoor
/- The document's answers for layer 2: their contracts. -/
namespace Go.Proofs.YtcfkpeemhleleaaGreatDoor
open Go.RowKit

end Go.Proofs.YtcfkpeemhleleaaGreatDoor
/- The document's Mix, Keep, Cpl and Add: their contracts. -/
namespace Go.Proofs.YtcfkpeemhleleaaGreatDoor
open Go.RowKit

end Go.Proofs.YtcfkpeemhleleaaGreatDoor
/- The document's Scf and Ccf: their contracts. -/
namespace Go.Proofs.YtcfkpeemhleleaaGreatDoor
open Go.RowKit

end Go.Proofs.YtcfkpeemhleleaaGreatDoor
/- The document's Daa: its contract. -/
namespace Go.Proofs.YtcfkpeemhleleaaGreatDoor
open Go.RowKit

end Go.Proofs.YtcfkpeemhleleaaGreatDoor
/- The document's Join: its contract. -/
namespace Go.Proofs.YtcfkpeemhleleaaGreatDoor
open Go.RowKit

end Go.Proofs.YtcfkpeemhleleaaGreatDoor
/- alu.Do and the document's Do: their contracts; the chapter's examples. -/
namespace Go.Proofs.YtcfkpeemhleleaaGreatDoor
open Go.RowKit

theorem ne_all (k : Int) (h : k < 0 ∨ 7 < k) : (k == 0) = false ∧ (k == 1) = false ∧ (k == 2) = false ∧ (k == 3) = false ∧ (k == 4) = false ∧ (k == 5) = false ∧ (k == 6) = false ∧ (k == 7) = false := by
  refine ⟨?_, ?_, ?_, ?_, ?_, ?_, ?_, ?_⟩ <;> (rw [beq_eq_false_iff_ne]; omega)
theorem eight_or (k : Int) : (k < 0 ∨ 7 < k) ∨ k = 0 ∨ k = 1 ∨ k = 2 ∨ k = 3 ∨ k = 4 ∨ k = 5 ∨ k = 6 ∨ k = 7 := by omega

set_option maxHeartbeats 3200000 in
theorem do_any (k a b f : Int) (w : World) (a0 : 0 ≤ a) (a1 : a ≤ 255) (b0 : 0 ≤ b) (b1 : b ≤ 255) (f0 : 0 ≤ f) (f1 : f ≤ 255) :
    Calls Tryz.prog 118 #[.int .i64 k, .int .u8 a, .int .u8 b, .int .u8 f] w fun e w' => e = .returned (.tuple #[.int .u8 (doV k a b f).1, .int .u8 (doV k a b f).2]) ∧ Below w.heap.size w w' := by
  have HC := Lib.hid (has_1 f f0 f1)
  rcases eight_or k with hk | rfl | rfl | rfl | rfl | rfl | rfl | rfl | rfl
  · rw [doV_else k a b f hk]
    obtain ⟨k0, k1, k2, k3, k4, k5, k6, k7⟩ := ne_all k hk
    clear hk
    go_enter Tryz.func118, Tryz.ntmps118
    go_wp2_with fail
    refine (has_is _ _ _ _ HC.out).mono ?_
    rintro e w' ⟨rfl, rfl⟩
    go_wp2_with fail
    go_ret2
    exact ⟨rfl, Below.refl _ _⟩
  · rw [doV_0]
    go_enter Tryz.func118, Tryz.ntmps118
    go_wp2_with fail
    refine (has_is _ _ _ _ HC.out).mono ?_
    rintro e w' ⟨rfl, rfl⟩
    go_wp2_with fail
    refine (add_any _ _ _ _ a0 a1 b0 b1).mono ?_
    rintro e w1 ⟨rfl, hb1⟩
    go_wp2_with fail
    go_ret2
    exact ⟨rfl, hb1⟩
  · rw [doV_1]
    go_enter Tryz.func118, Tryz.ntmps118
    go_wp2_with fail
    refine (has_is _ _ _ _ HC.out).mono ?_
    rintro e w' ⟨rfl, rfl⟩
    go_wp2_with fail
    refine (add_any _ _ _ _ a0 a1 b0 b1).mono ?_
    rintro e w1 ⟨rfl, hb1⟩
    go_wp2_with fail
    go_ret2
    exact ⟨rfl, hb1⟩
  · rw [doV_2]
    go_enter Tryz.func118, Tryz.ntmps118
    go_wp2_with fail
    refine (has_is _ _ _ _ HC.out).mono ?_
    rintro e w' ⟨rfl, rfl⟩
    go_wp2_with fail
    refine (sub_any _ _ _ _ a0 a1 b0 b1).mono ?_
    rintro e w1 ⟨rfl, hb1⟩
    go_wp2_with fail
    go_ret2
    exact ⟨rfl, hb1⟩
  · rw [doV_3]
    go_enter Tryz.func118, Tryz.ntmps118
    go_wp2_with fail
    refine (has_is _ _ _ _ HC.out).mono ?_
    rintro e w' ⟨rfl, rfl⟩
    go_wp2_with fail
    refine (sub_any _ _ _ _ a0 a1 b0 b1).mono ?_
    rintro e w1 ⟨rfl, hb1⟩
    go_wp2_with fail
    go_ret2
    exact ⟨rfl, hb1⟩
  · rw [doV_4]
    go_enter Tryz.func118, Tryz.ntmps118
    go_wp2_with fail
    refine (has_is _ _ _ _ HC.out).mono ?_
    rintro e w' ⟨rfl, rfl⟩
    go_wp2_with fail
    refine (and_any _ _ _ a0 a1 b0 b1).mono ?_
    rintro e w1 ⟨rfl, hb1⟩
    go_wp2_with fail
    go_ret2
    exact ⟨rfl, hb1⟩
  · rw [doV_5]
    go_enter Tryz.func118, Tryz.ntmps118
    go_wp2_with fail
    refine (has_is _ _ _ _ HC.out).mono ?_
    rintro e w' ⟨rfl, rfl⟩
    go_wp2_with fail
    refine (xor_any _ _ _ a0 a1 b0 b1).mono ?_
    rintro e w1 ⟨rfl, hb1⟩
    go_wp2_with fail
    go_ret2
    exact ⟨rfl, hb1⟩
  · rw [doV_6]
    go_enter Tryz.func118, Tryz.ntmps118
    go_wp2_with fail
    refine (has_is _ _ _ _ HC.out).mono ?_
    rintro e w' ⟨rfl, rfl⟩
    go_wp2_with fail
    refine (or_any _ _ _ a0 a1 b0 b1).mono ?_
    rintro e w1 ⟨rfl, hb1⟩
    go_wp2_with fail
    go_ret2
    exact ⟨rfl, hb1⟩
  · rw [doV_7]
    go_enter Tryz.func118, Tryz.ntmps118
    go_wp2_with fail
    refine (has_is _ _ _ _ HC.out).mono ?_
    rintro e w' ⟨rfl, rfl⟩
    go_wp2_with fail
    refine (cp_any _ _ _ a0 a1 b0 b1).mono ?_
    rintro e w1 ⟨rfl, hb1⟩
    go_wp2_with fail
    go_ret2
    exact ⟨rfl, hb1⟩

end Go.Proofs.YtcfkpeemhleleaaGreatDoor
/- The contracts of layer 4's calls. -/
namespace Go.Proofs.YtcfkpeemhleleaaGreatDoor
open Go.RowKit

set_option maxHeartbeats 400000 in
theorem up_any (b : Int) (i : Bool) (w : World) (h0 : 0 ≤ b) (h1 : b ≤ 255) : Calls Tryz.prog 190 #[.int .u8 b, .bool i] w fun e w' => e = .returned (.int .u8 (upR b i)) ∧ w = w' := by
  have H := Lib.hid (up_is b i h0 h1)
  go_enter Tryz.func190, Tryz.ntmps190
  go_wp2_with fail
  refine (with_is _ _ _ _ _ H.out).mono ?_
  rintro e w' ⟨rfl, rfl⟩
  go_wp2_with fail
  go_ret
  exact ⟨rfl, rfl⟩
set_option maxHeartbeats 400000 in
theorem down_any (b : Int) (i : Bool) (w : World) (h0 : 0 ≤ b) (h1 : b ≤ 255) : Calls Tryz.prog 191 #[.int .u8 b, .bool i] w fun e w' => e = .returned (.int .u8 (downR b i)) ∧ w = w' := by
  have H := Lib.hid (down_is b i h0 h1)
  go_enter Tryz.func191, Tryz.ntmps191
  go_wp2_with fail
  refine (with_is _ _ _ _ _ H.out).mono ?_
  rintro e w' ⟨rfl, rfl⟩
  go_wp2_with fail
  go_ret
  exact ⟨rfl, rfl⟩

set_option maxHeartbeats 1600000 in
theorem turned_any (k b : Int) (c : Bool) (w : World) (k0 : 0 ≤ k) (k7 : k ≤ 7) (h0 : 0 ≤ b) (h1 : b ≤ 255) :
    Calls Tryz.prog 163 #[.int .i64 k, .int .u8 b, .bool c] w fun e w' => e = .returned (.tuple #[.int .u8 (turnV k b c).1, .bool (turnV k b c).2]) ∧ w = w' := by
  have HH := Lib.hid (has_128 b h0 h1)
  have HL := Lib.hid (has_1 b h0 h1)
  rcases eight_in k k0 k7 with rfl | rfl | rfl | rfl | rfl | rfl | rfl | rfl
  · rw [turnV_0]
    clear k0 k7
    go_enter Tryz.func163, Tryz.ntmps163
    go_wp2_with fail
    refine (has_is _ _ _ _ HH.out).mono ?_
    rintro e w' ⟨rfl, rfl⟩
    go_wp2_with fail
    refine (has_is _ _ _ _ HL.out).mono ?_
    rintro e w' ⟨rfl, rfl⟩
    go_wp2_with fail
    refine (up_any _ _ _ h0 h1).mono ?_
    rintro e w' ⟨rfl, rfl⟩
    go_wp2_with fail
    go_ret2
    exact ⟨rfl, rfl⟩
  · rw [turnV_1]
    clear k0 k7
    go_enter Tryz.func163, Tryz.ntmps163
    go_wp2_with fail
    refine (has_is _ _ _ _ HH.out).mono ?_
    rintro e w' ⟨rfl, rfl⟩
    go_wp2_with fail
    refine (has_is _ _ _ _ HL.out).mono ?_
    rintro e w' ⟨rfl, rfl⟩
    go_wp2_with fail
    refine (down_any _ _ _ h0 h1).mono ?_
    rintro e w' ⟨rfl, rfl⟩
    go_wp2_with fail
    go_ret2
    exact ⟨rfl, rfl⟩
  · rw [turnV_2]
    clear k0 k7
    go_enter Tryz.func163, Tryz.ntmps163
    go_wp2_with fail
    refine (has_is _ _ _ _ HH.out).mono ?_
    rintro e w' ⟨rfl, rfl⟩
    go_wp2_with fail
    refine (has_is _ _ _ _ HL.out).mono ?_
    rintro e w' ⟨rfl, rfl⟩
    go_wp2_with fail
    refine (up_any _ _ _ h0 h1).mono ?_
    rintro e w' ⟨rfl, rfl⟩
    go_wp2_with fail
    go_ret2
    exact ⟨rfl, rfl⟩
  · rw [turnV_3]
    clear k0 k7
    go_enter Tryz.func163, Tryz.ntmps163
    go_wp2_with fail
    refine (has_is _ _ _ _ HH.out).mono ?_
    rintro e w' ⟨rfl, rfl⟩
    go_wp2_with fail
    refine (has_is _ _ _ _ HL.out).mono ?_
    rintro e w' ⟨rfl, rfl⟩
    go_wp2_with fail
    refine (down_any _ _ _ h0 h1).mono ?_
    rintro e w' ⟨rfl, rfl⟩
    go_wp2_with fail
    go_ret2
    exact ⟨rfl, rfl⟩
  · rw [turnV_4]
    clear k0 k7
    go_enter Tryz.func163, Tryz.ntmps163
    go_wp2_with fail
    refine (has_is _ _ _ _ HH.out).mono ?_
    rintro e w' ⟨rfl, rfl⟩
    go_wp2_with fail
    refine (has_is _ _ _ _ HL.out).mono ?_
    rintro e w' ⟨rfl, rfl⟩
    go_wp2_with fail
    refine (up_any _ _ _ h0 h1).mono ?_
    rintro e w' ⟨rfl, rfl⟩
    go_wp2_with fail
    go_ret2
    exact ⟨rfl, rfl⟩
  · rw [turnV_5]
    clear k0 k7
    go_enter Tryz.func163, Tryz.ntmps163
    go_wp2_with fail
    refine (has_is _ _ _ _ HH.out).mono ?_
    rintro e w' ⟨rfl, rfl⟩
    go_wp2_with fail
    refine (has_is _ _ _ _ HL.out).mono ?_
    rintro e w' ⟨rfl, rfl⟩
    go_wp2_with fail
    refine (down_any _ _ _ h0 h1).mono ?_
    rintro e w' ⟨rfl, rfl⟩
    go_wp2_with fail
    go_ret2
    exact ⟨rfl, rfl⟩
  · rw [turnV_6]
    clear k0 k7
    go_enter Tryz.func163, Tryz.ntmps163
    go_wp2_with fail
    refine (has_is _ _ _ _ HH.out).mono ?_
    rintro e w' ⟨rfl, rfl⟩
    go_wp2_with fail
    refine (has_is _ _ _ _ HL.out).mono ?_
    rintro e w' ⟨rfl, rfl⟩
    go_wp2_with fail
    refine (up_any _ _ _ h0 h1).mono ?_
    rintro e w' ⟨rfl, rfl⟩
    go_wp2_with fail
    go_ret2
    exact ⟨rfl, rfl⟩
  · rw [turnV_7]
    clear k0 k7
    go_enter Tryz.func163, Tryz.ntmps163
    go_wp2_with fail
    refine (has_is _ _ _ _ HH.out).mono ?_
    rintro e w' ⟨rfl, rfl⟩
    go_wp2_with fail
    refine (has_is _ _ _ _ HL.out).mono ?_
    rintro e w' ⟨rfl, rfl⟩
    go_wp2_with fail
    refine (down_any _ _ _ h0 h1).mono ?_
    rintro e w' ⟨rfl, rfl⟩
    go_wp2_with fail
    go_ret2
    exact ⟨rfl, rfl⟩

set_option maxHeartbeats 800000 in
theorem doT_any (k b f : Int) (w : World) (h0 : 0 ≤ b) (h1 : b ≤ 255) (f0 : 0 ≤ f) (f1 : f ≤ 255) :
    Calls Tryz.prog 119 #[.int .i64 k, .int .u8 b, .int .u8 f] w fun e w' => e = .returned (.tuple #[.int .u8 (doV4 k b f).1, .int .u8 (doV4 k b f).2]) ∧ w = w' := by
  by_cases hl : k < 0
  · rw [doV4_out k b f (.inl hl)]
    have hd : decide (k < 0) = true := decide_eq_true hl
    go_enter Tryz.func119, Tryz.ntmps119
    go_wp2_with fail
    go_ret2
    exact ⟨rfl, rfl⟩
  have hd : decide (k < 0) = false := decide_eq_false hl
  by_cases hh : 7 < k
  · rw [doV4_out k b f (.inr hh)]
    have he : decide (7 < k) = true := decide_eq_true hh
    go_enter Tryz.func119, Tryz.ntmps119
    go_wp2_with fail
    go_ret2
    exact ⟨rfl, rfl⟩
  have he : decide (7 < k) = false := decide_eq_false hh
  have k0 : 0 ≤ k := by omega
  have k7 : k ≤ 7 := by omega
  rw [doV4_in k b f k0 k7]
  have HC := Lib.hid (has_1 f f0 f1)
  have hbd := turnV_bd k b (bitN f 7)
  have HP := Lib.hid (turn_put (turnV k b (bitN f 7)).1 (turnV k b (bitN f 7)).2 hbd.1 hbd.2)
  obtain ⟨r0, r1⟩ := hbd
  go_enter Tryz.func119, Tryz.ntmps119
  go_wp2_with fail
  refine (has_is _ _ _ _ HC.out).mono ?_
  rintro e w' ⟨rfl, rfl⟩
  go_wp2_with fail
  refine (turned_any _ _ _ _ k0 k7 h0 h1).mono ?_
  rintro e w' ⟨rfl, rfl⟩
  go_wp2_with fail
  refine (ofP_any _ _ r0 r1).mono ?_
  rintro e w' ⟨rfl, rfl⟩
  go_wp2_with fail
  refine (with_is _ _ _ _ _ HP.out).mono ?_
  rintro e w' ⟨rfl, rfl⟩
  go_wp2_with fail
  go_ret2
  exact ⟨rfl, rfl⟩

set_option maxHeartbeats 800000 in
theorem accT_any (k b f : Int) (w : World) (h0 : 0 ≤ b) (h1 : b ≤ 255) (f0 : 0 ≤ f) (f1 : f ≤ 255) :
    Calls Tryz.prog 167 #[.int .i64 k, .int .u8 b, .int .u8 f] w fun e w' => e = .returned (.tuple #[.int .u8 (accV4 k b f).1, .int .u8 (accV4 k b f).2]) ∧ w = w' := by
  by_cases hl : k < 0
  · rw [accV4_out k b f (.inl hl)]
    have hd : decide (k < 0) = true := decide_eq_true hl
    go_enter Tryz.func167, Tryz.ntmps167
    go_wp2_with fail
    go_ret2
    exact ⟨rfl, rfl⟩
  have hd : decide (k < 0) = false := decide_eq_false hl
  by_cases hh : 3 < k
  · rw [accV4_out k b f (.inr hh)]
    have he : decide (3 < k) = true := decide_eq_true hh
    go_enter Tryz.func167, Tryz.ntmps167
    go_wp2_with fail
    go_ret2
    exact ⟨rfl, rfl⟩
  have he : decide (3 < k) = false := decide_eq_false hh
  have HD := doT_any k b f w h0 h1 f0 f1
  rw [doV4_in k b f (by omega) (by omega)] at HD
  rw [accV4_in k b f (by omega) (by omega)]
  have HA := acc_put f (turnV k b (bitN f 7)).1 (turnV k b (bitN f 7)).2 f0 f1
  generalize (turnV k b (bitN f 7)).1 = r at *
  generalize (turnV k b (bitN f 7)).2 = o at *
  have HD := Lib.hid HD
  go_enter Tryz.func167, Tryz.ntmps167
  go_wp2_with fail
  refine (HD.out).mono ?_
  rintro e w' ⟨rfl, rfl⟩
  go_wp2_with fail
  go_ret2
  exact ⟨rfl, rfl⟩

end Go.Proofs.YtcfkpeemhleleaaGreatDoor
/- The contracts of layer 4's calls on bits and halves. -/
namespace Go.Proofs.YtcfkpeemhleleaaGreatDoor
open Go.RowKit

end Go.Proofs.YtcfkpeemhleleaaGreatDoor
/- The works of bytes that plain codes ask for: their contracts. -/
namespace Go.Proofs.YtcfkpeemhleleaaGreatDoor
open Go.RowKit
set_option maxRecDepth 100000
set_option linter.unusedVariables false
set_option linter.unusedSimpArgs false
variable {w0 : World} {b f base : Nat} {x : Cp} {v : Value} {y : Fl} {va : Value}

def adjS (x : Cp) (k : Int) : Cp := if k ≤ 3 then putAFS x (accV4 k x.r.a x.r.f).1 (accV4 k x.r.a x.r.f).2 else if k = 4 then putAFS x (daaR x.r.a x.r.f) (daaF x.r.a x.r.f) else if k = 5 then putAFS x (255 - x.r.a) (cplF x.r.a x.r.f)
  else if k = 6 then putFS x (scfF x.r.a x.r.f x.r.q) else putFS x (ccfF x.r.a x.r.f x.r.q)
/-- The works of bytes. -/
def workB (x : Cp) (g k n : Int) : Cp :=
  if g = 0 then putAFS x (doV k x.r.a (regS x n) x.r.f).1 (doV k x.r.a (regS x n) x.r.f).2 else if g = 40 then putRegS x k (regS x n)
  else if g = 56 then putFS (putRegS x n (addR (regS x n) 1 false)) (keepF (addF (regS x n) 1 false) x.r.f) else if g = 64 then putFS (putRegS x n (subR (regS x n) 1 false)) (keepF (subF (regS x n) 1 false) x.r.f)
  else if g = 72 then adjS x k else if g = 120 then { x with r := { x.r with b := w8 (x.r.b - 1) } } else x

set_option maxHeartbeats 1600000 in
theorem workB0 (k n : Int) (w : World) (h : Mc w0 w b f base x v y va) (ok : x.Ok) :
    Calls Tryz.prog 83 #[.pointer (some ⟨b, 0, none⟩), .int .i64 0, .int .i64 k, .int .i64 n] w fun e w' => e = .returned (.tuple #[]) ∧ Mc w0 w' b f base (workB x 0 k n) v y va := by
  obtain ⟨q, hq⟩ : ∃ q, regS x n = q := ⟨_, rfl⟩
  have q8 := regS_bd ok n
  rw [hq] at q8
  obtain ⟨p, hp⟩ : ∃ p, doV k x.r.a q x.r.f = p := ⟨_, rfl⟩
  rw [show workB x 0 k n = putAFS x p.1 p.2 by unfold workB; rw [if_pos rfl, hq, hp]]
  have H := Lib.hid h.drew
  have HR := Lib.hid (reg_any n w.drew h.drew ok)
  rw [hq] at HR
  have HD := Lib.hid (fun u => do_any k x.r.a q x.r.f u ok.r.a.1 ok.r.a.2 q8.1 q8.2 ok.r.f.1 ok.r.f.2)
  rw [hp] at HD
  have HC := Lib.hid (fun (u : World) (hu : Mc w0 u b f base x v y va) => show u.cell? ⟨b, 0, none⟩ = some (.int .u8 x.r.a) ∧ u.cell? ⟨b, 1, none⟩ = some (.int .u8 x.r.f) from ⟨hu.cell 0 _ rfl, hu.cell 1 _ rfl⟩)
  have HS := HC.out w h
  clear h hq hp q8
  go_enter Tryz.func83, Tryz.ntmps83
  go_wp2_with fail
  first | refine wp_region_noPanic ?_ | skip
  refine wp_region_U (n := 18) (S := (fun u => u.cell? ⟨b, 0, none⟩ = some (.int .u8 x.r.a) ∧ u.cell? ⟨b, 1, none⟩ = some (.int .u8 x.r.f))) (by kernel_rfl) (by kernel_rfl) HS (fun hHeld => ?_)
  refine wpAnyU_take (i := 0) (v := ?v1) rfl (by kernel_rfl) (by kernel_rfl) (by kernel_rfl) (by kernel_rfl) (fun _ _ _ h => h) (Or.inl ⟨by rfl, ?hy1⟩) (by assumption) ?rest1
  case hy1 => (intro w hSw; (try dsimp only at hSw); go_simp; try with_reducible rfl)
  try simp only [Act.put, List.getElem_toArray, List.getElem_cons_succ, List.getElem_cons_zero, List.setIfInBounds_toArray, List.set_cons_zero, List.set_cons_succ]
  refine wpAnyU_take (i := 1) (v := ?v2) rfl (by kernel_rfl) (by kernel_rfl) (by kernel_rfl) (by kernel_rfl) (fun _ _ _ h => h) (Or.inl ⟨by rfl, ?hy2⟩) (by assumption) ?rest2
  case hy2 => (intro w hSw; (try dsimp only at hSw); go_simp; try with_reducible rfl)
  try simp only [Act.put, List.getElem_toArray, List.getElem_cons_succ, List.getElem_cons_zero, List.setIfInBounds_toArray, List.set_cons_zero, List.set_cons_succ]
  refine wpAnyU_take (i := 2) (v := ?v3) rfl (by kernel_rfl) (by kernel_rfl) (by kernel_rfl) (by kernel_rfl) (fun _ _ _ h => h) (Or.inl ⟨by rfl, ?hy3⟩) (by assumption) ?rest3
  case hy3 => (intro w hSw; (try dsimp only at hSw); go_simp; try with_reducible rfl)
  try simp only [Act.put, List.getElem_toArray, List.getElem_cons_succ, List.getElem_cons_zero, List.setIfInBounds_toArray, List.set_cons_zero, List.set_cons_succ]
  refine wpAnyU_take (i := 3) (v := ?v4) rfl (by kernel_rfl) (by kernel_rfl) (by kernel_rfl) (by kernel_rfl) (fun _ _ _ h => h) (Or.inl ⟨by rfl, ?hy4⟩) (by assumption) ?rest4
  case hy4 => (intro w hSw; (try dsimp only at hSw); go_simp; try with_reducible rfl)
  try simp only [Act.put, List.getElem_toArray, List.getElem_cons_succ, List.getElem_cons_zero, List.setIfInBounds_toArray, List.set_cons_zero, List.set_cons_succ]
  refine wpAnyU_take (i := 4) (v := ?v5) rfl (by kernel_rfl) (by kernel_rfl) (by kernel_rfl) (by kernel_rfl) (fun _ _ _ h => h) (Or.inl ⟨by rfl, ?hy5⟩) (by assumption) ?rest5
  case hy5 => (intro w hSw; (try dsimp only at hSw); go_simp; try with_reducible rfl)
  try simp only [Act.put, List.getElem_toArray, List.getElem_cons_succ, List.getElem_cons_zero, List.setIfInBounds_toArray, List.set_cons_zero, List.set_cons_succ]
  refine wpAnyU_take (i := 5) (v := ?v6) rfl (by kernel_rfl) (by kernel_rfl) (by kernel_rfl) (by kernel_rfl) (fun _ _ _ h => h) (Or.inl ⟨by rfl, ?hy6⟩) (by assumption) ?rest6
  case hy6 => (intro w hSw; (try dsimp only at hSw); go_simp; try with_reducible rfl)
  try simp only [Act.put, List.getElem_toArray, List.getElem_cons_succ, List.getElem_cons_zero, List.setIfInBounds_toArray, List.set_cons_zero, List.set_cons_succ]
  refine wpAnyU_take (i := 6) (v := ?v7) rfl (by kernel_rfl) (by kernel_rfl) (by kernel_rfl) (by kernel_rfl) (fun _ _ _ h => h) (Or.inl ⟨by rfl, ?hy7⟩) (by assumption) ?rest7
  case hy7 => (intro w hSw; (try dsimp only at hSw); go_simp; try with_reducible rfl)
  try simp only [Act.put, List.getElem_toArray, List.getElem_cons_succ, List.getElem_cons_zero, List.setIfInBounds_toArray, List.set_cons_zero, List.set_cons_succ]
  refine wpAnyU_take (i := 7) (v := ?v8) rfl (by kernel_rfl) (by kernel_rfl) (by kernel_rfl) (by kernel_rfl) (fun _ _ _ h => h) (Or.inl ⟨by rfl, ?hy8⟩) (by assumption) ?rest8
  case hy8 => (intro w hSw; (try dsimp only at hSw); go_simp; try with_reducible rfl)
  try simp only [Act.put, List.getElem_toArray, List.getElem_cons_succ, List.getElem_cons_zero, List.setIfInBounds_toArray, List.set_cons_zero, List.set_cons_succ]
  refine wpAnyU_take (i := 8) (v := ?v9) rfl (by kernel_rfl) (by kernel_rfl) (by kernel_rfl) (by kernel_rfl) (fun _ _ _ h => h) (Or.inl ⟨by rfl, ?hy9⟩) (by assumption) ?rest9
  case hy9 => (intro w hSw; (try dsimp only at hSw); go_simp; try with_reducible rfl)
  try simp only [Act.put, List.getElem_toArray, List.getElem_cons_succ, List.getElem_cons_zero, List.setIfInBounds_toArray, List.set_cons_zero, List.set_cons_succ]
  refine wpAnyU_take (i := 10) (v := ?v10) rfl (by kernel_rfl) (by kernel_rfl) (by kernel_rfl) (by kernel_rfl) (fun _ _ _ h => h) (Or.inl ⟨by rfl, ?hy10⟩) (by assumption) ?rest10
  case hy10 => (intro w hSw; (try dsimp only at hSw); go_simp; try with_reducible rfl)
  try simp only [Act.put, List.getElem_toArray, List.getElem_cons_succ, List.getElem_cons_zero, List.setIfInBounds_toArray, List.set_cons_zero, List.set_cons_succ]
  refine wpAnyU_take (i := 11) (v := ?v11) rfl (by kernel_rfl) (by kernel_rfl) (by kernel_rfl) (by kernel_rfl) (fun _ _ _ h => h) (Or.inl ⟨by rfl, ?hy11⟩) (by assumption) ?rest11
  case hy11 => (intro w hSw; (try dsimp only at hSw); go_simp; try with_reducible rfl)
  try simp only [Act.put, List.getElem_toArray, List.getElem_cons_succ, List.getElem_cons_zero, List.setIfInBounds_toArray, List.set_cons_zero, List.set_cons_succ]
  refine wpAnyU_take (i := 12) (v := ?v12) rfl (by kernel_rfl) (by kernel_rfl) (by kernel_rfl) (by kernel_rfl) (fun _ _ _ h => h) (Or.inl ⟨by rfl, ?hy12⟩) (by assumption) ?rest12
  case hy12 => (intro w hSw; (try dsimp only at hSw); go_simp; try with_reducible rfl)
  try simp only [Act.put, List.getElem_toArray, List.getElem_cons_succ, List.getElem_cons_zero, List.setIfInBounds_toArray, List.set_cons_zero, List.set_cons_succ]
  refine wpAnyU_take (i := 13) (v := ?v13) rfl (by kernel_rfl) (by kernel_rfl) (by kernel_rfl) (by kernel_rfl) (fun _ _ _ h => h) (Or.inl ⟨by rfl, ?hy13⟩) (by assumption) ?rest13
  case hy13 => (intro w hSw; (try dsimp only at hSw); go_simp; try with_reducible rfl)
  try simp only [Act.put, List.getElem_toArray, List.getElem_cons_succ, List.getElem_cons_zero, List.setIfInBounds_toArray, List.set_cons_zero, List.set_cons_succ]
  refine wpAnyU_take (i := 14) (v := ?v14) rfl (by kernel_rfl) (by kernel_rfl) (by kernel_rfl) (by kernel_rfl) (fun _ _ _ h => h) (Or.inl ⟨by rfl, ?hy14⟩) (by assumption) ?rest14
  case hy14 => (intro w hSw; (try dsimp only at hSw); go_simp; try with_reducible rfl)
  try simp only [Act.put, List.getElem_toArray, List.getElem_cons_succ, List.getElem_cons_zero, List.setIfInBounds_toArray, List.set_cons_zero, List.set_cons_succ]
  refine wpAnyU_ready (i := 9) (by kernel_rfl) (by kernel_rfl) rfl (fun K hK => ?_)
  go_simp
  refine (HR.out).mono ?_
  rintro e w' ⟨rfl, hm⟩
  go_wp2_with fail
  refine hK.out _ _ (HC.out _ (H.out.drews hm)) (fun hHeld => ?_)
  clear hK K
  try simp only [Act.put, List.getElem_toArray, List.getElem_cons_succ, List.getElem_cons_zero, List.setIfInBounds_toArray, List.set_cons_zero, List.set_cons_succ]
  have H2 := Lib.hid (H.out.drews hm)
  clear hm
  refine wpAnyU_ready (i := 15) (by kernel_rfl) (by kernel_rfl) rfl (fun K hK => ?_)
  go_simp
  refine (HD.out _).mono ?_
  rintro e w' ⟨rfl, hb⟩
  go_wp2_with fail
  refine hK.out _ _ (HC.out _ (H2.out.below hb)) (fun hHeld => ?_)
  clear hK K
  try simp only [Act.put, List.getElem_toArray, List.getElem_cons_succ, List.getElem_cons_zero, List.setIfInBounds_toArray, List.set_cons_zero, List.set_cons_succ]
  have H3 := Lib.hid (putAF_any p.1 p.2 _ (H2.out.below hb))
  clear hb
  refine wpAnyU_take (i := 16) (v := ?v15) rfl (by kernel_rfl) (by kernel_rfl) (by kernel_rfl) (by kernel_rfl) (fun _ _ _ h => h) (Or.inl ⟨by rfl, ?hy15⟩) (by assumption) ?rest15
  case hy15 => (intro w hSw; (try dsimp only at hSw); go_simp; try with_reducible rfl)
  try simp only [Act.put, List.getElem_toArray, List.getElem_cons_succ, List.getElem_cons_zero, List.setIfInBounds_toArray, List.set_cons_zero, List.set_cons_succ]
  refine wpAnyU_take (i := 17) (v := ?v16) rfl (by kernel_rfl) (by kernel_rfl) (by kernel_rfl) (by kernel_rfl) (fun _ _ _ h => h) (Or.inl ⟨by rfl, ?hy16⟩) (by assumption) ?rest16
  case hy16 => (intro w hSw; (try dsimp only at hSw); go_simp; try with_reducible rfl)
  try simp only [Act.put, List.getElem_toArray, List.getElem_cons_succ, List.getElem_cons_zero, List.setIfInBounds_toArray, List.set_cons_zero, List.set_cons_succ]
  refine wpAnyU_tail rfl (by kernel_rfl) ?_
  simp only [List.drop_succ_cons, List.drop_zero]
  go_wp2_with fail
  refine H3.out.mono ?_
  rintro e w' ⟨rfl, hm⟩
  go_wp2_with fail
  refine NoPanic.normal ?_
  go_wp2_with fail
  go_end0
  exact ⟨rfl, hm⟩
set_option maxHeartbeats 1600000 in
theorem workB40 (k n : Int) (w : World) (h : Mc w0 w b f base x v y va) (ok : x.Ok) :
    Calls Tryz.prog 83 #[.pointer (some ⟨b, 0, none⟩), .int .i64 40, .int .i64 k, .int .i64 n] w fun e w' => e = .returned (.tuple #[]) ∧ Mc w0 w' b f base (workB x 40 k n) v y va := by
  obtain ⟨q, hq⟩ : ∃ q, regS x n = q := ⟨_, rfl⟩
  have q8 := regS_bd ok n
  rw [hq] at q8
  rw [show workB x 40 k n = putRegS x k q by unfold workB; rw [if_neg (by decide), if_pos rfl, hq]]
  have H := Lib.hid h
  have HR := Lib.hid (reg_any n w h ok)
  rw [hq] at HR
  have HP := Lib.hid (fun u (hu : Mc w0 u b f base x v y va) => putReg_any k q u hu ok q8)
  clear h hq q8
  go_enter Tryz.func83, Tryz.ntmps83
  go_wp2_with fail
  refine HR.out.mono ?_
  rintro e w' ⟨rfl, hm⟩
  have HP2 := Lib.hid (HP.out _ (H.out.drews hm))
  clear hm
  go_wp2_with fail
  refine HP2.out.mono ?_
  rintro e w' ⟨rfl, hm, -⟩
  go_wp2_with fail
  go_end0
  exact ⟨rfl, hm⟩
set_option maxHeartbeats 1600000 in
theorem workB56 (k n : Int) (w : World) (h : Mc w0 w b f base x v y va) (ok : x.Ok) :
    Calls Tryz.prog 83 #[.pointer (some ⟨b, 0, none⟩), .int .i64 56, .int .i64 k, .int .i64 n] w fun e w' => e = .returned (.tuple #[]) ∧ Mc w0 w' b f base (workB x 56 k n) v y va := by
  obtain ⟨q, hq⟩ : ∃ q, regS x n = q := ⟨_, rfl⟩
  have q8 := regS_bd ok n
  rw [hq] at q8
  rw [show workB x 56 k n = putFS (putRegS x n (addR q 1 false)) (keepF (addF q 1 false) x.r.f) by unfold workB; simp [hq]]
  have H := Lib.hid h.drew
  have HR := Lib.hid (reg_any n w.drew h.drew ok)
  rw [hq] at HR
  have HD := Lib.hid (fun u => inc_any q x.r.f u q8.1 q8.2 ok.r.f.1 ok.r.f.2)
  have r8 : B8 (addR q 1 false) := addR_bd _ _ _
  generalize addR q 1 false = r at *
  generalize keepF (addF q 1 false) x.r.f = p at *
  have HP := Lib.hid (fun u (hu : Mc w0 u b f base x v y va) => putReg_any n r u hu ok r8)
  have HC := Lib.hid (fun (u : World) (hu : Mc w0 u b f base x v y va) => show u.cell? ⟨b, 1, none⟩ = some (.int .u8 x.r.f) from hu.cell 1 _ rfl)
  have HS := HC.out _ h.drew
  clear h hq q8 r8
  go_enter Tryz.func83, Tryz.ntmps83
  go_wp2_with fail
  go_region_held3 (fun u => u.cell? ⟨b, 1, none⟩ = some (.int .u8 x.r.f)) (first | assumption | exact HC.out _ H2.out | exact HC.out _ H3.out) (first | (go_at_call 68; refine HR.out.mono ?_; rintro e w2 ⟨rfl, hm⟩; have H2 := Lib.hid (H.out.drews hm); clear hm) | (go_at_call 125; refine (HD.out _).mono ?_; rintro e w3 ⟨rfl, hb⟩; have H3 := Lib.hid (H2.out.below hb); clear hb))
  have HP2 := Lib.hid (HP.out _ H3.out)
  go_wp2_with fail
  refine HP2.out.mono ?_
  rintro e w' ⟨rfl, hm, -⟩
  have HF := Lib.hid (putF_any p _ hm)
  clear hm
  go_wp2_with fail
  refine HF.out.mono ?_
  rintro e w' ⟨rfl, hm⟩
  go_wp2_with fail
  go_end0
  exact ⟨rfl, hm⟩
set_option maxHeartbeats 1600000 in
theorem workB64 (k n : Int) (w : World) (h : Mc w0 w b f base x v y va) (ok : x.Ok) :
    Calls Tryz.prog 83 #[.pointer (some ⟨b, 0, none⟩), .int .i64 64, .int .i64 k, .int .i64 n] w fun e w' => e = .returned (.tuple #[]) ∧ Mc w0 w' b f base (workB x 64 k n) v y va := by
  obtain ⟨q, hq⟩ : ∃ q, regS x n = q := ⟨_, rfl⟩
  have q8 := regS_bd ok n
  rw [hq] at q8
  rw [show workB x 64 k n = putFS (putRegS x n (subR q 1 false)) (keepF (subF q 1 false) x.r.f) by unfold workB; simp [hq]]
  have H := Lib.hid h.drew
  have HR := Lib.hid (reg_any n w.drew h.drew ok)
  rw [hq] at HR
  have HD := Lib.hid (fun u => dec_any q x.r.f u q8.1 q8.2 ok.r.f.1 ok.r.f.2)
  have r8 : B8 (subR q 1 false) := subR_bd _ _ _
  generalize subR q 1 false = r at *
  generalize keepF (subF q 1 false) x.r.f = p at *
  have HP := Lib.hid (fun u (hu : Mc w0 u b f base x v y va) => putReg_any n r u hu ok r8)
  have HC := Lib.hid (fun (u : World) (hu : Mc w0 u b f base x v y va) => show u.cell? ⟨b, 1, none⟩ = some (.int .u8 x.r.f) from hu.cell 1 _ rfl)
  have HS := HC.out _ h.drew
  clear h hq q8 r8
  go_enter Tryz.func83, Tryz.ntmps83
  go_wp2_with fail
  go_region_held3 (fun u => u.cell? ⟨b, 1, none⟩ = some (.int .u8 x.r.f)) (first | assumption | exact HC.out _ H2.out | exact HC.out _ H3.out) (first | (go_at_call 68; refine HR.out.mono ?_; rintro e w2 ⟨rfl, hm⟩; have H2 := Lib.hid (H.out.drews hm); clear hm) | (go_at_call 126; refine (HD.out _).mono ?_; rintro e w3 ⟨rfl, hb⟩; have H3 := Lib.hid (H2.out.below hb); clear hb))
  have HP2 := Lib.hid (HP.out _ H3.out)
  go_wp2_with fail
  refine HP2.out.mono ?_
  rintro e w' ⟨rfl, hm, -⟩
  have HF := Lib.hid (putF_any p _ hm)
  clear hm
  go_wp2_with fail
  refine HF.out.mono ?_
  rintro e w' ⟨rfl, hm⟩
  go_wp2_with fail
  go_end0
  exact ⟨rfl, hm⟩
set_option maxHeartbeats 1600000 in
theorem workB120 (k n : Int) (w : World) (h : Mc w0 w b f base x v y va) (ok : x.Ok) :
    Calls Tryz.prog 83 #[.pointer (some ⟨b, 0, none⟩), .int .i64 120, .int .i64 k, .int .i64 n] w fun e w' => e = .returned (.tuple #[]) ∧ Mc w0 w' b f base (workB x 120 k n) v y va := by
  rw [show workB x 120 k n = { x with r := { x.r with b := w8 (x.r.b - 1) } } by unfold workB; simp]
  have c := h.cell 2 _ rfl
  have fz := h.free 2
  have e1 : (x.r.b - 1) % 256 = w8 (x.r.b - 1) := rfl
  have H := Lib.hid (h.set 2 (.int .u8 (w8 (x.r.b - 1))) { x with r := { x.r with b := w8 (x.r.b - 1) } } (by decide) rfl rfl)
  generalize w8 (x.r.b - 1) = q at *
  clear h
  go_enter Tryz.func83, Tryz.ntmps83
  go_wp2_with fail
  go_end0
  exact ⟨rfl, H.out⟩

end Go.Proofs.YtcfkpeemhleleaaGreatDoor
/- The contracts of layer 5's calls. -/
namespace Go.Proofs.YtcfkpeemhleleaaGreatDoor
open Go.RowKit

theorem has_held {S : World → Prop} (f b : Int) (r : Bool) (w : World) (h : (bits .and .u8 f b != 0) = r) (hw : S w) :
    Calls Tryz.prog 87 #[.int .u8 f, .int .u8 b] w fun e w' => e = .returned (.bool r) ∧ S w' :=
  (has_is f b r w h).mono fun _ _ ⟨he, e⟩ => ⟨he, e ▸ hw⟩
theorem with_held {S : World → Prop} (f b : Int) (o : Bool) (w : World) (hw : S w) :
    Calls Tryz.prog 164 #[.int .u8 f, .int .u8 b, .bool o] w fun e w' => e = .returned (.int .u8 (withB f b o)) ∧ S w' :=
  (with_any f b o w).mono fun _ _ ⟨he, e⟩ => ⟨he, e ▸ hw⟩

set_option maxHeartbeats 400000 in
theorem left_any (f bc r : Int) (w : World) (h : withB f 4 (!(bc == 0)) = r) :
    Calls Tryz.prog 183 #[.int .u8 f, .int .u16 bc] w fun e w' => e = .returned (.int .u8 r) ∧ w = w' := by
  have H := Lib.hid h
  go_enter Tryz.func183, Tryz.ntmps183
  go_wp2_with fail
  refine (with_is _ _ _ _ _ H.out).mono ?_
  rintro e w' ⟨rfl, rfl⟩
  go_wp2_with fail
  go_ret
  exact ⟨rfl, rfl⟩

def SumS (w w' : World) : Prop := w'.cell? ⟨w.heap.size + 1, 0, none⟩ = some (.int .u8 32) ∧ w'.cell? ⟨w.heap.size + 1, 1, none⟩ = some (.int .u8 8) ∧ w.heap.size + 1 < w'.heap.size ∧ Below w.heap.size w w'

set_option maxHeartbeats 1600000 in
theorem ofSum_any (f n : Int) (w : World) (n0 : 0 ≤ n) (n1 : n ≤ 255) :
    Calls Tryz.prog 184 #[.int .u8 f, .int .u8 n] w fun e w' => e = .returned (.int .u8 (sumF f n)) ∧ Below w.heap.size w w' := by
  have i0 : ∀ w : World, (Instr.index 177 (.agg #[.int .u8 2, .int .u8 8]) (.int .i64 0)).run Tryz.prog w = .ok (.int .u8 2) w := fun _ => by kernel_rfl
  have i1 : ∀ w : World, (Instr.index 177 (.agg #[.int .u8 2, .int .u8 8]) (.int .i64 1)).run Tryz.prog w = .ok (.int .u8 8) w := fun _ => by kernel_rfl
  have H2 := Lib.hid (has_2 n n0 n1)
  have H8 := Lib.hid (has_8 n n0 n1)
  go_enter Tryz.func184, Tryz.ntmps184
  go_wp2_with fail
  go_loopw [0, 12] (fun a i wr => ∃ k : Nat, k ≤ 2 ∧ i = .int .i64 k ∧ a = .int .u8 (sumTo f n k) ∧ SumS w wr) (fun _ i _ => 2 - (intOf i).toNat)
  case atStart => exact ⟨0, by omega, rfl, rfl, by simp, by simp, by simp, ((Below.refl _ _).alloc (Nat.le_refl _) _).alloc (by simp) _⟩
  case round =>
    obtain ⟨k, hk, rfl, rfl, hS⟩ := hrel
    have hk3 : k = 0 ∨ k = 1 ∨ k = 2 := by omega
    rcases hk3 with rfl | rfl | rfl
    · have hS0 : (fun w' => w'.cell? ⟨w.heap.size + 1, 0, none⟩ = some (.int .u8 32) ∧ w'.cell? ⟨w.heap.size + 1, 1, none⟩ = some (.int .u8 8) ∧ w.heap.size + 1 < w'.heap.size ∧ Below w.heap.size w w') wr.drew := ⟨hS.1, hS.2.1, hS.2.2.1, hS.2.2.2.drew⟩
      clear hS
      go_wp2_with fail
      go_region_held3 (fun w' => w'.cell? ⟨w.heap.size + 1, 0, none⟩ = some (.int .u8 32) ∧ w'.cell? ⟨w.heap.size + 1, 1, none⟩ = some (.int .u8 8) ∧ w.heap.size + 1 < w'.heap.size ∧ Below w.heap.size w w') (assumption) (first | (go_at_call 87; refine (has_held (S := (fun w' => w'.cell? ⟨w.heap.size + 1, 0, none⟩ = some (.int .u8 32) ∧ w'.cell? ⟨w.heap.size + 1, 1, none⟩ = some (.int .u8 8) ∧ w.heap.size + 1 < w'.heap.size ∧ Below w.heap.size w w')) _ _ _ _ H2.out (by assumption)).mono ?_; rintro e w' ⟨rfl, hSB⟩) | (go_at_call 164; refine (with_held (S := (fun w' => w'.cell? ⟨w.heap.size + 1, 0, none⟩ = some (.int .u8 32) ∧ w'.cell? ⟨w.heap.size + 1, 1, none⟩ = some (.int .u8 8) ∧ w.heap.size + 1 < w'.heap.size ∧ Below w.heap.size w w')) _ _ _ _ (by assumption)).mono ?_; rintro e w' ⟨rfl, hSF⟩))
      go_wp2_with fail
      go_roundw
      case rel => exact ⟨1, by omega, by go_num, rfl, hSF⟩
      case measure => simp [intOf]
    · have hS0 : (fun w' => w'.cell? ⟨w.heap.size + 1, 0, none⟩ = some (.int .u8 32) ∧ w'.cell? ⟨w.heap.size + 1, 1, none⟩ = some (.int .u8 8) ∧ w.heap.size + 1 < w'.heap.size ∧ Below w.heap.size w w') wr.drew := ⟨hS.1, hS.2.1, hS.2.2.1, hS.2.2.2.drew⟩
      clear hS
      go_wp2_with fail
      go_region_held3 (fun w' => w'.cell? ⟨w.heap.size + 1, 0, none⟩ = some (.int .u8 32) ∧ w'.cell? ⟨w.heap.size + 1, 1, none⟩ = some (.int .u8 8) ∧ w.heap.size + 1 < w'.heap.size ∧ Below w.heap.size w w') (assumption) (first | (go_at_call 87; refine (has_held (S := (fun w' => w'.cell? ⟨w.heap.size + 1, 0, none⟩ = some (.int .u8 32) ∧ w'.cell? ⟨w.heap.size + 1, 1, none⟩ = some (.int .u8 8) ∧ w.heap.size + 1 < w'.heap.size ∧ Below w.heap.size w w')) _ _ _ _ H8.out (by assumption)).mono ?_; rintro e w' ⟨rfl, hSB⟩) | (go_at_call 164; refine (with_held (S := (fun w' => w'.cell? ⟨w.heap.size + 1, 0, none⟩ = some (.int .u8 32) ∧ w'.cell? ⟨w.heap.size + 1, 1, none⟩ = some (.int .u8 8) ∧ w.heap.size + 1 < w'.heap.size ∧ Below w.heap.size w w')) _ _ _ _ (by assumption)).mono ?_; rintro e w' ⟨rfl, hSF⟩))
      go_wp2_with fail
      go_roundw
      case rel => exact ⟨2, by omega, by go_num, rfl, hSF⟩
      case measure => simp [intOf]
    · go_wp2_with fail
      go_ret
      exact ⟨rfl, hS.2.2.2⟩

end Go.Proofs.YtcfkpeemhleleaaGreatDoor
/- The contracts of layer 5's exported calls that copy, compare and go through ports. -/
namespace Go.Proofs.YtcfkpeemhleleaaGreatDoor
open Go.RowKit

theorem ofSum_is (f n r : Int) (w : World) (n0 : 0 ≤ n) (n1 : n ≤ 255) (h : sumF f n = r) :
    Calls Tryz.prog 184 #[.int .u8 f, .int .u8 n] w fun e w' => e = .returned (.int .u8 r) ∧ Below w.heap.size w w' := by
  subst h; exact ofSum_any f n w n0 n1

set_option maxHeartbeats 400000 in
theorem copy_any (a v bc f : Int) (w : World) (b0 : 0 ≤ bc) (f0 : 0 ≤ f) (f1 : f ≤ 255) :
    Calls Tryz.prog 144 #[.int .u8 a, .int .u8 v, .int .u16 bc, .int .u8 f] w fun e w' => e = .returned (.int .u8 (copyF a v bc f)) ∧ Below w.heap.size w w' := by
  have HS := Lib.hid (show sumF (bits .and .u8 f 193) ((a + v) % 256) = flagsOf (bitN f 0) (bitN f 1) (bitN (copyN a v) 6) false (bitN (copyN a v) 4) false false (bitN f 7) by rw [and_kept f f0 f1, sum_flags]; rfl)
  have HL := Lib.hid (show withB (flagsOf (bitN f 0) (bitN f 1) (bitN (copyN a v) 6) false (bitN (copyN a v) 4) false false (bitN f 7)) 4 (!(bc == 0)) = copyF a v bc f by rw [left_P _ _ _ _ _ _ _ _ bc b0]; rfl)
  generalize flagsOf (bitN f 0) (bitN f 1) (bitN (copyN a v) 6) false (bitN (copyN a v) 4) false false (bitN f 7) = r at HS HL
  go_enter Tryz.func144, Tryz.ntmps144
  go_wp2_with fail
  refine (ofSum_is _ _ _ _ (by omega) (by omega) HS.out).mono ?_
  rintro e w1 ⟨rfl, hb1⟩
  go_wp2_with fail
  refine (left_any _ _ _ _ HL.out).mono ?_
  rintro e w' ⟨rfl, rfl⟩
  go_wp2_with fail
  go_ret
  exact ⟨rfl, hb1⟩

end Go.Proofs.YtcfkpeemhleleaaGreatDoor
/- The contracts of layer 5's calls that go on. -/
namespace Go.Proofs.YtcfkpeemhleleaaGreatDoor
open Go.RowKit

set_option maxHeartbeats 400000 in
theorem again_any (f pc : Int) (w : World) (f0 : 0 ≤ f) (f1 : f ≤ 255) (p0 : 0 ≤ pc) (p1 : pc ≤ 65535) :
    Calls Tryz.prog 148 #[.int .u8 f, .int .u16 pc] w fun e w' => e = .returned (.int .u8 (againF f pc)) ∧ w = w' := by
  have h0 : 0 ≤ pc / 256 := by omega
  have h1 : pc / 256 ≤ 255 := by omega
  have HY := Lib.hid (has_32 (pc / 256) h0 h1)
  have HX := Lib.hid (has_8 (pc / 256) h0 h1)
  have HP := Lib.hid (show withB (withB f 32 (bitN (pc / 256) 2)) 8 (bitN (pc / 256) 4) = againF f pc from again_put f _ _ f0 f1)
  go_enter Tryz.func148, Tryz.ntmps148
  go_wp2_with fail
  refine (has_is _ _ _ _ HY.out).mono ?_
  rintro e w' ⟨rfl, rfl⟩
  go_wp2_with fail
  refine (with_any _ _ _ _).mono ?_
  rintro e w' ⟨rfl, rfl⟩
  go_wp2_with fail
  refine (has_is _ _ _ _ HX.out).mono ?_
  rintro e w' ⟨rfl, rfl⟩
  go_wp2_with fail
  refine (with_is _ _ _ _ _ HP.out).mono ?_
  rintro e w' ⟨rfl, rfl⟩
  go_wp2_with fail
  go_ret
  exact ⟨rfl, rfl⟩

end Go.Proofs.YtcfkpeemhleleaaGreatDoor
/- The works of the accumulator, and of words: their contracts. -/
namespace Go.Proofs.YtcfkpeemhleleaaGreatDoor
open Go.RowKit
set_option maxRecDepth 100000
set_option linter.unusedVariables false
set_option linter.unusedSimpArgs false
variable {w0 : World} {b f base : Nat} {x : Cp} {v : Value} {y : Fl} {va : Value}

set_option maxHeartbeats 1600000 in
theorem adjust0 (w : World) (h : Mc w0 w b f base x v y va) (ok : x.Ok) :
    Calls Tryz.prog 127 #[.pointer (some ⟨b, 0, none⟩), .int .i64 0] w fun e w' => e = .returned (.tuple #[]) ∧ Mc w0 w' b f base (adjS x 0) v y va := by
  obtain ⟨p, hp⟩ : ∃ p, accV4 0 x.r.a x.r.f = p := ⟨_, rfl⟩
  rw [show adjS x 0 = putAFS x p.1 p.2 by unfold adjS; rw [if_pos (by decide), hp]]
  have HD := Lib.hid (fun u => accT_any 0 x.r.a x.r.f u ok.r.a.1 ok.r.a.2 ok.r.f.1 ok.r.f.2)
  rw [hp] at HD
  have HC := Lib.hid (fun (u : World) (hu : Mc w0 u b f base x v y va) => show u.cell? ⟨b, 0, none⟩ = some (.int .u8 x.r.a) ∧ u.cell? ⟨b, 1, none⟩ = some (.int .u8 x.r.f) from ⟨hu.cell 0 _ rfl, hu.cell 1 _ rfl⟩)
  have HS := HC.out w h
  have H3 := Lib.hid (putAF_any p.1 p.2 _ h.drew)
  clear h hp
  go_enter Tryz.func127, Tryz.ntmps127
  go_wp2_with fail
  first | refine wp_region_noPanic ?_ | skip
  refine wp_region_U (n := 13) (S := (fun u => u.cell? ⟨b, 0, none⟩ = some (.int .u8 x.r.a) ∧ u.cell? ⟨b, 1, none⟩ = some (.int .u8 x.r.f))) (by kernel_rfl) (by kernel_rfl) HS (fun hHeld => ?_)
  refine wpAnyU_take (i := 0) (v := ?v1) rfl (by kernel_rfl) (by kernel_rfl) (by kernel_rfl) (by kernel_rfl) (fun _ _ _ h => h) (Or.inl ⟨by rfl, ?hy1⟩) (by assumption) ?rest1
  case hy1 => (intro w hSw; (try dsimp only at hSw); go_simp; try with_reducible rfl)
  try simp only [Act.put, List.getElem_toArray, List.getElem_cons_succ, List.getElem_cons_zero, List.setIfInBounds_toArray, List.set_cons_zero, List.set_cons_succ]
  refine wpAnyU_take (i := 1) (v := ?v2) rfl (by kernel_rfl) (by kernel_rfl) (by kernel_rfl) (by kernel_rfl) (fun _ _ _ h => h) (Or.inl ⟨by rfl, ?hy2⟩) (by assumption) ?rest2
  case hy2 => (intro w hSw; (try dsimp only at hSw); go_simp; try with_reducible rfl)
  try simp only [Act.put, List.getElem_toArray, List.getElem_cons_succ, List.getElem_cons_zero, List.setIfInBounds_toArray, List.set_cons_zero, List.set_cons_succ]
  refine wpAnyU_take (i := 2) (v := ?v3) rfl (by kernel_rfl) (by kernel_rfl) (by kernel_rfl) (by kernel_rfl) (fun _ _ _ h => h) (Or.inl ⟨by rfl, ?hy3⟩) (by assumption) ?rest3
  case hy3 => (intro w hSw; (try dsimp only at hSw); go_simp; try with_reducible rfl)
  try simp only [Act.put, List.getElem_toArray, List.getElem_cons_succ, List.getElem_cons_zero, List.setIfInBounds_toArray, List.set_cons_zero, List.set_cons_succ]
  refine wpAnyU_take (i := 3) (v := ?v4) rfl (by kernel_rfl) (by kernel_rfl) (by kernel_rfl) (by kernel_rfl) (fun _ _ _ h => h) (Or.inl ⟨by rfl, ?hy4⟩) (by assumption) ?rest4
  case hy4 => (intro w hSw; (try dsimp only at hSw); go_simp; try with_reducible rfl)
  try simp only [Act.put, List.getElem_toArray, List.getElem_cons_succ, List.getElem_cons_zero, List.setIfInBounds_toArray, List.set_cons_zero, List.set_cons_succ]
  refine wpAnyU_take (i := 4) (v := ?v5) rfl (by kernel_rfl) (by kernel_rfl) (by kernel_rfl) (by kernel_rfl) (fun _ _ _ h => h) (Or.inl ⟨by rfl, ?hy5⟩) (by assumption) ?rest5
  case hy5 => (intro w hSw; (try dsimp only at hSw); go_simp; try with_reducible rfl)
  try simp only [Act.put, List.getElem_toArray, List.getElem_cons_succ, List.getElem_cons_zero, List.setIfInBounds_toArray, List.set_cons_zero, List.set_cons_succ]
  refine wpAnyU_take (i := 5) (v := ?v6) rfl (by kernel_rfl) (by kernel_rfl) (by kernel_rfl) (by kernel_rfl) (fun _ _ _ h => h) (Or.inl ⟨by rfl, ?hy6⟩) (by assumption) ?rest6
  case hy6 => (intro w hSw; (try dsimp only at hSw); go_simp; try with_reducible rfl)
  try simp only [Act.put, List.getElem_toArray, List.getElem_cons_succ, List.getElem_cons_zero, List.setIfInBounds_toArray, List.set_cons_zero, List.set_cons_succ]
  refine wpAnyU_take (i := 6) (v := ?v7) rfl (by kernel_rfl) (by kernel_rfl) (by kernel_rfl) (by kernel_rfl) (fun _ _ _ h => h) (Or.inl ⟨by rfl, ?hy7⟩) (by assumption) ?rest7
  case hy7 => (intro w hSw; (try dsimp only at hSw); go_simp; try with_reducible rfl)
  try simp only [Act.put, List.getElem_toArray, List.getElem_cons_succ, List.getElem_cons_zero, List.setIfInBounds_toArray, List.set_cons_zero, List.set_cons_succ]
  refine wpAnyU_take (i := 7) (v := ?v8) rfl (by kernel_rfl) (by kernel_rfl) (by kernel_rfl) (by kernel_rfl) (fun _ _ _ h => h) (Or.inl ⟨by rfl, ?hy8⟩) (by assumption) ?rest8
  case hy8 => (intro w hSw; (try dsimp only at hSw); go_simp; try with_reducible rfl)
  try simp only [Act.put, List.getElem_toArray, List.getElem_cons_succ, List.getElem_cons_zero, List.setIfInBounds_toArray, List.set_cons_zero, List.set_cons_succ]
  refine wpAnyU_take (i := 8) (v := ?v9) rfl (by kernel_rfl) (by kernel_rfl) (by kernel_rfl) (by kernel_rfl) (fun _ _ _ h => h) (Or.inl ⟨by rfl, ?hy9⟩) (by assumption) ?rest9
  case hy9 => (intro w hSw; (try dsimp only at hSw); go_simp; try with_reducible rfl)
  try simp only [Act.put, List.getElem_toArray, List.getElem_cons_succ, List.getElem_cons_zero, List.setIfInBounds_toArray, List.set_cons_zero, List.set_cons_succ]
  refine wpAnyU_take (i := 9) (v := ?v10) rfl (by kernel_rfl) (by kernel_rfl) (by kernel_rfl) (by kernel_rfl) (fun _ _ _ h => h) (Or.inl ⟨by rfl, ?hy10⟩) (by assumption) ?rest10
  case hy10 => (intro w hSw; (try dsimp only at hSw); go_simp; try with_reducible rfl)
  try simp only [Act.put, List.getElem_toArray, List.getElem_cons_succ, List.getElem_cons_zero, List.setIfInBounds_toArray, List.set_cons_zero, List.set_cons_succ]
  refine wpAnyU_ready (i := 10) (by kernel_rfl) (by kernel_rfl) rfl (fun K hK => ?_)
  go_simp
  refine (HD.out _).mono ?_
  rintro e w' ⟨rfl, rfl⟩
  go_wp2_with fail
  refine hK.out _ _ (by assumption) (fun hHeld => ?_)
  clear hK K
  try simp only [Act.put, List.getElem_toArray, List.getElem_cons_succ, List.getElem_cons_zero, List.setIfInBounds_toArray, List.set_cons_zero, List.set_cons_succ]
  refine wpAnyU_take (i := 11) (v := ?v11) rfl (by kernel_rfl) (by kernel_rfl) (by kernel_rfl) (by kernel_rfl) (fun _ _ _ h => h) (Or.inl ⟨by rfl, ?hy11⟩) (by assumption) ?rest11
  case hy11 => (intro w hSw; (try dsimp only at hSw); go_simp; try with_reducible rfl)
  try simp only [Act.put, List.getElem_toArray, List.getElem_cons_succ, List.getElem_cons_zero, List.setIfInBounds_toArray, List.set_cons_zero, List.set_cons_succ]
  refine wpAnyU_take (i := 12) (v := ?v12) rfl (by kernel_rfl) (by kernel_rfl) (by kernel_rfl) (by kernel_rfl) (fun _ _ _ h => h) (Or.inl ⟨by rfl, ?hy12⟩) (by assumption) ?rest12
  case hy12 => (intro w hSw; (try dsimp only at hSw); go_simp; try with_reducible rfl)
  try simp only [Act.put, List.getElem_toArray, List.getElem_cons_succ, List.getElem_cons_zero, List.setIfInBounds_toArray, List.set_cons_zero, List.set_cons_succ]
  refine wpAnyU_tail rfl (by kernel_rfl) ?_
  simp only [List.drop_succ_cons, List.drop_zero]
  go_wp2_with fail
  refine H3.out.mono ?_
  rintro e w' ⟨rfl, hm⟩
  go_wp2_with fail
  refine NoPanic.normal ?_
  go_wp2_with fail
  go_end0
  exact ⟨rfl, hm⟩
set_option maxHeartbeats 1600000 in
theorem adjust1 (w : World) (h : Mc w0 w b f base x v y va) (ok : x.Ok) :
    Calls Tryz.prog 127 #[.pointer (some ⟨b, 0, none⟩), .int .i64 1] w fun e w' => e = .returned (.tuple #[]) ∧ Mc w0 w' b f base (adjS x 1) v y va := by
  obtain ⟨p, hp⟩ : ∃ p, accV4 1 x.r.a x.r.f = p := ⟨_, rfl⟩
  rw [show adjS x 1 = putAFS x p.1 p.2 by unfold adjS; rw [if_pos (by decide), hp]]
  have HD := Lib.hid (fun u => accT_any 1 x.r.a x.r.f u ok.r.a.1 ok.r.a.2 ok.r.f.1 ok.r.f.2)
  rw [hp] at HD
  have HC := Lib.hid (fun (u : World) (hu : Mc w0 u b f base x v y va) => show u.cell? ⟨b, 0, none⟩ = some (.int .u8 x.r.a) ∧ u.cell? ⟨b, 1, none⟩ = some (.int .u8 x.r.f) from ⟨hu.cell 0 _ rfl, hu.cell 1 _ rfl⟩)
  have HS := HC.out w h
  have H3 := Lib.hid (putAF_any p.1 p.2 _ h.drew)
  clear h hp
  go_enter Tryz.func127, Tryz.ntmps127
  go_wp2_with fail
  first | refine wp_region_noPanic ?_ | skip
  refine wp_region_U (n := 13) (S := (fun u => u.cell? ⟨b, 0, none⟩ = some (.int .u8 x.r.a) ∧ u.cell? ⟨b, 1, none⟩ = some (.int .u8 x.r.f))) (by kernel_rfl) (by kernel_rfl) HS (fun hHeld => ?_)
  refine wpAnyU_take (i := 0) (v := ?v13) rfl (by kernel_rfl) (by kernel_rfl) (by kernel_rfl) (by kernel_rfl) (fun _ _ _ h => h) (Or.inl ⟨by rfl, ?hy13⟩) (by assumption) ?rest13
  case hy13 => (intro w hSw; (try dsimp only at hSw); go_simp; try with_reducible rfl)
  try simp only [Act.put, List.getElem_toArray, List.getElem_cons_succ, List.getElem_cons_zero, List.setIfInBounds_toArray, List.set_cons_zero, List.set_cons_succ]
  refine wpAnyU_take (i := 1) (v := ?v14) rfl (by kernel_rfl) (by kernel_rfl) (by kernel_rfl) (by kernel_rfl) (fun _ _ _ h => h) (Or.inl ⟨by rfl, ?hy14⟩) (by assumption) ?rest14
  case hy14 => (intro w hSw; (try dsimp only at hSw); go_simp; try with_reducible rfl)
  try simp only [Act.put, List.getElem_toArray, List.getElem_cons_succ, List.getElem_cons_zero, List.setIfInBounds_toArray, List.set_cons_zero, List.set_cons_succ]
  refine wpAnyU_take (i := 2) (v := ?v15) rfl (by kernel_rfl) (by kernel_rfl) (by kernel_rfl) (by kernel_rfl) (fun _ _ _ h => h) (Or.inl ⟨by rfl, ?hy15⟩) (by assumption) ?rest15
  case hy15 => (intro w hSw; (try dsimp only at hSw); go_simp; try with_reducible rfl)
  try simp only [Act.put, List.getElem_toArray, List.getElem_cons_succ, List.getElem_cons_zero, List.setIfInBounds_toArray, List.set_cons_zero, List.set_cons_succ]
  refine wpAnyU_take (i := 3) (v := ?v16) rfl (by kernel_rfl) (by kernel_rfl) (by kernel_rfl) (by kernel_rfl) (fun _ _ _ h => h) (Or.inl ⟨by rfl, ?hy16⟩) (by assumption) ?rest16
  case hy16 => (intro w hSw; (try dsimp only at hSw); go_simp; try with_reducible rfl)
  try simp only [Act.put, List.getElem_toArray, List.getElem_cons_succ, List.getElem_cons_zero, List.setIfInBounds_toArray, List.set_cons_zero, List.set_cons_succ]
  refine wpAnyU_take (i := 4) (v := ?v17) rfl (by kernel_rfl) (by kernel_rfl) (by kernel_rfl) (by kernel_rfl) (fun _ _ _ h => h) (Or.inl ⟨by rfl, ?hy17⟩) (by assumption) ?rest17
  case hy17 => (intro w hSw; (try dsimp only at hSw); go_simp; try with_reducible rfl)
  try simp only [Act.put, List.getElem_toArray, List.getElem_cons_succ, List.getElem_cons_zero, List.setIfInBounds_toArray, List.set_cons_zero, List.set_cons_succ]
  refine wpAnyU_take (i := 5) (v := ?v18) rfl (by kernel_rfl) (by kernel_rfl) (by kernel_rfl) (by kernel_rfl) (fun _ _ _ h => h) (Or.inl ⟨by rfl, ?hy18⟩) (by assumption) ?rest18
  case hy18 => (intro w hSw; (try dsimp only at hSw); go_simp; try with_reducible rfl)
  try simp only [Act.put, List.getElem_toArray, List.getElem_cons_succ, List.getElem_cons_zero, List.setIfInBounds_toArray, List.set_cons_zero, List.set_cons_succ]
  refine wpAnyU_take (i := 6) (v := ?v19) rfl (by kernel_rfl) (by kernel_rfl) (by kernel_rfl) (by kernel_rfl) (fun _ _ _ h => h) (Or.inl ⟨by rfl, ?hy19⟩) (by assumption) ?rest19
  case hy19 => (intro w hSw; (try dsimp only at hSw); go_simp; try with_reducible rfl)
  try simp only [Act.put, List.getElem_toArray, List.getElem_cons_succ, List.getElem_cons_zero, List.setIfInBounds_toArray, List.set_cons_zero, List.set_cons_succ]
  refine wpAnyU_take (i := 7) (v := ?v20) rfl (by kernel_rfl) (by kernel_rfl) (by kernel_rfl) (by kernel_rfl) (fun _ _ _ h => h) (Or.inl ⟨by rfl, ?hy20⟩) (by assumption) ?rest20
  case hy20 => (intro w hSw; (try dsimp only at hSw); go_simp; try with_reducible rfl)
  try simp only [Act.put, List.getElem_toArray, List.getElem_cons_succ, List.getElem_cons_zero, List.setIfInBounds_toArray, List.set_cons_zero, List.set_cons_succ]
  refine wpAnyU_take (i := 8) (v := ?v21) rfl (by kernel_rfl) (by kernel_rfl) (by kernel_rfl) (by kernel_rfl) (fun _ _ _ h => h) (Or.inl ⟨by rfl, ?hy21⟩) (by assumption) ?rest21
  case hy21 => (intro w hSw; (try dsimp only at hSw); go_simp; try with_reducible rfl)
  try simp only [Act.put, List.getElem_toArray, List.getElem_cons_succ, List.getElem_cons_zero, List.setIfInBounds_toArray, List.set_cons_zero, List.set_cons_succ]
  refine wpAnyU_take (i := 9) (v := ?v22) rfl (by kernel_rfl) (by kernel_rfl) (by kernel_rfl) (by kernel_rfl) (fun _ _ _ h => h) (Or.inl ⟨by rfl, ?hy22⟩) (by assumption) ?rest22
  case hy22 => (intro w hSw; (try dsimp only at hSw); go_simp; try with_reducible rfl)
  try simp only [Act.put, List.getElem_toArray, List.getElem_cons_succ, List.getElem_cons_zero, List.setIfInBounds_toArray, List.set_cons_zero, List.set_cons_succ]
  refine wpAnyU_ready (i := 10) (by kernel_rfl) (by kernel_rfl) rfl (fun K hK => ?_)
  go_simp
  refine (HD.out _).mono ?_
  rintro e w' ⟨rfl, rfl⟩
  go_wp2_with fail
  refine hK.out _ _ (by assumption) (fun hHeld => ?_)
  clear hK K
  try simp only [Act.put, List.getElem_toArray, List.getElem_cons_succ, List.getElem_cons_zero, List.setIfInBounds_toArray, List.set_cons_zero, List.set_cons_succ]
  refine wpAnyU_take (i := 11) (v := ?v23) rfl (by kernel_rfl) (by kernel_rfl) (by kernel_rfl) (by kernel_rfl) (fun _ _ _ h => h) (Or.inl ⟨by rfl, ?hy23⟩) (by assumption) ?rest23
  case hy23 => (intro w hSw; (try dsimp only at hSw); go_simp; try with_reducible rfl)
  try simp only [Act.put, List.getElem_toArray, List.getElem_cons_succ, List.getElem_cons_zero, List.setIfInBounds_toArray, List.set_cons_zero, List.set_cons_succ]
  refine wpAnyU_take (i := 12) (v := ?v24) rfl (by kernel_rfl) (by kernel_rfl) (by kernel_rfl) (by kernel_rfl) (fun _ _ _ h => h) (Or.inl ⟨by rfl, ?hy24⟩) (by assumption) ?rest24
  case hy24 => (intro w hSw; (try dsimp only at hSw); go_simp; try with_reducible rfl)
  try simp only [Act.put, List.getElem_toArray, List.getElem_cons_succ, List.getElem_cons_zero, List.setIfInBounds_toArray, List.set_cons_zero, List.set_cons_succ]
  refine wpAnyU_tail rfl (by kernel_rfl) ?_
  simp only [List.drop_succ_cons, List.drop_zero]
  go_wp2_with fail
  refine H3.out.mono ?_
  rintro e w' ⟨rfl, hm⟩
  go_wp2_with fail
  refine NoPanic.normal ?_
  go_wp2_with fail
  go_end0
  exact ⟨rfl, hm⟩
set_option maxHeartbeats 1600000 in
theorem adjust2 (w : World) (h : Mc w0 w b f base x v y va) (ok : x.Ok) :
    Calls Tryz.prog 127 #[.pointer (some ⟨b, 0, none⟩), .int .i64 2] w fun e w' => e = .returned (.tuple #[]) ∧ Mc w0 w' b f base (adjS x 2) v y va := by
  obtain ⟨p, hp⟩ : ∃ p, accV4 2 x.r.a x.r.f = p := ⟨_, rfl⟩
  rw [show adjS x 2 = putAFS x p.1 p.2 by unfold adjS; rw [if_pos (by decide), hp]]
  have HD := Lib.hid (fun u => accT_any 2 x.r.a x.r.f u ok.r.a.1 ok.r.a.2 ok.r.f.1 ok.r.f.2)
  rw [hp] at HD
  have HC := Lib.hid (fun (u : World) (hu : Mc w0 u b f base x v y va) => show u.cell? ⟨b, 0, none⟩ = some (.int .u8 x.r.a) ∧ u.cell? ⟨b, 1, none⟩ = some (.int .u8 x.r.f) from ⟨hu.cell 0 _ rfl, hu.cell 1 _ rfl⟩)
  have HS := HC.out w h
  have H3 := Lib.hid (putAF_any p.1 p.2 _ h.drew)
  clear h hp
  go_enter Tryz.func127, Tryz.ntmps127
  go_wp2_with fail
  first | refine wp_region_noPanic ?_ | skip
  refine wp_region_U (n := 13) (S := (fun u => u.cell? ⟨b, 0, none⟩ = some (.int .u8 x.r.a) ∧ u.cell? ⟨b, 1, none⟩ = some (.int .u8 x.r.f))) (by kernel_rfl) (by kernel_rfl) HS (fun hHeld => ?_)
  refine wpAnyU_take (i := 0) (v := ?v25) rfl (by kernel_rfl) (by kernel_rfl) (by kernel_rfl) (by kernel_rfl) (fun _ _ _ h => h) (Or.inl ⟨by rfl, ?hy25⟩) (by assumption) ?rest25
  case hy25 => (intro w hSw; (try dsimp only at hSw); go_simp; try with_reducible rfl)
  try simp only [Act.put, List.getElem_toArray, List.getElem_cons_succ, List.getElem_cons_zero, List.setIfInBounds_toArray, List.set_cons_zero, List.set_cons_succ]
  refine wpAnyU_take (i := 1) (v := ?v26) rfl (by kernel_rfl) (by kernel_rfl) (by kernel_rfl) (by kernel_rfl) (fun _ _ _ h => h) (Or.inl ⟨by rfl, ?hy26⟩) (by assumption) ?rest26
  case hy26 => (intro w hSw; (try dsimp only at hSw); go_simp; try with_reducible rfl)
  try simp only [Act.put, List.getElem_toArray, List.getElem_cons_succ, List.getElem_cons_zero, List.setIfInBounds_toArray, List.set_cons_zero, List.set_cons_succ]
  refine wpAnyU_take (i := 2) (v := ?v27) rfl (by kernel_rfl) (by kernel_rfl) (by kernel_rfl) (by kernel_rfl) (fun _ _ _ h => h) (Or.inl ⟨by rfl, ?hy27⟩) (by assumption) ?rest27
  case hy27 => (intro w hSw; (try dsimp only at hSw); go_simp; try with_reducible rfl)
  try simp only [Act.put, List.getElem_toArray, List.getElem_cons_succ, List.getElem_cons_zero, List.setIfInBounds_toArray, List.set_cons_zero, List.set_cons_succ]
  refine wpAnyU_take (i := 3) (v := ?v28) rfl (by kernel_rfl) (by kernel_rfl) (by kernel_rfl) (by kernel_rfl) (fun _ _ _ h => h) (Or.inl ⟨by rfl, ?hy28⟩) (by assumption) ?rest28
  case hy28 => (intro w hSw; (try dsimp only at hSw); go_simp; try with_reducible rfl)
  try simp only [Act.put, List.getElem_toArray, List.getElem_cons_succ, List.getElem_cons_zero, List.setIfInBounds_toArray, List.set_cons_zero, List.set_cons_succ]
  refine wpAnyU_take (i := 4) (v := ?v29) rfl (by kernel_rfl) (by kernel_rfl) (by kernel_rfl) (by kernel_rfl) (fun _ _ _ h => h) (Or.inl ⟨by rfl, ?hy29⟩) (by assumption) ?rest29
  case hy29 => (intro w hSw; (try dsimp only at hSw); go_simp; try with_reducible rfl)
  try simp only [Act.put, List.getElem_toArray, List.getElem_cons_succ, List.getElem_cons_zero, List.setIfInBounds_toArray, List.set_cons_zero, List.set_cons_succ]
  refine wpAnyU_take (i := 5) (v := ?v30) rfl (by kernel_rfl) (by kernel_rfl) (by kernel_rfl) (by kernel_rfl) (fun _ _ _ h => h) (Or.inl ⟨by rfl, ?hy30⟩) (by assumption) ?rest30
  case hy30 => (intro w hSw; (try dsimp only at hSw); go_simp; try with_reducible rfl)
  try simp only [Act.put, List.getElem_toArray, List.getElem_cons_succ, List.getElem_cons_zero, List.setIfInBounds_toArray, List.set_cons_zero, List.set_cons_succ]
  refine wpAnyU_take (i := 6) (v := ?v31) rfl (by kernel_rfl) (by kernel_rfl) (by kernel_rfl) (by kernel_rfl) (fun _ _ _ h => h) (Or.inl ⟨by rfl, ?hy31⟩) (by assumption) ?rest31
  case hy31 => (intro w hSw; (try dsimp only at hSw); go_simp; try with_reducible rfl)
  try simp only [Act.put, List.getElem_toArray, List.getElem_cons_succ, List.getElem_cons_zero, List.setIfInBounds_toArray, List.set_cons_zero, List.set_cons_succ]
  refine wpAnyU_take (i := 7) (v := ?v32) rfl (by kernel_rfl) (by kernel_rfl) (by kernel_rfl) (by kernel_rfl) (fun _ _ _ h => h) (Or.inl ⟨by rfl, ?hy32⟩) (by assumption) ?rest32
  case hy32 => (intro w hSw; (try dsimp only at hSw); go_simp; try with_reducible rfl)
  try simp only [Act.put, List.getElem_toArray, List.getElem_cons_succ, List.getElem_cons_zero, List.setIfInBounds_toArray, List.set_cons_zero, List.set_cons_succ]
  refine wpAnyU_take (i := 8) (v := ?v33) rfl (by kernel_rfl) (by kernel_rfl) (by kernel_rfl) (by kernel_rfl) (fun _ _ _ h => h) (Or.inl ⟨by rfl, ?hy33⟩) (by assumption) ?rest33
  case hy33 => (intro w hSw; (try dsimp only at hSw); go_simp; try with_reducible rfl)
  try simp only [Act.put, List.getElem_toArray, List.getElem_cons_succ, List.getElem_cons_zero, List.setIfInBounds_toArray, List.set_cons_zero, List.set_cons_succ]
  refine wpAnyU_take (i := 9) (v := ?v34) rfl (by kernel_rfl) (by kernel_rfl) (by kernel_rfl) (by kernel_rfl) (fun _ _ _ h => h) (Or.inl ⟨by rfl, ?hy34⟩) (by assumption) ?rest34
  case hy34 => (intro w hSw; (try dsimp only at hSw); go_simp; try with_reducible rfl)
  try simp only [Act.put, List.getElem_toArray, List.getElem_cons_succ, List.getElem_cons_zero, List.setIfInBounds_toArray, List.set_cons_zero, List.set_cons_succ]
  refine wpAnyU_ready (i := 10) (by kernel_rfl) (by kernel_rfl) rfl (fun K hK => ?_)
  go_simp
  refine (HD.out _).mono ?_
  rintro e w' ⟨rfl, rfl⟩
  go_wp2_with fail
  refine hK.out _ _ (by assumption) (fun hHeld => ?_)
  clear hK K
  try simp only [Act.put, List.getElem_toArray, List.getElem_cons_succ, List.getElem_cons_zero, List.setIfInBounds_toArray, List.set_cons_zero, List.set_cons_succ]
  refine wpAnyU_take (i := 11) (v := ?v35) rfl (by kernel_rfl) (by kernel_rfl) (by kernel_rfl) (by kernel_rfl) (fun _ _ _ h => h) (Or.inl ⟨by rfl, ?hy35⟩) (by assumption) ?rest35
  case hy35 => (intro w hSw; (try dsimp only at hSw); go_simp; try with_reducible rfl)
  try simp only [Act.put, List.getElem_toArray, List.getElem_cons_succ, List.getElem_cons_zero, List.setIfInBounds_toArray, List.set_cons_zero, List.set_cons_succ]
  refine wpAnyU_take (i := 12) (v := ?v36) rfl (by kernel_rfl) (by kernel_rfl) (by kernel_rfl) (by kernel_rfl) (fun _ _ _ h => h) (Or.inl ⟨by rfl, ?hy36⟩) (by assumption) ?rest36
  case hy36 => (intro w hSw; (try dsimp only at hSw); go_simp; try with_reducible rfl)
  try simp only [Act.put, List.getElem_toArray, List.getElem_cons_succ, List.getElem_cons_zero, List.setIfInBounds_toArray, List.set_cons_zero, List.set_cons_succ]
  refine wpAnyU_tail rfl (by kernel_rfl) ?_
  simp only [List.drop_succ_cons, List.drop_zero]
  go_wp2_with fail
  refine H3.out.mono ?_
  rintro e w' ⟨rfl, hm⟩
  go_wp2_with fail
  refine NoPanic.normal ?_
  go_wp2_with fail
  go_end0
  exact ⟨rfl, hm⟩
set_option maxHeartbeats 1600000 in
theorem adjust3 (w : World) (h : Mc w0 w b f base x v y va) (ok : x.Ok) :
    Calls Tryz.prog 127 #[.pointer (some ⟨b, 0, none⟩), .int .i64 3] w fun e w' => e = .returned (.tuple #[]) ∧ Mc w0 w' b f base (adjS x 3) v y va := by
  obtain ⟨p, hp⟩ : ∃ p, accV4 3 x.r.a x.r.f = p := ⟨_, rfl⟩
  rw [show adjS x 3 = putAFS x p.1 p.2 by unfold adjS; rw [if_pos (by decide), hp]]
  have HD := Lib.hid (fun u => accT_any 3 x.r.a x.r.f u ok.r.a.1 ok.r.a.2 ok.r.f.1 ok.r.f.2)
  rw [hp] at HD
  have HC := Lib.hid (fun (u : World) (hu : Mc w0 u b f base x v y va) => show u.cell? ⟨b, 0, none⟩ = some (.int .u8 x.r.a) ∧ u.cell? ⟨b, 1, none⟩ = some (.int .u8 x.r.f) from ⟨hu.cell 0 _ rfl, hu.cell 1 _ rfl⟩)
  have HS := HC.out w h
  have H3 := Lib.hid (putAF_any p.1 p.2 _ h.drew)
  clear h hp
  go_enter Tryz.func127, Tryz.ntmps127
  go_wp2_with fail
  first | refine wp_region_noPanic ?_ | skip
  refine wp_region_U (n := 13) (S := (fun u => u.cell? ⟨b, 0, none⟩ = some (.int .u8 x.r.a) ∧ u.cell? ⟨b, 1, none⟩ = some (.int .u8 x.r.f))) (by kernel_rfl) (by kernel_rfl) HS (fun hHeld => ?_)
  refine wpAnyU_take (i := 0) (v := ?v37) rfl (by kernel_rfl) (by kernel_rfl) (by kernel_rfl) (by kernel_rfl) (fun _ _ _ h => h) (Or.inl ⟨by rfl, ?hy37⟩) (by assumption) ?rest37
  case hy37 => (intro w hSw; (try dsimp only at hSw); go_simp; try with_reducible rfl)
  try simp only [Act.put, List.getElem_toArray, List.getElem_cons_succ, List.getElem_cons_zero, List.setIfInBounds_toArray, List.set_cons_zero, List.set_cons_succ]
  refine wpAnyU_take (i := 1) (v := ?v38) rfl (by kernel_rfl) (by kernel_rfl) (by kernel_rfl) (by kernel_rfl) (fun _ _ _ h => h) (Or.inl ⟨by rfl, ?hy38⟩) (by assumption) ?rest38
  case hy38 => (intro w hSw; (try dsimp only at hSw); go_simp; try with_reducible rfl)
  try simp only [Act.put, List.getElem_toArray, List.getElem_cons_succ, List.getElem_cons_zero, List.setIfInBounds_toArray, List.set_cons_zero, List.set_cons_succ]
  refine wpAnyU_take (i := 2) (v := ?v39) rfl (by kernel_rfl) (by kernel_rfl) (by kernel_rfl) (by kernel_rfl) (fun _ _ _ h => h) (Or.inl ⟨by rfl, ?hy39⟩) (by assumption) ?rest39
  case hy39 => (intro w hSw; (try dsimp only at hSw); go_simp; try with_reducible rfl)
  try simp only [Act.put, List.getElem_toArray, List.getElem_cons_succ, List.getElem_cons_zero, List.setIfInBounds_toArray, List.set_cons_zero, List.set_cons_succ]
  refine wpAnyU_take (i := 3) (v := ?v40) rfl (by kernel_rfl) (by kernel_rfl) (by kernel_rfl) (by kernel_rfl) (fun _ _ _ h => h) (Or.inl ⟨by rfl, ?hy40⟩) (by assumption) ?rest40
  case hy40 => (intro w hSw; (try dsimp only at hSw); go_simp; try with_reducible rfl)
  try simp only [Act.put, List.getElem_toArray, List.getElem_cons_succ, List.getElem_cons_zero, List.setIfInBounds_toArray, List.set_cons_zero, List.set_cons_succ]
  refine wpAnyU_take (i := 4) (v := ?v41) rfl (by kernel_rfl) (by kernel_rfl) (by kernel_rfl) (by kernel_rfl) (fun _ _ _ h => h) (Or.inl ⟨by rfl, ?hy41⟩) (by assumption) ?rest41
  case hy41 => (intro w hSw; (try dsimp only at hSw); go_simp; try with_reducible rfl)
  try simp only [Act.put, List.getElem_toArray, List.getElem_cons_succ, List.getElem_cons_zero, List.setIfInBounds_toArray, List.set_cons_zero, List.set_cons_succ]
  refine wpAnyU_take (i := 5) (v := ?v42) rfl (by kernel_rfl) (by kernel_rfl) (by kernel_rfl) (by kernel_rfl) (fun _ _ _ h => h) (Or.inl ⟨by rfl, ?hy42⟩) (by assumption) ?rest42
  case hy42 => (intro w hSw; (try dsimp only at hSw); go_simp; try with_reducible rfl)
  try simp only [Act.put, List.getElem_toArray, List.getElem_cons_succ, List.getElem_cons_zero, List.setIfInBounds_toArray, List.set_cons_zero, List.set_cons_succ]
  refine wpAnyU_take (i := 6) (v := ?v43) rfl (by kernel_rfl) (by kernel_rfl) (by kernel_rfl) (by kernel_rfl) (fun _ _ _ h => h) (Or.inl ⟨by rfl, ?hy43⟩) (by assumption) ?rest43
  case hy43 => (intro w hSw; (try dsimp only at hSw); go_simp; try with_reducible rfl)
  try simp only [Act.put, List.getElem_toArray, List.getElem_cons_succ, List.getElem_cons_zero, List.setIfInBounds_toArray, List.set_cons_zero, List.set_cons_succ]
  refine wpAnyU_take (i := 7) (v := ?v44) rfl (by kernel_rfl) (by kernel_rfl) (by kernel_rfl) (by kernel_rfl) (fun _ _ _ h => h) (Or.inl ⟨by rfl, ?hy44⟩) (by assumption) ?rest44
  case hy44 => (intro w hSw; (try dsimp only at hSw); go_simp; try with_reducible rfl)
  try simp only [Act.put, List.getElem_toArray, List.getElem_cons_succ, List.getElem_cons_zero, List.setIfInBounds_toArray, List.set_cons_zero, List.set_cons_succ]
  refine wpAnyU_take (i := 8) (v := ?v45) rfl (by kernel_rfl) (by kernel_rfl) (by kernel_rfl) (by kernel_rfl) (fun _ _ _ h => h) (Or.inl ⟨by rfl, ?hy45⟩) (by assumption) ?rest45
  case hy45 => (intro w hSw; (try dsimp only at hSw); go_simp; try with_reducible rfl)
  try simp only [Act.put, List.getElem_toArray, List.getElem_cons_succ, List.getElem_cons_zero, List.setIfInBounds_toArray, List.set_cons_zero, List.set_cons_succ]
  refine wpAnyU_take (i := 9) (v := ?v46) rfl (by kernel_rfl) (by kernel_rfl) (by kernel_rfl) (by kernel_rfl) (fun _ _ _ h => h) (Or.inl ⟨by rfl, ?hy46⟩) (by assumption) ?rest46
  case hy46 => (intro w hSw; (try dsimp only at hSw); go_simp; try with_reducible rfl)
  try simp only [Act.put, List.getElem_toArray, List.getElem_cons_succ, List.getElem_cons_zero, List.setIfInBounds_toArray, List.set_cons_zero, List.set_cons_succ]
  refine wpAnyU_ready (i := 10) (by kernel_rfl) (by kernel_rfl) rfl (fun K hK => ?_)
  go_simp
  refine (HD.out _).mono ?_
  rintro e w' ⟨rfl, rfl⟩
  go_wp2_with fail
  refine hK.out _ _ (by assumption) (fun hHeld => ?_)
  clear hK K
  try simp only [Act.put, List.getElem_toArray, List.getElem_cons_succ, List.getElem_cons_zero, List.setIfInBounds_toArray, List.set_cons_zero, List.set_cons_succ]
  refine wpAnyU_take (i := 11) (v := ?v47) rfl (by kernel_rfl) (by kernel_rfl) (by kernel_rfl) (by kernel_rfl) (fun _ _ _ h => h) (Or.inl ⟨by rfl, ?hy47⟩) (by assumption) ?rest47
  case hy47 => (intro w hSw; (try dsimp only at hSw); go_simp; try with_reducible rfl)
  try simp only [Act.put, List.getElem_toArray, List.getElem_cons_succ, List.getElem_cons_zero, List.setIfInBounds_toArray, List.set_cons_zero, List.set_cons_succ]
  refine wpAnyU_take (i := 12) (v := ?v48) rfl (by kernel_rfl) (by kernel_rfl) (by kernel_rfl) (by kernel_rfl) (fun _ _ _ h => h) (Or.inl ⟨by rfl, ?hy48⟩) (by assumption) ?rest48
  case hy48 => (intro w hSw; (try dsimp only at hSw); go_simp; try with_reducible rfl)
  try simp only [Act.put, List.getElem_toArray, List.getElem_cons_succ, List.getElem_cons_zero, List.setIfInBounds_toArray, List.set_cons_zero, List.set_cons_succ]
  refine wpAnyU_tail rfl (by kernel_rfl) ?_
  simp only [List.drop_succ_cons, List.drop_zero]
  go_wp2_with fail
  refine H3.out.mono ?_
  rintro e w' ⟨rfl, hm⟩
  go_wp2_with fail
  refine NoPanic.normal ?_
  go_wp2_with fail
  go_end0
  exact ⟨rfl, hm⟩
set_option maxHeartbeats 1600000 in
theorem adjust4 (w : World) (h : Mc w0 w b f base x v y va) (ok : x.Ok) :
    Calls Tryz.prog 127 #[.pointer (some ⟨b, 0, none⟩), .int .i64 4] w fun e w' => e = .returned (.tuple #[]) ∧ Mc w0 w' b f base (adjS x 4) v y va := by
  rw [show adjS x 4 = putAFS x (daaR x.r.a x.r.f) (daaF x.r.a x.r.f) by unfold adjS; rw [if_neg (by decide), if_pos rfl]]
  have HD := Lib.hid (fun u => daa_any x.r.a x.r.f u ok.r.a.1 ok.r.a.2 ok.r.f.1 ok.r.f.2)
  have HC := Lib.hid (fun (u : World) (hu : Mc w0 u b f base x v y va) => show u.cell? ⟨b, 0, none⟩ = some (.int .u8 x.r.a) ∧ u.cell? ⟨b, 1, none⟩ = some (.int .u8 x.r.f) from ⟨hu.cell 0 _ rfl, hu.cell 1 _ rfl⟩)
  have HS := HC.out w h
  have H := Lib.hid h.drew
  clear h
  generalize daaR x.r.a x.r.f = p at *
  generalize daaF x.r.a x.r.f = q at *
  go_enter Tryz.func127, Tryz.ntmps127
  go_wp2_with fail
  first | refine wp_region_noPanic ?_ | skip
  refine wp_region_U (n := 12) (S := (fun u => u.cell? ⟨b, 0, none⟩ = some (.int .u8 x.r.a) ∧ u.cell? ⟨b, 1, none⟩ = some (.int .u8 x.r.f))) (by kernel_rfl) (by kernel_rfl) HS (fun hHeld => ?_)
  refine wpAnyU_take (i := 0) (v := ?v49) rfl (by kernel_rfl) (by kernel_rfl) (by kernel_rfl) (by kernel_rfl) (fun _ _ _ h => h) (Or.inl ⟨by rfl, ?hy49⟩) (by assumption) ?rest49
  case hy49 => (intro w hSw; (try dsimp only at hSw); go_simp; try with_reducible rfl)
  try simp only [Act.put, List.getElem_toArray, List.getElem_cons_succ, List.getElem_cons_zero, List.setIfInBounds_toArray, List.set_cons_zero, List.set_cons_succ]
  refine wpAnyU_take (i := 1) (v := ?v50) rfl (by kernel_rfl) (by kernel_rfl) (by kernel_rfl) (by kernel_rfl) (fun _ _ _ h => h) (Or.inl ⟨by rfl, ?hy50⟩) (by assumption) ?rest50
  case hy50 => (intro w hSw; (try dsimp only at hSw); go_simp; try with_reducible rfl)
  try simp only [Act.put, List.getElem_toArray, List.getElem_cons_succ, List.getElem_cons_zero, List.setIfInBounds_toArray, List.set_cons_zero, List.set_cons_succ]
  refine wpAnyU_take (i := 2) (v := ?v51) rfl (by kernel_rfl) (by kernel_rfl) (by kernel_rfl) (by kernel_rfl) (fun _ _ _ h => h) (Or.inl ⟨by rfl, ?hy51⟩) (by assumption) ?rest51
  case hy51 => (intro w hSw; (try dsimp only at hSw); go_simp; try with_reducible rfl)
  try simp only [Act.put, List.getElem_toArray, List.getElem_cons_succ, List.getElem_cons_zero, List.setIfInBounds_toArray, List.set_cons_zero, List.set_cons_succ]
  refine wpAnyU_take (i := 3) (v := ?v52) rfl (by kernel_rfl) (by kernel_rfl) (by kernel_rfl) (by kernel_rfl) (fun _ _ _ h => h) (Or.inl ⟨by rfl, ?hy52⟩) (by assumption) ?rest52
  case hy52 => (intro w hSw; (try dsimp only at hSw); go_simp; try with_reducible rfl)
  try simp only [Act.put, List.getElem_toArray, List.getElem_cons_succ, List.getElem_cons_zero, List.setIfInBounds_toArray, List.set_cons_zero, List.set_cons_succ]
  refine wpAnyU_take (i := 4) (v := ?v53) rfl (by kernel_rfl) (by kernel_rfl) (by kernel_rfl) (by kernel_rfl) (fun _ _ _ h => h) (Or.inl ⟨by rfl, ?hy53⟩) (by assumption) ?rest53
  case hy53 => (intro w hSw; (try dsimp only at hSw); go_simp; try with_reducible rfl)
  try simp only [Act.put, List.getElem_toArray, List.getElem_cons_succ, List.getElem_cons_zero, List.setIfInBounds_toArray, List.set_cons_zero, List.set_cons_succ]
  refine wpAnyU_take (i := 5) (v := ?v54) rfl (by kernel_rfl) (by kernel_rfl) (by kernel_rfl) (by kernel_rfl) (fun _ _ _ h => h) (Or.inl ⟨by rfl, ?hy54⟩) (by assumption) ?rest54
  case hy54 => (intro w hSw; (try dsimp only at hSw); go_simp; try with_reducible rfl)
  try simp only [Act.put, List.getElem_toArray, List.getElem_cons_succ, List.getElem_cons_zero, List.setIfInBounds_toArray, List.set_cons_zero, List.set_cons_succ]
  refine wpAnyU_take (i := 6) (v := ?v55) rfl (by kernel_rfl) (by kernel_rfl) (by kernel_rfl) (by kernel_rfl) (fun _ _ _ h => h) (Or.inl ⟨by rfl, ?hy55⟩) (by assumption) ?rest55
  case hy55 => (intro w hSw; (try dsimp only at hSw); go_simp; try with_reducible rfl)
  try simp only [Act.put, List.getElem_toArray, List.getElem_cons_succ, List.getElem_cons_zero, List.setIfInBounds_toArray, List.set_cons_zero, List.set_cons_succ]
  refine wpAnyU_take (i := 7) (v := ?v56) rfl (by kernel_rfl) (by kernel_rfl) (by kernel_rfl) (by kernel_rfl) (fun _ _ _ h => h) (Or.inl ⟨by rfl, ?hy56⟩) (by assumption) ?rest56
  case hy56 => (intro w hSw; (try dsimp only at hSw); go_simp; try with_reducible rfl)
  try simp only [Act.put, List.getElem_toArray, List.getElem_cons_succ, List.getElem_cons_zero, List.setIfInBounds_toArray, List.set_cons_zero, List.set_cons_succ]
  refine wpAnyU_take (i := 8) (v := ?v57) rfl (by kernel_rfl) (by kernel_rfl) (by kernel_rfl) (by kernel_rfl) (fun _ _ _ h => h) (Or.inl ⟨by rfl, ?hy57⟩) (by assumption) ?rest57
  case hy57 => (intro w hSw; (try dsimp only at hSw); go_simp; try with_reducible rfl)
  try simp only [Act.put, List.getElem_toArray, List.getElem_cons_succ, List.getElem_cons_zero, List.setIfInBounds_toArray, List.set_cons_zero, List.set_cons_succ]
  refine wpAnyU_ready (i := 9) (by kernel_rfl) (by kernel_rfl) rfl (fun K hK => ?_)
  go_simp
  refine (HD.out _).mono ?_
  rintro e w' ⟨rfl, hb⟩
  go_wp2_with fail
  refine hK.out _ _ (HC.out _ (H.out.below hb)) (fun hHeld => ?_)
  clear hK K
  try simp only [Act.put, List.getElem_toArray, List.getElem_cons_succ, List.getElem_cons_zero, List.setIfInBounds_toArray, List.set_cons_zero, List.set_cons_succ]
  have H3 := Lib.hid (putAF_any p q _ (H.out.below hb))
  clear hb
  refine wpAnyU_take (i := 10) (v := ?v58) rfl (by kernel_rfl) (by kernel_rfl) (by kernel_rfl) (by kernel_rfl) (fun _ _ _ h => h) (Or.inl ⟨by rfl, ?hy58⟩) (by assumption) ?rest58
  case hy58 => (intro w hSw; (try dsimp only at hSw); go_simp; try with_reducible rfl)
  try simp only [Act.put, List.getElem_toArray, List.getElem_cons_succ, List.getElem_cons_zero, List.setIfInBounds_toArray, List.set_cons_zero, List.set_cons_succ]
  refine wpAnyU_take (i := 11) (v := ?v59) rfl (by kernel_rfl) (by kernel_rfl) (by kernel_rfl) (by kernel_rfl) (fun _ _ _ h => h) (Or.inl ⟨by rfl, ?hy59⟩) (by assumption) ?rest59
  case hy59 => (intro w hSw; (try dsimp only at hSw); go_simp; try with_reducible rfl)
  try simp only [Act.put, List.getElem_toArray, List.getElem_cons_succ, List.getElem_cons_zero, List.setIfInBounds_toArray, List.set_cons_zero, List.set_cons_succ]
  refine wpAnyU_tail rfl (by kernel_rfl) ?_
  simp only [List.drop_succ_cons, List.drop_zero]
  go_wp2_with fail
  refine H3.out.mono ?_
  rintro e w' ⟨rfl, hm⟩
  go_wp2_with fail
  refine NoPanic.normal ?_
  go_wp2_with fail
  go_end0
  exact ⟨rfl, hm⟩
set_option maxHeartbeats 1600000 in
theorem adjust5 (w : World) (h : Mc w0 w b f base x v y va) (ok : x.Ok) :
    Calls Tryz.prog 127 #[.pointer (some ⟨b, 0, none⟩), .int .i64 5] w fun e w' => e = .returned (.tuple #[]) ∧ Mc w0 w' b f base (adjS x 5) v y va := by
  rw [show adjS x 5 = putAFS x (255 - x.r.a) (cplF x.r.a x.r.f) by unfold adjS; rw [if_neg (by decide), if_neg (by decide), if_pos rfl]]
  have HD := Lib.hid (fun u => cpl_any x.r.a x.r.f u ok.r.a.1 ok.r.a.2 ok.r.f.1 ok.r.f.2)
  have HC := Lib.hid (fun (u : World) (hu : Mc w0 u b f base x v y va) => show u.cell? ⟨b, 0, none⟩ = some (.int .u8 x.r.a) ∧ u.cell? ⟨b, 1, none⟩ = some (.int .u8 x.r.f) from ⟨hu.cell 0 _ rfl, hu.cell 1 _ rfl⟩)
  have HS := HC.out w h
  have H := Lib.hid h.drew
  clear h
  generalize 255 - x.r.a = p at *
  generalize cplF x.r.a x.r.f = q at *
  go_enter Tryz.func127, Tryz.ntmps127
  go_wp2_with fail
  first | refine wp_region_noPanic ?_ | skip
  refine wp_region_U (n := 12) (S := (fun u => u.cell? ⟨b, 0, none⟩ = some (.int .u8 x.r.a) ∧ u.cell? ⟨b, 1, none⟩ = some (.int .u8 x.r.f))) (by kernel_rfl) (by kernel_rfl) HS (fun hHeld => ?_)
  refine wpAnyU_take (i := 0) (v := ?v60) rfl (by kernel_rfl) (by kernel_rfl) (by kernel_rfl) (by kernel_rfl) (fun _ _ _ h => h) (Or.inl ⟨by rfl, ?hy60⟩) (by assumption) ?rest60
  case hy60 => (intro w hSw; (try dsimp only at hSw); go_simp; try with_reducible rfl)
  try simp only [Act.put, List.getElem_toArray, List.getElem_cons_succ, List.getElem_cons_zero, List.setIfInBounds_toArray, List.set_cons_zero, List.set_cons_succ]
  refine wpAnyU_take (i := 1) (v := ?v61) rfl (by kernel_rfl) (by kernel_rfl) (by kernel_rfl) (by kernel_rfl) (fun _ _ _ h => h) (Or.inl ⟨by rfl, ?hy61⟩) (by assumption) ?rest61
  case hy61 => (intro w hSw; (try dsimp only at hSw); go_simp; try with_reducible rfl)
  try simp only [Act.put, List.getElem_toArray, List.getElem_cons_succ, List.getElem_cons_zero, List.setIfInBounds_toArray, List.set_cons_zero, List.set_cons_succ]
  refine wpAnyU_take (i := 2) (v := ?v62) rfl (by kernel_rfl) (by kernel_rfl) (by kernel_rfl) (by kernel_rfl) (fun _ _ _ h => h) (Or.inl ⟨by rfl, ?hy62⟩) (by assumption) ?rest62
  case hy62 => (intro w hSw; (try dsimp only at hSw); go_simp; try with_reducible rfl)
  try simp only [Act.put, List.getElem_toArray, List.getElem_cons_succ, List.getElem_cons_zero, List.setIfInBounds_toArray, List.set_cons_zero, List.set_cons_succ]
  refine wpAnyU_take (i := 3) (v := ?v63) rfl (by kernel_rfl) (by kernel_rfl) (by kernel_rfl) (by kernel_rfl) (fun _ _ _ h => h) (Or.inl ⟨by rfl, ?hy63⟩) (by assumption) ?rest63
  case hy63 => (intro w hSw; (try dsimp only at hSw); go_simp; try with_reducible rfl)
  try simp only [Act.put, List.getElem_toArray, List.getElem_cons_succ, List.getElem_cons_zero, List.setIfInBounds_toArray, List.set_cons_zero, List.set_cons_succ]
  refine wpAnyU_take (i := 4) (v := ?v64) rfl (by kernel_rfl) (by kernel_rfl) (by kernel_rfl) (by kernel_rfl) (fun _ _ _ h => h) (Or.inl ⟨by rfl, ?hy64⟩) (by assumption) ?rest64
  case hy64 => (intro w hSw; (try dsimp only at hSw); go_simp; try with_reducible rfl)
  try simp only [Act.put, List.getElem_toArray, List.getElem_cons_succ, List.getElem_cons_zero, List.setIfInBounds_toArray, List.set_cons_zero, List.set_cons_succ]
  refine wpAnyU_take (i := 5) (v := ?v65) rfl (by kernel_rfl) (by kernel_rfl) (by kernel_rfl) (by kernel_rfl) (fun _ _ _ h => h) (Or.inl ⟨by rfl, ?hy65⟩) (by assumption) ?rest65
  case hy65 => (intro w hSw; (try dsimp only at hSw); go_simp; try with_reducible rfl)
  try simp only [Act.put, List.getElem_toArray, List.getElem_cons_succ, List.getElem_cons_zero, List.setIfInBounds_toArray, List.set_cons_zero, List.set_cons_succ]
  refine wpAnyU_take (i := 6) (v := ?v66) rfl (by kernel_rfl) (by kernel_rfl) (by kernel_rfl) (by kernel_rfl) (fun _ _ _ h => h) (Or.inl ⟨by rfl, ?hy66⟩) (by assumption) ?rest66
  case hy66 => (intro w hSw; (try dsimp only at hSw); go_simp; try with_reducible rfl)
  try simp only [Act.put, List.getElem_toArray, List.getElem_cons_succ, List.getElem_cons_zero, List.setIfInBounds_toArray, List.set_cons_zero, List.set_cons_succ]
  refine wpAnyU_take (i := 7) (v := ?v67) rfl (by kernel_rfl) (by kernel_rfl) (by kernel_rfl) (by kernel_rfl) (fun _ _ _ h => h) (Or.inl ⟨by rfl, ?hy67⟩) (by assumption) ?rest67
  case hy67 => (intro w hSw; (try dsimp only at hSw); go_simp; try with_reducible rfl)
  try simp only [Act.put, List.getElem_toArray, List.getElem_cons_succ, List.getElem_cons_zero, List.setIfInBounds_toArray, List.set_cons_zero, List.set_cons_succ]
  refine wpAnyU_take (i := 8) (v := ?v68) rfl (by kernel_rfl) (by kernel_rfl) (by kernel_rfl) (by kernel_rfl) (fun _ _ _ h => h) (Or.inl ⟨by rfl, ?hy68⟩) (by assumption) ?rest68
  case hy68 => (intro w hSw; (try dsimp only at hSw); go_simp; try with_reducible rfl)
  try simp only [Act.put, List.getElem_toArray, List.getElem_cons_succ, List.getElem_cons_zero, List.setIfInBounds_toArray, List.set_cons_zero, List.set_cons_succ]
  refine wpAnyU_ready (i := 9) (by kernel_rfl) (by kernel_rfl) rfl (fun K hK => ?_)
  go_simp
  refine (HD.out _).mono ?_
  rintro e w' ⟨rfl, hb⟩
  go_wp2_with fail
  refine hK.out _ _ (HC.out _ (H.out.below hb)) (fun hHeld => ?_)
  clear hK K
  try simp only [Act.put, List.getElem_toArray, List.getElem_cons_succ, List.getElem_cons_zero, List.setIfInBounds_toArray, List.set_cons_zero, List.set_cons_succ]
  have H3 := Lib.hid (putAF_any p q _ (H.out.below hb))
  clear hb
  refine wpAnyU_take (i := 10) (v := ?v69) rfl (by kernel_rfl) (by kernel_rfl) (by kernel_rfl) (by kernel_rfl) (fun _ _ _ h => h) (Or.inl ⟨by rfl, ?hy69⟩) (by assumption) ?rest69
  case hy69 => (intro w hSw; (try dsimp only at hSw); go_simp; try with_reducible rfl)
  try simp only [Act.put, List.getElem_toArray, List.getElem_cons_succ, List.getElem_cons_zero, List.setIfInBounds_toArray, List.set_cons_zero, List.set_cons_succ]
  refine wpAnyU_take (i := 11) (v := ?v70) rfl (by kernel_rfl) (by kernel_rfl) (by kernel_rfl) (by kernel_rfl) (fun _ _ _ h => h) (Or.inl ⟨by rfl, ?hy70⟩) (by assumption) ?rest70
  case hy70 => (intro w hSw; (try dsimp only at hSw); go_simp; try with_reducible rfl)
  try simp only [Act.put, List.getElem_toArray, List.getElem_cons_succ, List.getElem_cons_zero, List.setIfInBounds_toArray, List.set_cons_zero, List.set_cons_succ]
  refine wpAnyU_tail rfl (by kernel_rfl) ?_
  simp only [List.drop_succ_cons, List.drop_zero]
  go_wp2_with fail
  refine H3.out.mono ?_
  rintro e w' ⟨rfl, hm⟩
  go_wp2_with fail
  refine NoPanic.normal ?_
  go_wp2_with fail
  go_end0
  exact ⟨rfl, hm⟩
set_option maxHeartbeats 1600000 in
theorem adjust6 (w : World) (h : Mc w0 w b f base x v y va) (ok : x.Ok) :
    Calls Tryz.prog 127 #[.pointer (some ⟨b, 0, none⟩), .int .i64 6] w fun e w' => e = .returned (.tuple #[]) ∧ Mc w0 w' b f base (adjS x 6) v y va := by
  rw [show adjS x 6 = putFS x (scfF x.r.a x.r.f x.r.q) by unfold adjS; rw [if_neg (by decide), if_neg (by decide), if_neg (by decide), if_pos rfl]]
  have HD := Lib.hid (fun u => scf_any x.r.a x.r.f x.r.q u ok.r.a.1 ok.r.a.2 ok.r.f.1 ok.r.f.2 ok.r.q.1 ok.r.q.2)
  have HC := Lib.hid (fun (u : World) (hu : Mc w0 u b f base x v y va) => show u.cell? ⟨b, 0, none⟩ = some (.int .u8 x.r.a) ∧ u.cell? ⟨b, 1, none⟩ = some (.int .u8 x.r.f) ∧ u.cell? ⟨b, 18, none⟩ = some (.int .u8 x.r.q) from ⟨hu.cell 0 _ rfl, hu.cell 1 _ rfl, hu.cell 18 _ rfl⟩)
  have HS := HC.out w h
  have H := Lib.hid h.drew
  clear h
  generalize scfF x.r.a x.r.f x.r.q = q at *
  go_enter Tryz.func127, Tryz.ntmps127
  go_wp2_with fail
  first | refine wp_region_noPanic ?_ | skip
  refine wp_region_U (n := 14) (S := (fun u => u.cell? ⟨b, 0, none⟩ = some (.int .u8 x.r.a) ∧ u.cell? ⟨b, 1, none⟩ = some (.int .u8 x.r.f) ∧ u.cell? ⟨b, 18, none⟩ = some (.int .u8 x.r.q))) (by kernel_rfl) (by kernel_rfl) HS (fun hHeld => ?_)
  refine wpAnyU_take (i := 0) (v := ?v71) rfl (by kernel_rfl) (by kernel_rfl) (by kernel_rfl) (by kernel_rfl) (fun _ _ _ h => h) (Or.inl ⟨by rfl, ?hy71⟩) (by assumption) ?rest71
  case hy71 => (intro w hSw; (try dsimp only at hSw); go_simp; try with_reducible rfl)
  try simp only [Act.put, List.getElem_toArray, List.getElem_cons_succ, List.getElem_cons_zero, List.setIfInBounds_toArray, List.set_cons_zero, List.set_cons_succ]
  refine wpAnyU_take (i := 1) (v := ?v72) rfl (by kernel_rfl) (by kernel_rfl) (by kernel_rfl) (by kernel_rfl) (fun _ _ _ h => h) (Or.inl ⟨by rfl, ?hy72⟩) (by assumption) ?rest72
  case hy72 => (intro w hSw; (try dsimp only at hSw); go_simp; try with_reducible rfl)
  try simp only [Act.put, List.getElem_toArray, List.getElem_cons_succ, List.getElem_cons_zero, List.setIfInBounds_toArray, List.set_cons_zero, List.set_cons_succ]
  refine wpAnyU_take (i := 2) (v := ?v73) rfl (by kernel_rfl) (by kernel_rfl) (by kernel_rfl) (by kernel_rfl) (fun _ _ _ h => h) (Or.inl ⟨by rfl, ?hy73⟩) (by assumption) ?rest73
  case hy73 => (intro w hSw; (try dsimp only at hSw); go_simp; try with_reducible rfl)
  try simp only [Act.put, List.getElem_toArray, List.getElem_cons_succ, List.getElem_cons_zero, List.setIfInBounds_toArray, List.set_cons_zero, List.set_cons_succ]
  refine wpAnyU_take (i := 3) (v := ?v74) rfl (by kernel_rfl) (by kernel_rfl) (by kernel_rfl) (by kernel_rfl) (fun _ _ _ h => h) (Or.inl ⟨by rfl, ?hy74⟩) (by assumption) ?rest74
  case hy74 => (intro w hSw; (try dsimp only at hSw); go_simp; try with_reducible rfl)
  try simp only [Act.put, List.getElem_toArray, List.getElem_cons_succ, List.getElem_cons_zero, List.setIfInBounds_toArray, List.set_cons_zero, List.set_cons_succ]
  refine wpAnyU_take (i := 4) (v := ?v75) rfl (by kernel_rfl) (by kernel_rfl) (by kernel_rfl) (by kernel_rfl) (fun _ _ _ h => h) (Or.inl ⟨by rfl, ?hy75⟩) (by assumption) ?rest75
  case hy75 => (intro w hSw; (try dsimp only at hSw); go_simp; try with_reducible rfl)
  try simp only [Act.put, List.getElem_toArray, List.getElem_cons_succ, List.getElem_cons_zero, List.setIfInBounds_toArray, List.set_cons_zero, List.set_cons_succ]
  refine wpAnyU_take (i := 5) (v := ?v76) rfl (by kernel_rfl) (by kernel_rfl) (by kernel_rfl) (by kernel_rfl) (fun _ _ _ h => h) (Or.inl ⟨by rfl, ?hy76⟩) (by assumption) ?rest76
  case hy76 => (intro w hSw; (try dsimp only at hSw); go_simp; try with_reducible rfl)
  try simp only [Act.put, List.getElem_toArray, List.getElem_cons_succ, List.getElem_cons_zero, List.setIfInBounds_toArray, List.set_cons_zero, List.set_cons_succ]
  refine wpAnyU_take (i := 6) (v := ?v77) rfl (by kernel_rfl) (by kernel_rfl) (by kernel_rfl) (by kernel_rfl) (fun _ _ _ h => h) (Or.inl ⟨by rfl, ?hy77⟩) (by assumption) ?rest77
  case hy77 => (intro w hSw; (try dsimp only at hSw); go_simp; try with_reducible rfl)
  try simp only [Act.put, List.getElem_toArray, List.getElem_cons_succ, List.getElem_cons_zero, List.setIfInBounds_toArray, List.set_cons_zero, List.set_cons_succ]
  refine wpAnyU_take (i := 7) (v := ?v78) rfl (by kernel_rfl) (by kernel_rfl) (by kernel_rfl) (by kernel_rfl) (fun _ _ _ h => h) (Or.inl ⟨by rfl, ?hy78⟩) (by assumption) ?rest78
  case hy78 => (intro w hSw; (try dsimp only at hSw); go_simp; try with_reducible rfl)
  try simp only [Act.put, List.getElem_toArray, List.getElem_cons_succ, List.getElem_cons_zero, List.setIfInBounds_toArray, List.set_cons_zero, List.set_cons_succ]
  refine wpAnyU_take (i := 8) (v := ?v79) rfl (by kernel_rfl) (by kernel_rfl) (by kernel_rfl) (by kernel_rfl) (fun _ _ _ h => h) (Or.inl ⟨by rfl, ?hy79⟩) (by assumption) ?rest79
  case hy79 => (intro w hSw; (try dsimp only at hSw); go_simp; try with_reducible rfl)
  try simp only [Act.put, List.getElem_toArray, List.getElem_cons_succ, List.getElem_cons_zero, List.setIfInBounds_toArray, List.set_cons_zero, List.set_cons_succ]
  refine wpAnyU_take (i := 9) (v := ?v80) rfl (by kernel_rfl) (by kernel_rfl) (by kernel_rfl) (by kernel_rfl) (fun _ _ _ h => h) (Or.inl ⟨by rfl, ?hy80⟩) (by assumption) ?rest80
  case hy80 => (intro w hSw; (try dsimp only at hSw); go_simp; try with_reducible rfl)
  try simp only [Act.put, List.getElem_toArray, List.getElem_cons_succ, List.getElem_cons_zero, List.setIfInBounds_toArray, List.set_cons_zero, List.set_cons_succ]
  refine wpAnyU_take (i := 10) (v := ?v81) rfl (by kernel_rfl) (by kernel_rfl) (by kernel_rfl) (by kernel_rfl) (fun _ _ _ h => h) (Or.inl ⟨by rfl, ?hy81⟩) (by assumption) ?rest81
  case hy81 => (intro w hSw; (try dsimp only at hSw); go_simp; try with_reducible rfl)
  try simp only [Act.put, List.getElem_toArray, List.getElem_cons_succ, List.getElem_cons_zero, List.setIfInBounds_toArray, List.set_cons_zero, List.set_cons_succ]
  refine wpAnyU_take (i := 11) (v := ?v82) rfl (by kernel_rfl) (by kernel_rfl) (by kernel_rfl) (by kernel_rfl) (fun _ _ _ h => h) (Or.inl ⟨by rfl, ?hy82⟩) (by assumption) ?rest82
  case hy82 => (intro w hSw; (try dsimp only at hSw); go_simp; try with_reducible rfl)
  try simp only [Act.put, List.getElem_toArray, List.getElem_cons_succ, List.getElem_cons_zero, List.setIfInBounds_toArray, List.set_cons_zero, List.set_cons_succ]
  refine wpAnyU_take (i := 12) (v := ?v83) rfl (by kernel_rfl) (by kernel_rfl) (by kernel_rfl) (by kernel_rfl) (fun _ _ _ h => h) (Or.inl ⟨by rfl, ?hy83⟩) (by assumption) ?rest83
  case hy83 => (intro w hSw; (try dsimp only at hSw); go_simp; try with_reducible rfl)
  try simp only [Act.put, List.getElem_toArray, List.getElem_cons_succ, List.getElem_cons_zero, List.setIfInBounds_toArray, List.set_cons_zero, List.set_cons_succ]
  refine wpAnyU_ready (i := 13) (by kernel_rfl) (by kernel_rfl) rfl (fun K hK => ?_)
  go_simp
  refine (HD.out _).mono ?_
  rintro e w' ⟨rfl, hb⟩
  go_wp2_with fail
  refine hK.out _ _ (HC.out _ (H.out.below hb)) (fun hHeld => ?_)
  clear hK K
  try simp only [Act.put, List.getElem_toArray, List.getElem_cons_succ, List.getElem_cons_zero, List.setIfInBounds_toArray, List.set_cons_zero, List.set_cons_succ]
  have H3 := Lib.hid (putF_any q _ (H.out.below hb))
  clear hb
  refine wpAnyU_tail rfl (by kernel_rfl) ?_
  simp only [List.drop_succ_cons, List.drop_zero]
  go_wp2_with fail
  refine H3.out.mono ?_
  rintro e w' ⟨rfl, hm⟩
  go_wp2_with fail
  refine NoPanic.normal ?_
  go_wp2_with fail
  go_end0
  exact ⟨rfl, hm⟩
set_option maxHeartbeats 1600000 in
theorem adjust7 (w : World) (h : Mc w0 w b f base x v y va) (ok : x.Ok) :
    Calls Tryz.prog 127 #[.pointer (some ⟨b, 0, none⟩), .int .i64 7] w fun e w' => e = .returned (.tuple #[]) ∧ Mc w0 w' b f base (adjS x 7) v y va := by
  rw [show adjS x 7 = putFS x (ccfF x.r.a x.r.f x.r.q) by unfold adjS; rw [if_neg (by decide), if_neg (by decide), if_neg (by decide), if_neg (by decide)]]
  have HD := Lib.hid (fun u => ccf_any x.r.a x.r.f x.r.q u ok.r.a.1 ok.r.a.2 ok.r.f.1 ok.r.f.2 ok.r.q.1 ok.r.q.2)
  have HC := Lib.hid (fun (u : World) (hu : Mc w0 u b f base x v y va) => show u.cell? ⟨b, 0, none⟩ = some (.int .u8 x.r.a) ∧ u.cell? ⟨b, 1, none⟩ = some (.int .u8 x.r.f) ∧ u.cell? ⟨b, 18, none⟩ = some (.int .u8 x.r.q) from ⟨hu.cell 0 _ rfl, hu.cell 1 _ rfl, hu.cell 18 _ rfl⟩)
  have HS := HC.out w h
  have H := Lib.hid h.drew
  clear h
  generalize ccfF x.r.a x.r.f x.r.q = q at *
  go_enter Tryz.func127, Tryz.ntmps127
  go_wp2_with fail
  first | refine wp_region_noPanic ?_ | skip
  refine wp_region_U (n := 14) (S := (fun u => u.cell? ⟨b, 0, none⟩ = some (.int .u8 x.r.a) ∧ u.cell? ⟨b, 1, none⟩ = some (.int .u8 x.r.f) ∧ u.cell? ⟨b, 18, none⟩ = some (.int .u8 x.r.q))) (by kernel_rfl) (by kernel_rfl) HS (fun hHeld => ?_)
  refine wpAnyU_take (i := 0) (v := ?v84) rfl (by kernel_rfl) (by kernel_rfl) (by kernel_rfl) (by kernel_rfl) (fun _ _ _ h => h) (Or.inl ⟨by rfl, ?hy84⟩) (by assumption) ?rest84
  case hy84 => (intro w hSw; (try dsimp only at hSw); go_simp; try with_reducible rfl)
  try simp only [Act.put, List.getElem_toArray, List.getElem_cons_succ, List.getElem_cons_zero, List.setIfInBounds_toArray, List.set_cons_zero, List.set_cons_succ]
  refine wpAnyU_take (i := 1) (v := ?v85) rfl (by kernel_rfl) (by kernel_rfl) (by kernel_rfl) (by kernel_rfl) (fun _ _ _ h => h) (Or.inl ⟨by rfl, ?hy85⟩) (by assumption) ?rest85
  case hy85 => (intro w hSw; (try dsimp only at hSw); go_simp; try with_reducible rfl)
  try simp only [Act.put, List.getElem_toArray, List.getElem_cons_succ, List.getElem_cons_zero, List.setIfInBounds_toArray, List.set_cons_zero, List.set_cons_succ]
  refine wpAnyU_take (i := 2) (v := ?v86) rfl (by kernel_rfl) (by kernel_rfl) (by kernel_rfl) (by kernel_rfl) (fun _ _ _ h => h) (Or.inl ⟨by rfl, ?hy86⟩) (by assumption) ?rest86
  case hy86 => (intro w hSw; (try dsimp only at hSw); go_simp; try with_reducible rfl)
  try simp only [Act.put, List.getElem_toArray, List.getElem_cons_succ, List.getElem_cons_zero, List.setIfInBounds_toArray, List.set_cons_zero, List.set_cons_succ]
  refine wpAnyU_take (i := 3) (v := ?v87) rfl (by kernel_rfl) (by kernel_rfl) (by kernel_rfl) (by kernel_rfl) (fun _ _ _ h => h) (Or.inl ⟨by rfl, ?hy87⟩) (by assumption) ?rest87
  case hy87 => (intro w hSw; (try dsimp only at hSw); go_simp; try with_reducible rfl)
  try simp only [Act.put, List.getElem_toArray, List.getElem_cons_succ, List.getElem_cons_zero, List.setIfInBounds_toArray, List.set_cons_zero, List.set_cons_succ]
  refine wpAnyU_take (i := 4) (v := ?v88) rfl (by kernel_rfl) (by kernel_rfl) (by kernel_rfl) (by kernel_rfl) (fun _ _ _ h => h) (Or.inl ⟨by rfl, ?hy88⟩) (by assumption) ?rest88
  case hy88 => (intro w hSw; (try dsimp only at hSw); go_simp; try with_reducible rfl)
  try simp only [Act.put, List.getElem_toArray, List.getElem_cons_succ, List.getElem_cons_zero, List.setIfInBounds_toArray, List.set_cons_zero, List.set_cons_succ]
  refine wpAnyU_take (i := 5) (v := ?v89) rfl (by kernel_rfl) (by kernel_rfl) (by kernel_rfl) (by kernel_rfl) (fun _ _ _ h => h) (Or.inl ⟨by rfl, ?hy89⟩) (by assumption) ?rest89
  case hy89 => (intro w hSw; (try dsimp only at hSw); go_simp; try with_reducible rfl)
  try simp only [Act.put, List.getElem_toArray, List.getElem_cons_succ, List.getElem_cons_zero, List.setIfInBounds_toArray, List.set_cons_zero, List.set_cons_succ]
  refine wpAnyU_take (i := 6) (v := ?v90) rfl (by kernel_rfl) (by kernel_rfl) (by kernel_rfl) (by kernel_rfl) (fun _ _ _ h => h) (Or.inl ⟨by rfl, ?hy90⟩) (by assumption) ?rest90
  case hy90 => (intro w hSw; (try dsimp only at hSw); go_simp; try with_reducible rfl)
  try simp only [Act.put, List.getElem_toArray, List.getElem_cons_succ, List.getElem_cons_zero, List.setIfInBounds_toArray, List.set_cons_zero, List.set_cons_succ]
  refine wpAnyU_take (i := 7) (v := ?v91) rfl (by kernel_rfl) (by kernel_rfl) (by kernel_rfl) (by kernel_rfl) (fun _ _ _ h => h) (Or.inl ⟨by rfl, ?hy91⟩) (by assumption) ?rest91
  case hy91 => (intro w hSw; (try dsimp only at hSw); go_simp; try with_reducible rfl)
  try simp only [Act.put, List.getElem_toArray, List.getElem_cons_succ, List.getElem_cons_zero, List.setIfInBounds_toArray, List.set_cons_zero, List.set_cons_succ]
  refine wpAnyU_take (i := 8) (v := ?v92) rfl (by kernel_rfl) (by kernel_rfl) (by kernel_rfl) (by kernel_rfl) (fun _ _ _ h => h) (Or.inl ⟨by rfl, ?hy92⟩) (by assumption) ?rest92
  case hy92 => (intro w hSw; (try dsimp only at hSw); go_simp; try with_reducible rfl)
  try simp only [Act.put, List.getElem_toArray, List.getElem_cons_succ, List.getElem_cons_zero, List.setIfInBounds_toArray, List.set_cons_zero, List.set_cons_succ]
  refine wpAnyU_take (i := 9) (v := ?v93) rfl (by kernel_rfl) (by kernel_rfl) (by kernel_rfl) (by kernel_rfl) (fun _ _ _ h => h) (Or.inl ⟨by rfl, ?hy93⟩) (by assumption) ?rest93
  case hy93 => (intro w hSw; (try dsimp only at hSw); go_simp; try with_reducible rfl)
  try simp only [Act.put, List.getElem_toArray, List.getElem_cons_succ, List.getElem_cons_zero, List.setIfInBounds_toArray, List.set_cons_zero, List.set_cons_succ]
  refine wpAnyU_take (i := 10) (v := ?v94) rfl (by kernel_rfl) (by kernel_rfl) (by kernel_rfl) (by kernel_rfl) (fun _ _ _ h => h) (Or.inl ⟨by rfl, ?hy94⟩) (by assumption) ?rest94
  case hy94 => (intro w hSw; (try dsimp only at hSw); go_simp; try with_reducible rfl)
  try simp only [Act.put, List.getElem_toArray, List.getElem_cons_succ, List.getElem_cons_zero, List.setIfInBounds_toArray, List.set_cons_zero, List.set_cons_succ]
  refine wpAnyU_take (i := 11) (v := ?v95) rfl (by kernel_rfl) (by kernel_rfl) (by kernel_rfl) (by kernel_rfl) (fun _ _ _ h => h) (Or.inl ⟨by rfl, ?hy95⟩) (by assumption) ?rest95
  case hy95 => (intro w hSw; (try dsimp only at hSw); go_simp; try with_reducible rfl)
  try simp only [Act.put, List.getElem_toArray, List.getElem_cons_succ, List.getElem_cons_zero, List.setIfInBounds_toArray, List.set_cons_zero, List.set_cons_succ]
  refine wpAnyU_take (i := 12) (v := ?v96) rfl (by kernel_rfl) (by kernel_rfl) (by kernel_rfl) (by kernel_rfl) (fun _ _ _ h => h) (Or.inl ⟨by rfl, ?hy96⟩) (by assumption) ?rest96
  case hy96 => (intro w hSw; (try dsimp only at hSw); go_simp; try with_reducible rfl)
  try simp only [Act.put, List.getElem_toArray, List.getElem_cons_succ, List.getElem_cons_zero, List.setIfInBounds_toArray, List.set_cons_zero, List.set_cons_succ]
  refine wpAnyU_ready (i := 13) (by kernel_rfl) (by kernel_rfl) rfl (fun K hK => ?_)
  go_simp
  refine (HD.out _).mono ?_
  rintro e w' ⟨rfl, hb⟩
  go_wp2_with fail
  refine hK.out _ _ (HC.out _ (H.out.below hb)) (fun hHeld => ?_)
  clear hK K
  try simp only [Act.put, List.getElem_toArray, List.getElem_cons_succ, List.getElem_cons_zero, List.setIfInBounds_toArray, List.set_cons_zero, List.set_cons_succ]
  have H3 := Lib.hid (putF_any q _ (H.out.below hb))
  clear hb
  refine wpAnyU_tail rfl (by kernel_rfl) ?_
  simp only [List.drop_succ_cons, List.drop_zero]
  go_wp2_with fail
  refine H3.out.mono ?_
  rintro e w' ⟨rfl, hm⟩
  go_wp2_with fail
  refine NoPanic.normal ?_
  go_wp2_with fail
  go_end0
  exact ⟨rfl, hm⟩
theorem adjust_any (k : Int) (w : World) (h : Mc w0 w b f base x v y va) (ok : x.Ok) (k0 : 0 ≤ k) (k7 : k ≤ 7) :
    Calls Tryz.prog 127 #[.pointer (some ⟨b, 0, none⟩), .int .i64 k] w fun e w' => e = .returned (.tuple #[]) ∧ Mc w0 w' b f base (adjS x k) v y va := by
  rcases eight_cases k k0 k7 with rfl | rfl | rfl | rfl | rfl | rfl | rfl | rfl
  · exact adjust0 w h ok
  · exact adjust1 w h ok
  · exact adjust2 w h ok
  · exact adjust3 w h ok
  · exact adjust4 w h ok
  · exact adjust5 w h ok
  · exact adjust6 w h ok
  · exact adjust7 w h ok
set_option maxHeartbeats 1600000 in
theorem workB72 (k n : Int) (w : World) (h : Mc w0 w b f base x v y va) (ok : x.Ok) (k0 : 0 ≤ k) (k7 : k ≤ 7) :
    Calls Tryz.prog 83 #[.pointer (some ⟨b, 0, none⟩), .int .i64 72, .int .i64 k, .int .i64 n] w fun e w' => e = .returned (.tuple #[]) ∧ Mc w0 w' b f base (workB x 72 k n) v y va := by
  rw [show workB x 72 k n = adjS x k by unfold workB; simp]
  have H := Lib.hid (adjust_any k w h ok k0 k7)
  clear h
  go_enter Tryz.func83, Tryz.ntmps83
  go_wp2_with fail
  refine H.out.mono ?_
  rintro e w' ⟨rfl, hm⟩
  go_wp2_with fail
  go_end0
  exact ⟨rfl, hm⟩
theorem workB_any (g k n : Int) (w : World) (h : Mc w0 w b f base x v y va) (ok : x.Ok) (k0 : 0 ≤ k) (k7 : k ≤ 7) (hg : g = 0 ∨ g = 40 ∨ g = 56 ∨ g = 64 ∨ g = 72 ∨ g = 120) :
    Calls Tryz.prog 83 #[.pointer (some ⟨b, 0, none⟩), .int .i64 g, .int .i64 k, .int .i64 n] w fun e w' => e = .returned (.tuple #[]) ∧ Mc w0 w' b f base (workB x g k n) v y va := by
  rcases hg with rfl | rfl | rfl | rfl | rfl | rfl
  · exact workB0 k n w h ok
  · exact workB40 k n w h ok
  · exact workB56 k n w h ok
  · exact workB64 k n w h ok
  · exact workB72 k n w h ok k0 k7
  · exact workB120 k n w h ok

end Go.Proofs.YtcfkpeemhleleaaGreatDoor
/- The works of words: their contracts. -/
namespace Go.Proofs.YtcfkpeemhleleaaGreatDoor
open Go.RowKit
set_option maxRecDepth 100000
set_option linter.unusedVariables false
set_option linter.unusedSimpArgs false
variable {w0 : World} {b f base : Nat} {x : Cp} {v : Value} {y : Fl} {va : Value}

/-- The works of words. -/
def workW (x : Cp) (g n : Int) : Cp :=
  if g = 128 then addToS x n 1 else if g = 136 then addToS x n (-1) else if g = 144 then sumS' x (wadd (pairS x 2) (pairS x n) false) (addWF (pairS x 2) (pairS x n) x.r.f)
  else if g = 168 then wzS x (pairS x n) else if g = 176 then wzS x (w16 (x.r.wz + n)) else if g = 184 then wzS x (x.r.a * 256 + x.r.wz % 256) else if g = 192 then reckonS x
  else if g = 200 then { x with r := { x.r with sp := pairS x 2 } } else if g = 208 then putPairS x 2 x.r.wz else if g = 216 then pcS x x.r.wz else if g = 224 then pcS x (pairS x 2)
  else if g = 232 then wzS (pcS x (plusW x.r.pc x.dist)) (plusW x.r.pc x.dist) else if g = 240 then wzS (pcS x n) n else x
set_option maxHeartbeats 1600000 in
theorem sumC_any (p q : Int) (w : World) (h : Mc w0 w b f base x v y va) (p16 : B16 p) :
    Calls Tryz.prog 135 #[.pointer (some ⟨b, 0, none⟩), .int .u16 p, .int .u8 q] w fun e w' => e = .returned (.tuple #[]) ∧ Mc w0 w' b f base (sumS' x p q) v y va := by
  have HS : w.cell? ⟨b, 41, none⟩ = some (.int .i64 x.ix) := h.cell 41 _ rfl
  have HB := Lib.hid (putPairM 2 p w.drew h.drew p16)
  clear h
  go_enter Tryz.func135, Tryz.ntmps135
  go_wp2_with fail
  first | refine wp_region_noPanic ?_ | skip
  refine wp_region_U (n := 8) (S := (fun u => u.cell? ⟨b, 41, none⟩ = some (.int .i64 x.ix))) (by kernel_rfl) (by kernel_rfl) HS (fun hHeld => ?_)
  refine wpAnyU_take (i := 0) (v := ?v1) rfl (by kernel_rfl) (by kernel_rfl) (by kernel_rfl) (by kernel_rfl) (fun _ _ _ h => h) (Or.inl ⟨by rfl, ?hy1⟩) (by assumption) ?rest1
  case hy1 => (intro w hSw; (try dsimp only at hSw); go_simp; try with_reducible rfl)
  try simp only [Act.put, List.getElem_toArray, List.getElem_cons_succ, List.getElem_cons_zero, List.setIfInBounds_toArray, List.set_cons_zero, List.set_cons_succ]
  refine wpAnyU_take (i := 1) (v := ?v2) rfl (by kernel_rfl) (by kernel_rfl) (by kernel_rfl) (by kernel_rfl) (fun _ _ _ h => h) (Or.inl ⟨by rfl, ?hy2⟩) (by assumption) ?rest2
  case hy2 => (intro w hSw; (try dsimp only at hSw); go_simp; try with_reducible rfl)
  try simp only [Act.put, List.getElem_toArray, List.getElem_cons_succ, List.getElem_cons_zero, List.setIfInBounds_toArray, List.set_cons_zero, List.set_cons_succ]
  refine wpAnyU_take (i := 2) (v := ?v3) rfl (by kernel_rfl) (by kernel_rfl) (by kernel_rfl) (by kernel_rfl) (fun _ _ _ h => h) (Or.inl ⟨by rfl, ?hy3⟩) (by assumption) ?rest3
  case hy3 => (intro w hSw; (try dsimp only at hSw); go_simp; try with_reducible rfl)
  try simp only [Act.put, List.getElem_toArray, List.getElem_cons_succ, List.getElem_cons_zero, List.setIfInBounds_toArray, List.set_cons_zero, List.set_cons_succ]
  refine wpAnyU_take (i := 3) (v := ?v4) rfl (by kernel_rfl) (by kernel_rfl) (by kernel_rfl) (by kernel_rfl) (fun _ _ _ h => h) (Or.inl ⟨by rfl, ?hy4⟩) (by assumption) ?rest4
  case hy4 => (intro w hSw; (try dsimp only at hSw); go_simp; try with_reducible rfl)
  try simp only [Act.put, List.getElem_toArray, List.getElem_cons_succ, List.getElem_cons_zero, List.setIfInBounds_toArray, List.set_cons_zero, List.set_cons_succ]
  refine wpAnyU_take (i := 4) (v := ?v5) rfl (by kernel_rfl) (by kernel_rfl) (by kernel_rfl) (by kernel_rfl) (fun _ _ _ h => h) (Or.inl ⟨by rfl, ?hy5⟩) (by assumption) ?rest5
  case hy5 => (intro w hSw; (try dsimp only at hSw); go_simp; try with_reducible rfl)
  try simp only [Act.put, List.getElem_toArray, List.getElem_cons_succ, List.getElem_cons_zero, List.setIfInBounds_toArray, List.set_cons_zero, List.set_cons_succ]
  refine wpAnyU_take (i := 5) (v := ?v6) rfl (by kernel_rfl) (by kernel_rfl) (by kernel_rfl) (by kernel_rfl) (fun _ _ _ h => h) (Or.inl ⟨by rfl, ?hy6⟩) (by assumption) ?rest6
  case hy6 => (intro w hSw; (try dsimp only at hSw); go_simp; try with_reducible rfl)
  try simp only [Act.put, List.getElem_toArray, List.getElem_cons_succ, List.getElem_cons_zero, List.setIfInBounds_toArray, List.set_cons_zero, List.set_cons_succ]
  refine wpAnyU_take (i := 6) (v := ?v7) rfl (by kernel_rfl) (by kernel_rfl) (by kernel_rfl) (by kernel_rfl) (fun _ _ _ h => h) (Or.inl ⟨by rfl, ?hy7⟩) (by assumption) ?rest7
  case hy7 => (intro w hSw; (try dsimp only at hSw); go_simp; try with_reducible rfl)
  try simp only [Act.put, List.getElem_toArray, List.getElem_cons_succ, List.getElem_cons_zero, List.setIfInBounds_toArray, List.set_cons_zero, List.set_cons_succ]
  refine wpAnyU_take (i := 7) (v := ?v8) rfl (by kernel_rfl) (by kernel_rfl) (by kernel_rfl) (by kernel_rfl) (fun _ _ _ h => h) (Or.inl ⟨by rfl, ?hy8⟩) (by assumption) ?rest8
  case hy8 => (intro w hSw; (try dsimp only at hSw); go_simp; try with_reducible rfl)
  try simp only [Act.put, List.getElem_toArray, List.getElem_cons_succ, List.getElem_cons_zero, List.setIfInBounds_toArray, List.set_cons_zero, List.set_cons_succ]
  refine wpAnyU_tail rfl (by kernel_rfl) ?_
  simp only [List.drop_succ_cons, List.drop_zero]
  go_wp2_with fail
  refine HB.out.mono ?_
  rintro e w' ⟨rfl, hm⟩
  go_wp2_with fail
  refine NoPanic.normal ?_
  have HF := Lib.hid (putF_any q _ hm)
  clear hm
  go_wp2_with fail
  refine HF.out.mono ?_
  rintro e w' ⟨rfl, hm⟩
  go_wp2_with fail
  go_end0
  exact ⟨rfl, hm⟩
set_option maxHeartbeats 1600000 in
theorem reckon_any (w : World) (h : Mc w0 w b f base x v y va) (ok : x.Ok) :
    Calls Tryz.prog 46 #[.pointer (some ⟨b, 0, none⟩)] w fun e w' => e = .returned (.tuple #[]) ∧ Mc w0 w' b f base (reckonS x) v y va := by
  obtain ⟨p, hp⟩ : ∃ p, pairS x 2 = p := ⟨_, rfl⟩
  obtain ⟨q, hq⟩ : ∃ q, plusW p x.dist = q := ⟨_, rfl⟩
  rw [show reckonS x = wzS x q by unfold reckonS; rw [hp, hq]]
  have H := Lib.hid h.drew
  have HP := Lib.hid (pairC_any 2 w.drew h.drew ok)
  rw [hp] at HP
  have HL := Lib.hid (fun u => plus_any p x.dist u ok.dist.1 ok.dist.2)
  rw [hq] at HL
  have HC := Lib.hid (fun (u : World) (hu : Mc w0 u b f base x v y va) => show u.cell? ⟨b, 43, none⟩ = some (.int .u8 x.dist) from hu.cell 43 _ rfl)
  have HS := HC.out w h
  clear h hp hq
  go_enter Tryz.func46, Tryz.ntmps46
  go_wp2_with fail
  first | refine wp_region_noPanic ?_ | skip
  refine wp_region_U (n := 11) (S := (fun u => u.cell? ⟨b, 43, none⟩ = some (.int .u8 x.dist))) (by kernel_rfl) (by kernel_rfl) HS (fun hHeld => ?_)
  refine wpAnyU_take (i := 0) (v := ?v9) rfl (by kernel_rfl) (by kernel_rfl) (by kernel_rfl) (by kernel_rfl) (fun _ _ _ h => h) (Or.inl ⟨by rfl, ?hy9⟩) (by assumption) ?rest9
  case hy9 => (intro w hSw; (try dsimp only at hSw); go_simp; try with_reducible rfl)
  try simp only [Act.put, List.getElem_toArray, List.getElem_cons_succ, List.getElem_cons_zero, List.setIfInBounds_toArray, List.set_cons_zero, List.set_cons_succ]
  refine wpAnyU_take (i := 1) (v := ?v10) rfl (by kernel_rfl) (by kernel_rfl) (by kernel_rfl) (by kernel_rfl) (fun _ _ _ h => h) (Or.inl ⟨by rfl, ?hy10⟩) (by assumption) ?rest10
  case hy10 => (intro w hSw; (try dsimp only at hSw); go_simp; try with_reducible rfl)
  try simp only [Act.put, List.getElem_toArray, List.getElem_cons_succ, List.getElem_cons_zero, List.setIfInBounds_toArray, List.set_cons_zero, List.set_cons_succ]
  refine wpAnyU_take (i := 3) (v := ?v11) rfl (by kernel_rfl) (by kernel_rfl) (by kernel_rfl) (by kernel_rfl) (fun _ _ _ h => h) (Or.inl ⟨by rfl, ?hy11⟩) (by assumption) ?rest11
  case hy11 => (intro w hSw; (try dsimp only at hSw); go_simp; try with_reducible rfl)
  try simp only [Act.put, List.getElem_toArray, List.getElem_cons_succ, List.getElem_cons_zero, List.setIfInBounds_toArray, List.set_cons_zero, List.set_cons_succ]
  refine wpAnyU_take (i := 4) (v := ?v12) rfl (by kernel_rfl) (by kernel_rfl) (by kernel_rfl) (by kernel_rfl) (fun _ _ _ h => h) (Or.inl ⟨by rfl, ?hy12⟩) (by assumption) ?rest12
  case hy12 => (intro w hSw; (try dsimp only at hSw); go_simp; try with_reducible rfl)
  try simp only [Act.put, List.getElem_toArray, List.getElem_cons_succ, List.getElem_cons_zero, List.setIfInBounds_toArray, List.set_cons_zero, List.set_cons_succ]
  refine wpAnyU_take (i := 5) (v := ?v13) rfl (by kernel_rfl) (by kernel_rfl) (by kernel_rfl) (by kernel_rfl) (fun _ _ _ h => h) (Or.inl ⟨by rfl, ?hy13⟩) (by assumption) ?rest13
  case hy13 => (intro w hSw; (try dsimp only at hSw); go_simp; try with_reducible rfl)
  try simp only [Act.put, List.getElem_toArray, List.getElem_cons_succ, List.getElem_cons_zero, List.setIfInBounds_toArray, List.set_cons_zero, List.set_cons_succ]
  refine wpAnyU_take (i := 6) (v := ?v14) rfl (by kernel_rfl) (by kernel_rfl) (by kernel_rfl) (by kernel_rfl) (fun _ _ _ h => h) (Or.inl ⟨by rfl, ?hy14⟩) (by assumption) ?rest14
  case hy14 => (intro w hSw; (try dsimp only at hSw); go_simp; try with_reducible rfl)
  try simp only [Act.put, List.getElem_toArray, List.getElem_cons_succ, List.getElem_cons_zero, List.setIfInBounds_toArray, List.set_cons_zero, List.set_cons_succ]
  refine wpAnyU_ready (i := 2) (by kernel_rfl) (by kernel_rfl) rfl (fun K hK => ?_)
  go_simp
  refine (HP.out).mono ?_
  rintro e w' ⟨rfl, hm⟩
  go_wp2_with fail
  refine hK.out _ _ (HC.out _ (H.out.drews hm)) (fun hHeld => ?_)
  clear hK K
  try simp only [Act.put, List.getElem_toArray, List.getElem_cons_succ, List.getElem_cons_zero, List.setIfInBounds_toArray, List.set_cons_zero, List.set_cons_succ]
  have H2 := Lib.hid (H.out.drews hm)
  clear hm
  refine wpAnyU_ready (i := 7) (by kernel_rfl) (by kernel_rfl) rfl (fun K hK => ?_)
  go_simp
  refine (HL.out _).mono ?_
  rintro e w' ⟨rfl, rfl⟩
  go_wp2_with fail
  refine hK.out _ _ (by assumption) (fun hHeld => ?_)
  clear hK K
  try simp only [Act.put, List.getElem_toArray, List.getElem_cons_succ, List.getElem_cons_zero, List.setIfInBounds_toArray, List.set_cons_zero, List.set_cons_succ]
  refine wpAnyU_take (i := 8) (v := ?v15) rfl (by kernel_rfl) (by kernel_rfl) (by kernel_rfl) (by kernel_rfl) (fun _ _ _ h => h) (Or.inl ⟨by rfl, ?hy15⟩) (by assumption) ?rest15
  case hy15 => (intro w hSw; (try dsimp only at hSw); go_simp; try with_reducible rfl)
  try simp only [Act.put, List.getElem_toArray, List.getElem_cons_succ, List.getElem_cons_zero, List.setIfInBounds_toArray, List.set_cons_zero, List.set_cons_succ]
  refine wpAnyU_take (i := 9) (v := ?v16) rfl (by kernel_rfl) (by kernel_rfl) (by kernel_rfl) (by kernel_rfl) (fun _ _ _ h => h) (Or.inl ⟨by rfl, ?hy16⟩) (by assumption) ?rest16
  case hy16 => (intro w hSw; (try dsimp only at hSw); go_simp; try with_reducible rfl)
  try simp only [Act.put, List.getElem_toArray, List.getElem_cons_succ, List.getElem_cons_zero, List.setIfInBounds_toArray, List.set_cons_zero, List.set_cons_succ]
  refine wpAnyU_take (i := 10) (v := ?v17) rfl (by kernel_rfl) (by kernel_rfl) (by kernel_rfl) (by kernel_rfl) (fun _ _ _ h => h) (Or.inl ⟨by rfl, ?hy17⟩) (by assumption) ?rest17
  case hy17 => (intro w hSw; (try dsimp only at hSw); go_simp; try with_reducible rfl)
  try simp only [Act.put, List.getElem_toArray, List.getElem_cons_succ, List.getElem_cons_zero, List.setIfInBounds_toArray, List.set_cons_zero, List.set_cons_succ]
  refine wpAnyU_tail rfl (by kernel_rfl) ?_
  simp only [List.drop_succ_cons, List.drop_zero]
  have c := H2.out.cell 23 _ rfl
  have fz := H2.out.free 23
  have H3 := Lib.hid (H2.out.set 23 (.int .u16 q) (wzS x q) (by decide) rfl rfl)
  go_wp2_with fail
  refine NoPanic.normal ?_
  go_wp2_with fail
  go_end0
  exact ⟨rfl, H3.out⟩
set_option maxHeartbeats 1600000 in
theorem workW128 (n : Int) (w : World) (h : Mc w0 w b f base x v y va) (ok : x.Ok) :
    Calls Tryz.prog 84 #[.pointer (some ⟨b, 0, none⟩), .int .i64 128, .int .i64 n] w fun e w' => e = .returned (.tuple #[]) ∧ Mc w0 w' b f base (workW x 128 n) v y va := by
  rw [show workW x 128 n = addToS x n 1 by unfold workW; simp]
  have H := Lib.hid (addTo_any n 1 w h ok (by decide))
  clear h
  go_enter Tryz.func84, Tryz.ntmps84
  go_wp2_with fail
  refine H.out.mono ?_
  rintro e w' ⟨rfl, hm⟩
  go_wp2_with fail
  go_end0
  exact ⟨rfl, hm⟩
set_option maxHeartbeats 1600000 in
theorem workW136 (n : Int) (w : World) (h : Mc w0 w b f base x v y va) (ok : x.Ok) :
    Calls Tryz.prog 84 #[.pointer (some ⟨b, 0, none⟩), .int .i64 136, .int .i64 n] w fun e w' => e = .returned (.tuple #[]) ∧ Mc w0 w' b f base (workW x 136 n) v y va := by
  rw [show workW x 136 n = addToS x n (-1) by unfold workW; simp]
  have H := Lib.hid (addTo_any n (-1) w h ok (by decide))
  clear h
  go_enter Tryz.func84, Tryz.ntmps84
  go_wp2_with fail
  refine H.out.mono ?_
  rintro e w' ⟨rfl, hm⟩
  go_wp2_with fail
  go_end0
  exact ⟨rfl, hm⟩
set_option maxHeartbeats 1600000 in
theorem workW144 (n : Int) (w : World) (h : Mc w0 w b f base x v y va) (ok : x.Ok) :
    Calls Tryz.prog 84 #[.pointer (some ⟨b, 0, none⟩), .int .i64 144, .int .i64 n] w fun e w' => e = .returned (.tuple #[]) ∧ Mc w0 w' b f base (workW x 144 n) v y va := by
  obtain ⟨p, hp⟩ : ∃ p, pairS x 2 = p := ⟨_, rfl⟩
  obtain ⟨q, hq⟩ : ∃ q, pairS x n = q := ⟨_, rfl⟩
  have p16 := pairS_bd ok 2
  have q16 := pairS_bd ok n
  rw [hp] at p16
  rw [hq] at q16
  rw [show workW x 144 n = sumS' x (wadd p q false) (addWF p q x.r.f) by unfold workW; simp [hp, hq]]
  have H := Lib.hid h.drew
  have HP := Lib.hid (pairC_any 2 w.drew h.drew ok)
  rw [hp] at HP
  have HQ := Lib.hid (fun u (hu : Mc w0 u b f base x v y va) => pairC_any n u hu ok)
  rw [hq] at HQ
  have HA := Lib.hid (fun u => wideAdd_any p q x.r.f u p16.1 p16.2 q16.1 q16.2 ok.r.f.1 ok.r.f.2)
  have r16 : B16 (wadd p q false) := wadd_bd _ _ _
  generalize wadd p q false = r at *
  generalize addWF p q x.r.f = s at *
  have HC := Lib.hid (fun (u : World) (hu : Mc w0 u b f base x v y va) => show u.cell? ⟨b, 1, none⟩ = some (.int .u8 x.r.f) from hu.cell 1 _ rfl)
  have HS := HC.out w h
  have HM := Lib.hid (fun u (hu : Mc w0 u b f base x v y va) => sumC_any r s u hu r16)
  clear h hp hq p16 q16 r16
  go_enter Tryz.func84, Tryz.ntmps84
  go_wp2_with fail
  first | refine wp_region_noPanic ?_ | skip
  refine wp_region_U (n := 13) (S := (fun u => u.cell? ⟨b, 1, none⟩ = some (.int .u8 x.r.f))) (by kernel_rfl) (by kernel_rfl) HS (fun hHeld => ?_)
  refine wpAnyU_take (i := 0) (v := ?v18) rfl (by kernel_rfl) (by kernel_rfl) (by kernel_rfl) (by kernel_rfl) (fun _ _ _ h => h) (Or.inl ⟨by rfl, ?hy18⟩) (by assumption) ?rest18
  case hy18 => (intro w hSw; (try dsimp only at hSw); go_simp; try with_reducible rfl)
  try simp only [Act.put, List.getElem_toArray, List.getElem_cons_succ, List.getElem_cons_zero, List.setIfInBounds_toArray, List.set_cons_zero, List.set_cons_succ]
  refine wpAnyU_take (i := 1) (v := ?v19) rfl (by kernel_rfl) (by kernel_rfl) (by kernel_rfl) (by kernel_rfl) (fun _ _ _ h => h) (Or.inl ⟨by rfl, ?hy19⟩) (by assumption) ?rest19
  case hy19 => (intro w hSw; (try dsimp only at hSw); go_simp; try with_reducible rfl)
  try simp only [Act.put, List.getElem_toArray, List.getElem_cons_succ, List.getElem_cons_zero, List.setIfInBounds_toArray, List.set_cons_zero, List.set_cons_succ]
  refine wpAnyU_take (i := 3) (v := ?v20) rfl (by kernel_rfl) (by kernel_rfl) (by kernel_rfl) (by kernel_rfl) (fun _ _ _ h => h) (Or.inl ⟨by rfl, ?hy20⟩) (by assumption) ?rest20
  case hy20 => (intro w hSw; (try dsimp only at hSw); go_simp; try with_reducible rfl)
  try simp only [Act.put, List.getElem_toArray, List.getElem_cons_succ, List.getElem_cons_zero, List.setIfInBounds_toArray, List.set_cons_zero, List.set_cons_succ]
  refine wpAnyU_take (i := 4) (v := ?v21) rfl (by kernel_rfl) (by kernel_rfl) (by kernel_rfl) (by kernel_rfl) (fun _ _ _ h => h) (Or.inl ⟨by rfl, ?hy21⟩) (by assumption) ?rest21
  case hy21 => (intro w hSw; (try dsimp only at hSw); go_simp; try with_reducible rfl)
  try simp only [Act.put, List.getElem_toArray, List.getElem_cons_succ, List.getElem_cons_zero, List.setIfInBounds_toArray, List.set_cons_zero, List.set_cons_succ]
  refine wpAnyU_take (i := 6) (v := ?v22) rfl (by kernel_rfl) (by kernel_rfl) (by kernel_rfl) (by kernel_rfl) (fun _ _ _ h => h) (Or.inl ⟨by rfl, ?hy22⟩) (by assumption) ?rest22
  case hy22 => (intro w hSw; (try dsimp only at hSw); go_simp; try with_reducible rfl)
  try simp only [Act.put, List.getElem_toArray, List.getElem_cons_succ, List.getElem_cons_zero, List.setIfInBounds_toArray, List.set_cons_zero, List.set_cons_succ]
  refine wpAnyU_take (i := 7) (v := ?v23) rfl (by kernel_rfl) (by kernel_rfl) (by kernel_rfl) (by kernel_rfl) (fun _ _ _ h => h) (Or.inl ⟨by rfl, ?hy23⟩) (by assumption) ?rest23
  case hy23 => (intro w hSw; (try dsimp only at hSw); go_simp; try with_reducible rfl)
  try simp only [Act.put, List.getElem_toArray, List.getElem_cons_succ, List.getElem_cons_zero, List.setIfInBounds_toArray, List.set_cons_zero, List.set_cons_succ]
  refine wpAnyU_take (i := 8) (v := ?v24) rfl (by kernel_rfl) (by kernel_rfl) (by kernel_rfl) (by kernel_rfl) (fun _ _ _ h => h) (Or.inl ⟨by rfl, ?hy24⟩) (by assumption) ?rest24
  case hy24 => (intro w hSw; (try dsimp only at hSw); go_simp; try with_reducible rfl)
  try simp only [Act.put, List.getElem_toArray, List.getElem_cons_succ, List.getElem_cons_zero, List.setIfInBounds_toArray, List.set_cons_zero, List.set_cons_succ]
  refine wpAnyU_take (i := 9) (v := ?v25) rfl (by kernel_rfl) (by kernel_rfl) (by kernel_rfl) (by kernel_rfl) (fun _ _ _ h => h) (Or.inl ⟨by rfl, ?hy25⟩) (by assumption) ?rest25
  case hy25 => (intro w hSw; (try dsimp only at hSw); go_simp; try with_reducible rfl)
  try simp only [Act.put, List.getElem_toArray, List.getElem_cons_succ, List.getElem_cons_zero, List.setIfInBounds_toArray, List.set_cons_zero, List.set_cons_succ]
  refine wpAnyU_ready (i := 2) (by kernel_rfl) (by kernel_rfl) rfl (fun K hK => ?_)
  go_simp
  refine (HP.out).mono ?_
  rintro e w' ⟨rfl, hm⟩
  go_wp2_with fail
  refine hK.out _ _ (HC.out _ (H.out.drews hm)) (fun hHeld => ?_)
  clear hK K
  try simp only [Act.put, List.getElem_toArray, List.getElem_cons_succ, List.getElem_cons_zero, List.setIfInBounds_toArray, List.set_cons_zero, List.set_cons_succ]
  have H2 := Lib.hid (H.out.drews hm)
  have HQ2 := Lib.hid (HQ.out _ H2.out)
  clear hm
  refine wpAnyU_ready (i := 5) (by kernel_rfl) (by kernel_rfl) rfl (fun K hK => ?_)
  go_simp
  refine (HQ2.out).mono ?_
  rintro e w' ⟨rfl, hm⟩
  go_wp2_with fail
  refine hK.out _ _ (HC.out _ (H2.out.drews hm)) (fun hHeld => ?_)
  clear hK K
  try simp only [Act.put, List.getElem_toArray, List.getElem_cons_succ, List.getElem_cons_zero, List.setIfInBounds_toArray, List.set_cons_zero, List.set_cons_succ]
  have H3 := Lib.hid (H2.out.drews hm)
  clear hm
  refine wpAnyU_ready (i := 10) (by kernel_rfl) (by kernel_rfl) rfl (fun K hK => ?_)
  go_simp
  refine (HA.out _).mono ?_
  rintro e w' ⟨rfl, hb⟩
  go_wp2_with fail
  refine hK.out _ _ (HC.out _ (H3.out.below hb)) (fun hHeld => ?_)
  clear hK K
  try simp only [Act.put, List.getElem_toArray, List.getElem_cons_succ, List.getElem_cons_zero, List.setIfInBounds_toArray, List.set_cons_zero, List.set_cons_succ]
  have HM2 := Lib.hid (HM.out _ (H3.out.below hb))
  clear hb
  refine wpAnyU_take (i := 11) (v := ?v26) rfl (by kernel_rfl) (by kernel_rfl) (by kernel_rfl) (by kernel_rfl) (fun _ _ _ h => h) (Or.inl ⟨by rfl, ?hy26⟩) (by assumption) ?rest26
  case hy26 => (intro w hSw; (try dsimp only at hSw); go_simp; try with_reducible rfl)
  try simp only [Act.put, List.getElem_toArray, List.getElem_cons_succ, List.getElem_cons_zero, List.setIfInBounds_toArray, List.set_cons_zero, List.set_cons_succ]
  refine wpAnyU_take (i := 12) (v := ?v27) rfl (by kernel_rfl) (by kernel_rfl) (by kernel_rfl) (by kernel_rfl) (fun _ _ _ h => h) (Or.inl ⟨by rfl, ?hy27⟩) (by assumption) ?rest27
  case hy27 => (intro w hSw; (try dsimp only at hSw); go_simp; try with_reducible rfl)
  try simp only [Act.put, List.getElem_toArray, List.getElem_cons_succ, List.getElem_cons_zero, List.setIfInBounds_toArray, List.set_cons_zero, List.set_cons_succ]
  refine wpAnyU_tail rfl (by kernel_rfl) ?_
  simp only [List.drop_succ_cons, List.drop_zero]
  go_wp2_with fail
  refine HM2.out.mono ?_
  rintro e w' ⟨rfl, hm⟩
  go_wp2_with fail
  refine NoPanic.normal ?_
  go_wp2_with fail
  go_end0
  exact ⟨rfl, hm⟩
set_option maxHeartbeats 1600000 in
theorem workW168 (n : Int) (w : World) (h : Mc w0 w b f base x v y va) (ok : x.Ok) :
    Calls Tryz.prog 84 #[.pointer (some ⟨b, 0, none⟩), .int .i64 168, .int .i64 n] w fun e w' => e = .returned (.tuple #[]) ∧ Mc w0 w' b f base (workW x 168 n) v y va := by
  obtain ⟨q, hq⟩ : ∃ q, pairS x n = q := ⟨_, rfl⟩
  rw [show workW x 168 n = wzS x q by unfold workW; simp [hq]]
  have H := Lib.hid h
  have HP := Lib.hid (pairC_any n w h ok)
  rw [hq] at HP
  clear h hq
  go_enter Tryz.func84, Tryz.ntmps84
  go_wp2_with fail
  refine HP.out.mono ?_
  rintro e w' ⟨rfl, hm⟩
  have H2 := Lib.hid (H.out.drews hm)
  have c := H2.out.cell 23 _ rfl
  have fz := H2.out.free 23
  have H3 := Lib.hid (H2.out.set 23 (.int .u16 q) (wzS x q) (by decide) rfl rfl)
  clear hm
  go_wp2_with fail
  go_end0
  exact ⟨rfl, H3.out⟩
set_option maxHeartbeats 1600000 in
theorem workW200 (n : Int) (w : World) (h : Mc w0 w b f base x v y va) (ok : x.Ok) :
    Calls Tryz.prog 84 #[.pointer (some ⟨b, 0, none⟩), .int .i64 200, .int .i64 n] w fun e w' => e = .returned (.tuple #[]) ∧ Mc w0 w' b f base (workW x 200 n) v y va := by
  obtain ⟨q, hq⟩ : ∃ q, pairS x 2 = q := ⟨_, rfl⟩
  rw [show workW x 200 n = { x with r := { x.r with sp := q } } by unfold workW; simp [hq]]
  have H := Lib.hid h
  have HP := Lib.hid (pairC_any 2 w h ok)
  rw [hq] at HP
  clear h hq
  go_enter Tryz.func84, Tryz.ntmps84
  go_wp2_with fail
  refine HP.out.mono ?_
  rintro e w' ⟨rfl, hm⟩
  have H2 := Lib.hid (H.out.drews hm)
  have c := H2.out.cell 21 _ rfl
  have fz := H2.out.free 21
  have H3 := Lib.hid (H2.out.set 21 (.int .u16 q) ({ x with r := { x.r with sp := q } }) (by decide) rfl rfl)
  clear hm
  go_wp2_with fail
  go_end0
  exact ⟨rfl, H3.out⟩
set_option maxHeartbeats 1600000 in
theorem workW224 (n : Int) (w : World) (h : Mc w0 w b f base x v y va) (ok : x.Ok) :
    Calls Tryz.prog 84 #[.pointer (some ⟨b, 0, none⟩), .int .i64 224, .int .i64 n] w fun e w' => e = .returned (.tuple #[]) ∧ Mc w0 w' b f base (workW x 224 n) v y va := by
  obtain ⟨q, hq⟩ : ∃ q, pairS x 2 = q := ⟨_, rfl⟩
  rw [show workW x 224 n = pcS x q by unfold workW; simp [hq]]
  have H := Lib.hid h
  have HP := Lib.hid (pairC_any 2 w h ok)
  rw [hq] at HP
  clear h hq
  go_enter Tryz.func84, Tryz.ntmps84
  go_wp2_with fail
  refine HP.out.mono ?_
  rintro e w' ⟨rfl, hm⟩
  have H2 := Lib.hid (H.out.drews hm)
  have c := H2.out.cell 22 _ rfl
  have fz := H2.out.free 22
  have H3 := Lib.hid (H2.out.set 22 (.int .u16 q) (pcS x q) (by decide) rfl rfl)
  clear hm
  go_wp2_with fail
  go_end0
  exact ⟨rfl, H3.out⟩
set_option maxHeartbeats 1600000 in
theorem workW176 (n : Int) (w : World) (h : Mc w0 w b f base x v y va) (ok : x.Ok) :
    Calls Tryz.prog 84 #[.pointer (some ⟨b, 0, none⟩), .int .i64 176, .int .i64 n] w fun e w' => e = .returned (.tuple #[]) ∧ Mc w0 w' b f base (workW x 176 n) v y va := by
  rw [show workW x 176 n = wzS x (w16 (x.r.wz + n)) by unfold workW; simp]
  have e1 : IntKind.u16.wrap (x.r.wz + IntKind.u16.wrap n) = w16 (x.r.wz + n) := by rw [wrap16, wrap16]; unfold w16; omega
  have c := h.cell 23 _ rfl
  have fz := h.free 23
  have H := Lib.hid (h.set 23 (.int .u16 (w16 (x.r.wz + n))) (wzS x (w16 (x.r.wz + n))) (by decide) rfl rfl)
  generalize w16 (x.r.wz + n) = q at *
  clear h
  go_enter Tryz.func84, Tryz.ntmps84
  go_wp2_with fail
  go_end0
  exact ⟨rfl, H.out⟩
set_option maxHeartbeats 1600000 in
theorem workW184 (n : Int) (w : World) (h : Mc w0 w b f base x v y va) (ok : x.Ok) :
    Calls Tryz.prog 84 #[.pointer (some ⟨b, 0, none⟩), .int .i64 184, .int .i64 n] w fun e w' => e = .returned (.tuple #[]) ∧ Mc w0 w' b f base (workW x 184 n) v y va := by
  rw [show workW x 184 n = wzS x (x.r.a * 256 + x.r.wz % 256) by unfold workW; simp]
  have l0 : 0 ≤ x.r.wz % 256 := by omega
  have l1 : x.r.wz % 256 ≤ 255 := by omega
  have HW := Lib.hid (fun u => word_any x.r.a (x.r.wz % 256) u ok.r.a.1 ok.r.a.2 l0 l1)
  have HL := Lib.hid (fun u => lo_any x.r.wz u)
  have H2 := Lib.hid h.drew
  have HS : w.cell? ⟨b, 0, none⟩ = some (.int .u8 x.r.a) ∧ w.cell? ⟨b, 23, none⟩ = some (.int .u16 x.r.wz) := ⟨h.cell 0 _ rfl, h.cell 23 _ rfl⟩
  generalize x.r.a * 256 + x.r.wz % 256 = q at *
  generalize x.r.wz % 256 = s at *
  clear h l0 l1
  go_enter Tryz.func84, Tryz.ntmps84
  go_wp2_with fail
  first | refine wp_region_noPanic ?_ | skip
  refine wp_region_U (n := 13) (S := (fun u => u.cell? ⟨b, 0, none⟩ = some (.int .u8 x.r.a) ∧ u.cell? ⟨b, 23, none⟩ = some (.int .u16 x.r.wz))) (by kernel_rfl) (by kernel_rfl) HS (fun hHeld => ?_)
  refine wpAnyU_take (i := 0) (v := ?v28) rfl (by kernel_rfl) (by kernel_rfl) (by kernel_rfl) (by kernel_rfl) (fun _ _ _ h => h) (Or.inl ⟨by rfl, ?hy28⟩) (by assumption) ?rest28
  case hy28 => (intro w hSw; (try dsimp only at hSw); go_simp; try with_reducible rfl)
  try simp only [Act.put, List.getElem_toArray, List.getElem_cons_succ, List.getElem_cons_zero, List.setIfInBounds_toArray, List.set_cons_zero, List.set_cons_succ]
  refine wpAnyU_take (i := 1) (v := ?v29) rfl (by kernel_rfl) (by kernel_rfl) (by kernel_rfl) (by kernel_rfl) (fun _ _ _ h => h) (Or.inl ⟨by rfl, ?hy29⟩) (by assumption) ?rest29
  case hy29 => (intro w hSw; (try dsimp only at hSw); go_simp; try with_reducible rfl)
  try simp only [Act.put, List.getElem_toArray, List.getElem_cons_succ, List.getElem_cons_zero, List.setIfInBounds_toArray, List.set_cons_zero, List.set_cons_succ]
  refine wpAnyU_take (i := 2) (v := ?v30) rfl (by kernel_rfl) (by kernel_rfl) (by kernel_rfl) (by kernel_rfl) (fun _ _ _ h => h) (Or.inl ⟨by rfl, ?hy30⟩) (by assumption) ?rest30
  case hy30 => (intro w hSw; (try dsimp only at hSw); go_simp; try with_reducible rfl)
  try simp only [Act.put, List.getElem_toArray, List.getElem_cons_succ, List.getElem_cons_zero, List.setIfInBounds_toArray, List.set_cons_zero, List.set_cons_succ]
  refine wpAnyU_take (i := 3) (v := ?v31) rfl (by kernel_rfl) (by kernel_rfl) (by kernel_rfl) (by kernel_rfl) (fun _ _ _ h => h) (Or.inl ⟨by rfl, ?hy31⟩) (by assumption) ?rest31
  case hy31 => (intro w hSw; (try dsimp only at hSw); go_simp; try with_reducible rfl)
  try simp only [Act.put, List.getElem_toArray, List.getElem_cons_succ, List.getElem_cons_zero, List.setIfInBounds_toArray, List.set_cons_zero, List.set_cons_succ]
  refine wpAnyU_take (i := 4) (v := ?v32) rfl (by kernel_rfl) (by kernel_rfl) (by kernel_rfl) (by kernel_rfl) (fun _ _ _ h => h) (Or.inl ⟨by rfl, ?hy32⟩) (by assumption) ?rest32
  case hy32 => (intro w hSw; (try dsimp only at hSw); go_simp; try with_reducible rfl)
  try simp only [Act.put, List.getElem_toArray, List.getElem_cons_succ, List.getElem_cons_zero, List.setIfInBounds_toArray, List.set_cons_zero, List.set_cons_succ]
  refine wpAnyU_take (i := 5) (v := ?v33) rfl (by kernel_rfl) (by kernel_rfl) (by kernel_rfl) (by kernel_rfl) (fun _ _ _ h => h) (Or.inl ⟨by rfl, ?hy33⟩) (by assumption) ?rest33
  case hy33 => (intro w hSw; (try dsimp only at hSw); go_simp; try with_reducible rfl)
  try simp only [Act.put, List.getElem_toArray, List.getElem_cons_succ, List.getElem_cons_zero, List.setIfInBounds_toArray, List.set_cons_zero, List.set_cons_succ]
  refine wpAnyU_take (i := 6) (v := ?v34) rfl (by kernel_rfl) (by kernel_rfl) (by kernel_rfl) (by kernel_rfl) (fun _ _ _ h => h) (Or.inl ⟨by rfl, ?hy34⟩) (by assumption) ?rest34
  case hy34 => (intro w hSw; (try dsimp only at hSw); go_simp; try with_reducible rfl)
  try simp only [Act.put, List.getElem_toArray, List.getElem_cons_succ, List.getElem_cons_zero, List.setIfInBounds_toArray, List.set_cons_zero, List.set_cons_succ]
  refine wpAnyU_take (i := 7) (v := ?v35) rfl (by kernel_rfl) (by kernel_rfl) (by kernel_rfl) (by kernel_rfl) (fun _ _ _ h => h) (Or.inl ⟨by rfl, ?hy35⟩) (by assumption) ?rest35
  case hy35 => (intro w hSw; (try dsimp only at hSw); go_simp; try with_reducible rfl)
  try simp only [Act.put, List.getElem_toArray, List.getElem_cons_succ, List.getElem_cons_zero, List.setIfInBounds_toArray, List.set_cons_zero, List.set_cons_succ]
  refine wpAnyU_take (i := 8) (v := ?v36) rfl (by kernel_rfl) (by kernel_rfl) (by kernel_rfl) (by kernel_rfl) (fun _ _ _ h => h) (Or.inl ⟨by rfl, ?hy36⟩) (by assumption) ?rest36
  case hy36 => (intro w hSw; (try dsimp only at hSw); go_simp; try with_reducible rfl)
  try simp only [Act.put, List.getElem_toArray, List.getElem_cons_succ, List.getElem_cons_zero, List.setIfInBounds_toArray, List.set_cons_zero, List.set_cons_succ]
  refine wpAnyU_ready (i := 9) (by kernel_rfl) (by kernel_rfl) rfl (fun K hK => ?_)
  go_simp
  refine (HL.out _).mono ?_
  rintro e w' ⟨rfl, rfl⟩
  go_wp2_with fail
  refine hK.out _ _ (by assumption) (fun hHeld => ?_)
  clear hK K
  try simp only [Act.put, List.getElem_toArray, List.getElem_cons_succ, List.getElem_cons_zero, List.setIfInBounds_toArray, List.set_cons_zero, List.set_cons_succ]
  refine wpAnyU_ready (i := 10) (by kernel_rfl) (by kernel_rfl) rfl (fun K hK => ?_)
  go_simp
  refine (HW.out _).mono ?_
  rintro e w' ⟨rfl, rfl⟩
  go_wp2_with fail
  refine hK.out _ _ (by assumption) (fun hHeld => ?_)
  clear hK K
  try simp only [Act.put, List.getElem_toArray, List.getElem_cons_succ, List.getElem_cons_zero, List.setIfInBounds_toArray, List.set_cons_zero, List.set_cons_succ]
  refine wpAnyU_take (i := 11) (v := ?v37) rfl (by kernel_rfl) (by kernel_rfl) (by kernel_rfl) (by kernel_rfl) (fun _ _ _ h => h) (Or.inl ⟨by rfl, ?hy37⟩) (by assumption) ?rest37
  case hy37 => (intro w hSw; (try dsimp only at hSw); go_simp; try with_reducible rfl)
  try simp only [Act.put, List.getElem_toArray, List.getElem_cons_succ, List.getElem_cons_zero, List.setIfInBounds_toArray, List.set_cons_zero, List.set_cons_succ]
  refine wpAnyU_take (i := 12) (v := ?v38) rfl (by kernel_rfl) (by kernel_rfl) (by kernel_rfl) (by kernel_rfl) (fun _ _ _ h => h) (Or.inl ⟨by rfl, ?hy38⟩) (by assumption) ?rest38
  case hy38 => (intro w hSw; (try dsimp only at hSw); go_simp; try with_reducible rfl)
  try simp only [Act.put, List.getElem_toArray, List.getElem_cons_succ, List.getElem_cons_zero, List.setIfInBounds_toArray, List.set_cons_zero, List.set_cons_succ]
  refine wpAnyU_tail rfl (by kernel_rfl) ?_
  simp only [List.drop_succ_cons, List.drop_zero]
  have c := H2.out.cell 23 _ rfl
  have fz := H2.out.free 23
  have H3 := Lib.hid (H2.out.set 23 (.int .u16 q) (wzS x q) (by decide) rfl rfl)
  go_wp2_with fail
  refine NoPanic.normal ?_
  go_wp2_with fail
  go_end0
  exact ⟨rfl, H3.out⟩
set_option maxHeartbeats 1600000 in
theorem workW192 (n : Int) (w : World) (h : Mc w0 w b f base x v y va) (ok : x.Ok) :
    Calls Tryz.prog 84 #[.pointer (some ⟨b, 0, none⟩), .int .i64 192, .int .i64 n] w fun e w' => e = .returned (.tuple #[]) ∧ Mc w0 w' b f base (workW x 192 n) v y va := by
  rw [show workW x 192 n = reckonS x by unfold workW; simp]
  have H := Lib.hid (reckon_any w h ok)
  clear h
  go_enter Tryz.func84, Tryz.ntmps84
  go_wp2_with fail
  refine H.out.mono ?_
  rintro e w' ⟨rfl, hm⟩
  go_wp2_with fail
  go_end0
  exact ⟨rfl, hm⟩
set_option maxHeartbeats 1600000 in
theorem workW208 (n : Int) (w : World) (h : Mc w0 w b f base x v y va) (ok : x.Ok) :
    Calls Tryz.prog 84 #[.pointer (some ⟨b, 0, none⟩), .int .i64 208, .int .i64 n] w fun e w' => e = .returned (.tuple #[]) ∧ Mc w0 w' b f base (workW x 208 n) v y va := by
  rw [show workW x 208 n = putPairS x 2 x.r.wz by unfold workW; simp]
  have HS : w.cell? ⟨b, 41, none⟩ = some (.int .i64 x.ix) ∧ w.cell? ⟨b, 23, none⟩ = some (.int .u16 x.r.wz) := ⟨h.cell 41 _ rfl, h.cell 23 _ rfl⟩
  have HB := Lib.hid (putPairM 2 x.r.wz w.drew h.drew ok.r.wz)
  clear h
  go_enter Tryz.func84, Tryz.ntmps84
  go_wp2_with fail
  first | refine wp_region_noPanic ?_ | skip
  refine wp_region_U (n := 9) (S := (fun u => u.cell? ⟨b, 41, none⟩ = some (.int .i64 x.ix) ∧ u.cell? ⟨b, 23, none⟩ = some (.int .u16 x.r.wz))) (by kernel_rfl) (by kernel_rfl) HS (fun hHeld => ?_)
  refine wpAnyU_take (i := 0) (v := ?v39) rfl (by kernel_rfl) (by kernel_rfl) (by kernel_rfl) (by kernel_rfl) (fun _ _ _ h => h) (Or.inl ⟨by rfl, ?hy39⟩) (by assumption) ?rest39
  case hy39 => (intro w hSw; (try dsimp only at hSw); go_simp; try with_reducible rfl)
  try simp only [Act.put, List.getElem_toArray, List.getElem_cons_succ, List.getElem_cons_zero, List.setIfInBounds_toArray, List.set_cons_zero, List.set_cons_succ]
  refine wpAnyU_take (i := 1) (v := ?v40) rfl (by kernel_rfl) (by kernel_rfl) (by kernel_rfl) (by kernel_rfl) (fun _ _ _ h => h) (Or.inl ⟨by rfl, ?hy40⟩) (by assumption) ?rest40
  case hy40 => (intro w hSw; (try dsimp only at hSw); go_simp; try with_reducible rfl)
  try simp only [Act.put, List.getElem_toArray, List.getElem_cons_succ, List.getElem_cons_zero, List.setIfInBounds_toArray, List.set_cons_zero, List.set_cons_succ]
  refine wpAnyU_take (i := 2) (v := ?v41) rfl (by kernel_rfl) (by kernel_rfl) (by kernel_rfl) (by kernel_rfl) (fun _ _ _ h => h) (Or.inl ⟨by rfl, ?hy41⟩) (by assumption) ?rest41
  case hy41 => (intro w hSw; (try dsimp only at hSw); go_simp; try with_reducible rfl)
  try simp only [Act.put, List.getElem_toArray, List.getElem_cons_succ, List.getElem_cons_zero, List.setIfInBounds_toArray, List.set_cons_zero, List.set_cons_succ]
  refine wpAnyU_take (i := 3) (v := ?v42) rfl (by kernel_rfl) (by kernel_rfl) (by kernel_rfl) (by kernel_rfl) (fun _ _ _ h => h) (Or.inl ⟨by rfl, ?hy42⟩) (by assumption) ?rest42
  case hy42 => (intro w hSw; (try dsimp only at hSw); go_simp; try with_reducible rfl)
  try simp only [Act.put, List.getElem_toArray, List.getElem_cons_succ, List.getElem_cons_zero, List.setIfInBounds_toArray, List.set_cons_zero, List.set_cons_succ]
  refine wpAnyU_take (i := 4) (v := ?v43) rfl (by kernel_rfl) (by kernel_rfl) (by kernel_rfl) (by kernel_rfl) (fun _ _ _ h => h) (Or.inl ⟨by rfl, ?hy43⟩) (by assumption) ?rest43
  case hy43 => (intro w hSw; (try dsimp only at hSw); go_simp; try with_reducible rfl)
  try simp only [Act.put, List.getElem_toArray, List.getElem_cons_succ, List.getElem_cons_zero, List.setIfInBounds_toArray, List.set_cons_zero, List.set_cons_succ]
  refine wpAnyU_take (i := 5) (v := ?v44) rfl (by kernel_rfl) (by kernel_rfl) (by kernel_rfl) (by kernel_rfl) (fun _ _ _ h => h) (Or.inl ⟨by rfl, ?hy44⟩) (by assumption) ?rest44
  case hy44 => (intro w hSw; (try dsimp only at hSw); go_simp; try with_reducible rfl)
  try simp only [Act.put, List.getElem_toArray, List.getElem_cons_succ, List.getElem_cons_zero, List.setIfInBounds_toArray, List.set_cons_zero, List.set_cons_succ]
  refine wpAnyU_take (i := 6) (v := ?v45) rfl (by kernel_rfl) (by kernel_rfl) (by kernel_rfl) (by kernel_rfl) (fun _ _ _ h => h) (Or.inl ⟨by rfl, ?hy45⟩) (by assumption) ?rest45
  case hy45 => (intro w hSw; (try dsimp only at hSw); go_simp; try with_reducible rfl)
  try simp only [Act.put, List.getElem_toArray, List.getElem_cons_succ, List.getElem_cons_zero, List.setIfInBounds_toArray, List.set_cons_zero, List.set_cons_succ]
  refine wpAnyU_take (i := 7) (v := ?v46) rfl (by kernel_rfl) (by kernel_rfl) (by kernel_rfl) (by kernel_rfl) (fun _ _ _ h => h) (Or.inl ⟨by rfl, ?hy46⟩) (by assumption) ?rest46
  case hy46 => (intro w hSw; (try dsimp only at hSw); go_simp; try with_reducible rfl)
  try simp only [Act.put, List.getElem_toArray, List.getElem_cons_succ, List.getElem_cons_zero, List.setIfInBounds_toArray, List.set_cons_zero, List.set_cons_succ]
  refine wpAnyU_take (i := 8) (v := ?v47) rfl (by kernel_rfl) (by kernel_rfl) (by kernel_rfl) (by kernel_rfl) (fun _ _ _ h => h) (Or.inl ⟨by rfl, ?hy47⟩) (by assumption) ?rest47
  case hy47 => (intro w hSw; (try dsimp only at hSw); go_simp; try with_reducible rfl)
  try simp only [Act.put, List.getElem_toArray, List.getElem_cons_succ, List.getElem_cons_zero, List.setIfInBounds_toArray, List.set_cons_zero, List.set_cons_succ]
  refine wpAnyU_tail rfl (by kernel_rfl) ?_
  simp only [List.drop_succ_cons, List.drop_zero]
  go_wp2_with fail
  refine HB.out.mono ?_
  rintro e w' ⟨rfl, hm⟩
  go_wp2_with fail
  refine NoPanic.normal ?_
  go_wp2_with fail
  go_end0
  exact ⟨rfl, hm⟩
set_option maxHeartbeats 1600000 in
theorem workW216 (n : Int) (w : World) (h : Mc w0 w b f base x v y va) (ok : x.Ok) :
    Calls Tryz.prog 84 #[.pointer (some ⟨b, 0, none⟩), .int .i64 216, .int .i64 n] w fun e w' => e = .returned (.tuple #[]) ∧ Mc w0 w' b f base (workW x 216 n) v y va := by
  rw [show workW x 216 n = pcS x x.r.wz by unfold workW; simp]
  have c1 := h.cell 23 _ rfl
  have c := h.cell 22 _ rfl
  have fz := h.free 22
  have H := Lib.hid (h.set 22 (.int .u16 x.r.wz) (pcS x x.r.wz) (by decide) rfl rfl)
  clear h
  go_enter Tryz.func84, Tryz.ntmps84
  go_wp2_with fail
  go_end0
  exact ⟨rfl, H.out⟩
set_option maxHeartbeats 1600000 in
theorem workW232 (n : Int) (w : World) (h : Mc w0 w b f base x v y va) (ok : x.Ok) :
    Calls Tryz.prog 84 #[.pointer (some ⟨b, 0, none⟩), .int .i64 232, .int .i64 n] w fun e w' => e = .returned (.tuple #[]) ∧ Mc w0 w' b f base (workW x 232 n) v y va := by
  obtain ⟨q, hq⟩ : ∃ q, plusW x.r.pc x.dist = q := ⟨_, rfl⟩
  rw [show workW x 232 n = wzS (pcS x q) q by unfold workW; simp [hq]]
  have HL := Lib.hid (fun u => plus_any x.r.pc x.dist u ok.dist.1 ok.dist.2)
  rw [hq] at HL
  have HS : w.cell? ⟨b, 22, none⟩ = some (.int .u16 x.r.pc) ∧ w.cell? ⟨b, 43, none⟩ = some (.int .u8 x.dist) := ⟨h.cell 22 _ rfl, h.cell 43 _ rfl⟩
  have h3 := h.set 22 (.int .u16 q) (pcS x q) (by decide) rfl rfl
  have c1 := h.cell 22 _ rfl
  have f1 := h.free 22
  have c2 := h.cell 23 _ rfl
  have f2 := h.free 23
  have H := Lib.hid (h3.set 23 (.int .u16 q) (wzS (pcS x q) q) (by decide) rfl rfl).drew
  clear h h3 hq
  go_enter Tryz.func84, Tryz.ntmps84
  go_wp2_with fail
  first | refine wp_region_noPanic ?_ | skip
  refine wp_region_U (n := 12) (S := (fun u => u.cell? ⟨b, 22, none⟩ = some (.int .u16 x.r.pc) ∧ u.cell? ⟨b, 43, none⟩ = some (.int .u8 x.dist))) (by kernel_rfl) (by kernel_rfl) HS (fun hHeld => ?_)
  refine wpAnyU_take (i := 0) (v := ?v48) rfl (by kernel_rfl) (by kernel_rfl) (by kernel_rfl) (by kernel_rfl) (fun _ _ _ h => h) (Or.inl ⟨by rfl, ?hy48⟩) (by assumption) ?rest48
  case hy48 => (intro w hSw; (try dsimp only at hSw); go_simp; try with_reducible rfl)
  try simp only [Act.put, List.getElem_toArray, List.getElem_cons_succ, List.getElem_cons_zero, List.setIfInBounds_toArray, List.set_cons_zero, List.set_cons_succ]
  refine wpAnyU_take (i := 1) (v := ?v49) rfl (by kernel_rfl) (by kernel_rfl) (by kernel_rfl) (by kernel_rfl) (fun _ _ _ h => h) (Or.inl ⟨by rfl, ?hy49⟩) (by assumption) ?rest49
  case hy49 => (intro w hSw; (try dsimp only at hSw); go_simp; try with_reducible rfl)
  try simp only [Act.put, List.getElem_toArray, List.getElem_cons_succ, List.getElem_cons_zero, List.setIfInBounds_toArray, List.set_cons_zero, List.set_cons_succ]
  refine wpAnyU_take (i := 2) (v := ?v50) rfl (by kernel_rfl) (by kernel_rfl) (by kernel_rfl) (by kernel_rfl) (fun _ _ _ h => h) (Or.inl ⟨by rfl, ?hy50⟩) (by assumption) ?rest50
  case hy50 => (intro w hSw; (try dsimp only at hSw); go_simp; try with_reducible rfl)
  try simp only [Act.put, List.getElem_toArray, List.getElem_cons_succ, List.getElem_cons_zero, List.setIfInBounds_toArray, List.set_cons_zero, List.set_cons_succ]
  refine wpAnyU_take (i := 3) (v := ?v51) rfl (by kernel_rfl) (by kernel_rfl) (by kernel_rfl) (by kernel_rfl) (fun _ _ _ h => h) (Or.inl ⟨by rfl, ?hy51⟩) (by assumption) ?rest51
  case hy51 => (intro w hSw; (try dsimp only at hSw); go_simp; try with_reducible rfl)
  try simp only [Act.put, List.getElem_toArray, List.getElem_cons_succ, List.getElem_cons_zero, List.setIfInBounds_toArray, List.set_cons_zero, List.set_cons_succ]
  refine wpAnyU_take (i := 4) (v := ?v52) rfl (by kernel_rfl) (by kernel_rfl) (by kernel_rfl) (by kernel_rfl) (fun _ _ _ h => h) (Or.inl ⟨by rfl, ?hy52⟩) (by assumption) ?rest52
  case hy52 => (intro w hSw; (try dsimp only at hSw); go_simp; try with_reducible rfl)
  try simp only [Act.put, List.getElem_toArray, List.getElem_cons_succ, List.getElem_cons_zero, List.setIfInBounds_toArray, List.set_cons_zero, List.set_cons_succ]
  refine wpAnyU_take (i := 5) (v := ?v53) rfl (by kernel_rfl) (by kernel_rfl) (by kernel_rfl) (by kernel_rfl) (fun _ _ _ h => h) (Or.inl ⟨by rfl, ?hy53⟩) (by assumption) ?rest53
  case hy53 => (intro w hSw; (try dsimp only at hSw); go_simp; try with_reducible rfl)
  try simp only [Act.put, List.getElem_toArray, List.getElem_cons_succ, List.getElem_cons_zero, List.setIfInBounds_toArray, List.set_cons_zero, List.set_cons_succ]
  refine wpAnyU_take (i := 6) (v := ?v54) rfl (by kernel_rfl) (by kernel_rfl) (by kernel_rfl) (by kernel_rfl) (fun _ _ _ h => h) (Or.inl ⟨by rfl, ?hy54⟩) (by assumption) ?rest54
  case hy54 => (intro w hSw; (try dsimp only at hSw); go_simp; try with_reducible rfl)
  try simp only [Act.put, List.getElem_toArray, List.getElem_cons_succ, List.getElem_cons_zero, List.setIfInBounds_toArray, List.set_cons_zero, List.set_cons_succ]
  refine wpAnyU_take (i := 7) (v := ?v55) rfl (by kernel_rfl) (by kernel_rfl) (by kernel_rfl) (by kernel_rfl) (fun _ _ _ h => h) (Or.inl ⟨by rfl, ?hy55⟩) (by assumption) ?rest55
  case hy55 => (intro w hSw; (try dsimp only at hSw); go_simp; try with_reducible rfl)
  try simp only [Act.put, List.getElem_toArray, List.getElem_cons_succ, List.getElem_cons_zero, List.setIfInBounds_toArray, List.set_cons_zero, List.set_cons_succ]
  refine wpAnyU_take (i := 8) (v := ?v56) rfl (by kernel_rfl) (by kernel_rfl) (by kernel_rfl) (by kernel_rfl) (fun _ _ _ h => h) (Or.inl ⟨by rfl, ?hy56⟩) (by assumption) ?rest56
  case hy56 => (intro w hSw; (try dsimp only at hSw); go_simp; try with_reducible rfl)
  try simp only [Act.put, List.getElem_toArray, List.getElem_cons_succ, List.getElem_cons_zero, List.setIfInBounds_toArray, List.set_cons_zero, List.set_cons_succ]
  refine wpAnyU_ready (i := 9) (by kernel_rfl) (by kernel_rfl) rfl (fun K hK => ?_)
  go_simp
  refine (HL.out _).mono ?_
  rintro e w' ⟨rfl, rfl⟩
  go_wp2_with fail
  refine hK.out _ _ (by assumption) (fun hHeld => ?_)
  clear hK K
  try simp only [Act.put, List.getElem_toArray, List.getElem_cons_succ, List.getElem_cons_zero, List.setIfInBounds_toArray, List.set_cons_zero, List.set_cons_succ]
  refine wpAnyU_take (i := 10) (v := ?v57) rfl (by kernel_rfl) (by kernel_rfl) (by kernel_rfl) (by kernel_rfl) (fun _ _ _ h => h) (Or.inl ⟨by rfl, ?hy57⟩) (by assumption) ?rest57
  case hy57 => (intro w hSw; (try dsimp only at hSw); go_simp; try with_reducible rfl)
  try simp only [Act.put, List.getElem_toArray, List.getElem_cons_succ, List.getElem_cons_zero, List.setIfInBounds_toArray, List.set_cons_zero, List.set_cons_succ]
  refine wpAnyU_take (i := 11) (v := ?v58) rfl (by kernel_rfl) (by kernel_rfl) (by kernel_rfl) (by kernel_rfl) (fun _ _ _ h => h) (Or.inl ⟨by rfl, ?hy58⟩) (by assumption) ?rest58
  case hy58 => (intro w hSw; (try dsimp only at hSw); go_simp; try with_reducible rfl)
  try simp only [Act.put, List.getElem_toArray, List.getElem_cons_succ, List.getElem_cons_zero, List.setIfInBounds_toArray, List.set_cons_zero, List.set_cons_succ]
  refine wpAnyU_tail rfl (by kernel_rfl) ?_
  simp only [List.drop_succ_cons, List.drop_zero]
  go_wp2_with fail
  refine NoPanic.normal ?_
  go_wp2_with fail
  go_end0
  exact ⟨rfl, H.out⟩
set_option maxHeartbeats 1600000 in
theorem workW240 (n : Int) (w : World) (h : Mc w0 w b f base x v y va) (ok : x.Ok) (n16 : B16 n) :
    Calls Tryz.prog 84 #[.pointer (some ⟨b, 0, none⟩), .int .i64 240, .int .i64 n] w fun e w' => e = .returned (.tuple #[]) ∧ Mc w0 w' b f base (workW x 240 n) v y va := by
  rw [show workW x 240 n = wzS (pcS x n) n by unfold workW; simp]
  have e1 : IntKind.u16.wrap n = n := by rw [wrap16]; unfold B16 at n16; omega
  have h3 := h.set 22 (.int .u16 n) (pcS x n) (by decide) rfl rfl
  have c1 := h.cell 22 _ rfl
  have f1 := h.free 22
  have c2 := h.cell 23 _ rfl
  have f2 := h.free 23
  have H := Lib.hid (h3.set 23 (.int .u16 n) (wzS (pcS x n) n) (by decide) rfl rfl)
  clear h h3 n16
  go_enter Tryz.func84, Tryz.ntmps84
  go_wp2_with fail
  go_end0
  exact ⟨rfl, H.out⟩
theorem workW_any (g n : Int) (w : World) (h : Mc w0 w b f base x v y va) (ok : x.Ok) (hn : g = 240 → B16 n) (hg : g = 128 ∨ g = 136 ∨ g = 144 ∨ g = 168 ∨ g = 176 ∨ g = 184 ∨ g = 192 ∨ g = 200 ∨ g = 208 ∨ g = 216 ∨ g = 224 ∨ g = 232 ∨ g = 240) :
    Calls Tryz.prog 84 #[.pointer (some ⟨b, 0, none⟩), .int .i64 g, .int .i64 n] w fun e w' => e = .returned (.tuple #[]) ∧ Mc w0 w' b f base (workW x g n) v y va := by
  rcases hg with rfl | rfl | rfl | rfl | rfl | rfl | rfl | rfl | rfl | rfl | rfl | rfl | rfl
  · exact workW128 n w h ok
  · exact workW136 n w h ok
  · exact workW144 n w h ok
  · exact workW168 n w h ok
  · exact workW176 n w h ok
  · exact workW184 n w h ok
  · exact workW192 n w h ok
  · exact workW200 n w h ok
  · exact workW208 n w h ok
  · exact workW216 n w h ok
  · exact workW224 n w h ok
  · exact workW232 n w h ok
  · exact workW240 n w h ok (hn rfl)

end Go.Proofs.YtcfkpeemhleleaaGreatDoor
