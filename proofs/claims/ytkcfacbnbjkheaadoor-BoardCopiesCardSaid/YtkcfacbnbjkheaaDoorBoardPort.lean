/- The calls of a board that put something behind its rows: their contracts. -/
import Derived.Test.YtkcfacbnbjkheaaDoorBoardCalls
import Derived.Deep.RegionHeld3
import Derived.Deep.RegionLaw
import Derived.Deep.AppendLies
namespace Go.Proofs.YtkcfacbnbjkheaaDoor
open Go.RowKit
set_option maxRecDepth 100000

theorem infoAct : (Tryd.prog.info? 84).map (fun i => (i.zero, i.size, i.bytes)) = some (some (.agg #[.int .u64 0, .bool false, .int .u16 0, .int .u8 0]), 4, 16) := by kernel_rfl
theorem infoU64 : (Tryd.prog.info? 35).map (fun i => (i.zero, i.size, i.bytes)) = some (some (.int .u64 0), 1, 8) := by kernel_rfl

/-- From w to u: all older blocks but v's own are as they were. -/
def Grew (w u : World) (v : Value) : Prop := u.os = w.os ∧ u.tape = w.tape ∧ u.output = w.output ∧ w.heap.size ≤ u.heap.size ∧ ∀ k, k < w.heap.size → v.ownBlock ≠ some k → u.heap[k]? = w.heap[k]?
theorem balloc (w : World) (o : Obj) : Below w.heap.size w (w.alloc o) := (Below.refl _ _).alloc (Nat.le_refl _) _
theorem Grew.of {w u : World} {v : Value} {o : Obj} {n : Nat} (h : ((w.alloc o).drewN n).grownBy u v.ownBlock) : Grew w u v := by
  have hz : ((w.alloc o).drewN n).heap.size = w.heap.size + 1 := by simp
  have hh : ∀ k : Nat, k < w.heap.size → ((w.alloc o).drewN n).heap[k]? = w.heap[k]? := fun k hk => (balloc w o).block k hk
  refine ⟨h.os, h.tape, h.output, ?_, fun k hk hne => ?_⟩
  · have := h.size
    omega
  · exact (h.block k (by omega) (fun e => hne e.symm)).trans (hh k hk)
theorem BAt.grewA {w w1 : World} {b base : Nat} {s : St} {va ve v' : Value} {a : Ac} (h : BAt w b base s va ve) (hg : Grew w w1 va) (hr : w1.ownsRow base 84 4 v' (s.acts.length + 1) (flatA s.acts ++ flatA [a])) (hv : ∀ k, v'.ownBlock = some k → va.ownBlock = some k ∨ w.heap.size ≤ k) :
    Went b base { s with acts := s.acts ++ [a] } va ve w (w1.setCell ⟨b, 77840, none⟩ v') := by
  have hc := h.cells.block (hg.2.2.2.2 b h.lt h.va_ne)
  have ht : w1.ownsRow base 35 1 ve s.edges.length (s.edges.map u64V) := own_keep h.tim fun k hk => by
    refine hg.2.2.2.2 k (h.tim.lt k hk).2 (fun e => ?_)
    rcases own_own h.tim h.row (by decide) with x | x
    · rw [x] at hk; cases hk
    · exact x (hk.trans e.symm)
  have hn : v'.ownBlock ≠ some b := own_ty hr hc (by decide)
  have hm : ve.ownBlock ≠ some b := h.ve_ne
  refine ⟨v', ve, ⟨?_, h.lo, ?_, ?_⟩, ?_, ?_⟩
  · have := hc.set 77840 v'
    rw [set_va] at this
    exact this
  · refine own_keep (w := w1) ?_ fun k hk => Below.heap_setCell _ _ _ _ (fun e => by subst e; exact hn hk)
    rw [List.length_append, flatA_app]; exact hr
  · exact own_keep ht fun k hk => Below.heap_setCell _ _ _ _ (fun e => by subst e; exact hm hk)
  · refine ⟨hg.1, hg.2.1, hg.2.2.1, by simpa [World.setCell] using hg.2.2.2.1, fun k hk hF => ?_⟩
    rw [Below.heap_setCell _ _ _ _ (show k ≠ b from fun e => hF (Or.inl e))]
    exact hg.2.2.2.2 k hk (fun e => hF (Or.inr (Or.inl e)))
  · intro k hk
    rcases hk with hk | hk | hk
    · exact Or.inl (Or.inl hk)
    · rcases hv k hk with x | x
      · exact Or.inl (Or.inr (Or.inl x))
      · exact Or.inr x
    · exact Or.inl (Or.inr (Or.inr hk))
theorem BAt.grewE {w w1 : World} {b base : Nat} {s : St} {va ve v' : Value} {n : Int} (h : BAt w b base s va ve) (hg : Grew w w1 ve) (hr : w1.ownsRow base 35 1 v' (s.edges.length + 1) (s.edges.map u64V ++ [.int .u64 n])) (hv : ∀ k, v'.ownBlock = some k → ve.ownBlock = some k ∨ w.heap.size ≤ k) :
    Went b base { s with edges := s.edges ++ [n] } va ve w (w1.setCell ⟨b, 77841, none⟩ v') := by
  have hc := h.cells.block (hg.2.2.2.2 b h.lt h.ve_ne)
  have ht : w1.ownsRow base 84 4 va s.acts.length (flatA s.acts) := own_keep h.row fun k hk => by
    refine hg.2.2.2.2 k (h.row.lt k hk).2 (fun e => ?_)
    rcases own_own h.row h.tim (by decide) with x | x
    · rw [x] at hk; cases hk
    · exact x (hk.trans e.symm)
  have hn : v'.ownBlock ≠ some b := own_ty hr hc (by decide)
  have hm : va.ownBlock ≠ some b := h.va_ne
  refine ⟨va, v', ⟨?_, h.lo, ?_, ?_⟩, ?_, ?_⟩
  · exact (hc.set 77841 v').congr fun j hj => set_ve s va ve v' j hj
  · exact own_keep ht fun k hk => Below.heap_setCell _ _ _ _ (fun e => by subst e; exact hm hk)
  · refine own_keep (w := w1) ?_ fun k hk => Below.heap_setCell _ _ _ _ (fun e => by subst e; exact hn hk)
    rw [List.length_append, List.map_append]; exact hr
  · refine ⟨hg.1, hg.2.1, hg.2.2.1, by simpa [World.setCell] using hg.2.2.2.1, fun k hk hF => ?_⟩
    rw [Below.heap_setCell _ _ _ _ (show k ≠ b from fun e => hF (Or.inl e))]
    exact hg.2.2.2.2 k hk (fun e => hF (Or.inr (Or.inr e)))
  · intro k hk
    rcases hk with hk | hk | hk
    · exact Or.inl (Or.inl hk)
    · exact Or.inl (Or.inr (Or.inl hk))
    · rcases hv k hk with x | x
      · exact Or.inl (Or.inr (Or.inr x))
      · exact Or.inr x

theorem lies_ok {va : Value} {gg n cap H : Nat} (hat : va.ownBlock = some gg ∨ gg = H + 1) : ∀ k, (Value.slice (some ⟨gg, 0, none⟩) n cap).ownBlock = some k → va.ownBlock = some k ∨ H ≤ k := by
  intro k hk
  simp only [Value.ownBlock, Option.some.injEq] at hk
  subst hk
  rcases hat with x | x
  · exact Or.inl x
  · exact Or.inr (by omega)
set_option maxRecDepth 100000 in
set_option maxHeartbeats 1600000 in
theorem log_any (b base : Nat) (out : Bool) (p v : Int) (s : St) (va ve : Value) (w : World) (hB : BAt w b base s va ve) (hbase : base ≤ w.heap.size) (hl : s.acts.length ≤ 100000) :
    Calls Tryd.prog 45 #[.pointer (some ⟨b, 0, none⟩), .bool out, .int .u16 p, .int .u8 v] w fun e w' => e = .returned (.tuple #[]) ∧ Went b base (logS s out p v) va ve w w' := by
  have c := hB.c_log
  cases hlog : s.log with
  | false =>
    have HB := Lib.hid (show Went b base (logS s out p v) va ve w w by unfold logS; rw [hlog]; exact Went.refl hB)
    rw [hlog] at c
    clear hB hlog
    go_enter Tryd.func45, Tryd.ntmps45
    go_wp2_with fail
    go_end0
    exact ⟨rfl, HB.out⟩
  | true =>
    have HB := Lib.hid (fun (w1 : World) hg v' hr hv => show Went b base (logS s out p v) va ve w (w1.setCell ⟨b, 77840, none⟩ v') by
      unfold logS; rw [if_pos hlog]; exact hB.grewA (a := ⟨s.t, out, p, v⟩) hg hr hv)
    have c1 := hB.c_va
    have c2 := hB.c_t
    have c3 := hB.fr 77840
    have hlt := hB.lt
    have hne := hB.va_ne
    have hrow := hB.row
    rw [hlog] at c
    obtain ⟨i0, hi, hz0, hz1, hz2⟩ := info_parts infoAct
    have HS := Lib.hid (fun (u : World) (hu : u.heap[b]? = w.heap[b]?) => show u.cell? ⟨b, 77840, none⟩ = some va ∧ u.cell? ⟨b, 65547, none⟩ = some (.int .u64 s.t) ∧ u.frozen? ⟨b, 77840, none⟩ = false from
      ⟨(World.cell?_of_block (a := ⟨b, 77840, none⟩) hu).trans c1, (World.cell?_of_block (a := ⟨b, 65547, none⟩) hu).trans c2, (World.frozen?_of_block (a := ⟨b, 77840, none⟩) hu).trans c3⟩)
    clear hB hlog
    generalize s.t = T at *
    generalize s.acts.length = n at *
    generalize flatA s.acts = xs at *
    go_enter Tryd.func45, Tryd.ntmps45
    go_wp2_with fail
    go_region_law ((refine step_append_lies _ (by rfl) _ _ _ (by rfl) base 84 i0 _ 4 16 Tryd.underlying37 hi hz0 hz1 hz2 rfl (by decide) va n xs (by rfl) (show _ from (hrow.alloc (.cells #[.int .u64 T, .bool out, .int .u16 p, .int .u8 v] 84))) ⟨w.heap.size, 0, none⟩ 1 1 [.int .u64 T, .bool out, .int .u16 p, .int .u8 v] (by rfl) (by rfl) (World.news_of_block (cs := #[.int .u64 T, .bool out, .int .u16 p, .int .u8 v]) (t := 84) (fr := (0, 0)) (heap_alloc_new w _)) (by simp [Value.oneCell']) (by decide) (by unfold maxLen; omega) (by omega) (by simp; omega) (w.heap.size + 1) (by simp) ?_; intro gg cap w1 hown1 hgrow hat hlt1; obtain ⟨d1, d2, d3⟩ := HS.out w1 ((hgrow.block b (by simp; omega) (fun e => hne e.symm)).trans ((balloc w _).block b hlt))))
    all_goals
      go_wp2_with fail
      go_end0
      exact ⟨rfl, HB.out w1 (Grew.of (n := 1) hgrow) _ hown1 (lies_ok hat)⟩

set_option maxRecDepth 100000 in
set_option maxHeartbeats 1600000 in
theorem setMic_any (b base : Nat) (m : Bool) (s : St) (va ve : Value) (w : World) (hB : BAt w b base s va ve) (hbase : base ≤ w.heap.size) (hl : s.edges.length ≤ 100000) :
    Calls Tryd.prog 44 #[.pointer (some ⟨b, 0, none⟩), .bool m] w fun e w' => e = .returned (.tuple #[]) ∧ Went b base (micS s m) va ve w w' := by
  have c := hB.c_mic
  by_cases hm : m = s.mic
  · have HB := Lib.hid (show Went b base (micS s m) va ve w w by unfold micS; rw [if_pos hm]; exact Went.refl hB)
    rw [← hm] at c
    clear hB hm
    go_enter Tryd.func44, Tryd.ntmps44
    go_wp2_with fail
    refine bodyPost_ret (results_none rfl _ _ _) rfl ?_
    exact ⟨rfl, HB.out⟩
  · have hB1 : BAt (w.setCell ⟨b, 65550, none⟩ (.bool m)) b base { s with mic := m } va ve := hB.set 65550 _ (set_mic s va ve m) rfl rfl
    have HB := Lib.hid (fun (w1 : World) hg v' hr hv => show Went b base (micS s m) va ve w (w1.setCell ⟨b, 77841, none⟩ v') by
      unfold micS; rw [if_neg hm]
      refine Went.trans (Ch.set w b 65550 (.bool m) (Or.inl rfl)) (fun k hk => Or.inl hk) ?_
      exact hB1.grewE (n := s.t) hg hr hv)
    have f := hB.fr 65550
    have hne : (m == s.mic) = false := by
      cases h1 : m <;> cases h2 : s.mic <;> simp_all
    have hb0 : base ≤ (w.setCell ⟨b, 65550, none⟩ (.bool m)).heap.size := by simpa [World.setCell] using hbase
    obtain ⟨w2, hw2⟩ : ∃ w2, w.setCell ⟨b, 65550, none⟩ (.bool m) = w2 := ⟨_, rfl⟩
    rw [hw2] at hB1 HB hb0
    have c1 := hB1.c_ve
    have c2 := hB1.c_t
    have c3 := hB1.fr 77841
    have hlt := hB1.lt
    have hne2 := hB1.ve_ne
    have hrow := hB1.tim
    obtain ⟨i0, hi, hz0, hz1, hz2⟩ := info_parts infoU64
    have HS := Lib.hid (fun (u : World) (hu : u.heap[b]? = w2.heap[b]?) => show u.cell? ⟨b, 77841, none⟩ = some ve ∧ u.frozen? ⟨b, 77841, none⟩ = false from
      ⟨(World.cell?_of_block (a := ⟨b, 77841, none⟩) hu).trans c1, (World.frozen?_of_block (a := ⟨b, 77841, none⟩) hu).trans c3⟩)
    clear hB hB1 hm
    change w2.cell? ⟨b, 65547, none⟩ = some (.int .u64 s.t) at c2
    change w2.ownsRow base 35 1 ve s.edges.length (s.edges.map u64V) at hrow
    generalize s.t = T at *
    generalize s.mic = M0 at *
    generalize s.edges.length = n at *
    generalize s.edges.map u64V = xs at *
    go_enter Tryd.func44, Tryd.ntmps44
    go_wp2_with fail
    clear hw2 c f
    go_region_law ((refine step_append_lies _ (by rfl) _ _ _ (by rfl) base 35 i0 _ 1 8 Tryd.underlying38 hi hz0 hz1 hz2 rfl (by decide) ve n xs (by rfl) (show _ from (hrow.alloc (.cells #[.int .u64 T] 35))) ⟨w2.heap.size, 0, none⟩ 1 1 [.int .u64 T] (by rfl) (by rfl) (World.news_of_block (cs := #[.int .u64 T]) (t := 35) (fr := (0, 0)) (heap_alloc_new w2 _)) (by simp [Value.oneCell']) (by decide) (by unfold maxLen; omega) (by omega) (by simp; omega) (w2.heap.size + 1) (by simp) ?_; intro gg cap w1 hown1 hgrow hat hlt1; obtain ⟨d1, d3⟩ := HS.out w1 ((hgrow.block b (by simp; omega) (fun e => hne2 e.symm)).trans ((balloc w2 _).block b hlt))))
    all_goals
      go_wp2_with fail
      go_end0
      exact ⟨rfl, HB.out w1 (Grew.of (n := 1) hgrow) _ hown1 (lies_ok hat)⟩

end Go.Proofs.YtkcfacbnbjkheaaDoor
