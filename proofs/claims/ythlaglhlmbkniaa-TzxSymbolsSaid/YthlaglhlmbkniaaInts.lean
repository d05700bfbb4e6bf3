/- Slices of int in memory: whatever slice of them, wherever it lies; cut; opened as an argument. -/
import Derived.Test.YthlaglhlmbkniaaBytesOpen
import Derived.Test.YthlaglhlmbkniaaBytesCut
import Derived.Test.YthlaglhlmbkniaaBigCells
import Derived.Laws.MakeOwn
namespace Go.Proofs.Ythlaglhlmbkniaa
open Go.ChangeShapes Go.WideShapes Go.RowKit Go.Deep
set_option linter.unusedVariables false

/-- The slice of A, n and cap has the numbers l, in a block that F allows. -/
structure IAt (F : Nat → Prop) (w : World) (A : Option Addr) (n cap : Nat) (l : List Int) : Prop where
  len : l.length = n
  fit : n ≤ cap
  max : cap ≤ maxLen
  nil : A = none → cap = 0
  lies : 0 < n → ∃ b o, A = some ⟨b, o, none⟩ ∧ F b ∧ b < w.heap.size ∧ ∀ j, j < n → w.cell? ⟨b, o + j, none⟩ = some (.int .i64 (gI l j))
theorem IAt.keep {F : Nat → Prop} {w w' : World} {A : Option Addr} {n cap : Nat} {l : List Int} (h : IAt F w A n cap l) (hs : w.heap.size ≤ w'.heap.size) (hb : ∀ k, k < w.heap.size → F k → w'.heap[k]? = w.heap[k]?) : IAt F w' A n cap l :=
  ⟨h.len, h.fit, h.max, h.nil, fun hn => by
    obtain ⟨b, o, h1, h2, h3, h4⟩ := h.lies hn
    exact ⟨b, o, h1, h2, Nat.lt_of_lt_of_le h3 hs, fun j hj => (World.cell?_of_block (a := ⟨b, o + j, none⟩) (hb b h3 h2)).trans (h4 j hj)⟩⟩
theorem IAt.below {F : Nat → Prop} {w w' : World} {A : Option Addr} {n cap : Nat} {l : List Int} (h : IAt F w A n cap l) (hb : Below w.heap.size w w') : IAt F w' A n cap l := h.keep hb.size fun k hk _ => hb.block k hk
theorem IAt.ch {F G : Nat → Prop} {w w' : World} {A : Option Addr} {n cap : Nat} {l : List Int} (h : IAt F w A n cap l) (hb : Ch G w w') (hF : ∀ k, F k → ¬ G k) : IAt F w' A n cap l := h.keep hb.size fun k hk hf => hb.block k hk (hF k hf)
theorem IAt.weak {F G : Nat → Prop} {w : World} {A : Option Addr} {n cap : Nat} {l : List Int} (h : IAt F w A n cap l) (hF : ∀ k, k < w.heap.size → F k → G k) : IAt G w A n cap l :=
  ⟨h.len, h.fit, h.max, h.nil, fun hn => by
    obtain ⟨b, o, h1, h2, h3, h4⟩ := h.lies hn
    exact ⟨b, o, h1, hF b h3 h2, h3, h4⟩⟩
theorem IAt.empty (F : Nat → Prop) (w : World) : IAt F w none 0 0 [] := ⟨rfl, Nat.le_refl _, Nat.zero_le _, fun _ => rfl, fun h => absurd h (by omega)⟩
theorem IAt.cut {F : Nat → Prop} {w : World} {A : Option Addr} {n cap : Nat} {l : List Int} (h : IAt F w A n cap l) (lo hi : Nat) (h1 : lo ≤ hi) (h2 : hi ≤ n) :
    IAt F w (if cap = lo then A else A.map (·.add (lo * 1))) (hi - lo) (cap - lo) ((l.take hi).drop lo) := by
  have h3 := h.fit
  have h4 := h.max
  have h5 := h.len
  refine ⟨by simp only [List.length_drop, List.length_take]; omega, by omega, by omega, fun hn => ?_, fun hp => ?_⟩
  · by_cases e : cap = lo
    · omega
    · rw [if_neg e] at hn
      have := h.nil (by cases A <;> simp_all)
      omega
  · obtain ⟨b, o, rfl, k1, k2, k3⟩ := h.lies (by omega)
    rw [if_neg (by omega)]
    refine ⟨b, o + lo, by simp [Go.WideShapes.add_plain], k1, k2, fun j hj => ?_⟩
    rw [gI_drop, gI_take _ _ _ (by omega), Nat.add_assoc]
    exact k3 (lo + j) (by omega)
/-- The first n values of f. -/
def lstF (f : Nat → Int) (n : Nat) : List Int := (List.range n).map f
theorem lstF_len (f : Nat → Int) (n : Nat) : (lstF f n).length = n := by simp [lstF]
theorem gI_lstF (f : Nat → Int) (n j : Nat) (h : j < n) : gI (lstF f n) j = f j := by
  unfold gI lstF
  rw [List.getD_eq_getElem?_getD, List.getElem?_map, List.getElem?_range h]
  rfl
theorem IAt.of_cells {w : World} {g n : Nat} {ty : TypeId} {f : Nat → Int} (h : Cells w g ty n (fun j => .int .i64 (f j))) (hn : n ≤ maxLen) : IAt (fun k => k = g) w (some ⟨g, 0, none⟩) n n (lstF f n) :=
  ⟨lstF_len _ _, Nat.le_refl _, hn, fun h => (by cases h), fun _ => ⟨g, 0, rfl, rfl, h.lt, fun j hj => by rw [Nat.zero_add, h.cell j hj, gI_lstF _ _ _ hj]⟩⟩
/-- A row of the call's own. -/
def i64I (x : Int) : Value := .int .i64 x
theorem i64I_one (l : List Int) : ∀ u ∈ l.map i64I, u.oneCell' = true := by
  intro u hu
  obtain ⟨n, _, rfl⟩ := List.mem_map.1 hu
  rfl
theorem i64I_at (l : List Int) (j : Nat) (h : j < l.length) : (l.map i64I)[j]? = some (.int .i64 (gI l j)) := by
  rw [List.getElem?_map, gI_some l j h]
  rfl
theorem ints_own {w : World} {base n : Nat} {e : TypeId} {A : Option Addr} {m cap : Nat} {l : List Int} (h : w.ownsRow base e 1 (.slice A m cap) n (l.map i64I)) : IAt (fun k => base ≤ k) w A n cap l := by
  have hlen : l.length = n := by have := h.1; simpa using this
  have hcopy := h
  rcases h.2 with ⟨e1, h0⟩ | ⟨g, cap', cur, e1, hb, hg, hnc, hm, _, _⟩
  · injection e1 with e1 e2 e3
    subst e1 e2 e3
    exact ⟨hlen, by omega, Nat.zero_le _, fun _ => rfl, fun h => absurd h (by omega)⟩
  · injection e1 with e1 e2 e3
    subst e1 e2 e3
    refine ⟨hlen, by omega, hm, fun h => (by cases h), fun _ => ⟨g, 0, rfl, hb, (Array.getElem?_eq_some_iff.1 hg).1, fun j hj => ?_⟩⟩
    rw [Nat.zero_add, hcopy.cellAt j (by omega), i64I_at _ _ (by omega)]
theorem infoI64 : (Try.prog.info? 3).map (fun i => (i.zero, i.size, i.bytes)) = some (some (.int .i64 0), 1, 8) := by kernel_rfl
theorem size64 (u : World) : (sizeOf (Try.prog.elem 22)).run Try.prog u = .ok 1 u := by kernel_rfl
theorem elem64 : Try.prog.underlying 22 = some (.slice (Try.prog.elem 22)) := by kernel_rfl
theorem cutI_l {F : Nat → Prop} {w : World} {A : Option Addr} {n cap : Nat} {l : List Int} (h : IAt F w A n cap l) (lo : Int) (m : Nat) (hm : lo = m) (hle : m ≤ n) :
    ∃ A' c', (∀ u, (Instr.slice 22 (.slice A n cap) (some (.int .i64 lo)) none none).run Try.prog u = .ok (.slice A' (n - m) c') u) ∧ IAt F w A' (n - m) c' (l.drop m) := by
  have hk := h.cut m n hle (Nat.le_refl _)
  have hf := h.fit
  have hl : l.take n = l := by rw [← h.len]; exact List.take_length
  rw [hl] at hk
  refine ⟨_, _, fun u => ?_, hk⟩
  rw [run_slice_l u _ A n cap elem64 .i64 lo (by omega) (by omega), size64]
  simp [Result.andThen, sliced, hm]
/-- Numbers that are made: n zeros. -/
theorem make_ints (n : Nat) (w : World) (hn : n ≤ 1000000) : ∃ w', (Instr.makeSlice 22 (.int .i64 (n : Int)) (.int .i64 (n : Int))).run Try.prog w = .ok (.slice (some ⟨w.heap.size, 0, none⟩) n n) w' ∧ Cells w' w.heap.size 3 n (fun _ => .int .i64 0) ∧ Below w.heap.size w w' := by
  obtain ⟨i0, hi, hz0, hz1, hz2⟩ := info_parts infoI64
  have := run_make (P := Try.prog) w 22 3 i0 (.int .i64 0) Try.underlying22 hi hz0 .i64 .i64 n n (by omega) (by omega) (by rw [hz2]; omega) (by omega)
  rw [hz1] at this
  simp only [Int.toNat_natCast, Nat.mul_one] at this
  refine ⟨_, this, ⟨_, heap_alloc_new w _, size_madeCells _ _, fun j hj => ?_⟩, bnew w _⟩
  unfold madeCells
  have hz : (Value.int IntKind.i64 0).cells = #[Value.int .i64 0] := rfl
  rw [hz]
  rw [Array.getElem?_map, Array.getElem?_range, if_pos hj]
  simp [Nat.mod_one]
theorem make_u8s (n : Nat) (w : World) (hn : n ≤ 1000000) : ∃ w', (Instr.makeSlice 25 (.int .i64 (n : Int)) (.int .i64 (n : Int))).run Try.prog w = .ok (.slice (some ⟨w.heap.size, 0, none⟩) n n) w' ∧ Cells w' w.heap.size 5 n (fun _ => .int .u8 0) ∧ Below w.heap.size w w' := by
  obtain ⟨i0, hi, hz0, hz1, hz2⟩ := info_parts infoB8
  have := run_make (P := Try.prog) w 25 5 i0 (.int .u8 0) Try.underlying25 hi hz0 .i64 .i64 n n (by omega) (by omega) (by rw [hz2]; omega) (by omega)
  rw [hz1] at this
  simp only [Int.toNat_natCast, Nat.mul_one] at this
  refine ⟨_, this, ⟨_, heap_alloc_new w _, size_madeCells _ _, fun j hj => ?_⟩, bnew w _⟩
  unfold madeCells
  have hz : (Value.int IntKind.u8 0).cells = #[Value.int .u8 0] := rfl
  rw [hz]
  rw [Array.getElem?_map, Array.getElem?_range, if_pos hj]
  simp [Nat.mod_one]

def IntsV (w : World) (v : Value) (l : List Int) : Prop := ∃ A n cap, v = .slice A n cap ∧ IAt (fun _ => True) w A n cap l
theorem open_i64c {H : Type} {enc : TypeId × Value → H} {w : World} {base fuel : Nat} {spare : Nat → Bool} {held : Bool} {v : Value} {x : DataW H × List MemPlace} (hf : DataW.trod enc Try.prog w base spare held fuel 22 [v] = some x) : ∃ l : List Int, IntsV w v l := by
  have hc : Try.prog.cellsOf 3 = 1 := by kernel_rfl
  rcases open_ints Try.underlying22 Try.underlying3 hc hf with ⟨hcs, hx⟩ | ⟨a, len, cap, zs, hcs, _, hl, hm, hz, hx, hcell, hwz⟩
  · obtain rfl : v = .slice none 0 0 := by simpa using hcs
    exact ⟨[], none, 0, 0, rfl, IAt.empty _ _⟩
  · obtain rfl : v = .slice (some a) len cap := by simpa using hcs
    have hlz : len ≤ zs.length := by rw [hz]; split <;> omega
    refine ⟨zs.take len, some a, len, cap, rfl, by simp; omega, hl, hm, fun h => (by cases h), fun hp => ?_⟩
    obtain ⟨b, off, rfl, hcell'⟩ := ints_at hcell (by omega)
    refine ⟨b, off, rfl, trivial, ?_, fun j hj => ?_⟩
    · exact blk_lt (hcell' 0 (by omega))
    · rw [hcell' j (by omega), gI_take _ _ _ hj]
      rfl
set_option maxRecDepth 100000 in
theorem open_i64 {H : Type} {enc : TypeId × Value → H} {w : World} {base b0 : Nat} {spare : Nat → Bool} {held : Bool} {r : Reach} {v : Value} {d : DataW H} {p : List MemPlace}
    (hv : Value.okWide Try.prog w r b0 22 v) (h : DataW.Trod enc Try.prog w base spare held 22 v d p) : ∃ l : List Int, IntsV w v l := by
  obtain ⟨a1, len, cap, rfl⟩ := okWide_slice Try.underlying22 hv
  obtain ⟨fuel, hf⟩ := h
  exact open_i64c (v := .slice a1 len cap) hf

end Go.Proofs.Ythlaglhlmbkniaa
