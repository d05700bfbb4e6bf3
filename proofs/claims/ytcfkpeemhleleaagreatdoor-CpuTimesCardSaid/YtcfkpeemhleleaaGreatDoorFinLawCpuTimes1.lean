/- Texts put together: CpuCase, CpuMem, CpuCopyM, CpuFill, OpLists, OpRefLists, OpHas, OpPlainL, MicroRef, MicroMore, MicroDoc, CpuTimesW. -/
import Derived.Test.YtcfkpeemhleleaaGreatDoorBas6
import Derived.Test.YtcfkpeemhleleaaGreatDoorBas1
import Derived.ChangeSlices
import Derived.Below
import Derived.Laws.StructEq
import Derived.Laws.CopyRow
import Derived.Laws.CopyOwn
import Derived.LoopTactic
import Derived.BigRegion
import Derived.Deep.RegionHeld3
/- A case of layer 12 as an argument: registers, bytes, five bytes, bytes: opened to its cells. -/
namespace Go.Proofs.YtcfkpeemhleleaaGreatDoor
open Go.ChangeShapes Go.WideShapes Go.ChangeAt Go.RowKit
set_option linter.unusedVariables false
set_option maxRecDepth 100000

theorem laidOut : laidOutB Tryz.prog = true := by kernel_rfl
theorem open_mix_cells {H : Type} {enc : TypeId × Value → H} {P : Program} {w : World} {base : Nat} {spare : Nat → Bool} {held : Bool} {t : TypeId} {fs : Array Field} {ks : List (Option IntKind)} {fuel : Nat} {cs : List Value} {y : DataW H × List MemPlace}
    (ht : P.underlying t = some (.struct fs)) (hC : P.cellsOf t = ks.length) (hF : MixFields P fs ks) (h : DataW.trod enc P w base spare held fuel t cs = some y) :
    cs.length = ks.length ∧ ∀ i (h1 : i < ks.length) (h2 : i < cs.length), MixOk ks[i] cs[i] := by
  obtain ⟨xs, n, _, hx, hl, hlen, hat⟩ := DataW.trod_struct ht h
  obtain ⟨hn, hk⟩ := hF
  refine ⟨by rw [hl, hC], fun i hi hc => ?_⟩
  obtain ⟨f, e1, e2, e3, e4⟩ := hk i hi
  have hxx : i < xs.length := by rw [hlen, hn]; exact hi
  have h1 := hat i f e1
  rw [e2, e3, List.drop_eq_getElem_cons hc, List.getElem?_eq_getElem hxx] at h1
  exact (trod_mix e4 h1).1
theorem block_of_cell {w : World} {a : Addr} {v : Value} (h : w.cell? a = some v) : a.block < w.heap.size := by
  unfold World.cell? at h
  split at h
  · rename_i hb; exact (Array.getElem?_eq_some_iff.1 hb).1
  · cases h
/-- A case. -/
structure Cs where
  r : Rg
  code : Value
  f0 : Int
  f1 : Int
  f2 : Int
  f3 : Int
  f4 : Int
  ports : Value
  l : List Int
def Cs.rest (x : Cs) : List Value := [x.code, .int .u8 x.f0, .int .u8 x.f1, .int .u8 x.f2, .int .u8 x.f3, .int .u8 x.f4, x.ports]
def Cs.cells (x : Cs) : List Value := x.r.cells ++ x.rest
theorem Cs.len (x : Cs) : x.cells.length = 37 := rfl
/-- Bytes that came in. -/
def BytesIn (w : World) (v : Value) (l : List Int) : Prop :=
  ∃ A cap, v = .slice A l.length cap ∧ l.length ≤ cap ∧ cap ≤ maxLen ∧ (∀ j, B8 (l.getD j 0)) ∧ (0 < l.length → ∃ b off, A = some ⟨b, off, none⟩ ∧ b < w.heap.size ∧ ∀ j, j < l.length → w.cell? ⟨b, off + j, none⟩ = some (.int .u8 (l.getD j 0)))
theorem BytesIn.below {w w' : World} {v : Value} {l : List Int} (h : BytesIn w v l) (hb : Below w.heap.size w w') : BytesIn w' v l := by
  obtain ⟨A, cap, h1, h2, h3, h4, h5⟩ := h
  refine ⟨A, cap, h1, h2, h3, h4, fun hl => ?_⟩
  obtain ⟨b, off, e1, e2, e3⟩ := h5 hl
  exact ⟨b, off, e1, Nat.lt_of_lt_of_le e2 hb.size, fun j hj => (hb.cell (p := ⟨b, off + j, none⟩) e2).trans (e3 j hj)⟩
structure Cs.Ok (w : World) (x : Cs) : Prop where
  r : x.r.Ok
  b0 : B8 x.f0
  b1 : B8 x.f1
  b2 : B8 x.f2
  b3 : B8 x.f3
  b4 : B8 x.f4
  code : BytesIn w x.code x.l
  ports : ∃ A n c, x.ports = .slice A n c
def CaseAt (w : World) (v : Value) (x : Cs) : Prop := v = .agg x.cells.toArray ∧ x.Ok w
theorem open_bytes1 {H : Type} {enc : TypeId × Value → H} {w : World} {base : Nat} {held : Bool} {fuel : Nat} {c : Value} {y : DataW H × List MemPlace}
    (h : DataW.trod enc Tryz.prog w base (fun _ => true) held fuel 25 [c] = some y) : ∃ l, BytesIn w c l := by
  have hc : Tryz.prog.cellsOf 5 = 1 := by kernel_rfl
  rcases open_ints Tryz.underlying25 Tryz.underlying5 hc h with ⟨hcs, hx⟩ | ⟨a, len, cap, zs, hcs, _, hl, hm, hz, hx, hcell, hwz⟩
  · obtain rfl : c = .slice none 0 0 := by simpa using hcs
    exact ⟨[], none, 0, rfl, Nat.le_refl _, by unfold maxLen; omega, fun j => by rw [List.getD_eq_getElem?_getD, List.getElem?_nil]; exact ⟨by decide, by decide⟩, fun h => absurd h (by simp)⟩
  · obtain rfl : c = .slice (some a) len cap := by simpa using hcs
    simp only [if_true] at hz
    have hlen : (zs.take len).length = len := by rw [List.length_take]; omega
    have hb : ∀ j, B8 (zs.getD j 0) := fun j => by rw [List.getD_eq_getElem?_getD]; exact range_u8 hwz j
    have hget : ∀ j, j < len → (zs.take len).getD j 0 = zs.getD j 0 := fun j hj => by rw [List.getD_eq_getElem?_getD, List.getD_eq_getElem?_getD, List.getElem?_take_of_lt hj]
    refine ⟨zs.take len, some a, cap, by rw [hlen], by omega, hm, fun j => ?_, fun hp => ?_⟩
    · by_cases hj : j < len
      · rw [hget j hj]; exact hb j
      · rw [List.getD_eq_getElem?_getD, List.getElem?_eq_none (by omega)]; exact (show B8 0 from ⟨by decide, by decide⟩)
    · rw [hlen] at hp
      obtain ⟨b, off, rfl, hcell'⟩ := ints_at hcell (by omega)
      refine ⟨b, off, rfl, block_of_cell (hcell' 0 (by omega)), fun j hj => ?_⟩
      rw [hlen] at hj
      rw [hcell' j (by omega), hget j hj]
theorem case_cells {H : Type} {enc : TypeId × Value → H} {w : World} {base : Nat} {held : Bool} {fuel : Nat} {cs : List Value} {y : DataW H × List MemPlace}
    (h : DataW.trod enc Tryz.prog w base (fun _ => true) held fuel 28 cs = some y) : ∃ x : Cs, cs = x.cells ∧ x.Ok w := by
  have hc : Tryz.prog.cellsOf 28 = 37 := by kernel_rfl
  have c0 : Tryz.prog.cellsOf 24 = 30 := by kernel_rfl
  have c1 : Tryz.prog.cellsOf 25 = 1 := by kernel_rfl
  have c2 : Tryz.prog.cellsOf 26 = 5 := by kernel_rfl
  have c3 : Tryz.prog.cellsOf 5 = 1 := by kernel_rfl
  obtain ⟨xs, n, _, _, hl, hlen, hf⟩ := DataW.trod_struct Tryz.underlying28 h
  rw [hc] at hl
  have hx4 : xs.length = 4 := hlen
  match xs, hx4 with
  | [y0, y1, y2, y3], _ =>
  have g0 : DataW.trod enc Tryz.prog w base (fun _ => true) held n 24 ((cs.drop 0).take (Tryz.prog.cellsOf 24)) = some y0 := hf 0 _ rfl
  have g1 : DataW.trod enc Tryz.prog w base (fun _ => true) held n 25 ((cs.drop 30).take (Tryz.prog.cellsOf 25)) = some y1 := hf 1 _ rfl
  have g2 : DataW.trod enc Tryz.prog w base (fun _ => true) held n 26 ((cs.drop 31).take (Tryz.prog.cellsOf 26)) = some y2 := hf 2 _ rfl
  have g3 : DataW.trod enc Tryz.prog w base (fun _ => true) held n 25 ((cs.drop 36).take (Tryz.prog.cellsOf 25)) = some y3 := hf 3 _ rfl
  rw [c0, List.drop_zero] at g0
  rw [c1] at g1 g3
  rw [c2] at g2
  obtain ⟨hl0, hw⟩ := open_mix_cells Tryz.underlying24 reg_cells (reg_fields Tryz.underlying24) g0
  obtain ⟨r, hr, ok⟩ := regs_of _ hl0 hw
  have hD : (cs.drop 30).length = 7 := by rw [List.length_drop, hl]
  have e31 : cs.drop 31 = (cs.drop 30).drop 1 := by rw [List.drop_drop]
  have e36 : cs.drop 36 = (cs.drop 30).drop 6 := by rw [List.drop_drop]
  have hcs : cs = r.cells ++ cs.drop 30 := by rw [← hr, List.take_append_drop]
  rw [e31] at g2
  rw [e36] at g3
  generalize cs.drop 30 = D at *
  match D, hD with
  | [d0, d1, d2, d3, d4, d5, d6], _ =>
  obtain ⟨l, b0⟩ := open_bytes1 (c := d0) g1
  obtain ⟨l3, A3, cap3, e3, _⟩ := open_bytes1 (c := d6) g3
  obtain ⟨zs, m, _, _, _, hz, hat⟩ := DataW.trod_array Tryz.underlying26 g2
  rw [c3] at hat
  have one : ∀ i (hi : i < 5) (d : Value), (([d1, d2, d3, d4, d5] : List Value).drop (i * 1)).take 1 = [d] → ∃ z, d = .int .u8 z ∧ B8 z := fun i hi d hd => by
    have h1 := hat i hi
    rw [show (List.take 5 (List.drop 1 [d0, d1, d2, d3, d4, d5, d6])) = [d1, d2, d3, d4, d5] from rfl, hd, List.getElem?_eq_getElem (by rw [hz]; exact hi)] at h1
    obtain ⟨z, k1, _, wz⟩ := DataW.trod_int Tryz.underlying5 h1
    exact ⟨z, by simpa using k1, bounds_u8 wz⟩
  obtain ⟨z1, rfl, k1⟩ := one 0 (by decide) d1 rfl
  obtain ⟨z2, rfl, k2⟩ := one 1 (by decide) d2 rfl
  obtain ⟨z3, rfl, k3⟩ := one 2 (by decide) d3 rfl
  obtain ⟨z4, rfl, k4⟩ := one 3 (by decide) d4 rfl
  obtain ⟨z5, rfl, k5⟩ := one 4 (by decide) d5 rfl
  exact ⟨⟨r, d0, z1, z2, z3, z4, z5, d6, l⟩, hcs, ok, k1, k2, k3, k4, k5, b0, _, _, _, e3⟩
theorem open_case {H : Type} {enc : TypeId × Value → H} {w : World} {base b0 : Nat} {held : Bool} {r : Reach} {v : Value} {d : DataW H} {p : List MemPlace}
    (hv : Value.okWide Tryz.prog w r b0 28 v) (h : DataW.Trod enc Tryz.prog w base (fun _ => true) held 28 v d p) : ∃ x : Cs, CaseAt w v x := by
  obtain ⟨cs, rfl, hsz⟩ := okWide_struct Tryz.underlying28 hv
  obtain ⟨fuel, hf⟩ := h
  have hcs : (Value.agg cs).cells = cs := rfl
  rw [hcs] at hf
  obtain ⟨x, hx, ok⟩ := case_cells hf
  exact ⟨x, by rw [← hx], ok⟩
theorem Cs.one {w : World} {x : Cs} (h : x.Ok w) : ∀ u ∈ x.cells, u.oneCell' = true := by
  intro u hu
  obtain ⟨A, cap, e, _⟩ := h.code
  obtain ⟨A3, n3, c3, e3⟩ := h.ports
  rcases List.mem_append.1 hu with h1 | h1
  · exact x.r.one u h1
  · simp only [Cs.rest, List.mem_cons, List.not_mem_nil, or_false] at h1
    rcases h1 with rfl | rfl | rfl | rfl | rfl | rfl | rfl
    · rw [e]; rfl
    · rfl
    · rfl
    · rfl
    · rfl
    · rfl
    · rw [e3]; rfl
/-- A case to begin with, and how it reads. -/
def caseW : Value := .agg (Cs.cells ⟨Rg.zero, .slice none 0 0, 0, 0, 0, 0, 0, .slice none 0 0, []⟩).toArray
def caseD {H : Type} : DataW H := .agg [.agg (Rg.zero.cells.map mixD), .nil, .agg [.lit (.int .u8 0), .lit (.int .u8 0), .lit (.int .u8 0), .lit (.int .u8 0), .lit (.int .u8 0)], .nil]
/-- A case in a box: its registers, its parts. -/
theorem Cs.box (x : Cs) (w : World) (t : TypeId) : RegAt (w.alloc (.cells x.cells.toArray t)) w.heap.size x.r ∧ ∀ j u, x.rest[j]? = some u → (w.alloc (.cells x.cells.toArray t)).cell? ⟨w.heap.size, 30 + j, none⟩ = some u := by
  have hn : (w.alloc (.cells x.cells.toArray t)).heap[w.heap.size]? = some (.cells x.cells.toArray t (0, 0)) := heap_alloc_new w _
  have hl : x.r.cells.length = 30 := Rg.len _
  refine ⟨⟨by simp, fun j u hj => ?_, fun j => frozen_of_row _ _ j _ _ hn⟩, fun j u hj => ?_⟩
  · have h1 : j < x.r.cells.length := (List.getElem?_eq_some_iff.1 hj).1
    rw [Nat.zero_add, cell_of_row _ _ j _ _ (0, 0) hn, List.getElem?_toArray, Cs.cells, List.getElem?_append_left h1]; exact hj
  · rw [cell_of_row _ _ _ _ _ (0, 0) hn, List.getElem?_toArray, Cs.cells, List.getElem?_append_right (by omega), hl, Nat.add_sub_cancel_left]; exact hj

end Go.Proofs.YtcfkpeemhleleaaGreatDoor
/- A whole memory as a value: read, written, held against another; a box of it. -/
namespace Go.Proofs.YtcfkpeemhleleaaGreatDoor
open Go.RowKit
set_option maxRecDepth 100000
set_option linter.unusedVariables false
set_option linter.unusedSimpArgs false

theorem forIn_same {P : Program} {β : Type} (w : World) (b : β) (f : Nat → β → Sem (ForInStep β)) : ∀ is : List Nat, (∀ i ∈ is, (f i b).run P w = .ok (.yield b) w) → (forIn is b f).run P w = .ok b w
  | [], _ => by simp
  | i :: is, h => by
    rw [List.forIn_cons]
    simp only [Sem.run_bind, h i (by simp), Result.andThen_ok]
    exact forIn_same w b f is (fun j hj => h j (by simp [hj]))
theorem mem_eq (M : Nat → Int) (w : World) : (Op.equalIn 10000 32 (.agg (memA M)) (.agg (memA M))).run Tryz.prog w = .ok true w := by
  have ht : Tryz.prog.underlying 32 = some (.array 65536 5) := Tryz.underlying32
  have he : Tryz.prog.underlying 5 = some (.int .u8) := Tryz.underlying5
  have hsz : ∀ w, (sizeOf 5).run Tryz.prog w = .ok 1 w := fun _ => by kernel_rfl
  have pp : ∀ j, j < 65536 → ∀ w, (part 5 (memA M) j).run Tryz.prog w = .ok (.int .u8 (M j)) w := fun j hj w => by simp [part, isAgg, run_underlying he, memA_at M j hj]
  have pe : ∀ (x : Int) w, (Op.equalIn 9999 5 (.int .u8 x) (.int .u8 x)).run Tryz.prog w = .ok true w := fun x w => by
    have := run_equalIn_int w 9998 5 .u8 .u8 x x he
    simpa using this
  generalize memA M = A at *
  rw [Op.equalIn]
  simp only [Sem.run_bind, run_underlying ht, Result.andThen_ok, hsz, Std.Legacy.Range.forIn_eq_forIn_range', Std.Legacy.Range.size, Nat.sub_zero, Nat.add_sub_cancel, Nat.div_one]
  rw [forIn_same]
  · simp
  · intro i hi
    have hi' : i < 65536 := by
      rw [List.mem_range'_1] at hi
      omega
    simp only [Nat.mul_one, Sem.run_bind, pp i hi', Result.andThen_ok, pe]
    simp
def memEql (x y : Value) : Sem Value := binOp .eql 32 x y
theorem memEql_as (x y : Value) : binOp .eql 32 x y = memEql x y := rfl
theorem run_memEql (M : Nat → Int) (u : World) : (memEql (.agg (memA M)) (.agg (memA M))).run Tryz.prog u = .ok (.bool true) u := by
  unfold memEql
  rw [run_eql_struct, mem_eq]; rfl
def memLoad (v : Value) : Sem Value := Instr.loadAt 32 v
theorem memLoad_as (v : Value) : Instr.loadAt 32 v = memLoad v := rfl
theorem memA_list (M : Nat → Int) (j : Nat) (v : Value) (h : (memA M).toList[j]? = some v) : j < 65536 ∧ v = .int .u8 (M j) := by
  have hj6 : j < 65536 := by
    have := (List.getElem?_eq_some_iff.1 h).1
    rwa [memA_len] at this
  rw [Array.getElem?_toList, memA_at M j hj6] at h
  injection h with h
  exact ⟨hj6, h.symm⟩
theorem run_memLoad (M : Nat → Int) (b o : Nat) (u : World) (h : ∀ j, j < 65536 → u.cell? ⟨b, o + j, none⟩ = some (.int .u8 (M j))) : (memLoad (.pointer (some ⟨b, o, none⟩))).run Tryz.prog u = .ok (.agg (memA M)) u := by
  have := run_loadAt_mid (P := Tryz.prog) u b o 32 (memA M).toList _ (fun j v hj => by
    obtain ⟨h1, h2⟩ := memA_list M j v hj
    rw [h j h1, h2]) Tryz.underlying32 rfl (by rw [memA_len]; kernel_rfl)
  rw [Array.toArray_toList] at this
  exact this
theorem memA_one (M : Nat → Int) : (memA M).all (·.oneCell') = true := by
  unfold memA
  refine all_oneCell_toArray fun u hu => ?_
  obtain ⟨j, _, rfl⟩ := List.mem_map.1 hu
  rfl
/-- A memory in a box of its own. -/
def mC (M : Nat → Int) (j : Nat) : Value := .int .u8 (M j)
abbrev MemAt (w : World) (g : Nat) (M : Nat → Int) : Prop := Cells w g 32 65536 (mC M)
theorem mC_upd (M : Nat → Int) (a : Nat) (v : Int) : upd (mC M) a (.int .u8 v) = mC (updN M a v) := by
  funext j
  by_cases e : j = a
  · subst e
    rw [upd_same]; unfold mC; rw [updN_same]
  · unfold upd mC updN
    rw [if_neg e, if_neg e]
theorem MemAt.set {w : World} {g : Nat} {M : Nat → Int} (h : MemAt w g M) (a : Nat) (v : Int) : MemAt (w.setCell ⟨g, a, none⟩ (.int .u8 v)) g (updN M a v) := by
  have := Cells.set h a (.int .u8 v)
  rwa [mC_upd] at this
def memAlloc (h : Bool) (o : Value) : Sem Value := Instr.alloc 32 h o
theorem memAlloc_as (h : Bool) (o : Value) : Instr.alloc 32 h o = memAlloc h o := rfl
def memStore (p v : Value) : Sem Unit := Instr.storeAt 32 p v
theorem memStore_as (p v : Value) : Instr.storeAt 32 p v = memStore p v := rfl
theorem memZero_ok : eatO [(65536, isU8z)] (Tryz.prog.info? 32) = true := by kernel_rfl
theorem memZero : ∃ i A, Tryz.prog.info? 32 = some i ∧ i.zero = some (.agg A) ∧ A.size = 65536 ∧ ∀ j, j < 65536 → A[j]? = some (mC (fun _ => 0) j) := by
  obtain ⟨i, A, h1, h2, h3, h4⟩ := zero_of _ _ memZero_ok
  refine ⟨i, A, h1, h2, h3, fun j hj => ?_⟩
  obtain ⟨v, a1, a2⟩ := h4 j hj
  simp only [atZ, if_pos hj] at a2
  rw [a1, of_u8z a2]; rfl
theorem run_memAlloc : ∃ A : Array Value, A.size = 65536 ∧ (∀ j, j < 65536 → A[j]? = some (mC (fun _ => 0) j)) ∧ ∀ u : World, (memAlloc true (.tuple #[])).run Tryz.prog u = .ok (.pointer (some ⟨u.heap.size, 0, none⟩)) (u.alloc (.cells A 32)) := by
  obtain ⟨i, A, h1, h2, h3, h4⟩ := memZero
  refine ⟨A, h3, h4, fun u => ?_⟩
  have hc : (Value.agg A).cells = A := rfl
  simp only [memAlloc, Instr.alloc, zeroValue, Sem.run_bind, typeInfo, newVar, newRow]
  simp [h1, h2, hc]
/-- A memory written whole. -/
theorem run_memStore {w : World} {g : Nat} {M0 : Nat → Int} (h : MemAt w g M0) (M : Nat → Int) : ∃ W : World, (memStore (.pointer (some ⟨g, 0, none⟩)) (.agg (memA M))).run Tryz.prog w = .ok () W ∧ MemAt W g M ∧ W.heap.size = w.heap.size ∧ (∀ k, k ≠ g → W.heap[k]? = w.heap[k]?) ∧ W.os = w.os ∧ W.tape = w.tape ∧ W.output = w.output := by
  obtain ⟨A, h1, h2, _⟩ := h
  have hsz := memA_size M
  have hone := memA_one M
  have hat := memA_at M
  generalize memA M = B at *
  have := run_storeVar_row (P := Tryz.prog) w g 32 32 A B h1 (by rw [hsz]; kernel_rfl) (by rw [h2, hsz]) hone
  refine ⟨w.setRow g B, by simp only [memStore, Instr.storeAt, Instr.sureAddr, Sem.run_bind, Sem.run_pure, Result.andThen_ok, this], ⟨B, setRow_heap _ _ _ _ _ _ h1, hsz, hat⟩, by simp [World.setRow], fun k hk => ?_, rfl, rfl, rfl⟩
  simp [World.setRow, Array.getElem?_modify, Ne.symm hk]
/-- The result is a memory that lies in a block. -/
theorem results_mem {fn : Func} {p : Tmp} (h : fn.results = #[.cell p 32]) (tmps : Array Value) {w : World} {g : Nat} {M : Nat → Int} (hr : MemAt w g M) (hp : tmps.getD p undef = .pointer (some ⟨g, 0, none⟩)) :
    (results fn tmps).run Tryz.prog w = .ok (.agg (memA M)) w := by
  have hp' : tmps[p]?.getD undef = .pointer (some ⟨g, 0, none⟩) := by simpa using hp
  have hl := run_loadVar_mid (P := Tryz.prog) w g 0 32 (memA M).toList _ (fun j v hj => by
    obtain ⟨h1, h2⟩ := memA_list M j v hj
    rw [Nat.zero_add, Cells.cell hr j h1, h2]; rfl) Tryz.underlying32 rfl (by rw [memA_len]; kernel_rfl)
  rw [Array.toArray_toList] at hl
  simp [results, h, hp', asAddr, hl]

end Go.Proofs.YtcfkpeemhleleaaGreatDoor
/- Ldir as often as BC says: what memory becomes; memories filled. No walk. -/
namespace Go.Proofs.YtcfkpeemhleleaaGreatDoor
open Go.RowKit
set_option maxRecDepth 100000
set_option linter.unusedVariables false

/-- Memory of which the first n bytes were filled. -/
def fillN (F : Nat → Int) (n : Nat) : Nat → Int := fun j => if j < n then F j else 0
theorem fillN_0 (F : Nat → Int) : fillN F 0 = fun _ => 0 := by
  funext j
  unfold fillN
  rw [if_neg (by omega)]
theorem fillN_put (F : Nat → Int) (n : Nat) : updN (fillN F n) n (F n) = fillN F (n + 1) := by
  funext j
  unfold updN fillN
  by_cases e : j = n
  · subst e
    rw [if_pos rfl, if_pos (by omega)]
  · by_cases h : j < n
    · rw [if_neg e, if_pos h, if_pos (by omega)]
    · rw [if_neg e, if_neg h, if_neg (by omega)]
theorem fillN_b8 {F : Nat → Int} (h : ∀ a, B8 (F a)) (n a : Nat) : B8 (fillN F n a) := by
  unfold fillN
  split
  · exact h a
  · exact b8_0
/-- The bytes from d on that were copied of those from s on, i of them, one behind the other. -/
def cpN (M : Nat → Int) (s d : Nat) : Nat → Nat → Int
  | 0 => M
  | i + 1 => updN (cpN M s d i) (d + i) (cpN M s d i (s + i))
theorem cpN_b8 {M : Nat → Int} (h : ∀ a, B8 (M a)) (s d : Nat) : ∀ i a, B8 (cpN M s d i a)
  | 0 => h
  | i + 1 => b8_upd (cpN_b8 h s d i) _ (cpN_b8 h s d i _)
theorem cpN_far (M : Nat → Int) (s d a : Nat) : ∀ i, a < d ∨ d + i ≤ a → cpN M s d i a = M a
  | 0, _ => rfl
  | i + 1, h => by
    show updN _ _ _ a = _
    rw [updN_other _ _ _ _ (by omega), cpN_far M s d a i (by omega)]
def ldR (p s d k : Nat) : Rg := { Rg.zero with pc := p, c := k, h := (s : Int) / 256, l := (s : Int) % 256, d := (d : Int) / 256, e := (d : Int) % 256 }
/-- Behind i bytes of k. -/
structure Sq (M : Nat → Int) (p s d k i : Nat) (x : Cp) (y : Fl) : Prop where
  idle : x.Idle
  calm : y.Calm
  t : y.t ≤ 21 * (i : Int)
  M : y.M = cpN M s d i
  lp : Lp x.r (if i < k then (p : Int) else (p : Int) + 2) ((s : Int) + i) ((d : Int) + i) ((k : Int) - i)
theorem sq_start {M : Nat → Int} (hM : ∀ a, B8 (M a)) {p s d k : Nat} (hp : p ≤ 65000) (hs : s ≤ 65000) (hd : d ≤ 65000) (k0 : 1 ≤ k) (k1 : k ≤ 60) : Sq M p s d k 0 (cpZ (ldR p s d k)) { flZ with M := M } := by
  have ok : (ldR p s d k).Ok := { zero_ok12 with pc := ⟨by show (0 : Int) ≤ (p : Int); omega, by show (p : Int) ≤ 65535; omega⟩, c := ⟨by show (0 : Int) ≤ (k : Int); omega, by show (k : Int) ≤ 255; omega⟩, h := ⟨by show (0 : Int) ≤ (s : Int) / 256; omega, by show (s : Int) / 256 ≤ 255; omega⟩, l := ⟨by show (0 : Int) ≤ (s : Int) % 256; omega, by show (s : Int) % 256 ≤ 255; omega⟩, d := ⟨by show (0 : Int) ≤ (d : Int) / 256; omega, by show (d : Int) / 256 ≤ 255; omega⟩, e := ⟨by show (0 : Int) ≤ (d : Int) % 256; omega, by show (d : Int) % 256 ≤ 255; omega⟩ }
  refine ⟨cpZ_idle ok rfl rfl, calm_flZ hM rfl rfl rfl, by show (0 : Int) ≤ _; omega, rfl, ?_, ?_, ?_, ?_⟩
  · rw [if_pos (by omega)]; rfl
  · show (s : Int) / 256 * 256 + (s : Int) % 256 = _; omega
  · show (d : Int) / 256 * 256 + (d : Int) % 256 = _; omega
  · show (0 : Int) * 256 + (k : Int) = _; omega
theorem sq_step {M : Nat → Int} {p s d k i : Nat} {x : Cp} {y : Fl} (hM : ∀ a, B8 (M a)) (hp : p ≤ 65000) (hs : s ≤ 65000) (hd : d ≤ 65000) (k1 : k ≤ 60) (h237 : M p = 237) (h176 : M (p + 1) = 176) (far : p + 1 < d ∨ d + 60 ≤ p) (hi : i < k) (h : Sq M p s d k i x y) :
    ∃ n x' y', (∃ z u, Tik x y z u ∧ 0 ≤ u.t ∧ u.t ≤ 1000000000 ∧ Run z (later u) n x' y') ∧ Sq M p s d k (i + 1) x' y' ∧ n + 1 = (if i + 1 = k then 16 else 21) ∧ n ≤ 100000 := by
  have lp := h.lp
  rw [if_pos hi] at lp
  have e1 : y.M (p : Int).toNat = 237 := by rw [h.M, Int.toNat_natCast, cpN_far _ _ _ _ _ (by omega)]; exact h237
  have e2 : y.M ((p : Int) + 1).toNat = 176 := by rw [h.M, show ((p : Int) + 1).toNat = p + 1 by omega, cpN_far _ _ _ _ _ (by omega)]; exact h176
  have eM : updN y.M ((d : Int) + i).toNat (y.M ((s : Int) + i).toNat) = cpN M s d (i + 1) := by
    rw [h.M, show ((d : Int) + i).toNat = d + i by omega, show ((s : Int) + i).toNat = s + i by omega]; rfl
  have ht := h.t
  have h0 := h.calm.t0
  have hcalm : ∀ {n x' y'} {r : Rg} {M' : Nat → Int}, Did x y n r M' x' y' → M' = cpN M s d (i + 1) → n ≤ 20 → y'.Calm ∧ y'.t ≤ 21 * ((i + 1 : Nat) : Int) := fun dd eM' hn => by
    have ett := dd.t
    have h2 : y.t ≤ 21 * (i : Int) := ht
    refine ⟨⟨by rw [dd.line]; exact h.calm.line, by rw [dd.M, eM']; exact cpN_b8 hM s d _, by rw [dd.acts]; exact h.calm.acts, by rw [ett]; omega, by rw [ett]; omega⟩, by rw [ett]; omega⟩
  by_cases hl : i + 1 = k
  · have hk : (k : Int) - i = 1 := by omega
    rw [hk] at lp
    obtain ⟨x', y', dd, lp'⟩ := ldir_last h.idle h.calm lp (by omega) (by omega) (by omega) (by omega) (by omega) (by omega) e1 e2
    obtain ⟨hc, ht'⟩ := hcalm dd eM (by omega)
    refine ⟨15, x', y', dd.run, ⟨dd.idle, hc, ht', by rw [dd.M, eM], ?_⟩, by rw [if_pos hl], by omega⟩
    rw [if_neg (by omega), show (s : Int) + ((i + 1 : Nat) : Int) = (s : Int) + i + 1 by omega, show (d : Int) + ((i + 1 : Nat) : Int) = (d : Int) + i + 1 by omega, show (k : Int) - ((i + 1 : Nat) : Int) = 0 by omega]
    exact lp'
  · obtain ⟨x', y', dd, lp'⟩ := ldir_more h.idle h.calm lp (by omega) (by omega) (by omega) (by omega) (by omega) (by omega) (by omega) (by omega) e1 e2
    obtain ⟨hc, ht'⟩ := hcalm dd eM (by omega)
    refine ⟨20, x', y', dd.run, ⟨dd.idle, hc, ht', by rw [dd.M, eM], ?_⟩, by rw [if_neg hl], by omega⟩
    rw [if_pos (by omega), show (s : Int) + ((i + 1 : Nat) : Int) = (s : Int) + i + 1 by omega, show (d : Int) + ((i + 1 : Nat) : Int) = (d : Int) + i + 1 by omega, show (k : Int) - ((i + 1 : Nat) : Int) = (k : Int) - i - 1 by omega]
    exact lp'
theorem sq_end {M : Nat → Int} {p s d k : Nat} {x : Cp} {y : Fl} (h : Sq M p s d k k x y) : x.r.b = 0 ∧ x.r.c = 0 ∧ x.r.pc = (p : Int) + 2 ∧ y.M = cpN M s d k := by
  have lp := h.lp
  rw [if_neg (by omega)] at lp
  have hb := h.idle.ok.r.b
  have hc := h.idle.ok.r.c
  have e := lp.bc
  unfold B8 at hb hc
  exact ⟨by omega, by omega, lp.pc, h.M⟩
/-- The rows are nil: the base may rise to the world's size. -/
theorem Mc.rebase {w0 w : World} {b f base : Nat} {x : Cp} {y : Fl} (h : Mc w0 w b f base x (.slice none 0 0) y (.slice none 0 0)) (hs : x.steps = []) (ha : y.acts = []) (B : Nat) (h1 : base ≤ B) (h2 : B ≤ w.heap.size) : Mc w w b f B x (.slice none 0 0) y (.slice none 0 0) := by
  refine ⟨h.cpu, h.free, h.fl, Nat.lt_of_lt_of_le h.lb h1, Nat.lt_of_lt_of_le h.lf h1, h.ne, h2, ⟨by rw [hs]; exact World.ownsRow_nil _ _ _ _, h2, by rw [hs]; exact Nat.zero_le _⟩, by rw [ha]; exact World.ownsRow_nil _ _ _ _, h.modes, ⟨Nat.lt_of_lt_of_le h.mg.1 h1, h.mg.2.1, h.mg.2.2⟩, Fr.refl _ _ _ _⟩

end Go.Proofs.YtcfkpeemhleleaaGreatDoor
/- Memory of a case: its contract; whether registers may be between two instructions. -/
namespace Go.Proofs.YtcfkpeemhleleaaGreatDoor
open Go.RowKit
set_option maxRecDepth 100000
set_option linter.unusedVariables false
set_option linter.unusedSimpArgs false
attribute [local simp ↓ high] memLoad_as memStore_as memAlloc_as

def Cs.fl (x : Cs) (j : Nat) : Int := if j = 0 then x.f0 else if j = 1 then x.f1 else if j = 2 then x.f2 else if j = 3 then x.f3 else x.f4
def casF (x : Cs) (j : Nat) : Int := (x.fl (j % 5) + (j / 256 : Nat)) % 256
theorem casF_b8 (x : Cs) (j : Nat) : B8 (casF x j) := by unfold casF B8; omega
/-- Amid filled: the case in block g, the result in g + 1, memory in g + 2. -/
structure FlS (w wr : World) (x : Cs) (M : Nat → Int) : Prop where
  reg : RegAt wr w.heap.size x.r
  rest : ∀ j u, x.rest[j]? = some u → wr.cell? ⟨w.heap.size, 30 + j, none⟩ = some u
  res : MemAt wr (w.heap.size + 1) (fun _ => 0)
  mem : MemAt wr (w.heap.size + 2) M
  below : Below w.heap.size w wr
  m8 : ∀ a, B8 (M a)
theorem FlS.put {w wr : World} {x : Cs} {M : Nat → Int} (h : FlS w wr x M) (a : Nat) {v : Int} (hv : B8 v) : FlS w (wr.setCell ⟨w.heap.size + 2, a, none⟩ (.int .u8 v)) x (updN M a v) := by
  have hb : ∀ k, k ≠ w.heap.size + 2 → (wr.setCell ⟨w.heap.size + 2, a, none⟩ (.int .u8 v)).heap[k]? = wr.heap[k]? := fun k hk => Below.heap_setCell _ _ _ _ hk
  refine ⟨h.reg.block (hb _ (by omega)) (by have := h.reg.lt; simpa [World.setCell] using this), fun j u hj => ?_, h.res.block (hb _ (by omega)), MemAt.set h.mem a v, h.below.setCell (by show w.heap.size ≤ w.heap.size + 2; omega) _, b8_upd h.m8 a hv⟩
  rw [World.cell?_of_block (w := wr) (a := ⟨w.heap.size, 30 + j, none⟩) (hb _ (by show w.heap.size ≠ w.heap.size + 2; omega))]
  exact h.rest j u hj
theorem FlS.drew {w wr : World} {x : Cs} {M : Nat → Int} (h : FlS w wr x M) : FlS w wr.drew x M := by
  have hd := (Below.refl wr.heap.size wr).drew
  refine ⟨h.reg.below hd, fun j u hj => ?_, h.res.below hd, h.mem.below hd, h.below.drew, h.m8⟩
  rw [hd.cell (p := ⟨w.heap.size, 30 + j, none⟩) h.reg.lt]; exact h.rest j u hj
theorem FlS.fill {w wr : World} {x : Cs} {M : Nat → Int} (h : FlS w wr x M) (j : Nat) (hj : j < 5) : wr.cell? ⟨w.heap.size, 31 + j, none⟩ = some (.int .u8 (x.fl j)) := by
  match j, hj with
  | 0, _ => exact h.rest 1 _ rfl
  | 1, _ => exact h.rest 2 _ rfl
  | 2, _ => exact h.rest 3 _ rfl
  | 3, _ => exact h.rest 4 _ rfl
  | 4, _ => exact h.rest 5 _ rfl
theorem FlS.start (w : World) (x : Cs) (t : TypeId) {A : Array Value} (hA : A.size = 65536) (hAc : ∀ j, j < 65536 → A[j]? = some (mC (fun _ => 0) j)) :
    FlS w (((w.alloc (.cells x.cells.toArray t)).alloc (.cells A 32)).alloc (.cells A 32)) x (fun _ => 0) := by
  obtain ⟨k, kr⟩ := x.box w t
  have s1 : (w.alloc (.cells x.cells.toArray t)).heap.size = w.heap.size + 1 := by simp
  have s2 : ((w.alloc (.cells x.cells.toArray t)).alloc (.cells A 32)).heap.size = w.heap.size + 2 := by simp
  have b1 := balloc (w.alloc (.cells x.cells.toArray t)) (.cells A 32)
  have b2 := balloc ((w.alloc (.cells x.cells.toArray t)).alloc (.cells A 32)) (.cells A 32)
  have m1 := Cells.new (w.alloc (.cells x.cells.toArray t)) A 32 65536 _ hA hAc
  have m2 := Cells.new ((w.alloc (.cells x.cells.toArray t)).alloc (.cells A 32)) A 32 65536 _ hA hAc
  rw [s1] at m1
  rw [s2] at m2
  have hb : Below (w.heap.size + 1) (w.alloc (.cells x.cells.toArray t)) (((w.alloc (.cells x.cells.toArray t)).alloc (.cells A 32)).alloc (.cells A 32)) := by
    rw [s1] at b1
    rw [s2] at b2
    exact b1.trans (b2.mono (by omega))
  refine ⟨k.below (by rw [s1]; exact hb), fun j u hj => ?_, m1.below b2, m2, (balloc w _).trans (hb.mono (by omega)), fun _ => b8_0⟩
  rw [hb.cell (p := ⟨w.heap.size, 30 + j, none⟩) (by show w.heap.size < w.heap.size + 1; omega)]
  exact kr j u hj

set_option maxHeartbeats 3200000 in
theorem right_any (r : Rg) (w : World) : Calls Tryz.prog 7 #[.agg r.cells.toArray] w fun e w' => e = .returned (.bool (decide (r.pre ≤ 2) && decide (r.im ≤ 2))) ∧ Below w.heap.size w w' := by
  have k := RegAt.new w r 24
  have c29 := k.cell 29 _ rfl
  have c28 := k.cell 28 _ rfl
  have HB := Lib.hid (balloc w (.cells r.cells.toArray 24))
  clear k
  generalize r.cells.toArray = R at *
  by_cases h1 : r.pre ≤ 2
  · have d1 : decide (r.pre ≤ 2) = true := decide_eq_true h1
    clear h1
    rw [d1]
    go_enter Tryz.func7, Tryz.ntmps7
    go_wp2_with fail
    go_ret
    exact ⟨by simp, HB.out⟩
  · have d1 : decide (r.pre ≤ 2) = false := decide_eq_false h1
    clear h1
    rw [d1]
    go_enter Tryz.func7, Tryz.ntmps7
    go_wp2_with fail
    go_ret
    exact ⟨by simp, HB.out⟩

set_option maxHeartbeats 6400000 in
theorem filled_any (x : Cs) (w : World) (ok : x.Ok w) (hl : x.l.length ≤ 100) :
    Calls Tryz.prog 9 #[.agg x.cells.toArray] w fun e w' => ∃ M, e = .returned (.agg (memA M)) ∧ (∀ a, B8 (M a)) ∧ Below w.heap.size w w' := by
  obtain ⟨A, hA, hAc, halloc⟩ := run_memAlloc
  have HS := Lib.hid (FlS.start w x 28 hA hAc)
  obtain ⟨X, hX⟩ : ∃ X, x.cells.toArray = X := ⟨_, rfl⟩
  rw [hX] at HS ⊢
  have HO := Lib.hid ok
  clear hX ok hA hAc
  go_enter Tryz.func9, Tryz.ntmps9
  go_wp2_with fail
  obtain ⟨w1, hw1⟩ : ∃ w1, ((w.alloc (.cells X 28)).alloc (.cells A 32)).alloc (.cells A 32) = w1 := ⟨_, rfl⟩
  rw [hw1] at HS ⊢
  clear hw1 halloc
  go_loopw [4] (fun i wr => ∃ k : Nat, i = .int .i64 k ∧ k ≤ 65536 ∧ Hid (FlS w wr x (fillN (casF x) k))) (fun i _ => (65536 - intOf i).toNat)
  case atStart => exact ⟨0, rfl, by omega, by rw [fillN_0]; exact HS⟩
  case round =>
    obtain ⟨k, rfl, hk, HK⟩ := hrel
    clear HS
    by_cases hlt : k < 65536
    · have l1 : decide ((k : Int) < 65536) = true := decide_eq_true (by omega)
      have k0 : (0 : Int) ≤ k := by omega
      have k1 : (k : Int) < 65536 := by omega
      have e5 : (k : Int) % 5 = ((k % 5 : Nat) : Int) := by omega
      have c5 := HK.out.fill (k % 5) (by omega)
      have fk := Cells.frozen HK.out.mem k
      have ck := Cells.cell HK.out.mem k hlt
      have HP := Lib.hid (show FlS w (wr.setCell ⟨w.heap.size + 2, k, none⟩ (.int .u8 (casF x k))) x (fillN (casF x) (k + 1)) from by
        rw [← fillN_put]
        exact HK.out.put k (casF_b8 x k))
      have hv : (x.fl (k % 5) + (k : Int) / 256) % 256 = casF x k := by
        unfold casF; omega
      have hr5 : k % 5 < 5 := Nat.mod_lt _ (by decide)
      generalize k % 5 = r at *
      clear HK
      go_wp2_with fail
      exact ⟨⟨k + 1, by go_num, by omega, HP⟩, by simp [intOf]; omega⟩
    · have l1 : decide ((k : Int) < 65536) = false := decide_eq_false (by omega)
      obtain rfl : k = 65536 := by omega
      have hpc := HO.out.r.pc
      obtain ⟨p, hp⟩ : ∃ p : Nat, x.r.pc = p := ⟨x.r.pc.toNat, by have := hpc.1; omega⟩
      have p1 : p < 65536 := by have := hpc.2; omega
      obtain ⟨An, cap, ec, n1, n2, h8, hat⟩ := HO.out.code
      have HA := Lib.hid hat
      have H8 := Lib.hid h8
      obtain ⟨n, hn⟩ : ∃ n, x.l.length = n := ⟨_, rfl⟩
      rw [hn] at ec n1 hl HA
      clear hpc hat h8 hn
      have H0 := Lib.hid (show FlS w wr x (fillN (casF x) 65536) from HK.out)
      clear HK
      go_wp2_with fail
      go_loopw [5] (fun i wq => ∃ k : Nat, i = .int .i64 k ∧ k ≤ n ∧ Hid (∃ M, FlS w wq x M)) (fun i _ => ((n : Int) - intOf i).toNat)
      case atStart => exact ⟨0, rfl, by omega, Lib.hid ⟨_, H0.out⟩⟩
      case round =>
        obtain ⟨j, rfl, hj, HJ⟩ := hrel
        obtain ⟨M, hM⟩ := HJ.out
        have c30 := hM.rest 0 _ rfl
        rw [ec] at c30
        have HM := Lib.hid hM
        clear H0 hM HJ
        by_cases hlt : j < n
        · have l2 : decide ((j : Int) < (n : Int)) = true := decide_eq_true (by omega)
          obtain ⟨b, off, rfl, hb, hcell⟩ := HA.out (by omega)
          have cj := (HM.out.below.cell (p := ⟨b, off + j, none⟩) hb).trans (hcell j hlt)
          have c22 := HM.out.reg.cell 22 _ rfl
          rw [hp] at c22
          have i0 : (0 : Int) ≤ (p : Int) + j := by omega
          have j0 : (0 : Int) ≤ (j : Int) := by omega
          have j1 : (j : Int) < (n : Int) := by omega
          have em : ((p : Int) + j) % 65536 = (((p + j) % 65536 : Nat) : Int) := by omega
          have a1 : (p + j) % 65536 < 65536 := Nat.mod_lt _ (by decide)
          generalize (p + j) % 65536 = a at *
          have a2 : (0 : Int) ≤ (a : Int) := by omega
          have a3 : (a : Int) < 65536 := by omega
          have fa := Cells.frozen HM.out.mem a
          have ca := Cells.cell HM.out.mem a a1
          obtain ⟨v, hv⟩ : ∃ v, x.l.getD j 0 = v := ⟨_, rfl⟩
          have v8 : B8 v := by rw [← hv]; exact H8.out j
          rw [hv] at cj
          have HP := Lib.hid ((HM.out.put a v8).drew)
          clear hcell HA hv HM
          go_wp2_with fail
          go_region
          go_wp2_with fail
          exact ⟨⟨j + 1, by go_num, by omega, Lib.hid ⟨_, HP.out⟩⟩, by simp [intOf]; omega⟩
        · have l2 : decide ((j : Int) < (n : Int)) = false := decide_eq_false (by omega)
          obtain ⟨W, hst, hm, hsz, hblk, ho, ht, hu⟩ := run_memStore HM.out.res M
          have hld := run_memLoad M (w.heap.size + 1 + 1) 0 wr fun j hj => by rw [Nat.zero_add]; exact Cells.cell HM.out.mem j hj
          have HB := Lib.hid (show Below w.heap.size w W from HM.out.below.trans ⟨ho, ht, hu, Nat.le_of_eq hsz.symm, fun k hk => hblk k (by omega)⟩)
          have HR := Lib.hid hm
          have H9 := Lib.hid HM.out.m8
          clear hm hsz hblk ho ht hu HM
          go_wp2_with fail
          exact bodyPost_ret (results_mem rfl _ HR.out rfl) rfl ⟨M, rfl, H9.out, HB.out⟩
end Go.Proofs.YtcfkpeemhleleaaGreatDoor
/- How long the names are. No program is named here. -/
namespace Go.Proofs.YtcfkpeemhleleaaGreatDoor
open Go.RowKit

theorem getD_le (L : List (List UInt8)) (n : Nat) (h : L.all (fun l => decide (l.length ≤ n)) = true) (k : Nat) : (L.getD k []).length ≤ n := by
  rw [List.getD_eq_getElem?_getD]
  cases hk : L[k]? with
  | none => simp
  | some l =>
    have := List.all_eq_true.1 h l (List.mem_of_getElem? hk)
    simpa using this
theorem regsL_le (k : Nat) : (regsL.getD k []).length ≤ 4 := getD_le _ _ (by decide) k
theorem opersL_le (k : Nat) : (opersL.getD k []).length ≤ 6 := getD_le _ _ (by decide) k
end Go.Proofs.YtcfkpeemhleleaaGreatDoor
/- The document's tables of layer 7: their contracts. -/
namespace Go.Proofs.YtcfkpeemhleleaaGreatDoor
open Go.RowKit


theorem tabS_made (w : World) (L : List (List UInt8)) (t : TypeId) : TabS w.heap.size L.length L (w.alloc (.cells (L.map fun l => Value.string (strL l)).toArray t)) := by
  intro j hj
  rw [cell_of_row _ _ j _ t (0, 0) (heap_alloc_new _ _)]
  simp [hj]
/-- A callee that answers a list of texts of its own. -/
def Lists (n : Nat) (L : List (List UInt8)) (w : World) (e : Ending) (w' : World) : Prop := ∃ g, e = .returned (.slice (some ⟨g, 0, none⟩) n n) ∧ g < w'.heap.size ∧ TabS g n L w' ∧ Below w.heap.size w w'


theorem lists_at {g n : Nat} {L : List (List UInt8)} {u : World} (h : TabS g n L u) (j : Nat) (hj : j < n) (R : List UInt8) (hR : L.getD j [] = R) : u.cell? ⟨g, j, none⟩ = some (.string (strL R)) := by
  subst hR; exact h j hj

set_option maxRecDepth 100000 in
set_option maxHeartbeats 1600000 in
theorem ref_regs (w : World) : Calls Tryz.prog 38 #[] w (Lists 8 regsL w) := by
  go_enter Tryz.func38, Tryz.ntmps38
  go_wp2_with fail
  go_ret
  exact ⟨w.heap.size, rfl, by simp, tabS_made w regsL 9, balloc w _⟩

set_option maxRecDepth 100000 in
set_option maxHeartbeats 1600000 in
theorem ref_operations (w : World) : Calls Tryz.prog 39 #[] w (Lists 8 opersL w) := by
  go_enter Tryz.func39, Tryz.ntmps39
  go_wp2_with fail
  go_ret
  exact ⟨w.heap.size, rfl, by simp, tabS_made w opersL 9, balloc w _⟩

set_option maxRecDepth 100000 in
set_option maxHeartbeats 1600000 in
theorem ref_first (w : World) : Calls Tryz.prog 36 #[] w (Lists 64 firstL w) := by
  go_enter Tryz.func36, Tryz.ntmps36
  go_wp2_with fail
  go_ret
  exact ⟨w.heap.size, rfl, by simp, tabS_made w firstL 9, balloc w _⟩

set_option maxRecDepth 100000 in
set_option maxHeartbeats 1600000 in
theorem ref_last (w : World) : Calls Tryz.prog 37 #[] w (Lists 64 lastL w) := by
  go_enter Tryz.func37, Tryz.ntmps37
  go_wp2_with fail
  go_ret
  exact ⟨w.heap.size, rfl, by simp, tabS_made w lastL 9, balloc w _⟩

end Go.Proofs.YtcfkpeemhleleaaGreatDoor
/- The document's has: its contract. -/
namespace Go.Proofs.YtcfkpeemhleleaaGreatDoor
open Go.RowKit


theorem posF_short (p : List UInt8) : ∀ s : List UInt8, s.length < p.length → posF p s = none
  | [], h => by
    unfold posF
    rw [if_neg (by intro e; subst e; simp at h)]
  | a :: s, h => by
    unfold posF
    have hf : ¬ p.isPrefixOf (a :: s) = true := by
      intro e
      have := (List.isPrefixOf_iff_prefix.1 e).length_le
      omega
    rw [if_neg hf, posF_short p s (by simp at h; omega)]
    rfl
theorem posF_at (p s : List UInt8) (k : Nat) (hk : k < s.length) (h : (s.drop k).take p.length = p) : posF p (s.drop k) = some 0 := by
  have hpre : p.isPrefixOf (s.drop k) = true := List.isPrefixOf_iff_prefix.2 (List.prefix_iff_eq_take.2 h.symm)
  rw [List.drop_eq_getElem_cons hk] at hpre ⊢
  unfold posF
  rw [if_pos hpre]
theorem posF_no (p s : List UInt8) (k : Nat) (hk : k < s.length) (h : ¬ (s.drop k).take p.length = p) : posF p (s.drop k) = (posF p (s.drop (k + 1))).map (· + 1) := by
  have hpre : ¬ p.isPrefixOf (s.drop k) = true := fun e => h (List.prefix_iff_eq_take.1 (List.isPrefixOf_iff_prefix.1 e)).symm
  rw [List.drop_eq_getElem_cons hk] at hpre ⊢
  conv => lhs; unfold posF
  rw [if_neg hpre]
/-- Behind k bytes that it does not begin at. -/
def Seen (p s : List UInt8) (k : Nat) : Prop := posF p s = (posF p (s.drop k)).map (· + k)
theorem Seen.zero (p s : List UInt8) : Seen p s 0 := by unfold Seen; simp
theorem Seen.step {p s : List UInt8} {k : Nat} (h : Seen p s k) (hk : k < s.length) (hn : ¬ (s.drop k).take p.length = p) : Seen p s (k + 1) := by
  unfold Seen at *
  rw [h, posF_no p s k hk hn, Option.map_map]
  congr 1
  funext x; simp; omega
theorem Seen.found {p s : List UInt8} {k : Nat} (h : Seen p s k) (hk : k < s.length) (hn : (s.drop k).take p.length = p) : posF p s = some k := by
  unfold Seen at h
  rw [h, posF_at p s k hk hn]; simp
theorem Seen.last {p s : List UInt8} {k : Nat} (h : Seen p s k) (hk : s.length < k + p.length) (h1 : 1 ≤ p.length) : posF p s = none := by
  unfold Seen at h
  rw [h, posF_short p _ (by rw [List.length_drop]; omega)]; rfl

theorem ext_list (l : List UInt8) (a b : Nat) : (strL l).extract a b = strL ((l.drop a).take (b - a)) := by
  apply ByteArray.ext
  simp [strL, List.take_drop]
theorem strL_inj {a b : List UInt8} : strL a = strL b ↔ a = b := by
  constructor
  · intro h
    have := congrArg (fun x : ByteArray => x.data.toList) h
    simpa [strL] using this
  · rintro rfl; rfl

set_option maxRecDepth 100000 in
set_option maxHeartbeats 800000 in
theorem refHas (s p : List UInt8) (w : World) (hs : s.length ≤ 1000) (hp : p.length ≤ 10) (h1 : 1 ≤ p.length) : Calls Tryz.prog 27 #[.string (strL s), .string (strL p)] w fun e w' => e = .returned (.bool (hasF s p)) ∧ w = w' := by
  obtain ⟨A, hA⟩ : ∃ A, strL s = A := ⟨_, rfl⟩
  obtain ⟨P, hP⟩ : ∃ P, strL p = P := ⟨_, rfl⟩
  have a1 : A.size = s.length := by rw [← hA, strL_size]
  have p1 : P.size = p.length := by rw [← hP, strL_size]
  have a2 : A.size ≤ 1000 := by omega
  have p2 : P.size ≤ 10 := by omega
  have p3 : 1 ≤ P.size := by omega
  have A1 := Lib.hid a1
  have P1 := Lib.hid p1
  have HA := Lib.hid hA
  have HP := Lib.hid hP
  rw [hA, hP]
  clear a1 p1 hA hP
  go_enter Tryz.func27, Tryz.ntmps27
  go_wp2_with fail
  go_loop [5] (fun i => ∃ k : Nat, i = .int .i64 k ∧ k ≤ 1000 ∧ Hid (Seen p s k)) (fun i => 1001 - (intOf i).toNat)
  case atStart => exact ⟨0, rfl, by omega, Lib.hid (Seen.zero p s)⟩
  case round =>
    obtain ⟨k, rfl, hk, HS⟩ := hrel
    by_cases hlt : k + P.size ≤ A.size
    · have hkl : k < s.length := by have := A1.out; omega
      have hex : (A.extract k (k + P.size)) = strL ((s.drop k).take p.length) := by
        rw [← HA.out, ext_list, P1.out, Nat.add_sub_cancel_left]
      by_cases he : (s.drop k).take p.length = p
      · have hb : ((A.extract k (k + P.size)).toList == P.toList) = true := str_eq (by rw [hex, he]; exact HP.out)
        have HR := Lib.hid (show hasF s p = true by unfold hasF; rw [HS.out.found hkl he]; rfl)
        clear hex he hkl HA HP A1 P1 HS
        go_wp2_with fail
        go_ret
        exact ⟨by rw [HR.out]; rfl, rfl⟩
      · have hb : ((A.extract k (k + P.size)).toList == P.toList) = false := str_ne (by rw [hex, ← HP.out, strL_inj]; exact he)
        have HR := Lib.hid (HS.out.step hkl he)
        clear hex he hkl HS
        go_wp2_with fail
        go_round
        case rel => exact ⟨k + 1, by go_num, by omega, HR⟩
        case measure => simp [intOf]; omega
    · have HR := Lib.hid (show hasF s p = false by unfold hasF; rw [HS.out.last (by have := A1.out; have := P1.out; omega) h1]; rfl)
      have hlt2 : A.size < k + P.size := by omega
      clear HS
      go_wp2_with fail
      go_ret
      exact ⟨by rw [HR.out]; rfl, rfl⟩


theorem refHasIs (s p : List UInt8) (r : Bool) (w : World) (hs : s.length ≤ 1000) (hp : p.length ≤ 10) (h1 : 1 ≤ p.length) (h : hasF s p = r) : Calls Tryz.prog 27 #[.string (strL s), .string (strL p)] w fun e w' => e = .returned (.bool r) ∧ w = w' := by
  subst h; exact refHas s p w hs hp h1
end Go.Proofs.YtcfkpeemhleleaaGreatDoor
/- The document's Plain, Args, Memory: their contracts. -/
namespace Go.Proofs.YtcfkpeemhleleaaGreatDoor
open Go.RowKit
set_option maxRecDepth 100000 in
set_option maxHeartbeats 1600000 in
theorem refPlainA (c : Nat) (w : World) (h1 : c < 64) : Calls Tryz.prog 28 #[.int .u8 c] w fun e w' => e = .returned (.string (strL (firstL.getD c []))) ∧ Below w.heap.size w w' := by
  obtain ⟨R, hR⟩ : ∃ R, firstL.getD c [] = R := ⟨_, rfl⟩
  rw [hR]
  have HR := Lib.hid hR
  clear hR
  have c0 : (0 : Int) ≤ c := by omega
  have cv : IntKind.i64.wrap (c : Int) = c := IntWalk.i64_in _ (by omega)
  go_enter Tryz.func28, Tryz.ntmps28
  go_wp2_with fail
  refine (ref_first _).mono ?_
  rintro e w1 ⟨g, rfl, hg, hT, hb⟩
  have ck := lists_at hT c (by omega) R HR.out
  clear hT
  go_wp2_with fail
  go_ret
  exact ⟨rfl, hb⟩
set_option maxRecDepth 100000 in
set_option maxHeartbeats 1600000 in
theorem refPlainZ (c : Nat) (w : World) (h1 : 192 ≤ c) (h2 : c < 256) : Calls Tryz.prog 28 #[.int .u8 c] w fun e w' => e = .returned (.string (strL (lastL.getD (c - 192) []))) ∧ Below w.heap.size w w' := by
  obtain ⟨R, hR⟩ : ∃ R, lastL.getD (c - 192) [] = R := ⟨_, rfl⟩
  rw [hR]
  have HR := Lib.hid hR
  clear hR
  have c0 : (0 : Int) ≤ c := by omega
  have cv : IntKind.i64.wrap (c : Int) = c := IntWalk.i64_in _ (by omega)
  go_enter Tryz.func28, Tryz.ntmps28
  go_wp2_with fail
  refine (ref_last _).mono ?_
  rintro e w1 ⟨g, rfl, hg, hT, hb⟩
  have ck := lists_at hT (c - 192) (by omega) R HR.out
  clear hT
  go_wp2_with fail
  go_ret
  exact ⟨rfl, hb⟩
set_option maxRecDepth 100000 in
set_option maxHeartbeats 1600000 in
theorem refPlainH (w : World) : Calls Tryz.prog 28 #[.int .u8 118] w fun e w' => e = .returned (.string (strL [104, 97, 108, 116])) ∧ w = w' := by
  go_enter Tryz.func28, Tryz.ntmps28
  go_wp2_with fail
  go_ret
  exact ⟨rfl, rfl⟩
set_option maxRecDepth 100000 in
set_option maxHeartbeats 1600000 in
theorem refPlainB (c : Nat) (w : World) (h1 : 64 ≤ c) (h2 : c < 128) (h3 : ((c : Int) == 118) = false) : Calls Tryz.prog 28 #[.int .u8 c] w fun e w' => e = .returned (.string (strL ([108, 100, 32] ++ regsL.getD (c / 8 % 8) [] ++ [44] ++ regsL.getD (c % 8) []))) ∧ Below w.heap.size w w' := by
  obtain ⟨q, hq⟩ : ∃ q, c / 8 = q := ⟨_, rfl⟩
  obtain ⟨y, hy⟩ : ∃ y, q % 8 = y := ⟨_, rfl⟩
  obtain ⟨z, hz⟩ : ∃ z, c % 8 = z := ⟨_, rfl⟩
  rw [hq, hy, hz]
  have wq : IntKind.i64.wrap ((c : Int) / 8) = (q : Int) := by rw [IntWalk.i64_in _ (by omega)]; omega
  have wy : (q : Int).tmod 8 = (y : Int) := by rw [Int.tmod_eq_emod_of_nonneg (by omega)]; omega
  have wz : (c : Int).tmod 8 = (z : Int) := by rw [Int.tmod_eq_emod_of_nonneg (by omega)]; omega
  have wcv : IntKind.i64.wrap (c : Int) = c := IntWalk.i64_in _ (by omega)
  have c0 : (0 : Int) ≤ c := by omega
  have q0 : (0 : Int) ≤ q := by omega
  have y0 : (0 : Int) ≤ y := by omega
  have y8 : (y : Int) < 8 := by omega
  have z0 : (0 : Int) ≤ z := by omega
  have z8 : (z : Int) < 8 := by omega
  have y8n : y < 8 := by omega
  have z8n : z < 8 := by omega
  obtain ⟨R, hR⟩ : ∃ R, regsL.getD y [] = R := ⟨_, rfl⟩
  obtain ⟨V, hV⟩ : ∃ V, regsL.getD z [] = V := ⟨_, rfl⟩
  rw [hR, hV]
  have r1 : (strL R).size ≤ 6 := strL_le _ _ (by rw [← hR]; exact Nat.le_trans (regsL_le _) (by decide))
  have v1 : (strL V).size ≤ 4 := strL_le _ _ (by rw [← hV]; exact regsL_le _)
  have HR := Lib.hid (fun g u (h : TabS g 8 regsL u) => lists_at h y y8n R hR)
  have HV := Lib.hid (fun g u (h : TabS g 8 regsL u) => lists_at h z z8n V hV)
  obtain ⟨T, hTT⟩ : ∃ T, strL ([108, 100, 32] ++ R ++ [44] ++ V) = T := ⟨_, rfl⟩
  rw [hTT]
  have HZ := Lib.hid (show (⟨#[108, 100, 32]⟩ : ByteArray) ++ strL R ++ ⟨#[44]⟩ ++ strL V = T by rw [← hTT]; show strL [108, 100, 32] ++ strL R ++ strL [44] ++ strL V = _; rw [strL_app, strL_app, strL_app])
  have g1 : ¬ (9223372036854775807 < 3 + (strL R).size) := by omega
  have g2 : ¬ (9223372036854775807 < 3 + (strL R).size + 1) := by omega
  have g3 : ¬ (9223372036854775807 < 3 + (strL R).size + 1 + (strL V).size) := by omega
  have hS0 : (fun u => Below w.heap.size w u) w.drew := (Below.refl _ _).drew
  clear hR hV hq hy hz y8n z8n hTT
  go_enter Tryz.func28, Tryz.ntmps28
  go_wp2_with fail
  first | refine wp_region_noPanic ?_ | skip
  refine wp_region_held_drew (S := (fun u => Below w.heap.size w u)) (by kernel_rfl) hS0 (fun hHeld => ?_)
  refine wpAnyH_take (i := 1) (v := ?v1) rfl (by kernel_rfl) (by kernel_rfl) (by kernel_rfl) (fun _ _ _ h => h) (Or.inl ⟨by rfl, ?hy1⟩) (by assumption) ?rest1
  case hy1 => (intro w hSw; (try dsimp only at hSw); go_simp; (try with_reducible rfl))
  try simp only [Act.put, List.getElem_toArray, List.getElem_cons_succ, List.getElem_cons_zero, List.setIfInBounds_toArray, List.set_cons_zero, List.set_cons_succ]
  refine wpAnyH_take (i := 9) (v := ?v2) rfl (by kernel_rfl) (by kernel_rfl) (by kernel_rfl) (fun _ _ _ h => h) (Or.inl ⟨by rfl, ?hy2⟩) (by assumption) ?rest2
  case hy2 => (intro w hSw; (try dsimp only at hSw); go_simp; (try with_reducible rfl))
  try simp only [Act.put, List.getElem_toArray, List.getElem_cons_succ, List.getElem_cons_zero, List.setIfInBounds_toArray, List.set_cons_zero, List.set_cons_succ]
  refine wpAnyH_take (i := 2) (v := ?v3) rfl (by kernel_rfl) (by kernel_rfl) (by kernel_rfl) (fun _ _ _ h => h) (Or.inl ⟨by rfl, ?hy3⟩) (by assumption) ?rest3
  case hy3 => (intro w hSw; (try dsimp only at hSw); go_simp; (try with_reducible rfl))
  try simp only [Act.put, List.getElem_toArray, List.getElem_cons_succ, List.getElem_cons_zero, List.setIfInBounds_toArray, List.set_cons_zero, List.set_cons_succ]
  refine wpAnyH_take (i := 10) (v := ?v4) rfl (by kernel_rfl) (by kernel_rfl) (by kernel_rfl) (fun _ _ _ h => h) (Or.inl ⟨by rfl, ?hy4⟩) (by assumption) ?rest4
  case hy4 => (intro w hSw; (try dsimp only at hSw); go_simp; (try with_reducible rfl))
  try simp only [Act.put, List.getElem_toArray, List.getElem_cons_succ, List.getElem_cons_zero, List.setIfInBounds_toArray, List.set_cons_zero, List.set_cons_succ]
  refine wpAnyH_take (i := 3) (v := ?v5) rfl (by kernel_rfl) (by kernel_rfl) (by kernel_rfl) (fun _ _ _ h => h) (Or.inl ⟨by rfl, ?hy5⟩) (by assumption) ?rest5
  case hy5 => (intro w hSw; (try dsimp only at hSw); go_simp; (try with_reducible rfl))
  try simp only [Act.put, List.getElem_toArray, List.getElem_cons_succ, List.getElem_cons_zero, List.setIfInBounds_toArray, List.set_cons_zero, List.set_cons_succ]
  refine wpAnyH_ready (rs := [0]) (by kernel_rfl) (by simp) ?_
  refine (AllReadyH.cons (o := _) rfl (fun K hK => ?_) AllReadyH.nil)
  go_simp
  refine (ref_regs _).mono ?_
  intro e wd1 hE1
  obtain ⟨gA, rfl, hgA, hTA, hb1⟩ := hE1
  have hS2 : (fun u => Below w.heap.size w u) wd1 := below_step (show Below w.heap.size w _ by assumption) hb1
  go_wp2_with fail
  refine hK.out _ _ hS2 (fun hHeld => ?_)
  clear hK K
  try simp only [Act.put, List.getElem_toArray, List.getElem_cons_succ, List.getElem_cons_zero, List.setIfInBounds_toArray, List.set_cons_zero, List.set_cons_succ]
  refine wpAnyH_take (i := 4) (v := ?v6) rfl (by kernel_rfl) (by kernel_rfl) (by kernel_rfl) (fun _ _ _ h => h) (Or.inl ⟨by rfl, ?hy6⟩) (by assumption) ?rest6
  case hy6 => (intro w hSw; (try dsimp only at hSw); go_simp; (try with_reducible rfl))
  try simp only [Act.put, List.getElem_toArray, List.getElem_cons_succ, List.getElem_cons_zero, List.setIfInBounds_toArray, List.set_cons_zero, List.set_cons_succ]
  refine wpAnyH_ready (rs := [5, 8]) (by kernel_rfl) (by simp) ?_
  refine (AllReadyH.cons (o := _) rfl (fun K hK => ?_) (AllReadyH.cons (o := _) rfl (fun K hK => ?_) AllReadyH.nil))
  · skip
    have ckA := HR.out gA _ hTA
    go_simp
    refine hK.out _ _ (by assumption) (fun hHeld => ?_)
    clear hK K
    try simp only [Act.put, List.getElem_toArray, List.getElem_cons_succ, List.getElem_cons_zero, List.setIfInBounds_toArray, List.set_cons_zero, List.set_cons_succ]
    refine wpAnyH_take (i := 6) (v := ?v7) rfl (by kernel_rfl) (by kernel_rfl) (by kernel_rfl) (fun _ _ _ h => h) (Or.inl ⟨by rfl, ?hy7⟩) (by assumption) ?rest7
    case hy7 => (intro w hSw; (try dsimp only at hSw); go_simp; (try with_reducible rfl))
    try simp only [Act.put, List.getElem_toArray, List.getElem_cons_succ, List.getElem_cons_zero, List.setIfInBounds_toArray, List.set_cons_zero, List.set_cons_succ]
    refine wpAnyH_take (i := 7) (v := ?v8) rfl (by kernel_rfl) (by kernel_rfl) (by kernel_rfl) (fun _ _ _ h => h) (Or.inl ⟨by rfl, ?hy8⟩) (by assumption) ?rest8
    case hy8 => (intro w hSw; (try dsimp only at hSw); go_simp; (try with_reducible rfl))
    try simp only [Act.put, List.getElem_toArray, List.getElem_cons_succ, List.getElem_cons_zero, List.setIfInBounds_toArray, List.set_cons_zero, List.set_cons_succ]
    refine wpAnyH_ready (rs := [8]) (by kernel_rfl) (by simp) ?_
    refine (AllReadyH.cons (o := _) rfl (fun K hK => ?_) AllReadyH.nil)
    go_simp
    refine (ref_regs _).mono ?_
    intro e wd2 hE2
    obtain ⟨gB, rfl, hgB, hTB, hb2⟩ := hE2
    have hTA_2 := (hTA).below (Nat.lt_of_lt_of_le hgA (by first | exact Nat.le_refl _ | exact hSzA)) hb2
    have hS3 : (fun u => Below w.heap.size w u) wd2 := below_step (show Below w.heap.size w _ by assumption) hb2
    go_wp2_with fail
    refine hK.out _ _ hS3 (fun hHeld => ?_)
    clear hK K
    try simp only [Act.put, List.getElem_toArray, List.getElem_cons_succ, List.getElem_cons_zero, List.setIfInBounds_toArray, List.set_cons_zero, List.set_cons_succ]
    refine wpAnyH_take (i := 11) (v := ?v9) rfl (by kernel_rfl) (by kernel_rfl) (by kernel_rfl) (fun _ _ _ h => h) (Or.inl ⟨by rfl, ?hy9⟩) (by assumption) ?rest9
    case hy9 => (intro w hSw; (try dsimp only at hSw); go_simp; (try with_reducible rfl))
    try simp only [Act.put, List.getElem_toArray, List.getElem_cons_succ, List.getElem_cons_zero, List.setIfInBounds_toArray, List.set_cons_zero, List.set_cons_succ]
    refine wpAnyH_ready (rs := [12]) (by kernel_rfl) (by simp) ?_
    refine (AllReadyH.cons (o := _) rfl (fun K hK => ?_) AllReadyH.nil)
    have ckB := HV.out gB _ hTB
    go_simp
    refine hK.out _ _ (by assumption) (fun hHeld => ?_)
    clear hK K
    try simp only [Act.put, List.getElem_toArray, List.getElem_cons_succ, List.getElem_cons_zero, List.setIfInBounds_toArray, List.set_cons_zero, List.set_cons_succ]
    refine wpAnyH_take (i := 13) (v := ?v10) rfl (by kernel_rfl) (by kernel_rfl) (by kernel_rfl) (fun _ _ _ h => h) (Or.inl ⟨by rfl, ?hy10⟩) (by assumption) ?rest10
    case hy10 => (intro w hSw; (try dsimp only at hSw); go_simp; (try with_reducible rfl))
    try simp only [Act.put, List.getElem_toArray, List.getElem_cons_succ, List.getElem_cons_zero, List.setIfInBounds_toArray, List.set_cons_zero, List.set_cons_succ]
    refine wpAnyH_take (i := 14) (v := ?v11) rfl (by kernel_rfl) (by kernel_rfl) (by kernel_rfl) (fun _ _ _ h => h) (Or.inl ⟨by rfl, ?hy11⟩) (by assumption) ?rest11
    case hy11 => (intro w hSw; (try dsimp only at hSw); go_simp; (try with_reducible rfl))
    try simp only [Act.put, List.getElem_toArray, List.getElem_cons_succ, List.getElem_cons_zero, List.setIfInBounds_toArray, List.set_cons_zero, List.set_cons_succ]
    refine wpAnyH_done (by kernel_rfl) ?_ _
    first | refine NoPanic.normal ?_ | skip
    have HB := Lib.hid (show Below w.heap.size w wd2 by assumption)
    skip
    go_wp2_with fail
    go_ret
    exact ⟨by rw [← HZ.out]; rfl, HB.out⟩
  · skip
    go_simp
    refine (ref_regs _).mono ?_
    intro e wd2 hE2
    obtain ⟨gB, rfl, hgB, hTB, hb2⟩ := hE2
    have hTA_2 := (hTA).below (Nat.lt_of_lt_of_le hgA (by first | exact Nat.le_refl _ | exact hSzA)) hb2
    have hS3 : (fun u => Below w.heap.size w u) wd2 := below_step (show Below w.heap.size w _ by assumption) hb2
    go_wp2_with fail
    refine hK.out _ _ hS3 (fun hHeld => ?_)
    clear hK K
    try simp only [Act.put, List.getElem_toArray, List.getElem_cons_succ, List.getElem_cons_zero, List.setIfInBounds_toArray, List.set_cons_zero, List.set_cons_succ]
    refine wpAnyH_take (i := 11) (v := ?v12) rfl (by kernel_rfl) (by kernel_rfl) (by kernel_rfl) (fun _ _ _ h => h) (Or.inl ⟨by rfl, ?hy12⟩) (by assumption) ?rest12
    case hy12 => (intro w hSw; (try dsimp only at hSw); go_simp; (try with_reducible rfl))
    try simp only [Act.put, List.getElem_toArray, List.getElem_cons_succ, List.getElem_cons_zero, List.setIfInBounds_toArray, List.set_cons_zero, List.set_cons_succ]
    refine wpAnyH_ready (rs := [5, 12]) (by kernel_rfl) (by simp) ?_
    refine (AllReadyH.cons (o := _) rfl (fun K hK => ?_) (AllReadyH.cons (o := _) rfl (fun K hK => ?_) AllReadyH.nil))
    · skip
      have ckA := HR.out gA _ hTA_2
      go_simp
      refine hK.out _ _ (by assumption) (fun hHeld => ?_)
      clear hK K
      try simp only [Act.put, List.getElem_toArray, List.getElem_cons_succ, List.getElem_cons_zero, List.setIfInBounds_toArray, List.set_cons_zero, List.set_cons_succ]
      refine wpAnyH_take (i := 6) (v := ?v13) rfl (by kernel_rfl) (by kernel_rfl) (by kernel_rfl) (fun _ _ _ h => h) (Or.inl ⟨by rfl, ?hy13⟩) (by assumption) ?rest13
      case hy13 => (intro w hSw; (try dsimp only at hSw); go_simp; (try with_reducible rfl))
      try simp only [Act.put, List.getElem_toArray, List.getElem_cons_succ, List.getElem_cons_zero, List.setIfInBounds_toArray, List.set_cons_zero, List.set_cons_succ]
      refine wpAnyH_take (i := 7) (v := ?v14) rfl (by kernel_rfl) (by kernel_rfl) (by kernel_rfl) (fun _ _ _ h => h) (Or.inl ⟨by rfl, ?hy14⟩) (by assumption) ?rest14
      case hy14 => (intro w hSw; (try dsimp only at hSw); go_simp; (try with_reducible rfl))
      try simp only [Act.put, List.getElem_toArray, List.getElem_cons_succ, List.getElem_cons_zero, List.setIfInBounds_toArray, List.set_cons_zero, List.set_cons_succ]
      refine wpAnyH_ready (rs := [12]) (by kernel_rfl) (by simp) ?_
      refine (AllReadyH.cons (o := _) rfl (fun K hK => ?_) AllReadyH.nil)
      have ckB := HV.out gB _ hTB
      go_simp
      refine hK.out _ _ (by assumption) (fun hHeld => ?_)
      clear hK K
      try simp only [Act.put, List.getElem_toArray, List.getElem_cons_succ, List.getElem_cons_zero, List.setIfInBounds_toArray, List.set_cons_zero, List.set_cons_succ]
      refine wpAnyH_take (i := 13) (v := ?v15) rfl (by kernel_rfl) (by kernel_rfl) (by kernel_rfl) (fun _ _ _ h => h) (Or.inl ⟨by rfl, ?hy15⟩) (by assumption) ?rest15
      case hy15 => (intro w hSw; (try dsimp only at hSw); go_simp; (try with_reducible rfl))
      try simp only [Act.put, List.getElem_toArray, List.getElem_cons_succ, List.getElem_cons_zero, List.setIfInBounds_toArray, List.set_cons_zero, List.set_cons_succ]
      refine wpAnyH_take (i := 14) (v := ?v16) rfl (by kernel_rfl) (by kernel_rfl) (by kernel_rfl) (fun _ _ _ h => h) (Or.inl ⟨by rfl, ?hy16⟩) (by assumption) ?rest16
      case hy16 => (intro w hSw; (try dsimp only at hSw); go_simp; (try with_reducible rfl))
      try simp only [Act.put, List.getElem_toArray, List.getElem_cons_succ, List.getElem_cons_zero, List.setIfInBounds_toArray, List.set_cons_zero, List.set_cons_succ]
      refine wpAnyH_done (by kernel_rfl) ?_ _
      first | refine NoPanic.normal ?_ | skip
      have HB := Lib.hid (show Below w.heap.size w wd2 by assumption)
      skip
      go_wp2_with fail
      go_ret
      exact ⟨by rw [← HZ.out]; rfl, HB.out⟩
    · skip
      have ckB := HV.out gB _ hTB
      go_simp
      refine hK.out _ _ (by assumption) (fun hHeld => ?_)
      clear hK K
      try simp only [Act.put, List.getElem_toArray, List.getElem_cons_succ, List.getElem_cons_zero, List.setIfInBounds_toArray, List.set_cons_zero, List.set_cons_succ]
      refine wpAnyH_ready (rs := [5]) (by kernel_rfl) (by simp) ?_
      refine (AllReadyH.cons (o := _) rfl (fun K hK => ?_) AllReadyH.nil)
      have ckA := HR.out gA _ hTA_2
      go_simp
      refine hK.out _ _ (by assumption) (fun hHeld => ?_)
      clear hK K
      try simp only [Act.put, List.getElem_toArray, List.getElem_cons_succ, List.getElem_cons_zero, List.setIfInBounds_toArray, List.set_cons_zero, List.set_cons_succ]
      refine wpAnyH_take (i := 6) (v := ?v17) rfl (by kernel_rfl) (by kernel_rfl) (by kernel_rfl) (fun _ _ _ h => h) (Or.inl ⟨by rfl, ?hy17⟩) (by assumption) ?rest17
      case hy17 => (intro w hSw; (try dsimp only at hSw); go_simp; (try with_reducible rfl))
      try simp only [Act.put, List.getElem_toArray, List.getElem_cons_succ, List.getElem_cons_zero, List.setIfInBounds_toArray, List.set_cons_zero, List.set_cons_succ]
      refine wpAnyH_take (i := 7) (v := ?v18) rfl (by kernel_rfl) (by kernel_rfl) (by kernel_rfl) (fun _ _ _ h => h) (Or.inl ⟨by rfl, ?hy18⟩) (by assumption) ?rest18
      case hy18 => (intro w hSw; (try dsimp only at hSw); go_simp; (try with_reducible rfl))
      try simp only [Act.put, List.getElem_toArray, List.getElem_cons_succ, List.getElem_cons_zero, List.setIfInBounds_toArray, List.set_cons_zero, List.set_cons_succ]
      refine wpAnyH_take (i := 13) (v := ?v19) rfl (by kernel_rfl) (by kernel_rfl) (by kernel_rfl) (fun _ _ _ h => h) (Or.inl ⟨by rfl, ?hy19⟩) (by assumption) ?rest19
      case hy19 => (intro w hSw; (try dsimp only at hSw); go_simp; (try with_reducible rfl))
      try simp only [Act.put, List.getElem_toArray, List.getElem_cons_succ, List.getElem_cons_zero, List.setIfInBounds_toArray, List.set_cons_zero, List.set_cons_succ]
      refine wpAnyH_take (i := 14) (v := ?v20) rfl (by kernel_rfl) (by kernel_rfl) (by kernel_rfl) (fun _ _ _ h => h) (Or.inl ⟨by rfl, ?hy20⟩) (by assumption) ?rest20
      case hy20 => (intro w hSw; (try dsimp only at hSw); go_simp; (try with_reducible rfl))
      try simp only [Act.put, List.getElem_toArray, List.getElem_cons_succ, List.getElem_cons_zero, List.setIfInBounds_toArray, List.set_cons_zero, List.set_cons_succ]
      refine wpAnyH_done (by kernel_rfl) ?_ _
      first | refine NoPanic.normal ?_ | skip
      have HB := Lib.hid (show Below w.heap.size w wd2 by assumption)
      skip
      go_wp2_with fail
      go_ret
      exact ⟨by rw [← HZ.out]; rfl, HB.out⟩
set_option maxRecDepth 100000 in
set_option maxHeartbeats 1600000 in
theorem refPlainC (c : Nat) (w : World) (h1 : 128 ≤ c) (h2 : c < 192) : Calls Tryz.prog 28 #[.int .u8 c] w fun e w' => e = .returned (.string (strL (opersL.getD (c / 8 % 8) [] ++ regsL.getD (c % 8) []))) ∧ Below w.heap.size w w' := by
  obtain ⟨q, hq⟩ : ∃ q, c / 8 = q := ⟨_, rfl⟩
  obtain ⟨y, hy⟩ : ∃ y, q % 8 = y := ⟨_, rfl⟩
  obtain ⟨z, hz⟩ : ∃ z, c % 8 = z := ⟨_, rfl⟩
  rw [hq, hy, hz]
  have wq : IntKind.i64.wrap ((c : Int) / 8) = (q : Int) := by rw [IntWalk.i64_in _ (by omega)]; omega
  have wy : (q : Int).tmod 8 = (y : Int) := by rw [Int.tmod_eq_emod_of_nonneg (by omega)]; omega
  have wz : (c : Int).tmod 8 = (z : Int) := by rw [Int.tmod_eq_emod_of_nonneg (by omega)]; omega
  have wcv : IntKind.i64.wrap (c : Int) = c := IntWalk.i64_in _ (by omega)
  have c0 : (0 : Int) ≤ c := by omega
  have q0 : (0 : Int) ≤ q := by omega
  have y0 : (0 : Int) ≤ y := by omega
  have y8 : (y : Int) < 8 := by omega
  have z0 : (0 : Int) ≤ z := by omega
  have z8 : (z : Int) < 8 := by omega
  have y8n : y < 8 := by omega
  have z8n : z < 8 := by omega
  obtain ⟨R, hR⟩ : ∃ R, opersL.getD y [] = R := ⟨_, rfl⟩
  obtain ⟨V, hV⟩ : ∃ V, regsL.getD z [] = V := ⟨_, rfl⟩
  rw [hR, hV]
  have r1 : (strL R).size ≤ 6 := strL_le _ _ (by rw [← hR]; exact opersL_le _)
  have v1 : (strL V).size ≤ 4 := strL_le _ _ (by rw [← hV]; exact regsL_le _)
  have HR := Lib.hid (fun g u (h : TabS g 8 opersL u) => lists_at h y y8n R hR)
  have HV := Lib.hid (fun g u (h : TabS g 8 regsL u) => lists_at h z z8n V hV)
  obtain ⟨T, hTT⟩ : ∃ T, strL (R ++ V) = T := ⟨_, rfl⟩
  rw [hTT]
  have HZ := Lib.hid (show strL R ++ strL V = T by rw [← hTT]; rw [strL_app])
  have g1 : ¬ (9223372036854775807 < (strL R).size + (strL V).size) := by omega
  have h3 : ((c : Int) == 118) = false := by rw [beq_eq_false_iff_ne]; omega
  have hS0 : (fun u => Below w.heap.size w u) w.drew := (Below.refl _ _).drew
  clear hR hV hq hy hz y8n z8n hTT
  go_enter Tryz.func28, Tryz.ntmps28
  go_wp2_with fail
  first | refine wp_region_noPanic ?_ | skip
  refine wp_region_held_drew (S := (fun u => Below w.heap.size w u)) (by kernel_rfl) hS0 (fun hHeld => ?_)
  refine wpAnyH_take (i := 1) (v := ?v1) rfl (by kernel_rfl) (by kernel_rfl) (by kernel_rfl) (fun _ _ _ h => h) (Or.inl ⟨by rfl, ?hy1⟩) (by assumption) ?rest1
  case hy1 => (intro w hSw; (try dsimp only at hSw); go_simp; (try with_reducible rfl))
  try simp only [Act.put, List.getElem_toArray, List.getElem_cons_succ, List.getElem_cons_zero, List.setIfInBounds_toArray, List.set_cons_zero, List.set_cons_succ]
  refine wpAnyH_take (i := 7) (v := ?v2) rfl (by kernel_rfl) (by kernel_rfl) (by kernel_rfl) (fun _ _ _ h => h) (Or.inl ⟨by rfl, ?hy2⟩) (by assumption) ?rest2
  case hy2 => (intro w hSw; (try dsimp only at hSw); go_simp; (try with_reducible rfl))
  try simp only [Act.put, List.getElem_toArray, List.getElem_cons_succ, List.getElem_cons_zero, List.setIfInBounds_toArray, List.set_cons_zero, List.set_cons_succ]
  refine wpAnyH_take (i := 2) (v := ?v3) rfl (by kernel_rfl) (by kernel_rfl) (by kernel_rfl) (fun _ _ _ h => h) (Or.inl ⟨by rfl, ?hy3⟩) (by assumption) ?rest3
  case hy3 => (intro w hSw; (try dsimp only at hSw); go_simp; (try with_reducible rfl))
  try simp only [Act.put, List.getElem_toArray, List.getElem_cons_succ, List.getElem_cons_zero, List.setIfInBounds_toArray, List.set_cons_zero, List.set_cons_succ]
  refine wpAnyH_take (i := 8) (v := ?v4) rfl (by kernel_rfl) (by kernel_rfl) (by kernel_rfl) (fun _ _ _ h => h) (Or.inl ⟨by rfl, ?hy4⟩) (by assumption) ?rest4
  case hy4 => (intro w hSw; (try dsimp only at hSw); go_simp; (try with_reducible rfl))
  try simp only [Act.put, List.getElem_toArray, List.getElem_cons_succ, List.getElem_cons_zero, List.setIfInBounds_toArray, List.set_cons_zero, List.set_cons_succ]
  refine wpAnyH_take (i := 3) (v := ?v5) rfl (by kernel_rfl) (by kernel_rfl) (by kernel_rfl) (fun _ _ _ h => h) (Or.inl ⟨by rfl, ?hy5⟩) (by assumption) ?rest5
  case hy5 => (intro w hSw; (try dsimp only at hSw); go_simp; (try with_reducible rfl))
  try simp only [Act.put, List.getElem_toArray, List.getElem_cons_succ, List.getElem_cons_zero, List.setIfInBounds_toArray, List.set_cons_zero, List.set_cons_succ]
  refine wpAnyH_ready (rs := [0]) (by kernel_rfl) (by simp) ?_
  refine (AllReadyH.cons (o := _) rfl (fun K hK => ?_) AllReadyH.nil)
  go_simp
  refine (ref_operations _).mono ?_
  intro e wd1 hE1
  obtain ⟨gA, rfl, hgA, hTA, hb1⟩ := hE1
  have hS2 : (fun u => Below w.heap.size w u) wd1 := below_step (show Below w.heap.size w _ by assumption) hb1
  go_wp2_with fail
  refine hK.out _ _ hS2 (fun hHeld => ?_)
  clear hK K
  try simp only [Act.put, List.getElem_toArray, List.getElem_cons_succ, List.getElem_cons_zero, List.setIfInBounds_toArray, List.set_cons_zero, List.set_cons_succ]
  refine wpAnyH_take (i := 4) (v := ?v6) rfl (by kernel_rfl) (by kernel_rfl) (by kernel_rfl) (fun _ _ _ h => h) (Or.inl ⟨by rfl, ?hy6⟩) (by assumption) ?rest6
  case hy6 => (intro w hSw; (try dsimp only at hSw); go_simp; (try with_reducible rfl))
  try simp only [Act.put, List.getElem_toArray, List.getElem_cons_succ, List.getElem_cons_zero, List.setIfInBounds_toArray, List.set_cons_zero, List.set_cons_succ]
  refine wpAnyH_ready (rs := [5, 6]) (by kernel_rfl) (by simp) ?_
  refine (AllReadyH.cons (o := _) rfl (fun K hK => ?_) (AllReadyH.cons (o := _) rfl (fun K hK => ?_) AllReadyH.nil))
  · skip
    have ckA := HR.out gA _ hTA
    go_simp
    refine hK.out _ _ (by assumption) (fun hHeld => ?_)
    clear hK K
    try simp only [Act.put, List.getElem_toArray, List.getElem_cons_succ, List.getElem_cons_zero, List.setIfInBounds_toArray, List.set_cons_zero, List.set_cons_succ]
    refine wpAnyH_ready (rs := [6]) (by kernel_rfl) (by simp) ?_
    refine (AllReadyH.cons (o := _) rfl (fun K hK => ?_) AllReadyH.nil)
    go_simp
    refine (ref_regs _).mono ?_
    intro e wd2 hE2
    obtain ⟨gB, rfl, hgB, hTB, hb2⟩ := hE2
    have hTA_2 := (hTA).below (Nat.lt_of_lt_of_le hgA (by first | exact Nat.le_refl _ | exact hSzA)) hb2
    have hS3 : (fun u => Below w.heap.size w u) wd2 := below_step (show Below w.heap.size w _ by assumption) hb2
    go_wp2_with fail
    refine hK.out _ _ hS3 (fun hHeld => ?_)
    clear hK K
    try simp only [Act.put, List.getElem_toArray, List.getElem_cons_succ, List.getElem_cons_zero, List.setIfInBounds_toArray, List.set_cons_zero, List.set_cons_succ]
    refine wpAnyH_take (i := 9) (v := ?v7) rfl (by kernel_rfl) (by kernel_rfl) (by kernel_rfl) (fun _ _ _ h => h) (Or.inl ⟨by rfl, ?hy7⟩) (by assumption) ?rest7
    case hy7 => (intro w hSw; (try dsimp only at hSw); go_simp; (try with_reducible rfl))
    try simp only [Act.put, List.getElem_toArray, List.getElem_cons_succ, List.getElem_cons_zero, List.setIfInBounds_toArray, List.set_cons_zero, List.set_cons_succ]
    refine wpAnyH_ready (rs := [10]) (by kernel_rfl) (by simp) ?_
    refine (AllReadyH.cons (o := _) rfl (fun K hK => ?_) AllReadyH.nil)
    have ckB := HV.out gB _ hTB
    go_simp
    refine hK.out _ _ (by assumption) (fun hHeld => ?_)
    clear hK K
    try simp only [Act.put, List.getElem_toArray, List.getElem_cons_succ, List.getElem_cons_zero, List.setIfInBounds_toArray, List.set_cons_zero, List.set_cons_succ]
    refine wpAnyH_take (i := 11) (v := ?v8) rfl (by kernel_rfl) (by kernel_rfl) (by kernel_rfl) (fun _ _ _ h => h) (Or.inl ⟨by rfl, ?hy8⟩) (by assumption) ?rest8
    case hy8 => (intro w hSw; (try dsimp only at hSw); go_simp; (try with_reducible rfl))
    try simp only [Act.put, List.getElem_toArray, List.getElem_cons_succ, List.getElem_cons_zero, List.setIfInBounds_toArray, List.set_cons_zero, List.set_cons_succ]
    refine wpAnyH_take (i := 12) (v := ?v9) rfl (by kernel_rfl) (by kernel_rfl) (by kernel_rfl) (fun _ _ _ h => h) (Or.inl ⟨by rfl, ?hy9⟩) (by assumption) ?rest9
    case hy9 => (intro w hSw; (try dsimp only at hSw); go_simp; (try with_reducible rfl))
    try simp only [Act.put, List.getElem_toArray, List.getElem_cons_succ, List.getElem_cons_zero, List.setIfInBounds_toArray, List.set_cons_zero, List.set_cons_succ]
    refine wpAnyH_done (by kernel_rfl) ?_ _
    first | refine NoPanic.normal ?_ | skip
    have HB := Lib.hid (show Below w.heap.size w wd2 by assumption)
    skip
    go_wp2_with fail
    go_ret
    exact ⟨by rw [← HZ.out]; rfl, HB.out⟩
  · skip
    go_simp
    refine (ref_regs _).mono ?_
    intro e wd2 hE2
    obtain ⟨gB, rfl, hgB, hTB, hb2⟩ := hE2
    have hTA_2 := (hTA).below (Nat.lt_of_lt_of_le hgA (by first | exact Nat.le_refl _ | exact hSzA)) hb2
    have hS3 : (fun u => Below w.heap.size w u) wd2 := below_step (show Below w.heap.size w _ by assumption) hb2
    go_wp2_with fail
    refine hK.out _ _ hS3 (fun hHeld => ?_)
    clear hK K
    try simp only [Act.put, List.getElem_toArray, List.getElem_cons_succ, List.getElem_cons_zero, List.setIfInBounds_toArray, List.set_cons_zero, List.set_cons_succ]
    refine wpAnyH_take (i := 9) (v := ?v10) rfl (by kernel_rfl) (by kernel_rfl) (by kernel_rfl) (fun _ _ _ h => h) (Or.inl ⟨by rfl, ?hy10⟩) (by assumption) ?rest10
    case hy10 => (intro w hSw; (try dsimp only at hSw); go_simp; (try with_reducible rfl))
    try simp only [Act.put, List.getElem_toArray, List.getElem_cons_succ, List.getElem_cons_zero, List.setIfInBounds_toArray, List.set_cons_zero, List.set_cons_succ]
    refine wpAnyH_ready (rs := [5, 10]) (by kernel_rfl) (by simp) ?_
    refine (AllReadyH.cons (o := _) rfl (fun K hK => ?_) (AllReadyH.cons (o := _) rfl (fun K hK => ?_) AllReadyH.nil))
    · skip
      have ckA := HR.out gA _ hTA_2
      go_simp
      refine hK.out _ _ (by assumption) (fun hHeld => ?_)
      clear hK K
      try simp only [Act.put, List.getElem_toArray, List.getElem_cons_succ, List.getElem_cons_zero, List.setIfInBounds_toArray, List.set_cons_zero, List.set_cons_succ]
      refine wpAnyH_ready (rs := [10]) (by kernel_rfl) (by simp) ?_
      refine (AllReadyH.cons (o := _) rfl (fun K hK => ?_) AllReadyH.nil)
      have ckB := HV.out gB _ hTB
      go_simp
      refine hK.out _ _ (by assumption) (fun hHeld => ?_)
      clear hK K
      try simp only [Act.put, List.getElem_toArray, List.getElem_cons_succ, List.getElem_cons_zero, List.setIfInBounds_toArray, List.set_cons_zero, List.set_cons_succ]
      refine wpAnyH_take (i := 11) (v := ?v11) rfl (by kernel_rfl) (by kernel_rfl) (by kernel_rfl) (fun _ _ _ h => h) (Or.inl ⟨by rfl, ?hy11⟩) (by assumption) ?rest11
      case hy11 => (intro w hSw; (try dsimp only at hSw); go_simp; (try with_reducible rfl))
      try simp only [Act.put, List.getElem_toArray, List.getElem_cons_succ, List.getElem_cons_zero, List.setIfInBounds_toArray, List.set_cons_zero, List.set_cons_succ]
      refine wpAnyH_take (i := 12) (v := ?v12) rfl (by kernel_rfl) (by kernel_rfl) (by kernel_rfl) (fun _ _ _ h => h) (Or.inl ⟨by rfl, ?hy12⟩) (by assumption) ?rest12
      case hy12 => (intro w hSw; (try dsimp only at hSw); go_simp; (try with_reducible rfl))
      try simp only [Act.put, List.getElem_toArray, List.getElem_cons_succ, List.getElem_cons_zero, List.setIfInBounds_toArray, List.set_cons_zero, List.set_cons_succ]
      refine wpAnyH_done (by kernel_rfl) ?_ _
      first | refine NoPanic.normal ?_ | skip
      have HB := Lib.hid (show Below w.heap.size w wd2 by assumption)
      skip
      go_wp2_with fail
      go_ret
      exact ⟨by rw [← HZ.out]; rfl, HB.out⟩
    · skip
      have ckB := HV.out gB _ hTB
      go_simp
      refine hK.out _ _ (by assumption) (fun hHeld => ?_)
      clear hK K
      try simp only [Act.put, List.getElem_toArray, List.getElem_cons_succ, List.getElem_cons_zero, List.setIfInBounds_toArray, List.set_cons_zero, List.set_cons_succ]
      refine wpAnyH_ready (rs := [5]) (by kernel_rfl) (by simp) ?_
      refine (AllReadyH.cons (o := _) rfl (fun K hK => ?_) AllReadyH.nil)
      have ckA := HR.out gA _ hTA_2
      go_simp
      refine hK.out _ _ (by assumption) (fun hHeld => ?_)
      clear hK K
      try simp only [Act.put, List.getElem_toArray, List.getElem_cons_succ, List.getElem_cons_zero, List.setIfInBounds_toArray, List.set_cons_zero, List.set_cons_succ]
      refine wpAnyH_take (i := 11) (v := ?v13) rfl (by kernel_rfl) (by kernel_rfl) (by kernel_rfl) (fun _ _ _ h => h) (Or.inl ⟨by rfl, ?hy13⟩) (by assumption) ?rest13
      case hy13 => (intro w hSw; (try dsimp only at hSw); go_simp; (try with_reducible rfl))
      try simp only [Act.put, List.getElem_toArray, List.getElem_cons_succ, List.getElem_cons_zero, List.setIfInBounds_toArray, List.set_cons_zero, List.set_cons_succ]
      refine wpAnyH_take (i := 12) (v := ?v14) rfl (by kernel_rfl) (by kernel_rfl) (by kernel_rfl) (fun _ _ _ h => h) (Or.inl ⟨by rfl, ?hy14⟩) (by assumption) ?rest14
      case hy14 => (intro w hSw; (try dsimp only at hSw); go_simp; (try with_reducible rfl))
      try simp only [Act.put, List.getElem_toArray, List.getElem_cons_succ, List.getElem_cons_zero, List.setIfInBounds_toArray, List.set_cons_zero, List.set_cons_succ]
      refine wpAnyH_done (by kernel_rfl) ?_ _
      first | refine NoPanic.normal ?_ | skip
      have HB := Lib.hid (show Below w.heap.size w wd2 by assumption)
      skip
      go_wp2_with fail
      go_ret
      exact ⟨by rw [← HZ.out]; rfl, HB.out⟩
theorem refPlain (c : Nat) (w : World) (hc : c < 256) : Calls Tryz.prog 28 #[.int .u8 c] w fun e w' => e = .returned (.string (strL (plainL c))) ∧ Below w.heap.size w w' := by
  unfold plainL
  by_cases h1 : c < 64
  · rw [if_pos h1]; exact refPlainA c w h1
  rw [if_neg h1]
  by_cases h2 : 192 ≤ c
  · rw [if_pos h2]; exact refPlainZ c w h2 hc
  rw [if_neg h2]
  by_cases h3 : c = 118
  · rw [if_pos h3]; subst h3
    exact (refPlainH w).mono fun _ _ ⟨he, hw⟩ => ⟨he, hw ▸ Below.refl _ _⟩
  rw [if_neg h3]
  by_cases h4 : c < 128
  · rw [if_pos h4]; exact refPlainB c w (by omega) h4 (by rw [beq_eq_false_iff_ne]; omega)
  · rw [if_neg h4]; exact refPlainC c w (by omega) (by omega)
theorem plainL_le (c : Nat) (hc : c < 256) : (plainL c).length ≤ 20 := by
  have := all256 (f := fun c => decide ((plainL c).length ≤ 20)) (by decide +kernel) c hc
  simpa using this
set_option maxHeartbeats 800000 in
theorem refMemory (c : Nat) (w : World) (hc : c < 256) : Calls Tryz.prog 19 #[.int .u8 c] w fun e w' => e = .returned (.bool (memC c)) ∧ Below w.heap.size w w' := by
  have HP := Lib.hid (fun w => refPlain c w hc)
  have HH := Lib.hid (fun w => refHasIs (plainL c) hlL (memC c) w (by have := plainL_le c hc; omega) (by decide) (by decide) (memC_ref c hc))
  go_enter Tryz.func19, Tryz.ntmps19
  go_wp2_with fail
  refine (HP.out _).mono ?_
  rintro e w1 ⟨rfl, hb1⟩
  go_wp2_with fail
  refine (HH.out _).mono ?_
  rintro e w' ⟨rfl, rfl⟩
  go_wp2_with fail
  go_ret
  exact ⟨rfl, hb1⟩
theorem refMemIs (c : Nat) (r : Bool) (w : World) (hc : c < 256) (h : memC c = r) : Calls Tryz.prog 19 #[.int .u8 c] w fun e w' => e = .returned (.bool r) ∧ Below w.heap.size w w' := by
  subst h; exact refMemory c w hc

end Go.Proofs.YtcfkpeemhleleaaGreatDoor
/- The document's Less, Plain, More, Time of layer 8: their contracts. -/
namespace Go.Proofs.YtcfkpeemhleleaaGreatDoor
open Go.RowKit
set_option linter.unusedVariables false

/-- A callee that answers a list of numbers of its own. -/
def Nums (n : Nat) (L : List Int) (w : World) (e : Ending) (w' : World) : Prop := ∃ g, e = .returned (.slice (some ⟨g, 0, none⟩) n n) ∧ g < w'.heap.size ∧ (∀ j, j < n → w'.cell? ⟨g, j, none⟩ = some (.int .i64 (L.getD j 0))) ∧ Below w.heap.size w w'
theorem nums_made (w : World) (L : List Int) (t : TypeId) : ∀ j, j < L.length → (w.alloc (.cells (L.map fun l => Value.int .i64 l).toArray t)).cell? ⟨w.heap.size, j, none⟩ = some (.int .i64 (L.getD j 0)) := by
  intro j hj
  rw [cell_of_row _ _ j _ t (0, 0) (heap_alloc_new _ _)]
  simp [hj]
set_option maxRecDepth 100000 in
set_option maxRecDepth 100000 in
set_option maxHeartbeats 1600000 in
theorem low_ref (w : World) : Calls Tryz.prog 25 #[] w (Nums 64 lowT w) := by
  go_enter Tryz.func25, Tryz.ntmps25
  go_wp2_with fail
  go_ret
  exact ⟨w.heap.size, rfl, by simp, nums_made w lowT 3, balloc w _⟩
set_option maxRecDepth 100000 in
set_option maxRecDepth 100000 in
set_option maxHeartbeats 1600000 in
theorem high_ref (w : World) : Calls Tryz.prog 26 #[] w (Nums 64 highT w) := by
  go_enter Tryz.func26, Tryz.ntmps26
  go_wp2_with fail
  go_ret
  exact ⟨w.heap.size, rfl, by simp, nums_made w highT 3, balloc w _⟩

set_option maxRecDepth 100000 in
set_option maxHeartbeats 800000 in
theorem plain8a (c : Nat) (r : Int) (w : World) (h : c < 64) (hr : lowT.getD c 0 = r) : Calls Tryz.prog 17 #[.int .u8 c] w fun e w' => e = .returned (.int .i64 r) ∧ Below w.heap.size w w' := by
  have HR := Lib.hid hr
  clear hr
  have c0 : (0 : Int) ≤ c := by omega
  have cv : IntKind.i64.wrap (c : Int) = c := IntWalk.i64_in _ (by omega)
  go_enter Tryz.func17, Tryz.ntmps17
  go_wp2_with fail
  refine (low_ref _).mono ?_
  rintro e w1 ⟨g, rfl, hg, hT, hb⟩
  have ck := (hT c h).trans (by rw [HR.out])
  clear hT
  go_wp2_with fail
  go_ret
  exact ⟨rfl, hb⟩
set_option maxRecDepth 100000 in
set_option maxHeartbeats 800000 in
theorem plain8b (c : Nat) (r : Int) (w : World) (h : 192 ≤ c) (hc : c < 256) (hr : highT.getD (c - 192) 0 = r) : Calls Tryz.prog 17 #[.int .u8 c] w fun e w' => e = .returned (.int .i64 r) ∧ Below w.heap.size w w' := by
  have HR := Lib.hid hr
  clear hr
  have c0 : (0 : Int) ≤ c := by omega
  have cv : IntKind.i64.wrap (c : Int) = c := IntWalk.i64_in _ (by omega)
  go_enter Tryz.func17, Tryz.ntmps17
  go_wp2_with fail
  refine (high_ref _).mono ?_
  rintro e w1 ⟨g, rfl, hg, hT, hb⟩
  have ck := (hT (c - 192) (by omega)).trans (by rw [HR.out])
  clear hT
  go_wp2_with fail
  go_ret
  exact ⟨rfl, hb⟩
set_option maxRecDepth 100000 in
set_option maxHeartbeats 800000 in
theorem plain8c (c : Nat) (m : Bool) (w : World) (h : 64 ≤ c) (hc : c < 192) (hm : memC c = m) : Calls Tryz.prog 17 #[.int .u8 c] w fun e w' => e = .returned (.int .i64 (if m = true then 7 else 4)) ∧ Below w.heap.size w w' := by
  have HM := Lib.hid hm
  have c0 : (0 : Int) ≤ c := by omega
  have cv : IntKind.i64.wrap (c : Int) = c := IntWalk.i64_in _ (by omega)
  have h256 : c < 256 := by omega
  clear hm
  cases m with
  | true =>
    go_enter Tryz.func17, Tryz.ntmps17
    go_wp2_with fail
    refine (refMemIs c true _ h256 HM.out).mono ?_
    rintro e w1 ⟨rfl, hb1⟩
    go_wp2_with fail
    go_ret
    exact ⟨rfl, hb1⟩
  | false =>
    go_enter Tryz.func17, Tryz.ntmps17
    go_wp2_with fail
    refine (refMemIs c false _ h256 HM.out).mono ?_
    rintro e w1 ⟨rfl, hb1⟩
    go_wp2_with fail
    go_ret
    exact ⟨rfl, hb1⟩
theorem plain8 (c : Nat) (w : World) (hc : c < 256) : Calls Tryz.prog 17 #[.int .u8 c] w fun e w' => e = .returned (.int .i64 (plainT8 c)) ∧ Below w.heap.size w w' := by
  unfold plainT8
  by_cases h1 : c < 64
  · rw [if_pos h1]; exact plain8a c _ w h1 rfl
  rw [if_neg h1]
  by_cases h2 : 192 ≤ c
  · rw [if_pos h2]; exact plain8b c _ w h2 hc rfl
  · rw [if_neg h2]; exact plain8c c _ w (by omega) (by omega) rfl

theorem eqc (c k : Nat) : ((c : Int) == (k : Int)) = decide (c = k) := by rw [Bool.eq_iff_iff, beq_iff_eq, decide_eq_true_eq]; omega
set_option maxRecDepth 100000 in
set_option maxHeartbeats 1600000 in
theorem less8 (c : Nat) (w : World) (hc : c < 256) : Calls Tryz.prog 18 #[.int .u8 c] w fun e w' => e = .returned (.int .i64 (lessT c)) ∧ w = w' := by
  by_cases h5 : c = 16 ∨ c = 32 ∨ c = 40 ∨ c = 48 ∨ c = 56
  · have HR := Lib.hid (show lessT c = 5 by unfold lessT; rw [if_pos h5])
    rcases h5 with rfl | rfl | rfl | rfl | rfl
    all_goals
      go_enter Tryz.func18, Tryz.ntmps18
      go_wp2_with fail
      go_ret
      exact ⟨by rw [HR.out]; rfl, rfl⟩
  · have f1 : ((c : Int) == 16) = false := (eqc c 16).trans (by simp; omega)
    have f2 : ((c : Int) == 32) = false := (eqc c 32).trans (by simp; omega)
    have f3 : ((c : Int) == 40) = false := (eqc c 40).trans (by simp; omega)
    have f4 : ((c : Int) == 48) = false := (eqc c 48).trans (by simp; omega)
    have f5 : ((c : Int) == 56) = false := (eqc c 56).trans (by simp; omega)
    have c0 : (0 : Int) ≤ c := by omega
    have cv : IntKind.i64.wrap (c : Int) = c := IntWalk.i64_in _ (by omega)
    by_cases h1 : 192 ≤ c
    · obtain ⟨m, hm⟩ : ∃ m, c % 8 = m := ⟨_, rfl⟩
      have wm : (c : Int).tmod 8 = (m : Int) := by rw [Int.tmod_eq_emod_of_nonneg (by omega)]; omega
      by_cases h6 : m = 0
      · have HR := Lib.hid (show lessT c = 6 by unfold lessT; rw [if_neg h5, if_pos ⟨h1, by omega⟩])
        subst h6
        clear h5 hm
        go_enter Tryz.func18, Tryz.ntmps18
        go_wp2_with fail
        go_ret
        exact ⟨by rw [HR.out]; rfl, rfl⟩
      by_cases h7 : m = 4
      · have HR := Lib.hid (show lessT c = 7 by unfold lessT; rw [if_neg h5, if_neg (by omega), if_pos ⟨h1, by omega⟩])
        subst h7
        clear h5 h6 hm
        go_enter Tryz.func18, Tryz.ntmps18
        go_wp2_with fail
        go_ret
        exact ⟨by rw [HR.out]; rfl, rfl⟩
      · have HR := Lib.hid (show lessT c = 0 by unfold lessT; rw [if_neg h5, if_neg (by omega), if_neg (by omega)])
        have g0 : ((m : Int) == 0) = false := (eqc m 0).trans (by simp; omega)
        have g4 : ((m : Int) == 4) = false := (eqc m 4).trans (by simp; omega)
        clear h5 h6 h7 hm
        go_enter Tryz.func18, Tryz.ntmps18
        go_wp2_with fail
        go_ret
        exact ⟨by rw [HR.out]; rfl, rfl⟩
    · have HR := Lib.hid (show lessT c = 0 by unfold lessT; rw [if_neg h5, if_neg (by omega), if_neg (by omega)])
      have g : decide ((192 : Int) ≤ c) = false := by simp; omega
      clear h5
      go_enter Tryz.func18, Tryz.ntmps18
      go_wp2_with fail
      go_ret
      exact ⟨by rw [HR.out]; rfl, rfl⟩

end Go.Proofs.YtcfkpeemhleleaaGreatDoor
/- The document's More, Time of layer 8: their contracts. -/
namespace Go.Proofs.YtcfkpeemhleleaaGreatDoor
open Go.RowKit
set_option linter.unusedVariables false

set_option maxRecDepth 100000 in
set_option maxHeartbeats 1600000 in
theorem moreA (c : Nat) (w : World) (hc : c < 256) (h1 : 160 ≤ c) (h2 : c < 192) (h3 : c % 8 < 4) (h4 : 176 ≤ c) : Calls Tryz.prog 20 #[.int .u8 c] w fun e w' => e = .returned (.int .i64 (moreT8 c)) ∧ Below w.heap.size w w' := by
  have HR := Lib.hid (show moreT8 c = 21 by unfold moreT8; rw [if_pos ⟨h1, h2, h3⟩, if_pos h4])
  have c0 : (0 : Int) ≤ c := by omega
  have cv : IntKind.i64.wrap (c : Int) = c := IntWalk.i64_in _ (by omega)
  obtain ⟨m, hm⟩ : ∃ m, c % 8 = m := ⟨_, rfl⟩
  have wm : (c : Int).tmod 8 = (m : Int) := by rw [Int.tmod_eq_emod_of_nonneg (by omega)]; omega
  have m0 : (0 : Int) ≤ m := by omega
  have m8 : (m : Int) < 8 := by omega
  have a1 : decide ((160 : Int) ≤ c) = true := by simp; omega
  have a2 : decide ((c : Int) < 192) = true := by simp; omega
  have a3 : decide ((m : Int) < 4) = true := by simp; omega
  have a4 : decide ((176 : Int) ≤ c) = true := by simp; omega
  clear h1 h2 h3 h4 hm
  go_enter Tryz.func20, Tryz.ntmps20
  go_wp2_with fail
  go_ret
  exact ⟨by rw [HR.out]; rfl, Below.refl _ _⟩
set_option maxRecDepth 100000 in
set_option maxHeartbeats 1600000 in
theorem moreB (c : Nat) (w : World) (hc : c < 256) (h1 : 160 ≤ c) (h2 : c < 192) (h3 : c % 8 < 4) (h4 : ¬ 176 ≤ c) : Calls Tryz.prog 20 #[.int .u8 c] w fun e w' => e = .returned (.int .i64 (moreT8 c)) ∧ Below w.heap.size w w' := by
  have HR := Lib.hid (show moreT8 c = 16 by unfold moreT8; rw [if_pos ⟨h1, h2, h3⟩, if_neg h4])
  have c0 : (0 : Int) ≤ c := by omega
  have cv : IntKind.i64.wrap (c : Int) = c := IntWalk.i64_in _ (by omega)
  obtain ⟨m, hm⟩ : ∃ m, c % 8 = m := ⟨_, rfl⟩
  have wm : (c : Int).tmod 8 = (m : Int) := by rw [Int.tmod_eq_emod_of_nonneg (by omega)]; omega
  have m0 : (0 : Int) ≤ m := by omega
  have m8 : (m : Int) < 8 := by omega
  have a1 : decide ((160 : Int) ≤ c) = true := by simp; omega
  have a2 : decide ((c : Int) < 192) = true := by simp; omega
  have a3 : decide ((m : Int) < 4) = true := by simp; omega
  have a4 : decide ((176 : Int) ≤ c) = false := by simp; omega
  clear h1 h2 h3 h4 hm
  go_enter Tryz.func20, Tryz.ntmps20
  go_wp2_with fail
  go_ret
  exact ⟨by rw [HR.out]; rfl, Below.refl _ _⟩
set_option maxRecDepth 100000 in
set_option maxHeartbeats 1600000 in
theorem moreC (c : Nat) (w : World) (hc : c < 256) (h1 : 160 ≤ c) (h2 : c < 192) (h3 : ¬ c % 8 < 4) : Calls Tryz.prog 20 #[.int .u8 c] w fun e w' => e = .returned (.int .i64 (moreT8 c)) ∧ Below w.heap.size w w' := by
  have HR := Lib.hid (show moreT8 c = 8 by unfold moreT8; rw [if_neg (by omega), if_pos (by omega)])
  have c0 : (0 : Int) ≤ c := by omega
  have cv : IntKind.i64.wrap (c : Int) = c := IntWalk.i64_in _ (by omega)
  obtain ⟨m, hm⟩ : ∃ m, c % 8 = m := ⟨_, rfl⟩
  have wm : (c : Int).tmod 8 = (m : Int) := by rw [Int.tmod_eq_emod_of_nonneg (by omega)]; omega
  have m0 : (0 : Int) ≤ m := by omega
  have m8 : (m : Int) < 8 := by omega
  have a1 : decide ((160 : Int) ≤ c) = true := by simp; omega
  have a2 : decide ((c : Int) < 192) = true := by simp; omega
  have a3 : decide ((m : Int) < 4) = false := by simp; omega
  have a4 : decide ((c : Int) < 64) = false := by simp; omega
  have a5 : decide ((128 : Int) ≤ c) = true := by simp; omega
  clear h1 h2 h3 hm
  go_enter Tryz.func20, Tryz.ntmps20
  go_wp2_with fail
  go_ret
  exact ⟨by rw [HR.out]; rfl, Below.refl _ _⟩
set_option maxRecDepth 100000 in
set_option maxHeartbeats 1600000 in
theorem moreD (c : Nat) (w : World) (hc : c < 256) (h1 : 192 ≤ c) : Calls Tryz.prog 20 #[.int .u8 c] w fun e w' => e = .returned (.int .i64 (moreT8 c)) ∧ Below w.heap.size w w' := by
  have HR := Lib.hid (show moreT8 c = 8 by unfold moreT8; rw [if_neg (by omega), if_pos (by omega)])
  have c0 : (0 : Int) ≤ c := by omega
  have cv : IntKind.i64.wrap (c : Int) = c := IntWalk.i64_in _ (by omega)
  obtain ⟨m, hm⟩ : ∃ m, c % 8 = m := ⟨_, rfl⟩
  have wm : (c : Int).tmod 8 = (m : Int) := by rw [Int.tmod_eq_emod_of_nonneg (by omega)]; omega
  have m0 : (0 : Int) ≤ m := by omega
  have m8 : (m : Int) < 8 := by omega
  have a1 : decide ((160 : Int) ≤ c) = true := by simp; omega
  have a2 : decide ((c : Int) < 192) = false := by simp; omega
  have a4 : decide ((c : Int) < 64) = false := by simp; omega
  have a5 : decide ((128 : Int) ≤ c) = true := by simp; omega
  clear h1 hm
  go_enter Tryz.func20, Tryz.ntmps20
  go_wp2_with fail
  go_ret
  exact ⟨by rw [HR.out]; rfl, Below.refl _ _⟩
set_option maxRecDepth 100000 in
set_option maxHeartbeats 1600000 in
theorem moreE (c : Nat) (w : World) (hc : c < 256) (h1 : c < 160) (h2 : 128 ≤ c) : Calls Tryz.prog 20 #[.int .u8 c] w fun e w' => e = .returned (.int .i64 (moreT8 c)) ∧ Below w.heap.size w w' := by
  have HR := Lib.hid (show moreT8 c = 8 by unfold moreT8; rw [if_neg (by omega), if_pos (by omega)])
  have c0 : (0 : Int) ≤ c := by omega
  have cv : IntKind.i64.wrap (c : Int) = c := IntWalk.i64_in _ (by omega)
  obtain ⟨m, hm⟩ : ∃ m, c % 8 = m := ⟨_, rfl⟩
  have wm : (c : Int).tmod 8 = (m : Int) := by rw [Int.tmod_eq_emod_of_nonneg (by omega)]; omega
  have m0 : (0 : Int) ≤ m := by omega
  have m8 : (m : Int) < 8 := by omega
  have a1 : decide ((160 : Int) ≤ c) = false := by simp; omega
  have a4 : decide ((c : Int) < 64) = false := by simp; omega
  have a5 : decide ((128 : Int) ≤ c) = true := by simp; omega
  clear h1 h2 hm
  go_enter Tryz.func20, Tryz.ntmps20
  go_wp2_with fail
  go_ret
  exact ⟨by rw [HR.out]; rfl, Below.refl _ _⟩
set_option maxRecDepth 100000 in
set_option maxHeartbeats 1600000 in
theorem moreF (c : Nat) (w : World) (hc : c < 256) (h1 : c < 64) : Calls Tryz.prog 20 #[.int .u8 c] w fun e w' => e = .returned (.int .i64 (moreT8 c)) ∧ Below w.heap.size w w' := by
  have HR := Lib.hid (show moreT8 c = 8 by unfold moreT8; rw [if_neg (by omega), if_pos (by omega)])
  have c0 : (0 : Int) ≤ c := by omega
  have cv : IntKind.i64.wrap (c : Int) = c := IntWalk.i64_in _ (by omega)
  obtain ⟨m, hm⟩ : ∃ m, c % 8 = m := ⟨_, rfl⟩
  have wm : (c : Int).tmod 8 = (m : Int) := by rw [Int.tmod_eq_emod_of_nonneg (by omega)]; omega
  have m0 : (0 : Int) ≤ m := by omega
  have m8 : (m : Int) < 8 := by omega
  have a1 : decide ((160 : Int) ≤ c) = false := by simp; omega
  have a4 : decide ((c : Int) < 64) = true := by simp; omega
  clear h1 hm
  go_enter Tryz.func20, Tryz.ntmps20
  go_wp2_with fail
  go_ret
  exact ⟨by rw [HR.out]; rfl, Below.refl _ _⟩
set_option maxRecDepth 100000 in
set_option maxHeartbeats 1600000 in
theorem more103 (w : World) : Calls Tryz.prog 20 #[.int .u8 103] w fun e w' => e = .returned (.int .i64 18) ∧ Below w.heap.size w w' := by
  go_enter Tryz.func20, Tryz.ntmps20
  go_wp2_with fail
  go_ret
  exact ⟨rfl, Below.refl _ _⟩
set_option maxRecDepth 100000 in
set_option maxHeartbeats 1600000 in
theorem more111 (w : World) : Calls Tryz.prog 20 #[.int .u8 111] w fun e w' => e = .returned (.int .i64 18) ∧ Below w.heap.size w w' := by
  go_enter Tryz.func20, Tryz.ntmps20
  go_wp2_with fail
  go_ret
  exact ⟨rfl, Below.refl _ _⟩
set_option maxRecDepth 100000 in
set_option maxHeartbeats 1600000 in
theorem more71 (w : World) : Calls Tryz.prog 20 #[.int .u8 71] w fun e w' => e = .returned (.int .i64 9) ∧ Below w.heap.size w w' := by
  go_enter Tryz.func20, Tryz.ntmps20
  go_wp2_with fail
  go_ret
  exact ⟨rfl, Below.refl _ _⟩
set_option maxRecDepth 100000 in
set_option maxHeartbeats 1600000 in
theorem more79 (w : World) : Calls Tryz.prog 20 #[.int .u8 79] w fun e w' => e = .returned (.int .i64 9) ∧ Below w.heap.size w w' := by
  go_enter Tryz.func20, Tryz.ntmps20
  go_wp2_with fail
  go_ret
  exact ⟨rfl, Below.refl _ _⟩
set_option maxRecDepth 100000 in
set_option maxHeartbeats 1600000 in
theorem more87 (w : World) : Calls Tryz.prog 20 #[.int .u8 87] w fun e w' => e = .returned (.int .i64 9) ∧ Below w.heap.size w w' := by
  go_enter Tryz.func20, Tryz.ntmps20
  go_wp2_with fail
  go_ret
  exact ⟨rfl, Below.refl _ _⟩
set_option maxRecDepth 100000 in
set_option maxHeartbeats 1600000 in
theorem more95 (w : World) : Calls Tryz.prog 20 #[.int .u8 95] w fun e w' => e = .returned (.int .i64 9) ∧ Below w.heap.size w w' := by
  go_enter Tryz.func20, Tryz.ntmps20
  go_wp2_with fail
  go_ret
  exact ⟨rfl, Below.refl _ _⟩
set_option maxRecDepth 100000 in
set_option maxHeartbeats 1600000 in
theorem moreI (c : Nat) (w : World) (hc : c < 256) (h1 : 64 ≤ c) (h2 : c < 128) (h3 : ¬ (c = 103 ∨ c = 111)) (h4 : ¬ (c = 71 ∨ c = 79 ∨ c = 87 ∨ c = 95)) : Calls Tryz.prog 20 #[.int .u8 c] w fun e w' => e = .returned (.int .i64 (moreT8 c)) ∧ Below w.heap.size w w' := by
  have HR := Lib.hid (show moreT8 c = eightT.getD (c % 8) 0 by unfold moreT8; rw [if_neg (by omega), if_neg (by omega), if_neg h3, if_neg h4])
  have c0 : (0 : Int) ≤ c := by omega
  have cv : IntKind.i64.wrap (c : Int) = c := IntWalk.i64_in _ (by omega)
  obtain ⟨m, hm⟩ : ∃ m, c % 8 = m := ⟨_, rfl⟩
  have wm : (c : Int).tmod 8 = (m : Int) := by rw [Int.tmod_eq_emod_of_nonneg (by omega)]; omega
  have m0 : (0 : Int) ≤ m := by omega
  have m8 : (m : Int) < 8 := by omega
  have a1 : decide ((160 : Int) ≤ c) = false := by simp; omega
  have a4 : decide ((c : Int) < 64) = false := by simp; omega
  have a5 : decide ((128 : Int) ≤ c) = false := by simp; omega
  have q103 : ((c : Int) == 103) = false := (eqc c 103).trans (by simp; omega)
  have q111 : ((c : Int) == 111) = false := (eqc c 111).trans (by simp; omega)
  have q71 : ((c : Int) == 71) = false := (eqc c 71).trans (by simp; omega)
  have q79 : ((c : Int) == 79) = false := (eqc c 79).trans (by simp; omega)
  have q87 : ((c : Int) == 87) = false := (eqc c 87).trans (by simp; omega)
  have q95 : ((c : Int) == 95) = false := (eqc c 95).trans (by simp; omega)
  obtain ⟨r, hr⟩ : ∃ r, eightT.getD m 0 = r := ⟨_, rfl⟩
  have HR := Lib.hid (show moreT8 c = r by rw [HR.out, hm, hr])
  have ck : (w.alloc (.cells #[.int .i64 12, .int .i64 12, .int .i64 15, .int .i64 20, .int .i64 8, .int .i64 14, .int .i64 8, .int .i64 8] 3)).cell? ⟨w.heap.size, m, none⟩ = some (.int .i64 r) := (nums_made w eightT 3 m (by show m < 8; omega)).trans (by rw [hr])
  clear hr h1 h2 h3 h4 hm
  go_enter Tryz.func20, Tryz.ntmps20
  go_wp2_with fail
  go_ret
  exact ⟨by rw [HR.out]; rfl, balloc _ _⟩
theorem more8 (c : Nat) (w : World) (hc : c < 256) : Calls Tryz.prog 20 #[.int .u8 c] w fun e w' => e = .returned (.int .i64 (moreT8 c)) ∧ Below w.heap.size w w' := by
  by_cases h1 : c < 64
  · exact moreF c w hc h1
  by_cases h2 : c < 128
  · by_cases h3 : c = 103 ∨ c = 111
    · rcases h3 with rfl | rfl
      · exact more103 w
      · exact more111 w
    by_cases h4 : c = 71 ∨ c = 79 ∨ c = 87 ∨ c = 95
    · rcases h4 with rfl | rfl | rfl | rfl
      · exact more71 w
      · exact more79 w
      · exact more87 w
      · exact more95 w
    exact moreI c w hc (by omega) h2 h3 h4
  by_cases h5 : c < 160
  · exact moreE c w hc h5 (by omega)
  by_cases h6 : 192 ≤ c
  · exact moreD c w hc h6
  by_cases h7 : c % 8 < 4
  · by_cases h8 : 176 ≤ c
    · exact moreA c w hc (by omega) (by omega) h7 h8
    · exact moreB c w hc (by omega) (by omega) h7 h8
  · exact moreC c w hc (by omega) (by omega) h7

end Go.Proofs.YtcfkpeemhleleaaGreatDoor
/- The document's Time of layer 8: its contract. -/
namespace Go.Proofs.YtcfkpeemhleleaaGreatDoor
open Go.RowKit
set_option linter.unusedVariables false

theorem plainT8_bd (c : Nat) (hc : c < 256) : 4 ≤ plainT8 c ∧ plainT8 c ≤ 19 := by
  have := all256 (f := fun c => decide (4 ≤ plainT8 c) && decide (plainT8 c ≤ 19)) (by decide +kernel) c hc
  simpa using this
theorem lessT_bd (c : Nat) (hc : c < 256) : 0 ≤ lessT c ∧ lessT c ≤ 7 := by
  have := all256 (f := fun c => decide (0 ≤ lessT c) && decide (lessT c ≤ 7)) (by decide +kernel) c hc
  simpa using this
theorem moreT8_bd (c : Nat) (hc : c < 256) : 8 ≤ moreT8 c ∧ moreT8 c ≤ 21 := by
  have := all256 (f := fun c => decide (8 ≤ moreT8 c) && decide (moreT8 c ≤ 21)) (by decide +kernel) c hc
  simpa using this
theorem plain8Is (c : Nat) (r : Int) (w : World) (hc : c < 256) (h : plainT8 c = r) : Calls Tryz.prog 17 #[.int .u8 c] w fun e w' => e = .returned (.int .i64 r) ∧ Below w.heap.size w w' := by
  subst h; exact plain8 c w hc
theorem less8Is (c : Nat) (r : Int) (w : World) (hc : c < 256) (h : lessT c = r) : Calls Tryz.prog 18 #[.int .u8 c] w fun e w' => e = .returned (.int .i64 r) ∧ w = w' := by
  subst h; exact less8 c w hc
theorem more8Is (c : Nat) (r : Int) (w : World) (hc : c < 256) (h : moreT8 c = r) : Calls Tryz.prog 20 #[.int .u8 c] w fun e w' => e = .returned (.int .i64 r) ∧ Below w.heap.size w w' := by
  subst h; exact more8 c w hc

set_option maxRecDepth 100000 in
set_option maxHeartbeats 1600000 in
theorem doc0nt (c : Nat) (w : World) (hc : c < 256) : Calls Tryz.prog 12 #[.int .i64 0, .bool false, .int .u8 c, .bool true] w fun e w' => e = .returned (.int .i64 (timeT 0 false c true)) ∧ Below w.heap.size w w' := by
  obtain ⟨p0, p1⟩ := plainT8_bd c hc
  obtain ⟨l0, l1⟩ := lessT_bd c hc
  have HT : timeT 0 false c true = plainT8 c - 4 - 0 + 0 := by
    unfold timeT; rw [if_pos rfl, if_pos rfl, if_neg (by simp), if_neg (by simp)]
  rw [HT]
  obtain ⟨P, hP⟩ : ∃ P, plainT8 c = P := ⟨_, rfl⟩
  obtain ⟨Q, hQ⟩ : ∃ Q, lessT c = Q := ⟨_, rfl⟩
  have HP := Lib.hid hP
  have HQ := Lib.hid hQ
  rw [hP]
  rw [hP] at p0 p1
  rw [hQ] at l0 l1
  have c0 : (0 : Int) ≤ c := by omega
  have cv : IntKind.i64.wrap (c : Int) = c := IntWalk.i64_in _ (by omega)
  clear HT hP hQ
  go_enter Tryz.func12, Tryz.ntmps12
  go_wp2_with fail
  refine (plain8Is c P _ hc HP.out).mono ?_
  rintro e w1 ⟨rfl, hb1⟩
  go_wp2_with fail
  go_ret
  refine ⟨?_, hb1⟩
  show Ending.returned (.int .i64 _) = _
  congr 2
  all_goals omega
set_option maxRecDepth 100000 in
set_option maxHeartbeats 1600000 in
theorem doc0st (c : Nat) (w : World) (hc : c < 256) (h : c = 54) : Calls Tryz.prog 12 #[.int .i64 0, .bool true, .int .u8 c, .bool true] w fun e w' => e = .returned (.int .i64 (timeT 0 true c true)) ∧ Below w.heap.size w w' := by
  obtain ⟨p0, p1⟩ := plainT8_bd c hc
  obtain ⟨l0, l1⟩ := lessT_bd c hc
  have HT : timeT 0 true c true = plainT8 c - 4 - 0 + 5 := by
    unfold timeT; rw [if_pos rfl, if_pos rfl, if_pos ⟨rfl, h⟩]
  rw [HT]
  obtain ⟨P, hP⟩ : ∃ P, plainT8 c = P := ⟨_, rfl⟩
  obtain ⟨Q, hQ⟩ : ∃ Q, lessT c = Q := ⟨_, rfl⟩
  have HP := Lib.hid hP
  have HQ := Lib.hid hQ
  rw [hP]
  rw [hP] at p0 p1
  rw [hQ] at l0 l1
  have c0 : (0 : Int) ≤ c := by omega
  have cv : IntKind.i64.wrap (c : Int) = c := IntWalk.i64_in _ (by omega)
  have f54 : ((c : Int) == 54) = true := by rw [beq_iff_eq]; omega
  clear HT hP hQ h
  go_enter Tryz.func12, Tryz.ntmps12
  go_wp2_with fail
  refine (plain8Is c P _ hc HP.out).mono ?_
  rintro e w1 ⟨rfl, hb1⟩
  go_wp2_with fail
  go_ret
  refine ⟨?_, hb1⟩
  show Ending.returned (.int .i64 _) = _
  congr 2
  all_goals omega
set_option maxRecDepth 100000 in
set_option maxHeartbeats 1600000 in
theorem doc0mt (c : Nat) (w : World) (hc : c < 256) (h : ¬ c = 54) (hm : memC c = true) : Calls Tryz.prog 12 #[.int .i64 0, .bool true, .int .u8 c, .bool true] w fun e w' => e = .returned (.int .i64 (timeT 0 true c true)) ∧ Below w.heap.size w w' := by
  obtain ⟨p0, p1⟩ := plainT8_bd c hc
  obtain ⟨l0, l1⟩ := lessT_bd c hc
  have HT : timeT 0 true c true = plainT8 c - 4 - 0 + 8 := by
    unfold timeT; rw [if_pos rfl, if_pos rfl, if_neg (by simp [h]), if_pos ⟨rfl, hm⟩]
  rw [HT]
  obtain ⟨P, hP⟩ : ∃ P, plainT8 c = P := ⟨_, rfl⟩
  obtain ⟨Q, hQ⟩ : ∃ Q, lessT c = Q := ⟨_, rfl⟩
  have HP := Lib.hid hP
  have HQ := Lib.hid hQ
  rw [hP]
  rw [hP] at p0 p1
  rw [hQ] at l0 l1
  have c0 : (0 : Int) ≤ c := by omega
  have cv : IntKind.i64.wrap (c : Int) = c := IntWalk.i64_in _ (by omega)
  have f54 : ((c : Int) == 54) = false := (eqc c 54).trans (by simp; omega)
  have HM := Lib.hid hm
  clear HT hP hQ h hm
  go_enter Tryz.func12, Tryz.ntmps12
  go_wp2_with fail
  refine (plain8Is c P _ hc HP.out).mono ?_
  rintro e w1 ⟨rfl, hb1⟩
  go_wp2_with fail
  refine (refMemIs c true _ hc HM.out).mono ?_
  rintro e w2 ⟨rfl, hb2⟩
  go_wp2_with fail
  go_ret
  refine ⟨?_, below_step hb1 hb2⟩
  show Ending.returned (.int .i64 _) = _
  congr 2
  all_goals omega
set_option maxRecDepth 100000 in
set_option maxHeartbeats 1600000 in
theorem doc0ot (c : Nat) (w : World) (hc : c < 256) (h : ¬ c = 54) (hm : memC c = false) : Calls Tryz.prog 12 #[.int .i64 0, .bool true, .int .u8 c, .bool true] w fun e w' => e = .returned (.int .i64 (timeT 0 true c true)) ∧ Below w.heap.size w w' := by
  obtain ⟨p0, p1⟩ := plainT8_bd c hc
  obtain ⟨l0, l1⟩ := lessT_bd c hc
  have HT : timeT 0 true c true = plainT8 c - 4 - 0 + 0 := by
    unfold timeT; rw [if_pos rfl, if_pos rfl, if_neg (by simp [h]), if_neg (by simp [hm])]
  rw [HT]
  obtain ⟨P, hP⟩ : ∃ P, plainT8 c = P := ⟨_, rfl⟩
  obtain ⟨Q, hQ⟩ : ∃ Q, lessT c = Q := ⟨_, rfl⟩
  have HP := Lib.hid hP
  have HQ := Lib.hid hQ
  rw [hP]
  rw [hP] at p0 p1
  rw [hQ] at l0 l1
  have c0 : (0 : Int) ≤ c := by omega
  have cv : IntKind.i64.wrap (c : Int) = c := IntWalk.i64_in _ (by omega)
  have f54 : ((c : Int) == 54) = false := (eqc c 54).trans (by simp; omega)
  have HM := Lib.hid hm
  clear HT hP hQ h hm
  go_enter Tryz.func12, Tryz.ntmps12
  go_wp2_with fail
  refine (plain8Is c P _ hc HP.out).mono ?_
  rintro e w1 ⟨rfl, hb1⟩
  go_wp2_with fail
  refine (refMemIs c false _ hc HM.out).mono ?_
  rintro e w2 ⟨rfl, hb2⟩
  go_wp2_with fail
  go_ret
  refine ⟨?_, below_step hb1 hb2⟩
  show Ending.returned (.int .i64 _) = _
  congr 2
  all_goals omega
set_option maxRecDepth 100000 in
set_option maxHeartbeats 1600000 in
theorem doc0nf (c : Nat) (w : World) (hc : c < 256) : Calls Tryz.prog 12 #[.int .i64 0, .bool false, .int .u8 c, .bool false] w fun e w' => e = .returned (.int .i64 (timeT 0 false c false)) ∧ Below w.heap.size w w' := by
  obtain ⟨p0, p1⟩ := plainT8_bd c hc
  obtain ⟨l0, l1⟩ := lessT_bd c hc
  have HT : timeT 0 false c false = plainT8 c - 4 - lessT c + 0 := by
    unfold timeT; rw [if_pos rfl, if_neg (by decide), if_neg (by simp), if_neg (by simp)]
  rw [HT]
  obtain ⟨P, hP⟩ : ∃ P, plainT8 c = P := ⟨_, rfl⟩
  obtain ⟨Q, hQ⟩ : ∃ Q, lessT c = Q := ⟨_, rfl⟩
  have HP := Lib.hid hP
  have HQ := Lib.hid hQ
  rw [hP, hQ]
  rw [hP] at p0 p1
  rw [hQ] at l0 l1
  have c0 : (0 : Int) ≤ c := by omega
  have cv : IntKind.i64.wrap (c : Int) = c := IntWalk.i64_in _ (by omega)
  clear HT hP hQ
  go_enter Tryz.func12, Tryz.ntmps12
  go_wp2_with fail
  refine (plain8Is c P _ hc HP.out).mono ?_
  rintro e w1 ⟨rfl, hb1⟩
  go_wp2_with fail
  refine (less8Is c Q _ hc HQ.out).mono ?_
  rintro e w' ⟨rfl, rfl⟩
  go_wp2_with fail
  go_ret
  refine ⟨?_, hb1⟩
  show Ending.returned (.int .i64 _) = _
  congr 2
  all_goals omega
set_option maxRecDepth 100000 in
set_option maxHeartbeats 1600000 in
theorem doc0sf (c : Nat) (w : World) (hc : c < 256) (h : c = 54) : Calls Tryz.prog 12 #[.int .i64 0, .bool true, .int .u8 c, .bool false] w fun e w' => e = .returned (.int .i64 (timeT 0 true c false)) ∧ Below w.heap.size w w' := by
  obtain ⟨p0, p1⟩ := plainT8_bd c hc
  obtain ⟨l0, l1⟩ := lessT_bd c hc
  have HT : timeT 0 true c false = plainT8 c - 4 - lessT c + 5 := by
    unfold timeT; rw [if_pos rfl, if_neg (by decide), if_pos ⟨rfl, h⟩]
  rw [HT]
  obtain ⟨P, hP⟩ : ∃ P, plainT8 c = P := ⟨_, rfl⟩
  obtain ⟨Q, hQ⟩ : ∃ Q, lessT c = Q := ⟨_, rfl⟩
  have HP := Lib.hid hP
  have HQ := Lib.hid hQ
  rw [hP, hQ]
  rw [hP] at p0 p1
  rw [hQ] at l0 l1
  have c0 : (0 : Int) ≤ c := by omega
  have cv : IntKind.i64.wrap (c : Int) = c := IntWalk.i64_in _ (by omega)
  have f54 : ((c : Int) == 54) = true := by rw [beq_iff_eq]; omega
  clear HT hP hQ h
  go_enter Tryz.func12, Tryz.ntmps12
  go_wp2_with fail
  refine (plain8Is c P _ hc HP.out).mono ?_
  rintro e w1 ⟨rfl, hb1⟩
  go_wp2_with fail
  refine (less8Is c Q _ hc HQ.out).mono ?_
  rintro e w' ⟨rfl, rfl⟩
  go_wp2_with fail
  go_ret
  refine ⟨?_, hb1⟩
  show Ending.returned (.int .i64 _) = _
  congr 2
  all_goals omega
set_option maxRecDepth 100000 in
set_option maxHeartbeats 1600000 in
theorem doc0mf (c : Nat) (w : World) (hc : c < 256) (h : ¬ c = 54) (hm : memC c = true) : Calls Tryz.prog 12 #[.int .i64 0, .bool true, .int .u8 c, .bool false] w fun e w' => e = .returned (.int .i64 (timeT 0 true c false)) ∧ Below w.heap.size w w' := by
  obtain ⟨p0, p1⟩ := plainT8_bd c hc
  obtain ⟨l0, l1⟩ := lessT_bd c hc
  have HT : timeT 0 true c false = plainT8 c - 4 - lessT c + 8 := by
    unfold timeT; rw [if_pos rfl, if_neg (by decide), if_neg (by simp [h]), if_pos ⟨rfl, hm⟩]
  rw [HT]
  obtain ⟨P, hP⟩ : ∃ P, plainT8 c = P := ⟨_, rfl⟩
  obtain ⟨Q, hQ⟩ : ∃ Q, lessT c = Q := ⟨_, rfl⟩
  have HP := Lib.hid hP
  have HQ := Lib.hid hQ
  rw [hP, hQ]
  rw [hP] at p0 p1
  rw [hQ] at l0 l1
  have c0 : (0 : Int) ≤ c := by omega
  have cv : IntKind.i64.wrap (c : Int) = c := IntWalk.i64_in _ (by omega)
  have f54 : ((c : Int) == 54) = false := (eqc c 54).trans (by simp; omega)
  have HM := Lib.hid hm
  clear HT hP hQ h hm
  go_enter Tryz.func12, Tryz.ntmps12
  go_wp2_with fail
  refine (plain8Is c P _ hc HP.out).mono ?_
  rintro e w1 ⟨rfl, hb1⟩
  go_wp2_with fail
  refine (less8Is c Q _ hc HQ.out).mono ?_
  rintro e w' ⟨rfl, rfl⟩
  go_wp2_with fail
  refine (refMemIs c true _ hc HM.out).mono ?_
  rintro e w2 ⟨rfl, hb2⟩
  go_wp2_with fail
  go_ret
  refine ⟨?_, below_step hb1 hb2⟩
  show Ending.returned (.int .i64 _) = _
  congr 2
  all_goals omega
set_option maxRecDepth 100000 in
set_option maxHeartbeats 1600000 in
theorem doc0of (c : Nat) (w : World) (hc : c < 256) (h : ¬ c = 54) (hm : memC c = false) : Calls Tryz.prog 12 #[.int .i64 0, .bool true, .int .u8 c, .bool false] w fun e w' => e = .returned (.int .i64 (timeT 0 true c false)) ∧ Below w.heap.size w w' := by
  obtain ⟨p0, p1⟩ := plainT8_bd c hc
  obtain ⟨l0, l1⟩ := lessT_bd c hc
  have HT : timeT 0 true c false = plainT8 c - 4 - lessT c + 0 := by
    unfold timeT; rw [if_pos rfl, if_neg (by decide), if_neg (by simp [h]), if_neg (by simp [hm])]
  rw [HT]
  obtain ⟨P, hP⟩ : ∃ P, plainT8 c = P := ⟨_, rfl⟩
  obtain ⟨Q, hQ⟩ : ∃ Q, lessT c = Q := ⟨_, rfl⟩
  have HP := Lib.hid hP
  have HQ := Lib.hid hQ
  rw [hP, hQ]
  rw [hP] at p0 p1
  rw [hQ] at l0 l1
  have c0 : (0 : Int) ≤ c := by omega
  have cv : IntKind.i64.wrap (c : Int) = c := IntWalk.i64_in _ (by omega)
  have f54 : ((c : Int) == 54) = false := (eqc c 54).trans (by simp; omega)
  have HM := Lib.hid hm
  clear HT hP hQ h hm
  go_enter Tryz.func12, Tryz.ntmps12
  go_wp2_with fail
  refine (plain8Is c P _ hc HP.out).mono ?_
  rintro e w1 ⟨rfl, hb1⟩
  go_wp2_with fail
  refine (less8Is c Q _ hc HQ.out).mono ?_
  rintro e w' ⟨rfl, rfl⟩
  go_wp2_with fail
  refine (refMemIs c false _ hc HM.out).mono ?_
  rintro e w2 ⟨rfl, hb2⟩
  go_wp2_with fail
  go_ret
  refine ⟨?_, below_step hb1 hb2⟩
  show Ending.returned (.int .i64 _) = _
  congr 2
  all_goals omega
set_option maxRecDepth 100000 in
set_option maxHeartbeats 1600000 in
theorem doc1a (c : Nat) (w : World) (hc : c < 256) (ix met : Bool) (h : c % 8 = 6) (h1 : c / 64 = 1) : Calls Tryz.prog 12 #[.int .i64 1, .bool ix, .int .u8 c, .bool met] w fun e w' => e = .returned (.int .i64 (timeT 1 ix c met)) ∧ Below w.heap.size w w' := by
  have HR := Lib.hid (show timeT 1 ix c met = 4 by unfold timeT; rw [if_neg (by decide), if_pos rfl, if_pos h, if_pos h1])
  have c0 : (0 : Int) ≤ c := by omega
  have cv : IntKind.i64.wrap (c : Int) = c := IntWalk.i64_in _ (by omega)
  obtain ⟨m, hm⟩ : ∃ m, c % 8 = m := ⟨_, rfl⟩
  have wm : (c : Int).tmod 8 = (m : Int) := by rw [Int.tmod_eq_emod_of_nonneg (by omega)]; omega
  obtain ⟨d, hd⟩ : ∃ d, c / 64 = d := ⟨_, rfl⟩
  have wd : IntKind.i64.wrap ((c : Int) / 64) = (d : Int) := by rw [IntWalk.i64_in _ (by omega)]; omega
  have wd2 : (c : Int) / 64 = (d : Int) := by omega
  have m6 : ((m : Int) == 6) = true := by rw [beq_iff_eq]; omega
  have d1 : ((d : Int) == 1) = true := by rw [beq_iff_eq]; omega
  clear h h1 hm hd
  go_enter Tryz.func12, Tryz.ntmps12
  go_wp2_with fail
  go_ret
  exact ⟨by rw [HR.out]; rfl, Below.refl _ _⟩
set_option maxRecDepth 100000 in
set_option maxHeartbeats 1600000 in
theorem doc1b (c : Nat) (w : World) (hc : c < 256) (ix met : Bool) (h : c % 8 = 6) (h1 : ¬ c / 64 = 1) : Calls Tryz.prog 12 #[.int .i64 1, .bool ix, .int .u8 c, .bool met] w fun e w' => e = .returned (.int .i64 (timeT 1 ix c met)) ∧ Below w.heap.size w w' := by
  have HR := Lib.hid (show timeT 1 ix c met = 7 by unfold timeT; rw [if_neg (by decide), if_pos rfl, if_pos h, if_neg h1])
  have c0 : (0 : Int) ≤ c := by omega
  have cv : IntKind.i64.wrap (c : Int) = c := IntWalk.i64_in _ (by omega)
  obtain ⟨m, hm⟩ : ∃ m, c % 8 = m := ⟨_, rfl⟩
  have wm : (c : Int).tmod 8 = (m : Int) := by rw [Int.tmod_eq_emod_of_nonneg (by omega)]; omega
  obtain ⟨d, hd⟩ : ∃ d, c / 64 = d := ⟨_, rfl⟩
  have wd : IntKind.i64.wrap ((c : Int) / 64) = (d : Int) := by rw [IntWalk.i64_in _ (by omega)]; omega
  have wd2 : (c : Int) / 64 = (d : Int) := by omega
  have m6 : ((m : Int) == 6) = true := by rw [beq_iff_eq]; omega
  have d1 : ((d : Int) == 1) = false := (eqc d 1).trans (by simp; omega)
  clear h h1 hm hd
  go_enter Tryz.func12, Tryz.ntmps12
  go_wp2_with fail
  go_ret
  exact ⟨by rw [HR.out]; rfl, Below.refl _ _⟩
set_option maxRecDepth 100000 in
set_option maxHeartbeats 1600000 in
theorem doc1c (c : Nat) (w : World) (hc : c < 256) (ix met : Bool) (h : ¬ c % 8 = 6) : Calls Tryz.prog 12 #[.int .i64 1, .bool ix, .int .u8 c, .bool met] w fun e w' => e = .returned (.int .i64 (timeT 1 ix c met)) ∧ Below w.heap.size w w' := by
  have HR := Lib.hid (show timeT 1 ix c met = 0 by unfold timeT; rw [if_neg (by decide), if_pos rfl, if_neg h])
  have c0 : (0 : Int) ≤ c := by omega
  have cv : IntKind.i64.wrap (c : Int) = c := IntWalk.i64_in _ (by omega)
  obtain ⟨m, hm⟩ : ∃ m, c % 8 = m := ⟨_, rfl⟩
  have wm : (c : Int).tmod 8 = (m : Int) := by rw [Int.tmod_eq_emod_of_nonneg (by omega)]; omega
  have m6 : ((m : Int) == 6) = false := (eqc m 6).trans (by simp; omega)
  clear h hm
  go_enter Tryz.func12, Tryz.ntmps12
  go_wp2_with fail
  go_ret
  exact ⟨by rw [HR.out]; rfl, Below.refl _ _⟩
set_option maxRecDepth 100000 in
set_option maxHeartbeats 1600000 in
theorem doc3a (c : Nat) (w : World) (hc : c < 256) (ix met : Bool) (h1 : c / 64 = 1) : Calls Tryz.prog 12 #[.int .i64 3, .bool ix, .int .u8 c, .bool met] w fun e w' => e = .returned (.int .i64 (timeT 3 ix c met)) ∧ Below w.heap.size w w' := by
  have HR := Lib.hid (show timeT 3 ix c met = 4 by unfold timeT; rw [if_neg (by decide), if_neg (by decide), if_pos rfl, if_pos h1])
  have c0 : (0 : Int) ≤ c := by omega
  have cv : IntKind.i64.wrap (c : Int) = c := IntWalk.i64_in _ (by omega)
  obtain ⟨d, hd⟩ : ∃ d, c / 64 = d := ⟨_, rfl⟩
  have wd : IntKind.i64.wrap ((c : Int) / 64) = (d : Int) := by rw [IntWalk.i64_in _ (by omega)]; omega
  have wd2 : (c : Int) / 64 = (d : Int) := by omega
  have d1 : ((d : Int) == 1) = true := by rw [beq_iff_eq]; omega
  clear h1 hd
  go_enter Tryz.func12, Tryz.ntmps12
  go_wp2_with fail
  go_ret
  exact ⟨by rw [HR.out]; rfl, Below.refl _ _⟩
set_option maxRecDepth 100000 in
set_option maxHeartbeats 1600000 in
theorem doc3b (c : Nat) (w : World) (hc : c < 256) (ix met : Bool) (h1 : ¬ c / 64 = 1) : Calls Tryz.prog 12 #[.int .i64 3, .bool ix, .int .u8 c, .bool met] w fun e w' => e = .returned (.int .i64 (timeT 3 ix c met)) ∧ Below w.heap.size w w' := by
  have HR := Lib.hid (show timeT 3 ix c met = 7 by unfold timeT; rw [if_neg (by decide), if_neg (by decide), if_pos rfl, if_neg h1])
  have c0 : (0 : Int) ≤ c := by omega
  have cv : IntKind.i64.wrap (c : Int) = c := IntWalk.i64_in _ (by omega)
  obtain ⟨d, hd⟩ : ∃ d, c / 64 = d := ⟨_, rfl⟩
  have wd : IntKind.i64.wrap ((c : Int) / 64) = (d : Int) := by rw [IntWalk.i64_in _ (by omega)]; omega
  have wd2 : (c : Int) / 64 = (d : Int) := by omega
  have d1 : ((d : Int) == 1) = false := (eqc d 1).trans (by simp; omega)
  clear h1 hd
  go_enter Tryz.func12, Tryz.ntmps12
  go_wp2_with fail
  go_ret
  exact ⟨by rw [HR.out]; rfl, Below.refl _ _⟩
set_option maxRecDepth 100000 in
set_option maxHeartbeats 1600000 in
theorem doc2a (c : Nat) (w : World) (hc : c < 256) (ix : Bool) : Calls Tryz.prog 12 #[.int .i64 2, .bool ix, .int .u8 c, .bool true] w fun e w' => e = .returned (.int .i64 (timeT 2 ix c true)) ∧ Below w.heap.size w w' := by
  have HR := Lib.hid (show timeT 2 ix c true = moreT8 c - 8 by unfold timeT; rw [if_neg (by decide), if_neg (by decide), if_neg (by decide), if_pos rfl, if_neg (by simp)])
  have c0 : (0 : Int) ≤ c := by omega
  have cv : IntKind.i64.wrap (c : Int) = c := IntWalk.i64_in _ (by omega)
  obtain ⟨b0, b1⟩ := moreT8_bd c hc
  obtain ⟨M, hM⟩ : ∃ M, moreT8 c = M := ⟨_, rfl⟩
  have HM := Lib.hid hM
  rw [hM] at b0 b1
  have HR := Lib.hid (show timeT 2 ix c true = M - 8 by rw [HR.out, hM])
  clear hM
  go_enter Tryz.func12, Tryz.ntmps12
  go_wp2_with fail
  refine (more8Is c M _ hc HM.out).mono ?_
  rintro e w1 ⟨rfl, hb1⟩
  go_wp2_with fail
  go_ret
  exact ⟨by rw [HR.out]; rfl, hb1⟩
set_option maxRecDepth 100000 in
set_option maxHeartbeats 1600000 in
theorem doc2b (c : Nat) (w : World) (hc : c < 256) (ix : Bool) (h : moreT8 c - 8 = 13) : Calls Tryz.prog 12 #[.int .i64 2, .bool ix, .int .u8 c, .bool false] w fun e w' => e = .returned (.int .i64 (timeT 2 ix c false)) ∧ Below w.heap.size w w' := by
  have HR := Lib.hid (show timeT 2 ix c false = 8 by unfold timeT; rw [if_neg (by decide), if_neg (by decide), if_neg (by decide), if_pos rfl, if_pos ⟨rfl, h⟩])
  have c0 : (0 : Int) ≤ c := by omega
  have cv : IntKind.i64.wrap (c : Int) = c := IntWalk.i64_in _ (by omega)
  obtain ⟨b0, b1⟩ := moreT8_bd c hc
  obtain ⟨M, hM⟩ : ∃ M, moreT8 c = M := ⟨_, rfl⟩
  have HM := Lib.hid hM
  rw [hM] at b0 b1
  have q : M = 21 := by omega
  subst q
  clear hM h
  go_enter Tryz.func12, Tryz.ntmps12
  go_wp2_with fail
  refine (more8Is c 21 _ hc HM.out).mono ?_
  rintro e w1 ⟨rfl, hb1⟩
  go_wp2_with fail
  go_ret
  exact ⟨by rw [HR.out]; rfl, hb1⟩
set_option maxRecDepth 100000 in
set_option maxHeartbeats 1600000 in
theorem doc2c (c : Nat) (w : World) (hc : c < 256) (ix : Bool) (h : ¬ moreT8 c - 8 = 13) : Calls Tryz.prog 12 #[.int .i64 2, .bool ix, .int .u8 c, .bool false] w fun e w' => e = .returned (.int .i64 (timeT 2 ix c false)) ∧ Below w.heap.size w w' := by
  have HR := Lib.hid (show timeT 2 ix c false = moreT8 c - 8 by unfold timeT; rw [if_neg (by decide), if_neg (by decide), if_neg (by decide), if_pos rfl, if_neg (by simp [h])])
  have c0 : (0 : Int) ≤ c := by omega
  have cv : IntKind.i64.wrap (c : Int) = c := IntWalk.i64_in _ (by omega)
  obtain ⟨b0, b1⟩ := moreT8_bd c hc
  obtain ⟨M, hM⟩ : ∃ M, moreT8 c = M := ⟨_, rfl⟩
  have HM := Lib.hid hM
  rw [hM] at b0 b1
  have HR := Lib.hid (show timeT 2 ix c false = M - 8 by rw [HR.out, hM])
  have q : (M - 8 == 13) = false := by rw [beq_eq_false_iff_ne]; omega
  clear hM h
  go_enter Tryz.func12, Tryz.ntmps12
  go_wp2_with fail
  refine (more8Is c M _ hc HM.out).mono ?_
  rintro e w1 ⟨rfl, hb1⟩
  go_wp2_with fail
  go_ret
  exact ⟨by rw [HR.out]; rfl, hb1⟩
set_option maxRecDepth 100000 in
set_option maxHeartbeats 1600000 in
theorem docN (set : Int) (ix met : Bool) (c : Nat) (w : World) (hc : c < 256) (n0 : ¬ set = 0) (n1 : ¬ set = 1) (n2 : ¬ set = 2) (n3 : ¬ set = 3) : Calls Tryz.prog 12 #[.int .i64 set, .bool ix, .int .u8 c, .bool met] w fun e w' => e = .returned (.int .i64 (timeT set ix c met)) ∧ Below w.heap.size w w' := by
  have HR := Lib.hid (show timeT set ix c met = 0 by unfold timeT; simp only [if_neg n0, if_neg n1, if_neg n2, if_neg n3])
  have f0 : (set == 0) = false := by simpa using n0
  have f1 : (set == 1) = false := by simpa using n1
  have f2 : (set == 2) = false := by simpa using n2
  have f3 : (set == 3) = false := by simpa using n3
  clear n0 n1 n2 n3
  go_enter Tryz.func12, Tryz.ntmps12
  go_wp2_with fail
  go_ret
  exact ⟨by rw [HR.out]; rfl, Below.refl _ _⟩
theorem docTime (set : Int) (ix met : Bool) (r : Int) (c : Nat) (w : World) (hc : c < 256) (hr : timeT set ix c met = r) : Calls Tryz.prog 12 #[.int .i64 set, .bool ix, .int .u8 c, .bool met] w fun e w' => e = .returned (.int .i64 r) ∧ Below w.heap.size w w' := by
  subst hr
  by_cases n0 : set = 0
  · subst n0
    cases ix with
    | false => cases met with
      | true => exact doc0nt c w hc
      | false => exact doc0nf c w hc
    | true =>
      by_cases h : c = 54
      · cases met with
        | true => exact doc0st c w hc h
        | false => exact doc0sf c w hc h
      · cases hm : memC c with
        | true => cases met with
          | true => exact doc0mt c w hc h hm
          | false => exact doc0mf c w hc h hm
        | false => cases met with
          | true => exact doc0ot c w hc h hm
          | false => exact doc0of c w hc h hm
  by_cases n1 : set = 1
  · subst n1
    by_cases h : c % 8 = 6
    · by_cases h1 : c / 64 = 1
      · exact doc1a c w hc ix met h h1
      · exact doc1b c w hc ix met h h1
    · exact doc1c c w hc ix met h
  by_cases n2 : set = 2
  · subst n2
    cases met with
    | true => exact doc2a c w hc ix
    | false =>
      by_cases h : moreT8 c - 8 = 13
      · exact doc2b c w hc ix h
      · exact doc2c c w hc ix h
  by_cases n3 : set = 3
  · subst n3
    by_cases h1 : c / 64 = 1
    · exact doc3a c w hc ix met h1
    · exact doc3b c w hc ix met h1
  exact docN set ix met c w hc n0 n1 n2 n3

end Go.Proofs.YtcfkpeemhleleaaGreatDoor
/- CpuTimes: the walk. -/
namespace Go.Proofs.YtcfkpeemhleleaaGreatDoor
open Go.RowKit
set_option maxRecDepth 100000
set_option linter.unusedVariables false
set_option linter.unusedSimpArgs false
def caseLoad (v : Value) : Sem Value := Instr.loadAt 28 v
theorem caseLoad_as (v : Value) : Instr.loadAt 28 v = caseLoad v := rfl
theorem run_caseLoad (x : Cs) (g : Nat) (u : World) (h : u.rangeAt g 0 x.cells) : (caseLoad (.pointer (some ⟨g, 0, none⟩))).run Tryz.prog u = .ok (.agg x.cells.toArray) u :=
  run_loadAt_mid (P := Tryz.prog) u g 0 28 x.cells _ h Tryz.underlying28 rfl (by rw [Cs.len]; kernel_rfl)
attribute [local simp ↓ high] flatBuild_as rgAlloc_as rgStore_as load_as caseLoad_as

/-- The case in its box, behind what leaves it as it was. -/
structure BoxAt (w wr : World) (x : Cs) : Prop where
  all : wr.rangeAt w.heap.size 0 x.cells
  ok : x.Ok wr
  below : Below w.heap.size w wr
  modes : Modes wr
  lt : w.heap.size < wr.heap.size
theorem BoxAt.of {w wr wr' : World} {x : Cs} (h : BoxAt w wr x) (hb : Below wr.heap.size wr wr') : BoxAt w wr' x :=
  ⟨fun j u hj => (hb.cell (p := ⟨w.heap.size, 0 + j, none⟩) h.lt).trans (h.all j u hj), { h.ok with code := h.ok.code.below hb }, h.below.trans (hb.mono (Nat.le_of_lt h.lt)), h.modes.below hb, Nat.lt_of_lt_of_le h.lt hb.size⟩
theorem BoxAt.start {w : World} {x : Cs} (ok : x.Ok w) (hm : Modes w) (t : TypeId) : BoxAt w (w.alloc (.cells x.cells.toArray t)) x := by
  have hn : (w.alloc (.cells x.cells.toArray t)).heap[w.heap.size]? = some (.cells x.cells.toArray t (0, 0)) := heap_alloc_new w _
  exact ⟨fun j u hj => by rw [Nat.zero_add, cell_of_row _ _ j _ _ (0, 0) hn, List.getElem?_toArray]; exact hj, { ok with code := ok.code.below (balloc w _) }, balloc w _, hm.alloc _, by simp⟩
theorem BoxAt.regs {w wr : World} {x : Cs} (h : BoxAt w wr x) : wr.rangeAt w.heap.size 0 x.r.cells := fun j u hj => h.all j u (by
  have hl : j < x.r.cells.length := (List.getElem?_eq_some_iff.1 hj).1
  rw [Cs.cells, List.getElem?_append_left hl]; exact hj)
theorem BoxAt.code {w wr : World} {x : Cs} (h : BoxAt w wr x) : wr.cell? ⟨w.heap.size, 30, none⟩ = some x.code := h.all 30 _ rfl
theorem BoxAt.lives {w wr : World} {x : Cs} (h : BoxAt w wr x) : Calls Tryz.prog 8 #[] wr fun e w' => e = .returned (.bool true) ∧ Below w.heap.size w w' :=
  (lives12_any wr h.modes).mono fun e w' ⟨h1, h2⟩ => ⟨h1, h.below.trans (h2.mono (Nat.le_of_lt h.lt))⟩

set_option maxHeartbeats 6400000 in
/-- What is looked at no further. -/
theorem times_no (x : Cs) (c : Int) (w : World) (hm : Modes w) (ok : x.Ok w) (h : (2 < x.r.pre ∨ 2 < x.r.im) ∨ 100 < x.l.length ∨ c = 203 ∨ c = 221 ∨ c = 237 ∨ c = 253) :
    Calls Tryz.prog 3 #[.agg x.cells.toArray, .int .u8 c] w fun e w' => e = .returned (.bool true) ∧ Below w.heap.size w w' := by
  have hB := BoxAt.start ok hm 28
  have hl := run_regLoad _ _ _ hB.regs
  have HB := Lib.hid hB
  have HR := Lib.hid (right_any x.r (w.alloc (.cells x.cells.toArray 28)))
  obtain ⟨An, cap, ec, -, -, -, -⟩ := ok.code
  have HC := Lib.hid (show ∀ wr, BoxAt w wr x → wr.cell? ⟨w.heap.size, 30, none⟩ = some (.slice An x.l.length cap) from fun wr hw => by rw [← ec]; exact hw.code)
  clear hB ok ec
  generalize x.cells.toArray = X at *
  generalize x.r.cells.toArray = R at *
  by_cases h1 : 2 < x.r.pre ∨ 2 < x.r.im
  · have d1 : (decide (x.r.pre ≤ 2) && decide (x.r.im ≤ 2)) = false := by
      rw [Bool.and_eq_false_iff]
      rcases h1 with h1 | h1
      · exact Or.inl (decide_eq_false (by omega))
      · exact Or.inr (decide_eq_false (by omega))
    rw [d1] at HR
    clear h h1 HC d1
    go_enter Tryz.func3, Tryz.ntmps3
    go_wp2_with fail
    refine HR.out.mono ?_
    rintro e w2 ⟨rfl, hb2⟩
    have HL := Lib.hid (HB.out.of hb2).lives
    clear hb2 HB hl
    go_wp2_with fail
    refine HL.out.mono ?_
    rintro e w' ⟨rfl, hb⟩
    have HE := Lib.hid hb
    clear hb
    go_wp2_with fail
    go_ret
    exact ⟨rfl, HE.out⟩
  have d1 : (decide (x.r.pre ≤ 2) && decide (x.r.im ≤ 2)) = true := by
    rw [Bool.and_eq_true, decide_eq_true_eq, decide_eq_true_eq]
    omega
  rw [d1] at HR
  have h' : 100 < x.l.length ∨ c = 203 ∨ c = 221 ∨ c = 237 ∨ c = 253 := h.resolve_left h1
  generalize x.l.length = n at *
  clear h h1 d1
  by_cases h2 : 100 < n
  · have d2 : decide (100 < (n : Int)) = true := decide_eq_true (by omega)
    clear h' h2
    go_enter Tryz.func3, Tryz.ntmps3
    go_wp2_with fail
    refine HR.out.mono ?_
    rintro e w2 ⟨rfl, hb2⟩
    have hx2 := HB.out.of hb2
    have c30 := HC.out _ hx2
    have HL := Lib.hid hx2.lives
    clear hx2 hb2 HB hl
    go_wp2_with fail
    refine HL.out.mono ?_
    rintro e w' ⟨rfl, hb⟩
    have HE := Lib.hid hb
    clear hb
    go_wp2_with fail
    go_ret
    exact ⟨rfl, HE.out⟩
  have d2 : decide (100 < (n : Int)) = false := decide_eq_false (by omega)
  have h3 : c = 203 ∨ c = 221 ∨ c = 237 ∨ c = 253 := h'.resolve_left h2
  clear h' h2
  rcases h3 with rfl | rfl | rfl | rfl
  all_goals
    go_enter Tryz.func3, Tryz.ntmps3
    go_wp2_with fail
    refine HR.out.mono ?_
    rintro e w2 ⟨rfl, hb2⟩
    have hx2 := HB.out.of hb2
    have c30 := HC.out _ hx2
    have HL := Lib.hid hx2.lives
    clear hx2 hb2 HB hl
    go_wp2_with fail
    refine HL.out.mono ?_
    rintro e w' ⟨rfl, hb⟩
    have HE := Lib.hid hb
    clear hb
    go_wp2_with fail
    go_ret
    exact ⟨rfl, HE.out⟩

set_option maxHeartbeats 12800000 in
theorem times_yes (x : Cs) (c p : Nat) (w : World) (hm : Modes w) (ok : x.Ok w) (ep : x.r.pc = p) (p1 : p < 65536) (c256 : c < 256) (h4 : c ≠ 203 ∧ c ≠ 221 ∧ c ≠ 237 ∧ c ≠ 253) (hp : x.r.pre ≤ 2) (hi : x.r.im ≤ 2) (hn : x.l.length ≤ 100) :
    Calls Tryz.prog 3 #[.agg x.cells.toArray, .int .u8 c] w fun e w' => e = .returned (.bool true) ∧ Below w.heap.size w w' := by
  have hB := BoxAt.start ok hm 28
  have hl := run_regLoad _ _ _ hB.regs
  have HB := Lib.hid hB
  have HR := Lib.hid (right_any x.r (w.alloc (.cells x.cells.toArray 28)))
  rw [show (decide (x.r.pre ≤ 2) && decide (x.r.im ≤ 2)) = true by rw [Bool.and_eq_true, decide_eq_true_eq, decide_eq_true_eq]; exact ⟨hp, hi⟩] at HR
  obtain ⟨An, cap, ec, -, -, -, -⟩ := ok.code
  have HC := Lib.hid (show ∀ wr, BoxAt w wr x → wr.cell? ⟨w.heap.size, 30, none⟩ = some (.slice An x.l.length cap) from fun wr hw => by rw [← ec]; exact hw.code)
  have okr := ok.r
  have HFI := Lib.hid (fun (wr : World) (hw : BoxAt w wr x) => filled_any x wr hw.ok hn)
  have HCL := Lib.hid (fun (wr : World) (hw : BoxAt w wr x) => run_caseLoad x w.heap.size wr hw.all)
  have HRL := Lib.hid (fun (wr : World) (hw : BoxAt w wr x) => run_regLoad wr w.heap.size x.r hw.regs)
  have HRS := Lib.hid (fun wr => regs_in wr x.r)
  have okx : ({ x.r with halt := false, hold := false, pre := 0 } : Rg).Ok := { okr with pre := b8_0 }
  have d2 : decide (100 < (x.l.length : Int)) = false := decide_eq_false (by omega)
  have c0 : (0 : Int) ≤ c := by omega
  have c1 : (c : Int) ≤ 255 := by omega
  have q1 : ((c : Int) == 203) = false := by rw [beq_eq_false_iff_ne]; omega
  have q2 : ((c : Int) == 221) = false := by rw [beq_eq_false_iff_ne]; omega
  have q3 : ((c : Int) == 237) = false := by rw [beq_eq_false_iff_ne]; omega
  have q4 : ((c : Int) == 253) = false := by rw [beq_eq_false_iff_ne]; omega
  clear hB ok ec hm hp hi hn
  generalize x.cells.toArray = X at *
  generalize x.l.length = n at *
  obtain ⟨R, hR⟩ : ∃ R, x.r.cells.toArray = R := ⟨_, rfl⟩
  rw [hR] at hl HR HRL HRS
  go_enter Tryz.func3, Tryz.ntmps3
  go_wp2_with fail
  refine HR.out.mono ?_
  rintro e w2 ⟨rfl, hb2⟩
  have hx2 := HB.out.of hb2
  have c30 := HC.out _ hx2
  have hcl := HCL.out _ hx2
  have HF := Lib.hid (HFI.out _ hx2)
  have HX2 := Lib.hid hx2
  clear hb2 hx2 HB HR hl HCL HFI HC
  go_wp2_with fail
  refine HF.out.mono ?_
  rintro e w3 ⟨M, rfl, hM, hb3⟩
  have hx3 := HX2.out.of hb3
  obtain ⟨A, hA, hAc, hbuild⟩ := run_flatBuild1 M
  have HFa := Lib.hid (fa_start w3 hx3.modes M hA hAc)
  have HX4 := Lib.hid (hx3.of (balloc w3 (.cells A 37)))
  have HX3 := Lib.hid hx3
  clear hx3 hb3 HX2 HF c30 hcl hA hAc
  generalize memA M = MA at *
  go_upto_region 4 with (fail)
  obtain ⟨g, hg⟩ : ∃ g, w.heap.size = g := ⟨_, rfl⟩
  obtain ⟨f, hf⟩ : ∃ f, w3.heap.size = f := ⟨_, rfl⟩
  obtain ⟨w4, hw4⟩ : ∃ w4, w3.alloc (.cells A 37) = w4 := ⟨_, rfl⟩
  have hgf : g < f := by rw [← hg, ← hf]; exact HX3.out.lt
  have HBF := Lib.hid (show Below w.heap.size w w3 from HX3.out.below)
  rw [hw4] at HFa HX4 ⊢
  rw [hf] at HFa ⊢
  have hld := HRL.out _ HX4.out
  obtain ⟨w5, hst, r5, b5⟩ := HRS.out w4
  have hal := run_rgAlloc w4
  rw [hg] at hld ⊢
  have HF5 := Lib.hid (HFa.out.of b5)
  have R5 := Lib.hid r5
  have hf4 := HFa.out.lt
  have hlf := HFa.out.lf
  obtain ⟨g1, hg1⟩ : ∃ g1, w4.heap.size = g1 := ⟨_, rfl⟩
  rw [hg1] at hst hal R5 hf4
  have k26 := R5.out.cell 26 _ rfl
  have k27 := R5.out.cell 27 _ rfl
  have k29 := R5.out.cell 29 _ rfl
  have q26 := R5.out.free 26
  have q27 := R5.out.free 27
  have q29 := R5.out.free 29
  clear r5 b5 hw4 HX4 HX3 HFa HRL HRS hbuild
  obtain ⟨x1, hx1⟩ : ∃ x1 : Rg, { x.r with halt := false, hold := false, pre := 0 } = x1 := ⟨_, rfl⟩
  have ok1 : x1.Ok := by rw [← hx1]; exact okx
  have hh1 : x1.halt = false := by rw [← hx1]
  have hp1 : x1.pre = 0 := by rw [← hx1]
  have ep1 : x1.pc = p := by rw [← hx1]; exact ep
  have R6 := Lib.hid (show RegAt (((w5.setCell ⟨g1, 26, none⟩ (.bool false)).setCell ⟨g1, 27, none⟩ (.bool false)).setCell ⟨g1, 29, none⟩ (.int .u8 0)) g1 x1 from by
    have a1 := R5.out.set (y := { x.r with halt := false }) 26 (.bool false) (by decide) rfl
    have a2 := a1.set (y := { x.r with halt := false, hold := false }) 27 (.bool false) (by decide) rfl
    exact a2.set (y := x1) 29 (.int .u8 0) (by decide) (by rw [← hx1]; rfl))
  have HF6 := Lib.hid (((HF5.out.other g1 26 (.bool false) (by omega) (by omega)).other g1 27 (.bool false) (by omega) (by omega)).other g1 29 (.int .u8 0) (by omega) (by omega))
  clear HF5 R5 hx1
  go_upto_region 8 with (fail)
  obtain ⟨w6, hw6⟩ : ∃ w6, ((w5.setCell ⟨g1, 26, none⟩ (.bool false)).setCell ⟨g1, 27, none⟩ (.bool false)).setCell ⟨g1, 29, none⟩ (.int .u8 0) = w6 := ⟨_, rfl⟩
  rw [hw6] at HF6 R6 ⊢
  clear hw6 hst hal hld k26 k27 k29 q26 q27 q29 hR
  have k22 := R6.out.cell 22 _ rfl
  rw [ep1] at k22
  have i0 : (0 : Int) ≤ p := by omega
  have i1 : (p : Int) < 65536 := by omega
  have i2 := HF6.out.cell p p1
  have j2 := HF6.out.free p
  have HF7 := Lib.hid (HF6.out.poke p c p1).drew
  have R7 := Lib.hid ((R6.out.poke (show g1 ≠ f by omega) p (.int .u8 c)).below (Below.refl _ _).drew)
  go_region
  go_upto_region 9 with (fail)
  obtain ⟨w7, hw7⟩ : ∃ w7, (w6.setCell ⟨f, p, none⟩ (.int .u8 c)).drew = w7 := ⟨_, rfl⟩
  rw [hw7] at HF7 R7 ⊢
  clear hw7 k22 i2 j2 HF6 R6
  have hld := run_regLoad w7 g1 x1 R7.out.at'
  have HN := Lib.hid (new_any HF7.out x1)
  go_wp2_with fail
  refine HN.out.mono ?_
  rintro e w8 ⟨b, rfl, hb, hmc, hbel, hb4, hbw⟩
  have hC : ({ flZ with M := updN M p c } : Fl).Calm := calm_flZ (b8_upd hM p ⟨c0, c1⟩) rfl rfl rfl
  obtain ⟨z, u, m, x', y', t1, t2, t3, t4, t5, t6⟩ := plain_time (cpZ_idle ok1 hh1 hp1) hC c (show updN M p c x1.pc.toNat = c by rw [ep1, Int.toNat_natCast, updN_same]) c256 h4
  have hyt : y'.t = ((m + 1 : Nat) : Int) := by
    rw [t4.t]
    show u.t + 1 + (m : Int) = _
    rw [tik_t t1]
    show (0 : Int) + 1 + m = _
    omega
  have hxa : x'.aim = 0 := t4.aim
  have HS := Lib.hid (step_any m w8 hmc.mx t1 t2 t3 t4 t5)
  have hfw8 : f ≤ w8.heap.size := by have := hmc.fblk; omega
  have HE := Lib.hid (fun u' (hu : Mx w8 u' b f w8.heap.size x' y') u'' (hq : Below u'.heap.size u' u'') => show u''.cell? ⟨f, 65538, none⟩ = some (.int .u64 ((m + 1 : Nat) : Int)) ∧ Calls Tryz.prog 13 #[.pointer (some ⟨b, 0, none⟩)] u'' (fun e w' => e = .returned (.bool true) ∧ u'' = w') ∧ Calls Tryz.prog 8 #[] u'' (fun e w' => e = .returned (.bool true) ∧ Below w.heap.size w w') from by
    obtain ⟨v, va, hu⟩ := hu
    have hk := hu.below hq
    refine ⟨(hk.fl.cell 65538 (by decide)).trans (by rw [fC_t, hyt]), ?_, (lives12_any u'' hk.modes).mono fun e w' ⟨h1, h2⟩ => ⟨h1, ?_⟩⟩
    · have := done_any u'' hk
      rw [hxa] at this
      exact this
    · have hs := hbel.size
      have hb9 : Below f w3 u'' := hk.fr.old hbel hb (Nat.le_refl _) hfw8
      have hb10 : Below w3.heap.size w3 w' := by rw [hf]; exact hb9.trans (h2.mono (by have := hk.fblk; omega))
      exact HBF.out.trans (hb10.mono (by rw [hf, hg]; omega)))
  have HT := Lib.hid (fun wr => docTime 0 false true _ c wr c256 rfl)
  have HU := Lib.hid (fun wr => docTime 0 false false _ c wr c256 rfl)
  have hv1 : 0 ≤ timeT 0 false c true ∧ timeT 0 false c true ≤ 50000 := by
    have h0 : (List.range 256).all (fun c => decide (0 ≤ timeT 0 false c true) && decide (timeT 0 false c true ≤ 50000)) = true := by decide +kernel
    have h1 := List.all_eq_true.1 h0 c (List.mem_range.2 c256)
    simpa only [Bool.and_eq_true, decide_eq_true_eq] using h1
  have m0 : (0 : Int) ≤ ((m + 1 : Nat) : Int) := by omega
  have m1 : ((m + 1 : Nat) : Int) ≤ 100001 := by omega
  clear hmc hbel hb4 hbw hC t1 t2 t3 t4 t5 hyt hxa hb HF7 R7 HN hld ok1 hh1 hp1 ep1 okx okr
  generalize timeT 0 false c true = v1 at *
  generalize timeT 0 false c false = v2 at *
  generalize ((m + 1 : Nat) : Int) = N at *
  go_wp2_with fail
  refine HS.out.mono ?_
  rintro e w9 ⟨rfl, hm9⟩
  have HE9 := Lib.hid (fun u'' hq => HE.out w9 hm9 u'' hq)
  clear HE hm9 HS
  go_wp2_with fail
  refine (HT.out _).mono ?_
  rintro e w10 ⟨rfl, hb10⟩
  have s10 := hb10.size
  by_cases h1 : N = 4 + v1
  · have e1 : IntKind.i64.wrap (4 + v1) = N := by rw [← h1, IntKind.wrap_i64]; omega
    obtain ⟨a1, a2, a3⟩ := HE9.out _ hb10
    have A2 := Lib.hid a2
    have A3 := Lib.hid a3
    clear h1 t6 a2 a3 HE9 hb10 HT HU
    go_wp2_with fail
    refine A2.out.mono ?_
    rintro e w11 ⟨rfl, rfl⟩
    go_wp2_with fail
    refine A3.out.mono ?_
    rintro e w' ⟨rfl, hb⟩
    have HZ := Lib.hid hb
    clear hb
    go_wp2_with fail
    go_ret
    exact ⟨rfl, HZ.out⟩
  · have h2 : N = 4 + v2 := t6.resolve_left h1
    have e1 : IntKind.i64.wrap (4 + v1) = 4 + v1 := by rw [IntKind.wrap_i64]; omega
    have e2 : IntKind.i64.wrap (4 + v2) = N := by rw [← h2, IntKind.wrap_i64]; omega
    have d1 : (N == 4 + v1) = false := by rw [beq_eq_false_iff_ne]; exact h1
    have HB10 := Lib.hid hb10
    clear h1 h2 t6 hb10 HT
    go_wp2_with fail
    refine (HU.out _).mono ?_
    rintro e w11 ⟨rfl, hb11⟩
    obtain ⟨a1, a2, a3⟩ := HE9.out _ (HB10.out.trans (hb11.mono s10))
    have A2 := Lib.hid a2
    have A3 := Lib.hid a3
    clear a2 a3 HE9 hb11 HU HB10
    go_wp2_with fail
    refine A2.out.mono ?_
    rintro e w12 ⟨rfl, rfl⟩
    go_wp2_with fail
    refine A3.out.mono ?_
    rintro e w' ⟨rfl, hb⟩
    have HZ := Lib.hid hb
    clear hb
    go_wp2_with fail
    go_ret
    exact ⟨rfl, HZ.out⟩
theorem times_card (v : Value) (x : Cs) (q : Int) (wq : (Lit.int .u8 q).wf = true) (w : World) (hm : Modes w) (o : CaseAt w v x) :
    Calls Tryz.prog 3 #[v, .int .u8 q] w fun e w' => e = .returned (.bool true) ∧ Below w.heap.size w w' := by
  obtain ⟨rfl, ok⟩ := o
  obtain ⟨q0, q1⟩ := bounds_u8 wq
  obtain ⟨p0, p1⟩ := ok.r.pc
  by_cases h : (2 < x.r.pre ∨ 2 < x.r.im) ∨ 100 < x.l.length ∨ q = 203 ∨ q = 221 ∨ q = 237 ∨ q = 253
  · exact times_no x q w hm ok h
  · obtain ⟨c, rfl⟩ : ∃ c : Nat, q = c := ⟨q.toNat, by omega⟩
    exact times_yes x c x.r.pc.toNat w hm ok (by omega) (by omega) (by omega) (by omega) (by omega) (by omega) (by omega)

end Go.Proofs.YtcfkpeemhleleaaGreatDoor
