/- Texts put together: CpuMem, CpuCopyM, CpuCopiesW. -/
import Derived.Test.YtcfkpeemhleleaaGreatDoorBas6
import Derived.Laws.StructEq
import Derived.Laws.CopyRow
import Derived.Laws.CopyOwn
import Derived.Test.YtcfkpeemhleleaaGreatDoorBas2
/- A whole memory as a value: read, written, held against another; a box of it. -/
namespace Go.Proofs.YtcfkpeemhleleaaGreatDoor
open Go.RowKit
set_option maxRecDepth 100000
set_option linter.unusedVariables false
set_option linter.unusedSimpArgs false

theorem forIn_same {P : Program} {β : Type} (w : World) (b : β) (f : Nat → β → Sem (ForInStep β)) : ∀ is : List Nat, (∀ i ∈ is, (f i b).run P w = .ok (.yield b) w) → (forIn is b f).run P w = .ok b w
  | [], _ => by simp
  | i :: is, h => by
    rw [List.forIn_cons]
    simp only [Sem.run_bind, h i (by simp), Result.andThen_ok]
    exact forIn_same w b f is (fun j hj => h j (by simp [hj]))
theorem mem_eq (M : Nat → Int) (w : World) : (Op.equalIn 10000 32 (.agg (memA M)) (.agg (memA M))).run Tryz.prog w = .ok true w := by
  have ht : Tryz.prog.underlying 32 = some (.array 65536 5) := Tryz.underlying32
  have he : Tryz.prog.underlying 5 = some (.int .u8) := Tryz.underlying5
  have hsz : ∀ w, (sizeOf 5).run Tryz.prog w = .ok 1 w := fun _ => by kernel_rfl
  have pp : ∀ j, j < 65536 → ∀ w, (part 5 (memA M) j).run Tryz.prog w = .ok (.int .u8 (M j)) w := fun j hj w => by simp [part, isAgg, run_underlying he, memA_at M j hj]
  have pe : ∀ (x : Int) w, (Op.equalIn 9999 5 (.int .u8 x) (.int .u8 x)).run Tryz.prog w = .ok true w := fun x w => by
    have := run_equalIn_int w 9998 5 .u8 .u8 x x he
    simpa using this
  generalize memA M = A at *
  rw [Op.equalIn]
  simp only [Sem.run_bind, run_underlying ht, Result.andThen_ok, hsz, Std.Legacy.Range.forIn_eq_forIn_range', Std.Legacy.Range.size, Nat.sub_zero, Nat.add_sub_cancel, Nat.div_one]
  rw [forIn_same]
  · simp
  · intro i hi
    have hi' : i < 65536 := by
      rw [List.mem_range'_1] at hi
      omega
    simp only [Nat.mul_one, Sem.run_bind, pp i hi', Result.andThen_ok, pe]
    simp
def memEql (x y : Value) : Sem Value := binOp .eql 32 x y
theorem memEql_as (x y : Value) : binOp .eql 32 x y = memEql x y := rfl
theorem run_memEql (M : Nat → Int) (u : World) : (memEql (.agg (memA M)) (.agg (memA M))).run Tryz.prog u = .ok (.bool true) u := by
  unfold memEql
  rw [run_eql_struct, mem_eq]; rfl
def memLoad (v : Value) : Sem Value := Instr.loadAt 32 v
theorem memLoad_as (v : Value) : Instr.loadAt 32 v = memLoad v := rfl
theorem memA_list (M : Nat → Int) (j : Nat) (v : Value) (h : (memA M).toList[j]? = some v) : j < 65536 ∧ v = .int .u8 (M j) := by
  have hj6 : j < 65536 := by
    have := (List.getElem?_eq_some_iff.1 h).1
    rwa [memA_len] at this
  rw [Array.getElem?_toList, memA_at M j hj6] at h
  injection h with h
  exact ⟨hj6, h.symm⟩
theorem run_memLoad (M : Nat → Int) (b o : Nat) (u : World) (h : ∀ j, j < 65536 → u.cell? ⟨b, o + j, none⟩ = some (.int .u8 (M j))) : (memLoad (.pointer (some ⟨b, o, none⟩))).run Tryz.prog u = .ok (.agg (memA M)) u := by
  have := run_loadAt_mid (P := Tryz.prog) u b o 32 (memA M).toList _ (fun j v hj => by
    obtain ⟨h1, h2⟩ := memA_list M j v hj
    rw [h j h1, h2]) Tryz.underlying32 rfl (by rw [memA_len]; kernel_rfl)
  rw [Array.toArray_toList] at this
  exact this
theorem memA_one (M : Nat → Int) : (memA M).all (·.oneCell') = true := by
  unfold memA
  refine all_oneCell_toArray fun u hu => ?_
  obtain ⟨j, _, rfl⟩ := List.mem_map.1 hu
  rfl
/-- A memory in a box of its own. -/
def mC (M : Nat → Int) (j : Nat) : Value := .int .u8 (M j)
abbrev MemAt (w : World) (g : Nat) (M : Nat → Int) : Prop := Cells w g 32 65536 (mC M)
theorem mC_upd (M : Nat → Int) (a : Nat) (v : Int) : upd (mC M) a (.int .u8 v) = mC (updN M a v) := by
  funext j
  by_cases e : j = a
  · subst e
    rw [upd_same]; unfold mC; rw [updN_same]
  · unfold upd mC updN
    rw [if_neg e, if_neg e]
theorem MemAt.set {w : World} {g : Nat} {M : Nat → Int} (h : MemAt w g M) (a : Nat) (v : Int) : MemAt (w.setCell ⟨g, a, none⟩ (.int .u8 v)) g (updN M a v) := by
  have := Cells.set h a (.int .u8 v)
  rwa [mC_upd] at this
def memAlloc (h : Bool) (o : Value) : Sem Value := Instr.alloc 32 h o
theorem memAlloc_as (h : Bool) (o : Value) : Instr.alloc 32 h o = memAlloc h o := rfl
def memStore (p v : Value) : Sem Unit := Instr.storeAt 32 p v
theorem memStore_as (p v : Value) : Instr.storeAt 32 p v = memStore p v := rfl
theorem memZero_ok : eatO [(65536, isU8z)] (Tryz.prog.info? 32) = true := by kernel_rfl
theorem memZero : ∃ i A, Tryz.prog.info? 32 = some i ∧ i.zero = some (.agg A) ∧ A.size = 65536 ∧ ∀ j, j < 65536 → A[j]? = some (mC (fun _ => 0) j) := by
  obtain ⟨i, A, h1, h2, h3, h4⟩ := zero_of _ _ memZero_ok
  refine ⟨i, A, h1, h2, h3, fun j hj => ?_⟩
  obtain ⟨v, a1, a2⟩ := h4 j hj
  simp only [atZ, if_pos hj] at a2
  rw [a1, of_u8z a2]; rfl
theorem run_memAlloc : ∃ A : Array Value, A.size = 65536 ∧ (∀ j, j < 65536 → A[j]? = some (mC (fun _ => 0) j)) ∧ ∀ u : World, (memAlloc true (.tuple #[])).run Tryz.prog u = .ok (.pointer (some ⟨u.heap.size, 0, none⟩)) (u.alloc (.cells A 32)) := by
  obtain ⟨i, A, h1, h2, h3, h4⟩ := memZero
  refine ⟨A, h3, h4, fun u => ?_⟩
  have hc : (Value.agg A).cells = A := rfl
  simp only [memAlloc, Instr.alloc, zeroValue, Sem.run_bind, typeInfo, newVar, newRow]
  simp [h1, h2, hc]
/-- A memory written whole. -/
theorem run_memStore {w : World} {g : Nat} {M0 : Nat → Int} (h : MemAt w g M0) (M : Nat → Int) : ∃ W : World, (memStore (.pointer (some ⟨g, 0, none⟩)) (.agg (memA M))).run Tryz.prog w = .ok () W ∧ MemAt W g M ∧ W.heap.size = w.heap.size ∧ (∀ k, k ≠ g → W.heap[k]? = w.heap[k]?) ∧ W.os = w.os ∧ W.tape = w.tape ∧ W.output = w.output := by
  obtain ⟨A, h1, h2, _⟩ := h
  have hsz := memA_size M
  have hone := memA_one M
  have hat := memA_at M
  generalize memA M = B at *
  have := run_storeVar_row (P := Tryz.prog) w g 32 32 A B h1 (by rw [hsz]; kernel_rfl) (by rw [h2, hsz]) hone
  refine ⟨w.setRow g B, by simp only [memStore, Instr.storeAt, Instr.sureAddr, Sem.run_bind, Sem.run_pure, Result.andThen_ok, this], ⟨B, setRow_heap _ _ _ _ _ _ h1, hsz, hat⟩, by simp [World.setRow], fun k hk => ?_, rfl, rfl, rfl⟩
  simp [World.setRow, Array.getElem?_modify, Ne.symm hk]
/-- The result is a memory that lies in a block. -/
theorem results_mem {fn : Func} {p : Tmp} (h : fn.results = #[.cell p 32]) (tmps : Array Value) {w : World} {g : Nat} {M : Nat → Int} (hr : MemAt w g M) (hp : tmps.getD p undef = .pointer (some ⟨g, 0, none⟩)) :
    (results fn tmps).run Tryz.prog w = .ok (.agg (memA M)) w := by
  have hp' : tmps[p]?.getD undef = .pointer (some ⟨g, 0, none⟩) := by simpa using hp
  have hl := run_loadVar_mid (P := Tryz.prog) w g 0 32 (memA M).toList _ (fun j v hj => by
    obtain ⟨h1, h2⟩ := memA_list M j v hj
    rw [Nat.zero_add, Cells.cell hr j h1, h2]; rfl) Tryz.underlying32 rfl (by rw [memA_len]; kernel_rfl)
  rw [Array.toArray_toList] at hl
  simp [results, h, hp', asAddr, hl]

end Go.Proofs.YtcfkpeemhleleaaGreatDoor
/- Ldir as often as BC says: what memory becomes; memories filled. No walk. -/
namespace Go.Proofs.YtcfkpeemhleleaaGreatDoor
open Go.RowKit
set_option maxRecDepth 100000
set_option linter.unusedVariables false

/-- Memory of which the first n bytes were filled. -/
def fillN (F : Nat → Int) (n : Nat) : Nat → Int := fun j => if j < n then F j else 0
theorem fillN_0 (F : Nat → Int) : fillN F 0 = fun _ => 0 := by
  funext j
  unfold fillN
  rw [if_neg (by omega)]
theorem fillN_put (F : Nat → Int) (n : Nat) : updN (fillN F n) n (F n) = fillN F (n + 1) := by
  funext j
  unfold updN fillN
  by_cases e : j = n
  · subst e
    rw [if_pos rfl, if_pos (by omega)]
  · by_cases h : j < n
    · rw [if_neg e, if_pos h, if_pos (by omega)]
    · rw [if_neg e, if_neg h, if_neg (by omega)]
theorem fillN_b8 {F : Nat → Int} (h : ∀ a, B8 (F a)) (n a : Nat) : B8 (fillN F n a) := by
  unfold fillN
  split
  · exact h a
  · exact b8_0
/-- The bytes from d on that were copied of those from s on, i of them, one behind the other. -/
def cpN (M : Nat → Int) (s d : Nat) : Nat → Nat → Int
  | 0 => M
  | i + 1 => updN (cpN M s d i) (d + i) (cpN M s d i (s + i))
theorem cpN_b8 {M : Nat → Int} (h : ∀ a, B8 (M a)) (s d : Nat) : ∀ i a, B8 (cpN M s d i a)
  | 0 => h
  | i + 1 => b8_upd (cpN_b8 h s d i) _ (cpN_b8 h s d i _)
theorem cpN_far (M : Nat → Int) (s d a : Nat) : ∀ i, a < d ∨ d + i ≤ a → cpN M s d i a = M a
  | 0, _ => rfl
  | i + 1, h => by
    show updN _ _ _ a = _
    rw [updN_other _ _ _ _ (by omega), cpN_far M s d a i (by omega)]
def ldR (p s d k : Nat) : Rg := { Rg.zero with pc := p, c := k, h := (s : Int) / 256, l := (s : Int) % 256, d := (d : Int) / 256, e := (d : Int) % 256 }
/-- Behind i bytes of k. -/
structure Sq (M : Nat → Int) (p s d k i : Nat) (x : Cp) (y : Fl) : Prop where
  idle : x.Idle
  calm : y.Calm
  t : y.t ≤ 21 * (i : Int)
  M : y.M = cpN M s d i
  lp : Lp x.r (if i < k then (p : Int) else (p : Int) + 2) ((s : Int) + i) ((d : Int) + i) ((k : Int) - i)
theorem sq_start {M : Nat → Int} (hM : ∀ a, B8 (M a)) {p s d k : Nat} (hp : p ≤ 65000) (hs : s ≤ 65000) (hd : d ≤ 65000) (k0 : 1 ≤ k) (k1 : k ≤ 60) : Sq M p s d k 0 (cpZ (ldR p s d k)) { flZ with M := M } := by
  have ok : (ldR p s d k).Ok := { zero_ok12 with pc := ⟨by show (0 : Int) ≤ (p : Int); omega, by show (p : Int) ≤ 65535; omega⟩, c := ⟨by show (0 : Int) ≤ (k : Int); omega, by show (k : Int) ≤ 255; omega⟩, h := ⟨by show (0 : Int) ≤ (s : Int) / 256; omega, by show (s : Int) / 256 ≤ 255; omega⟩, l := ⟨by show (0 : Int) ≤ (s : Int) % 256; omega, by show (s : Int) % 256 ≤ 255; omega⟩, d := ⟨by show (0 : Int) ≤ (d : Int) / 256; omega, by show (d : Int) / 256 ≤ 255; omega⟩, e := ⟨by show (0 : Int) ≤ (d : Int) % 256; omega, by show (d : Int) % 256 ≤ 255; omega⟩ }
  refine ⟨cpZ_idle ok rfl rfl, calm_flZ hM rfl rfl rfl, by show (0 : Int) ≤ _; omega, rfl, ?_, ?_, ?_, ?_⟩
  · rw [if_pos (by omega)]; rfl
  · show (s : Int) / 256 * 256 + (s : Int) % 256 = _; omega
  · show (d : Int) / 256 * 256 + (d : Int) % 256 = _; omega
  · show (0 : Int) * 256 + (k : Int) = _; omega
theorem sq_step {M : Nat → Int} {p s d k i : Nat} {x : Cp} {y : Fl} (hM : ∀ a, B8 (M a)) (hp : p ≤ 65000) (hs : s ≤ 65000) (hd : d ≤ 65000) (k1 : k ≤ 60) (h237 : M p = 237) (h176 : M (p + 1) = 176) (far : p + 1 < d ∨ d + 60 ≤ p) (hi : i < k) (h : Sq M p s d k i x y) :
    ∃ n x' y', (∃ z u, Tik x y z u ∧ 0 ≤ u.t ∧ u.t ≤ 1000000000 ∧ Run z (later u) n x' y') ∧ Sq M p s d k (i + 1) x' y' ∧ n + 1 = (if i + 1 = k then 16 else 21) ∧ n ≤ 100000 := by
  have lp := h.lp
  rw [if_pos hi] at lp
  have e1 : y.M (p : Int).toNat = 237 := by rw [h.M, Int.toNat_natCast, cpN_far _ _ _ _ _ (by omega)]; exact h237
  have e2 : y.M ((p : Int) + 1).toNat = 176 := by rw [h.M, show ((p : Int) + 1).toNat = p + 1 by omega, cpN_far _ _ _ _ _ (by omega)]; exact h176
  have eM : updN y.M ((d : Int) + i).toNat (y.M ((s : Int) + i).toNat) = cpN M s d (i + 1) := by
    rw [h.M, show ((d : Int) + i).toNat = d + i by omega, show ((s : Int) + i).toNat = s + i by omega]; rfl
  have ht := h.t
  have h0 := h.calm.t0
  have hcalm : ∀ {n x' y'} {r : Rg} {M' : Nat → Int}, Did x y n r M' x' y' → M' = cpN M s d (i + 1) → n ≤ 20 → y'.Calm ∧ y'.t ≤ 21 * ((i + 1 : Nat) : Int) := fun dd eM' hn => by
    have ett := dd.t
    have h2 : y.t ≤ 21 * (i : Int) := ht
    refine ⟨⟨by rw [dd.line]; exact h.calm.line, by rw [dd.M, eM']; exact cpN_b8 hM s d _, by rw [dd.acts]; exact h.calm.acts, by rw [ett]; omega, by rw [ett]; omega⟩, by rw [ett]; omega⟩
  by_cases hl : i + 1 = k
  · have hk : (k : Int) - i = 1 := by omega
    rw [hk] at lp
    obtain ⟨x', y', dd, lp'⟩ := ldir_last h.idle h.calm lp (by omega) (by omega) (by omega) (by omega) (by omega) (by omega) e1 e2
    obtain ⟨hc, ht'⟩ := hcalm dd eM (by omega)
    refine ⟨15, x', y', dd.run, ⟨dd.idle, hc, ht', by rw [dd.M, eM], ?_⟩, by rw [if_pos hl], by omega⟩
    rw [if_neg (by omega), show (s : Int) + ((i + 1 : Nat) : Int) = (s : Int) + i + 1 by omega, show (d : Int) + ((i + 1 : Nat) : Int) = (d : Int) + i + 1 by omega, show (k : Int) - ((i + 1 : Nat) : Int) = 0 by omega]
    exact lp'
  · obtain ⟨x', y', dd, lp'⟩ := ldir_more h.idle h.calm lp (by omega) (by omega) (by omega) (by omega) (by omega) (by omega) (by omega) (by omega) e1 e2
    obtain ⟨hc, ht'⟩ := hcalm dd eM (by omega)
    refine ⟨20, x', y', dd.run, ⟨dd.idle, hc, ht', by rw [dd.M, eM], ?_⟩, by rw [if_neg hl], by omega⟩
    rw [if_pos (by omega), show (s : Int) + ((i + 1 : Nat) : Int) = (s : Int) + i + 1 by omega, show (d : Int) + ((i + 1 : Nat) : Int) = (d : Int) + i + 1 by omega, show (k : Int) - ((i + 1 : Nat) : Int) = (k : Int) - i - 1 by omega]
    exact lp'
theorem sq_end {M : Nat → Int} {p s d k : Nat} {x : Cp} {y : Fl} (h : Sq M p s d k k x y) : x.r.b = 0 ∧ x.r.c = 0 ∧ x.r.pc = (p : Int) + 2 ∧ y.M = cpN M s d k := by
  have lp := h.lp
  rw [if_neg (by omega)] at lp
  have hb := h.idle.ok.r.b
  have hc := h.idle.ok.r.c
  have e := lp.bc
  unfold B8 at hb hc
  exact ⟨by omega, by omega, lp.pc, h.M⟩
/-- The rows are nil: the base may rise to the world's size. -/
theorem Mc.rebase {w0 w : World} {b f base : Nat} {x : Cp} {y : Fl} (h : Mc w0 w b f base x (.slice none 0 0) y (.slice none 0 0)) (hs : x.steps = []) (ha : y.acts = []) (B : Nat) (h1 : base ≤ B) (h2 : B ≤ w.heap.size) : Mc w w b f B x (.slice none 0 0) y (.slice none 0 0) := by
  refine ⟨h.cpu, h.free, h.fl, Nat.lt_of_lt_of_le h.lb h1, Nat.lt_of_lt_of_le h.lf h1, h.ne, h2, ⟨by rw [hs]; exact World.ownsRow_nil _ _ _ _, h2, by rw [hs]; exact Nat.zero_le _⟩, by rw [ha]; exact World.ownsRow_nil _ _ _ _, h.modes, ⟨Nat.lt_of_lt_of_le h.mg.1 h1, h.mg.2.1, h.mg.2.2⟩, Fr.refl _ _ _ _⟩

end Go.Proofs.YtcfkpeemhleleaaGreatDoor
/- CpuCopies: the walk. -/
namespace Go.Proofs.YtcfkpeemhleleaaGreatDoor
open Go.RowKit
set_option maxRecDepth 100000
set_option linter.unusedVariables false
set_option linter.unusedSimpArgs false
attribute [local simp ↓ high] flatBuild_as rgBuild_as memLoad_as memStore_as memAlloc_as memEql_as

def copF (j : Nat) : Int := ((j : Int) + (j : Int) / 256 * 3) % 256
theorem copF_b8 (j : Nat) : B8 (copF j) := by unfold copF B8; omega
theorem run_ldBuild (p k s1 s0 d1 d0 : Int) (u : World) : (rgBuild #[(22, .int .u16 p), (3, .int .u8 k), (6, .int .u8 s1), (7, .int .u8 s0), (4, .int .u8 d1), (5, .int .u8 d0)]).run Tryz.prog u = .ok (.agg ({ Rg.zero with pc := p, c := k, h := s1, l := s0, d := d1, e := d0 } : Rg).cells.toArray) u := by kernel_rfl
theorem done_at (b : Nat) (w : World) (h : w.cell? ⟨b, 31, none⟩ = some (.int .i64 0)) : Calls Tryz.prog 13 #[.pointer (some ⟨b, 0, none⟩)] w fun e w' => e = .returned (.bool true) ∧ w = w' := by
  go_enter Tryz.func13, Tryz.ntmps13
  go_wp2_with fail
  go_ret
  exact ⟨rfl, rfl⟩

set_option maxHeartbeats 6400000 in
theorem copies_walk (s d : Nat) (n : Int) (w : World) (hm : Modes w) (s1 : s ≤ 65535) (d1 : d ≤ 65535) :
    Calls Tryz.prog 4 #[.int .u16 s, .int .u16 d, .int .i64 n] w fun e w' => e = .returned (.bool true) ∧ Below w.heap.size w w' := by
  have i0 : (0 : Int) ≤ s := by omega
  have i1 : (s : Int) ≤ 65535 := by omega
  have j0 : (0 : Int) ≤ d := by omega
  have j1 : (d : Int) ≤ 65535 := by omega
  obtain ⟨m, hmin⟩ : ∃ m : Int, (if 60 < n then 60 else n) = m := ⟨_, rfl⟩
  obtain ⟨k, hmax⟩ : ∃ k : Nat, (if 1 < m then m else 1) = (k : Int) := ⟨(if 1 < m then m else 1).toNat, by split <;> omega⟩
  have hk : 1 ≤ k ∧ k ≤ 60 := by
    split at hmin <;> split at hmax <;> omega
  obtain ⟨A, hA, hAc, hbuild⟩ := run_flatBuild0
  have HF := Lib.hid (fa_start w hm (fun _ => 0) hA hAc)
  obtain ⟨p, hp⟩ : ∃ p : Nat, 32768 - (s : Int) / 32768 * 16384 - (d : Int) / 32768 * 8192 = p := ⟨(32768 - (s : Int) / 32768 * 16384 - (d : Int) / 32768 * 8192).toNat, by omega⟩
  have hpb : 8192 ≤ p ∧ p ≤ 32768 := by omega
  clear hA hAc hm
  go_enter Tryz.func4, Tryz.ntmps4
  go_wp2_with fail
  clear hmin hmax
  obtain ⟨f, hf⟩ : ∃ f, w.heap.size = f := ⟨_, rfl⟩
  obtain ⟨w1, hw1⟩ : ∃ w1, w.alloc (.cells A 37) = w1 := ⟨_, rfl⟩
  rw [hw1] at HF ⊢
  rw [hf] at HF ⊢
  clear hw1 hbuild
  go_loopw [9] (fun i wr => ∃ j : Nat, i = .int .i64 j ∧ j ≤ 65536 ∧ Hid (Fa f w wr f { flZ with M := fillN copF j })) (fun i _ => (65536 - intOf i).toNat)
  case atStart => exact ⟨0, rfl, by omega, by rw [fillN_0]; exact HF⟩
  case round =>
    obtain ⟨j, rfl, hj, HJ⟩ := hrel
    clear HF
    by_cases hlt : j < 65536
    · have l1 : decide ((j : Int) < 65536) = true := decide_eq_true (by omega)
      have k0 : (0 : Int) ≤ j := by omega
      have k1 : (j : Int) < 65536 := by omega
      have ff := HJ.out.free j
      have fc := HJ.out.cell j hlt
      have hv : ((j : Int) + (j : Int) / 256 * 3) % 256 = copF j := rfl
      have HP := Lib.hid (show Fa f w (wr.setCell ⟨f, j, none⟩ (.int .u8 (copF j))) f { flZ with M := fillN copF (j + 1) } from by
        rw [← fillN_put]
        exact HJ.out.poke j (copF j) hlt)
      clear HJ
      go_wp2_with fail
      exact ⟨⟨j + 1, by go_num, by omega, HP⟩, by simp [intOf]; omega⟩
    · have l1 : decide ((j : Int) < 65536) = false := decide_eq_false (by omega)
      obtain rfl : j = 65536 := by omega
      go_upto_region 8 with (fail)
      clear hp
      go_cut [83] (fun v wx => ∃ q : Bool, v = .bool q ∧ wx = wr ∧ (q = false → s ≤ 65000 ∧ d ≤ 65000 ∧ (s + 100 ≤ p ∨ p + 100 ≤ s) ∧ (d + 100 ≤ p ∨ p + 100 ≤ d)))
      case first =>
        as_aux_lemma =>
          clear HJ
          by_cases a1 : (p : Int) < (s : Int) + 100
          · have Da1 : decide ((p : Int) < (s : Int) + 100) = true := decide_eq_true a1
            by_cases a2 : (s : Int) < (p : Int) + 100
            · have Da2 : decide ((s : Int) < (p : Int) + 100) = true := decide_eq_true a2
              as_aux_lemma =>
                go_wp2_with fail
                go_meet
                exact ⟨true, rfl, rfl, fun h => by cases h⟩
            · have Da2 : decide ((s : Int) < (p : Int) + 100) = false := decide_eq_false a2
              by_cases c1 : (p : Int) < (d : Int) + 100
              · have Dc1 : decide ((p : Int) < (d : Int) + 100) = true := decide_eq_true c1
                by_cases c2 : (d : Int) < (p : Int) + 100
                · have Dc2 : decide ((d : Int) < (p : Int) + 100) = true := decide_eq_true c2
                  as_aux_lemma =>
                    go_wp2_with fail
                    go_meet
                    exact ⟨true, rfl, rfl, fun h => by cases h⟩
                · have Dc2 : decide ((d : Int) < (p : Int) + 100) = false := decide_eq_false c2
                  by_cases e1 : 65000 < (s : Int)
                  · have De1 : decide (65000 < (s : Int)) = true := decide_eq_true e1
                    as_aux_lemma =>
                      go_wp2_with fail
                      go_meet
                      exact ⟨true, rfl, rfl, fun h => by cases h⟩
                  · have De1 : decide (65000 < (s : Int)) = false := decide_eq_false e1
                    by_cases e2 : 65000 < (d : Int)
                    · have De2 : decide (65000 < (d : Int)) = true := decide_eq_true e2
                      as_aux_lemma =>
                        go_wp2_with fail
                        go_meet
                        exact ⟨true, rfl, rfl, fun h => by cases h⟩
                    · have De2 : decide (65000 < (d : Int)) = false := decide_eq_false e2
                      as_aux_lemma =>
                        go_wp2_with fail
                        go_meet
                        exact ⟨false, rfl, rfl, fun _ => ⟨by omega, by omega, by omega, by omega⟩⟩
              · have Dc1 : decide ((p : Int) < (d : Int) + 100) = false := decide_eq_false c1
                by_cases e1 : 65000 < (s : Int)
                · have De1 : decide (65000 < (s : Int)) = true := decide_eq_true e1
                  as_aux_lemma =>
                    go_wp2_with fail
                    go_meet
                    exact ⟨true, rfl, rfl, fun h => by cases h⟩
                · have De1 : decide (65000 < (s : Int)) = false := decide_eq_false e1
                  by_cases e2 : 65000 < (d : Int)
                  · have De2 : decide (65000 < (d : Int)) = true := decide_eq_true e2
                    as_aux_lemma =>
                      go_wp2_with fail
                      go_meet
                      exact ⟨true, rfl, rfl, fun h => by cases h⟩
                  · have De2 : decide (65000 < (d : Int)) = false := decide_eq_false e2
                    as_aux_lemma =>
                      go_wp2_with fail
                      go_meet
                      exact ⟨false, rfl, rfl, fun _ => ⟨by omega, by omega, by omega, by omega⟩⟩
          · have Da1 : decide ((p : Int) < (s : Int) + 100) = false := decide_eq_false a1
            by_cases c1 : (p : Int) < (d : Int) + 100
            · have Dc1 : decide ((p : Int) < (d : Int) + 100) = true := decide_eq_true c1
              by_cases c2 : (d : Int) < (p : Int) + 100
              · have Dc2 : decide ((d : Int) < (p : Int) + 100) = true := decide_eq_true c2
                as_aux_lemma =>
                  go_wp2_with fail
                  go_meet
                  exact ⟨true, rfl, rfl, fun h => by cases h⟩
              · have Dc2 : decide ((d : Int) < (p : Int) + 100) = false := decide_eq_false c2
                by_cases e1 : 65000 < (s : Int)
                · have De1 : decide (65000 < (s : Int)) = true := decide_eq_true e1
                  as_aux_lemma =>
                    go_wp2_with fail
                    go_meet
                    exact ⟨true, rfl, rfl, fun h => by cases h⟩
                · have De1 : decide (65000 < (s : Int)) = false := decide_eq_false e1
                  by_cases e2 : 65000 < (d : Int)
                  · have De2 : decide (65000 < (d : Int)) = true := decide_eq_true e2
                    as_aux_lemma =>
                      go_wp2_with fail
                      go_meet
                      exact ⟨true, rfl, rfl, fun h => by cases h⟩
                  · have De2 : decide (65000 < (d : Int)) = false := decide_eq_false e2
                    as_aux_lemma =>
                      go_wp2_with fail
                      go_meet
                      exact ⟨false, rfl, rfl, fun _ => ⟨by omega, by omega, by omega, by omega⟩⟩
            · have Dc1 : decide ((p : Int) < (d : Int) + 100) = false := decide_eq_false c1
              by_cases e1 : 65000 < (s : Int)
              · have De1 : decide (65000 < (s : Int)) = true := decide_eq_true e1
                as_aux_lemma =>
                  go_wp2_with fail
                  go_meet
                  exact ⟨true, rfl, rfl, fun h => by cases h⟩
              · have De1 : decide (65000 < (s : Int)) = false := decide_eq_false e1
                by_cases e2 : 65000 < (d : Int)
                · have De2 : decide (65000 < (d : Int)) = true := decide_eq_true e2
                  as_aux_lemma =>
                    go_wp2_with fail
                    go_meet
                    exact ⟨true, rfl, rfl, fun h => by cases h⟩
                · have De2 : decide (65000 < (d : Int)) = false := decide_eq_false e2
                  as_aux_lemma =>
                    go_wp2_with fail
                    go_meet
                    exact ⟨false, rfl, rfl, fun _ => ⟨by omega, by omega, by omega, by omega⟩⟩
      case rest =>
        obtain ⟨q, rfl, rfl, hq⟩ := hcut
        cases q with
        | true =>
          have HL := Lib.hid ((lives12_any wc HJ.out.modes).mono (R' := fun e w' => e = .returned (.bool true) ∧ Below w.heap.size w w') fun e w' ⟨h1, h2⟩ => ⟨h1, by rw [hf]; exact HJ.out.below.trans (h2.mono HJ.out.hB)⟩)
          clear HJ hq
          go_wp2_with fail
          refine HL.out.mono ?_
          rintro e w' ⟨rfl, hb⟩
          have HZ := Lib.hid hb
          clear hb
          go_wp2_with fail
          go_ret
          exact ⟨rfl, HZ.out⟩
        | false =>
          obtain ⟨s65, d65, sp, dp⟩ := hq rfl
          clear hq
          have p0 : (0 : Int) ≤ p := by omega
          have p1 : (p : Int) < 65535 := by omega
          have c0 := HJ.out.cell p (by omega)
          have c1 := HJ.out.cell (p + 1) (by omega)
          have f0 := HJ.out.free p
          have f1 := HJ.out.free (p + 1)
          have HP := Lib.hid ((HJ.out.poke p 237 (by omega)).poke (p + 1) 176 (by omega))
          go_upto_region 12 with (fail)
          obtain ⟨w2, hw2⟩ : ∃ w2, (wc.setCell ⟨f, p, none⟩ (.int .u8 237)).setCell ⟨f, p + 1, none⟩ (.int .u8 176) = w2 := ⟨_, rfl⟩
          rw [hw2] at HP ⊢
          obtain ⟨M1, hM1⟩ : ∃ M1, updN (updN (fillN copF 65536) p 237) (p + 1) 176 = M1 := ⟨_, rfl⟩
          have hM8 : ∀ a, B8 (M1 a) := by rw [← hM1]; exact b8_upd (b8_upd (fillN_b8 copF_b8 _) p ⟨by decide, by decide⟩) (p + 1) ⟨by decide, by decide⟩
          have h237 : M1 p = 237 := by rw [← hM1, updN_other _ _ _ _ (by omega), updN_same]
          have h176 : M1 (p + 1) = 176 := by rw [← hM1, updN_same]
          have HP1 : Hid (Fa f w w2 f { flZ with M := M1 }) := by rw [← hM1]; exact HP
          clear hM1 hw2 HP c0 c1 f0 f1 HJ
          have hld := run_memLoad M1 f 0 w2 (fun j hj => by rw [Nat.zero_add]; exact HP1.out.cell j hj)
          obtain ⟨Z, hZ, hZc, hal⟩ := run_memAlloc
          obtain ⟨W, hst, hmW, hsz, hblk, ho, ht, hu⟩ := run_memStore (Cells.new w2 Z 32 65536 _ hZ hZc) M1
          have hbW : Below w2.heap.size w2 W := (balloc w2 (.cells Z 32)).trans ⟨ho, ht, hu, Nat.le_of_eq hsz.symm, fun k hk => hblk k (by omega)⟩
          have HW := Lib.hid (show MemAt W w2.heap.size (cpN M1 s d 0) ∧ Fa f w W f { flZ with M := M1 } from ⟨hmW, HP1.out.of hbW⟩)
          have hfg : f < w2.heap.size := HP1.out.lt
          clear hZ hZc hmW hsz hblk ho ht hu hbW HP1
          obtain ⟨g, hg⟩ : ∃ g, w2.heap.size = g := ⟨_, rfl⟩
          rw [hg] at hst HW hfg
          go_wp2_with fail
          clear hal hst hld
          go_loopw [12] (fun i wr => ∃ j : Nat, i = .int .i64 j ∧ j ≤ k ∧ Hid (MemAt wr g (cpN M1 s d j) ∧ Fa f w wr f { flZ with M := M1 })) (fun i _ => ((k : Int) - intOf i).toNat)
          case atStart => exact ⟨0, rfl, by omega, HW⟩
          case round =>
            obtain ⟨j, rfl, hj, HJ⟩ := hrel
            clear HW
            by_cases hlt : j < k
            · have l1 : decide ((j : Int) < (k : Int)) = true := decide_eq_true (by omega)
              obtain ⟨a, ha⟩ : ∃ a : Nat, (s : Int) + j = a := ⟨s + j, by omega⟩
              obtain ⟨c, hc⟩ : ∃ c : Nat, (d : Int) + j = c := ⟨d + j, by omega⟩
              have y0 : (0 : Int) ≤ a := by omega
              have y1 : (a : Int) < 65536 := by omega
              have z0 : (0 : Int) ≤ c := by omega
              have z1 : (c : Int) < 65536 := by omega
              have hca := Cells.cell HJ.out.1 a (by omega)
              have hcc := Cells.cell HJ.out.1 c (by omega)
              have hfc := Cells.frozen HJ.out.1 c
              have HQ := Lib.hid (show MemAt (wr.setCell ⟨g, c, none⟩ (.int .u8 (cpN M1 s d j a))) g (cpN M1 s d (j + 1)) ∧ Fa f w (wr.setCell ⟨g, c, none⟩ (.int .u8 (cpN M1 s d j a))) f { flZ with M := M1 } from by
                refine ⟨?_, HJ.out.2.other g c _ (by omega) (by omega)⟩
                have h := MemAt.set HJ.out.1 c (cpN M1 s d j a)
                rw [show a = s + j by omega, show c = d + j by omega] at h ⊢
                exact h)
              clear HJ
              unfold mC at hca hcc
              go_wp2_with fail
              exact ⟨⟨j + 1, by go_num, by omega, HQ⟩, by simp [intOf]; omega⟩
            · have l1 : decide ((j : Int) < (k : Int)) = false := decide_eq_false (by omega)
              obtain rfl : j = k := by omega
              have y0 : (0 : Int) ≤ j := by omega
              have y1 : (j : Int) ≤ 60 := by omega
              have hb := run_ldBuild p j ((s : Int) / 256) ((s : Int) % 256) ((d : Int) / 256) ((d : Int) % 256)
              have HN := Lib.hid (new_any HJ.out.2 (ldR p s d j))
              rw [show ({ Rg.zero with pc := (p : Int), c := (j : Int), h := (s : Int) / 256, l := (s : Int) % 256, d := (d : Int) / 256, e := (d : Int) % 256 } : Rg) = ldR p s d j from rfl] at hb
              generalize (ldR p s d j).cells.toArray = R at *
              have HG := Lib.hid HJ.out.1
              have hgr := HJ.out.1.lt
              clear HJ
              go_wp2_with fail
              refine HN.out.mono ?_
              rintro e w5 ⟨b, rfl, hb5, hmc, hbel, hb4, hbw⟩
              have HCp := Lib.hid (cpuCopy_is w5 hmc)
              have HG5 := Lib.hid (HG.out.below hbw)
              have HM5 := Lib.hid hmc
              have HB5 := Lib.hid hbel
              clear hmc hbel hbw HG HN hb
              go_wp2_with fail
              refine HCp.out.mono ?_
              rintro e w6 ⟨rfl, hb6, hlt6, d22, d31⟩
              have hs6 := hb6.size
              have hf5 := HM5.out.fblk
              have hbd := HM5.out.lb
              have HM6 := Lib.hid ((HM5.out.below hb6).rebase rfl rfl w6.heap.size hs6 (Nat.le_refl _)).mx
              have HG6 := Lib.hid (HG5.out.below hb6)
              have HB6 := Lib.hid (show Below f w w6 from HB5.out.trans (hb6.mono (Nat.le_of_lt hf5)))
              have HS0 := Lib.hid (sq_start hM8 (show p ≤ 65000 by omega) s65 d65 hk.1 hk.2)
              clear hb6 HM5 HG5 HB5 HCp
              obtain ⟨q, hq⟩ : ∃ q, w5.heap.size = q := ⟨_, rfl⟩
              rw [hq] at d22 d31 hf5 hbd hlt6 ⊢
              go_wp2_with fail
              go_loopw [15, 16] (fun t i wr => ∃ a : Nat, i = .int .i64 a ∧ a ≤ j ∧ t = .int .i64 (if a = j then 21 * (j : Int) - 5 else 21 * (a : Int)) ∧ Hid (∃ x y, Mx w6 wr b f w6.heap.size x y ∧ Sq M1 p s d j a x y)) (fun _ i _ => ((j : Int) - intOf i).toNat)
              case atStart => exact ⟨0, rfl, by omega, by rw [if_neg (by omega)]; rfl, Lib.hid ⟨_, _, HM6.out, HS0.out⟩⟩
              case round =>
                obtain ⟨a, rfl, ha, rfl, HX⟩ := hrel
                by_cases hlt : a < j
                · have l1 : decide ((a : Int) < (j : Int)) = true := decide_eq_true (by omega)
                  obtain ⟨x, y, hmx, hsq⟩ := HX.out
                  obtain ⟨n', x', y', ⟨z, u, t1, t2, t3, t4⟩, hsq', en, n9⟩ := sq_step hM8 (show p ≤ 65000 by omega) s65 d65 hk.2 h237 h176 (by omega) hlt hsq
                  have HS := Lib.hid (step_any n' wr hmx t1 t2 t3 t4 n9)
                  have HQ := Lib.hid hsq'
                  obtain ⟨T, hT⟩ : ∃ T : Int, (if a + 1 = j then 21 * (j : Int) - 5 else 21 * ((a + 1 : Nat) : Int)) = T := ⟨_, rfl⟩
                  have hw : IntKind.i64.wrap (21 * (a : Int) + ((n' + 1 : Nat) : Int)) = T := by
                    rw [IntKind.wrap_i64, ← hT, en]
                    split <;> omega
                  rw [if_neg (show ¬ a = j by omega)]
                  clear HX hmx hsq hsq' t1 t2 t3 t4 en n9 HM6 HS0 HG6 HB6
                  generalize ((n' + 1 : Nat) : Int) = N at *
                  go_wp2_with fail
                  refine HS.out.mono ?_
                  rintro e w7 ⟨rfl, hm7⟩
                  have H7 := Lib.hid hm7
                  clear hm7 HS
                  go_wp2_with fail
                  exact ⟨⟨a + 1, by go_num, by omega, by rw [hT], Lib.hid ⟨_, _, H7.out, HQ.out⟩⟩, by simp [intOf]; omega⟩
                · have l1 : decide ((a : Int) < (j : Int)) = false := decide_eq_false (by omega)
                  obtain rfl : a = j := by omega
                  rw [if_pos rfl]
                  obtain ⟨x, y, ⟨v, va, hu⟩, hsq⟩ := HX.out
                  obtain ⟨rb, rc, rp, hM⟩ := sq_end hsq
                  have hd := hu.drew
                  have hgb : wr.heap[g]? = w6.heap[g]? := hu.fr.block g (by have := HG6.out.lt; exact this) (by omega) (by omega)
                  have hdb : wr.heap[q]? = w6.heap[q]? := hu.fr.block q hlt6 (by omega) (by omega)
                  have hqw : q < wr.heap.size := Nat.lt_of_lt_of_le hlt6 hu.fr.size
                  have hl1 := run_memLoad (cpN M1 s d a) f 0 wr.drew (fun i hi => by rw [Nat.zero_add, hd.mem i hi, hM])
                  have hl2 := run_memLoad (cpN M1 s d a) g 0 wr.drew (fun i hi => by
                    rw [Nat.zero_add]
                    exact Cells.cell ((Cells.block HG6.out hgb).below (Below.refl _ _).drew) i hi)
                  have k2 : wr.drew.cell? ⟨b, 2, none⟩ = some (.int .u8 0) := (hd.cell 2 _ rfl).trans (by rw [rb])
                  have k3 : wr.drew.cell? ⟨b, 3, none⟩ = some (.int .u8 0) := (hd.cell 3 _ rfl).trans (by rw [rc])
                  have k22 : wr.drew.cell? ⟨b, 22, none⟩ = some (.int .u16 ((p : Int) + 2)) := (hd.cell 22 _ rfl).trans (by rw [rp])
                  have q22 : wr.drew.cell? ⟨q, 22, none⟩ = some (.int .u16 p) := ((Below.refl wr.heap.size wr).drew.cell (p := ⟨q, 22, none⟩) hqw).trans ((World.cell?_of_block (a := ⟨q, 22, none⟩) hdb).trans d22)
                  have q31 : wr.drew.cell? ⟨q, 31, none⟩ = some (.int .i64 0) := ((Below.refl wr.heap.size wr).drew.cell (p := ⟨q, 31, none⟩) hqw).trans ((World.cell?_of_block (a := ⟨q, 31, none⟩) hdb).trans d31)
                  have HD := Lib.hid (done_at q wr.drew q31)
                  have HL := Lib.hid ((lives12_any wr.drew hd.modes).mono (R' := fun e w' => e = .returned (.bool true) ∧ Below w.heap.size w w') fun e w' ⟨h1, h2⟩ => by
                    refine ⟨h1, ?_⟩
                    rw [hf]
                    have hs := HB6.out.size
                    have hz : f < w6.heap.size := by omega
                    have h3 : Below f w wr := hu.fr.old HB6.out hb5 (Nat.le_refl _) (Nat.le_of_lt hz)
                    exact (h3.trans ((Below.refl wr.heap.size wr).drew.mono (Nat.le_trans (Nat.le_of_lt hz) hu.fr.size))).trans (h2.mono (Nat.le_trans (Nat.le_of_lt hz) hu.fr.size)))
                  have heq := fun u => run_memEql (cpN M1 s d a) u
                  clear HX hu hsq rb rc rp hM hd hgb hdb hqw HG6 HB6 d22 d31 q31 HM6 HS0
                  generalize memA (cpN M1 s d a) = B at *
                  obtain ⟨U, hU⟩ : ∃ U : Int, 21 * (a : Int) = U := ⟨_, rfl⟩
                  have u0 : 0 ≤ U := by omega
                  have u1 : U ≤ 1260 := by omega
                  obtain ⟨T, hT⟩ : ∃ T : Int, U - 5 = T := ⟨_, rfl⟩
                  have w1 : IntKind.i64.wrap U = U := by rw [IntKind.wrap_i64]; omega
                  have w3 : IntKind.i64.wrap (p : Int) = p := by rw [IntKind.wrap_i64]; omega
                  have w4 : IntKind.i64.wrap ((p : Int) + 2) = (p : Int) + 2 := by rw [IntKind.wrap_i64]; omega
                  have w2 : IntKind.i64.wrap T = T := by rw [IntKind.wrap_i64]; omega
                  rw [hU, hT]
                  as_aux_lemma =>
                    go_wp2_with fail
                    first | refine wp_region_noPanic ?_ | skip
                    refine wp_region_U (n := 59) (S := (fun u => (memLoad (.pointer (some ⟨f, 0, none⟩))).run Tryz.prog u = .ok (.agg B) u ∧ (memLoad (.pointer (some ⟨g, 0, none⟩))).run Tryz.prog u = .ok (.agg B) u ∧ u.cell? ⟨b, 2, none⟩ = some (.int .u8 0) ∧ u.cell? ⟨b, 3, none⟩ = some (.int .u8 0) ∧ u.cell? ⟨b, 22, none⟩ = some (.int .u16 ((p : Int) + 2)) ∧ u.cell? ⟨q, 22, none⟩ = some (.int .u16 p))) (by kernel_rfl) (by kernel_rfl) (⟨hl1, hl2, k2, k3, k22, q22⟩) (fun hHeld => ?_)
                    refine wpAnyU_take (i := 0) (v := ?v1) rfl (by kernel_rfl) (by kernel_rfl) (by kernel_rfl) (by kernel_rfl) (fun _ _ _ h => h) (Or.inl ⟨by rfl, ?hy1⟩) (by assumption) ?rest1
                    case hy1 => (intro w hSw; (try dsimp only at hSw); go_simp; try with_reducible rfl)
                    try simp only [Act.put, List.getElem_toArray, List.getElem_cons_succ, List.getElem_cons_zero, List.setIfInBounds_toArray, List.set_cons_zero, List.set_cons_succ]
                    refine wpAnyU_take (i := 1) (v := ?v2) rfl (by kernel_rfl) (by kernel_rfl) (by kernel_rfl) (by kernel_rfl) (fun _ _ _ h => h) (Or.inl ⟨by rfl, ?hy2⟩) (by assumption) ?rest2
                    case hy2 => (intro w hSw; (try dsimp only at hSw); go_simp; try with_reducible rfl)
                    try simp only [Act.put, List.getElem_toArray, List.getElem_cons_succ, List.getElem_cons_zero, List.setIfInBounds_toArray, List.set_cons_zero, List.set_cons_succ]
                    refine wpAnyU_take (i := 2) (v := ?v3) rfl (by kernel_rfl) (by kernel_rfl) (by kernel_rfl) (by kernel_rfl) (fun _ _ _ h => h) (Or.inl ⟨by rfl, ?hy3⟩) (by assumption) ?rest3
                    case hy3 => (intro w hSw; (try dsimp only at hSw); go_simp; try with_reducible rfl)
                    try simp only [Act.put, List.getElem_toArray, List.getElem_cons_succ, List.getElem_cons_zero, List.setIfInBounds_toArray, List.set_cons_zero, List.set_cons_succ]
                    refine wpAnyU_take (i := 3) (v := ?v4) rfl (by kernel_rfl) (by kernel_rfl) (by kernel_rfl) (by kernel_rfl) (fun _ _ _ h => h) (Or.inl ⟨by rfl, ?hy4⟩) (by assumption) ?rest4
                    case hy4 => (intro w hSw; (try dsimp only at hSw); go_simp; try with_reducible rfl)
                    try simp only [Act.put, List.getElem_toArray, List.getElem_cons_succ, List.getElem_cons_zero, List.setIfInBounds_toArray, List.set_cons_zero, List.set_cons_succ]
                    refine wpAnyU_take (i := 4) (v := ?v5) rfl (by kernel_rfl) (by kernel_rfl) (by kernel_rfl) (by kernel_rfl) (fun _ _ _ h => h) (Or.inl ⟨by rfl, ?hy5⟩) (by assumption) ?rest5
                    case hy5 => (intro w hSw; (try dsimp only at hSw); go_simp; try with_reducible rfl)
                    try simp only [Act.put, List.getElem_toArray, List.getElem_cons_succ, List.getElem_cons_zero, List.setIfInBounds_toArray, List.set_cons_zero, List.set_cons_succ]
                    refine wpAnyU_take (i := 5) (v := ?v6) rfl (by kernel_rfl) (by kernel_rfl) (by kernel_rfl) (by kernel_rfl) (fun _ _ _ h => h) (Or.inl ⟨by rfl, ?hy6⟩) (by assumption) ?rest6
                    case hy6 => (intro w hSw; (try dsimp only at hSw); go_simp; try with_reducible rfl)
                    try simp only [Act.put, List.getElem_toArray, List.getElem_cons_succ, List.getElem_cons_zero, List.setIfInBounds_toArray, List.set_cons_zero, List.set_cons_succ]
                    refine wpAnyU_take (i := 6) (v := ?v7) rfl (by kernel_rfl) (by kernel_rfl) (by kernel_rfl) (by kernel_rfl) (fun _ _ _ h => h) (Or.inl ⟨by rfl, ?hy7⟩) (by assumption) ?rest7
                    case hy7 => (intro w hSw; (try dsimp only at hSw); go_simp; try with_reducible rfl)
                    try simp only [Act.put, List.getElem_toArray, List.getElem_cons_succ, List.getElem_cons_zero, List.setIfInBounds_toArray, List.set_cons_zero, List.set_cons_succ]
                    refine wpAnyU_take (i := 7) (v := ?v8) rfl (by kernel_rfl) (by kernel_rfl) (by kernel_rfl) (by kernel_rfl) (fun _ _ _ h => h) (Or.inl ⟨by rfl, ?hy8⟩) (by assumption) ?rest8
                    case hy8 => (intro w hSw; (try dsimp only at hSw); go_simp; try with_reducible rfl)
                    try simp only [Act.put, List.getElem_toArray, List.getElem_cons_succ, List.getElem_cons_zero, List.setIfInBounds_toArray, List.set_cons_zero, List.set_cons_succ]
                    refine wpAnyU_take (i := 8) (v := ?v9) rfl (by kernel_rfl) (by kernel_rfl) (by kernel_rfl) (by kernel_rfl) (fun _ _ _ h => h) (Or.inl ⟨by rfl, ?hy9⟩) (by assumption) ?rest9
                    case hy9 => (intro w hSw; (try dsimp only at hSw); go_simp; try with_reducible rfl)
                    try simp only [Act.put, List.getElem_toArray, List.getElem_cons_succ, List.getElem_cons_zero, List.setIfInBounds_toArray, List.set_cons_zero, List.set_cons_succ]
                    refine wpAnyU_take (i := 9) (v := ?v10) rfl (by kernel_rfl) (by kernel_rfl) (by kernel_rfl) (by kernel_rfl) (fun _ _ _ h => h) (Or.inl ⟨by rfl, ?hy10⟩) (by assumption) ?rest10
                    case hy10 => (intro w hSw; (try dsimp only at hSw); go_simp; try with_reducible rfl)
                    try simp only [Act.put, List.getElem_toArray, List.getElem_cons_succ, List.getElem_cons_zero, List.setIfInBounds_toArray, List.set_cons_zero, List.set_cons_succ]
                    refine wpAnyU_take (i := 10) (v := ?v11) rfl (by kernel_rfl) (by kernel_rfl) (by kernel_rfl) (by kernel_rfl) (fun _ _ _ h => h) (Or.inl ⟨by rfl, ?hy11⟩) (by assumption) ?rest11
                    case hy11 => (intro w hSw; (try dsimp only at hSw); go_simp; try with_reducible rfl)
                    try simp only [Act.put, List.getElem_toArray, List.getElem_cons_succ, List.getElem_cons_zero, List.setIfInBounds_toArray, List.set_cons_zero, List.set_cons_succ]
                    refine wpAnyU_take (i := 11) (v := ?v12) rfl (by kernel_rfl) (by kernel_rfl) (by kernel_rfl) (by kernel_rfl) (fun _ _ _ h => h) (Or.inl ⟨by rfl, ?hy12⟩) (by assumption) ?rest12
                    case hy12 => (intro w hSw; (try dsimp only at hSw); go_simp; try with_reducible rfl)
                    try simp only [Act.put, List.getElem_toArray, List.getElem_cons_succ, List.getElem_cons_zero, List.setIfInBounds_toArray, List.set_cons_zero, List.set_cons_succ]
                    refine wpAnyU_take (i := 12) (v := ?v13) rfl (by kernel_rfl) (by kernel_rfl) (by kernel_rfl) (by kernel_rfl) (fun _ _ _ h => h) (Or.inl ⟨by rfl, ?hy13⟩) (by assumption) ?rest13
                    case hy13 => (intro w hSw; (try dsimp only at hSw); go_simp; try with_reducible rfl)
                    try simp only [Act.put, List.getElem_toArray, List.getElem_cons_succ, List.getElem_cons_zero, List.setIfInBounds_toArray, List.set_cons_zero, List.set_cons_succ]
                    refine wpAnyU_take (i := 13) (v := ?v14) rfl (by kernel_rfl) (by kernel_rfl) (by kernel_rfl) (by kernel_rfl) (fun _ _ _ h => h) (Or.inl ⟨by rfl, ?hy14⟩) (by assumption) ?rest14
                    case hy14 => (intro w hSw; (try dsimp only at hSw); go_simp; try with_reducible rfl)
                    try simp only [Act.put, List.getElem_toArray, List.getElem_cons_succ, List.getElem_cons_zero, List.setIfInBounds_toArray, List.set_cons_zero, List.set_cons_succ]
                    refine wpAnyU_take (i := 14) (v := ?v15) rfl (by kernel_rfl) (by kernel_rfl) (by kernel_rfl) (by kernel_rfl) (fun _ _ _ h => h) (Or.inl ⟨by rfl, ?hy15⟩) (by assumption) ?rest15
                    case hy15 => (intro w hSw; (try dsimp only at hSw); go_simp; try with_reducible rfl)
                    try simp only [Act.put, List.getElem_toArray, List.getElem_cons_succ, List.getElem_cons_zero, List.setIfInBounds_toArray, List.set_cons_zero, List.set_cons_succ]
                    refine wpAnyU_take (i := 15) (v := ?v16) rfl (by kernel_rfl) (by kernel_rfl) (by kernel_rfl) (by kernel_rfl) (fun _ _ _ h => h) (Or.inl ⟨by rfl, ?hy16⟩) (by assumption) ?rest16
                    case hy16 => (intro w hSw; (try dsimp only at hSw); go_simp; try with_reducible rfl)
                    try simp only [Act.put, List.getElem_toArray, List.getElem_cons_succ, List.getElem_cons_zero, List.setIfInBounds_toArray, List.set_cons_zero, List.set_cons_succ]
                    refine wpAnyU_take (i := 16) (v := ?v17) rfl (by kernel_rfl) (by kernel_rfl) (by kernel_rfl) (by kernel_rfl) (fun _ _ _ h => h) (Or.inl ⟨by rfl, ?hy17⟩) (by assumption) ?rest17
                    case hy17 => (intro w hSw; (try dsimp only at hSw); go_simp; try with_reducible rfl)
                    try simp only [Act.put, List.getElem_toArray, List.getElem_cons_succ, List.getElem_cons_zero, List.setIfInBounds_toArray, List.set_cons_zero, List.set_cons_succ]
                    refine wpAnyU_take (i := 17) (v := ?v18) rfl (by kernel_rfl) (by kernel_rfl) (by kernel_rfl) (by kernel_rfl) (fun _ _ _ h => h) (Or.inl ⟨by rfl, ?hy18⟩) (by assumption) ?rest18
                    case hy18 => (intro w hSw; (try dsimp only at hSw); go_simp; try with_reducible rfl)
                    try simp only [Act.put, List.getElem_toArray, List.getElem_cons_succ, List.getElem_cons_zero, List.setIfInBounds_toArray, List.set_cons_zero, List.set_cons_succ]
                    refine wpAnyU_take (i := 18) (v := ?v19) rfl (by kernel_rfl) (by kernel_rfl) (by kernel_rfl) (by kernel_rfl) (fun _ _ _ h => h) (Or.inl ⟨by rfl, ?hy19⟩) (by assumption) ?rest19
                    case hy19 => (intro w hSw; (try dsimp only at hSw); go_simp; try with_reducible rfl)
                    try simp only [Act.put, List.getElem_toArray, List.getElem_cons_succ, List.getElem_cons_zero, List.setIfInBounds_toArray, List.set_cons_zero, List.set_cons_succ]
                    refine wpAnyU_take (i := 19) (v := ?v20) rfl (by kernel_rfl) (by kernel_rfl) (by kernel_rfl) (by kernel_rfl) (fun _ _ _ h => h) (Or.inl ⟨by rfl, ?hy20⟩) (by assumption) ?rest20
                    case hy20 => (intro w hSw; (try dsimp only at hSw); go_simp; try with_reducible rfl)
                    try simp only [Act.put, List.getElem_toArray, List.getElem_cons_succ, List.getElem_cons_zero, List.setIfInBounds_toArray, List.set_cons_zero, List.set_cons_succ]
                    refine wpAnyU_take (i := 20) (v := ?v21) rfl (by kernel_rfl) (by kernel_rfl) (by kernel_rfl) (by kernel_rfl) (fun _ _ _ h => h) (Or.inl ⟨by rfl, ?hy21⟩) (by assumption) ?rest21
                    case hy21 => (intro w hSw; (try dsimp only at hSw); go_simp; try with_reducible rfl)
                    try simp only [Act.put, List.getElem_toArray, List.getElem_cons_succ, List.getElem_cons_zero, List.setIfInBounds_toArray, List.set_cons_zero, List.set_cons_succ]
                    refine wpAnyU_take (i := 21) (v := ?v22) rfl (by kernel_rfl) (by kernel_rfl) (by kernel_rfl) (by kernel_rfl) (fun _ _ _ h => h) (Or.inl ⟨by rfl, ?hy22⟩) (by assumption) ?rest22
                    case hy22 => (intro w hSw; (try dsimp only at hSw); go_simp; try with_reducible rfl)
                    try simp only [Act.put, List.getElem_toArray, List.getElem_cons_succ, List.getElem_cons_zero, List.setIfInBounds_toArray, List.set_cons_zero, List.set_cons_succ]
                    refine wpAnyU_take (i := 22) (v := ?v23) rfl (by kernel_rfl) (by kernel_rfl) (by kernel_rfl) (by kernel_rfl) (fun _ _ _ h => h) (Or.inl ⟨by rfl, ?hy23⟩) (by assumption) ?rest23
                    case hy23 => (intro w hSw; (try dsimp only at hSw); go_simp; try with_reducible rfl)
                    try simp only [Act.put, List.getElem_toArray, List.getElem_cons_succ, List.getElem_cons_zero, List.setIfInBounds_toArray, List.set_cons_zero, List.set_cons_succ]
                    refine wpAnyU_take (i := 23) (v := ?v24) rfl (by kernel_rfl) (by kernel_rfl) (by kernel_rfl) (by kernel_rfl) (fun _ _ _ h => h) (Or.inl ⟨by rfl, ?hy24⟩) (by assumption) ?rest24
                    case hy24 => (intro w hSw; (try dsimp only at hSw); go_simp; try with_reducible rfl)
                    try simp only [Act.put, List.getElem_toArray, List.getElem_cons_succ, List.getElem_cons_zero, List.setIfInBounds_toArray, List.set_cons_zero, List.set_cons_succ]
                    refine wpAnyU_take (i := 24) (v := ?v25) rfl (by kernel_rfl) (by kernel_rfl) (by kernel_rfl) (by kernel_rfl) (fun _ _ _ h => h) (Or.inl ⟨by rfl, ?hy25⟩) (by assumption) ?rest25
                    case hy25 => (intro w hSw; (try dsimp only at hSw); go_simp; try with_reducible rfl)
                    try simp only [Act.put, List.getElem_toArray, List.getElem_cons_succ, List.getElem_cons_zero, List.setIfInBounds_toArray, List.set_cons_zero, List.set_cons_succ]
                    refine wpAnyU_take (i := 25) (v := ?v26) rfl (by kernel_rfl) (by kernel_rfl) (by kernel_rfl) (by kernel_rfl) (fun _ _ _ h => h) (Or.inl ⟨by rfl, ?hy26⟩) (by assumption) ?rest26
                    case hy26 => (intro w hSw; (try dsimp only at hSw); go_simp; try with_reducible rfl)
                    try simp only [Act.put, List.getElem_toArray, List.getElem_cons_succ, List.getElem_cons_zero, List.setIfInBounds_toArray, List.set_cons_zero, List.set_cons_succ]
                    refine wpAnyU_take (i := 26) (v := ?v27) rfl (by kernel_rfl) (by kernel_rfl) (by kernel_rfl) (by kernel_rfl) (fun _ _ _ h => h) (Or.inl ⟨by rfl, ?hy27⟩) (by assumption) ?rest27
                    case hy27 => (intro w hSw; (try dsimp only at hSw); go_simp; try with_reducible rfl)
                    try simp only [Act.put, List.getElem_toArray, List.getElem_cons_succ, List.getElem_cons_zero, List.setIfInBounds_toArray, List.set_cons_zero, List.set_cons_succ]
                    refine wpAnyU_take (i := 27) (v := ?v28) rfl (by kernel_rfl) (by kernel_rfl) (by kernel_rfl) (by kernel_rfl) (fun _ _ _ h => h) (Or.inl ⟨by rfl, ?hy28⟩) (by assumption) ?rest28
                    case hy28 => (intro w hSw; (try dsimp only at hSw); go_simp; try with_reducible rfl)
                    try simp only [Act.put, List.getElem_toArray, List.getElem_cons_succ, List.getElem_cons_zero, List.setIfInBounds_toArray, List.set_cons_zero, List.set_cons_succ]
                    refine wpAnyU_take (i := 28) (v := ?v29) rfl (by kernel_rfl) (by kernel_rfl) (by kernel_rfl) (by kernel_rfl) (fun _ _ _ h => h) (Or.inl ⟨by rfl, ?hy29⟩) (by assumption) ?rest29
                    case hy29 => (intro w hSw; (try dsimp only at hSw); go_simp; try with_reducible rfl)
                    try simp only [Act.put, List.getElem_toArray, List.getElem_cons_succ, List.getElem_cons_zero, List.setIfInBounds_toArray, List.set_cons_zero, List.set_cons_succ]
                    refine wpAnyU_take (i := 29) (v := ?v30) rfl (by kernel_rfl) (by kernel_rfl) (by kernel_rfl) (by kernel_rfl) (fun _ _ _ h => h) (Or.inl ⟨by rfl, ?hy30⟩) (by assumption) ?rest30
                    case hy30 => (intro w hSw; (try dsimp only at hSw); go_simp; try with_reducible rfl)
                    try simp only [Act.put, List.getElem_toArray, List.getElem_cons_succ, List.getElem_cons_zero, List.setIfInBounds_toArray, List.set_cons_zero, List.set_cons_succ]
                    refine wpAnyU_take (i := 30) (v := ?v31) rfl (by kernel_rfl) (by kernel_rfl) (by kernel_rfl) (by kernel_rfl) (fun _ _ _ h => h) (Or.inl ⟨by rfl, ?hy31⟩) (by assumption) ?rest31
                    case hy31 => (intro w hSw; (try dsimp only at hSw); go_simp; try with_reducible rfl)
                    try simp only [Act.put, List.getElem_toArray, List.getElem_cons_succ, List.getElem_cons_zero, List.setIfInBounds_toArray, List.set_cons_zero, List.set_cons_succ]
                    refine wpAnyU_take (i := 31) (v := ?v32) rfl (by kernel_rfl) (by kernel_rfl) (by kernel_rfl) (by kernel_rfl) (fun _ _ _ h => h) (Or.inl ⟨by rfl, ?hy32⟩) (by assumption) ?rest32
                    case hy32 => (intro w hSw; (try dsimp only at hSw); go_simp; try with_reducible rfl)
                    try simp only [Act.put, List.getElem_toArray, List.getElem_cons_succ, List.getElem_cons_zero, List.setIfInBounds_toArray, List.set_cons_zero, List.set_cons_succ]
                    refine wpAnyU_take (i := 32) (v := ?v33) rfl (by kernel_rfl) (by kernel_rfl) (by kernel_rfl) (by kernel_rfl) (fun _ _ _ h => h) (Or.inl ⟨by rfl, ?hy33⟩) (by assumption) ?rest33
                    case hy33 => (intro w hSw; (try dsimp only at hSw); go_simp; try with_reducible rfl)
                    try simp only [Act.put, List.getElem_toArray, List.getElem_cons_succ, List.getElem_cons_zero, List.setIfInBounds_toArray, List.set_cons_zero, List.set_cons_succ]
                    refine wpAnyU_take (i := 33) (v := ?v34) rfl (by kernel_rfl) (by kernel_rfl) (by kernel_rfl) (by kernel_rfl) (fun _ _ _ h => h) (Or.inl ⟨by rfl, ?hy34⟩) (by assumption) ?rest34
                    case hy34 => (intro w hSw; (try dsimp only at hSw); go_simp; try with_reducible rfl)
                    try simp only [Act.put, List.getElem_toArray, List.getElem_cons_succ, List.getElem_cons_zero, List.setIfInBounds_toArray, List.set_cons_zero, List.set_cons_succ]
                    refine wpAnyU_take (i := 34) (v := ?v35) rfl (by kernel_rfl) (by kernel_rfl) (by kernel_rfl) (by kernel_rfl) (fun _ _ _ h => h) (Or.inl ⟨by rfl, ?hy35⟩) (by assumption) ?rest35
                    case hy35 => (intro w hSw; (try dsimp only at hSw); go_simp; try with_reducible rfl)
                    try simp only [Act.put, List.getElem_toArray, List.getElem_cons_succ, List.getElem_cons_zero, List.setIfInBounds_toArray, List.set_cons_zero, List.set_cons_succ]
                    refine wpAnyU_take (i := 35) (v := ?v36) rfl (by kernel_rfl) (by kernel_rfl) (by kernel_rfl) (by kernel_rfl) (fun _ _ _ h => h) (Or.inl ⟨by rfl, ?hy36⟩) (by assumption) ?rest36
                    case hy36 => (intro w hSw; (try dsimp only at hSw); go_simp; try with_reducible rfl)
                    try simp only [Act.put, List.getElem_toArray, List.getElem_cons_succ, List.getElem_cons_zero, List.setIfInBounds_toArray, List.set_cons_zero, List.set_cons_succ]
                    refine wpAnyU_take (i := 36) (v := ?v37) rfl (by kernel_rfl) (by kernel_rfl) (by kernel_rfl) (by kernel_rfl) (fun _ _ _ h => h) (Or.inl ⟨by rfl, ?hy37⟩) (by assumption) ?rest37
                    case hy37 => (intro w hSw; (try dsimp only at hSw); go_simp; try with_reducible rfl)
                    try simp only [Act.put, List.getElem_toArray, List.getElem_cons_succ, List.getElem_cons_zero, List.setIfInBounds_toArray, List.set_cons_zero, List.set_cons_succ]
                    refine wpAnyU_take (i := 37) (v := ?v38) rfl (by kernel_rfl) (by kernel_rfl) (by kernel_rfl) (by kernel_rfl) (fun _ _ _ h => h) (Or.inl ⟨by rfl, ?hy38⟩) (by assumption) ?rest38
                    case hy38 => (intro w hSw; (try dsimp only at hSw); go_simp; try with_reducible rfl)
                    try simp only [Act.put, List.getElem_toArray, List.getElem_cons_succ, List.getElem_cons_zero, List.setIfInBounds_toArray, List.set_cons_zero, List.set_cons_succ]
                    refine wpAnyU_take (i := 38) (v := ?v39) rfl (by kernel_rfl) (by kernel_rfl) (by kernel_rfl) (by kernel_rfl) (fun _ _ _ h => h) (Or.inl ⟨by rfl, ?hy39⟩) (by assumption) ?rest39
                    case hy39 => (intro w hSw; (try dsimp only at hSw); go_simp; try with_reducible rfl)
                    try simp only [Act.put, List.getElem_toArray, List.getElem_cons_succ, List.getElem_cons_zero, List.setIfInBounds_toArray, List.set_cons_zero, List.set_cons_succ]
                    refine wpAnyU_take (i := 39) (v := ?v40) rfl (by kernel_rfl) (by kernel_rfl) (by kernel_rfl) (by kernel_rfl) (fun _ _ _ h => h) (Or.inl ⟨by rfl, ?hy40⟩) (by assumption) ?rest40
                    case hy40 => (intro w hSw; (try dsimp only at hSw); go_simp; try with_reducible rfl)
                    try simp only [Act.put, List.getElem_toArray, List.getElem_cons_succ, List.getElem_cons_zero, List.setIfInBounds_toArray, List.set_cons_zero, List.set_cons_succ]
                    refine wpAnyU_take (i := 40) (v := ?v41) rfl (by kernel_rfl) (by kernel_rfl) (by kernel_rfl) (by kernel_rfl) (fun _ _ _ h => h) (Or.inl ⟨by rfl, ?hy41⟩) (by assumption) ?rest41
                    case hy41 => (intro w hSw; (try dsimp only at hSw); go_simp; try with_reducible rfl)
                    try simp only [Act.put, List.getElem_toArray, List.getElem_cons_succ, List.getElem_cons_zero, List.setIfInBounds_toArray, List.set_cons_zero, List.set_cons_succ]
                    refine wpAnyU_take (i := 41) (v := ?v42) rfl (by kernel_rfl) (by kernel_rfl) (by kernel_rfl) (by kernel_rfl) (fun _ _ _ h => h) (Or.inl ⟨by rfl, ?hy42⟩) (by assumption) ?rest42
                    case hy42 => (intro w hSw; (try dsimp only at hSw); go_simp; try with_reducible rfl)
                    try simp only [Act.put, List.getElem_toArray, List.getElem_cons_succ, List.getElem_cons_zero, List.setIfInBounds_toArray, List.set_cons_zero, List.set_cons_succ]
                    refine wpAnyU_take (i := 42) (v := ?v43) rfl (by kernel_rfl) (by kernel_rfl) (by kernel_rfl) (by kernel_rfl) (fun _ _ _ h => h) (Or.inl ⟨by rfl, ?hy43⟩) (by assumption) ?rest43
                    case hy43 => (intro w hSw; (try dsimp only at hSw); go_simp; try with_reducible rfl)
                    try simp only [Act.put, List.getElem_toArray, List.getElem_cons_succ, List.getElem_cons_zero, List.setIfInBounds_toArray, List.set_cons_zero, List.set_cons_succ]
                    refine wpAnyU_take (i := 43) (v := ?v44) rfl (by kernel_rfl) (by kernel_rfl) (by kernel_rfl) (by kernel_rfl) (fun _ _ _ h => h) (Or.inl ⟨by rfl, ?hy44⟩) (by assumption) ?rest44
                    case hy44 => (intro w hSw; (try dsimp only at hSw); go_simp; try with_reducible rfl)
                    try simp only [Act.put, List.getElem_toArray, List.getElem_cons_succ, List.getElem_cons_zero, List.setIfInBounds_toArray, List.set_cons_zero, List.set_cons_succ]
                    refine wpAnyU_take (i := 44) (v := ?v45) rfl (by kernel_rfl) (by kernel_rfl) (by kernel_rfl) (by kernel_rfl) (fun _ _ _ h => h) (Or.inl ⟨by rfl, ?hy45⟩) (by assumption) ?rest45
                    case hy45 => (intro w hSw; (try dsimp only at hSw); go_simp; try with_reducible rfl)
                    try simp only [Act.put, List.getElem_toArray, List.getElem_cons_succ, List.getElem_cons_zero, List.setIfInBounds_toArray, List.set_cons_zero, List.set_cons_succ]
                    refine wpAnyU_take (i := 45) (v := ?v46) rfl (by kernel_rfl) (by kernel_rfl) (by kernel_rfl) (by kernel_rfl) (fun _ _ _ h => h) (Or.inl ⟨by rfl, ?hy46⟩) (by assumption) ?rest46
                    case hy46 => (intro w hSw; (try dsimp only at hSw); go_simp; try with_reducible rfl)
                    try simp only [Act.put, List.getElem_toArray, List.getElem_cons_succ, List.getElem_cons_zero, List.setIfInBounds_toArray, List.set_cons_zero, List.set_cons_succ]
                    refine wpAnyU_take (i := 46) (v := ?v47) rfl (by kernel_rfl) (by kernel_rfl) (by kernel_rfl) (by kernel_rfl) (fun _ _ _ h => h) (Or.inl ⟨by rfl, ?hy47⟩) (by assumption) ?rest47
                    case hy47 => (intro w hSw; (try dsimp only at hSw); go_simp; try with_reducible rfl)
                    try simp only [Act.put, List.getElem_toArray, List.getElem_cons_succ, List.getElem_cons_zero, List.setIfInBounds_toArray, List.set_cons_zero, List.set_cons_succ]
                    refine wpAnyU_take (i := 47) (v := ?v48) rfl (by kernel_rfl) (by kernel_rfl) (by kernel_rfl) (by kernel_rfl) (fun _ _ _ h => h) (Or.inl ⟨by rfl, ?hy48⟩) (by assumption) ?rest48
                    case hy48 => (intro w hSw; (try dsimp only at hSw); go_simp; try with_reducible rfl)
                    try simp only [Act.put, List.getElem_toArray, List.getElem_cons_succ, List.getElem_cons_zero, List.setIfInBounds_toArray, List.set_cons_zero, List.set_cons_succ]
                    refine wpAnyU_take (i := 48) (v := ?v49) rfl (by kernel_rfl) (by kernel_rfl) (by kernel_rfl) (by kernel_rfl) (fun _ _ _ h => h) (Or.inl ⟨by rfl, ?hy49⟩) (by assumption) ?rest49
                    case hy49 => (intro w hSw; (try dsimp only at hSw); go_simp; try with_reducible rfl)
                    try simp only [Act.put, List.getElem_toArray, List.getElem_cons_succ, List.getElem_cons_zero, List.setIfInBounds_toArray, List.set_cons_zero, List.set_cons_succ]
                    refine wpAnyU_take (i := 49) (v := ?v50) rfl (by kernel_rfl) (by kernel_rfl) (by kernel_rfl) (by kernel_rfl) (fun _ _ _ h => h) (Or.inl ⟨by rfl, ?hy50⟩) (by assumption) ?rest50
                    case hy50 => (intro w hSw; (try dsimp only at hSw); go_simp; try with_reducible rfl)
                    try simp only [Act.put, List.getElem_toArray, List.getElem_cons_succ, List.getElem_cons_zero, List.setIfInBounds_toArray, List.set_cons_zero, List.set_cons_succ]
                    refine wpAnyU_take (i := 50) (v := ?v51) rfl (by kernel_rfl) (by kernel_rfl) (by kernel_rfl) (by kernel_rfl) (fun _ _ _ h => h) (Or.inl ⟨by rfl, ?hy51⟩) (by assumption) ?rest51
                    case hy51 => (intro w hSw; (try dsimp only at hSw); go_simp; try with_reducible rfl)
                    try simp only [Act.put, List.getElem_toArray, List.getElem_cons_succ, List.getElem_cons_zero, List.setIfInBounds_toArray, List.set_cons_zero, List.set_cons_succ]
                    refine wpAnyU_take (i := 51) (v := ?v52) rfl (by kernel_rfl) (by kernel_rfl) (by kernel_rfl) (by kernel_rfl) (fun _ _ _ h => h) (Or.inl ⟨by rfl, ?hy52⟩) (by assumption) ?rest52
                    case hy52 => (intro w hSw; (try dsimp only at hSw); go_simp; try with_reducible rfl)
                    try simp only [Act.put, List.getElem_toArray, List.getElem_cons_succ, List.getElem_cons_zero, List.setIfInBounds_toArray, List.set_cons_zero, List.set_cons_succ]
                    refine wpAnyU_take (i := 52) (v := ?v53) rfl (by kernel_rfl) (by kernel_rfl) (by kernel_rfl) (by kernel_rfl) (fun _ _ _ h => h) (Or.inl ⟨by rfl, ?hy53⟩) (by assumption) ?rest53
                    case hy53 => (intro w hSw; (try dsimp only at hSw); go_simp; try with_reducible rfl)
                    try simp only [Act.put, List.getElem_toArray, List.getElem_cons_succ, List.getElem_cons_zero, List.setIfInBounds_toArray, List.set_cons_zero, List.set_cons_succ]
                    refine wpAnyU_take (i := 53) (v := ?v54) rfl (by kernel_rfl) (by kernel_rfl) (by kernel_rfl) (by kernel_rfl) (fun _ _ _ h => h) (Or.inl ⟨by rfl, ?hy54⟩) (by assumption) ?rest54
                    case hy54 => (intro w hSw; (try dsimp only at hSw); go_simp; try with_reducible rfl)
                    try simp only [Act.put, List.getElem_toArray, List.getElem_cons_succ, List.getElem_cons_zero, List.setIfInBounds_toArray, List.set_cons_zero, List.set_cons_succ]
                    refine wpAnyU_take (i := 54) (v := ?v55) rfl (by kernel_rfl) (by kernel_rfl) (by kernel_rfl) (by kernel_rfl) (fun _ _ _ h => h) (Or.inl ⟨by rfl, ?hy55⟩) (by assumption) ?rest55
                    case hy55 => (intro w hSw; (try dsimp only at hSw); go_simp; try with_reducible rfl)
                    try simp only [Act.put, List.getElem_toArray, List.getElem_cons_succ, List.getElem_cons_zero, List.setIfInBounds_toArray, List.set_cons_zero, List.set_cons_succ]
                    refine wpAnyU_take (i := 55) (v := ?v56) rfl (by kernel_rfl) (by kernel_rfl) (by kernel_rfl) (by kernel_rfl) (fun _ _ _ h => h) (Or.inl ⟨by rfl, ?hy56⟩) (by assumption) ?rest56
                    case hy56 => (intro w hSw; (try dsimp only at hSw); go_simp; try with_reducible rfl)
                    try simp only [Act.put, List.getElem_toArray, List.getElem_cons_succ, List.getElem_cons_zero, List.setIfInBounds_toArray, List.set_cons_zero, List.set_cons_succ]
                    refine wpAnyU_ready (i := 56) (by kernel_rfl) (by kernel_rfl) rfl (fun K hK => ?_)
                    go_simp
                    refine (HD.out).mono ?_
                    rintro e w' ⟨rfl, rfl⟩
                    go_wp2_with fail
                    refine hK.out _ _ (by assumption) (fun hHeld => ?_)
                    clear hK K
                    try simp only [Act.put, List.getElem_toArray, List.getElem_cons_succ, List.getElem_cons_zero, List.setIfInBounds_toArray, List.set_cons_zero, List.set_cons_succ]
                    refine wpAnyU_take (i := 57) (v := ?v57) rfl (by kernel_rfl) (by kernel_rfl) (by kernel_rfl) (by kernel_rfl) (fun _ _ _ h => h) (Or.inl ⟨by rfl, ?hy57⟩) (by assumption) ?rest57
                    case hy57 => (intro w hSw; (try dsimp only at hSw); go_simp; try with_reducible rfl)
                    try simp only [Act.put, List.getElem_toArray, List.getElem_cons_succ, List.getElem_cons_zero, List.setIfInBounds_toArray, List.set_cons_zero, List.set_cons_succ]
                    refine wpAnyU_take (i := 58) (v := ?v58) rfl (by kernel_rfl) (by kernel_rfl) (by kernel_rfl) (by kernel_rfl) (fun _ _ _ h => h) (Or.inl ⟨by rfl, ?hy58⟩) (by assumption) ?rest58
                    case hy58 => (intro w hSw; (try dsimp only at hSw); go_simp; try with_reducible rfl)
                    try simp only [Act.put, List.getElem_toArray, List.getElem_cons_succ, List.getElem_cons_zero, List.setIfInBounds_toArray, List.set_cons_zero, List.set_cons_succ]
                    refine wpAnyU_tail rfl (by kernel_rfl) ?_
                    simp only [List.drop_succ_cons, List.drop_zero]
                    go_wp2_with fail
                    refine HL.out.mono ?_
                    rintro e w' ⟨rfl, hb⟩
                    have HZ := Lib.hid hb
                    clear hb HL
                    go_wp2_with fail
                    refine NoPanic.normal ?_
                    go_wp2_with fail
                    go_ret
                    exact ⟨rfl, HZ.out⟩
theorem copies_card (s d n : Int) (ws : (Lit.int .u16 s).wf = true) (wd : (Lit.int .u16 d).wf = true) (wn : (Lit.int .i64 n).wf = true) (w : World) (hm : Modes w) :
    Calls Tryz.prog 4 #[.int .u16 s, .int .u16 d, .int .i64 n] w fun e w' => e = .returned (.bool true) ∧ Below w.heap.size w w' := by
  obtain ⟨s0, s1⟩ := bounds_u16 ws
  obtain ⟨d0, d1⟩ := bounds_u16 wd
  obtain ⟨s, rfl⟩ : ∃ a : Nat, s = a := ⟨s.toNat, by omega⟩
  obtain ⟨d, rfl⟩ : ∃ a : Nat, d = a := ⟨d.toNat, by omega⟩
  exact copies_walk s d n w hm (by omega) (by omega)

end Go.Proofs.YtcfkpeemhleleaaGreatDoor
