/- Arrays of sixteen numbers: as values and in blocks. -/
import Derived.Test.YtifkldllhbcmkaaDoorInts
import Derived.Test.YtifkldllhbcmkaaDoorRowIndex
import Derived.Laws.StructEq
import Derived.Laws.CopyRow
import Derived.Laws.CopyOwn
namespace Go.Proofs.YtifkldllhbcmkaaDoor
open Go.RowKit
set_option maxRecDepth 100000
set_option linter.unusedVariables false
set_option linter.unusedSimpArgs false

def arrA (M : Nat → Int) : Array Value := ((List.range 16).map fun j => Value.int .i64 (M j)).toArray
theorem arrA_at (M : Nat → Int) (j : Nat) (h : j < 16) : (arrA M)[j]? = some (.int .i64 (M j)) := by
  unfold arrA
  simp [h]
theorem arrA_len (M : Nat → Int) : (arrA M).toList.length = 16 := by simp [arrA]
theorem arrA_size (M : Nat → Int) : (arrA M).size = 16 := by simp [arrA]
theorem arrA_list (M : Nat → Int) (j : Nat) (v : Value) (h : (arrA M).toList[j]? = some v) : j < 16 ∧ v = .int .i64 (M j) := by
  have hj6 : j < 16 := by
    have := (List.getElem?_eq_some_iff.1 h).1
    rwa [arrA_len] at this
  rw [Array.getElem?_toList, arrA_at M j hj6] at h
  injection h with h
  exact ⟨hj6, h.symm⟩
theorem arrA_congr {M M' : Nat → Int} (h : ∀ j, j < 16 → M j = M' j) : arrA M = arrA M' := by
  unfold arrA
  congr 1
  refine List.map_congr_left fun j hj => ?_
  rw [h j (List.mem_range.1 hj)]
theorem arrA_one (M : Nat → Int) : (arrA M).all (·.oneCell') = true := by
  unfold arrA
  refine all_oneCell_toArray fun u hu => ?_
  obtain ⟨j, _, rfl⟩ := List.mem_map.1 hu
  rfl
def aC (M : Nat → Int) (j : Nat) : Value := .int .i64 (M j)
abbrev ArrAt (w : World) (g : Nat) (ty : TypeId) (M : Nat → Int) : Prop := Cells w g ty 16 (aC M)
theorem aC_upd (M : Nat → Int) (a : Nat) (v : Int) : upd (aC M) a (.int .i64 v) = aC (updN M a v) := by
  funext j
  by_cases e : j = a
  · subst e
    rw [upd_same]; unfold aC; rw [updN_same]
  · unfold upd aC updN
    rw [if_neg e, if_neg e]
theorem ArrAt.set {w : World} {g : Nat} {ty : TypeId} {M : Nat → Int} (h : ArrAt w g ty M) (a : Nat) (v : Int) : ArrAt (w.setCell ⟨g, a, none⟩ (.int .i64 v)) g ty (updN M a v) := by
  have := Cells.set h a (.int .i64 v)
  rwa [aC_upd] at this
theorem ArrAt.congr {w : World} {g : Nat} {ty : TypeId} {M M' : Nat → Int} (h : ArrAt w g ty M) (e : ∀ j, j < 16 → M j = M' j) : ArrAt w g ty M' := Cells.congr h fun j hj => by unfold aC; rw [e j hj]
theorem ArrAt.new (w : World) (ty : TypeId) (M : Nat → Int) : ArrAt (w.alloc (.cells (arrA M) ty)) w.heap.size ty M := Cells.new w _ _ _ _ (arrA_size M) fun j hj => arrA_at M j hj

/-! The two types. -/
def arrAlloc (t : TypeId) (h : Bool) (o : Value) : Sem Value := Instr.alloc t h o
theorem arrAlloc_as1 (h : Bool) (o : Value) : Instr.alloc 73 h o = arrAlloc 73 h o := rfl
theorem arrAlloc_as2 (h : Bool) (o : Value) : Instr.alloc 74 h o = arrAlloc 74 h o := rfl
def arrStore (t : TypeId) (p v : Value) : Sem Unit := Instr.storeAt t p v
theorem arrStore_as1 (p v : Value) : Instr.storeAt 73 p v = arrStore 73 p v := rfl
theorem arrStore_as2 (p v : Value) : Instr.storeAt 74 p v = arrStore 74 p v := rfl
def arrLoad (t : TypeId) (v : Value) : Sem Value := Instr.loadAt t v
theorem arrLoad_as1 (v : Value) : Instr.loadAt 73 v = arrLoad 73 v := rfl
theorem arrLoad_as2 (v : Value) : Instr.loadAt 74 v = arrLoad 74 v := rfl
def arrEql (x y : Value) : Sem Value := binOp .eql 74 x y
theorem arrEql_as (x y : Value) : binOp .eql 74 x y = arrEql x y := rfl
def arrBuild (l : Array (Nat × Value)) : Sem Value := Instr.build 74 l
theorem arrBuild_as (l : Array (Nat × Value)) : Instr.build 74 l = arrBuild l := rfl

theorem run_arrLoad1 {w : World} {g : Nat} {ty : TypeId} {M : Nat → Int} (h : ArrAt w g ty M) : (arrLoad 73 (.pointer (some ⟨g, 0, none⟩))).run Tryd.prog w = .ok (.agg (arrA M)) w := by
  have := run_loadAt_mid (P := Tryd.prog) w g 0 73 (arrA M).toList _ (fun j v hj => by
    obtain ⟨h1, h2⟩ := arrA_list M j v hj
    rw [Nat.zero_add, Cells.cell h j h1, h2]; rfl) Tryd.underlying73 rfl (by rw [arrA_len]; kernel_rfl)
  rw [Array.toArray_toList] at this
  exact this
theorem run_arrLoad2 {w : World} {g : Nat} {M : Nat → Int} (h : ∀ j, j < 16 → w.cell? ⟨g, j, none⟩ = some (.int .i64 (M j))) : (arrLoad 74 (.pointer (some ⟨g, 0, none⟩))).run Tryd.prog w = .ok (.agg (arrA M)) w := by
  have := run_loadAt_mid (P := Tryd.prog) w g 0 74 (arrA M).toList _ (fun j v hj => by
    obtain ⟨h1, h2⟩ := arrA_list M j v hj
    rw [Nat.zero_add, h j h1, h2]) Tryd.underlying74 rfl (by rw [arrA_len]; kernel_rfl)
  rw [Array.toArray_toList] at this
  exact this
theorem ArrAt.cells {w : World} {g : Nat} {ty : TypeId} {M : Nat → Int} (h : ArrAt w g ty M) : ∀ j, j < 16 → w.cell? ⟨g, j, none⟩ = some (.int .i64 (M j)) := fun j hj => Cells.cell h j hj
theorem results_arr1 {fn : Func} {p : Tmp} (h : fn.results = #[.cell p 73]) (tmps : Array Value) {w : World} {g : Nat} {ty : TypeId} {M : Nat → Int} (hr : ArrAt w g ty M) (hp : tmps.getD p undef = .pointer (some ⟨g, 0, none⟩)) :
    (results fn tmps).run Tryd.prog w = .ok (.agg (arrA M)) w := by
  have hp' : tmps[p]?.getD undef = .pointer (some ⟨g, 0, none⟩) := by simpa using hp
  have hl := run_loadVar_mid (P := Tryd.prog) w g 0 73 (arrA M).toList _ (fun j v hj => by
    obtain ⟨h1, h2⟩ := arrA_list M j v hj
    rw [Nat.zero_add, Cells.cell hr j h1, h2]; rfl) Tryd.underlying73 rfl (by rw [arrA_len]; kernel_rfl)
  rw [Array.toArray_toList] at hl
  simp [results, h, hp', asAddr, hl]
theorem results_arr2 {fn : Func} {p q : Tmp} (h : fn.results = #[.cell p 74, .tmp q]) (tmps : Array Value) {w : World} {g : Nat} {ty : TypeId} {M : Nat → Int} (hr : ArrAt w g ty M) (hp : tmps.getD p undef = .pointer (some ⟨g, 0, none⟩)) (e : Value) (hq : tmps.getD q undef = e) :
    (results fn tmps).run Tryd.prog w = .ok (.tuple #[.agg (arrA M), e]) w := by
  have hp' : tmps[p]?.getD undef = .pointer (some ⟨g, 0, none⟩) := by simpa using hp
  have hq' : tmps[q]?.getD undef = e := by simpa using hq
  have hl := run_loadVar_mid (P := Tryd.prog) w g 0 74 (arrA M).toList _ (fun j v hj => by
    obtain ⟨h1, h2⟩ := arrA_list M j v hj
    rw [Nat.zero_add, Cells.cell hr j h1, h2]; rfl) Tryd.underlying74 rfl (by rw [arrA_len]; kernel_rfl)
  rw [Array.toArray_toList] at hl
  simp [results, h, hp', hq', asAddr, hl]
theorem zero16 : arrA (fun _ => 0) = #[.int .i64 0, .int .i64 0, .int .i64 0, .int .i64 0, .int .i64 0, .int .i64 0, .int .i64 0, .int .i64 0, .int .i64 0, .int .i64 0, .int .i64 0, .int .i64 0, .int .i64 0, .int .i64 0, .int .i64 0, .int .i64 0] := rfl
theorem info51 : (Tryd.prog.info? 73).map (fun i => i.zero) = some (some (.agg (arrA fun _ => 0))) := by kernel_rfl
theorem info52 : (Tryd.prog.info? 74).map (fun i => i.zero) = some (some (.agg (arrA fun _ => 0))) := by kernel_rfl
theorem run_alloc_of (t : TypeId) (h : (Tryd.prog.info? t).map (fun i => i.zero) = some (some (.agg (arrA fun _ => 0)))) (u : World) : (arrAlloc t true (.tuple #[])).run Tryd.prog u = .ok (.pointer (some ⟨u.heap.size, 0, none⟩)) (u.alloc (.cells (arrA fun _ => 0) t)) := by
  cases hi : Tryd.prog.info? t with
  | none => rw [hi] at h; cases h
  | some i =>
    rw [hi] at h
    have hz : i.zero = some (.agg (arrA fun _ => 0)) := by simpa using h
    have hc : (Value.agg (arrA fun _ => 0)).cells = arrA fun _ => 0 := rfl
    simp only [arrAlloc, Instr.alloc, zeroValue, Sem.run_bind, typeInfo, newVar, newRow]
    simp [hi, hz, hc]
theorem run_arrAlloc1 (u : World) : (arrAlloc 73 true (.tuple #[])).run Tryd.prog u = .ok (.pointer (some ⟨u.heap.size, 0, none⟩)) (u.alloc (.cells (arrA fun _ => 0) 73)) := run_alloc_of _ info51 u
theorem run_arrAlloc2 (u : World) : (arrAlloc 74 true (.tuple #[])).run Tryd.prog u = .ok (.pointer (some ⟨u.heap.size, 0, none⟩)) (u.alloc (.cells (arrA fun _ => 0) 74)) := run_alloc_of _ info52 u
/-- An array written whole. -/
theorem run_store_of (t : TypeId) (ht : (Tryd.prog.info? t).map (·.size) = some 16) {w : World} {g : Nat} {M0 : Nat → Int} (h : ArrAt w g t M0) (M : Nat → Int) : ∃ W : World, (arrStore t (.pointer (some ⟨g, 0, none⟩)) (.agg (arrA M))).run Tryd.prog w = .ok () W ∧ ArrAt W g t M ∧ Ch (fun k => k = g) w W := by
  obtain ⟨A, h1, h2, _⟩ := h
  have hsz := arrA_size M
  have hone := arrA_one M
  have hat := arrA_at M
  generalize arrA M = B at *
  have := run_storeVar_row (P := Tryd.prog) w g t t A B h1 (by rw [hsz]; exact ht) (by rw [h2, hsz]) hone
  refine ⟨w.setRow g B, by simp only [arrStore, Instr.storeAt, Instr.sureAddr, Sem.run_bind, Sem.run_pure, Result.andThen_ok, this], ⟨B, setRow_heap _ _ _ _ _ _ h1, hsz, hat⟩, rfl, rfl, rfl, by simp [World.setRow], fun k _ hk => ?_⟩
  simp [World.setRow, Array.getElem?_modify, Ne.symm hk]
theorem run_arrStore1 {w : World} {g : Nat} {M0 : Nat → Int} (h : ArrAt w g 73 M0) (M : Nat → Int) : ∃ W : World, (arrStore 73 (.pointer (some ⟨g, 0, none⟩)) (.agg (arrA M))).run Tryd.prog w = .ok () W ∧ ArrAt W g 73 M ∧ Ch (fun k => k = g) w W := run_store_of _ (by kernel_rfl) h M
theorem run_arrStore2 {w : World} {g : Nat} {M0 : Nat → Int} (h : ArrAt w g 74 M0) (M : Nat → Int) : ∃ W : World, (arrStore 74 (.pointer (some ⟨g, 0, none⟩)) (.agg (arrA M))).run Tryd.prog w = .ok () W ∧ ArrAt W g 74 M ∧ Ch (fun k => k = g) w W := run_store_of _ (by kernel_rfl) h M
theorem run_arrBuild0 (u : World) : (arrBuild #[]).run Tryd.prog u = .ok (.agg (arrA fun _ => 0)) u :=
  run_build u _ _ _ (show Tryd.prog.built 74 [] = some (arrA fun _ => 0) by kernel_rfl)
theorem run_arrBuild1 (u : World) : (arrBuild #[(1, .int .i64 1)]).run Tryd.prog u = .ok (.agg (arrA fun j => if j = 1 then 1 else 0)) u :=
  run_build u _ _ _ (show Tryd.prog.built 74 [(1, .int .i64 1)] = some (arrA fun j => if j = 1 then 1 else 0) by kernel_rfl)
theorem forIn_until {P : Program} {β : Type} (w : World) (b d : β) (f : Nat → β → Sem (ForInStep β)) (q : Nat → Bool) : ∀ is : List Nat, (∀ i ∈ is, (f i b).run P w = .ok (if q i then .yield b else .done d) w) → (forIn is b f).run P w = .ok (if is.all q then b else d) w
  | [], _ => by simp
  | i :: is, h => by
    rw [List.forIn_cons]
    simp only [Sem.run_bind, h i (by simp), Result.andThen_ok]
    cases hq : q i with
    | false => simp [hq]
    | true =>
      simp only [if_true, List.all_cons, hq, Bool.true_and]
      exact forIn_until w b d f q is (fun j hj => h j (by simp [hj]))
theorem arr_eqIn (M M' : Nat → Int) (b : Bool) (hb : (∀ j, j < 16 → M j = M' j) ↔ b = true) (w : World) : (Op.equalIn 10000 74 (.agg (arrA M)) (.agg (arrA M'))).run Tryd.prog w = .ok b w := by
  have ht : Tryd.prog.underlying 74 = some (.array 16 3) := Tryd.underlying74
  have he : Tryd.prog.underlying 3 = some (.int .i64) := Tryd.underlying3
  have hsz : ∀ w, (sizeOf 3).run Tryd.prog w = .ok 1 w := fun _ => by kernel_rfl
  have pp : ∀ (M : Nat → Int) j, j < 16 → ∀ w, (part 3 (arrA M) j).run Tryd.prog w = .ok (.int .i64 (M j)) w := fun M j hj w => by simp [part, isAgg, run_underlying he, arrA_at M j hj]
  have pe : ∀ (x y : Int) w, (Op.equalIn 9999 3 (.int .i64 x) (.int .i64 y)).run Tryd.prog w = .ok (x == y) w := fun x y w => run_equalIn_int w 9998 _ .i64 .i64 x y he
  have hall : (List.range' 0 16 1).all (fun i => M i == M' i) = b := by
    cases b with
    | true =>
      rw [List.all_eq_true]
      intro i hi
      rw [List.mem_range'_1] at hi
      rw [hb.2 rfl i (by omega)]; exact beq_self_eq_true _
    | false =>
      rw [List.all_eq_false]
      rcases Classical.em (∃ i, i < 16 ∧ M i ≠ M' i) with ⟨i, h1, h2⟩ | h
      · exact ⟨i, by rw [List.mem_range'_1]; omega, by simpa using h2⟩
      · exact absurd (hb.1 fun j hj => Classical.byContradiction fun c => h ⟨j, hj, c⟩) (by decide)
  have p1 := pp M
  have p2 := pp M'
  generalize arrA M = A at *
  generalize arrA M' = B at *
  rw [Op.equalIn]
  simp only [Sem.run_bind, run_underlying ht, Result.andThen_ok, hsz, Std.Legacy.Range.forIn_eq_forIn_range', Std.Legacy.Range.size, Nat.sub_zero, Nat.add_sub_cancel, Nat.div_one]
  rw [forIn_until w _ ⟨some false, ⟨⟩⟩ _ (fun i => M i == M' i)]
  · rw [hall]
    cases b <;> simp
  · intro i hi
    have hi' : i < 16 := by
      rw [List.mem_range'_1] at hi
      omega
    simp only [Nat.mul_one, Sem.run_bind, p1 i hi', p2 i hi', Result.andThen_ok, pe]
    cases (M i == M' i) <;> simp
theorem run_arrEql (M M' : Nat → Int) (b : Bool) (hb : (∀ j, j < 16 → M j = M' j) ↔ b = true) (u : World) : (arrEql (.agg (arrA M)) (.agg (arrA M'))).run Tryd.prog u = .ok (.bool b) u := by
  unfold arrEql
  rw [run_eql_struct, arr_eqIn M M' b hb]; rfl

end Go.Proofs.YtifkldllhbcmkaaDoor
