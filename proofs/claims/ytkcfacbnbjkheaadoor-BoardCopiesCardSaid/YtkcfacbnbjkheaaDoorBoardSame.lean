/- Rows and memories that are the same: their contracts. -/
import Derived.Test.YtkcfacbnbjkheaaDoorBoardPair
import Derived.Laws.StructEq
namespace Go.Proofs.YtkcfacbnbjkheaaDoor
open Go.RowKit
set_option maxRecDepth 100000
set_option linter.unusedVariables false

theorem forIn_same {P : Program} {β : Type} (w : World) (b : β) (f : Nat → β → Sem (ForInStep β)) : ∀ is : List Nat, (∀ i ∈ is, (f i b).run P w = .ok (.yield b) w) → (forIn is b f).run P w = .ok b w
  | [], _ => by simp
  | i :: is, h => by
    rw [List.forIn_cons]
    simp only [Sem.run_bind, h i (by simp), Result.andThen_ok]
    exact forIn_same w b f is (fun j hj => h j (by simp [hj]))
/-- A memory as a value. -/
def memA (M : Nat → Int) : Array Value := ((List.range 65536).map fun j => Value.int .u8 (M j)).toArray
theorem memA_at (M : Nat → Int) (j : Nat) (h : j < 65536) : (memA M)[j]? = some (.int .u8 (M j)) := by
  unfold memA
  rw [List.getElem?_toArray, List.getElem?_map, List.getElem?_range h]; rfl
theorem memA_len (M : Nat → Int) : (memA M).toList.length = 65536 := by simp [memA]
theorem mem_eq (M : Nat → Int) (w : World) : (Op.equalIn 10000 31 (.agg (memA M)) (.agg (memA M))).run Tryd.prog w = .ok true w := by
  have ht : Tryd.prog.underlying 31 = some (.array 65536 5) := Tryd.underlying31
  have he : Tryd.prog.underlying 5 = some (.int .u8) := Tryd.underlying5
  have hsz : ∀ w, (sizeOf 5).run Tryd.prog w = .ok 1 w := fun _ => by kernel_rfl
  have pp : ∀ j, j < 65536 → ∀ w, (part 5 (memA M) j).run Tryd.prog w = .ok (.int .u8 (M j)) w := fun j hj w => by simp [part, isAgg, run_underlying he, memA_at M j hj]
  have pe : ∀ (x : Int) w, (Op.equalIn 9999 5 (.int .u8 x) (.int .u8 x)).run Tryd.prog w = .ok true w := fun x w => by
    have := run_equalIn_int w 9998 5 .u8 .u8 x x he
    simpa using this
  generalize memA M = A at *
  rw [Op.equalIn]
  simp only [Sem.run_bind, run_underlying ht, Result.andThen_ok, hsz, Std.Legacy.Range.forIn_eq_forIn_range', Std.Legacy.Range.size, Nat.sub_zero, Nat.add_sub_cancel, Nat.div_one]
  rw [forIn_same]
  · simp
  · intro i hi
    have hi' : i < 65536 := by
      rw [List.mem_range'_1] at hi
      omega
    simp only [Nat.mul_one, Sem.run_bind, pp i hi', Result.andThen_ok, pe]
    simp
def memNeq (x y : Value) : Sem Value := binOp .neq 31 x y
theorem memNeq_as (x y : Value) : binOp .neq 31 x y = memNeq x y := rfl
theorem run_memNeq (M : Nat → Int) (u : World) : (memNeq (.agg (memA M)) (.agg (memA M))).run Tryd.prog u = .ok (.bool false) u := by
  unfold memNeq
  rw [run_neq_struct, mem_eq]; rfl
def memLoad (v : Value) : Sem Value := Instr.loadAt 31 v
theorem memLoad_as (v : Value) : Instr.loadAt 31 v = memLoad v := rfl
theorem run_memLoad (M : Nat → Int) (b o : Nat) (u : World) (h : ∀ j, j < 65536 → u.cell? ⟨b, o + j, none⟩ = some (.int .u8 (M j))) : (memLoad (.pointer (some ⟨b, o, none⟩))).run Tryd.prog u = .ok (.agg (memA M)) u := by
  have := run_loadAt_mid (P := Tryd.prog) u b o 31 (memA M).toList _ (fun j v hj => by
    have hj6 : j < 65536 := by
      have := (List.getElem?_eq_some_iff.1 hj).1
      simpa [memA] using this
    have e : (memA M).toList[j]? = some (.int .u8 (M j)) := by rw [Array.getElem?_toList]; exact memA_at M j hj6
    rw [e] at hj
    rw [h j hj6, hj]) Tryd.underlying31 rfl (by rw [memA_len]; kernel_rfl)
  rw [Array.toArray_toList] at this
  exact this

theorem flatA_at : ∀ (l : List Ac) (k : Nat) (a : Ac), l[k]? = some a → (flatA l)[k * 4]? = some (.int .u64 a.t) ∧ (flatA l)[k * 4 + 1]? = some (.bool a.out) ∧ (flatA l)[k * 4 + 2]? = some (.int .u16 a.port) ∧ (flatA l)[k * 4 + 3]? = some (.int .u8 a.v)
  | [], k, a, h => by simp at h
  | s :: l, 0, a, h => by
    simp only [List.getElem?_cons_zero, Option.some.injEq] at h
    subst h
    exact ⟨rfl, rfl, rfl, rfl⟩
  | s :: l, k + 1, a, h => by
    simp only [List.getElem?_cons_succ] at h
    have := flatA_at l k a h
    rw [show (k + 1) * 4 = k * 4 + 4 by omega]
    exact this
set_option maxHeartbeats 3200000 in
theorem sameActs_any (B1 B2 : Nat) (v1 v2 : Value) (l : List Ac) (w : World) (h1 : w.ownsRow B1 84 4 v1 l.length (flatA l)) (h2 : w.ownsRow B2 84 4 v2 l.length (flatA l)) (hl : l.length ≤ 100000) :
    Calls Tryd.prog 41 #[v1, v2] w fun e w' => e = .returned (.bool true) ∧ Below w.heap.size w w' := by
  obtain ⟨a1, c1, rfl, k1, m1⟩ := len_own h1
  obtain ⟨a2, c2, rfl, k2, m2⟩ := len_own h2
  have hform : ∀ {g c : Nat} {a1 : Option Addr} {c1 n : Nat}, Value.slice a1 n c1 = .slice (some ⟨g, 0, none⟩) n c → a1 = some ⟨g, 0, none⟩ ∧ c1 = c := fun e => by injection e with e1 _ e3; exact ⟨e1, e3⟩
  have HA : Hid (∀ k, k < l.length → ∃ (g1 g2 : Nat) (a : Ac), a1 = some ⟨g1, 0, none⟩ ∧ a2 = some ⟨g2, 0, none⟩ ∧
      w.cell? ⟨g1, k * 4, none⟩ = some (.int .u64 a.t) ∧ w.cell? ⟨g1, k * 4 + 1, none⟩ = some (.bool a.out) ∧ w.cell? ⟨g1, k * 4 + 2, none⟩ = some (.int .u16 a.port) ∧ w.cell? ⟨g1, k * 4 + 3, none⟩ = some (.int .u8 a.v) ∧
      w.cell? ⟨g2, k * 4, none⟩ = some (.int .u64 a.t) ∧ w.cell? ⟨g2, k * 4 + 1, none⟩ = some (.bool a.out) ∧ w.cell? ⟨g2, k * 4 + 2, none⟩ = some (.int .u16 a.port) ∧ w.cell? ⟨g2, k * 4 + 3, none⟩ = some (.int .u8 a.v)) := Lib.hid (fun k hk => by
    obtain ⟨g1, c3, e1, _, _⟩ := h1.form (by omega)
    obtain ⟨g2, c4, e2, _, _⟩ := h2.form (by omega)
    obtain ⟨e1, e3⟩ := hform e1
    obtain ⟨e2, e4⟩ := hform e2
    subst e1 e2 e3 e4
    obtain ⟨f0, f1, f2, f3⟩ := flatA_at l k l[k] (List.getElem?_eq_getElem hk)
    exact ⟨g1, g2, l[k], rfl, rfl, by rw [h1.cellAt _ (by omega), f0], by rw [h1.cellAt _ (by omega), f1], by rw [h1.cellAt _ (by omega), f2], by rw [h1.cellAt _ (by omega), f3],
          by rw [h2.cellAt _ (by omega), f0], by rw [h2.cellAt _ (by omega), f1], by rw [h2.cellAt _ (by omega), f2], by rw [h2.cellAt _ (by omega), f3]⟩)
  clear hform
  generalize l.length = n at *
  unfold maxLen at m1 m2
  clear h1 h2
  go_enter Tryd.func41, Tryd.ntmps41
  go_wp2_with fail
  go_loopw [5] (fun i wr => ∃ k m : Nat, i = .int .i64 k ∧ k ≤ n ∧ wr = w.drewN m) (fun i _ => (n - intOf i).toNat)
  case atStart => exact ⟨0, 0, rfl, by omega, rfl⟩
  case round =>
    obtain ⟨k, m, rfl, hk, rfl⟩ := hrel
    by_cases hlt : k < n
    · have l1 : decide ((k : Int) < (n : Int)) = true := decide_eq_true (by omega)
      have i0 : (0 : Int) ≤ (k : Int) := by omega
      have i1 : (k : Int) < (n : Int) := by omega
      obtain ⟨g1, g2, a, rfl, rfl, p0, p1, p2, p3, q0, q1, q2, q3⟩ := HA.out k hlt
      clear HA
      go_wp2_with fail
      go_quiet (fail)
      go_wp2_with fail
      go_roundw
      case rel => exact ⟨k + 1, _, by go_num, by omega, rfl⟩
      case measure => simp [intOf]; omega
    · have l1 : decide ((k : Int) < (n : Int)) = false := decide_eq_false (by omega)
      go_wp2_with fail
      go_ret
      exact ⟨rfl, below_drawn (Below.refl _ _) _⟩
set_option maxHeartbeats 3200000 in
theorem sameTimes_any (B1 B2 : Nat) (v1 v2 : Value) (l : List Int) (w : World) (h1 : w.ownsRow B1 35 1 v1 l.length (l.map u64V)) (h2 : w.ownsRow B2 35 1 v2 l.length (l.map u64V)) (hl : l.length ≤ 100000) :
    Calls Tryd.prog 42 #[v1, v2] w fun e w' => e = .returned (.bool true) ∧ Below w.heap.size w w' := by
  obtain ⟨a1, c1, rfl, k1, m1⟩ := len_own h1
  obtain ⟨a2, c2, rfl, k2, m2⟩ := len_own h2
  have hform : ∀ {g c : Nat} {a1 : Option Addr} {c1 n : Nat}, Value.slice a1 n c1 = .slice (some ⟨g, 0, none⟩) n c → a1 = some ⟨g, 0, none⟩ ∧ c1 = c := fun e => by injection e with e1 _ e3; exact ⟨e1, e3⟩
  have HA : Hid (∀ k, k < l.length → ∃ (g1 g2 : Nat) (a : Int), a1 = some ⟨g1, 0, none⟩ ∧ a2 = some ⟨g2, 0, none⟩ ∧ w.cell? ⟨g1, k, none⟩ = some (.int .u64 a) ∧ w.cell? ⟨g2, k, none⟩ = some (.int .u64 a)) := Lib.hid (fun k hk => by
    obtain ⟨g1, c3, e1, _, _⟩ := h1.form (by omega)
    obtain ⟨g2, c4, e2, _, _⟩ := h2.form (by omega)
    obtain ⟨e1, e3⟩ := hform e1
    obtain ⟨e2, e4⟩ := hform e2
    subst e1 e2 e3 e4
    have f0 : (l.map u64V)[k]? = some (.int .u64 l[k]) := by rw [List.getElem?_map, List.getElem?_eq_getElem hk]; rfl
    exact ⟨g1, g2, l[k], rfl, rfl, by rw [h1.cellAt _ (by omega), f0], by rw [h2.cellAt _ (by omega), f0]⟩)
  clear hform
  generalize l.length = n at *
  unfold maxLen at m1 m2
  clear h1 h2
  go_enter Tryd.func42, Tryd.ntmps42
  go_wp2_with fail
  go_loopw [5] (fun i wr => ∃ k m : Nat, i = .int .i64 k ∧ k ≤ n ∧ wr = w.drewN m) (fun i _ => (n - intOf i).toNat)
  case atStart => exact ⟨0, 0, rfl, by omega, rfl⟩
  case round =>
    obtain ⟨k, m, rfl, hk, rfl⟩ := hrel
    by_cases hlt : k < n
    · have l1 : decide ((k : Int) < (n : Int)) = true := decide_eq_true (by omega)
      have i0 : (0 : Int) ≤ (k : Int) := by omega
      have i1 : (k : Int) < (n : Int) := by omega
      obtain ⟨g1, g2, a, rfl, rfl, p0, q0⟩ := HA.out k hlt
      clear HA
      go_wp2_with fail
      go_quiet (fail)
      go_wp2_with fail
      go_roundw
      case rel => exact ⟨k + 1, _, by go_num, by omega, rfl⟩
      case measure => simp [intOf]; omega
    · have l1 : decide ((k : Int) < (n : Int)) = false := decide_eq_false (by omega)
      go_wp2_with fail
      go_ret
      exact ⟨rfl, below_drawn (Below.refl _ _) _⟩

end Go.Proofs.YtkcfacbnbjkheaaDoor
