/- Bytes put behind a row of the call's own. -/
import Derived.Test.YtkjibnnoeceaeaaDoorOpReadMath
import Derived.Test.YtkjibnnoeceaeaaDoorOpBytes
import Derived.Test.YtkjibnnoeceaeaaDoorAppendRow
import Derived.Laws.AppendOwnNone
namespace Go.Proofs.YtkjibnnoeceaeaaDoor
open Go.RowKit

theorem BytesAt.up' {w u : World} {v : Value} {l : List Nat} (h : BytesAt w w.heap.size v l) (hb : Below w.heap.size w u) : BytesAt u u.heap.size v l := (h.keep fun k hk => hb.block k hk).more hb.size
theorem Src8.up {w u : World} {v : Value} {l : List Nat} (h : Src8 w v l) (hb : Below w.heap.size w u) : Src8 u v l := ⟨h.1.up' hb, h.2⟩
theorem readIs' {v : Value} {l : List Nat} {x : In} {b : Bool} (w : World) (h : BytesAt w w.heap.size v l) (hx : readR l = x) (hb : readB l = b) : Calls Tryd.prog 9 #[v] w fun e w' => e = .returned (.tuple #[.agg x.arr, .bool b]) ∧ Below w.heap.size w w' := by
  subst hx hb; exact read_any v l w h
theorem bytes_open2 {w : World} {v : Value} {l : List Nat} (h : BytesAt w w.heap.size v l) (hl : 0 < l.length) : ∃ b off cap, v = .slice (some ⟨b, off, none⟩) l.length cap ∧ l.length ≤ cap ∧ cap ≤ maxLen ∧ b < w.heap.size ∧ ∀ j, j < l.length → w.cell? ⟨b, off + j, none⟩ = some (.int .u8 ((gN l j : Nat) : Int)) := by
  obtain ⟨A, cap, rfl, hc, hm, _, hx⟩ := h
  obtain ⟨b, off, rfl, hb, hcell⟩ := hx hl
  exact ⟨b, off, cap, rfl, hc, hm, hb, hcell⟩
/-- Numbers as bytes. -/
def u8V (n : Nat) : Value := .int .u8 (n : Int)
theorem u8_one (l : List Nat) : ∀ u ∈ l.map u8V, u.oneCell' = true := by
  intro u hu
  obtain ⟨n, _, rfl⟩ := List.mem_map.1 hu
  rfl
theorem infoU8 : (Tryd.prog.info? 5).map (fun i => (i.zero, i.size, i.bytes)) = some (some (.int .u8 0), 1, 1) := by kernel_rfl
theorem bytes_of_own {w : World} {base n : Nat} {v : Value} {l : List Nat} (h : w.ownsRow base 5 1 v n (l.map u8V)) (hl : ∀ j, gN l j < 256) : BytesAt w w.heap.size v l := by
  have hlen : l.length = n := by have := h.1; simpa using this
  have hcopy := h
  rcases h.2 with ⟨rfl, h0⟩ | ⟨g, cap, cur, rfl, _, hg, hnc, hm, _, _⟩
  · exact ⟨none, 0, by rw [hlen, h0], by omega, Nat.zero_le _, hl, fun hp => absurd hp (by omega)⟩
  · refine ⟨some ⟨g, 0, none⟩, cap, by rw [hlen], by omega, hm, hl, fun _ => ⟨g, 0, rfl, (Array.getElem?_eq_some_iff.1 hg).1, fun j hj => ?_⟩⟩
    rw [Nat.zero_add, hcopy.cellAt j (by omega), List.getElem?_map, List.getElem?_eq_getElem hj, List.getD_eq_getElem?_getD, List.getElem?_eq_getElem hj]
    rfl
/-- The news of an append, out of bytes. -/
theorem news_of {w : World} {b off : Nat} {l : List Nat} {k : Nat} (hk : k ≤ l.length) (hcell : ∀ j, j < l.length → w.cell? ⟨b, off + j, none⟩ = some (.int .u8 ((gN l j : Nat) : Int))) : ∀ j u, ((l.take k).map u8V)[j]? = some u → w.cell? ((⟨b, off, none⟩ : Addr).add j) = some u := by
  intro j u hu
  rw [List.getElem?_map] at hu
  have hj : j < k := by
    by_cases h : j < k
    · exact h
    · rw [List.getElem?_eq_none (by simp; omega)] at hu; exact absurd hu (by simp)
  rw [List.getElem?_take_of_lt hj, List.getElem?_eq_getElem (by omega)] at hu
  have h := hcell j (by omega)
  unfold gN at h
  rw [List.getD_eq_getElem?_getD, List.getElem?_eq_getElem (by omega)] at h
  rw [← Option.some.inj hu]
  rw [Go.WideShapes.add_plain]
  exact h
theorem take_bytes {w : World} {b off cap : Nat} {l : List Nat} (k : Nat) (h : BytesAt w w.heap.size (.slice (some ⟨b, off, none⟩) l.length cap) l) (h1 : 1 ≤ l.length) (hk : k ≤ l.length) : BytesAt w w.heap.size (.slice (some ⟨b, off, none⟩) k cap) (l.take k) := by
  obtain ⟨A, cap', e, hc, hm, hb, hx⟩ := h
  injection e with e1 e2 e3
  subst e1 e3
  obtain ⟨b', off', e, hlt, hcell⟩ := hx (by omega)
  injection e with e
  injection e with e1 e2 _
  subst e1 e2
  have hlen : (l.take k).length = k := by simp; omega
  refine ⟨_, cap, by rw [hlen], by omega, hm, lt_take l hb k, fun hp => ⟨b, off, rfl, hlt, fun j hj => ?_⟩⟩
  rw [hlen] at hj
  rw [hcell j (by omega)]
  have := gN_take l k j hj
  unfold gN at this
  rw [this]
theorem news_all {w : World} {ad : Addr} {q cq : Nat} {m : List Nat} (h : BytesAt w w.heap.size (.slice (some ad) q cq) m) : ∀ j u, (m.map u8V)[j]? = some u → w.cell? (ad.add j) = some u := by
  obtain ⟨A, cap', e, hc, hm, hb, hx⟩ := h
  injection e with e1 e2 e3
  subst e1 e3
  intro j u hu
  by_cases hj : j < m.length
  · obtain ⟨b, off, e, hlt, hcell⟩ := hx (by omega)
    injection e with e
    subst e
    have := news_of (k := m.length) (Nat.le_refl _) hcell j u
    rw [List.take_length] at this
    exact this hu
  · rw [List.getElem?_eq_none (by simp; omega)] at hu
    exact absurd hu (by simp)
/-- 'append(xs, ys...)': xs a row of the call's own, ys whatever bytes. -/
theorem wpList_append_bytes {ops : Array Oper} {rest : List Oper} {o : Oper} {a : Act} {Q : Exit → Act → World → Prop} {wr : World} (base : Nat) (hgd : o.guard = none) (s x : Operand)
    (ho : o.op = .call { callee := .builtin .append, args := #[s, x], argTypes := #[22, 22] }) (v : Value) (n : Nat) (xs : List Nat) (hs : a.eval s = v) (hown : wr.ownsRow base 5 1 v n (xs.map u8V))
    (u : Value) (m : List Nat) (hx : a.eval x = u) (hu : Src8 wr u m) (hbytes : n + m.length ≤ 140737488355328) (hbase : base ≤ wr.heap.size)
    (h : ∀ v' w', w'.ownsRow base 5 1 v' (n + m.length) ((xs ++ m).map u8V) → Below base wr w' → wpList Tryd.prog ops Q rest (a.put o.dst v') w') : wpList Tryd.prog ops Q (o :: rest) a wr := by
  obtain ⟨hb, rfl | ⟨ad, cq, rfl⟩⟩ := hu
  · have hm : m = [] := by
      obtain ⟨A, cap, e, _⟩ := hb
      injection e with _ e _
      exact List.eq_nil_of_length_eq_zero e.symm
    subst hm
    obtain ⟨i0, hi, _, _, _⟩ := info_parts infoU8
    refine wpList_append_own_none hgd s x 22 ho base 5 i0 1 Tryd.underlying22 hi v n (xs.map u8V) hs hown hx (h v wr ?_ (Below.refl _ _))
    simpa using hown
  · refine wpList_append_row base 5 22 infoU8 Tryd.underlying22 rfl hgd s x ho v n _ hs hown ad m.length cq (m.map u8V) hx (by simp) (news_all hb) (u8_one m) (by decide) (by omega) hbase (fun v' w' h1 h2 => h v' w' ?_ h2)
    rw [List.map_append]
    exact h1

end Go.Proofs.YtkjibnnoeceaeaaDoor
