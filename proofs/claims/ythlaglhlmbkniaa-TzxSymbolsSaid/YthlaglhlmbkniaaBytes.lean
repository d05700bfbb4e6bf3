/- Bytes in memory: whatever slice of them, wherever it lies. -/
import Derived.Test.YthlaglhlmbkniaaCh
import Derived.Test.YthlaglhlmbkniaaAppendRow
import Derived.Laws.OwnMore
import Derived.Laws.AppendOwnNone
import Derived.Deep.AppendLies
import Derived.WideShapes
namespace Go.Proofs.Ythlaglhlmbkniaa
open Go.RowKit

theorem bnew (w : World) (o : Obj) : Below w.heap.size w (w.alloc o) := (Below.refl _ _).alloc (Nat.le_refl _) _
theorem bdrawn {B : Nat} {w u : World} (h : Below B w u) (n : Nat) : Below B w (u.drewN n) := h.trans ⟨rfl, rfl, rfl, Nat.le_refl _, fun _ _ => rfl⟩
theorem blk_lt {w : World} {a : Addr} {v : Value} (h : w.cell? a = some v) : a.block < w.heap.size := by
  unfold World.cell? at h
  split at h
  · rename_i hb; exact (Array.getElem?_eq_some_iff.1 hb).1
  · cases h

/-- Number j of a list, 0 beyond its end. -/
def gI (l : List Int) (j : Nat) : Int := l.getD j 0
theorem gI_some (l : List Int) (j : Nat) (h : j < l.length) : l[j]? = some (gI l j) := by
  unfold gI
  rw [List.getD_eq_getElem?_getD, List.getElem?_eq_getElem h]
  rfl
theorem gI_end (l : List Int) (j : Nat) (h : l.length ≤ j) : gI l j = 0 := by
  unfold gI
  rw [List.getD_eq_getElem?_getD, List.getElem?_eq_none h]
  rfl
theorem gI_take (l : List Int) (k j : Nat) (h : j < k) : gI (l.take k) j = gI l j := by
  unfold gI
  rw [List.getD_eq_getElem?_getD, List.getD_eq_getElem?_getD, List.getElem?_take_of_lt h]
theorem gI_drop (l : List Int) (k j : Nat) : gI (l.drop k) j = gI l (k + j) := by
  unfold gI
  rw [List.getD_eq_getElem?_getD, List.getD_eq_getElem?_getD, List.getElem?_drop]
theorem gI_nil (j : Nat) : gI [] j = 0 := gI_end [] j (Nat.zero_le j)
theorem take_gI (l : List Int) (k : Nat) (h : k < l.length) : l.take (k + 1) = l.take k ++ [gI l k] := by
  rw [List.take_add_one, gI_some l k h]
  rfl
/-- Numbers of a byte. -/
def Byte8 (l : List Int) : Prop := ∀ j, 0 ≤ gI l j ∧ gI l j ≤ 255
theorem Byte8.nil : Byte8 [] := fun j => by rw [gI_nil]; omega
theorem Byte8.take {l : List Int} (h : Byte8 l) (k : Nat) : Byte8 (l.take k) := fun j => by
  by_cases hj : j < k
  · rw [gI_take l k j hj]; exact h j
  · rw [gI_end _ j (by simp; omega)]; omega
theorem Byte8.drop {l : List Int} (h : Byte8 l) (k : Nat) : Byte8 (l.drop k) := fun j => by rw [gI_drop]; exact h _
theorem gI_app_left (a b : List Int) (j : Nat) (h : j < a.length) : gI (a ++ b) j = gI a j := by
  unfold gI
  rw [List.getD_eq_getElem?_getD, List.getD_eq_getElem?_getD, List.getElem?_append_left h]
theorem gI_app_right (a b : List Int) (j : Nat) (h : a.length ≤ j) : gI (a ++ b) j = gI b (j - a.length) := by
  unfold gI
  rw [List.getD_eq_getElem?_getD, List.getD_eq_getElem?_getD, List.getElem?_append_right h]
theorem Byte8.app {a b : List Int} (h : Byte8 a) (k : Byte8 b) : Byte8 (a ++ b) := fun j => by
  by_cases hj : j < a.length
  · rw [gI_app_left a b j hj]; exact h j
  · rw [gI_app_right a b j (by omega)]; exact k _

/-- The slice of A, n and cap has the bytes l, in a block that F allows. -/
structure BAt8 (F : Nat → Prop) (w : World) (A : Option Addr) (n cap : Nat) (l : List Int) : Prop where
  len : l.length = n
  fit : n ≤ cap
  max : cap ≤ maxLen
  nil : A = none → cap = 0
  bd : Byte8 l
  lies : 0 < n → ∃ b o, A = some ⟨b, o, none⟩ ∧ F b ∧ b < w.heap.size ∧ ∀ j, j < n → w.cell? ⟨b, o + j, none⟩ = some (.int .u8 (gI l j))
theorem BAt8.keep {F : Nat → Prop} {w w' : World} {A : Option Addr} {n cap : Nat} {l : List Int} (h : BAt8 F w A n cap l) (hs : w.heap.size ≤ w'.heap.size) (hb : ∀ k, k < w.heap.size → F k → w'.heap[k]? = w.heap[k]?) : BAt8 F w' A n cap l :=
  ⟨h.len, h.fit, h.max, h.nil, h.bd, fun hn => by
    obtain ⟨b, o, h1, h2, h3, h4⟩ := h.lies hn
    exact ⟨b, o, h1, h2, Nat.lt_of_lt_of_le h3 hs, fun j hj => (World.cell?_of_block (a := ⟨b, o + j, none⟩) (hb b h3 h2)).trans (h4 j hj)⟩⟩
theorem BAt8.below {F : Nat → Prop} {w w' : World} {A : Option Addr} {n cap : Nat} {l : List Int} (h : BAt8 F w A n cap l) (hb : Below w.heap.size w w') : BAt8 F w' A n cap l := h.keep hb.size fun k hk _ => hb.block k hk
theorem BAt8.ch {F G : Nat → Prop} {w w' : World} {A : Option Addr} {n cap : Nat} {l : List Int} (h : BAt8 F w A n cap l) (hb : Ch G w w') (hF : ∀ k, F k → ¬ G k) : BAt8 F w' A n cap l := h.keep hb.size fun k hk hf => hb.block k hk (hF k hf)
theorem BAt8.weak {F G : Nat → Prop} {w : World} {A : Option Addr} {n cap : Nat} {l : List Int} (h : BAt8 F w A n cap l) (hF : ∀ k, k < w.heap.size → F k → G k) : BAt8 G w A n cap l :=
  ⟨h.len, h.fit, h.max, h.nil, h.bd, fun hn => by
    obtain ⟨b, o, h1, h2, h3, h4⟩ := h.lies hn
    exact ⟨b, o, h1, hF b h3 h2, h3, h4⟩⟩
theorem BAt8.empty (F : Nat → Prop) (w : World) : BAt8 F w none 0 0 [] := ⟨rfl, Nat.le_refl _, Nat.zero_le _, fun _ => rfl, Byte8.nil, fun h => absurd h (by omega)⟩
theorem BAt8.cut {F : Nat → Prop} {w : World} {A : Option Addr} {n cap : Nat} {l : List Int} (h : BAt8 F w A n cap l) (lo hi : Nat) (h1 : lo ≤ hi) (h2 : hi ≤ n) :
    BAt8 F w (if cap = lo then A else A.map (·.add (lo * 1))) (hi - lo) (cap - lo) ((l.take hi).drop lo) := by
  have h3 := h.fit
  have h4 := h.max
  have h5 := h.len
  refine ⟨by simp only [List.length_drop, List.length_take]; omega, by omega, by omega, fun hn => ?_, (h.bd.take hi).drop lo, fun hp => ?_⟩
  · by_cases e : cap = lo
    · omega
    · rw [if_neg e] at hn
      have := h.nil (by cases A <;> simp_all)
      omega
  · obtain ⟨b, o, rfl, k1, k2, k3⟩ := h.lies (by omega)
    rw [if_neg (by omega)]
    refine ⟨b, o + lo, by simp [Go.WideShapes.add_plain], k1, k2, fun j hj => ?_⟩
    rw [gI_drop, gI_take _ _ _ (by omega), Nat.add_assoc]
    exact k3 (lo + j) (by omega)
/-- Bytes in a block that was just made. -/
theorem byte8_of (l : List Int) (h : ∀ x ∈ l, 0 ≤ x ∧ x ≤ 255) : Byte8 l := fun j => by
  by_cases hj : j < l.length
  · have := gI_some l j hj
    exact h _ (List.mem_of_getElem? this)
  · rw [gI_end l j (by omega)]; omega
theorem BAt8.new (w : World) (l : List Int) (ty : TypeId) (fr : Nat × Nat) (cs : Array Value) (n : Nat) (hc : cs = (l.map fun x => Value.int .u8 x).toArray) (hn : l.length = n) (hm : n ≤ maxLen) (hb : ∀ x ∈ l, 0 ≤ x ∧ x ≤ 255) :
    BAt8 (fun _ => True) (w.alloc (.cells cs ty fr)) (some ⟨w.heap.size, 0, none⟩) n n l :=
  ⟨hn, Nat.le_refl _, hm, fun h => (by cases h), byte8_of l hb, fun _ => ⟨_, 0, rfl, trivial, by simp, fun j hj => by
    have := gI_some l j (by omega)
    rw [Nat.zero_add, cell_of_row _ w.heap.size j _ _ fr (heap_alloc_new w _), hc]
    simp [this]⟩⟩
/-- A row of the call's own, as bytes. -/
def u8I (x : Int) : Value := .int .u8 x
theorem u8I_one (l : List Int) : ∀ u ∈ l.map u8I, u.oneCell' = true := by
  intro u hu
  obtain ⟨n, _, rfl⟩ := List.mem_map.1 hu
  rfl
theorem u8I_at (l : List Int) (j : Nat) (h : j < l.length) : (l.map u8I)[j]? = some (.int .u8 (gI l j)) := by
  rw [List.getElem?_map, gI_some l j h]
  rfl
theorem bytes_own {w : World} {base n : Nat} {e : TypeId} {A : Option Addr} {m cap : Nat} {l : List Int} (h : w.ownsRow base e 1 (.slice A m cap) n (l.map u8I)) (hl : Byte8 l) : BAt8 (fun k => base ≤ k) w A n cap l := by
  have hlen : l.length = n := by have := h.1; simpa using this
  have hcopy := h
  rcases h.2 with ⟨e1, h0⟩ | ⟨g, cap', cur, e1, hb, hg, hnc, hm, _, _⟩
  · injection e1 with e1 e2 e3
    subst e1 e2 e3
    exact ⟨hlen, by omega, Nat.zero_le _, fun _ => rfl, hl, fun h => absurd h (by omega)⟩
  · injection e1 with e1 e2 e3
    subst e1 e2 e3
    refine ⟨hlen, by omega, hm, fun h => (by cases h), hl, fun _ => ⟨g, 0, rfl, hb, (Array.getElem?_eq_some_iff.1 hg).1, fun j hj => ?_⟩⟩
    rw [Nat.zero_add, hcopy.cellAt j (by omega), u8I_at _ _ (by omega)]
theorem own_slice {w : World} {base n : Nat} {e : TypeId} {size : Nat} {v : Value} {xs : List Value} (h : w.ownsRow base e size v n xs) : ∃ A cap, v = .slice A n cap ∧ n ≤ cap ∧ cap ≤ maxLen := by
  rcases h.2 with ⟨rfl, h0⟩ | ⟨g, cap, cur, rfl, _, _, hnc, hm, _, _⟩
  · refine ⟨none, 0, ?_, ?_, Nat.zero_le _⟩
    · rw [h0]
    · omega
  · exact ⟨_, cap, rfl, hnc, hm⟩
theorem news_u8 {F : Nat → Prop} {w : World} {a : Addr} {n cap : Nat} {l : List Int} (h : BAt8 F w (some a) n cap l) : ∀ j u, (l.map u8I)[j]? = some u → w.cell? (a.add j) = some u := by
  intro j u hu
  have hj : j < l.length := by have := (List.getElem?_eq_some_iff.1 hu).1; simpa using this
  have hl := h.len
  obtain ⟨b, o, e, _, _, hc⟩ := h.lies (by omega)
  injection e with e
  subst e
  rw [u8I_at l j hj] at hu
  rw [Go.WideShapes.add_plain, hc j (by omega)]
  exact hu
/-- 'append(xs, ys...)': xs a row of the call's own, ys whatever bytes. -/
theorem wpList_append_u8 {P : Program} {ops : Array Oper} {rest : List Oper} {o : Oper} {a : Act} {Q : Exit → Act → World → Prop} {wr : World} (base : Nat) (e t : TypeId)
    (hinfo : (P.info? e).map (fun i => (i.zero, i.size, i.bytes)) = some (some (.int .u8 0), 1, 1)) (ht : P.underlying t = some (.slice e))
    (hgd : o.guard = none) (s x : Operand) (ho : o.op = .call { callee := .builtin .append, args := #[s, x], argTypes := #[t, t] })
    (v : Value) (n : Nat) (xs : List Int) (hs : a.eval s = v) (hown : wr.ownsRow base e 1 v n (xs.map u8I))
    {F : Nat → Prop} {A : Option Addr} {m cap : Nat} {ys : List Int} (hx : a.eval x = .slice A m cap) (hy : BAt8 F wr A m cap ys) (hbytes : n + m ≤ 140737488355328) (hbase : base ≤ wr.heap.size)
    (h : ∀ v' w', w'.ownsRow base e 1 v' (n + m) ((xs ++ ys).map u8I) → Below base wr w' → wpList P ops Q rest (a.put o.dst v') w') : wpList P ops Q (o :: rest) a wr := by
  have hl := hy.len
  have hz := hy.nil
  have hf := hy.fit
  rcases A with _ | ad
  · have hc := hz rfl
    have hm : m = 0 := by omega
    obtain rfl : ys = [] := List.eq_nil_of_length_eq_zero (by omega)
    subst hm hc
    obtain ⟨i0, hi, _, _, _⟩ := info_parts hinfo
    refine wpList_append_own_none hgd s x t ho base e i0 1 ht hi v n _ hs hown hx (h v wr ?_ (Below.refl _ _))
    simpa using hown
  · refine wpList_append_row base e t hinfo ht rfl hgd s x ho v n _ hs hown ad m cap (ys.map u8I) hx (by simp [hl]) (news_u8 hy) (u8I_one ys) (by decide) (by omega) hbase (fun v' w' h1 h2 => h v' w' ?_ h2)
    rw [List.map_append]
    exact h1

end Go.Proofs.Ythlaglhlmbkniaa
