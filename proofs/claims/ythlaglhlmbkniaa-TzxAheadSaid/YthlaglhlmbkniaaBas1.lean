/- Texts put together: Kit, Ch, AppendRow, Bytes, WireMath, TzxMath, BytesCut, Clone, BytesOpen, BigCells, Ints, WireAt, WireNext, WireTake, WireNumber, WireNumbers, TzxRd, TzxSnd, TzxRun, OwnKept. -/
import Derived.WalkKit
import Derived.WalkSpells
import Derived.OpenShut
import Derived.Deep.QuietTactic
import Derived.Deep.RegionHeld3
import Derived.Deep.AppendLies
import Derived.Laws.OwnMore
import Derived.Laws.AppendOwnNone
import Derived.WideShapes
import Derived.Laws.BitsLemmas
import Derived.Test.YthlaglhlmbkniaaProg
import Derived.BigQuiet
import Derived.RegionTactic
import Derived.ChangeAlike
import Derived.LoopTactic
import Derived.Lib.BufferMore
import Derived.Lib.Hide
import Derived.ChangeSlices
import Derived.Deep.Slices
import Derived.Laws.CopyRow
import Derived.Deep.MidRow
import Derived.Laws.MakeOwn
import Derived.LoopN
import Derived.Maps.Range
/- Small general facts on worlds, rows that a call made and numbers of a byte: no program is named here. -/
namespace Go.Proofs.Ythlaglhlmbkniaa
open Go.RowKit

/-- The slice v has the values xs, in a block of its own. -/
def RowAt (w : World) (v : Value) (xs : List Value) : Prop :=
  ∃ g cap, v = .slice (some ⟨g, 0, none⟩) xs.length cap ∧ g < w.heap.size ∧ xs.length ≤ cap ∧ cap ≤ maxLen ∧ ∀ i (h : i < xs.length), w.cell? ⟨g, i, none⟩ = some xs[i]

theorem RowAt.later {w w' : World} {v : Value} {xs : List Value} (h : RowAt w v xs) (hb : Below w.heap.size w w') : RowAt w' v xs := by
  obtain ⟨g, cap, hv, hg, hc, hm, hcell⟩ := h
  refine ⟨g, cap, hv, Nat.lt_of_lt_of_le hg hb.size, hc, hm, fun i hi => ?_⟩
  rw [hb.cell (p := ⟨g, i, none⟩) hg]; exact hcell i hi

/-- How the walk asks whether two texts are one. -/
theorem str_ne {a b : ByteArray} (h : ¬ a = b) : (a.toList == b.toList) = false := by
  rw [beq_eq_false_iff_ne, ByteArray.toList_eq, ByteArray.toList_eq]
  intro e
  exact h (ByteArray.ext (Array.toList_inj.1 e))
theorem str_eq {a b : ByteArray} (h : a = b) : (a.toList == b.toList) = true := by subst h; exact beq_self_eq_true _

end Go.Proofs.Ythlaglhlmbkniaa
/- What a call may have changed. No program is named here. -/
namespace Go.Proofs.Ythlaglhlmbkniaa
open Go.RowKit

/-- Other worlds: all blocks but those of F are as they were. -/
structure Ch (F : Nat → Prop) (w w' : World) : Prop where
  os : w'.os = w.os
  tape : w'.tape = w.tape
  output : w'.output = w.output
  size : w.heap.size ≤ w'.heap.size
  block : ∀ k, k < w.heap.size → ¬ F k → w'.heap[k]? = w.heap[k]?
theorem Ch.of_below {F : Nat → Prop} {w w' : World} (h : Below w.heap.size w w') : Ch F w w' := ⟨h.os, h.tape, h.output, h.size, fun k hk _ => h.block k hk⟩
theorem Ch.refl (F : Nat → Prop) (w : World) : Ch F w w := Ch.of_below (Below.refl _ _)
theorem Ch.trans {F G : Nat → Prop} {a b c : World} (h : Ch F a b) (k : Ch G b c) (hG : ∀ i, G i → F i ∨ a.heap.size ≤ i) : Ch F a c :=
  ⟨k.os.trans h.os, k.tape.trans h.tape, k.output.trans h.output, Nat.le_trans h.size k.size, fun i hi hF => (k.block i (Nat.lt_of_lt_of_le hi h.size) (fun hg => by
    rcases hG i hg with x | x
    · exact hF x
    · omega)).trans (h.block i hi hF)⟩
theorem Ch.below {F : Nat → Prop} {w w' : World} {B : Nat} (h : Ch F w w') (hF : ∀ k, F k → B ≤ k) (hB : B ≤ w.heap.size) : Below B w w' :=
  ⟨h.os, h.tape, h.output, h.size, fun k hk => h.block k (by omega) (fun x => by have := hF k x; omega)⟩
theorem Ch.set {F : Nat → Prop} (w : World) (b j : Nat) (v : Value) (h : F b) : Ch F w (w.setCell ⟨b, j, none⟩ v) :=
  ⟨rfl, rfl, rfl, by simp [World.setCell], fun k _ hk => Below.heap_setCell _ _ _ _ (fun e => by subst e; exact hk h)⟩
theorem Ch.drew {F : Nat → Prop} {w w' : World} (h : Ch F w w') (n : Nat) : Ch F w (w'.drewN n) := ⟨h.os, h.tape, h.output, h.size, h.block⟩

theorem Ch.weak {F G : Nat → Prop} {w w' : World} (h : Ch F w w') (hG : ∀ i, F i → G i) : Ch G w w' := ⟨h.os, h.tape, h.output, h.size, fun k hk hF => h.block k hk fun x => hF (hG k x)⟩
theorem Ch.then {F : Nat → Prop} {a b c : World} (h : Ch F a b) (k : Ch F b c) : Ch F a c := h.trans k fun _ => Or.inl
theorem Ch.less {F : Nat → Prop} {a b c : World} (h : Ch F a b) (k : Below a.heap.size b c) : Ch F a c :=
  ⟨k.os.trans h.os, k.tape.trans h.tape, k.output.trans h.output, Nat.le_trans h.size k.size, fun i hi hF => (k.block i hi).trans (h.block i hi hF)⟩

end Go.Proofs.Ythlaglhlmbkniaa
/- Rows put behind rows that a call made: no program is named here. -/
namespace Go.Proofs.Ythlaglhlmbkniaa
open Go.RowKit

/-- A row put behind a row of the call's own: 'xs = append(xs, ys...)'. -/
theorem wpList_append_row {P : Program} {ops : Array Oper} {rest : List Oper} {o : Oper} {a : Act} {Q : Exit → Act → World → Prop} {wr : World} (base : Nat) (e t : TypeId) {z : Value} {bytes : Nat}
    (hinfo : (P.info? e).map (fun i => (i.zero, i.size, i.bytes)) = some (some z, 1, bytes)) (ht : P.underlying t = some (.slice e)) (hz : z.cells.size = 1)
    (hgd : o.guard = none) (s x : Operand) (ho : o.op = .call { callee := .builtin .append, args := #[s, x], argTypes := #[t, t] })
    (v : Value) (n : Nat) (xs : List Value) (hs : a.eval s = v) (hown : wr.ownsRow base e 1 v n xs)
    (ad : Addr) (m c : Nat) (news : List Value) (hx : a.eval x = .slice (some ad) m c) (hl : news.length = m) (hnews : ∀ j u, news[j]? = some u → wr.cell? (ad.add j) = some u) (h1 : ∀ u ∈ news, u.oneCell' = true)
    (hb1 : 1 ≤ bytes) (hbytes : (n + m) * bytes ≤ 140737488355328) (hbase : base ≤ wr.heap.size)
    (h : ∀ v' w', w'.ownsRow base e 1 v' (n + m) (xs ++ news) → Below base wr w' → wpList P ops Q rest (a.put o.dst v') w') : wpList P ops Q (o :: rest) a wr := by
  obtain ⟨i0, hi, hz0, hz1, hz2⟩ := info_parts hinfo
  have hn : n + m ≤ maxLen := by
    have : (n + m) * 1 ≤ (n + m) * bytes := Nat.mul_le_mul_left _ hb1
    unfold maxLen; omega
  refine wpList_append_own _ hgd s x t ho base e i0 z 1 bytes ht hi hz0 hz1 hz2 hz (by decide) v n xs hs hown ad m c news hx (by omega) hnews h1 hn hbytes hbase ?_
  intro v' w' h2 h3 _
  exact h v' w' h2 ((Below.refl _ _).grown h3 hbase (fun k hk => (hown.lt k hk).1))

end Go.Proofs.Ythlaglhlmbkniaa
/- Bytes in memory: whatever slice of them, wherever it lies. -/
namespace Go.Proofs.Ythlaglhlmbkniaa
open Go.RowKit

theorem bnew (w : World) (o : Obj) : Below w.heap.size w (w.alloc o) := (Below.refl _ _).alloc (Nat.le_refl _) _
theorem bdrawn {B : Nat} {w u : World} (h : Below B w u) (n : Nat) : Below B w (u.drewN n) := h.trans ⟨rfl, rfl, rfl, Nat.le_refl _, fun _ _ => rfl⟩
theorem blk_lt {w : World} {a : Addr} {v : Value} (h : w.cell? a = some v) : a.block < w.heap.size := by
  unfold World.cell? at h
  split at h
  · rename_i hb; exact (Array.getElem?_eq_some_iff.1 hb).1
  · cases h

/-- Number j of a list, 0 beyond its end. -/
def gI (l : List Int) (j : Nat) : Int := l.getD j 0
theorem gI_some (l : List Int) (j : Nat) (h : j < l.length) : l[j]? = some (gI l j) := by
  unfold gI
  rw [List.getD_eq_getElem?_getD, List.getElem?_eq_getElem h]
  rfl
theorem gI_end (l : List Int) (j : Nat) (h : l.length ≤ j) : gI l j = 0 := by
  unfold gI
  rw [List.getD_eq_getElem?_getD, List.getElem?_eq_none h]
  rfl
theorem gI_take (l : List Int) (k j : Nat) (h : j < k) : gI (l.take k) j = gI l j := by
  unfold gI
  rw [List.getD_eq_getElem?_getD, List.getD_eq_getElem?_getD, List.getElem?_take_of_lt h]
theorem gI_drop (l : List Int) (k j : Nat) : gI (l.drop k) j = gI l (k + j) := by
  unfold gI
  rw [List.getD_eq_getElem?_getD, List.getD_eq_getElem?_getD, List.getElem?_drop]
theorem gI_nil (j : Nat) : gI [] j = 0 := gI_end [] j (Nat.zero_le j)
theorem take_gI (l : List Int) (k : Nat) (h : k < l.length) : l.take (k + 1) = l.take k ++ [gI l k] := by
  rw [List.take_add_one, gI_some l k h]
  rfl
/-- Numbers of a byte. -/
def Byte8 (l : List Int) : Prop := ∀ j, 0 ≤ gI l j ∧ gI l j ≤ 255
theorem Byte8.nil : Byte8 [] := fun j => by rw [gI_nil]; omega
theorem Byte8.take {l : List Int} (h : Byte8 l) (k : Nat) : Byte8 (l.take k) := fun j => by
  by_cases hj : j < k
  · rw [gI_take l k j hj]; exact h j
  · rw [gI_end _ j (by simp; omega)]; omega
theorem Byte8.drop {l : List Int} (h : Byte8 l) (k : Nat) : Byte8 (l.drop k) := fun j => by rw [gI_drop]; exact h _
theorem gI_app_left (a b : List Int) (j : Nat) (h : j < a.length) : gI (a ++ b) j = gI a j := by
  unfold gI
  rw [List.getD_eq_getElem?_getD, List.getD_eq_getElem?_getD, List.getElem?_append_left h]
theorem gI_app_right (a b : List Int) (j : Nat) (h : a.length ≤ j) : gI (a ++ b) j = gI b (j - a.length) := by
  unfold gI
  rw [List.getD_eq_getElem?_getD, List.getD_eq_getElem?_getD, List.getElem?_append_right h]
theorem Byte8.app {a b : List Int} (h : Byte8 a) (k : Byte8 b) : Byte8 (a ++ b) := fun j => by
  by_cases hj : j < a.length
  · rw [gI_app_left a b j hj]; exact h j
  · rw [gI_app_right a b j (by omega)]; exact k _

/-- The slice of A, n and cap has the bytes l, in a block that F allows. -/
structure BAt8 (F : Nat → Prop) (w : World) (A : Option Addr) (n cap : Nat) (l : List Int) : Prop where
  len : l.length = n
  fit : n ≤ cap
  max : cap ≤ maxLen
  nil : A = none → cap = 0
  bd : Byte8 l
  lies : 0 < n → ∃ b o, A = some ⟨b, o, none⟩ ∧ F b ∧ b < w.heap.size ∧ ∀ j, j < n → w.cell? ⟨b, o + j, none⟩ = some (.int .u8 (gI l j))
theorem BAt8.keep {F : Nat → Prop} {w w' : World} {A : Option Addr} {n cap : Nat} {l : List Int} (h : BAt8 F w A n cap l) (hs : w.heap.size ≤ w'.heap.size) (hb : ∀ k, k < w.heap.size → F k → w'.heap[k]? = w.heap[k]?) : BAt8 F w' A n cap l :=
  ⟨h.len, h.fit, h.max, h.nil, h.bd, fun hn => by
    obtain ⟨b, o, h1, h2, h3, h4⟩ := h.lies hn
    exact ⟨b, o, h1, h2, Nat.lt_of_lt_of_le h3 hs, fun j hj => (World.cell?_of_block (a := ⟨b, o + j, none⟩) (hb b h3 h2)).trans (h4 j hj)⟩⟩
theorem BAt8.below {F : Nat → Prop} {w w' : World} {A : Option Addr} {n cap : Nat} {l : List Int} (h : BAt8 F w A n cap l) (hb : Below w.heap.size w w') : BAt8 F w' A n cap l := h.keep hb.size fun k hk _ => hb.block k hk
theorem BAt8.ch {F G : Nat → Prop} {w w' : World} {A : Option Addr} {n cap : Nat} {l : List Int} (h : BAt8 F w A n cap l) (hb : Ch G w w') (hF : ∀ k, F k → ¬ G k) : BAt8 F w' A n cap l := h.keep hb.size fun k hk hf => hb.block k hk (hF k hf)
theorem BAt8.weak {F G : Nat → Prop} {w : World} {A : Option Addr} {n cap : Nat} {l : List Int} (h : BAt8 F w A n cap l) (hF : ∀ k, k < w.heap.size → F k → G k) : BAt8 G w A n cap l :=
  ⟨h.len, h.fit, h.max, h.nil, h.bd, fun hn => by
    obtain ⟨b, o, h1, h2, h3, h4⟩ := h.lies hn
    exact ⟨b, o, h1, hF b h3 h2, h3, h4⟩⟩
theorem BAt8.empty (F : Nat → Prop) (w : World) : BAt8 F w none 0 0 [] := ⟨rfl, Nat.le_refl _, Nat.zero_le _, fun _ => rfl, Byte8.nil, fun h => absurd h (by omega)⟩
theorem BAt8.cut {F : Nat → Prop} {w : World} {A : Option Addr} {n cap : Nat} {l : List Int} (h : BAt8 F w A n cap l) (lo hi : Nat) (h1 : lo ≤ hi) (h2 : hi ≤ n) :
    BAt8 F w (if cap = lo then A else A.map (·.add (lo * 1))) (hi - lo) (cap - lo) ((l.take hi).drop lo) := by
  have h3 := h.fit
  have h4 := h.max
  have h5 := h.len
  refine ⟨by simp only [List.length_drop, List.length_take]; omega, by omega, by omega, fun hn => ?_, (h.bd.take hi).drop lo, fun hp => ?_⟩
  · by_cases e : cap = lo
    · omega
    · rw [if_neg e] at hn
      have := h.nil (by cases A <;> simp_all)
      omega
  · obtain ⟨b, o, rfl, k1, k2, k3⟩ := h.lies (by omega)
    rw [if_neg (by omega)]
    refine ⟨b, o + lo, by simp [Go.WideShapes.add_plain], k1, k2, fun j hj => ?_⟩
    rw [gI_drop, gI_take _ _ _ (by omega), Nat.add_assoc]
    exact k3 (lo + j) (by omega)
/-- Bytes in a block that was just made. -/
theorem byte8_of (l : List Int) (h : ∀ x ∈ l, 0 ≤ x ∧ x ≤ 255) : Byte8 l := fun j => by
  by_cases hj : j < l.length
  · have := gI_some l j hj
    exact h _ (List.mem_of_getElem? this)
  · rw [gI_end l j (by omega)]; omega
theorem BAt8.new (w : World) (l : List Int) (ty : TypeId) (fr : Nat × Nat) (cs : Array Value) (n : Nat) (hc : cs = (l.map fun x => Value.int .u8 x).toArray) (hn : l.length = n) (hm : n ≤ maxLen) (hb : ∀ x ∈ l, 0 ≤ x ∧ x ≤ 255) :
    BAt8 (fun _ => True) (w.alloc (.cells cs ty fr)) (some ⟨w.heap.size, 0, none⟩) n n l :=
  ⟨hn, Nat.le_refl _, hm, fun h => (by cases h), byte8_of l hb, fun _ => ⟨_, 0, rfl, trivial, by simp, fun j hj => by
    have := gI_some l j (by omega)
    rw [Nat.zero_add, cell_of_row _ w.heap.size j _ _ fr (heap_alloc_new w _), hc]
    simp [this]⟩⟩
/-- A row of the call's own, as bytes. -/
def u8I (x : Int) : Value := .int .u8 x
theorem u8I_one (l : List Int) : ∀ u ∈ l.map u8I, u.oneCell' = true := by
  intro u hu
  obtain ⟨n, _, rfl⟩ := List.mem_map.1 hu
  rfl
theorem u8I_at (l : List Int) (j : Nat) (h : j < l.length) : (l.map u8I)[j]? = some (.int .u8 (gI l j)) := by
  rw [List.getElem?_map, gI_some l j h]
  rfl
theorem bytes_own {w : World} {base n : Nat} {e : TypeId} {A : Option Addr} {m cap : Nat} {l : List Int} (h : w.ownsRow base e 1 (.slice A m cap) n (l.map u8I)) (hl : Byte8 l) : BAt8 (fun k => base ≤ k) w A n cap l := by
  have hlen : l.length = n := by have := h.1; simpa using this
  have hcopy := h
  rcases h.2 with ⟨e1, h0⟩ | ⟨g, cap', cur, e1, hb, hg, hnc, hm, _, _⟩
  · injection e1 with e1 e2 e3
    subst e1 e2 e3
    exact ⟨hlen, by omega, Nat.zero_le _, fun _ => rfl, hl, fun h => absurd h (by omega)⟩
  · injection e1 with e1 e2 e3
    subst e1 e2 e3
    refine ⟨hlen, by omega, hm, fun h => (by cases h), hl, fun _ => ⟨g, 0, rfl, hb, (Array.getElem?_eq_some_iff.1 hg).1, fun j hj => ?_⟩⟩
    rw [Nat.zero_add, hcopy.cellAt j (by omega), u8I_at _ _ (by omega)]
theorem own_slice {w : World} {base n : Nat} {e : TypeId} {size : Nat} {v : Value} {xs : List Value} (h : w.ownsRow base e size v n xs) : ∃ A cap, v = .slice A n cap ∧ n ≤ cap ∧ cap ≤ maxLen := by
  rcases h.2 with ⟨rfl, h0⟩ | ⟨g, cap, cur, rfl, _, _, hnc, hm, _, _⟩
  · refine ⟨none, 0, ?_, ?_, Nat.zero_le _⟩
    · rw [h0]
    · omega
  · exact ⟨_, cap, rfl, hnc, hm⟩
theorem news_u8 {F : Nat → Prop} {w : World} {a : Addr} {n cap : Nat} {l : List Int} (h : BAt8 F w (some a) n cap l) : ∀ j u, (l.map u8I)[j]? = some u → w.cell? (a.add j) = some u := by
  intro j u hu
  have hj : j < l.length := by have := (List.getElem?_eq_some_iff.1 hu).1; simpa using this
  have hl := h.len
  obtain ⟨b, o, e, _, _, hc⟩ := h.lies (by omega)
  injection e with e
  subst e
  rw [u8I_at l j hj] at hu
  rw [Go.WideShapes.add_plain, hc j (by omega)]
  exact hu
/-- 'append(xs, ys...)': xs a row of the call's own, ys whatever bytes. -/
theorem wpList_append_u8 {P : Program} {ops : Array Oper} {rest : List Oper} {o : Oper} {a : Act} {Q : Exit → Act → World → Prop} {wr : World} (base : Nat) (e t : TypeId)
    (hinfo : (P.info? e).map (fun i => (i.zero, i.size, i.bytes)) = some (some (.int .u8 0), 1, 1)) (ht : P.underlying t = some (.slice e))
    (hgd : o.guard = none) (s x : Operand) (ho : o.op = .call { callee := .builtin .append, args := #[s, x], argTypes := #[t, t] })
    (v : Value) (n : Nat) (xs : List Int) (hs : a.eval s = v) (hown : wr.ownsRow base e 1 v n (xs.map u8I))
    {F : Nat → Prop} {A : Option Addr} {m cap : Nat} {ys : List Int} (hx : a.eval x = .slice A m cap) (hy : BAt8 F wr A m cap ys) (hbytes : n + m ≤ 140737488355328) (hbase : base ≤ wr.heap.size)
    (h : ∀ v' w', w'.ownsRow base e 1 v' (n + m) ((xs ++ ys).map u8I) → Below base wr w' → wpList P ops Q rest (a.put o.dst v') w') : wpList P ops Q (o :: rest) a wr := by
  have hl := hy.len
  have hz := hy.nil
  have hf := hy.fit
  rcases A with _ | ad
  · have hc := hz rfl
    have hm : m = 0 := by omega
    obtain rfl : ys = [] := List.eq_nil_of_length_eq_zero (by omega)
    subst hm hc
    obtain ⟨i0, hi, _, _, _⟩ := info_parts hinfo
    refine wpList_append_own_none hgd s x t ho base e i0 1 ht hi v n _ hs hown hx (h v wr ?_ (Below.refl _ _))
    simpa using hown
  · refine wpList_append_row base e t hinfo ht rfl hgd s x ho v n _ hs hown ad m cap (ys.map u8I) hx (by simp [hl]) (news_u8 hy) (u8I_one ys) (by decide) (by omega) hbase (fun v' w' h1 h2 => h v' w' ?_ h2)
    rw [List.map_append]
    exact h1

end Go.Proofs.Ythlaglhlmbkniaa
/- Numbers in bytes, the lowest byte first. No program is named here. -/
namespace Go.Proofs.Ythlaglhlmbkniaa
open Go.RowKit

/-- The number of bytes, the first one the lowest. -/
def leV : List Int → Int
  | [] => 0
  | x :: l => x + 256 * leV l
theorem leV_snoc : ∀ (l : List Int) (x : Int), leV (l ++ [x]) = leV l + x * 256 ^ l.length
  | [], x => by simp [leV]
  | y :: l, x => by
    rw [List.cons_append, leV, leV_snoc l x, leV, List.length_cons, Int.pow_succ, Int.mul_add, Int.add_assoc]
    congr 2
    rw [Int.mul_comm 256, Int.mul_assoc]
theorem leV_bd (l : List Int) (h : Byte8 l) : ∀ k, k ≤ l.length → 0 ≤ leV (l.take k) ∧ leV (l.take k) < 256 ^ k
  | 0, _ => by rw [List.take_zero]; exact ⟨Int.le_refl _, by decide⟩
  | k + 1, hk => by
    obtain ⟨h1, h2⟩ := leV_bd l h k (by omega)
    obtain ⟨h3, h4⟩ := h k
    rw [take_gI l k (by omega), leV_snoc, List.length_take, Nat.min_eq_left (by omega), Int.pow_succ]
    have h5 : 0 ≤ gI l k * 256 ^ k := Int.mul_nonneg h3 (by omega)
    have h6 : gI l k * 256 ^ k ≤ 255 * 256 ^ k := Int.mul_le_mul_of_nonneg_right h4 (by omega)
    omega
end Go.Proofs.Ythlaglhlmbkniaa
/- A reader's state as a value: its place, its fault; what a read of so many bytes makes of it. No program is named here. -/
namespace Go.Proofs.Ythlaglhlmbkniaa
open Go.RowKit

/-- Where a reader stands; its fault (none, if e is 0) and that one's place. -/
structure Rst where
  p : Nat
  e : Int
  f : Int
  deriving DecidableEq
/-- The next n bytes are read, or the fault is that they aren't there. -/
def takS (l : List Int) (s : Rst) (n : Nat) : Rst := if s.e ≠ 0 then s else if s.p + n ≤ l.length then ⟨s.p + n, 0, s.f⟩ else ⟨s.p, 2, s.p⟩
/-- What is read. -/
def takB (l : List Int) (s : Rst) (n : Nat) : List Int := if s.e ≠ 0 then [] else if s.p + n ≤ l.length then (l.drop s.p).take n else []
def numV (l : List Int) (s : Rst) (n : Nat) : Int := leV (takB l s n)
def failS (s : Rst) (e f : Int) : Rst := if s.e ≠ 0 then s else ⟨s.p, e, f⟩
theorem takS_bad {l : List Int} {s : Rst} (h : s.e ≠ 0) (n : Nat) : takS l s n = s := if_pos h
theorem takB_bad {l : List Int} {s : Rst} (h : s.e ≠ 0) (n : Nat) : takB l s n = [] := if_pos h
theorem numV_bad {l : List Int} {s : Rst} (h : s.e ≠ 0) (n : Nat) : numV l s n = 0 := by unfold numV; rw [takB_bad h]; rfl
theorem takS_yes {l : List Int} {s : Rst} (h : s.e = 0) {n : Nat} (hn : s.p + n ≤ l.length) : takS l s n = ⟨s.p + n, 0, s.f⟩ := by unfold takS; rw [if_neg (by simp [h]), if_pos hn]
theorem takS_no {l : List Int} {s : Rst} (h : s.e = 0) {n : Nat} (hn : ¬ s.p + n ≤ l.length) : takS l s n = ⟨s.p, 2, s.p⟩ := by unfold takS; rw [if_neg (by simp [h]), if_neg hn]
theorem takB_yes {l : List Int} {s : Rst} (h : s.e = 0) {n : Nat} (hn : s.p + n ≤ l.length) : takB l s n = (l.drop s.p).take n := by unfold takB; rw [if_neg (by simp [h]), if_pos hn]
theorem takB_no {l : List Int} {s : Rst} (h : s.e = 0) {n : Nat} (hn : ¬ s.p + n ≤ l.length) : takB l s n = [] := by unfold takB; rw [if_neg (by simp [h]), if_neg hn]
theorem failS_bad {s : Rst} (h : s.e ≠ 0) (e f : Int) : failS s e f = s := if_pos h
theorem failS_ok {s : Rst} (h : s.e = 0) (e f : Int) : failS s e f = ⟨s.p, e, f⟩ := by unfold failS; rw [if_neg (by simp [h])]
theorem takB_len (l : List Int) (s : Rst) (n : Nat) : (takB l s n).length ≤ n := by
  unfold takB
  split
  · simp
  · split
    · rw [List.length_take]; omega
    · simp
theorem takB_byte {l : List Int} (h : Byte8 l) (s : Rst) (n : Nat) : Byte8 (takB l s n) := by
  unfold takB
  split
  · exact Byte8.nil
  · split
    · exact (h.drop _).take _
    · exact Byte8.nil
theorem numV_bd {l : List Int} (h : Byte8 l) (s : Rst) (n : Nat) : 0 ≤ numV l s n ∧ numV l s n < 256 ^ n := by
  have h1 := takB_len l s n
  have h2 := leV_bd (takB l s n) (takB_byte h s n) (takB l s n).length (Nat.le_refl _)
  rw [List.take_length] at h2
  refine ⟨h2.1, Int.lt_of_lt_of_le h2.2 ?_⟩
  have h3 := Int.ofNat_le.2 (Nat.pow_le_pow_right (n := 256) (by decide) h1)
  rwa [Int.natCast_pow, Int.natCast_pow] at h3

end Go.Proofs.Ythlaglhlmbkniaa
/- Bytes sliced, at this program's type of them. -/
namespace Go.Proofs.Ythlaglhlmbkniaa
open Go.RowKit

theorem infoB8 : (Try.prog.info? 5).map (fun i => (i.zero, i.size, i.bytes)) = some (some (.int .u8 0), 1, 1) := by kernel_rfl
theorem size8 (u : World) : (sizeOf (Try.prog.elem 25)).run Try.prog u = .ok 1 u := by kernel_rfl
theorem elem8 : Try.prog.underlying 25 = some (.slice (Try.prog.elem 25)) := by kernel_rfl
theorem cut_h {F : Nat → Prop} {w : World} {A : Option Addr} {n cap : Nat} {l : List Int} (h : BAt8 F w A n cap l) (hi : Int) (m : Nat) (hm : hi = m) (hle : m ≤ n) :
    ∃ A' c', (∀ u, (Instr.slice 25 (.slice A n cap) none (some (.int .i64 hi)) none).run Try.prog u = .ok (.slice A' m c') u) ∧ BAt8 F w A' m c' (l.take m) := by
  have hk := h.cut 0 m (Nat.zero_le _) hle
  have hf := h.fit
  refine ⟨_, _, fun u => ?_, hk⟩
  rw [run_slice_h u _ A n cap elem8 .i64 hi (by omega) (by omega), size8]
  simp [Result.andThen, sliced, hm]
theorem cut_lh {F : Nat → Prop} {w : World} {A : Option Addr} {n cap : Nat} {l : List Int} (h : BAt8 F w A n cap l) (lo hi : Int) (m k : Nat) (hm : lo = m) (hk : hi = k) (h1 : m ≤ k) (h2 : k ≤ n) :
    ∃ A' c', (∀ u, (Instr.slice 25 (.slice A n cap) (some (.int .i64 lo)) (some (.int .i64 hi)) none).run Try.prog u = .ok (.slice A' (k - m) c') u) ∧ BAt8 F w A' (k - m) c' ((l.take k).drop m) := by
  have hc := h.cut m k h1 h2
  have hf := h.fit
  refine ⟨_, _, fun u => ?_, hc⟩
  rw [run_slice_lh u _ A n cap elem8 .i64 .i64 lo hi (by omega) (by omega) (by omega), size8]
  simp [Result.andThen, sliced, hm, hk]

end Go.Proofs.Ythlaglhlmbkniaa
/- slices.Clone of bytes. -/
namespace Go.Proofs.Ythlaglhlmbkniaa
open Go.RowKit

theorem eql_none (u : World) : (binOp .eql 25 (.slice none 0 0) (.slice none 0 0)).run Try.prog u = .ok (.bool true) u := Lib.run_eql_slice_nil_nil u 0 0 Try.underlying25
theorem eql_some (ad : Addr) (n c : Nat) (u : World) : (binOp .eql 25 (.slice (some ad) n c) (.slice none 0 0)).run Try.prog u = .ok (.bool false) u := Lib.run_eql_slice_some_nil u ad n c Try.underlying25
def Cloned (w : World) (n : Nat) (l : List Int) (x : Ending) (w' : World) : Prop := ∃ A cap, x = .returned (.slice A n cap) ∧ BAt8 (fun k => w.heap.size ≤ k) w' A n cap l ∧ Below w.heap.size w w'
theorem clone_any (F : Nat → Prop) (A : Option Addr) (n cap : Nat) (l : List Int) (w : World) (hl : BAt8 F w A n cap l) (hn : n ≤ 1000000) :
    Calls Try.prog 32 #[.slice A n cap] w (Cloned w n l) := by
  have hf := hl.fit
  have hm := hl.max
  have hlen := hl.len
  unfold maxLen at hm
  rcases A with _ | ad
  · have hc := hl.nil rfl
    have hn0 : n = 0 := by omega
    obtain rfl : l = [] := List.eq_nil_of_length_eq_zero (by omega)
    subst hn0 hc
    have HB := Lib.hid (Below.refl w.heap.size w)
    have q := eql_none
    go_enter Try.func32, Try.ntmps32
    go_wp2_with fail
    go_ret
    exact ⟨none, 0, rfl, BAt8.empty _ _, HB.out⟩
  · have ho := World.ownsRow_lit (size := 1) (base := w.heap.size) (e := 5) w (#[] : Array Value) 0 (Nat.le_refl _) (Nat.zero_le _) rfl
    have HO := Lib.hid ho
    have HY := Lib.hid (hl.below (bnew w (.cells #[] 5)))
    have hbd := hl.bd
    have HB := Lib.hid (bnew w (.cells (#[] : Array Value) 5))
    have q := eql_some ad n cap
    clear hl ho
    go_enter Try.func32, Try.ntmps32
    go_wp2_with (first
      | (at_builtin
         refine wpList_append_u8 (P := Try.prog) w.heap.size 5 25 infoB8 Try.underlying25 rfl (.tmp 5) (.tmp 6) rfl _ _ [] rfl HO.out rfl HY.out (by omega) (by simp) ?_
         intro v' w3 hown3 hb3
         have hown : w3.ownsRow w.heap.size 5 1 v' n (l.map u8I) := by simpa using hown3
         clear hown3
         obtain ⟨A3, cap3, rfl, hn3, hm3⟩ := own_slice hown
         have HR : Hid (Cloned w n l (.returned (.slice A3 n cap3)) w3) := Lib.hid ⟨A3, cap3, rfl, bytes_own hown hbd, HB.out.trans hb3⟩
         clear hown hb3))
    go_ret
    exact HR.out

end Go.Proofs.Ythlaglhlmbkniaa
/- Bytes, and rows of bytes, as arguments: opened. -/
namespace Go.Proofs.Ythlaglhlmbkniaa
open Go.ChangeShapes Go.WideShapes Go.RowKit Go.Deep
set_option linter.unusedVariables false

theorem laidOut : laidOutB Try.prog = true := by kernel_rfl
def BytesV (w : World) (v : Value) (l : List Int) : Prop := ∃ A n cap, v = .slice A n cap ∧ BAt8 (fun _ => True) w A n cap l
theorem open_u8c {H : Type} {enc : TypeId × Value → H} {w : World} {base fuel : Nat} {spare : Nat → Bool} {held : Bool} {v : Value} {x : DataW H × List MemPlace} (hf : DataW.trod enc Try.prog w base spare held fuel 25 [v] = some x) : ∃ l : List Int, BytesV w v l := by
  have hc : Try.prog.cellsOf 5 = 1 := by kernel_rfl
  rcases open_ints Try.underlying25 Try.underlying5 hc hf with ⟨hcs, hx⟩ | ⟨a, len, cap, zs, hcs, _, hl, hm, hz, hx, hcell, hwz⟩
  · obtain rfl : v = .slice none 0 0 := by simpa using hcs
    exact ⟨[], none, 0, 0, rfl, BAt8.empty _ _⟩
  · obtain rfl : v = .slice (some a) len cap := by simpa using hcs
    have hlz : len ≤ zs.length := by rw [hz]; split <;> omega
    refine ⟨zs.take len, some a, len, cap, rfl, by simp; omega, hl, hm, fun h => (by cases h), Byte8.take (fun j => ?_) len, fun hp => ?_⟩
    · unfold gI
      rw [List.getD_eq_getElem?_getD]
      exact range_u8 hwz j
    · obtain ⟨b, off, rfl, hcell'⟩ := ints_at hcell (by omega)
      refine ⟨b, off, rfl, trivial, ?_, fun j hj => ?_⟩
      · exact blk_lt (hcell' 0 (by omega))
      · rw [hcell' j (by omega), gI_take _ _ _ hj]
        rfl
set_option maxRecDepth 100000 in
theorem open_u8 {H : Type} {enc : TypeId × Value → H} {w : World} {base b0 : Nat} {spare : Nat → Bool} {held : Bool} {r : Reach} {v : Value} {d : DataW H} {p : List MemPlace}
    (hv : Value.okWide Try.prog w r b0 25 v) (h : DataW.Trod enc Try.prog w base spare held 25 v d p) : ∃ l : List Int, BytesV w v l := by
  obtain ⟨a1, len, cap, rfl⟩ := okWide_slice Try.underlying25 hv
  obtain ⟨fuel, hf⟩ := h
  exact open_u8c (v := .slice a1 len cap) hf

end Go.Proofs.Ythlaglhlmbkniaa
/- Blocks of many cells as functions; their zero value; rows that are told apart. No program is named here. -/
namespace Go.Proofs.Ythlaglhlmbkniaa
open Go.RowKit

/-! Cells. -/
def upd (C : Nat → Value) (j : Nat) (v : Value) : Nat → Value := fun i => if i = j then v else C i
/-- A block of n cells, those of C. -/
def Cells (w : World) (b : Nat) (ty : TypeId) (n : Nat) (C : Nat → Value) : Prop := ∃ A : Array Value, w.heap[b]? = some (.cells A ty (0, 0)) ∧ A.size = n ∧ ∀ j, j < n → A[j]? = some (C j)
theorem Cells.lt {w : World} {b : Nat} {ty : TypeId} {n : Nat} {C : Nat → Value} (h : Cells w b ty n C) : b < w.heap.size := by
  obtain ⟨A, h, _⟩ := h
  exact (Array.getElem?_eq_some_iff.1 h).1
theorem Cells.cell {w : World} {b : Nat} {ty : TypeId} {n : Nat} {C : Nat → Value} (h : Cells w b ty n C) (j : Nat) (hj : j < n) : w.cell? ⟨b, j, none⟩ = some (C j) := by
  obtain ⟨A, h1, h2, h3⟩ := h
  rw [cell_of_row w b j _ _ (0, 0) h1, h3 j hj]
theorem Cells.frozen {w : World} {b : Nat} {ty : TypeId} {n : Nat} {C : Nat → Value} (h : Cells w b ty n C) (j : Nat) : w.frozen? ⟨b, j, none⟩ = false := by
  obtain ⟨A, h1, _⟩ := h
  exact frozen_of_row w b j _ _ h1
theorem Cells.block {w w' : World} {b : Nat} {ty : TypeId} {n : Nat} {C : Nat → Value} (h : Cells w b ty n C) (hb : w'.heap[b]? = w.heap[b]?) : Cells w' b ty n C := by
  obtain ⟨A, h1, h2⟩ := h
  exact ⟨A, hb.trans h1, h2⟩
theorem Cells.below {w w' : World} {b : Nat} {ty : TypeId} {n : Nat} {C : Nat → Value} (h : Cells w b ty n C) (hb : Below w.heap.size w w') : Cells w' b ty n C := h.block (hb.block b h.lt)
theorem Cells.set {w : World} {b : Nat} {ty : TypeId} {n : Nat} {C : Nat → Value} (h : Cells w b ty n C) (j : Nat) (v : Value) : Cells (w.setCell ⟨b, j, none⟩ v) b ty n (upd C j v) := by
  obtain ⟨A, h1, h2, h3⟩ := h
  refine ⟨A.setIfInBounds j v, heap_setCell_same w b j _ _ _ h1, by simpa using h2, fun i hi => ?_⟩
  unfold upd
  by_cases e : j = i
  · subst e
    rw [Array.getElem?_setIfInBounds_self_of_lt (by omega), if_pos rfl]
  · rw [Array.getElem?_setIfInBounds_ne e, if_neg (fun x => e x.symm), h3 i hi]
theorem Cells.congr {w : World} {b : Nat} {ty : TypeId} {n : Nat} {C D : Nat → Value} (h : Cells w b ty n C) (e : ∀ j, j < n → C j = D j) : Cells w b ty n D := by
  obtain ⟨A, h1, h2, h3⟩ := h
  exact ⟨A, h1, h2, fun j hj => by rw [h3 j hj, e j hj]⟩
theorem Cells.new (w : World) (A : Array Value) (ty : TypeId) (n : Nat) (C : Nat → Value) (h2 : A.size = n) (h3 : ∀ j, j < n → A[j]? = some (C j)) : Cells (w.alloc (.cells A ty)) w.heap.size ty n C :=
  ⟨A, heap_alloc_new w _, h2, h3⟩
end Go.Proofs.Ythlaglhlmbkniaa
/- Slices of int in memory: whatever slice of them, wherever it lies; cut; opened as an argument. -/
namespace Go.Proofs.Ythlaglhlmbkniaa
open Go.ChangeShapes Go.WideShapes Go.RowKit Go.Deep
set_option linter.unusedVariables false

/-- The slice of A, n and cap has the numbers l, in a block that F allows. -/
structure IAt (F : Nat → Prop) (w : World) (A : Option Addr) (n cap : Nat) (l : List Int) : Prop where
  len : l.length = n
  fit : n ≤ cap
  max : cap ≤ maxLen
  nil : A = none → cap = 0
  lies : 0 < n → ∃ b o, A = some ⟨b, o, none⟩ ∧ F b ∧ b < w.heap.size ∧ ∀ j, j < n → w.cell? ⟨b, o + j, none⟩ = some (.int .i64 (gI l j))
theorem IAt.keep {F : Nat → Prop} {w w' : World} {A : Option Addr} {n cap : Nat} {l : List Int} (h : IAt F w A n cap l) (hs : w.heap.size ≤ w'.heap.size) (hb : ∀ k, k < w.heap.size → F k → w'.heap[k]? = w.heap[k]?) : IAt F w' A n cap l :=
  ⟨h.len, h.fit, h.max, h.nil, fun hn => by
    obtain ⟨b, o, h1, h2, h3, h4⟩ := h.lies hn
    exact ⟨b, o, h1, h2, Nat.lt_of_lt_of_le h3 hs, fun j hj => (World.cell?_of_block (a := ⟨b, o + j, none⟩) (hb b h3 h2)).trans (h4 j hj)⟩⟩
theorem IAt.below {F : Nat → Prop} {w w' : World} {A : Option Addr} {n cap : Nat} {l : List Int} (h : IAt F w A n cap l) (hb : Below w.heap.size w w') : IAt F w' A n cap l := h.keep hb.size fun k hk _ => hb.block k hk
theorem IAt.ch {F G : Nat → Prop} {w w' : World} {A : Option Addr} {n cap : Nat} {l : List Int} (h : IAt F w A n cap l) (hb : Ch G w w') (hF : ∀ k, F k → ¬ G k) : IAt F w' A n cap l := h.keep hb.size fun k hk hf => hb.block k hk (hF k hf)
theorem IAt.weak {F G : Nat → Prop} {w : World} {A : Option Addr} {n cap : Nat} {l : List Int} (h : IAt F w A n cap l) (hF : ∀ k, k < w.heap.size → F k → G k) : IAt G w A n cap l :=
  ⟨h.len, h.fit, h.max, h.nil, fun hn => by
    obtain ⟨b, o, h1, h2, h3, h4⟩ := h.lies hn
    exact ⟨b, o, h1, hF b h3 h2, h3, h4⟩⟩
theorem IAt.empty (F : Nat → Prop) (w : World) : IAt F w none 0 0 [] := ⟨rfl, Nat.le_refl _, Nat.zero_le _, fun _ => rfl, fun h => absurd h (by omega)⟩
theorem IAt.cut {F : Nat → Prop} {w : World} {A : Option Addr} {n cap : Nat} {l : List Int} (h : IAt F w A n cap l) (lo hi : Nat) (h1 : lo ≤ hi) (h2 : hi ≤ n) :
    IAt F w (if cap = lo then A else A.map (·.add (lo * 1))) (hi - lo) (cap - lo) ((l.take hi).drop lo) := by
  have h3 := h.fit
  have h4 := h.max
  have h5 := h.len
  refine ⟨by simp only [List.length_drop, List.length_take]; omega, by omega, by omega, fun hn => ?_, fun hp => ?_⟩
  · by_cases e : cap = lo
    · omega
    · rw [if_neg e] at hn
      have := h.nil (by cases A <;> simp_all)
      omega
  · obtain ⟨b, o, rfl, k1, k2, k3⟩ := h.lies (by omega)
    rw [if_neg (by omega)]
    refine ⟨b, o + lo, by simp [Go.WideShapes.add_plain], k1, k2, fun j hj => ?_⟩
    rw [gI_drop, gI_take _ _ _ (by omega), Nat.add_assoc]
    exact k3 (lo + j) (by omega)
/-- The first n values of f. -/
def lstF (f : Nat → Int) (n : Nat) : List Int := (List.range n).map f
theorem lstF_len (f : Nat → Int) (n : Nat) : (lstF f n).length = n := by simp [lstF]
theorem gI_lstF (f : Nat → Int) (n j : Nat) (h : j < n) : gI (lstF f n) j = f j := by
  unfold gI lstF
  rw [List.getD_eq_getElem?_getD, List.getElem?_map, List.getElem?_range h]
  rfl
theorem IAt.of_cells {w : World} {g n : Nat} {ty : TypeId} {f : Nat → Int} (h : Cells w g ty n (fun j => .int .i64 (f j))) (hn : n ≤ maxLen) : IAt (fun k => k = g) w (some ⟨g, 0, none⟩) n n (lstF f n) :=
  ⟨lstF_len _ _, Nat.le_refl _, hn, fun h => (by cases h), fun _ => ⟨g, 0, rfl, rfl, h.lt, fun j hj => by rw [Nat.zero_add, h.cell j hj, gI_lstF _ _ _ hj]⟩⟩
/-- A row of the call's own. -/
def i64I (x : Int) : Value := .int .i64 x
theorem i64I_at (l : List Int) (j : Nat) (h : j < l.length) : (l.map i64I)[j]? = some (.int .i64 (gI l j)) := by
  rw [List.getElem?_map, gI_some l j h]
  rfl
theorem ints_own {w : World} {base n : Nat} {e : TypeId} {A : Option Addr} {m cap : Nat} {l : List Int} (h : w.ownsRow base e 1 (.slice A m cap) n (l.map i64I)) : IAt (fun k => base ≤ k) w A n cap l := by
  have hlen : l.length = n := by have := h.1; simpa using this
  have hcopy := h
  rcases h.2 with ⟨e1, h0⟩ | ⟨g, cap', cur, e1, hb, hg, hnc, hm, _, _⟩
  · injection e1 with e1 e2 e3
    subst e1 e2 e3
    exact ⟨hlen, by omega, Nat.zero_le _, fun _ => rfl, fun h => absurd h (by omega)⟩
  · injection e1 with e1 e2 e3
    subst e1 e2 e3
    refine ⟨hlen, by omega, hm, fun h => (by cases h), fun _ => ⟨g, 0, rfl, hb, (Array.getElem?_eq_some_iff.1 hg).1, fun j hj => ?_⟩⟩
    rw [Nat.zero_add, hcopy.cellAt j (by omega), i64I_at _ _ (by omega)]
theorem infoI64 : (Try.prog.info? 3).map (fun i => (i.zero, i.size, i.bytes)) = some (some (.int .i64 0), 1, 8) := by kernel_rfl
/-- Numbers that are made: n zeros. -/
theorem make_ints (n : Nat) (w : World) (hn : n ≤ 1000000) : ∃ w', (Instr.makeSlice 22 (.int .i64 (n : Int)) (.int .i64 (n : Int))).run Try.prog w = .ok (.slice (some ⟨w.heap.size, 0, none⟩) n n) w' ∧ Cells w' w.heap.size 3 n (fun _ => .int .i64 0) ∧ Below w.heap.size w w' := by
  obtain ⟨i0, hi, hz0, hz1, hz2⟩ := info_parts infoI64
  have := run_make (P := Try.prog) w 22 3 i0 (.int .i64 0) Try.underlying22 hi hz0 .i64 .i64 n n (by omega) (by omega) (by rw [hz2]; omega) (by omega)
  rw [hz1] at this
  simp only [Int.toNat_natCast, Nat.mul_one] at this
  refine ⟨_, this, ⟨_, heap_alloc_new w _, size_madeCells _ _, fun j hj => ?_⟩, bnew w _⟩
  unfold madeCells
  have hz : (Value.int IntKind.i64 0).cells = #[Value.int .i64 0] := rfl
  rw [hz]
  rw [Array.getElem?_map, Array.getElem?_range, if_pos hj]
  simp [Nat.mod_one]
end Go.Proofs.Ythlaglhlmbkniaa
/- A reader in memory; its calls that only look. -/
namespace Go.Proofs.Ythlaglhlmbkniaa
open Go.RowKit
set_option linter.unusedVariables false
set_option linter.unusedSimpArgs false

/-- A reader in block g: the bytes l, read up to p; its fault e at f (none, if e is 0). -/
structure RdAt (F : Nat → Prop) (w : World) (g : Nat) (l : List Int) (p : Nat) (e f : Int) : Prop where
  apart : ¬ F g
  fit : p ≤ l.length
  is : ∃ A n cap, w.heap[g]? = some (.cells #[.slice A n cap, .int .i64 (p : Nat), .int .i64 e, .int .i64 f] 77 (0, 0)) ∧ BAt8 F w A n cap l
theorem RdAt.lt {F : Nat → Prop} {w : World} {g : Nat} {l : List Int} {p : Nat} {e f : Int} (h : RdAt F w g l p e f) : g < w.heap.size := by
  obtain ⟨_, _, A, n, cap, h1, _⟩ := h
  exact (Array.getElem?_eq_some_iff.1 h1).1
theorem RdAt.below {F : Nat → Prop} {w w' : World} {g : Nat} {l : List Int} {p : Nat} {e f : Int} (h : RdAt F w g l p e f) (hb : Below w.heap.size w w') : RdAt F w' g l p e f := by
  have hg := h.lt
  obtain ⟨h1, h2, A, n, cap, h3, h4⟩ := h
  exact ⟨h1, h2, A, n, cap, (hb.block g hg).trans h3, h4.below hb⟩
theorem RdAt.drew {F : Nat → Prop} {w : World} {g : Nat} {l : List Int} {p : Nat} {e f : Int} (h : RdAt F w g l p e f) (n : Nat) : RdAt F (w.drewN n) g l p e f := h.below (bdrawn (Below.refl _ _) n)
/-- What a look at a reader leaves as it was. -/
def Looks (v : Value) (w : World) (e : Ending) (w' : World) : Prop := e = .returned v ∧ ∃ n, w' = w.drewN n
theorem drew0 (w : World) : ∃ n, w = w.drewN n := ⟨0, by unfold World.drewN; rfl⟩
theorem mayBe_any (n : Int) (R : Bool) (hR : (decide (1 ≤ n) && decide (n ≤ 4)) = R) (w : World) : Calls Try.prog 41 #[.int .i64 n] w fun e w' => e = .returned (.bool R) ∧ w = w' := by
  obtain ⟨q1, h1⟩ : ∃ q, decide (1 ≤ n) = q := ⟨_, rfl⟩
  obtain ⟨q2, h2⟩ : ∃ q, decide (n ≤ 4) = q := ⟨_, rfl⟩
  rw [h1, h2] at hR
  subst hR
  cases q1 <;> cases q2
  all_goals
    go_enter Try.func41, Try.ntmps41
    go_wp2_with fail
    go_ret
    exact ⟨rfl, rfl⟩
theorem bad_any (F : Nat → Prop) (w : World) (g : Nat) (l : List Int) (p : Nat) (e f : Int) (h : RdAt F w g l p e f) (q : Bool) (hq : (e == 0) = q) : Calls Try.prog 39 #[.pointer (some ⟨g, 0, none⟩)] w fun x w' => x = .returned (.bool (!q)) ∧ w = w' := by
  obtain ⟨h1, h2, A, n, cap, h3, h4⟩ := h
  have c2 := cell_of_row w g 2 _ _ (0, 0) h3
  simp at c2
  have hq2 : (e != 0) = !q := by rw [bne, hq]
  clear h3 h4 h1 h2
  cases q
  all_goals
    go_enter Try.func39, Try.ntmps39
    go_wp2_with fail
    go_ret
    exact ⟨rfl, rfl⟩
theorem at_any (F : Nat → Prop) (w : World) (g : Nat) (l : List Int) (p : Nat) (e f : Int) (h : RdAt F w g l p e f) : Calls Try.prog 37 #[.pointer (some ⟨g, 0, none⟩)] w fun x w' => x = .returned (.int .i64 (p : Nat)) ∧ w = w' := by
  obtain ⟨h1, h2, A, n, cap, h3, h4⟩ := h
  have c1 := cell_of_row w g 1 _ _ (0, 0) h3
  simp at c1
  clear h3 h4 h1 h2
  go_enter Try.func37, Try.ntmps37
  go_wp2_with fail
  go_ret
  exact ⟨rfl, rfl⟩
theorem left_bad (F : Nat → Prop) (w : World) (g : Nat) (l : List Int) (p : Nat) (e f : Int) (h : RdAt F w g l p e f) (he : e ≠ 0) : Calls Try.prog 35 #[.pointer (some ⟨g, 0, none⟩)] w (Looks (.int .i64 0) w) := by
  have H := Lib.hid (bad_any F w g l p e f h false (by simpa using he))
  clear h he
  go_enter Try.func35, Try.ntmps35
  go_wp2_with fail
  refine (H.out).mono ?_
  rintro e w' ⟨rfl, rfl⟩
  go_wp2_with fail
  go_ret
  exact ⟨rfl, drew0 _⟩
theorem left_any (F : Nat → Prop) (w : World) (g : Nat) (l : List Int) (p : Nat) (f : Int) (h : RdAt F w g l p 0 f) (L : Nat) (hL : l.length - p = L) (hl : l.length ≤ 1000000) : Calls Try.prog 35 #[.pointer (some ⟨g, 0, none⟩)] w (Looks (.int .i64 (L : Nat)) w) := by
  have H := Lib.hid (bad_any F w g l p 0 f h true rfl)
  obtain ⟨h1, h2, A, n, cap, h3, h4⟩ := h
  have c0 := cell_of_row w g 0 _ _ (0, 0) h3
  have c1 := cell_of_row w g 1 _ _ (0, 0) h3
  simp at c0 c1
  have hlen := h4.len
  have he : ((n : Int) - (p : Int)) = (L : Int) := by omega
  have hw : wrap64 (n - p) = (L : Int) := by rw [IntWalk.wrap64_in _ (by omega), he]
  clear h3 h4 h1
  go_enter Try.func35, Try.ntmps35
  go_wp2_with fail
  refine (H.out).mono ?_
  rintro e w' ⟨rfl, rfl⟩
  go_wp2_with fail
  go_quiet (fail)
  go_wp2_with fail
  go_ret
  exact ⟨by first | rfl | rw [he], _, rfl⟩

end Go.Proofs.Ythlaglhlmbkniaa
/- A reader's Fail and next. -/
namespace Go.Proofs.Ythlaglhlmbkniaa
open Go.RowKit
set_option linter.unusedVariables false
set_option linter.unusedSimpArgs false

/-- A reader's place and fault put anew. -/
theorem RdAt.setAt {F : Nat → Prop} {w : World} {g : Nat} {l : List Int} {p : Nat} {e f : Int} (h : RdAt F w g l p e f) (P : Nat) (hP : P ≤ l.length) : RdAt F (w.setCell ⟨g, 1, none⟩ (.int .i64 (P : Nat))) g l P e f := by
  obtain ⟨h1, h2, A, n, cap, h3, h4⟩ := h
  refine ⟨h1, hP, A, n, cap, by rw [heap_setCell_same w g 1 _ _ _ h3]; rfl, h4.ch (Ch.set (F := fun k => k = g) w g 1 _ rfl) fun k hk e => ?_⟩
  subst e; exact h1 hk
theorem RdAt.setFault {F : Nat → Prop} {w : World} {g : Nat} {l : List Int} {p : Nat} {e f : Int} (h : RdAt F w g l p e f) (x y : Int) : RdAt F ((w.setCell ⟨g, 2, none⟩ (.int .i64 x)).setCell ⟨g, 3, none⟩ (.int .i64 y)) g l p x y := by
  obtain ⟨h1, h2, A, n, cap, h3, h4⟩ := h
  have k1 := heap_setCell_same w g 2 _ _ (.int .i64 x) h3
  have k2 := heap_setCell_same (w.setCell ⟨g, 2, none⟩ (.int .i64 x)) g 3 _ _ (.int .i64 y) k1
  refine ⟨h1, h2, A, n, cap, by rw [k2]; rfl, h4.ch (G := fun k => k = g) ((Ch.set (F := fun k => k = g) w g 2 _ rfl).then (Ch.set _ g 3 _ rfl)) fun k hk e => ?_⟩
  subst e; exact h1 hk
/-- A call on reader g has changed that alone. -/
def Made (F : Nat → Prop) (v : Value) (w : World) (g : Nat) (l : List Int) (p : Nat) (e f : Int) (x : Ending) (w' : World) : Prop := x = .returned v ∧ RdAt F w' g l p e f ∧ Ch (fun k => k = g) w w'
theorem fail_old (F : Nat → Prop) (w : World) (g : Nat) (l : List Int) (p : Nat) (e f : Int) (h : RdAt F w g l p e f) (he : e ≠ 0) (x y : Int) : Calls Try.prog 36 #[.pointer (some ⟨g, 0, none⟩), .int .i64 x, .int .i64 y] w fun e w' => e = .returned (.tuple #[]) ∧ w = w' := by
  have H := Lib.hid (bad_any F w g l p e f h false (by simpa using he))
  clear h he
  go_enter Try.func36, Try.ntmps36
  go_wp2_with fail
  refine (H.out).mono ?_
  rintro e w' ⟨rfl, rfl⟩
  go_wp2_with fail
  go_end0
  exact ⟨rfl, rfl⟩
theorem fail_new (F : Nat → Prop) (w : World) (g : Nat) (l : List Int) (p : Nat) (f : Int) (h : RdAt F w g l p 0 f) (x y : Int) (hx : x ≠ 0) : Calls Try.prog 36 #[.pointer (some ⟨g, 0, none⟩), .int .i64 x, .int .i64 y] w (Made F (.tuple #[]) w g l p x y) := by
  have H := Lib.hid (bad_any F w g l p 0 f h true rfl)
  have HR : Hid (Made F (.tuple #[]) w g l p x y (.returned (.tuple #[])) ((w.setCell ⟨g, 2, none⟩ (.int .i64 x)).setCell ⟨g, 3, none⟩ (.int .i64 y))) := Lib.hid ⟨rfl, h.setFault x y, (Ch.set (F := fun k => k = g) w g 2 _ rfl).then (Ch.set _ g 3 _ rfl)⟩
  obtain ⟨h1, h2, A, n, cap, h3, h4⟩ := h
  have c2 := cell_of_row w g 2 _ _ (0, 0) h3
  have c3 := cell_of_row w g 3 _ _ (0, 0) h3
  simp at c2 c3
  have f2 := frozen_of_row w g 2 _ _ h3
  have f3 := frozen_of_row w g 3 _ _ h3
  have d : (x != 0) = true := by simpa using hx
  clear h1 h2 h3 h4 hx
  go_enter Try.func36, Try.ntmps36
  go_wp2_with fail
  refine (H.out).mono ?_
  rintro e w' ⟨rfl, rfl⟩
  go_wp2_with fail
  go_end0
  exact HR.out
theorem next_bad (F : Nat → Prop) (w : World) (g : Nat) (l : List Int) (p : Nat) (e f : Int) (h : RdAt F w g l p e f) (he : e ≠ 0) (n : Int) (hn : 1 ≤ n) : Calls Try.prog 40 #[.pointer (some ⟨g, 0, none⟩), .int .i64 n] w (Looks (.slice none 0 0) w) := by
  have d : decide (0 < n) = true := decide_eq_true (by omega)
  have H1 := Lib.hid (left_bad F w g l p e f h he)
  have H := Lib.hid (fun k => h.drew k)
  have HE := Lib.hid he
  clear h he
  go_enter Try.func40, Try.ntmps40
  go_wp2_with fail
  refine H1.out.mono ?_
  rintro x w1 ⟨rfl, k, rfl⟩
  have H2 := Lib.hid (at_any F _ g l p e f (H.out k))
  have H3 := Lib.hid (fun x y => fail_old F _ g l p e f (H.out k) HE.out x y)
  have H4 := Lib.hid (bad_any F _ g l p e f (H.out k) false (by simpa using HE.out))
  go_wp2_with fail
  refine (H2.out).mono ?_
  rintro e w' ⟨rfl, rfl⟩
  go_wp2_with fail
  refine (H3.out _ _).mono ?_
  rintro e w' ⟨rfl, rfl⟩
  go_wp2_with fail
  refine (H4.out).mono ?_
  rintro e w' ⟨rfl, rfl⟩
  go_wp2_with fail
  go_ret
  exact ⟨rfl, k, rfl⟩
set_option maxHeartbeats 1600000 in
theorem next_no (F : Nat → Prop) (w : World) (g : Nat) (l : List Int) (p : Nat) (f : Int) (h : RdAt F w g l p 0 f) (hl : l.length ≤ 1000000) (n : Int) (hn : ((l.length - p : Nat) : Int) < n) : Calls Try.prog 40 #[.pointer (some ⟨g, 0, none⟩), .int .i64 n] w (Made F (.slice none 0 0) w g l p 2 (p : Nat)) := by
  obtain ⟨L, hL⟩ : ∃ L, l.length - p = L := ⟨_, rfl⟩
  have H1 := Lib.hid (left_any F w g l p f h L hL hl)
  have H := Lib.hid (fun k => h.drew k)
  rw [hL] at hn
  have d : decide ((L : Int) < n) = true := decide_eq_true hn
  clear h
  go_enter Try.func40, Try.ntmps40
  go_wp2_with fail
  refine H1.out.mono ?_
  rintro x w1 ⟨rfl, k, rfl⟩
  have H2 := Lib.hid (at_any F _ g l p 0 f (H.out k))
  have H3 := Lib.hid (fail_new F _ g l p f (H.out k) 2 (p : Nat) (by decide))
  go_wp2_with fail
  refine (H2.out).mono ?_
  rintro e w' ⟨rfl, rfl⟩
  go_wp2_with fail
  refine H3.out.mono ?_
  rintro x w2 ⟨rfl, hr, hc⟩
  have H4 := Lib.hid (bad_any F _ g l p 2 (p : Nat) hr false rfl)
  have HR : Hid (Made F (.slice none 0 0) w g l p 2 (p : Nat) (.returned (.slice none 0 0)) w2) := Lib.hid ⟨rfl, hr, (Ch.of_below (bdrawn (Below.refl _ _) k)).then hc⟩
  clear hr hc H3 H2
  go_wp2_with fail
  refine (H4.out).mono ?_
  rintro e w' ⟨rfl, rfl⟩
  go_wp2_with fail
  go_ret
  exact HR.out
def NextYes (F : Nat → Prop) (w : World) (g : Nat) (l : List Int) (p m : Nat) (f : Int) (x : Ending) (w' : World) : Prop := ∃ A c, x = .returned (.slice A m c) ∧ BAt8 F w' A m c ((l.drop p).take m) ∧ RdAt F w' g l (p + m) 0 f ∧ Ch (fun k => k = g) w w'
set_option maxHeartbeats 1600000 in
theorem next_yes (F : Nat → Prop) (w : World) (g : Nat) (l : List Int) (p : Nat) (f : Int) (h : RdAt F w g l p 0 f) (hl : l.length ≤ 1000000) (n : Int) (m : Nat) (hm : n = m) (hn : p + m ≤ l.length) : Calls Try.prog 40 #[.pointer (some ⟨g, 0, none⟩), .int .i64 n] w (NextYes F w g l p m f) := by
  subst hm
  obtain ⟨L, hL⟩ : ∃ L, l.length - p = L := ⟨_, rfl⟩
  have H1 := Lib.hid (left_any F w g l p f h L hL hl)
  have H := Lib.hid (fun k => h.drew k)
  have d : decide ((L : Int) < (m : Int)) = false := decide_eq_false (by omega)
  clear h
  go_enter Try.func40, Try.ntmps40
  go_wp2_with fail
  refine H1.out.mono ?_
  rintro x w1 ⟨rfl, k, rfl⟩
  have hr := H.out k
  have H4 := Lib.hid (bad_any F _ g l p 0 f hr true rfl)
  obtain ⟨P, hP⟩ : ∃ P, p + m = P := ⟨_, rfl⟩
  have hPi : (p : Int) + (m : Int) = (P : Int) := by omega
  have hw : wrap64 ((p : Int) + m) = (P : Int) := by rw [IntWalk.wrap64_in _ (by omega)]; exact hPi
  have hs := hr.setAt P (by omega)
  have hC : Ch (fun k => k = g) w ((w.drewN k).setCell ⟨g, 1, none⟩ (.int .i64 (P : Nat))) := (Ch.of_below (bdrawn (Below.refl _ _) k)).then (Ch.set _ g 1 _ rfl)
  obtain ⟨a1, a2, A0, n0, cap0, a3, a4⟩ := hr
  have c1 := cell_of_row _ g 1 _ _ (0, 0) a3
  simp at c1
  have f1 := frozen_of_row _ g 1 _ _ a3
  clear a1 a2 a3 a4
  have HC := Lib.hid hC
  have HS := Lib.hid hs
  obtain ⟨b1, b2, A, n, cap, b3, b4⟩ := hs
  have e0 := cell_of_row _ g 0 _ _ (0, 0) b3
  have e1 := cell_of_row _ g 1 _ _ (0, 0) b3
  simp at e0 e1
  obtain ⟨A', c', hcut, hB⟩ := cut_lh b4 (p : Nat) (P : Nat) p P rfl rfl (by omega) (by rw [← b4.len]; omega)
  rw [show P - p = m by omega] at hcut hB
  have HB : Hid (BAt8 F ((w.drewN k).setCell ⟨g, 1, none⟩ (.int .i64 (P : Nat))) A' m c' ((l.drop p).take m)) := Lib.hid (by
    have e : (l.take P).drop p = (l.drop p).take m := by rw [List.drop_take]; congr 1; omega
    rw [← e]; exact hB)
  have HP := Lib.hid hP
  clear b1 b2 b3 b4 hC hB hP
  go_wp2_with fail
  refine (H4.out).mono ?_
  rintro e w' ⟨rfl, rfl⟩
  go_wp2_with fail
  generalize hwd : (w.drewN k).setCell ⟨g, 1, none⟩ (.int .i64 (P : Nat)) = wd at *
  go_quiet (fail)
  go_wp2_with fail
  go_ret
  exact ⟨A', c', rfl, HB.out.below (bdrawn (Below.refl _ _) _), by rw [HP.out]; exact HS.out.drew _, HC.out.drew _⟩

end Go.Proofs.Ythlaglhlmbkniaa
/- A reader's Take. -/
namespace Go.Proofs.Ythlaglhlmbkniaa
open Go.RowKit
set_option linter.unusedVariables false
set_option linter.unusedSimpArgs false

/-- A call on reader g has changed that alone, and answered bytes of its own. -/
def Took (F : Nat → Prop) (w : World) (g m : Nat) (b l : List Int) (p : Nat) (e f : Int) (x : Ending) (w' : World) : Prop := ∃ A c, x = .returned (.slice A m c) ∧ BAt8 (fun k => w.heap.size ≤ k) w' A m c b ∧ RdAt F w' g l p e f ∧ Ch (fun k => k = g) w w'
theorem RdAt.base {F : Nat → Prop} {B : Nat} {w w' : World} {g : Nat} {l : List Int} {p : Nat} {e f : Int} (h : RdAt F w g l p e f) (hb : Below B w w') (hG : ∀ k, k = g ∨ F k → k < B) : RdAt F w' g l p e f := by
  have hg := h.lt
  obtain ⟨h1, h2, A, n, cap, h3, h4⟩ := h
  exact ⟨h1, h2, A, n, cap, (hb.block g (hG g (Or.inl rfl))).trans h3, h4.keep hb.size fun k _ hk => hb.block k (hG k (Or.inr hk))⟩
theorem next_bad0 (F : Nat → Prop) (w : World) (g : Nat) (l : List Int) (p : Nat) (e f : Int) (h : RdAt F w g l p e f) (he : e ≠ 0) : Calls Try.prog 40 #[.pointer (some ⟨g, 0, none⟩), .int .i64 0] w (Looks (.slice none 0 0) w) := by
  have H1 := Lib.hid (left_bad F w g l p e f h he)
  have H := Lib.hid (fun k => h.drew k)
  have HE := Lib.hid he
  clear h he
  go_enter Try.func40, Try.ntmps40
  go_wp2_with fail
  refine H1.out.mono ?_
  rintro x w1 ⟨rfl, k, rfl⟩
  have H4 := Lib.hid (bad_any F _ g l p e f (H.out k) false (by simpa using HE.out))
  go_wp2_with fail
  refine (H4.out).mono ?_
  rintro e w' ⟨rfl, rfl⟩
  go_wp2_with fail
  go_ret
  exact ⟨rfl, k, rfl⟩
theorem take_bad (F : Nat → Prop) (w : World) (g : Nat) (l : List Int) (p : Nat) (e f : Int) (h : RdAt F w g l p e f) (he : e ≠ 0) : Calls Try.prog 33 #[.pointer (some ⟨g, 0, none⟩), .int .i64 0] w (Took F w g 0 [] l p e f) := by
  have HN := Lib.hid (next_bad0 F w g l p e f h he)
  have H := Lib.hid h
  clear h he
  go_enter Try.func33, Try.ntmps33
  go_wp2_with fail
  refine HN.out.mono ?_
  rintro x w1 ⟨rfl, k, rfl⟩
  go_wp2_with fail
  refine (clone_any (fun _ => False) none 0 0 [] _ (BAt8.empty _ _) (by decide)).mono ?_
  rintro x w2 ⟨A, c, rfl, hB, hb⟩
  have hb2 : Below w.heap.size w w2 := (bdrawn (Below.refl _ _) k).trans hb
  have HR : Hid (Took F w g 0 [] l p e f (.returned (.slice A 0 c)) w2) := Lib.hid ⟨A, c, rfl, hB, H.out.below hb2, Ch.of_below hb2⟩
  clear hB hb hb2
  go_wp2_with fail
  go_ret
  exact HR.out
theorem take_no (F : Nat → Prop) (w : World) (g : Nat) (l : List Int) (p : Nat) (f : Int) (h : RdAt F w g l p 0 f) (hl : l.length ≤ 1000000) (n : Int) (hn : ((l.length - p : Nat) : Int) < n) : Calls Try.prog 33 #[.pointer (some ⟨g, 0, none⟩), .int .i64 n] w (Took F w g 0 [] l p 2 (p : Nat)) := by
  have HN := Lib.hid (next_no F w g l p f h hl n hn)
  have d : decide (n < 0) = false := decide_eq_false (by omega)
  clear h hn
  go_enter Try.func33, Try.ntmps33
  go_wp2_with fail
  refine HN.out.mono ?_
  rintro x w1 ⟨rfl, hr, hc⟩
  have H1 := Lib.hid hr
  have H2 := Lib.hid hc
  clear hr hc
  go_wp2_with fail
  refine (clone_any (fun _ => False) none 0 0 [] _ (BAt8.empty _ _) (by decide)).mono ?_
  rintro x w2 ⟨A, c, rfl, hB, hb⟩
  have HR : Hid (Took F w g 0 [] l p 2 (p : Nat) (.returned (.slice A 0 c)) w2) := Lib.hid ⟨A, c, rfl, hB.weak fun k _ hk => Nat.le_trans H2.out.size hk, H1.out.below hb, H2.out.less (hb.mono H2.out.size)⟩
  clear hB hb
  go_wp2_with fail
  go_ret
  exact HR.out
theorem take_yes (F : Nat → Prop) (w : World) (g : Nat) (l : List Int) (p : Nat) (f : Int) (h : RdAt F w g l p 0 f) (hl : l.length ≤ 1000000) (n : Int) (m : Nat) (hm : n = m) (hn : p + m ≤ l.length) : Calls Try.prog 33 #[.pointer (some ⟨g, 0, none⟩), .int .i64 n] w (Took F w g m ((l.drop p).take m) l (p + m) 0 f) := by
  subst hm
  have HN := Lib.hid (next_yes F w g l p f h hl m m rfl hn)
  have hm1 : m ≤ 1000000 := by omega
  clear h hn
  go_enter Try.func33, Try.ntmps33
  go_wp2_with fail
  refine HN.out.mono ?_
  rintro x w1 ⟨A1, c1, rfl, hB1, hr, hc⟩
  have HK := Lib.hid (clone_any F A1 m c1 _ w1 hB1 hm1)
  have H1 := Lib.hid hr
  have H2 := Lib.hid hc
  clear hB1 hr hc
  go_wp2_with fail
  refine HK.out.mono ?_
  rintro x w2 ⟨A, c, rfl, hB, hb⟩
  have HR : Hid (Took F w g m ((l.drop p).take m) l (p + m) 0 f (.returned (.slice A m c)) w2) := Lib.hid ⟨A, c, rfl, hB.weak fun k _ hk => Nat.le_trans H2.out.size hk, H1.out.below hb, H2.out.less (hb.mono H2.out.size)⟩
  clear hB hb
  go_wp2_with fail
  go_ret
  exact HR.out

end Go.Proofs.Ythlaglhlmbkniaa
/- A reader's Number. -/
namespace Go.Proofs.Ythlaglhlmbkniaa
open Go.RowKit
set_option linter.unusedVariables false
set_option linter.unusedSimpArgs false

theorem or_up (s t : Int) (i : Nat) (h0 : 0 ≤ s) (h1 : s < 2 ^ i) (t0 : 0 ≤ t) (t1 : t < 2 ^ 63) (s1 : s < 2 ^ 63) (ht : t % 2 ^ i = 0) : bits .or .i64 s t = s + t := by
  have hw : ∀ n : Int, 0 ≤ n → n < 2 ^ 63 → IntKind.i64.wrap n = n := fun n h0 h1 => by rw [IntKind.wrap_i64]; omega
  have e := bits_join .i64 63 (by decide) hw i t s t0 ht t1 h0 h1 s1
  obtain ⟨a, rfl⟩ := Int.eq_ofNat_of_zero_le h0
  obtain ⟨b, rfl⟩ := Int.eq_ofNat_of_zero_le t0
  have ha : a < 2 ^ 63 := by exact_mod_cast s1
  have hb : b < 2 ^ 63 := by exact_mod_cast t1
  rw [(bits_nat .i64 63 (by decide) hw b a hb ha).2, Nat.or_comm, ← (bits_nat .i64 63 (by decide) hw a b ha hb).2] at e
  rw [e, Int.add_comm]
theorem number_0 (A : Option Addr) (c : Nat) (w : World) : Calls Try.prog 42 #[.slice A 0 c] w fun e w' => e = .returned (.int .i64 0) ∧ w = w' := by
  go_enter Try.func42, Try.ntmps42
  go_wp2_with fail
  refine wp_loop_rounds 1 ?_
  rw [rounds_succ]
  go_wp2_with fail
  go_ret
  exact ⟨rfl, rfl⟩
set_option maxHeartbeats 1600000 in
theorem number_1 (F : Nat → Prop) (A : Option Addr) (c : Nat) (x0 : Int) (w : World) (h : BAt8 F w A 1 c [x0]) : Calls Try.prog 42 #[.slice A 1 c] w fun e w' => e = .returned (.int .i64 (x0)) ∧ w = w' := by
  obtain ⟨b, o, rfl, _, hbl, hc⟩ := h.lies (by omega)
  have hf := h.fit
  have hm := h.max
  unfold maxLen at hm
  have c0 : w.cell? ⟨b, o + 0, none⟩ = some (.int .u8 x0) := hc 0 (by omega)
  have hb0 : 0 ≤ x0 ∧ x0 ≤ 255 := h.bd 0
  obtain ⟨p0, q0⟩ := hb0
  rw [Nat.add_zero] at c0
  have e0 : bits .or .i64 0 x0 = x0 := by
    have := or_up 0 x0 0 (by omega) (by decide) (by omega) (by omega) (by omega) (by omega)
    rw [this]; omega
  clear hc h
  go_enter Try.func42, Try.ntmps42
  go_wp2_with fail
  refine wp_loop_rounds 2 ?_
  rw [rounds_succ]
  go_wp2_with fail
  rw [rounds_succ]
  go_wp2_with fail
  go_ret
  exact ⟨rfl, rfl⟩
set_option maxHeartbeats 1600000 in
theorem number_2 (F : Nat → Prop) (A : Option Addr) (c : Nat) (x0 x1 : Int) (w : World) (h : BAt8 F w A 2 c [x0, x1]) : Calls Try.prog 42 #[.slice A 2 c] w fun e w' => e = .returned (.int .i64 (x0 + x1 * 256)) ∧ w = w' := by
  obtain ⟨b, o, rfl, _, hbl, hc⟩ := h.lies (by omega)
  have hf := h.fit
  have hm := h.max
  unfold maxLen at hm
  have c0 : w.cell? ⟨b, o + 0, none⟩ = some (.int .u8 x0) := hc 0 (by omega)
  have hb0 : 0 ≤ x0 ∧ x0 ≤ 255 := h.bd 0
  obtain ⟨p0, q0⟩ := hb0
  have c1 : w.cell? ⟨b, o + 1, none⟩ = some (.int .u8 x1) := hc 1 (by omega)
  have hb1 : 0 ≤ x1 ∧ x1 ≤ 255 := h.bd 1
  obtain ⟨p1, q1⟩ := hb1
  rw [Nat.add_zero] at c0
  have e0 : bits .or .i64 0 x0 = x0 := by
    have := or_up 0 x0 0 (by omega) (by decide) (by omega) (by omega) (by omega) (by omega)
    rw [this]; omega
  have e1 : bits .or .i64 x0 (x1 * 256) = x0 + x1 * 256 := or_up _ _ 8 (by omega) (by omega) (by omega) (by omega) (by omega) (by omega)
  clear hc h
  go_enter Try.func42, Try.ntmps42
  go_wp2_with fail
  refine wp_loop_rounds 3 ?_
  rw [rounds_succ]
  go_wp2_with fail
  rw [rounds_succ]
  go_wp2_with fail
  rw [rounds_succ]
  go_wp2_with fail
  go_ret
  exact ⟨rfl, rfl⟩
set_option maxHeartbeats 1600000 in
theorem number_3 (F : Nat → Prop) (A : Option Addr) (c : Nat) (x0 x1 x2 : Int) (w : World) (h : BAt8 F w A 3 c [x0, x1, x2]) : Calls Try.prog 42 #[.slice A 3 c] w fun e w' => e = .returned (.int .i64 (x0 + x1 * 256 + x2 * 65536)) ∧ w = w' := by
  obtain ⟨b, o, rfl, _, hbl, hc⟩ := h.lies (by omega)
  have hf := h.fit
  have hm := h.max
  unfold maxLen at hm
  have c0 : w.cell? ⟨b, o + 0, none⟩ = some (.int .u8 x0) := hc 0 (by omega)
  have hb0 : 0 ≤ x0 ∧ x0 ≤ 255 := h.bd 0
  obtain ⟨p0, q0⟩ := hb0
  have c1 : w.cell? ⟨b, o + 1, none⟩ = some (.int .u8 x1) := hc 1 (by omega)
  have hb1 : 0 ≤ x1 ∧ x1 ≤ 255 := h.bd 1
  obtain ⟨p1, q1⟩ := hb1
  have c2 : w.cell? ⟨b, o + 2, none⟩ = some (.int .u8 x2) := hc 2 (by omega)
  have hb2 : 0 ≤ x2 ∧ x2 ≤ 255 := h.bd 2
  obtain ⟨p2, q2⟩ := hb2
  rw [Nat.add_zero] at c0
  have e0 : bits .or .i64 0 x0 = x0 := by
    have := or_up 0 x0 0 (by omega) (by decide) (by omega) (by omega) (by omega) (by omega)
    rw [this]; omega
  have e1 : bits .or .i64 x0 (x1 * 256) = x0 + x1 * 256 := or_up _ _ 8 (by omega) (by omega) (by omega) (by omega) (by omega) (by omega)
  have e2 : bits .or .i64 (x0 + x1 * 256) (x2 * 65536) = x0 + x1 * 256 + x2 * 65536 := or_up _ _ 16 (by omega) (by omega) (by omega) (by omega) (by omega) (by omega)
  clear hc h
  go_enter Try.func42, Try.ntmps42
  go_wp2_with fail
  refine wp_loop_rounds 4 ?_
  rw [rounds_succ]
  go_wp2_with fail
  rw [rounds_succ]
  go_wp2_with fail
  rw [rounds_succ]
  go_wp2_with fail
  rw [rounds_succ]
  go_wp2_with fail
  go_ret
  exact ⟨rfl, rfl⟩
set_option maxHeartbeats 1600000 in
theorem number_4 (F : Nat → Prop) (A : Option Addr) (c : Nat) (x0 x1 x2 x3 : Int) (w : World) (h : BAt8 F w A 4 c [x0, x1, x2, x3]) : Calls Try.prog 42 #[.slice A 4 c] w fun e w' => e = .returned (.int .i64 (x0 + x1 * 256 + x2 * 65536 + x3 * 16777216)) ∧ w = w' := by
  obtain ⟨b, o, rfl, _, hbl, hc⟩ := h.lies (by omega)
  have hf := h.fit
  have hm := h.max
  unfold maxLen at hm
  have c0 : w.cell? ⟨b, o + 0, none⟩ = some (.int .u8 x0) := hc 0 (by omega)
  have hb0 : 0 ≤ x0 ∧ x0 ≤ 255 := h.bd 0
  obtain ⟨p0, q0⟩ := hb0
  have c1 : w.cell? ⟨b, o + 1, none⟩ = some (.int .u8 x1) := hc 1 (by omega)
  have hb1 : 0 ≤ x1 ∧ x1 ≤ 255 := h.bd 1
  obtain ⟨p1, q1⟩ := hb1
  have c2 : w.cell? ⟨b, o + 2, none⟩ = some (.int .u8 x2) := hc 2 (by omega)
  have hb2 : 0 ≤ x2 ∧ x2 ≤ 255 := h.bd 2
  obtain ⟨p2, q2⟩ := hb2
  have c3 : w.cell? ⟨b, o + 3, none⟩ = some (.int .u8 x3) := hc 3 (by omega)
  have hb3 : 0 ≤ x3 ∧ x3 ≤ 255 := h.bd 3
  obtain ⟨p3, q3⟩ := hb3
  rw [Nat.add_zero] at c0
  have e0 : bits .or .i64 0 x0 = x0 := by
    have := or_up 0 x0 0 (by omega) (by decide) (by omega) (by omega) (by omega) (by omega)
    rw [this]; omega
  have e1 : bits .or .i64 x0 (x1 * 256) = x0 + x1 * 256 := or_up _ _ 8 (by omega) (by omega) (by omega) (by omega) (by omega) (by omega)
  have e2 : bits .or .i64 (x0 + x1 * 256) (x2 * 65536) = x0 + x1 * 256 + x2 * 65536 := or_up _ _ 16 (by omega) (by omega) (by omega) (by omega) (by omega) (by omega)
  have e3 : bits .or .i64 (x0 + x1 * 256 + x2 * 65536) (x3 * 16777216) = x0 + x1 * 256 + x2 * 65536 + x3 * 16777216 := or_up _ _ 24 (by omega) (by omega) (by omega) (by omega) (by omega) (by omega)
  clear hc h
  go_enter Try.func42, Try.ntmps42
  go_wp2_with fail
  refine wp_loop_rounds 5 ?_
  rw [rounds_succ]
  go_wp2_with fail
  rw [rounds_succ]
  go_wp2_with fail
  rw [rounds_succ]
  go_wp2_with fail
  rw [rounds_succ]
  go_wp2_with fail
  rw [rounds_succ]
  go_wp2_with fail
  go_ret
  exact ⟨rfl, rfl⟩
theorem number_any (F : Nat → Prop) (A : Option Addr) (n c : Nat) (l : List Int) (w : World) (h : BAt8 F w A n c l) (hn : n ≤ 4) (V : Int) (hV : leV l = V) : Calls Try.prog 42 #[.slice A n c] w fun e w' => e = .returned (.int .i64 V) ∧ w = w' := by
  have hl := h.len
  subst hV
  rcases l with _ | ⟨x0, _ | ⟨x1, _ | ⟨x2, _ | ⟨x3, _ | ⟨x4, l⟩⟩⟩⟩⟩
  · obtain rfl : n = 0 := hl.symm
    exact number_0 A c w
  · obtain rfl : n = 1 := hl.symm
    rw [show leV [x0] = x0 by simp [leV]]
    exact number_1 F A c x0 w h
  · obtain rfl : n = 2 := hl.symm
    rw [show leV [x0, x1] = x0 + x1 * 256 by simp only [leV]; omega]
    exact number_2 F A c x0 x1 w h
  · obtain rfl : n = 3 := hl.symm
    rw [show leV [x0, x1, x2] = x0 + x1 * 256 + x2 * 65536 by simp only [leV]; omega]
    exact number_3 F A c x0 x1 x2 w h
  · obtain rfl : n = 4 := hl.symm
    rw [show leV [x0, x1, x2, x3] = x0 + x1 * 256 + x2 * 65536 + x3 * 16777216 by simp only [leV]; omega]
    exact number_4 F A c x0 x1 x2 x3 w h
  · simp only [List.length_cons] at hl; omega
theorem read_bad (F : Nat → Prop) (w : World) (g : Nat) (l : List Int) (p : Nat) (e f : Int) (h : RdAt F w g l p e f) (he : e ≠ 0) (n : Int) (h1 : 1 ≤ n) (h4 : n ≤ 4) : Calls Try.prog 34 #[.pointer (some ⟨g, 0, none⟩), .int .i64 n] w (Looks (.int .i64 0) w) := by
  have HM := Lib.hid (mayBe_any n true (by rw [Bool.and_eq_true]; exact ⟨decide_eq_true h1, decide_eq_true h4⟩))
  have HN := Lib.hid (next_bad F w g l p e f h he n h1)
  clear h1 h4 h he
  go_enter Try.func34, Try.ntmps34
  go_wp2_with fail
  refine (HM.out _).mono ?_
  rintro e w' ⟨rfl, rfl⟩
  go_wp2_with fail
  refine HN.out.mono ?_
  rintro x w1 ⟨rfl, k, rfl⟩
  go_wp2_with fail
  refine (number_0 none 0 _).mono ?_
  rintro e w' ⟨rfl, rfl⟩
  go_wp2_with fail
  go_ret
  exact ⟨rfl, k, rfl⟩
theorem read_no (F : Nat → Prop) (w : World) (g : Nat) (l : List Int) (p : Nat) (f : Int) (h : RdAt F w g l p 0 f) (hl : l.length ≤ 1000000) (n : Int) (h1 : 1 ≤ n) (h4 : n ≤ 4) (hn : ((l.length - p : Nat) : Int) < n) : Calls Try.prog 34 #[.pointer (some ⟨g, 0, none⟩), .int .i64 n] w (Made F (.int .i64 0) w g l p 2 (p : Nat)) := by
  have HM := Lib.hid (mayBe_any n true (by rw [Bool.and_eq_true]; exact ⟨decide_eq_true h1, decide_eq_true h4⟩))
  have HN := Lib.hid (next_no F w g l p f h hl n hn)
  clear h1 h4 h hn
  go_enter Try.func34, Try.ntmps34
  go_wp2_with fail
  refine (HM.out _).mono ?_
  rintro e w' ⟨rfl, rfl⟩
  go_wp2_with fail
  refine HN.out.mono ?_
  rintro x w1 ⟨rfl, hr, hc⟩
  have HR : Hid (Made F (.int .i64 0) w g l p 2 (p : Nat) (.returned (.int .i64 0)) w1) := Lib.hid ⟨rfl, hr, hc⟩
  clear hr hc HN
  go_wp2_with fail
  refine (number_0 none 0 _).mono ?_
  rintro e w' ⟨rfl, rfl⟩
  go_wp2_with fail
  go_ret
  exact HR.out
set_option maxHeartbeats 1600000 in
theorem read_yes (F : Nat → Prop) (w : World) (g : Nat) (l : List Int) (p : Nat) (f : Int) (h : RdAt F w g l p 0 f) (hl : l.length ≤ 1000000) (n : Int) (m : Nat) (hm : n = m) (h1 : 1 ≤ m) (h4 : m ≤ 4) (hn : p + m ≤ l.length) (V : Int) (hV : leV ((l.drop p).take m) = V) : Calls Try.prog 34 #[.pointer (some ⟨g, 0, none⟩), .int .i64 n] w (Made F (.int .i64 V) w g l (p + m) 0 f) := by
  subst hm
  have HM := Lib.hid (mayBe_any (m : Nat) true (by rw [Bool.and_eq_true]; exact ⟨decide_eq_true (by omega), decide_eq_true (by omega)⟩))
  have HN := Lib.hid (next_yes F w g l p f h hl (m : Nat) m rfl hn)
  have HV := Lib.hid hV
  clear h hn hV
  go_enter Try.func34, Try.ntmps34
  go_wp2_with fail
  refine (HM.out _).mono ?_
  rintro e w' ⟨rfl, rfl⟩
  go_wp2_with fail
  refine HN.out.mono ?_
  rintro x w1 ⟨A, c, rfl, hB, hr, hc⟩
  have HK := Lib.hid (number_any F A m c _ w1 hB h4 V HV.out)
  have HR : Hid (Made F (.int .i64 V) w g l (p + m) 0 f (.returned (.int .i64 V)) w1) := Lib.hid ⟨rfl, hr, hc⟩
  clear hB hr hc HN
  go_wp2_with fail
  refine (HK.out).mono ?_
  rintro e w' ⟨rfl, rfl⟩
  go_wp2_with fail
  go_ret
  exact HR.out

end Go.Proofs.Ythlaglhlmbkniaa
/- A reader's Numbers, where all are there; sameInts of two lists that are the same. -/
namespace Go.Proofs.Ythlaglhlmbkniaa
open Go.RowKit
set_option linter.unusedVariables false
set_option linter.unusedSimpArgs false

theorem RdAt.ch {F G : Nat → Prop} {w w' : World} {g : Nat} {l : List Int} {p : Nat} {e f : Int} (h : RdAt F w g l p e f) (hc : Ch G w w') (hg : ¬ G g) (hF : ∀ k, F k → ¬ G k) : RdAt F w' g l p e f := by
  have hlt := h.lt
  obtain ⟨h1, h2, A, n, cap, h3, h4⟩ := h
  exact ⟨h1, h2, A, n, cap, (hc.block g hlt hg).trans h3, h4.ch hc hF⟩
theorem RdAt.place {F : Nat → Prop} {w : World} {g : Nat} {l : List Int} {p q : Nat} {e f : Int} (h : RdAt F w g l p e f) (hq : p = q) : RdAt F w g l q e f := hq ▸ h
/-- Number j of those that stand at p. -/
def numF (l : List Int) (p k j : Nat) : Int := leV ((l.drop (p + k * j)).take k)
/-- How far Numbers has come. -/
structure Nums (F : Nat → Prop) (w wr : World) (g : Nat) (l : List Int) (p k N gn j : Nat) (f : Int) : Prop where
  r : RdAt F wr g l (p + k * j) 0 f
  c : Cells wr gn 3 N (fun i => .int .i64 (if i < j then numF l p k i else 0))
  ch : Ch (fun i => i = g) w wr
  new : w.heap.size ≤ gn
theorem Nums.frozen {F : Nat → Prop} {w wr : World} {g : Nat} {l : List Int} {p k N gn j : Nat} {f : Int} (h : Nums F w wr g l p k N gn j f) (i : Nat) : wr.frozen? ⟨gn, i, none⟩ = false := h.c.frozen i
def Read (F : Nat → Prop) (w : World) (g : Nat) (l : List Int) (p k N : Nat) (f : Int) (x : Ending) (w' : World) : Prop := ∃ gn, x = .returned (.slice (some ⟨gn, 0, none⟩) N N) ∧ w.heap.size ≤ gn ∧ IAt (fun i => i = gn) w' (some ⟨gn, 0, none⟩) N N (lstF (numF l p k) N) ∧ RdAt F w' g l (p + k * N) 0 f ∧ Ch (fun i => i = g) w w'
set_option maxHeartbeats 1600000 in
theorem numbers_yes (F : Nat → Prop) (w : World) (g : Nat) (l : List Int) (p : Nat) (f : Int) (h : RdAt F w g l p 0 f) (hF : ∀ i, F i → i < w.heap.size) (hl : l.length ≤ 1000000) (N k : Nat) (h1 : 1 ≤ k) (h4 : k ≤ 4) (hN : p + k * N ≤ l.length) : Calls Try.prog 45 #[.pointer (some ⟨g, 0, none⟩), .int .i64 (N : Nat), .int .i64 (k : Nat)] w (Read F w g l p k N f) := by
  obtain ⟨L, hL⟩ : ∃ L, l.length - p = L := ⟨_, rfl⟩
  have H1 := Lib.hid (left_any F w g l p f h L hL hl)
  have H := Lib.hid (fun n => h.drew n)
  have HLT := Lib.hid h.lt
  have HF := Lib.hid hF
  have HN := Lib.hid hN
  have HM := Lib.hid (mayBe_any (k : Nat) true (by rw [Bool.and_eq_true]; exact ⟨decide_eq_true (by omega), decide_eq_true (by omega)⟩))
  obtain ⟨Q, hQ⟩ : ∃ Q, L / k = Q := ⟨_, rfl⟩
  have hNQ : N ≤ Q := by rw [← hQ]; exact (Nat.le_div_iff_mul_le (by omega)).2 (by rw [Nat.mul_comm]; omega)
  have hQL : Q ≤ L := by rw [← hQ]; exact Nat.div_le_self _ _
  have hQi : (L : Int) / (k : Int) = (Q : Int) := by rw [← hQ]; simp
  have hQw : wrap64 (Q : Int) = (Q : Int) := IntWalk.wrap64_in _ (by omega)
  have d1 : decide ((0 : Int) < (k : Int)) = true := decide_eq_true (by omega)
  have d1' : decide (0 < k) = true := decide_eq_true (by omega)
  have d2 : decide ((Q : Int) < (N : Int)) = false := decide_eq_false (by omega)
  have d2' : decide (Q < N) = false := decide_eq_false (by omega)
  have d3 : decide ((N : Int) < 0) = false := decide_eq_false (by omega)
  have d4 : ((k : Int) == 0) = false := by rw [beq_eq_false_iff_ne]; omega
  have hkne : (k : Int) ≠ 0 := by omega
  have hNm : N ≤ 1000000 := by omega
  clear h hF hN hQ hL
  go_enter Try.func45, Try.ntmps45
  go_wp2_with fail
  refine H1.out.mono ?_
  rintro x w1 ⟨rfl, n1, rfl⟩
  go_wp2_with fail
  refine (HM.out _).mono ?_
  rintro e w' ⟨rfl, rfl⟩
  have HB := Lib.hid (bad_any F _ g l p 0 f (H.out n1) true rfl)
  have HR := Lib.hid (H.out n1)
  have HC := Lib.hid (Ch.of_below (F := fun i => i = g) (bdrawn (Below.refl _ w) n1))
  have hsz : (w.drewN n1).heap.size = w.heap.size := rfl
  have HSZ := Lib.hid hsz
  clear hsz
  generalize w.drewN n1 = w1 at *
  obtain ⟨w2, mk, hC2, hb2⟩ := make_ints N w1 hNm
  obtain ⟨gn, hgn⟩ : ∃ gn, w1.heap.size = gn := ⟨_, rfl⟩
  have HS : Hid (Nums F w w2 g l p k N gn 0 f) := Lib.hid ⟨(HR.out.below hb2).place (by omega), by rw [← hgn]; exact hC2.congr fun j hj => by simp, HC.out.less (hb2.mono (by rw [HSZ.out]; exact Nat.le_refl _)), by rw [← hgn, HSZ.out]; exact Nat.le_refl _⟩
  rw [hgn] at mk
  clear hC2 hb2 d1 d1' d2 d2' d3 H H1 hQi hQw d4
  go_wp2_with fail
  refine (HB.out).mono ?_
  rintro e w' ⟨rfl, rfl⟩
  go_wp2_with fail
  go_loopw [44] (fun i wr => ∃ j : Nat, i = .int .i64 j ∧ j ≤ N ∧ Hid (Nums F w wr g l p k N gn j f)) (fun i _ => N - (intOf i).toNat)
  case atStart => exact ⟨0, rfl, by omega, HS⟩
  case round =>
    obtain ⟨j, rfl, hj, HI⟩ := hrel
    by_cases hlt : j < N
    · have hkj : p + k * j + k ≤ l.length := by
        have h1 : k * (j + 1) ≤ k * N := Nat.mul_le_mul_left k hlt
        have h2 := HN.out
        rw [Nat.mul_succ] at h1
        omega
      obtain ⟨V, hV⟩ : ∃ V, numF l p k j = V := ⟨_, rfl⟩
      have HK := Lib.hid (read_yes F wr g l _ f HI.out.r hl (k : Nat) k rfl h1 h4 hkj V hV)
      have HV := Lib.hid hV
      clear hkj hV
      go_wp2_with fail
      refine HK.out.mono ?_
      rintro e w3 ⟨rfl, hr, hc⟩
      have hgw : g < gn := Nat.lt_of_lt_of_le HLT.out HI.out.new
      have hC3 : Cells w3 gn 3 N _ := HI.out.c.block (hc.block gn HI.out.c.lt (by omega))
      have c3 := hC3.cell j hlt
      have f3 := hC3.frozen j
      have HI3 : Hid (Nums F w (w3.setCell ⟨gn, j, none⟩ (.int .i64 V)) g l p k N gn (j + 1) f) := Lib.hid (by
        have hcs : Ch (fun i => i = gn) w3 (w3.setCell ⟨gn, j, none⟩ (.int .i64 V)) := Ch.set w3 gn j _ rfl
        refine ⟨((hr.ch hcs (by omega) fun i hi => by have := HF.out i hi; have := HI.out.new; omega).place (by rw [Nat.mul_succ]; omega)), (hC3.set j (.int .i64 V)).congr fun i hi => ?_, (HI.out.ch.then hc).trans hcs fun i hi => Or.inr (by rw [hi]; exact HI.out.new), HI.out.new⟩
        unfold upd
        by_cases e : i = j
        · subst e
          rw [if_pos rfl, if_pos (by omega), HV.out]
        · rw [if_neg e]
          dsimp only
          by_cases e2 : i < j
          · rw [if_pos e2, if_pos (by omega)]
          · rw [if_neg e2, if_neg (by omega)])
      clear hr hc hC3 hgw HI HK HV
      go_wp2_with fail
      go_roundw
      case rel => exact ⟨j + 1, by go_num, by omega, HI3⟩
      case measure => simp [intOf]; omega
    · have hjN : j = N := by omega
      have HR : Hid (Read F w g l p k N f (.returned (.slice (some ⟨gn, 0, none⟩) N N)) wr) := Lib.hid (by
        have h := HI.out
        rw [hjN] at h
        refine ⟨gn, rfl, h.new, ?_, h.r, h.ch⟩
        exact IAt.of_cells (h.c.congr fun i hi => by rw [if_pos hi]) (by unfold maxLen; omega))
      clear hjN HI
      go_wp2_with fail
      go_ret
      exact HR.out
end Go.Proofs.Ythlaglhlmbkniaa
/- A reader's calls, whatever its state: what each makes of it. -/
namespace Go.Proofs.Ythlaglhlmbkniaa
open Go.RowKit
set_option linter.unusedVariables false
set_option linter.unusedSimpArgs false
set_option maxRecDepth 100000

/-- A reader in block g, over the bytes l, in the state s. -/
def RS (F : Nat → Prop) (w : World) (g : Nat) (l : List Int) (s : Rst) : Prop := RdAt F w g l s.p s.e s.f
theorem RS.below {F : Nat → Prop} {w w' : World} {g : Nat} {l : List Int} {s : Rst} (h : RS F w g l s) (hb : Below w.heap.size w w') : RS F w' g l s := RdAt.below h hb
theorem RS.drew {F : Nat → Prop} {w : World} {g : Nat} {l : List Int} {s : Rst} (h : RS F w g l s) (n : Nat) : RS F (w.drewN n) g l s := RdAt.drew h n
theorem RS.lt {F : Nat → Prop} {w : World} {g : Nat} {l : List Int} {s : Rst} (h : RS F w g l s) : g < w.heap.size := RdAt.lt h
theorem RS.fit {F : Nat → Prop} {w : World} {g : Nat} {l : List Int} {s : Rst} (h : RS F w g l s) : s.p ≤ l.length := RdAt.fit h
theorem RS.ch {F G : Nat → Prop} {w w' : World} {g : Nat} {l : List Int} {s : Rst} (h : RS F w g l s) (hc : Ch G w w') (hg : ¬ G g) (hF : ∀ k, F k → ¬ G k) : RS F w' g l s := RdAt.ch h hc hg hF
/-- What a call on reader g leaves: v answered, that reader's block alone changed. -/
def Got (F : Nat → Prop) (v : Value) (w : World) (g : Nat) (l : List Int) (s : Rst) (x : Ending) (w' : World) : Prop := x = .returned v ∧ RS F w' g l s ∧ Ch (fun k => k = g) w w'
theorem Got.looks {F : Nat → Prop} {v : Value} {w : World} {g : Nat} {l : List Int} {s : Rst} (h : RS F w g l s) {x : Ending} {w' : World} (hl : Looks v w x w') : Got F v w g l s x w' := by
  obtain ⟨rfl, n, rfl⟩ := hl
  exact ⟨rfl, h.drew n, Ch.of_below (bdrawn (Below.refl _ _) n)⟩
theorem num_any (F : Nat → Prop) (w : World) (g : Nat) (l : List Int) (s : Rst) (h : Hid (RS F w g l s)) (hl : l.length ≤ 1000000) (n : Int) (m : Nat) (hm : n = m) (h1 : 1 ≤ m) (h4 : m ≤ 4) :
    Calls Try.prog 34 #[.pointer (some ⟨g, 0, none⟩), .int .i64 n] w (Got F (.int .i64 (numV l s m)) w g l (takS l s m)) := by
  by_cases he : s.e = 0
  · have hr : RdAt F w g l s.p 0 s.f := by have := h.out; unfold RS at this; rwa [he] at this
    by_cases hn : s.p + m ≤ l.length
    · rw [takS_yes he hn]
      unfold numV
      rw [takB_yes he hn]
      refine (read_yes F w g l s.p s.f hr hl n m hm h1 h4 hn _ rfl).mono ?_
      rintro x w' ⟨rfl, k1, k2⟩
      exact ⟨rfl, k1, k2⟩
    · rw [takS_no he hn]
      unfold numV
      rw [takB_no he hn]
      refine (read_no F w g l s.p s.f hr hl n (by omega) (by omega) (by omega)).mono ?_
      rintro x w' ⟨rfl, k1, k2⟩
      exact ⟨rfl, k1, k2⟩
  · rw [takS_bad he, numV_bad he]
    exact (read_bad F w g l s.p s.e s.f h.out he n (by omega) (by omega)).mono fun x w' hx => Got.looks h.out hx
/-- Bytes of its own are answered. -/
def GotB (F : Nat → Prop) (b : List Int) (w : World) (g : Nat) (l : List Int) (s : Rst) (x : Ending) (w' : World) : Prop := ∃ A n c, x = .returned (.slice A n c) ∧ BAt8 (fun k => w.heap.size ≤ k) w' A n c b ∧ RS F w' g l s ∧ Ch (fun k => k = g) w w'
theorem take_badN (F : Nat → Prop) (w : World) (g : Nat) (l : List Int) (p : Nat) (e f : Int) (h : RdAt F w g l p e f) (he : e ≠ 0) (n : Int) : Calls Try.prog 33 #[.pointer (some ⟨g, 0, none⟩), .int .i64 n] w (Took F w g 0 [] l p e f) := by
  by_cases h0 : n = 0
  · subst h0; exact take_bad F w g l p e f h he
  by_cases hneg : n < 0
  · have H1 := Lib.hid (at_any F w g l p e f h)
    have H2 := Lib.hid (fun x y => fail_old F w g l p e f h he x y)
    have HR : Hid (Took F w g 0 [] l p e f (.returned (.slice none 0 0)) w) := Lib.hid ⟨none, 0, rfl, BAt8.empty _ _, h, Ch.refl _ _⟩
    have d : decide (n < 0) = true := decide_eq_true hneg
    clear h he h0 hneg
    go_enter Try.func33, Try.ntmps33
    go_wp2_with fail
    refine (H1.out).mono ?_
    rintro e w' ⟨rfl, rfl⟩
    go_wp2_with fail
    refine (H2.out _ _).mono ?_
    rintro e w' ⟨rfl, rfl⟩
    go_wp2_with fail
    go_ret
    exact HR.out
  · have HN := Lib.hid (next_bad F w g l p e f h he n (by omega))
    have H := Lib.hid h
    have d : decide (n < 0) = false := decide_eq_false hneg
    clear h he hneg
    go_enter Try.func33, Try.ntmps33
    go_wp2_with fail
    refine HN.out.mono ?_
    rintro x w1 ⟨rfl, k, rfl⟩
    go_wp2_with fail
    refine (clone_any (fun _ => False) none 0 0 [] _ (BAt8.empty _ _) (by decide)).mono ?_
    rintro x w2 ⟨A, c, rfl, hB, hb⟩
    have hb2 : Below w.heap.size w w2 := (bdrawn (Below.refl _ _) k).trans hb
    have HR : Hid (Took F w g 0 [] l p e f (.returned (.slice A 0 c)) w2) := Lib.hid ⟨A, c, rfl, hB, H.out.below hb2, Ch.of_below hb2⟩
    clear hB hb hb2
    go_wp2_with fail
    go_ret
    exact HR.out
/-- Take of n bytes; a negative n is asked of a reader with a fault alone. -/
theorem take_any (F : Nat → Prop) (w : World) (g : Nat) (l : List Int) (s : Rst) (h : Hid (RS F w g l s)) (hl : l.length ≤ 1000000) (n : Int) (hn0 : s.e ≠ 0 ∨ 0 ≤ n) :
    Calls Try.prog 33 #[.pointer (some ⟨g, 0, none⟩), .int .i64 n] w (GotB F (takB l s n.toNat) w g l (takS l s n.toNat)) := by
  by_cases he : s.e = 0
  · have hr : RdAt F w g l s.p 0 s.f := by have := h.out; unfold RS at this; rwa [he] at this
    have hn1 : 0 ≤ n := hn0.resolve_left (fun x => x he)
    by_cases hn : s.p + n.toNat ≤ l.length
    · rw [takS_yes he hn, takB_yes he hn]
      refine (take_yes F w g l s.p s.f hr hl n n.toNat (by omega) hn).mono ?_
      rintro x w' ⟨A, c, rfl, k1, k2, k3⟩
      exact ⟨A, _, c, rfl, k1, k2, k3⟩
    · rw [takS_no he hn, takB_no he hn]
      refine (take_no F w g l s.p s.f hr hl n (by have := hr.fit; omega)).mono ?_
      rintro x w' ⟨A, c, rfl, k1, k2, k3⟩
      exact ⟨A, _, c, rfl, k1, k2, k3⟩
  · rw [takS_bad he, takB_bad he]
    refine (take_badN F w g l s.p s.e s.f h.out he n).mono ?_
    rintro x w' ⟨A, c, rfl, k1, k2, k3⟩
    exact ⟨A, _, c, rfl, k1, k2, k3⟩
/-- How many bytes are left, of a reader in such a state. -/
def leftN (l : List Int) (s : Rst) : Nat := if s.e = 0 then l.length - s.p else 0
theorem left_s (F : Nat → Prop) (w : World) (g : Nat) (l : List Int) (s : Rst) (h : Hid (RS F w g l s)) (hl : l.length ≤ 1000000) (L : Nat) (hL : leftN l s = L) : Calls Try.prog 35 #[.pointer (some ⟨g, 0, none⟩)] w (Looks (.int .i64 (L : Nat)) w) := by
  unfold leftN at hL
  by_cases he : s.e = 0
  · rw [if_pos he] at hL
    have hr : RdAt F w g l s.p 0 s.f := by have := h.out; unfold RS at this; rwa [he] at this
    exact left_any F w g l s.p s.f hr L hL hl
  · rw [if_neg he] at hL
    subst hL
    exact left_bad F w g l s.p s.e s.f h.out he
theorem at_s (F : Nat → Prop) (w : World) (g : Nat) (l : List Int) (s : Rst) (h : Hid (RS F w g l s)) : Calls Try.prog 37 #[.pointer (some ⟨g, 0, none⟩)] w fun x w' => x = .returned (.int .i64 (s.p : Nat)) ∧ w = w' := at_any F w g l s.p s.e s.f h.out
theorem bad_s (F : Nat → Prop) (w : World) (g : Nat) (l : List Int) (s : Rst) (h : Hid (RS F w g l s)) (q : Bool) (hq : (s.e == 0) = q) : Calls Try.prog 39 #[.pointer (some ⟨g, 0, none⟩)] w fun x w' => x = .returned (.bool (!q)) ∧ w = w' := bad_any F w g l s.p s.e s.f h.out q hq
theorem fail_any (F : Nat → Prop) (w : World) (g : Nat) (l : List Int) (s : Rst) (h : Hid (RS F w g l s)) (x y : Int) (hx : x ≠ 0) : Calls Try.prog 36 #[.pointer (some ⟨g, 0, none⟩), .int .i64 x, .int .i64 y] w (Got F (.tuple #[]) w g l (failS s x y)) := by
  by_cases he : s.e = 0
  · have hr : RdAt F w g l s.p 0 s.f := by have := h.out; unfold RS at this; rwa [he] at this
    rw [failS_ok he]
    refine (fail_new F w g l s.p s.f hr x y hx).mono ?_
    rintro x w' ⟨rfl, k1, k2⟩
    exact ⟨rfl, k1, k2⟩
  · rw [failS_bad he]
    refine (fail_old F w g l s.p s.e s.f h.out he x y).mono ?_
    rintro x w' ⟨rfl, rfl⟩
    exact ⟨rfl, h.out, Ch.refl _ _⟩
/-- Numbers of its own are answered. -/
def GotI (F : Nat → Prop) (w : World) (g : Nat) (l : List Int) (s : Rst) (x : Ending) (w' : World) : Prop := ∃ A n c ts, x = .returned (.slice A n c) ∧ IAt (fun k => w.heap.size ≤ k) w' A n c ts ∧ RS F w' g l s ∧ Ch (fun k => k = g) w w'
set_option maxHeartbeats 1600000 in
theorem numbers_bad (F : Nat → Prop) (w : World) (g : Nat) (l : List Int) (p : Nat) (e f : Int) (h : RdAt F w g l p e f) (he : e ≠ 0) (N k : Nat) (h1 : 1 ≤ k) (h4 : k ≤ 4) : Calls Try.prog 45 #[.pointer (some ⟨g, 0, none⟩), .int .i64 (N : Nat), .int .i64 (k : Nat)] w (Looks (.slice none 0 0) w) := by
  have H1 := Lib.hid (left_bad F w g l p e f h he)
  have H := Lib.hid (fun n => h.drew n)
  have HE := Lib.hid he
  have HM := Lib.hid (mayBe_any (k : Nat) true (by rw [Bool.and_eq_true]; exact ⟨decide_eq_true (by omega), decide_eq_true (by omega)⟩))
  have hQi : (0 : Int) / (k : Int) = 0 := Int.zero_ediv _
  have hQw : wrap64 (0 : Int) = 0 := IntWalk.wrap64_in _ (by omega)
  have d1 : decide ((0 : Int) < (k : Int)) = true := decide_eq_true (by omega)
  have d1' : decide (0 < k) = true := decide_eq_true (by omega)
  have d3 : decide ((N : Int) < 0) = false := decide_eq_false (by omega)
  have d4 : ((k : Int) == 0) = false := by rw [beq_eq_false_iff_ne]; omega
  have hkne : (k : Int) ≠ 0 := by omega
  clear h he
  by_cases hN : 0 < N
  · have d2 : decide ((0 : Int) < (N : Int)) = true := decide_eq_true (by omega)
    have d2' : decide (0 < N) = true := decide_eq_true hN
    go_enter Try.func45, Try.ntmps45
    go_wp2_with fail
    refine H1.out.mono ?_
    rintro x w1 ⟨rfl, n1, rfl⟩
    have H2 := Lib.hid (at_any F _ g l p e f (H.out n1))
    have H3 := Lib.hid (fun x y => fail_old F _ g l p e f (H.out n1) HE.out x y)
    have H4 := Lib.hid (bad_any F _ g l p e f (H.out n1) false (by simpa using HE.out))
    go_wp2_with fail
    refine (H2.out).mono ?_
    rintro e w' ⟨rfl, rfl⟩
    go_wp2_with fail
    refine (H3.out _ _).mono ?_
    rintro e w' ⟨rfl, rfl⟩
    go_wp2_with fail
    refine (HM.out _).mono ?_
    rintro e w' ⟨rfl, rfl⟩
    go_wp2_with fail
    refine (H4.out).mono ?_
    rintro e w' ⟨rfl, rfl⟩
    go_wp2_with fail
    go_ret
    exact ⟨rfl, n1, rfl⟩
  · have d2 : decide ((0 : Int) < (N : Int)) = false := decide_eq_false (by omega)
    have d2' : decide (0 < N) = false := decide_eq_false hN
    go_enter Try.func45, Try.ntmps45
    go_wp2_with fail
    refine H1.out.mono ?_
    rintro x w1 ⟨rfl, n1, rfl⟩
    have H4 := Lib.hid (bad_any F _ g l p e f (H.out n1) false (by simpa using HE.out))
    go_wp2_with fail
    refine (HM.out _).mono ?_
    rintro e w' ⟨rfl, rfl⟩
    go_wp2_with fail
    refine (H4.out).mono ?_
    rintro e w' ⟨rfl, rfl⟩
    go_wp2_with fail
    go_ret
    exact ⟨rfl, n1, rfl⟩
set_option maxHeartbeats 1600000 in
theorem numbers_no (F : Nat → Prop) (w : World) (g : Nat) (l : List Int) (p : Nat) (f : Int) (h : RdAt F w g l p 0 f) (hl : l.length ≤ 1000000) (N k : Nat) (h1 : 1 ≤ k) (h4 : k ≤ 4) (hN : ¬ p + k * N ≤ l.length) : Calls Try.prog 45 #[.pointer (some ⟨g, 0, none⟩), .int .i64 (N : Nat), .int .i64 (k : Nat)] w (Made F (.slice none 0 0) w g l p 2 (p : Nat)) := by
  obtain ⟨L, hL⟩ : ∃ L, l.length - p = L := ⟨_, rfl⟩
  have hp := h.fit
  have H1 := Lib.hid (left_any F w g l p f h L hL hl)
  have H := Lib.hid (fun n => h.drew n)
  have HM := Lib.hid (mayBe_any (k : Nat) true (by rw [Bool.and_eq_true]; exact ⟨decide_eq_true (by omega), decide_eq_true (by omega)⟩))
  obtain ⟨Q, hQ⟩ : ∃ Q, L / k = Q := ⟨_, rfl⟩
  have hNQ : Q < N := by
    rw [← hQ]
    refine (Nat.div_lt_iff_lt_mul (by omega)).2 ?_
    rw [Nat.mul_comm]; omega
  have hQL : Q ≤ L := by rw [← hQ]; exact Nat.div_le_self _ _
  have hQi : (L : Int) / (k : Int) = (Q : Int) := by rw [← hQ]; simp
  have hQw : wrap64 (Q : Int) = (Q : Int) := IntWalk.wrap64_in _ (by omega)
  have d1 : decide ((0 : Int) < (k : Int)) = true := decide_eq_true (by omega)
  have d1' : decide (0 < k) = true := decide_eq_true (by omega)
  have d2 : decide ((Q : Int) < (N : Int)) = true := decide_eq_true (by omega)
  have d2' : decide (Q < N) = true := decide_eq_true (by omega)
  have d3 : decide ((N : Int) < 0) = false := decide_eq_false (by omega)
  have d4 : ((k : Int) == 0) = false := by rw [beq_eq_false_iff_ne]; omega
  have hkne : (k : Int) ≠ 0 := by omega
  clear h hN hQ hL hp hNQ hQL
  go_enter Try.func45, Try.ntmps45
  go_wp2_with fail
  refine H1.out.mono ?_
  rintro x w1 ⟨rfl, n1, rfl⟩
  have H2 := Lib.hid (at_any F _ g l p 0 f (H.out n1))
  have H3 := Lib.hid (fail_new F _ g l p f (H.out n1) 2 (p : Nat) (by decide))
  go_wp2_with fail
  refine (H2.out).mono ?_
  rintro e w' ⟨rfl, rfl⟩
  go_wp2_with fail
  refine H3.out.mono ?_
  rintro x w2 ⟨rfl, hr, hc⟩
  have H4 := Lib.hid (bad_any F _ g l p 2 (p : Nat) hr false rfl)
  have HR : Hid (Made F (.slice none 0 0) w g l p 2 (p : Nat) (.returned (.slice none 0 0)) w2) := Lib.hid ⟨rfl, hr, (Ch.of_below (bdrawn (Below.refl _ _) n1)).then hc⟩
  clear hr hc H3 H2
  go_wp2_with fail
  refine (HM.out _).mono ?_
  rintro e w' ⟨rfl, rfl⟩
  go_wp2_with fail
  refine (H4.out).mono ?_
  rintro e w' ⟨rfl, rfl⟩
  go_wp2_with fail
  go_ret
  exact HR.out
theorem nums_any (F : Nat → Prop) (w : World) (g : Nat) (l : List Int) (s : Rst) (h : Hid (RS F w g l s)) (hF : Hid (∀ i, F i → i < w.heap.size)) (hl : l.length ≤ 1000000) (N k : Nat) (h1 : 1 ≤ k) (h4 : k ≤ 4) :
    Calls Try.prog 45 #[.pointer (some ⟨g, 0, none⟩), .int .i64 (N : Nat), .int .i64 (k : Nat)] w (GotI F w g l (takS l s (k * N))) := by
  by_cases he : s.e = 0
  · have hr : RdAt F w g l s.p 0 s.f := by have := h.out; unfold RS at this; rwa [he] at this
    by_cases hn : s.p + k * N ≤ l.length
    · rw [takS_yes he hn]
      refine (numbers_yes F w g l s.p s.f hr hF.out hl N k h1 h4 hn).mono ?_
      rintro x w' ⟨gn, rfl, k0, k1, k2, k3⟩
      exact ⟨_, _, _, _, rfl, k1.weak fun i _ hi => by rw [hi]; exact k0, k2, k3⟩
    · rw [takS_no he hn]
      refine (numbers_no F w g l s.p s.f hr hl N k h1 h4 hn).mono ?_
      rintro x w' ⟨rfl, k1, k2⟩
      exact ⟨none, 0, 0, [], rfl, IAt.empty _ _, k1, k2⟩
  · rw [takS_bad he]
    refine (numbers_bad F w g l s.p s.e s.f h.out he N k h1 h4).mono ?_
    rintro x w' ⟨rfl, n, rfl⟩
    exact ⟨none, 0, 0, [], rfl, IAt.empty _ _, h.out.drew n, Ch.of_below (bdrawn (Below.refl _ _) n)⟩
/-- A number with a sign. -/
theorem signed_any (F : Nat → Prop) (w : World) (g : Nat) (l : List Int) (s : Rst) (h : Hid (RS F w g l s)) (hl : l.length ≤ 1000000) :
    Calls Try.prog 50 #[.pointer (some ⟨g, 0, none⟩)] w (fun x w' => ∃ v, Got F (.int .i64 v) w g l (takS l s 2) x w') := by
  have H := Lib.hid (num_any F w g l s h hl 2 2 rfl (by decide) (by decide))
  clear h
  go_enter Try.func50, Try.ntmps50
  go_wp2_with fail
  refine H.out.mono ?_
  rintro x w1 ⟨rfl, hr, hc⟩
  have HR := Lib.hid (And.intro hr hc)
  clear hr hc
  go_wp2_with fail
  go_ret
  exact ⟨_, rfl, HR.out.1, HR.out.2⟩

end Go.Proofs.Ythlaglhlmbkniaa
/- Which block of some doesn't fit the others, and why: by definition. No program is named here. -/
namespace Go.Proofs.Ythlaglhlmbkniaa
open Go.RowKit
set_option linter.unusedVariables false

/-- What of a block its place beside others hangs on: its ID, its Times, its items' N. -/
structure Lb where
  id : Int
  ts : List Int
  ns : List Int
instance : Inhabited Lb := ⟨⟨0, [], []⟩⟩
def gL (L : List Lb) (j : Nat) : Lb := L.getD j default
theorem gL_left (a b : List Lb) (j : Nat) (h : j < a.length) : gL (a ++ b) j = gL a j := by
  unfold gL
  rw [List.getD_eq_getElem?_getD, List.getD_eq_getElem?_getD, List.getElem?_append_left h]
theorem gL_last (a : List Lb) (b : Lb) (j : Nat) (h : j = a.length) : gL (a ++ [b]) j = b := by
  subst h
  unfold gL
  rw [List.getD_eq_getElem?_getD, List.getElem?_append_right (Nat.le_refl _), Nat.sub_self]
  rfl
/-- Is one begun, and not ended, ahead of block i? -/
def openF (L : List Lb) (b e : Int) : Nat → Bool
  | 0 => false
  | i + 1 => if (gL L i).id = b then true else if (gL L i).id = e then false else openF L b e i
def laterP (L : List Lb) (e : Int) (i : Nat) : Prop := ∃ j, i < j ∧ j < L.length ∧ (gL L j).id = e
def loopBad (L : List Lb) (b e : Int) (i : Nat) : Prop := ((gL L i).id = b ∧ (openF L b e i = true ∨ ¬ laterP L e i)) ∨ ((gL L i).id = e ∧ openF L b e i = false)
def away (n i : Nat) (x : Int) : Prop := x < -(i : Int) ∨ (n : Int) - i ≤ x
/-- Does such a block i of n lead to none of them? -/
def farB (b : Lb) (n i : Nat) : Prop := ((b.id = 35 ∨ b.id = 38) ∧ ∃ j, j < b.ts.length ∧ away n i (gI b.ts j)) ∨ (b.id = 40 ∧ ∃ j, j < b.ns.length ∧ away n i (gI b.ns j))
def farBad (L : List Lb) (i : Nat) : Prop := farB (gL L i) L.length i
open Classical in
/-- What is wrong with block i: nothing, if it is 0. -/
noncomputable def wrongF (L : List Lb) (i : Nat) : Int := if loopBad L 36 37 i ∨ loopBad L 33 34 i then 6 else if farBad L i then 5 else 0
theorem wrong_loop {L : List Lb} {i : Nat} (h : loopBad L 36 37 i ∨ loopBad L 33 34 i) : wrongF L i = 6 := by unfold wrongF; rw [if_pos h]
theorem wrong_far {L : List Lb} {i : Nat} (h1 : ¬ loopBad L 36 37 i) (h2 : ¬ loopBad L 33 34 i) (h : farBad L i) : wrongF L i = 5 := by unfold wrongF; rw [if_neg (fun x => x.elim h1 h2), if_pos h]
theorem wrong_no {L : List Lb} {i : Nat} (h1 : ¬ loopBad L 36 37 i) (h2 : ¬ loopBad L 33 34 i) (h : ¬ farBad L i) : wrongF L i = 0 := by unfold wrongF; rw [if_neg (fun x => x.elim h1 h2), if_neg h]
theorem wrong_in (L : List Lb) (i : Nat) : wrongF L i = 0 ∨ wrongF L i = 5 ∨ wrongF L i = 6 := by
  unfold wrongF
  split
  · exact Or.inr (Or.inr rfl)
  · split
    · exact Or.inr (Or.inl rfl)
    · exact Or.inl rfl
/-- The first block of which something is wrong, and what; 0 and 0, if there is none. -/
def SoundIs (L : List Lb) (r : Nat) (e : Int) : Prop := (∀ j, j < r → wrongF L j = 0) ∧ ((r < L.length ∧ wrongF L r = e ∧ e ≠ 0) ∨ (e = 0 ∧ r = 0 ∧ ∀ j, j < L.length → wrongF L j = 0))
theorem SoundIs.one {L : List Lb} {r r' : Nat} {e e' : Int} (h : SoundIs L r e) (h' : SoundIs L r' e') : r = r' ∧ e = e' := by
  obtain ⟨a1, a2⟩ := h
  obtain ⟨b1, b2⟩ := h'
  rcases a2 with ⟨a2, a3, a4⟩ | ⟨a2, a3, a4⟩ <;> rcases b2 with ⟨b2, b3, b4⟩ | ⟨b2, b3, b4⟩
  · have : r = r' := by
      rcases Nat.lt_trichotomy r r' with x | x | x
      · exact absurd (a3.symm.trans (b1 r x)) a4
      · exact x
      · exact absurd (b3.symm.trans (a1 r' x)) b4
    subst this
    exact ⟨rfl, a3.symm.trans b3⟩
  · exact absurd (a3.symm.trans (b4 r a2)) a4
  · exact absurd (b3.symm.trans (a4 r' b2)) b4
  · exact ⟨a3.trans b3.symm, a2.trans b2.symm⟩
theorem SoundIs.lone {b : Lb} {r : Nat} {e : Int} (h : SoundIs [b] r e) (hb : b.id = 37) : r = 0 ∧ e = 6 := by
  refine h.one ⟨fun j hj => absurd hj (by omega), Or.inl ⟨by simp, wrong_loop (Or.inl (Or.inr ⟨hb, rfl⟩)), by decide⟩⟩
theorem SoundIs.nil {r : Nat} {e : Int} (h : SoundIs [] r e) : e = 0 := by
  rcases h.2 with ⟨h1, _⟩ | ⟨h1, _⟩
  · simp at h1
  · exact h1
theorem SoundIs.kind {L : List Lb} {r : Nat} {e : Int} (h : SoundIs L r e) : e = 0 ∨ (r < L.length ∧ (e = 5 ∨ e = 6)) := by
  rcases h.2 with ⟨h1, h2, h3⟩ | ⟨h1, _⟩
  · have := wrong_in L r
    rw [h2] at this
    exact Or.inr ⟨h1, this.resolve_left h3⟩
  · exact Or.inl h1
/-- The number of the last block of an ID, or -1. -/
def LastIs (L : List Lb) (id r : Int) : Prop := (r = -1 ∧ ∀ j, j < L.length → (gL L j).id ≠ id) ∨ (∃ k : Nat, r = k ∧ k < L.length ∧ (gL L k).id = id ∧ ∀ j, k < j → j < L.length → (gL L j).id ≠ id)
/-- May block i, of such an ID, stand where one is begun, or none? And is one behind it? -/
def fitF (b e last : Int) (o : Bool) (i id : Int) : Bool × Bool := if id = b then (if o = true ∨ last < i then (false, o) else (true, true)) else if id = e then (if o = true then (true, false) else (false, false)) else (true, o)
theorem fit_is {L : List Lb} {b e last : Int} {i : Nat} (hbe : b ≠ e) (hi : i < L.length) (hl : LastIs L e last) :
    ((fitF b e last (openF L b e i) i (gL L i).id).1 = false → loopBad L b e i) ∧ ((fitF b e last (openF L b e i) i (gL L i).id).1 = true → ¬ loopBad L b e i ∧ (fitF b e last (openF L b e i) i (gL L i).id).2 = openF L b e (i + 1)) := by
  have hlater : (gL L i).id = b → ((last < (i : Int)) ↔ ¬ laterP L e i) := fun hid => by
    rcases hl with ⟨h1, h2⟩ | ⟨k, h1, h2, h3, h4⟩
    · refine ⟨fun _ => ?_, fun _ => by omega⟩
      rintro ⟨j, _, h5, h6⟩
      exact h2 j h5 h6
    · refine ⟨fun h5 => ?_, fun h5 => ?_⟩
      · rintro ⟨j, h6, h7, h8⟩
        exact h4 j (by omega) h7 h8
      · refine Classical.byContradiction fun h6 => h5 ⟨k, ?_, h2, h3⟩
        have : k ≠ i := fun x => hbe (by rw [← hid, ← x, h3])
        omega
  unfold fitF
  by_cases h1 : (gL L i).id = b
  · rw [if_pos h1]
    by_cases h2 : openF L b e i = true ∨ last < (i : Int)
    · rw [if_pos h2]
      refine ⟨fun _ => Or.inl ⟨h1, h2.imp id (hlater h1).1⟩, fun x => by cases x⟩
    · rw [if_neg h2]
      refine ⟨fun x => (by cases x), fun _ => ⟨?_, ?_⟩⟩
      · rintro (⟨_, h3⟩ | ⟨h3, _⟩)
        · exact h2 (h3.imp id (hlater h1).2)
        · exact hbe (h1.symm.trans h3)
      · show true = openF L b e (i + 1)
        rw [openF, if_pos h1]
  · rw [if_neg h1]
    by_cases h2 : (gL L i).id = e
    · rw [if_pos h2]
      by_cases h3 : openF L b e i = true
      · rw [if_pos h3]
        refine ⟨fun x => (by cases x), fun _ => ⟨?_, ?_⟩⟩
        · rintro (⟨h4, _⟩ | ⟨_, h4⟩)
          · exact h1 h4
          · rw [h3] at h4; cases h4
        · show false = openF L b e (i + 1)
          rw [openF, if_neg h1, if_pos h2]
      · rw [if_neg h3]
        refine ⟨fun _ => Or.inr ⟨h2, by simpa using h3⟩, fun x => by cases x⟩
    · rw [if_neg h2]
      refine ⟨fun x => (by cases x), fun _ => ⟨?_, ?_⟩⟩
      · rintro (⟨h4, _⟩ | ⟨h4, _⟩)
        · exact h1 h4
        · exact h2 h4
      · show openF L b e i = openF L b e (i + 1)
        rw [openF, if_neg h1, if_neg h2]

end Go.Proofs.Ythlaglhlmbkniaa
/- How a file's blocks are gone through, whatever a block makes of a reader's state. No program is named here. -/
namespace Go.Proofs.Ythlaglhlmbkniaa
open Go.RowKit
set_option linter.unusedVariables false

/-- The state behind n blocks. -/
def itS (blk : Rst → Rst) (s0 : Rst) : Nat → Rst
  | 0 => s0
  | n + 1 => blk (itS blk s0 n)
/-- Block n is read. -/
def onS (blk : Rst → Rst) (l : List Int) (s0 : Rst) (n : Nat) : Prop := (itS blk s0 n).e = 0 ∧ (itS blk s0 n).p < l.length ∧ n ≠ 4096
def Ends (blk : Rst → Rst) (l : List Int) (s0 : Rst) (n : Nat) : Prop := (∀ k, k < n → onS blk l s0 k) ∧ ¬ onS blk l s0 n
theorem Ends.one {blk : Rst → Rst} {l : List Int} {s0 : Rst} {n n' : Nat} (h : Ends blk l s0 n) (h' : Ends blk l s0 n') : n = n' := by
  rcases Nat.lt_trichotomy n n' with x | x | x
  · exact absurd (h'.1 n x) h.2
  · exact x
  · exact absurd (h.1 n' x) h'.2
/-- Block 4,097 is one too many. -/
def finS (l : List Int) (s : Rst) : Rst := if s.e = 0 ∧ s.p < l.length then ⟨s.p, 8, s.p⟩ else s
/-- What comes of a file. -/
inductive Out
  | ok (M m : Int) (n : Nat)
  | er (e f : Int)
def sgn : List Int := [90, 88, 84, 97, 112, 101, 33, 26]
/-- The state ahead of the first block. -/
def s0F (l : List Int) : Rst := takS l (takS l (takS l ⟨0, 0, 0⟩ 8) 1) 1
def maj (l : List Int) : Int := numV l (takS l ⟨0, 0, 0⟩ 8) 1
def mnr (l : List Int) : Int := numV l (takS l (takS l ⟨0, 0, 0⟩ 8) 1) 1
/-- The state behind all blocks, held against one another. -/
def endS (blk : Rst → Rst) (l : List Int) (n r : Nat) (e : Int) : Rst := if e = 0 then finS l (itS blk (s0F l) n) else failS (finS l (itS blk (s0F l) n)) e (itS blk (s0F l) r).p
def TapeIs (blk : Rst → Rst) (l : List Int) (n : Nat) (s : Rst) : Prop := ∃ L r e, Ends blk l (s0F l) n ∧ L.length = n ∧ (∀ k, k < n → (gL L k).id = gI l (itS blk (s0F l) k).p) ∧ SoundIs L r e ∧ s = endS blk l n r e
theorem TapeIs.full {blk : Rst → Rst} {l : List Int} {n : Nat} {s : Rst} (h : TapeIs blk l n s) (h0 : s.e = 0) : l.length ≤ s.p := by
  obtain ⟨L, r, e, h1, h2, h3, h4, h5⟩ := h
  unfold endS at h5
  by_cases he : e = 0
  · rw [if_pos he] at h5
    subst h5
    unfold finS at h0 ⊢
    by_cases hc : (itS blk (s0F l) n).e = 0 ∧ (itS blk (s0F l) n).p < l.length
    · rw [if_pos hc] at h0
      cases h0
    · rw [if_neg hc] at h0 ⊢
      refine Classical.byContradiction fun x => hc ⟨h0, by omega⟩
  · rw [if_neg he] at h5
    subst h5
    unfold failS at h0
    split at h0
    · rename_i x; exact absurd h0 x
    · exact absurd h0 he
def OutIs (blk : Rst → Rst) (l : List Int) (o : Out) : Prop := (l.take 8 ≠ sgn ∧ o = .er 3 0) ∨ (l.take 8 = sgn ∧ ∃ n s, TapeIs blk l n s ∧ ((s.e = 0 ∧ o = .ok (maj l) (mnr l) n) ∨ (s.e ≠ 0 ∧ o = .er s.e s.f)))

/-! The two files of the chapter's example. -/
def headL : List Int := [90, 88, 84, 97, 112, 101, 33, 26, 1, 20]
theorem out_head {blk : Rst → Rst} {o : Out} (h : OutIs blk headL o) : o = .ok 1 20 0 := by
  rcases h with ⟨h, _⟩ | ⟨_, n, s, ⟨L, r, e, h1, h2, h3, h4, h5⟩, h6⟩
  · exact absurd rfl h
  · have e0 : s0F headL = ⟨10, 0, 0⟩ := by decide +kernel
    have hn : n = 0 := h1.one (n' := 0) ⟨fun k hk => absurd hk (by omega), fun x => by
      have := x.2.1
      unfold itS at this
      rw [e0] at this
      exact absurd this (by decide)⟩
    subst hn
    obtain rfl : L = [] := List.eq_nil_of_length_eq_zero h2
    have he := h4.nil
    subst he
    have hs : s = ⟨10, 0, 0⟩ := by rw [h5]; unfold endS itS; rw [e0, if_pos rfl]; rfl
    subst hs
    rcases h6 with h6 | h6
    · rw [h6.2]; rfl
    · exact absurd rfl h6.1
theorem out_head37 {blk : Rst → Rst} {o : Out} (hb : blk ⟨10, 0, 0⟩ = ⟨11, 0, 0⟩) (h : OutIs blk (headL ++ [37]) o) : o = .er 6 10 := by
  rcases h with ⟨h, _⟩ | ⟨_, n, s, ⟨L, r, e, h1, h2, h3, h4, h5⟩, h6⟩
  · exact absurd rfl h
  · have e0 : s0F (headL ++ [37]) = ⟨10, 0, 0⟩ := by decide +kernel
    have e1 : itS blk (s0F (headL ++ [37])) 0 = ⟨10, 0, 0⟩ := e0
    have e2 : itS blk (s0F (headL ++ [37])) 1 = ⟨11, 0, 0⟩ := by unfold itS; rw [e1]; exact hb
    have hn : n = 1 := h1.one (n' := 1) ⟨fun k hk => by
      obtain rfl : k = 0 := by omega
      unfold onS
      rw [e1]
      exact ⟨rfl, by decide, by decide⟩, fun x => by
      have := x.2.1
      rw [e2] at this
      exact absurd this (by decide)⟩
    subst hn
    obtain ⟨b, rfl⟩ : ∃ b, L = [b] := List.length_eq_one_iff.1 h2
    have hid : b.id = 37 := by
      have := h3 0 (by decide)
      rw [e1] at this
      exact this
    obtain ⟨rfl, rfl⟩ := h4.lone hid
    have hs : s = ⟨11, 6, 10⟩ := by rw [h5]; unfold endS; rw [e1, e2]; rfl
    subst hs
    rcases h6 with h6 | h6
    · exact absurd h6.1 (by decide)
    · rw [h6.2]

end Go.Proofs.Ythlaglhlmbkniaa
/- Rows of a call's own, where other blocks change. No program is named here. -/
namespace Go.Proofs.Ythlaglhlmbkniaa
open Go.RowKit

theorem own_low {w : World} {base : Nat} {e : TypeId} {size : Nat} {v : Value} {n : Nat} {xs : List Value} (h : w.ownsRow base e size v n xs) (k : Nat) (hk : v.ownBlock = some k) : base ≤ k ∧ k < w.heap.size := by
  rcases h.2 with ⟨rfl, _⟩ | ⟨g, cap, cur, rfl, hb', hgg, _⟩
  · simp [Value.ownBlock] at hk
  · simp only [Value.ownBlock, Option.some.injEq] at hk
    subst hk
    exact ⟨hb', (Array.getElem?_eq_some_iff.1 hgg).1⟩
/-- A row of a call's own, where its block is as it was. -/
theorem own_kept' {w w' : World} {base : Nat} {e : TypeId} {size : Nat} {v : Value} {n : Nat} {xs : List Value} (h : w.ownsRow base e size v n xs) (hg : ∀ k, k < w.heap.size → v.ownBlock = some k → w'.heap[k]? = w.heap[k]?) : w'.ownsRow base e size v n xs := by
  refine ⟨h.1, ?_⟩
  rcases h.2 with hn | ⟨g, cap, cur, rfl, hb', hgg, rest⟩
  · exact .inl hn
  · exact .inr ⟨g, cap, cur, rfl, hb', (hg g (Array.getElem?_eq_some_iff.1 hgg).1 rfl).trans hgg, rest⟩

end Go.Proofs.Ythlaglhlmbkniaa
