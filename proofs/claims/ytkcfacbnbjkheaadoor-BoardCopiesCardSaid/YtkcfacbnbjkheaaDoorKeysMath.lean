/- The keyboard as a function from a key's number to whether it is down: plain facts. No program is named here. -/
import Derived.Test.YtkcfacbnbjkheaaDoorKit
import Derived.Test.YtkcfacbnbjkheaaDoorStrL
namespace Go.Proofs.YtkcfacbnbjkheaaDoor
set_option maxRecDepth 100000

/-- The forty names. -/
def nmL : List (List UInt8) := [[99, 97, 112, 115], [122], [120], [99], [118], [97], [115], [100], [102], [103], [113], [119], [101], [114], [116], [49], [50], [51], [52], [53], [48], [57], [56], [55], [54], [112], [111], [105], [117], [121], [101, 110, 116, 101, 114], [108], [107], [106], [104], [115, 112, 97, 99, 101], [115, 121, 109], [109], [110], [98]]
def nm (n : Nat) : ByteArray := strL (nmL.getD n [])
def nmV (n : Nat) : Value := .string (nm n)
/-- A key's number; 40: there is none. -/
def keyN (s : ByteArray) : Nat := nmL.findIdx (fun l => l == s.data.toList)
theorem nm_list (n : Nat) : (nm n).data.toList = nmL.getD n [] := by simp [nm, strL]
theorem nm_size (n : Nat) : (nm n).size ≤ 5 := by
  unfold nm
  rw [strL_size]
  by_cases h : n < 40
  · have key : (List.range 40).all (fun n => decide ((nmL.getD n []).length ≤ 5)) = true := by decide +kernel
    simpa using List.all_eq_true.1 key n (List.mem_range.2 h)
  · rw [List.getD_eq_getElem?_getD, List.getElem?_eq_none (by show 40 ≤ n; omega)]; simp
theorem keyN_nm (n : Nat) (h : n < 40) : keyN (nm n) = n := by
  have key : (List.range 40).all (fun n => nmL.findIdx (fun l => l == nmL.getD n []) == n) = true := by decide +kernel
  have := List.all_eq_true.1 key n (List.mem_range.2 h)
  unfold keyN
  rw [nm_list]
  simpa using this
theorem keyN_le (s : ByteArray) : keyN s ≤ 40 := List.findIdx_le_length
theorem keyN_at {s : ByteArray} {n : Nat} (h : n < 40) (e : nm n = s) : keyN s = n := by rw [← e]; exact keyN_nm n h
theorem keyN_ne {s : ByteArray} {n m : Nat} (h : n < 40) (e : keyN s = m) (hn : n ≠ m) : nm n ≠ s := fun h' => hn (by rw [← e, ← h', keyN_nm n h])
theorem nm_of_key {s : ByteArray} {n : Nat} (h : n < 40) (e : keyN s = n) : nm n = s := by
  unfold keyN at e
  subst e
  have hlt : nmL.findIdx (fun l => l == s.data.toList) < nmL.length := h
  have this := eq_of_beq (List.findIdx_getElem (w := hlt))
  have e2 : nmL.getD (nmL.findIdx (fun l => l == s.data.toList)) [] = s.data.toList := by
    rw [List.getD_eq_getElem?_getD, List.getElem?_eq_getElem hlt, Option.getD_some]
    exact this
  unfold nm
  rw [e2]
  apply ByteArray.ext
  simp [strL]

/-- Five bits. -/
def v5 (a b c d e : Bool) : Int := (if a then 1 else 0) + (if b then 2 else 0) + (if c then 4 else 0) + (if d then 8 else 0) + (if e then 16 else 0)
theorem v5_bd (a b c d e : Bool) : 0 ≤ v5 a b c d e ∧ v5 a b c d e ≤ 31 := by revert a b c d e; decide
/-- A half row's byte. -/
def rowV (S : Nat → Bool) (r : Nat) : Int := v5 (S (5 * r)) (S (5 * r + 1)) (S (5 * r + 2)) (S (5 * r + 3)) (S (5 * r + 4))
theorem rowV_bd (S : Nat → Bool) (r : Nat) : 0 ≤ rowV S r ∧ rowV S r ≤ 31 := v5_bd _ _ _ _ _
def setS (S : Nat → Bool) (n : Nat) (b : Bool) : Nat → Bool := fun m => if m = n then b else S m
def pw (k : Nat) : Int := 2 ^ k
theorem v5_or (a b c d e : Bool) : bits .or .u8 (v5 a b c d e) 1 = v5 true b c d e ∧ bits .or .u8 (v5 a b c d e) 2 = v5 a true c d e ∧ bits .or .u8 (v5 a b c d e) 4 = v5 a b true d e ∧ bits .or .u8 (v5 a b c d e) 8 = v5 a b c true e ∧ bits .or .u8 (v5 a b c d e) 16 = v5 a b c d true := by
  revert a b c d e; decide +kernel
theorem v5_not (a b c d e : Bool) : bits .andNot .u8 (v5 a b c d e) 1 = v5 false b c d e ∧ bits .andNot .u8 (v5 a b c d e) 2 = v5 a false c d e ∧ bits .andNot .u8 (v5 a b c d e) 4 = v5 a b false d e ∧ bits .andNot .u8 (v5 a b c d e) 8 = v5 a b c false e ∧ bits .andNot .u8 (v5 a b c d e) 16 = v5 a b c d false := by
  revert a b c d e; decide +kernel
theorem v5_andNot (a b c d e a' b' c' d' e' : Bool) : bits .andNot .u8 (v5 a b c d e) (v5 a' b' c' d' e') = v5 (a && !a') (b && !b') (c && !c') (d && !d') (e && !e') := by
  revert a b c d e a' b' c' d' e'; decide +kernel
theorem v5_and (a b c d e a' b' c' d' e' : Bool) : bits .and .u8 (v5 a b c d e) (v5 a' b' c' d' e') = v5 (a && a') (b && b') (c && c') (d && d') (e && e') := by
  revert a b c d e a' b' c' d' e'; decide +kernel
theorem rowV_far (S : Nat → Bool) (n : Nat) (b : Bool) (r : Nat) (h : r ≠ n / 5) : rowV (setS S n b) r = rowV S r := by
  have e (i : Nat) (hi : i < 5) : setS S n b (5 * r + i) = S (5 * r + i) := by unfold setS; rw [if_neg (by omega)]
  have e0 := e 0 (by omega)
  unfold rowV
  rw [Nat.add_zero] at e0
  rw [e0, e 1 (by omega), e 2 (by omega), e 3 (by omega), e 4 (by omega)]
theorem setS_at (S : Nat → Bool) (n m : Nat) (b : Bool) (h : m = n) : setS S n b m = b := if_pos h
theorem setS_ne (S : Nat → Bool) (n m : Nat) (b : Bool) (h : m ≠ n) : setS S n b m = S m := if_neg h
theorem rowV_near (S : Nat → Bool) (r i : Nat) (b : Bool) (h : i < 5) : rowV (setS S (5 * r + i) b) r = bits (if b then .or else .andNot) .u8 (rowV S r) (pw i) := by
  obtain ⟨o0, o1, o2, o3, o4⟩ := v5_or (S (5 * r)) (S (5 * r + 1)) (S (5 * r + 2)) (S (5 * r + 3)) (S (5 * r + 4))
  obtain ⟨n0, n1, n2, n3, n4⟩ := v5_not (S (5 * r)) (S (5 * r + 1)) (S (5 * r + 2)) (S (5 * r + 3)) (S (5 * r + 4))
  have hi : i = 0 ∨ i = 1 ∨ i = 2 ∨ i = 3 ∨ i = 4 := by omega
  unfold rowV
  rcases hi with rfl | rfl | rfl | rfl | rfl
  · rw [setS_at _ _ _ _ (by omega), setS_ne _ _ _ _ (by omega), setS_ne _ _ _ _ (by omega), setS_ne _ _ _ _ (by omega), setS_ne _ _ _ _ (by omega)]
    cases b
    · exact n0.symm
    · exact o0.symm
  · rw [setS_ne _ _ _ _ (by omega), setS_at _ _ _ _ (by omega), setS_ne _ _ _ _ (by omega), setS_ne _ _ _ _ (by omega), setS_ne _ _ _ _ (by omega)]
    cases b
    · exact n1.symm
    · exact o1.symm
  · rw [setS_ne _ _ _ _ (by omega), setS_ne _ _ _ _ (by omega), setS_at _ _ _ _ (by omega), setS_ne _ _ _ _ (by omega), setS_ne _ _ _ _ (by omega)]
    cases b
    · exact n2.symm
    · exact o2.symm
  · rw [setS_ne _ _ _ _ (by omega), setS_ne _ _ _ _ (by omega), setS_ne _ _ _ _ (by omega), setS_at _ _ _ _ (by omega), setS_ne _ _ _ _ (by omega)]
    cases b
    · exact n3.symm
    · exact o3.symm
  · rw [setS_ne _ _ _ _ (by omega), setS_ne _ _ _ _ (by omega), setS_ne _ _ _ _ (by omega), setS_ne _ _ _ _ (by omega), setS_at _ _ _ _ (by omega)]
    cases b
    · exact n4.symm
    · exact o4.symm
/-- The bit of a half row. -/
theorem rowV_bit (S : Nat → Bool) (r i : Nat) (h : i < 5) : rowV S r / pw i % 2 = if S (5 * r + i) then 1 else 0 := by
  have key : ∀ a b c d e : Bool, v5 a b c d e / 1 % 2 = (if a then 1 else 0) ∧ v5 a b c d e / 2 % 2 = (if b then 1 else 0) ∧ v5 a b c d e / 4 % 2 = (if c then 1 else 0) ∧ v5 a b c d e / 8 % 2 = (if d then 1 else 0) ∧ v5 a b c d e / 16 % 2 = (if e then 1 else 0) := by decide +kernel
  obtain ⟨o0, o1, o2, o3, o4⟩ := key (S (5 * r)) (S (5 * r + 1)) (S (5 * r + 2)) (S (5 * r + 3)) (S (5 * r + 4))
  have hi : i = 0 ∨ i = 1 ∨ i = 2 ∨ i = 3 ∨ i = 4 := by omega
  rcases hi with rfl | rfl | rfl | rfl | rfl
  · exact o0
  · exact o1
  · exact o2
  · exact o3
  · exact o4

/-- Whether a bit of an address's upper byte is 1. -/
def hb (h : Int) (r : Nat) : Bool := h / pw r % 2 == 1
/-- Whether a key is up in the first r rows that are read. -/
def up (S : Nat → Bool) (h : Int) (i r : Nat) : Bool := (List.range r).all fun k => hb h k || !S (5 * k + i)
theorem up_zero (S : Nat → Bool) (h : Int) (i : Nat) : up S h i 0 = true := rfl
theorem up_succ (S : Nat → Bool) (h : Int) (i r : Nat) : up S h i (r + 1) = (up S h i r && (hb h r || !S (5 * r + i))) := by
  unfold up
  rw [List.range_succ, List.all_append]
  simp
def redF (S : Nat → Bool) (h : Int) (r : Nat) : Int := v5 (up S h 0 r) (up S h 1 r) (up S h 2 r) (up S h 3 r) (up S h 4 r)
theorem redF_zero (S : Nat → Bool) (h : Int) : redF S h 0 = 31 := rfl
theorem redF_bd (S : Nat → Bool) (h : Int) (r : Nat) : 0 ≤ redF S h r ∧ redF S h r ≤ 31 := v5_bd _ _ _ _ _
theorem redF_skip (S : Nat → Bool) (h : Int) (r : Nat) (hh : hb h r = true) : redF S h (r + 1) = redF S h r := by
  unfold redF
  simp [up_succ, hh]
theorem redF_take (S : Nat → Bool) (h : Int) (r : Nat) (hh : hb h r = false) : redF S h (r + 1) = bits .andNot .u8 (redF S h r) (rowV S r) := by
  unfold redF rowV
  rw [v5_andNot]
  simp [up_succ, hh]
/-- All rows read. -/
def readF (S : Nat → Bool) (h : Int) : Int := redF S h 8

/-- The keys below n that are down, in order. -/
def dn (S : Nat → Bool) (n : Nat) : List Nat := (List.range n).filter fun m => S m
theorem dn_zero (S : Nat → Bool) : dn S 0 = [] := rfl
theorem dn_yes (S : Nat → Bool) (n : Nat) (h : S n = true) : dn S (n + 1) = dn S n ++ [n] := by unfold dn; rw [List.range_succ, List.filter_append]; simp [h]
theorem dn_no (S : Nat → Bool) (n : Nat) (h : S n = false) : dn S (n + 1) = dn S n := by unfold dn; rw [List.range_succ, List.filter_append]; simp [h]
theorem dn_le (S : Nat → Bool) (n : Nat) : (dn S n).length ≤ n := by
  have := List.length_filter_le (fun m => S m) (List.range n)
  simpa [dn] using this
theorem dn_lt (S : Nat → Bool) (n : Nat) : ∀ m ∈ dn S n, m < n ∧ S m = true := by
  intro m hm
  have := List.mem_filter.1 hm
  exact ⟨List.mem_range.1 this.1, this.2⟩

/-- The document's list of the keys that are down. -/
def Lst (L : List Int) (S : Nat → Bool) : Prop := ∀ i : Nat, S i = true ↔ (i : Int) ∈ L
def putF (L : List Int) (n : Int) (on : Bool) : List Int := L.filter (fun x => x != n) ++ if on then [n] else []
theorem putF_len (L : List Int) (n : Int) (on : Bool) : (putF L n on).length ≤ L.length + 1 := by
  have := List.length_filter_le (fun x => x != n) L
  unfold putF
  rw [List.length_append]
  split <;> simp <;> omega
theorem Lst.put {L : List Int} {S : Nat → Bool} (h : Lst L S) (n : Nat) (on : Bool) : Lst (putF L n on) (setS S n on) := by
  intro i
  have hi := h i
  unfold putF setS
  rw [List.mem_append, List.mem_filter]
  by_cases e : i = n
  · subst e
    cases on <;> simp
  · have e' : ¬ (i : Int) = (n : Int) := by omega
    cases on <;> simp [e, e', hi]
theorem Lst.nil : Lst [] (fun _ => false) := by intro i; simp

theorem and_one (n : Int) (h0 : 0 ≤ n) (h1 : n ≤ 255) : bits .and .u8 n 1 = n % 2 := by
  obtain ⟨m, rfl⟩ := Int.eq_ofNat_of_zero_le h0
  have h' : m &&& 1 = m % 2 := Nat.and_two_pow_sub_one_eq_mod m 1
  show IntKind.u8.wrap ((BitVec.ofInt 8 (m : Int) &&& BitVec.ofInt 8 1).toNat : Int) = _
  rw [BitVec.toNat_and, BitVec.ofInt_natCast, BitVec.toNat_ofNat, Nat.mod_eq_of_lt (by omega : m < 2 ^ 8), show (BitVec.ofInt 8 1).toNat = 1 from by decide, h']
  simp [IntKind.wrap, IntKind.bits, IntKind.signed]
  omega
theorem shr_and (x : Int) (k : Nat) (h0 : 0 ≤ x) (h1 : x ≤ 255) : bits .and .u8 (x / 2 ^ k) 1 = x / pw k % 2 := by
  have hp : (0 : Int) < 2 ^ k := Int.pow_pos (by decide)
  exact and_one _ (Int.ediv_nonneg h0 (Int.le_of_lt hp)) (Int.le_trans (Int.ediv_le_self _ h0) h1)
theorem hb_test (h : Int) (r : Nat) (b : Bool) (h0 : 0 ≤ h) (h1 : h ≤ 255) (hh : hb h r = b) : (bits .and .u8 (h / 2 ^ r) 1 == 0) = !b := by
  rw [shr_and h r h0 h1, ← hh]
  unfold hb
  have : h / pw r % 2 = 0 ∨ h / pw r % 2 = 1 := by omega
  rcases this with e | e <;> rw [e] <;> rfl
theorem row_val (S : Nat → Bool) (r i : Nat) (b : Bool) (hi : i < 5) (hh : S (5 * r + i) = b) : bits .and .u8 (rowV S r / 2 ^ i) 1 = if b then 1 else 0 := by
  obtain ⟨b0, b1⟩ := rowV_bd S r
  rw [shr_and _ i b0 (by omega), rowV_bit S r i hi, hh]
theorem row_test (S : Nat → Bool) (r i : Nat) (b : Bool) (hi : i < 5) (hh : S (5 * r + i) = b) : (bits .and .u8 (rowV S r / 2 ^ i) 1 == 1) = b := by
  obtain ⟨b0, b1⟩ := rowV_bd S r
  rw [shr_and _ i b0 (by omega), rowV_bit S r i hi, hh]
  cases b <;> rfl
theorem dn_map_yes (S : Nat → Bool) (n : Nat) (h : S n = true) : (dn S (n + 1)).map nmV = (dn S n).map nmV ++ [.string (nm n)] := by rw [dn_yes S n h, List.map_append]; rfl
/-- The first k bits that are read. -/
def partV (S : Nat → Bool) (h : Int) : Nat → Int
  | 0 => 0
  | k + 1 => partV S h k + if up S h k 8 then pw k else 0
theorem partV_five (S : Nat → Bool) (h : Int) : partV S h 5 = readF S h := by
  simp only [partV, readF, redF, v5, pw]
  simp
theorem pw_succ (k : Nat) : pw (k + 1) = 2 * pw k := by unfold pw; rw [Int.pow_succ, Int.mul_comm]
theorem pw_bd (k : Nat) (h : k ≤ 8) : 1 ≤ pw k ∧ pw k ≤ 256 := by
  have e : k = 0 ∨ k = 1 ∨ k = 2 ∨ k = 3 ∨ k = 4 ∨ k = 5 ∨ k = 6 ∨ k = 7 ∨ k = 8 := by omega
  rcases e with rfl | rfl | rfl | rfl | rfl | rfl | rfl | rfl | rfl <;> decide
theorem partV_bd (S : Nat → Bool) (h : Int) : ∀ k, 0 ≤ partV S h k ∧ partV S h k < pw k
  | 0 => ⟨Int.le_refl 0, by show (0 : Int) < 1; omega⟩
  | k + 1 => by
    obtain ⟨h0, h1⟩ := partV_bd S h k
    rw [pw_succ]
    unfold partV
    split <;> omega
theorem div_succ (h : Int) (r : Nat) : h / pw (r + 1) = h / pw r / 2 := by
  unfold pw
  rw [Int.pow_succ, Int.ediv_ediv_of_nonneg (Int.le_of_lt (Int.pow_pos (by decide)))]
theorem div_bd (h : Int) (r : Nat) (h0 : 0 ≤ h) (h1 : h ≤ 255) : 0 ≤ h / pw r ∧ h / pw r ≤ 255 := by
  have hp : (0 : Int) < 2 ^ r := Int.pow_pos (by decide)
  exact ⟨Int.ediv_nonneg h0 (Int.le_of_lt hp), Int.le_trans (Int.ediv_le_self _ h0) h1⟩
theorem hb_val (h : Int) (r : Nat) (b : Bool) (hh : hb h r = b) : h / pw r % 2 = if b then 1 else 0 := by
  unfold hb at hh
  have : h / pw r % 2 = 0 ∨ h / pw r % 2 = 1 := by omega
  subst hh
  rcases this with e | e <;> rw [e] <;> rfl
theorem dn_prefix (S : Nat → Bool) (n m : Nat) : dn S n <+: dn S (n + m) := by
  induction m with
  | zero => exact List.prefix_rfl
  | succ m ih =>
    refine ih.trans ?_
    rw [← Nat.add_assoc]
    cases h : S (n + m) with
    | true => rw [dn_yes S _ h]; exact List.prefix_append _ _
    | false => rw [dn_no S _ h]; exact List.prefix_rfl
theorem dn_pos (S : Nat → Bool) (i : Nat) (hi : i < 40) (hs : S i = true) : (dn S i).length < (dn S 40).length ∧ (dn S 40).getD (dn S i).length 0 = i := by
  have hp := dn_prefix S (i + 1) (40 - (i + 1))
  rw [show i + 1 + (40 - (i + 1)) = 40 by omega, dn_yes S i hs] at hp
  obtain ⟨r, hr⟩ := hp
  rw [← hr]
  refine ⟨by simp, ?_⟩
  rw [List.getD_eq_getElem?_getD]
  simp
theorem dn_nodup (S : Nat → Bool) (n : Nat) : (dn S n).Nodup := List.Pairwise.filter _ List.nodup_range
/-- What is down behind the first i of the keys that were are released. -/
def relS (S : Nat → Bool) (i : Nat) : Nat → Bool := fun n => S n && !((dn S 40).take i).contains n
theorem relS_zero (S : Nat → Bool) : relS S 0 = S := by funext n; simp [relS]
theorem take_next (L : List Nat) (i : Nat) (h : i < L.length) : L.take (i + 1) = L.take i ++ [L.getD i 0] := by
  rw [List.take_succ_eq_append_getElem h, List.getD_eq_getElem?_getD, List.getElem?_eq_getElem h]; rfl
theorem relS_next (S : Nat → Bool) (i : Nat) (h : i < (dn S 40).length) : relS S (i + 1) = setS (relS S i) ((dn S 40).getD i 0) false := by
  funext n
  unfold relS setS
  rw [take_next _ _ h]
  by_cases e : n = (dn S 40).getD i 0
  · rw [if_pos e, e]; simp
  · rw [if_neg e]
    congr 2
    rw [Bool.eq_iff_iff, List.contains_iff_mem, List.contains_iff_mem, List.mem_append]
    simp only [List.mem_singleton, e, or_false]
theorem relS_at (S : Nat → Bool) (i : Nat) (h : i < (dn S 40).length) : (dn S 40).getD i 0 < 40 ∧ relS S i ((dn S 40).getD i 0) = true := by
  have e : (dn S 40).getD i 0 = (dn S 40)[i] := by rw [List.getD_eq_getElem?_getD, List.getElem?_eq_getElem h]; rfl
  have hm := dn_lt S 40 _ (List.getElem_mem h)
  rw [e]
  refine ⟨hm.1, ?_⟩
  unfold relS
  rw [hm.2, List.contains_eq_mem]
  simp only [Bool.true_and, Bool.not_eq_eq_eq_not, Bool.not_true, decide_eq_false_iff_not]
  intro hin
  obtain ⟨j, hj, hje⟩ := List.mem_iff_getElem.1 hin
  rw [List.length_take] at hj
  rw [List.getElem_take] at hje
  have := (List.getElem_inj (dn_nodup S 40)).1 hje
  omega
theorem relS_all (S : Nat → Bool) (n : Nat) (h : n < 40) : relS S (dn S 40).length n = false := by
  unfold relS
  rw [List.take_length]
  cases hs : S n with
  | false => rfl
  | true =>
    have : n ∈ dn S 40 := List.mem_filter.2 ⟨List.mem_range.2 h, hs⟩
    simp [this]
theorem up_true {S : Nat → Bool} {h : Int} {i r : Nat} (hh : ∀ k, k < r → hb h k = true ∨ S (5 * k + i) = false) : up S h i r = true := by
  unfold up
  rw [List.all_eq_true]
  intro k hk
  rcases hh k (List.mem_range.1 hk) with e | e <;> simp [e]
theorem up_false {S : Nat → Bool} {h : Int} {i r k : Nat} (hk : k < r) (h1 : hb h k = false) (h2 : S (5 * k + i) = true) : up S h i r = false := by
  cases hu : up S h i r with
  | false => rfl
  | true =>
    unfold up at hu
    have := List.all_eq_true.1 hu k (List.mem_range.2 hk)
    simp [h1, h2] at this
theorem read_none (S : Nat → Bool) (h : Int) (hs : ∀ n, n < 40 → S n = false) : readF S h = 31 := by
  have e (i : Nat) (hi : i < 5) : up S h i 8 = true := up_true fun k hk => Or.inr (hs _ (by omega))
  unfold readF redF
  rw [e 0 (by omega), e 1 (by omega), e 2 (by omega), e 3 (by omega), e 4 (by omega)]
  rfl
theorem read_all (S : Nat → Bool) : readF S 255 = 31 := by
  have key : ∀ k, k < 8 → hb 255 k = true := by decide +kernel
  have e (i : Nat) : up S 255 i 8 = true := up_true fun k hk => Or.inl (key k hk)
  unfold readF redF
  rw [e 0, e 1, e 2, e 3, e 4]
  rfl
theorem hb_and (a b : Int) (k : Nat) (a0 : 0 ≤ a) (a1 : a ≤ 255) (b0 : 0 ≤ b) (b1 : b ≤ 255) : hb (bits .and .u8 a b) k = (hb a k && hb b k) := by
  obtain ⟨m, rfl⟩ := Int.eq_ofNat_of_zero_le a0
  obtain ⟨n, rfl⟩ := Int.eq_ofNat_of_zero_le b0
  have e : bits .and .u8 (m : Int) (n : Int) = ((m &&& n : Nat) : Int) := by
    have hlt : m &&& n < 2 ^ 8 := Nat.and_lt_two_pow _ (by omega)
    show IntKind.u8.wrap ((BitVec.ofInt 8 (m : Int) &&& BitVec.ofInt 8 (n : Int)).toNat : Int) = _
    rw [BitVec.toNat_and, BitVec.ofInt_natCast, BitVec.ofInt_natCast, BitVec.toNat_ofNat, BitVec.toNat_ofNat, Nat.mod_eq_of_lt (by omega : m < 2 ^ 8), Nat.mod_eq_of_lt (by omega : n < 2 ^ 8)]
    simp only [IntKind.wrap, IntKind.bits, IntKind.signed]
    simp
    omega
  have t (x : Nat) : hb (x : Int) k = x.testBit k := by
    unfold hb pw
    rw [Nat.testBit_eq_decide_div_mod_eq]
    have : (x : Int) / 2 ^ k % 2 = ((x / 2 ^ k % 2 : Nat) : Int) := by simp
    rw [this, Bool.eq_iff_iff]
    simp only [beq_iff_eq, decide_eq_true_eq]
    omega
  rw [e, t, t, t, Nat.testBit_and]
theorem read_and (S : Nat → Bool) (a b : Int) (a0 : 0 ≤ a) (a1 : a ≤ 255) (b0 : 0 ≤ b) (b1 : b ≤ 255) : bits .and .u8 (readF S a) (readF S b) = readF S (bits .and .u8 a b) := by
  have e (i : Nat) : up S (bits .and .u8 a b) i 8 = (up S a i 8 && up S b i 8) := by
    unfold up
    rw [Bool.eq_iff_iff, Bool.and_eq_true, List.all_eq_true, List.all_eq_true, List.all_eq_true]
    constructor
    · intro h
      refine ⟨fun k hk => ?_, fun k hk => ?_⟩
      all_goals
        have := h k hk
        rw [hb_and a b k a0 a1 b0 b1] at this
        revert this
        cases hb a k <;> cases hb b k <;> simp
    · intro h k hk
      have h1 := h.1 k hk
      have h2 := h.2 k hk
      rw [hb_and a b k a0 a1 b0 b1]
      revert h1 h2
      cases hb a k <;> cases hb b k <;> simp
  unfold readF redF
  rw [v5_and, e, e, e, e, e]
theorem and_bd (a b : Int) (a0 : 0 ≤ a) (a1 : a ≤ 255) (b0 : 0 ≤ b) (b1 : b ≤ 255) : 0 ≤ bits .and .u8 a b ∧ bits .and .u8 a b ≤ 255 := by
  obtain ⟨m, rfl⟩ := Int.eq_ofNat_of_zero_le a0
  obtain ⟨n, rfl⟩ := Int.eq_ofNat_of_zero_le b0
  show 0 ≤ IntKind.u8.wrap _ ∧ IntKind.u8.wrap _ ≤ 255
  simp only [IntKind.wrap, IntKind.bits, IntKind.signed]
  simp
  omega
/-- A key that is down is told by its own row, read alone. -/
theorem read_one (S : Nat → Bool) (R J : Nat) (hR : R < 8) (hJ : J < 5) (hs : S (5 * R + J) = true) : bits .and .u8 (readF S (255 - pw R) / 2 ^ J) 1 = 0 := by
  have hbR : hb (255 - pw R) R = false := by
    have key : ∀ R, R < 8 → hb (255 - pw R) R = false := by decide +kernel
    exact key R hR
  have hu : up S (255 - pw R) J 8 = false := up_false hR hbR hs
  obtain ⟨b0, b1⟩ := redF_bd S (255 - pw R) 8
  have key : ∀ a b c d e : Bool, v5 a b c d e / 1 % 2 = (if a then 1 else 0) ∧ v5 a b c d e / 2 % 2 = (if b then 1 else 0) ∧ v5 a b c d e / 4 % 2 = (if c then 1 else 0) ∧ v5 a b c d e / 8 % 2 = (if d then 1 else 0) ∧ v5 a b c d e / 16 % 2 = (if e then 1 else 0) := by decide +kernel
  rw [shr_and _ J (by unfold readF; exact b0) (by unfold readF; omega)]
  unfold readF redF
  obtain ⟨o0, o1, o2, o3, o4⟩ := key (up S (255 - pw R) 0 8) (up S (255 - pw R) 1 8) (up S (255 - pw R) 2 8) (up S (255 - pw R) 3 8) (up S (255 - pw R) 4 8)
  have hi : J = 0 ∨ J = 1 ∨ J = 2 ∨ J = 3 ∨ J = 4 := by omega
  rcases hi with rfl | rfl | rfl | rfl | rfl
  · rw [hu] at o0; exact (by rw [hu]; exact o0)
  · rw [hu] at o1; exact (by rw [hu]; exact o1)
  · rw [hu] at o2; exact (by rw [hu]; exact o2)
  · rw [hu] at o3; exact (by rw [hu]; exact o3)
  · rw [hu] at o4; exact (by rw [hu]; exact o4)
end Go.Proofs.YtkcfacbnbjkheaaDoor
