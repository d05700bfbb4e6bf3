/- Tapes as rows of bytes: what a file reads as, and what blocks are as a file. No program is named here. -/
import Derived.Test.YtcodbcfdbkmegaaWireMath
import Derived.Test.YtcodbcfdbkmegaaFlagMath
namespace Go.Proofs.Ytcodbcfdbkmegaa
open Go.RowKit

/-- What a file reads as from byte p on, behind k blocks: blocks, or a fault and its place. -/
def tapR (l : List Int) (p k : Nat) : Except (Int × Nat) (List (List Int)) :=
  if _h : p < l.length then
    if k = 4096 then .error (8, p)
    else if l.length < p + 2 then .error (2, p)
    else if l.length < p + 2 + (leV ((l.drop p).take 2)).toNat then .error (2, p + 2)
    else (tapR l (p + 2 + (leV ((l.drop p).take 2)).toNat) (k + 1)).map (((l.drop (p + 2)).take (leV ((l.drop p).take 2)).toNat) :: ·)
  else .ok []
  termination_by l.length - p
  decreasing_by omega
/-- Blocks ahead of what is read. -/
def pre (L : List (List Int)) (R : Except (Int × Nat) (List (List Int))) : Except (Int × Nat) (List (List Int)) := R.map (L ++ ·)
theorem pre_nil (R : Except (Int × Nat) (List (List Int))) : pre [] R = R := by cases R <;> rfl
theorem pre_er (L : List (List Int)) (e : Int × Nat) : pre L (.error e) = .error e := rfl
theorem pre_ok (L M : List (List Int)) : pre L (.ok M) = .ok (L ++ M) := rfl
theorem pre_cons (L : List (List Int)) (x : List Int) (R : Except (Int × Nat) (List (List Int))) : pre L (R.map (x :: ·)) = pre (L ++ [x]) R := by
  cases R
  · rfl
  · simp [pre, Except.map]
theorem tap_end (l : List Int) (p k : Nat) (h : l.length ≤ p) : tapR l p k = .ok [] := by
  rw [tapR, dif_neg (by omega)]
theorem tap_many (l : List Int) (p : Nat) (h : p < l.length) : tapR l p 4096 = .error (8, p) := by
  rw [tapR, dif_pos h, if_pos rfl]
theorem tap_cut (l : List Int) (p k : Nat) (h : p < l.length) (hk : k ≠ 4096) (h2 : l.length < p + 2) : tapR l p k = .error (2, p) := by
  rw [tapR, dif_pos h, if_neg hk, if_pos h2]
theorem tap_short (l : List Int) (p k n : Nat) (h : p < l.length) (hk : k ≠ 4096) (h2 : p + 2 ≤ l.length) (hn : (leV ((l.drop p).take 2)).toNat = n) (h3 : l.length < p + 2 + n) : tapR l p k = .error (2, p + 2) := by
  rw [tapR, dif_pos h, if_neg hk, if_neg (by omega), hn, if_pos h3]
theorem tap_on (l : List Int) (p k n : Nat) (h : p < l.length) (hk : k ≠ 4096) (h2 : p + 2 ≤ l.length) (hn : (leV ((l.drop p).take 2)).toNat = n) (h3 : p + 2 + n ≤ l.length) : tapR l p k = (tapR l (p + 2 + n) (k + 1)).map (((l.drop (p + 2)).take n) :: ·) := by
  rw [tapR, dif_pos h, if_neg hk, if_neg (by omega), hn, if_neg (by omega)]
/-- Blocks as a file. -/
def fileL : List (List Int) → List Int
  | [] => []
  | b :: L => putL 2 b.length ++ b ++ fileL L
theorem fileL_snoc (x : List Int) : ∀ L, fileL (L ++ [x]) = fileL L ++ (putL 2 x.length ++ x)
  | [] => by simp [fileL]
  | b :: L => by rw [List.cons_append, fileL, fileL_snoc x L, fileL]; simp only [List.append_assoc]
/-- How many bytes they are. -/
def sizeL : List (List Int) → Nat
  | [] => 0
  | b :: L => 2 + b.length + sizeL L
theorem sizeL_snoc (x : List Int) : ∀ L, sizeL (L ++ [x]) = sizeL L + (2 + x.length)
  | [] => by simp [sizeL]
  | b :: L => by rw [List.cons_append, sizeL, sizeL_snoc x L, sizeL]; omega
theorem fileL_len : ∀ L, (fileL L).length = sizeL L
  | [] => rfl
  | b :: L => by rw [fileL, List.length_append, List.length_append, putL_len, fileL_len L, sizeL]
/-- Block j. -/
def gL (L : List (List Int)) (j : Nat) : List Int := L.getD j []
theorem take_gL (L : List (List Int)) (k : Nat) (h : k < L.length) : L.take (k + 1) = L.take k ++ [gL L k] := by
  unfold gL
  rw [List.take_add_one, List.getD_eq_getElem?_getD, List.getElem?_eq_getElem h]
  rfl
theorem gL_cons (b : List Int) (L : List (List Int)) (j : Nat) : gL (b :: L) (j + 1) = gL L j := by unfold gL; simp
theorem gL_zero (b : List Int) (L : List (List Int)) : gL (b :: L) 0 = b := rfl
theorem gL_left (L M : List (List Int)) (j : Nat) (h : j < L.length) : gL (L ++ M) j = gL L j := by
  unfold gL
  rw [List.getD_eq_getElem?_getD, List.getD_eq_getElem?_getD, List.getElem?_append_left h]
theorem gL_last (L : List (List Int)) (x : List Int) (j : Nat) (h : j = L.length) : gL (L ++ [x]) j = x := by
  subst h
  unfold gL
  rw [List.getD_eq_getElem?_getD, List.getElem?_append_right (Nat.le_refl _)]
  simp
theorem sizeL_take_le : ∀ (L : List (List Int)) (k : Nat), sizeL (L.take k) ≤ sizeL L
  | [], k => by simp
  | b :: L, 0 => by simp [sizeL]
  | b :: L, k + 1 => by have := sizeL_take_le L k; rw [List.take_succ_cons, sizeL, sizeL]; omega
theorem sizeL_next (L : List (List Int)) (k : Nat) (h : k < L.length) : sizeL (L.take (k + 1)) = sizeL (L.take k) + (2 + (gL L k).length) := by rw [take_gL L k h, sizeL_snoc]
theorem fileL_next (L : List (List Int)) (k : Nat) (h : k < L.length) : fileL (L.take (k + 1)) = fileL (L.take k) ++ (putL 2 (gL L k).length ++ gL L k) := by rw [take_gL L k h, fileL_snoc]
theorem size_le : ∀ (L : List (List Int)) (z : Nat), (∀ j, j < L.length → (gL L j).length ≤ z) → ∀ n, n = L.length → sizeL L ≤ (z + 2) * n
  | [], z, _, n, h => by subst h; simp [sizeL]
  | b :: L, z, hz, n, h => by
    have h0 : b.length ≤ z := hz 0 (by simp)
    have ih := size_le L z (fun j hj => by have := hz (j + 1) (by simpa using hj); rwa [gL_cons] at this) L.length rfl
    have hn : n = L.length + 1 := by rw [h]; rfl
    rw [sizeL, hn, Nat.mul_add]
    omega
/-- Blocks that may be a file. -/
def FitsP (L : List (List Int)) : Prop := L.length ≤ 4096 ∧ (∀ j, j < L.length → (gL L j).length ≤ 65535) ∧ sizeL L ≤ 1048576

theorem byte8_mem {l : List Int} (h : Byte8 l) : ∀ x ∈ l, 0 ≤ x ∧ x ≤ 255 := by
  intro x hx
  obtain ⟨j, hj, rfl⟩ := List.getElem_of_mem hx
  have := h j
  have e := gI_some l j hj
  rw [List.getElem?_eq_getElem hj] at e
  rw [Option.some.inj e]
  exact this
/-- What was written is read. -/
theorem tap_back : ∀ (L : List (List Int)) (P : List Int) (k : Nat), k + L.length ≤ 4096 → (∀ j, j < L.length → (gL L j).length ≤ 65535) → tapR (P ++ fileL L) P.length k = .ok L
  | [], P, k, _, _ => by rw [tap_end _ _ _ (by simp [fileL])]
  | b :: L, P, k, hk, hb => by
    have hb0 : b.length ≤ 65535 := hb 0 (by simp)
    have ih := tap_back L (P ++ (putL 2 b.length ++ b)) (k + 1) (by simp at hk; omega) (fun j hj => by have := hb (j + 1) (by simpa using hj); rwa [gL_cons] at this)
    have hd : (P ++ fileL (b :: L)).drop P.length = putL 2 b.length ++ (b ++ fileL L) := by
      rw [List.drop_append_of_le_length (Nat.le_refl _), List.drop_length, List.nil_append, fileL, List.append_assoc]
    have h2 : ((P ++ fileL (b :: L)).drop P.length).take 2 = putL 2 b.length := by
      rw [hd, List.take_append_of_le_length (by rw [putL_len]; exact Nat.le_refl _), List.take_of_length_le (by rw [putL_len]; exact Nat.le_refl _)]
    have hn : (leV (((P ++ fileL (b :: L)).drop P.length).take 2)).toNat = b.length := by
      rw [h2, leV_put 2 _ (by omega) (by show (b.length : Int) < 65536; omega)]
      exact Int.toNat_natCast _
    have hlen : (P ++ fileL (b :: L)).length = P.length + (2 + b.length + (fileL L).length) := by simp [fileL, putL_len]; omega
    have hd2 : ((P ++ fileL (b :: L)).drop (P.length + 2)).take b.length = b := by
      rw [← List.drop_drop, hd, List.drop_append_of_le_length (by rw [putL_len]; exact Nat.le_refl _), List.drop_of_length_le (by rw [putL_len]; exact Nat.le_refl _), List.nil_append, List.take_append_of_le_length (Nat.le_refl _), List.take_length]
    rw [tap_on _ _ _ b.length (by omega) (by simp at hk; omega) (by omega) hn (by omega), hd2]
    have e1 : P ++ fileL (b :: L) = P ++ (putL 2 b.length ++ b) ++ fileL L := by rw [fileL]; simp only [List.append_assoc]
    have e2 : P.length + 2 + b.length = (P ++ (putL 2 b.length ++ b)).length := by simp [putL_len]; omega
    rw [e2, e1, ih]
    rfl
theorem fileL_byte8 : ∀ (L : List (List Int)), (∀ j, j < L.length → Byte8 (gL L j)) → Byte8 (fileL L)
  | [], _ => Byte8.nil
  | b :: L, h => ((putL_byte 2 b.length).app (h 0 (by simp))).app (fileL_byte8 L fun j hj => by have := h (j + 1) (by simpa using hj); rwa [gL_cons] at this)
/-- The two bytes of a number. -/
theorem two_back (l : List Int) (hb : Byte8 l) (h : l.length = 2) : putL 2 (leV l) = l := by
  rcases l with _ | ⟨x, _ | ⟨y, _ | ⟨z, l⟩⟩⟩
  · simp at h
  · simp at h
  · have h0 : 0 ≤ x ∧ x ≤ 255 := hb 0
    have h1 : 0 ≤ y ∧ y ≤ 255 := hb 1
    simp only [putL, leV]
    congr 1
    · omega
    · congr 1
      omega
  · simp at h
/-- What was read is written as it was. -/
theorem tap_read (l : List Int) (hb : Byte8 l) : ∀ (d p k : Nat) (L : List (List Int)), l.length - p = d → p ≤ l.length → k ≤ 4096 → tapR l p k = .ok L → fileL L = l.drop p ∧ (∀ j, j < L.length → (gL L j).length ≤ 65535) ∧ k + L.length ≤ 4096 := by
  intro d
  induction d using Nat.strongRecOn with
  | ind d ih =>
    intro p k L hd hp hk hR
    by_cases h : p < l.length
    · by_cases hk2 : k = 4096
      · subst hk2
        rw [tap_many l p h] at hR
        cases hR
      · by_cases h2 : l.length < p + 2
        · rw [tap_cut l p k h hk2 h2] at hR
          cases hR
        · obtain ⟨n, hn⟩ : ∃ n, (leV ((l.drop p).take 2)).toNat = n := ⟨_, rfl⟩
          by_cases h3 : l.length < p + 2 + n
          · rw [tap_short l p k n h hk2 (by omega) hn h3] at hR
            cases hR
          · rw [tap_on l p k n h hk2 (by omega) hn (by omega)] at hR
            cases hM : tapR l (p + 2 + n) (k + 1) with
            | error e => rw [hM] at hR; cases hR
            | ok M =>
              rw [hM] at hR
              obtain rfl : ((l.drop (p + 2)).take n) :: M = L := by injection hR
              obtain ⟨i1, i2, i3⟩ := ih (l.length - (p + 2 + n)) (by omega) (p + 2 + n) (k + 1) M rfl (by omega) (by omega) hM
              have hl2 : ((l.drop p).take 2).length = 2 := by simp; omega
              have hv := leV_bd ((l.drop p).take 2) ((hb.drop p).take 2) 2 (by omega)
              rw [List.take_take] at hv
              have hv0 := hv.1
              have hv1 : leV ((l.drop p).take 2) < 65536 := hv.2
              have hnv : leV ((l.drop p).take 2) = (n : Int) := by
                have : leV ((l.drop p).take 2) ≥ 0 := hv0
                omega
              have hlen : ((l.drop (p + 2)).take n).length = n := by simp; omega
              have hp2 : putL 2 (n : Int) = (l.drop p).take 2 := by rw [← hnv]; exact two_back _ ((hb.drop p).take 2) hl2
              refine ⟨?_, fun j hj => ?_, by simp; omega⟩
              · rw [fileL, hlen, hp2, i1]
                have e1 : l.drop (p + 2 + n) = (l.drop (p + 2)).drop n := by rw [List.drop_drop]
                have e2 : l.drop (p + 2) = (l.drop p).drop 2 := by rw [List.drop_drop]
                rw [e1, List.append_assoc, List.take_append_drop, e2, List.take_append_drop]
              · rcases j with _ | j
                · rw [gL_zero, hlen]; omega
                · rw [gL_cons]; exact i2 j (by simpa using hj)
    · rw [tap_end l p k (by omega)] at hR
      obtain rfl : [] = L := by injection hR
      exact ⟨by rw [List.drop_of_length_le (by omega)]; rfl, fun j hj => absurd hj (by simp), by simpa using hk⟩
/-- A fault's class is none of nought. -/
theorem tap_er (l : List Int) : ∀ (d p k : Nat) (e : Int) (f : Nat), l.length - p = d → tapR l p k = .error (e, f) → (e = 2 ∨ e = 8) ∧ f ≤ l.length := by
  intro d
  induction d using Nat.strongRecOn with
  | ind d ih =>
    intro p k e f hd hR
    by_cases h : p < l.length
    · by_cases hk2 : k = 4096
      · subst hk2
        rw [tap_many l p h] at hR
        injection hR with hR
        injection hR with h1 h2
        omega
      · by_cases h2 : l.length < p + 2
        · rw [tap_cut l p k h hk2 h2] at hR
          injection hR with hR
          injection hR with h1 h2
          omega
        · obtain ⟨n, hn⟩ : ∃ n, (leV ((l.drop p).take 2)).toNat = n := ⟨_, rfl⟩
          by_cases h3 : l.length < p + 2 + n
          · rw [tap_short l p k n h hk2 (by omega) hn h3] at hR
            injection hR with hR
            injection hR with h1 h2
            omega
          · rw [tap_on l p k n h hk2 (by omega) hn (by omega)] at hR
            cases hM : tapR l (p + 2 + n) (k + 1) with
            | error e' =>
              rw [hM] at hR
              obtain rfl : e' = (e, f) := by injection hR
              exact ih (l.length - (p + 2 + n)) (by omega) (p + 2 + n) (k + 1) e f rfl hM
            | ok M => rw [hM] at hR; cases hR
    · rw [tap_end l p k (by omega)] at hR
      cases hR

/-- The exclusive or of all bytes. -/
def sumB (l : List Int) : BitVec 8 := l.foldl (fun s x => s ^^^ BitVec.ofInt 8 x) 0#8
def sumX (l : List Int) : Int := ((sumB l).toNat : Int)
theorem sumX_bd (l : List Int) : 0 ≤ sumX l ∧ sumX l ≤ 255 := by
  have := (sumB l).isLt
  unfold sumX
  omega
theorem ofInt_back (x : BitVec 8) : BitVec.ofInt 8 (x.toNat : Int) = x := by
  apply BitVec.eq_of_toNat_eq
  rw [BitVec.toNat_ofInt]
  have := x.isLt
  omega
theorem sumB_fold : ∀ (l : List Int) (s : BitVec 8), l.foldl (fun s x => s ^^^ BitVec.ofInt 8 x) s = s ^^^ sumB l
  | [], s => by simp [sumB]
  | x :: l, s => by
    unfold sumB
    rw [List.foldl_cons, List.foldl_cons, sumB_fold l, sumB_fold l, BitVec.zero_xor, BitVec.xor_assoc]
theorem sumB_app (a b : List Int) : sumB (a ++ b) = sumB a ^^^ sumB b := by
  unfold sumB
  rw [List.foldl_append, sumB_fold b]
  rfl
theorem sumB_one (x : Int) : sumB [x] = BitVec.ofInt 8 x := by simp [sumB]
theorem sumX_snoc (l : List Int) (x : Int) : bits .xor .u8 (sumX l) x = sumX (l ++ [x]) := by
  have h : bits .xor .u8 (sumX l) x = ((BitVec.ofInt 8 (sumX l) ^^^ BitVec.ofInt 8 x).toNat : Int) := wrap_u8_nat _
  rw [h]
  unfold sumX
  rw [ofInt_back, sumB_app, sumB_one]
theorem sumX_bit (l : List Int) (x : Int) (x0 : 0 ≤ x) (x1 : x ≤ 255) (i : Nat) (hi : i < 8) : bitN (sumX (l ++ [x])) i = (bitN (sumX l) i != bitN x i) := by
  obtain ⟨s0, s1⟩ := sumX_bd l
  obtain ⟨t0, t1⟩ := sumX_bd (l ++ [x])
  rw [bitN_msb _ t0 t1 i hi, bitN_msb _ s0 s1 i hi, bitN_msb _ x0 x1 i hi]
  unfold sumX
  rw [ofInt_back, ofInt_back, sumB_app, sumB_one, BitVec.getMsbD_xor]
theorem byteOf_bits (b : Int) (h0 : 0 ≤ b) (h1 : b ≤ 255) : byteOf (bitsTo b 8) = b := by
  have h : ∀ n : Fin 256, byteOf (bitsTo (n.val : Int) 8) = (n.val : Int) := by decide +kernel
  exact fin256 (P := fun b => byteOf (bitsTo b 8) = b) h b h0 h1
/-- What is sealed is right. -/
theorem sum_sealed (m : List Int) : sumX (m ++ [sumX (m ++ [0])]) = 0 := by
  unfold sumX
  rw [sumB_app m [_], sumB_one, ofInt_back, sumB_app, sumB_one]
  simp
theorem sum_zero (l : List Int) : (sumX l = 0) ↔ sumB l = 0#8 := by
  unfold sumX
  constructor
  · intro h
    apply BitVec.eq_of_toNat_eq
    have : (sumB l).toNat = 0 := by omega
    rw [this]; rfl
  · intro h
    rw [h]; rfl
theorem ofInt_inj (x y : Int) (x0 : 0 ≤ x) (x1 : x ≤ 255) (y0 : 0 ≤ y) (y1 : y ≤ 255) (h : BitVec.ofInt 8 x = BitVec.ofInt 8 y) : x = y := by
  have := congrArg BitVec.toNat h
  rw [BitVec.toNat_ofInt, BitVec.toNat_ofInt] at this
  omega
/-- One byte that is another one, and it isn't. -/
theorem sum_spoilt (l : List Int) (i : Nat) (x : Int) (hi : i < l.length) (hy : 0 ≤ gI l i ∧ gI l i ≤ 255) (x0 : 0 ≤ x) (x1 : x ≤ 255) (hx : x ≠ gI l i) (hs : sumX l = 0) : sumX (l.set i x) ≠ 0 := by
  have e1 : l = l.take i ++ ([gI l i] ++ l.drop (i + 1)) := by
    have h : l[i] = gI l i := by have := gI_some l i hi; rw [List.getElem?_eq_getElem hi] at this; exact Option.some.inj this
    rw [← h, List.singleton_append, List.getElem_cons_drop, List.take_append_drop]
  have e2 : l.set i x = l.take i ++ ([x] ++ l.drop (i + 1)) := by rw [List.set_eq_take_append_cons_drop, if_pos hi]; rfl
  rw [sum_zero] at hs
  intro h
  rw [sum_zero, e2, sumB_app, sumB_app, sumB_one] at h
  rw [e1, sumB_app, sumB_app, sumB_one] at hs
  have h3 := h.trans hs.symm
  rw [BitVec.xor_right_inj, BitVec.xor_left_inj] at h3
  exact hx (ofInt_inj _ _ x0 x1 hy.1 hy.2 h3)

end Go.Proofs.Ytcodbcfdbkmegaa
