/- Plain facts on bytes that are turned, and on their bits, for layer 4: no program is named here. -/
import Derived.Test.YtcafoomnfekglaaAluMath
namespace Go.Proofs.Ytcafoomnfekglaa
open Go.RowKit

/-- All bits one up, with i at the lowest place; one down, with i at the highest. -/
def upR (b : Int) (i : Bool) : Int := flagsOf (bitN b 1) (bitN b 2) (bitN b 3) (bitN b 4) (bitN b 5) (bitN b 6) (bitN b 7) i
def downR (b : Int) (i : Bool) : Int := flagsOf i (bitN b 0) (bitN b 1) (bitN b 2) (bitN b 3) (bitN b 4) (bitN b 5) (bitN b 6)
theorem up_is (b : Int) (i : Bool) (h0 : 0 ≤ b) (h1 : b ≤ 255) : withB (b * 2 % 256) 1 i = upR b i := by
  have h : ∀ n : Fin 256, ∀ i : Bool, withB ((n.val : Int) * 2 % 256) 1 i = upR (n.val : Int) i := by decide +kernel
  exact fin256 (P := fun b => withB (b * 2 % 256) 1 i = upR b i) (fun n => h n i) b h0 h1
theorem down_is (b : Int) (i : Bool) (h0 : 0 ≤ b) (h1 : b ≤ 255) : withB (b / 2) 128 i = downR b i := by
  have h : ∀ n : Fin 256, ∀ i : Bool, withB ((n.val : Int) / 2) 128 i = downR (n.val : Int) i := by decide +kernel
  exact fin256 (P := fun b => withB (b / 2) 128 i = downR b i) (fun n => h n i) b h0 h1
theorem upR_bd (b : Int) (i : Bool) : 0 ≤ upR b i ∧ upR b i ≤ 255 := flags_bd _ _ _ _ _ _ _ _
theorem downR_bd (b : Int) (i : Bool) : 0 ≤ downR b i ∧ downR b i ≤ 255 := flags_bd _ _ _ _ _ _ _ _

/-- The eight turns: the answer, and the bit that went out. -/
def turnV (k b : Int) (c : Bool) : Int × Bool :=
  if k = 0 then (upR b (bitN b 0), bitN b 0) else if k = 1 then (downR b (bitN b 7), bitN b 7) else
  if k = 2 then (upR b c, bitN b 0) else if k = 3 then (downR b c, bitN b 7) else
  if k = 4 then (upR b false, bitN b 0) else if k = 5 then (downR b (bitN b 0), bitN b 7) else
  if k = 6 then (upR b true, bitN b 0) else (downR b false, bitN b 7)
theorem turnV_0 (b : Int) (c : Bool) : turnV 0 b c = (upR b (bitN b 0), bitN b 0) := rfl
theorem turnV_1 (b : Int) (c : Bool) : turnV 1 b c = (downR b (bitN b 7), bitN b 7) := rfl
theorem turnV_2 (b : Int) (c : Bool) : turnV 2 b c = (upR b c, bitN b 0) := rfl
theorem turnV_3 (b : Int) (c : Bool) : turnV 3 b c = (downR b c, bitN b 7) := rfl
theorem turnV_4 (b : Int) (c : Bool) : turnV 4 b c = (upR b false, bitN b 0) := rfl
theorem turnV_5 (b : Int) (c : Bool) : turnV 5 b c = (downR b (bitN b 0), bitN b 7) := rfl
theorem turnV_6 (b : Int) (c : Bool) : turnV 6 b c = (upR b true, bitN b 0) := rfl
theorem turnV_7 (b : Int) (c : Bool) : turnV 7 b c = (downR b false, bitN b 7) := rfl
theorem turnV_bd (k b : Int) (c : Bool) : 0 ≤ (turnV k b c).1 ∧ (turnV k b c).1 ≤ 255 := by
  unfold turnV
  split
  · exact upR_bd _ _
  split
  · exact downR_bd _ _
  split
  · exact upR_bd _ _
  split
  · exact downR_bd _ _
  split
  · exact upR_bd _ _
  split
  · exact downR_bd _ _
  split
  · exact upR_bd _ _
  · exact downR_bd _ _
theorem eight_in (k : Int) (k0 : 0 ≤ k) (k7 : k ≤ 7) : k = 0 ∨ k = 1 ∨ k = 2 ∨ k = 3 ∨ k = 4 ∨ k = 5 ∨ k = 6 ∨ k = 7 := by omega

/-- The flags of an answer and a bit that went out; those of the accumulator's. -/
def turnF (r : Int) (o : Bool) : Int := flagsOf (bitN r 0) (r == 0) (bitN r 2) false (bitN r 4) (evenB r) false o
def accF (f r : Int) (o : Bool) : Int := flagsOf (bitN f 0) (bitN f 1) (bitN r 2) false (bitN r 4) (bitN f 5) false o
theorem turn_put (r : Int) (o : Bool) (h0 : 0 ≤ r) (h1 : r ≤ 255) : withB (ofPB r) 1 o = turnF r o := by
  rw [← (of_flags r h0 h1).2, with_C]; rfl
theorem turnF_bd (r : Int) (o : Bool) : 0 ≤ turnF r o ∧ turnF r o ≤ 255 := flags_bd _ _ _ _ _ _ _ _
theorem accF_bd (f r : Int) (o : Bool) : 0 ≤ accF f r o ∧ accF f r o ≤ 255 := flags_bd _ _ _ _ _ _ _ _
theorem kept_and (s z y h x p n c : Bool) : bits .and .u8 (flagsOf s z y h x p n c) 196 = flagsOf s z false false false p false false := by revert s z y h x p n c; decide +kernel
theorem told_and (s z y h x p n c : Bool) : bits .and .u8 (flagsOf s z y h x p n c) 41 = flagsOf false false y false x false false c := by revert s z y h x p n c; decide +kernel
theorem kept_told (s z y x p c : Bool) : bits .or .u8 (flagsOf s z false false false p false false) (flagsOf false false y false x false false c) = flagsOf s z y false x p false c := by revert s z y x p c; decide +kernel
theorem acc_put (f r : Int) (o : Bool) (f0 : 0 ≤ f) (f1 : f ≤ 255) : bits .or .u8 (bits .and .u8 f 196) (bits .and .u8 (turnF r o) 41) = accF f r o := by
  conv => lhs; rw [← flags_self f f0 f1]
  unfold turnF accF
  rw [kept_and, told_and, kept_told]

/-- The bit n of a byte, or none; F behind a test of it; the byte with it. -/
def bitV (n : Int) : Int := if 0 ≤ n ∧ n ≤ 7 then 2 ^ n.toNat else 0
theorem bitV_in (n : Nat) (h : n ≤ 7) : bitV (n : Int) = 2 ^ n := by unfold bitV; rw [if_pos (by omega)]; simp
theorem bitV_out (n : Int) (h : n < 0 ∨ 7 < n) : bitV n = 0 := by unfold bitV; rw [if_neg (by omega)]
theorem bitV_has (b n : Int) (h0 : 0 ≤ b) (h1 : b ≤ 255) (n0 : 0 ≤ n) (n7 : n ≤ 7) : (bits .and .u8 b (bitV n) != 0) = bitN b (7 - n.toNat) := by
  have h : ∀ x : Fin 256, ∀ k : Fin 8, (bits .and .u8 (x.val : Int) (bitV (k.val : Int)) != 0) = bitN (x.val : Int) (7 - k.val) := by decide +kernel
  have hk := fin256 (P := fun b => (bits .and .u8 b (bitV ((n.toNat : Nat) : Int)) != 0) = bitN b (7 - n.toNat)) (fun x => h x ⟨n.toNat, by omega⟩) b h0 h1
  rwa [Int.toNat_of_nonneg n0] at hk
theorem bitV_ne (n : Int) (n0 : 0 ≤ n) (n7 : n ≤ 7) : (bitV n == 0) = false ∧ (bitV n == 128) = (n == 7) := by
  rcases eight_in n n0 n7 with rfl | rfl | rfl | rfl | rfl | rfl | rfl | rfl <;> decide
def testF (n b yx f : Int) : Int := flagsOf (bitN b (7 - n.toNat) && n == 7) (!bitN b (7 - n.toNat)) (bitN yx 2) true (bitN yx 4) (!bitN b (7 - n.toNat)) false (bitN f 7)
def testV (n b yx f : Int) : Int := if 0 ≤ n ∧ n ≤ 7 then testF n b yx f else f
theorem testV_in (n b yx f : Int) (n0 : 0 ≤ n) (n7 : n ≤ 7) : testV n b yx f = testF n b yx f := by unfold testV; rw [if_pos ⟨n0, n7⟩]
theorem testV_out (n b yx f : Int) (h : n < 0 ∨ 7 < n) : testV n b yx f = f := by unfold testV; rw [if_neg (by omega)]
theorem test_base (yx f : Int) (y0 : 0 ≤ yx) (y1 : yx ≤ 255) (f0 : 0 ≤ f) (f1 : f ≤ 255) :
    bits .or .u8 (bits .or .u8 (bits .and .u8 f 1) (bits .and .u8 yx 40)) 16 = flagsOf false false (bitN yx 2) true (bitN yx 4) false false (bitN f 7) := by
  have hf : ∀ n : Fin 256, bits .and .u8 (n.val : Int) 1 = flagsOf false false false false false false false (bitN (n.val : Int) 7) := by decide +kernel
  have hy : ∀ n : Fin 256, bits .and .u8 (n.val : Int) 40 = flagsOf false false (bitN (n.val : Int) 2) false (bitN (n.val : Int) 4) false false false := by decide +kernel
  have e1 := fin256 (P := fun f => bits .and .u8 f 1 = flagsOf false false false false false false false (bitN f 7)) hf f f0 f1
  have e2 := fin256 (P := fun y => bits .and .u8 y 40 = flagsOf false false (bitN y 2) false (bitN y 4) false false false) hy yx y0 y1
  rw [e1, e2]
  generalize bitN f 7 = c
  generalize bitN yx 2 = y
  generalize bitN yx 4 = x
  revert c y x
  decide +kernel
theorem with_ZP (s z y h x p n c o : Bool) : withB (flagsOf s z y h x p n c) 68 o = flagsOf s o y h x o n c := by revert s z y h x p n c o; decide +kernel
def putV (n b : Int) (o : Bool) : Int := if 0 ≤ n ∧ n ≤ 7 then byteOf ((bitsTo b 8).set (7 - n.toNat) o) else b
theorem putV_in (n b : Int) (o : Bool) (n0 : 0 ≤ n) (n7 : n ≤ 7) : putV n b o = byteOf ((bitsTo b 8).set (7 - n.toNat) o) := by unfold putV; rw [if_pos ⟨n0, n7⟩]
theorem putV_out (n b : Int) (o : Bool) (h : n < 0 ∨ 7 < n) : putV n b o = b := by unfold putV; rw [if_neg (by omega)]
theorem put_is (n b : Int) (o : Bool) (h0 : 0 ≤ b) (h1 : b ≤ 255) : withB b (bitV n) o = putV n b o := by
  by_cases hn : 0 ≤ n ∧ n ≤ 7
  · have h : ∀ x : Fin 256, ∀ k : Fin 8, ∀ o : Bool, withB (x.val : Int) (bitV (k.val : Int)) o = byteOf ((bitsTo (x.val : Int) 8).set (7 - k.val) o) := by decide +kernel
    have hk := fin256 (P := fun b => withB b (bitV ((n.toNat : Nat) : Int)) o = byteOf ((bitsTo b 8).set (7 - n.toNat) o)) (fun x => h x ⟨n.toNat, by omega⟩ o) b h0 h1
    rw [Int.toNat_of_nonneg hn.1] at hk
    rw [putV_in n b o hn.1 hn.2]; exact hk
  · rw [bitV_out n (by omega), putV_out n b o (by omega)]
    have h : ∀ x : Fin 256, ∀ o : Bool, withB (x.val : Int) 0 o = (x.val : Int) := by decide +kernel
    exact fin256 (P := fun b => withB b 0 o = b) (fun x => h x o) b h0 h1
theorem putV_bd (n b : Int) (o : Bool) (h0 : 0 ≤ b) (h1 : b ≤ 255) : 0 ≤ putV n b o ∧ putV n b o ≤ 255 := by
  unfold putV
  split
  · have h := byteOf_bd ((bitsTo b 8).set (7 - n.toNat) o)
    rw [List.length_set, bitsTo_length] at h
    omega
  · exact ⟨h0, h1⟩

/-- Halves. -/
theorem join_half (h l : Int) (h0 : 0 ≤ h) (h1 : h ≤ 15) (l0 : 0 ≤ l) (l1 : l ≤ 15) : bits .or .u8 (h * 16) l = h * 16 + l := by
  have k : ∀ x y : Fin 16, bits .or .u8 ((x.val : Int) * 16) (y.val : Int) = (x.val : Int) * 16 + (y.val : Int) := by decide +kernel
  have hk := k ⟨h.toNat, by omega⟩ ⟨l.toNat, by omega⟩
  simpa only [Int.toNat_of_nonneg h0, Int.toNat_of_nonneg l0] using hk
def rldA (a m : Int) : Int := a / 16 * 16 + m / 16
def rldM (a m : Int) : Int := m % 16 * 16 + a % 16
def rrdA (a m : Int) : Int := a / 16 * 16 + m % 16
def rrdM (a m : Int) : Int := a % 16 * 16 + m / 16
theorem rldA_bd (a m : Int) (a0 : 0 ≤ a) (a1 : a ≤ 255) (m0 : 0 ≤ m) (m1 : m ≤ 255) : 0 ≤ rldA a m ∧ rldA a m ≤ 255 := by unfold rldA; omega
theorem rldM_bd (a m : Int) : 0 ≤ rldM a m ∧ rldM a m ≤ 255 := by unfold rldM; omega
theorem rrdA_bd (a m : Int) (a0 : 0 ≤ a) (a1 : a ≤ 255) : 0 ≤ rrdA a m ∧ rrdA a m ≤ 255 := by unfold rrdA; omega
theorem rrdM_bd (a m : Int) (m0 : 0 ≤ m) (m1 : m ≤ 255) : 0 ≤ rrdM a m ∧ rrdM a m ≤ 255 := by unfold rrdM; omega

/-- What follows: turned up and down again; eight turns. -/
def doV4 (k b f : Int) : Int × Int := if 0 ≤ k ∧ k ≤ 7 then ((turnV k b (bitN f 7)).1, turnF (turnV k b (bitN f 7)).1 (turnV k b (bitN f 7)).2) else (b, f)
def accV4 (k b f : Int) : Int × Int := if 0 ≤ k ∧ k ≤ 3 then ((turnV k b (bitN f 7)).1, accF f (turnV k b (bitN f 7)).1 (turnV k b (bitN f 7)).2) else (b, f)
theorem doV4_in (k b f : Int) (k0 : 0 ≤ k) (k7 : k ≤ 7) : doV4 k b f = ((turnV k b (bitN f 7)).1, turnF (turnV k b (bitN f 7)).1 (turnV k b (bitN f 7)).2) := by unfold doV4; rw [if_pos ⟨k0, k7⟩]
theorem doV4_out (k b f : Int) (h : k < 0 ∨ 7 < k) : doV4 k b f = (b, f) := by unfold doV4; rw [if_neg (by omega)]
theorem accV4_in (k b f : Int) (k0 : 0 ≤ k) (k3 : k ≤ 3) : accV4 k b f = ((turnV k b (bitN f 7)).1, accF f (turnV k b (bitN f 7)).1 (turnV k b (bitN f 7)).2) := by unfold accV4; rw [if_pos ⟨k0, k3⟩]
theorem accV4_out (k b f : Int) (h : k < 0 ∨ 3 < k) : accV4 k b f = (b, f) := by unfold accV4; rw [if_neg (by omega)]

end Go.Proofs.Ytcafoomnfekglaa
