/- Plain facts on the flags of what goes over memory and ports, for layer 5: no program is named here. -/
import Derived.Test.YtbpmhbgdainpdaaAluMath
namespace Go.Proofs.Ytbpmhbgdainpdaa
open Go.RowKit

/-- F with Y and X as the bits 1 and 3 of a sum. -/
def sumF (f n : Int) : Int := withB (withB f 32 (bitN n 6)) 8 (bitN n 4)
def sumTo (f n : Int) : Nat → Int
  | 0 => f
  | 1 => withB f 32 (bitN n 6)
  | _ => sumF f n
theorem sum_flags (s z y h x p m c : Bool) (n : Int) : sumF (flagsOf s z y h x p m c) n = flagsOf s z (bitN n 6) h (bitN n 4) p m c := by
  unfold sumF; rw [with_Y, with_X]

def copyN (a v : Int) : Int := (a + v) % 256
def copyF (a v bc f : Int) : Int := flagsOf (bitN f 0) (bitN f 1) (bitN (copyN a v) 6) false (bitN (copyN a v) 4) (decide (0 < bc)) false (bitN f 7)
theorem copyN_bd (a v : Int) : 0 ≤ copyN a v ∧ copyN a v ≤ 255 := by unfold copyN; omega
theorem and_kept (f : Int) (h0 : 0 ≤ f) (h1 : f ≤ 255) : bits .and .u8 f 193 = flagsOf (bitN f 0) (bitN f 1) false false false false false (bitN f 7) := by
  have h : ∀ n : Fin 256, bits .and .u8 (n.val : Int) 193 = flagsOf (bitN (n.val : Int) 0) (bitN (n.val : Int) 1) false false false false false (bitN (n.val : Int) 7) := by decide +kernel
  exact fin256 (P := fun f => bits .and .u8 f 193 = flagsOf (bitN f 0) (bitN f 1) false false false false false (bitN f 7)) h f h0 h1
theorem left_P (s z y h x p n c : Bool) (bc : Int) (b0 : 0 ≤ bc) : withB (flagsOf s z y h x p n c) 4 (!(bc == 0)) = flagsOf s z y h x (decide (0 < bc)) n c := by
  rw [with_P]
  congr 1
  by_cases e : bc = 0
  · subst e; decide
  · rw [show (bc == 0) = false by simpa using e, show decide (0 < bc) = true by simp; omega]; rfl

/-- What a byte is held against. -/
def findH (a v : Int) : Bool := decide (a % 16 - v % 16 - cN false < 0)
def findN (a v : Int) : Int := if findH a v then (subR a v false + 255) % 256 else subR a v false
def findF (a v bc f : Int) : Int := flagsOf (bitN (subR a v false) 0) (subR a v false == 0) (bitN (findN a v) 6) (findH a v) (bitN (findN a v) 4) (decide (0 < bc)) true (bitN f 7)
theorem findN_bd (a v : Int) : 0 ≤ findN a v ∧ findN a v ≤ 255 := by
  have := subR_bd a v false
  unfold findN; split <;> omega
theorem told_F (s z y h x p n c d : Bool) (f : Int) (f0 : 0 ≤ f) (f1 : f ≤ 255) (hd : bitN f 7 = d) :
    bits .or .u8 (bits .and .u8 (flagsOf s z y h x p n c) 210) (bits .and .u8 f 1) = flagsOf s z false h false false n d := by
  have hf : ∀ n : Fin 256, bits .and .u8 (n.val : Int) 1 = flagsOf false false false false false false false (bitN (n.val : Int) 7) := by decide +kernel
  have e1 := fin256 (P := fun f => bits .and .u8 f 1 = flagsOf false false false false false false false (bitN f 7)) hf f f0 f1
  rw [e1, hd]
  clear e1 hf hd f0 f1
  revert s z y h x p n c d
  decide +kernel
theorem sub_has (a v : Int) : (bits .and .u8 (subF a v false) 16 != 0) = findH a v := by
  rw [has_16 _ (subF_bd a v false).1 (subF_bd a v false).2]
  exact (bit_flags _ _ _ _ _ _ _ _).2.2.2.1

/-- What went through a port. -/
def portE (v k b : Int) : Int := xorR ((v + k) % 8) b
def portF (v k b : Int) : Int := flagsOf (bitN b 0) (b == 0) (bitN b 2) (decide (255 < v + k)) (bitN b 4) (evenB (portE v k b)) (bitN v 0) (decide (255 < v + k))
theorem with_HC (s z y h x p n c o : Bool) : withB (flagsOf s z y h x p n c) 17 o = flagsOf s z y o x p n o := by revert s z y h x p n c o; decide +kernel
theorem low3_mod (a : Int) (h0 : 0 ≤ a) (h1 : a ≤ 255) : bits .and .u8 a 7 = a % 8 := by
  have h : ∀ n : Fin 256, bits .and .u8 (n.val : Int) 7 = (n.val : Int) % 8 := by decide +kernel
  exact fin256 (P := fun a => bits .and .u8 a 7 = a % 8) h a h0 h1
theorem xor_R (a b : Int) (a0 : 0 ≤ a) (a1 : a ≤ 255) (b0 : 0 ≤ b) (b1 : b ≤ 255) : bits .xor .u8 a b = xorR a b := bits_xor a b a0 a1 b0 b1

/-- What goes on. -/
def againF (f pc : Int) : Int := flagsOf (bitN f 0) (bitN f 1) (bitN (pc / 256) 2) (bitN f 3) (bitN (pc / 256) 4) (bitN f 5) (bitN f 6) (bitN f 7)
theorem again_put (f : Int) (y x : Bool) (h0 : 0 ≤ f) (h1 : f ≤ 255) : withB (withB f 32 y) 8 x = flagsOf (bitN f 0) (bitN f 1) y (bitN f 3) x (bitN f 5) (bitN f 6) (bitN f 7) := by
  conv => lhs; rw [← flags_self f h0 h1]
  rw [with_Y, with_X]
theorem againF_bd (f pc : Int) : 0 ≤ againF f pc ∧ againF f pc ≤ 255 := flags_bd _ _ _ _ _ _ _ _
/-- The number whose lowest bits turn P, and H. -/
def onN (f v b : Int) : Int := if bitN f 7 then (if bitN v 0 then b + 7 else b + 1) else b
def onH (f v b : Int) : Bool := if bitN f 7 then (if bitN v 0 then b % 16 == 0 else b % 16 == 15) else bitN f 3
def onF (f v b pc : Int) : Int := flagsOf (bitN f 0) (bitN f 1) (bitN (pc / 256) 2) (onH f v b) (bitN (pc / 256) 4) (bitN f 5 == evenB (onN f v b % 8)) (bitN f 6) (bitN f 7)
theorem xor_P (s z y h x p n c : Bool) : bits .xor .u8 (flagsOf s z y h x p n c) 4 = flagsOf s z y h x (!p) n c := by revert s z y h x p n c; decide +kernel

end Go.Proofs.Ytbpmhbgdainpdaa
