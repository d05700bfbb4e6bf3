/- Plain facts on sums of bytes and their flags, for layer 2: no program is named here. -/
import Derived.Test.YtkjibnnoeceaeaaDoorFlagMath
namespace Go.Proofs.YtkjibnnoeceaeaaDoor
open Go.RowKit

def cN (c : Bool) : Int := if c then 1 else 0
def sgn (a : Int) : Int := if 128 ≤ a then a - 256 else a
def outB (n : Int) : Bool := decide (n < -128) || decide (127 < n)
def putB (f : Int) (l : List (Int × Bool)) : Int := l.foldl (fun f p => withB f p.1 p.2) f
theorem putB_nil (f : Int) : putB f [] = f := rfl
theorem putB_cons (f : Int) (p : Int × Bool) (l : List (Int × Bool)) : putB f (p :: l) = putB (withB f p.1 p.2) l := rfl
theorem putB_take_succ (f : Int) (l : List (Int × Bool)) (k : Nat) (h : k < l.length) : putB f (l.take (k + 1)) = withB (putB f (l.take k)) l[k].1 l[k].2 := by
  rw [← List.take_append_getElem h]; unfold putB; rw [List.foldl_append]; rfl

def addR (a b : Int) (c : Bool) : Int := (a + b + cN c) % 256
def subR (a b : Int) (c : Bool) : Int := (a - b - cN c) % 256
def addF (a b : Int) (c : Bool) : Int := flagsOf (bitN (addR a b c) 0) (addR a b c == 0) (bitN (addR a b c) 2) (decide (15 < a % 16 + b % 16 + cN c)) (bitN (addR a b c) 4) (outB (sgn a + sgn b + cN c)) false (decide (255 < a + b + cN c))
def subF (a b : Int) (c : Bool) : Int := flagsOf (bitN (subR a b c) 0) (subR a b c == 0) (bitN (subR a b c) 2) (decide (a % 16 - b % 16 - cN c < 0)) (bitN (subR a b c) 4) (outB (sgn a - sgn b - cN c)) true (decide (a - b - cN c < 0))
theorem cN_bd (c : Bool) : 0 ≤ cN c ∧ cN c ≤ 1 := by cases c <;> decide
theorem sgn_bd (a : Int) (h0 : 0 ≤ a) (h1 : a ≤ 255) : -128 ≤ sgn a ∧ sgn a ≤ 127 := by unfold sgn; split <;> omega
theorem addR_bd (a b : Int) (c : Bool) : 0 ≤ addR a b c ∧ addR a b c ≤ 255 := by unfold addR; omega
theorem subR_bd (a b : Int) (c : Bool) : 0 ≤ subR a b c ∧ subR a b c ≤ 255 := by unfold subR; omega

/-- One flag put into a byte of eight flags. -/
theorem with_S (s z y h x p n c o : Bool) : withB (flagsOf s z y h x p n c) 128 o = flagsOf o z y h x p n c := by revert s z y h x p n c o; decide +kernel
theorem with_Z (s z y h x p n c o : Bool) : withB (flagsOf s z y h x p n c) 64 o = flagsOf s o y h x p n c := by revert s z y h x p n c o; decide +kernel
theorem with_Y (s z y h x p n c o : Bool) : withB (flagsOf s z y h x p n c) 32 o = flagsOf s z o h x p n c := by revert s z y h x p n c o; decide +kernel
theorem with_H (s z y h x p n c o : Bool) : withB (flagsOf s z y h x p n c) 16 o = flagsOf s z y o x p n c := by revert s z y h x p n c o; decide +kernel
theorem with_X (s z y h x p n c o : Bool) : withB (flagsOf s z y h x p n c) 8 o = flagsOf s z y h o p n c := by revert s z y h x p n c o; decide +kernel
theorem with_P (s z y h x p n c o : Bool) : withB (flagsOf s z y h x p n c) 4 o = flagsOf s z y h x o n c := by revert s z y h x p n c o; decide +kernel
theorem with_N (s z y h x p n c o : Bool) : withB (flagsOf s z y h x p n c) 2 o = flagsOf s z y h x p o c := by revert s z y h x p n c o; decide +kernel
theorem with_C (s z y h x p n c o : Bool) : withB (flagsOf s z y h x p n c) 1 o = flagsOf s z y h x p n o := by revert s z y h x p n c o; decide +kernel
theorem with_HN (s z y h x p n c o : Bool) : withB (flagsOf s z y h x p n c) 18 o = flagsOf s z y o x p o c := by revert s z y h x p n c o; decide +kernel
theorem flags_self (f : Int) (h0 : 0 ≤ f) (h1 : f ≤ 255) : flagsOf (bitN f 0) (bitN f 1) (bitN f 2) (bitN f 3) (bitN f 4) (bitN f 5) (bitN f 6) (bitN f 7) = f := by
  have h : ∀ n : Fin 256, flagsOf (bitN n.val 0) (bitN n.val 1) (bitN n.val 2) (bitN n.val 3) (bitN n.val 4) (bitN n.val 5) (bitN n.val 6) (bitN n.val 7) = (n.val : Int) := by decide +kernel
  exact fin256 (P := fun f => flagsOf (bitN f 0) (bitN f 1) (bitN f 2) (bitN f 3) (bitN f 4) (bitN f 5) (bitN f 6) (bitN f 7) = f) h f h0 h1
theorem flags_bd (s z y h x p n c : Bool) : 0 ≤ flagsOf s z y h x p n c ∧ flagsOf s z y h x p n c ≤ 255 := by revert s z y h x p n c; decide +kernel
theorem bit_flags (s z y h x p n c : Bool) : bitN (flagsOf s z y h x p n c) 0 = s ∧ bitN (flagsOf s z y h x p n c) 1 = z ∧ bitN (flagsOf s z y h x p n c) 2 = y ∧ bitN (flagsOf s z y h x p n c) 3 = h ∧
    bitN (flagsOf s z y h x p n c) 4 = x ∧ bitN (flagsOf s z y h x p n c) 5 = p ∧ bitN (flagsOf s z y h x p n c) 6 = n ∧ bitN (flagsOf s z y h x p n c) 7 = c := by revert s z y h x p n c; decide +kernel
theorem has_32 (b : Int) (h0 : 0 ≤ b) (h1 : b ≤ 255) : (bits .and .u8 b 32 != 0) = bitN b 2 := has_bit b h0 h1 2 (by decide)
theorem has_16 (b : Int) (h0 : 0 ≤ b) (h1 : b ≤ 255) : (bits .and .u8 b 16 != 0) = bitN b 3 := has_bit b h0 h1 3 (by decide)
theorem has_8 (b : Int) (h0 : 0 ≤ b) (h1 : b ≤ 255) : (bits .and .u8 b 8 != 0) = bitN b 4 := has_bit b h0 h1 4 (by decide)
theorem has_2 (b : Int) (h0 : 0 ≤ b) (h1 : b ≤ 255) : (bits .and .u8 b 2 != 0) = bitN b 6 := has_bit b h0 h1 6 (by decide)

theorem low_mod (a : Int) (h0 : 0 ≤ a) (h1 : a ≤ 255) : bits .and .u8 a 15 = a % 16 := by
  have h : ∀ n : Fin 256, bits .and .u8 (n.val : Int) 15 = (n.val : Int) % 16 := by decide +kernel
  exact fin256 (P := fun a => bits .and .u8 a 15 = a % 16) h a h0 h1
theorem wrap_i8 (a : Int) (h0 : 0 ≤ a) (h1 : a ≤ 255) : IntKind.i8.wrap a = sgn a := by
  have h : ∀ n : Fin 256, IntKind.i8.wrap (n.val : Int) = sgn (n.val : Int) := by decide +kernel
  exact fin256 (P := fun a => IntKind.i8.wrap a = sgn a) h a h0 h1

/-- What alu puts together, as the document's eight flags. -/
theorem add_put (a b : Int) (c : Bool) : putB (ofB (addR a b c)) [(16, decide (15 < a % 16 + b % 16 + cN c)), (4, outB (sgn a + sgn b + cN c)), (1, decide (255 < a + b + cN c))] = addF a b c := by
  rw [← (of_flags _ (addR_bd a b c).1 (addR_bd a b c).2).1]
  simp only [putB_cons, putB_nil, with_H, with_P, with_C, addF]
theorem sub_put (a b : Int) (c : Bool) : putB (ofB (subR a b c)) [(16, decide (a % 16 - b % 16 - cN c < 0)), (4, outB (sgn a - sgn b - cN c)), (2, true), (1, decide (a - b - cN c < 0))] = subF a b c := by
  rw [← (of_flags _ (subR_bd a b c).1 (subR_bd a b c).2).1]
  simp only [putB_cons, putB_nil, with_H, with_P, with_N, with_C, subF]

/-- F with Y and X of a byte; with C of another one. -/
def mixF (f b : Int) : Int := flagsOf (bitN f 0) (bitN f 1) (bitN b 2) (bitN f 3) (bitN b 4) (bitN f 5) (bitN f 6) (bitN f 7)
def keepF (f o : Int) : Int := flagsOf (bitN f 0) (bitN f 1) (bitN f 2) (bitN f 3) (bitN f 4) (bitN f 5) (bitN f 6) (bitN o 7)
theorem addF_bd (a b : Int) (c : Bool) : 0 ≤ addF a b c ∧ addF a b c ≤ 255 := flags_bd _ _ _ _ _ _ _ _
theorem subF_bd (a b : Int) (c : Bool) : 0 ≤ subF a b c ∧ subF a b c ≤ 255 := flags_bd _ _ _ _ _ _ _ _
theorem mix_put (f b : Int) (h0 : 0 ≤ f) (h1 : f ≤ 255) : putB f [(32, bitN b 2), (8, bitN b 4)] = mixF f b := by
  unfold mixF
  generalize bitN b 2 = y
  generalize bitN b 4 = x
  conv => lhs; rw [← flags_self f h0 h1]
  simp only [putB_cons, putB_nil, with_Y, with_X]
theorem keep_put (f o : Int) (h0 : 0 ≤ f) (h1 : f ≤ 255) : putB f [(1, bitN o 7)] = keepF f o := by
  unfold keepF
  generalize bitN o 7 = c
  conv => lhs; rw [← flags_self f h0 h1]
  simp only [putB_cons, putB_nil, with_C]

/-- Bit by bit. -/
def andR (a b : Int) : Int := byteOf ((List.range 8).map fun i => bitN a i && bitN b i)
def xorR (a b : Int) : Int := byteOf ((List.range 8).map fun i => bitN a i ^^ bitN b i)
def orR (a b : Int) : Int := byteOf ((List.range 8).map fun i => bitN a i || bitN b i)
theorem byte8_bd (g : Nat → Bool) : 0 ≤ byteOf ((List.range 8).map g) ∧ byteOf ((List.range 8).map g) ≤ 255 := flags_bd (g 0) (g 1) (g 2) (g 3) (g 4) (g 5) (g 6) (g 7)
theorem bit8 (g : Nat → Bool) (i : Nat) (hi : i < 8) : bitN (byteOf ((List.range 8).map g)) i = g i := by
  obtain ⟨h0, h1, h2, h3, h4, h5, h6, h7⟩ := bit_flags (g 0) (g 1) (g 2) (g 3) (g 4) (g 5) (g 6) (g 7)
  have : i = 0 ∨ i = 1 ∨ i = 2 ∨ i = 3 ∨ i = 4 ∨ i = 5 ∨ i = 6 ∨ i = 7 := by omega
  rcases this with rfl | rfl | rfl | rfl | rfl | rfl | rfl | rfl
  · exact h0
  · exact h1
  · exact h2
  · exact h3
  · exact h4
  · exact h5
  · exact h6
  · exact h7
theorem andR_bd (a b : Int) : 0 ≤ andR a b ∧ andR a b ≤ 255 := byte8_bd _
theorem xorR_bd (a b : Int) : 0 ≤ xorR a b ∧ xorR a b ≤ 255 := byte8_bd _
theorem orR_bd (a b : Int) : 0 ≤ orR a b ∧ orR a b ≤ 255 := byte8_bd _
def joinF (r : Int) (h : Bool) : Int := flagsOf (bitN r 0) (r == 0) (bitN r 2) h (bitN r 4) (evenB r) false false
theorem join_put (r : Int) (h0 : 0 ≤ r) (h1 : r ≤ 255) (o : Bool) : putB (ofPB r) [(16, o)] = joinF r o := by
  rw [← (of_flags r h0 h1).2]
  simp only [putB_cons, putB_nil, with_H, joinF]
theorem join_ofP (r : Int) (h0 : 0 ≤ r) (h1 : r ≤ 255) : ofPB r = joinF r false := by
  rw [← (of_flags r h0 h1).2]; rfl

/-- The eight operations: the answer, and F. -/
def doV (k a b f : Int) : Int × Int :=
  if k = 0 then (addR a b false, addF a b false) else if k = 1 then (addR a b (bitN f 7), addF a b (bitN f 7)) else
  if k = 2 then (subR a b false, subF a b false) else if k = 3 then (subR a b (bitN f 7), subF a b (bitN f 7)) else
  if k = 4 then (andR a b, joinF (andR a b) true) else if k = 5 then (xorR a b, joinF (xorR a b) false) else
  if k = 6 then (orR a b, joinF (orR a b) false) else if k = 7 then (a, mixF (subF a b false) b) else (a, f)
theorem doV_0 (a b f : Int) : doV 0 a b f = (addR a b false, addF a b false) := rfl
theorem doV_1 (a b f : Int) : doV 1 a b f = (addR a b (bitN f 7), addF a b (bitN f 7)) := rfl
theorem doV_2 (a b f : Int) : doV 2 a b f = (subR a b false, subF a b false) := rfl
theorem doV_3 (a b f : Int) : doV 3 a b f = (subR a b (bitN f 7), subF a b (bitN f 7)) := rfl
theorem doV_4 (a b f : Int) : doV 4 a b f = (andR a b, joinF (andR a b) true) := rfl
theorem doV_5 (a b f : Int) : doV 5 a b f = (xorR a b, joinF (xorR a b) false) := rfl
theorem doV_6 (a b f : Int) : doV 6 a b f = (orR a b, joinF (orR a b) false) := rfl
theorem doV_7 (a b f : Int) : doV 7 a b f = (a, mixF (subF a b false) b) := rfl
theorem doV_else (k a b f : Int) (h : k < 0 ∨ 7 < k) : doV k a b f = (a, f) := by
  unfold doV
  rw [if_neg (by omega), if_neg (by omega), if_neg (by omega), if_neg (by omega), if_neg (by omega), if_neg (by omega), if_neg (by omega), if_neg (by omega)]

/-- Cpl, Daa, Scf, Ccf. -/
def cplF (a f : Int) : Int := flagsOf (bitN f 0) (bitN f 1) (bitN (255 - a) 2) true (bitN (255 - a) 4) (bitN f 5) true (bitN f 7)
theorem cpl_put (a f : Int) (h0 : 0 ≤ f) (h1 : f ≤ 255) : putB f [(32, bitN (255 - a) 2), (8, bitN (255 - a) 4), (18, true)] = cplF a f := by
  unfold cplF
  generalize bitN (255 - a) 2 = y
  generalize bitN (255 - a) 4 = x
  conv => lhs; rw [← flags_self f h0 h1]
  simp only [putB_cons, putB_nil, with_Y, with_X, with_HN]
theorem not_u8 (a : Int) (h0 : 0 ≤ a) (h1 : a ≤ 255) : bits .xor .u8 IntKind.u8.max a = 255 - a := by
  have h : ∀ n : Fin 256, bits .xor .u8 IntKind.u8.max (n.val : Int) = 255 - (n.val : Int) := by decide +kernel
  exact fin256 (P := fun a => bits .xor .u8 IntKind.u8.max a = 255 - a) h a h0 h1
def daaD (a f : Int) : Int := (if bitN f 3 || decide (9 < a % 16) then 6 else 0) + (if bitN f 7 || decide (153 < a) then 96 else 0)
def daaR (a f : Int) : Int := if bitN f 6 then (a - daaD a f) % 256 else (a + daaD a f) % 256
def daaH (a f : Int) : Bool := if bitN f 6 then bitN f 3 && decide (a % 16 < 6) else decide (9 < a % 16)
def daaF (a f : Int) : Int := flagsOf (bitN (daaR a f) 0) (daaR a f == 0) (bitN (daaR a f) 2) (daaH a f) (bitN (daaR a f) 4) (evenB (daaR a f)) (bitN f 6) (bitN f 7 || decide (153 < a))
theorem daaR_bd (a f : Int) : 0 ≤ daaR a f ∧ daaR a f ≤ 255 := by unfold daaR; split <;> omega
theorem daa_put (a f : Int) : putB (ofPB (daaR a f)) [(16, daaH a f), (2, bitN f 6), (1, bitN f 7 || decide (153 < a))] = daaF a f := by
  rw [← (of_flags _ (daaR_bd a f).1 (daaR_bd a f).2).2]
  simp only [putB_cons, putB_nil, with_H, with_N, with_C, daaF]
def leakN (a f q : Int) (i : Nat) : Bool := (bitN f i != bitN q i) || bitN a i
def leakR (a f q : Int) : Int := bits .or .u8 (bits .xor .u8 q f) a
theorem leak_bit (a f q : Int) (a0 : 0 ≤ a) (a1 : a ≤ 255) (f0 : 0 ≤ f) (f1 : f ≤ 255) (q0 : 0 ≤ q) (q1 : q ≤ 255) (i : Nat) (hi : i < 8) : 0 ≤ leakR a f q ∧ leakR a f q ≤ 255 ∧ bitN (leakR a f q) i = leakN a f q i := by
  unfold leakR
  have hx := byte8_bd fun i => bitN q i ^^ bitN f i
  rw [bits_xor q f q0 q1 f0 f1, bits_or _ a hx.1 hx.2 a0 a1]
  refine ⟨(byte8_bd _).1, (byte8_bd _).2, ?_⟩
  rw [bit8 _ i hi, bit8 _ i hi]
  unfold leakN
  cases bitN q i <;> cases bitN f i <;> cases bitN a i <;> rfl
def leakF (a f q : Int) : Int := flagsOf (bitN f 0) (bitN f 1) (leakN a f q 2) (bitN f 3) (leakN a f q 4) (bitN f 5) (bitN f 6) (bitN f 7)
theorem leak_put (a f q : Int) (f0 : 0 ≤ f) (f1 : f ≤ 255) : putB f [(32, leakN a f q 2), (8, leakN a f q 4)] = leakF a f q := by
  unfold leakF
  generalize leakN a f q 2 = y
  generalize leakN a f q 4 = x
  conv => lhs; rw [← flags_self f f0 f1]
  simp only [putB_cons, putB_nil, with_Y, with_X]
def scfF (a f q : Int) : Int := flagsOf (bitN f 0) (bitN f 1) (leakN a f q 2) false (leakN a f q 4) (bitN f 5) false true
def ccfF (a f q : Int) : Int := flagsOf (bitN f 0) (bitN f 1) (leakN a f q 2) (bitN f 7) (leakN a f q 4) (bitN f 5) false (!bitN f 7)
theorem scf_put (a f q : Int) : putB (leakF a f q) [(18, false), (1, true)] = scfF a f q := by
  simp only [leakF, putB_cons, putB_nil, with_HN, with_C, scfF]
theorem ccf_put (a f q : Int) : putB (leakF a f q) [(16, bitN f 7), (2, false), (1, !bitN f 7)] = ccfF a f q := by
  simp only [leakF, putB_cons, putB_nil, with_H, with_N, with_C, ccfF]

end Go.Proofs.YtkjibnnoeceaeaaDoor
