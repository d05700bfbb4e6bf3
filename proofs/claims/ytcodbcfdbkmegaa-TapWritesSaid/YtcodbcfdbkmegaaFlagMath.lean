/- Plain facts on bytes and their bits, for layer 1: no program is named here. -/
import Derived.WalkKit
namespace Go.Proofs.Ytcodbcfdbkmegaa
open Go.RowKit

theorem fin256 {P : Int → Prop} (h : ∀ n : Fin 256, P (n.val : Int)) (b : Int) (h0 : 0 ≤ b) (h1 : b ≤ 255) : P b := by
  have hb := h ⟨b.toNat, by omega⟩
  have e : ((b.toNat : Nat) : Int) = b := Int.toNat_of_nonneg h0
  simp only [e] at hb
  exact hb

/-- Bit i of a byte, of which 0 is the highest. -/
def bitN (b : Int) (i : Nat) : Bool := b / 2 ^ (7 - i) % 2 == 1
def bitsTo (b : Int) (k : Nat) : List Bool := (List.range k).map (bitN b)
def evenTo (b : Int) : Nat → Bool
  | 0 => true
  | k + 1 => if bitN b k then !evenTo b k else evenTo b k
def evenB (b : Int) : Bool := evenTo b 8
def byteStep (n : Int) (x : Bool) : Int := 2 * n + if x then 1 else 0
def byteOf (l : List Bool) : Int := l.foldl byteStep 0
def withB (f b : Int) (o : Bool) : Int := if o then bits .or .u8 f b else bits .andNot .u8 f b
def ofB (b : Int) : Int := withB (bits .and .u8 b 168) 64 (b == 0)
def ofPB (b : Int) : Int := withB (ofB b) 4 (evenB b)
def flagsOf (s z y h x p n c : Bool) : Int := byteOf [s, z, y, h, x, p, n, c]

theorem has_bit (b : Int) (h0 : 0 ≤ b) (h1 : b ≤ 255) (k : Nat) (hk : k < 8) : (bits .and .u8 b (128 / 2 ^ k) != 0) = bitN b k := by
  have h : ∀ n : Fin 256, ∀ k : Fin 8, (bits .and .u8 (n.val : Int) (128 / 2 ^ k.val) != 0) = bitN (n.val : Int) k.val := by decide +kernel
  exact fin256 (P := fun b => (bits .and .u8 b (128 / 2 ^ k) != 0) = bitN b k) (fun n => h n ⟨k, hk⟩) b h0 h1

theorem evenTo_succ (b : Int) (k : Nat) : evenTo b (k + 1) = if bitN b k then !evenTo b k else evenTo b k := rfl
theorem bitsTo_succ (b : Int) (k : Nat) : bitsTo b (k + 1) = bitsTo b k ++ [bitN b k] := by simp [bitsTo, List.range_succ]
theorem bitsTo_length (b : Int) (k : Nat) : (bitsTo b k).length = k := by simp [bitsTo]

theorem byteStep_bd (n : Int) (x : Bool) (k : Nat) (h0 : 0 ≤ n) (h : n < 2 ^ k) : 0 ≤ byteStep n x ∧ byteStep n x < 2 ^ (k + 1) := by
  unfold byteStep
  rw [Int.pow_succ]
  cases x <;> simp <;> omega
theorem byteOf_snoc (l : List Bool) (x : Bool) : byteOf (l ++ [x]) = byteStep (byteOf l) x := by simp [byteOf]
theorem byteFold_bd (l : List Bool) : ∀ (n : Int) (k : Nat), 0 ≤ n → n < 2 ^ k → 0 ≤ l.foldl byteStep n ∧ l.foldl byteStep n < 2 ^ (k + l.length) := by
  induction l with
  | nil => intro n k h0 h; exact ⟨h0, h⟩
  | cons x l ih =>
    intro n k h0 h
    have hs := byteStep_bd n x k h0 h
    have := ih (byteStep n x) (k + 1) hs.1 hs.2
    rw [List.foldl_cons, List.length_cons]
    rw [show k + (l.length + 1) = k + 1 + l.length from by omega]
    exact this
theorem byteOf_bd (l : List Bool) : 0 ≤ byteOf l ∧ byteOf l < 2 ^ l.length := by
  have := byteFold_bd l 0 0 (by omega) (by omega)
  simpa [byteOf] using this
theorem byteOf_take_succ (l : List Bool) (k : Nat) (h : k < l.length) : byteOf (l.take (k + 1)) = byteStep (byteOf (l.take k)) l[k] := by
  rw [← List.take_append_getElem h, byteOf_snoc]
theorem byteOf_take_bd (l : List Bool) (hl : l.length = 8) (k : Nat) (hk : k ≤ 8) : 0 ≤ byteOf (l.take k) ∧ byteOf (l.take k) < 256 := by
  have h := byteOf_bd (l.take k)
  have hlen : (l.take k).length = k := by simp; omega
  rw [hlen] at h
  have hp : ∀ k : Fin 9, (2 : Int) ^ k.val ≤ 256 := by decide
  have hq : (2 : Int) ^ k ≤ 256 := hp ⟨k, by omega⟩
  omega

/-- What the document's Bits goes through: the weight of bit i, and what is left of b ahead of it. -/
def wgt (i : Nat) : Int := 128 / 2 ^ i
def rst (b : Int) (i : Nat) : Int := b % 2 ^ (8 - i)
theorem wgt_zero : wgt 0 = 128 := by decide
theorem wgt_eight : wgt 8 = 0 := by decide
theorem rst_zero (b : Int) (h0 : 0 ≤ b) (h1 : b ≤ 255) : rst b 0 = b := by unfold rst; omega
theorem wgt_step (i : Nat) (h : i < 8) : 1 ≤ wgt i ∧ wgt i ≤ 128 ∧ wgt i / 2 = wgt (i + 1) := by
  have k : ∀ i : Fin 8, 1 ≤ wgt i.val ∧ wgt i.val ≤ 128 ∧ wgt i.val / 2 = wgt (i.val + 1) := by decide +kernel
  exact k ⟨i, h⟩
theorem rst_step (b : Int) (h0 : 0 ≤ b) (h1 : b ≤ 255) (i : Nat) (h : i < 8) : 0 ≤ rst b i ∧ rst b i ≤ 255 ∧
    (if bitN b i then wgt i ≤ rst b i ∧ rst b i - wgt i = rst b (i + 1) else rst b i < wgt i ∧ rst b i = rst b (i + 1)) := by
  have k : ∀ n : Fin 256, ∀ i : Fin 8, 0 ≤ rst n.val i.val ∧ rst n.val i.val ≤ 255 ∧
    (if bitN n.val i.val then wgt i.val ≤ rst n.val i.val ∧ rst n.val i.val - wgt i.val = rst n.val (i.val + 1) else rst n.val i.val < wgt i.val ∧ rst n.val i.val = rst n.val (i.val + 1)) := by decide +kernel
  exact fin256 (P := fun b => 0 ≤ rst b i ∧ rst b i ≤ 255 ∧
    (if bitN b i then wgt i ≤ rst b i ∧ rst b i - wgt i = rst b (i + 1) else rst b i < wgt i ∧ rst b i = rst b (i + 1))) (fun n => k n ⟨i, h⟩) b h0 h1

theorem bits8_at (b : Int) (i : Nat) (h : i < (bitsTo b 8).length) : (bitsTo b 8)[i] = bitN b i := by simp [bitsTo]

/-- The signs of F's bits, and the text of a byte. -/
def signsL : List UInt8 := [83, 90, 89, 72, 88, 80, 78, 67]
def showN (b : Int) (i : Nat) : UInt8 := if bitN b i then signsL.getD i 0 else 45
def showTo (b : Int) (k : Nat) : List UInt8 := (List.range k).map (showN b)
def showS (b : Int) : ByteArray := ⟨(showTo b 8).toArray⟩
theorem showTo_succ (b : Int) (k : Nat) : showTo b (k + 1) = showTo b k ++ [showN b k] := by simp [showTo, List.range_succ]
theorem showTo_length (b : Int) (k : Nat) : (showTo b k).length = k := by simp [showTo]
theorem showTo_at (b : Int) (k i : Nat) (h : i < (showTo b k).length) : (showTo b k)[i] = showN b i := by simp [showTo]

theorem cat_one (t : List UInt8) (c : UInt8) : ((⟨t.toArray⟩ : ByteArray) ++ (⟨#[c]⟩ : ByteArray)) = ⟨(t ++ [c]).toArray⟩ := by
  apply ByteArray.ext
  simp
theorem sign_cut (k : Nat) (h : k < 8) : (⟨#[83, 90, 89, 72, 88, 80, 78, 67]⟩ : ByteArray).extract k (k + 1) = ⟨#[signsL.getD k 0]⟩ := by
  have a : ∀ k : Fin 8, (⟨#[83, 90, 89, 72, 88, 80, 78, 67]⟩ : ByteArray).extract k.val (k.val + 1) = ⟨#[signsL.getD k.val 0]⟩ := by decide +kernel
  exact a ⟨k, h⟩
theorem sign_at (k : Nat) (h : k < 8) : ((⟨#[83, 90, 89, 72, 88, 80, 78, 67]⟩ : ByteArray)[k]'h) = signsL.getD k 0 := by
  have a : ∀ k : Fin 8, ((⟨#[83, 90, 89, 72, 88, 80, 78, 67]⟩ : ByteArray)[k.val]'k.isLt) = signsL.getD k.val 0 := by decide +kernel
  exact a ⟨k, h⟩
theorem showN_yes (b : Int) (k : Nat) (h : bitN b k = true) : showN b k = signsL.getD k 0 := by simp [showN, h]
theorem showN_no (b : Int) (k : Nat) (h : bitN b k = false) : showN b k = 45 := by simp [showN, h]

/-- What flag.Read makes of the first k bytes of a text. -/
def readTo (l : List UInt8) : Nat → Int
  | 0 => 0
  | k + 1 => if l.getD k 0 = signsL.getD k 0 then bits .or .u8 (readTo l k) (128 / 2 ^ k) else readTo l k
def okTo (l : List UInt8) : Nat → Bool
  | 0 => true
  | k + 1 => okTo l k && (l.getD k 0 == signsL.getD k 0 || l.getD k 0 == 45)
def readV (l : List UInt8) : Int := if l.length = 8 ∧ okTo l 8 = true then readTo l 8 else 0
def readE (l : List UInt8) : Int := if l.length = 8 ∧ okTo l 8 = true then 0 else 4
theorem okTo_false (l : List UInt8) (j : Nat) : ∀ k, j ≤ k → okTo l j = false → okTo l k = false := by
  intro k hk h
  induction k with
  | zero => have : j = 0 := by omega
            subst this; exact h
  | succ k ih =>
    by_cases e : j = k + 1
    · subst e; exact h
    · simp [okTo, ih (by omega)]

/-- The document's conditions: which bit (0 the highest) the condition k asks for. -/
def condAt : Nat → Nat
  | 0 => 1 | 1 => 1 | 2 => 7 | 3 => 7 | 4 => 5 | 5 => 5 | _ => 0
def condB (f k : Int) : Bool := if 0 ≤ k ∧ k ≤ 7 then bitN f (condAt k.toNat) == (k % 2 == 1) else false
theorem has_64 (b : Int) (h0 : 0 ≤ b) (h1 : b ≤ 255) : (bits .and .u8 b 64 != 0) = bitN b 1 := has_bit b h0 h1 1 (by decide)
theorem has_1 (b : Int) (h0 : 0 ≤ b) (h1 : b ≤ 255) : (bits .and .u8 b 1 != 0) = bitN b 7 := has_bit b h0 h1 7 (by decide)
theorem has_4 (b : Int) (h0 : 0 ≤ b) (h1 : b ≤ 255) : (bits .and .u8 b 4 != 0) = bitN b 5 := has_bit b h0 h1 5 (by decide)
theorem has_128 (b : Int) (h0 : 0 ≤ b) (h1 : b ≤ 255) : (bits .and .u8 b 128 != 0) = bitN b 0 := has_bit b h0 h1 0 (by decide)

theorem condB_0 (f : Int) : condB f 0 = (!bitN f 1) := by cases h : bitN f 1 <;> simp [condB, condAt, h]
theorem condB_1 (f : Int) : condB f 1 = (bitN f 1) := by cases h : bitN f 1 <;> simp [condB, condAt, h]
theorem condB_2 (f : Int) : condB f 2 = (!bitN f 7) := by cases h : bitN f 7 <;> simp [condB, condAt, h]
theorem condB_3 (f : Int) : condB f 3 = (bitN f 7) := by cases h : bitN f 7 <;> simp [condB, condAt, h]
theorem condB_4 (f : Int) : condB f 4 = (!bitN f 5) := by cases h : bitN f 5 <;> simp [condB, condAt, h]
theorem condB_5 (f : Int) : condB f 5 = (bitN f 5) := by cases h : bitN f 5 <;> simp [condB, condAt, h]
theorem condB_6 (f : Int) : condB f 6 = (!bitN f 0) := by cases h : bitN f 0 <;> simp [condB, condAt, h]
theorem condB_7 (f : Int) : condB f 7 = (bitN f 0) := by cases h : bitN f 0 <;> simp [condB, condAt, h]

/-- A byte is put together of its own bits; what is done bit by bit. -/
def asBits (x : BitVec 8) : List Bool := (List.range 8).map (fun i => x.getMsbD i)
theorem byteOf_asBits (x : BitVec 8) : byteOf (asBits x) = (x.toNat : Int) := by
  have h : ∀ n : Fin 256, byteOf (asBits (BitVec.ofFin n)) = ((BitVec.ofFin n : BitVec 8).toNat : Int) := by decide +kernel
  exact h x.toFin
theorem bitN_msb (b : Int) (h0 : 0 ≤ b) (h1 : b ≤ 255) (i : Nat) (hi : i < 8) : bitN b i = (BitVec.ofInt 8 b).getMsbD i := by
  have h : ∀ n : Fin 256, ∀ i : Fin 8, bitN (n.val : Int) i.val = (BitVec.ofInt 8 (n.val : Int)).getMsbD i.val := by decide +kernel
  exact fin256 (P := fun b => bitN b i = (BitVec.ofInt 8 b).getMsbD i) (fun n => h n ⟨i, hi⟩) b h0 h1
theorem wrap_u8_nat (x : BitVec 8) : IntKind.u8.wrap (x.toNat : Int) = (x.toNat : Int) := by
  have h : ∀ n : Fin 256, IntKind.u8.wrap ((BitVec.ofFin n : BitVec 8).toNat : Int) = ((BitVec.ofFin n : BitVec 8).toNat : Int) := by decide +kernel
  exact h x.toFin
theorem map_range8 {f g : Nat → Bool} (h : ∀ i, i < 8 → f i = g i) : (List.range 8).map f = (List.range 8).map g :=
  List.map_congr_left fun i hi => h i (by simpa using hi)
theorem bits_or (f b : Int) (f0 : 0 ≤ f) (f1 : f ≤ 255) (b0 : 0 ≤ b) (b1 : b ≤ 255) : bits .or .u8 f b = byteOf ((List.range 8).map fun i => bitN f i || bitN b i) := by
  rw [map_range8 (g := fun i => (BitVec.ofInt 8 f ||| BitVec.ofInt 8 b).getMsbD i) (fun i hi => by rw [BitVec.getMsbD_or, bitN_msb f f0 f1 i hi, bitN_msb b b0 b1 i hi])]
  exact (wrap_u8_nat _).trans (byteOf_asBits _).symm
theorem bits_and (f b : Int) (f0 : 0 ≤ f) (f1 : f ≤ 255) (b0 : 0 ≤ b) (b1 : b ≤ 255) : bits .and .u8 f b = byteOf ((List.range 8).map fun i => bitN f i && bitN b i) := by
  rw [map_range8 (g := fun i => (BitVec.ofInt 8 f &&& BitVec.ofInt 8 b).getMsbD i) (fun i hi => by rw [BitVec.getMsbD_and, bitN_msb f f0 f1 i hi, bitN_msb b b0 b1 i hi])]
  exact (wrap_u8_nat _).trans (byteOf_asBits _).symm
theorem bits_xor (f b : Int) (f0 : 0 ≤ f) (f1 : f ≤ 255) (b0 : 0 ≤ b) (b1 : b ≤ 255) : bits .xor .u8 f b = byteOf ((List.range 8).map fun i => bitN f i ^^ bitN b i) := by
  rw [map_range8 (g := fun i => (BitVec.ofInt 8 f ^^^ BitVec.ofInt 8 b).getMsbD i) (fun i hi => by rw [BitVec.getMsbD_xor, bitN_msb f f0 f1 i hi, bitN_msb b b0 b1 i hi])]
  exact (wrap_u8_nat _).trans (byteOf_asBits _).symm
theorem bits_andNot (f b : Int) (f0 : 0 ≤ f) (f1 : f ≤ 255) (b0 : 0 ≤ b) (b1 : b ≤ 255) : bits .andNot .u8 f b = byteOf ((List.range 8).map fun i => bitN f i && !bitN b i) := by
  rw [map_range8 (g := fun i => (BitVec.ofInt 8 f &&& ~~~BitVec.ofInt 8 b).getMsbD i) (fun i hi => by rw [BitVec.getMsbD_and, BitVec.getMsbD_not, bitN_msb f f0 f1 i hi, bitN_msb b b0 b1 i hi]; simp [hi])]
  exact (wrap_u8_nat _).trans (byteOf_asBits _).symm

/-- What FlagBits goes through. -/
def orTo (f b : Int) : Nat → Bool
  | 0 => false
  | k + 1 => orTo f b k || (bitN f k && bitN b k)
def outN (f b : Int) (o : Bool) (i : Nat) : Bool := if bitN b i then o else bitN f i
def outTo (f b : Int) (o : Bool) (k : Nat) : List Bool := (List.range k).map (outN f b o)
theorem outTo_succ (f b : Int) (o : Bool) (k : Nat) : outTo f b o (k + 1) = outTo f b o k ++ [outN f b o k] := by simp [outTo, List.range_succ]
theorem outTo_length (f b : Int) (o : Bool) (k : Nat) : (outTo f b o k).length = k := by simp [outTo]
theorem with_out (f b : Int) (o : Bool) (f0 : 0 ≤ f) (f1 : f ≤ 255) (b0 : 0 ≤ b) (b1 : b ≤ 255) : withB f b o = byteOf (outTo f b o 8) := by
  unfold withB outTo
  cases o
  · rw [if_neg (by simp), bits_andNot f b f0 f1 b0 b1]
    congr 1
    exact map_range8 fun i _ => by unfold outN; cases bitN b i <;> simp
  · rw [if_pos rfl, bits_or f b f0 f1 b0 b1]
    congr 1
    exact map_range8 fun i _ => by unfold outN; cases bitN b i <;> simp
theorem has_or (f b : Int) (f0 : 0 ≤ f) (f1 : f ≤ 255) (b0 : 0 ≤ b) (b1 : b ≤ 255) : (bits .and .u8 f b != 0) = orTo f b 8 := by
  have h : ∀ a0 a1 a2 a3 a4 a5 a6 a7 : Bool, (byteOf [a0, a1, a2, a3, a4, a5, a6, a7] != 0) = ((((((((false || a0) || a1) || a2) || a3) || a4) || a5) || a6) || a7) := by decide
  rw [bits_and f b f0 f1 b0 b1]
  exact h _ _ _ _ _ _ _ _

theorem of_flags (b : Int) (h0 : 0 ≤ b) (h1 : b ≤ 255) : flagsOf (bitN b 0) (b == 0) (bitN b 2) false (bitN b 4) false false false = ofB b ∧ flagsOf (bitN b 0) (b == 0) (bitN b 2) false (bitN b 4) (evenB b) false false = ofPB b := by
  have h : ∀ n : Fin 256, flagsOf (bitN n.val 0) ((n.val : Int) == 0) (bitN n.val 2) false (bitN n.val 4) false false false = ofB n.val ∧ flagsOf (bitN n.val 0) ((n.val : Int) == 0) (bitN n.val 2) false (bitN n.val 4) (evenB n.val) false false = ofPB n.val := by decide +kernel
  exact fin256 (P := fun b => flagsOf (bitN b 0) (b == 0) (bitN b 2) false (bitN b 4) false false false = ofB b ∧ flagsOf (bitN b 0) (b == 0) (bitN b 2) false (bitN b 4) (evenB b) false false = ofPB b) h b h0 h1

end Go.Proofs.Ytcodbcfdbkmegaa
