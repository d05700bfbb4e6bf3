/- Plain facts on sums of words and their flags, for layer 3: no program is named here. -/
import Derived.Test.YtkjibnnoeceaeaaDoorAluMath
import Derived.Laws.BitsLemmas
namespace Go.Proofs.YtkjibnnoeceaeaaDoor
open Go.RowKit

/-- Bit k of a word, of which 0 is the lowest. -/
def bitW (n : Int) (k : Nat) : Bool := n / 2 ^ k % 2 == 1
def sgnW (a : Int) : Int := if 32768 ≤ a then a - 65536 else a
def outW (n : Int) : Bool := decide (n < -32768) || decide (32767 < n)
def wadd (a b : Int) (c : Bool) : Int := (a + b + cN c) % 65536
def wsub (a b : Int) (c : Bool) : Int := (a - b - cN c) % 65536
def waddH (a b : Int) (c : Bool) : Bool := decide (4095 < a % 4096 + b % 4096 + cN c)
def waddC (a b : Int) (c : Bool) : Bool := decide (65535 < a + b + cN c)
def waddP (a b : Int) (c : Bool) : Bool := outW (sgnW a + sgnW b + cN c)
def wsubH (a b : Int) (c : Bool) : Bool := decide (a % 4096 - b % 4096 - cN c < 0)
def wsubC (a b : Int) (c : Bool) : Bool := decide (a - b - cN c < 0)
def wsubP (a b : Int) (c : Bool) : Bool := outW (sgnW a - sgnW b - cN c)
def addWF (a b f : Int) : Int := flagsOf (bitN f 0) (bitN f 1) (bitW (wadd a b false) 13) (waddH a b false) (bitW (wadd a b false) 11) (bitN f 5) false (waddC a b false)
def adcWF (a b : Int) (c : Bool) : Int := flagsOf (bitW (wadd a b c) 15) (wadd a b c == 0) (bitW (wadd a b c) 13) (waddH a b c) (bitW (wadd a b c) 11) (waddP a b c) false (waddC a b c)
def sbcWF (a b : Int) (c : Bool) : Int := flagsOf (bitW (wsub a b c) 15) (wsub a b c == 0) (bitW (wsub a b c) 13) (wsubH a b c) (bitW (wsub a b c) 11) (wsubP a b c) true (wsubC a b c)
def plusW (w d : Int) : Int := (w + sgn d) % 65536

theorem wadd_bd (a b : Int) (c : Bool) : 0 ≤ wadd a b c ∧ wadd a b c ≤ 65535 := by unfold wadd; omega
theorem wsub_bd (a b : Int) (c : Bool) : 0 ≤ wsub a b c ∧ wsub a b c ≤ 65535 := by unfold wsub; omega
theorem plusW_bd (w d : Int) : 0 ≤ plusW w d ∧ plusW w d ≤ 65535 := by unfold plusW; omega
theorem sgnW_bd (a : Int) (h0 : 0 ≤ a) (h1 : a ≤ 65535) : -32768 ≤ sgnW a ∧ sgnW a ≤ 32767 := by unfold sgnW; split <;> omega
theorem wrap_i16 (a : Int) (h0 : 0 ≤ a) (h1 : a ≤ 65535) : IntKind.i16.wrap a = sgnW a := by
  have e : a % 65536 = a := by omega
  simp [sgnW, IntKind.wrap, IntKind.bits, IntKind.signed, e]
theorem hi_S (r : Int) : bitN (r / 256) 0 = bitW r 15 := by unfold bitN bitW; congr 1; omega
theorem hi_Y (r : Int) : bitN (r / 256) 2 = bitW r 13 := by unfold bitN bitW; congr 1; omega
theorem hi_X (r : Int) : bitN (r / 256) 4 = bitW r 11 := by unfold bitN bitW; congr 1; omega
theorem and_C (f : Int) (h0 : 0 ≤ f) (h1 : f ≤ 255) : bits .and .u8 f 1 = cN (bitN f 7) := by
  have h : ∀ n : Fin 256, bits .and .u8 (n.val : Int) 1 = cN (bitN (n.val : Int) 7) := by decide +kernel
  exact fin256 (P := fun f => bits .and .u8 f 1 = cN (bitN f 7)) h f h0 h1
theorem low_W (a : Int) (h0 : 0 ≤ a) (h1 : a ≤ 65535) : bits .and .u16 a 4095 = a % 4096 := by
  obtain ⟨n, rfl⟩ := Int.eq_ofNat_of_zero_le h0
  have hn : n < 65536 := by omega
  have h : n &&& 4095 = n % 4096 := Nat.and_two_pow_sub_one_eq_mod n 12
  show IntKind.u16.wrap ((BitVec.ofInt 16 (n : Int) &&& BitVec.ofInt 16 4095).toNat : Int) = _
  rw [BitVec.toNat_and, BitVec.ofInt_natCast, BitVec.toNat_ofNat, Nat.mod_eq_of_lt (by omega : n < 2 ^ 16), show (BitVec.ofInt 16 4095).toNat = 4095 from by decide, h]
  simp [IntKind.wrap, IntKind.bits, IntKind.signed]
  omega
theorem wrap_u16w (n : Int) : IntKind.u16.wrap n = n % 65536 := by simp [IntKind.wrap, IntKind.bits, IntKind.signed]
theorem wrap_add (a b : Int) (c : Bool) : IntKind.u16.wrap (a + b + cN c) = wadd a b c := wrap_u16w _
theorem wrap_sub (a b : Int) (c : Bool) : IntKind.u16.wrap (a - b - cN c) = wsub a b c := wrap_u16w _
theorem wrap_plus (w d : Int) : IntKind.u16.wrap (w + IntKind.u16.wrap (sgn d)) = plusW w d := by
  rw [wrap_u16w, wrap_u16w]; unfold plusW; omega
theorem word_of (h l : Int) (h0 : 0 ≤ h) (h1 : h ≤ 255) (l0 : 0 ≤ l) (l1 : l ≤ 255) : bits .or .u16 (h * 256) l = h * 256 + l :=
  bits_join .u16 16 (by decide) (fun n a b => by simp [IntKind.wrap, IntKind.bits, IntKind.signed]; omega) 8 (h * 256) l (by omega) (by omega) (by omega) l0 (by omega) (by omega)

end Go.Proofs.YtkjibnnoeceaeaaDoor
