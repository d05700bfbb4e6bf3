/- Instructions as text and as bytes: plain facts. No program is named here. -/
import Derived.Test.YthmkfojjlcinkaaDoorHexMath
import Derived.Lib.ItoaNum
namespace Go.Proofs.YthmkfojjlcinkaaDoor
set_option maxRecDepth 100000

def regsL : List (List UInt8) := [[98], [99], [100], [101], [104], [108], [40, 104, 108, 41], [97]]
def pairsL : List (List UInt8) := [[98, 99], [100, 101], [104, 108], [115, 112]]
def condsL : List (List UInt8) := [[110, 122], [122], [110, 99], [99], [112, 111], [112, 101], [112], [109]]
def opersL : List (List UInt8) := [[97, 100, 100, 32, 97, 44], [97, 100, 99, 32, 97, 44], [115, 117, 98, 32], [115, 98, 99, 32, 97, 44], [97, 110, 100, 32], [120, 111, 114, 32], [111, 114, 32], [99, 112, 32]]
def turnsL : List (List UInt8) := [[114, 108, 99, 32], [114, 114, 99, 32], [114, 108, 32], [114, 114, 32], [115, 108, 97, 32], [115, 114, 97, 32], [115, 108, 108, 32], [115, 114, 108, 32]]
def ofBitsL : List (List UInt8) := [[], [98, 105, 116, 32], [114, 101, 115, 32], [115, 101, 116, 32]]
def ofAL : List (List UInt8) := [[114, 108, 99, 97], [114, 114, 99, 97], [114, 108, 97], [114, 114, 97], [100, 97, 97], [99, 112, 108], [115, 99, 102], [99, 99, 102]]
def ofIL : List (List UInt8) := [[108, 100, 32, 105, 44, 97], [108, 100, 32, 114, 44, 97], [108, 100, 32, 97, 44, 105], [108, 100, 32, 97, 44, 114], [114, 114, 100], [114, 108, 100], [110, 111, 112], [110, 111, 112]]
def modesL : List (List UInt8) := [[105, 109, 32, 48], [105, 109, 32, 48], [105, 109, 32, 49], [105, 109, 32, 50]]
def blocksL : List (List UInt8) := [[108, 100, 105], [99, 112, 105], [105, 110, 105], [111, 117, 116, 105], [108, 100, 100], [99, 112, 100], [105, 110, 100], [111, 117, 116, 100], [108, 100, 105, 114], [99, 112, 105, 114], [105, 110, 105, 114], [111, 116, 105, 114], [108, 100, 100, 114], [99, 112, 100, 114], [105, 110, 100, 114], [111, 116, 100, 114]]
def firstL : List (List UInt8) := [[110, 111, 112], [108, 100, 32, 98, 99, 44, 87], [108, 100, 32, 40, 98, 99, 41, 44, 97], [105, 110, 99, 32, 98, 99], [105, 110, 99, 32, 98], [100, 101, 99, 32, 98], [108, 100, 32, 98, 44, 78], [114, 108, 99, 97], [101, 120, 32, 97, 102, 44, 97, 102, 39], [97, 100, 100, 32, 104, 108, 44, 98, 99], [108, 100, 32, 97, 44, 40, 98, 99, 41], [100, 101, 99, 32, 98, 99], [105, 110, 99, 32, 99], [100, 101, 99, 32, 99], [108, 100, 32, 99, 44, 78], [114, 114, 99, 97], [100, 106, 110, 122, 32, 69], [108, 100, 32, 100, 101, 44, 87], [108, 100, 32, 40, 100, 101, 41, 44, 97], [105, 110, 99, 32, 100, 101], [105, 110, 99, 32, 100], [100, 101, 99, 32, 100], [108, 100, 32, 100, 44, 78], [114, 108, 97], [106, 114, 32, 69], [97, 100, 100, 32, 104, 108, 44, 100, 101], [108, 100, 32, 97, 44, 40, 100, 101, 41], [100, 101, 99, 32, 100, 101], [105, 110, 99, 32, 101], [100, 101, 99, 32, 101], [108, 100, 32, 101, 44, 78], [114, 114, 97], [106, 114, 32, 110, 122, 44, 69], [108, 100, 32, 104, 108, 44, 87], [108, 100, 32, 40, 87, 41, 44, 104, 108], [105, 110, 99, 32, 104, 108], [105, 110, 99, 32, 104], [100, 101, 99, 32, 104], [108, 100, 32, 104, 44, 78], [100, 97, 97], [106, 114, 32, 122, 44, 69], [97, 100, 100, 32, 104, 108, 44, 104, 108], [108, 100, 32, 104, 108, 44, 40, 87, 41], [100, 101, 99, 32, 104, 108], [105, 110, 99, 32, 108], [100, 101, 99, 32, 108], [108, 100, 32, 108, 44, 78], [99, 112, 108], [106, 114, 32, 110, 99, 44, 69], [108, 100, 32, 115, 112, 44, 87], [108, 100, 32, 40, 87, 41, 44, 97], [105, 110, 99, 32, 115, 112], [105, 110, 99, 32, 40, 104, 108, 41], [100, 101, 99, 32, 40, 104, 108, 41], [108, 100, 32, 40, 104, 108, 41, 44, 78], [115, 99, 102], [106, 114, 32, 99, 44, 69], [97, 100, 100, 32, 104, 108, 44, 115, 112], [108, 100, 32, 97, 44, 40, 87, 41], [100, 101, 99, 32, 115, 112], [105, 110, 99, 32, 97], [100, 101, 99, 32, 97], [108, 100, 32, 97, 44, 78], [99, 99, 102]]
def lastL : List (List UInt8) := [[114, 101, 116, 32, 110, 122], [112, 111, 112, 32, 98, 99], [106, 112, 32, 110, 122, 44, 87], [106, 112, 32, 87], [99, 97, 108, 108, 32, 110, 122, 44, 87], [112, 117, 115, 104, 32, 98, 99], [97, 100, 100, 32, 97, 44, 78], [114, 115, 116, 32, 36, 48, 48], [114, 101, 116, 32, 122], [114, 101, 116], [106, 112, 32, 122, 44, 87], [], [99, 97, 108, 108, 32, 122, 44, 87], [99, 97, 108, 108, 32, 87], [97, 100, 99, 32, 97, 44, 78], [114, 115, 116, 32, 36, 48, 56], [114, 101, 116, 32, 110, 99], [112, 111, 112, 32, 100, 101], [106, 112, 32, 110, 99, 44, 87], [111, 117, 116, 32, 40, 78, 41, 44, 97], [99, 97, 108, 108, 32, 110, 99, 44, 87], [112, 117, 115, 104, 32, 100, 101], [115, 117, 98, 32, 78], [114, 115, 116, 32, 36, 49, 48], [114, 101, 116, 32, 99], [101, 120, 120], [106, 112, 32, 99, 44, 87], [105, 110, 32, 97, 44, 40, 78, 41], [99, 97, 108, 108, 32, 99, 44, 87], [99, 97, 108, 108, 32, 87], [115, 98, 99, 32, 97, 44, 78], [114, 115, 116, 32, 36, 49, 56], [114, 101, 116, 32, 112, 111], [112, 111, 112, 32, 104, 108], [106, 112, 32, 112, 111, 44, 87], [101, 120, 32, 40, 115, 112, 41, 44, 104, 108], [99, 97, 108, 108, 32, 112, 111, 44, 87], [112, 117, 115, 104, 32, 104, 108], [97, 110, 100, 32, 78], [114, 115, 116, 32, 36, 50, 48], [114, 101, 116, 32, 112, 101], [106, 112, 32, 104, 108], [106, 112, 32, 112, 101, 44, 87], [101, 120, 32, 100, 101, 44, 104, 108], [99, 97, 108, 108, 32, 112, 101, 44, 87], [99, 97, 108, 108, 32, 87], [120, 111, 114, 32, 78], [114, 115, 116, 32, 36, 50, 56], [114, 101, 116, 32, 112], [112, 111, 112, 32, 97, 102], [106, 112, 32, 112, 44, 87], [100, 105], [99, 97, 108, 108, 32, 112, 44, 87], [112, 117, 115, 104, 32, 97, 102], [111, 114, 32, 78], [114, 115, 116, 32, 36, 51, 48], [114, 101, 116, 32, 109], [108, 100, 32, 115, 112, 44, 104, 108], [106, 112, 32, 109, 44, 87], [101, 105], [99, 97, 108, 108, 32, 109, 44, 87], [99, 97, 108, 108, 32, 87], [99, 112, 32, 78], [114, 115, 116, 32, 36, 51, 56]]
def turns0L : List (List UInt8) := [[114, 108, 99], [114, 114, 99], [114, 108], [114, 114], [115, 108, 97], [115, 114, 97], [115, 108, 108], [115, 114, 108]]

/-- A text's pieces: a byte, the place at an index, the number as a byte and as a word, the place that a distance leads to. -/
inductive Tk where
  | ch (c : UInt8) | aw | n2 | w4 | e4
  deriving DecidableEq
/-- What the pieces stand for: the index, the distance, the number, the place. -/
structure En where
  ix : Int
  d : Nat
  n : Nat
  to : Nat
def nameL (ix : Int) : List UInt8 := if ix = 1 then [105, 120] else [105, 121]
def hasI (ix : Int) : Bool := ix == 1 || ix == 2
def distL (d : Nat) : List UInt8 := if d < 128 then 43 :: Lib.decDigits d else 45 :: Lib.decDigits (256 - d)
def awL (ix : Int) (d : Nat) : List UInt8 := [40] ++ nameL ix ++ distL d ++ [41]
def octL (n : Nat) : List UInt8 := 36 :: hexN 2 (n % 256)
def wordL (n : Nat) : List UInt8 := 36 :: hexN 4 n
def tkL (E : En) : Tk → List UInt8
  | .ch c => [c]
  | .aw => awL E.ix E.d
  | .n2 => octL E.n
  | .w4 => wordL E.n
  | .e4 => wordL E.to
def ren (E : En) (ts : List Tk) : List UInt8 := ts.flatMap (tkL E)
def lit (l : List UInt8) : List Tk := l.map Tk.ch
theorem ren_app (E : En) (a b : List Tk) : ren E (a ++ b) = ren E a ++ ren E b := by simp [ren]
theorem ren_lit (E : En) (l : List UInt8) : ren E (lit l) = l := by
  induction l with
  | nil => rfl
  | cons c l ih => simp only [lit, ren, List.map_cons, List.flatMap_cons, tkL] at ih ⊢; simp only [ih, List.cons_append, List.nil_append]
theorem ren_aw (E : En) : ren E [.aw] = awL E.ix E.d := by simp [ren, tkL]
theorem ren_n2 (E : En) : ren E [.n2] = octL E.n := by simp [ren, tkL]
theorem ren_w4 (E : En) : ren E [.w4] = wordL E.n := by simp [ren, tkL]
theorem ren_e4 (E : En) : ren E [.e4] = wordL E.to := by simp [ren, tkL]
theorem nameL_len (ix : Int) : (nameL ix).length = 2 := by unfold nameL; split <;> rfl
theorem dec_len (d : Nat) (h : d < 1000) : 1 ≤ (Lib.decDigits d).length ∧ (Lib.decDigits d).length ≤ 3 := by
  rw [Lib.decDigits]
  split
  · simp
  rw [Lib.decDigits]
  split
  · simp
  rw [Lib.decDigits]
  split
  · simp
  omega
theorem distL_len (d : Nat) (h : d < 256) : (distL d).length ≤ 4 := by
  unfold distL
  split
  · have := dec_len d (by omega); simp; omega
  · have := dec_len (256 - d) (by omega); simp; omega
theorem awL_len (ix : Int) (d : Nat) (h : d < 256) : (awL ix d).length ≤ 8 := by
  have := distL_len d h
  have := nameL_len ix
  simp only [awL, List.length_append, List.length_cons, List.length_nil]; omega
theorem octL_len (n : Nat) : (octL n).length = 3 := by simp [octL, hexN_len]
theorem wordL_len (n : Nat) : (wordL n).length = 5 := by simp [wordL, hexN_len]

/-! ### The program's way, over the parts of a code -/
def memC (c : Nat) : Bool :=
  if c / 64 = 0 then c / 8 % 8 == 6 && (4 ≤ c % 8 && c % 8 ≤ 6)
  else if c / 64 = 1 then c != 118 && (c / 8 % 8 == 6 || c % 8 == 6)
  else if c / 64 = 2 then c % 8 == 6 else false
def argF (y z p q : Nat) : Nat :=
  if z == 0 && 2 ≤ y then 1 else if z == 1 && q == 0 then 2 else if z == 2 && 2 ≤ p then 2 else if z == 6 then 1 else 0
def argL (y z : Nat) : Nat :=
  if z == 2 || z == 4 then 2 else if z == 3 then (if y == 0 then 2 else if y == 2 || y == 3 then 1 else 0) else if z == 5 then (if y == 1 then 2 else 0) else if z == 6 then 1 else 0
def argC (c : Nat) : Nat :=
  if c / 64 = 0 then argF (c / 8 % 8) (c % 8) (c / 8 % 8 / 2) (c / 8 % 2) else if c / 64 = 3 then argL (c / 8 % 8) (c % 8) else 0

def regT (h : Bool) (nm : List UInt8) (c k : Nat) : List Tk :=
  if h = false then lit (regsL.getD k []) else if k = 6 then [.aw] else if (k = 4 ∨ k = 5) ∧ memC c = false then lit (nm ++ regsL.getD k []) else lit (regsL.getD k [])
def pairT (h : Bool) (nm : List UInt8) (k : Nat) : List Tk := if k = 2 ∧ h = true then lit nm else lit (pairsL.getD k [])
def pushT (h : Bool) (nm : List UInt8) (k : Nat) : List Tk := if k = 3 then lit [97, 102] else pairT h nm k
def nearT (y : Nat) : List Tk :=
  if y = 0 then lit [110, 111, 112] else if y = 1 then lit [101, 120, 32, 97, 102, 44, 97, 102, 39] else if y = 2 then lit [100, 106, 110, 122, 32] ++ [.e4] else if y = 3 then lit [106, 114, 32] ++ [.e4]
  else lit [106, 114, 32] ++ lit (condsL.getD (y - 4) []) ++ lit [44] ++ [.e4]
def loadT (what place : List Tk) (q : Nat) : List Tk :=
  if q = 0 then lit [108, 100, 32, 40] ++ place ++ lit [41, 44] ++ what else lit [108, 100, 32] ++ what ++ lit [44, 40] ++ place ++ lit [41]
def storeT (h : Bool) (nm : List UInt8) (p q : Nat) : List Tk :=
  loadT (if p = 2 then pairT h nm 2 else lit [97]) (if p < 2 then lit (pairsL.getD p []) else [.w4]) q
def firstT (h : Bool) (nm : List UInt8) (c y z p q : Nat) : List Tk :=
  if z = 0 then nearT y
  else if z = 1 then (if q = 0 then lit [108, 100, 32] ++ pairT h nm p ++ lit [44] ++ [.w4] else lit [97, 100, 100, 32] ++ pairT h nm 2 ++ lit [44] ++ pairT h nm p)
  else if z = 2 then storeT h nm p q
  else if z = 3 then (if q = 0 then lit [105, 110, 99, 32] ++ pairT h nm p else lit [100, 101, 99, 32] ++ pairT h nm p)
  else if z = 4 then lit [105, 110, 99, 32] ++ regT h nm c y
  else if z = 5 then lit [100, 101, 99, 32] ++ regT h nm c y
  else if z = 6 then lit [108, 100, 32] ++ regT h nm c y ++ lit [44] ++ [.n2]
  else lit (ofAL.getD y [])
def backT (h : Bool) (nm : List UInt8) (p : Nat) : List Tk :=
  if p = 0 then lit [114, 101, 116] else if p = 1 then lit [101, 120, 120] else if p = 2 then lit [106, 112, 32] ++ pairT h nm 2 else lit [108, 100, 32, 115, 112, 44] ++ pairT h nm 2
def otherT (h : Bool) (nm : List UInt8) (y : Nat) : List Tk :=
  if y = 0 then lit [106, 112, 32] ++ [.w4] else if y = 1 then [] else if y = 2 then lit [111, 117, 116, 32, 40] ++ [.n2] ++ lit [41, 44, 97] else if y = 3 then lit [105, 110, 32, 97, 44, 40] ++ [.n2] ++ lit [41]
  else if y = 4 then lit [101, 120, 32, 40, 115, 112, 41, 44] ++ pairT h nm 2 else if y = 5 then lit [101, 120, 32, 100, 101, 44, 104, 108] else if y = 6 then lit [100, 105] else lit [101, 105]
def lastT (h : Bool) (nm : List UInt8) (y z p q : Nat) : List Tk :=
  if z = 0 then lit [114, 101, 116, 32] ++ lit (condsL.getD y [])
  else if z = 1 then (if q = 0 then lit [112, 111, 112, 32] ++ pushT h nm p else backT h nm p)
  else if z = 2 then lit [106, 112, 32] ++ lit (condsL.getD y []) ++ lit [44] ++ [.w4]
  else if z = 3 then otherT h nm y
  else if z = 4 then lit [99, 97, 108, 108, 32] ++ lit (condsL.getD y []) ++ lit [44] ++ [.w4]
  else if z = 5 then (if q = 0 then lit [112, 117, 115, 104, 32] ++ pushT h nm p else lit [99, 97, 108, 108, 32] ++ [.w4])
  else if z = 6 then lit (opersL.getD y []) ++ [.n2]
  else lit [114, 115, 116, 32] ++ lit (octL (8 * y))
def plainT (h : Bool) (nm : List UInt8) (c : Nat) : List Tk :=
  if c = 118 then lit [104, 97, 108, 116]
  else if c / 64 = 0 then firstT h nm c (c / 8 % 8) (c % 8) (c / 8 % 8 / 2) (c / 8 % 2)
  else if c / 64 = 1 then lit [108, 100, 32] ++ regT h nm c (c / 8 % 8) ++ lit [44] ++ regT h nm c (c % 8)
  else if c / 64 = 2 then lit (opersL.getD (c / 8 % 8) []) ++ regT h nm c (c % 8)
  else lastT h nm (c / 8 % 8) (c % 8) (c / 8 % 8 / 2) (c / 8 % 2)
def turnT (x y : Nat) (m : List Tk) : List Tk :=
  if x = 0 then lit (turnsL.getD y []) ++ m else lit (ofBitsL.getD x []) ++ lit [UInt8.ofNat (48 + y)] ++ lit [44] ++ m
def idxT (c : Nat) : List Tk :=
  if c / 64 = 1 ∨ c % 8 = 6 then turnT (c / 64) (c / 8 % 8) [.aw] else turnT (c / 64) (c / 8 % 8) [.aw] ++ lit [44] ++ lit (regsL.getD (c % 8) [])
def midT (y z p q : Nat) : List Tk :=
  if z = 0 then (if y = 6 then lit [105, 110, 32, 40, 99, 41] else lit [105, 110, 32] ++ lit (regsL.getD y []) ++ lit [44, 40, 99, 41])
  else if z = 1 then (if y = 6 then lit [111, 117, 116, 32, 40, 99, 41, 44, 48] else lit [111, 117, 116, 32, 40, 99, 41, 44] ++ lit (regsL.getD y []))
  else if z = 2 then (if q = 0 then lit [115, 98, 99, 32, 104, 108, 44] ++ lit (pairsL.getD p []) else lit [97, 100, 99, 32, 104, 108, 44] ++ lit (pairsL.getD p []))
  else if z = 3 then loadT (lit (pairsL.getD p [])) [.w4] q
  else if z = 4 then lit [110, 101, 103]
  else if z = 5 then (if y = 1 then lit [114, 101, 116, 105] else lit [114, 101, 116, 110])
  else if z = 6 then lit (modesL.getD (y % 4) [])
  else lit (ofIL.getD y [])
def moreT (c : Nat) : List Tk :=
  if c / 64 = 1 then midT (c / 8 % 8) (c % 8) (c / 8 % 8 / 2) (c / 8 % 2)
  else if c / 64 = 2 ∧ 4 ≤ c / 8 % 8 ∧ c % 8 ≤ 3 then lit (blocksL.getD (4 * (c / 8 % 8 - 4) + c % 8) [])
  else lit [110, 111, 112]
def showT (s : Int) (h : Bool) (nm : List UInt8) (c : Nat) : List Tk :=
  if s = 0 then plainT h nm c
  else if s = 1 then turnT (c / 64) (c / 8 % 8) (lit (regsL.getD (c % 8) []))
  else if s = 2 then moreT c
  else if s = 3 then idxT c
  else if s = 4 then lit [112, 114, 101, 102, 105, 120, 32] ++ lit nm
  else []


/-! ### The document's way -/
def plainL (c : Nat) : List UInt8 :=
  if c < 64 then firstL.getD c [] else if 192 ≤ c then lastL.getD (c - 192) [] else if c = 118 then [104, 97, 108, 116]
  else if c < 128 then [108, 100, 32] ++ regsL.getD (c / 8 % 8) [] ++ [44] ++ regsL.getD (c % 8) [] else opersL.getD (c / 8 % 8) [] ++ regsL.getD (c % 8) []
/-- Where p stands first in s. -/
def posF (p : List UInt8) : List UInt8 → Option Nat
  | [] => if p = [] then some 0 else none
  | a :: s => if p.isPrefixOf (a :: s) then some 0 else (posF p s).map (· + 1)
def hasF (s p : List UInt8) : Bool := (posF p s).isSome
def swapF (s p b : List UInt8) : List UInt8 :=
  match posF p s with
  | none => s
  | some i => s.take i ++ b ++ s.drop (i + p.length)
def hlL : List UInt8 := [40, 104, 108, 41]
def refArg (c : Nat) : Nat :=
  if hasF (plainL c) [87] then (if c = 221 ∨ c = 237 ∨ c = 253 then 0 else 2) else if hasF (plainL c) [78] || hasF (plainL c) [69] then 1 else 0
def refMem (c : Nat) : Bool := hasF (plainL c) hlL
def wordsGo : List UInt8 → List (List UInt8) → List UInt8 → List (List UInt8)
  | [], l, w => l ++ [w]
  | c :: s, l, w => if (c = 32 ∧ l.length = 0) ∨ (c = 44 ∧ 0 < l.length) then wordsGo s (l ++ [w]) [] else wordsGo s l (w ++ [c])
def wordW (nm w : List UInt8) : List UInt8 :=
  let w := if w = [104, 108] then nm else w
  if w = [104] ∨ w = [108] then nm ++ w else w
def joinW (nm : List UInt8) : List (List UInt8) → Nat → List UInt8 → List UInt8
  | [], _, o => o
  | w :: l, k, o => joinW nm l (k + 1) (o ++ [if k = 1 then 32 else 44] ++ wordW nm w)
def idxF (s : List UInt8) (ix : Int) (d c : Nat) : List UInt8 :=
  if hasF s hlL then swapF s hlL (awL ix d) else if c = 235 then s else joinW (nameL ix) ((wordsGo s [] []).drop 1) 1 ((wordsGo s [] []).headD [])
def filF (s : List UInt8) (n to : Nat) : List UInt8 := swapF (swapF (swapF s [78] (octL n)) [87] (wordL n)) [69] (wordL to)
def bitsF (c : Nat) (m : List UInt8) : List UInt8 :=
  if c < 64 then turns0L.getD (c / 8) [] ++ [32] ++ m else ofBitsL.getD (c / 64) [] ++ [UInt8.ofNat (48 + c / 8 % 8)] ++ [44] ++ m
def moreL (c : Nat) : List UInt8 :=
  if (160 ≤ c ∧ c < 192) ∧ c % 8 < 4 then blocksL.getD ((c - 160) / 8 * 4 + c % 8) []
  else if c < 64 ∨ 128 ≤ c then [110, 111, 112]
  else if c % 8 = 0 then (if regsL.getD (c / 8 % 8) [] = hlL then [105, 110, 32, 40, 99, 41] else [105, 110, 32] ++ regsL.getD (c / 8 % 8) [] ++ [44, 40, 99, 41])
  else if c % 8 = 1 then [111, 117, 116, 32, 40, 99, 41, 44] ++ (if regsL.getD (c / 8 % 8) [] = hlL then [48] else regsL.getD (c / 8 % 8) [])
  else if c % 8 = 2 then ([[115, 98, 99, 32, 104, 108, 44], [97, 100, 99, 32, 104, 108, 44]] : List (List UInt8)).getD (c / 8 % 2) [] ++ pairsL.getD (c / 16 % 4) []
  else if c % 8 = 3 then (if c / 8 % 2 = 0 then [108, 100, 32, 40, 87, 41, 44] ++ pairsL.getD (c / 16 % 4) [] else [108, 100, 32] ++ pairsL.getD (c / 16 % 4) [] ++ [44, 40, 87, 41])
  else if c % 8 = 4 then [110, 101, 103]
  else if c % 8 = 5 then (if c = 77 then [114, 101, 116, 105] else [114, 101, 116, 110])
  else if c % 8 = 6 then modesL.getD (c / 8 % 4) []
  else ofIL.getD (c / 8 % 8) []
def refShow (s ix : Int) (c d n to : Nat) : List UInt8 :=
  if s = 0 then filF (if hasI ix then idxF (plainL c) ix d c else plainL c) n to
  else if s = 1 then bitsF c (regsL.getD (c % 8) [])
  else if s = 2 then filF (moreL c) n to
  else if s = 3 then (if c / 64 ≠ 1 ∧ c % 8 ≠ 6 then bitsF c (awL ix d) ++ [44] ++ regsL.getD (c % 8) [] else bitsF c (awL ix d))
  else if s = 4 then [112, 114, 101, 102, 105, 120, 32] ++ nameL ix
  else []


theorem all256 {f : Nat → Bool} (h : (List.range 256).all f = true) (c : Nat) (hc : c < 256) : f c = true := List.all_eq_true.1 h c (List.mem_range.2 hc)
theorem memC_ref (c : Nat) (h : c < 256) : refMem c = memC c := by
  have := all256 (f := fun c => refMem c == memC c) (by decide +kernel) c h
  simpa using this
theorem argC_ref (c : Nat) (h : c < 256) : refArg c = argC c := by
  have := all256 (f := fun c => refArg c == argC c) (by decide +kernel) c h
  simpa using this
end Go.Proofs.YthmkfojjlcinkaaDoor
