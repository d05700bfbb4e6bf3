/- The program's steps as plain lists. No program is named here. -/
import Derived.Test.YthmkfojjlcinkaaDoorOpMath
namespace Go.Proofs.YthmkfojjlcinkaaDoor

/-- A step: kind, place, what, number. -/
structure Sp where
  k : Int
  a : Int
  w : Int
  n : Int
abbrev sWait (a n : Int) : Sp := ⟨0, a, 0, n⟩
abbrev sRead (a w : Int) : Sp := ⟨1, a, w, 0⟩
abbrev sWrite (a w : Int) : Sp := ⟨2, a, w, 0⟩
abbrev sIn (a w : Int) : Sp := ⟨3, a, w, 0⟩
abbrev sOut (a w : Int) : Sp := ⟨4, a, w, 0⟩
abbrev sWork (w n : Int) : Sp := ⟨5, 0, w, n⟩
abbrev sUnless (w : Int) : Sp := ⟨6, 0, w, 0⟩

def lowW (p : Int) : Int := if p = 3 then 48 else 2 * p + 1
def highW (p : Int) : Int := if p = 3 then 56 else 2 * p
def sentW (y : Int) : Int := if y = 6 then 80 else y
def wordS (L : List Sp) : List Sp := L ++ [sRead 0 24, sRead 0 32]
def backS (L : List Sp) : List Sp := L ++ [sRead 4 24, sRead 4 32, sWork 216 0]
def pushPcS (L : List Sp) : List Sp := L ++ [sWrite 5 72, sWrite 5 64]
def callS (L : List Sp) : List Sp := pushPcS (L ++ [sWait 9 1]) ++ [sWork 216 0]
def sumS (L : List Sp) (wh p : Int) : List Sp := L ++ [sWait 8 7, sWork 168 2, sWork 176 1, sWork wh p]
def farAS (L : List Sp) (a q : Int) : List Sp := if q = 0 then L ++ [sWrite a 7, sWork 176 1, sWork 184 0] else L ++ [sRead a 7, sWork 176 1]
def farPairS (L : List Sp) (p q : Int) : List Sp := if q = 0 then L ++ [sWrite 7 (lowW p), sWork 176 1, sWrite 7 (highW p)] else L ++ [sRead 7 (lowW p), sWork 176 1, sRead 7 (highW p)]
def popS (L : List Sp) (p : Int) : List Sp := if p = 3 then L ++ [sRead 4 16, sRead 4 7] else L ++ [sRead 4 (lowW p), sRead 4 (highW p)]
def pushS (L : List Sp) (p : Int) : List Sp := if p = 3 then L ++ [sWrite 5 7, sWrite 5 16] else L ++ [sWrite 5 (highW p), sWrite 5 (lowW p)]
def exTopS (L : List Sp) : List Sp := ((L ++ [sRead 4 24, sRead 6 32, sWait 9 1]) ++ [sWrite 6 (highW 2), sWrite 5 (lowW 2), sWait 9 2]) ++ [sWork 208 0]
def storeS (L : List Sp) (ix : Bool) : List Sp := if ix = true then L ++ [sRead 0 40, sWork 192 0, sRead 0 6, sWait 9 2, sWrite 1 6] else L ++ [sRead 0 6, sWrite 1 6]
def changeS (L X : List Sp) : List Sp := ((L ++ [sRead 1 6, sWait 9 1]) ++ X) ++ [sWrite 1 6]
def wayS (L : List Sp) (ix : Bool) : List Sp := if ix = true then L ++ [sRead 0 40, sWait 9 5, sWork 192 0] else L
def thruS (L : List Sp) (x y z : Int) (ix : Bool) : List Sp :=
  if x = 0 then (if z = 4 then changeS (wayS L ix) [sWork 56 6] else changeS (wayS L ix) [sWork 64 6])
  else if x = 2 then wayS L ix ++ [sRead 1 6, sWork y 6]
  else if z = 6 then wayS L ix ++ [sRead 1 (8 + y)] else wayS L ix ++ [sWrite 1 (8 + z)]
def nearS (L : List Sp) (y : Int) : List Sp :=
  if y = 0 then L else if y = 1 then L ++ [sWork 248 0]
  else (if y = 2 then L ++ [sWait 8 1, sWork 120 0, sRead 0 40, sUnless 8] else if y = 3 then L ++ [sRead 0 40] else L ++ [sRead 0 40, sUnless (y - 4)]) ++ [sWait 9 5, sWork 232 0]
def farS (L : List Sp) (p q : Int) : List Sp :=
  if p = 0 then farAS (L ++ [sWork 168 p]) 2 q else if p = 1 then farAS (L ++ [sWork 168 p]) 3 q else if p = 2 then farPairS (wordS L) 2 q else farAS (wordS L) 7 q
def firstS (L : List Sp) (y z p q : Int) : List Sp :=
  if z = 0 then nearS L y else if z = 1 then (if q = 0 then L ++ [sRead 0 (lowW p), sRead 0 (highW p)] else sumS L 144 p)
  else if z = 2 then farS L p q else if z = 3 then (if q = 0 then L ++ [sWait 8 2, sWork 128 p] else L ++ [sWait 8 2, sWork 136 p])
  else if z = 4 then L ++ [sWork 56 y] else if z = 5 then L ++ [sWork 64 y] else if z = 6 then L ++ [sRead 0 y] else L ++ [sWork (72 + y) 0]
def behindPopS (L : List Sp) (p : Int) : List Sp :=
  if p = 0 then backS L else if p = 1 then L ++ [sWork 256 0] else if p = 2 then L ++ [sWork 224 0] else L ++ [sWait 8 2, sWork 200 0]
def othersS (L : List Sp) (y : Int) : List Sp :=
  if y = 0 then wordS L ++ [sWork 216 0] else if y = 1 then L else if y = 2 then (L ++ [sRead 0 24, sWork 184 0, sOut 7 7]) ++ [sWork 176 1, sWork 184 0]
  else if y = 3 then L ++ [sRead 0 24, sWork 184 0, sIn 7 7, sWork 176 1] else if y = 4 then exTopS L else if y = 5 then L ++ [sWork 264 0] else if y = 6 then L ++ [sWork 280 0] else L ++ [sWork 288 0]
def pushOrCallS (L : List Sp) (p q : Int) : List Sp := if q = 0 then pushS (L ++ [sWait 8 1]) p else if p = 0 then callS (wordS L) else L
def lastS (L : List Sp) (y z p q : Int) : List Sp :=
  if z = 0 then backS (L ++ [sWait 8 1, sUnless y]) else if z = 1 then (if q = 0 then popS L p else behindPopS L p)
  else if z = 2 then wordS L ++ [sUnless y, sWork 216 0] else if z = 3 then othersS L y else if z = 4 then callS (wordS L ++ [sUnless y])
  else if z = 5 then pushOrCallS L p q else if z = 6 then L ++ [sRead 0 6, sWork y 6] else pushPcS (L ++ [sWait 8 1]) ++ [sWork 240 (8 * y)]
def plainS (L : List Sp) (c : Nat) (x y z p q : Int) (ix : Bool) : List Sp :=
  if c = 118 then L ++ [sWork 272 0] else if c = 54 then storeS L ix else if memC c = true then thruS L x y z ix
  else if x = 0 then firstS L y z p q else if x = 1 then L ++ [sWork (40 + y) z] else if x = 2 then L ++ [sWork y z] else lastS L y z p q
def onS (x y r : Int) : Sp := if x = 0 then sWork (8 + y) r else if x = 1 then sWork (16 + y) r else if x = 2 then sWork (24 + y) r else sWork (32 + y) r
def bomS (L : List Sp) (x y : Int) : List Sp := if x = 1 then L ++ [sRead 1 6, sWait 9 1, onS x y 6] else changeS L [onS x y 6]
def turnsS (L : List Sp) (x y z : Int) : List Sp := if z = 6 then bomS L x y else L ++ [onS x y z]
def indexedS (L : List Sp) (x y z : Int) : List Sp := if x = 1 then bomS L x y else if z = 6 then bomS L x y else changeS L [onS x y 6, sWork 48 z]
def digitsS (L : List Sp) (wh : Int) : List Sp := (L ++ [sWork 168 2, sWork 176 1, sRead 1 6, sWait 9 4]) ++ [sWork wh 0, sWrite 1 6]
def specialS (L : List Sp) (y : Int) : List Sp := if y < 4 then L ++ [sWait 8 1, sWork (96 + y) 0] else if y = 4 then digitsS L 104 else if y = 5 then digitsS L 112 else L
def onceS (L : List Sp) (z way : Int) : List Sp :=
  if z = 0 then L ++ [sRead 1 6, sWrite 3 6, sWait 9 2, sWork 312 way] else if z = 1 then L ++ [sRead 1 6, sWait 9 5, sWork 320 way, sWork 176 way]
  else if z = 2 then ((L ++ [sWait 8 1, sWork 168 0, sWork 176 way]) ++ [sIn 2 6, sWrite 1 6]) ++ [sWork 120 0, sWork 328 way]
  else ((L ++ [sWait 8 1, sRead 1 6]) ++ [sWork 120 0, sWork 168 0, sWork 176 way]) ++ [sOut 2 6, sWork 336 way]
def againS (L : List Sp) (z : Int) : List Sp :=
  if z = 0 then L ++ [sUnless 16, sWait 9 5, sWork 344 0] else if z = 1 then L ++ [sUnless 24, sWait 9 5, sWork 344 0] else L ++ [sUnless 8, sWait 9 5, sWork 352 0]
def wayN (y : Int) : Int := if y % 2 = 1 then -1 else 1
def blockS (L : List Sp) (y z : Int) : List Sp := if y < 6 then onceS L z (wayN y) else againS (onceS L z (wayN y)) z
def modeN (y : Int) : Int := if y % 4 = 2 then 1 else if y % 4 = 3 then 2 else 0
def middleS (L : List Sp) (y z p q : Int) : List Sp :=
  if z = 0 then L ++ [sWork 168 0, sWork 176 1, sIn 2 6, sWork 88 y] else if z = 1 then L ++ [sWork 168 0, sWork 176 1, sOut 2 (sentW y)]
  else if z = 2 then (if q = 0 then sumS L 160 p else sumS L 152 p) else if z = 3 then farPairS (wordS L) p q else if z = 4 then L ++ [sWork 80 0]
  else if z = 5 then backS L ++ [sWork 304 0] else if z = 6 then L ++ [sWork 296 (modeN y)] else specialS L y
def moreS (L : List Sp) (x y z p q : Int) : List Sp :=
  if x = 1 then middleS L y z p q else if x = 2 then (if 4 ≤ y then (if z ≤ 3 then blockS L y z else L) else L) else L
/-- The steps of a code of a set, behind L. -/
def progS (L : List Sp) (set ix : Int) (c : Nat) : List Sp :=
  let x : Int := ((c / 64 : Nat) : Int); let y : Int := ((c / 8 % 8 : Nat) : Int); let z : Int := ((c % 8 : Nat) : Int); let p : Int := ((c / 8 % 8 / 2 : Nat) : Int); let q : Int := ((c / 8 % 2 : Nat) : Int)
  if set = 0 then plainS L c x y z p q (decide (ix = 1) || decide (ix = 2)) else if set = 1 then turnsS L x y z else if set = 2 then moreS L x y z p q else if set = 3 then indexedS L x y z else L

/-- T-states of a step, of steps. -/
def costS (s : Sp) : Int := if s.k = 0 then s.n else if s.k = 1 then 3 else if s.k = 2 then 3 else if s.k = 3 then 4 else if s.k = 4 then 4 else 0
def timeS (met : Bool) : List Sp → Int
  | [] => 0
  | s :: l => if s.k = 6 ∧ met = false then 0 else costS s + timeS met l
def fetS : List Sp → Int
  | [] => 0
  | s :: l => (if s.k = 1 ∧ s.a = 0 then 1 else 0) + fetS l
/-- Steps whose waits are short, and few of them. -/
def shortS (L : List Sp) : Bool := decide (L.length ≤ 20) && L.all (fun s => decide (0 ≤ costS s) && decide (costS s ≤ 100))

-- the document's table
def lowT : List Int := [
  4, 10, 7, 6, 4, 4, 7, 4, 4, 11, 7, 6, 4, 4, 7, 4,
  13, 10, 7, 6, 4, 4, 7, 4, 12, 11, 7, 6, 4, 4, 7, 4,
  12, 10, 16, 6, 4, 4, 7, 4, 12, 11, 16, 6, 4, 4, 7, 4,
  12, 10, 13, 6, 11, 11, 10, 4, 12, 11, 13, 6, 4, 4, 7, 4]
def highT : List Int := [
  11, 10, 10, 10, 17, 11, 7, 11, 11, 10, 10, 4, 17, 17, 7, 11,
  11, 10, 10, 11, 17, 11, 7, 11, 11, 4, 10, 11, 17, 4, 7, 11,
  11, 10, 10, 19, 17, 11, 7, 11, 11, 4, 10, 4, 17, 4, 7, 11,
  11, 10, 10, 4, 17, 11, 7, 11, 11, 6, 10, 4, 17, 4, 7, 11]
def lessT (c : Nat) : Int := if c = 16 ∨ c = 32 ∨ c = 40 ∨ c = 48 ∨ c = 56 then 5 else if 192 ≤ c ∧ c % 8 = 0 then 6 else if 192 ≤ c ∧ c % 8 = 4 then 7 else 0
def plainT8 (c : Nat) : Int := if c < 64 then lowT.getD c 0 else if 192 ≤ c then highT.getD (c - 192) 0 else if memC c = true then 7 else 4
def eightT : List Int := [12, 12, 15, 20, 8, 14, 8, 8]
def moreT8 (c : Nat) : Int :=
  if 160 ≤ c ∧ c < 192 ∧ c % 8 < 4 then (if 176 ≤ c then 21 else 16) else if c < 64 ∨ 128 ≤ c then 8 else if c = 103 ∨ c = 111 then 18
  else if c = 71 ∨ c = 79 ∨ c = 87 ∨ c = 95 then 9 else eightT.getD (c % 8) 0
def timeT (set : Int) (ix : Bool) (c : Nat) (met : Bool) : Int :=
  if set = 0 then plainT8 c - 4 - (if met = true then 0 else lessT c) + (if ix = true ∧ c = 54 then 5 else if ix = true ∧ memC c = true then 8 else 0)
  else if set = 1 then (if c % 8 = 6 then (if c / 64 = 1 then 4 else 7) else 0)
  else if set = 3 then (if c / 64 = 1 then 4 else 7)
  else if set = 2 then (if met = false ∧ moreT8 c - 8 = 13 then 8 else moreT8 c - 8) else 0

/-- All codes of a set: the program's steps take the document's time, read as many bytes, and are few. -/
def okT (set ix : Int) (c : Nat) : Bool :=
  decide (timeS true (progS [] set ix c) = timeT set (decide (ix = 1) || decide (ix = 2)) c true) && decide (timeS false (progS [] set ix c) = timeT set (decide (ix = 1) || decide (ix = 2)) c false) && shortS (progS [] set ix c)
theorem ok00 : (List.range 256).all (fun c => okT 0 0 c) = true := by decide +kernel
theorem ok01 : (List.range 256).all (fun c => okT 0 1 c) = true := by decide +kernel
theorem ok10 : (List.range 256).all (fun c => okT 1 0 c) = true := by decide +kernel
theorem ok20 : (List.range 256).all (fun c => okT 2 0 c) = true := by decide +kernel
theorem ok30 : (List.range 256).all (fun c => okT 3 0 c) = true := by decide +kernel
def okF (ix : Int) (c : Nat) : Bool := decide (fetS (progS [] 0 ix c) = (argC c : Int) + (if 0 < ix ∧ memC c = true then 1 else 0))
theorem okF0 : (List.range 256).all (fun c => okF 0 c) = true := by decide +kernel
theorem okF1 : (List.range 256).all (fun c => okF 1 c) = true := by decide +kernel

end Go.Proofs.YthmkfojjlcinkaaDoor
