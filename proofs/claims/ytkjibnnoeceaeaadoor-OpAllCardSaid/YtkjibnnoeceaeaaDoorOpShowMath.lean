/- The program's texts are the document's: plain facts. No program is named here. -/
import Derived.Test.YtkjibnnoeceaeaaDoorOpMath
namespace Go.Proofs.YtkjibnnoeceaeaaDoor
set_option maxRecDepth 100000

def big (c : UInt8) : Bool := c == 78 || c == 87 || c == 69
def freeL (s : List UInt8) : Bool := s.all fun c => !big c
def okL : List UInt8 → Bool
  | [] => true
  | c :: s => if big c then freeL s else okL s
def tokOf (c : UInt8) : Tk := if c = 78 then .n2 else if c = 87 then .w4 else if c = 69 then .e4 else .ch c

theorem pos_app (c : UInt8) : ∀ (A B : List UInt8), c ∉ A → posF [c] (A ++ B) = (posF [c] B).map (· + A.length)
  | [], B, _ => by simp
  | a :: A, B, h => by
    simp only [List.mem_cons, not_or] at h
    have e : [c].isPrefixOf (a :: (A ++ B)) = false := by simp [List.isPrefixOf, h.1]
    rw [List.cons_append, posF, e, pos_app c A B h.2]
    simp only [Bool.false_eq_true, if_false, Option.map_map]
    congr 1
theorem pos_none (c : UInt8) (s : List UInt8) (h : c ∉ s) : posF [c] s = none := by
  have := pos_app c s [] h
  rw [List.append_nil] at this
  rw [this]; rfl
theorem swap_none (c : UInt8) (s b : List UInt8) (h : c ∉ s) : swapF s [c] b = s := by unfold swapF; rw [pos_none c s h]
theorem swap_app (c : UInt8) (A B b : List UInt8) (h : c ∉ A) : swapF (A ++ B) [c] b = A ++ swapF B [c] b := by
  unfold swapF
  rw [pos_app c A B h]
  cases posF [c] B with
  | none => rfl
  | some i =>
    simp only [Option.map_some, List.length_cons, List.length_nil]
    rw [Nat.add_comm i A.length, List.take_length_add_append, Nat.add_assoc, List.drop_length_add_append]
    simp
theorem swap_hit (c : UInt8) (s b : List UInt8) : swapF (c :: s) [c] b = b ++ s := by
  unfold swapF
  have e : [c].isPrefixOf (c :: s) = true := by simp [List.isPrefixOf]
  rw [posF, e]
  simp
theorem free_ne {s : List UInt8} (h : freeL s = true) : 78 ∉ s ∧ 87 ∉ s ∧ 69 ∉ s := by
  unfold freeL at h
  rw [List.all_eq_true] at h
  refine ⟨fun hm => ?_, fun hm => ?_, fun hm => ?_⟩
  all_goals
    have := h _ hm
    revert this
    decide
theorem fil_app (A B : List UInt8) (n to : Nat) (h : freeL A = true) : filF (A ++ B) n to = A ++ filF B n to := by
  obtain ⟨h1, h2, h3⟩ := free_ne h
  unfold filF
  rw [swap_app _ _ _ _ h1, swap_app _ _ _ _ h2, swap_app _ _ _ _ h3]
theorem free_app {a b : List UInt8} (ha : freeL a = true) (hb : freeL b = true) : freeL (a ++ b) = true := by
  unfold freeL at *; rw [List.all_append, ha, hb]; rfl
theorem fil_free (A : List UInt8) (n to : Nat) (h : freeL A = true) : filF A n to = A := by
  have := fil_app A [] n to h
  rw [List.append_nil] at this
  rw [this]
  show A ++ filF [] n to = A
  have : filF [] n to = [] := rfl
  rw [this, List.append_nil]
theorem hexD_small (d : Nat) (h : d < 16) : big (hexD d) = false := by
  have : (List.range 16).all (fun d => big (hexD d) == false) = true := by decide
  have := List.all_eq_true.1 this d (List.mem_range.2 h)
  simpa using this
theorem hexN_free : ∀ (k n : Nat), freeL (hexN k n) = true
  | 0, _ => rfl
  | k + 1, n => by
    rw [hexN]
    refine free_app (hexN_free k _) ?_
    simp [freeL, hexD_small (n % 16) (by omega)]
theorem octL_free (n : Nat) : freeL (octL n) = true := free_app (a := [36]) rfl (hexN_free 2 _)
theorem wordL_free (n : Nat) : freeL (wordL n) = true := free_app (a := [36]) rfl (hexN_free 4 _)
theorem big_dig (k : Nat) (h : k < 10) : big (UInt8.ofNat (48 + k)) = false := by
  have : (List.range 10).all (fun k => big (UInt8.ofNat (48 + k)) == false) = true := by decide
  have := List.all_eq_true.1 this k (List.mem_range.2 h)
  simpa using this
theorem dec_free (n : Nat) : freeL (Lib.decDigits n) = true := by
  induction n using Nat.strongRecOn with
  | _ n ih =>
    rw [Lib.decDigits]
    split
    · simp only [freeL, List.all_cons, List.all_nil, Bool.and_true]; rw [big_dig n (by omega)]; rfl
    · refine free_app (ih _ (by omega)) ?_
      simp only [freeL, List.all_cons, List.all_nil, Bool.and_true]; rw [big_dig _ (by omega)]; rfl
theorem nameL_free (ix : Int) : freeL (nameL ix) = true := by unfold nameL; split <;> rfl
theorem awL_free (ix : Int) (d : Nat) : freeL (awL ix d) = true := by
  unfold awL
  refine free_app (free_app (free_app rfl (nameL_free ix)) ?_) rfl
  unfold distL
  split
  · exact free_app (a := [43]) rfl (dec_free _)
  · exact free_app (a := [45]) rfl (dec_free _)

theorem ren_cons (E : En) (t : Tk) (ts : List Tk) : ren E (t :: ts) = tkL E t ++ ren E ts := by simp [ren]
theorem ren_free (E : En) : ∀ (s : List UInt8), freeL s = true → ren E (s.map tokOf) = s
  | [], _ => rfl
  | c :: s, h => by
    obtain ⟨h1, h2, h3⟩ := free_ne h
    simp only [List.mem_cons, not_or] at h1 h2 h3
    have hs : freeL s = true := by unfold freeL at h ⊢; rw [List.all_cons] at h; exact (Bool.and_eq_true_iff.1 h).2
    have e : tokOf c = .ch c := by unfold tokOf; rw [if_neg (fun e => h1.1 e.symm), if_neg (fun e => h2.1 e.symm), if_neg (fun e => h3.1 e.symm)]
    rw [List.map_cons, ren_cons, ren_free E s hs, e]; rfl
theorem fil_ok (E : En) : ∀ (s : List UInt8), okL s = true → filF s E.n E.to = ren E (s.map tokOf)
  | [], _ => rfl
  | c :: s, h => by
    rw [List.map_cons, ren_cons]
    unfold okL at h
    by_cases hb : big c = true
    · rw [if_pos hb] at h
      rw [ren_free E s h]
      obtain ⟨s1, s2, s3⟩ := free_ne h
      obtain ⟨n1, n2, n3⟩ := free_ne (octL_free E.n)
      obtain ⟨w1, w2, w3⟩ := free_ne (wordL_free E.n)
      have hc : c = 78 ∨ c = 87 ∨ c = 69 := by
        simp only [big, Bool.or_eq_true, beq_iff_eq] at hb
        rcases hb with (h | h) | h
        · exact Or.inl h
        · exact Or.inr (Or.inl h)
        · exact Or.inr (Or.inr h)
      rcases hc with rfl | rfl | rfl
      · unfold filF
        rw [swap_hit, swap_none 87 _ _ (by simp [n2, s2]), swap_none 69 _ _ (by simp [n3, s3])]; rfl
      · unfold filF
        rw [swap_none 78 _ _ (by simp [s1]), swap_hit, swap_none 69 _ _ (by simp [w3, s3])]; rfl
      · unfold filF
        rw [swap_none 78 _ _ (by simp [s1]), swap_none 87 _ _ (by simp [s2]), swap_hit]; rfl
    · rw [if_neg hb] at h
      have hf : freeL [c] = true := by simp [freeL, hb]
      have := fil_app [c] s E.n E.to hf
      rw [List.singleton_append] at this
      rw [this, fil_ok E s h]
      have := ren_free E [c] hf
      rw [List.map_cons, List.map_nil, ren_cons] at this
      rw [show ren E [] = [] from rfl, List.append_nil] at this
      rw [this]

/-- What is asked of each code: the text with the index of that name. -/
def litF (h : Bool) (nm : List UInt8) (c : Nat) : List UInt8 :=
  if h then (if c = 235 then plainL c else joinW nm ((wordsGo (plainL c) [] []).drop 1) 1 ((wordsGo (plainL c) [] []).headD [])) else plainL c
def chk (h : Bool) (nm : List UInt8) (c : Nat) : Bool :=
  if h && hasF (plainL c) hlL then
    match posF hlL (plainL c) with
    | none => false
    | some i => freeL ((plainL c).take i) && okL ((plainL c).drop (i + 4)) && plainT h nm c == lit ((plainL c).take i) ++ [.aw] ++ ((plainL c).drop (i + 4)).map tokOf
  else okL (litF h nm c) && plainT h nm c == (litF h nm c).map tokOf
theorem chk0 : (List.range 256).all (chk false [105, 121]) = true := by decide +kernel
theorem chk1 : (List.range 256).all (chk true [105, 120]) = true := by decide +kernel
theorem chk2 : (List.range 256).all (chk true [105, 121]) = true := by decide +kernel
theorem chk_any (ix : Int) (c : Nat) (hc : c < 256) : chk (hasI ix) (nameL ix) c = true := by
  unfold hasI nameL
  by_cases h1 : ix = 1
  · subst h1; exact all256 chk1 c hc
  · by_cases h2 : ix = 2
    · subst h2; exact all256 chk2 c hc
    · rw [if_neg h1, show (ix == 1 || ix == 2) = false by simp [h1, h2]]
      exact all256 chk0 c hc
theorem plain_eq (E : En) (c : Nat) (hc : c < 256) : filF (if hasI E.ix then idxF (plainL c) E.ix E.d c else plainL c) E.n E.to = ren E (plainT (hasI E.ix) (nameL E.ix) c) := by
  have h := chk_any E.ix c hc
  unfold chk at h
  by_cases hh : (hasI E.ix && hasF (plainL c) hlL) = true
  · rw [if_pos hh] at h
    rw [Bool.and_eq_true] at hh
    rw [if_pos hh.1]
    unfold idxF
    rw [if_pos hh.2]
    unfold swapF
    cases hp : posF hlL (plainL c) with
    | none => rw [hp] at h; cases h
    | some i =>
      rw [hp] at h
      simp only [Bool.and_eq_true, beq_iff_eq] at h
      obtain ⟨⟨h1, h2⟩, h3⟩ := h
      rw [h3, ren_app, ren_app, ren_lit, ren_aw]
      show filF ((plainL c).take i ++ awL E.ix E.d ++ (plainL c).drop (i + 4)) E.n E.to = _
      rw [fil_app _ _ _ _ (free_app h1 (awL_free _ _)), fil_ok E _ h2]
  · rw [if_neg hh] at h
    simp only [Bool.and_eq_true, beq_iff_eq] at h
    rw [h.2, ← fil_ok E _ h.1]
    congr 1
    unfold litF
    cases hi : hasI E.ix with
    | false => rfl
    | true =>
      rw [hi, Bool.true_and] at hh
      simp only [if_true]
      unfold idxF
      rw [if_neg hh]
theorem more_eq (E : En) (c : Nat) (hc : c < 256) : filF (moreL c) E.n E.to = ren E (moreT c) := by
  have := all256 (f := fun c => okL (moreL c) && moreT c == (moreL c).map tokOf) (by decide +kernel) c hc
  simp only [Bool.and_eq_true, beq_iff_eq] at this
  rw [this.2, fil_ok E _ this.1]
theorem bits_pre (c : Nat) (m : List UInt8) : bitsF c m = bitsF c [] ++ m := by unfold bitsF; split <;> simp
theorem turn_pre (x y : Nat) (m : List Tk) : turnT x y m = turnT x y [] ++ m := by unfold turnT; split <;> simp
theorem bits_eq (E : En) (c : Nat) (hc : c < 256) (m : List UInt8) (t : List Tk) (h : ren E t = m) : bitsF c m = ren E (turnT (c / 64) (c / 8 % 8) t) := by
  have := all256 (f := fun c => turnT (c / 64) (c / 8 % 8) [] == lit (bitsF c [])) (by decide +kernel) c hc
  rw [beq_iff_eq] at this
  rw [bits_pre, turn_pre, ren_app, this, ren_lit, h]
theorem show_eq (E : En) (s : Int) (c : Nat) (hc : c < 256) : refShow s E.ix c E.d E.n E.to = ren E (showT s (hasI E.ix) (nameL E.ix) c) := by
  unfold refShow showT
  by_cases h0 : s = 0
  · rw [if_pos h0, if_pos h0]; exact plain_eq E c hc
  rw [if_neg h0, if_neg h0]
  by_cases h1 : s = 1
  · rw [if_pos h1, if_pos h1]; exact bits_eq E c hc _ _ (ren_lit _ _)
  rw [if_neg h1, if_neg h1]
  by_cases h2 : s = 2
  · rw [if_pos h2, if_pos h2]; exact more_eq E c hc
  rw [if_neg h2, if_neg h2]
  by_cases h3 : s = 3
  · rw [if_pos h3, if_pos h3]
    unfold idxT
    by_cases hx : c / 64 = 1 ∨ c % 8 = 6
    · rw [if_neg (by omega), if_pos hx]; exact bits_eq E c hc _ _ (ren_aw E)
    · rw [if_pos (by omega), if_neg hx, ren_app, ren_app, ren_lit, ren_lit, ← bits_eq E c hc _ _ (ren_aw E)]
  rw [if_neg h3, if_neg h3]
  by_cases h4 : s = 4
  · rw [if_pos h4, if_pos h4, ren_app, ren_lit, ren_lit]
  rw [if_neg h4, if_neg h4]; rfl

/-- The lengths of the texts. -/
theorem tk_len (E : En) (hd : E.d < 256) (t : Tk) : 1 ≤ (tkL E t).length ∧ (tkL E t).length ≤ 8 := by
  cases t with
  | ch c => exact ⟨by simp [tkL], by simp [tkL]⟩
  | aw => exact ⟨by simp [tkL, awL], awL_len _ _ hd⟩
  | n2 => exact ⟨by simp [tkL, octL], by simp [tkL, octL_len]⟩
  | w4 => exact ⟨by simp [tkL, wordL], by simp [tkL, wordL_len]⟩
  | e4 => exact ⟨by simp [tkL, wordL], by simp [tkL, wordL_len]⟩
theorem ren_le (E : En) (hd : E.d < 256) : ∀ ts : List Tk, (ren E ts).length ≤ 8 * ts.length
  | [] => by simp [ren]
  | t :: ts => by
    have := ren_le E hd ts
    have := (tk_len E hd t).2
    rw [ren_cons, List.length_append, List.length_cons]; omega
theorem ren_ne (E : En) (hd : E.d < 256) (ts : List Tk) (h : ts ≠ []) : ren E ts ≠ [] := by
  cases ts with
  | nil => exact absurd rfl h
  | cons t ts =>
    have := (tk_len E hd t).1
    intro e
    rw [ren_cons] at e
    have := congrArg List.length e
    rw [List.length_append, List.length_nil] at this
    omega
theorem show_ne (s ix : Int) (c : Nat) (hc : c < 256) (hs : s = 0 ∧ c ≠ 203 ∨ s = 1 ∨ s = 2 ∨ s = 3 ∨ s = 4) : showT s (hasI ix) (nameL ix) c ≠ [] := by
  have key : ∀ h nm, (List.range 256).all (fun c => c == 203 || plainT h nm c != []) = true → ∀ c < 256, c ≠ 203 → plainT h nm c ≠ [] := by
    intro h nm ha c hc hn
    have := all256 ha c hc
    simpa [hn] using this
  rcases hs with ⟨rfl, hn⟩ | rfl | rfl | rfl | rfl
  · show plainT _ _ c ≠ []
    unfold hasI nameL
    by_cases h1 : ix = 1
    · subst h1; exact key _ _ (by decide +kernel) c hc hn
    · by_cases h2 : ix = 2
      · subst h2; exact key _ _ (by decide +kernel) c hc hn
      · rw [if_neg h1, show (ix == 1 || ix == 2) = false by simp [h1, h2]]
        exact key _ _ (by decide +kernel) c hc hn
  · have := all256 (f := fun c => turnT (c / 64) (c / 8 % 8) (lit (regsL.getD (c % 8) [])) != []) (by decide +kernel) c hc
    simpa [showT] using this
  · have := all256 (f := fun c => moreT c != []) (by decide +kernel) c hc
    simpa [showT] using this
  · have := all256 (f := fun c => idxT c != []) (by decide +kernel) c hc
    simpa [showT] using this
  · simp [showT, lit]

end Go.Proofs.YtkjibnnoeceaeaaDoor
