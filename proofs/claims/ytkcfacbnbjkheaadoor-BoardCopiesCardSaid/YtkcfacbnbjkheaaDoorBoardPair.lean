/- A board and the document's, side by side. -/
import Derived.Test.YtkcfacbnbjkheaaDoorBoardHold
import Derived.Test.YtkcfacbnbjkheaaDoorDocOut
import Derived.Test.YtkcfacbnbjkheaaDoorDocNew
namespace Go.Proofs.YtkcfacbnbjkheaaDoor
open Go.RowKit
set_option maxRecDepth 100000

/-- How many rows there are at most, and how late it is. -/
structure Bd (s : St) (n : Nat) (T : Int) : Prop where
  acts : s.acts.length ≤ n
  edges : s.edges.length ≤ n
  t0 : 0 ≤ s.t
  t1 : s.t ≤ T
  f0 : 0 ≤ s.frame
  f1 : s.frame < 69888
theorem Bd.mono {s : St} {n n' : Nat} {T T' : Int} (h : Bd s n T) (hn : n ≤ n') (hT : T ≤ T') : Bd s n' T' := ⟨Nat.le_trans h.acts hn, Nat.le_trans h.edges hn, h.t0, Int.le_trans h.t1 hT, h.f0, h.f1⟩
theorem Bd.write {s : St} {n : Nat} {T : Int} (h : Bd s n T) (a : Nat) (v : Int) : Bd (writeS s a v) n T := by
  unfold writeS
  split
  · exact h
  · exact ⟨h.acts, h.edges, h.t0, h.t1, h.f0, h.f1⟩
theorem Bd.log {s : St} {n : Nat} {T : Int} (h : Bd s n T) (out : Bool) (p v : Int) : Bd (logS s out p v) (n + 1) T := by
  unfold logS
  split
  · exact ⟨by simp only [List.length_append, List.length_singleton]; have := h.acts; omega, Nat.le_succ_of_le h.edges, h.t0, h.t1, h.f0, h.f1⟩
  · exact h.mono (Nat.le_succ _) (Int.le_refl _)
theorem Bd.in_ {s : St} {n : Nat} {T : Int} (h : Bd s n T) (p : Int) : Bd (inS s p) (n + 1) T := by
  unfold inS
  split
  · exact h.log _ _ _
  · exact h.mono (Nat.le_succ _) (Int.le_refl _)
theorem Bd.out {s : St} {n : Nat} {T : Int} (h : Bd s n T) (p v : Int) : Bd (outS s p v) (n + 1) T := by
  unfold outS
  split
  · have h1 : (spkS (micS (paintS s v) (v / 8 % 2 == 1)) (v / 16 % 2 == 1)).acts.length ≤ n ∧ (spkS (micS (paintS s v) (v / 8 % 2 == 1)) (v / 16 % 2 == 1)).edges.length ≤ n + 1 := by
      refine ⟨?_, ?_⟩
      · show (micS (paintS s v) _).acts.length ≤ n
        rw [micS_acts]; exact h.acts
      · show (micS (paintS s v) _).edges.length ≤ n + 1
        exact Nat.le_trans (micS_edges _ _) (Nat.succ_le_succ h.edges)
    have h2 : ∀ m, (micS (paintS s v) m).t = s.t ∧ (micS (paintS s v) m).frame = s.frame := fun m => by unfold micS; split <;> exact ⟨rfl, rfl⟩
    unfold logS
    split
    · refine ⟨by simp only [List.length_append, List.length_singleton]; have := h1.1; omega, h1.2, ?_, ?_, ?_, ?_⟩
      · show 0 ≤ (micS (paintS s v) _).t; rw [(h2 _).1]; exact h.t0
      · show (micS (paintS s v) _).t ≤ T; rw [(h2 _).1]; exact h.t1
      · show 0 ≤ (micS (paintS s v) _).frame; rw [(h2 _).2]; exact h.f0
      · show (micS (paintS s v) _).frame < 69888; rw [(h2 _).2]; exact h.f1
    · refine ⟨Nat.le_succ_of_le h1.1, h1.2, ?_, ?_, ?_, ?_⟩
      · show 0 ≤ (micS (paintS s v) _).t; rw [(h2 _).1]; exact h.t0
      · show (micS (paintS s v) _).t ≤ T; rw [(h2 _).1]; exact h.t1
      · show 0 ≤ (micS (paintS s v) _).frame; rw [(h2 _).2]; exact h.f0
      · show (micS (paintS s v) _).frame < 69888; rw [(h2 _).2]; exact h.f1
  · exact h.mono (Nat.le_succ _) (Int.le_refl _)
theorem Bd.next {s : St} {n : Nat} {T : Int} (h : Bd s n T) : Bd (nextS s) n (T + 1) := by
  obtain ⟨g0, g1⟩ := frameV_bd (s.frame + 1)
  exact ⟨h.acts, h.edges, by show 0 ≤ s.t + 1; have := h.t0; omega, by show s.t + 1 ≤ T + 1; have := h.t1; omega, g0, g1⟩

/-- Both boards, apart from each other and from the blocks of R. -/
structure Pr (w : World) (R : Nat → Prop) (b x base : Nat) (s d : St) (va ve : Value) (ph : Int) (vd ea ee : Value) (L : List Int) (n : Nat) (T : Int) : Prop where
  B : BAt w b base s va ve
  D : DAt w x base d ph vd ea ee L
  ap : ∀ k, Fb b va ve k → ¬ Fd x vd ea ee L k
  rb : ∀ k, R k → ¬ Fb b va ve k
  rd : ∀ k, R k → ¬ Fd x vd ea ee L k
  rl : ∀ k, R k → k < w.heap.size
  bs : base ≤ w.heap.size
  b1 : Bd s n T
  b2 : Bd d n T
  ll : L.length ≤ n
/-- What stands as it stood. -/
structure Kp (R : Nat → Prop) (base : Nat) (w w' : World) : Prop where
  bel : Below base w w'
  size : w.heap.size ≤ w'.heap.size
  old : ∀ k, R k → w'.heap[k]? = w.heap[k]?
theorem Kp.refl (R : Nat → Prop) (base : Nat) (w : World) : Kp R base w w := ⟨Below.refl _ _, Nat.le_refl _, fun _ _ => rfl⟩
theorem Kp.trans {R : Nat → Prop} {base : Nat} {a b c : World} (h : Kp R base a b) (k : Kp R base b c) : Kp R base a c := ⟨h.bel.trans k.bel, Nat.le_trans h.size k.size, fun i hi => (k.old i hi).trans (h.old i hi)⟩
theorem Pr.kpb {w w' : World} {R : Nat → Prop} {b x base : Nat} {s d : St} {va ve : Value} {ph : Int} {vd ea ee : Value} {L : List Int} {n : Nat} {T : Int} (h : Pr w R b x base s d va ve ph vd ea ee L n T) (hb : Below w.heap.size w w') : Kp R base w w' := ⟨hb.mono h.bs, hb.size, fun k hk => hb.block k (h.rl k hk)⟩
theorem Pr.below {w w' : World} {R : Nat → Prop} {b x base : Nat} {s d : St} {va ve : Value} {ph : Int} {vd ea ee : Value} {L : List Int} {n : Nat} {T : Int} (h : Pr w R b x base s d va ve ph vd ea ee L n T) (hb : Below w.heap.size w w') : Pr w' R b x base s d va ve ph vd ea ee L n T :=
  ⟨h.B.below hb, h.D.below hb, h.ap, h.rb, h.rd, fun k hk => Nat.lt_of_lt_of_le (h.rl k hk) hb.size, Nat.le_trans h.bs hb.size, h.b1, h.b2, h.ll⟩
theorem Pr.mono {w : World} {R : Nat → Prop} {b x base : Nat} {s d : St} {va ve : Value} {ph : Int} {vd ea ee : Value} {L : List Int} {n n' : Nat} {T T' : Int} (h : Pr w R b x base s d va ve ph vd ea ee L n T) (hn : n ≤ n') (hT : T ≤ T') : Pr w R b x base s d va ve ph vd ea ee L n' T' :=
  ⟨h.B, h.D, h.ap, h.rb, h.rd, h.rl, h.bs, h.b1.mono hn hT, h.b2.mono hn hT, Nat.le_trans h.ll hn⟩
theorem Pr.stepB {w w' : World} {R : Nat → Prop} {b x base : Nat} {s s' d : St} {va ve : Value} {ph : Int} {vd ea ee : Value} {L : List Int} {n n' : Nat} {T T' : Int} (h : Pr w R b x base s d va ve ph vd ea ee L n T) (hw : Went b base s' va ve w w') (hbd : Bd s' n' T') (hn : n ≤ n') (hT : T ≤ T') :
    ∃ va' ve', Pr w' R b x base s' d va' ve' ph vd ea ee L n' T' ∧ Kp R base w w' := by
  obtain ⟨va', ve', hB, hc, hk⟩ := hw
  refine ⟨va', ve', ⟨hB, h.D.ch hc fun k hd hb => h.ap k hb hd, fun k hb hd => ?_, fun k hr hb => ?_, h.rd, fun k hr => Nat.lt_of_lt_of_le (h.rl k hr) hc.size, Nat.le_trans h.bs hc.size, hbd, h.b2.mono hn hT, Nat.le_trans h.ll hn⟩, hc.below (fun k hk => (h.B.fb_lt k hk).1) h.bs, hc.size, fun k hr => hc.block k (h.rl k hr) (h.rb k hr)⟩
  · rcases hk k hb with y | y
    · exact h.ap k y hd
    · have := (h.D.fd_lt k hd).2; omega
  · rcases hk k hb with y | y
    · exact h.rb k hr y
    · have := h.rl k hr; omega
theorem Pr.stepD {w w' : World} {R : Nat → Prop} {b x base : Nat} {s d d' : St} {va ve : Value} {ph : Int} {vd ea ee : Value} {L L' : List Int} {n n' : Nat} {T T' : Int} (h : Pr w R b x base s d va ve ph vd ea ee L n T) (hw : Dwent x base d' ph vd ea ee L L' w w') (hbd : Bd d' n' T') (hn : n ≤ n') (hT : T ≤ T') (hL : L'.length ≤ n') :
    ∃ vd' ea' ee', Pr w' R b x base s d' va ve ph vd' ea' ee' L' n' T' ∧ Kp R base w w' := by
  obtain ⟨vd', ea', ee', hD, hc, hk⟩ := hw
  refine ⟨vd', ea', ee', ⟨h.B.ch hc fun k hb hd => h.ap k hb hd, hD, fun k hb hd => ?_, h.rb, fun k hr hd => ?_, fun k hr => Nat.lt_of_lt_of_le (h.rl k hr) hc.size, Nat.le_trans h.bs hc.size, h.b1.mono hn hT, hbd, hL⟩, hc.below (fun k hk => (h.D.fd_lt k hk).1) h.bs, hc.size, fun k hr => hc.block k (h.rl k hr) (h.rd k hr)⟩
  · rcases hk k hd with y | y
    · exact h.ap k hb y
    · have := (h.B.fb_lt k hb).2; omega
  · rcases hk k hd with y | y
    · exact h.rd k hr y
    · have := h.rl k hr; omega
/-- A call on the board, and on the document's, as it stands between both. -/
theorem Pr.callB {w u : World} {R : Nat → Prop} {b x base : Nat} {s s' d : St} {va ve : Value} {ph : Int} {vd ea ee : Value} {L : List Int} {n n' : Nat} {T T' : Int} (h : Pr w R b x base s d va ve ph vd ea ee L n T) (hu : Below w.heap.size w u) {f : FuncId} {args : Array Value} {r : Ending}
    (hc : BAt u b base s va ve → Calls Tryd.prog f args u fun e w' => e = r ∧ Went b base s' va ve u w') (hbd : Bd s' n' T') (hn : n ≤ n') (hT : T ≤ T') :
    Calls Tryd.prog f args u fun e w' => e = r ∧ ∃ va' ve', Pr w' R b x base s' d va' ve' ph vd ea ee L n' T' ∧ Kp R base w w' :=
  (hc (h.below hu).B).mono fun e w' ⟨he, hw⟩ => by
    obtain ⟨va', ve', h1, h2⟩ := (h.below hu).stepB hw hbd hn hT
    exact ⟨he, va', ve', h1, (h.kpb hu).trans h2⟩
theorem Pr.callD {w u : World} {R : Nat → Prop} {b x base : Nat} {s d d' : St} {va ve : Value} {ph : Int} {vd ea ee : Value} {L : List Int} {n n' : Nat} {T T' : Int} (h : Pr w R b x base s d va ve ph vd ea ee L n T) (hu : Below w.heap.size w u) {f : FuncId} {args : Array Value} {r : Ending}
    (hc : DAt u x base d ph vd ea ee L → Calls Tryd.prog f args u fun e w' => e = r ∧ Dwent x base d' ph vd ea ee L L u w') (hbd : Bd d' n' T') (hn : n ≤ n') (hT : T ≤ T') :
    Calls Tryd.prog f args u fun e w' => e = r ∧ ∃ vd' ea' ee', Pr w' R b x base s d' va ve ph vd' ea' ee' L n' T' ∧ Kp R base w w' :=
  (hc (h.below hu).D).mono fun e w' ⟨he, hw⟩ => by
    obtain ⟨vd', ea', ee', h1, h2⟩ := (h.below hu).stepD hw hbd hn hT (Nat.le_trans h.ll hn)
    exact ⟨he, vd', ea', ee', h1, (h.kpb hu).trans h2⟩
/-- One more block beside. -/
theorem Pr.box {w : World} {R : Nat → Prop} {b x base : Nat} {s d : St} {va ve : Value} {ph : Int} {vd ea ee : Value} {L : List Int} {n : Nat} {T : Int} (h : Pr w R b x base s d va ve ph vd ea ee L n T) (o : Obj) : Pr (w.alloc o) (fun k => R k ∨ k = w.heap.size) b x base s d va ve ph vd ea ee L n T := by
  have h1 := h.below (balloc w o)
  refine ⟨h1.B, h1.D, h1.ap, fun k hk hb => ?_, fun k hk hd => ?_, fun k hk => ?_, h1.bs, h1.b1, h1.b2, h1.ll⟩
  · rcases hk with y | y
    · exact h1.rb k y hb
    · have := (h.B.fb_lt k hb).2; omega
  · rcases hk with y | y
    · exact h1.rd k y hd
    · have := (h.D.fd_lt k hd).2; omega
  · rcases hk with y | y
    · exact h1.rl k y
    · subst y; simp
theorem Pr.less {w : World} {R R' : Nat → Prop} {b x base : Nat} {s d : St} {va ve : Value} {ph : Int} {vd ea ee : Value} {L : List Int} {n : Nat} {T : Int} (h : Pr w R b x base s d va ve ph vd ea ee L n T) (hR : ∀ k, R' k → R k) : Pr w R' b x base s d va ve ph vd ea ee L n T :=
  ⟨h.B, h.D, h.ap, fun k hk => h.rb k (hR k hk), fun k hk => h.rd k (hR k hk), fun k hk => h.rl k (hR k hk), h.bs, h.b1, h.b2, h.ll⟩
theorem Kp.less {R R' : Nat → Prop} {base : Nat} {w w' : World} (h : Kp R base w w') (hR : ∀ k, R' k → R k) : Kp R' base w w' := ⟨h.bel, h.size, fun k hk => h.old k (hR k hk)⟩

/-- What a step gives. -/
def SPost (R : Nat → Prop) (b x base : Nat) (s d : St) (n : Nat) (T : Int) (w : World) (e : Ending) (w' : World) : Prop :=
  ∃ (r : Bool) (s' d' : St) (va' ve' : Value) (ph' : Int) (vd' ea' ee' : Value) (L' : List Int), e = .returned (.bool r) ∧ Pr w' R b x base s' d' va' ve' ph' vd' ea' ee' L' (n + 1) (T + 3000) ∧ Kp R base w w' ∧ (s = d → r = true ∧ s' = d')

end Go.Proofs.YtkcfacbnbjkheaaDoor
