/- tzx.Symbol: its contract. -/
import Derived.Test.YthlaglhlmbkniaaTzxSymMore
import Derived.Test.YthlaglhlmbkniaaWireNumber
namespace Go.Proofs.Ythlaglhlmbkniaa
open Go.RowKit
set_option linter.unusedVariables false
set_option linter.unusedSimpArgs false
set_option maxRecDepth 100000

def SymV (l : List Int) (k i : Int) (x : Ending) : Prop := (symOk l k i ∧ x = .returned (.tuple #[.int .i64 (symF l k.toNat i.toNat : Nat), .bool true])) ∨ (¬ symOk l k i ∧ x = .returned (.tuple #[.int .i64 0, .bool false]))
def SymE (l : List Int) (k i : Int) (w : World) (x : Ending) (w' : World) : Prop := SymV l k i x ∧ ∃ n, w' = w.drewN n
theorem SymE.no {l : List Int} {k i : Int} (w : World) (h : ¬ symOk l k i) : SymE l k i w (.returned (.tuple #[.int .i64 0, .bool false])) w := ⟨Or.inr ⟨h, rfl⟩, drew0 w⟩
theorem mask_T (T : Nat) (hT : T < 65536) (s κ : Nat) (hk : κ ≤ 8) : bits .and .i64 ((T : Int) / 2 ^ s) (2 ^ κ - 1) = ((T / 2 ^ s % 2 ^ κ : Nat) : Int) := by
  have h1 : (T : Int) / 2 ^ s = ((T / 2 ^ s : Nat) : Int) := by simp
  have h2 : T / 2 ^ s ≤ T := Nat.div_le_self _ _
  obtain ⟨q, hq⟩ : ∃ q, T / 2 ^ s = q := ⟨_, rfl⟩
  rw [h1, hq, bits_mask .i64 31 (by decide) (fun n h0 h1 => by rw [IntKind.wrap_i64]; omega) κ (by omega) _ (by omega) (by omega)]
  simp
theorem mask_L (T : Nat) (hT : T < 65536) (D m : Int) (s κ : Nat) (hk : κ ≤ 8) (hD : D = 2 ^ s) (hm : m = 2 ^ κ - 1) (V : Nat) (hV : T / 2 ^ s % 2 ^ κ = V) : bits .and .i64 ((T : Int) / D) m = (V : Int) := by
  rw [hD, hm, mask_T T hT s κ hk, hV]
theorem or_bytes (a b : Nat) (ha : a < 256) (hb : b < 256) : bits .or .i64 ((a : Int) * 256) (b : Int) = ((a * 256 + b : Nat) : Int) := by
  rw [bits_join .i64 63 (by decide) (fun n h0 h1 => by rw [IntKind.wrap_i64]; omega) 8 ((a : Int) * 256) b (by omega) (by omega) (by omega) (by omega) (by omega) (by omega)]
  simp
theorem low_byte (a b s m : Nat) (hb : b < 256) (hs : s = 8 + m) (κ : Nat) : (a * 256) / 2 ^ s % 2 ^ κ = (a * 256 + b) / 2 ^ s % 2 ^ κ := by
  rw [hs, bit_low hb]
  have := bit_low (a := a) (b := 0) (m := m) (by decide)
  rw [Nat.add_zero] at this
  rw [this]
set_option maxHeartbeats 3200000 in
theorem symbol_1 (F : Nat → Prop) (w : World) (A : Option Addr) (n cap : Nat) (l : List Int) (h : BAt8 F w A n cap l) (hn : n ≤ 1000000) (ι : Nat) :
    Calls Try.prog 9 #[.slice A n cap, .int .i64 1, .int .i64 (ι : Nat)] w (SymE l 1 ι w) := by
  have hlen := h.len
  by_cases hg : (ι + 1) * 1 ≤ 8 * n
  · have hgI : ((ι : Int) + 1) * 1 ≤ 8 * (n : Int) := by omega
    obtain ⟨p, hp⟩ : ∃ p, ι * 1 / 8 = p := ⟨_, rfl⟩
    have hpn : p < n := by omega
    obtain ⟨b, o, rfl, _, hbl, hc⟩ := h.lies (by omega)
    have cp := hc p hpn
    have hb8 := h.bd
    rw [gN_int hb8] at cp
    have ha := gN_lt hb8 p
    have hbb := gN_lt hb8 (p + 1)
    obtain ⟨a, haa⟩ : ∃ a, gN l p = a := ⟨_, rfl⟩
    obtain ⟨b1, hb1⟩ : ∃ b1, gN l (p + 1) = b1 := ⟨_, rfl⟩
    have HC := Lib.hid (fun hp1 : p + 1 < n => (hc (p + 1) hp1).trans (by rw [gN_int hb8, hb1]))
    rw [haa] at cp ha
    rw [hb1] at hbb
    have hfit := h.fit
    have hmax := h.max
    unfold maxLen at hmax
    have HOK : Hid (symOk l 1 ι) := Lib.hid ⟨by omega, by omega, by omega, Or.inr (by rw [hlen]; omega)⟩
    have HD := Lib.hid (drew0 w)
    have HD2 := Lib.hid (fun m : Nat => (⟨m, rfl⟩ : ∃ n, w.drewN m = w.drewN n))
    have hpi : (ι : Int) / 8 = (p : Int) := by omega
    have HT : Hid (symT l p = a * 256 + b1) := Lib.hid (by unfold symT; rw [haa, hb1])
    have HF : Hid (∀ f, ι * 1 % 8 = f → symF l 1 ι = (a * 256 + b1) / 2 ^ (16 - f - 1) % 2 ^ 1) := Lib.hid (fun f hf => by unfold symF; rw [hp, hf, HT.out])
    have hfc : ι * 1 % 8 = 0 ∨ ι * 1 % 8 = 1 ∨ ι * 1 % 8 = 2 ∨ ι * 1 % 8 = 3 ∨ ι * 1 % 8 = 4 ∨ ι * 1 % 8 = 5 ∨ ι * 1 % 8 = 6 ∨ ι * 1 % 8 = 7 := by omega
    clear h hc haa hb1 hb8 hbl HT
    rcases hfc with hf | hf | hf | hf | hf | hf | hf | hf
    · have hfi : (ι : Int) % 8 = 0 := by omega
      have hV := HF.out 0 hf
      obtain ⟨V, hVV⟩ : ∃ V, (a * 256 + b1) / 2 ^ 15 % 2 ^ 1 = V := ⟨_, rfl⟩
      have HE : Hid (SymV l 1 ι (.returned (.tuple #[.int .i64 (V : Nat), .bool true]))) := Lib.hid (Or.inl ⟨HOK.out, by
        rw [show Int.toNat 1 = 1 from rfl, Int.toNat_natCast, hV.trans hVV]⟩)
      have hl := low_byte a b1 15 7 hbb rfl 1
      have hm0 := mask_L (a * 256) (by omega) 32768 1 15 1 (by decide) (by decide) (by decide) V (hl.trans hVV)
      have hm : bits .and .i64 ((a : Int) * 256 / 32768) 1 = (V : Int) := by rw [← hm0]; simp
      clear hV hl hm0 HF HC hf hVV
      go_enter Try.func9, Try.ntmps9
      go_wp2_with fail
      go_quiet (fail)
      go_wp2_with fail
      go_ret2
      exact ⟨HE.out, HD2.out _⟩
    · have hfi : (ι : Int) % 8 = 1 := by omega
      have hV := HF.out 1 hf
      obtain ⟨V, hVV⟩ : ∃ V, (a * 256 + b1) / 2 ^ 14 % 2 ^ 1 = V := ⟨_, rfl⟩
      have HE : Hid (SymV l 1 ι (.returned (.tuple #[.int .i64 (V : Nat), .bool true]))) := Lib.hid (Or.inl ⟨HOK.out, by
        rw [show Int.toNat 1 = 1 from rfl, Int.toNat_natCast, hV.trans hVV]⟩)
      have hl := low_byte a b1 14 6 hbb rfl 1
      have hm0 := mask_L (a * 256) (by omega) 16384 1 14 1 (by decide) (by decide) (by decide) V (hl.trans hVV)
      have hm : bits .and .i64 ((a : Int) * 256 / 16384) 1 = (V : Int) := by rw [← hm0]; simp
      clear hV hl hm0 HF HC hf hVV
      go_enter Try.func9, Try.ntmps9
      go_wp2_with fail
      go_quiet (fail)
      go_wp2_with fail
      go_ret2
      exact ⟨HE.out, HD2.out _⟩
    · have hfi : (ι : Int) % 8 = 2 := by omega
      have hV := HF.out 2 hf
      obtain ⟨V, hVV⟩ : ∃ V, (a * 256 + b1) / 2 ^ 13 % 2 ^ 1 = V := ⟨_, rfl⟩
      have HE : Hid (SymV l 1 ι (.returned (.tuple #[.int .i64 (V : Nat), .bool true]))) := Lib.hid (Or.inl ⟨HOK.out, by
        rw [show Int.toNat 1 = 1 from rfl, Int.toNat_natCast, hV.trans hVV]⟩)
      have hl := low_byte a b1 13 5 hbb rfl 1
      have hm0 := mask_L (a * 256) (by omega) 8192 1 13 1 (by decide) (by decide) (by decide) V (hl.trans hVV)
      have hm : bits .and .i64 ((a : Int) * 256 / 8192) 1 = (V : Int) := by rw [← hm0]; simp
      clear hV hl hm0 HF HC hf hVV
      go_enter Try.func9, Try.ntmps9
      go_wp2_with fail
      go_quiet (fail)
      go_wp2_with fail
      go_ret2
      exact ⟨HE.out, HD2.out _⟩
    · have hfi : (ι : Int) % 8 = 3 := by omega
      have hV := HF.out 3 hf
      obtain ⟨V, hVV⟩ : ∃ V, (a * 256 + b1) / 2 ^ 12 % 2 ^ 1 = V := ⟨_, rfl⟩
      have HE : Hid (SymV l 1 ι (.returned (.tuple #[.int .i64 (V : Nat), .bool true]))) := Lib.hid (Or.inl ⟨HOK.out, by
        rw [show Int.toNat 1 = 1 from rfl, Int.toNat_natCast, hV.trans hVV]⟩)
      have hl := low_byte a b1 12 4 hbb rfl 1
      have hm0 := mask_L (a * 256) (by omega) 4096 1 12 1 (by decide) (by decide) (by decide) V (hl.trans hVV)
      have hm : bits .and .i64 ((a : Int) * 256 / 4096) 1 = (V : Int) := by rw [← hm0]; simp
      clear hV hl hm0 HF HC hf hVV
      go_enter Try.func9, Try.ntmps9
      go_wp2_with fail
      go_quiet (fail)
      go_wp2_with fail
      go_ret2
      exact ⟨HE.out, HD2.out _⟩
    · have hfi : (ι : Int) % 8 = 4 := by omega
      have hV := HF.out 4 hf
      obtain ⟨V, hVV⟩ : ∃ V, (a * 256 + b1) / 2 ^ 11 % 2 ^ 1 = V := ⟨_, rfl⟩
      have HE : Hid (SymV l 1 ι (.returned (.tuple #[.int .i64 (V : Nat), .bool true]))) := Lib.hid (Or.inl ⟨HOK.out, by
        rw [show Int.toNat 1 = 1 from rfl, Int.toNat_natCast, hV.trans hVV]⟩)
      have hl := low_byte a b1 11 3 hbb rfl 1
      have hm0 := mask_L (a * 256) (by omega) 2048 1 11 1 (by decide) (by decide) (by decide) V (hl.trans hVV)
      have hm : bits .and .i64 ((a : Int) * 256 / 2048) 1 = (V : Int) := by rw [← hm0]; simp
      clear hV hl hm0 HF HC hf hVV
      go_enter Try.func9, Try.ntmps9
      go_wp2_with fail
      go_quiet (fail)
      go_wp2_with fail
      go_ret2
      exact ⟨HE.out, HD2.out _⟩
    · have hfi : (ι : Int) % 8 = 5 := by omega
      have hV := HF.out 5 hf
      obtain ⟨V, hVV⟩ : ∃ V, (a * 256 + b1) / 2 ^ 10 % 2 ^ 1 = V := ⟨_, rfl⟩
      have HE : Hid (SymV l 1 ι (.returned (.tuple #[.int .i64 (V : Nat), .bool true]))) := Lib.hid (Or.inl ⟨HOK.out, by
        rw [show Int.toNat 1 = 1 from rfl, Int.toNat_natCast, hV.trans hVV]⟩)
      have hl := low_byte a b1 10 2 hbb rfl 1
      have hm0 := mask_L (a * 256) (by omega) 1024 1 10 1 (by decide) (by decide) (by decide) V (hl.trans hVV)
      have hm : bits .and .i64 ((a : Int) * 256 / 1024) 1 = (V : Int) := by rw [← hm0]; simp
      clear hV hl hm0 HF HC hf hVV
      go_enter Try.func9, Try.ntmps9
      go_wp2_with fail
      go_quiet (fail)
      go_wp2_with fail
      go_ret2
      exact ⟨HE.out, HD2.out _⟩
    · have hfi : (ι : Int) % 8 = 6 := by omega
      have hV := HF.out 6 hf
      obtain ⟨V, hVV⟩ : ∃ V, (a * 256 + b1) / 2 ^ 9 % 2 ^ 1 = V := ⟨_, rfl⟩
      have HE : Hid (SymV l 1 ι (.returned (.tuple #[.int .i64 (V : Nat), .bool true]))) := Lib.hid (Or.inl ⟨HOK.out, by
        rw [show Int.toNat 1 = 1 from rfl, Int.toNat_natCast, hV.trans hVV]⟩)
      have hl := low_byte a b1 9 1 hbb rfl 1
      have hm0 := mask_L (a * 256) (by omega) 512 1 9 1 (by decide) (by decide) (by decide) V (hl.trans hVV)
      have hm : bits .and .i64 ((a : Int) * 256 / 512) 1 = (V : Int) := by rw [← hm0]; simp
      clear hV hl hm0 HF HC hf hVV
      go_enter Try.func9, Try.ntmps9
      go_wp2_with fail
      go_quiet (fail)
      go_wp2_with fail
      go_ret2
      exact ⟨HE.out, HD2.out _⟩
    · have hfi : (ι : Int) % 8 = 7 := by omega
      have hV := HF.out 7 hf
      obtain ⟨V, hVV⟩ : ∃ V, (a * 256 + b1) / 2 ^ 8 % 2 ^ 1 = V := ⟨_, rfl⟩
      have HE : Hid (SymV l 1 ι (.returned (.tuple #[.int .i64 (V : Nat), .bool true]))) := Lib.hid (Or.inl ⟨HOK.out, by
        rw [show Int.toNat 1 = 1 from rfl, Int.toNat_natCast, hV.trans hVV]⟩)
      have hl := low_byte a b1 8 0 hbb rfl 1
      have hm0 := mask_L (a * 256) (by omega) 256 1 8 1 (by decide) (by decide) (by decide) V (hl.trans hVV)
      have hm : bits .and .i64 (a : Int) 1 = (V : Int) := by
        have e : ((a * 256 : Nat) : Int) / 256 = (a : Int) := by omega
        rw [← hm0, e]
      clear hV hl hm0 HF HC hf hVV
      go_enter Try.func9, Try.ntmps9
      go_wp2_with fail
      go_quiet (fail)
      go_wp2_with fail
      go_ret2
      exact ⟨HE.out, HD2.out _⟩
  · have hb1 : (8 : Int) * n < ((ι : Int) + 1) * 1 := by omega
    have HE := Lib.hid (SymE.no (l := l) (k := 1) (i := ι) w fun x => by
      obtain ⟨_, _, _, x4 | x4⟩ := x
      · omega
      · rw [hlen] at x4; omega)
    clear h hg
    go_enter Try.func9, Try.ntmps9
    go_wp2_with fail
    go_ret2
    exact HE.out
set_option maxHeartbeats 3200000 in
theorem symbol_2 (F : Nat → Prop) (w : World) (A : Option Addr) (n cap : Nat) (l : List Int) (h : BAt8 F w A n cap l) (hn : n ≤ 1000000) (ι : Nat) :
    Calls Try.prog 9 #[.slice A n cap, .int .i64 2, .int .i64 (ι : Nat)] w (SymE l 2 ι w) := by
  have hlen := h.len
  by_cases hg : (ι + 1) * 2 ≤ 8 * n
  · have hgI : ((ι : Int) + 1) * 2 ≤ 8 * (n : Int) := by omega
    obtain ⟨p, hp⟩ : ∃ p, ι * 2 / 8 = p := ⟨_, rfl⟩
    have hpn : p < n := by omega
    obtain ⟨b, o, rfl, _, hbl, hc⟩ := h.lies (by omega)
    have cp := hc p hpn
    have hb8 := h.bd
    rw [gN_int hb8] at cp
    have ha := gN_lt hb8 p
    have hbb := gN_lt hb8 (p + 1)
    obtain ⟨a, haa⟩ : ∃ a, gN l p = a := ⟨_, rfl⟩
    obtain ⟨b1, hb1⟩ : ∃ b1, gN l (p + 1) = b1 := ⟨_, rfl⟩
    have HC := Lib.hid (fun hp1 : p + 1 < n => (hc (p + 1) hp1).trans (by rw [gN_int hb8, hb1]))
    rw [haa] at cp ha
    rw [hb1] at hbb
    have hfit := h.fit
    have hmax := h.max
    unfold maxLen at hmax
    have HOK : Hid (symOk l 2 ι) := Lib.hid ⟨by omega, by omega, by omega, Or.inr (by rw [hlen]; omega)⟩
    have HD := Lib.hid (drew0 w)
    have HD2 := Lib.hid (fun m : Nat => (⟨m, rfl⟩ : ∃ n, w.drewN m = w.drewN n))
    have hpi : (ι : Int) * 2 / 8 = (p : Int) := by omega
    have HT : Hid (symT l p = a * 256 + b1) := Lib.hid (by unfold symT; rw [haa, hb1])
    have HF : Hid (∀ f, ι * 2 % 8 = f → symF l 2 ι = (a * 256 + b1) / 2 ^ (16 - f - 2) % 2 ^ 2) := Lib.hid (fun f hf => by unfold symF; rw [hp, hf, HT.out])
    have hfc : ι * 2 % 8 = 0 ∨ ι * 2 % 8 = 2 ∨ ι * 2 % 8 = 4 ∨ ι * 2 % 8 = 6 := by omega
    clear h hc haa hb1 hb8 hbl HT
    rcases hfc with hf | hf | hf | hf
    · have hfi : (ι : Int) * 2 % 8 = 0 := by omega
      have hV := HF.out 0 hf
      obtain ⟨V, hVV⟩ : ∃ V, (a * 256 + b1) / 2 ^ 14 % 2 ^ 2 = V := ⟨_, rfl⟩
      have HE : Hid (SymV l 2 ι (.returned (.tuple #[.int .i64 (V : Nat), .bool true]))) := Lib.hid (Or.inl ⟨HOK.out, by
        rw [show Int.toNat 2 = 2 from rfl, Int.toNat_natCast, hV.trans hVV]⟩)
      have hl := low_byte a b1 14 6 hbb rfl 2
      have hm0 := mask_L (a * 256) (by omega) 16384 3 14 2 (by decide) (by decide) (by decide) V (hl.trans hVV)
      have hm : bits .and .i64 ((a : Int) * 256 / 16384) 3 = (V : Int) := by rw [← hm0]; simp
      clear hV hl hm0 HF HC hf hVV
      go_enter Try.func9, Try.ntmps9
      go_wp2_with fail
      go_quiet (fail)
      go_wp2_with fail
      go_ret2
      exact ⟨HE.out, HD2.out _⟩
    · have hfi : (ι : Int) * 2 % 8 = 2 := by omega
      have hV := HF.out 2 hf
      obtain ⟨V, hVV⟩ : ∃ V, (a * 256 + b1) / 2 ^ 12 % 2 ^ 2 = V := ⟨_, rfl⟩
      have HE : Hid (SymV l 2 ι (.returned (.tuple #[.int .i64 (V : Nat), .bool true]))) := Lib.hid (Or.inl ⟨HOK.out, by
        rw [show Int.toNat 2 = 2 from rfl, Int.toNat_natCast, hV.trans hVV]⟩)
      have hl := low_byte a b1 12 4 hbb rfl 2
      have hm0 := mask_L (a * 256) (by omega) 4096 3 12 2 (by decide) (by decide) (by decide) V (hl.trans hVV)
      have hm : bits .and .i64 ((a : Int) * 256 / 4096) 3 = (V : Int) := by rw [← hm0]; simp
      clear hV hl hm0 HF HC hf hVV
      go_enter Try.func9, Try.ntmps9
      go_wp2_with fail
      go_quiet (fail)
      go_wp2_with fail
      go_ret2
      exact ⟨HE.out, HD2.out _⟩
    · have hfi : (ι : Int) * 2 % 8 = 4 := by omega
      have hV := HF.out 4 hf
      obtain ⟨V, hVV⟩ : ∃ V, (a * 256 + b1) / 2 ^ 10 % 2 ^ 2 = V := ⟨_, rfl⟩
      have HE : Hid (SymV l 2 ι (.returned (.tuple #[.int .i64 (V : Nat), .bool true]))) := Lib.hid (Or.inl ⟨HOK.out, by
        rw [show Int.toNat 2 = 2 from rfl, Int.toNat_natCast, hV.trans hVV]⟩)
      have hl := low_byte a b1 10 2 hbb rfl 2
      have hm0 := mask_L (a * 256) (by omega) 1024 3 10 2 (by decide) (by decide) (by decide) V (hl.trans hVV)
      have hm : bits .and .i64 ((a : Int) * 256 / 1024) 3 = (V : Int) := by rw [← hm0]; simp
      clear hV hl hm0 HF HC hf hVV
      go_enter Try.func9, Try.ntmps9
      go_wp2_with fail
      go_quiet (fail)
      go_wp2_with fail
      go_ret2
      exact ⟨HE.out, HD2.out _⟩
    · have hfi : (ι : Int) * 2 % 8 = 6 := by omega
      have hV := HF.out 6 hf
      obtain ⟨V, hVV⟩ : ∃ V, (a * 256 + b1) / 2 ^ 8 % 2 ^ 2 = V := ⟨_, rfl⟩
      have HE : Hid (SymV l 2 ι (.returned (.tuple #[.int .i64 (V : Nat), .bool true]))) := Lib.hid (Or.inl ⟨HOK.out, by
        rw [show Int.toNat 2 = 2 from rfl, Int.toNat_natCast, hV.trans hVV]⟩)
      have hl := low_byte a b1 8 0 hbb rfl 2
      have hm0 := mask_L (a * 256) (by omega) 256 3 8 2 (by decide) (by decide) (by decide) V (hl.trans hVV)
      have hm : bits .and .i64 (a : Int) 3 = (V : Int) := by
        have e : ((a * 256 : Nat) : Int) / 256 = (a : Int) := by omega
        rw [← hm0, e]
      clear hV hl hm0 HF HC hf hVV
      go_enter Try.func9, Try.ntmps9
      go_wp2_with fail
      go_quiet (fail)
      go_wp2_with fail
      go_ret2
      exact ⟨HE.out, HD2.out _⟩
  · have hb1 : (8 : Int) * n < ((ι : Int) + 1) * 2 := by omega
    have HE := Lib.hid (SymE.no (l := l) (k := 2) (i := ι) w fun x => by
      obtain ⟨_, _, _, x4 | x4⟩ := x
      · omega
      · rw [hlen] at x4; omega)
    clear h hg
    go_enter Try.func9, Try.ntmps9
    go_wp2_with fail
    go_ret2
    exact HE.out
set_option maxHeartbeats 3200000 in
theorem symbol_3 (F : Nat → Prop) (w : World) (A : Option Addr) (n cap : Nat) (l : List Int) (h : BAt8 F w A n cap l) (hn : n ≤ 1000000) (ι : Nat) :
    Calls Try.prog 9 #[.slice A n cap, .int .i64 3, .int .i64 (ι : Nat)] w (SymE l 3 ι w) := by
  have hlen := h.len
  by_cases hg : (ι + 1) * 3 ≤ 8 * n
  · have hgI : ((ι : Int) + 1) * 3 ≤ 8 * (n : Int) := by omega
    obtain ⟨p, hp⟩ : ∃ p, ι * 3 / 8 = p := ⟨_, rfl⟩
    have hpn : p < n := by omega
    obtain ⟨b, o, rfl, _, hbl, hc⟩ := h.lies (by omega)
    have cp := hc p hpn
    have hb8 := h.bd
    rw [gN_int hb8] at cp
    have ha := gN_lt hb8 p
    have hbb := gN_lt hb8 (p + 1)
    obtain ⟨a, haa⟩ : ∃ a, gN l p = a := ⟨_, rfl⟩
    obtain ⟨b1, hb1⟩ : ∃ b1, gN l (p + 1) = b1 := ⟨_, rfl⟩
    have HC := Lib.hid (fun hp1 : p + 1 < n => (hc (p + 1) hp1).trans (by rw [gN_int hb8, hb1]))
    rw [haa] at cp ha
    rw [hb1] at hbb
    have hfit := h.fit
    have hmax := h.max
    unfold maxLen at hmax
    have HOK : Hid (symOk l 3 ι) := Lib.hid ⟨by omega, by omega, by omega, Or.inr (by rw [hlen]; omega)⟩
    have HD := Lib.hid (drew0 w)
    have HD2 := Lib.hid (fun m : Nat => (⟨m, rfl⟩ : ∃ n, w.drewN m = w.drewN n))
    have hpi : (ι : Int) * 3 / 8 = (p : Int) := by omega
    have HT : Hid (symT l p = a * 256 + b1) := Lib.hid (by unfold symT; rw [haa, hb1])
    have HF : Hid (∀ f, ι * 3 % 8 = f → symF l 3 ι = (a * 256 + b1) / 2 ^ (16 - f - 3) % 2 ^ 3) := Lib.hid (fun f hf => by unfold symF; rw [hp, hf, HT.out])
    have hfc : ι * 3 % 8 = 0 ∨ ι * 3 % 8 = 1 ∨ ι * 3 % 8 = 2 ∨ ι * 3 % 8 = 3 ∨ ι * 3 % 8 = 4 ∨ ι * 3 % 8 = 5 ∨ ι * 3 % 8 = 6 ∨ ι * 3 % 8 = 7 := by omega
    clear h hc haa hb1 hb8 hbl HT
    rcases hfc with hf | hf | hf | hf | hf | hf | hf | hf
    · have hfi : (ι : Int) * 3 % 8 = 0 := by omega
      have hV := HF.out 0 hf
      obtain ⟨V, hVV⟩ : ∃ V, (a * 256 + b1) / 2 ^ 13 % 2 ^ 3 = V := ⟨_, rfl⟩
      have HE : Hid (SymV l 3 ι (.returned (.tuple #[.int .i64 (V : Nat), .bool true]))) := Lib.hid (Or.inl ⟨HOK.out, by
        rw [show Int.toNat 3 = 3 from rfl, Int.toNat_natCast, hV.trans hVV]⟩)
      have hl := low_byte a b1 13 5 hbb rfl 3
      have hm0 := mask_L (a * 256) (by omega) 8192 7 13 3 (by decide) (by decide) (by decide) V (hl.trans hVV)
      have hm : bits .and .i64 ((a : Int) * 256 / 8192) 7 = (V : Int) := by rw [← hm0]; simp
      clear hV hl hm0 HF HC hf hVV
      go_enter Try.func9, Try.ntmps9
      go_wp2_with fail
      go_quiet (fail)
      go_wp2_with fail
      go_ret2
      exact ⟨HE.out, HD2.out _⟩
    · have hfi : (ι : Int) * 3 % 8 = 1 := by omega
      have hV := HF.out 1 hf
      obtain ⟨V, hVV⟩ : ∃ V, (a * 256 + b1) / 2 ^ 12 % 2 ^ 3 = V := ⟨_, rfl⟩
      have HE : Hid (SymV l 3 ι (.returned (.tuple #[.int .i64 (V : Nat), .bool true]))) := Lib.hid (Or.inl ⟨HOK.out, by
        rw [show Int.toNat 3 = 3 from rfl, Int.toNat_natCast, hV.trans hVV]⟩)
      have hl := low_byte a b1 12 4 hbb rfl 3
      have hm0 := mask_L (a * 256) (by omega) 4096 7 12 3 (by decide) (by decide) (by decide) V (hl.trans hVV)
      have hm : bits .and .i64 ((a : Int) * 256 / 4096) 7 = (V : Int) := by rw [← hm0]; simp
      clear hV hl hm0 HF HC hf hVV
      go_enter Try.func9, Try.ntmps9
      go_wp2_with fail
      go_quiet (fail)
      go_wp2_with fail
      go_ret2
      exact ⟨HE.out, HD2.out _⟩
    · have hfi : (ι : Int) * 3 % 8 = 2 := by omega
      have hV := HF.out 2 hf
      obtain ⟨V, hVV⟩ : ∃ V, (a * 256 + b1) / 2 ^ 11 % 2 ^ 3 = V := ⟨_, rfl⟩
      have HE : Hid (SymV l 3 ι (.returned (.tuple #[.int .i64 (V : Nat), .bool true]))) := Lib.hid (Or.inl ⟨HOK.out, by
        rw [show Int.toNat 3 = 3 from rfl, Int.toNat_natCast, hV.trans hVV]⟩)
      have hl := low_byte a b1 11 3 hbb rfl 3
      have hm0 := mask_L (a * 256) (by omega) 2048 7 11 3 (by decide) (by decide) (by decide) V (hl.trans hVV)
      have hm : bits .and .i64 ((a : Int) * 256 / 2048) 7 = (V : Int) := by rw [← hm0]; simp
      clear hV hl hm0 HF HC hf hVV
      go_enter Try.func9, Try.ntmps9
      go_wp2_with fail
      go_quiet (fail)
      go_wp2_with fail
      go_ret2
      exact ⟨HE.out, HD2.out _⟩
    · have hfi : (ι : Int) * 3 % 8 = 3 := by omega
      have hV := HF.out 3 hf
      obtain ⟨V, hVV⟩ : ∃ V, (a * 256 + b1) / 2 ^ 10 % 2 ^ 3 = V := ⟨_, rfl⟩
      have HE : Hid (SymV l 3 ι (.returned (.tuple #[.int .i64 (V : Nat), .bool true]))) := Lib.hid (Or.inl ⟨HOK.out, by
        rw [show Int.toNat 3 = 3 from rfl, Int.toNat_natCast, hV.trans hVV]⟩)
      have hl := low_byte a b1 10 2 hbb rfl 3
      have hm0 := mask_L (a * 256) (by omega) 1024 7 10 3 (by decide) (by decide) (by decide) V (hl.trans hVV)
      have hm : bits .and .i64 ((a : Int) * 256 / 1024) 7 = (V : Int) := by rw [← hm0]; simp
      clear hV hl hm0 HF HC hf hVV
      go_enter Try.func9, Try.ntmps9
      go_wp2_with fail
      go_quiet (fail)
      go_wp2_with fail
      go_ret2
      exact ⟨HE.out, HD2.out _⟩
    · have hfi : (ι : Int) * 3 % 8 = 4 := by omega
      have hV := HF.out 4 hf
      obtain ⟨V, hVV⟩ : ∃ V, (a * 256 + b1) / 2 ^ 9 % 2 ^ 3 = V := ⟨_, rfl⟩
      have HE : Hid (SymV l 3 ι (.returned (.tuple #[.int .i64 (V : Nat), .bool true]))) := Lib.hid (Or.inl ⟨HOK.out, by
        rw [show Int.toNat 3 = 3 from rfl, Int.toNat_natCast, hV.trans hVV]⟩)
      have hl := low_byte a b1 9 1 hbb rfl 3
      have hm0 := mask_L (a * 256) (by omega) 512 7 9 3 (by decide) (by decide) (by decide) V (hl.trans hVV)
      have hm : bits .and .i64 ((a : Int) * 256 / 512) 7 = (V : Int) := by rw [← hm0]; simp
      clear hV hl hm0 HF HC hf hVV
      go_enter Try.func9, Try.ntmps9
      go_wp2_with fail
      go_quiet (fail)
      go_wp2_with fail
      go_ret2
      exact ⟨HE.out, HD2.out _⟩
    · have hfi : (ι : Int) * 3 % 8 = 5 := by omega
      have hV := HF.out 5 hf
      obtain ⟨V, hVV⟩ : ∃ V, (a * 256 + b1) / 2 ^ 8 % 2 ^ 3 = V := ⟨_, rfl⟩
      have HE : Hid (SymV l 3 ι (.returned (.tuple #[.int .i64 (V : Nat), .bool true]))) := Lib.hid (Or.inl ⟨HOK.out, by
        rw [show Int.toNat 3 = 3 from rfl, Int.toNat_natCast, hV.trans hVV]⟩)
      have hl := low_byte a b1 8 0 hbb rfl 3
      have hm0 := mask_L (a * 256) (by omega) 256 7 8 3 (by decide) (by decide) (by decide) V (hl.trans hVV)
      have hm : bits .and .i64 (a : Int) 7 = (V : Int) := by
        have e : ((a * 256 : Nat) : Int) / 256 = (a : Int) := by omega
        rw [← hm0, e]
      clear hV hl hm0 HF HC hf hVV
      go_enter Try.func9, Try.ntmps9
      go_wp2_with fail
      go_quiet (fail)
      go_wp2_with fail
      go_ret2
      exact ⟨HE.out, HD2.out _⟩
    · have hfi : (ι : Int) * 3 % 8 = 6 := by omega
      have hV := HF.out 6 hf
      obtain ⟨V, hVV⟩ : ∃ V, (a * 256 + b1) / 2 ^ 7 % 2 ^ 3 = V := ⟨_, rfl⟩
      have HE : Hid (SymV l 3 ι (.returned (.tuple #[.int .i64 (V : Nat), .bool true]))) := Lib.hid (Or.inl ⟨HOK.out, by
        rw [show Int.toNat 3 = 3 from rfl, Int.toNat_natCast, hV.trans hVV]⟩)
      have cq := HC.out (by omega)
      have hor := or_bytes a b1 ha hbb
      obtain ⟨T, hT⟩ : ∃ T, a * 256 + b1 = T := ⟨_, rfl⟩
      rw [hT] at hor hVV
      have hm := mask_L T (by omega) 128 7 7 3 (by decide) (by decide) (by decide) V hVV
      clear hV hT HF HC hf hVV
      go_enter Try.func9, Try.ntmps9
      go_wp2_with fail
      go_quiet (fail)
      go_wp2_with fail
      go_ret2
      exact ⟨HE.out, HD2.out _⟩
    · have hfi : (ι : Int) * 3 % 8 = 7 := by omega
      have hV := HF.out 7 hf
      obtain ⟨V, hVV⟩ : ∃ V, (a * 256 + b1) / 2 ^ 6 % 2 ^ 3 = V := ⟨_, rfl⟩
      have HE : Hid (SymV l 3 ι (.returned (.tuple #[.int .i64 (V : Nat), .bool true]))) := Lib.hid (Or.inl ⟨HOK.out, by
        rw [show Int.toNat 3 = 3 from rfl, Int.toNat_natCast, hV.trans hVV]⟩)
      have cq := HC.out (by omega)
      have hor := or_bytes a b1 ha hbb
      obtain ⟨T, hT⟩ : ∃ T, a * 256 + b1 = T := ⟨_, rfl⟩
      rw [hT] at hor hVV
      have hm := mask_L T (by omega) 64 7 6 3 (by decide) (by decide) (by decide) V hVV
      clear hV hT HF HC hf hVV
      go_enter Try.func9, Try.ntmps9
      go_wp2_with fail
      go_quiet (fail)
      go_wp2_with fail
      go_ret2
      exact ⟨HE.out, HD2.out _⟩
  · have hb1 : (8 : Int) * n < ((ι : Int) + 1) * 3 := by omega
    have HE := Lib.hid (SymE.no (l := l) (k := 3) (i := ι) w fun x => by
      obtain ⟨_, _, _, x4 | x4⟩ := x
      · omega
      · rw [hlen] at x4; omega)
    clear h hg
    go_enter Try.func9, Try.ntmps9
    go_wp2_with fail
    go_ret2
    exact HE.out
set_option maxHeartbeats 3200000 in
theorem symbol_4 (F : Nat → Prop) (w : World) (A : Option Addr) (n cap : Nat) (l : List Int) (h : BAt8 F w A n cap l) (hn : n ≤ 1000000) (ι : Nat) :
    Calls Try.prog 9 #[.slice A n cap, .int .i64 4, .int .i64 (ι : Nat)] w (SymE l 4 ι w) := by
  have hlen := h.len
  by_cases hg : (ι + 1) * 4 ≤ 8 * n
  · have hgI : ((ι : Int) + 1) * 4 ≤ 8 * (n : Int) := by omega
    obtain ⟨p, hp⟩ : ∃ p, ι * 4 / 8 = p := ⟨_, rfl⟩
    have hpn : p < n := by omega
    obtain ⟨b, o, rfl, _, hbl, hc⟩ := h.lies (by omega)
    have cp := hc p hpn
    have hb8 := h.bd
    rw [gN_int hb8] at cp
    have ha := gN_lt hb8 p
    have hbb := gN_lt hb8 (p + 1)
    obtain ⟨a, haa⟩ : ∃ a, gN l p = a := ⟨_, rfl⟩
    obtain ⟨b1, hb1⟩ : ∃ b1, gN l (p + 1) = b1 := ⟨_, rfl⟩
    have HC := Lib.hid (fun hp1 : p + 1 < n => (hc (p + 1) hp1).trans (by rw [gN_int hb8, hb1]))
    rw [haa] at cp ha
    rw [hb1] at hbb
    have hfit := h.fit
    have hmax := h.max
    unfold maxLen at hmax
    have HOK : Hid (symOk l 4 ι) := Lib.hid ⟨by omega, by omega, by omega, Or.inr (by rw [hlen]; omega)⟩
    have HD := Lib.hid (drew0 w)
    have HD2 := Lib.hid (fun m : Nat => (⟨m, rfl⟩ : ∃ n, w.drewN m = w.drewN n))
    have hpi : (ι : Int) * 4 / 8 = (p : Int) := by omega
    have HT : Hid (symT l p = a * 256 + b1) := Lib.hid (by unfold symT; rw [haa, hb1])
    have HF : Hid (∀ f, ι * 4 % 8 = f → symF l 4 ι = (a * 256 + b1) / 2 ^ (16 - f - 4) % 2 ^ 4) := Lib.hid (fun f hf => by unfold symF; rw [hp, hf, HT.out])
    have hfc : ι * 4 % 8 = 0 ∨ ι * 4 % 8 = 4 := by omega
    clear h hc haa hb1 hb8 hbl HT
    rcases hfc with hf | hf
    · have hfi : (ι : Int) * 4 % 8 = 0 := by omega
      have hV := HF.out 0 hf
      obtain ⟨V, hVV⟩ : ∃ V, (a * 256 + b1) / 2 ^ 12 % 2 ^ 4 = V := ⟨_, rfl⟩
      have HE : Hid (SymV l 4 ι (.returned (.tuple #[.int .i64 (V : Nat), .bool true]))) := Lib.hid (Or.inl ⟨HOK.out, by
        rw [show Int.toNat 4 = 4 from rfl, Int.toNat_natCast, hV.trans hVV]⟩)
      have hl := low_byte a b1 12 4 hbb rfl 4
      have hm0 := mask_L (a * 256) (by omega) 4096 15 12 4 (by decide) (by decide) (by decide) V (hl.trans hVV)
      have hm : bits .and .i64 ((a : Int) * 256 / 4096) 15 = (V : Int) := by rw [← hm0]; simp
      clear hV hl hm0 HF HC hf hVV
      go_enter Try.func9, Try.ntmps9
      go_wp2_with fail
      go_quiet (fail)
      go_wp2_with fail
      go_ret2
      exact ⟨HE.out, HD2.out _⟩
    · have hfi : (ι : Int) * 4 % 8 = 4 := by omega
      have hV := HF.out 4 hf
      obtain ⟨V, hVV⟩ : ∃ V, (a * 256 + b1) / 2 ^ 8 % 2 ^ 4 = V := ⟨_, rfl⟩
      have HE : Hid (SymV l 4 ι (.returned (.tuple #[.int .i64 (V : Nat), .bool true]))) := Lib.hid (Or.inl ⟨HOK.out, by
        rw [show Int.toNat 4 = 4 from rfl, Int.toNat_natCast, hV.trans hVV]⟩)
      have hl := low_byte a b1 8 0 hbb rfl 4
      have hm0 := mask_L (a * 256) (by omega) 256 15 8 4 (by decide) (by decide) (by decide) V (hl.trans hVV)
      have hm : bits .and .i64 (a : Int) 15 = (V : Int) := by
        have e : ((a * 256 : Nat) : Int) / 256 = (a : Int) := by omega
        rw [← hm0, e]
      clear hV hl hm0 HF HC hf hVV
      go_enter Try.func9, Try.ntmps9
      go_wp2_with fail
      go_quiet (fail)
      go_wp2_with fail
      go_ret2
      exact ⟨HE.out, HD2.out _⟩
  · have hb1 : (8 : Int) * n < ((ι : Int) + 1) * 4 := by omega
    have HE := Lib.hid (SymE.no (l := l) (k := 4) (i := ι) w fun x => by
      obtain ⟨_, _, _, x4 | x4⟩ := x
      · omega
      · rw [hlen] at x4; omega)
    clear h hg
    go_enter Try.func9, Try.ntmps9
    go_wp2_with fail
    go_ret2
    exact HE.out
set_option maxHeartbeats 3200000 in
theorem symbol_5 (F : Nat → Prop) (w : World) (A : Option Addr) (n cap : Nat) (l : List Int) (h : BAt8 F w A n cap l) (hn : n ≤ 1000000) (ι : Nat) :
    Calls Try.prog 9 #[.slice A n cap, .int .i64 5, .int .i64 (ι : Nat)] w (SymE l 5 ι w) := by
  have hlen := h.len
  by_cases hg : (ι + 1) * 5 ≤ 8 * n
  · have hgI : ((ι : Int) + 1) * 5 ≤ 8 * (n : Int) := by omega
    obtain ⟨p, hp⟩ : ∃ p, ι * 5 / 8 = p := ⟨_, rfl⟩
    have hpn : p < n := by omega
    obtain ⟨b, o, rfl, _, hbl, hc⟩ := h.lies (by omega)
    have cp := hc p hpn
    have hb8 := h.bd
    rw [gN_int hb8] at cp
    have ha := gN_lt hb8 p
    have hbb := gN_lt hb8 (p + 1)
    obtain ⟨a, haa⟩ : ∃ a, gN l p = a := ⟨_, rfl⟩
    obtain ⟨b1, hb1⟩ : ∃ b1, gN l (p + 1) = b1 := ⟨_, rfl⟩
    have HC := Lib.hid (fun hp1 : p + 1 < n => (hc (p + 1) hp1).trans (by rw [gN_int hb8, hb1]))
    rw [haa] at cp ha
    rw [hb1] at hbb
    have hfit := h.fit
    have hmax := h.max
    unfold maxLen at hmax
    have HOK : Hid (symOk l 5 ι) := Lib.hid ⟨by omega, by omega, by omega, Or.inr (by rw [hlen]; omega)⟩
    have HD := Lib.hid (drew0 w)
    have HD2 := Lib.hid (fun m : Nat => (⟨m, rfl⟩ : ∃ n, w.drewN m = w.drewN n))
    have hpi : (ι : Int) * 5 / 8 = (p : Int) := by omega
    have HT : Hid (symT l p = a * 256 + b1) := Lib.hid (by unfold symT; rw [haa, hb1])
    have HF : Hid (∀ f, ι * 5 % 8 = f → symF l 5 ι = (a * 256 + b1) / 2 ^ (16 - f - 5) % 2 ^ 5) := Lib.hid (fun f hf => by unfold symF; rw [hp, hf, HT.out])
    have hfc : ι * 5 % 8 = 0 ∨ ι * 5 % 8 = 1 ∨ ι * 5 % 8 = 2 ∨ ι * 5 % 8 = 3 ∨ ι * 5 % 8 = 4 ∨ ι * 5 % 8 = 5 ∨ ι * 5 % 8 = 6 ∨ ι * 5 % 8 = 7 := by omega
    clear h hc haa hb1 hb8 hbl HT
    rcases hfc with hf | hf | hf | hf | hf | hf | hf | hf
    · have hfi : (ι : Int) * 5 % 8 = 0 := by omega
      have hV := HF.out 0 hf
      obtain ⟨V, hVV⟩ : ∃ V, (a * 256 + b1) / 2 ^ 11 % 2 ^ 5 = V := ⟨_, rfl⟩
      have HE : Hid (SymV l 5 ι (.returned (.tuple #[.int .i64 (V : Nat), .bool true]))) := Lib.hid (Or.inl ⟨HOK.out, by
        rw [show Int.toNat 5 = 5 from rfl, Int.toNat_natCast, hV.trans hVV]⟩)
      have hl := low_byte a b1 11 3 hbb rfl 5
      have hm0 := mask_L (a * 256) (by omega) 2048 31 11 5 (by decide) (by decide) (by decide) V (hl.trans hVV)
      have hm : bits .and .i64 ((a : Int) * 256 / 2048) 31 = (V : Int) := by rw [← hm0]; simp
      clear hV hl hm0 HF HC hf hVV
      go_enter Try.func9, Try.ntmps9
      go_wp2_with fail
      go_quiet (fail)
      go_wp2_with fail
      go_ret2
      exact ⟨HE.out, HD2.out _⟩
    · have hfi : (ι : Int) * 5 % 8 = 1 := by omega
      have hV := HF.out 1 hf
      obtain ⟨V, hVV⟩ : ∃ V, (a * 256 + b1) / 2 ^ 10 % 2 ^ 5 = V := ⟨_, rfl⟩
      have HE : Hid (SymV l 5 ι (.returned (.tuple #[.int .i64 (V : Nat), .bool true]))) := Lib.hid (Or.inl ⟨HOK.out, by
        rw [show Int.toNat 5 = 5 from rfl, Int.toNat_natCast, hV.trans hVV]⟩)
      have hl := low_byte a b1 10 2 hbb rfl 5
      have hm0 := mask_L (a * 256) (by omega) 1024 31 10 5 (by decide) (by decide) (by decide) V (hl.trans hVV)
      have hm : bits .and .i64 ((a : Int) * 256 / 1024) 31 = (V : Int) := by rw [← hm0]; simp
      clear hV hl hm0 HF HC hf hVV
      go_enter Try.func9, Try.ntmps9
      go_wp2_with fail
      go_quiet (fail)
      go_wp2_with fail
      go_ret2
      exact ⟨HE.out, HD2.out _⟩
    · have hfi : (ι : Int) * 5 % 8 = 2 := by omega
      have hV := HF.out 2 hf
      obtain ⟨V, hVV⟩ : ∃ V, (a * 256 + b1) / 2 ^ 9 % 2 ^ 5 = V := ⟨_, rfl⟩
      have HE : Hid (SymV l 5 ι (.returned (.tuple #[.int .i64 (V : Nat), .bool true]))) := Lib.hid (Or.inl ⟨HOK.out, by
        rw [show Int.toNat 5 = 5 from rfl, Int.toNat_natCast, hV.trans hVV]⟩)
      have hl := low_byte a b1 9 1 hbb rfl 5
      have hm0 := mask_L (a * 256) (by omega) 512 31 9 5 (by decide) (by decide) (by decide) V (hl.trans hVV)
      have hm : bits .and .i64 ((a : Int) * 256 / 512) 31 = (V : Int) := by rw [← hm0]; simp
      clear hV hl hm0 HF HC hf hVV
      go_enter Try.func9, Try.ntmps9
      go_wp2_with fail
      go_quiet (fail)
      go_wp2_with fail
      go_ret2
      exact ⟨HE.out, HD2.out _⟩
    · have hfi : (ι : Int) * 5 % 8 = 3 := by omega
      have hV := HF.out 3 hf
      obtain ⟨V, hVV⟩ : ∃ V, (a * 256 + b1) / 2 ^ 8 % 2 ^ 5 = V := ⟨_, rfl⟩
      have HE : Hid (SymV l 5 ι (.returned (.tuple #[.int .i64 (V : Nat), .bool true]))) := Lib.hid (Or.inl ⟨HOK.out, by
        rw [show Int.toNat 5 = 5 from rfl, Int.toNat_natCast, hV.trans hVV]⟩)
      have hl := low_byte a b1 8 0 hbb rfl 5
      have hm0 := mask_L (a * 256) (by omega) 256 31 8 5 (by decide) (by decide) (by decide) V (hl.trans hVV)
      have hm : bits .and .i64 (a : Int) 31 = (V : Int) := by
        have e : ((a * 256 : Nat) : Int) / 256 = (a : Int) := by omega
        rw [← hm0, e]
      clear hV hl hm0 HF HC hf hVV
      go_enter Try.func9, Try.ntmps9
      go_wp2_with fail
      go_quiet (fail)
      go_wp2_with fail
      go_ret2
      exact ⟨HE.out, HD2.out _⟩
    · have hfi : (ι : Int) * 5 % 8 = 4 := by omega
      have hV := HF.out 4 hf
      obtain ⟨V, hVV⟩ : ∃ V, (a * 256 + b1) / 2 ^ 7 % 2 ^ 5 = V := ⟨_, rfl⟩
      have HE : Hid (SymV l 5 ι (.returned (.tuple #[.int .i64 (V : Nat), .bool true]))) := Lib.hid (Or.inl ⟨HOK.out, by
        rw [show Int.toNat 5 = 5 from rfl, Int.toNat_natCast, hV.trans hVV]⟩)
      have cq := HC.out (by omega)
      have hor := or_bytes a b1 ha hbb
      obtain ⟨T, hT⟩ : ∃ T, a * 256 + b1 = T := ⟨_, rfl⟩
      rw [hT] at hor hVV
      have hm := mask_L T (by omega) 128 31 7 5 (by decide) (by decide) (by decide) V hVV
      clear hV hT HF HC hf hVV
      go_enter Try.func9, Try.ntmps9
      go_wp2_with fail
      go_quiet (fail)
      go_wp2_with fail
      go_ret2
      exact ⟨HE.out, HD2.out _⟩
    · have hfi : (ι : Int) * 5 % 8 = 5 := by omega
      have hV := HF.out 5 hf
      obtain ⟨V, hVV⟩ : ∃ V, (a * 256 + b1) / 2 ^ 6 % 2 ^ 5 = V := ⟨_, rfl⟩
      have HE : Hid (SymV l 5 ι (.returned (.tuple #[.int .i64 (V : Nat), .bool true]))) := Lib.hid (Or.inl ⟨HOK.out, by
        rw [show Int.toNat 5 = 5 from rfl, Int.toNat_natCast, hV.trans hVV]⟩)
      have cq := HC.out (by omega)
      have hor := or_bytes a b1 ha hbb
      obtain ⟨T, hT⟩ : ∃ T, a * 256 + b1 = T := ⟨_, rfl⟩
      rw [hT] at hor hVV
      have hm := mask_L T (by omega) 64 31 6 5 (by decide) (by decide) (by decide) V hVV
      clear hV hT HF HC hf hVV
      go_enter Try.func9, Try.ntmps9
      go_wp2_with fail
      go_quiet (fail)
      go_wp2_with fail
      go_ret2
      exact ⟨HE.out, HD2.out _⟩
    · have hfi : (ι : Int) * 5 % 8 = 6 := by omega
      have hV := HF.out 6 hf
      obtain ⟨V, hVV⟩ : ∃ V, (a * 256 + b1) / 2 ^ 5 % 2 ^ 5 = V := ⟨_, rfl⟩
      have HE : Hid (SymV l 5 ι (.returned (.tuple #[.int .i64 (V : Nat), .bool true]))) := Lib.hid (Or.inl ⟨HOK.out, by
        rw [show Int.toNat 5 = 5 from rfl, Int.toNat_natCast, hV.trans hVV]⟩)
      have cq := HC.out (by omega)
      have hor := or_bytes a b1 ha hbb
      obtain ⟨T, hT⟩ : ∃ T, a * 256 + b1 = T := ⟨_, rfl⟩
      rw [hT] at hor hVV
      have hm := mask_L T (by omega) 32 31 5 5 (by decide) (by decide) (by decide) V hVV
      clear hV hT HF HC hf hVV
      go_enter Try.func9, Try.ntmps9
      go_wp2_with fail
      go_quiet (fail)
      go_wp2_with fail
      go_ret2
      exact ⟨HE.out, HD2.out _⟩
    · have hfi : (ι : Int) * 5 % 8 = 7 := by omega
      have hV := HF.out 7 hf
      obtain ⟨V, hVV⟩ : ∃ V, (a * 256 + b1) / 2 ^ 4 % 2 ^ 5 = V := ⟨_, rfl⟩
      have HE : Hid (SymV l 5 ι (.returned (.tuple #[.int .i64 (V : Nat), .bool true]))) := Lib.hid (Or.inl ⟨HOK.out, by
        rw [show Int.toNat 5 = 5 from rfl, Int.toNat_natCast, hV.trans hVV]⟩)
      have cq := HC.out (by omega)
      have hor := or_bytes a b1 ha hbb
      obtain ⟨T, hT⟩ : ∃ T, a * 256 + b1 = T := ⟨_, rfl⟩
      rw [hT] at hor hVV
      have hm := mask_L T (by omega) 16 31 4 5 (by decide) (by decide) (by decide) V hVV
      clear hV hT HF HC hf hVV
      go_enter Try.func9, Try.ntmps9
      go_wp2_with fail
      go_quiet (fail)
      go_wp2_with fail
      go_ret2
      exact ⟨HE.out, HD2.out _⟩
  · have hb1 : (8 : Int) * n < ((ι : Int) + 1) * 5 := by omega
    have HE := Lib.hid (SymE.no (l := l) (k := 5) (i := ι) w fun x => by
      obtain ⟨_, _, _, x4 | x4⟩ := x
      · omega
      · rw [hlen] at x4; omega)
    clear h hg
    go_enter Try.func9, Try.ntmps9
    go_wp2_with fail
    go_ret2
    exact HE.out
set_option maxHeartbeats 3200000 in
theorem symbol_6 (F : Nat → Prop) (w : World) (A : Option Addr) (n cap : Nat) (l : List Int) (h : BAt8 F w A n cap l) (hn : n ≤ 1000000) (ι : Nat) :
    Calls Try.prog 9 #[.slice A n cap, .int .i64 6, .int .i64 (ι : Nat)] w (SymE l 6 ι w) := by
  have hlen := h.len
  by_cases hg : (ι + 1) * 6 ≤ 8 * n
  · have hgI : ((ι : Int) + 1) * 6 ≤ 8 * (n : Int) := by omega
    obtain ⟨p, hp⟩ : ∃ p, ι * 6 / 8 = p := ⟨_, rfl⟩
    have hpn : p < n := by omega
    obtain ⟨b, o, rfl, _, hbl, hc⟩ := h.lies (by omega)
    have cp := hc p hpn
    have hb8 := h.bd
    rw [gN_int hb8] at cp
    have ha := gN_lt hb8 p
    have hbb := gN_lt hb8 (p + 1)
    obtain ⟨a, haa⟩ : ∃ a, gN l p = a := ⟨_, rfl⟩
    obtain ⟨b1, hb1⟩ : ∃ b1, gN l (p + 1) = b1 := ⟨_, rfl⟩
    have HC := Lib.hid (fun hp1 : p + 1 < n => (hc (p + 1) hp1).trans (by rw [gN_int hb8, hb1]))
    rw [haa] at cp ha
    rw [hb1] at hbb
    have hfit := h.fit
    have hmax := h.max
    unfold maxLen at hmax
    have HOK : Hid (symOk l 6 ι) := Lib.hid ⟨by omega, by omega, by omega, Or.inr (by rw [hlen]; omega)⟩
    have HD := Lib.hid (drew0 w)
    have HD2 := Lib.hid (fun m : Nat => (⟨m, rfl⟩ : ∃ n, w.drewN m = w.drewN n))
    have hpi : (ι : Int) * 6 / 8 = (p : Int) := by omega
    have HT : Hid (symT l p = a * 256 + b1) := Lib.hid (by unfold symT; rw [haa, hb1])
    have HF : Hid (∀ f, ι * 6 % 8 = f → symF l 6 ι = (a * 256 + b1) / 2 ^ (16 - f - 6) % 2 ^ 6) := Lib.hid (fun f hf => by unfold symF; rw [hp, hf, HT.out])
    have hfc : ι * 6 % 8 = 0 ∨ ι * 6 % 8 = 2 ∨ ι * 6 % 8 = 4 ∨ ι * 6 % 8 = 6 := by omega
    clear h hc haa hb1 hb8 hbl HT
    rcases hfc with hf | hf | hf | hf
    · have hfi : (ι : Int) * 6 % 8 = 0 := by omega
      have hV := HF.out 0 hf
      obtain ⟨V, hVV⟩ : ∃ V, (a * 256 + b1) / 2 ^ 10 % 2 ^ 6 = V := ⟨_, rfl⟩
      have HE : Hid (SymV l 6 ι (.returned (.tuple #[.int .i64 (V : Nat), .bool true]))) := Lib.hid (Or.inl ⟨HOK.out, by
        rw [show Int.toNat 6 = 6 from rfl, Int.toNat_natCast, hV.trans hVV]⟩)
      have hl := low_byte a b1 10 2 hbb rfl 6
      have hm0 := mask_L (a * 256) (by omega) 1024 63 10 6 (by decide) (by decide) (by decide) V (hl.trans hVV)
      have hm : bits .and .i64 ((a : Int) * 256 / 1024) 63 = (V : Int) := by rw [← hm0]; simp
      clear hV hl hm0 HF HC hf hVV
      go_enter Try.func9, Try.ntmps9
      go_wp2_with fail
      go_quiet (fail)
      go_wp2_with fail
      go_ret2
      exact ⟨HE.out, HD2.out _⟩
    · have hfi : (ι : Int) * 6 % 8 = 2 := by omega
      have hV := HF.out 2 hf
      obtain ⟨V, hVV⟩ : ∃ V, (a * 256 + b1) / 2 ^ 8 % 2 ^ 6 = V := ⟨_, rfl⟩
      have HE : Hid (SymV l 6 ι (.returned (.tuple #[.int .i64 (V : Nat), .bool true]))) := Lib.hid (Or.inl ⟨HOK.out, by
        rw [show Int.toNat 6 = 6 from rfl, Int.toNat_natCast, hV.trans hVV]⟩)
      have hl := low_byte a b1 8 0 hbb rfl 6
      have hm0 := mask_L (a * 256) (by omega) 256 63 8 6 (by decide) (by decide) (by decide) V (hl.trans hVV)
      have hm : bits .and .i64 (a : Int) 63 = (V : Int) := by
        have e : ((a * 256 : Nat) : Int) / 256 = (a : Int) := by omega
        rw [← hm0, e]
      clear hV hl hm0 HF HC hf hVV
      go_enter Try.func9, Try.ntmps9
      go_wp2_with fail
      go_quiet (fail)
      go_wp2_with fail
      go_ret2
      exact ⟨HE.out, HD2.out _⟩
    · have hfi : (ι : Int) * 6 % 8 = 4 := by omega
      have hV := HF.out 4 hf
      obtain ⟨V, hVV⟩ : ∃ V, (a * 256 + b1) / 2 ^ 6 % 2 ^ 6 = V := ⟨_, rfl⟩
      have HE : Hid (SymV l 6 ι (.returned (.tuple #[.int .i64 (V : Nat), .bool true]))) := Lib.hid (Or.inl ⟨HOK.out, by
        rw [show Int.toNat 6 = 6 from rfl, Int.toNat_natCast, hV.trans hVV]⟩)
      have cq := HC.out (by omega)
      have hor := or_bytes a b1 ha hbb
      obtain ⟨T, hT⟩ : ∃ T, a * 256 + b1 = T := ⟨_, rfl⟩
      rw [hT] at hor hVV
      have hm := mask_L T (by omega) 64 63 6 6 (by decide) (by decide) (by decide) V hVV
      clear hV hT HF HC hf hVV
      go_enter Try.func9, Try.ntmps9
      go_wp2_with fail
      go_quiet (fail)
      go_wp2_with fail
      go_ret2
      exact ⟨HE.out, HD2.out _⟩
    · have hfi : (ι : Int) * 6 % 8 = 6 := by omega
      have hV := HF.out 6 hf
      obtain ⟨V, hVV⟩ : ∃ V, (a * 256 + b1) / 2 ^ 4 % 2 ^ 6 = V := ⟨_, rfl⟩
      have HE : Hid (SymV l 6 ι (.returned (.tuple #[.int .i64 (V : Nat), .bool true]))) := Lib.hid (Or.inl ⟨HOK.out, by
        rw [show Int.toNat 6 = 6 from rfl, Int.toNat_natCast, hV.trans hVV]⟩)
      have cq := HC.out (by omega)
      have hor := or_bytes a b1 ha hbb
      obtain ⟨T, hT⟩ : ∃ T, a * 256 + b1 = T := ⟨_, rfl⟩
      rw [hT] at hor hVV
      have hm := mask_L T (by omega) 16 63 4 6 (by decide) (by decide) (by decide) V hVV
      clear hV hT HF HC hf hVV
      go_enter Try.func9, Try.ntmps9
      go_wp2_with fail
      go_quiet (fail)
      go_wp2_with fail
      go_ret2
      exact ⟨HE.out, HD2.out _⟩
  · have hb1 : (8 : Int) * n < ((ι : Int) + 1) * 6 := by omega
    have HE := Lib.hid (SymE.no (l := l) (k := 6) (i := ι) w fun x => by
      obtain ⟨_, _, _, x4 | x4⟩ := x
      · omega
      · rw [hlen] at x4; omega)
    clear h hg
    go_enter Try.func9, Try.ntmps9
    go_wp2_with fail
    go_ret2
    exact HE.out
set_option maxHeartbeats 3200000 in
theorem symbol_7 (F : Nat → Prop) (w : World) (A : Option Addr) (n cap : Nat) (l : List Int) (h : BAt8 F w A n cap l) (hn : n ≤ 1000000) (ι : Nat) :
    Calls Try.prog 9 #[.slice A n cap, .int .i64 7, .int .i64 (ι : Nat)] w (SymE l 7 ι w) := by
  have hlen := h.len
  by_cases hg : (ι + 1) * 7 ≤ 8 * n
  · have hgI : ((ι : Int) + 1) * 7 ≤ 8 * (n : Int) := by omega
    obtain ⟨p, hp⟩ : ∃ p, ι * 7 / 8 = p := ⟨_, rfl⟩
    have hpn : p < n := by omega
    obtain ⟨b, o, rfl, _, hbl, hc⟩ := h.lies (by omega)
    have cp := hc p hpn
    have hb8 := h.bd
    rw [gN_int hb8] at cp
    have ha := gN_lt hb8 p
    have hbb := gN_lt hb8 (p + 1)
    obtain ⟨a, haa⟩ : ∃ a, gN l p = a := ⟨_, rfl⟩
    obtain ⟨b1, hb1⟩ : ∃ b1, gN l (p + 1) = b1 := ⟨_, rfl⟩
    have HC := Lib.hid (fun hp1 : p + 1 < n => (hc (p + 1) hp1).trans (by rw [gN_int hb8, hb1]))
    rw [haa] at cp ha
    rw [hb1] at hbb
    have hfit := h.fit
    have hmax := h.max
    unfold maxLen at hmax
    have HOK : Hid (symOk l 7 ι) := Lib.hid ⟨by omega, by omega, by omega, Or.inr (by rw [hlen]; omega)⟩
    have HD := Lib.hid (drew0 w)
    have HD2 := Lib.hid (fun m : Nat => (⟨m, rfl⟩ : ∃ n, w.drewN m = w.drewN n))
    have hpi : (ι : Int) * 7 / 8 = (p : Int) := by omega
    have HT : Hid (symT l p = a * 256 + b1) := Lib.hid (by unfold symT; rw [haa, hb1])
    have HF : Hid (∀ f, ι * 7 % 8 = f → symF l 7 ι = (a * 256 + b1) / 2 ^ (16 - f - 7) % 2 ^ 7) := Lib.hid (fun f hf => by unfold symF; rw [hp, hf, HT.out])
    have hfc : ι * 7 % 8 = 0 ∨ ι * 7 % 8 = 1 ∨ ι * 7 % 8 = 2 ∨ ι * 7 % 8 = 3 ∨ ι * 7 % 8 = 4 ∨ ι * 7 % 8 = 5 ∨ ι * 7 % 8 = 6 ∨ ι * 7 % 8 = 7 := by omega
    clear h hc haa hb1 hb8 hbl HT
    rcases hfc with hf | hf | hf | hf | hf | hf | hf | hf
    · have hfi : (ι : Int) * 7 % 8 = 0 := by omega
      have hV := HF.out 0 hf
      obtain ⟨V, hVV⟩ : ∃ V, (a * 256 + b1) / 2 ^ 9 % 2 ^ 7 = V := ⟨_, rfl⟩
      have HE : Hid (SymV l 7 ι (.returned (.tuple #[.int .i64 (V : Nat), .bool true]))) := Lib.hid (Or.inl ⟨HOK.out, by
        rw [show Int.toNat 7 = 7 from rfl, Int.toNat_natCast, hV.trans hVV]⟩)
      have hl := low_byte a b1 9 1 hbb rfl 7
      have hm0 := mask_L (a * 256) (by omega) 512 127 9 7 (by decide) (by decide) (by decide) V (hl.trans hVV)
      have hm : bits .and .i64 ((a : Int) * 256 / 512) 127 = (V : Int) := by rw [← hm0]; simp
      clear hV hl hm0 HF HC hf hVV
      go_enter Try.func9, Try.ntmps9
      go_wp2_with fail
      go_quiet (fail)
      go_wp2_with fail
      go_ret2
      exact ⟨HE.out, HD2.out _⟩
    · have hfi : (ι : Int) * 7 % 8 = 1 := by omega
      have hV := HF.out 1 hf
      obtain ⟨V, hVV⟩ : ∃ V, (a * 256 + b1) / 2 ^ 8 % 2 ^ 7 = V := ⟨_, rfl⟩
      have HE : Hid (SymV l 7 ι (.returned (.tuple #[.int .i64 (V : Nat), .bool true]))) := Lib.hid (Or.inl ⟨HOK.out, by
        rw [show Int.toNat 7 = 7 from rfl, Int.toNat_natCast, hV.trans hVV]⟩)
      have hl := low_byte a b1 8 0 hbb rfl 7
      have hm0 := mask_L (a * 256) (by omega) 256 127 8 7 (by decide) (by decide) (by decide) V (hl.trans hVV)
      have hm : bits .and .i64 (a : Int) 127 = (V : Int) := by
        have e : ((a * 256 : Nat) : Int) / 256 = (a : Int) := by omega
        rw [← hm0, e]
      clear hV hl hm0 HF HC hf hVV
      go_enter Try.func9, Try.ntmps9
      go_wp2_with fail
      go_quiet (fail)
      go_wp2_with fail
      go_ret2
      exact ⟨HE.out, HD2.out _⟩
    · have hfi : (ι : Int) * 7 % 8 = 2 := by omega
      have hV := HF.out 2 hf
      obtain ⟨V, hVV⟩ : ∃ V, (a * 256 + b1) / 2 ^ 7 % 2 ^ 7 = V := ⟨_, rfl⟩
      have HE : Hid (SymV l 7 ι (.returned (.tuple #[.int .i64 (V : Nat), .bool true]))) := Lib.hid (Or.inl ⟨HOK.out, by
        rw [show Int.toNat 7 = 7 from rfl, Int.toNat_natCast, hV.trans hVV]⟩)
      have cq := HC.out (by omega)
      have hor := or_bytes a b1 ha hbb
      obtain ⟨T, hT⟩ : ∃ T, a * 256 + b1 = T := ⟨_, rfl⟩
      rw [hT] at hor hVV
      have hm := mask_L T (by omega) 128 127 7 7 (by decide) (by decide) (by decide) V hVV
      clear hV hT HF HC hf hVV
      go_enter Try.func9, Try.ntmps9
      go_wp2_with fail
      go_quiet (fail)
      go_wp2_with fail
      go_ret2
      exact ⟨HE.out, HD2.out _⟩
    · have hfi : (ι : Int) * 7 % 8 = 3 := by omega
      have hV := HF.out 3 hf
      obtain ⟨V, hVV⟩ : ∃ V, (a * 256 + b1) / 2 ^ 6 % 2 ^ 7 = V := ⟨_, rfl⟩
      have HE : Hid (SymV l 7 ι (.returned (.tuple #[.int .i64 (V : Nat), .bool true]))) := Lib.hid (Or.inl ⟨HOK.out, by
        rw [show Int.toNat 7 = 7 from rfl, Int.toNat_natCast, hV.trans hVV]⟩)
      have cq := HC.out (by omega)
      have hor := or_bytes a b1 ha hbb
      obtain ⟨T, hT⟩ : ∃ T, a * 256 + b1 = T := ⟨_, rfl⟩
      rw [hT] at hor hVV
      have hm := mask_L T (by omega) 64 127 6 7 (by decide) (by decide) (by decide) V hVV
      clear hV hT HF HC hf hVV
      go_enter Try.func9, Try.ntmps9
      go_wp2_with fail
      go_quiet (fail)
      go_wp2_with fail
      go_ret2
      exact ⟨HE.out, HD2.out _⟩
    · have hfi : (ι : Int) * 7 % 8 = 4 := by omega
      have hV := HF.out 4 hf
      obtain ⟨V, hVV⟩ : ∃ V, (a * 256 + b1) / 2 ^ 5 % 2 ^ 7 = V := ⟨_, rfl⟩
      have HE : Hid (SymV l 7 ι (.returned (.tuple #[.int .i64 (V : Nat), .bool true]))) := Lib.hid (Or.inl ⟨HOK.out, by
        rw [show Int.toNat 7 = 7 from rfl, Int.toNat_natCast, hV.trans hVV]⟩)
      have cq := HC.out (by omega)
      have hor := or_bytes a b1 ha hbb
      obtain ⟨T, hT⟩ : ∃ T, a * 256 + b1 = T := ⟨_, rfl⟩
      rw [hT] at hor hVV
      have hm := mask_L T (by omega) 32 127 5 7 (by decide) (by decide) (by decide) V hVV
      clear hV hT HF HC hf hVV
      go_enter Try.func9, Try.ntmps9
      go_wp2_with fail
      go_quiet (fail)
      go_wp2_with fail
      go_ret2
      exact ⟨HE.out, HD2.out _⟩
    · have hfi : (ι : Int) * 7 % 8 = 5 := by omega
      have hV := HF.out 5 hf
      obtain ⟨V, hVV⟩ : ∃ V, (a * 256 + b1) / 2 ^ 4 % 2 ^ 7 = V := ⟨_, rfl⟩
      have HE : Hid (SymV l 7 ι (.returned (.tuple #[.int .i64 (V : Nat), .bool true]))) := Lib.hid (Or.inl ⟨HOK.out, by
        rw [show Int.toNat 7 = 7 from rfl, Int.toNat_natCast, hV.trans hVV]⟩)
      have cq := HC.out (by omega)
      have hor := or_bytes a b1 ha hbb
      obtain ⟨T, hT⟩ : ∃ T, a * 256 + b1 = T := ⟨_, rfl⟩
      rw [hT] at hor hVV
      have hm := mask_L T (by omega) 16 127 4 7 (by decide) (by decide) (by decide) V hVV
      clear hV hT HF HC hf hVV
      go_enter Try.func9, Try.ntmps9
      go_wp2_with fail
      go_quiet (fail)
      go_wp2_with fail
      go_ret2
      exact ⟨HE.out, HD2.out _⟩
    · have hfi : (ι : Int) * 7 % 8 = 6 := by omega
      have hV := HF.out 6 hf
      obtain ⟨V, hVV⟩ : ∃ V, (a * 256 + b1) / 2 ^ 3 % 2 ^ 7 = V := ⟨_, rfl⟩
      have HE : Hid (SymV l 7 ι (.returned (.tuple #[.int .i64 (V : Nat), .bool true]))) := Lib.hid (Or.inl ⟨HOK.out, by
        rw [show Int.toNat 7 = 7 from rfl, Int.toNat_natCast, hV.trans hVV]⟩)
      have cq := HC.out (by omega)
      have hor := or_bytes a b1 ha hbb
      obtain ⟨T, hT⟩ : ∃ T, a * 256 + b1 = T := ⟨_, rfl⟩
      rw [hT] at hor hVV
      have hm := mask_L T (by omega) 8 127 3 7 (by decide) (by decide) (by decide) V hVV
      clear hV hT HF HC hf hVV
      go_enter Try.func9, Try.ntmps9
      go_wp2_with fail
      go_quiet (fail)
      go_wp2_with fail
      go_ret2
      exact ⟨HE.out, HD2.out _⟩
    · have hfi : (ι : Int) * 7 % 8 = 7 := by omega
      have hV := HF.out 7 hf
      obtain ⟨V, hVV⟩ : ∃ V, (a * 256 + b1) / 2 ^ 2 % 2 ^ 7 = V := ⟨_, rfl⟩
      have HE : Hid (SymV l 7 ι (.returned (.tuple #[.int .i64 (V : Nat), .bool true]))) := Lib.hid (Or.inl ⟨HOK.out, by
        rw [show Int.toNat 7 = 7 from rfl, Int.toNat_natCast, hV.trans hVV]⟩)
      have cq := HC.out (by omega)
      have hor := or_bytes a b1 ha hbb
      obtain ⟨T, hT⟩ : ∃ T, a * 256 + b1 = T := ⟨_, rfl⟩
      rw [hT] at hor hVV
      have hm := mask_L T (by omega) 4 127 2 7 (by decide) (by decide) (by decide) V hVV
      clear hV hT HF HC hf hVV
      go_enter Try.func9, Try.ntmps9
      go_wp2_with fail
      go_quiet (fail)
      go_wp2_with fail
      go_ret2
      exact ⟨HE.out, HD2.out _⟩
  · have hb1 : (8 : Int) * n < ((ι : Int) + 1) * 7 := by omega
    have HE := Lib.hid (SymE.no (l := l) (k := 7) (i := ι) w fun x => by
      obtain ⟨_, _, _, x4 | x4⟩ := x
      · omega
      · rw [hlen] at x4; omega)
    clear h hg
    go_enter Try.func9, Try.ntmps9
    go_wp2_with fail
    go_ret2
    exact HE.out
set_option maxHeartbeats 3200000 in
theorem symbol_8 (F : Nat → Prop) (w : World) (A : Option Addr) (n cap : Nat) (l : List Int) (h : BAt8 F w A n cap l) (hn : n ≤ 1000000) (ι : Nat) :
    Calls Try.prog 9 #[.slice A n cap, .int .i64 8, .int .i64 (ι : Nat)] w (SymE l 8 ι w) := by
  have hlen := h.len
  by_cases hg : (ι + 1) * 8 ≤ 8 * n
  · have hgI : ((ι : Int) + 1) * 8 ≤ 8 * (n : Int) := by omega
    obtain ⟨p, hp⟩ : ∃ p, ι * 8 / 8 = p := ⟨_, rfl⟩
    have hpn : p < n := by omega
    obtain ⟨b, o, rfl, _, hbl, hc⟩ := h.lies (by omega)
    have cp := hc p hpn
    have hb8 := h.bd
    rw [gN_int hb8] at cp
    have ha := gN_lt hb8 p
    have hbb := gN_lt hb8 (p + 1)
    obtain ⟨a, haa⟩ : ∃ a, gN l p = a := ⟨_, rfl⟩
    obtain ⟨b1, hb1⟩ : ∃ b1, gN l (p + 1) = b1 := ⟨_, rfl⟩
    have HC := Lib.hid (fun hp1 : p + 1 < n => (hc (p + 1) hp1).trans (by rw [gN_int hb8, hb1]))
    rw [haa] at cp ha
    rw [hb1] at hbb
    have hfit := h.fit
    have hmax := h.max
    unfold maxLen at hmax
    have HOK : Hid (symOk l 8 ι) := Lib.hid ⟨by omega, by omega, by omega, Or.inr (by rw [hlen]; omega)⟩
    have HD := Lib.hid (drew0 w)
    have HD2 := Lib.hid (fun m : Nat => (⟨m, rfl⟩ : ∃ n, w.drewN m = w.drewN n))
    obtain rfl : ι = p := by omega
    have HT : Hid (symT l ι = a * 256 + b1) := Lib.hid (by unfold symT; rw [haa, hb1])
    have HF : Hid (∀ f, ι * 8 % 8 = f → symF l 8 ι = (a * 256 + b1) / 2 ^ (16 - f - 8) % 2 ^ 8) := Lib.hid (fun f hf => by unfold symF; rw [hp, hf, HT.out])
    have hf : ι * 8 % 8 = 0 := by omega
    clear h hc haa hb1 hb8 hbl HT
    · have hV := HF.out 0 hf
      obtain ⟨V, hVV⟩ : ∃ V, (a * 256 + b1) / 2 ^ 8 % 2 ^ 8 = V := ⟨_, rfl⟩
      have HE : Hid (SymV l 8 ι (.returned (.tuple #[.int .i64 (V : Nat), .bool true]))) := Lib.hid (Or.inl ⟨HOK.out, by
        rw [show Int.toNat 8 = 8 from rfl, Int.toNat_natCast, hV.trans hVV]⟩)
      have hl := low_byte a b1 8 0 hbb rfl 8
      have hm0 := mask_L (a * 256) (by omega) 256 255 8 8 (by decide) (by decide) (by decide) V (hl.trans hVV)
      have hm : bits .and .i64 (a : Int) 255 = (V : Int) := by
        have e : ((a * 256 : Nat) : Int) / 256 = (a : Int) := by omega
        rw [← hm0, e]
      clear hV hl hm0 HF HC hf hVV
      go_enter Try.func9, Try.ntmps9
      go_wp2_with fail
      go_quiet (fail)
      go_wp2_with fail
      go_ret2
      exact ⟨HE.out, HD2.out _⟩
  · have hb1 : (8 : Int) * n < ((ι : Int) + 1) * 8 := by omega
    have HE := Lib.hid (SymE.no (l := l) (k := 8) (i := ι) w fun x => by
      obtain ⟨_, _, _, x4 | x4⟩ := x
      · omega
      · rw [hlen] at x4; omega)
    clear h hg
    go_enter Try.func9, Try.ntmps9
    go_wp2_with fail
    go_ret2
    exact HE.out

end Go.Proofs.Ythlaglhlmbkniaa
