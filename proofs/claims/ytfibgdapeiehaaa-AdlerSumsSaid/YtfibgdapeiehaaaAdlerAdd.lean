/- adler's Add, Value and Of: their contracts. -/
import Derived.Test.YtfibgdapeiehaaaAdlerWalk
import Derived.Test.YtfibgdapeiehaaaBytesCut
import Derived.Lib.SlBytesConst
namespace Go.Proofs.Ytfibgdapeiehaaa
open Go.RowKit

/-- All bytes of the first k parts. -/
def catN (L : List (List Int)) (k : Nat) : List Int := (L.take k).flatten
theorem catN_next (L : List (List Int)) (k : Nat) (h : k < L.length) : catN L (k + 1) = catN L k ++ L.getD k [] := by
  unfold catN
  rw [List.take_add_one, List.flatten_append, List.getD_eq_getElem?_getD, List.getElem?_eq_getElem h]
  simp
theorem catN_all (L : List (List Int)) : catN L L.length = L.flatten := by unfold catN; rw [List.take_length]
/-- A row of parts, none of them in block g. -/
structure Parts (F : Nat → Prop) (w : World) (A : Option Addr) (n cap : Nat) (L : List (List Int)) : Prop where
  len : L.length = n
  fit : n ≤ cap
  max : cap ≤ maxLen
  lies : ∀ j, j < n → ∃ b o Aj nj cj, A = some ⟨b, o, none⟩ ∧ F b ∧ b < w.heap.size ∧ w.cell? ⟨b, o + j, none⟩ = some (.slice Aj nj cj) ∧ BAt8 F w Aj nj cj (L.getD j [])
theorem Parts.keep {F : Nat → Prop} {w w' : World} {A : Option Addr} {n cap : Nat} {L : List (List Int)} (h : Parts F w A n cap L) (hs : w.heap.size ≤ w'.heap.size) (hb : ∀ k, k < w.heap.size → F k → w'.heap[k]? = w.heap[k]?) : Parts F w' A n cap L :=
  ⟨h.len, h.fit, h.max, fun j hj => by
    obtain ⟨b, o, Aj, nj, cj, h1, h2, h3, h4, h5⟩ := h.lies j hj
    exact ⟨b, o, Aj, nj, cj, h1, h2, Nat.lt_of_lt_of_le h3 hs, (World.cell?_of_block (a := ⟨b, o + j, none⟩) (hb b h3 h2)).trans h4, h5.keep hs hb⟩⟩
theorem Parts.ch {F G : Nat → Prop} {w w' : World} {A : Option Addr} {n cap : Nat} {L : List (List Int)} (h : Parts F w A n cap L) (hb : Ch G w w') (hF : ∀ k, F k → ¬ G k) : Parts F w' A n cap L := h.keep hb.size fun k hk hf => hb.block k hk (hF k hf)
theorem Parts.below {F : Nat → Prop} {w w' : World} {A : Option Addr} {n cap : Nat} {L : List (List Int)} (h : Parts F w A n cap L) (hb : Below w.heap.size w w') : Parts F w' A n cap L := h.keep hb.size fun k hk _ => hb.block k hk
theorem Parts.weak {F G : Nat → Prop} {w : World} {A : Option Addr} {n cap : Nat} {L : List (List Int)} (h : Parts F w A n cap L) (hF : ∀ k, k < w.heap.size → F k → G k) : Parts G w A n cap L :=
  ⟨h.len, h.fit, h.max, fun j hj => by
    obtain ⟨b, o, Aj, nj, cj, h1, h2, h3, h4, h5⟩ := h.lies j hj
    exact ⟨b, o, Aj, nj, cj, h1, hF b h3 h2, h3, h4, h5.weak hF⟩⟩
/-- Parts of a row that was just made: one. -/
theorem Parts.one {F : Nat → Prop} {w : World} {A : Option Addr} {n cap : Nat} {l : List Int} (h : BAt8 F w A n cap l) (ty : TypeId) (hF : F w.heap.size) : Parts F (w.alloc (.cells #[.slice A n cap] ty)) (some ⟨w.heap.size, 0, none⟩) 1 1 [l] :=
  ⟨rfl, Nat.le_refl _, by unfold maxLen; omega, fun j hj => by
    obtain rfl : j = 0 := by omega
    exact ⟨_, _, A, n, cap, rfl, hF, by simp, by simp, h.below (bnew w _)⟩⟩
theorem Parts.empty (F : Nat → Prop) (w : World) : Parts F w none 0 0 [] := ⟨rfl, Nat.le_refl _, Nat.zero_le _, fun j hj => absurd hj (by omega)⟩
def lenV : Value → Nat
  | .slice _ n _ => n
  | _ => 0
/-- How the sum stands within a part. -/
structure InPart (F : Nat → Prop) (w wr : World) (g : Nat) (T : Int × Int) (A : Option Addr) (n cap : Nat) (r : List Int) (q : Int × Int) : Prop where
  b : BAt8 F wr A n cap r
  s : SumAt wr g q
  t : adF q r = T
  c : Ch (fun k => k = g) w wr
theorem ne_g {g : Nat} : ∀ k, k ≠ g → ¬ k = g := fun _ h => h
set_option maxHeartbeats 1600000 in
theorem addS_any (g : Nat) (A : Option Addr) (n cap : Nat) (L : List (List Int)) (p : Int × Int) (w : World) (h : SumAt w g p) (hl : Parts (fun k => k ≠ g) w A n cap L) :
    Calls Try.prog 9 #[.pointer (some ⟨g, 0, none⟩), .slice A n cap] w (Added w g (adF p L.flatten)) := by
  have HT := Lib.hid (catN_all L)
  have HL := Lib.hid hl
  have H0 := Lib.hid h
  have hm := hl.max
  have hf := hl.fit
  clear h hl
  unfold maxLen at hm
  go_enter Try.func9, Try.ntmps9
  go_wp2_with fail
  go_loopw [10] (fun i wr => ∃ k : Nat, i = .int .i64 k ∧ k ≤ n ∧ Hid (SumAt wr g (adF p (catN L k))) ∧ Hid (Ch (fun k => k = g) w wr)) (fun i _ => n - (intOf i).toNat)
  case atStart => exact ⟨0, rfl, by omega, H0, Lib.hid (Ch.refl _ _)⟩
  case round =>
    obtain ⟨k, rfl, hk, HS, HC⟩ := hrel
    by_cases hlt : k < n
    · obtain ⟨b, o, Aj, nj, cj, rfl, hb, hbl, hc, hB⟩ := (HL.out.ch HC.out ne_g).lies k hlt
      have HN := Lib.hid (catN_next L k (by rw [HL.out.len]; exact hlt))
      have HB := Lib.hid hB
      clear hB
      obtain ⟨wo, rfl⟩ : ∃ wo : World, wo = wr := ⟨_, rfl⟩
      obtain ⟨T, hT⟩ : ∃ T, adF p (catN L (k + 1)) = T := ⟨_, rfl⟩
      have HT2 := Lib.hid hT
      have HT3 := Lib.hid (show adF (adF p (catN L k)) (L.getD k []) = T by rw [← hT, HN.out, adF_app])
      clear hT
      go_wp2_with fail
      go_loopw [5] (fun x wr => ∃ A' n' c' r q, x = .slice A' n' c' ∧ Hid (InPart (fun k => k ≠ g) w wr g T A' n' c' r q)) (fun x _ => lenV x)
      case atStart => exact ⟨_, _, _, _, _, rfl, Lib.hid ⟨HB.out, HS.out, HT3.out, HC.out⟩⟩
      case round =>
        obtain ⟨A', n', c', r, q, rfl, HI⟩ := hrel
        by_cases hbig : 4096 < n'
        · obtain ⟨M, hM⟩ : ∃ M : Nat, (4096 : Int) = M := ⟨4096, rfl⟩
          obtain ⟨A1, c1, k1, B1⟩ := cut_h HI.out.b 4096 M hM (by omega)
          obtain ⟨A2, c2, k2, B2⟩ := cut_l HI.out.b 4096 M hM (by omega)
          have HP := Lib.hid (addPiece_any g A1 M c1 (r.take M) q wr HI.out.s B1 (by omega))
          have HM := Lib.hid hM
          clear hM
          have H2 := Lib.hid B2
          clear B1 B2
          go_wp2_with fail
          refine HP.out.mono ?_
          rintro e w1 ⟨rfl, hs1, hc1⟩
          have HI2 : Hid (InPart (fun k => k ≠ g) w w1 g T A2 (n' - M) c2 (r.drop M) (adF q (r.take M))) := Lib.hid ⟨H2.out.ch hc1 ne_g, hs1, by rw [← adF_app, List.take_append_drop]; exact HI.out.t, HI.out.c.then hc1⟩
          clear hs1 hc1
          go_wp2_with fail
          go_roundw
          case rel => exact ⟨_, _, _, _, _, rfl, HI2⟩
          case measure => have := HM.out; simp [lenV]; omega
        · have HP := Lib.hid (addPiece_any g A' n' c' r q wr HI.out.s HI.out.b (by omega))
          go_wp2_with fail
          refine HP.out.mono ?_
          rintro e w1 ⟨rfl, hs1, hc1⟩
          have HR1 : Hid (SumAt w1 g (adF p (catN L (k + 1)))) := by rw [HT2.out, ← HI.out.t]; exact hs1
          have HR2 := Lib.hid (HI.out.c.then hc1)
          clear hs1 hc1
          go_wp2_with fail
          go_roundw
          case rel => exact ⟨k + 1, by go_num, by omega, HR1, HR2⟩
          case measure => simp [intOf]; omega
    · have hkn : k = n := by omega
      have HE : Hid (SumAt wr g (adF p L.flatten)) := by
        have := HS.out
        rw [hkn, ← HL.out.len, HT.out] at this
        exact this
      clear hkn
      go_wp2_with fail
      go_end0
      exact ⟨rfl, HE.out, HC.out⟩
theorem addS_nil (A : Option Addr) (n cap : Nat) (w : World) :
    Calls Try.prog 9 #[.pointer none, .slice A n cap] w fun e w' => e = .returned (.tuple #[]) ∧ w = w' := by
  go_enter Try.func9, Try.ntmps9
  go_wp2_with fail
  go_wp2_with fail
  refine bodyPost_ret (results_none rfl _ _ _) rfl ?_
  exact ⟨rfl, rfl⟩
theorem wrap32u (n : Int) : IntKind.u32.wrap n = n % 4294967296 := by simp [IntKind.wrap, IntKind.bits, IntKind.signed]
theorem ret_u32 {a b : Int} (h : a = b) : Ending.returned (.int .u32 a) = .returned (.int .u32 b) := by rw [h]
theorem value_some (g : Nat) (p : Int × Int) (w : World) (h : SumAt w g p) :
    Calls Try.prog 10 #[.pointer (some ⟨g, 0, none⟩)] w fun e w' => e = .returned (.int .u32 (adV p)) ∧ ∃ n, w' = w.drewN n := by
  obtain ⟨a, s, hr, hi⟩ := h
  have c0 := hr.c0
  have c1 := hr.c1
  obtain ⟨h1, h2, h3, h4, h5, h6⟩ := hi
  have HV := Lib.hid (show bits .or .u32 (s * 65536) ((a + 1) % 65521) = adV p by
    rw [bits_join .u32 32 (by decide) (fun n h0 h1 => by rw [wrap32u]; omega) 16 (s * 65536) _ (by omega) (by omega) (by omega) (by omega) (by omega) (by omega), h5, h6]
    unfold adV
    omega)
  clear hr h5 h6
  go_enter Try.func10, Try.ntmps10
  go_wp2_with fail
  go_quiet (fail)
  go_wp2_with fail
  go_ret
  exact ⟨ret_u32 HV.out, _, rfl⟩
def SumNo (w : World) (e : Ending) (w' : World) : Prop := e = .returned (.int .u32 1) ∧ Below w.heap.size w w'
theorem value_nil (w : World) : Calls Try.prog 10 #[.pointer none] w (SumNo w) := by
  have H := Lib.hid (value_some w.heap.size (1, 0) (w.alloc (.cells #[.int .u32 0, .int .u32 0] 30)) (SumAt.new w))
  go_enter Try.func10, Try.ntmps10
  go_wp2_with fail
  refine H.out.mono ?_
  rintro e w1 ⟨rfl, n, rfl⟩
  go_wp2_with fail
  go_ret
  exact ⟨rfl, bdrawn (bnew w _) n⟩
theorem addOf_any (A : Option Addr) (n cap : Nat) (L : List (List Int)) (w : World) (hl : Parts (fun _ => True) w A n cap L) :
    Calls Try.prog 7 #[.slice A n cap] w fun e w' => e = .returned (.int .u32 (adV (adF (1, 0) L.flatten))) ∧ Below w.heap.size w w' := by
  have hP : Parts (fun k => k ≠ w.heap.size) (w.alloc (.cells #[.int .u32 0, .int .u32 0] 30)) A n cap L := (hl.weak (G := fun k => k ≠ w.heap.size) fun k hk _ => by omega).below (bnew w _)
  have H1 := Lib.hid (addS_any w.heap.size A n cap L (1, 0) (w.alloc (.cells #[.int .u32 0, .int .u32 0] 30)) (SumAt.new w) hP)
  clear hl hP
  go_enter Try.func7, Try.ntmps7
  go_wp2_with fail
  refine H1.out.mono ?_
  rintro e w1 ⟨rfl, hs, hc⟩
  have hb1 : Below w.heap.size w w1 := (bnew w _).trans (hc.below (fun k hk => by omega) (by simp))
  have H2 := Lib.hid (value_some w.heap.size (adF (1, 0) L.flatten) w1 hs)
  have HV := Lib.hid (rfl : adV (adF (1, 0) L.flatten) = adV (adF (1, 0) L.flatten))
  clear hs hc H1
  go_wp2_with fail
  refine H2.out.mono ?_
  rintro e w2 ⟨rfl, m, rfl⟩
  go_wp2_with fail
  go_ret
  exact ⟨rfl, bdrawn hb1 m⟩
/-- One part. -/
theorem of1_any (F : Nat → Prop) (A : Option Addr) (n cap : Nat) (l : List Int) (V : Int) (w : World) (g : Nat) (hg : g = w.heap.size) (hl : BAt8 F w A n cap l) (hV : adV (adF (1, 0) l) = V) :
    Calls Try.prog 7 #[.slice (some ⟨g, 0, none⟩) 1 1] (w.alloc (.cells #[.slice A n cap] 22)) fun e w' => e = .returned (.int .u32 V) ∧ Below w.heap.size w w' := by
  subst hg
  refine (addOf_any _ _ _ [l] _ (Parts.one (hl.weak fun _ _ _ => trivial) _ trivial)).mono ?_
  rintro e w' ⟨rfl, hb⟩
  exact ⟨by rw [← hV]; simp, (bnew w _).trans (hb.mono (by simp))⟩
set_option maxHeartbeats 1600000 in
theorem refOf13_any (F : Nat → Prop) (A : Option Addr) (n cap : Nat) (l : List Int) (V : Int) (w : World) (hl : BAt8 F w A n cap l) (hV : adV (adF (1, 0) l) = V) :
    Calls Try.prog 8 #[.slice A n cap] w fun e w' => e = .returned (.int .u32 V) ∧ w = w' := by
  have HL := Lib.hid hl
  have HV := Lib.hid hV
  have hm := hl.max
  have hf := hl.fit
  unfold maxLen at hm
  clear hl hV
  go_enter Try.func8, Try.ntmps8
  go_wp2_with fail
  go_loop [3, 4, 5] (fun x y i => ∃ (k : Nat) (p : Int × Int), i = .int .i64 k ∧ k ≤ n ∧ x = .int .i64 p.1 ∧ y = .int .i64 p.2 ∧ Hid (p = adF (1, 0) (l.take k))) (fun _ _ i => n - (intOf i).toNat)
  case atStart => exact ⟨0, (1, 0), rfl, by omega, rfl, rfl, by rw [List.take_zero]; rfl⟩
  case round =>
    obtain ⟨k, ⟨u, v⟩, rfl, hk, rfl, rfl, HK⟩ := hrel
    have hok : AdOk (u, v) := by rw [HK.out]; exact adF_ok ad_start _
    obtain ⟨h1, h2, h3, h4⟩ := hok
    dsimp only at h1 h2 h3 h4
    by_cases hlt : k < n
    · obtain ⟨b, o, rfl, hb, hbl, hc⟩ := HL.out.lies (by omega)
      have c := hc k hlt
      have hbd := HL.out.bd k
      have HN : Hid (adP (u, v) (gI l k) = adF (1, 0) (l.take (k + 1))) := by
        have := take_gI l k (by rw [HL.out.len]; exact hlt)
        rw [this, adF_snoc, ← HK.out]
        exact rfl
      generalize gI l k = x at *
      clear HK hc
      go_wp2_with fail
      go_round
      case rel => exact ⟨k + 1, _, by go_num, by omega, rfl, rfl, HN⟩
      case measure => simp [intOf]; omega
    · have HE : Hid (65536 * v + u = V) := by
        have := HK.out
        rw [show k = l.length by rw [HL.out.len]; omega, List.take_length] at this
        rw [← HV.out, ← this]
        rfl
      clear HK
      go_wp2_with fail
      go_ret
      exact ⟨ret_u32 HE.out, rfl⟩
theorem lives13 (w : World) : Calls Try.prog 6 #[] w fun e w' => e = .returned (.bool true) ∧ Below w.heap.size w w' := by
  have kc := fun (w : World) (C : Array Value) (n c : Nat) => Lib.run_convert_bytes_const (P := Try.prog) w 22 5 C n c Try.underlying22 Try.underlying5
  have H1 := Lib.hid (fun fr => of1_any _ _ _ _ _ 300286872 _ (w.heap.size + 1) (by simp) (BAt8.new w [87, 105, 107, 105, 112, 101, 100, 105, 97] 5 fr #[.int .u8 87, .int .u8 105, .int .u8 107, .int .u8 105, .int .u8 112, .int .u8 101, .int .u8 100, .int .u8 105, .int .u8 97] 9 rfl rfl (by unfold maxLen; omega) (by decide)) (by decide +kernel))
  go_enter Try.func6, Try.ntmps6
  go_wp2_with fail
  refine (H1.out _).mono ?_
  rintro e w1 ⟨rfl, hb⟩
  go_wp2_with fail
  go_ret
  exact ⟨rfl, (bnew w _).trans (hb.mono (by simp))⟩
end Go.Proofs.Ytfibgdapeiehaaa
