/- flag.Read: its contract at every text. -/
import Derived.Test.YtkafgkfokejonaaFlagShow
namespace Go.Proofs.Ytkafgkfokejonaa
open Go.RowKit

theorem getD_byte (s : ByteArray) (k : Nat) (h : k < s.size) : s.data.toList.getD k 0 = s[k] := by
  have : k < s.data.toList.length := by simpa using h
  rw [List.getD_eq_getElem?_getD, List.getElem?_eq_getElem this]
  simp
  rfl

/-- At byte k of a text: the rune there is that byte, or at least 128, as the byte is. -/
theorem rune_at (s : ByteArray) (k : Nat) (h : k < s.size) :
    ((s.data.toList.getD k 0).toNat < 128 ∧ Utf8.decode s k = ((s.data.toList.getD k 0).toNat, 1)) ∨ (128 ≤ (s.data.toList.getD k 0).toNat ∧ 128 ≤ (Utf8.decode s k).1) := by
  rw [getD_byte s k h]
  by_cases ha : (s[k]'h).toNat < 128
  · exact .inl ⟨ha, decode_ascii s k h ha⟩
  · exact .inr ⟨by omega, (decode_high s k h (by omega)).1⟩

theorem sign_lt (k : Nat) : (signsL.getD k 0).toNat < 128 := by
  rcases Nat.lt_or_ge k 8 with h | h
  · have a : ∀ k : Fin 8, (signsL.getD k.val 0).toNat < 128 := by decide
    exact a ⟨k, h⟩
  · rw [List.getD_eq_getElem?_getD, List.getElem?_eq_none (by simpa [signsL] using h)]; decide

set_option maxHeartbeats 1600000 in
theorem read_any (s : ByteArray) (w : World) (hs : s.size ≤ maxLen) :
    Calls Try.prog 21 #[.string s] w fun e w' => e = .returned (.tuple #[.int .u8 (readV s.data.toList), .int .i64 (readE s.data.toList)]) ∧ Below w.heap.size w w' := by
  unfold maxLen at hs
  have hlen : s.data.toList.length = s.size := by simp
  by_cases h8 : s.size = 8
  · have H8 := Lib.hid h8
    have hne : ((s.size : Int) != 8) = false := by simp [h8]
    have hle : s.size ≤ 8 := by omega
    have hge : 8 ≤ s.size := by omega
    have HV : Hid (readV s.data.toList = if okTo s.data.toList 8 = true then readTo s.data.toList 8 else 0) := by simp [Hid, readV, h8]
    have HE : Hid (readE s.data.toList = if okTo s.data.toList 8 = true then 0 else 4) := by simp [Hid, readE, h8]
    clear h8 hlen
    go_enter Try.func21, Try.ntmps21
    go_wp2_with fail
    go_loopw [4] (fun f wr => ∃ k : Nat, k ≤ 8 ∧ okTo s.data.toList k = true ∧ f = .int .u8 (readTo s.data.toList k) ∧ wr = w.iter s k) (fun _ wr => 8 - wr.iterPos w.heap.size)
    case atStart => exact ⟨0, by omega, rfl, rfl, rfl⟩
    case round =>
      obtain ⟨k, hk, hok, rfl, rfl⟩ := hrel
      have HOK := Lib.hid hok; clear hok
      by_cases hlt : k < 8
      · have hks : k < s.size := by omega
        have hnx := fun ty => run_next_any (P := Try.prog) w s k ty hks
        have hd := rune_at s k hks
        have hsl := sign_lt k
        have hS := sign_at k hlt
        have HSUCC : Hid (readTo s.data.toList (k + 1) = if s.data.toList.getD k 0 = signsL.getD k 0 then bits .or .u8 (readTo s.data.toList k) (128 / 2 ^ k) else readTo s.data.toList k) := rfl
        have HO : Hid (okTo s.data.toList (k + 1) = (okTo s.data.toList k && (s.data.toList.getD k 0 == signsL.getD k 0 || s.data.toList.getD k 0 == 45))) := rfl
        generalize s.data.toList.getD k 0 = c at *
        generalize signsL.getD k 0 = g at *
        by_cases hA : c = g
        · subst hA
          have hdec : Utf8.decode s k = (c.toNat, 1) := hd.elim (fun h => h.2) (fun h => by omega)
          rw [hdec] at hnx
          simp only at hnx
          clear hd hdec
          go_wp2_with fail
          refine (bitAt_any _ _ (by omega) (by omega)).mono ?_
          rintro e w' ⟨rfl, rfl⟩
          go_wp2_with fail
          go_roundw
          case rel => exact ⟨k + 1, by omega, by rw [HO.out, HOK.out]; simp, by rw [HSUCC.out]; simp, rfl⟩
          case measure => simp; omega
        · by_cases hB : c = 45
          · subst hB
            have hdec : Utf8.decode s k = (45, 1) := hd.elim (fun h => h.2) (fun h => absurd h.1 (by decide))
            rw [hdec] at hnx
            simp only at hnx
            have hg : ((45 : Int) == (g.toNat : Int)) = false := by
              rw [beq_eq_false_iff_ne]; intro h; apply hA
              apply UInt8.toNat_inj.1
              show 45 = g.toNat
              omega
            clear hd hdec
            go_wp2_with fail
            go_roundw
            case rel => exact ⟨k + 1, by omega, by rw [HO.out, HOK.out]; simp, by rw [HSUCC.out, if_neg hA], rfl⟩
            case measure => simp; omega
          · have hr : (((Utf8.decode s k).1 : Nat) : Int) ≠ (g.toNat : Int) ∧ (((Utf8.decode s k).1 : Nat) : Int) ≠ 45 := by
              rcases hd with ⟨h1, h2⟩ | ⟨h1, h2⟩
              · rw [h2]
                refine ⟨fun h => hA (UInt8.toNat_inj.1 (by simp at h; omega)), fun h => hB (UInt8.toNat_inj.1 ?_)⟩
                show c.toNat = 45
                simp at h; omega
              · omega
            have hg := beq_eq_false_iff_ne.2 hr.1
            have h45 := beq_eq_false_iff_ne.2 hr.2
            have hbad : okTo s.data.toList 8 = false := okTo_false _ (k + 1) 8 (by omega) (by rw [HO.out]; simp [hA, hB])
            have HBAD := Lib.hid hbad
            generalize Utf8.decode s k = d at *
            clear hd hbad hr
            go_wp2_with fail
            go_ret2
            exact ⟨by rw [HV.out, HE.out, HBAD.out]; rfl, (Below.refl _ _).alloc (Nat.le_refl _) _⟩
      · obtain rfl : k = 8 := by omega
        have hnx := fun ty => run_next_end (P := Try.prog) w s 8 ty (by omega)
        go_wp2_with fail
        go_ret2
        exact ⟨by rw [HV.out, HE.out, HOK.out]; rfl, (Below.refl _ _).alloc (Nat.le_refl _) _⟩
  · have hne : ((s.size : Int) != 8) = true := by simp; omega
    have HV : Hid (readV s.data.toList = 0) := by simp [Hid, readV, h8]
    have HE : Hid (readE s.data.toList = 4) := by simp [Hid, readE, h8]
    clear h8 hlen
    go_enter Try.func21, Try.ntmps21
    go_wp2_with fail
    go_ret2
    exact ⟨by rw [HV.out, HE.out]; rfl, Below.refl _ _⟩

end Go.Proofs.Ytkafgkfokejonaa
