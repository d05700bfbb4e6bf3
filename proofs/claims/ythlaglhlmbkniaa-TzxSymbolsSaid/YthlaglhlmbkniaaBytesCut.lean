/- Bytes sliced, at this program's type of them. -/
import Derived.Test.YthlaglhlmbkniaaBytes
import Derived.Test.YthlaglhlmbkniaaProg
namespace Go.Proofs.Ythlaglhlmbkniaa
open Go.RowKit

theorem infoB8 : (Try.prog.info? 5).map (fun i => (i.zero, i.size, i.bytes)) = some (some (.int .u8 0), 1, 1) := by kernel_rfl
theorem size8 (u : World) : (sizeOf (Try.prog.elem 25)).run Try.prog u = .ok 1 u := by kernel_rfl
theorem elem8 : Try.prog.underlying 25 = some (.slice (Try.prog.elem 25)) := by kernel_rfl
theorem cut_h {F : Nat → Prop} {w : World} {A : Option Addr} {n cap : Nat} {l : List Int} (h : BAt8 F w A n cap l) (hi : Int) (m : Nat) (hm : hi = m) (hle : m ≤ n) :
    ∃ A' c', (∀ u, (Instr.slice 25 (.slice A n cap) none (some (.int .i64 hi)) none).run Try.prog u = .ok (.slice A' m c') u) ∧ BAt8 F w A' m c' (l.take m) := by
  have hk := h.cut 0 m (Nat.zero_le _) hle
  have hf := h.fit
  refine ⟨_, _, fun u => ?_, hk⟩
  rw [run_slice_h u _ A n cap elem8 .i64 hi (by omega) (by omega), size8]
  simp [Result.andThen, sliced, hm]
theorem cut_l {F : Nat → Prop} {w : World} {A : Option Addr} {n cap : Nat} {l : List Int} (h : BAt8 F w A n cap l) (lo : Int) (m : Nat) (hm : lo = m) (hle : m ≤ n) :
    ∃ A' c', (∀ u, (Instr.slice 25 (.slice A n cap) (some (.int .i64 lo)) none none).run Try.prog u = .ok (.slice A' (n - m) c') u) ∧ BAt8 F w A' (n - m) c' (l.drop m) := by
  have hk := h.cut m n hle (Nat.le_refl _)
  have hf := h.fit
  have hl : l.take n = l := by rw [← h.len]; exact List.take_length
  rw [hl] at hk
  refine ⟨_, _, fun u => ?_, hk⟩
  rw [run_slice_l u _ A n cap elem8 .i64 lo (by omega) (by omega), size8]
  simp [Result.andThen, sliced, hm]
theorem cut_lh {F : Nat → Prop} {w : World} {A : Option Addr} {n cap : Nat} {l : List Int} (h : BAt8 F w A n cap l) (lo hi : Int) (m k : Nat) (hm : lo = m) (hk : hi = k) (h1 : m ≤ k) (h2 : k ≤ n) :
    ∃ A' c', (∀ u, (Instr.slice 25 (.slice A n cap) (some (.int .i64 lo)) (some (.int .i64 hi)) none).run Try.prog u = .ok (.slice A' (k - m) c') u) ∧ BAt8 F w A' (k - m) c' ((l.take k).drop m) := by
  have hc := h.cut m k h1 h2
  have hf := h.fit
  refine ⟨_, _, fun u => ?_, hc⟩
  rw [run_slice_lh u _ A n cap elem8 .i64 .i64 lo hi (by omega) (by omega) (by omega), size8]
  simp [Result.andThen, sliced, hm, hk]

end Go.Proofs.Ythlaglhlmbkniaa
