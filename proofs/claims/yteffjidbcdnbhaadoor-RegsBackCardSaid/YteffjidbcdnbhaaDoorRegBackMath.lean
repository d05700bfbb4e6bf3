/- What the law on exchanges and ticks leans on. -/
import Derived.Test.YteffjidbcdnbhaaDoorRegLawBytes
namespace Go.Proofs.YteffjidbcdnbhaaDoor
open Go.RowKit

theorem byte_same (x : Rg) (k i v j : Int) (ok : x.Ok) (hv : B8 v) (h : j ≠ k) : byteV (putV x k i v) j i = byteV x j i := by
  obtain ⟨x0, x1⟩ := ok.ix; obtain ⟨y0, y1⟩ := ok.iy; obtain ⟨v0, v1⟩ := hv
  have e1 : (v * 256 + x.ix % 256) % 256 = x.ix % 256 := by omega
  have e2 : (v * 256 + x.iy % 256) % 256 = x.iy % 256 := by omega
  have e3 : (x.ix / 256 * 256 + v) / 256 = x.ix / 256 := by omega
  have e4 : (x.iy / 256 * 256 + v) / 256 = x.iy / 256 := by omega
  rcases offB_of k with ⟨rfl, _⟩ | ⟨rfl, _⟩ | ⟨rfl, _⟩ | ⟨rfl, _⟩ | rfl | rfl | ⟨rfl, _⟩ | ⟨h0, h1, h2, h3, h4, h5, h7, _⟩
  · simp [byteV, putV, h, hiX, loX]
  · simp [byteV, putV, h, hiX, loX]
  · simp [byteV, putV, h, hiX, loX]
  · simp [byteV, putV, h, hiX, loX]
  · rcases off_of i with ⟨rfl, _⟩ | ⟨rfl, _⟩ | ⟨h1, h2, _⟩
    · simp [byteV, putV, putHi, h, loX, e1]
    · simp [byteV, putV, putHi, h, loX, e2]
    · simp [byteV, putV, putHi, h, loX, h1, h2]
  · rcases off_of i with ⟨rfl, _⟩ | ⟨rfl, _⟩ | ⟨h1, h2, _⟩
    · simp [byteV, putV, putLo, h, hiX, e3]
    · simp [byteV, putV, putLo, h, hiX, e4]
    · simp [byteV, putV, putLo, h, hiX, h1, h2]
  · simp [byteV, putV, h, hiX, loX]
  · simp [byteV, putV, h0, h1, h2, h3, h4, h5, h7]
theorem byte_own (x : Rg) (k i v : Int) (ok : x.Ok) (hv : B8 v) (h0 : 0 ≤ k) (h8 : k < 8) (h6 : k ≠ 6) : byteV (putV x k i v) k i = v := by
  obtain ⟨x0, x1⟩ := ok.ix; obtain ⟨y0, y1⟩ := ok.iy; obtain ⟨v0, v1⟩ := hv
  have e1 : (v * 256 + x.ix % 256) / 256 = v := by omega
  have e2 : (v * 256 + x.iy % 256) / 256 = v := by omega
  have e3 : (x.ix / 256 * 256 + v) % 256 = v := by omega
  have e4 : (x.iy / 256 * 256 + v) % 256 = v := by omega
  rcases offB_of k with ⟨rfl, _⟩ | ⟨rfl, _⟩ | ⟨rfl, _⟩ | ⟨rfl, _⟩ | rfl | rfl | ⟨rfl, _⟩ | ⟨h0, h1, h2, h3, h4, h5, h7, _⟩
  · rfl
  · rfl
  · rfl
  · rfl
  · rcases off_of i with ⟨rfl, _⟩ | ⟨rfl, _⟩ | ⟨h1, h2, _⟩
    · simp [byteV, putV, putHi, hiX, e1]
    · simp [byteV, putV, putHi, hiX, e2]
    · simp [byteV, putV, putHi, hiX, h1, h2]
  · rcases off_of i with ⟨rfl, _⟩ | ⟨rfl, _⟩ | ⟨h1, h2, _⟩
    · simp [byteV, putV, putLo, loX, e3]
    · simp [byteV, putV, putLo, loX, e4]
    · simp [byteV, putV, putLo, loX, h1, h2]
  · rfl
  · omega
def tickN : Nat → Int → Int
  | 0, r => r
  | j + 1, r => tickV (tickN j r)
theorem tickV_bd (r : Int) (h : B8 r) : B8 (tickV r) := by
  obtain ⟨r0, r1⟩ := h
  unfold tickV B8
  split <;> omega
theorem tickN_bd (j : Nat) (r : Int) (h : B8 r) : B8 (tickN j r) := by
  induction j with
  | zero => exact h
  | succ j ih => exact tickV_bd _ ih
theorem tickN_at (r : Int) (j : Nat) (h : B8 r) : tickN j r = if 128 ≤ r then 128 + (r - 128 + j) % 128 else (r + j) % 128 := by
  obtain ⟨r0, r1⟩ := h
  induction j with
  | zero => unfold tickN; split <;> omega
  | succ j ih =>
    rw [tickN, ih]
    unfold tickV
    split <;> split <;> omega
theorem ticks (r : Int) (h : B8 r) : tickN 128 r = r := by
  rw [tickN_at r 128 h]
  obtain ⟨r0, r1⟩ := h
  split <;> omega

/-- What holds while R is counted. -/
def BackS (w0 : World) (R Y A B C : Nat) (x y : Rg) (u : World) : Prop := RegAt u R x ∧ RegAt u Y y ∧ RegAt u A (exAf x) ∧ RegAt u B (exx (exAf x)) ∧ RegAt u C (exDe (exx (exAf x))) ∧ Below w0.heap.size w0 u

/-- A new block with all of the registers' cells: what the walk asks, and what it leaves. -/
theorem made {w : World} : RegAt (w.alloc (.cells #[.int .u8 0, .int .u8 0, .int .u8 0, .int .u8 0, .int .u8 0, .int .u8 0, .int .u8 0, .int .u8 0, .int .u8 0, .int .u8 0, .int .u8 0, .int .u8 0, .int .u8 0, .int .u8 0, .int .u8 0, .int .u8 0, .int .u8 0, .int .u8 0, .int .u8 0, .int .u16 0, .int .u16 0, .int .u16 0, .int .u16 0, .int .u16 0, .bool false, .bool false, .bool false, .bool false, .int .u8 0, .int .u8 0] 24)) w.heap.size Rg.zero ∧ Below w.heap.size w (w.alloc (.cells #[.int .u8 0, .int .u8 0, .int .u8 0, .int .u8 0, .int .u8 0, .int .u8 0, .int .u8 0, .int .u8 0, .int .u8 0, .int .u8 0, .int .u8 0, .int .u8 0, .int .u8 0, .int .u8 0, .int .u8 0, .int .u8 0, .int .u8 0, .int .u8 0, .int .u8 0, .int .u16 0, .int .u16 0, .int .u16 0, .int .u16 0, .int .u16 0, .bool false, .bool false, .bool false, .bool false, .int .u8 0, .int .u8 0] 24)) := by
  have := RegAt.new w Rg.zero 24
  rw [zero_arr] at this
  exact ⟨this, (Below.refl _ _).alloc (Nat.le_refl _) _⟩
theorem filled {w w2 : World} (z : RegAt w2 w.heap.size Rg.zero ∧ Below w.heap.size w w2) (x : Rg) : RegAt (w2.setCells w.heap.size 0 x.cells) w.heap.size x ∧ Below w.heap.size w (w2.setCells w.heap.size 0 x.cells) :=
  ⟨z.1.fill x, z.2.trans ((Wrote.setCells w.heap.size x.cells 0 w2).below (Nat.le_refl _))⟩

/-- R counted m times. -/
def tkR (m : Nat) (x : Rg) : Rg := { x with r := tickN m x.r }
theorem tkR_all (x : Rg) (h : B8 x.r) : tkR 128 x = x := by
  unfold tkR
  rw [ticks x.r h]
theorem tick_step (b m : Nat) (x : Rg) (w : World) (h : RegAt w b (tkR m x)) (hr : B8 x.r) : Calls Tryd.prog 19 #[.pointer (some ⟨b, 0, none⟩)] w (Puts b (tkR (m + 1) x) w) := by
  have hb : B8 (tkR m x).r := tickN_bd m x.r hr
  exact tick_any b (tkR m x) w h hb
theorem ex_all (x : Rg) : exAf (exx (exDe (exDe (exx (exAf x))))) = tkR 0 x := by cases x; rfl

end Go.Proofs.YteffjidbcdnbhaaDoor
