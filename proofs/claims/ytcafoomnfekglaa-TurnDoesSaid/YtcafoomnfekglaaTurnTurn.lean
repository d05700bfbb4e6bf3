/- The document's Turn: its contract. -/
import Derived.Test.YtcafoomnfekglaaTurnRef
namespace Go.Proofs.Ytcafoomnfekglaa
open Go.RowKit

theorem bytes_up (b : Int) (i : Bool) : byteOf ((bitsTo b 8).drop 1 ++ [i]) = upR b i := rfl
theorem bytes_down (b : Int) (i : Bool) : byteOf ([i] ++ (bitsTo b 8).take 7) = downR b i := rfl
theorem byte_is (l : List Bool) (r : Int) (v : Value) (w : World) (hl : l.length = 8) (hv : RowAt w v (l.map Value.bool)) (h : byteOf l = r) :
    Calls Try.prog 31 #[v] w fun e w' => e = .returned (.int .u8 r) ∧ w = w' := by
  subst h; exact byte_any l v w hl hv

theorem bools_one (l : List Bool) : ∀ u ∈ l.map Value.bool, u.oneCell' = true := by
  intro u hu
  obtain ⟨x, _, rfl⟩ := List.mem_map.1 hu
  rfl

set_option maxHeartbeats 1600000 in
theorem refTurn_0 (b : Int) (c : Bool) (w : World) (h0 : 0 ≤ b) (h1 : b ≤ 255) :
    Calls Try.prog 25 #[.int .i64 0, .int .u8 b, .bool c] w fun e w' => e = .returned (.tuple #[.int .u8 (upR b (bitN b 0)), .bool (bitN b 0)]) ∧ Below w.heap.size w w' := by
  go_enter Try.func25, Try.ntmps25
  go_wp2_with fail
  refine (bits_any _ _ h0 h1).mono ?_
  rintro e w1 ⟨v, rfl, hv, hb1⟩
  obtain ⟨g, cap, rfl, hg, hc, hm, hcell⟩ := hv.bools
  have hl8 := bitsTo_length b 8
  have hn := tail_news hcell
  have c0 := hcell 0 (by omega)
  rw [bits8_at] at c0
  have HN := Lib.hid hn
  clear hv hcell hn
  rw [hl8] at hc ⊢
  clear hl8
  go_wp2_with (at_builtin; refine wpList_append_row w1.heap.size 4 42 infoBool Try.underlying42 rfl rfl _ _ rfl _ _ _ rfl (World.ownsRow_nil _ _ _ _) ⟨g, 1, none⟩ 7 _ _ rfl (by simp [bitsTo_length]) HN.out (bools_one _) (by decide) (by decide) (Nat.le_refl _) ?_)
  intro v2 w2 hown hb2
  have hg2 : g < w2.heap.size := Nat.lt_of_lt_of_le hg hb2.size
  have c2 := (hb2.cell (p := ⟨g, 0, none⟩) hg).trans c0
  have hs0 : (fun w' : World => w'.cell? ⟨g, 0, none⟩ = some (.bool (bitN b 0))) w2.drew := c2
  have hs1 : (fun w' : World => w'.cell? ⟨g, 0, none⟩ = some (.bool (bitN b 0))) (w2.alloc (.cells #[.bool (bitN b 0)] 4)).drew := (((Below.refl w2.heap.size w2).alloc (Nat.le_refl _) _).drew.cell (p := ⟨g, 0, none⟩) hg2).trans c2
  have hz2 := hb2.size
  have hb3 : Below w1.heap.size w1 (w2.alloc (.cells #[.bool (bitN b 0)] 4)).drew := (hb2.alloc hz2 _).drew
  have hown3 := (hown.alloc (.cells #[.bool (bitN b 0)] 4)).drew
  go_wp2_with fail
  go_region_held3 (fun w' => w'.cell? ⟨g, 0, none⟩ = some (.bool (bitN b 0))) (assumption) (first | (refine step_append_row w1.heap.size 4 42 infoBool Try.underlying42 rfl rfl _ _ rfl _ _ _ rfl hown3 ⟨w2.heap.size, 0, none⟩ 1 _ [.bool (bitN b 0)] rfl rfl (cell_one_new _ _ _) (bools_one [bitN b 0]) (by decide) (by decide) (by decide) (by simp; omega) ?_; intro v4 w4 hown4 hb4; have hs4 : (fun w' : World => w'.cell? ⟨g, 0, none⟩ = some (.bool (bitN b 0))) w4 := (hb4.cell (p := ⟨g, 0, none⟩) hg).trans hs1) | (go_at_call 31; refine (byte_is ((bitsTo b 8).drop 1 ++ [bitN b 0]) _ _ _ rfl (rowAt_of_own hown4 (by decide)) (bytes_up b (bitN b 0))).mono ?_; rintro e w' ⟨rfl, rfl⟩))
  go_wp2_with fail
  go_ret2
  exact ⟨rfl, below_step hb1 (hb3.trans hb4)⟩

set_option maxHeartbeats 1600000 in
theorem refTurn_1 (b : Int) (c : Bool) (w : World) (h0 : 0 ≤ b) (h1 : b ≤ 255) :
    Calls Try.prog 25 #[.int .i64 1, .int .u8 b, .bool c] w fun e w' => e = .returned (.tuple #[.int .u8 (downR b (bitN b 7)), .bool (bitN b 7)]) ∧ Below w.heap.size w w' := by
  go_enter Try.func25, Try.ntmps25
  go_wp2_with fail
  refine (bits_any _ _ h0 h1).mono ?_
  rintro e w1 ⟨v, rfl, hv, hb1⟩
  obtain ⟨g, cap, rfl, hg, hc, hm, hcell⟩ := hv.bools
  have hl8 := bitsTo_length b 8
  have c0 := hcell 0 (by omega)
  have c7 := hcell 7 (by omega)
  rw [bits8_at] at c0 c7
  have HN := Lib.hid (head_news hl8 hcell)
  clear hv hcell
  rw [hl8] at hc ⊢
  clear hl8
  go_wp2_with (at_builtin; refine wpList_append_one w1.heap.size 4 42 infoBool Try.underlying42 rfl rfl _ _ rfl _ _ _ rfl (World.ownsRow_nil _ _ _ _) (.bool (bitN b 7)) rfl rfl (by decide) (by decide) (Nat.le_refl _) ?_)
  intro v2 w2 hown hb2
  have hz2 := hb2.size
  have c2 := (hb2.cell (p := ⟨g, 7, none⟩) hg).trans c7
  have hs0 : (fun w' : World => w'.cell? ⟨g, 7, none⟩ = some (.bool (bitN b 7))) w2.drew := c2
  have hb3 : Below w1.heap.size w1 w2.drew := hb2.drew
  have hown3 := hown.drew
  have HN2 : Hid (∀ (j : Nat) (u : Value), (((bitsTo b 8).take 7).map Value.bool)[j]? = some u → w2.drew.cell? ((⟨g, 0, none⟩ : Addr).add j) = some u) := fun j u hu => (hb2.cell (p := (⟨g, 0, none⟩ : Addr).add j) (by rw [show ((⟨g, 0, none⟩ : Addr).add j).block = g from by unfold Addr.add; split <;> rfl]; exact hg)).trans (HN.out j u hu)
  have hc7 : 7 ≤ cap := by omega
  have hi7 : (7 : Int) ≤ (cap : Int) := by omega
  go_wp2_with fail
  go_region_held3 (fun w' => w'.cell? ⟨g, 7, none⟩ = some (.bool (bitN b 7))) (assumption) (first | (refine step_append_row w1.heap.size 4 42 infoBool Try.underlying42 rfl rfl _ _ rfl _ _ _ rfl hown3 ⟨g, 0, none⟩ 7 _ _ rfl (by simp [bitsTo_length]) HN2.out (bools_one _) (by decide) (by decide) (by decide) hz2 ?_; intro v4 w4 hown4 hb4; have hs4 : (fun w' : World => w'.cell? ⟨g, 7, none⟩ = some (.bool (bitN b 7))) w4 := (hb4.cell (p := ⟨g, 7, none⟩) hg).trans hs0) | (go_at_call 31; refine (byte_is ([bitN b 7] ++ (bitsTo b 8).take 7) _ _ _ rfl (rowAt_of_own hown4 (by decide)) (bytes_down b (bitN b 7))).mono ?_; rintro e w' ⟨rfl, rfl⟩))
  go_wp2_with fail
  go_ret2
  exact ⟨rfl, below_step hb1 (hb3.trans hb4)⟩

set_option maxHeartbeats 1600000 in
theorem refTurn_2 (b : Int) (c : Bool) (w : World) (h0 : 0 ≤ b) (h1 : b ≤ 255) :
    Calls Try.prog 25 #[.int .i64 2, .int .u8 b, .bool c] w fun e w' => e = .returned (.tuple #[.int .u8 (upR b c), .bool (bitN b 0)]) ∧ Below w.heap.size w w' := by
  go_enter Try.func25, Try.ntmps25
  go_wp2_with fail
  refine (bits_any _ _ h0 h1).mono ?_
  rintro e w1 ⟨v, rfl, hv, hb1⟩
  obtain ⟨g, cap, rfl, hg, hc, hm, hcell⟩ := hv.bools
  have hl8 := bitsTo_length b 8
  have hn := tail_news hcell
  have c0 := hcell 0 (by omega)
  rw [bits8_at] at c0
  have HN := Lib.hid hn
  clear hv hcell hn
  rw [hl8] at hc ⊢
  clear hl8
  go_wp2_with (at_builtin; refine wpList_append_row w1.heap.size 4 42 infoBool Try.underlying42 rfl rfl _ _ rfl _ _ _ rfl (World.ownsRow_nil _ _ _ _) ⟨g, 1, none⟩ 7 _ _ rfl (by simp [bitsTo_length]) HN.out (bools_one _) (by decide) (by decide) (Nat.le_refl _) ?_)
  intro v2 w2 hown hb2
  have hg2 : g < w2.heap.size := Nat.lt_of_lt_of_le hg hb2.size
  have c2 := (hb2.cell (p := ⟨g, 0, none⟩) hg).trans c0
  have hs0 : (fun w' : World => w'.cell? ⟨g, 0, none⟩ = some (.bool (bitN b 0))) w2.drew := c2
  have hs1 : (fun w' : World => w'.cell? ⟨g, 0, none⟩ = some (.bool (bitN b 0))) (w2.alloc (.cells #[.bool c] 4)).drew := (((Below.refl w2.heap.size w2).alloc (Nat.le_refl _) _).drew.cell (p := ⟨g, 0, none⟩) hg2).trans c2
  have hz2 := hb2.size
  have hb3 : Below w1.heap.size w1 (w2.alloc (.cells #[.bool c] 4)).drew := (hb2.alloc hz2 _).drew
  have hown3 := (hown.alloc (.cells #[.bool c] 4)).drew
  go_wp2_with fail
  go_region_held3 (fun w' => w'.cell? ⟨g, 0, none⟩ = some (.bool (bitN b 0))) (assumption) (first | (refine step_append_row w1.heap.size 4 42 infoBool Try.underlying42 rfl rfl _ _ rfl _ _ _ rfl hown3 ⟨w2.heap.size, 0, none⟩ 1 _ [.bool c] rfl rfl (cell_one_new _ _ _) (bools_one [c]) (by decide) (by decide) (by decide) (by simp; omega) ?_; intro v4 w4 hown4 hb4; have hs4 : (fun w' : World => w'.cell? ⟨g, 0, none⟩ = some (.bool (bitN b 0))) w4 := (hb4.cell (p := ⟨g, 0, none⟩) hg).trans hs1) | (go_at_call 31; refine (byte_is ((bitsTo b 8).drop 1 ++ [c]) _ _ _ rfl (rowAt_of_own hown4 (by decide)) (bytes_up b c)).mono ?_; rintro e w' ⟨rfl, rfl⟩))
  go_wp2_with fail
  go_ret2
  exact ⟨rfl, below_step hb1 (hb3.trans hb4)⟩

set_option maxHeartbeats 1600000 in
theorem refTurn_3 (b : Int) (c : Bool) (w : World) (h0 : 0 ≤ b) (h1 : b ≤ 255) :
    Calls Try.prog 25 #[.int .i64 3, .int .u8 b, .bool c] w fun e w' => e = .returned (.tuple #[.int .u8 (downR b c), .bool (bitN b 7)]) ∧ Below w.heap.size w w' := by
  go_enter Try.func25, Try.ntmps25
  go_wp2_with fail
  refine (bits_any _ _ h0 h1).mono ?_
  rintro e w1 ⟨v, rfl, hv, hb1⟩
  obtain ⟨g, cap, rfl, hg, hc, hm, hcell⟩ := hv.bools
  have hl8 := bitsTo_length b 8
  have c0 := hcell 0 (by omega)
  have c7 := hcell 7 (by omega)
  rw [bits8_at] at c0 c7
  have HN := Lib.hid (head_news hl8 hcell)
  clear hv hcell
  rw [hl8] at hc ⊢
  clear hl8
  go_wp2_with (at_builtin; refine wpList_append_one w1.heap.size 4 42 infoBool Try.underlying42 rfl rfl _ _ rfl _ _ _ rfl (World.ownsRow_nil _ _ _ _) (.bool c) rfl rfl (by decide) (by decide) (Nat.le_refl _) ?_)
  intro v2 w2 hown hb2
  have hz2 := hb2.size
  have c2 := (hb2.cell (p := ⟨g, 7, none⟩) hg).trans c7
  have hs0 : (fun w' : World => w'.cell? ⟨g, 7, none⟩ = some (.bool (bitN b 7))) w2.drew := c2
  have hb3 : Below w1.heap.size w1 w2.drew := hb2.drew
  have hown3 := hown.drew
  have HN2 : Hid (∀ (j : Nat) (u : Value), (((bitsTo b 8).take 7).map Value.bool)[j]? = some u → w2.drew.cell? ((⟨g, 0, none⟩ : Addr).add j) = some u) := fun j u hu => (hb2.cell (p := (⟨g, 0, none⟩ : Addr).add j) (by rw [show ((⟨g, 0, none⟩ : Addr).add j).block = g from by unfold Addr.add; split <;> rfl]; exact hg)).trans (HN.out j u hu)
  have hc7 : 7 ≤ cap := by omega
  have hi7 : (7 : Int) ≤ (cap : Int) := by omega
  go_wp2_with fail
  go_region_held3 (fun w' => w'.cell? ⟨g, 7, none⟩ = some (.bool (bitN b 7))) (assumption) (first | (refine step_append_row w1.heap.size 4 42 infoBool Try.underlying42 rfl rfl _ _ rfl _ _ _ rfl hown3 ⟨g, 0, none⟩ 7 _ _ rfl (by simp [bitsTo_length]) HN2.out (bools_one _) (by decide) (by decide) (by decide) hz2 ?_; intro v4 w4 hown4 hb4; have hs4 : (fun w' : World => w'.cell? ⟨g, 7, none⟩ = some (.bool (bitN b 7))) w4 := (hb4.cell (p := ⟨g, 7, none⟩) hg).trans hs0) | (go_at_call 31; refine (byte_is ([c] ++ (bitsTo b 8).take 7) _ _ _ rfl (rowAt_of_own hown4 (by decide)) (bytes_down b c)).mono ?_; rintro e w' ⟨rfl, rfl⟩))
  go_wp2_with fail
  go_ret2
  exact ⟨rfl, below_step hb1 (hb3.trans hb4)⟩

set_option maxHeartbeats 1600000 in
theorem refTurn_4 (b : Int) (c : Bool) (w : World) (h0 : 0 ≤ b) (h1 : b ≤ 255) :
    Calls Try.prog 25 #[.int .i64 4, .int .u8 b, .bool c] w fun e w' => e = .returned (.tuple #[.int .u8 (upR b false), .bool (bitN b 0)]) ∧ Below w.heap.size w w' := by
  go_enter Try.func25, Try.ntmps25
  go_wp2_with fail
  refine (bits_any _ _ h0 h1).mono ?_
  rintro e w1 ⟨v, rfl, hv, hb1⟩
  obtain ⟨g, cap, rfl, hg, hc, hm, hcell⟩ := hv.bools
  have hl8 := bitsTo_length b 8
  have hn := tail_news hcell
  have c0 := hcell 0 (by omega)
  rw [bits8_at] at c0
  have HN := Lib.hid hn
  clear hv hcell hn
  rw [hl8] at hc ⊢
  clear hl8
  go_wp2_with (at_builtin; refine wpList_append_row w1.heap.size 4 42 infoBool Try.underlying42 rfl rfl _ _ rfl _ _ _ rfl (World.ownsRow_nil _ _ _ _) ⟨g, 1, none⟩ 7 _ _ rfl (by simp [bitsTo_length]) HN.out (bools_one _) (by decide) (by decide) (Nat.le_refl _) ?_)
  intro v2 w2 hown hb2
  have hg2 : g < w2.heap.size := Nat.lt_of_lt_of_le hg hb2.size
  have c2 := (hb2.cell (p := ⟨g, 0, none⟩) hg).trans c0
  have hs0 : (fun w' : World => w'.cell? ⟨g, 0, none⟩ = some (.bool (bitN b 0))) w2.drew := c2
  have hs1 : (fun w' : World => w'.cell? ⟨g, 0, none⟩ = some (.bool (bitN b 0))) (w2.alloc (.cells #[.bool false] 4)).drew := (((Below.refl w2.heap.size w2).alloc (Nat.le_refl _) _).drew.cell (p := ⟨g, 0, none⟩) hg2).trans c2
  have hz2 := hb2.size
  have hb3 : Below w1.heap.size w1 (w2.alloc (.cells #[.bool false] 4)).drew := (hb2.alloc hz2 _).drew
  have hown3 := (hown.alloc (.cells #[.bool false] 4)).drew
  go_wp2_with fail
  go_region_held3 (fun w' => w'.cell? ⟨g, 0, none⟩ = some (.bool (bitN b 0))) (assumption) (first | (refine step_append_row w1.heap.size 4 42 infoBool Try.underlying42 rfl rfl _ _ rfl _ _ _ rfl hown3 ⟨w2.heap.size, 0, none⟩ 1 _ [.bool false] rfl rfl (cell_one_new _ _ _) (bools_one [false]) (by decide) (by decide) (by decide) (by simp; omega) ?_; intro v4 w4 hown4 hb4; have hs4 : (fun w' : World => w'.cell? ⟨g, 0, none⟩ = some (.bool (bitN b 0))) w4 := (hb4.cell (p := ⟨g, 0, none⟩) hg).trans hs1) | (go_at_call 31; refine (byte_is ((bitsTo b 8).drop 1 ++ [false]) _ _ _ rfl (rowAt_of_own hown4 (by decide)) (bytes_up b false)).mono ?_; rintro e w' ⟨rfl, rfl⟩))
  go_wp2_with fail
  go_ret2
  exact ⟨rfl, below_step hb1 (hb3.trans hb4)⟩

set_option maxHeartbeats 1600000 in
theorem refTurn_5 (b : Int) (c : Bool) (w : World) (h0 : 0 ≤ b) (h1 : b ≤ 255) :
    Calls Try.prog 25 #[.int .i64 5, .int .u8 b, .bool c] w fun e w' => e = .returned (.tuple #[.int .u8 (downR b (bitN b 0)), .bool (bitN b 7)]) ∧ Below w.heap.size w w' := by
  go_enter Try.func25, Try.ntmps25
  go_wp2_with fail
  refine (bits_any _ _ h0 h1).mono ?_
  rintro e w1 ⟨v, rfl, hv, hb1⟩
  obtain ⟨g, cap, rfl, hg, hc, hm, hcell⟩ := hv.bools
  have hl8 := bitsTo_length b 8
  have c0 := hcell 0 (by omega)
  have c7 := hcell 7 (by omega)
  rw [bits8_at] at c0 c7
  have HN := Lib.hid (head_news hl8 hcell)
  clear hv hcell
  rw [hl8] at hc ⊢
  clear hl8
  go_wp2_with (at_builtin; refine wpList_append_one w1.heap.size 4 42 infoBool Try.underlying42 rfl rfl _ _ rfl _ _ _ rfl (World.ownsRow_nil _ _ _ _) (.bool (bitN b 0)) rfl rfl (by decide) (by decide) (Nat.le_refl _) ?_)
  intro v2 w2 hown hb2
  have hz2 := hb2.size
  have c2 := (hb2.cell (p := ⟨g, 7, none⟩) hg).trans c7
  have hs0 : (fun w' : World => w'.cell? ⟨g, 7, none⟩ = some (.bool (bitN b 7))) w2.drew := c2
  have hb3 : Below w1.heap.size w1 w2.drew := hb2.drew
  have hown3 := hown.drew
  have HN2 : Hid (∀ (j : Nat) (u : Value), (((bitsTo b 8).take 7).map Value.bool)[j]? = some u → w2.drew.cell? ((⟨g, 0, none⟩ : Addr).add j) = some u) := fun j u hu => (hb2.cell (p := (⟨g, 0, none⟩ : Addr).add j) (by rw [show ((⟨g, 0, none⟩ : Addr).add j).block = g from by unfold Addr.add; split <;> rfl]; exact hg)).trans (HN.out j u hu)
  have hc7 : 7 ≤ cap := by omega
  have hi7 : (7 : Int) ≤ (cap : Int) := by omega
  go_wp2_with fail
  go_region_held3 (fun w' => w'.cell? ⟨g, 7, none⟩ = some (.bool (bitN b 7))) (assumption) (first | (refine step_append_row w1.heap.size 4 42 infoBool Try.underlying42 rfl rfl _ _ rfl _ _ _ rfl hown3 ⟨g, 0, none⟩ 7 _ _ rfl (by simp [bitsTo_length]) HN2.out (bools_one _) (by decide) (by decide) (by decide) hz2 ?_; intro v4 w4 hown4 hb4; have hs4 : (fun w' : World => w'.cell? ⟨g, 7, none⟩ = some (.bool (bitN b 7))) w4 := (hb4.cell (p := ⟨g, 7, none⟩) hg).trans hs0) | (go_at_call 31; refine (byte_is ([bitN b 0] ++ (bitsTo b 8).take 7) _ _ _ rfl (rowAt_of_own hown4 (by decide)) (bytes_down b (bitN b 0))).mono ?_; rintro e w' ⟨rfl, rfl⟩))
  go_wp2_with fail
  go_ret2
  exact ⟨rfl, below_step hb1 (hb3.trans hb4)⟩

set_option maxHeartbeats 1600000 in
theorem refTurn_6 (b : Int) (c : Bool) (w : World) (h0 : 0 ≤ b) (h1 : b ≤ 255) :
    Calls Try.prog 25 #[.int .i64 6, .int .u8 b, .bool c] w fun e w' => e = .returned (.tuple #[.int .u8 (upR b true), .bool (bitN b 0)]) ∧ Below w.heap.size w w' := by
  go_enter Try.func25, Try.ntmps25
  go_wp2_with fail
  refine (bits_any _ _ h0 h1).mono ?_
  rintro e w1 ⟨v, rfl, hv, hb1⟩
  obtain ⟨g, cap, rfl, hg, hc, hm, hcell⟩ := hv.bools
  have hl8 := bitsTo_length b 8
  have hn := tail_news hcell
  have c0 := hcell 0 (by omega)
  rw [bits8_at] at c0
  have HN := Lib.hid hn
  clear hv hcell hn
  rw [hl8] at hc ⊢
  clear hl8
  go_wp2_with (at_builtin; refine wpList_append_row w1.heap.size 4 42 infoBool Try.underlying42 rfl rfl _ _ rfl _ _ _ rfl (World.ownsRow_nil _ _ _ _) ⟨g, 1, none⟩ 7 _ _ rfl (by simp [bitsTo_length]) HN.out (bools_one _) (by decide) (by decide) (Nat.le_refl _) ?_)
  intro v2 w2 hown hb2
  have hg2 : g < w2.heap.size := Nat.lt_of_lt_of_le hg hb2.size
  have c2 := (hb2.cell (p := ⟨g, 0, none⟩) hg).trans c0
  have hs0 : (fun w' : World => w'.cell? ⟨g, 0, none⟩ = some (.bool (bitN b 0))) w2.drew := c2
  have hs1 : (fun w' : World => w'.cell? ⟨g, 0, none⟩ = some (.bool (bitN b 0))) (w2.alloc (.cells #[.bool true] 4)).drew := (((Below.refl w2.heap.size w2).alloc (Nat.le_refl _) _).drew.cell (p := ⟨g, 0, none⟩) hg2).trans c2
  have hz2 := hb2.size
  have hb3 : Below w1.heap.size w1 (w2.alloc (.cells #[.bool true] 4)).drew := (hb2.alloc hz2 _).drew
  have hown3 := (hown.alloc (.cells #[.bool true] 4)).drew
  go_wp2_with fail
  go_region_held3 (fun w' => w'.cell? ⟨g, 0, none⟩ = some (.bool (bitN b 0))) (assumption) (first | (refine step_append_row w1.heap.size 4 42 infoBool Try.underlying42 rfl rfl _ _ rfl _ _ _ rfl hown3 ⟨w2.heap.size, 0, none⟩ 1 _ [.bool true] rfl rfl (cell_one_new _ _ _) (bools_one [true]) (by decide) (by decide) (by decide) (by simp; omega) ?_; intro v4 w4 hown4 hb4; have hs4 : (fun w' : World => w'.cell? ⟨g, 0, none⟩ = some (.bool (bitN b 0))) w4 := (hb4.cell (p := ⟨g, 0, none⟩) hg).trans hs1) | (go_at_call 31; refine (byte_is ((bitsTo b 8).drop 1 ++ [true]) _ _ _ rfl (rowAt_of_own hown4 (by decide)) (bytes_up b true)).mono ?_; rintro e w' ⟨rfl, rfl⟩))
  go_wp2_with fail
  go_ret2
  exact ⟨rfl, below_step hb1 (hb3.trans hb4)⟩

set_option maxHeartbeats 1600000 in
theorem refTurn_7 (b : Int) (c : Bool) (w : World) (h0 : 0 ≤ b) (h1 : b ≤ 255) :
    Calls Try.prog 25 #[.int .i64 7, .int .u8 b, .bool c] w fun e w' => e = .returned (.tuple #[.int .u8 (downR b false), .bool (bitN b 7)]) ∧ Below w.heap.size w w' := by
  go_enter Try.func25, Try.ntmps25
  go_wp2_with fail
  refine (bits_any _ _ h0 h1).mono ?_
  rintro e w1 ⟨v, rfl, hv, hb1⟩
  obtain ⟨g, cap, rfl, hg, hc, hm, hcell⟩ := hv.bools
  have hl8 := bitsTo_length b 8
  have c0 := hcell 0 (by omega)
  have c7 := hcell 7 (by omega)
  rw [bits8_at] at c0 c7
  have HN := Lib.hid (head_news hl8 hcell)
  clear hv hcell
  rw [hl8] at hc ⊢
  clear hl8
  go_wp2_with (at_builtin; refine wpList_append_one w1.heap.size 4 42 infoBool Try.underlying42 rfl rfl _ _ rfl _ _ _ rfl (World.ownsRow_nil _ _ _ _) (.bool false) rfl rfl (by decide) (by decide) (Nat.le_refl _) ?_)
  intro v2 w2 hown hb2
  have hz2 := hb2.size
  have c2 := (hb2.cell (p := ⟨g, 7, none⟩) hg).trans c7
  have hs0 : (fun w' : World => w'.cell? ⟨g, 7, none⟩ = some (.bool (bitN b 7))) w2.drew := c2
  have hb3 : Below w1.heap.size w1 w2.drew := hb2.drew
  have hown3 := hown.drew
  have HN2 : Hid (∀ (j : Nat) (u : Value), (((bitsTo b 8).take 7).map Value.bool)[j]? = some u → w2.drew.cell? ((⟨g, 0, none⟩ : Addr).add j) = some u) := fun j u hu => (hb2.cell (p := (⟨g, 0, none⟩ : Addr).add j) (by rw [show ((⟨g, 0, none⟩ : Addr).add j).block = g from by unfold Addr.add; split <;> rfl]; exact hg)).trans (HN.out j u hu)
  have hc7 : 7 ≤ cap := by omega
  have hi7 : (7 : Int) ≤ (cap : Int) := by omega
  go_wp2_with fail
  go_region_held3 (fun w' => w'.cell? ⟨g, 7, none⟩ = some (.bool (bitN b 7))) (assumption) (first | (refine step_append_row w1.heap.size 4 42 infoBool Try.underlying42 rfl rfl _ _ rfl _ _ _ rfl hown3 ⟨g, 0, none⟩ 7 _ _ rfl (by simp [bitsTo_length]) HN2.out (bools_one _) (by decide) (by decide) (by decide) hz2 ?_; intro v4 w4 hown4 hb4; have hs4 : (fun w' : World => w'.cell? ⟨g, 7, none⟩ = some (.bool (bitN b 7))) w4 := (hb4.cell (p := ⟨g, 7, none⟩) hg).trans hs0) | (go_at_call 31; refine (byte_is ([false] ++ (bitsTo b 8).take 7) _ _ _ rfl (rowAt_of_own hown4 (by decide)) (bytes_down b false)).mono ?_; rintro e w' ⟨rfl, rfl⟩))
  go_wp2_with fail
  go_ret2
  exact ⟨rfl, below_step hb1 (hb3.trans hb4)⟩

theorem refTurn_any (k b : Int) (c : Bool) (w : World) (k0 : 0 ≤ k) (k7 : k ≤ 7) (h0 : 0 ≤ b) (h1 : b ≤ 255) :
    Calls Try.prog 25 #[.int .i64 k, .int .u8 b, .bool c] w fun e w' => e = .returned (.tuple #[.int .u8 (turnV k b c).1, .bool (turnV k b c).2]) ∧ Below w.heap.size w w' := by
  rcases eight_in k k0 k7 with rfl | rfl | rfl | rfl | rfl | rfl | rfl | rfl
  · exact refTurn_0 b c w h0 h1
  · exact refTurn_1 b c w h0 h1
  · exact refTurn_2 b c w h0 h1
  · exact refTurn_3 b c w h0 h1
  · exact refTurn_4 b c w h0 h1
  · exact refTurn_5 b c w h0 h1
  · exact refTurn_6 b c w h0 h1
  · exact refTurn_7 b c w h0 h1

end Go.Proofs.Ytcafoomnfekglaa
