/- The document's Bit, Even and Flags: contracts for regions that draw their order, and with the answer handed in. -/
import Derived.Test.YtbpmhbgdainpdaaFlagRefEven
import Derived.Deep.RegionHeld3
namespace Go.Proofs.Ytbpmhbgdainpdaa
open Go.RowKit

/-- A contract where a region draws its order: what was so of the world, and stays so where blocks of before stay, is so behind the call. -/
theorem held_of {P : Program} {f : FuncId} {args : Array Value} {r : Ending} {S : World → Prop} (hS : ∀ w w', S w → Below w.heap.size w w' → S w') {w : World} (h : Calls P f args w fun e w' => e = r ∧ Below w.heap.size w w') (hw : S w) :
    Calls P f args w fun e w' => e = r ∧ S w' := h.mono fun _ _ ⟨he, hb⟩ => ⟨he, hS _ _ hw hb⟩
theorem held_same {P : Program} {f : FuncId} {args : Array Value} {r : Ending} {S : World → Prop} (_ : ∀ w w', S w → Below w.heap.size w w' → S w') {w : World} (h : Calls P f args w fun e w' => e = r ∧ w = w') (hw : S w) :
    Calls P f args w fun e w' => e = r ∧ S w' := h.mono fun _ _ ⟨he, hb⟩ => ⟨he, hb ▸ hw⟩

/-- The contracts of the document's Bit, Even and Flags where a region draws its order: what was so of the world stays so. -/
theorem bit_held {S : World → Prop} (hS : ∀ w w', S w → Below w.heap.size w w' → S w') (b k : Int) (w : World) (h0 : 0 ≤ b) (h1 : b ≤ 255) (k0 : 0 ≤ k) (k7 : k ≤ 7) (h : S w) :
    Calls Try.prog 22 #[.int .u8 b, .int .i64 k] w fun e w' => e = .returned (.bool (bitN b (7 - k.toNat))) ∧ S w' :=
  (bit_any b k w h0 h1 k0 k7).mono fun _ _ ⟨he, hb⟩ => ⟨he, hS _ _ h hb⟩
theorem refEven_held {S : World → Prop} (hS : ∀ w w', S w → Below w.heap.size w w' → S w') (b : Int) (w : World) (h0 : 0 ≤ b) (h1 : b ≤ 255) (h : S w) :
    Calls Try.prog 32 #[.int .u8 b] w fun e w' => e = .returned (.bool (evenB b)) ∧ S w' :=
  (refEven_any b w h0 h1).mono fun _ _ ⟨he, hb⟩ => ⟨he, hS _ _ h hb⟩
theorem flags_held {S : World → Prop} (hS : ∀ w w', S w → Below w.heap.size w w' → S w') (s z y h x p n c : Bool) (w : World) (hw : S w) :
    Calls Try.prog 21 #[.bool s, .bool z, .bool y, .bool h, .bool x, .bool p, .bool n, .bool c] w fun e w' => e = .returned (.int .u8 (flagsOf s z y h x p n c)) ∧ S w' :=
  (flags_any s z y h x p n c w).mono fun _ _ ⟨he, hb⟩ => ⟨he, hS _ _ hw hb⟩
theorem flags_is (s z y h x p n c : Bool) (r : Int) (w : World) (e : flagsOf s z y h x p n c = r) :
    Calls Try.prog 21 #[.bool s, .bool z, .bool y, .bool h, .bool x, .bool p, .bool n, .bool c] w fun e w' => e = .returned (.int .u8 r) ∧ Below w.heap.size w w' := by
  subst e; exact flags_any s z y h x p n c w
theorem bit_is (b k : Int) (r : Bool) (w : World) (h0 : 0 ≤ b) (h1 : b ≤ 255) (k0 : 0 ≤ k) (k7 : k ≤ 7) (h : bitN b (7 - k.toNat) = r) :
    Calls Try.prog 22 #[.int .u8 b, .int .i64 k] w fun e w' => e = .returned (.bool r) ∧ Below w.heap.size w w' := by
  subst h; exact bit_any b k w h0 h1 k0 k7
theorem byte_is (l : List Bool) (r : Int) (v : Value) (w : World) (hl : l.length = 8) (hv : RowAt w v (l.map Value.bool)) (h : byteOf l = r) :
    Calls Try.prog 33 #[v] w fun e w' => e = .returned (.int .u8 r) ∧ w = w' := by
  subst h; exact byte_any l v w hl hv

end Go.Proofs.Ytbpmhbgdainpdaa
