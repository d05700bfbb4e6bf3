/- A condition on the world kept over a call. -/
import Derived.Test.YteffjidbcdnbhaaDoorKit
import Derived.Test.YteffjidbcdnbhaaDoorChecked
namespace Go.Proofs.YteffjidbcdnbhaaDoor
open Go.RowKit

theorem keep_S {S : World → Prop} {f : FuncId} {args : Array Value} {v : Value} {w : World} (h : S w) (hc : Calls Tryd.prog f args w fun e w' => e = .returned v ∧ w = w') : Calls Tryd.prog f args w fun e w' => e = .returned v ∧ S w' :=
  hc.mono fun _ _ ⟨he, hw⟩ => ⟨he, hw ▸ h⟩
theorem keep_B {S : World → Prop} (hS : ∀ w w', S w → Below w.heap.size w w' → S w') {f : FuncId} {args : Array Value} {v : Value} {w : World} (h : S w) (hc : Calls Tryd.prog f args w fun e w' => e = .returned v ∧ Below w.heap.size w w') : Calls Tryd.prog f args w fun e w' => e = .returned v ∧ S w' :=
  hc.mono fun _ _ ⟨he, hb⟩ => ⟨he, hS _ _ h hb⟩

end Go.Proofs.YteffjidbcdnbhaaDoor
