/- Bytes as a text. -/
import Derived.Test.YthlaglhlmbkniaaBytesCut
import Derived.Test.YthlaglhlmbkniaaProg
import Derived.WalkKit
import Derived.Laws.BytesArg
namespace Go.Proofs.Ythlaglhlmbkniaa
open Go.RowKit
set_option maxRecDepth 100000
set_option linter.unusedVariables false
set_option linter.unusedSimpArgs false

theorem conv_of {F : Nat → Prop} {w : World} {A : Option Addr} {n cap : Nat} {l : List Int} (h : BAt8 F w A n cap l) : (convert 25 9 (.slice A n cap)).run Try.prog w = .ok (.string (strOfNums l)) w := by
  rcases A with _ | a
  · have hc := h.nil rfl
    have hf := h.fit
    have hn : n = 0 := by omega
    obtain rfl : l = [] := List.eq_nil_of_length_eq_zero (by rw [h.len]; exact hn)
    exact run_convert_bytes_nil (P := Try.prog) w 25 5 Try.underlying25 Try.underlying5 n cap _ Try.underlying9
  · by_cases hn : n = 0
    · subst hn
      obtain rfl : l = [] := List.eq_nil_of_length_eq_zero h.len
      rw [run_convert_bytes_string w _ _ 5 (some a) 0 cap Try.underlying25 Try.underlying5 Try.underlying9, run_bytesToString w a 0 cap [] (by
        have := run_loadCells_list (P := Try.prog) w a [] (fun j v hj => by simp at hj)
        simpa using this)]
      rfl
    · obtain ⟨b, o, e, _, _, hc⟩ := h.lies (by omega)
      injection e with e
      subst e
      exact run_convert_bytes_arg (P := Try.prog) w 25 5 Try.underlying25 Try.underlying5 b o n cap l h.len (fun i hi => hc i hi) _ Try.underlying9

end Go.Proofs.Ythlaglhlmbkniaa
