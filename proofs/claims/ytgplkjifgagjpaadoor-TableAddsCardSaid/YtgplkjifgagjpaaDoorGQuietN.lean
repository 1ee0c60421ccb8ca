/- A region walked once in the order of the text: the frame behind an operation laid out anew, without a proof of each step. Plain, over any program. -/
import Derived.Test.YtgplkjifgagjpaaDoorGQuiet
namespace Go.Proofs.YtgplkjifgagjpaaDoor
open Go.RowKit
section
variable {P : Program} {ops : Array Oper} {C : World → Prop} {Q : Act → Prop} {a : Act} {rest : List Oper}
theorem q_norm {l : List Value} {d : Tmp} {v : Value} {ds : List Deferred} (h : wpQuiet P ops C Q rest { tmps := (l.set d v).toArray, defers := ds }) : wpQuiet P ops C Q rest (({ tmps := l.toArray, defers := ds } : Act).put (some d) v) := by
  have e : (({ tmps := l.toArray, defers := ds } : Act).put (some d) v) = { tmps := (l.set d v).toArray, defers := ds } := by simp [Act.put]
  rw [e]
  exact h
theorem q_norm0 {v : Value} (h : wpQuiet P ops C Q rest a) : wpQuiet P ops C Q rest (a.put none v) := h
end
end Go.Proofs.YtgplkjifgagjpaaDoor
