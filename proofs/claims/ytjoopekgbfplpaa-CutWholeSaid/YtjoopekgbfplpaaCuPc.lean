/- CutParts. -/
import Derived.Test.YtjoopekgbfplpaaCuPa
import Derived.Test.YtjoopekgbfplpaaCuPb
import Derived.Test.YtjoopekgbfplpaaGTop
namespace Go.Proofs.Ytjoopekgbfplpaa
open Go.RowKit Oct Cu Go.Shelf
set_option linter.unusedVariables false
set_option linter.unusedSimpArgs false
theorem at_bi {P : Program} {ops : Array Oper} {rest : List Oper} {o : Oper} {a : Act} {w : World} {Q : Exit → Act → World → Prop} (b : Builtin) (xs : Array Operand) (ts : Array TypeId) (_ : o.op = .call { callee := .builtin b, args := xs, argTypes := ts }) (h : wpList P ops Q (o :: rest) a w) : wpList P ops Q (o :: rest) a w := h
theorem wpList_val {P : Program} {ops : Array Oper} {rest : List Oper} {op : Oper} {a : Act} {w : World} {Q : Exit → Act → World → Prop} (hgd : op.guard = none) (v : Value)
    (hr : (execOp a.eval op).run P w = .ok (.value v) w) (h : wpList P ops Q rest (a.put op.dst v) w) : wpList P ops Q (op :: rest) a w :=
  wpList_plain hgd fun _ hK => by
    unfold Oper.wp
    rw [hr]
    exact hK _ _ h
theorem right_len {p : Int} {r : List UInt8} (h : RightR p r) : r.length ≤ 16393 := by
  obtain ⟨_, _, _, h4, h5⟩ := h
  unfold Fits at h4
  unfold Bad at h5
  omega
end Go.Proofs.Ytjoopekgbfplpaa
