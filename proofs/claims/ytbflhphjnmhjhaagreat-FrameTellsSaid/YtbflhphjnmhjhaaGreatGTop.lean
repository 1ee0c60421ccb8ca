/- Structs of many cells that come in by value, opened. Plain, over any program. -/
import Derived.WalkKit
import Derived.ProofKit
import Derived.OpenShut
import Derived.Lib.SmallJoins
namespace Go.Proofs.YtbflhphjnmhjhaaGreat
open Go.ChangeShapes Go.WideShapes Go.ChangeAt Go.RowKit
variable {H : Type} {enc : TypeId × Value → H} {P : Program} {w : World} {base : Nat} {spare : Nat → Bool} {held : Bool}
theorem array13 {α : Type} {cs : Array α} (h : cs.size = 13) : ∃ c0 c1 c2 c3 c4 c5 c6 c7 c8 c9 c10 c11 c12, cs = #[c0, c1, c2, c3, c4, c5, c6, c7, c8, c9, c10, c11, c12] := by
  obtain ⟨l⟩ := cs
  match l, h with
  | [c0, c1, c2, c3, c4, c5, c6, c7, c8, c9, c10, c11, c12], _ => exact ⟨c0, c1, c2, c3, c4, c5, c6, c7, c8, c9, c10, c11, c12, rfl⟩
/-- A struct's cells that read, field by field. -/
theorem open_within {t : TypeId} {fs : Array Field} {fuel : Nat} {cs : List Value} {x : DataW H × List MemPlace} (hs : P.underlying t = some (.struct fs)) (h : DataW.trod enc P w base spare held fuel t cs = some x) :
    ∃ n, ∀ (i : Nat) (f : Field) (T : TypeId) (o m : Nat), fs[i]? = some f → f.type = T → f.offset = o → P.cellsOf T = m → ∃ y, DataW.trod enc P w base spare held n T ((cs.drop o).take m) = some y := by
  obtain ⟨xs, n, _, rfl, _, hlen, hf⟩ := DataW.trod_struct hs h
  refine ⟨n, fun i f T o m hi ht ho hm => ?_⟩
  subst ht ho hm
  have hlt := (Array.getElem?_eq_some_iff.1 hi).1
  rw [hf i f hi]
  exact ⟨xs[i]'(by omega), List.getElem?_eq_getElem (by omega)⟩
/-- The same of a struct that came in by value. -/
theorem open_cells {r : Reach} {b0 : Nat} {t : TypeId} {fs : Array Field} {v : Value} {d : DataW H} {p : List MemPlace} {m : Nat} (hs : P.underlying t = some (.struct fs)) (hC : P.cellsOf t = m)
    (hv : Value.okWide P w r b0 t v) (h : DataW.Trod enc P w base spare held t v d p) :
    ∃ (cs : Array Value) (n : Nat), v = .agg cs ∧ cs.size = m ∧ ∀ (i : Nat) (f : Field) (T : TypeId) (o m : Nat), fs[i]? = some f → f.type = T → f.offset = o → P.cellsOf T = m → ∃ y, DataW.trod enc P w base spare held n T ((cs.toList.drop o).take m) = some y := by
  obtain ⟨cs, rfl, hsz⟩ := okWide_struct hs hv
  obtain ⟨fuel, hf⟩ := h
  obtain ⟨n, hn⟩ := open_within hs hf
  exact ⟨cs, n, rfl, hsz.trans hC, by simpa [Value.cells] using hn⟩
end Go.Proofs.YtbflhphjnmhjhaaGreat
