/- A map of integers to bools that the call itself makes of a literal, asked without 'ok'. Plain, over any program. -/
import Derived.Maps.OwnSet
import Derived.WalkKit
namespace Go.Proofs.Ytodghbfgfdbaiaa
open Go.RowKit

/-- Block b is a map of at most n entries whose value at each integer x is S x (false where there is none). -/
def SetOf (w : World) (P : Program) (k e : TypeId) (q : IntKind) (b n : Nat) (S : Int → Bool) : Prop :=
  ∃ D : DataW Unit, w.ownsMap P k (plainElem P e) b n D ∧ Maps.IsMap D ∧ ∀ x, D.atKey (.int q x) (.lit (.bool false)) = .lit (.bool (S x))
section
variable {P : Program} {k e : TypeId} {q : IntKind} {w : World} {b n : Nat} {S : Int → Bool}
theorem SetOf.made (w : World) (P : Program) (k e : TypeId) (q : IntKind) : SetOf (w.alloc (.map #[] 0)) P k e q w.heap.size 0 (fun _ => false) :=
  ⟨.map [], World.ownsMap_made w P k _, ⟨_, rfl⟩, fun _ => rfl⟩
theorem SetOf.update {t : TypeId} (h : SetOf w P k e q b n S) (hk : P.underlying k = some (.int q)) (he : P.underlying e = some .bool) (ht : P.underlying t = some (.map k e)) (hn : n < maxLen) {x : Int} (hx : (Lit.int q x).wf = true) (v : Bool) :
    ∃ w', (Instr.mapUpdate t (.map (some b)) (.int q x) (.bool v)).run P w = .ok () w' ∧ SetOf w' P k e q b (n + 1) (fun y => if y = x then v else S y) ∧ w.grownBy w' (some b) := by
  obtain ⟨D, hown, hD, hat⟩ := h
  obtain ⟨w', hrun, hown', hg⟩ := hown.update (Maps.int_keyed hk) ht hn (Maps.keyOf_int_mk hk hx) (plainElem_bool he v)
  refine ⟨w', hrun, ⟨_, hown', ?_, fun y => ?_⟩, hg⟩
  · obtain ⟨l, rfl⟩ := hD
    exact ⟨_, rfl⟩
  · show _ = DataW.lit (Lit.bool (if y = x then v else S y))
    by_cases hy : y = x
    · subst hy
      rw [if_pos rfl]
      exact Maps.atKey_put_same hD (by trivial) _ _
    · rw [if_neg hy, ← hat y]
      exact Maps.atKey_put_other (fun h => hy (by cases h; rfl)) _ _
theorem SetOf.look {t : TypeId} (h : SetOf w P k e q b n S) (hk : P.underlying k = some (.int q)) (he : P.underlying e = some .bool) (ht : P.underlying t = some (.map k e)) (hz : (zeroValue e).run P w = .ok (.bool false) w) {x : Int} (hx : (Lit.int q x).wf = true) :
    (Instr.lookup t (.map (some b)) (.int q x) false).run P w = .ok (.bool (S x)) w := by
  obtain ⟨D, hown, hD, hat⟩ := h
  obtain ⟨v, ps, hrun, hv⟩ := hown.lookup (Maps.int_keyed hk) ht hz (plainElem_bool he false) (Maps.keyOf_int_mk hk hx)
  rw [hat x] at hv
  rw [hrun]
  unfold plainElem at hv
  rw [he] at hv
  cases v <;> simp at hv
  rw [hv.1]
theorem SetOf.mono {S' : Int → Bool} (h : SetOf w P k e q b n S) (hs : ∀ x, S x = S' x) : SetOf w P k e q b n S' := by
  obtain ⟨D, h1, h2, h3⟩ := h
  exact ⟨D, h1, h2, fun x => by rw [h3 x, hs x]⟩
end
theorem wpList_insert_set {P : Program} (w : World) {ops : Array Oper} {rest : List Oper} {o : Oper} {a : Act} {Q : Exit → Act → World → Prop}
    (hg : o.guard = none) (m : Operand) (t : TypeId) (q : IntKind) (x : Int) (v : Bool) (hop : o.op = Op.insert t m (.const (.int q x)) (.const (.bool v)))
    (k e : TypeId) (hk : P.underlying k = some (.int q)) (he : P.underlying e = some .bool) (ht : P.underlying t = some (.map k e)) (b n : Nat) (S : Int → Bool)
    (hm : a.eval m = .map (some b)) (h : SetOf w P k e q b n S) (hn : n < maxLen) (hx : (Lit.int q x).wf = true)
    (hK : ∀ w', SetOf w' P k e q b (n + 1) (fun y => if y = x then v else S y) → w.grownBy w' (some b) → wpList P ops Q rest (a.put o.dst undef) w') :
    wpList P ops Q (o :: rest) a w := by
  refine wpList_plain hg fun K' hK' => ?_
  obtain ⟨w', hrun, r1, r2⟩ := h.update hk he ht hn hx v
  unfold Oper.wp
  have e1 : a.eval (.const (.int q x)) = .int q x := rfl
  have e2 : a.eval (.const (.bool v)) = .bool v := rfl
  simp [execOp, hop, hm, e1, e2, hrun, Result.andThen]
  exact hK' _ _ (hK w' r1 r2)
end Go.Proofs.Ytodghbfgfdbaiaa
