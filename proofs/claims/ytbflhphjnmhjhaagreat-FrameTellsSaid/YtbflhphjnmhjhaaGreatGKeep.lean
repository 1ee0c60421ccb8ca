/- What the body of a range over a function leaves as it was, where the iterator has memory of its own: the cells of all blocks of p. Plain, over any program. -/
import Derived.RangeFuncNested
import Derived.RangeFuncBound
import Derived.RangeFuncCalls
import Derived.RangeFuncLeaves
import Derived.Shelf.Abstract
import Derived.Shelf.RegionOpen
import Derived.OwnWalkIn
import Derived.TacticsInMore
import Derived.LoopNIn
import Derived.LoopIn
import Derived.Test.YtbflhphjnmhjhaaGreatGMem
namespace Go.Proofs.YtbflhphjnmhjhaaGreat
open Go.RowKit

/-- The blocks of p that hold cells hold the same. -/
def KeepC (p : Nat → Prop) (W W' : World) : Prop := ∀ j (o : Obj), p j → W.heap[j]? = some o → o.isCells = true → W'.heap[j]? = some o
section
variable {p : Nat → Prop} {W W' A B C : World}
theorem KeepC.refl (p : Nat → Prop) (W : World) : KeepC p W W := fun _ _ _ h _ => h
theorem KeepC.trans (h : KeepC p A B) (k : KeepC p B C) : KeepC p A C := fun j o hp hj ho => k j o hp (h j o hp hj ho) ho
theorem KeepC.cell (h : KeepC p W W') {a : Addr} {v : Value} (ha : p a.block) (hc : W.cell? a = some v) : W'.cell? a = some v := by
  obtain ⟨o, ho, hcell⟩ := cells_of_cell hc
  have h1 := h _ o ha ho hcell
  have h2 : W'.heap[a.block]? = W.heap[a.block]? := h1.trans ho.symm
  rw [← hc]
  exact World.cell?_of_block h2
theorem KeepC.put (W : World) (l : Nat) (o o' : Obj) (h : W.heap[l]? = some o) (hc : o.isCells = false) : KeepC p W (W.putObj l o') := fun j o1 _ hj hc1 => by
  have hne : j ≠ l := fun e => by subst e; rw [h] at hj; cases hj; rw [hc] at hc1; cases hc1
  exact ((grownBy_putObj' W l o').block j (Array.getElem?_eq_some_iff.1 hj).1 (fun e => hne (by cases e; rfl))).trans hj
theorem KeepC.grown {row : Option Nat} (h : W.grownBy W' row) (hr : ∀ r, row = some r → ¬ p r) : KeepC p W W' := fun j _ hp hj _ =>
  (h.block j (Array.getElem?_eq_some_iff.1 hj).1 (fun e => hr j e.symm hp)).trans hj
theorem KeepC.below (h : Below W.heap.size W W') : KeepC p W W' := fun j _ _ hj _ => (h.block j (Array.getElem?_eq_some_iff.1 hj).1).trans hj
theorem KeepC.bs {n : Nat} {B : Nat} {A : Option Addr} {xs : List UInt8} (h : KeepC p W W') (hb : Bs W B A n xs) (hp : ∀ b o, A = some ⟨b, o, none⟩ → p b) : Bs W' B A n xs :=
  ⟨hb.1, fun hn => by
    obtain ⟨b, o, e, hB, hc⟩ := hb.2 hn
    exact ⟨b, o, e, hB, fun j hj => h.cell (hp b o e) (hc j hj)⟩⟩
end
theorem grown_none {W W' : World} (h : Below W.heap.size W W') : W.grownBy W' none := ⟨h.os, h.tape, h.output, h.size, fun k hk _ => h.block k hk⟩
theorem AbidesFrom.below {β : Type} {B : Nat} {J : β → World → Prop} (h : AbidesFrom B J) {s : β} {W W' : World} (hs : J s W) (hb : Below W.heap.size W W') : J s W' :=
  h s W W' none hs (grown_none hb) (fun r e => by cases e)
end Go.Proofs.YtbflhphjnmhjhaaGreat
