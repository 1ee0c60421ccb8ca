/- Small laws on what is the call's own, on cells, on what lies below: used by all layers. Plain, over any program. -/
import Derived.Test.YtbflhphjnmhjhaaGreatGFour
import Derived.Test.YtbflhphjnmhjhaaGreatGApp
namespace Go.Proofs.YtbflhphjnmhjhaaGreat
open Go.RowKit

theorem OwnB.drew {w : World} {B : Nat} {t : TypeId} {v : Value} {xs : List UInt8} (h : OwnB w B t v xs) : OwnB w.drew B t v xs := h
theorem OwnB.lit2 (w : World) (t : TypeId) (B g : Nat) (hg : w.heap.size = g) (hB : B ≤ g) : OwnB (w.alloc (.cells #[] t)) B t (.slice (some ⟨g, 0, none⟩) 0 0) [] := by
  subst hg
  exact OwnB.lit w t B hB
theorem cell_al {w : World} {b o : Nat} {v : Value} {x : Obj} (hb : b < w.heap.size) (h : w.cell? ⟨b, o, none⟩ = some v) : (w.alloc x).cell? ⟨b, o, none⟩ = some v := (World.cell?_alloc_lt w x _ hb).trans h
theorem cell_on {w w' : World} {B b o : Nat} {v : Value} (hb : Below B w w') (hB : b < B) (h : w.cell? ⟨b, o, none⟩ = some v) : w'.cell? ⟨b, o, none⟩ = some v := (hb.cell (p := ⟨b, o, none⟩) hB).trans h
theorem cell_drew {w : World} {b o : Nat} {v : Value} (h : w.cell? ⟨b, o, none⟩ = some v) : w.drew.cell? ⟨b, o, none⟩ = some v := h
theorem c3_al {w : World} {g : Nat} {a b c : Value} (h : w.cell? ⟨g, 0, none⟩ = some a ∧ w.cell? ⟨g, 1, none⟩ = some b ∧ w.cell? ⟨g, 2, none⟩ = some c) {w' : World} {B : Nat} (hb : Below B w w') (hg : g < B) :
    w'.cell? ⟨g, 0, none⟩ = some a ∧ w'.cell? ⟨g, 1, none⟩ = some b ∧ w'.cell? ⟨g, 2, none⟩ = some c :=
  ⟨(hb.cell (p := ⟨g, 0, none⟩) hg).trans h.1, (hb.cell (p := ⟨g, 1, none⟩) hg).trans h.2.1, (hb.cell (p := ⟨g, 2, none⟩) hg).trans h.2.2⟩
theorem c3_drew {w : World} {g : Nat} {a b c : Value} (h : w.cell? ⟨g, 0, none⟩ = some a ∧ w.cell? ⟨g, 1, none⟩ = some b ∧ w.cell? ⟨g, 2, none⟩ = some c) :
    w.drew.cell? ⟨g, 0, none⟩ = some a ∧ w.drew.cell? ⟨g, 1, none⟩ = some b ∧ w.drew.cell? ⟨g, 2, none⟩ = some c := h
theorem c3_new (w : World) (t : TypeId) (a b c : Value) : (w.alloc (.cells #[a, b, c] t)).cell? ⟨w.heap.size, 0, none⟩ = some a ∧ (w.alloc (.cells #[a, b, c] t)).cell? ⟨w.heap.size, 1, none⟩ = some b ∧ (w.alloc (.cells #[a, b, c] t)).cell? ⟨w.heap.size, 2, none⟩ = some c := by
  refine ⟨?_, ?_, ?_⟩ <;> simp [go_sem]
theorem c2_on {w w' : World} {g : Nat} {a b : Value} {B : Nat} (h : w.cell? ⟨g, 0, none⟩ = some a ∧ w.cell? ⟨g, 1, none⟩ = some b) (hb : Below B w w') (hg : g < B) :
    w'.cell? ⟨g, 0, none⟩ = some a ∧ w'.cell? ⟨g, 1, none⟩ = some b :=
  ⟨(hb.cell (p := ⟨g, 0, none⟩) hg).trans h.1, (hb.cell (p := ⟨g, 1, none⟩) hg).trans h.2⟩
theorem c2_new (w : World) (t : TypeId) (a b : Value) : (w.alloc (.cells #[a, b] t)).cell? ⟨w.heap.size, 0, none⟩ = some a ∧ (w.alloc (.cells #[a, b] t)).cell? ⟨w.heap.size, 1, none⟩ = some b := by
  refine ⟨?_, ?_⟩ <;> simp [go_sem]
theorem ne_own {w w2 : World} {B B2 : Nat} {t : TypeId} {v : Value} {A : Option Addr} {n c : Nat} {xs ys : List UInt8} (h : OwnB w B t v xs) (h2 : OwnB w2 B2 t (.slice A n c) ys) (hB : w.heap.size ≤ B2) :
    ∀ b o, A = some ⟨b, o, none⟩ → v.ownBlock ≠ some b := fun b o e hk => by
  have := (h.block hk).2
  have := (h2.addr e).1
  omega
theorem below_step {w W W' : World} (h : Below w.heap.size w W) (h' : Below W.heap.size W W') : Below w.heap.size w W' := h.trans (h'.mono h.size)
theorem below_lit {w W W' : World} {o : Obj} (h : Below w.heap.size w W) (h' : Below (W.alloc o).heap.size (W.alloc o) W') : Below w.heap.size w W' := below_step (below_step h ((Below.refl _ W).alloc (Nat.le_refl _) o)) h'
theorem below_lit2 {w W W' : World} {o o2 : Obj} (h : Below w.heap.size w W) (h' : Below ((W.alloc o).alloc o2).heap.size ((W.alloc o).alloc o2) W') : Below w.heap.size w W' := below_lit (below_step h ((Below.refl _ W).alloc (Nat.le_refl _) o)) h'

end Go.Proofs.YtbflhphjnmhjhaaGreat
