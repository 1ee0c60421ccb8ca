/- What a long walk knows of memory, in one word: slices that read as bytes, as pairs, blocks of cells. Plain, over any program. -/
import Derived.Test.YtbflhphjnmhjhaaGreatGPairs
import Derived.Test.YtbflhphjnmhjhaaGreatGFour
namespace Go.Proofs.YtbflhphjnmhjhaaGreat
open Go.RowKit

structure EnvP (w : World) (ss : List (Option Addr × Nat × List UInt8)) (ps : List (Option Addr × Nat × List Pr)) (gs : List (Nat × List Value)) : Prop where
  s : ∀ x ∈ ss, Bs w w.heap.size x.1 x.2.1 x.2.2
  p : ∀ x ∈ ps, Ps w w.heap.size x.1 x.2.1 x.2.2
  g : ∀ x ∈ gs, x.1 < w.heap.size ∧ ∀ j v, x.2[j]? = some v → w.cell? ⟨x.1, j, none⟩ = some v
section
variable {w w' : World} {ss : List (Option Addr × Nat × List UInt8)} {ps : List (Option Addr × Nat × List Pr)} {gs : List (Nat × List Value)}
theorem EnvP.nil (w : World) : EnvP w [] [] [] := ⟨fun _ h => (by cases h), fun _ h => (by cases h), fun _ h => (by cases h)⟩
theorem EnvP.on (h : EnvP w ss ps gs) (hb : Below w.heap.size w w') : EnvP w' ss ps gs :=
  ⟨fun x hx => (h.s x hx).on hb, fun x hx => (h.p x hx).on hb, fun x hx => ⟨Nat.lt_of_lt_of_le (h.g x hx).1 hb.size, fun j v hv => (hb.cell (p := ⟨x.1, j, none⟩) (h.g x hx).1).trans ((h.g x hx).2 j v hv)⟩⟩
theorem EnvP.al (h : EnvP w ss ps gs) (o : Obj) : EnvP (w.alloc o) ss ps gs := h.on ((Below.refl _ w).alloc (Nat.le_refl _) o)
theorem EnvP.drew (h : EnvP w ss ps gs) : EnvP w.drew ss ps gs := ⟨h.s, h.p, h.g⟩
theorem EnvP.addS (h : EnvP w ss ps gs) {A : Option Addr} {n : Nat} {xs : List UInt8} (hb : Bs w w.heap.size A n xs) : EnvP w ((A, n, xs) :: ss) ps gs :=
  ⟨fun x hx => by
    rcases List.mem_cons.1 hx with rfl | hx
    · exact hb
    · exact h.s x hx, h.p, h.g⟩
theorem EnvP.addP (h : EnvP w ss ps gs) {A : Option Addr} {n : Nat} {xs : List Pr} (hb : Ps w w.heap.size A n xs) : EnvP w ss ((A, n, xs) :: ps) gs :=
  ⟨h.s, fun x hx => by
    rcases List.mem_cons.1 hx with rfl | hx
    · exact hb
    · exact h.p x hx, h.g⟩
theorem EnvP.boxg (h : EnvP w ss ps gs) (t : TypeId) (cs : Array Value) (g : Nat) (hg : w.heap.size = g) : EnvP (w.alloc (.cells cs t)) ss ps ((g, cs.toList) :: gs) := by
  subst hg
  refine ⟨(h.al _).s, (h.al _).p, fun x hx => ?_⟩
  rcases List.mem_cons.1 hx with rfl | hx
  · refine ⟨by simp, fun j v hv => ?_⟩
    rw [cell_of_row _ w.heap.size j cs t (0, 0) (World.alloc_heap_new w _)]
    simpa using hv
  · exact (h.al _).g x hx
theorem EnvP.box (h : EnvP w ss ps gs) (t : TypeId) (cs : Array Value) : EnvP (w.alloc (.cells cs t)) ss ps ((w.heap.size, cs.toList) :: gs) := h.boxg t cs _ rfl
theorem EnvP.litg (h : EnvP w ss ps gs) (t : TypeId) (xs : List UInt8) (cs : Array Value) (hx : (xs.map bv).toArray = cs) (g : Nat) (hg : w.heap.size = g) : EnvP (w.alloc (.cells cs t)) ((some ⟨g, 0, none⟩, xs.length, xs) :: ss) ps gs :=
  (h.al _).addS (by rw [World.size_alloc]; subst hg; exact bs_lit w t xs cs _ rfl hx)
theorem EnvP.litp (h : EnvP w ss ps gs) (t : TypeId) (xs : List Pr) (cs : Array Value) (hx : (xs.flatMap pc).toArray = cs) (g : Nat) (hg : w.heap.size = g) : EnvP (w.alloc (.cells cs t)) ss ((some ⟨g, 0, none⟩, xs.length, xs) :: ps) gs :=
  (h.al _).addP (by rw [World.size_alloc]; subst hg; exact ps_lit w t xs cs _ rfl hx)
theorem EnvP.c3 (h : EnvP w ss ps gs) {g : Nat} {a b c : Value} (hm : (g, [a, b, c]) ∈ gs) : w.cell? ⟨g, 0, none⟩ = some a ∧ w.cell? ⟨g, 1, none⟩ = some b ∧ w.cell? ⟨g, 2, none⟩ = some c :=
  ⟨(h.g _ hm).2 0 _ rfl, (h.g _ hm).2 1 _ rfl, (h.g _ hm).2 2 _ rfl⟩
theorem EnvP.c2 (h : EnvP w ss ps gs) {g : Nat} {a b : Value} (hm : (g, [a, b]) ∈ gs) : w.cell? ⟨g, 0, none⟩ = some a ∧ w.cell? ⟨g, 1, none⟩ = some b :=
  ⟨(h.g _ hm).2 0 _ rfl, (h.g _ hm).2 1 _ rfl⟩
end
end Go.Proofs.YtbflhphjnmhjhaaGreat
