/- What a long walk knows of memory where the call writes boxes of its own: slices that read as bytes, as pairs, and lie beside the boxes; the boxes, row by row. Plain, over any program. -/
import Derived.Test.YtbflhphjnmhjhaaGreatGPairsIn
import Derived.Test.YtbflhphjnmhjhaaGreatGOwn
import Derived.Laws.Tables
namespace Go.Proofs.YtbflhphjnmhjhaaGreat
open Go.RowKit

abbrev Bx := Nat × Array Value × TypeId
structure EnvB (w : World) (ss : List (Option Addr × Nat × List UInt8)) (ps : List (Option Addr × Nat × List Pr)) (gs : List Bx) : Prop where
  s : ∀ x ∈ ss, Bs w w.heap.size x.1 x.2.1 x.2.2 ∧ (0 < x.2.1 → ∀ b o, x.1 = some ⟨b, o, none⟩ → ∀ y ∈ gs, b ≠ y.1)
  p : ∀ x ∈ ps, Ps w w.heap.size x.1 x.2.1 x.2.2 ∧ (0 < x.2.1 → ∀ b o, x.1 = some ⟨b, o, none⟩ → ∀ y ∈ gs, b ≠ y.1)
  g : ∀ y ∈ gs, w.heap[y.1]? = some (.cells y.2.1 y.2.2)
  d : (gs.map Prod.fst).Nodup
section
variable {w w' : World} {ss : List (Option Addr × Nat × List UInt8)} {ps : List (Option Addr × Nat × List Pr)} {gs : List Bx}
theorem EnvB.lt (h : EnvB w ss ps gs) {y : Bx} (hy : y ∈ gs) : y.1 < w.heap.size := (Array.getElem?_eq_some_iff.1 (h.g y hy)).1
theorem EnvB.nil (w : World) : EnvB w [] [] [] := ⟨fun _ h => (by cases h), fun _ h => (by cases h), fun _ h => (by cases h), by simp⟩
theorem EnvB.on (h : EnvB w ss ps gs) (hb : Below w.heap.size w w') : EnvB w' ss ps gs :=
  ⟨fun x hx => ⟨(h.s x hx).1.on hb, (h.s x hx).2⟩, fun x hx => ⟨(h.p x hx).1.on hb, (h.p x hx).2⟩, fun y hy => (hb.block _ (h.lt hy)).trans (h.g y hy), h.d⟩
theorem EnvB.al (h : EnvB w ss ps gs) (o : Obj) : EnvB (w.alloc o) ss ps gs := h.on ((Below.refl _ w).alloc (Nat.le_refl _) o)
theorem EnvB.drew (h : EnvB w ss ps gs) : EnvB w.drew ss ps gs := ⟨h.s, h.p, h.g, h.d⟩
/-- A slice that came in, while there is no box yet. -/
theorem EnvB.addS0 (h : EnvB w ss ps []) {A : Option Addr} {n : Nat} {xs : List UInt8} (hb : Bs w w.heap.size A n xs) : EnvB w ((A, n, xs) :: ss) ps [] :=
  ⟨fun x hx => by
    rcases List.mem_cons.1 hx with rfl | hx
    · exact ⟨hb, fun _ _ _ _ y hy => by cases hy⟩
    · exact h.s x hx, h.p, h.g, h.d⟩
theorem EnvB.addP0 (h : EnvB w ss ps []) {A : Option Addr} {n : Nat} {xs : List Pr} (hb : Ps w w.heap.size A n xs) : EnvB w ss ((A, n, xs) :: ps) [] :=
  ⟨h.s, fun x hx => by
    rcases List.mem_cons.1 hx with rfl | hx
    · exact ⟨hb, fun _ _ _ _ y hy => by cases hy⟩
    · exact h.p x hx, h.g, h.d⟩
/-- A box is laid. -/
theorem EnvB.boxg (h : EnvB w ss ps gs) (t : TypeId) (cs : Array Value) (g : Nat) (hg : w.heap.size = g) : EnvB (w.alloc (.cells cs t)) ss ps ((g, cs, t) :: gs) := by
  subst hg
  refine ⟨fun x hx => ⟨((h.al _).s x hx).1, fun hn b o e y hy => ?_⟩, fun x hx => ⟨((h.al _).p x hx).1, fun hn b o e y hy => ?_⟩, fun y hy => ?_, ?_⟩
  · rcases List.mem_cons.1 hy with rfl | hy
    · obtain ⟨b', o', e', hb, _⟩ := (h.s x hx).1.2 hn
      rw [e] at e'
      cases e'
      simp only
      omega
    · exact (h.s x hx).2 hn b o e y hy
  · rcases List.mem_cons.1 hy with rfl | hy
    · obtain ⟨b', o', e', hb, _⟩ := (h.p x hx).1.2 hn
      rw [e] at e'
      cases e'
      simp only
      omega
    · exact (h.p x hx).2 hn b o e y hy
  · rcases List.mem_cons.1 hy with rfl | hy
    · exact World.alloc_heap_new w _
    · exact (h.al _).g y hy
  · rw [List.map_cons, List.nodup_cons]
    refine ⟨fun hm => ?_, h.d⟩
    obtain ⟨y, hy, e⟩ := List.mem_map.1 hm
    have := h.lt hy
    simp only at e
    omega
theorem EnvB.box (h : EnvB w ss ps gs) (t : TypeId) (cs : Array Value) : EnvB (w.alloc (.cells cs t)) ss ps ((w.heap.size, cs, t) :: gs) := h.boxg t cs _ rfl
/-- What a call made of its own lies beside the boxes that were there. -/
theorem EnvB.callS (h : EnvB w ss ps gs) (hb : Below w.heap.size w w') {t : TypeId} {A : Option Addr} {n c : Nat} {xs : List UInt8} (ho : OwnB w' w.heap.size t (.slice A n c) xs) : EnvB w' ((A, n, xs) :: ss) ps gs := by
  have h' := h.on hb
  refine ⟨fun x hx => ?_, h'.p, h'.g, h'.d⟩
  rcases List.mem_cons.1 hx with rfl | hx
  · obtain ⟨A', c', e, _, _, h4, hbs⟩ := ho.form
    cases e
    refine ⟨hbs, fun _ b o e y hy => ?_⟩
    obtain ⟨g, eg, hg, _⟩ := h4 _ e
    cases eg
    have := h.lt hy
    omega
  · exact h'.s x hx
theorem EnvB.callP (h : EnvB w ss ps gs) (hb : Below w.heap.size w w') {t : TypeId} {A : Option Addr} {n c : Nat} {xs : List Pr} (ho : OwnP w' w.heap.size t (.slice A n c) xs) : EnvB w' ss ((A, n, xs) :: ps) gs := by
  have h' := h.on hb
  refine ⟨h'.s, fun x hx => ?_, h'.g, h'.d⟩
  rcases List.mem_cons.1 hx with rfl | hx
  · obtain ⟨A', c', e, _, _, h4, hbs⟩ := ho.form
    cases e
    refine ⟨hbs, fun _ b o e y hy => ?_⟩
    obtain ⟨g, eg, hg, _⟩ := h4 _ e
    cases eg
    have := h.lt hy
    omega
  · exact h'.p x hx
/-- A slice of nothing. -/
theorem EnvB.noneS (h : EnvB w ss ps gs) (A : Option Addr) : EnvB w ((A, 0, []) :: ss) ps gs :=
  ⟨fun x hx => by
    rcases List.mem_cons.1 hx with rfl | hx
    · exact ⟨⟨rfl, fun h => absurd h (by simp)⟩, fun h => absurd h (by simp)⟩
    · exact h.s x hx, h.p, h.g, h.d⟩
theorem EnvB.noneP (h : EnvB w ss ps gs) (A : Option Addr) : EnvB w ss ((A, 0, []) :: ps) gs :=
  ⟨h.s, fun x hx => by
    rcases List.mem_cons.1 hx with rfl | hx
    · exact ⟨⟨rfl, fun h => absurd h (by simp)⟩, fun h => absurd h (by simp)⟩
    · exact h.p x hx, h.g, h.d⟩
/-- One box turns, and nothing else. -/
theorem EnvB.turn (h : EnvB w ss ps gs) (i : Nat) {g : Nat} {old cs : Array Value} {t : TypeId} (hi : gs[i]? = some (g, old, t)) (hrow : w'.heap[g]? = some (.cells cs t)) (hoth : ∀ k, k ≠ g → w'.heap[k]? = w.heap[k]?) (hz : w'.heap.size = w.heap.size) :
    EnvB w' ss ps (gs.set i (g, cs, t)) := by
  have hmem : (g, old, t) ∈ gs := List.mem_of_getElem? hi
  have hfst : (gs.set i (g, cs, t)).map Prod.fst = gs.map Prod.fst := by
    rw [List.map_set]
    apply List.ext_getElem?
    intro k
    rw [List.getElem?_set]
    split
    · rename_i e
      subst e
      rw [List.getElem?_map, hi]
      have : i < gs.length := (List.getElem?_eq_some_iff.1 hi).1
      simp [this]
    · rfl
  have hsub : ∀ y ∈ gs.set i (g, cs, t), y.1 ∈ gs.map Prod.fst := fun y hy => by rw [← hfst]; exact List.mem_map_of_mem hy
  have cellk : ∀ b o : Nat, b ≠ g → w'.cell? ⟨b, o, none⟩ = w.cell? ⟨b, o, none⟩ := fun b o hb => World.cell?_of_block (a := ⟨b, o, none⟩) (hoth b hb)
  refine ⟨fun x hx => ⟨⟨(h.s x hx).1.1, fun hn => ?_⟩, fun hn b o e y hy => ?_⟩, fun x hx => ⟨⟨(h.p x hx).1.1, fun hn => ?_⟩, fun hn b o e y hy => ?_⟩, fun y hy => ?_, by rw [hfst]; exact h.d⟩
  · obtain ⟨b, o, e, hb, hc⟩ := (h.s x hx).1.2 hn
    have hne := (h.s x hx).2 hn b o e _ hmem
    exact ⟨b, o, e, by omega, fun j hj => (cellk b _ hne).trans (hc j hj)⟩
  · obtain ⟨z, hz2, ez⟩ := List.mem_map.1 (hsub y hy)
    rw [← ez]
    exact (h.s x hx).2 hn b o e z hz2
  · obtain ⟨b, o, e, hb, hc⟩ := (h.p x hx).1.2 hn
    have hne := (h.p x hx).2 hn b o e _ hmem
    exact ⟨b, o, e, by omega, fun j hj => ⟨(cellk b _ hne).trans (hc j hj).1, (cellk b _ hne).trans (hc j hj).2⟩⟩
  · obtain ⟨z, hz2, ez⟩ := List.mem_map.1 (hsub y hy)
    rw [← ez]
    exact (h.p x hx).2 hn b o e z hz2
  · obtain ⟨k, hk, ek⟩ := List.mem_iff_getElem.1 hy
    rw [List.getElem_set] at ek
    split at ek
    · subst ek
      exact hrow
    · rename_i hne
      have hk' : k < gs.length := by simpa using hk
      have hy2 : y ∈ gs := ek ▸ List.getElem_mem hk'
      have hne2 : y.1 ≠ g := fun e => by
        have n1 : (gs.map Prod.fst)[k]? = some g := by rw [List.getElem?_map, List.getElem?_eq_getElem hk', ek]; simp [e]
        have n2 : (gs.map Prod.fst)[i]? = some g := by rw [List.getElem?_map, hi]; rfl
        have hi' : i < (gs.map Prod.fst).length := (List.getElem?_eq_some_iff.1 n2).1
        exact hne ((List.getElem?_inj hi' h.d).1 (n2.trans n1.symm))
      rw [hoth _ hne2]
      exact h.g y hy2
theorem EnvB.row (h : EnvB w ss ps gs) (i : Nat) {g : Nat} {old : Array Value} {t : TypeId} (hi : gs[i]? = some (g, old, t)) : w.heap[g]? = some (.cells old t) := h.g _ (List.mem_of_getElem? hi)
theorem EnvB.setRow (h : EnvB w ss ps gs) (i : Nat) {g : Nat} {old : Array Value} {t : TypeId} (hi : gs[i]? = some (g, old, t)) (cs : Array Value) : EnvB (w.setRow g cs) ss ps (gs.set i (g, cs, t)) :=
  h.turn i hi (Go.setRow_heap w g old cs t _ (h.row i hi)) (fun k hk => Go.setRow_other w g k cs hk) (by simp [World.setRow])
theorem EnvB.setCell (h : EnvB w ss ps gs) (i : Nat) {g j : Nat} {old : Array Value} {t : TypeId} (hi : gs[i]? = some (g, old, t)) (v : Value) : EnvB (w.setCell ⟨g, j, none⟩ v) ss ps (gs.set i (g, old.setIfInBounds j v, t)) :=
  h.turn i hi (Go.heap_setCell_same w g j old t v (h.row i hi)) (fun k hk => Go.heap_setCell_other w ⟨g, j, none⟩ k v hk) (by simp)
end
end Go.Proofs.YtbflhphjnmhjhaaGreat
