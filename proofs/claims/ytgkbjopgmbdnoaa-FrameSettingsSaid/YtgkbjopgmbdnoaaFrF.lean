/- The document's values: the faults of what stands in a frame. -/
import Derived.Test.YtgkbjopgmbdnoaaFrD
namespace Go.Proofs.Ytgkbjopgmbdnoaa
open Go.RowKit Oct Fi Fm
set_option linter.unusedVariables false
set_option linter.unusedSimpArgs false
attribute [local go_sem] i64_and1 i64_and7 i64_and31
namespace Fm
def pairsX (l : List Pr) : Ft := match l.find? (fun p => decide (setX p ≠ fine)) with
  | some p => setX p
  | none => fine
def valuesI (px : Ft) (b8 bi bs b16 bl rk bd : Bool) (st : Int) : Ft :=
  if px ≠ fine then px else if b8 && bi && bs then whole 1 else if b8 && bi then (false, st, 1) else if b16 && bl then whole 1 else if rk && bd then (false, st, 1) else fine
def valuesX (f : Fr) : Ft := valuesI (pairsX f.ps) ((f.kd.toNat : Int) == 8) (f.ic == 0) (f.st == 0) ((f.kd.toNat : Int) == 16) (f.la == 0) f.rk (f.dp == f.st) f.st
end Fm
theorem setX_ways (p : Pr) : setX p = fine ∨ setX p = whole 1 ∨ setX p = whole 3 := by
  unfold setX
  split
  · exact .inr (.inl rfl)
  · split
    · exact .inr (.inl rfl)
    · split
      · exact .inr (.inr rfl)
      · exact .inl rfl
theorem pairsX_hit {l : List Pr} {j : Nat} {x : Pr} (hx : l[j]? = some x) (hall : ∀ p ∈ l.take j, setX p = fine) (hn : setX x ≠ fine) : pairsX l = setX x := by
  obtain ⟨h1, h2⟩ := List.getElem?_eq_some_iff.1 hx
  have e : l = l.take j ++ x :: l.drop (j + 1) := by
    have := List.take_append_drop j l
    rw [List.drop_eq_getElem_cons h1, h2] at this
    exact this.symm
  unfold pairsX
  have hf : l.find? (fun p => decide (setX p ≠ fine)) = some x := by
    rw [e, List.find?_append, List.find?_eq_none.2 (fun p hp => by simp [hall p hp])]
    simp [hn]
  rw [hf]
theorem pairsX_none {l : List Pr} (hall : ∀ p ∈ l, setX p = fine) : pairsX l = fine := by
  unfold pairsX
  rw [List.find?_eq_none.2 (fun p hp => by simp [hall p hp])]
theorem fx_boxes {w w1 : World} {a0 a1 a2 a3 a4 a5 a6 a7 a8 a9 a10 a11 a12 v0 v1 v2 : Value} {t s : TypeId} (hb : Below ((w.alloc (.cells #[a0, a1, a2, a3, a4, a5, a6, a7, a8, a9, a10, a11, a12] t)).alloc (.cells #[v0, v1, v2] s)).heap.size ((w.alloc (.cells #[a0, a1, a2, a3, a4, a5, a6, a7, a8, a9, a10, a11, a12] t)).alloc (.cells #[v0, v1, v2] s)) w1) :
    (w1.cell? ⟨w.heap.size, 0, none⟩ = some a0 ∧ w1.cell? ⟨w.heap.size, 1, none⟩ = some a1 ∧ w1.cell? ⟨w.heap.size, 2, none⟩ = some a2 ∧ w1.cell? ⟨w.heap.size, 3, none⟩ = some a3 ∧ w1.cell? ⟨w.heap.size, 4, none⟩ = some a4 ∧ w1.cell? ⟨w.heap.size, 5, none⟩ = some a5 ∧ w1.cell? ⟨w.heap.size, 6, none⟩ = some a6 ∧ w1.cell? ⟨w.heap.size, 7, none⟩ = some a7 ∧ w1.cell? ⟨w.heap.size, 8, none⟩ = some a8 ∧ w1.cell? ⟨w.heap.size, 9, none⟩ = some a9 ∧ w1.cell? ⟨w.heap.size, 10, none⟩ = some a10 ∧ w1.cell? ⟨w.heap.size, 11, none⟩ = some a11 ∧ w1.cell? ⟨w.heap.size, 12, none⟩ = some a12) ∧
    (w1.cell? ⟨w.heap.size + 1, 0, none⟩ = some v0 ∧ w1.cell? ⟨w.heap.size + 1, 1, none⟩ = some v1 ∧ w1.cell? ⟨w.heap.size + 1, 2, none⟩ = some v2) ∧ (∀ j, w1.frozen? ⟨w.heap.size + 1, j, none⟩ = false) ∧ Below w.heap.size w w1 ∧ w1.heap[w.heap.size + 1]? = some (.cells #[v0, v1, v2] s) := by
  have hr : w1.heap[w.heap.size]? = some (.cells #[a0, a1, a2, a3, a4, a5, a6, a7, a8, a9, a10, a11, a12] t) := by
    rw [hb.block _ (by simp; omega), Below.heap_alloc _ _ _ (by simp)]
    exact World.alloc_heap_new w _
  have hx : w1.heap[w.heap.size + 1]? = some (.cells #[v0, v1, v2] s) := by
    rw [hb.block _ (by simp)]
    have h := World.alloc_heap_new (w.alloc (.cells #[a0, a1, a2, a3, a4, a5, a6, a7, a8, a9, a10, a11, a12] t)) (.cells #[v0, v1, v2] s)
    rwa [World.size_alloc] at h
  refine ⟨c13_row hr, ⟨?_, ?_, ?_⟩, fun j => frozen_of_row w1 _ j _ s hx, ?_, hx⟩
  · rw [cell_of_row _ _ _ _ _ (0, 0) hx]; rfl
  · rw [cell_of_row _ _ _ _ _ (0, 0) hx]; rfl
  · rw [cell_of_row _ _ _ _ _ (0, 0) hx]; rfl
  · exact (((Below.refl _ w).alloc (Nat.le_refl _) _).alloc (by simp) _).trans (hb.mono (by simp; omega))
theorem c2_at {w w1 : World} {b i k : Nat} {u v : Value} {o o' : Obj} (h : w.cell? ⟨b, i, none⟩ = some u ∧ w.cell? ⟨b, k, none⟩ = some v) (hb : b < w.heap.size) (hb1 : Below ((w.alloc o).alloc o').heap.size ((w.alloc o).alloc o') w1) : w1.cell? ⟨b, i, none⟩ = some u ∧ w1.cell? ⟨b, k, none⟩ = some v := by
  have hl : b < (w.alloc o).heap.size := by simp; omega
  have hl2 : b < ((w.alloc o).alloc o').heap.size := by simp; omega
  exact ⟨cell_on hb1 hl2 (cell_al hl (cell_al hb h.1)), cell_on hb1 hl2 (cell_al hl (cell_al hb h.2))⟩
end Go.Proofs.Ytgkbjopgmbdnoaa
