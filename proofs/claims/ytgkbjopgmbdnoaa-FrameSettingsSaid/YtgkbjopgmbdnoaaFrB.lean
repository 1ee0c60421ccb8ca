/- The document's ahead: the faults that are told before a payload is taken apart. -/
import Derived.Test.YtgkbjopgmbdnoaaFrA
import Derived.Test.YtgkbjopgmbdnoaaFiD
namespace Go.Proofs.Ytgkbjopgmbdnoaa
open Go.RowKit Oct Fi Fm
attribute [local go_sem] i64_and1 i64_and7 i64_and31

/-- The boxes of a head and of a fault, laid one behind the other, in any later world. -/
theorem hf_boxes {w w1 : World} {u0 u1 u2 u3 v0 v1 v2 : Value} {t s : TypeId} (hb : Below ((w.alloc (.cells #[u0, u1, u2, u3] t)).alloc (.cells #[v0, v1, v2] s)).heap.size ((w.alloc (.cells #[u0, u1, u2, u3] t)).alloc (.cells #[v0, v1, v2] s)) w1) :
    (w1.cell? ⟨w.heap.size, 0, none⟩ = some u0 ∧ w1.cell? ⟨w.heap.size, 1, none⟩ = some u1 ∧ w1.cell? ⟨w.heap.size, 2, none⟩ = some u2 ∧ w1.cell? ⟨w.heap.size, 3, none⟩ = some u3) ∧
    (w1.cell? ⟨w.heap.size + 1, 0, none⟩ = some v0 ∧ w1.cell? ⟨w.heap.size + 1, 1, none⟩ = some v1 ∧ w1.cell? ⟨w.heap.size + 1, 2, none⟩ = some v2) ∧ (∀ j, w1.frozen? ⟨w.heap.size + 1, j, none⟩ = false) ∧ Below w.heap.size w w1 ∧ w1.heap[w.heap.size + 1]? = some (.cells #[v0, v1, v2] s) := by
  refine ⟨?_, ?_, fun j => ?_, ?_, ?_⟩
  · have h := ((Four.new w t u0 u1 u2 u3).below ((Below.refl _ _).alloc (Nat.le_refl _) (.cells #[v0, v1, v2] s)) (by simp)).below hb (by simp; omega)
    exact h
  · have h := c3_al (c3_new (w.alloc (.cells #[u0, u1, u2, u3] t)) s v0 v1 v2) hb (by simp)
    rwa [World.size_alloc] at h
  · rw [hb.frozen (p := ⟨w.heap.size + 1, j, none⟩) (by simp)]
    simp [go_sem]
  · exact (((Below.refl _ w).alloc (Nat.le_refl _) _).alloc (by simp) _).trans (hb.mono (by simp; omega))
  · rw [hb.block _ (by simp)]
    have h := World.alloc_heap_new (w.alloc (.cells #[u0, u1, u2, u3] t)) (.cells #[v0, v1, v2] s)
    rwa [World.size_alloc] at h
theorem row_set3 {w : World} {g : Nat} {v0 v1 v2 : Value} {s : TypeId} (h : w.heap[g]? = some (.cells #[v0, v1, v2] s)) (u0 u1 u2 : Value) : (set3 w g u0 u1 u2).heap[g]? = some (.cells #[u0, u1, u2] s) := by
  unfold set3
  have h0 := heap_setCell_same w g 0 _ s u0 h
  have h1 := heap_setCell_same _ g 1 _ s u1 h0
  have h2 := heap_setCell_same _ g 2 _ s u2 h1
  simpa using h2
theorem fault_res {fn : Func} {p : Tmp} (hfn : fn.results = #[.cell p 39]) (tmps : Array Value) {w : World} {g : Nat} {v0 v1 v2 u0 u1 u2 : Value} {s : TypeId} (h : w.heap[g]? = some (.cells #[v0, v1, v2] s)) (hp : tmps.getD p undef = .pointer (some ⟨g, 0, none⟩)) :
    (results fn tmps).run Try.prog (set3 w g u0 u1 u2) = .ok (.agg #[u0, u1, u2]) (set3 w g u0 u1 u2) :=
  results_cell_row hfn tmps _ g s _ _ _ hp (row_set3 h u0 u1 u2) Try.underlying39 rfl (by kernel_rfl)
end Go.Proofs.Ytgkbjopgmbdnoaa
