/- The document's Same of frames; Great. -/
import Derived.Test.YtmbjmpijilmbkaaMx
import Derived.Test.YtmbjmpijilmbkaaFiI
import Derived.Test.YtmbjmpijilmbkaaGStr
namespace Go.Proofs.Ytmbjmpijilmbkaa
open Go.RowKit Oct Fi Fm
set_option linter.unusedVariables false
set_option linter.unusedSimpArgs false
attribute [local go_sem] i64_and1 i64_and7 i64_and31

theorem ff_boxes {w w1 : World} {a0 a1 a2 a3 a4 a5 a6 a7 a8 a9 a10 a11 a12 b0 b1 b2 b3 b4 b5 b6 b7 b8 b9 b10 b11 b12 : Value} {t s : TypeId} (hb : Below ((w.alloc (.cells #[a0, a1, a2, a3, a4, a5, a6, a7, a8, a9, a10, a11, a12] t)).alloc (.cells #[b0, b1, b2, b3, b4, b5, b6, b7, b8, b9, b10, b11, b12] s)).heap.size ((w.alloc (.cells #[a0, a1, a2, a3, a4, a5, a6, a7, a8, a9, a10, a11, a12] t)).alloc (.cells #[b0, b1, b2, b3, b4, b5, b6, b7, b8, b9, b10, b11, b12] s)) w1) :
    (w1.cell? ⟨w.heap.size, 0, none⟩ = some a0 ∧ w1.cell? ⟨w.heap.size, 1, none⟩ = some a1 ∧ w1.cell? ⟨w.heap.size, 2, none⟩ = some a2 ∧ w1.cell? ⟨w.heap.size, 3, none⟩ = some a3 ∧ w1.cell? ⟨w.heap.size, 4, none⟩ = some a4 ∧ w1.cell? ⟨w.heap.size, 5, none⟩ = some a5 ∧ w1.cell? ⟨w.heap.size, 6, none⟩ = some a6 ∧ w1.cell? ⟨w.heap.size, 7, none⟩ = some a7 ∧ w1.cell? ⟨w.heap.size, 8, none⟩ = some a8 ∧ w1.cell? ⟨w.heap.size, 9, none⟩ = some a9 ∧ w1.cell? ⟨w.heap.size, 10, none⟩ = some a10 ∧ w1.cell? ⟨w.heap.size, 11, none⟩ = some a11 ∧ w1.cell? ⟨w.heap.size, 12, none⟩ = some a12) ∧ (w1.cell? ⟨w.heap.size + 1, 0, none⟩ = some b0 ∧ w1.cell? ⟨w.heap.size + 1, 1, none⟩ = some b1 ∧ w1.cell? ⟨w.heap.size + 1, 2, none⟩ = some b2 ∧ w1.cell? ⟨w.heap.size + 1, 3, none⟩ = some b3 ∧ w1.cell? ⟨w.heap.size + 1, 4, none⟩ = some b4 ∧ w1.cell? ⟨w.heap.size + 1, 5, none⟩ = some b5 ∧ w1.cell? ⟨w.heap.size + 1, 6, none⟩ = some b6 ∧ w1.cell? ⟨w.heap.size + 1, 7, none⟩ = some b7 ∧ w1.cell? ⟨w.heap.size + 1, 8, none⟩ = some b8 ∧ w1.cell? ⟨w.heap.size + 1, 9, none⟩ = some b9 ∧ w1.cell? ⟨w.heap.size + 1, 10, none⟩ = some b10 ∧ w1.cell? ⟨w.heap.size + 1, 11, none⟩ = some b11 ∧ w1.cell? ⟨w.heap.size + 1, 12, none⟩ = some b12) := by
  refine ⟨c13_row (t := t) ?_, c13_row (t := s) ?_⟩
  · rw [hb.block _ (by simp; omega), Below.heap_alloc _ _ _ (by simp)]
    exact World.alloc_heap_new w _
  · rw [hb.block _ (by simp)]
    have h := World.alloc_heap_new (w.alloc (.cells #[a0, a1, a2, a3, a4, a5, a6, a7, a8, a9, a10, a11, a12] t)) (.cells #[b0, b1, b2, b3, b4, b5, b6, b7, b8, b9, b10, b11, b12] s)
    rwa [World.size_alloc] at h
end Go.Proofs.Ytmbjmpijilmbkaa
