/- The document's number, own, set. -/
import Derived.Test.YtgkbjopgmbdnoaaFrB
import Derived.Test.YtgkbjopgmbdnoaaFiF
import Derived.Test.YtgkbjopgmbdnoaaOcRStr
import Derived.Test.YtgkbjopgmbdnoaaOcTot
namespace Go.Proofs.Ytgkbjopgmbdnoaa
open Go.RowKit Oct Fi Fm
attribute [local go_sem] i64_and1 i64_and7 i64_and31
set_option linter.unusedSimpArgs false
namespace Fm
def numN (xs : List UInt8) (n i : Nat) : Nat := if i + 4 ≤ n then takeB ((xs.drop i).take 4) else 0
def ownN (xs : List UInt8) (n i : Nat) : Nat := if i + 4 ≤ n then takeB ((xs.drop i).take 4) % 2147483648 else 0
def setX (p : Pr) : Ft :=
  if (p.1.toNat = 2 ∨ p.1.toNat = 9) ∧ 1 < p.2.toNat then whole 1 else if p.1.toNat = 5 ∧ (p.2.toNat < 16384 ∨ 16777215 < p.2.toNat) then whole 1 else if p.1.toNat = 4 ∧ 2147483647 < p.2.toNat then whole 3 else fine
end Fm
theorem numN_lt (xs : List UInt8) (n i : Nat) : numN xs n i < 4294967296 := by
  unfold numN
  split
  · have := takeB_le xs i 4
    simpa using this
  · omega
theorem pf_boxes {w w1 : World} {u0 u1 v0 v1 v2 : Value} {t s : TypeId} (hb : Below ((w.alloc (.cells #[u0, u1] t)).alloc (.cells #[v0, v1, v2] s)).heap.size ((w.alloc (.cells #[u0, u1] t)).alloc (.cells #[v0, v1, v2] s)) w1) :
    (w1.cell? ⟨w.heap.size + 1, 0, none⟩ = some v0 ∧ w1.cell? ⟨w.heap.size + 1, 1, none⟩ = some v1 ∧ w1.cell? ⟨w.heap.size + 1, 2, none⟩ = some v2) ∧ (∀ j, w1.frozen? ⟨w.heap.size + 1, j, none⟩ = false) ∧ Below w.heap.size w w1 ∧ w1.heap[w.heap.size + 1]? = some (.cells #[v0, v1, v2] s) := by
  refine ⟨?_, fun j => ?_, ?_, ?_⟩
  · have h := c3_al (c3_new (w.alloc (.cells #[u0, u1] t)) s v0 v1 v2) hb (by simp)
    rwa [World.size_alloc] at h
  · rw [hb.frozen (p := ⟨w.heap.size + 1, j, none⟩) (by simp)]
    simp [go_sem]
  · exact (((Below.refl _ w).alloc (Nat.le_refl _) _).alloc (by simp) _).trans (hb.mono (by simp; omega))
  · rw [hb.block _ (by simp)]
    have h := World.alloc_heap_new (w.alloc (.cells #[u0, u1] t)) (.cells #[v0, v1, v2] s)
    rwa [World.size_alloc] at h
end Go.Proofs.Ytgkbjopgmbdnoaa
