/- A struct of four cells in a block: stored, read; what is the call's own beside it. Plain, over any program. -/
import Derived.Test.YtbflhphjnmhjhaaGreatGMem
namespace Go.Proofs.YtbflhphjnmhjhaaGreat
open Go.RowKit

theorem bcell {B : Nat} {W w1 : World} (hb : Below B W w1) : (∀ b o, b < B → w1.cell? ⟨b, o, none⟩ = W.cell? ⟨b, o, none⟩) ∧ (∀ b o, b < B → w1.frozen? ⟨b, o, none⟩ = W.frozen? ⟨b, o, none⟩) :=
  ⟨fun b o h => hb.cell (p := ⟨b, o, none⟩) h, fun b o h => hb.frozen (p := ⟨b, o, none⟩) h⟩
/-- The four cells of block g. -/
def Four (w : World) (g : Nat) (u0 u1 u2 u3 : Value) : Prop :=
  w.cell? ⟨g, 0, none⟩ = some u0 ∧ w.cell? ⟨g, 1, none⟩ = some u1 ∧ w.cell? ⟨g, 2, none⟩ = some u2 ∧ w.cell? ⟨g, 3, none⟩ = some u3
def set4 (w : World) (g : Nat) (u0 u1 u2 u3 : Value) : World :=
  (((w.setCell ⟨g, 0, none⟩ u0).setCell ⟨g, 1, none⟩ u1).setCell ⟨g, 2, none⟩ u2).setCell ⟨g, 3, none⟩ u3
section
variable {w w' : World} {g : Nat} {u0 u1 u2 u3 v0 v1 v2 v3 : Value}
theorem Four.set (h : Four w g u0 u1 u2 u3) (v0 v1 v2 v3 : Value) : Four (set4 w g v0 v1 v2 v3) g v0 v1 v2 v3 := by
  obtain ⟨h0, h1, h2, h3⟩ := h
  have ne : ∀ i j : Nat, i ≠ j → (⟨g, i, none⟩ : Addr) ≠ ⟨g, j, none⟩ := fun i j hij e => hij (by cases e; rfl)
  unfold Four set4
  refine ⟨?_, ?_, ?_, ?_⟩
  · rw [World.cell?_setCell_other _ _ _ _ (ne 3 0 (by omega)), World.cell?_setCell_other _ _ _ _ (ne 2 0 (by omega)), World.cell?_setCell_other _ _ _ _ (ne 1 0 (by omega))]
    exact World.cell?_setCell_same' _ _ _ (by rw [h0]; rfl)
  · rw [World.cell?_setCell_other _ _ _ _ (ne 3 1 (by omega)), World.cell?_setCell_other _ _ _ _ (ne 2 1 (by omega))]
    refine World.cell?_setCell_same' _ _ _ ?_
    rw [World.cell?_setCell_other _ _ _ _ (ne 0 1 (by omega)), h1]; rfl
  · rw [World.cell?_setCell_other _ _ _ _ (ne 3 2 (by omega))]
    refine World.cell?_setCell_same' _ _ _ ?_
    rw [World.cell?_setCell_other _ _ _ _ (ne 1 2 (by omega)), World.cell?_setCell_other _ _ _ _ (ne 0 2 (by omega)), h2]; rfl
  · refine World.cell?_setCell_same' _ _ _ ?_
    rw [World.cell?_setCell_other _ _ _ _ (ne 2 3 (by omega)), World.cell?_setCell_other _ _ _ _ (ne 1 3 (by omega)), World.cell?_setCell_other _ _ _ _ (ne 0 3 (by omega)), h3]; rfl
theorem Four.set0 (h : Four w g u0 u1 u2 u3) (v0 : Value) : Four (w.setCell ⟨g, 0, none⟩ v0) g v0 u1 u2 u3 := by
  obtain ⟨h0, h1, h2, h3⟩ := h
  have ne : ∀ i : Nat, i ≠ 0 → (⟨g, 0, none⟩ : Addr) ≠ ⟨g, i, none⟩ := fun i hi e => hi (by cases e; rfl)
  refine ⟨World.cell?_setCell_same' _ _ _ (by rw [h0]; rfl), ?_, ?_, ?_⟩
  · rw [World.cell?_setCell_other _ _ _ _ (ne 1 (by omega)), h1]
  · rw [World.cell?_setCell_other _ _ _ _ (ne 2 (by omega)), h2]
  · rw [World.cell?_setCell_other _ _ _ _ (ne 3 (by omega)), h3]
theorem Four.new (w : World) (t : TypeId) (u0 u1 u2 u3 : Value) : Four (w.alloc (.cells #[u0, u1, u2, u3] t)) w.heap.size u0 u1 u2 u3 := by
  have h := World.alloc_heap_new w (.cells #[u0, u1, u2, u3] t)
  refine ⟨?_, ?_, ?_, ?_⟩ <;> (unfold World.cell?; simp only [h]; rfl)
theorem Four.below {B : Nat} (h : Four w g u0 u1 u2 u3) (hb : Below B w w') (hg : g < B) : Four w' g u0 u1 u2 u3 :=
  ⟨(hb.cell (p := ⟨g, 0, none⟩) hg).trans h.1, (hb.cell (p := ⟨g, 1, none⟩) hg).trans h.2.1, (hb.cell (p := ⟨g, 2, none⟩) hg).trans h.2.2.1, (hb.cell (p := ⟨g, 3, none⟩) hg).trans h.2.2.2⟩
theorem Four.drew (h : Four w g u0 u1 u2 u3) : Four w.drew g u0 u1 u2 u3 := h
theorem set4_heap (w : World) (g : Nat) (u0 u1 u2 u3 : Value) (k : Nat) (hk : k ≠ g) : (set4 w g u0 u1 u2 u3).heap[k]? = w.heap[k]? := by
  unfold set4
  rw [Below.heap_setCell _ _ _ _ (by simpa using hk), Below.heap_setCell _ _ _ _ (by simpa using hk), Below.heap_setCell _ _ _ _ (by simpa using hk), Below.heap_setCell _ _ _ _ (by simpa using hk)]
theorem set4_below {B : Nat} {a : World} (h : Below B a w) (hg : B ≤ g) (u0 u1 u2 u3 : Value) : Below B a (set4 w g u0 u1 u2 u3) :=
  (((h.setCell (p := ⟨g, 0, none⟩) hg _).setCell (p := ⟨g, 1, none⟩) hg _).setCell (p := ⟨g, 2, none⟩) hg _).setCell (p := ⟨g, 3, none⟩) hg _
theorem set4_size (w : World) (g : Nat) (u0 u1 u2 u3 : Value) : (set4 w g u0 u1 u2 u3).heap.size = w.heap.size := by simp [set4, World.setCell]
end
theorem OwnB.above {w w' : World} {B : Nat} {t : TypeId} {v : Value} {xs : List UInt8} (h : OwnB w B t v xs) (hk : ∀ k, B ≤ k → w'.heap[k]? = w.heap[k]?) : OwnB w' B t v xs := by
  refine ⟨h.1, ?_⟩
  rcases h.2 with h2 | ⟨g, cap, cur, e, hg, hh, rest⟩
  · exact .inl h2
  · exact .inr ⟨g, cap, cur, e, hg, (hk g hg).trans hh, rest⟩
theorem Bs.drop {w : World} {B n k : Nat} {b o : Nat} {xs : List UInt8} (h : Bs w B (some ⟨b, o, none⟩) n xs) (hk : k ≤ n) : Bs w B (some ⟨b, o + k, none⟩) (n - k) (xs.drop k) :=
  ⟨by rw [List.length_drop, h.1], fun hn => by
    obtain ⟨b', o', e, hb, hc⟩ := h.2 (by omega)
    cases e
    refine ⟨b, o + k, rfl, hb, fun j hj => ?_⟩
    rw [List.getElem?_drop, Nat.add_assoc]
    exact hc (k + j) (by omega)⟩
/-- What a slice expression s[k:] leaves, in the walk's own spelling. -/
theorem Bs.cut {w : World} {B n c k : Nat} {b o : Nat} {xs : List UInt8} (h : Bs w B (some ⟨b, o, none⟩) n xs) (hk : k ≤ n) (hc : n ≤ c) :
    Bs w B (if c = k then some ⟨b, o, none⟩ else some ⟨b, o + k, none⟩) (n - k) (xs.drop k) := by
  by_cases e : c = k
  · rw [if_pos e]
    have hn : n = k := by omega
    have h1 : xs.drop k = [] := List.drop_eq_nil_of_le (by rw [h.1]; omega)
    rw [h1, hn, Nat.sub_self]
    exact ⟨rfl, fun h => absurd h (by omega)⟩
  · rw [if_neg e]
    exact h.drop hk
theorem if_some_ne {c k : Nat} {a b : Addr} {p : Prop} : (if c = k then some a else some b) = none → p := fun h => by split at h <;> cases h
/-- No bytes, wherever they stand. -/
theorem Bs.empty (w : World) (B : Nat) (A : Option Addr) : Bs w B A 0 [] := ⟨rfl, fun h => absurd h (by omega)⟩
end Go.Proofs.YtbflhphjnmhjhaaGreat
