/- head.Put: a head's nine bytes, in memory of the call's own. -/
import Derived.Test.YtjoopekgbfplpaaHdO
import Derived.Laws.EntriesVeiled
import Derived.Maps.AppendAt
namespace Go.Proofs.Ytjoopekgbfplpaa
open Go.RowKit Oct Go.Shelf
attribute [local go_sem] Oper.semAt_some

theorem put_box {w w1 w2 : World} {u0 u1 u2 u3 : Value} {t s : TypeId} (hb1 : Below ((w.alloc (.cells #[u0, u1, u2, u3] t)).alloc (.cells #[.slice none 0 0] s)).heap.size ((w.alloc (.cells #[u0, u1, u2, u3] t)).alloc (.cells #[.slice none 0 0] s)) w1) (hb2 : Below w1.heap.size w1 w2) :
    w2.cell? ⟨w.heap.size + 1, 0, none⟩ = some (.slice none 0 0) ∧ w2.frozen? ⟨w.heap.size + 1, 0, none⟩ = false ∧ Four w2 w.heap.size u0 u1 u2 u3 := by
  have hb := hb1.trans (hb2.mono hb1.size)
  refine ⟨?_, ?_, ?_⟩
  · rw [hb.cell (p := ⟨w.heap.size + 1, 0, none⟩) (by simp)]; simp [go_sem]
  · rw [hb.frozen (p := ⟨w.heap.size + 1, 0, none⟩) (by simp)]; simp [go_sem]
  · exact Four.below (B := ((w.alloc (.cells #[u0, u1, u2, u3] t)).alloc (.cells #[.slice none 0 0] s)).heap.size) ((Four.new w t u0 u1 u2 u3).below ((Below.refl (w.alloc (.cells #[u0, u1, u2, u3] t)).heap.size _).alloc (Nat.le_refl _) _) (by simp)) hb (by simp; omega)
/-- What holds between two rounds. -/
structure PutI (w : World) (r : Nat) (pre : List UInt8) (W : World) : Prop where
  cell : W.cell? ⟨w.heap.size + 1, 0, none⟩ = some (.slice (some ⟨r, 0, none⟩) pre.length 9)
  free : W.frozen? ⟨w.heap.size + 1, 0, none⟩ = false
  own : OwnB W w.heap.size 5 (.slice (some ⟨r, 0, none⟩) pre.length 9) pre
  below : Below w.heap.size w W
theorem ownB_grown {W W' : World} {B : Nat} {t : TypeId} {r n c : Nat} {xs : List UInt8} {row : Option Nat} (h : OwnB W B t (.slice (some ⟨r, 0, none⟩) n c) xs) (hg : W.grownBy W' row) (hr : ∀ k, row = some k → ∃ o : Obj, W.heap[k]? = some o ∧ o.isCells = false) : OwnB W' B t (.slice (some ⟨r, 0, none⟩) n c) xs := by
  refine ⟨h.1, ?_⟩
  rcases h.2 with ⟨h2, _⟩ | ⟨g, cap, cur, e, hB, hh, rest⟩
  · cases h2
  · refine .inr ⟨g, cap, cur, e, hB, ?_, rest⟩
    rw [hg.block g (Array.getElem?_eq_some_iff.1 hh).1 (fun e2 => by obtain ⟨o, ho, hc⟩ := hr g e2.symm; rw [hh] at ho; cases ho; cases hc)]
    exact hh
theorem putI_own {w : World} {r B : Nat} (hB : w.heap.size ≤ B) : OwnFrom B (PutI w r) := by
  intro s W W' row hs hg hr
  have hr' : ∀ k, row = some k → ∃ o : Obj, W.heap[k]? = some o ∧ o.isCells = false := fun k e => (hr k e).2
  exact ⟨cell_kept hs.cell hg hr', (frozen_kept hs.cell hg hr').trans hs.free, ownB_grown hs.own hg hr', hs.below.grown hg hs.below.size (fun k e => Nat.le_trans hB (hr k e).1)⟩
theorem ownB_lt {W : World} {B : Nat} {t : TypeId} {r n c : Nat} {xs : List UInt8} (h : OwnB W B t (.slice (some ⟨r, 0, none⟩) n c) xs) : r < W.heap.size ∧ B ≤ r := by
  rcases h.2 with ⟨h2, _⟩ | ⟨g, cap, cur, e, hB, hh, rest⟩
  · cases h2
  · cases e
    exact ⟨(Array.getElem?_eq_some_iff.1 hh).1, hB⟩
theorem put_box2 {w W W2 : World} {r : Nat} {pre : List UInt8} {o : Obj} (hI : PutI w r pre W) (hr : w.heap.size + 1 ≠ r) (hg : (W.alloc o).grownBy W2 (some r)) :
    W2.cell? ⟨w.heap.size + 1, 0, none⟩ = some (.slice (some ⟨r, 0, none⟩) pre.length 9) ∧ W2.frozen? ⟨w.heap.size + 1, 0, none⟩ = false := by
  obtain ⟨o1, ho1, hcell⟩ := cells_of_cell hI.cell
  have hlt : w.heap.size + 1 < W.heap.size := (Array.getElem?_eq_some_iff.1 ho1).1
  have hb : W2.heap[w.heap.size + 1]? = W.heap[w.heap.size + 1]? := (hg.block _ (by simp; omega) (fun e => hr (by cases e; rfl))).trans (Below.heap_alloc _ _ _ hlt)
  refine ⟨(World.cell?_of_block (a := ⟨w.heap.size + 1, 0, none⟩) hb).trans hI.cell, ?_⟩
  have hf := hI.free
  unfold World.frozen? at hf ⊢
  simp only [hb]
  exact hf
theorem put_round {w W0 W W2 : World} {r : Nat} {pre : List UInt8} {x : UInt8} {o : Obj} {a : Act} (hI : PutI w r pre W) (hr : w.heap.size + 1 < r) (hg : (W.alloc o).grownBy W2 (some r))
    (ho : W2.ownsRow w.heap.size 5 1 (.slice (some ⟨r, 0, none⟩) (pre.length + 1) 9) (pre.length + 1) (pre.map bv ++ [.int .u8 (x.toNat : Int)])) :
    ownPostG W0.heap.size (KeepC fun j => j ≠ w.heap.size + 1 ∧ j ≠ r) (PutI w r) (fun _ _ _ => False) (pre ++ [x]) W Exit.normal a (W2.setCell ⟨w.heap.size + 1, 0, none⟩ (.slice (some ⟨r, 0, none⟩) (pre.length + 1) 9)) := by
  obtain ⟨hc2, hf2⟩ := put_box2 hI (by omega) hg
  have hlr := ownB_lt hI.own
  have hz : W.heap.size ≤ W2.heap.size := Nat.le_trans (by simp) hg.size
  have hblk : ∀ k, k < W.heap.size → k ≠ r → W2.heap[k]? = W.heap[k]? := fun k hk hne => (hg.block k (by simp; omega) (fun e => hne (by cases e; rfl))).trans (Below.heap_alloc _ _ _ hk)
  have hset : ∀ k, k ≠ w.heap.size + 1 → (W2.setCell ⟨w.heap.size + 1, 0, none⟩ (.slice (some ⟨r, 0, none⟩) (pre.length + 1) 9)).heap[k]? = W2.heap[k]? := fun k hk => Below.heap_setCell _ _ _ _ (by simpa using hk)
  obtain ⟨o1, ho1, hcell1⟩ := cells_of_cell hI.cell
  have hown2 : OwnB W2 w.heap.size 5 (.slice (some ⟨r, 0, none⟩) (pre ++ [x]).length 9) (pre ++ [x]) := by
    unfold OwnB
    rw [List.length_append, List.length_singleton, List.map_append]
    exact ho
  refine ⟨⟨by simpa using hz, fun k o2 _ hk ho2 => ?_⟩, fun j o2 hp hj _ => ?_, ⟨?_, ?_, ?_, ?_⟩⟩
  · have hkl := (Array.getElem?_eq_some_iff.1 hk).1
    have h1 : k ≠ w.heap.size + 1 := fun e => by
      subst e
      have : some o2 = some o1 := hk.symm.trans ho1
      cases this
      rw [hcell1] at ho2; cases ho2
    have h2 : k ≠ r := fun e => by
      subst e
      rcases hI.own.2 with ⟨h3, _⟩ | ⟨g, cap, cur, e, _, hh, _⟩
      · cases h3
      · cases e
        rw [hk] at hh; cases hh; cases ho2
    rw [hset k h1, hblk k hkl h2]; exact hk
  · rw [hset j hp.1, hblk j (Array.getElem?_eq_some_iff.1 hj).1 hp.2]; exact hj
  · rw [List.length_append, List.length_singleton]
    exact World.cell?_setCell_same' _ _ _ (by rw [hc2]; rfl)
  · rw [World.frozen?_setCell]; exact hf2
  · refine OwnB.less (B := r) (OwnB.above (w := W2) ?_ (fun k hk => hset k (by omega))) hlr.2
    refine ⟨hown2.1, ?_⟩
    rcases hown2.2 with ⟨h2, _⟩ | ⟨g, cap, cur, e, hB, rest⟩
    · cases h2
    · cases e
      exact .inr ⟨_, _, cur, rfl, Nat.le_refl _, rest⟩
  · exact (hI.below.alloc hI.below.size o |>.grown hg (by have := hI.below.size; simp; omega) (fun k e => by cases e; exact hlr.2)).setCell (p := ⟨w.heap.size + 1, 0, none⟩) (by simp) _
theorem put_start {w w1 w2 : World} (t : TypeId) {v0 v1 v2 v3 : Value} {t' s : TypeId} (u0 u1 u2 u3 : Value) (hb1 : Below ((w.alloc (.cells #[v0, v1, v2, v3] t')).alloc (.cells #[.slice none 0 0] s)).heap.size ((w.alloc (.cells #[v0, v1, v2, v3] t')).alloc (.cells #[.slice none 0 0] s)) w1) (hb2 : Below w1.heap.size w1 w2)
    (ho : w2.ownsRow w.heap.size 5 1 (.slice (some ⟨w1.heap.size, 0, none⟩) 0 9) 0 []) :
    Four ((w2.setCell ⟨w.heap.size + 1, 0, none⟩ (.slice (some ⟨w1.heap.size, 0, none⟩) 0 9)).alloc (.cells #[u0, u1, u2, u3] t)) w2.heap.size u0 u1 u2 u3 ∧
      PutI w w1.heap.size [] ((w2.setCell ⟨w.heap.size + 1, 0, none⟩ (.slice (some ⟨w1.heap.size, 0, none⟩) 0 9)).alloc (.cells #[u0, u1, u2, u3] t)) ∧
      ((w2.setCell ⟨w.heap.size + 1, 0, none⟩ (.slice (some ⟨w1.heap.size, 0, none⟩) 0 9)).alloc (.cells #[u0, u1, u2, u3] t)).heap.size = w2.heap.size + 1 := by
  obtain ⟨hc2, hf2, _⟩ := put_box hb1 hb2
  have hz1 := hb1.size
  have hz2 := hb2.size
  simp only [World.size_alloc] at hz1
  have hbw : Below w.heap.size w w2 := (((Below.refl _ w).alloc (Nat.le_refl _) _).alloc (by simp) _).trans ((hb1.trans (hb2.mono hb1.size)).mono (by simp; omega))
  refine ⟨?_, ⟨?_, ?_, ?_, ?_⟩, by simp⟩
  · have h := Four.new (w2.setCell ⟨w.heap.size + 1, 0, none⟩ (.slice (some ⟨w1.heap.size, 0, none⟩) 0 9)) t u0 u1 u2 u3
    rwa [World.size_setCell] at h
  · rw [World.cell?_alloc_lt _ _ _ (by simp; omega)]
    exact World.cell?_setCell_same' _ _ _ (by rw [hc2]; rfl)
  · rw [World.frozen?_alloc_old _ _ _ (by simp; omega), World.frozen?_setCell]; exact hf2
  · have h1 : OwnB (w2.setCell ⟨w.heap.size + 1, 0, none⟩ (.slice (some ⟨w1.heap.size, 0, none⟩) 0 9)) w1.heap.size 5 (.slice (some ⟨w1.heap.size, 0, none⟩) 0 9) [] := by
      refine OwnB.above (w := w2) ?_ (fun k hk => Below.heap_setCell _ _ _ _ (by simp only; omega))
      refine ⟨rfl, ?_⟩
      rcases ho.2 with ⟨h2, _⟩ | ⟨g, cap, cur, e, hB, rest⟩
      · cases h2
      · cases e
        exact .inr ⟨_, _, cur, rfl, Nat.le_refl _, rest⟩
    exact ownB_grown (h1.less (by omega)) (World.grownBy_alloc _ _ none) (fun k h => by cases h)
  · exact (hbw.setCell (p := ⟨w.heap.size + 1, 0, none⟩) (by simp) _).alloc (by simp; omega) _
namespace Oct
def hpE (L S : Int) : Int := if HeadIn L S then 0 else 2
def hpV (L : Int) (K F : UInt8) (S : Int) : List UInt8 := if HeadIn L S then hdBytes L.toNat K F S.toNat else []
end Oct
end Go.Proofs.Ytjoopekgbfplpaa
