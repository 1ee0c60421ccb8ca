/- Bytes gathered within a range over a function in a slice that was made with room ahead of the loop: its block lies below the variable's. Plain, over any program. -/
import Derived.Test.YtfjmgfahlicleaaDoorGGath
import Derived.Test.YtfjmgfahlicleaaDoorGFact
namespace Go.Proofs.YtfjmgfahlicleaaDoor
open Go.RowKit
theorem OwnB.sameBlock {w w' : World} {B : Nat} {t : TypeId} {v : Value} {xs : List UInt8} (h : OwnB w B t v xs) (hk : ∀ k, v.ownBlock = some k → w'.heap[k]? = w.heap[k]?) : OwnB w' B t v xs := by
  refine ⟨h.1, ?_⟩
  rcases h.2 with h2 | ⟨g, cap, cur, e, hg, hh, rest⟩
  · exact .inl h2
  · exact .inr ⟨g, cap, cur, e, hg, (hk g (by rw [e]; rfl)).trans hh, rest⟩
structure GatherM (w : World) (g B0 B : Nat) (s t : TypeId) (pre : List UInt8) (W : World) : Prop where
  row : ∃ v, W.heap[g]? = some (.cells #[v] s) ∧ OwnB W B0 t v pre ∧ ∀ k, v.ownBlock = some k → k = B0 ∨ B ≤ k
  below : Below w.heap.size w W
  size : B ≤ W.heap.size
theorem gatherM_own {w : World} {g B0 B B' : Nat} {s t : TypeId} (hB : w.heap.size ≤ B') : OwnFrom B' (GatherM w g B0 B s t) := by
  intro pre W W' row hs hg hr
  have hr' : ∀ k, row = some k → ∃ o : Obj, W.heap[k]? = some o ∧ o.isCells = false := fun k e => (hr k e).2
  obtain ⟨v, h1, h3, h4⟩ := hs.row
  exact ⟨⟨v, heap_kept hg hr' h1, h3.other hg hr', h4⟩, hs.below.grown hg hs.below.size (fun k e => Nat.le_trans hB (hr k e).1), Nat.le_trans hs.size hg.size⟩
theorem gatherM_round {w W W2 : World} {g B0 B R : Nat} {s t : TypeId} {pre : List UInt8} {x : UInt8} {o : Obj} {u v' : Value} {a : Act} (Kp : World → World → Prop) (p : Nat → Prop) (hKp : ∀ A B : World, KeepC p A B → A.heap.size ≤ B.heap.size → Kp A B)
    (hg1 : w.heap.size ≤ g) (hgB : g < B) (hB0 : w.heap.size ≤ B0) (hne : B0 ≠ g) (hB1 : B ≤ W.heap.size) (hp : ∀ j, p j → j < B ∧ j ≠ g ∧ j ≠ B0)
    (h1 : W.heap[g]? = some (.cells #[u] s)) (ho : OwnB W B0 t u pre) (hob : ∀ k, u.ownBlock = some k → k = B0 ∨ B ≤ k) (hbw : Below w.heap.size w W)
    (hgr : (W.alloc o).grownBy W2 u.ownBlock) (hown : OwnB W2 B0 t v' (pre ++ [x])) (hv : v'.ownBlock = u.ownBlock ∨ v'.ownBlock = some (W.alloc o).heap.size) :
    ownPostG R Kp (GatherM w g B0 B s t) (fun _ _ _ => False) (pre ++ [x]) W Exit.normal a (W2.setCell ⟨g, 0, none⟩ v') := by
  have hza : (W.alloc o).heap.size = W.heap.size + 1 := by simp
  have hzs : (W2.setCell ⟨g, 0, none⟩ v').heap.size = W2.heap.size := by simp [World.setCell]
  have hz2 := hgr.size
  have hset : ∀ k, k ≠ g → (W2.setCell ⟨g, 0, none⟩ v').heap[k]? = W2.heap[k]? := fun k hk => Below.heap_setCell _ _ _ _ (by simpa using hk)
  have hk2 : ∀ k, k < W.heap.size → u.ownBlock ≠ some k → W2.heap[k]? = W.heap[k]? := fun k hk hn => (hgr.block k (by omega) (fun e => hn e.symm)).trans (Below.heap_alloc _ _ _ hk)
  have hug : u.ownBlock ≠ some g := fun e => by have := hob g e; omega
  have hc2 : W2.heap[g]? = some (.cells #[u] s) := (hk2 g (by omega) hug).trans h1
  have hvg : ∀ k, v'.ownBlock = some k → k = B0 ∨ B ≤ k := fun k e => by
    rcases hv with h | h
    · exact hob k (h ▸ e)
    · rw [h] at e
      cases e
      omega
  have hbA : Below w.heap.size w (W.alloc o) := hbw.alloc hbw.size o
  have hb2 : Below w.heap.size w W2 := hbA.grown hgr hbA.size fun k e => by have := hob k e; omega
  refine ⟨⟨by omega, fun k o2 _ hk ho2 => ?_⟩, hKp _ _ (fun j o2 hpj hj _ => ?_) (by omega), ⟨⟨v', ?_, ?_, hvg⟩, ?_, by omega⟩⟩
  · have hkl := (Array.getElem?_eq_some_iff.1 hk).1
    have n1 : k ≠ g := fun e => by
      subst e
      rw [h1] at hk
      cases hk
      cases ho2
    have n2 : u.ownBlock ≠ some k := fun e => by
      obtain ⟨o1, ho1, hc1⟩ := ho.iscells e
      have : some o2 = some o1 := hk.symm.trans ho1
      cases this
      rw [hc1] at ho2; cases ho2
    rw [hset k n1, hk2 k hkl n2]
    exact hk
  · have hj2 := hp j hpj
    rw [hset j hj2.2.1, hk2 j (by omega) (fun e => by have := hob j e; omega)]; exact hj
  · exact (Go.heap_setCell_same W2 g 0 _ _ _ hc2).trans rfl
  · exact hown.sameBlock fun k hk => hset k (by have := hvg k hk; omega)
  · exact hb2.setCell (p := ⟨g, 0, none⟩) hg1 _
theorem bs_other {W W' : World} {row : Option Nat} {B n : Nat} {A : Option Addr} {xs : List UInt8} (hg : W.grownBy W' row) (hr : ∀ r, row = some r → ∃ o : Obj, W.heap[r]? = some o ∧ o.isCells = false) (h : Bs W B A n xs) : Bs W' B A n xs :=
  ⟨h.1, fun hn => by
    obtain ⟨b, o, e, hb, hc⟩ := h.2 hn
    exact ⟨b, o, e, hb, fun j hj => cell_kept (hc j hj) hg hr⟩⟩
theorem deferred_other {W : World} {D : Nat} (h : W.heap[D]? = some (.deferred (some []))) : ∀ r, some D = some r → ∃ o : Obj, W.heap[r]? = some o ∧ o.isCells = false := fun r e => by cases e; exact ⟨_, h, rfl⟩
theorem handS_putD {W : World} {B D n c : Nat} {A : Option Addr} {xs : List UInt8} (h : HandS W B A n c xs) (hD : W.heap[D]? = some (.deferred (some []))) : HandS (W.putObj D (.deferred none)) B A n c xs :=
  ⟨(bs_other (grownBy_putObj' W D _) (deferred_other hD) h.1).more (grownBy_putObj' W D _).size, h.2⟩
end Go.Proofs.YtfjmgfahlicleaaDoor
