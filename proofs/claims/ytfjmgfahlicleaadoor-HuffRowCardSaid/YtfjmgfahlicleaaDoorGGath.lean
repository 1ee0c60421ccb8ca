/- Bytes of the call's own gathered within a range over a function whose iterator may keep a state of its own: append at an operation of its body; what keeps them. Plain, over any program. -/
import Derived.Test.YtfjmgfahlicleaaDoorGApp
import Derived.Test.YtfjmgfahlicleaaDoorGKeep
namespace Go.Proofs.YtfjmgfahlicleaaDoor
open Go.RowKit
section
variable {w w' : World} {B B' : Nat} {t : TypeId} {v : Value} {xs : List UInt8}
theorem OwnB.above (h : OwnB w B t v xs) (hk : ∀ k, B ≤ k → w'.heap[k]? = w.heap[k]?) : OwnB w' B t v xs := by
  refine ⟨h.1, ?_⟩
  rcases h.2 with h2 | ⟨g, cap, cur, e, hg, hh, rest⟩
  · exact .inl h2
  · exact .inr ⟨g, cap, cur, e, hg, (hk g hg).trans hh, rest⟩
theorem OwnB.iscells (h : OwnB w B t v xs) {k : Nat} (hk : v.ownBlock = some k) : ∃ o : Obj, w.heap[k]? = some o ∧ o.isCells = true := by
  rcases h.2 with ⟨rfl, _⟩ | ⟨g, cap, cur, rfl, _, hh, _⟩
  · cases hk
  · cases hk
    exact ⟨_, hh, rfl⟩
theorem OwnB.other {row : Option Nat} (h : OwnB w B t v xs) (hg : w.grownBy w' row) (hr : ∀ k, row = some k → ∃ o : Obj, w.heap[k]? = some o ∧ o.isCells = false) : OwnB w' B t v xs :=
  h.beside hg fun k hk e => by
    obtain ⟨o, ho, hc⟩ := hr k e
    obtain ⟨o2, ho2, hc2⟩ := h.iscells hk
    rw [ho] at ho2
    cases ho2
    rw [hc] at hc2
    cases hc2
/-- What is the call's own and not empty: its block, and what a store into its first cell leaves. -/
theorem OwnB.first {A : Option Addr} {n c : Nat} {x : UInt8} (h : OwnB w B t (.slice A n c) (x :: xs)) :
    ∃ g, A = some ⟨g, 0, none⟩ ∧ n = xs.length + 1 ∧ n ≤ c ∧ B ≤ g ∧ g < w.heap.size ∧ w.frozen? ⟨g, 0, none⟩ = false ∧ w.cell? ⟨g, 0, none⟩ = some (bv x) ∧
      ∀ (W : World) (y : UInt8), W.heap[g]? = w.heap[g]? → Bs (W.setCell ⟨g, 0, none⟩ (bv y)) W.heap.size A n (y :: xs) := by
  rcases h.2 with ⟨_, h0⟩ | ⟨g, cap, cur, e, hB, hh, hle, hmax, hs, htake⟩
  · simp at h0
  · cases e
    have hlt : g < w.heap.size := (Array.getElem?_eq_some_iff.1 hh).1
    have hc : ∀ j, j < xs.length + 1 → w.cell? ⟨g, j, none⟩ = some (bv ((x :: xs)[j]?.getD 0)) := fun j hj => by
      have hc := World.ownsRow.cellAt (base := B) (e := t) (size := 1) (cap := c) (xs := (x :: xs).map bv) (w := w) (g := g) (n := (x :: xs).length) ⟨by simp, .inr ⟨g, c, cur, rfl, hB, hh, hle, hmax, hs, htake⟩⟩ j (by simpa using hj)
      rw [hc, List.getElem?_map, List.getElem?_eq_getElem (by simpa using hj)]
      rfl
    refine ⟨g, rfl, by simp, hle, hB, hlt, frozen_of_row w g 0 _ _ hh, hc 0 (by omega), fun W y hW => ⟨by simp, fun _ => ⟨g, 0, rfl, ?_, fun j hj => ?_⟩⟩⟩
    · rw [hh] at hW
      exact (Array.getElem?_eq_some_iff.1 hW).1
    · have hj' : j < xs.length + 1 := by simpa using hj
      rw [Nat.zero_add]
      have hcj : W.cell? ⟨g, j, none⟩ = w.cell? ⟨g, j, none⟩ := World.cell?_of_block hW
      rcases Nat.eq_zero_or_pos j with h0 | h0
      · subst h0
        refine (World.cell?_setCell_same' _ _ _ (by rw [hcj, hc 0 (by omega)]; rfl)).trans ?_
        rfl
      · refine (World.cell?_setCell_other _ _ _ _ (fun e => by cases e; omega)).trans ?_
        rw [hcj, hc j hj']
        obtain ⟨i, rfl⟩ : ∃ i, j = i + 1 := ⟨j - 1, by omega⟩
        rfl
end
theorem wpListIn_append_full {F : Fence} {fu : Nat} {P : Program} (w : World) {ops : Array Oper} {rest : List Oper} {o : Oper} {a : Act} {Q : Exit → Act → World → Prop} (hgd : o.guard = none) (s x : Operand) (t : TypeId)
    (ho : o.op = .call { callee := .builtin .append, args := #[s, x], argTypes := #[t, t] })
    (base : Nat) (e : TypeId) (i : TypeInfo) (ht : P.underlying t = some (.slice e)) (hi : P.info? e = some i) (hz : i.zero = some (.int .u8 0)) (hsize : i.size = 1) (hby : i.bytes = 1)
    (v : Value) (ys : List UInt8) (hs : a.eval s = v) (hown : OwnB w base e v ys)
    (ad : Addr) (m c : Nat) (xs : List UInt8) (hx : a.eval x = .slice (some ad) m c) (hcells : ∀ j u, (xs.map bv)[j]? = some u → w.cell? (ad.add j) = some u) (hm : xs.length = m)
    (hlen : ys.length + m ≤ 1000000) (hbase : base ≤ w.heap.size)
    (h : ∀ v' w', OwnB w' base e v' (ys ++ xs) → Below base w w' → w.grownBy w' v.ownBlock → (v'.ownBlock = v.ownBlock ∨ v'.ownBlock = some w.heap.size) → wpListIn F fu P ops Q rest (a.put o.dst v') w') : wpListIn F fu P ops Q (o :: rest) a w := by
  refine wpListIn_plain hgd fun K hK => ?_
  obtain ⟨v', w', hrun, h2, h3, h4, h5⟩ := run_append_own_at (P := P) w base t o.type e i (.int .u8 0) 1 1 ht hi hz hsize hby rfl (by decide) v ys.length (ys.map bv) hown ad m c (xs.map bv) (by rw [List.length_map, hm, Nat.mul_one]) hcells (bv_one xs) (by unfold maxLen; omega) (by omega) hbase
  unfold Oper.wpIn
  refine ⟨?_, ?_⟩
  · simp [Oper.about, ho, resolve, Target.leads, Sem.run_pure]
  · rw [Oper.semAt_plain F _ _ (by rw [ho]; intro c hc'; cases hc')]
    simp [execOp, ho, resolve, invoke, builtin, hs, hx, hrun, Result.andThen]
    refine hK _ _ (h v' w' ?_ ((Below.refl base w).grown h3 hbase (fun k hk => (World.ownsRow.lt hown k hk).1)) h3 ?_)
    · unfold OwnB
      rw [List.map_append, List.length_append, hm]
      exact h2
    · rcases h5 with h5 | h5
      · exact .inl (by rw [h5])
      · exact .inr h5
theorem heap_kept {W W' : World} {row : Option Nat} {k : Nat} {cs : Array Value} {t : TypeId} (hg : W.grownBy W' row) (hr : ∀ r, row = some r → ∃ o : Obj, W.heap[r]? = some o ∧ o.isCells = false) (h : W.heap[k]? = some (.cells cs t)) : W'.heap[k]? = some (.cells cs t) := by
  refine (hg.block k (Array.getElem?_eq_some_iff.1 h).1 (fun e => ?_)).trans h
  obtain ⟨o, ho, hc⟩ := hr k e.symm
  rw [h] at ho
  cases ho
  cases hc
/-- A range's body that gathers bytes in a variable in block g (type s): what holds between two rounds. -/
structure GatherB (w : World) (g B : Nat) (s t : TypeId) (pre : List UInt8) (W : World) : Prop where
  row : ∃ v, W.heap[g]? = some (.cells #[v] s) ∧ OwnB W B t v pre
  below : Below w.heap.size w W
  size : B ≤ W.heap.size
theorem gatherB_own {w : World} {g B B' : Nat} {s t : TypeId} (hB : w.heap.size ≤ B') : OwnFrom B' (GatherB w g B s t) := by
  intro pre W W' row hs hg hr
  have hr' : ∀ k, row = some k → ∃ o : Obj, W.heap[k]? = some o ∧ o.isCells = false := fun k e => (hr k e).2
  obtain ⟨v, h1, h3⟩ := hs.row
  exact ⟨⟨v, heap_kept hg hr' h1, h3.other hg hr'⟩, hs.below.grown hg hs.below.size (fun k e => Nat.le_trans hB (hr k e).1), Nat.le_trans hs.size hg.size⟩
theorem gatherB_set {w : World} {g B Bn : Nat} {s t : TypeId} (h0 : w.heap.size ≤ Bn) (hne : g ≠ Bn) (hB : Bn < B) (pre : List UInt8) (A : World) (u : Value) (h : GatherB w g B s t pre A) : GatherB w g B s t pre (A.setCell ⟨Bn, 0, none⟩ u) := by
  obtain ⟨v, h1, h2⟩ := h.row
  have ho : ∀ k, k ≠ Bn → (A.setCell ⟨Bn, 0, none⟩ u).heap[k]? = A.heap[k]? := fun k hk => Below.heap_setCell _ _ _ _ (by simpa using hk)
  exact ⟨⟨v, (ho _ hne).trans h1, h2.above fun k hk => ho k (by omega)⟩, h.below.setCell (p := ⟨Bn, 0, none⟩) h0 _, by simpa [World.setCell] using h.size⟩
theorem gatherB_round {w W W2 : World} {g B R : Nat} {s t : TypeId} {pre : List UInt8} {x : UInt8} {o : Obj} {u v' : Value} {a : Act} (Kp : World → World → Prop) (p : Nat → Prop) (hKp : ∀ A B : World, KeepC p A B → A.heap.size ≤ B.heap.size → Kp A B) (hg1 : w.heap.size ≤ g) (hgB : g < B) (hB1 : B ≤ W.heap.size) (hp : ∀ j, p j → j < B ∧ j ≠ g)
    (h1 : W.heap[g]? = some (.cells #[u] s)) (ho : OwnB W B t u pre) (hbw : Below w.heap.size w W)
    (hbl : Below B (W.alloc o) W2) (hgr : (W.alloc o).grownBy W2 u.ownBlock) (hown : OwnB W2 B t v' (pre ++ [x])) :
    ownPostG R Kp (GatherB w g B s t) (fun _ _ _ => False) (pre ++ [x]) W Exit.normal a (W2.setCell ⟨g, 0, none⟩ v') := by
  have hb2 : Below B W W2 := ((Below.refl B W).alloc hB1 o).trans hbl
  have hset : ∀ k, k ≠ g → (W2.setCell ⟨g, 0, none⟩ v').heap[k]? = W2.heap[k]? := fun k hk => Below.heap_setCell _ _ _ _ (by simpa using hk)
  have hc2 : W2.heap[g]? = some (.cells #[u] s) := (hb2.block g hgB).trans h1
  refine ⟨⟨by simpa [World.setCell] using hb2.size, fun k o2 _ hk ho2 => ?_⟩, hKp _ _ (fun j o2 hpj hj _ => ?_) (by simpa [World.setCell] using hb2.size), ⟨⟨v', ?_, ?_⟩, ?_, ?_⟩⟩
  · have hkl := (Array.getElem?_eq_some_iff.1 hk).1
    have n1 : k ≠ g := fun e => by
      subst e
      rw [h1] at hk
      cases hk
      cases ho2
    have n2 : u.ownBlock ≠ some k := fun e => by
      obtain ⟨o1, ho1, hc1⟩ := ho.iscells e
      have : some o2 = some o1 := hk.symm.trans ho1
      cases this
      rw [hc1] at ho2; cases ho2
    rw [hset k n1, hgr.block k (by simp; omega) (fun e => n2 e.symm), Below.heap_alloc _ _ _ hkl]
    exact hk
  · rw [hset j (hp j hpj).2, hb2.block j (hp j hpj).1]; exact hj
  · exact (Go.heap_setCell_same W2 g 0 _ _ _ hc2).trans rfl
  · exact hown.above fun k hk => hset k (by omega)
  · exact (hbw.trans (hb2.mono (by have := hbw.size; omega))).setCell (p := ⟨g, 0, none⟩) hg1 _
  · exact Nat.le_trans hB1 (by simpa [World.setCell] using hb2.size)
end Go.Proofs.YtfjmgfahlicleaaDoor
