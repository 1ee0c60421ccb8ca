/- Pairs of the call's own within a range over a function: append at an operation of its body; what keeps them. Plain, over any program. -/
import Derived.Test.YtbflhphjnmhjhaaGreatGPairs
import Derived.Test.YtbflhphjnmhjhaaGreatGFour
import Derived.Test.YtbflhphjnmhjhaaGreatGKeep
namespace Go.Proofs.YtbflhphjnmhjhaaGreat
open Go.RowKit

section
variable {w w' : World} {B B' : Nat} {t : TypeId} {v : Value} {xs : List Pr}
theorem OwnP.above (h : OwnP w B t v xs) (hk : ∀ k, B ≤ k → w'.heap[k]? = w.heap[k]?) : OwnP w' B t v xs := by
  refine ⟨h.1, ?_⟩
  rcases h.2 with h2 | ⟨g, cap, cur, e, hg, hh, rest⟩
  · exact .inl h2
  · exact .inr ⟨g, cap, cur, e, hg, (hk g hg).trans hh, rest⟩
theorem OwnP.block (h : OwnP w B t v xs) {k : Nat} (hk : v.ownBlock = some k) : B ≤ k ∧ k < w.heap.size := World.ownsRow.lt h k hk
theorem OwnP.iscells (h : OwnP w B t v xs) {k : Nat} (hk : v.ownBlock = some k) : ∃ o : Obj, w.heap[k]? = some o ∧ o.isCells = true := by
  rcases h.2 with ⟨rfl, _⟩ | ⟨g, cap, cur, rfl, _, hh, _⟩
  · cases hk
  · cases hk
    exact ⟨_, hh, rfl⟩
theorem OwnP.beside {row : Option Nat} (h : OwnP w B t v xs) (hg : w.grownBy w' row) (hne : ∀ k, v.ownBlock = some k → row ≠ some k) : OwnP w' B t v xs := by
  refine ⟨h.1, ?_⟩
  rcases h.2 with h2 | ⟨g, cap, cur, e, hB, hh, rest⟩
  · exact .inl h2
  · refine .inr ⟨g, cap, cur, e, hB, ?_, rest⟩
    rw [hg.block g (Array.getElem?_eq_some_iff.1 hh).1 (fun e2 => hne g (by rw [e]; rfl) e2.symm)]
    exact hh
theorem OwnP.other {row : Option Nat} (h : OwnP w B t v xs) (hg : w.grownBy w' row) (hr : ∀ k, row = some k → ∃ o : Obj, w.heap[k]? = some o ∧ o.isCells = false) : OwnP w' B t v xs :=
  h.beside hg fun k hk e => by
    obtain ⟨o, ho, hc⟩ := hr k e
    obtain ⟨o2, ho2, hc2⟩ := h.iscells hk
    rw [ho] at ho2
    cases ho2
    rw [hc] at hc2
    cases hc2
end
theorem KeepC.ps {p : Nat → Prop} {W W' : World} {n : Nat} {B : Nat} {A : Option Addr} {xs : List Pr} (h : KeepC p W W') (hb : Ps W B A n xs) (hp : 0 < n → ∀ b o, A = some ⟨b, o, none⟩ → p b) : Ps W' B A n xs :=
  ⟨hb.1, fun hn => by
    obtain ⟨b, o, e, hB, hc⟩ := hb.2 hn
    exact ⟨b, o, e, hB, fun j hj => ⟨h.cell (hp hn b o e) (hc j hj).1, h.cell (hp hn b o e) (hc j hj).2⟩⟩⟩
theorem wpListIn_append_pairs {F : Fence} {fu : Nat} {P : Program} (w : World) {ops : Array Oper} {rest : List Oper} {o : Oper} {a : Act} {Q : Exit → Act → World → Prop} (hgd : o.guard = none) (s x : Operand) (t : TypeId)
    (ho : o.op = .call { callee := .builtin .append, args := #[s, x], argTypes := #[t, t] })
    (base : Nat) (e : TypeId) (i : TypeInfo) (ht : P.underlying t = some (.slice e)) (hi : P.info? e = some i) (hz : i.zero = some (.agg #[.int .u16 0, .int .u32 0])) (hsize : i.size = 2) (hby : i.bytes = 8)
    (v : Value) (ys : List Pr) (hs : a.eval s = v) (hown : OwnP w base e v ys)
    (B : Nat) (A : Option Addr) (m c : Nat) (xs : List Pr) (hx : a.eval x = .slice A m c) (hr : Ps w B A m xs) (hnone : A = none → c = 0)
    (hlen : ys.length + m ≤ 1000000) (hbase : base ≤ w.heap.size)
    (h : ∀ v' w', OwnP w' base e v' (ys ++ xs) → Below base w w' → w.grownBy w' v.ownBlock → wpListIn F fu P ops Q rest (a.put o.dst v') w') : wpListIn F fu P ops Q (o :: rest) a w := by
  refine wpListIn_plain hgd fun K hK => ?_
  obtain ⟨v', w', hrun, h2, h3, _⟩ := run_append_pairs (P := P) w base t o.type e i ht hi hz hsize hby v ys hown B A m c xs hr hnone hlen hbase
  unfold Oper.wpIn
  refine ⟨?_, ?_⟩
  · simp [Oper.about, ho, resolve, Target.leads, Sem.run_pure]
  · rw [Oper.semAt_plain F _ _ (by rw [ho]; intro c hc'; cases hc')]
    simp [execOp, ho, resolve, invoke, builtin, hs, hx, hrun, Result.andThen]
    exact hK _ _ (h v' w' h2 ((Below.refl base w).grown h3 hbase (fun k hk => (World.ownsRow.lt hown k hk).1)) h3)
/-- A range's body that gathers pairs in a variable in block g: what holds between two rounds. -/
structure GatherP (w : World) (g B : Nat) (t : TypeId) (pre : List Pr) (W : World) : Prop where
  row : ∃ v, W.cell? ⟨g, 0, none⟩ = some v ∧ W.frozen? ⟨g, 0, none⟩ = false ∧ OwnP W B t v pre
  below : Below w.heap.size w W
  size : B ≤ W.heap.size
theorem gatherP_own {w : World} {g B B' : Nat} {t : TypeId} (hB : w.heap.size ≤ B') : OwnFrom B' (GatherP w g B t) := by
  intro s W W' row hs hg hr
  have hr' : ∀ k, row = some k → ∃ o : Obj, W.heap[k]? = some o ∧ o.isCells = false := fun k e => (hr k e).2
  obtain ⟨v, h1, h2, h3⟩ := hs.row
  exact ⟨⟨v, cell_kept h1 hg hr', (frozen_kept h1 hg hr').trans h2, h3.other hg hr'⟩, hs.below.grown hg hs.below.size (fun k e => Nat.le_trans hB (hr k e).1), Nat.le_trans hs.size hg.size⟩
theorem gatherP_round {w W W2 : World} {g B R : Nat} {t : TypeId} {pre : List Pr} {x : Pr} {o : Obj} {u v' : Value} {a : Act} (p : Nat → Prop) (hg1 : w.heap.size ≤ g) (hgB : g < B) (hB1 : B ≤ W.heap.size) (hp : ∀ j, p j → j < B ∧ j ≠ g)
    (h1 : W.cell? ⟨g, 0, none⟩ = some u) (h2 : W.frozen? ⟨g, 0, none⟩ = false) (ho : OwnP W B t u pre) (hbw : Below w.heap.size w W)
    (hbl : Below B (W.alloc o) W2) (hgr : (W.alloc o).grownBy W2 u.ownBlock) (hown : OwnP W2 B t v' (pre ++ [x])) :
    ownPostG R (KeepC p) (GatherP w g B t) (fun _ _ _ => False) (pre ++ [x]) W Exit.normal a (W2.setCell ⟨g, 0, none⟩ v') := by
  have hb2 : Below B W W2 := ((Below.refl B W).alloc hB1 o).trans hbl
  have hset : ∀ k, k ≠ g → (W2.setCell ⟨g, 0, none⟩ v').heap[k]? = W2.heap[k]? := fun k hk => Below.heap_setCell _ _ _ _ (by simpa using hk)
  have hc2 : W2.cell? ⟨g, 0, none⟩ = some u := (hb2.cell (p := ⟨g, 0, none⟩) hgB).trans h1
  refine ⟨⟨by simpa using hb2.size, fun k o2 _ hk ho2 => ?_⟩, fun j o2 hpj hj _ => ?_, ⟨⟨v', ?_, ?_, ?_⟩, ?_, ?_⟩⟩
  · have hkl := (Array.getElem?_eq_some_iff.1 hk).1
    have n1 : k ≠ g := fun e => by
      subst e
      obtain ⟨o1, ho1, hc1⟩ := cells_of_cell h1
      have : some o2 = some o1 := hk.symm.trans ho1
      cases this
      rw [hc1] at ho2; cases ho2
    have n2 : u.ownBlock ≠ some k := fun e => by
      obtain ⟨o1, ho1, hc1⟩ := ho.iscells e
      have : some o2 = some o1 := hk.symm.trans ho1
      cases this
      rw [hc1] at ho2; cases ho2
    rw [hset k n1, hgr.block k (by simp; omega) (fun e => n2 e.symm), Below.heap_alloc _ _ _ hkl]
    exact hk
  · rw [hset j (hp j hpj).2, hb2.block j (hp j hpj).1]; exact hj
  · exact World.cell?_setCell_same' _ _ _ (by rw [hc2]; rfl)
  · rw [World.frozen?_setCell, hb2.frozen (p := ⟨g, 0, none⟩) hgB]; exact h2
  · exact hown.above fun k hk => hset k (by omega)
  · exact (hbw.trans (hb2.mono (by omega))).setCell (p := ⟨g, 0, none⟩) hg1 _
  · exact Nat.le_trans hB1 (by simpa using hb2.size)
end Go.Proofs.YtbflhphjnmhjhaaGreat
