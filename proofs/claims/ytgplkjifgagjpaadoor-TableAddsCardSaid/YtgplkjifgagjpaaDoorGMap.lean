/- A map that the call makes, entry by entry: stores of new keys, look-ups with 'ok'. Plain, over any program. -/
import Derived.Maps.Own
import Derived.WalkKit
import Derived.Lib.Hide
import Derived.Test.YtgplkjifgagjpaaDoorGMem
namespace Go.Proofs.YtgplkjifgagjpaaDoor
open Go.RowKit Go.ChangeMaps

/-- Block b is a map of just these entries, in the order in which they came. -/
def MapL (w : World) (P : Program) (k : TypeId) (b : Nat) (l : List (Value × Value)) : Prop :=
  ∃ es clock, w.heap[b]? = some (.map es clock) ∧ es.toList.map (fun e => (e.key, e.val)) = l ∧ (∀ p ∈ l, ∃ q, keyOf P k p.1 = some q) ∧ (l.map Prod.fst).Nodup
section
variable {P : Program} {k e t : TypeId} {w w' : World} {b : Nat} {l : List (Value × Value)} {key val v z : Value}
theorem MapL.lt (h : MapL w P k b l) : b < w.heap.size := by
  obtain ⟨es, clock, hb, _⟩ := h
  exact (Array.getElem?_eq_some_iff.1 hb).1
theorem MapL.same (h : MapL w P k b l) (hb : w'.heap[b]? = w.heap[b]?) : MapL w' P k b l := by
  obtain ⟨es, clock, h1, h2⟩ := h
  exact ⟨es, clock, hb.trans h1, h2⟩
theorem MapL.below (h : MapL w P k b l) (hb : Below w.heap.size w w') : MapL w' P k b l := h.same (hb.block b h.lt)
theorem MapL.made (w : World) (P : Program) (k : TypeId) : MapL (w.alloc (.map #[] 0)) P k w.heap.size [] :=
  ⟨#[], 0, World.alloc_heap_new w _, rfl, fun _ h => (by cases h), by simp⟩
theorem MapL.update (h : MapL w P k b l) (K : Maps.Keyed P k) (ht : P.underlying t = some (.map k e)) {q : Lit} (hkey : keyOf P k key = some q) (hno : ∀ p ∈ l, p.1 ≠ key) (val : Value) :
    ∃ w', (Instr.mapUpdate t (.map (some b)) key val).run P w = .ok () w' ∧ MapL w' P k b (l ++ [(key, val)]) ∧ w.grownBy w' (some b) := by
  obtain ⟨es, clock, hb, rfl, hk, hd⟩ := h
  have hks : ∀ x ∈ es.toList, ∃ q, keyOf P k x.key = some q := fun x hx => hk (x.key, x.val) (List.mem_map.2 ⟨x, hx, rfl⟩)
  rcases K.find w hkey es.toList hks with ⟨h1, h2⟩ | ⟨j, e0, h1, h2, h3⟩
  · refine ⟨setBlock w b (.map (es.push ⟨key, val, clock⟩) (clock + 1)), ?_, ⟨es.push ⟨key, val, clock⟩, clock + 1, heap_setBlock_same hb _, by simp, fun p hp => ?_, ?_⟩, ⟨rfl, rfl, rfl, by simp [setBlock], fun i _ hi => heap_setBlock_other hb _ (fun e => hi (by rw [e]))⟩⟩
    · simp [Instr.mapUpdate, run_underlying ht, MapKept.run_getObj_map hb, K.check w false hkey, h1, MapKept.run_setObj_map _ hb, Result.andThen, setBlock]
    · rcases List.mem_append.1 hp with hp | hp
      · exact hk p hp
      · rw [List.mem_singleton.1 hp]; exact ⟨q, hkey⟩
    · rw [List.map_append, List.nodup_append]
      refine ⟨hd, by simp, fun a ha c hc => ?_⟩
      obtain ⟨p, hp, rfl⟩ := List.mem_map.1 ha
      simp only [List.map_cons, List.map_nil, List.mem_singleton] at hc
      rw [hc]
      exact hno p hp
  · exact absurd h3 (hno (e0.key, e0.val) (List.mem_map.2 ⟨e0, List.mem_of_getElem? h2, rfl⟩))
theorem MapL.look_no (h : MapL w P k b l) (K : Maps.Keyed P k) (ht : P.underlying t = some (.map k e)) (hz : (zeroValue e).run P w = .ok z w) {q : Lit} (hkey : keyOf P k key = some q) (hno : ∀ p ∈ l, p.1 ≠ key) :
    (Instr.lookup t (.map (some b)) key true).run P w = .ok (.tuple #[z, .bool false]) w := by
  obtain ⟨es, clock, hb, rfl, hk, hd⟩ := h
  have hks : ∀ x ∈ es.toList, ∃ q, keyOf P k x.key = some q := fun x hx => hk (x.key, x.val) (List.mem_map.2 ⟨x, hx, rfl⟩)
  rcases K.find w hkey es.toList hks with ⟨h1, h2⟩ | ⟨j, e0, h1, h2, h3⟩
  · simp [Instr.lookup, run_underlying ht, MapKept.run_getObj_map hb, K.check w _ hkey, h1, hz, Result.andThen]
  · exact absurd h3 (hno (e0.key, e0.val) (List.mem_map.2 ⟨e0, List.mem_of_getElem? h2, rfl⟩))
theorem MapL.look_yes (h : MapL w P k b l) (K : Maps.Keyed P k) (ht : P.underlying t = some (.map k e)) {q : Lit} (hkey : keyOf P k key = some q) (hin : (key, v) ∈ l) :
    (Instr.lookup t (.map (some b)) key true).run P w = .ok (.tuple #[v, .bool true]) w := by
  obtain ⟨es, clock, hb, rfl, hk, hd⟩ := h
  have hks : ∀ x ∈ es.toList, ∃ q, keyOf P k x.key = some q := fun x hx => hk (x.key, x.val) (List.mem_map.2 ⟨x, hx, rfl⟩)
  obtain ⟨x1, hx1, he1⟩ := List.mem_map.1 hin
  cases he1
  rcases K.find w hkey es.toList hks with ⟨h1, h2⟩ | ⟨j, e0, h1, h2, h3⟩
  · exact absurd rfl (h2 x1 hx1)
  · have hv : e0.val = x1.val := by
      obtain ⟨i, hi, ei⟩ := List.mem_iff_getElem.1 hx1
      have hj := (List.getElem?_eq_some_iff.1 h2)
      obtain ⟨hj1, hj2⟩ := hj
      have g1 : ((es.toList.map (fun e => (e.key, e.val))).map Prod.fst)[i]? = some x1.key := by rw [List.getElem?_map, List.getElem?_map, List.getElem?_eq_getElem hi, ei]; rfl
      have g2 : ((es.toList.map (fun e => (e.key, e.val))).map Prod.fst)[j]? = some x1.key := by rw [List.getElem?_map, List.getElem?_map, h2, ← h3]; rfl
      have hij := (List.getElem?_inj (List.getElem?_eq_some_iff.1 g1).1 hd).1 (g1.trans g2.symm)
      subst hij
      rw [← hj2, ei]
    simp [Instr.lookup, run_underlying ht, MapKept.run_getObj_map hb, K.check w _ hkey, h1, Result.andThen, hv]
end
/-- A store into a map whose run is known, in a drawn region. -/
theorem step_map_run {P : Program} {ops : Array Oper} {w w' : World} {o : Oper} {a : Act} {K : Act → World → Prop} {Q : Exit → Act → World → Prop} {E : Prop} (hgd : o.guard = none) (t : TypeId) (m x v : Operand)
    (ho : o.op = .mapUpdate t m x v) (mv xv vv : Value) (hrun : (Instr.mapUpdate t mv xv vv).run P w = .ok () w') (hm : a.eval m = mv) (hx : a.eval x = xv) (hv : a.eval v = vv)
    (h : K (a.put o.dst undef) w') : if Region.wanted o (yielded ops a.tmps) = true then Oper.wp P o a w K Q else E := by
  have hw : Region.wanted o (yielded ops a.tmps) = true := by simp [Region.wanted, hgd]
  rw [if_pos hw]
  unfold Oper.wp
  simp [execOp, ho, hm, hx, hv, hrun, Result.andThen]
  exact h
end Go.Proofs.YtgplkjifgagjpaaDoor
