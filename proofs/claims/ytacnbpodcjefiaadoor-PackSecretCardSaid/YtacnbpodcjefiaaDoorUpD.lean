/- Package unpack: the map of the marks; a new reader. -/
import Derived.Test.YtacnbpodcjefiaaDoorUpC
namespace Go.Proofs.YtacnbpodcjefiaaDoor
open Go.RowKit Go.ChangeMaps Px Tx Tb Up
set_option linter.unusedVariables false
set_option linter.unusedSimpArgs false
theorem infoc_m : (Tryd.prog.info? 64).map (·.size) = some 2 := by kernel_rfl
theorem mark_keyed : Maps.Keyed Tryd.prog 64 :=
  Maps.Keyed.of_law (Go.deep_law_laid law_out (m := 2) (by omega) (of_decide_eq_true (by kernel_rfl)) (by kernel_rfl) (by rw [Tryd.underlying64]))
theorem mark_key (a b : Int) (ha : (Lit.int .u8 a).wf = true) (hb : (Lit.int .u8 b).wf = true) : ∃ q, keyOf Tryd.prog 64 (.agg #[.int .u8 a, .int .u8 b]) = some q := by
  have hk : Tryd.prog.keyType 64 = true := by kernel_rfl
  have hc : Tryd.prog.cellsOf 64 = 2 := by kernel_rfl
  have hc3 : Tryd.prog.cellsOf 5 = 1 := by kernel_rfl
  have h0 : 0 < Tryd.prog.types.size := of_decide_eq_true (by kernel_rfl)
  have hz : ∃ m, Tryd.prog.types.size = m + 1 := ⟨Tryd.prog.types.size - 1, by omega⟩
  obtain ⟨m, hm⟩ := hz
  have hf : (Value.agg #[.int .u8 a, .int .u8 b]).formed Tryd.prog 64 = true := by simp [Value.formed, Tryd.underlying64, hc]
  have h1 : ∀ x : Int, (Lit.int .u8 x).wf = true → Tryd.prog.keyLits (m + 1) 5 [.int .u8 x] = some [.int .u8 x] := fun x hx => by
    unfold Program.keyLits
    rw [Tryd.underlying5]
    simp [hx]
  have hl : Tryd.prog.keyLits (Tryd.prog.types.size + 1) 64 [.int .u8 a, .int .u8 b] = some [.int .u8 a, .int .u8 b] := by
    rw [hm]
    unfold Program.keyLits
    rw [Tryd.underlying64]
    simp only [List.length_cons, List.length_nil, Nat.reduceAdd, hc, hc3, if_true, Nat.mul_one]
    have e0 : (List.range 2) = [0, 1] := rfl
    rw [e0]
    simp only [List.mapM_cons, List.mapM_nil, List.drop_zero, List.take_succ_cons, List.take_zero, List.drop_succ_cons, h1 a ha, h1 b hb]
    rfl
  unfold keyOf
  rw [Tryd.underlying64]
  simp only [hk, hf, Bool.and_self, if_true]
  refine ⟨.string (keyBytes [.int .u8 a, .int .u8 b]), ?_⟩
  have e : (Value.agg #[.int .u8 a, .int .u8 b]).cells.toList = [.int .u8 a, .int .u8 b] := rfl
  rw [e, hl]
  rfl
namespace Up
def mk (a b : Nat) : Value := .agg #[.int .u8 (a : Int), .int .u8 (b : Int)]
def ent : Nat → Value × Value
  | 0 => (.agg #[.int .u8 1, .int .u8 1], .int .u8 1)
  | 1 => (.agg #[.int .u8 2, .int .u8 1], .int .u8 2)
  | 2 => (.agg #[.int .u8 3, .int .u8 1], .int .u8 3)
  | 3 => (.agg #[.int .u8 4, .int .u8 1], .int .u8 4)
  | _ => (.agg #[.int .u8 4, .int .u8 0], .int .u8 4)
theorem ent_inj : ∀ i j : Fin 5, (ent i.val).1 = (ent j.val).1 → i = j := by
  intro i j h
  match i, j with
  | ⟨0, _⟩, ⟨0, _⟩ | ⟨1, _⟩, ⟨1, _⟩ | ⟨2, _⟩, ⟨2, _⟩ | ⟨3, _⟩, ⟨3, _⟩ | ⟨4, _⟩, ⟨4, _⟩ => rfl
  | ⟨0, _⟩, ⟨1, _⟩ | ⟨0, _⟩, ⟨2, _⟩ | ⟨0, _⟩, ⟨3, _⟩ | ⟨0, _⟩, ⟨4, _⟩ | ⟨1, _⟩, ⟨0, _⟩ | ⟨1, _⟩, ⟨2, _⟩ | ⟨1, _⟩, ⟨3, _⟩ | ⟨1, _⟩, ⟨4, _⟩ | ⟨2, _⟩, ⟨0, _⟩ | ⟨2, _⟩, ⟨1, _⟩ | ⟨2, _⟩, ⟨3, _⟩ | ⟨2, _⟩, ⟨4, _⟩ | ⟨3, _⟩, ⟨0, _⟩ | ⟨3, _⟩, ⟨1, _⟩ | ⟨3, _⟩, ⟨2, _⟩ | ⟨3, _⟩, ⟨4, _⟩ | ⟨4, _⟩, ⟨0, _⟩ | ⟨4, _⟩, ⟨1, _⟩ | ⟨4, _⟩, ⟨2, _⟩ | ⟨4, _⟩, ⟨3, _⟩ => simp [ent] at h
/-- Block b is the map of the marks j for which S j. -/
def MapS (w : World) (b : Nat) (S : Nat → Bool) : Prop := ∃ l, MapL w Tryd.prog 64 b l ∧ ∀ p, p ∈ l ↔ ∃ j, j < 5 ∧ S j = true ∧ p = ent j
theorem ent_key (j : Nat) (hj : j < 5) : ∃ q, keyOf Tryd.prog 64 (ent j).1 = some q := by
  match j, hj with
  | 0, _ => exact mark_key 1 1 (by decide) (by decide)
  | 1, _ => exact mark_key 2 1 (by decide) (by decide)
  | 2, _ => exact mark_key 3 1 (by decide) (by decide)
  | 3, _ => exact mark_key 4 1 (by decide) (by decide)
  | 4, _ => exact mark_key 4 0 (by decide) (by decide)
theorem MapS.made (w : World) : MapS (w.alloc (.map #[] 0)) w.heap.size (fun _ => false) := ⟨[], MapL.made w _ _, fun p => by simp⟩
theorem MapS.lt {w : World} {b : Nat} {S : Nat → Bool} (h : MapS w b S) : b < w.heap.size := by obtain ⟨l, h, _⟩ := h; exact h.lt
/-- The map of all marks. -/
def Knd (w : World) (b : Nat) : Prop := MapS w b (fun _ => true)
theorem MapS.all {w : World} {b : Nat} {S : Nat → Bool} (h : MapS w b S) (hS : ∀ j, j < 5 → S j = true) : Knd w b := by
  obtain ⟨l, hm, hl⟩ := h
  refine ⟨l, hm, fun p => (hl p).trans ?_⟩
  constructor
  · rintro ⟨j, hj, _, e⟩; exact ⟨j, hj, rfl, e⟩
  · rintro ⟨j, hj, _, e⟩; exact ⟨j, hj, hS j hj, e⟩
def kF (b : Nat) : Fact where
  on k := k = b
  is w := Knd w b
  dep w w' h hz hk := by
    obtain ⟨l, hm, hl⟩ := h
    exact ⟨l, hm.same (hk b rfl), hl⟩
end Up
theorem MapL.look_no1 {P : Program} {k e t : TypeId} {w : World} {b : Nat} {l : List (Value × Value)} {key z : Value} (h : MapL w P k b l) (K : Maps.Keyed P k) (ht : P.underlying t = some (.map k e)) (hz : (zeroValue e).run P w = .ok z w) {q : Lit} (hkey : keyOf P k key = some q) (hno : ∀ p ∈ l, p.1 ≠ key) :
    (Instr.lookup t (.map (some b)) key false).run P w = .ok z w := by
  obtain ⟨es, clock, hb, rfl, hk, hd⟩ := h
  have hks : ∀ x ∈ es.toList, ∃ q, keyOf P k x.key = some q := fun x hx => hk (x.key, x.val) (List.mem_map.2 ⟨x, hx, rfl⟩)
  rcases K.find w hkey es.toList hks with ⟨h1, h2⟩ | ⟨j, e0, h1, h2, h3⟩
  · simp [Instr.lookup, run_underlying ht, MapKept.run_getObj_map hb, K.check w _ hkey, h1, hz, Result.andThen]
  · exact absurd h3 (hno (e0.key, e0.val) (List.mem_map.2 ⟨e0, List.mem_of_getElem? h2, rfl⟩))
theorem MapL.look_yes1 {P : Program} {k e t : TypeId} {w : World} {b : Nat} {l : List (Value × Value)} {key v : Value} (h : MapL w P k b l) (K : Maps.Keyed P k) (ht : P.underlying t = some (.map k e)) {q : Lit} (hkey : keyOf P k key = some q) (hin : (key, v) ∈ l) :
    (Instr.lookup t (.map (some b)) key false).run P w = .ok v w := by
  obtain ⟨es, clock, hb, rfl, hk, hd⟩ := h
  have hks : ∀ x ∈ es.toList, ∃ q, keyOf P k x.key = some q := fun x hx => hk (x.key, x.val) (List.mem_map.2 ⟨x, hx, rfl⟩)
  obtain ⟨x1, hx1, he1⟩ := List.mem_map.1 hin
  cases he1
  rcases K.find w hkey es.toList hks with ⟨h1, h2⟩ | ⟨j, e0, h1, h2, h3⟩
  · exact absurd rfl (h2 x1 hx1)
  · have hv : e0.val = x1.val := by
      obtain ⟨i, hi, ei⟩ := List.mem_iff_getElem.1 hx1
      have hj := (List.getElem?_eq_some_iff.1 h2)
      obtain ⟨hj1, hj2⟩ := hj
      have g1 : ((es.toList.map (fun e => (e.key, e.val))).map Prod.fst)[i]? = some x1.key := by rw [List.getElem?_map, List.getElem?_map, List.getElem?_eq_getElem hi, ei]; rfl
      have g2 : ((es.toList.map (fun e => (e.key, e.val))).map Prod.fst)[j]? = some x1.key := by rw [List.getElem?_map, List.getElem?_map, h2, ← h3]; rfl
      have hij := (List.getElem?_inj (List.getElem?_eq_some_iff.1 g1).1 hd).1 (g1.trans g2.symm)
      subst hij
      rw [← hj2, ei]
    simp [Instr.lookup, run_underlying ht, MapKept.run_getObj_map hb, K.check w _ hkey, h1, Result.andThen, hv]
end Go.Proofs.YtacnbpodcjefiaaDoor
