/- A struct of two strings, and a struct of an int and a slice of such, that come in by value, opened; each string within the reach. Plain, over any program. -/
import Derived.Test.YtgplkjifgagjpaaDoorGTop
import Derived.Test.YtgplkjifgagjpaaDoorGFlds
import Derived.Deep.SlicePairs
import Derived.SizedLaws
namespace Go.Proofs.YtgplkjifgagjpaaDoor
open Go.ChangeShapes Go.WideShapes Go.ChangeAt Go.RowKit
set_option linter.unusedVariables false
set_option linter.unusedSimpArgs false
section
variable {H : Type} {enc : TypeId × Value → H} {P : Program} {w : World} {base : Nat} {spare : Nat → Bool} {held : Bool}
theorem weightsAll_mem {e : TypeId} : ∀ {l : List (DataW H)} {d : DataW H}, d ∈ l → ∀ n ∈ d.weights P e, n ∈ DataW.weightsAll P e l
  | _ :: _, _, .head _, n, hn => by
    unfold DataW.weightsAll
    exact List.mem_append_left _ hn
  | _ :: _, _, .tail _ h, n, hn => by
    unfold DataW.weightsAll
    exact List.mem_append_right _ (weightsAll_mem h n hn)
theorem reach47 {n : Nat} (h : n ≤ reachBytes) : n ≤ 140737488355328 := by
  have := reachBytes_lt
  omega
theorem open_fieldV {r : Reach} {b0 : Nat} {t : TypeId} {f0 f1 : Field} {v : Value} {d : DataW H} {p : List MemPlace} (hs : P.underlying t = some (.struct #[f0, f1])) (hC : P.cellsOf t = 2) (o0 : f0.offset = 0) (o1 : f1.offset = 1)
    (c0 : P.cellsOf f0.type = 1) (c1 : P.cellsOf f1.type = 1) (u0 : P.underlying f0.type = some .string) (u1 : P.underlying f1.type = some .string)
    (hv : Value.okWide P w r b0 t v) (h : DataW.Trod enc P w base spare held t v d p) (hz : ∀ n ∈ d.weights P t, n ≤ reachBytes) :
    ∃ s0 s1 : ByteArray, v = .agg #[.string s0, .string s1] ∧ s0.size ≤ 140737488355328 ∧ s1.size ≤ 140737488355328 := by
  obtain ⟨cs, rfl, hsz⟩ := okWide_struct hs hv
  rw [hC] at hsz
  obtain ⟨fuel, hf⟩ := h
  obtain ⟨L, rfl⟩ : ∃ L : List Value, cs = L.toArray := ⟨cs.toList, by simp⟩
  obtain ⟨xs, n, _, hx, _, hlen, hff⟩ := DataW.trod_struct hs hf
  match xs, hlen, L, hsz with
  | [y0, y1], _, [v0, v1], _ =>
    have g0 := hff 0 f0 rfl
    have g1 := hff 1 f1 rfl
    simp [o0, o1, c0, c1, Value.cells] at g0 g1
    obtain ⟨s0, e0, r0, _⟩ := DataW.trod_string u0 g0
    obtain ⟨s1, e1, r1, _⟩ := DataW.trod_string u1 g1
    subst r0 r1
    simp only [List.cons.injEq, and_true] at e0 e1
    subst e0 e1
    simp only [Prod.mk.injEq, List.map_cons, List.map_nil] at hx
    rw [hx.1] at hz
    simp [DataW.weights, hs, DataW.weightsEach] at hz
    exact ⟨s0, s1, rfl, reach47 hz.1, reach47 hz.2⟩
theorem open_tableV {r : Reach} {b0 : Nat} {t e : TypeId} {f0 f1 g0 g1 : Field} {v : Value} {d : DataW H} {p : List MemPlace} (hs : P.underlying t = some (.struct #[f0, f1])) (hC : P.cellsOf t = 2) (o0 : f0.offset = 0) (o1 : f1.offset = 1)
    (c0 : P.cellsOf f0.type = 1) (c1 : P.cellsOf f1.type = 1) (u0 : P.underlying f0.type = some (.int .i64)) (u1 : P.underlying f1.type = some (.slice e)) (he : P.underlying e = some (.struct #[g0, g1]))
    (ce : P.cellsOf e = 2) (q0 : g0.offset = 0) (q1 : g1.offset = 1) (d0 : P.cellsOf g0.type = 1) (d1 : P.cellsOf g1.type = 1) (t0 : P.underlying g0.type = some .string) (t1 : P.underlying g1.type = some .string)
    (hv : Value.okWide P w r b0 t v) (h : DataW.Trod enc P w base spare held t v d p) (hz : ∀ n ∈ d.weights P t, n ≤ reachBytes) :
    ∃ (M : Int) (a : Option Addr) (len cap : Nat), v = .agg #[.int .i64 M, .slice a len cap] ∧ (Lit.int .i64 M).wf = true ∧ IsFlds w a len cap := by
  obtain ⟨cs, rfl, hsz⟩ := okWide_struct hs hv
  rw [hC] at hsz
  obtain ⟨fuel, hf⟩ := h
  obtain ⟨L, rfl⟩ : ∃ L : List Value, cs = L.toArray := ⟨cs.toList, by simp⟩
  obtain ⟨xs, n, _, hx, _, hlen, hff⟩ := DataW.trod_struct hs hf
  match xs, hlen, L, hsz with
  | [y0, y1], _, [v0, v1], _ =>
    have g0' := hff 0 f0 rfl
    have g1' := hff 1 f1 rfl
    simp [o0, o1, c0, c1, Value.cells] at g0' g1'
    obtain ⟨M, e0, r0, wM⟩ := DataW.trod_int u0 g0'
    subst r0
    simp only [List.cons.injEq, and_true] at e0
    subst e0
    simp only [Prod.mk.injEq, List.map_cons, List.map_nil] at hx
    rw [hx.1] at hz
    rcases Go.Deep.open_slice_pairs u1 he ce q0 q1 d0 d1 g1' with ⟨hcs, _⟩ | ⟨x, l, c, m, k, V0, V1, D0, D1, P0, P1, hcs, _, hl, hm, hmm, hy, hc⟩
    · simp only [List.cons.injEq, and_true] at hcs
      exact ⟨M, none, 0, 0, by rw [hcs], wM, .inl ⟨rfl, rfl, rfl⟩⟩
    · simp only [List.cons.injEq, and_true] at hcs
      refine ⟨M, some x, l, c, by rw [hcs], wM, .inr ⟨x, rfl, hl, hm, fun i hi => ?_⟩⟩
      obtain ⟨h1, h2, p0, p1⟩ := hc i (by rw [hmm]; split <;> omega)
      obtain ⟨s0, e0, r0, _⟩ := DataW.trod_string t0 p0
      obtain ⟨s1, e1, r1, _⟩ := DataW.trod_string t1 p1
      simp only [List.cons.injEq, and_true] at e0 e1
      rw [e0] at h1
      rw [e1] at h2
      have hin : (DataW.agg [D0 i, D1 i]) ∈ ((List.range l).map fun i => DataW.agg [D0 i, D1 i]) := List.mem_map.2 ⟨i, List.mem_range.2 hi, rfl⟩
      have hw : ∀ n ∈ (DataW.agg [D0 i, D1 i]).weights P e, n ≤ reachBytes := fun n hn => by
        refine hz n ?_
        have hn2 := weightsAll_mem (P := P) hin n hn
        rw [hy]
        simp only [DataW.weights, hs, DataW.weightsEach, List.toList_toArray, List.map_cons, List.map_nil, u1]
        simp only [List.mem_append, List.mem_cons]
        exact .inr (.inl (.inr (.inl hn2)))
      rw [(Prod.mk.inj r0).1, (Prod.mk.inj r1).1] at hw
      simp [DataW.weights, he, DataW.weightsEach] at hw
      exact ⟨s0, s1, h1, h2, reach47 hw.1, reach47 hw.2⟩
end
end Go.Proofs.YtgplkjifgagjpaaDoor
