/- Slices of one-cell values that came in (strings, bools), as lists of values. Plain, over any program. -/
import Derived.Test.YtdcbafddnegpaaaDoorMGa

namespace Go.Proofs.YtdcbafddnegpaaaDoor
open Go.RowKit
set_option linter.unusedVariables false

/-- A slice of n one-cell values, told by its cells. -/
def Vs (w : World) (B : Nat) (A : Option Addr) (n : Nat) (vs : List Value) : Prop :=
  vs.length = n ∧ (0 < n → ∃ b o, A = some ⟨b, o, none⟩ ∧ b < B ∧ ∀ j v, vs[j]? = some v → w.cell? ⟨b, o + j, none⟩ = some v)
def vF (A : Option Addr) (n : Nat) (vs : List Value) : Fact where
  on k := 0 < n ∧ ∃ o, A = some ⟨k, o, none⟩
  is w := Vs w w.heap.size A n vs
  dep w w' h hz hk := ⟨h.1, fun hn => by
    obtain ⟨b, o, e, hb, hc⟩ := h.2 hn
    exact ⟨b, o, e, by omega, fun j v hj => (World.cell?_of_block (a := ⟨b, o + j, none⟩) (hk b ⟨hn, o, e⟩)).trans (hc j v hj)⟩⟩
theorem vs_on {w : World} {A : Option Addr} {n : Nat} {vs : List Value} (h : Vs w w.heap.size A n vs) : ∀ k, (vF A n vs).on k → k < w.heap.size := fun k hk => by
  obtain ⟨hn, o, e⟩ := hk
  obtain ⟨b, o', e', hb, _⟩ := h.2 hn
  rw [e] at e'
  cases e'
  exact hb
theorem EnvF.vs {w : World} {fs : List Fact} {gs : List Bx} (h : EnvF w fs gs) {A : Option Addr} {n : Nat} {vs : List Value} (hm : vF A n vs ∈ fs) : Vs w w.heap.size A n vs := (h.f _ hm).1
/-- What came in: strings, bools. -/
def IsStrs (w : World) (a : Option Addr) (len cap : Nat) : Prop :=
  (a = none ∧ len = 0 ∧ cap = 0) ∨ ∃ x, a = some x ∧ len ≤ cap ∧ cap ≤ maxLen ∧ ∀ i, i < len → ∃ s : ByteArray, w.cell? (x.add i) = some (.string s) ∧ s.size ≤ maxLen
def IsBools (w : World) (a : Option Addr) (len cap : Nat) : Prop :=
  (a = none ∧ len = 0 ∧ cap = 0) ∨ ∃ x, a = some x ∧ len ≤ cap ∧ cap ≤ maxLen ∧ ∀ i, i < len → ∃ b : Bool, w.cell? (x.add i) = some (.bool b)
theorem vs_of {w : World} {a : Option Addr} {len cap : Nat} (f : Nat → Value) (h : (a = none ∧ len = 0 ∧ cap = 0) ∨ ∃ x, a = some x ∧ len ≤ cap ∧ cap ≤ maxLen ∧ ∀ i, i < len → w.cell? (x.add i) = some (f i)) :
    Vs w w.heap.size a len ((List.range len).map f) ∧ len ≤ cap ∧ len ≤ maxLen := by
  rcases h with ⟨rfl, rfl, rfl⟩ | ⟨x, rfl, hl, hm, hc⟩
  · exact ⟨⟨by simp, fun h => absurd h (by omega)⟩, Nat.le_refl _, Nat.zero_le _⟩
  · refine ⟨⟨by simp, fun hn => ?_⟩, hl, by omega⟩
    have h0 := hc 0 hn
    obtain ⟨b, o, spot⟩ := x
    have hspot : spot = none := by simpa [Addr.add] using World.cell?_spot h0
    subst hspot
    refine ⟨b, o, rfl, ?_, fun j v hj => ?_⟩
    · have := cell_lt h0
      simpa [Addr.add] using this
    · have hjl : j < len := by
        have := (List.getElem?_eq_some_iff.1 hj).1
        simpa using this
      have h1 := hc j hjl
      rw [Addr.add_lit] at h1
      rw [h1]
      simp [hjl] at hj
      rw [hj]
theorem rowStrs {w : World} {a : Option Addr} {len cap : Nat} (h : IsStrs w a len cap) :
    ∃ ss : List (List UInt8), Vs w w.heap.size a len (ss.map fun s => .string ⟨s.toArray⟩) ∧ len ≤ cap ∧ len ≤ maxLen ∧ ∀ s ∈ ss, s.length ≤ maxLen := by
  classical
  have hex : ∀ i, ∃ s : ByteArray, (i < len → ∀ x, a = some x → w.cell? (x.add i) = some (.string s)) ∧ s.size ≤ maxLen := fun i => by
    by_cases hi : i < len
    · rcases h with ⟨rfl, rfl, rfl⟩ | ⟨x, rfl, hl, hm, hc⟩
      · omega
      · obtain ⟨s, h1, h2⟩ := hc i hi
        exact ⟨s, fun _ y e => by cases e; exact h1, h2⟩
    · exact ⟨ByteArray.empty, fun h => absurd h hi, Nat.zero_le _⟩
  have hv := vs_of (w := w) (a := a) (len := len) (cap := cap) (fun i => .string (Classical.choose (hex i))) (by
    rcases h with h | ⟨x, hx, hl, hm, hc⟩
    · exact .inl h
    · exact .inr ⟨x, hx, hl, hm, fun i hi => (Classical.choose_spec (hex i)).1 hi x hx⟩)
  refine ⟨(List.range len).map fun i => (Classical.choose (hex i)).data.toList, ?_, hv.2.1, hv.2.2, ?_⟩
  · rw [List.map_map]
    exact hv.1
  · intro s hs
    obtain ⟨i, _, rfl⟩ := List.mem_map.1 hs
    exact (Classical.choose_spec (hex i)).2
theorem rowBools {w : World} {a : Option Addr} {len cap : Nat} (h : IsBools w a len cap) :
    ∃ bb : List Bool, Vs w w.heap.size a len (bb.map Value.bool) ∧ len ≤ cap ∧ len ≤ maxLen := by
  classical
  have hex : ∀ i, ∃ b : Bool, i < len → ∀ x, a = some x → w.cell? (x.add i) = some (.bool b) := fun i => by
    by_cases hi : i < len
    · rcases h with ⟨rfl, rfl, rfl⟩ | ⟨x, rfl, hl, hm, hc⟩
      · omega
      · obtain ⟨s, h1⟩ := hc i hi
        exact ⟨s, fun _ y e => by cases e; exact h1⟩
    · exact ⟨false, fun h => absurd h hi⟩
  have hv := vs_of (w := w) (a := a) (len := len) (cap := cap) (fun i => .bool (Classical.choose (hex i))) (by
    rcases h with h | ⟨x, hx, hl, hm, hc⟩
    · exact .inl h
    · exact .inr ⟨x, hx, hl, hm, fun i hi => Classical.choose_spec (hex i) hi x hx⟩)
  exact ⟨(List.range len).map fun i => Classical.choose (hex i), by rw [List.map_map]; exact hv.1, hv.2.1, hv.2.2⟩
end Go.Proofs.YtdcbafddnegpaaaDoor
