/- A slice of pairs that came in, as a list of pairs. -/
import Derived.Test.YtbflhphjnmhjhaaGreatGPairs
import Derived.Test.YtbflhphjnmhjhaaGreatGArgs
namespace Go.Proofs.YtbflhphjnmhjhaaGreat
open Go.RowKit

/-- A slice of pairs, as an argument's laws open it. -/
def IsPairs (w : World) (a : Option Addr) (len cap : Nat) : Prop :=
  (a = none ∧ len = 0 ∧ cap = 0) ∨ ∃ x, a = some x ∧ len ≤ cap ∧ cap ≤ maxLen ∧ ∀ i, i < len → ∃ n0 n1 : Int, w.cell? (x.add (i * 2)) = some (.int .u16 n0) ∧ w.cell? (x.add (i * 2 + 1)) = some (.int .u32 n1) ∧ (Lit.int .u16 n0).wf = true ∧ (Lit.int .u32 n1).wf = true
theorem u16_bounds {n : Int} (h : (Lit.int .u16 n).wf = true) : 0 ≤ n ∧ n ≤ 65535 := by
  simpa [Lit.wf, IntKind.min, IntKind.max, IntKind.signed, IntKind.bits] using h
theorem u32_bounds {n : Int} (h : (Lit.int .u32 n).wf = true) : 0 ≤ n ∧ n ≤ 4294967295 := by
  simpa [Lit.wf, IntKind.min, IntKind.max, IntKind.signed, IntKind.bits] using h
theorem u16_of {n : Int} (h : (Lit.int .u16 n).wf = true) : ∃ K : UInt16, n = (K.toNat : Int) := by
  have hb := u16_bounds h
  exact ⟨UInt16.ofNat n.toNat, by simp; omega⟩
theorem u32_of {n : Int} (h : (Lit.int .u32 n).wf = true) : ∃ K : UInt32, n = (K.toNat : Int) := by
  have hb := u32_bounds h
  exact ⟨UInt32.ofNat n.toNat, by simp; omega⟩
theorem rowPairs {w : World} {a : Option Addr} {len cap : Nat} (h : IsPairs w a len cap) :
    ∃ xs : List Pr, Ps w w.heap.size a len xs ∧ len ≤ cap ∧ len ≤ maxLen ∧ (a = none → cap = 0) := by
  rcases h with ⟨rfl, rfl, rfl⟩ | ⟨x, rfl, hl, hm, hc⟩
  · exact ⟨[], Ps.none_, Nat.le_refl _, Nat.zero_le _, fun _ => rfl⟩
  · have hp : ∀ i, ∃ p : Pr, i < len → w.cell? (x.add (i * 2)) = some (.int .u16 p.1.toNat) ∧ w.cell? (x.add (i * 2 + 1)) = some (.int .u32 p.2.toNat) := fun i => by
      by_cases hi : i < len
      · obtain ⟨n0, n1, h0, h1, w0, w1⟩ := hc i hi
        obtain ⟨K0, rfl⟩ := u16_of w0
        obtain ⟨K1, rfl⟩ := u32_of w1
        exact ⟨(K0, K1), fun _ => ⟨h0, h1⟩⟩
      · exact ⟨(0, 0), fun h => absurd h hi⟩
    obtain ⟨f, hf⟩ := Classical.axiomOfChoice hp
    refine ⟨(List.range len).map f, ⟨by simp, fun hn => ?_⟩, hl, Nat.le_trans hl hm, fun h => (by cases h)⟩
    have h0 := (hf 0 hn).1
    obtain ⟨b, o, spot⟩ := x
    have hspot : spot = none := by simpa [Addr.add] using World.cell?_spot h0
    subst hspot
    refine ⟨b, o, rfl, ?_, fun j hj => ?_⟩
    · have := cell_lt h0
      simpa [Addr.add] using this
    · have h1 := hf j hj
      rw [Addr.add_lit, Addr.add_lit] at h1
      have e : ((List.range len).map f)[j]?.getD (0, 0) = f j := by simp [hj]
      rw [e]
      exact h1
end Go.Proofs.YtbflhphjnmhjhaaGreat
