import Derived.Test.YtgkbjopgmbdnoaaGMem
import Derived.ProofKit
import Derived.OpenShut
import Derived.Test.YtgkbjopgmbdnoaaGPairs
import Derived.WalkKit
import Derived.Lib.SmallJoins
/- A slice of bytes that came in, as a list of bytes. -/
namespace Go.Proofs.Ytgkbjopgmbdnoaa
open Go.RowKit

theorem cell_lt {w : World} {a : Addr} {v : Value} (h : w.cell? a = some v) : a.block < w.heap.size := by
  rcases Nat.lt_or_ge a.block w.heap.size with h1 | h1
  · exact h1
  · simp [World.cell?, Array.getElem?_eq_none h1] at h
theorem rowBytes {w : World} {a : Option Addr} {len cap : Nat} {zs : List Int}
    (h : (a = none ∧ len = 0 ∧ cap = 0 ∧ zs = []) ∨ ∃ x, a = some x ∧ len ≤ cap ∧ cap ≤ maxLen ∧ zs.length = cap ∧ (∀ i, i < zs.length → w.cell? (x.add i) = some (.int .u8 (zs.getD i 0))) ∧ ∀ n ∈ zs, (Lit.int .u8 n).wf = true) :
    ∃ xs : List UInt8, Bs w w.heap.size a len xs ∧ len ≤ cap ∧ len ≤ maxLen ∧ (a = none → cap = 0) := by
  rcases h with ⟨rfl, rfl, rfl, rfl⟩ | ⟨x, rfl, hl, hm, hz, hc, hw⟩
  · exact ⟨[], Bs.none_, Nat.le_refl _, Nat.zero_le _, fun _ => rfl⟩
  · refine ⟨(zs.take len).map fun n => UInt8.ofNat n.toNat, ⟨by simp; omega, fun hn => ?_⟩, hl, Nat.le_trans hl hm, fun h => (by cases h)⟩
    have h0 := hc 0 (by omega)
    obtain ⟨b, o, spot⟩ := x
    have hspot : spot = none := by simpa [Addr.add] using World.cell?_spot h0
    subst hspot
    refine ⟨b, o, rfl, ?_, fun j hj => ?_⟩
    · have := cell_lt h0
      simpa [Addr.add] using this
    · have hj2 : j < zs.length := by omega
      have h1 := hc j hj2
      rw [Addr.add_lit] at h1
      rw [h1]
      have hwj := hw (zs.getD j 0) (by simp [List.getD, hj2])
      have hb : 0 ≤ zs.getD j 0 ∧ zs.getD j 0 ≤ 255 := by simpa [Lit.wf, IntKind.min, IntKind.max, IntKind.signed, IntKind.bits] using hwj
      generalize hv : zs.getD j 0 = v at *
      have hv' : zs[j] = v := by rw [← hv]; simp [List.getD, hj2]
      simp [hj, hj2, hv']
      omega
theorem int_bounds {n : Int} (h : (Lit.int .i64 n).wf = true) : -9223372036854775808 ≤ n ∧ n ≤ 9223372036854775807 := by
  simpa [Lit.wf, IntKind.min, IntKind.max, IntKind.signed, IntKind.bits] using h
theorem u8_bounds {n : Int} (h : (Lit.int .u8 n).wf = true) : 0 ≤ n ∧ n ≤ 255 := by
  simpa [Lit.wf, IntKind.min, IntKind.max, IntKind.signed, IntKind.bits] using h
theorem u8_of {n : Int} (h : (Lit.int .u8 n).wf = true) : ∃ K : UInt8, n = (K.toNat : Int) := by
  have hb := u8_bounds h
  exact ⟨UInt8.ofNat n.toNat, by simp; omega⟩
end Go.Proofs.Ytgkbjopgmbdnoaa
/- A slice of pairs that came in, as a list of pairs. -/
namespace Go.Proofs.Ytgkbjopgmbdnoaa
open Go.RowKit

/-- A slice of pairs, as an argument's laws open it. -/
def IsPairs (w : World) (a : Option Addr) (len cap : Nat) : Prop :=
  (a = none ∧ len = 0 ∧ cap = 0) ∨ ∃ x, a = some x ∧ len ≤ cap ∧ cap ≤ maxLen ∧ ∀ i, i < len → ∃ n0 n1 : Int, w.cell? (x.add (i * 2)) = some (.int .u16 n0) ∧ w.cell? (x.add (i * 2 + 1)) = some (.int .u32 n1) ∧ (Lit.int .u16 n0).wf = true ∧ (Lit.int .u32 n1).wf = true
theorem u16_bounds {n : Int} (h : (Lit.int .u16 n).wf = true) : 0 ≤ n ∧ n ≤ 65535 := by
  simpa [Lit.wf, IntKind.min, IntKind.max, IntKind.signed, IntKind.bits] using h
theorem u32_bounds {n : Int} (h : (Lit.int .u32 n).wf = true) : 0 ≤ n ∧ n ≤ 4294967295 := by
  simpa [Lit.wf, IntKind.min, IntKind.max, IntKind.signed, IntKind.bits] using h
theorem u16_of {n : Int} (h : (Lit.int .u16 n).wf = true) : ∃ K : UInt16, n = (K.toNat : Int) := by
  have hb := u16_bounds h
  exact ⟨UInt16.ofNat n.toNat, by simp; omega⟩
theorem u32_of {n : Int} (h : (Lit.int .u32 n).wf = true) : ∃ K : UInt32, n = (K.toNat : Int) := by
  have hb := u32_bounds h
  exact ⟨UInt32.ofNat n.toNat, by simp; omega⟩
theorem rowPairs {w : World} {a : Option Addr} {len cap : Nat} (h : IsPairs w a len cap) :
    ∃ xs : List Pr, Ps w w.heap.size a len xs ∧ len ≤ cap ∧ len ≤ maxLen ∧ (a = none → cap = 0) := by
  rcases h with ⟨rfl, rfl, rfl⟩ | ⟨x, rfl, hl, hm, hc⟩
  · exact ⟨[], Ps.none_, Nat.le_refl _, Nat.zero_le _, fun _ => rfl⟩
  · have hp : ∀ i, ∃ p : Pr, i < len → w.cell? (x.add (i * 2)) = some (.int .u16 (p.1.toNat : Int)) ∧ w.cell? (x.add (i * 2 + 1)) = some (.int .u32 (p.2.toNat : Int)) := fun i => by
      by_cases hi : i < len
      · obtain ⟨n0, n1, h0, h1, w0, w1⟩ := hc i hi
        obtain ⟨K0, rfl⟩ := u16_of w0
        obtain ⟨K1, rfl⟩ := u32_of w1
        exact ⟨(K0, K1), fun _ => ⟨h0, h1⟩⟩
      · exact ⟨(0, 0), fun h => absurd h hi⟩
    obtain ⟨f, hf⟩ := Classical.axiomOfChoice hp
    refine ⟨(List.range len).map f, ⟨by simp, fun hn => ?_⟩, hl, Nat.le_trans hl hm, fun h => (by cases h)⟩
    have h0 := (hf 0 hn).1
    obtain ⟨b, o, spot⟩ := x
    have hspot : spot = none := by simpa [Addr.add] using World.cell?_spot h0
    subst hspot
    refine ⟨b, o, rfl, ?_, fun j hj => ?_⟩
    · have := cell_lt h0
      simpa [Addr.add] using this
    · have h1 := hf j hj
      rw [Addr.add_lit, Addr.add_lit] at h1
      have e : ((List.range len).map f)[j]?.getD (0, 0) = f j := by simp [hj]
      rw [e]
      exact h1
end Go.Proofs.Ytgkbjopgmbdnoaa
/- Structs of many cells that come in by value, opened. Plain, over any program. -/
namespace Go.Proofs.Ytgkbjopgmbdnoaa
open Go.ChangeShapes Go.WideShapes Go.ChangeAt Go.RowKit
variable {H : Type} {enc : TypeId × Value → H} {P : Program} {w : World} {base : Nat} {spare : Nat → Bool} {held : Bool}
theorem array13 {α : Type} {cs : Array α} (h : cs.size = 13) : ∃ c0 c1 c2 c3 c4 c5 c6 c7 c8 c9 c10 c11 c12, cs = #[c0, c1, c2, c3, c4, c5, c6, c7, c8, c9, c10, c11, c12] := by
  obtain ⟨l⟩ := cs
  match l, h with
  | [c0, c1, c2, c3, c4, c5, c6, c7, c8, c9, c10, c11, c12], _ => exact ⟨c0, c1, c2, c3, c4, c5, c6, c7, c8, c9, c10, c11, c12, rfl⟩
/-- A struct's cells that read, field by field. -/
theorem open_within {t : TypeId} {fs : Array Field} {fuel : Nat} {cs : List Value} {x : DataW H × List MemPlace} (hs : P.underlying t = some (.struct fs)) (h : DataW.trod enc P w base spare held fuel t cs = some x) :
    ∃ n, ∀ (i : Nat) (f : Field) (T : TypeId) (o m : Nat), fs[i]? = some f → f.type = T → f.offset = o → P.cellsOf T = m → ∃ y, DataW.trod enc P w base spare held n T ((cs.drop o).take m) = some y := by
  obtain ⟨xs, n, _, rfl, _, hlen, hf⟩ := DataW.trod_struct hs h
  refine ⟨n, fun i f T o m hi ht ho hm => ?_⟩
  subst ht ho hm
  have hlt := (Array.getElem?_eq_some_iff.1 hi).1
  rw [hf i f hi]
  exact ⟨xs[i]'(by omega), List.getElem?_eq_getElem (by omega)⟩
/-- The same of a struct that came in by value. -/
theorem open_cells {r : Reach} {b0 : Nat} {t : TypeId} {fs : Array Field} {v : Value} {d : DataW H} {p : List MemPlace} {m : Nat} (hs : P.underlying t = some (.struct fs)) (hC : P.cellsOf t = m)
    (hv : Value.okWide P w r b0 t v) (h : DataW.Trod enc P w base spare held t v d p) :
    ∃ (cs : Array Value) (n : Nat), v = .agg cs ∧ cs.size = m ∧ ∀ (i : Nat) (f : Field) (T : TypeId) (o m : Nat), fs[i]? = some f → f.type = T → f.offset = o → P.cellsOf T = m → ∃ y, DataW.trod enc P w base spare held n T ((cs.toList.drop o).take m) = some y := by
  obtain ⟨cs, rfl, hsz⟩ := okWide_struct hs hv
  obtain ⟨fuel, hf⟩ := h
  obtain ⟨n, hn⟩ := open_within hs hf
  exact ⟨cs, n, rfl, hsz.trans hC, by simpa [Value.cells] using hn⟩
end Go.Proofs.Ytgkbjopgmbdnoaa
