/- A block that is a row of bytes; what a call that turns some blocks leaves. Plain, over any program. -/
import Derived.Test.YtfglpnfegfcmeaaOctMem
namespace Go.Proofs.Ytfglpnfegfcmeaa
open Go.RowKit

/-- Block g is just the bytes ys. -/
def RowB (w : World) (g : Nat) (t : TypeId) (ys : List UInt8) : Prop := w.heap[g]? = some (.cells (ys.map bv).toArray t (0, 0))
section
variable {w w' : World} {g : Nat} {t : TypeId} {ys : List UInt8}
theorem RowB.lt (h : RowB w g t ys) : g < w.heap.size := (Array.getElem?_eq_some_iff.1 h).1
theorem RowB.cell (h : RowB w g t ys) {j : Nat} {x : UInt8} (hj : ys[j]? = some x) : w.cell? ⟨g, j, none⟩ = some (.int .u8 (x.toNat : Int)) := by
  have h1 := cell_of_row w g j _ t (0, 0) h
  rw [h1]
  simp [hj, bv]
theorem RowB.frozen (h : RowB w g t ys) (j : Nat) : w.frozen? ⟨g, j, none⟩ = false := by
  unfold RowB at h
  simp [World.frozen?, h]
theorem RowB.set_ (h : RowB w g t ys) (j : Nat) (z : UInt8) : RowB (w.setCell ⟨g, j, none⟩ (.int .u8 (z.toNat : Int))) g t (ys.set j z) := by
  unfold RowB at h ⊢
  simp [World.setCell, Array.getElem?_modify, h, List.map_set, bv]
theorem RowB.same (h : RowB w g t ys) (hb : w'.heap[g]? = w.heap[g]?) : RowB w' g t ys := hb.trans h
theorem RowB.of_own {B : Nat} {n : Nat} {l : List UInt8} (h : w.ownsRow B t 1 (.slice (some ⟨g, 0, none⟩) n n) n (l.map bv)) : RowB w g t l := by
  rcases h.2 with ⟨h1, _⟩ | ⟨g', cap, cur, h1, _, hg, _, _, hs, ht⟩
  · cases h1
  · cases h1
    have hl : cur.toList.length = n := by simpa using hs
    have : cur.toList = l.map bv := by rw [← ht]; exact (List.take_of_length_le (by omega)).symm
    unfold RowB
    rw [hg, ← this]
theorem RowB.own {B : Nat} (h : RowB w g t ys) (hB : B ≤ g) (hm : ys.length ≤ maxLen) : OwnB w B t (.slice (some ⟨g, 0, none⟩) ys.length ys.length) ys :=
  ⟨by simp, .inr ⟨g, ys.length, _, rfl, hB, h, Nat.le_refl _, hm, by simp, by simp [List.take_of_length_le]⟩⟩
theorem RowB.bs (h : RowB w g t ys) : Bs w w.heap.size (some ⟨g, 0, none⟩) ys.length ys :=
  ⟨rfl, fun _ => ⟨g, 0, rfl, h.lt, fun j hj => by rw [Nat.zero_add]; exact (h.cell (List.getElem?_eq_getElem hj)).trans (by simp [hj])⟩⟩
end

/-- Only blocks of p may have turned. -/
structure Turn (p : Nat → Prop) (w w' : World) : Prop where
  os : w'.os = w.os
  tape : w'.tape = w.tape
  output : w'.output = w.output
  size : w.heap.size ≤ w'.heap.size
  block : ∀ k, k < w.heap.size → ¬ p k → w'.heap[k]? = w.heap[k]?
section
variable {p q : Nat → Prop} {a b c : World}
theorem Turn.refl (p : Nat → Prop) (w : World) : Turn p w w := ⟨rfl, rfl, rfl, Nat.le_refl _, fun _ _ _ => rfl⟩
theorem Turn.trans (h : Turn p a b) (k : Turn p b c) : Turn p a c := ⟨k.os.trans h.os, k.tape.trans h.tape, k.output.trans h.output, Nat.le_trans h.size k.size, fun i hi hp => (k.block i (Nat.lt_of_lt_of_le hi h.size) hp).trans (h.block i hi hp)⟩
theorem Turn.mono (h : Turn p a b) (hpq : ∀ k, k < a.heap.size → p k → q k) : Turn q a b := ⟨h.os, h.tape, h.output, h.size, fun k hk hq => h.block k hk (fun hp => hq (hpq k hk hp))⟩
theorem Turn.drew (h : Turn p a b) : Turn p a b.drew := h.trans ⟨rfl, rfl, rfl, Nat.le_refl _, fun _ _ _ => rfl⟩
theorem Turn.drewN (h : Turn p a b) (n : Nat) : Turn p a (b.drewN n) := h.trans ⟨rfl, rfl, rfl, Nat.le_refl _, fun _ _ _ => rfl⟩
theorem Turn.setCell (h : Turn p a b) {x : Addr} (hx : p x.block) (u : Value) : Turn p a (b.setCell x u) :=
  h.trans ⟨rfl, rfl, rfl, by simp [World.setCell], fun k _ hp => Below.heap_setCell _ _ _ _ (fun e => hp (e ▸ hx))⟩
theorem Turn.alloc (h : Turn p a b) (o : Obj) : Turn p a (b.alloc o) := h.trans ⟨rfl, rfl, rfl, by simp, fun k hk _ => Below.heap_alloc _ _ _ hk⟩
theorem Turn.below {B : Nat} (h : Turn p a b) (hB : B ≤ a.heap.size) (hp : ∀ k, p k → B ≤ k) : Below B a b := ⟨h.os, h.tape, h.output, h.size, fun k hk => h.block k (by omega) (fun hpk => by have := hp k hpk; omega)⟩
theorem Turn.of_below {B : Nat} (h : Below B a b) (hB : ∀ k, k < a.heap.size → ¬ p k → k < B) : Turn p a b := ⟨h.os, h.tape, h.output, h.size, fun k hk hp => h.block k (hB k hk hp)⟩
end
end Go.Proofs.Ytfglpnfegfcmeaa
