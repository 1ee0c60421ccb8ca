/- Plain lists and numbers: bits of bytes, codes laid behind bits. Nothing of the program. -/
import Derived.Test.YtbflhphjnmhjhaaGreatGPlain
namespace Go.Proofs.YtbflhphjnmhjhaaGreat.Oct
/-- Bit i of bytes, 0 the first one's highest. -/
def bitOf (xs : List UInt8) (i : Nat) : Nat := (xs[i / 8]?.getD 0).toNat / 2 ^ (7 - i % 8) % 2
/-- The code of k bits from bit i on. -/
def codeOf (xs : List UInt8) (i : Nat) : Nat → Nat
  | 0 => 0
  | k + 1 => 2 * codeOf xs i k + bitOf xs (i + k)
theorem bitOf_lt (xs : List UInt8) (i : Nat) : bitOf xs i < 2 := Nat.mod_lt _ (by decide)
theorem codeOf_lt (xs : List UInt8) (i k : Nat) : codeOf xs i k < 2 ^ k := by
  induction k with
  | zero => simp [codeOf]
  | succ k ih => have := bitOf_lt xs (i + k); rw [codeOf, Nat.pow_succ]; omega
theorem codeOf_congr {xs ys : List UInt8} {i j : Nat} (k : Nat) (h : ∀ t, t < k → bitOf xs (i + t) = bitOf ys (j + t)) : codeOf xs i k = codeOf ys j k := by
  induction k with
  | zero => rfl
  | succ k ih => rw [codeOf, codeOf, ih (fun t ht => h t (by omega)), h k (by omega)]
theorem codeOf_add (xs : List UInt8) (i j k : Nat) : codeOf xs i (j + k) = codeOf xs i j * 2 ^ k + codeOf xs (i + j) k := by
  induction k with
  | zero => simp [codeOf]
  | succ k ih => rw [← Nat.add_assoc, codeOf, ih, codeOf, Nat.pow_succ, Nat.add_assoc i j k]; rw [Nat.mul_add, ← Nat.mul_assoc, Nat.mul_comm 2 (codeOf xs i j)]; rw [Nat.mul_assoc (codeOf xs i j) 2, Nat.mul_comm 2 (2 ^ k)]; omega
/-- A code's bit t from its highest one on. -/
theorem codeOf_bit (xs : List UInt8) (i k t : Nat) (h : t < k) : codeOf xs i k / 2 ^ (k - 1 - t) % 2 = bitOf xs (i + t) := by
  obtain ⟨m, rfl⟩ : ∃ m, k = t + 1 + m := ⟨k - 1 - t, by omega⟩
  have e : t + 1 + m - 1 - t = m := by omega
  rw [e, codeOf_add, Nat.mul_comm, Nat.mul_add_div (Nat.two_pow_pos m), Nat.div_eq_of_lt (codeOf_lt _ _ _), codeOf]
  have := bitOf_lt xs (i + t)
  omega
/-- What has these bits is this code. -/
theorem codeOf_eq {xs : List UInt8} {i k c : Nat} (hc : c < 2 ^ k) (h : ∀ t, t < k → bitOf xs (i + t) = c / 2 ^ (k - 1 - t) % 2) : codeOf xs i k = c := by
  induction k generalizing c with
  | zero => simp at hc; subst hc; rfl
  | succ k ih =>
    have h1 := h k (by omega)
    have e : k + 1 - 1 - k = 0 := by omega
    rw [e, Nat.pow_zero, Nat.div_one] at h1
    rw [codeOf, ih (c := c / 2) (by rw [Nat.pow_succ] at hc; omega), h1]
    · omega
    · intro t ht
      rw [h t (by omega), Nat.div_div_eq_div_mul, ← Nat.pow_succ']
      have : k + 1 - 1 - t = k - 1 - t + 1 := by omega
      rw [this]

/-- Two bytes of the same bits are one. -/
theorem byte_ext {x y : Nat} (hx : x < 256) (hy : y < 256) (h : ∀ i, i < 8 → x / 2 ^ (7 - i) % 2 = y / 2 ^ (7 - i) % 2) : x = y := by
  have h0 := h 0 (by omega); have h1 := h 1 (by omega); have h2 := h 2 (by omega); have h3 := h 3 (by omega)
  have h4 := h 4 (by omega); have h5 := h 5 (by omega); have h6 := h 6 (by omega); have h7 := h 7 (by omega)
  simp only [Nat.reduceSub, Nat.reducePow] at *
  omega
theorem bitOf_at (xs : List UInt8) (j i : Nat) (hi : i < 8) : bitOf xs (8 * j + i) = (xs[j]?.getD 0).toNat / 2 ^ (7 - i) % 2 := by
  unfold bitOf
  have e1 : (8 * j + i) / 8 = j := by omega
  have e2 : (8 * j + i) % 8 = i := by omega
  rw [e1, e2]
/-- Lists of bytes of the same length and bits are one. -/
theorem list_ext {xs ys : List UInt8} (hl : xs.length = ys.length) (h : ∀ i, i < 8 * xs.length → bitOf xs i = bitOf ys i) : xs = ys := by
  apply List.ext_getElem hl
  intro j h1 h2
  apply UInt8.toNat_inj.1
  refine byte_ext (UInt8.toNat_lt _) (UInt8.toNat_lt _) fun i hi => ?_
  have := h (8 * j + i) (by omega)
  rw [bitOf_at _ _ _ hi, bitOf_at _ _ _ hi, List.getElem?_eq_getElem h1, List.getElem?_eq_getElem h2] at this
  simpa using this

/-- The bits of what is laid: used ones of xs, then a code's k ones, then noughts. -/
def layBit (xs : List UInt8) (used c k i : Nat) : Nat :=
  if i < used then bitOf xs i else if i < used + k then c / 2 ^ (used + k - 1 - i) % 2 else 0
/-- What is laid. -/
def IsLaid (xs : List UInt8) (used c k : Nat) (o : List UInt8) : Prop :=
  o.length = (used + k + 7) / 8 ∧ ∀ i, i < 8 * o.length → bitOf o i = layBit xs used c k i
theorem isLaid_one {xs : List UInt8} {used c k : Nat} {o o' : List UInt8} (h : IsLaid xs used c k o) (h' : IsLaid xs used c k o') : o = o' :=
  list_ext (h.1.trans h'.1.symm) fun i hi => (h.2 i hi).trans (h'.2 i (by have := h.1; have := h'.1; omega)).symm
end Go.Proofs.YtbflhphjnmhjhaaGreat.Oct
