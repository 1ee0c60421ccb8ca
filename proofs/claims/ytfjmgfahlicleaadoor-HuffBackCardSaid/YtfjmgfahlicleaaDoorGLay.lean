/- Plain lists and numbers: how a bit is laid behind others, and what is laid in the end. Nothing of the program. -/
import Derived.Test.YtfjmgfahlicleaaDoorGBits
namespace Go.Proofs.YtfjmgfahlicleaaDoor.Oct

theorem div_mod_bit (a t : Nat) : a / 2 ^ t % 2 = (a.testBit t).toNat := (Nat.toNat_testBit a t).symm
theorem testBit_small (x j : Nat) (hx : x < 2) : x.testBit j = (decide (j = 0) && decide (x = 1)) := by
  have : x = 0 ∨ x = 1 := by omega
  rcases this with rfl | rfl
  · simp
  · cases j <;> simp [Nat.testBit_succ]
/-- One bit set. -/
theorem or_bit (y x s t : Nat) (hx : x < 2) (h0 : y / 2 ^ s % 2 = 0) : (y ||| x * 2 ^ s) / 2 ^ t % 2 = if t = s then x else y / 2 ^ t % 2 := by
  rw [div_mod_bit, Nat.testBit_or, Nat.testBit_mul_two_pow, testBit_small x (t - s) hx]
  by_cases h : t = s
  · subst h
    rw [div_mod_bit] at h0
    have h1 : y.testBit t = false := by cases hb : y.testBit t <;> simp_all
    have hx' : x = 0 ∨ x = 1 := by omega
    rcases hx' with rfl | rfl <;> simp [h1]
  · rw [if_neg h, div_mod_bit]
    by_cases hle : s ≤ t
    · have : ¬ t - s = 0 := by omega
      simp [this]
    · simp [hle]
/-- The lower bits cut off. -/
theorem and_mask (y s t : Nat) (ht : t < 8) : (y &&& (255 * 2 ^ (8 - s) % 256)) / 2 ^ t % 2 = if 8 - s ≤ t then y / 2 ^ t % 2 else 0 := by
  have e : (256 : Nat) = 2 ^ 8 := by decide
  have e2 : (255 : Nat) = 2 ^ 8 - 1 := by decide
  rw [div_mod_bit, Nat.testBit_and, e, Nat.testBit_mod_two_pow, Nat.testBit_mul_two_pow, e2, Nat.testBit_two_pow_sub_one]
  by_cases h : 8 - s ≤ t
  · have h2 : t - (8 - s) < 8 := by omega
    rw [if_pos h, div_mod_bit]
    simp [h, ht, h2]
  · rw [if_neg h]
    simp [h]

def orB (y : UInt8) (x s : Nat) : UInt8 := UInt8.ofNat (y.toNat ||| x * 2 ^ s)
theorem or_lt (y : UInt8) (x s : Nat) (hx : x < 2) (hs : s ≤ 7) : y.toNat ||| x * 2 ^ s < 256 := by
  have h1 : x * 2 ^ s < 2 ^ 8 := by
    have h2 : 2 ^ s ≤ 2 ^ 7 := Nat.pow_le_pow_right (by decide) hs
    have h3 : x * 2 ^ s ≤ 1 * 2 ^ s := Nat.mul_le_mul_right _ (by omega)
    omega
  exact Nat.or_lt_two_pow (n := 8) y.toNat_lt h1
theorem orB_toNat (y : UInt8) (x s : Nat) (hx : x < 2) (hs : s ≤ 7) : (orB y x s).toNat = y.toNat ||| x * 2 ^ s := by
  have := or_lt y x s hx hs
  simp only [orB, UInt8.toNat_ofNat']
  exact Nat.mod_eq_of_lt this
def maskB (y : UInt8) (s : Nat) : UInt8 := UInt8.ofNat (y.toNat &&& (255 * 2 ^ (8 - s) % 256))
theorem maskB_toNat (y : UInt8) (s : Nat) : (maskB y s).toNat = y.toNat &&& (255 * 2 ^ (8 - s) % 256) := by
  have h1 : y.toNat &&& (255 * 2 ^ (8 - s) % 256) ≤ y.toNat := Nat.and_le_left
  have h2 := y.toNat_lt
  simp only [maskB, UInt8.toNat_ofNat']
  exact Nat.mod_eq_of_lt (by omega)

theorem bitOf_set (ys : List UInt8) (q : Nat) (z : UInt8) (i : Nat) (hq : q < ys.length) : bitOf (ys.set q z) i = if i / 8 = q then z.toNat / 2 ^ (7 - i % 8) % 2 else bitOf ys i := by
  unfold bitOf
  by_cases h : i / 8 = q
  · subst h; simp [hq]
  · rw [if_neg h, List.getElem?_set_ne (by omega)]
theorem bitOf_out (xs : List UInt8) (i : Nat) (h : 8 * xs.length ≤ i) : bitOf xs i = 0 := by
  unfold bitOf
  rw [List.getElem?_eq_none (by omega)]
  simp
theorem bitOf_append (xs : List UInt8) (m i : Nat) : bitOf (xs ++ List.replicate m 0) i = bitOf xs i := by
  unfold bitOf
  by_cases h : i / 8 < xs.length
  · rw [List.getElem?_append_left h]
  · rw [List.getElem?_append_right (by omega), List.getElem?_eq_none (by omega : xs.length ≤ i / 8), List.getElem?_replicate]
    split <;> simp

/-- The bits while they are laid: used ones of xs, those of pre, then noughts. -/
def layL (xs : List UInt8) (used : Nat) (pre : List (Fin 2)) (i : Nat) : Nat :=
  if i < used then bitOf xs i else ((pre[i - used]?).map (fun b => b.val)).getD 0
structure Laying (xs : List UInt8) (used L : Nat) (pre : List (Fin 2)) (ys : List UInt8) : Prop where
  len : ys.length = L
  bit : ∀ i, i < 8 * L → bitOf ys i = layL xs used pre i

theorem laying_copy {xs : List UInt8} {used L : Nat} (hu : used = 8 * xs.length) (hL : xs.length ≤ L) : Laying xs used L [] (xs ++ List.replicate (L - xs.length) 0) := by
  refine ⟨by simp; omega, fun i _ => ?_⟩
  rw [bitOf_append]
  unfold layL
  by_cases h : i < used
  · rw [if_pos h]
  · rw [if_neg h, bitOf_out _ _ (by omega)]; rfl
theorem laying_mask {xs : List UInt8} {used L : Nat} (hs : used % 8 ≠ 0) (hu1 : used ≤ 8 * xs.length) (hu2 : xs.length ≤ (used + 7) / 8) (hL : xs.length ≤ L) {y : UInt8}
    (hy : (xs ++ List.replicate (L - xs.length) 0)[used / 8]? = some y) : Laying xs used L [] ((xs ++ List.replicate (L - xs.length) 0).set (used / 8) (maskB y (used % 8))) := by
  have hq : used / 8 < (xs ++ List.replicate (L - xs.length) (0 : UInt8)).length := by simp; omega
  refine ⟨by simp; omega, fun i hi => ?_⟩
  rw [bitOf_set _ _ _ _ hq]
  unfold layL
  by_cases h : i / 8 = used / 8
  · rw [if_pos h, maskB_toNat, and_mask _ _ _ (by omega)]
    have hb : y.toNat / 2 ^ (7 - i % 8) % 2 = bitOf xs i := by
      rw [← bitOf_append xs (L - xs.length) i]
      unfold bitOf
      rw [h, hy]
      rfl
    rw [hb]
    by_cases h2 : i < used
    · rw [if_pos h2, if_pos (by omega)]
    · rw [if_neg h2, if_neg (by omega)]; rfl
  · rw [if_neg h, bitOf_append]
    by_cases h2 : i < used
    · rw [if_pos h2]
    · rw [if_neg h2, bitOf_out _ _ (by omega)]; rfl
theorem laying_step {xs : List UInt8} {used L : Nat} {pre : List (Fin 2)} {ys : List UInt8} (h : Laying xs used L pre ys) (x : Fin 2) (hp : used + pre.length < 8 * L) {y : UInt8}
    (hy : ys[(used + pre.length) / 8]? = some y) : Laying xs used L (pre ++ [x]) (ys.set ((used + pre.length) / 8) (orB y x.val (7 - (used + pre.length) % 8))) := by
  have hlen := h.len
  have hq : (used + pre.length) / 8 < ys.length := by omega
  refine ⟨by simp [hlen], fun i hi => ?_⟩
  have hold := h.bit i hi
  have h0 : y.toNat / 2 ^ (7 - (used + pre.length) % 8) % 2 = 0 := by
    have := h.bit (used + pre.length) hp
    unfold bitOf layL at this
    rw [hy, if_neg (by omega)] at this
    simpa using this
  rw [bitOf_set _ _ _ _ hq]
  by_cases hi8 : i / 8 = (used + pre.length) / 8
  · rw [if_pos hi8, orB_toNat _ _ _ x.isLt (by omega), or_bit _ _ _ _ x.isLt h0]
    have hb : y.toNat / 2 ^ (7 - i % 8) % 2 = bitOf ys i := by unfold bitOf; rw [hi8, hy]; rfl
    rw [hb, hold]
    by_cases hip : i = used + pre.length
    · subst hip
      rw [if_pos rfl]
      unfold layL
      rw [if_neg (by omega)]
      simp
    · rw [if_neg (by omega)]
      unfold layL
      by_cases h2 : i < used
      · rw [if_pos h2, if_pos h2]
      · rw [if_neg h2, if_neg h2]
        by_cases h3 : i - used < pre.length
        · rw [List.getElem?_append_left h3]
        · rw [List.getElem?_eq_none (by omega), List.getElem?_eq_none (by simp; omega)]
  · rw [if_neg hi8, hold]
    unfold layL
    by_cases h2 : i < used
    · rw [if_pos h2, if_pos h2]
    · rw [if_neg h2, if_neg h2]
      by_cases h3 : i - used < pre.length
      · rw [List.getElem?_append_left h3]
      · have hne : i ≠ used + pre.length := fun e => hi8 (by rw [e])
        rw [List.getElem?_eq_none (by omega), List.getElem?_eq_none (by simp; omega)]
end Go.Proofs.YtfjmgfahlicleaaDoor.Oct
