/- Layer 9, plainly: sizes, what is evicted, indexes, what is found. -/
import Derived.Test.YtgplkjifgagjpaaDoorGFlds
namespace Go.Proofs.YtgplkjifgagjpaaDoor
open Go.RowKit
set_option linter.unusedVariables false
namespace Tb
def stat : List Fd := [(⟨#[58, 109, 101, 116, 104, 111, 100]⟩, ⟨#[71, 69, 84]⟩), (⟨#[58, 109, 101, 116, 104, 111, 100]⟩, ⟨#[80, 79, 83, 84]⟩), (⟨#[58, 112, 97, 116, 104]⟩, ⟨#[47]⟩), (⟨#[58, 115, 99, 104, 101, 109, 101]⟩, ⟨#[104, 116, 116, 112]⟩), (⟨#[58, 115, 99, 104, 101, 109, 101]⟩, ⟨#[104, 116, 116, 112, 115]⟩), (⟨#[58, 115, 116, 97, 116, 117, 115]⟩, ⟨#[50, 48, 48]⟩), (⟨#[58, 115, 116, 97, 116, 117, 115]⟩, ⟨#[50, 48, 52]⟩), (⟨#[58, 115, 116, 97, 116, 117, 115]⟩, ⟨#[52, 48, 52]⟩), (⟨#[58, 115, 116, 97, 116, 117, 115]⟩, ⟨#[53, 48, 48]⟩), (⟨#[97, 99, 99, 101, 112, 116]⟩, ⟨#[]⟩), (⟨#[99, 111, 110, 116, 101, 110, 116, 45, 108, 101, 110, 103, 116, 104]⟩, ⟨#[]⟩), (⟨#[99, 111, 110, 116, 101, 110, 116, 45, 116, 121, 112, 101]⟩, ⟨#[]⟩), (⟨#[99, 111, 111, 107, 105, 101]⟩, ⟨#[]⟩), (⟨#[100, 97, 116, 101]⟩, ⟨#[]⟩), (⟨#[104, 111, 115, 116]⟩, ⟨#[]⟩), (⟨#[108, 111, 99, 97, 116, 105, 111, 110]⟩, ⟨#[]⟩), (⟨#[112, 114, 105, 111, 114, 105, 116, 121]⟩, ⟨#[]⟩), (⟨#[112, 114, 105, 111, 114, 105, 116, 121]⟩, ⟨#[117, 61, 49]⟩), (⟨#[115, 101, 114, 118, 101, 114]⟩, ⟨#[]⟩), (⟨#[117, 115, 101, 114, 45, 97, 103, 101, 110, 116]⟩, ⟨#[]⟩)]
def statA : Array Value := #[.string ⟨#[58, 109, 101, 116, 104, 111, 100]⟩, .string ⟨#[71, 69, 84]⟩, .string ⟨#[58, 109, 101, 116, 104, 111, 100]⟩, .string ⟨#[80, 79, 83, 84]⟩, .string ⟨#[58, 112, 97, 116, 104]⟩, .string ⟨#[47]⟩, .string ⟨#[58, 115, 99, 104, 101, 109, 101]⟩, .string ⟨#[104, 116, 116, 112]⟩, .string ⟨#[58, 115, 99, 104, 101, 109, 101]⟩, .string ⟨#[104, 116, 116, 112, 115]⟩, .string ⟨#[58, 115, 116, 97, 116, 117, 115]⟩, .string ⟨#[50, 48, 48]⟩, .string ⟨#[58, 115, 116, 97, 116, 117, 115]⟩, .string ⟨#[50, 48, 52]⟩, .string ⟨#[58, 115, 116, 97, 116, 117, 115]⟩, .string ⟨#[52, 48, 52]⟩, .string ⟨#[58, 115, 116, 97, 116, 117, 115]⟩, .string ⟨#[53, 48, 48]⟩, .string ⟨#[97, 99, 99, 101, 112, 116]⟩, .string ⟨#[]⟩, .string ⟨#[99, 111, 110, 116, 101, 110, 116, 45, 108, 101, 110, 103, 116, 104]⟩, .string ⟨#[]⟩, .string ⟨#[99, 111, 110, 116, 101, 110, 116, 45, 116, 121, 112, 101]⟩, .string ⟨#[]⟩, .string ⟨#[99, 111, 111, 107, 105, 101]⟩, .string ⟨#[]⟩, .string ⟨#[100, 97, 116, 101]⟩, .string ⟨#[]⟩, .string ⟨#[104, 111, 115, 116]⟩, .string ⟨#[]⟩, .string ⟨#[108, 111, 99, 97, 116, 105, 111, 110]⟩, .string ⟨#[]⟩, .string ⟨#[112, 114, 105, 111, 114, 105, 116, 121]⟩, .string ⟨#[]⟩, .string ⟨#[112, 114, 105, 111, 114, 105, 116, 121]⟩, .string ⟨#[117, 61, 49]⟩, .string ⟨#[115, 101, 114, 118, 101, 114]⟩, .string ⟨#[]⟩, .string ⟨#[117, 115, 101, 114, 45, 97, 103, 101, 110, 116]⟩, .string ⟨#[]⟩]
theorem stat_len : stat.length = 20 := rfl
theorem stat_cells : (stat.flatMap fdc).toArray = statA := rfl
theorem stat_at (k : Nat) (hk : k < 20) : ∃ x, stat[k]? = some x ∧ statA[k * 2]? = some (.string x.1) ∧ statA[k * 2 + 1]? = some (.string x.2) := by
  refine ⟨stat[k]'(by rw [stat_len]; exact hk), List.getElem?_eq_getElem _, ?_⟩
  have h := fcs_at stat k (stat[k]'(by rw [stat_len]; exact hk)) (List.getElem?_eq_getElem _)
  rw [← stat_cells]
  simpa using h
/-- A field's size; all fields'. -/
def sz (x : Fd) : Nat := x.1.size + x.2.size + 32
def full : List Fd → Nat
  | [] => 0
  | x :: xs => sz x + full xs
theorem full_append (a b : List Fd) : full (a ++ b) = full a + full b := by
  induction a with
  | nil => simp [full]
  | cons x xs ih => simp [full, ih]; omega
theorem full_take_succ {xs : List Fd} {j : Nat} {x : Fd} (h : xs[j]? = some x) : full (xs.take (j + 1)) = full (xs.take j) + sz x := by
  obtain ⟨hl, rfl⟩ := List.getElem?_eq_some_iff.1 h
  rw [← List.take_append_getElem hl, full_append]
  simp [full]
theorem full_take_le (xs : List Fd) (j k : Nat) (h : j ≤ k) : full (xs.take j) ≤ full (xs.take k) := by
  have e : xs.take k = xs.take j ++ (xs.take k).drop j := by
    have := List.take_append_drop j (xs.take k)
    rw [List.take_take, Nat.min_eq_left h] at this
    exact this.symm
  rw [e, full_append]
  omega
theorem full_take (xs : List Fd) (j : Nat) : full (xs.take j) ≤ full xs := by
  rcases Nat.le_total j xs.length with h | h
  · have := full_take_le xs j xs.length h
    rwa [List.take_length] at this
  · rw [List.take_of_length_le h]; exact Nat.le_refl _
theorem full_len (xs : List Fd) : xs.length * 32 ≤ full xs := by
  induction xs with
  | nil => simp [full]
  | cons x xs ih => simp [full, sz]; omega
theorem sz_le {xs : List Fd} {j : Nat} {x : Fd} (h : xs[j]? = some x) : sz x ≤ full xs := by
  have h1 := full_take_succ h
  have h2 := full_take xs (j + 1)
  omega
/-- How many of the first ones fit. -/
def fits (M : Int) (xs : List Fd) : Nat → Nat
  | 0 => 0
  | k + 1 => if (full (xs.take (k + 1)) : Int) ≤ M then k + 1 else fits M xs k
def fit (M : Int) (xs : List Fd) : Nat := fits M xs xs.length
def keep (M : Int) (xs : List Fd) : List Fd := xs.take (fit M xs)
theorem fits_le (M : Int) (xs : List Fd) (k : Nat) : fits M xs k ≤ k := by
  induction k with
  | zero => exact Nat.le_refl _
  | succ k ih => unfold fits; split <;> omega
theorem fits_full (M : Int) (xs : List Fd) (k : Nat) (hM : 0 ≤ M) : (full (xs.take (fits M xs k)) : Int) ≤ M := by
  induction k with
  | zero => simpa [fits, full] using hM
  | succ k ih =>
    unfold fits
    split
    · assumption
    · exact ih
theorem fits_max (M : Int) (xs : List Fd) (k j : Nat) (hj : j ≤ k) (h : (full (xs.take j) : Int) ≤ M) : j ≤ fits M xs k := by
  induction k with
  | zero => omega
  | succ k ih =>
    unfold fits
    split
    · exact hj
    · rename_i hn
      rcases Nat.lt_or_ge j (k + 1) with h1 | h1
      · exact ih (by omega)
      · obtain rfl : j = k + 1 := by omega
        exact absurd h hn
theorem fit_le (M : Int) (xs : List Fd) : fit M xs ≤ xs.length := fits_le M xs _
theorem fit_full {M : Int} (xs : List Fd) (hM : 0 ≤ M) : (full (xs.take (fit M xs)) : Int) ≤ M := fits_full M xs _ hM
/-- j of the first ones fit just if j is at most that. -/
theorem fit_iff {M : Int} {xs : List Fd} {j : Nat} (hM : 0 ≤ M) (hj : j ≤ xs.length) : (full (xs.take j) : Int) ≤ M ↔ j ≤ fit M xs := by
  constructor
  · exact fits_max M xs _ j hj
  · intro h
    have h1 := fit_full xs hM
    have h2 := full_take_le xs j _ h
    omega
theorem keep_len (M : Int) (xs : List Fd) : (keep M xs).length = fit M xs := by
  unfold keep
  rw [List.length_take]
  exact Nat.min_eq_left (fit_le M xs)
theorem keep_full {M : Int} (xs : List Fd) (hM : 0 ≤ M) : (full (keep M xs) : Int) ≤ M := fit_full xs hM
theorem fit_all {M : Int} {xs : List Fd} (h : (full xs : Int) ≤ M) : fit M xs = xs.length := by
  have h1 := fits_max M xs xs.length xs.length (Nat.le_refl _) (by rwa [List.take_length])
  have h2 := fit_le M xs
  unfold fit at *
  omega
theorem keep_all {M : Int} {xs : List Fd} (h : (full xs : Int) ≤ M) : keep M xs = xs := by
  unfold keep
  rw [fit_all h, List.take_length]
theorem keep_sub (M : Int) (xs : List Fd) : full (keep M xs) ≤ full xs := full_take _ _
/-- Whether a table may be; what is added; another size. -/
def okB (M : Int) : Bool := decide (0 ≤ M) && decide (M ≤ 4096)
def rightB (M : Int) (xs : List Fd) : Bool := okB M && decide ((full xs : Int) ≤ M)
def addM (M : Int) (xs : List Fd) : Int := if rightB M xs then M else 0
def addL (M : Int) (xs : List Fd) (f : Fd) : List Fd := if rightB M xs then keep M (f :: xs) else []
def addE (M : Int) (xs : List Fd) : Int := if rightB M xs then 0 else 2
def resB (M : Int) (xs : List Fd) (m : Int) : Bool := rightB M xs && okB m
def resM (M : Int) (xs : List Fd) (m : Int) : Int := if resB M xs m then m else 0
def resL (M : Int) (xs : List Fd) (m : Int) : List Fd := if resB M xs m then keep m xs else []
def resE (M : Int) (xs : List Fd) (m : Int) : Int := if resB M xs m then 0 else 2
/-- The field of an index. -/
def atO (xs : List Fd) (i : Int) : Option Fd := if 1 ≤ i then (stat ++ xs)[(i - 1).toNat]? else none
def atV (xs : List Fd) (i : Int) : Fd := (atO xs i).getD fd0
def atE (xs : List Fd) (i : Int) : Int := if (atO xs i).isSome then 0 else 90
def atB (xs : List Fd) (i : Int) : Bool := (atO xs i).isSome
theorem atO_stat (xs : List Fd) (k : Nat) (hk : k < 20) : atO xs ((k : Int) + 1) = stat[k]? := by
  unfold atO
  rw [if_pos (by omega), show ((k : Int) + 1 - 1).toNat = k by omega, List.getElem?_append_left (by rw [stat_len]; exact hk)]
theorem atO_row (xs : List Fd) (k : Nat) : atO xs ((k : Int) + 21) = xs[k]? := by
  unfold atO
  rw [if_pos (by omega), show ((k : Int) + 21 - 1).toNat = 20 + k by omega, List.getElem?_append_right (by rw [stat_len]; omega), stat_len, Nat.add_sub_cancel_left]
theorem atO_low (xs : List Fd) (i : Int) (h : i < 1) : atO xs i = none := by
  unfold atO
  rw [if_neg (by omega)]
theorem atO_nil (i : Int) (h : i < 1 ∨ 20 < i) : atO [] i = none := by
  unfold atO
  split
  · rw [List.append_nil]
    exact List.getElem?_eq_none (by rw [stat_len]; omega)
  · rfl
/-- The least index, from 1 on, of what is so; 0 if there is none. -/
def ixOf (p : Fd → Bool) (l : List Fd) : Nat := match l.findIdx? p with
  | some i => i + 1
  | none => 0
theorem ixOf_snoc (p : Fd → Bool) (l : List Fd) (x : Fd) : ixOf p (l ++ [x]) = if ixOf p l = 0 then (if p x then l.length + 1 else 0) else ixOf p l := by
  unfold ixOf
  rw [List.findIdx?_append]
  cases h : l.findIdx? p with
  | some i => simp
  | none =>
    by_cases hp : p x = true <;> simp [hp, List.findIdx?_cons]
theorem ixOf_nil (p : Fd → Bool) : ixOf p [] = 0 := rfl
theorem ixOf_le (p : Fd → Bool) (l : List Fd) : ixOf p l ≤ l.length := by
  unfold ixOf
  split
  · rename_i i h
    have := List.findIdx?_eq_some_iff_getElem.1 h
    obtain ⟨h1, _⟩ := this
    omega
  · exact Nat.zero_le _
theorem ixOf_zero {p : Fd → Bool} {l : List Fd} : ixOf p l = 0 ↔ ∀ x ∈ l, p x = false := by
  unfold ixOf
  constructor
  · intro h
    split at h
    · omega
    · rename_i hn
      simpa [List.findIdx?_eq_none_iff] using hn
  · intro h
    have : l.findIdx? p = none := by simpa [List.findIdx?_eq_none_iff] using h
    rw [this]
theorem ixOf_at {p : Fd → Bool} {l : List Fd} {i : Nat} (h : ixOf p l = i + 1) : ∃ x, l[i]? = some x ∧ p x = true ∧ ∀ j y, j < i → l[j]? = some y → p y = false := by
  unfold ixOf at h
  split at h
  · rename_i k hk
    obtain rfl : k = i := by omega
    obtain ⟨h1, h2, h3⟩ := List.findIdx?_eq_some_iff_getElem.1 hk
    refine ⟨l[k], List.getElem?_eq_getElem h1, h2, fun j y hj hy => ?_⟩
    obtain ⟨h4, rfl⟩ := List.getElem?_eq_some_iff.1 hy
    simpa using h3 j hj
  · omega
def isF (f x : Fd) : Bool := decide (x = f)
def isN (f x : Fd) : Bool := decide (x.1 = f.1)
def findI (xs : List Fd) (f : Fd) : Nat := if ixOf (isF f) (stat ++ xs) = 0 then ixOf (isN f) (stat ++ xs) else ixOf (isF f) (stat ++ xs)
def findB (xs : List Fd) (f : Fd) : Bool := !decide (ixOf (isF f) (stat ++ xs) = 0)
theorem findI_le (xs : List Fd) (f : Fd) : findI xs f ≤ 20 + xs.length := by
  unfold findI
  have h1 := ixOf_le (isF f) (stat ++ xs)
  have h2 := ixOf_le (isN f) (stat ++ xs)
  rw [List.length_append, stat_len] at h1 h2
  split <;> omega
/-- Fields that are too great to be asked. -/
def byts (xs : List Fd) : Nat := full xs - 32 * xs.length
def greatB (xs : List Fd) : Bool := decide (140 < xs.length) || decide (5000 < byts (xs.take 141))
theorem byts_nil : byts [] = 0 := rfl
theorem byts_succ {xs : List Fd} {j : Nat} {x : Fd} (h : xs[j]? = some x) : byts (xs.take (j + 1)) = byts (xs.take j) + x.1.size + x.2.size := by
  have h1 := full_take_succ h
  have h2 := full_len (xs.take j)
  have hl := (List.getElem?_eq_some_iff.1 h).1
  unfold byts
  rw [h1, List.length_take, List.length_take, Nat.min_eq_left (by omega), Nat.min_eq_left (by omega)]
  rw [List.length_take, Nat.min_eq_left (by omega)] at h2
  unfold sz
  omega
theorem great_no {xs : List Fd} (h : greatB xs = false) : xs.length ≤ 140 ∧ full xs ≤ 9480 := by
  unfold greatB at h
  rw [Bool.or_eq_false_iff, decide_eq_false_iff_not, decide_eq_false_iff_not] at h
  obtain ⟨h1, h2⟩ := h
  rw [List.take_of_length_le (by omega)] at h2
  have h3 := full_len xs
  unfold byts at h2
  omega
end Tb
end Go.Proofs.YtgplkjifgagjpaaDoor
