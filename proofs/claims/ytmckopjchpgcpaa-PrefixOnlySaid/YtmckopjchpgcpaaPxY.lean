/- Plain lists and numbers: what is told behind the first byte, byte by byte. Nothing of the program. -/
import Derived.Test.YtmckopjchpgcpaaPxX
namespace Go.Proofs.Ytmckopjchpgcpaa.Px
/-- Bytes, each with how far its bits are shifted. -/
def pairsT : Nat → List UInt8 → List (UInt8 × Nat)
  | _, [] => []
  | j, y :: ys => (y, j * 7) :: pairsT (j + 1) ys
theorem pairsT_length (ys : List UInt8) : ∀ j, (pairsT j ys).length = ys.length := by
  induction ys with
  | nil => intro j; rfl
  | cons y ys ih => intro j; simp [pairsT, ih]
theorem pairsT_get (ys : List UInt8) : ∀ j i y, ys[i]? = some y → (pairsT j ys)[i]? = some (y, (j + i) * 7) := by
  induction ys with
  | nil => intro j i y h; simp at h
  | cons z ys ih =>
    intro j i y h
    cases i with
    | zero => simp at h; subst h; simp [pairsT]
    | succ i =>
      simp only [List.getElem?_cons_succ] at h
      simp only [pairsT, List.getElem?_cons_succ]
      rw [ih (j + 1) i y h, show j + 1 + i = j + (i + 1) by omega]
/-- One byte more, that goes on. -/
def stepP (o : Option Nat) (x : UInt8 × Nat) : Option Nat :=
  match o with
  | none => none
  | some a => if x.2 < 35 ∧ a + x.1.toNat % 128 * 2 ^ x.2 < 2147483648 ∧ 128 ≤ x.1.toNat then some (a + x.1.toNat % 128 * 2 ^ x.2) else none
def contP (n : Nat) (l : List (UInt8 × Nat)) : Option Nat := l.foldl stepP (some n)
theorem contP_snoc (n : Nat) (l : List (UInt8 × Nat)) (x : UInt8 × Nat) : contP n (l ++ [x]) = stepP (contP n l) x := by simp [contP]
theorem contP_go {n a : Nat} {l : List (UInt8 × Nat)} {x : UInt8 × Nat} (h : contP n l = some a) (h1 : x.2 < 35) (h2 : a + x.1.toNat % 128 * 2 ^ x.2 < 2147483648) (h3 : 128 ≤ x.1.toNat) : contP n (l ++ [x]) = some (a + x.1.toNat % 128 * 2 ^ x.2) := by
  rw [contP_snoc, h]
  exact if_pos ⟨h1, h2, h3⟩
theorem foldl_none (l : List (UInt8 × Nat)) : l.foldl stepP none = none := by
  induction l with
  | nil => rfl
  | cons x l ih => exact ih
theorem scan_pre : ∀ (pre : List (UInt8 × Nat)) (ys : List UInt8) (n j a : Nat), pre <+: pairsT j ys → pre.foldl stepP (some n) = some a → scan n j ys = scan a (j + pre.length) (ys.drop pre.length) := by
  intro pre
  induction pre with
  | nil => intro ys n j a _ h; simp at h; subst h; simp
  | cons x pre ih =>
    intro ys n j a hp h
    cases ys with
    | nil => simp [pairsT] at hp
    | cons y ys =>
      rw [pairsT, List.cons_prefix_cons] at hp
      obtain ⟨rfl, hp⟩ := hp
      rw [List.foldl_cons] at h
      by_cases hc : j * 7 < 35 ∧ n + y.toNat % 128 * 2 ^ (j * 7) < 2147483648 ∧ 128 ≤ y.toNat
      · rw [show stepP (some n) (y, j * 7) = some (n + y.toNat % 128 * 2 ^ (j * 7)) from if_pos hc] at h
        have e7 : 7 * j = j * 7 := Nat.mul_comm _ _
        rw [scan, e7, if_neg (by omega), if_neg (by omega), ih ys _ (j + 1) a hp h, List.length_cons, List.drop_succ_cons, show j + 1 + pre.length = j + (pre.length + 1) by omega]
      · rw [show stepP (some n) (y, j * 7) = none from if_neg hc, foldl_none] at h
        cases h
theorem pre_next : ∀ (pre : List (UInt8 × Nat)) (x : UInt8 × Nat) (ys : List UInt8) (j : Nat), pre ++ [x] <+: pairsT j ys → ∃ y rest, ys.drop pre.length = y :: rest ∧ x = (y, (j + pre.length) * 7) := by
  intro pre
  induction pre with
  | nil =>
    intro x ys j h
    cases ys with
    | nil => simp [pairsT] at h
    | cons y ys =>
      rw [pairsT, List.nil_append, List.cons_prefix_cons] at h
      exact ⟨y, ys, rfl, h.1⟩
  | cons z pre ih =>
    intro x ys j h
    cases ys with
    | nil => simp [pairsT] at h
    | cons y ys =>
      rw [pairsT, List.cons_append, List.cons_prefix_cons] at h
      obtain ⟨y', rest, h1, h2⟩ := ih x ys (j + 1) h.2
      exact ⟨y', rest, by simpa using h1, by rw [h2, List.length_cons, show j + 1 + pre.length = j + (pre.length + 1) by omega]⟩
/-- All go on: there is one too few. -/
theorem scan_all {n a : Nat} {ys : List UInt8} (h : contP n (pairsT 0 ys) = some a) : scan n 0 ys = (10, 0, 0) := by
  rw [scan_pre (pairsT 0 ys) ys n 0 a (List.prefix_refl _) h, pairsT_length, List.drop_length]
  rfl
/-- One is the last one. -/
theorem scan_last {n a : Nat} {ys : List UInt8} {pre : List (UInt8 × Nat)} {x : UInt8 × Nat} (hp : pre ++ [x] <+: pairsT 0 ys) (h : contP n pre = some a) (h1 : x.2 < 35) (h2 : a + x.1.toNat % 128 * 2 ^ x.2 < 2147483648) (h3 : x.1.toNat < 128) :
    scan n 0 ys = (0, a + x.1.toNat % 128 * 2 ^ x.2, pre.length + 1) ∧ pre.length + 1 ≤ ys.length := by
  obtain ⟨y, rest, hd, rfl⟩ := pre_next pre x ys 0 hp
  have hp2 : pre <+: pairsT 0 ys := (List.prefix_append pre _).trans hp
  have e7 : 7 * (0 + pre.length) = (0 + pre.length) * 7 := Nat.mul_comm _ _
  have hl := hp.length_le
  rw [pairsT_length] at hl
  refine ⟨?_, by simpa using hl⟩
  rw [scan_pre pre ys n 0 a hp2 h, hd, scan, e7]
  simp only at h1 h2 h3
  rw [if_neg (by omega), if_pos h3, Nat.zero_add]
/-- One is too much. -/
theorem scan_long {n a : Nat} {ys : List UInt8} {pre : List (UInt8 × Nat)} {x : UInt8 × Nat} (hp : pre ++ [x] <+: pairsT 0 ys) (h : contP n pre = some a) (h1 : x.2 < 35 → 2147483648 ≤ a + x.1.toNat % 128 * 2 ^ x.2) :
    scan n 0 ys = (60, 0, 0) := by
  obtain ⟨y, rest, hd, rfl⟩ := pre_next pre x ys 0 hp
  have hp2 : pre <+: pairsT 0 ys := (List.prefix_append pre _).trans hp
  have e7 : 7 * (0 + pre.length) = (0 + pre.length) * 7 := Nat.mul_comm _ _
  rw [scan_pre pre ys n 0 a hp2 h, hd, scan, e7]
  simp only at h1
  rw [if_pos (by omega)]
theorem contP_lt {n : Nat} (hn : n < 2147483648) : ∀ (l : List (UInt8 × Nat)) (a : Nat), contP n l = some a → a < 2147483648 := by
  intro l
  induction l generalizing n with
  | nil => intro a h; simp [contP] at h; omega
  | cons x l ih =>
    intro a h
    unfold contP at h
    rw [List.foldl_cons] at h
    by_cases hc : x.2 < 35 ∧ n + x.1.toNat % 128 * 2 ^ x.2 < 2147483648 ∧ 128 ≤ x.1.toNat
    · rw [show stepP (some n) x = some (n + x.1.toNat % 128 * 2 ^ x.2) from if_pos hc] at h
      exact ih hc.2.1 a h
    · rw [show stepP (some n) x = none from if_neg hc, foldl_none] at h
      cases h
end Go.Proofs.Ytmckopjchpgcpaa.Px
