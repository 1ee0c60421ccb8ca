/- Plain lists and numbers: numbers that begin within a byte. Nothing of the program. -/
import Derived.WalkKit
namespace Go.Proofs.Ytmckopjchpgcpaa.Px
set_option linter.unusedVariables false

/-- The greatest number of k bits. -/
def mx (k : Nat) : Nat := 2 ^ k - 1
/-- Bytes of seven bits, the lowest first. -/
def tailB (m : Nat) : List UInt8 := if h : m < 128 then [UInt8.ofNat m] else UInt8.ofNat (m % 128 + 128) :: tailB (m / 128)
termination_by m
decreasing_by omega
/-- A number behind a prefix of k bits, the upper bits noughts. -/
def numB (n k : Nat) : List UInt8 := if n < mx k then [UInt8.ofNat n] else UInt8.ofNat (mx k) :: tailB (n - mx k)
/-- .. with upper bits. -/
def putN (n k u : Nat) : List UInt8 := if n < mx k then [UInt8.ofNat (u / 2 ^ k * 2 ^ k + n)] else UInt8.ofNat (u / 2 ^ k * 2 ^ k + mx k) :: tailB (n - mx k)
/-- What the bytes behind the first one tell: the code, the number, how many. -/
def scan (n : Nat) (j : Nat) : List UInt8 → Nat × Nat × Nat
  | [] => (10, 0, 0)
  | y :: ys => if 5 ≤ j ∨ 2 ^ 31 ≤ n + y.toNat % 128 * 2 ^ (7 * j) then (60, 0, 0) else if y.toNat < 128 then (0, n + y.toNat % 128 * 2 ^ (7 * j), j + 1) else scan (n + y.toNat % 128 * 2 ^ (7 * j)) (j + 1) ys
/-- What bytes tell behind a prefix of k bits: the code, the number, how many bytes. -/
def takeN (xs : List UInt8) (k : Nat) : Nat × Nat × Nat :=
  match xs with
  | [] => (10, 0, 0)
  | x :: ys => if x.toNat % 2 ^ k < mx k then (0, x.toNat % 2 ^ k, 1) else
    if (scan (mx k) 0 ys).1 = 0 then (0, (scan (mx k) 0 ys).2.1, (scan (mx k) 0 ys).2.2 + 1) else ((scan (mx k) 0 ys).1, 0, 0)

theorem mx_pos {k : Nat} (h : 1 ≤ k) : 1 ≤ mx k := by
  have : 2 ^ 1 ≤ 2 ^ k := Nat.pow_le_pow_right (by decide) h
  unfold mx; omega
theorem mx_le {k : Nat} (h : k ≤ 8) : mx k ≤ 255 := by
  have : 2 ^ k ≤ 2 ^ 8 := Nat.pow_le_pow_right (by decide) h
  unfold mx; omega
theorem mx_succ (k : Nat) : mx k + 1 = 2 ^ k := by have := Nat.two_pow_pos k; unfold mx; omega
theorem tailB_lt {m : Nat} (h : m < 128) : tailB m = [UInt8.ofNat m] := by rw [tailB, dif_pos h]
theorem tailB_ge {m : Nat} (h : 128 ≤ m) : tailB m = UInt8.ofNat (m % 128 + 128) :: tailB (m / 128) := by rw [tailB, dif_neg (by omega)]
theorem tailB_pos (m : Nat) : 0 < (tailB m).length := by
  rw [tailB]; split <;> simp
/-- The length of a tail, by its bound. -/
theorem tailB_len (t : Nat) : ∀ m, m < 128 ^ (t + 1) → (tailB m).length ≤ t + 1 := by
  induction t with
  | zero => intro m h; rw [tailB_lt (by simpa using h)]; simp
  | succ t ih =>
    intro m h
    by_cases h1 : m < 128
    · rw [tailB_lt h1]; simp
    · rw [tailB_ge (by omega), List.length_cons]
      have := ih (m / 128) (by rw [Nat.pow_succ] at h; omega)
      omega
theorem tailB_le {m : Nat} (h : m < 2 ^ 31) : (tailB m).length ≤ 5 := tailB_len 4 m (by omega)
theorem tailB_mono (t : Nat) : ∀ m m', m' ≤ t → m ≤ m' → (tailB m).length ≤ (tailB m').length := by
  induction t using Nat.strongRecOn with
  | _ t ih =>
    intro m m' ht hm
    by_cases h1 : m' < 128
    · rw [tailB_lt h1, tailB_lt (by omega)]; exact Nat.le_refl _
    · rw [tailB_ge (m := m') (by omega), List.length_cons]
      by_cases h2 : m < 128
      · rw [tailB_lt h2]; simp
      · rw [tailB_ge (by omega), List.length_cons]
        have := ih (m' / 128) (by omega) (m / 128) (m' / 128) (Nat.le_refl _) (by omega)
        omega
theorem tailB_more {m m' : Nat} (h : m ≤ m') : (tailB m).length ≤ (tailB m').length := tailB_mono m' m m' (Nat.le_refl _) h
theorem numB_len_putN (n k u : Nat) : (putN n k u).length = (numB n k).length := by
  unfold putN numB; split <;> simp
theorem numB_pos (n k : Nat) : 0 < (numB n k).length := by unfold numB; split <;> simp
theorem numB_len {n k : Nat} (h : n < 2 ^ 31) : (numB n k).length ≤ 6 := by
  unfold numB
  split
  · simp
  · have := tailB_le (m := n - mx k) (by omega)
    simp only [List.length_cons]
    omega
theorem numB_more {n n' k : Nat} (h : n ≤ n') : (numB n k).length ≤ (numB n' k).length := by
  unfold numB
  split
  · split <;> simp
  · rw [if_neg (by omega)]
    simp only [List.length_cons]
    exact Nat.succ_le_succ (tailB_more (by omega))
theorem mx_mono {k k' : Nat} (h : k ≤ k') : mx k ≤ mx k' := by
  have : 2 ^ k ≤ 2 ^ k' := Nat.pow_le_pow_right (by decide) h
  unfold mx; omega
theorem numB_bits (n : Nat) {k k' : Nat} (h : k ≤ k') : (numB n k').length ≤ (numB n k).length := by
  have := mx_mono h
  unfold numB
  split
  · split <;> simp
  · rw [if_neg (by omega)]
    simp only [List.length_cons]
    exact Nat.succ_le_succ (tailB_more (by omega))

/-- A scan of a tail: the number is told, whatever stands behind it. -/
theorem scan_tail (bs : List UInt8) : ∀ (t n j m : Nat), m ≤ t → j + (tailB m).length ≤ 5 → n + m * 2 ^ (7 * j) < 2 ^ 31 → scan n j (tailB m ++ bs) = (0, n + m * 2 ^ (7 * j), j + (tailB m).length) := by
  intro t
  induction t using Nat.strongRecOn with
  | _ t ih =>
    intro n j m ht hj hn
    by_cases h1 : m < 128
    · rw [tailB_lt h1]
      have e : (UInt8.ofNat m).toNat = m := by simp; omega
      rw [tailB_lt h1] at hj
      simp only [List.length_cons, List.length_nil] at hj
      simp only [List.cons_append, List.nil_append, scan, e, List.length_cons, List.length_nil]
      rw [Nat.mod_eq_of_lt h1, if_neg (by omega), if_pos h1]
    · rw [tailB_ge (by omega)]
      rw [tailB_ge (by omega)] at hj
      simp only [List.length_cons] at hj
      have e : (UInt8.ofNat (m % 128 + 128)).toNat = m % 128 + 128 := by simp; omega
      have e2 : (m % 128 + 128) % 128 = m % 128 := by omega
      have hs : m * 2 ^ (7 * j) = m % 128 * 2 ^ (7 * j) + m / 128 * 2 ^ (7 * (j + 1)) := by
        have h7 : 2 ^ (7 * (j + 1)) = 128 * 2 ^ (7 * j) := by rw [show 7 * (j + 1) = 7 + 7 * j by omega, Nat.pow_add]
        rw [h7]
        generalize 2 ^ (7 * j) = z
        rw [← Nat.mul_assoc, ← Nat.add_mul]
        congr 1
        omega
      have hp := tailB_pos (m / 128)
      simp only [List.cons_append, scan, e, e2, List.length_cons]
      rw [if_neg (by omega), if_neg (by omega), ih (m / 128) (by omega) _ _ (m / 128) (Nat.le_refl _) (by omega) (by omega)]
      simp only [Prod.mk.injEq, true_and]
      exact ⟨by omega, by omega⟩
theorem scan_short : ∀ (t n j m : Nat), m ≤ t → j + (tailB m).length ≤ 5 → n + m * 2 ^ (7 * j) < 2 ^ 31 → scan n j ((tailB m).take ((tailB m).length - 1)) = (10, 0, 0) := by
  intro t
  induction t using Nat.strongRecOn with
  | _ t ih =>
    intro n j m ht hj hn
    by_cases h1 : m < 128
    · rw [tailB_lt h1]; rfl
    · rw [tailB_ge (by omega)]
      rw [tailB_ge (by omega)] at hj
      simp only [List.length_cons] at hj
      have e : (UInt8.ofNat (m % 128 + 128)).toNat = m % 128 + 128 := by simp; omega
      have e2 : (m % 128 + 128) % 128 = m % 128 := by omega
      have hs : m * 2 ^ (7 * j) = m % 128 * 2 ^ (7 * j) + m / 128 * 2 ^ (7 * (j + 1)) := by
        have h7 : 2 ^ (7 * (j + 1)) = 128 * 2 ^ (7 * j) := by rw [show 7 * (j + 1) = 7 + 7 * j by omega, Nat.pow_add]
        rw [h7]
        generalize 2 ^ (7 * j) = z
        rw [← Nat.mul_assoc, ← Nat.add_mul]
        congr 1
        omega
      have hp := tailB_pos (m / 128)
      have e3 : (tailB (m / 128)).length + 1 - 1 = (tailB (m / 128)).length - 1 + 1 := by omega
      rw [List.length_cons, e3, List.take_succ_cons]
      simp only [scan, e, e2]
      rw [if_neg (by omega), if_neg (by omega)]
      exact ih (m / 128) (by omega) _ _ (m / 128) (Nat.le_refl _) (by omega) (by omega)
/-- What a scan tells: never more than may be told, in no fewer bytes than are needed. -/
theorem scan_ok : ∀ (ys : List UInt8) (n j N u : Nat), scan n j ys = (0, N, u) → N < 2 ^ 31 ∧ j + 1 ≤ u ∧ u ≤ 5 ∧ u ≤ j + ys.length ∧ n ≤ N ∧ N - n < 2 ^ (7 * u) ∧ (N - n) % 2 ^ (7 * j) = 0 := by
  intro ys
  induction ys with
  | nil => intro n j N u h; simp [scan] at h
  | cons y ys ih =>
    intro n j N u h
    rw [scan] at h
    have hy := Nat.mod_lt y.toNat (show 0 < 128 by decide)
    have hz : 2 ^ (7 * (j + 1)) = 128 * 2 ^ (7 * j) := by rw [show 7 * (j + 1) = 7 + 7 * j by omega, Nat.pow_add]
    have hzp := Nat.two_pow_pos (7 * j)
    split at h
    · simp at h
    · rename_i h1
      split at h
      · simp only [Prod.mk.injEq, true_and] at h
        obtain ⟨rfl, rfl⟩ := h
        refine ⟨by omega, by omega, by omega, by simp, by omega, ?_, ?_⟩
        · rw [hz, Nat.add_sub_cancel_left]
          generalize 2 ^ (7 * j) = z at *
          exact Nat.mul_lt_mul_of_pos_right hy hzp
        · rw [Nat.add_sub_cancel_left]; exact Nat.mul_mod_left _ _
      · obtain ⟨a1, a2, a3, a4, a5, a6, a7⟩ := ih _ _ _ _ h
        have hlow : y.toNat % 128 * 2 ^ (7 * j) < 2 ^ (7 * (j + 1)) := by rw [hz]; exact Nat.mul_lt_mul_of_pos_right hy hzp
        have hdv : 2 ^ (7 * (j + 1)) ∣ 2 ^ (7 * u) := Nat.pow_dvd_pow 2 (by omega)
        have hdm := Nat.dvd_of_mod_eq_zero a7
        have e1 : N - n = (N - (n + y.toNat % 128 * 2 ^ (7 * j))) + y.toNat % 128 * 2 ^ (7 * j) := by omega
        refine ⟨a1, by omega, a3, by simp only [List.length_cons]; omega, by omega, ?_, ?_⟩
        · rw [e1]
          obtain ⟨q, hq⟩ := hdm
          obtain ⟨r, hr⟩ := hdv
          rw [hq] at a6 ⊢
          rw [hr] at a6 ⊢
          have hqr : q < r := Nat.lt_of_mul_lt_mul_left a6
          have : 2 ^ (7 * (j + 1)) * q + 2 ^ (7 * (j + 1)) ≤ 2 ^ (7 * (j + 1)) * r := by
            rw [← Nat.mul_succ]; exact Nat.mul_le_mul_left _ hqr
          omega
        · rw [e1, Nat.add_mod]
          have h2 : 2 ^ (7 * j) ∣ 2 ^ (7 * (j + 1)) := Nat.pow_dvd_pow 2 (by omega)
          rw [Nat.mod_eq_zero_of_dvd (Nat.dvd_trans h2 hdm), Nat.mul_mod_left]
          exact Nat.zero_mod _
theorem byte_lo (u k n : Nat) (hk : k ≤ 8) (hu : u < 256) (hn : n < 2 ^ k) : (UInt8.ofNat (u / 2 ^ k * 2 ^ k + n)).toNat = u / 2 ^ k * 2 ^ k + n := by
  have h : u / 2 ^ k * 2 ^ k + n < 256 := by
    have h1 : u / 2 ^ k < 2 ^ (8 - k) := by
      rw [Nat.div_lt_iff_lt_mul (Nat.two_pow_pos k), ← Nat.pow_add]
      rw [show 8 - k + k = 8 by omega]; exact hu
    have h2 : (u / 2 ^ k + 1) * 2 ^ k ≤ 2 ^ (8 - k) * 2 ^ k := Nat.mul_le_mul_right _ h1
    rw [← Nat.pow_add, show 8 - k + k = 8 by omega, Nat.add_mul, Nat.one_mul] at h2
    omega
  simp
  omega
theorem byte_mod (u k n : Nat) (hk : k ≤ 8) (hu : u < 256) (hn : n < 2 ^ k) : (UInt8.ofNat (u / 2 ^ k * 2 ^ k + n)).toNat % 2 ^ k = n := by
  rw [byte_lo u k n hk hu hn, Nat.add_comm, Nat.add_mul_mod_self_right, Nat.mod_eq_of_lt hn]
theorem byte_div (u k n : Nat) (hk : k ≤ 8) (hu : u < 256) (hn : n < 2 ^ k) : (UInt8.ofNat (u / 2 ^ k * 2 ^ k + n)).toNat / 2 ^ k = u / 2 ^ k := by
  rw [byte_lo u k n hk hu hn, Nat.add_comm, Nat.add_mul_div_right _ _ (Nat.two_pow_pos k), Nat.div_eq_of_lt hn, Nat.zero_add]
/-- What is put is taken, whatever stands behind it. -/
theorem take_put {n k u : Nat} (hk : k ≤ 8) (hu : u < 256) (hn : n < 2 ^ 31) (bs : List UInt8) : takeN (putN n k u ++ bs) k = (0, n, (putN n k u).length) := by
  have h0 := mx_succ k
  unfold putN
  split
  · rename_i h
    simp only [List.cons_append, List.nil_append, takeN, List.length_cons, List.length_nil]
    rw [byte_mod u k n hk hu (by omega), if_pos h]
  · rename_i h
    simp only [List.cons_append, takeN, List.length_cons]
    rw [byte_mod u k (mx k) hk hu (by omega), if_neg (by omega)]
    have h1 := tailB_le (m := n - mx k) (by omega)
    rw [scan_tail bs _ (mx k) 0 (n - mx k) (Nat.le_refl _) (by omega) (by simp; omega)]
    simp
    omega
theorem take_short {n k u : Nat} (hk : k ≤ 8) (hu : u < 256) (hn : n < 2 ^ 31) : takeN ((putN n k u).take ((putN n k u).length - 1)) k = (10, 0, 0) := by
  have h0 := mx_succ k
  unfold putN
  split
  · rfl
  · rename_i h
    have hp := tailB_pos (n - mx k)
    have e3 : (tailB (n - mx k)).length + 1 - 1 = (tailB (n - mx k)).length - 1 + 1 := by omega
    rw [List.length_cons, e3, List.take_succ_cons]
    simp only [takeN]
    rw [byte_mod u k (mx k) hk hu (by omega), if_neg (by omega)]
    have h1 := tailB_le (m := n - mx k) (by omega)
    rw [scan_short _ (mx k) 0 (n - mx k) (Nat.le_refl _) (by omega) (by simp; omega)]
    rfl
/-- What is taken may be told, and is put in no more bytes. -/
theorem take_only {xs : List UInt8} {k n used : Nat} (hk : k ≤ 8) (h : takeN xs k = (0, n, used)) : n < 2 ^ 31 ∧ 1 ≤ used ∧ used ≤ 6 ∧ used ≤ xs.length ∧ (numB n k).length ≤ used := by
  have h0 := mx_succ k
  have h8 := mx_le hk
  unfold takeN at h
  cases xs with
  | nil => simp at h
  | cons x ys =>
    simp only at h
    split at h
    · rename_i h1
      simp only [Prod.mk.injEq, true_and] at h
      obtain ⟨rfl, rfl⟩ := h
      refine ⟨by omega, by omega, by omega, by simp, ?_⟩
      unfold numB
      rw [if_pos h1]
      simp
    · split at h
      · rename_i h2
        simp only [Prod.mk.injEq, true_and] at h
        generalize hs : scan (mx k) 0 ys = s at *
        obtain ⟨s1, s2, s3⟩ := s
        simp only at h h2
        obtain ⟨rfl, rfl⟩ := h
        subst h2
        obtain ⟨a1, a2, a3, a4, a5, a6, _⟩ := scan_ok ys (mx k) 0 _ _ hs
        refine ⟨a1, by omega, by omega, by simp only [List.length_cons]; omega, ?_⟩
        unfold numB
        rw [if_neg (by omega), List.length_cons]
        have e : 2 ^ (7 * s3) = 128 ^ s3 := by rw [Nat.pow_mul]
        obtain ⟨t, ht⟩ : ∃ t, s3 = t + 1 := ⟨s3 - 1, by omega⟩
        rw [e, ht] at a6
        have := tailB_len t _ a6
        omega
      · rename_i h2
        simp only [Prod.mk.injEq] at h
        exact absurd h.1 h2
/-- Which codes a scan tells. -/
theorem scan_code : ∀ (ys : List UInt8) (n j : Nat), (scan n j ys).1 = 0 ∨ (scan n j ys).1 = 10 ∨ (scan n j ys).1 = 60 := by
  intro ys
  induction ys with
  | nil => intro n j; simp [scan]
  | cons y ys ih =>
    intro n j
    rw [scan]
    split
    · simp
    · split
      · simp
      · exact ih _ _
theorem scan_none : ∀ (ys : List UInt8) (n j : Nat), (scan n j ys).1 ≠ 0 → (scan n j ys).2 = (0, 0) := by
  intro ys
  induction ys with
  | nil => intro n j; simp [scan]
  | cons y ys ih =>
    intro n j
    rw [scan]
    split
    · simp
    · split
      · simp
      · exact ih _ _
theorem take_code (xs : List UInt8) (k : Nat) : (takeN xs k).1 = 0 ∨ (takeN xs k).1 = 10 ∨ (takeN xs k).1 = 60 := by
  unfold takeN
  cases xs with
  | nil => simp
  | cons x ys =>
    simp only
    split
    · simp
    · split
      · simp
      · exact scan_code _ _ _
theorem take_none (xs : List UInt8) (k : Nat) (h : (takeN xs k).1 ≠ 0) : (takeN xs k).2 = (0, 0) := by
  unfold takeN at h ⊢
  cases xs with
  | nil => simp
  | cons x ys =>
    simp only at h ⊢
    split
    · rename_i h1; rw [if_pos h1] at h; exact absurd rfl h
    · rename_i h1
      rw [if_neg h1] at h
      split
      · rename_i h2; rw [if_pos h2] at h; exact absurd rfl h
      · rfl
/-- How many bytes a tail has, as the loop counts. -/
theorem tailB_count (m : Nat) : (tailB m).length = if m / 128 = 0 then 1 else 1 + (tailB (m / 128)).length := by
  rw [tailB]
  split
  · rw [if_pos (by omega)]; rfl
  · rw [if_neg (by omega), List.length_cons, Nat.add_comm]
end Go.Proofs.Ytmckopjchpgcpaa.Px
