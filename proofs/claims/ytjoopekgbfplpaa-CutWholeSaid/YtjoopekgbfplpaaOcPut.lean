/- octet.Put: a number in its bytes, in memory of the call's own; and what may not be put. -/
import Derived.Test.YtjoopekgbfplpaaOcTake
import Derived.Maps.AppendAt
namespace Go.Proofs.Ytjoopekgbfplpaa
open Go.RowKit Oct
attribute [local go_sem] i64_and1 i64_and7 i64_and31

theorem put_bound (n : Int) (k : Nat) (h0 : 0 ≤ n) (h : ¬ n < 256 ^ k) : (n / 2 ^ (8 * k) != 0) = true := by
  obtain ⟨N, rfl⟩ := Int.eq_ofNat_of_zero_le h0
  have e : (256 : Nat) ^ k = 2 ^ (8 * k) := by rw [Nat.pow_mul]
  have h1 : 2 ^ (8 * k) ≤ N := by
    rw [← e]
    have h2 : ((256 ^ k : Nat) : Int) ≤ (N : Int) := by rw [Int.natCast_pow]; exact Int.not_lt.1 h
    omega
  have h3 : 1 ≤ N / 2 ^ (8 * k) := (Nat.le_div_iff_mul_le (Nat.two_pow_pos _)).2 (by omega)
  have h4 : ((N : Int) / 2 ^ (8 * k)) = ((N / 2 ^ (8 * k) : Nat) : Int) := by simp
  rw [h4, bne_iff_ne]
  omega
theorem put_inside (n : Int) (k : Nat) (h0 : 0 ≤ n) (h : n < 256 ^ k) : (n / 2 ^ (8 * k) != 0) = false := by
  obtain ⟨N, rfl⟩ := Int.eq_ofNat_of_zero_le h0
  have e : (256 : Nat) ^ k = 2 ^ (8 * k) := by rw [Nat.pow_mul]
  have h1 : N < 2 ^ (8 * k) := by
    rw [← e]
    have h2 : (N : Int) < ((256 ^ k : Nat) : Int) := by rw [Int.natCast_pow]; exact h
    omega
  have h3 : N / 2 ^ (8 * k) = 0 := Nat.div_eq_of_lt h1
  have h4 : ((N : Int) / 2 ^ (8 * k)) = ((N / 2 ^ (8 * k) : Nat) : Int) := by simp
  rw [h4, h3]
  rfl
theorem put_step (N m j : Nat) : (putB (N / 256 ^ (m + 1)) j).map bv ++ [.int .u8 ((N : Int) / 2 ^ (8 * m) % 256)] = (putB (N / 256 ^ m) (j + 1)).map bv := by
  have e1 : N / 256 ^ m / 256 = N / 256 ^ (m + 1) := by rw [Nat.div_div_eq_div_mul, Nat.pow_succ]
  have e2 : bv (UInt8.ofNat (N / 256 ^ m)) = .int .u8 ((N : Int) / 2 ^ (8 * m) % 256) := by
    unfold bv
    have : (256 : Nat) ^ m = 2 ^ (8 * m) := by rw [Nat.pow_mul]
    rw [this]
    simp
  rw [putB, List.map_append, e1, List.map_singleton, e2]
end Go.Proofs.Ytjoopekgbfplpaa
