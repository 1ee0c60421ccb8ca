/- The document's own Take of layer 1. -/
import Derived.Test.YtjoopekgbfplpaaOcTake
namespace Go.Proofs.Ytjoopekgbfplpaa
open Go.RowKit Oct
attribute [local go_sem] i64_and1 i64_and7 i64_and31

theorem rtake_arg (A : Option Addr) (n c : Nat) (i size : Int) (w : World) (h : ¬ (1 ≤ size ∧ size ≤ 4 ∧ 0 ≤ i)) :
    Calls Try.prog 25 #[.slice A n c, .int .i64 i, .int .i64 size] w fun e w' => e = .returned (.tuple #[.int .i64 0, .int .i64 2]) ∧ w = w' := by
  by_cases h1 : size < 1
  · clear h
    go_enter Try.func25, Try.ntmps25
    go_wp2
    go_ret2
    exact ⟨rfl, rfl⟩
  · have d1 : decide (size < 1) = false := by simpa using h1
    by_cases h2 : 4 < size
    · have d2 : decide (4 < size) = true := by simpa using h2
      clear h
      go_enter Try.func25, Try.ntmps25
      go_wp2
      go_ret2
      exact ⟨rfl, rfl⟩
    · have d2 : decide (4 < size) = false := by simpa using h2
      have d3 : decide (i < 0) = true := by simp; omega
      clear h
      go_enter Try.func25, Try.ntmps25
      go_wp2
      go_ret2
      exact ⟨rfl, rfl⟩
theorem rtake_short (A : Option Addr) (n c : Nat) (i size : Int) (w : World) (hn : n ≤ 1000000) (h0 : 0 ≤ i) (hs : 1 ≤ size) (hs4 : size ≤ 4) (h : (n : Int) < i + size) :
    Calls Try.prog 25 #[.slice A n c, .int .i64 i, .int .i64 size] w fun e w' => e = .returned (.tuple #[.int .i64 0, .int .i64 10]) ∧ w = w' := by
  have d2 : decide (4 < size) = false := by simp; omega
  have d3 : decide (i < 0) = false := by simp; omega
  by_cases h1 : (n : Int) < i
  · have d1 : decide ((n : Int) < i) = true := by simpa using h1
    clear h
    go_enter Try.func25, Try.ntmps25
    go_wp2
    go_ret2
    exact ⟨rfl, rfl⟩
  · have d1 : decide ((n : Int) < i) = false := by simpa using h1
    have d4 : decide ((n : Int) - i < size) = true := by simp; omega
    clear h
    go_enter Try.func25, Try.ntmps25
    go_wp2
    go_ret2
    exact ⟨rfl, rfl⟩
theorem rtake_ok (A : Option Addr) (B n c : Nat) (xs : List UInt8) (i size : Int) (w : World) (hA : Bs w B A n xs) (h0 : 0 ≤ i) (h1 : i + size ≤ n) (hs : 1 ≤ size) (hs4 : size ≤ 4) (hn : n ≤ 1000000) :
    Calls Try.prog 25 #[.slice A n c, .int .i64 i, .int .i64 size] w fun e w' => e = .returned (.tuple #[.int .i64 (takeB ((xs.drop i.toNat).take size.toNat) : Nat), .int .i64 0]) ∧ w = w' := by
  obtain ⟨i, rfl⟩ := Int.eq_ofNat_of_zero_le h0
  obtain ⟨k, rfl⟩ := Int.eq_ofNat_of_zero_le (show 0 ≤ size by omega)
  rw [Int.toNat_natCast, Int.toNat_natCast]
  obtain ⟨b, o, rfl, hb, hc⟩ := bs_cell hA (by omega)
  have HC := Lib.hid hc
  have HA := Lib.hid hA
  clear hc hA
  have d2 : decide (4 < (k : Int)) = false := by simp; omega
  have d3 : decide ((i : Int) < 0) = false := by simp
  have d1 : decide ((n : Int) < (i : Int)) = false := by simp; omega
  have d4 : decide ((n : Int) - (i : Int) < (k : Int)) = false := by simp; omega
  go_enter Try.func25, Try.ntmps25
  go_wp2
  go_loop [8, 9] (fun a t => ∃ j : Nat, j ≤ k ∧ t = .int .i64 j ∧ a = .int .i64 (takeB ((xs.drop i).take j) : Nat)) (fun _ t => k - (intOf t).toNat)
  case atStart => exact ⟨0, Nat.zero_le _, rfl, rfl⟩
  case round =>
    obtain ⟨j, hj, rfl, rfl⟩ := hrel
    by_cases hlt : j < k
    · obtain ⟨x, hx, hcx⟩ := HC.out (i + j) (by omega)
      have HS := Lib.hid (takeB_take xs i j x hx)
      clear hx
      have hsm := takeB_small xs i j (by omega)
      generalize takeB ((xs.drop i).take j) = a at *
      have hxl : x.toNat < 256 := x.toNat_lt
      go_wp2
      go_round
      case rel => exact ⟨j + 1, by omega, by go_num, by rw [HS.out]; go_num⟩
      case measure => simp [intOf]; omega
    · have hjk : j = k := by omega
      subst hjk
      go_wp2
      go_ret2
      exact ⟨rfl, rfl⟩
end Go.Proofs.Ytjoopekgbfplpaa
