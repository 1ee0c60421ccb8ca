/- The document's own answers of layer 1 about bits and bytes: Bit, Bits, Same. (By parts of layer 1's and layer 3's texts.) -/
import Derived.Laws.BytesArg
import Derived.Test.YtfjmgfahlicleaaDoorOcBit
namespace Go.Proofs.YtfjmgfahlicleaaDoor
open Go.RowKit Oct
attribute [local go_sem] i64_and1 i64_and7 i64_and31
theorem rbit_none (A : Option Addr) (n c : Nat) (i : Int) (w : World) (h : ¬ (0 ≤ i ∧ i < 8 * n)) (hn : n ≤ 1000000) (hi : i ≤ 9223372036854775807) :
    Calls Tryd.prog 22 #[.slice A n c, .int .i64 i] w fun e w' => e = .returned (.tuple #[.int .i64 0, .bool false]) ∧ w = w' := by
  by_cases h0 : i < 0
  · have d0 : decide (i < 0) = true := by simpa using h0
    clear h
    go_enter Tryd.func22, Tryd.ntmps22
    go_wp2
    go_ret2
    exact ⟨rfl, rfl⟩
  · obtain ⟨i, rfl⟩ := Int.eq_ofNat_of_zero_le (show 0 ≤ i by omega)
    have d0 : decide ((i : Int) < 0) = false := by simp
    have hd : (n : Int) ≤ (i : Int) / 8 := by omega
    have d1 : decide ((n : Int) ≤ (i : Int) / 8) = true := by simpa using hd
    clear h
    go_enter Tryd.func22, Tryd.ntmps22
    go_wp2
    go_ret2
    exact ⟨rfl, rfl⟩
theorem half_step (x j : Nat) : x / 2 ^ j / 2 = x / 2 ^ (j + 1) := by rw [Nat.div_div_eq_div_mul, Nat.pow_succ]
theorem rbit_yes (A : Option Addr) (B n c : Nat) (xs : List UInt8) (i : Int) (w : World) (hA : Bs w B A n xs) (h0 : 0 ≤ i) (h1 : i < 8 * n) (hn : n ≤ 1000000) :
    Calls Tryd.prog 22 #[.slice A n c, .int .i64 i] w fun e w' => e = .returned (.tuple #[.int .i64 (bitOf xs i.toNat), .bool true]) ∧ w = w' := by
  obtain ⟨i, rfl⟩ := Int.eq_ofNat_of_zero_le h0
  rw [Int.toNat_natCast]
  obtain ⟨b, o, rfl, hb, hc⟩ := bs_cell hA (by omega)
  obtain ⟨x, hx, hcx⟩ := hc (i / 8) (by omega)
  have HX : Hid (bitOf xs i = x.toNat / 2 ^ (7 - i % 8) % 2) := Lib.hid (by unfold bitOf; rw [hx]; rfl)
  clear hc hA hx
  have d0 : decide ((i : Int) < 0) = false := by simp
  have d1 : decide ((n : Int) ≤ (i : Int) / 8) = false := by simp; omega
  have hxl : x.toNat < 256 := x.toNat_lt
  go_enter Tryd.func22, Tryd.ntmps22
  go_wp2
  go_loop [6, 7] (fun a t => ∃ j : Nat, j ≤ 7 - i % 8 ∧ t = .int .i64 j ∧ a = .int .i64 (x.toNat / 2 ^ j : Nat)) (fun _ t => 7 - i % 8 - (intOf t).toNat)
  case atStart => exact ⟨0, Nat.zero_le _, rfl, by go_num⟩
  case round =>
    obtain ⟨j, hj, rfl, rfl⟩ := hrel
    have hle : x.toNat / 2 ^ j ≤ x.toNat := Nat.div_le_self _ _
    have HS := Lib.hid (half_step x.toNat j)
    by_cases hlt : j < 7 - i % 8
    · generalize x.toNat / 2 ^ j = a at *
      go_wp2
      go_round
      case rel => exact ⟨j + 1, by omega, by go_num, by rw [← HS.out]; go_num⟩
      case measure => simp [intOf]; omega
    · obtain rfl : j = 7 - i % 8 := by omega
      have HX' : Hid (bitOf xs i = x.toNat / 2 ^ (7 - i % 8) % 2) := HX
      clear HX
      generalize x.toNat / 2 ^ (7 - i % 8) = a at *
      go_wp2
      go_ret2
      exact ⟨ret_int2 (by rw [HX'.out]; simp), rfl⟩
theorem rbits_yes (A : Option Addr) (B n c : Nat) (xs : List UInt8) (i k : Int) (w : World) (hA : Bs w B A n xs) (h0 : 0 ≤ i) (hk0 : 0 ≤ k) (hk : k ≤ 30) (h1 : i + k ≤ 8 * n) (hn : n ≤ 1000000) :
    Calls Tryd.prog 23 #[.slice A n c, .int .i64 i, .int .i64 k] w fun e w' => e = .returned (.tuple #[.int .i64 (codeOf xs i.toNat k.toNat), .bool true]) ∧ w = w' := by
  obtain ⟨i, rfl⟩ := Int.eq_ofNat_of_zero_le h0
  obtain ⟨k, rfl⟩ := Int.eq_ofNat_of_zero_le hk0
  rw [Int.toNat_natCast, Int.toNat_natCast]
  have HA := Lib.hid hA
  clear hA
  have d0 : decide (30 < (k : Int)) = false := by simp; omega
  have d1 : decide ((i : Int) < 0) = false := by simp
  have d2 : decide (8 * (n : Int) < (i : Int)) = false := by simp; omega
  have d3 : decide (8 * (n : Int) - (i : Int) < (k : Int)) = false := by simp; omega
  go_enter Tryd.func23, Tryd.ntmps23
  go_wp2
  go_loop [8, 9, 10, 11] (fun a t x y => ∃ j : Nat, j ≤ k ∧ t = .int .i64 j ∧ a = .int .i64 (codeOf xs i j : Nat)) (fun a t x y => k - (intOf t).toNat)
  case atStart => exact ⟨0, Nat.zero_le _, rfl, rfl⟩
  case round =>
    obtain ⟨j, hj, rfl, rfl⟩ := hrel
    by_cases hlt : j < k
    · have hb := bitOf_lt xs (i + j)
      have hcl := codeOf_lt xs i j
      have hcs : codeOf xs i j < 1073741824 := Nat.lt_of_lt_of_le hcl (Nat.pow_le_pow_right (by decide) (show j ≤ 30 by omega))
      have HS : Hid (codeOf xs i (j + 1) = 2 * codeOf xs i j + bitOf xs (i + j)) := Lib.hid rfl
      have hij : (i : Int) + (j : Int) = ((i + j : Nat) : Int) := by omega
      have HM := Lib.hid hij
      have HY := Lib.hid (rbit_yes A B n c xs ((i + j : Nat) : Int) w HA.out (by omega) (by omega) hn)
      rw [Int.toNat_natCast] at HY
      clear hij hcl
      generalize codeOf xs i j = a at *
      generalize bitOf xs (i + j) = q at *
      go_wp2_with (go_at_call 22; rw [HM.out]; refine HY.out.mono ?_; rintro e w' ⟨rfl, rfl⟩)
      go_round
      case rel => exact ⟨j + 1, by omega, by go_num, by rw [HS.out]; go_num⟩
      case measure => simp [intOf]; omega
    · have hjk : j = k := by omega
      subst hjk
      go_wp2
      go_ret2
      exact ⟨rfl, rfl⟩
theorem rbits_none (A : Option Addr) (n c : Nat) (i k : Int) (w : World) (h : ¬ (0 ≤ k ∧ k ≤ 30 ∧ 0 ≤ i ∧ i + k ≤ 8 * n)) (hn : n ≤ 1000000) :
    Calls Tryd.prog 23 #[.slice A n c, .int .i64 i, .int .i64 k] w fun e w' => e = .returned (.tuple #[.int .i64 0, .bool false]) ∧ w = w' := by
  by_cases h1 : k < 0
  · clear h
    go_enter Tryd.func23, Tryd.ntmps23
    go_wp2
    go_ret2
    exact ⟨rfl, rfl⟩
  · have e1 : decide (k < 0) = false := by simpa using h1
    by_cases h2 : 30 < k
    · have e2 : decide (30 < k) = true := by simpa using h2
      clear h
      go_enter Tryd.func23, Tryd.ntmps23
      go_wp2
      go_ret2
      exact ⟨rfl, rfl⟩
    · have e2 : decide (30 < k) = false := by simpa using h2
      by_cases h3 : i < 0
      · have e3 : decide (i < 0) = true := by simpa using h3
        clear h
        go_enter Tryd.func23, Tryd.ntmps23
        go_wp2
        go_ret2
        exact ⟨rfl, rfl⟩
      · have e3 : decide (i < 0) = false := by simpa using h3
        by_cases h4 : 8 * (n : Int) < i
        · have e4 : decide (8 * (n : Int) < i) = true := by simpa using h4
          clear h
          go_enter Tryd.func23, Tryd.ntmps23
          go_wp2
          go_ret2
          exact ⟨rfl, rfl⟩
        · have e4 : decide (8 * (n : Int) < i) = false := by simpa using h4
          have e5 : decide (8 * (n : Int) - i < k) = true := by simp; omega
          clear h
          go_enter Tryd.func23, Tryd.ntmps23
          go_wp2
          go_ret2
          exact ⟨rfl, rfl⟩
theorem refsame_any (A A' : Option Addr) (n n' c c' B B' : Nat) (xs ys : List UInt8) (w : World) (h : Bs w B A n xs) (h' : Bs w B' A' n' ys) :
    Calls Tryd.prog 17 #[.slice A n c, .slice A' n' c'] w fun e w' => e = .returned (.bool (xs == ys)) ∧ w = w' := by
  have h1 := conv_bytes (c := c) h
  have h2 := conv_bytes (c := c') h'
  clear h h'
  go_enter Tryd.func17, Tryd.ntmps17
  go_wp2
  go_ret
  exact ⟨rfl, rfl⟩
end Go.Proofs.YtfjmgfahlicleaaDoor
