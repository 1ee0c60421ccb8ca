/- The walk of OctetBits: whatever is handed in, true; nothing that was there has turned. -/
import Derived.Test.YtfglpnfegfcmeaaOctApp
import Derived.Test.YtfglpnfegfcmeaaOctArgs
namespace Go.Proofs.Ytfglpnfegfcmeaa
open Go.RowKit Oct
attribute [local go_sem] i64_and1

theorem codeOf_byte (xs : List UInt8) (j : Nat) : codeOf xs (8 * j) 8 = (xs[j]?.getD 0).toNat := by
  refine codeOf_eq (UInt8.toNat_lt _) fun t ht => ?_
  rw [bitOf_at xs j t ht]
theorem codeOf_half (xs : List UInt8) (i m : Nat) : codeOf xs i (m + 1) / 2 = codeOf xs i m ∧ codeOf xs i (m + 1) % 2 = bitOf xs (i + m) := by
  have := bitOf_lt xs (i + m)
  rw [codeOf]
  omega
theorem lb_great (A : Option Addr) (n c : Nat) (i k : Int) (w : World) (h : 100 < n) (hm : n ≤ maxLen) :
    Calls Try.prog 6 #[.slice A n c, .int .i64 i, .int .i64 k] w fun e w' => e = .returned (.bool true) ∧ Below w.heap.size w w' := by
  unfold maxLen at hm
  go_enter Try.func6, Try.ntmps6
  go_wp2_with (go_at_call 8; refine (wakes_any _).mono ?_; rintro e w' ⟨rfl, hb⟩)
  go_ret
  exact ⟨rfl, hb⟩
/-- What may not be: the tests as the walk meets them, one after the other. -/
theorem lb_no (A : Option Addr) (n c : Nat) (i k : Int) (w : World) (hn : n ≤ 100) (hk1 : -9223372036854775808 ≤ k) (hk2 : k ≤ 9223372036854775807) (hi1 : -9223372036854775808 ≤ i) (hi2 : i ≤ 9223372036854775807)
    (h : ¬ (0 ≤ k ∧ k ≤ 30 ∧ 0 ≤ i ∧ i + k ≤ 8 * n)) :
    Calls Try.prog 6 #[.slice A n c, .int .i64 i, .int .i64 k] w fun e w' => e = .returned (.bool true) ∧ Below w.heap.size w w' := by
  have HB := Lib.hid (bits_none A n c i k w h (by omega))
  by_cases h1 : 0 ≤ k
  · by_cases h2 : k ≤ 30
    · have d2 : decide (k ≤ 30) = true := by simpa using h2
      by_cases h3 : 0 ≤ i
      · have d3 : decide (0 ≤ i) = true := by simpa using h3
        by_cases h4 : i ≤ 8 * n
        · have d4 : decide (i ≤ 8 * (n : Int)) = true := by simpa using h4
          have d5 : decide (k ≤ 8 * (n : Int) - i) = false := by simp; omega
          clear h
          go_enter Try.func6, Try.ntmps6
          go_wp2_with (first | (go_at_call 18; refine HB.out.mono ?_; rintro e w1 ⟨rfl, hb1⟩) | (go_at_call 8; refine (wakes_any _).mono ?_; rintro e w' ⟨rfl, hb⟩))
          go_ret
          exact ⟨rfl, hb1.trans (hb.mono hb1.size)⟩
        · have d4 : decide (i ≤ 8 * (n : Int)) = false := by simpa using h4
          clear h
          go_enter Try.func6, Try.ntmps6
          go_wp2_with (first | (go_at_call 18; refine HB.out.mono ?_; rintro e w1 ⟨rfl, hb1⟩) | (go_at_call 8; refine (wakes_any _).mono ?_; rintro e w' ⟨rfl, hb⟩))
          go_ret
          exact ⟨rfl, hb1.trans (hb.mono hb1.size)⟩
      · have d3 : decide (0 ≤ i) = false := by simpa using h3
        clear h
        go_enter Try.func6, Try.ntmps6
        go_wp2_with (first | (go_at_call 18; refine HB.out.mono ?_; rintro e w1 ⟨rfl, hb1⟩) | (go_at_call 8; refine (wakes_any _).mono ?_; rintro e w' ⟨rfl, hb⟩))
        go_ret
        exact ⟨rfl, hb1.trans (hb.mono hb1.size)⟩
    · have d2 : decide (k ≤ 30) = false := by simpa using h2
      clear h
      go_enter Try.func6, Try.ntmps6
      go_wp2_with (first | (go_at_call 18; refine HB.out.mono ?_; rintro e w1 ⟨rfl, hb1⟩) | (go_at_call 8; refine (wakes_any _).mono ?_; rintro e w' ⟨rfl, hb⟩))
      go_ret
      exact ⟨rfl, hb1.trans (hb.mono hb1.size)⟩
  · have d1 : decide (0 ≤ k) = false := by simpa using h1
    clear h
    go_enter Try.func6, Try.ntmps6
    go_wp2_with (first | (go_at_call 18; refine HB.out.mono ?_; rintro e w1 ⟨rfl, hb1⟩) | (go_at_call 8; refine (wakes_any _).mono ?_; rintro e w' ⟨rfl, hb⟩))
    go_ret
    exact ⟨rfl, hb1.trans (hb.mono hb1.size)⟩
theorem lb_yes (A : Option Addr) (n c : Nat) (xs : List UInt8) (i k : Int) (w : World) (hA : Bs w w.heap.size A n xs) (hnc : n ≤ c) (hn : n ≤ 100) (h1 : 0 ≤ k) (h2 : k ≤ 30) (h3 : 0 ≤ i) (h4 : i + k ≤ 8 * n) :
    Calls Try.prog 6 #[.slice A n c, .int .i64 i, .int .i64 k] w fun e w' => e = .returned (.bool true) ∧ Below w.heap.size w w' := by
  obtain ⟨i, rfl⟩ := Int.eq_ofNat_of_zero_le h3
  obtain ⟨k, rfl⟩ := Int.eq_ofNat_of_zero_le h1
  have HB := Lib.hid (bits_yes A n c xs i k w hA h3 h1 h2 h4 (by omega))
  simp only [Int.toNat_natCast] at HB
  have HA := Lib.hid hA
  clear hA
  have d2 : decide ((k : Int) ≤ 30) = true := by simpa using h2
  have d3 : decide (0 ≤ (i : Int)) = true := by simp
  have d4 : decide ((i : Int) ≤ 8 * (n : Int)) = true := by simp; omega
  have d5 : decide ((k : Int) ≤ 8 * (n : Int) - (i : Int)) = true := by simp; omega
  have hcl := codeOf_lt xs i k
  have hcs : codeOf xs i k < 2 ^ 30 := Nat.lt_of_lt_of_le hcl (Nat.pow_le_pow_right (by decide) (by omega))
  clear hcl
  go_enter Try.func6, Try.ntmps6
  go_wp2_with (go_at_call 18; refine HB.out.mono ?_; rintro e w1 ⟨rfl, hb1⟩)
  go_loop [7, 10, 11, 12] (fun t u x o => ∃ m : Nat, m ≤ k ∧ u = .int .i64 ((m : Int) - 1) ∧ t = .int .i64 (codeOf xs i m : Nat)) (fun t u x o => (intOf u + 1).toNat)
  case atStart => exact ⟨k, Nat.le_refl _, rfl, rfl⟩
  case round =>
    obtain ⟨m, hm, rfl, rfl⟩ := hrel
    cases m with
    | zero =>
      rw [show codeOf xs i 0 = 0 from rfl]
      go_wp2
      go_loopw [13] (fun t wr => ∃ j : Nat, j ≤ n ∧ t = .int .i64 j ∧ Below w.heap.size w wr) (fun t _ => n - (intOf t).toNat)
      case atStart => exact ⟨0, Nat.zero_le _, rfl, hb1⟩
      case round =>
        obtain ⟨j, hj, rfl, hb⟩ := hrel
        have hsz := hb.size
        by_cases hlt : j < n
        · obtain ⟨b, o, rfl, hbb, hc⟩ := bs_cell (HA.out.below hb) (by omega)
          obtain ⟨x, hx, hcx⟩ := hc j hlt
          have hy := bits_yes (some ⟨b, o, none⟩) n c xs ((8 * j : Nat) : Int) 8 wr ((HA.out.below hb).more hsz) (by omega) (by omega) (by omega) (by omega) (by omega)
          have h8 : (8 : Int).toNat = 8 := rfl
          rw [Int.toNat_natCast, h8, codeOf_byte, hx, Option.getD_some, Int.natCast_mul] at hy
          have HY := Lib.hid hy
          clear hc hx hy h8
          have hxl : (x.toNat : Int) ≤ 255 := by have := x.toNat_lt; omega
          go_wp2_with (go_at_call 18; refine HY.out.mono ?_; rintro e w3 ⟨rfl, hb3⟩; have hcx3 : w3.cell? ⟨b, o + j, none⟩ = some (.int .u8 (x.toNat : Int)) := (hb3.cell (p := ⟨b, o + j, none⟩) (by simp only; omega)).trans hcx)
          have hb4 := hb.trans (hb3.mono hsz)
          go_roundw
          case rel => exact ⟨j + 1, by omega, by go_num, hb4⟩
          case measure => simp [intOf]; omega
        · obtain rfl : j = n := by omega
          go_wp2_with (go_at_call 8; refine (wakes_any _).mono ?_; rintro e w' ⟨rfl, hb5⟩)
          go_ret
          exact ⟨rfl, hb.trans (hb5.mono hsz)⟩
    | succ m =>
      have hh := codeOf_half xs i m
      have HH := Lib.hid hh.1
      have HE : ((bitOf xs (i + m) : Nat) : Int) = ((codeOf xs i (m + 1) : Nat) : Int) % 2 := by omega
      have HF := Lib.hid HE
      clear hh HE
      rw [show ((m + 1 : Nat) : Int) - 1 = (m : Int) from by omega]
      have him : (i : Int) + (m : Int) = ((i + m : Nat) : Int) := by omega
      have HM := Lib.hid him
      clear him
      have HY := Lib.hid (bit_yes A _ n c xs ((i : Int) + m) w1 (HA.out.below hb1) (by omega) (by omega) (by omega))
      rw [HM.out, Int.toNat_natCast] at HY
      go_wp2_with (go_at_call 16; rw [HM.out]; refine HY.out.mono ?_; rintro e w' ⟨rfl, rfl⟩; rw [HF.out])
      go_round
      case rel => exact ⟨m, by omega, rfl, by rw [← HH.out]; go_num⟩
      case measure => simp [intOf]
end Go.Proofs.Ytfglpnfegfcmeaa
