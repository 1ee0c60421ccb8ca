/- PrefixSizes: a number has as many bytes as it needs. -/
import Derived.Test.YtmckopjchpgcpaaPxW
import Derived.Test.YtmckopjchpgcpaaGArgs
namespace Go.Proofs.Ytmckopjchpgcpaa
open Go.RowKit Px
set_option linter.unusedVariables false
set_option linter.unusedSimpArgs false
namespace Px
/-- How many bytes behind the first one are still to count. -/
def leftT (L : Nat) : Nat := if L = 0 then 0 else (tailB L).length
theorem leftT_start (d : Nat) : (tailB d).length = 1 + leftT (d / 128) := by
  rw [tailB_count]; unfold leftT; split <;> rfl
theorem leftT_step {L : Nat} (h : 0 < L) : leftT L = 1 + leftT (L / 128) := by
  rw [show leftT L = (tailB L).length from if_neg (by omega)]; exact leftT_start L
theorem leftT_zero : leftT 0 = 0 := rfl
theorem numB_ge {n k : Nat} (h : mx k ≤ n) : (numB n k).length = 2 + leftT ((n - mx k) / 128) := by
  unfold numB; rw [if_neg (by omega), List.length_cons, leftT_start]; omega
theorem numB_lt1 {n k : Nat} (h : n < mx k) : (numB n k).length = 1 := by unfold numB; rw [if_pos h]; rfl
theorem sizeV_nat {n k : Nat} (h1 : 1 ≤ k) (h8 : k ≤ 8) (hn : n < 2147483648) : sizeV (n : Int) (k : Int) = ((numB n k).length : Int) := by
  unfold sizeV; rw [putL_yes ⟨⟨by omega, by omega⟩, by omega, by omega⟩, numB_len_putN]
theorem sizeV_zero (n : Int) : sizeV n 0 = 0 := by
  unfold sizeV; rw [putL_no (fun h => by have := h.1.1; omega)]; rfl
end Px
theorem s_size0 (n : Int) (w : World) : Calls Try.prog 15 #[.int .i64 n, .int .i64 0] w fun e w' => e = .returned (.int .i64 0) ∧ Below w.heap.size w w' := by
  have h := X_Size n 0 w
  rw [sizeV_zero] at h
  exact h
theorem ls_no0 (n m k : Int) (w : World) (h : k < 1) : Calls Try.prog 6 #[.int .i64 n, .int .i64 m, .int .i64 k] w fun e w' => e = .returned (.bool true) ∧ Below w.heap.size w w' := by
  have dY : decide (k < 1) = true := decide_eq_true h
  clear h
  go_enter Try.func6, Try.ntmps6
  go_wp2_with (first
    | go_skip
    | (go_at_call 15; (with_reducible refine (s_size0 n w).mono ?_); rintro e w1 ⟨rfl, hb⟩; have HB1 := Lib.hid hb; clear hb)
    | (go_at_call 7; (with_reducible refine (wakes6 w1).mono ?_); rintro e w2 ⟨rfl, hb⟩; have HB2 := Lib.hid (below_step HB1.out hb); clear hb))
  go_ret
  exact ⟨rfl, HB2.out⟩
theorem ls_no1 (n m k : Int) (w : World) (h : 8 < k) (h0 : ¬ k < 1) : Calls Try.prog 6 #[.int .i64 n, .int .i64 m, .int .i64 k] w fun e w' => e = .returned (.bool true) ∧ Below w.heap.size w w' := by
  have d0 : decide (k < 1) = false := decide_eq_false h0
  have dY : decide (8 < k) = true := decide_eq_true h
  clear h h0
  go_enter Try.func6, Try.ntmps6
  go_wp2_with (first
    | go_skip
    | (go_at_call 15; (with_reducible refine (s_size0 n w).mono ?_); rintro e w1 ⟨rfl, hb⟩; have HB1 := Lib.hid hb; clear hb)
    | (go_at_call 7; (with_reducible refine (wakes6 w1).mono ?_); rintro e w2 ⟨rfl, hb⟩; have HB2 := Lib.hid (below_step HB1.out hb); clear hb))
  go_ret
  exact ⟨rfl, HB2.out⟩
theorem ls_no2 (n m k : Int) (w : World) (h : n < 0) (h0 : ¬ k < 1) (h1 : ¬ 8 < k) : Calls Try.prog 6 #[.int .i64 n, .int .i64 m, .int .i64 k] w fun e w' => e = .returned (.bool true) ∧ Below w.heap.size w w' := by
  have d0 : decide (k < 1) = false := decide_eq_false h0
  have d1 : decide (8 < k) = false := decide_eq_false h1
  have dY : decide (n < 0) = true := decide_eq_true h
  clear h h0 h1
  go_enter Try.func6, Try.ntmps6
  go_wp2_with (first
    | go_skip
    | (go_at_call 15; (with_reducible refine (s_size0 n w).mono ?_); rintro e w1 ⟨rfl, hb⟩; have HB1 := Lib.hid hb; clear hb)
    | (go_at_call 7; (with_reducible refine (wakes6 w1).mono ?_); rintro e w2 ⟨rfl, hb⟩; have HB2 := Lib.hid (below_step HB1.out hb); clear hb))
  go_ret
  exact ⟨rfl, HB2.out⟩
theorem ls_no3 (n m k : Int) (w : World) (h : m < n) (h0 : ¬ k < 1) (h1 : ¬ 8 < k) (h2 : ¬ n < 0) : Calls Try.prog 6 #[.int .i64 n, .int .i64 m, .int .i64 k] w fun e w' => e = .returned (.bool true) ∧ Below w.heap.size w w' := by
  have d0 : decide (k < 1) = false := decide_eq_false h0
  have d1 : decide (8 < k) = false := decide_eq_false h1
  have d2 : decide (n < 0) = false := decide_eq_false h2
  have dY : decide (m < n) = true := decide_eq_true h
  clear h h0 h1 h2
  go_enter Try.func6, Try.ntmps6
  go_wp2_with (first
    | go_skip
    | (go_at_call 15; (with_reducible refine (s_size0 n w).mono ?_); rintro e w1 ⟨rfl, hb⟩; have HB1 := Lib.hid hb; clear hb)
    | (go_at_call 7; (with_reducible refine (wakes6 w1).mono ?_); rintro e w2 ⟨rfl, hb⟩; have HB2 := Lib.hid (below_step HB1.out hb); clear hb))
  go_ret
  exact ⟨rfl, HB2.out⟩
theorem ls_no4 (n m k : Int) (w : World) (h : 2147483647 < m) (h0 : ¬ k < 1) (h1 : ¬ 8 < k) (h2 : ¬ n < 0) (h3 : ¬ m < n) : Calls Try.prog 6 #[.int .i64 n, .int .i64 m, .int .i64 k] w fun e w' => e = .returned (.bool true) ∧ Below w.heap.size w w' := by
  have d0 : decide (k < 1) = false := decide_eq_false h0
  have d1 : decide (8 < k) = false := decide_eq_false h1
  have d2 : decide (n < 0) = false := decide_eq_false h2
  have d3 : decide (m < n) = false := decide_eq_false h3
  have dY : decide (2147483647 < m) = true := decide_eq_true h
  clear h h0 h1 h2 h3
  go_enter Try.func6, Try.ntmps6
  go_wp2_with (first
    | go_skip
    | (go_at_call 15; (with_reducible refine (s_size0 n w).mono ?_); rintro e w1 ⟨rfl, hb⟩; have HB1 := Lib.hid hb; clear hb)
    | (go_at_call 7; (with_reducible refine (wakes6 w1).mono ?_); rintro e w2 ⟨rfl, hb⟩; have HB2 := Lib.hid (below_step HB1.out hb); clear hb))
  go_ret
  exact ⟨rfl, HB2.out⟩
theorem Px.mx_wrap (k : Nat) (h1 : 1 ≤ k) (h8 : k ≤ 8) : wrap64 (wrap64 (2 ^ k) - 1) = (mx k : Int) := by
  rcases bits8 h1 h8 with rfl | rfl | rfl | rfl | rfl | rfl | rfl | rfl <;> decide +kernel
set_option maxRecDepth 100000 in
set_option maxHeartbeats 1000000 in
theorem ls_lt8 (n m : Nat) (w : World) (hnm : n ≤ m) (hm : m ≤ 2147483647) (hlt : n < mx 8) : Calls Try.prog 6 #[.int .i64 (n : Int), .int .i64 (m : Int), .int .i64 8] w fun e w' => e = .returned (.bool true) ∧ Below w.heap.size w w' := by
  have d2 : decide ((n : Int) < 0) = false := decide_eq_false (by omega)
  have d3 : decide ((m : Int) < (n : Int)) = false := decide_eq_false (by omega)
  have d4 : decide ((2147483647 : Int) < (m : Int)) = false := decide_eq_false (by omega)
  have hL6 := numB_len (n := n) (k := 8) (by omega)
  have hmore := numB_more (k := 8) hnm
  have H1 : Hid (∀ w, Calls Try.prog 15 #[.int .i64 (n : Int), .int .i64 8] w fun e w' => e = .returned (.int .i64 ((numB n 8).length : Int)) ∧ Below w.heap.size w w') := Lib.hid (fun w => by have h := X_Size n ((8 : Nat) : Int) w; rw [sizeV_nat (by decide) (by decide) (by omega)] at h; exact h)
  have H2 : Hid (∀ w, Calls Try.prog 15 #[.int .i64 (m : Int), .int .i64 8] w fun e w' => e = .returned (.int .i64 ((numB m 8).length : Int)) ∧ Below w.heap.size w w') := Lib.hid (fun w => by have h := X_Size m ((8 : Nat) : Int) w; rw [sizeV_nat (by decide) (by decide) (by omega)] at h; exact h)
  have hlen := numB_lt1 hlt
  generalize (numB n 8).length = L1 at *
  generalize (numB m 8).length = L2 at *
  rw [show mx 8 = 255 from by decide] at *
  have dlt : decide (255 ≤ (n : Int)) = false := decide_eq_false (by omega)
  have q1 : decide (1 ≤ (L2 : Int)) = true := decide_eq_true (by omega)
  subst hlen
  go_enter Try.func6, Try.ntmps6
  go_wp2_with (first
    | go_skip
    | (go_at_call 15; (with_reducible refine (H1.out _).mono ?_); rintro e w1 ⟨rfl, hb⟩; have HB1 := Lib.hid hb; clear hb)
    | (go_at_call 15; (with_reducible refine (H2.out _).mono ?_); rintro e w2 ⟨rfl, hb⟩; have HB2 := Lib.hid (below_step HB1.out hb); clear hb)
    | (go_at_call 7; (with_reducible refine (wakes6 _).mono ?_); rintro e w4 ⟨rfl, hb⟩; have HB4 := Lib.hid (below_step HB2.out hb); clear hb))
  go_ret
  exact ⟨rfl, HB4.out⟩
set_option maxRecDepth 100000 in
set_option maxHeartbeats 1000000 in
theorem ls_lt (n m k : Nat) (w : World) (hnm : n ≤ m) (hm : m ≤ 2147483647) (hlt : n < mx k) (h1 : 1 ≤ k) (hk : k < 8) : Calls Try.prog 6 #[.int .i64 (n : Int), .int .i64 (m : Int), .int .i64 (k : Int)] w fun e w' => e = .returned (.bool true) ∧ Below w.heap.size w w' := by
  have h8 : k ≤ 8 := by omega
  have d0 : decide ((k : Int) < 1) = false := decide_eq_false (by omega)
  have d1 : decide ((8 : Int) < (k : Int)) = false := decide_eq_false (by omega)
  have d2 : decide ((n : Int) < 0) = false := decide_eq_false (by omega)
  have d3 : decide ((m : Int) < (n : Int)) = false := decide_eq_false (by omega)
  have d4 : decide ((2147483647 : Int) < (m : Int)) = false := decide_eq_false (by omega)
  have hL6 := numB_len (n := n) (k := k) (by omega)
  have hmore := numB_more (k := k) hnm
  have H1 : Hid (∀ w, Calls Try.prog 15 #[.int .i64 (n : Int), .int .i64 (k : Int)] w fun e w' => e = .returned (.int .i64 ((numB n k).length : Int)) ∧ Below w.heap.size w w') := Lib.hid (fun w => by have h := X_Size n ((k : Nat) : Int) w; rw [sizeV_nat h1 h8 (by omega)] at h; exact h)
  have H2 : Hid (∀ w, Calls Try.prog 15 #[.int .i64 (m : Int), .int .i64 (k : Int)] w fun e w' => e = .returned (.int .i64 ((numB m k).length : Int)) ∧ Below w.heap.size w w') := Lib.hid (fun w => by have h := X_Size m ((k : Nat) : Int) w; rw [sizeV_nat h1 h8 (by omega)] at h; exact h)
  have H3 : Hid (∀ w, Calls Try.prog 15 #[.int .i64 (n : Int), .int .i64 ((k : Int) + 1)] w fun e w' => e = .returned (.int .i64 ((numB n (k + 1)).length : Int)) ∧ Below w.heap.size w w') := Lib.hid (fun w => by have h := X_Size n ((k + 1 : Nat) : Int) w; rw [sizeV_nat (by omega) (by omega) (by omega)] at h; exact h)
  have hless := numB_bits n (show k ≤ k + 1 by omega)
  have e8 : ((k : Int) == 8) = false := by rw [beq_eq_false_iff_ne]; omega
  generalize (numB n (k + 1)).length = L3 at *
  have hM := mx_wrap k h1 h8
  have hlen := numB_lt1 hlt
  generalize (numB n k).length = L1 at *
  generalize (numB m k).length = L2 at *
  have hM8 := mx_le h8
  generalize mx k = M at *
  have dlt : decide ((M : Int) ≤ (n : Int)) = false := decide_eq_false (by omega)
  have q1 : decide (1 ≤ (L2 : Int)) = true := decide_eq_true (by omega)
  have q2 : decide ((L3 : Int) ≤ 1) = true := decide_eq_true (by omega)
  subst hlen
  go_enter Try.func6, Try.ntmps6
  go_wp2_with (first
    | go_skip
    | (go_at_call 15; (with_reducible refine (H1.out _).mono ?_); rintro e w1 ⟨rfl, hb⟩; have HB1 := Lib.hid hb; clear hb)
    | (go_at_call 15; (with_reducible refine (H2.out _).mono ?_); rintro e w2 ⟨rfl, hb⟩; have HB2 := Lib.hid (below_step HB1.out hb); clear hb)
    | (go_at_call 15; (with_reducible refine (H3.out _).mono ?_); rintro e w3 ⟨rfl, hb⟩; have HB3 := Lib.hid (below_step HB2.out hb); clear hb)
    | (go_at_call 7; (with_reducible refine (wakes6 _).mono ?_); rintro e w4 ⟨rfl, hb⟩; have HB4 := Lib.hid (below_step HB3.out hb); clear hb))
  go_ret
  exact ⟨rfl, HB4.out⟩
set_option maxRecDepth 100000 in
set_option maxHeartbeats 1000000 in
theorem ls_ge8 (n m : Nat) (w : World) (hnm : n ≤ m) (hm : m ≤ 2147483647) (hge : mx 8 ≤ n) : Calls Try.prog 6 #[.int .i64 (n : Int), .int .i64 (m : Int), .int .i64 8] w fun e w' => e = .returned (.bool true) ∧ Below w.heap.size w w' := by
  have d2 : decide ((n : Int) < 0) = false := decide_eq_false (by omega)
  have d3 : decide ((m : Int) < (n : Int)) = false := decide_eq_false (by omega)
  have d4 : decide ((2147483647 : Int) < (m : Int)) = false := decide_eq_false (by omega)
  have hL6 := numB_len (n := n) (k := 8) (by omega)
  have hmore := numB_more (k := 8) hnm
  have H1 : Hid (∀ w, Calls Try.prog 15 #[.int .i64 (n : Int), .int .i64 8] w fun e w' => e = .returned (.int .i64 ((numB n 8).length : Int)) ∧ Below w.heap.size w w') := Lib.hid (fun w => by have h := X_Size n ((8 : Nat) : Int) w; rw [sizeV_nat (by decide) (by decide) (by omega)] at h; exact h)
  have H2 : Hid (∀ w, Calls Try.prog 15 #[.int .i64 (m : Int), .int .i64 8] w fun e w' => e = .returned (.int .i64 ((numB m 8).length : Int)) ∧ Below w.heap.size w w') := Lib.hid (fun w => by have h := X_Size m ((8 : Nat) : Int) w; rw [sizeV_nat (by decide) (by decide) (by omega)] at h; exact h)
  have hlen := numB_ge hge
  generalize (numB n 8).length = L1 at *
  generalize (numB m 8).length = L2 at *
  rw [show mx 8 = 255 from by decide] at *
  have dlt : decide (255 ≤ (n : Int)) = true := decide_eq_true (by omega)
  have HLEN := Lib.hid hlen
  go_enter Try.func6, Try.ntmps6
  go_wp2_with go_skip
  go_loopw [8, 9] (fun a l wr => ∃ (V L : Nat), a = .int .i64 (V : Int) ∧ l = .int .i64 (L : Int) ∧ L1 = V + leftT L ∧ L < 2147483648 ∧ w = wr) (fun _ l _ => (intOf l).toNat)
  case atStart => exact ⟨2, (n - 255) / 128, rfl, by rw [show (((n - 255) / 128 : Nat) : Int) = ((n : Int) - 255) / 128 from by omega], HLEN.out, by omega, rfl⟩
  case round =>
    obtain ⟨V, L, rfl, rfl, hV, hL, rfl⟩ := hrel
    have HV := Lib.hid hV
    by_cases h0 : 0 < L
    · have hs := leftT_step h0
      have HS := Lib.hid hs
      have hV6 : V ≤ 6 := by omega
      have e0 : decide ((0 : Int) < (L : Int)) = true := decide_eq_true (by omega)
      clear hV hs hlen
      go_wp2_with go_skip
      go_roundw
      case rel => exact ⟨V + 1, L / 128, by go_num, by rw [show ((L / 128 : Nat) : Int) = (L : Int) / 128 from by omega], by have h1 := HV.out; have h2 := HS.out; omega, by omega, by first | rfl | trivial⟩
      case measure => simp only [intOf]; omega
    · obtain rfl : L = 0 := by omega
      obtain rfl : L1 = V := by rw [hV, leftT_zero]; rfl
      clear hV hlen
      have q1 : decide ((L1 : Int) ≤ (L2 : Int)) = true := decide_eq_true (by omega)
      go_wp2_with (first
        | go_skip
        | (go_at_call 15; (with_reducible refine (H1.out _).mono ?_); rintro e w1 ⟨rfl, hb⟩; have HB1 := Lib.hid hb; clear hb)
        | (go_at_call 15; (with_reducible refine (H2.out _).mono ?_); rintro e w2 ⟨rfl, hb⟩; have HB2 := Lib.hid (below_step HB1.out hb); clear hb)
        | (go_at_call 7; (with_reducible refine (wakes6 _).mono ?_); rintro e w4 ⟨rfl, hb⟩; have HB4 := Lib.hid (below_step HB2.out hb); clear hb))
      go_ret
      exact ⟨rfl, HB4.out⟩
set_option maxRecDepth 100000 in
set_option maxHeartbeats 1000000 in
theorem ls_ge (n m k : Nat) (w : World) (hnm : n ≤ m) (hm : m ≤ 2147483647) (hge : mx k ≤ n) (h1 : 1 ≤ k) (hk : k < 8) : Calls Try.prog 6 #[.int .i64 (n : Int), .int .i64 (m : Int), .int .i64 (k : Int)] w fun e w' => e = .returned (.bool true) ∧ Below w.heap.size w w' := by
  have h8 : k ≤ 8 := by omega
  have d0 : decide ((k : Int) < 1) = false := decide_eq_false (by omega)
  have d1 : decide ((8 : Int) < (k : Int)) = false := decide_eq_false (by omega)
  have d2 : decide ((n : Int) < 0) = false := decide_eq_false (by omega)
  have d3 : decide ((m : Int) < (n : Int)) = false := decide_eq_false (by omega)
  have d4 : decide ((2147483647 : Int) < (m : Int)) = false := decide_eq_false (by omega)
  have hL6 := numB_len (n := n) (k := k) (by omega)
  have hmore := numB_more (k := k) hnm
  have H1 : Hid (∀ w, Calls Try.prog 15 #[.int .i64 (n : Int), .int .i64 (k : Int)] w fun e w' => e = .returned (.int .i64 ((numB n k).length : Int)) ∧ Below w.heap.size w w') := Lib.hid (fun w => by have h := X_Size n ((k : Nat) : Int) w; rw [sizeV_nat h1 h8 (by omega)] at h; exact h)
  have H2 : Hid (∀ w, Calls Try.prog 15 #[.int .i64 (m : Int), .int .i64 (k : Int)] w fun e w' => e = .returned (.int .i64 ((numB m k).length : Int)) ∧ Below w.heap.size w w') := Lib.hid (fun w => by have h := X_Size m ((k : Nat) : Int) w; rw [sizeV_nat h1 h8 (by omega)] at h; exact h)
  have H3 : Hid (∀ w, Calls Try.prog 15 #[.int .i64 (n : Int), .int .i64 ((k : Int) + 1)] w fun e w' => e = .returned (.int .i64 ((numB n (k + 1)).length : Int)) ∧ Below w.heap.size w w') := Lib.hid (fun w => by have h := X_Size n ((k + 1 : Nat) : Int) w; rw [sizeV_nat (by omega) (by omega) (by omega)] at h; exact h)
  have hless := numB_bits n (show k ≤ k + 1 by omega)
  have e8 : ((k : Int) == 8) = false := by rw [beq_eq_false_iff_ne]; omega
  generalize (numB n (k + 1)).length = L3 at *
  have hM := mx_wrap k h1 h8
  have hlen := numB_ge hge
  generalize (numB n k).length = L1 at *
  generalize (numB m k).length = L2 at *
  have hM8 := mx_le h8
  generalize mx k = M at *
  have dlt : decide ((M : Int) ≤ (n : Int)) = true := decide_eq_true (by omega)
  have HLEN := Lib.hid hlen
  go_enter Try.func6, Try.ntmps6
  go_wp2_with go_skip
  go_loopw [8, 9] (fun a l wr => ∃ (V L : Nat), a = .int .i64 (V : Int) ∧ l = .int .i64 (L : Int) ∧ L1 = V + leftT L ∧ L < 2147483648 ∧ w = wr) (fun _ l _ => (intOf l).toNat)
  case atStart => exact ⟨2, (n - M) / 128, rfl, by rw [show (((n - M) / 128 : Nat) : Int) = ((n : Int) - (M : Int)) / 128 from by omega], HLEN.out, by omega, rfl⟩
  case round =>
    obtain ⟨V, L, rfl, rfl, hV, hL, rfl⟩ := hrel
    have HV := Lib.hid hV
    by_cases h0 : 0 < L
    · have hs := leftT_step h0
      have HS := Lib.hid hs
      have hV6 : V ≤ 6 := by omega
      have e0 : decide ((0 : Int) < (L : Int)) = true := decide_eq_true (by omega)
      clear hV hs hlen
      go_wp2_with go_skip
      go_roundw
      case rel => exact ⟨V + 1, L / 128, by go_num, by rw [show ((L / 128 : Nat) : Int) = (L : Int) / 128 from by omega], by have h1 := HV.out; have h2 := HS.out; omega, by omega, by first | rfl | trivial⟩
      case measure => simp only [intOf]; omega
    · obtain rfl : L = 0 := by omega
      obtain rfl : L1 = V := by rw [hV, leftT_zero]; rfl
      clear hV hlen
      have q1 : decide ((L1 : Int) ≤ (L2 : Int)) = true := decide_eq_true (by omega)
      have q2 : decide ((L3 : Int) ≤ (L1 : Int)) = true := decide_eq_true (by omega)
      go_wp2_with (first
        | go_skip
        | (go_at_call 15; (with_reducible refine (H1.out _).mono ?_); rintro e w1 ⟨rfl, hb⟩; have HB1 := Lib.hid hb; clear hb)
        | (go_at_call 15; (with_reducible refine (H2.out _).mono ?_); rintro e w2 ⟨rfl, hb⟩; have HB2 := Lib.hid (below_step HB1.out hb); clear hb)
        | (go_at_call 15; (with_reducible refine (H3.out _).mono ?_); rintro e w3 ⟨rfl, hb⟩; have HB3 := Lib.hid (below_step HB2.out hb); clear hb)
        | (go_at_call 7; (with_reducible refine (wakes6 _).mono ?_); rintro e w4 ⟨rfl, hb⟩; have HB4 := Lib.hid (below_step HB3.out hb); clear hb))
      go_ret
      exact ⟨rfl, HB4.out⟩
end Go.Proofs.Ytmckopjchpgcpaa
