/- Package prefix and the document's layer 6: the small calls. -/
import Derived.Test.YtmckopjchpgcpaaChecked
import Derived.WalkKit
import Derived.Test.YtmckopjchpgcpaaPxX
import Derived.Test.YtmckopjchpgcpaaGMem
import Derived.Test.YtmckopjchpgcpaaGStr
namespace Go.Proofs.Ytmckopjchpgcpaa
open Go.RowKit Px
set_option linter.unusedVariables false
set_option linter.unusedSimpArgs false
namespace Px
theorem bits8 {k : Nat} (h1 : 1 ≤ k) (h8 : k ≤ 8) : k = 1 ∨ k = 2 ∨ k = 3 ∨ k = 4 ∨ k = 5 ∨ k = 6 ∨ k = 7 ∨ k = 8 := by omega
/-- A number that may be told, behind a prefix that may be. -/
def MayN (n k : Int) : Prop := (1 ≤ k ∧ k ≤ 8) ∧ 0 ≤ n ∧ n < 2147483648
instance (n k : Int) : Decidable (MayN n k) := inferInstanceAs (Decidable (_ ∧ _))
end Px
theorem x_sized_yes (k : Int) (w : World) (h : 1 ≤ k ∧ k ≤ 8) : Calls Try.prog 25 #[.int .i64 k] w fun e w' => e = .returned (.bool true) ∧ w = w' := by
  have d1 : decide (1 ≤ k) = true := decide_eq_true h.1
  have d2 : decide (k ≤ 8) = true := decide_eq_true h.2
  clear h
  go_enter Try.func25, Try.ntmps25
  go_wp2
  go_ret
  exact ⟨rfl, rfl⟩
theorem x_sized_no (k : Int) (w : World) (h : ¬ (1 ≤ k ∧ k ≤ 8)) : Calls Try.prog 25 #[.int .i64 k] w fun e w' => e = .returned (.bool false) ∧ w = w' := by
  by_cases h1 : 1 ≤ k
  · have d1 : decide (1 ≤ k) = true := decide_eq_true h1
    have d2 : decide (k ≤ 8) = false := decide_eq_false (by omega)
    clear h
    go_enter Try.func25, Try.ntmps25
    go_wp2
    go_ret
    exact ⟨rfl, rfl⟩
  · have d1 : decide (1 ≤ k) = false := decide_eq_false h1
    clear h
    go_enter Try.func25, Try.ntmps25
    go_wp2
    go_ret
    exact ⟨rfl, rfl⟩
theorem x_fits (n k : Int) (w : World) : Calls Try.prog 17 #[.int .i64 n, .int .i64 k] w fun e w' => e = .returned (.bool (decide (MayN n k))) ∧ w = w' := by
  by_cases h : 1 ≤ k ∧ k ≤ 8
  · rw [show decide (MayN n k) = (n / 2147483648 == 0) from by
      by_cases h2 : 0 ≤ n ∧ n < 2147483648
      · rw [decide_eq_true (show MayN n k from ⟨h, h2⟩)]; symm; rw [beq_iff_eq]; omega
      · rw [decide_eq_false (show ¬ MayN n k from fun h3 => h2 h3.2)]; symm; rw [beq_eq_false_iff_ne]; omega]
    go_enter Try.func17, Try.ntmps17
    go_wp2_with (go_at_call 25; (with_reducible refine (x_sized_yes _ _ h).mono ?_); rintro e w' ⟨rfl, rfl⟩)
    go_ret
    exact ⟨rfl, rfl⟩
  · rw [decide_eq_false (show ¬ MayN n k from fun h3 => h h3.1)]
    go_enter Try.func17, Try.ntmps17
    go_wp2_with (go_at_call 25; (with_reducible refine (x_sized_no _ _ h).mono ?_); rintro e w' ⟨rfl, rfl⟩)
    go_ret
    exact ⟨rfl, rfl⟩
theorem x_may (n k : Int) (w : World) : Calls Try.prog 20 #[.int .i64 n, .int .i64 k] w fun e w' => e = .returned (.bool (decide (MayN n k))) ∧ w = w' := by
  by_cases h1 : 1 ≤ k
  · have d1 : decide (1 ≤ k) = true := decide_eq_true h1
    by_cases h2 : k ≤ 8
    · have d2 : decide (k ≤ 8) = true := decide_eq_true h2
      by_cases h3 : 0 ≤ n
      · have d3 : decide (0 ≤ n) = true := decide_eq_true h3
        rw [show decide (MayN n k) = decide (n < 2147483648) from by
          by_cases h4 : n < 2147483648
          · rw [decide_eq_true h4, decide_eq_true (show MayN n k from ⟨⟨h1, h2⟩, h3, h4⟩)]
          · rw [decide_eq_false h4, decide_eq_false (show ¬ MayN n k from fun h => h4 h.2.2)]]
        go_enter Try.func20, Try.ntmps20
        go_wp2
        go_ret
        exact ⟨rfl, rfl⟩
      · have d3 : decide (0 ≤ n) = false := decide_eq_false h3
        rw [decide_eq_false (show ¬ MayN n k from fun h => h3 h.2.1)]
        go_enter Try.func20, Try.ntmps20
        go_wp2
        go_ret
        exact ⟨rfl, rfl⟩
    · have d2 : decide (k ≤ 8) = false := decide_eq_false h2
      rw [decide_eq_false (show ¬ MayN n k from fun h => h2 h.1.2)]
      go_enter Try.func20, Try.ntmps20
      go_wp2
      go_ret
      exact ⟨rfl, rfl⟩
  · have d1 : decide (1 ≤ k) = false := decide_eq_false h1
    rw [decide_eq_false (show ¬ MayN n k from fun h => h1 h.1.1)]
    go_enter Try.func20, Try.ntmps20
    go_wp2
    go_ret
    exact ⟨rfl, rfl⟩
theorem x_full1 (w : World) : Calls Try.prog 19 #[.int .i64 1] w fun e w' => e = .returned (.int .u8 1) ∧ w = w' := by
  go_enter Try.func19, Try.ntmps19
  go_wp2
  go_ret
  exact ⟨rfl, rfl⟩
theorem x_most1 (w : World) : Calls Try.prog 21 #[.int .i64 1] w fun e w' => e = .returned (.int .i64 1) ∧ w = w' := by
  go_enter Try.func21, Try.ntmps21
  go_wp2
  go_ret
  exact ⟨rfl, rfl⟩
theorem x_full2 (w : World) : Calls Try.prog 19 #[.int .i64 2] w fun e w' => e = .returned (.int .u8 3) ∧ w = w' := by
  go_enter Try.func19, Try.ntmps19
  go_wp2
  go_ret
  exact ⟨rfl, rfl⟩
theorem x_most2 (w : World) : Calls Try.prog 21 #[.int .i64 2] w fun e w' => e = .returned (.int .i64 3) ∧ w = w' := by
  go_enter Try.func21, Try.ntmps21
  go_wp2
  go_ret
  exact ⟨rfl, rfl⟩
theorem x_full3 (w : World) : Calls Try.prog 19 #[.int .i64 3] w fun e w' => e = .returned (.int .u8 7) ∧ w = w' := by
  go_enter Try.func19, Try.ntmps19
  go_wp2
  go_ret
  exact ⟨rfl, rfl⟩
theorem x_most3 (w : World) : Calls Try.prog 21 #[.int .i64 3] w fun e w' => e = .returned (.int .i64 7) ∧ w = w' := by
  go_enter Try.func21, Try.ntmps21
  go_wp2
  go_ret
  exact ⟨rfl, rfl⟩
theorem x_full4 (w : World) : Calls Try.prog 19 #[.int .i64 4] w fun e w' => e = .returned (.int .u8 15) ∧ w = w' := by
  go_enter Try.func19, Try.ntmps19
  go_wp2
  go_ret
  exact ⟨rfl, rfl⟩
theorem x_most4 (w : World) : Calls Try.prog 21 #[.int .i64 4] w fun e w' => e = .returned (.int .i64 15) ∧ w = w' := by
  go_enter Try.func21, Try.ntmps21
  go_wp2
  go_ret
  exact ⟨rfl, rfl⟩
theorem x_full5 (w : World) : Calls Try.prog 19 #[.int .i64 5] w fun e w' => e = .returned (.int .u8 31) ∧ w = w' := by
  go_enter Try.func19, Try.ntmps19
  go_wp2
  go_ret
  exact ⟨rfl, rfl⟩
theorem x_most5 (w : World) : Calls Try.prog 21 #[.int .i64 5] w fun e w' => e = .returned (.int .i64 31) ∧ w = w' := by
  go_enter Try.func21, Try.ntmps21
  go_wp2
  go_ret
  exact ⟨rfl, rfl⟩
theorem x_full6 (w : World) : Calls Try.prog 19 #[.int .i64 6] w fun e w' => e = .returned (.int .u8 63) ∧ w = w' := by
  go_enter Try.func19, Try.ntmps19
  go_wp2
  go_ret
  exact ⟨rfl, rfl⟩
theorem x_most6 (w : World) : Calls Try.prog 21 #[.int .i64 6] w fun e w' => e = .returned (.int .i64 63) ∧ w = w' := by
  go_enter Try.func21, Try.ntmps21
  go_wp2
  go_ret
  exact ⟨rfl, rfl⟩
theorem x_full7 (w : World) : Calls Try.prog 19 #[.int .i64 7] w fun e w' => e = .returned (.int .u8 127) ∧ w = w' := by
  go_enter Try.func19, Try.ntmps19
  go_wp2
  go_ret
  exact ⟨rfl, rfl⟩
theorem x_most7 (w : World) : Calls Try.prog 21 #[.int .i64 7] w fun e w' => e = .returned (.int .i64 127) ∧ w = w' := by
  go_enter Try.func21, Try.ntmps21
  go_wp2
  go_ret
  exact ⟨rfl, rfl⟩
theorem x_full8 (w : World) : Calls Try.prog 19 #[.int .i64 8] w fun e w' => e = .returned (.int .u8 255) ∧ w = w' := by
  go_enter Try.func19, Try.ntmps19
  go_wp2
  go_ret
  exact ⟨rfl, rfl⟩
theorem x_most8 (w : World) : Calls Try.prog 21 #[.int .i64 8] w fun e w' => e = .returned (.int .i64 255) ∧ w = w' := by
  go_enter Try.func21, Try.ntmps21
  go_wp2
  go_ret
  exact ⟨rfl, rfl⟩
theorem x_full (k : Nat) (w : World) (h1 : 1 ≤ k) (h8 : k ≤ 8) : Calls Try.prog 19 #[.int .i64 (k : Int)] w fun e w' => e = .returned (.int .u8 (mx k : Int)) ∧ w = w' := by
  rcases bits8 h1 h8 with rfl | rfl | rfl | rfl | rfl | rfl | rfl | rfl
  · exact x_full1 w
  · exact x_full2 w
  · exact x_full3 w
  · exact x_full4 w
  · exact x_full5 w
  · exact x_full6 w
  · exact x_full7 w
  · exact x_full8 w
theorem x_most (k : Nat) (w : World) (h1 : 1 ≤ k) (h8 : k ≤ 8) : Calls Try.prog 21 #[.int .i64 (k : Int)] w fun e w' => e = .returned (.int .i64 (mx k : Int)) ∧ w = w' := by
  rcases bits8 h1 h8 with rfl | rfl | rfl | rfl | rfl | rfl | rfl | rfl
  · exact x_most1 w
  · exact x_most2 w
  · exact x_most3 w
  · exact x_most4 w
  · exact x_most5 w
  · exact x_most6 w
  · exact x_most7 w
  · exact x_most8 w
theorem x_begun_no (A : Option Addr) (n c : Nat) (k : Int) (w : World) (h : ¬ (1 ≤ k ∧ k ≤ 8)) : Calls Try.prog 22 #[.slice A n c, .int .i64 k] w fun e w' => e = .returned (.int .i64 2) ∧ w = w' := by
  go_enter Try.func22, Try.ntmps22
  go_wp2_with (go_at_call 25; (with_reducible refine (x_sized_no _ _ h).mono ?_); rintro e w' ⟨rfl, rfl⟩)
  go_ret
  exact ⟨rfl, rfl⟩
theorem x_begun_yes (A : Option Addr) (n c : Nat) (k : Int) (w : World) (h : 1 ≤ k ∧ k ≤ 8) : Calls Try.prog 22 #[.slice A n c, .int .i64 k] w fun e w' => e = .returned (.int .i64 (if n = 0 then 10 else 0)) ∧ w = w' := by
  by_cases h0 : n = 0
  · subst h0
    go_enter Try.func22, Try.ntmps22
    go_wp2_with (go_at_call 25; (with_reducible refine (x_sized_yes _ _ h).mono ?_); rintro e w' ⟨rfl, rfl⟩)
    go_ret
    exact ⟨rfl, rfl⟩
  · rw [if_neg h0]
    have d1 : ((n : Int) == 0) = false := by rw [beq_eq_false_iff_ne]; omega
    clear h0
    go_enter Try.func22, Try.ntmps22
    go_wp2_with (go_at_call 25; (with_reducible refine (x_sized_yes _ _ h).mono ?_); rintro e w' ⟨rfl, rfl⟩)
    go_ret
    exact ⟨rfl, rfl⟩
theorem x_octets (n k : Int) (w : World) : Calls Try.prog 18 #[.int .i64 n, .int .i64 k] w fun e w' =>
      e = .returned (.func (.func 26) #[] #[.pointer (some ⟨w.heap.size + 1, 0, none⟩), .pointer (some ⟨w.heap.size, 0, none⟩)]) ∧ (w.alloc (.cells #[.int .i64 n] 3)).alloc (.cells #[.int .i64 k] 3) = w' := by
  go_enter Try.func18, Try.ntmps18
  go_wp2
  go_ret
  exact ⟨rfl, rfl⟩
theorem x_tail (A : Option Addr) (n c : Nat) (w : World) : Calls Try.prog 23 #[.slice A n c] w fun e w' =>
      e = .returned (.func (.func 27) #[] #[.pointer (some ⟨w.heap.size, 0, none⟩)]) ∧ w.alloc (.cells #[.slice A n c] 22) = w' := by
  go_enter Try.func23, Try.ntmps23
  go_wp2
  go_ret
  exact ⟨rfl, rfl⟩
theorem x_same (A A' : Option Addr) (n n' c c' B B' : Nat) (xs ys : List UInt8) (w : World) (h : Bs w B A n xs) (h' : Bs w B' A' n' ys) :
    Calls Try.prog 14 #[.slice A n c, .slice A' n' c'] w fun e w' => e = .returned (.bool (xs == ys)) ∧ w = w' := by
  have h1 := conv_bytes (c := c) h
  have h2 := conv_bytes (c := c') h'
  clear h h'
  go_enter Try.func14, Try.ntmps14
  go_wp2
  go_ret
  exact ⟨rfl, rfl⟩
end Go.Proofs.Ytmckopjchpgcpaa
