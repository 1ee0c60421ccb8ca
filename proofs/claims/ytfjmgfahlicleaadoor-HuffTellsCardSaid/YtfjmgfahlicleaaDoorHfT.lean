/- The document's layer 7: next. -/
import Derived.Test.YtfjmgfahlicleaaDoorHfS
import Derived.Test.YtfjmgfahlicleaaDoorOcRBits
import Derived.BigQuiet
import Derived.Deep.QuietTactic
namespace Go.Proofs.YtfjmgfahlicleaaDoor
open Go.RowKit Hf Oct
set_option linter.unusedVariables false
set_option linter.unusedSimpArgs false
set_option maxRecDepth 100000 in
set_option maxHeartbeats 4000000 in
theorem r_next (A : Option Addr) (n c at_ : Nat) (xs : List UInt8) (w : World) (hA : Bs w w.heap.size A n xs) (hn : n ≤ 10000) (ha : at_ ≤ 8 * n) :
    Calls Tryd.prog 31 #[.slice A n c, .int .i64 (at_ : Int)] w fun e w' => e = .returned (.tuple #[.int .u8 ((nextN xs at_).1.toNat : Int), .int .i64 ((nextN xs at_).2 : Int)]) ∧ Below w.heap.size w w' := by
  have HB1 := Lib.hid ((Below.refl _ w).alloc (Nat.le_refl _) (.cells #[.int .i64 5, .int .i64 6, .int .i64 7, .int .i64 11] 64))
  have HA1 := Lib.hid (hA.on HB1.out)
  have HLEN := Lib.hid hA.1
  clear hA
  go_enter Tryd.func31, Tryd.ntmps31
  go_wp2
  go_loop [7] (fun t => ∃ k : Nat, k ≤ 4 ∧ t = .int .i64 (k : Int) ∧ (∀ j, j < k → tryL xs at_ (rowM j) = none)) (fun t => 4 - (intOf t).toNat)
  case atStart => exact ⟨0, Nat.zero_le _, rfl, fun j hj => absurd hj (Nat.not_lt_zero _)⟩
  case round =>
    obtain ⟨k, hk, rfl, hno⟩ := hrel
    have HNO := Lib.hid hno
    have hk4 : k = 0 ∨ k = 1 ∨ k = 2 ∨ k = 3 ∨ k = 4 := by omega
    clear hno
    obtain rfl | rfl | rfl | rfl | rfl := hk4
    · by_cases hin : at_ + 5 ≤ 8 * n
      · have HY : Hid (∀ W, Bs W W.heap.size A n xs → Calls Tryd.prog 23 #[.slice A n c, .int .i64 (at_ : Int), .int .i64 5] W fun e w' => e = .returned (.tuple #[.int .i64 (codeOf xs at_ 5 : Int), .bool true]) ∧ W = w') := Lib.hid fun W hW => by
          have h := rbits_yes A _ n c xs (at_ : Int) 5 W hW (by omega) (by omega) (by omega) (by omega) (by omega)
          simpa using h
        have hcl := codeOf_lt xs at_ 5
        have ht := try_in (xs := xs) (a := at_) (l := 5) (by rw [HLEN.out]; exact hin)
        generalize codeOf xs at_ 5 = C at *
        have HY2 := Lib.hid (HY.out _ HA1.out)
        cases hf : findN (C : Int) 5 with
        | some d =>
          have HN := Lib.hid (next_hit (k := 0) (by omega) HNO.out (ht.trans hf))
          have HFD : Hid (∀ W, Calls Tryd.prog 12 #[.int .i64 (C : Int), .int .i64 5] W fun e w' => e = .returned (.tuple #[.int .u8 (d.toNat : Int), .bool true]) ∧ W = w') := Lib.hid fun W => by
            have h := r_of (C : Int) 5 W
            have e1 : fnV (C : Int) 5 = (d.toNat : Int) := by unfold fnV; rw [hf]
            have e2 : fnS (C : Int) 5 = true := by unfold fnS; rw [hf]; rfl
            rw [e1, e2] at h
            exact h
          clear ht hf hcl hin
          go_wp2_with (first
            | (go_at_call 23; (with_reducible refine HY2.out.mono ?_); rintro e w1 ⟨rfl, rfl⟩)
            | (go_at_call 12; (with_reducible refine (HFD.out (w.alloc (.cells #[.int .i64 5, .int .i64 6, .int .i64 7, .int .i64 11] 64))).mono ?_); rintro e w2 ⟨rfl, rfl⟩))
          go_quiet (fail)
          go_wp2
          go_ret2
          exact ⟨by rw [HN.out]; rfl, below_dN HB1.out _⟩
        | none =>
          have HTN := Lib.hid (ht.trans hf)
          have HFD : Hid (∀ W, Calls Tryd.prog 12 #[.int .i64 (C : Int), .int .i64 5] W fun e w' => e = .returned (.tuple #[.int .u8 0, .bool false]) ∧ W = w') := Lib.hid fun W => by
            have h := r_of (C : Int) 5 W
            have e1 : fnV (C : Int) 5 = 0 := by unfold fnV; rw [hf]
            have e2 : fnS (C : Int) 5 = false := by unfold fnS; rw [hf]; rfl
            rw [e1, e2] at h
            exact h
          clear ht hf hcl hin
          go_wp2_with (first
            | (go_at_call 23; (with_reducible refine HY2.out.mono ?_); rintro e w1 ⟨rfl, rfl⟩)
            | (go_at_call 12; (with_reducible refine (HFD.out (w.alloc (.cells #[.int .i64 5, .int .i64 6, .int .i64 7, .int .i64 11] 64))).mono ?_); rintro e w2 ⟨rfl, rfl⟩))
          go_round
          case rel => exact ⟨1, by omega, rfl, fun j hj => by
            by_cases h : j < 0
            · exact HNO.out j h
            · obtain rfl : j = 0 := by omega
              exact HTN.out⟩
          case measure => simp [intOf]
      · have HN := Lib.hid (next_out (k := 0) (by omega) HNO.out (by rw [HLEN.out]; simp only [rowM]; omega))
        have HY : Hid (∀ W, Calls Tryd.prog 23 #[.slice A n c, .int .i64 (at_ : Int), .int .i64 5] W fun e w' => e = .returned (.tuple #[.int .i64 0, .bool false]) ∧ W = w') := Lib.hid fun W =>
          rbits_none A n c (at_ : Int) 5 W (by omega) (by omega)
        clear hin
        go_wp2_with (go_at_call 23; (with_reducible refine (HY.out (w.alloc (.cells #[.int .i64 5, .int .i64 6, .int .i64 7, .int .i64 11] 64))).mono ?_); rintro e w1 ⟨rfl, rfl⟩)
        go_ret2
        exact ⟨by rw [HN.out]; rfl, HB1.out⟩
    · by_cases hin : at_ + 6 ≤ 8 * n
      · have HY : Hid (∀ W, Bs W W.heap.size A n xs → Calls Tryd.prog 23 #[.slice A n c, .int .i64 (at_ : Int), .int .i64 6] W fun e w' => e = .returned (.tuple #[.int .i64 (codeOf xs at_ 6 : Int), .bool true]) ∧ W = w') := Lib.hid fun W hW => by
          have h := rbits_yes A _ n c xs (at_ : Int) 6 W hW (by omega) (by omega) (by omega) (by omega) (by omega)
          simpa using h
        have hcl := codeOf_lt xs at_ 6
        have ht := try_in (xs := xs) (a := at_) (l := 6) (by rw [HLEN.out]; exact hin)
        generalize codeOf xs at_ 6 = C at *
        have HY2 := Lib.hid (HY.out _ HA1.out)
        cases hf : findN (C : Int) 6 with
        | some d =>
          have HN := Lib.hid (next_hit (k := 1) (by omega) HNO.out (ht.trans hf))
          have HFD : Hid (∀ W, Calls Tryd.prog 12 #[.int .i64 (C : Int), .int .i64 6] W fun e w' => e = .returned (.tuple #[.int .u8 (d.toNat : Int), .bool true]) ∧ W = w') := Lib.hid fun W => by
            have h := r_of (C : Int) 6 W
            have e1 : fnV (C : Int) 6 = (d.toNat : Int) := by unfold fnV; rw [hf]
            have e2 : fnS (C : Int) 6 = true := by unfold fnS; rw [hf]; rfl
            rw [e1, e2] at h
            exact h
          clear ht hf hcl hin
          go_wp2_with (first
            | (go_at_call 23; (with_reducible refine HY2.out.mono ?_); rintro e w1 ⟨rfl, rfl⟩)
            | (go_at_call 12; (with_reducible refine (HFD.out (w.alloc (.cells #[.int .i64 5, .int .i64 6, .int .i64 7, .int .i64 11] 64))).mono ?_); rintro e w2 ⟨rfl, rfl⟩))
          go_quiet (fail)
          go_wp2
          go_ret2
          exact ⟨by rw [HN.out]; rfl, below_dN HB1.out _⟩
        | none =>
          have HTN := Lib.hid (ht.trans hf)
          have HFD : Hid (∀ W, Calls Tryd.prog 12 #[.int .i64 (C : Int), .int .i64 6] W fun e w' => e = .returned (.tuple #[.int .u8 0, .bool false]) ∧ W = w') := Lib.hid fun W => by
            have h := r_of (C : Int) 6 W
            have e1 : fnV (C : Int) 6 = 0 := by unfold fnV; rw [hf]
            have e2 : fnS (C : Int) 6 = false := by unfold fnS; rw [hf]; rfl
            rw [e1, e2] at h
            exact h
          clear ht hf hcl hin
          go_wp2_with (first
            | (go_at_call 23; (with_reducible refine HY2.out.mono ?_); rintro e w1 ⟨rfl, rfl⟩)
            | (go_at_call 12; (with_reducible refine (HFD.out (w.alloc (.cells #[.int .i64 5, .int .i64 6, .int .i64 7, .int .i64 11] 64))).mono ?_); rintro e w2 ⟨rfl, rfl⟩))
          go_round
          case rel => exact ⟨2, by omega, rfl, fun j hj => by
            by_cases h : j < 1
            · exact HNO.out j h
            · obtain rfl : j = 1 := by omega
              exact HTN.out⟩
          case measure => simp [intOf]
      · have HN := Lib.hid (next_out (k := 1) (by omega) HNO.out (by rw [HLEN.out]; simp only [rowM]; omega))
        have HY : Hid (∀ W, Calls Tryd.prog 23 #[.slice A n c, .int .i64 (at_ : Int), .int .i64 6] W fun e w' => e = .returned (.tuple #[.int .i64 0, .bool false]) ∧ W = w') := Lib.hid fun W =>
          rbits_none A n c (at_ : Int) 6 W (by omega) (by omega)
        clear hin
        go_wp2_with (go_at_call 23; (with_reducible refine (HY.out (w.alloc (.cells #[.int .i64 5, .int .i64 6, .int .i64 7, .int .i64 11] 64))).mono ?_); rintro e w1 ⟨rfl, rfl⟩)
        go_ret2
        exact ⟨by rw [HN.out]; rfl, HB1.out⟩
    · by_cases hin : at_ + 7 ≤ 8 * n
      · have HY : Hid (∀ W, Bs W W.heap.size A n xs → Calls Tryd.prog 23 #[.slice A n c, .int .i64 (at_ : Int), .int .i64 7] W fun e w' => e = .returned (.tuple #[.int .i64 (codeOf xs at_ 7 : Int), .bool true]) ∧ W = w') := Lib.hid fun W hW => by
          have h := rbits_yes A _ n c xs (at_ : Int) 7 W hW (by omega) (by omega) (by omega) (by omega) (by omega)
          simpa using h
        have hcl := codeOf_lt xs at_ 7
        have ht := try_in (xs := xs) (a := at_) (l := 7) (by rw [HLEN.out]; exact hin)
        generalize codeOf xs at_ 7 = C at *
        have HY2 := Lib.hid (HY.out _ HA1.out)
        cases hf : findN (C : Int) 7 with
        | some d =>
          have HN := Lib.hid (next_hit (k := 2) (by omega) HNO.out (ht.trans hf))
          have HFD : Hid (∀ W, Calls Tryd.prog 12 #[.int .i64 (C : Int), .int .i64 7] W fun e w' => e = .returned (.tuple #[.int .u8 (d.toNat : Int), .bool true]) ∧ W = w') := Lib.hid fun W => by
            have h := r_of (C : Int) 7 W
            have e1 : fnV (C : Int) 7 = (d.toNat : Int) := by unfold fnV; rw [hf]
            have e2 : fnS (C : Int) 7 = true := by unfold fnS; rw [hf]; rfl
            rw [e1, e2] at h
            exact h
          clear ht hf hcl hin
          go_wp2_with (first
            | (go_at_call 23; (with_reducible refine HY2.out.mono ?_); rintro e w1 ⟨rfl, rfl⟩)
            | (go_at_call 12; (with_reducible refine (HFD.out (w.alloc (.cells #[.int .i64 5, .int .i64 6, .int .i64 7, .int .i64 11] 64))).mono ?_); rintro e w2 ⟨rfl, rfl⟩))
          go_quiet (fail)
          go_wp2
          go_ret2
          exact ⟨by rw [HN.out]; rfl, below_dN HB1.out _⟩
        | none =>
          have HTN := Lib.hid (ht.trans hf)
          have HFD : Hid (∀ W, Calls Tryd.prog 12 #[.int .i64 (C : Int), .int .i64 7] W fun e w' => e = .returned (.tuple #[.int .u8 0, .bool false]) ∧ W = w') := Lib.hid fun W => by
            have h := r_of (C : Int) 7 W
            have e1 : fnV (C : Int) 7 = 0 := by unfold fnV; rw [hf]
            have e2 : fnS (C : Int) 7 = false := by unfold fnS; rw [hf]; rfl
            rw [e1, e2] at h
            exact h
          clear ht hf hcl hin
          go_wp2_with (first
            | (go_at_call 23; (with_reducible refine HY2.out.mono ?_); rintro e w1 ⟨rfl, rfl⟩)
            | (go_at_call 12; (with_reducible refine (HFD.out (w.alloc (.cells #[.int .i64 5, .int .i64 6, .int .i64 7, .int .i64 11] 64))).mono ?_); rintro e w2 ⟨rfl, rfl⟩))
          go_round
          case rel => exact ⟨3, by omega, rfl, fun j hj => by
            by_cases h : j < 2
            · exact HNO.out j h
            · obtain rfl : j = 2 := by omega
              exact HTN.out⟩
          case measure => simp [intOf]
      · have HN := Lib.hid (next_out (k := 2) (by omega) HNO.out (by rw [HLEN.out]; simp only [rowM]; omega))
        have HY : Hid (∀ W, Calls Tryd.prog 23 #[.slice A n c, .int .i64 (at_ : Int), .int .i64 7] W fun e w' => e = .returned (.tuple #[.int .i64 0, .bool false]) ∧ W = w') := Lib.hid fun W =>
          rbits_none A n c (at_ : Int) 7 W (by omega) (by omega)
        clear hin
        go_wp2_with (go_at_call 23; (with_reducible refine (HY.out (w.alloc (.cells #[.int .i64 5, .int .i64 6, .int .i64 7, .int .i64 11] 64))).mono ?_); rintro e w1 ⟨rfl, rfl⟩)
        go_ret2
        exact ⟨by rw [HN.out]; rfl, HB1.out⟩
    · by_cases hin : at_ + 11 ≤ 8 * n
      · have HY : Hid (∀ W, Bs W W.heap.size A n xs → Calls Tryd.prog 23 #[.slice A n c, .int .i64 (at_ : Int), .int .i64 11] W fun e w' => e = .returned (.tuple #[.int .i64 (codeOf xs at_ 11 : Int), .bool true]) ∧ W = w') := Lib.hid fun W hW => by
          have h := rbits_yes A _ n c xs (at_ : Int) 11 W hW (by omega) (by omega) (by omega) (by omega) (by omega)
          simpa using h
        have hcl := codeOf_lt xs at_ 11
        have ht := try_in (xs := xs) (a := at_) (l := 11) (by rw [HLEN.out]; exact hin)
        generalize codeOf xs at_ 11 = C at *
        have HY2 := Lib.hid (HY.out _ HA1.out)
        cases hf : findN (C : Int) 11 with
        | some d =>
          have HN := Lib.hid (next_hit (k := 3) (by omega) HNO.out (ht.trans hf))
          have HFD : Hid (∀ W, Calls Tryd.prog 12 #[.int .i64 (C : Int), .int .i64 11] W fun e w' => e = .returned (.tuple #[.int .u8 (d.toNat : Int), .bool true]) ∧ W = w') := Lib.hid fun W => by
            have h := r_of (C : Int) 11 W
            have e1 : fnV (C : Int) 11 = (d.toNat : Int) := by unfold fnV; rw [hf]
            have e2 : fnS (C : Int) 11 = true := by unfold fnS; rw [hf]; rfl
            rw [e1, e2] at h
            exact h
          clear ht hf hcl hin
          go_wp2_with (first
            | (go_at_call 23; (with_reducible refine HY2.out.mono ?_); rintro e w1 ⟨rfl, rfl⟩)
            | (go_at_call 12; (with_reducible refine (HFD.out (w.alloc (.cells #[.int .i64 5, .int .i64 6, .int .i64 7, .int .i64 11] 64))).mono ?_); rintro e w2 ⟨rfl, rfl⟩))
          go_quiet (fail)
          go_wp2
          go_ret2
          exact ⟨by rw [HN.out]; rfl, below_dN HB1.out _⟩
        | none =>
          have HTN := Lib.hid (ht.trans hf)
          have HFD : Hid (∀ W, Calls Tryd.prog 12 #[.int .i64 (C : Int), .int .i64 11] W fun e w' => e = .returned (.tuple #[.int .u8 0, .bool false]) ∧ W = w') := Lib.hid fun W => by
            have h := r_of (C : Int) 11 W
            have e1 : fnV (C : Int) 11 = 0 := by unfold fnV; rw [hf]
            have e2 : fnS (C : Int) 11 = false := by unfold fnS; rw [hf]; rfl
            rw [e1, e2] at h
            exact h
          clear ht hf hcl hin
          go_wp2_with (first
            | (go_at_call 23; (with_reducible refine HY2.out.mono ?_); rintro e w1 ⟨rfl, rfl⟩)
            | (go_at_call 12; (with_reducible refine (HFD.out (w.alloc (.cells #[.int .i64 5, .int .i64 6, .int .i64 7, .int .i64 11] 64))).mono ?_); rintro e w2 ⟨rfl, rfl⟩))
          go_round
          case rel => exact ⟨4, by omega, rfl, fun j hj => by
            by_cases h : j < 3
            · exact HNO.out j h
            · obtain rfl : j = 3 := by omega
              exact HTN.out⟩
          case measure => simp [intOf]
      · have HN := Lib.hid (next_out (k := 3) (by omega) HNO.out (by rw [HLEN.out]; simp only [rowM]; omega))
        have HY : Hid (∀ W, Calls Tryd.prog 23 #[.slice A n c, .int .i64 (at_ : Int), .int .i64 11] W fun e w' => e = .returned (.tuple #[.int .i64 0, .bool false]) ∧ W = w') := Lib.hid fun W =>
          rbits_none A n c (at_ : Int) 11 W (by omega) (by omega)
        clear hin
        go_wp2_with (go_at_call 23; (with_reducible refine (HY.out (w.alloc (.cells #[.int .i64 5, .int .i64 6, .int .i64 7, .int .i64 11] 64))).mono ?_); rintro e w1 ⟨rfl, rfl⟩)
        go_ret2
        exact ⟨by rw [HN.out]; rfl, HB1.out⟩
    · have HN := Lib.hid (next_none HNO.out)
      go_wp2
      go_ret2
      exact ⟨by rw [HN.out]; rfl, HB1.out⟩
end Go.Proofs.YtfjmgfahlicleaaDoor
