/- Package cut: Right, Own, Same; the document's head, Right, Same. -/
import Derived.Test.YtjoopekgbfplpaaCuB
import Derived.Test.YtjoopekgbfplpaaHdG
namespace Go.Proofs.Ytjoopekgbfplpaa
open Go.RowKit Oct Cu
set_option linter.unusedVariables false
set_option linter.unusedSimpArgs false
theorem c_tooLong' (L K F S : Int) (b : Bool) (hb : decide ((16384 : Int) < L) = b) (w : World) :
    Calls Try.prog 21 #[.agg #[.int .i64 L, .int .u8 K, .int .u8 F, .int .i64 S]] w fun e w' => e = .returned (.bool b) ∧ Below w.heap.size w w' := by
  subst hb; exact c_tooLong L K F S w
theorem c_whole' (L K F S : Int) (A : Option Addr) (n c : Nat) (hn : n ≤ 1000000) (b : Bool) (hb : decide (L ≤ (n : Int) - 9) = b) (w : World) :
    Calls Try.prog 28 #[.agg #[.int .i64 L, .int .u8 K, .int .u8 F, .int .i64 S], .slice A n c] w fun e w' => e = .returned (.bool b) ∧ Below w.heap.size w w' := by
  subst hb; exact c_whole L K F S A n c hn w
theorem rightR_24 (xs : List UInt8) : RightR 24 xs ↔ (9 ≤ xs.length → hL xs ≤ 16384 ∧ xs.length < 9 + hL xs) := by
  unfold RightR Fits Bad
  constructor
  · rintro ⟨_, _, _, h1, h2⟩ h9
    omega
  · intro h
    refine ⟨by omega, by omega, fun h => by omega, fun h1 => ?_, fun h1 => ?_⟩
    · have := h h1.1; omega
    · have := h h1.1; omega
theorem rightR_lt {p : Int} {xs : List UInt8} (h0 : 0 ≤ p) (h : p < 24) : RightR p xs ↔ xs.length = 0 := by
  unfold RightR
  constructor
  · rintro ⟨_, _, h1, _⟩
    rw [h1 h]; rfl
  · intro h1
    have e : xs = [] := List.eq_nil_of_length_eq_zero h1
    subst e
    exact ⟨h0, by omega, fun _ => rfl, fun h => by unfold Fits at h; simp at h, fun h => by unfold Bad at h; simp at h⟩
set_option maxRecDepth 100000 in
set_option maxHeartbeats 4000000 in
theorem c_right_low (p : Int) (A : Option Addr) (n c : Nat) (xs : List UInt8) (w : World) (hA : Bs w w.heap.size A n xs) (hp : p < 0) :
    Calls Try.prog 15 #[.agg #[.int .i64 p, .slice A n c]] w fun e w' => e = .returned (.bool false) ∧ Below w.heap.size w w' := by
  have d0 : decide (p < 0) = true := decide_eq_true hp
  have K0 : Hid (EnvF (w.alloc (.cells #[.int .i64 p, .slice A n c] 24)) [bF A n xs] [(w.heap.size, #[.int .i64 p, .slice A n c], 24)]) := Lib.hid (((EnvF.nil w).addB hA).boxg 24 #[.int .i64 p, .slice A n c] (w.heap.size) (by simp))
  have B0 : Hid (Below w.heap.size w (w.alloc (.cells #[.int .i64 p, .slice A n c] 24))) := Lib.hid ((Below.refl _ w).alloc (by first | exact Nat.le_refl _ | (simp only [World.size_alloc]; omega)) (.cells #[.int .i64 p, .slice A n c] 24))
  clear hA
  go_enter Try.func15, Try.ntmps15
  go_wp2_with (first
    | go_skip
    | (refine at_load 3 (.tmp 6) (by rfl) ?_; refine wpList_get (by rfl) 3 (.tmp 6) (by rfl) (w.heap.size) 0 (by rfl) 24 #[.int .i64 p, .slice A n c] (.int .i64 p) _ (K0.out.row 0 rfl) (by rfl) Try.underlying3 (by rfl) ?_)
    | (refine at_load 3 (.tmp 10) (by rfl) ?_; refine wpListG_get (by kernel_rfl) 3 (.tmp 10) (by rfl) (w.heap.size) 0 (by rfl) 24 #[.int .i64 p, .slice A n c] (.int .i64 p) _ (K0.out.row 0 rfl) (by rfl) Try.underlying3 (by rfl) ?_)
    | (refine at_load 3 (.tmp 15) (by rfl) ?_; refine wpList_get (by rfl) 3 (.tmp 15) (by rfl) (w.heap.size) 0 (by rfl) 24 #[.int .i64 p, .slice A n c] (.int .i64 p) _ (K0.out.row 0 rfl) (by rfl) Try.underlying3 (by rfl) ?_)
    | (refine at_load 22 (.tmp 18) (by rfl) ?_; refine wpList_get (by rfl) 22 (.tmp 18) (by rfl) (w.heap.size) 1 (by rfl) 24 #[.int .i64 p, .slice A n c] (.slice A n c) _ (K0.out.row 0 rfl) (by rfl) Try.underlying22 (by rfl) ?_)
    | (refine at_load 22 (.tmp 23) (by rfl) ?_; refine wpList_get (by rfl) 22 (.tmp 23) (by rfl) (w.heap.size) 1 (by rfl) 24 #[.int .i64 p, .slice A n c] (.slice A n c) _ (K0.out.row 0 rfl) (by rfl) Try.underlying22 (by rfl) ?_))
  go_ret
  exact ⟨by first | rfl | (simp only [*]; done) | simp [*], B0.out⟩
set_option maxRecDepth 100000 in
set_option maxHeartbeats 4000000 in
theorem c_right_high (p : Int) (A : Option Addr) (n c : Nat) (xs : List UInt8) (w : World) (hA : Bs w w.heap.size A n xs) (hp : 24 < p) :
    Calls Try.prog 15 #[.agg #[.int .i64 p, .slice A n c]] w fun e w' => e = .returned (.bool false) ∧ Below w.heap.size w w' := by
  have d0 : decide (p < 0) = false := decide_eq_false (by omega)
  have d1 : decide (24 < p) = true := decide_eq_true hp
  have K0 : Hid (EnvF (w.alloc (.cells #[.int .i64 p, .slice A n c] 24)) [bF A n xs] [(w.heap.size, #[.int .i64 p, .slice A n c], 24)]) := Lib.hid (((EnvF.nil w).addB hA).boxg 24 #[.int .i64 p, .slice A n c] (w.heap.size) (by simp))
  have B0 : Hid (Below w.heap.size w (w.alloc (.cells #[.int .i64 p, .slice A n c] 24))) := Lib.hid ((Below.refl _ w).alloc (by first | exact Nat.le_refl _ | (simp only [World.size_alloc]; omega)) (.cells #[.int .i64 p, .slice A n c] 24))
  clear hA
  go_enter Try.func15, Try.ntmps15
  go_wp2_with (first
    | go_skip
    | (refine at_load 3 (.tmp 6) (by rfl) ?_; refine wpList_get (by rfl) 3 (.tmp 6) (by rfl) (w.heap.size) 0 (by rfl) 24 #[.int .i64 p, .slice A n c] (.int .i64 p) _ (K0.out.row 0 rfl) (by rfl) Try.underlying3 (by rfl) ?_)
    | (refine at_load 3 (.tmp 10) (by rfl) ?_; refine wpListG_get (by kernel_rfl) 3 (.tmp 10) (by rfl) (w.heap.size) 0 (by rfl) 24 #[.int .i64 p, .slice A n c] (.int .i64 p) _ (K0.out.row 0 rfl) (by rfl) Try.underlying3 (by rfl) ?_)
    | (refine at_load 3 (.tmp 15) (by rfl) ?_; refine wpList_get (by rfl) 3 (.tmp 15) (by rfl) (w.heap.size) 0 (by rfl) 24 #[.int .i64 p, .slice A n c] (.int .i64 p) _ (K0.out.row 0 rfl) (by rfl) Try.underlying3 (by rfl) ?_)
    | (refine at_load 22 (.tmp 18) (by rfl) ?_; refine wpList_get (by rfl) 22 (.tmp 18) (by rfl) (w.heap.size) 1 (by rfl) 24 #[.int .i64 p, .slice A n c] (.slice A n c) _ (K0.out.row 0 rfl) (by rfl) Try.underlying22 (by rfl) ?_)
    | (refine at_load 22 (.tmp 23) (by rfl) ?_; refine wpList_get (by rfl) 22 (.tmp 23) (by rfl) (w.heap.size) 1 (by rfl) 24 #[.int .i64 p, .slice A n c] (.slice A n c) _ (K0.out.row 0 rfl) (by rfl) Try.underlying22 (by rfl) ?_))
  go_ret
  exact ⟨by first | rfl | (simp only [*]; done) | simp [*], B0.out⟩
set_option maxRecDepth 100000 in
set_option maxHeartbeats 4000000 in
theorem c_right_less (p : Int) (A : Option Addr) (n c : Nat) (xs : List UInt8) (w : World) (hA : Bs w w.heap.size A n xs) (hp0 : 0 ≤ p) (hp : p < 24) :
    Calls Try.prog 15 #[.agg #[.int .i64 p, .slice A n c]] w fun e w' => e = .returned (.bool ((n : Int) == 0)) ∧ Below w.heap.size w w' := by
  have d0 : decide (p < 0) = false := decide_eq_false (by omega)
  have d1 : decide (24 < p) = false := decide_eq_false (by omega)
  have d2 : decide (p < 24) = true := decide_eq_true hp
  have K0 : Hid (EnvF (w.alloc (.cells #[.int .i64 p, .slice A n c] 24)) [bF A n xs] [(w.heap.size, #[.int .i64 p, .slice A n c], 24)]) := Lib.hid (((EnvF.nil w).addB hA).boxg 24 #[.int .i64 p, .slice A n c] (w.heap.size) (by simp))
  have B0 : Hid (Below w.heap.size w (w.alloc (.cells #[.int .i64 p, .slice A n c] 24))) := Lib.hid ((Below.refl _ w).alloc (by first | exact Nat.le_refl _ | (simp only [World.size_alloc]; omega)) (.cells #[.int .i64 p, .slice A n c] 24))
  clear hA
  go_enter Try.func15, Try.ntmps15
  go_wp2_with (first
    | go_skip
    | (refine at_load 3 (.tmp 6) (by rfl) ?_; refine wpList_get (by rfl) 3 (.tmp 6) (by rfl) (w.heap.size) 0 (by rfl) 24 #[.int .i64 p, .slice A n c] (.int .i64 p) _ (K0.out.row 0 rfl) (by rfl) Try.underlying3 (by rfl) ?_)
    | (refine at_load 3 (.tmp 10) (by rfl) ?_; refine wpListG_get (by kernel_rfl) 3 (.tmp 10) (by rfl) (w.heap.size) 0 (by rfl) 24 #[.int .i64 p, .slice A n c] (.int .i64 p) _ (K0.out.row 0 rfl) (by rfl) Try.underlying3 (by rfl) ?_)
    | (refine at_load 3 (.tmp 15) (by rfl) ?_; refine wpList_get (by rfl) 3 (.tmp 15) (by rfl) (w.heap.size) 0 (by rfl) 24 #[.int .i64 p, .slice A n c] (.int .i64 p) _ (K0.out.row 0 rfl) (by rfl) Try.underlying3 (by rfl) ?_)
    | (refine at_load 22 (.tmp 18) (by rfl) ?_; refine wpList_get (by rfl) 22 (.tmp 18) (by rfl) (w.heap.size) 1 (by rfl) 24 #[.int .i64 p, .slice A n c] (.slice A n c) _ (K0.out.row 0 rfl) (by rfl) Try.underlying22 (by rfl) ?_)
    | (refine at_load 22 (.tmp 23) (by rfl) ?_; refine wpList_get (by rfl) 22 (.tmp 23) (by rfl) (w.heap.size) 1 (by rfl) 24 #[.int .i64 p, .slice A n c] (.slice A n c) _ (K0.out.row 0 rfl) (by rfl) Try.underlying22 (by rfl) ?_))
  go_ret
  exact ⟨by first | rfl | (simp only [*]; done) | simp [*], B0.out⟩
set_option maxRecDepth 100000 in
set_option maxHeartbeats 4000000 in
theorem c_right_few (A : Option Addr) (n c : Nat) (xs : List UInt8) (w : World) (hA : Bs w w.heap.size A n xs) (h9 : n < 9) :
    Calls Try.prog 15 #[.agg #[.int .i64 24, .slice A n c]] w fun e w' => e = .returned (.bool true) ∧ Below w.heap.size w w' := by
  have K0 : Hid (EnvF (w.alloc (.cells #[.int .i64 24, .slice A n c] 24)) [bF A n xs] [(w.heap.size, #[.int .i64 24, .slice A n c], 24)]) := Lib.hid (((EnvF.nil w).addB hA).boxg 24 #[.int .i64 24, .slice A n c] (w.heap.size) (by simp))
  have B0 : Hid (Below w.heap.size w (w.alloc (.cells #[.int .i64 24, .slice A n c] 24))) := Lib.hid ((Below.refl _ w).alloc (by first | exact Nat.le_refl _ | (simp only [World.size_alloc]; omega)) (.cells #[.int .i64 24, .slice A n c] 24))
  clear hA
  go_enter Try.func15, Try.ntmps15
  go_wp2_with (first
    | go_skip
    | (refine at_load 3 (.tmp 6) (by rfl) ?_; refine wpList_get (by rfl) 3 (.tmp 6) (by rfl) (w.heap.size) 0 (by rfl) 24 #[.int .i64 24, .slice A n c] (.int .i64 24) _ (K0.out.row 0 rfl) (by rfl) Try.underlying3 (by rfl) ?_)
    | (refine at_load 3 (.tmp 10) (by rfl) ?_; refine wpListG_get (by kernel_rfl) 3 (.tmp 10) (by rfl) (w.heap.size) 0 (by rfl) 24 #[.int .i64 24, .slice A n c] (.int .i64 24) _ (K0.out.row 0 rfl) (by rfl) Try.underlying3 (by rfl) ?_)
    | (refine at_load 3 (.tmp 15) (by rfl) ?_; refine wpList_get (by rfl) 3 (.tmp 15) (by rfl) (w.heap.size) 0 (by rfl) 24 #[.int .i64 24, .slice A n c] (.int .i64 24) _ (K0.out.row 0 rfl) (by rfl) Try.underlying3 (by rfl) ?_)
    | (refine at_load 22 (.tmp 18) (by rfl) ?_; refine wpList_get (by rfl) 22 (.tmp 18) (by rfl) (w.heap.size) 1 (by rfl) 24 #[.int .i64 24, .slice A n c] (.slice A n c) _ (K0.out.row 0 rfl) (by rfl) Try.underlying22 (by rfl) ?_)
    | (refine at_load 22 (.tmp 23) (by rfl) ?_; refine wpList_get (by rfl) 22 (.tmp 23) (by rfl) (w.heap.size) 1 (by rfl) 24 #[.int .i64 24, .slice A n c] (.slice A n c) _ (K0.out.row 0 rfl) (by rfl) Try.underlying22 (by rfl) ?_)
    | (go_at_call 20; (have hc := (c_headOf_no A n c (w.alloc (.cells #[.int .i64 24, .slice A n c] 24)) h9); (with_reducible refine hc.mono ?_); clear hc); rintro e w1 ⟨rfl, hb⟩; have K1 : Hid (EnvF w1 [bF A n xs] [(w.heap.size, #[.int .i64 24, .slice A n c], 24)]) := Lib.hid (K0.out.on hb); have B1 : Hid (Below w.heap.size w w1) := Lib.hid (below_step B0.out hb); clear hb K0 B0; have leh : w.heap.size ≤ w1.heap.size := (by have := B1.out.size; (try simp only [World.size_alloc] at this); omega); have K2 : Hid (EnvF (w1.alloc (.cells #[.int .i64 0, .int .u8 0, .int .u8 0, .int .i64 0] 38)) [bF A n xs] [(w1.heap.size, #[.int .i64 0, .int .u8 0, .int .u8 0, .int .i64 0], 38), (w.heap.size, #[.int .i64 24, .slice A n c], 24)]) := Lib.hid (K1.out.boxg 38 #[.int .i64 0, .int .u8 0, .int .u8 0, .int .i64 0] (w1.heap.size) (by simp)); have B2 : Hid (Below w.heap.size w (w1.alloc (.cells #[.int .i64 0, .int .u8 0, .int .u8 0, .int .i64 0] 38))) := Lib.hid (B1.out.alloc B1.out.size (.cells #[.int .i64 0, .int .u8 0, .int .u8 0, .int .i64 0] 38)); clear K1 B1)
    | (refine at_store 38 (.tmp 3) (.tmp 26) (by rfl) ?_; refine wpList_put (by rfl) 38 (.tmp 3) (.tmp 26) (by rfl) (w1.heap.size) 0 (.agg #[.int .i64 0, .int .u8 0, .int .u8 0, .int .i64 0]) (by rfl) (by rfl) 38 #[.int .i64 0, .int .u8 0, .int .u8 0, .int .i64 0] #[.int .i64 0, .int .u8 0, .int .u8 0, .int .i64 0] (K2.out.row 0 rfl) (by simp [Value.cells]) (by kernel_rfl) infoc_H (by kernel_rfl) ?_; intro w3 hrow hoth hz hbl; have K3 : Hid (EnvF w3 [bF A n xs] [(w1.heap.size, #[.int .i64 0, .int .u8 0, .int .u8 0, .int .i64 0], 38), (w.heap.size, #[.int .i64 24, .slice A n c], 24)]) := Lib.hid (K2.out.turn 0 rfl hrow hoth hz); have B3 : Hid (Below w.heap.size w w3) := Lib.hid (hbl _ _ leh B2.out); clear hrow hoth hz hbl K2 B2))
  go_ret
  exact ⟨by first | rfl | (simp only [*]; done) | simp [*], B3.out⟩
set_option maxRecDepth 100000 in
set_option maxHeartbeats 4000000 in
theorem c_right_long (A : Option Addr) (n c : Nat) (xs : List UInt8) (w : World) (hA : Bs w w.heap.size A n xs) (h9 : 9 ≤ n) (hnc : n ≤ c) (hn : n ≤ 1000000) (h : 16384 < hL xs) :
    Calls Try.prog 15 #[.agg #[.int .i64 24, .slice A n c]] w fun e w' => e = .returned (.bool false) ∧ Below w.heap.size w w' := by
  have hb1 : decide ((16384 : Int) < (hL xs : Int)) = true := decide_eq_true (by omega)
  have K0 : Hid (EnvF (w.alloc (.cells #[.int .i64 24, .slice A n c] 24)) [bF A n xs] [(w.heap.size, #[.int .i64 24, .slice A n c], 24)]) := Lib.hid (((EnvF.nil w).addB hA).boxg 24 #[.int .i64 24, .slice A n c] (w.heap.size) (by simp))
  have B0 : Hid (Below w.heap.size w (w.alloc (.cells #[.int .i64 24, .slice A n c] 24))) := Lib.hid ((Below.refl _ w).alloc (by first | exact Nat.le_refl _ | (simp only [World.size_alloc]; omega)) (.cells #[.int .i64 24, .slice A n c] 24))
  clear hA
  go_enter Try.func15, Try.ntmps15
  go_wp2_with (first
    | go_skip
    | (refine at_load 3 (.tmp 6) (by rfl) ?_; refine wpList_get (by rfl) 3 (.tmp 6) (by rfl) (w.heap.size) 0 (by rfl) 24 #[.int .i64 24, .slice A n c] (.int .i64 24) _ (K0.out.row 0 rfl) (by rfl) Try.underlying3 (by rfl) ?_)
    | (refine at_load 3 (.tmp 10) (by rfl) ?_; refine wpListG_get (by kernel_rfl) 3 (.tmp 10) (by rfl) (w.heap.size) 0 (by rfl) 24 #[.int .i64 24, .slice A n c] (.int .i64 24) _ (K0.out.row 0 rfl) (by rfl) Try.underlying3 (by rfl) ?_)
    | (refine at_load 3 (.tmp 15) (by rfl) ?_; refine wpList_get (by rfl) 3 (.tmp 15) (by rfl) (w.heap.size) 0 (by rfl) 24 #[.int .i64 24, .slice A n c] (.int .i64 24) _ (K0.out.row 0 rfl) (by rfl) Try.underlying3 (by rfl) ?_)
    | (refine at_load 22 (.tmp 18) (by rfl) ?_; refine wpList_get (by rfl) 22 (.tmp 18) (by rfl) (w.heap.size) 1 (by rfl) 24 #[.int .i64 24, .slice A n c] (.slice A n c) _ (K0.out.row 0 rfl) (by rfl) Try.underlying22 (by rfl) ?_)
    | (refine at_load 22 (.tmp 23) (by rfl) ?_; refine wpList_get (by rfl) 22 (.tmp 23) (by rfl) (w.heap.size) 1 (by rfl) 24 #[.int .i64 24, .slice A n c] (.slice A n c) _ (K0.out.row 0 rfl) (by rfl) Try.underlying22 (by rfl) ?_)
    | (go_at_call 20; (have hc := (c_headOf_yes A n c xs _ (K0.out.bs (A := A) (n := n) (xs := xs) (by simp)) h9 hnc); (with_reducible refine hc.mono ?_); clear hc); rintro e w1 ⟨rfl, hb⟩; have K1 : Hid (EnvF w1 [bF A n xs] [(w.heap.size, #[.int .i64 24, .slice A n c], 24)]) := Lib.hid (K0.out.on hb); have B1 : Hid (Below w.heap.size w w1) := Lib.hid (below_step B0.out hb); clear hb K0 B0; have leh : w.heap.size ≤ w1.heap.size := (by have := B1.out.size; (try simp only [World.size_alloc] at this); omega); have K2 : Hid (EnvF (w1.alloc (.cells #[.int .i64 0, .int .u8 0, .int .u8 0, .int .i64 0] 38)) [bF A n xs] [(w1.heap.size, #[.int .i64 0, .int .u8 0, .int .u8 0, .int .i64 0], 38), (w.heap.size, #[.int .i64 24, .slice A n c], 24)]) := Lib.hid (K1.out.boxg 38 #[.int .i64 0, .int .u8 0, .int .u8 0, .int .i64 0] (w1.heap.size) (by simp)); have B2 : Hid (Below w.heap.size w (w1.alloc (.cells #[.int .i64 0, .int .u8 0, .int .u8 0, .int .i64 0] 38))) := Lib.hid (B1.out.alloc B1.out.size (.cells #[.int .i64 0, .int .u8 0, .int .u8 0, .int .i64 0] 38)); clear K1 B1)
    | (refine at_store 38 (.tmp 3) (.tmp 26) (by rfl) ?_; refine wpList_put (by rfl) 38 (.tmp 3) (.tmp 26) (by rfl) (w1.heap.size) 0 (.agg #[.int .i64 (hL xs), .int .u8 (hK xs), .int .u8 (hF xs), .int .i64 (hS xs)]) (by rfl) (by rfl) 38 #[.int .i64 0, .int .u8 0, .int .u8 0, .int .i64 0] #[.int .i64 (hL xs), .int .u8 (hK xs), .int .u8 (hF xs), .int .i64 (hS xs)] (K2.out.row 0 rfl) (by simp [Value.cells]) (by kernel_rfl) infoc_H (by kernel_rfl) ?_; intro w3 hrow hoth hz hbl; have K3 : Hid (EnvF w3 [bF A n xs] [(w1.heap.size, #[.int .i64 (hL xs), .int .u8 (hK xs), .int .u8 (hF xs), .int .i64 (hS xs)], 38), (w.heap.size, #[.int .i64 24, .slice A n c], 24)]) := Lib.hid (K2.out.turn 0 rfl hrow hoth hz); have B3 : Hid (Below w.heap.size w w3) := Lib.hid (hbl _ _ leh B2.out); clear hrow hoth hz hbl K2 B2)
    | (refine at_load 38 (.tmp 3) (by rfl) ?_; refine wpListG_row (by kernel_rfl) 38 (.tmp 3) (by rfl) (w1.heap.size) (by rfl) 38 #[.int .i64 (hL xs), .int .u8 (hK xs), .int .u8 (hF xs), .int .i64 (hS xs)] _ (K3.out.row 0 rfl) Try.underlying38 (by rfl) infoc_H ?_)
    | (go_at_call 21; (have hc := (c_tooLong' (hL xs : Int) (hK xs : Int) (hF xs : Int) (hS xs : Int) _ hb1 w3); (with_reducible refine hc.mono ?_); clear hc); rintro e w4 ⟨rfl, hb⟩; have K4 : Hid (EnvF w4 [bF A n xs] [(w1.heap.size, #[.int .i64 (hL xs), .int .u8 (hK xs), .int .u8 (hF xs), .int .i64 (hS xs)], 38), (w.heap.size, #[.int .i64 24, .slice A n c], 24)]) := Lib.hid (K3.out.on hb); have B4 : Hid (Below w.heap.size w w4) := Lib.hid (below_step B3.out hb); clear hb K3 B3))
  go_ret
  exact ⟨by first | rfl | (simp only [*]; done) | simp [*], B4.out⟩
set_option maxRecDepth 100000 in
set_option maxHeartbeats 4000000 in
theorem c_right_fits (A : Option Addr) (n c : Nat) (xs : List UInt8) (w : World) (hA : Bs w w.heap.size A n xs) (h9 : 9 ≤ n) (hnc : n ≤ c) (hn : n ≤ 1000000) (h : hL xs ≤ 16384) (h2 : 9 + hL xs ≤ n) :
    Calls Try.prog 15 #[.agg #[.int .i64 24, .slice A n c]] w fun e w' => e = .returned (.bool false) ∧ Below w.heap.size w w' := by
  have hb1 : decide ((16384 : Int) < (hL xs : Int)) = false := decide_eq_false (by omega)
  have hb2 : decide ((hL xs : Int) ≤ (n : Int) - 9) = true := decide_eq_true (by omega)
  have K0 : Hid (EnvF (w.alloc (.cells #[.int .i64 24, .slice A n c] 24)) [bF A n xs] [(w.heap.size, #[.int .i64 24, .slice A n c], 24)]) := Lib.hid (((EnvF.nil w).addB hA).boxg 24 #[.int .i64 24, .slice A n c] (w.heap.size) (by simp))
  have B0 : Hid (Below w.heap.size w (w.alloc (.cells #[.int .i64 24, .slice A n c] 24))) := Lib.hid ((Below.refl _ w).alloc (by first | exact Nat.le_refl _ | (simp only [World.size_alloc]; omega)) (.cells #[.int .i64 24, .slice A n c] 24))
  clear hA
  go_enter Try.func15, Try.ntmps15
  go_wp2_with (first
    | go_skip
    | (refine at_load 3 (.tmp 6) (by rfl) ?_; refine wpList_get (by rfl) 3 (.tmp 6) (by rfl) (w.heap.size) 0 (by rfl) 24 #[.int .i64 24, .slice A n c] (.int .i64 24) _ (K0.out.row 0 rfl) (by rfl) Try.underlying3 (by rfl) ?_)
    | (refine at_load 3 (.tmp 10) (by rfl) ?_; refine wpListG_get (by kernel_rfl) 3 (.tmp 10) (by rfl) (w.heap.size) 0 (by rfl) 24 #[.int .i64 24, .slice A n c] (.int .i64 24) _ (K0.out.row 0 rfl) (by rfl) Try.underlying3 (by rfl) ?_)
    | (refine at_load 3 (.tmp 15) (by rfl) ?_; refine wpList_get (by rfl) 3 (.tmp 15) (by rfl) (w.heap.size) 0 (by rfl) 24 #[.int .i64 24, .slice A n c] (.int .i64 24) _ (K0.out.row 0 rfl) (by rfl) Try.underlying3 (by rfl) ?_)
    | (refine at_load 22 (.tmp 18) (by rfl) ?_; refine wpList_get (by rfl) 22 (.tmp 18) (by rfl) (w.heap.size) 1 (by rfl) 24 #[.int .i64 24, .slice A n c] (.slice A n c) _ (K0.out.row 0 rfl) (by rfl) Try.underlying22 (by rfl) ?_)
    | (refine at_load 22 (.tmp 23) (by rfl) ?_; refine wpList_get (by rfl) 22 (.tmp 23) (by rfl) (w.heap.size) 1 (by rfl) 24 #[.int .i64 24, .slice A n c] (.slice A n c) _ (K0.out.row 0 rfl) (by rfl) Try.underlying22 (by rfl) ?_)
    | (go_at_call 20; (have hc := (c_headOf_yes A n c xs _ (K0.out.bs (A := A) (n := n) (xs := xs) (by simp)) h9 hnc); (with_reducible refine hc.mono ?_); clear hc); rintro e w1 ⟨rfl, hb⟩; have K1 : Hid (EnvF w1 [bF A n xs] [(w.heap.size, #[.int .i64 24, .slice A n c], 24)]) := Lib.hid (K0.out.on hb); have B1 : Hid (Below w.heap.size w w1) := Lib.hid (below_step B0.out hb); clear hb K0 B0; have leh : w.heap.size ≤ w1.heap.size := (by have := B1.out.size; (try simp only [World.size_alloc] at this); omega); have K2 : Hid (EnvF (w1.alloc (.cells #[.int .i64 0, .int .u8 0, .int .u8 0, .int .i64 0] 38)) [bF A n xs] [(w1.heap.size, #[.int .i64 0, .int .u8 0, .int .u8 0, .int .i64 0], 38), (w.heap.size, #[.int .i64 24, .slice A n c], 24)]) := Lib.hid (K1.out.boxg 38 #[.int .i64 0, .int .u8 0, .int .u8 0, .int .i64 0] (w1.heap.size) (by simp)); have B2 : Hid (Below w.heap.size w (w1.alloc (.cells #[.int .i64 0, .int .u8 0, .int .u8 0, .int .i64 0] 38))) := Lib.hid (B1.out.alloc B1.out.size (.cells #[.int .i64 0, .int .u8 0, .int .u8 0, .int .i64 0] 38)); clear K1 B1)
    | (refine at_store 38 (.tmp 3) (.tmp 26) (by rfl) ?_; refine wpList_put (by rfl) 38 (.tmp 3) (.tmp 26) (by rfl) (w1.heap.size) 0 (.agg #[.int .i64 (hL xs), .int .u8 (hK xs), .int .u8 (hF xs), .int .i64 (hS xs)]) (by rfl) (by rfl) 38 #[.int .i64 0, .int .u8 0, .int .u8 0, .int .i64 0] #[.int .i64 (hL xs), .int .u8 (hK xs), .int .u8 (hF xs), .int .i64 (hS xs)] (K2.out.row 0 rfl) (by simp [Value.cells]) (by kernel_rfl) infoc_H (by kernel_rfl) ?_; intro w3 hrow hoth hz hbl; have K3 : Hid (EnvF w3 [bF A n xs] [(w1.heap.size, #[.int .i64 (hL xs), .int .u8 (hK xs), .int .u8 (hF xs), .int .i64 (hS xs)], 38), (w.heap.size, #[.int .i64 24, .slice A n c], 24)]) := Lib.hid (K2.out.turn 0 rfl hrow hoth hz); have B3 : Hid (Below w.heap.size w w3) := Lib.hid (hbl _ _ leh B2.out); clear hrow hoth hz hbl K2 B2)
    | (refine at_load 38 (.tmp 3) (by rfl) ?_; refine wpListG_row (by kernel_rfl) 38 (.tmp 3) (by rfl) (w1.heap.size) (by rfl) 38 #[.int .i64 (hL xs), .int .u8 (hK xs), .int .u8 (hF xs), .int .i64 (hS xs)] _ (K3.out.row 0 rfl) Try.underlying38 (by rfl) infoc_H ?_)
    | (go_at_call 21; (have hc := (c_tooLong' (hL xs : Int) (hK xs : Int) (hF xs : Int) (hS xs : Int) _ hb1 w3); (with_reducible refine hc.mono ?_); clear hc); rintro e w4 ⟨rfl, hb⟩; have K4 : Hid (EnvF w4 [bF A n xs] [(w1.heap.size, #[.int .i64 (hL xs), .int .u8 (hK xs), .int .u8 (hF xs), .int .i64 (hS xs)], 38), (w.heap.size, #[.int .i64 24, .slice A n c], 24)]) := Lib.hid (K3.out.on hb); have B4 : Hid (Below w.heap.size w w4) := Lib.hid (below_step B3.out hb); clear hb K3 B3)
    | (refine at_load 38 (.tmp 3) (by rfl) ?_; refine wpListG_row (by kernel_rfl) 38 (.tmp 3) (by rfl) (w1.heap.size) (by rfl) 38 #[.int .i64 (hL xs), .int .u8 (hK xs), .int .u8 (hF xs), .int .i64 (hS xs)] _ (K4.out.row 0 rfl) Try.underlying38 (by rfl) infoc_H ?_)
    | (refine at_load 22 (.tmp 36) (by rfl) ?_; refine wpListG_get (by kernel_rfl) 22 (.tmp 36) (by rfl) (w.heap.size) 1 (by rfl) 24 #[.int .i64 24, .slice A n c] (.slice A n c) _ (K4.out.row 1 rfl) (by rfl) Try.underlying22 (by rfl) ?_)
    | (go_at_call 28; (have hc := (c_whole' (hL xs : Int) (hK xs : Int) (hF xs : Int) (hS xs : Int) A n c (by omega) _ hb2 w4); (with_reducible refine hc.mono ?_); clear hc); rintro e w5 ⟨rfl, hb⟩; have K5 : Hid (EnvF w5 [bF A n xs] [(w1.heap.size, #[.int .i64 (hL xs), .int .u8 (hK xs), .int .u8 (hF xs), .int .i64 (hS xs)], 38), (w.heap.size, #[.int .i64 24, .slice A n c], 24)]) := Lib.hid (K4.out.on hb); have B5 : Hid (Below w.heap.size w w5) := Lib.hid (below_step B4.out hb); clear hb K4 B4))
  go_ret
  exact ⟨by first | rfl | (simp only [*]; done) | simp [*], B5.out⟩
set_option maxRecDepth 100000 in
set_option maxHeartbeats 4000000 in
theorem c_right_not (A : Option Addr) (n c : Nat) (xs : List UInt8) (w : World) (hA : Bs w w.heap.size A n xs) (h9 : 9 ≤ n) (hnc : n ≤ c) (hn : n ≤ 1000000) (h : hL xs ≤ 16384) (h2 : n < 9 + hL xs) :
    Calls Try.prog 15 #[.agg #[.int .i64 24, .slice A n c]] w fun e w' => e = .returned (.bool true) ∧ Below w.heap.size w w' := by
  have hb1 : decide ((16384 : Int) < (hL xs : Int)) = false := decide_eq_false (by omega)
  have hb2 : decide ((hL xs : Int) ≤ (n : Int) - 9) = false := decide_eq_false (by omega)
  have K0 : Hid (EnvF (w.alloc (.cells #[.int .i64 24, .slice A n c] 24)) [bF A n xs] [(w.heap.size, #[.int .i64 24, .slice A n c], 24)]) := Lib.hid (((EnvF.nil w).addB hA).boxg 24 #[.int .i64 24, .slice A n c] (w.heap.size) (by simp))
  have B0 : Hid (Below w.heap.size w (w.alloc (.cells #[.int .i64 24, .slice A n c] 24))) := Lib.hid ((Below.refl _ w).alloc (by first | exact Nat.le_refl _ | (simp only [World.size_alloc]; omega)) (.cells #[.int .i64 24, .slice A n c] 24))
  clear hA
  go_enter Try.func15, Try.ntmps15
  go_wp2_with (first
    | go_skip
    | (refine at_load 3 (.tmp 6) (by rfl) ?_; refine wpList_get (by rfl) 3 (.tmp 6) (by rfl) (w.heap.size) 0 (by rfl) 24 #[.int .i64 24, .slice A n c] (.int .i64 24) _ (K0.out.row 0 rfl) (by rfl) Try.underlying3 (by rfl) ?_)
    | (refine at_load 3 (.tmp 10) (by rfl) ?_; refine wpListG_get (by kernel_rfl) 3 (.tmp 10) (by rfl) (w.heap.size) 0 (by rfl) 24 #[.int .i64 24, .slice A n c] (.int .i64 24) _ (K0.out.row 0 rfl) (by rfl) Try.underlying3 (by rfl) ?_)
    | (refine at_load 3 (.tmp 15) (by rfl) ?_; refine wpList_get (by rfl) 3 (.tmp 15) (by rfl) (w.heap.size) 0 (by rfl) 24 #[.int .i64 24, .slice A n c] (.int .i64 24) _ (K0.out.row 0 rfl) (by rfl) Try.underlying3 (by rfl) ?_)
    | (refine at_load 22 (.tmp 18) (by rfl) ?_; refine wpList_get (by rfl) 22 (.tmp 18) (by rfl) (w.heap.size) 1 (by rfl) 24 #[.int .i64 24, .slice A n c] (.slice A n c) _ (K0.out.row 0 rfl) (by rfl) Try.underlying22 (by rfl) ?_)
    | (refine at_load 22 (.tmp 23) (by rfl) ?_; refine wpList_get (by rfl) 22 (.tmp 23) (by rfl) (w.heap.size) 1 (by rfl) 24 #[.int .i64 24, .slice A n c] (.slice A n c) _ (K0.out.row 0 rfl) (by rfl) Try.underlying22 (by rfl) ?_)
    | (go_at_call 20; (have hc := (c_headOf_yes A n c xs _ (K0.out.bs (A := A) (n := n) (xs := xs) (by simp)) h9 hnc); (with_reducible refine hc.mono ?_); clear hc); rintro e w1 ⟨rfl, hb⟩; have K1 : Hid (EnvF w1 [bF A n xs] [(w.heap.size, #[.int .i64 24, .slice A n c], 24)]) := Lib.hid (K0.out.on hb); have B1 : Hid (Below w.heap.size w w1) := Lib.hid (below_step B0.out hb); clear hb K0 B0; have leh : w.heap.size ≤ w1.heap.size := (by have := B1.out.size; (try simp only [World.size_alloc] at this); omega); have K2 : Hid (EnvF (w1.alloc (.cells #[.int .i64 0, .int .u8 0, .int .u8 0, .int .i64 0] 38)) [bF A n xs] [(w1.heap.size, #[.int .i64 0, .int .u8 0, .int .u8 0, .int .i64 0], 38), (w.heap.size, #[.int .i64 24, .slice A n c], 24)]) := Lib.hid (K1.out.boxg 38 #[.int .i64 0, .int .u8 0, .int .u8 0, .int .i64 0] (w1.heap.size) (by simp)); have B2 : Hid (Below w.heap.size w (w1.alloc (.cells #[.int .i64 0, .int .u8 0, .int .u8 0, .int .i64 0] 38))) := Lib.hid (B1.out.alloc B1.out.size (.cells #[.int .i64 0, .int .u8 0, .int .u8 0, .int .i64 0] 38)); clear K1 B1)
    | (refine at_store 38 (.tmp 3) (.tmp 26) (by rfl) ?_; refine wpList_put (by rfl) 38 (.tmp 3) (.tmp 26) (by rfl) (w1.heap.size) 0 (.agg #[.int .i64 (hL xs), .int .u8 (hK xs), .int .u8 (hF xs), .int .i64 (hS xs)]) (by rfl) (by rfl) 38 #[.int .i64 0, .int .u8 0, .int .u8 0, .int .i64 0] #[.int .i64 (hL xs), .int .u8 (hK xs), .int .u8 (hF xs), .int .i64 (hS xs)] (K2.out.row 0 rfl) (by simp [Value.cells]) (by kernel_rfl) infoc_H (by kernel_rfl) ?_; intro w3 hrow hoth hz hbl; have K3 : Hid (EnvF w3 [bF A n xs] [(w1.heap.size, #[.int .i64 (hL xs), .int .u8 (hK xs), .int .u8 (hF xs), .int .i64 (hS xs)], 38), (w.heap.size, #[.int .i64 24, .slice A n c], 24)]) := Lib.hid (K2.out.turn 0 rfl hrow hoth hz); have B3 : Hid (Below w.heap.size w w3) := Lib.hid (hbl _ _ leh B2.out); clear hrow hoth hz hbl K2 B2)
    | (refine at_load 38 (.tmp 3) (by rfl) ?_; refine wpListG_row (by kernel_rfl) 38 (.tmp 3) (by rfl) (w1.heap.size) (by rfl) 38 #[.int .i64 (hL xs), .int .u8 (hK xs), .int .u8 (hF xs), .int .i64 (hS xs)] _ (K3.out.row 0 rfl) Try.underlying38 (by rfl) infoc_H ?_)
    | (go_at_call 21; (have hc := (c_tooLong' (hL xs : Int) (hK xs : Int) (hF xs : Int) (hS xs : Int) _ hb1 w3); (with_reducible refine hc.mono ?_); clear hc); rintro e w4 ⟨rfl, hb⟩; have K4 : Hid (EnvF w4 [bF A n xs] [(w1.heap.size, #[.int .i64 (hL xs), .int .u8 (hK xs), .int .u8 (hF xs), .int .i64 (hS xs)], 38), (w.heap.size, #[.int .i64 24, .slice A n c], 24)]) := Lib.hid (K3.out.on hb); have B4 : Hid (Below w.heap.size w w4) := Lib.hid (below_step B3.out hb); clear hb K3 B3)
    | (refine at_load 38 (.tmp 3) (by rfl) ?_; refine wpListG_row (by kernel_rfl) 38 (.tmp 3) (by rfl) (w1.heap.size) (by rfl) 38 #[.int .i64 (hL xs), .int .u8 (hK xs), .int .u8 (hF xs), .int .i64 (hS xs)] _ (K4.out.row 0 rfl) Try.underlying38 (by rfl) infoc_H ?_)
    | (refine at_load 22 (.tmp 36) (by rfl) ?_; refine wpListG_get (by kernel_rfl) 22 (.tmp 36) (by rfl) (w.heap.size) 1 (by rfl) 24 #[.int .i64 24, .slice A n c] (.slice A n c) _ (K4.out.row 1 rfl) (by rfl) Try.underlying22 (by rfl) ?_)
    | (go_at_call 28; (have hc := (c_whole' (hL xs : Int) (hK xs : Int) (hF xs : Int) (hS xs : Int) A n c (by omega) _ hb2 w4); (with_reducible refine hc.mono ?_); clear hc); rintro e w5 ⟨rfl, hb⟩; have K5 : Hid (EnvF w5 [bF A n xs] [(w1.heap.size, #[.int .i64 (hL xs), .int .u8 (hK xs), .int .u8 (hF xs), .int .i64 (hS xs)], 38), (w.heap.size, #[.int .i64 24, .slice A n c], 24)]) := Lib.hid (K4.out.on hb); have B5 : Hid (Below w.heap.size w w5) := Lib.hid (below_step B4.out hb); clear hb K4 B4))
  go_ret
  exact ⟨by first | rfl | (simp only [*]; done) | simp [*], B5.out⟩
theorem c_right (p : Int) (A : Option Addr) (n c : Nat) (xs : List UInt8) (w : World) (hA : Bs w w.heap.size A n xs) (hnc : n ≤ c) (hn : n ≤ 1000000) :
    Calls Try.prog 15 #[.agg #[.int .i64 p, .slice A n c]] w fun e w' => e = .returned (.bool (decide (RightR p xs))) ∧ Below w.heap.size w w' := by
  have hl := hA.1
  by_cases h0 : p < 0
  · rw [decide_eq_false (fun h => by unfold RightR at h; omega)]
    exact c_right_low p A n c xs w hA h0
  · by_cases h2 : p < 24
    ·
      rw [show decide (RightR p xs) = ((n : Int) == 0) by
        by_cases h0 : n = 0
        · rw [decide_eq_true ((rightR_lt (by omega) h2).2 (by omega))]; subst h0; rfl
        · rw [decide_eq_false (fun h => h0 (by have := (rightR_lt (by omega) h2).1 h; omega))]; symm; simp; omega]
      exact c_right_less p A n c xs w hA (by omega) h2
    · by_cases h3 : 24 < p
      · rw [decide_eq_false (fun h => by unfold RightR at h; omega)]
        exact c_right_high p A n c xs w hA h3
      · obtain rfl : p = 24 := by omega
        by_cases h9 : 9 ≤ n
        · by_cases hL1 : hL xs ≤ 16384
          · by_cases h4 : 9 + hL xs ≤ n
            · rw [decide_eq_false (fun h => by have := (rightR_24 xs).1 h (by omega); omega)]
              exact c_right_fits A n c xs w hA h9 hnc hn hL1 h4
            · rw [decide_eq_true ((rightR_24 xs).2 (fun _ => by omega))]
              exact c_right_not A n c xs w hA h9 hnc hn hL1 (by omega)
          · rw [decide_eq_false (fun h => by have := (rightR_24 xs).1 h (by omega); omega)]
            exact c_right_long A n c xs w hA h9 hnc hn (by omega)
        · rw [decide_eq_true ((rightR_24 xs).2 (fun h => by omega))]
          exact c_right_few A n c xs w hA (by omega)
theorem d_head_no (A : Option Addr) (n c : Nat) (w : World) (h9 : n < 9) :
    Calls Try.prog 11 #[.slice A n c] w fun e w' => e = .returned (.tuple #[.agg #[.int .i64 0, .int .u8 0, .int .u8 0, .int .i64 0], .bool false]) ∧ Below w.heap.size w w' := by
  have K0 : Hid (EnvF (w.alloc (.cells #[.int .i64 0, .int .u8 0, .int .u8 0, .int .i64 0] 38)) [] [(w.heap.size, #[.int .i64 0, .int .u8 0, .int .u8 0, .int .i64 0], 38)]) := Lib.hid ((EnvF.nil w).boxg 38 #[.int .i64 0, .int .u8 0, .int .u8 0, .int .i64 0] (w.heap.size) (by simp))
  have B0 : Hid (Below w.heap.size w (w.alloc (.cells #[.int .i64 0, .int .u8 0, .int .u8 0, .int .i64 0] 38))) := Lib.hid ((Below.refl _ w).alloc (by first | exact Nat.le_refl _ | (simp only [World.size_alloc]; omega)) (.cells #[.int .i64 0, .int .u8 0, .int .u8 0, .int .i64 0] 38))
  go_enter Try.func11, Try.ntmps11
  go_wp2_with (first
    | go_skip
    | (refine at_store 38 (.tmp 2) (.tmp 10) (by rfl) ?_; refine wpList_put (by rfl) 38 (.tmp 2) (.tmp 10) (by rfl) (w.heap.size) 0 (.agg #[.int .i64 0, .int .u8 0, .int .u8 0, .int .i64 0]) (by rfl) (by rfl) 38 #[.int .i64 0, .int .u8 0, .int .u8 0, .int .i64 0] #[.int .i64 0, .int .u8 0, .int .u8 0, .int .i64 0] (K0.out.row 0 rfl) (by simp [Value.cells]) (by kernel_rfl) infoc_H (by kernel_rfl) ?_; intro w1 hrow hoth hz hbl; have K1 : Hid (EnvF w1 [] [(w.heap.size, #[.int .i64 0, .int .u8 0, .int .u8 0, .int .i64 0], 38)]) := Lib.hid (K0.out.turn 0 rfl hrow hoth hz); have B1 : Hid (Below w.heap.size w w1) := Lib.hid (hbl _ _ (by omega) B0.out); clear hrow hoth hz hbl K0 B0))
  exact bodyPost_ret (res_cell_tmp rfl _ _ _ _ _ _ rfl (K1.out.row 0 rfl) Try.underlying38 rfl infoc_H) rfl ⟨rfl, B1.out⟩
theorem d_head_yes (A : Option Addr) (n c : Nat) (xs : List UInt8) (w : World) (hA : Bs w w.heap.size A n xs) (h9 : 9 ≤ n) (hn : n ≤ 1000000) (hnc : n ≤ c) :
    Calls Try.prog 11 #[.slice A n c] w fun e w' => e = .returned (.tuple #[.agg #[.int .i64 (hL xs), .int .u8 (hK xs), .int .u8 (hF xs), .int .i64 (hS xs)], .bool true]) ∧ Below w.heap.size w w' := by
  obtain ⟨b, o, rfl, hb, hc⟩ := hA.2 (by omega)
  have d0 : decide ((n : Int) < 9) = false := by simp; omega
  clear hc hb
  have K0 : Hid (EnvF (w.alloc (.cells #[.int .i64 0, .int .u8 0, .int .u8 0, .int .i64 0] 38)) [bF (some ⟨b, o, none⟩) n xs] [(w.heap.size, #[.int .i64 0, .int .u8 0, .int .u8 0, .int .i64 0], 38)]) := Lib.hid (((EnvF.nil w).addB hA).boxg 38 #[.int .i64 0, .int .u8 0, .int .u8 0, .int .i64 0] (w.heap.size) (by simp))
  have B0 : Hid (Below w.heap.size w (w.alloc (.cells #[.int .i64 0, .int .u8 0, .int .u8 0, .int .i64 0] 38))) := Lib.hid ((Below.refl _ w).alloc (by first | exact Nat.le_refl _ | (simp only [World.size_alloc]; omega)) (.cells #[.int .i64 0, .int .u8 0, .int .u8 0, .int .i64 0] 38))
  clear hA
  go_enter Try.func11, Try.ntmps11
  go_wp2_with (first
    | go_skip
    | (go_at_call 10; (have hc := (rhtake_yes0 b o _ n c _ _ _ _ xs _ rfl rfl rfl rfl (K0.out.bs (A := (some ⟨b, o, none⟩)) (n := n) (xs := xs) (by simp)) h9 hn hnc (Nat.le_refl _)); (with_reducible refine hc.mono ?_); clear hc); rintro e w1 ⟨v1, rfl, _, ho, hb⟩; have K1 : Hid (EnvF w1 [bF (some ⟨b, o, none⟩) n xs] [(w.heap.size, #[.int .i64 0, .int .u8 0, .int .u8 0, .int .i64 0], 38)]) := Lib.hid (K0.out.on hb); have B1 : Hid (Below w.heap.size w w1) := Lib.hid (below_step B0.out hb); clear ho; clear hb K0 B0; have leh : w.heap.size ≤ w1.heap.size := (by have := B1.out.size; (try simp only [World.size_alloc] at this); omega); have K2 : Hid (EnvF (w1.alloc (.cells #[.int .i64 0, .int .u8 0, .int .u8 0, .int .i64 0] 38)) [bF (some ⟨b, o, none⟩) n xs] [(w1.heap.size, #[.int .i64 0, .int .u8 0, .int .u8 0, .int .i64 0], 38), (w.heap.size, #[.int .i64 0, .int .u8 0, .int .u8 0, .int .i64 0], 38)]) := Lib.hid (K1.out.boxg 38 #[.int .i64 0, .int .u8 0, .int .u8 0, .int .i64 0] (w1.heap.size) (by simp)); have B2 : Hid (Below w.heap.size w (w1.alloc (.cells #[.int .i64 0, .int .u8 0, .int .u8 0, .int .i64 0] 38))) := Lib.hid (B1.out.alloc B1.out.size (.cells #[.int .i64 0, .int .u8 0, .int .u8 0, .int .i64 0] 38)); clear K1 B1)
    | (refine at_store 38 (.tmp 4) (.tmp 14) (by rfl) ?_; refine wpList_put (by rfl) 38 (.tmp 4) (.tmp 14) (by rfl) (w1.heap.size) 0 (.agg #[.int .i64 (hL xs), .int .u8 (hK xs), .int .u8 (hF xs), .int .i64 (hS xs)]) (by rfl) (by rfl) 38 #[.int .i64 0, .int .u8 0, .int .u8 0, .int .i64 0] #[.int .i64 (hL xs), .int .u8 (hK xs), .int .u8 (hF xs), .int .i64 (hS xs)] (K2.out.row 0 rfl) (by simp [Value.cells]) (by kernel_rfl) infoc_H (by kernel_rfl) ?_; intro w3 hrow hoth hz hbl; have K3 : Hid (EnvF w3 [bF (some ⟨b, o, none⟩) n xs] [(w1.heap.size, #[.int .i64 (hL xs), .int .u8 (hK xs), .int .u8 (hF xs), .int .i64 (hS xs)], 38), (w.heap.size, #[.int .i64 0, .int .u8 0, .int .u8 0, .int .i64 0], 38)]) := Lib.hid (K2.out.turn 0 rfl hrow hoth hz); have B3 : Hid (Below w.heap.size w w3) := Lib.hid (hbl _ _ leh B2.out); clear hrow hoth hz hbl K2 B2)
    | (refine at_load 38 (.tmp 4) (by rfl) ?_; refine wpList_load_row (by rfl) 38 (.tmp 4) (by rfl) (w1.heap.size) (by rfl) 38 #[.int .i64 (hL xs), .int .u8 (hK xs), .int .u8 (hF xs), .int .i64 (hS xs)] (0, 0) _ (K3.out.row 0 rfl) Try.underlying38 (by rfl) infoc_H ?_)
    | (refine at_store 38 (.tmp 2) (.tmp 17) (by rfl) ?_; refine wpList_put (by rfl) 38 (.tmp 2) (.tmp 17) (by rfl) (w.heap.size) 0 (.agg #[.int .i64 (hL xs), .int .u8 (hK xs), .int .u8 (hF xs), .int .i64 (hS xs)]) (by rfl) (by rfl) 38 #[.int .i64 0, .int .u8 0, .int .u8 0, .int .i64 0] #[.int .i64 (hL xs), .int .u8 (hK xs), .int .u8 (hF xs), .int .i64 (hS xs)] (K3.out.row 1 rfl) (by simp [Value.cells]) (by kernel_rfl) infoc_H (by kernel_rfl) ?_; intro w4 hrow hoth hz hbl; have K4 : Hid (EnvF w4 [bF (some ⟨b, o, none⟩) n xs] [(w1.heap.size, #[.int .i64 (hL xs), .int .u8 (hK xs), .int .u8 (hF xs), .int .i64 (hS xs)], 38), (w.heap.size, #[.int .i64 (hL xs), .int .u8 (hK xs), .int .u8 (hF xs), .int .i64 (hS xs)], 38)]) := Lib.hid (K3.out.turn 1 rfl hrow hoth hz); have B4 : Hid (Below w.heap.size w w4) := Lib.hid (hbl _ _ (by omega) B3.out); clear hrow hoth hz hbl K3 B3))
  exact bodyPost_ret (res_cell_tmp rfl _ _ _ _ _ _ rfl (K4.out.row 1 rfl) Try.underlying38 rfl infoc_H) rfl ⟨rfl, B4.out⟩
set_option maxRecDepth 100000 in
set_option maxHeartbeats 4000000 in
theorem d_right_low (p : Int) (A : Option Addr) (n c : Nat) (xs : List UInt8) (w : World) (hA : Bs w w.heap.size A n xs) (hp : p < 0) :
    Calls Try.prog 5 #[.agg #[.int .i64 p, .slice A n c]] w fun e w' => e = .returned (.bool false) ∧ Below w.heap.size w w' := by
  have d0 : decide (p < 0) = true := decide_eq_true hp
  have K0 : Hid (EnvF (w.alloc (.cells #[.int .i64 p, .slice A n c] 24)) [bF A n xs] [(w.heap.size, #[.int .i64 p, .slice A n c], 24)]) := Lib.hid (((EnvF.nil w).addB hA).boxg 24 #[.int .i64 p, .slice A n c] (w.heap.size) (by simp))
  have B0 : Hid (Below w.heap.size w (w.alloc (.cells #[.int .i64 p, .slice A n c] 24))) := Lib.hid ((Below.refl _ w).alloc (by first | exact Nat.le_refl _ | (simp only [World.size_alloc]; omega)) (.cells #[.int .i64 p, .slice A n c] 24))
  clear hA
  go_enter Try.func5, Try.ntmps5
  go_wp2_with (first
    | go_skip
    | (refine at_load 3 (.tmp 5) (by rfl) ?_; refine wpList_get (by rfl) 3 (.tmp 5) (by rfl) (w.heap.size) 0 (by rfl) 24 #[.int .i64 p, .slice A n c] (.int .i64 p) _ (K0.out.row 0 rfl) (by rfl) Try.underlying3 (by rfl) ?_)
    | (refine at_load 3 (.tmp 9) (by rfl) ?_; refine wpListG_get (by kernel_rfl) 3 (.tmp 9) (by rfl) (w.heap.size) 0 (by rfl) 24 #[.int .i64 p, .slice A n c] (.int .i64 p) _ (K0.out.row 0 rfl) (by rfl) Try.underlying3 (by rfl) ?_)
    | (refine at_load 3 (.tmp 14) (by rfl) ?_; refine wpListG_get (by kernel_rfl) 3 (.tmp 14) (by rfl) (w.heap.size) 0 (by rfl) 24 #[.int .i64 p, .slice A n c] (.int .i64 p) _ (K0.out.row 0 rfl) (by rfl) Try.underlying3 (by rfl) ?_)
    | (refine at_load 22 (.tmp 18) (by rfl) ?_; refine wpListG_get (by kernel_rfl) 22 (.tmp 18) (by rfl) (w.heap.size) 1 (by rfl) 24 #[.int .i64 p, .slice A n c] (.slice A n c) _ (K0.out.row 0 rfl) (by rfl) Try.underlying22 (by rfl) ?_)
    | (refine at_load 22 (.tmp 25) (by rfl) ?_; refine wpList_get (by rfl) 22 (.tmp 25) (by rfl) (w.heap.size) 1 (by rfl) 24 #[.int .i64 p, .slice A n c] (.slice A n c) _ (K0.out.row 0 rfl) (by rfl) Try.underlying22 (by rfl) ?_))
  go_ret
  exact ⟨by first | rfl | (simp only [*]; done) | simp [*], B0.out⟩
set_option maxRecDepth 100000 in
set_option maxHeartbeats 4000000 in
theorem d_right_high (p : Int) (A : Option Addr) (n c : Nat) (xs : List UInt8) (w : World) (hA : Bs w w.heap.size A n xs) (hp : 24 < p) :
    Calls Try.prog 5 #[.agg #[.int .i64 p, .slice A n c]] w fun e w' => e = .returned (.bool false) ∧ Below w.heap.size w w' := by
  have d0 : decide (p < 0) = false := decide_eq_false (by omega)
  have d1 : decide (24 < p) = true := decide_eq_true hp
  have K0 : Hid (EnvF (w.alloc (.cells #[.int .i64 p, .slice A n c] 24)) [bF A n xs] [(w.heap.size, #[.int .i64 p, .slice A n c], 24)]) := Lib.hid (((EnvF.nil w).addB hA).boxg 24 #[.int .i64 p, .slice A n c] (w.heap.size) (by simp))
  have B0 : Hid (Below w.heap.size w (w.alloc (.cells #[.int .i64 p, .slice A n c] 24))) := Lib.hid ((Below.refl _ w).alloc (by first | exact Nat.le_refl _ | (simp only [World.size_alloc]; omega)) (.cells #[.int .i64 p, .slice A n c] 24))
  clear hA
  go_enter Try.func5, Try.ntmps5
  go_wp2_with (first
    | go_skip
    | (refine at_load 3 (.tmp 5) (by rfl) ?_; refine wpList_get (by rfl) 3 (.tmp 5) (by rfl) (w.heap.size) 0 (by rfl) 24 #[.int .i64 p, .slice A n c] (.int .i64 p) _ (K0.out.row 0 rfl) (by rfl) Try.underlying3 (by rfl) ?_)
    | (refine at_load 3 (.tmp 9) (by rfl) ?_; refine wpListG_get (by kernel_rfl) 3 (.tmp 9) (by rfl) (w.heap.size) 0 (by rfl) 24 #[.int .i64 p, .slice A n c] (.int .i64 p) _ (K0.out.row 0 rfl) (by rfl) Try.underlying3 (by rfl) ?_)
    | (refine at_load 3 (.tmp 14) (by rfl) ?_; refine wpListG_get (by kernel_rfl) 3 (.tmp 14) (by rfl) (w.heap.size) 0 (by rfl) 24 #[.int .i64 p, .slice A n c] (.int .i64 p) _ (K0.out.row 0 rfl) (by rfl) Try.underlying3 (by rfl) ?_)
    | (refine at_load 22 (.tmp 18) (by rfl) ?_; refine wpListG_get (by kernel_rfl) 22 (.tmp 18) (by rfl) (w.heap.size) 1 (by rfl) 24 #[.int .i64 p, .slice A n c] (.slice A n c) _ (K0.out.row 0 rfl) (by rfl) Try.underlying22 (by rfl) ?_)
    | (refine at_load 22 (.tmp 25) (by rfl) ?_; refine wpList_get (by rfl) 22 (.tmp 25) (by rfl) (w.heap.size) 1 (by rfl) 24 #[.int .i64 p, .slice A n c] (.slice A n c) _ (K0.out.row 0 rfl) (by rfl) Try.underlying22 (by rfl) ?_))
  go_ret
  exact ⟨by first | rfl | (simp only [*]; done) | simp [*], B0.out⟩
set_option maxRecDepth 100000 in
set_option maxHeartbeats 4000000 in
theorem d_right_lessY (p : Int) (A : Option Addr) (n c : Nat) (xs : List UInt8) (w : World) (hA : Bs w w.heap.size A n xs) (hp0 : 0 ≤ p) (hp : p < 24) (h0 : 0 < n) :
    Calls Try.prog 5 #[.agg #[.int .i64 p, .slice A n c]] w fun e w' => e = .returned (.bool false) ∧ Below w.heap.size w w' := by
  have d0 : decide (p < 0) = false := decide_eq_false (by omega)
  have d1 : decide (24 < p) = false := decide_eq_false (by omega)
  have d2 : decide (p < 24) = true := decide_eq_true hp
  have d3 : decide ((0 : Int) < (n : Int)) = true := decide_eq_true (by omega)
  have K0 : Hid (EnvF (w.alloc (.cells #[.int .i64 p, .slice A n c] 24)) [bF A n xs] [(w.heap.size, #[.int .i64 p, .slice A n c], 24)]) := Lib.hid (((EnvF.nil w).addB hA).boxg 24 #[.int .i64 p, .slice A n c] (w.heap.size) (by simp))
  have B0 : Hid (Below w.heap.size w (w.alloc (.cells #[.int .i64 p, .slice A n c] 24))) := Lib.hid ((Below.refl _ w).alloc (by first | exact Nat.le_refl _ | (simp only [World.size_alloc]; omega)) (.cells #[.int .i64 p, .slice A n c] 24))
  clear hA
  go_enter Try.func5, Try.ntmps5
  go_wp2_with (first
    | go_skip
    | (refine at_load 3 (.tmp 5) (by rfl) ?_; refine wpList_get (by rfl) 3 (.tmp 5) (by rfl) (w.heap.size) 0 (by rfl) 24 #[.int .i64 p, .slice A n c] (.int .i64 p) _ (K0.out.row 0 rfl) (by rfl) Try.underlying3 (by rfl) ?_)
    | (refine at_load 3 (.tmp 9) (by rfl) ?_; refine wpListG_get (by kernel_rfl) 3 (.tmp 9) (by rfl) (w.heap.size) 0 (by rfl) 24 #[.int .i64 p, .slice A n c] (.int .i64 p) _ (K0.out.row 0 rfl) (by rfl) Try.underlying3 (by rfl) ?_)
    | (refine at_load 3 (.tmp 14) (by rfl) ?_; refine wpListG_get (by kernel_rfl) 3 (.tmp 14) (by rfl) (w.heap.size) 0 (by rfl) 24 #[.int .i64 p, .slice A n c] (.int .i64 p) _ (K0.out.row 0 rfl) (by rfl) Try.underlying3 (by rfl) ?_)
    | (refine at_load 22 (.tmp 18) (by rfl) ?_; refine wpListG_get (by kernel_rfl) 22 (.tmp 18) (by rfl) (w.heap.size) 1 (by rfl) 24 #[.int .i64 p, .slice A n c] (.slice A n c) _ (K0.out.row 0 rfl) (by rfl) Try.underlying22 (by rfl) ?_)
    | (refine at_load 22 (.tmp 25) (by rfl) ?_; refine wpList_get (by rfl) 22 (.tmp 25) (by rfl) (w.heap.size) 1 (by rfl) 24 #[.int .i64 p, .slice A n c] (.slice A n c) _ (K0.out.row 0 rfl) (by rfl) Try.underlying22 (by rfl) ?_))
  go_ret
  exact ⟨by first | rfl | (simp only [*]; done) | simp [*], B0.out⟩
set_option maxRecDepth 100000 in
set_option maxHeartbeats 4000000 in
theorem d_right_lessN (p : Int) (A : Option Addr) (n c : Nat) (xs : List UInt8) (w : World) (hA : Bs w w.heap.size A n xs) (hp0 : 0 ≤ p) (hp : p < 24) (h0 : n = 0) :
    Calls Try.prog 5 #[.agg #[.int .i64 p, .slice A n c]] w fun e w' => e = .returned (.bool true) ∧ Below w.heap.size w w' := by
  have d0 : decide (p < 0) = false := decide_eq_false (by omega)
  have d1 : decide (24 < p) = false := decide_eq_false (by omega)
  have d2 : decide (p < 24) = true := decide_eq_true hp
  have d3 : decide ((0 : Int) < (n : Int)) = false := decide_eq_false (by omega)
  have h9 : n < 9 := by omega
  have hz : ¬ 0 < n := by omega
  clear h0
  have K0 : Hid (EnvF (w.alloc (.cells #[.int .i64 p, .slice A n c] 24)) [bF A n xs] [(w.heap.size, #[.int .i64 p, .slice A n c], 24)]) := Lib.hid (((EnvF.nil w).addB hA).boxg 24 #[.int .i64 p, .slice A n c] (w.heap.size) (by simp))
  have B0 : Hid (Below w.heap.size w (w.alloc (.cells #[.int .i64 p, .slice A n c] 24))) := Lib.hid ((Below.refl _ w).alloc (by first | exact Nat.le_refl _ | (simp only [World.size_alloc]; omega)) (.cells #[.int .i64 p, .slice A n c] 24))
  clear hA
  go_enter Try.func5, Try.ntmps5
  go_wp2_with (first
    | go_skip
    | (refine at_load 3 (.tmp 5) (by rfl) ?_; refine wpList_get (by rfl) 3 (.tmp 5) (by rfl) (w.heap.size) 0 (by rfl) 24 #[.int .i64 p, .slice A n c] (.int .i64 p) _ (K0.out.row 0 rfl) (by rfl) Try.underlying3 (by rfl) ?_)
    | (refine at_load 3 (.tmp 9) (by rfl) ?_; refine wpListG_get (by kernel_rfl) 3 (.tmp 9) (by rfl) (w.heap.size) 0 (by rfl) 24 #[.int .i64 p, .slice A n c] (.int .i64 p) _ (K0.out.row 0 rfl) (by rfl) Try.underlying3 (by rfl) ?_)
    | (refine at_load 3 (.tmp 14) (by rfl) ?_; refine wpListG_get (by kernel_rfl) 3 (.tmp 14) (by rfl) (w.heap.size) 0 (by rfl) 24 #[.int .i64 p, .slice A n c] (.int .i64 p) _ (K0.out.row 0 rfl) (by rfl) Try.underlying3 (by rfl) ?_)
    | (refine at_load 22 (.tmp 18) (by rfl) ?_; refine wpListG_get (by kernel_rfl) 22 (.tmp 18) (by rfl) (w.heap.size) 1 (by rfl) 24 #[.int .i64 p, .slice A n c] (.slice A n c) _ (K0.out.row 0 rfl) (by rfl) Try.underlying22 (by rfl) ?_)
    | (refine at_load 22 (.tmp 25) (by rfl) ?_; refine wpList_get (by rfl) 22 (.tmp 25) (by rfl) (w.heap.size) 1 (by rfl) 24 #[.int .i64 p, .slice A n c] (.slice A n c) _ (K0.out.row 0 rfl) (by rfl) Try.underlying22 (by rfl) ?_)
    | (go_at_call 11; (have hc := (d_head_no A n c (w.alloc (.cells #[.int .i64 p, .slice A n c] 24)) h9); (with_reducible refine hc.mono ?_); clear hc); rintro e w1 ⟨rfl, hb⟩; have K1 : Hid (EnvF w1 [bF A n xs] [(w.heap.size, #[.int .i64 p, .slice A n c], 24)]) := Lib.hid (K0.out.on hb); have B1 : Hid (Below w.heap.size w w1) := Lib.hid (below_step B0.out hb); clear hb K0 B0; have leh : w.heap.size ≤ w1.heap.size := (by have := B1.out.size; (try simp only [World.size_alloc] at this); omega); have K2 : Hid (EnvF (w1.alloc (.cells #[.int .i64 0, .int .u8 0, .int .u8 0, .int .i64 0] 38)) [bF A n xs] [(w1.heap.size, #[.int .i64 0, .int .u8 0, .int .u8 0, .int .i64 0], 38), (w.heap.size, #[.int .i64 p, .slice A n c], 24)]) := Lib.hid (K1.out.boxg 38 #[.int .i64 0, .int .u8 0, .int .u8 0, .int .i64 0] (w1.heap.size) (by simp)); have B2 : Hid (Below w.heap.size w (w1.alloc (.cells #[.int .i64 0, .int .u8 0, .int .u8 0, .int .i64 0] 38))) := Lib.hid (B1.out.alloc B1.out.size (.cells #[.int .i64 0, .int .u8 0, .int .u8 0, .int .i64 0] 38)); clear K1 B1)
    | (refine at_store 38 (.tmp 3) (.tmp 28) (by rfl) ?_; refine wpList_put (by rfl) 38 (.tmp 3) (.tmp 28) (by rfl) (w1.heap.size) 0 (.agg #[.int .i64 0, .int .u8 0, .int .u8 0, .int .i64 0]) (by rfl) (by rfl) 38 #[.int .i64 0, .int .u8 0, .int .u8 0, .int .i64 0] #[.int .i64 0, .int .u8 0, .int .u8 0, .int .i64 0] (K2.out.row 0 rfl) (by simp [Value.cells]) (by kernel_rfl) infoc_H (by kernel_rfl) ?_; intro w3 hrow hoth hz hbl; have K3 : Hid (EnvF w3 [bF A n xs] [(w1.heap.size, #[.int .i64 0, .int .u8 0, .int .u8 0, .int .i64 0], 38), (w.heap.size, #[.int .i64 p, .slice A n c], 24)]) := Lib.hid (K2.out.turn 0 rfl hrow hoth hz); have B3 : Hid (Below w.heap.size w w3) := Lib.hid (hbl _ _ leh B2.out); clear hrow hoth hz hbl K2 B2))
  go_ret
  exact ⟨by first | rfl | (simp only [*]; done) | simp [*], B3.out⟩
set_option maxRecDepth 100000 in
set_option maxHeartbeats 4000000 in
theorem d_right_few (A : Option Addr) (n c : Nat) (xs : List UInt8) (w : World) (hA : Bs w w.heap.size A n xs) (h9 : n < 9) :
    Calls Try.prog 5 #[.agg #[.int .i64 24, .slice A n c]] w fun e w' => e = .returned (.bool true) ∧ Below w.heap.size w w' := by
  have K0 : Hid (EnvF (w.alloc (.cells #[.int .i64 24, .slice A n c] 24)) [bF A n xs] [(w.heap.size, #[.int .i64 24, .slice A n c], 24)]) := Lib.hid (((EnvF.nil w).addB hA).boxg 24 #[.int .i64 24, .slice A n c] (w.heap.size) (by simp))
  have B0 : Hid (Below w.heap.size w (w.alloc (.cells #[.int .i64 24, .slice A n c] 24))) := Lib.hid ((Below.refl _ w).alloc (by first | exact Nat.le_refl _ | (simp only [World.size_alloc]; omega)) (.cells #[.int .i64 24, .slice A n c] 24))
  clear hA
  go_enter Try.func5, Try.ntmps5
  go_wp2_with (first
    | go_skip
    | (refine at_load 3 (.tmp 5) (by rfl) ?_; refine wpList_get (by rfl) 3 (.tmp 5) (by rfl) (w.heap.size) 0 (by rfl) 24 #[.int .i64 24, .slice A n c] (.int .i64 24) _ (K0.out.row 0 rfl) (by rfl) Try.underlying3 (by rfl) ?_)
    | (refine at_load 3 (.tmp 9) (by rfl) ?_; refine wpListG_get (by kernel_rfl) 3 (.tmp 9) (by rfl) (w.heap.size) 0 (by rfl) 24 #[.int .i64 24, .slice A n c] (.int .i64 24) _ (K0.out.row 0 rfl) (by rfl) Try.underlying3 (by rfl) ?_)
    | (refine at_load 3 (.tmp 14) (by rfl) ?_; refine wpListG_get (by kernel_rfl) 3 (.tmp 14) (by rfl) (w.heap.size) 0 (by rfl) 24 #[.int .i64 24, .slice A n c] (.int .i64 24) _ (K0.out.row 0 rfl) (by rfl) Try.underlying3 (by rfl) ?_)
    | (refine at_load 22 (.tmp 18) (by rfl) ?_; refine wpListG_get (by kernel_rfl) 22 (.tmp 18) (by rfl) (w.heap.size) 1 (by rfl) 24 #[.int .i64 24, .slice A n c] (.slice A n c) _ (K0.out.row 0 rfl) (by rfl) Try.underlying22 (by rfl) ?_)
    | (refine at_load 22 (.tmp 25) (by rfl) ?_; refine wpList_get (by rfl) 22 (.tmp 25) (by rfl) (w.heap.size) 1 (by rfl) 24 #[.int .i64 24, .slice A n c] (.slice A n c) _ (K0.out.row 0 rfl) (by rfl) Try.underlying22 (by rfl) ?_)
    | (go_at_call 11; (have hc := (d_head_no A n c (w.alloc (.cells #[.int .i64 24, .slice A n c] 24)) h9); (with_reducible refine hc.mono ?_); clear hc); rintro e w1 ⟨rfl, hb⟩; have K1 : Hid (EnvF w1 [bF A n xs] [(w.heap.size, #[.int .i64 24, .slice A n c], 24)]) := Lib.hid (K0.out.on hb); have B1 : Hid (Below w.heap.size w w1) := Lib.hid (below_step B0.out hb); clear hb K0 B0; have leh : w.heap.size ≤ w1.heap.size := (by have := B1.out.size; (try simp only [World.size_alloc] at this); omega); have K2 : Hid (EnvF (w1.alloc (.cells #[.int .i64 0, .int .u8 0, .int .u8 0, .int .i64 0] 38)) [bF A n xs] [(w1.heap.size, #[.int .i64 0, .int .u8 0, .int .u8 0, .int .i64 0], 38), (w.heap.size, #[.int .i64 24, .slice A n c], 24)]) := Lib.hid (K1.out.boxg 38 #[.int .i64 0, .int .u8 0, .int .u8 0, .int .i64 0] (w1.heap.size) (by simp)); have B2 : Hid (Below w.heap.size w (w1.alloc (.cells #[.int .i64 0, .int .u8 0, .int .u8 0, .int .i64 0] 38))) := Lib.hid (B1.out.alloc B1.out.size (.cells #[.int .i64 0, .int .u8 0, .int .u8 0, .int .i64 0] 38)); clear K1 B1)
    | (refine at_store 38 (.tmp 3) (.tmp 28) (by rfl) ?_; refine wpList_put (by rfl) 38 (.tmp 3) (.tmp 28) (by rfl) (w1.heap.size) 0 (.agg #[.int .i64 0, .int .u8 0, .int .u8 0, .int .i64 0]) (by rfl) (by rfl) 38 #[.int .i64 0, .int .u8 0, .int .u8 0, .int .i64 0] #[.int .i64 0, .int .u8 0, .int .u8 0, .int .i64 0] (K2.out.row 0 rfl) (by simp [Value.cells]) (by kernel_rfl) infoc_H (by kernel_rfl) ?_; intro w3 hrow hoth hz hbl; have K3 : Hid (EnvF w3 [bF A n xs] [(w1.heap.size, #[.int .i64 0, .int .u8 0, .int .u8 0, .int .i64 0], 38), (w.heap.size, #[.int .i64 24, .slice A n c], 24)]) := Lib.hid (K2.out.turn 0 rfl hrow hoth hz); have B3 : Hid (Below w.heap.size w w3) := Lib.hid (hbl _ _ leh B2.out); clear hrow hoth hz hbl K2 B2))
  go_ret
  exact ⟨by first | rfl | (simp only [*]; done) | simp [*], B3.out⟩
set_option maxRecDepth 100000 in
set_option maxHeartbeats 4000000 in
theorem d_right_long (A : Option Addr) (n c : Nat) (xs : List UInt8) (w : World) (hA : Bs w w.heap.size A n xs) (h9 : 9 ≤ n) (hnc : n ≤ c) (hn : n ≤ 1000000) (h : 16384 < hL xs) :
    Calls Try.prog 5 #[.agg #[.int .i64 24, .slice A n c]] w fun e w' => e = .returned (.bool false) ∧ Below w.heap.size w w' := by
  have s1 : IntKind.i64.wrap (9 + (hL xs : Int)) = 9 + (hL xs : Int) := IntWalk.i64_in _ (by have := hL_lt xs; omega)
  have hb1 : decide ((hL xs : Int) ≤ 16384) = false := decide_eq_false (by omega)
  have K0 : Hid (EnvF (w.alloc (.cells #[.int .i64 24, .slice A n c] 24)) [bF A n xs] [(w.heap.size, #[.int .i64 24, .slice A n c], 24)]) := Lib.hid (((EnvF.nil w).addB hA).boxg 24 #[.int .i64 24, .slice A n c] (w.heap.size) (by simp))
  have B0 : Hid (Below w.heap.size w (w.alloc (.cells #[.int .i64 24, .slice A n c] 24))) := Lib.hid ((Below.refl _ w).alloc (by first | exact Nat.le_refl _ | (simp only [World.size_alloc]; omega)) (.cells #[.int .i64 24, .slice A n c] 24))
  clear hA
  go_enter Try.func5, Try.ntmps5
  go_wp2_with (first
    | go_skip
    | (refine at_load 3 (.tmp 5) (by rfl) ?_; refine wpList_get (by rfl) 3 (.tmp 5) (by rfl) (w.heap.size) 0 (by rfl) 24 #[.int .i64 24, .slice A n c] (.int .i64 24) _ (K0.out.row 0 rfl) (by rfl) Try.underlying3 (by rfl) ?_)
    | (refine at_load 3 (.tmp 9) (by rfl) ?_; refine wpListG_get (by kernel_rfl) 3 (.tmp 9) (by rfl) (w.heap.size) 0 (by rfl) 24 #[.int .i64 24, .slice A n c] (.int .i64 24) _ (K0.out.row 0 rfl) (by rfl) Try.underlying3 (by rfl) ?_)
    | (refine at_load 3 (.tmp 14) (by rfl) ?_; refine wpListG_get (by kernel_rfl) 3 (.tmp 14) (by rfl) (w.heap.size) 0 (by rfl) 24 #[.int .i64 24, .slice A n c] (.int .i64 24) _ (K0.out.row 0 rfl) (by rfl) Try.underlying3 (by rfl) ?_)
    | (refine at_load 22 (.tmp 18) (by rfl) ?_; refine wpListG_get (by kernel_rfl) 22 (.tmp 18) (by rfl) (w.heap.size) 1 (by rfl) 24 #[.int .i64 24, .slice A n c] (.slice A n c) _ (K0.out.row 0 rfl) (by rfl) Try.underlying22 (by rfl) ?_)
    | (refine at_load 22 (.tmp 25) (by rfl) ?_; refine wpList_get (by rfl) 22 (.tmp 25) (by rfl) (w.heap.size) 1 (by rfl) 24 #[.int .i64 24, .slice A n c] (.slice A n c) _ (K0.out.row 0 rfl) (by rfl) Try.underlying22 (by rfl) ?_)
    | (go_at_call 11; (have hc := (d_head_yes A n c xs _ (K0.out.bs (A := A) (n := n) (xs := xs) (by simp)) h9 hn hnc); (with_reducible refine hc.mono ?_); clear hc); rintro e w1 ⟨rfl, hb⟩; have K1 : Hid (EnvF w1 [bF A n xs] [(w.heap.size, #[.int .i64 24, .slice A n c], 24)]) := Lib.hid (K0.out.on hb); have B1 : Hid (Below w.heap.size w w1) := Lib.hid (below_step B0.out hb); clear hb K0 B0; have leh : w.heap.size ≤ w1.heap.size := (by have := B1.out.size; (try simp only [World.size_alloc] at this); omega); have K2 : Hid (EnvF (w1.alloc (.cells #[.int .i64 0, .int .u8 0, .int .u8 0, .int .i64 0] 38)) [bF A n xs] [(w1.heap.size, #[.int .i64 0, .int .u8 0, .int .u8 0, .int .i64 0], 38), (w.heap.size, #[.int .i64 24, .slice A n c], 24)]) := Lib.hid (K1.out.boxg 38 #[.int .i64 0, .int .u8 0, .int .u8 0, .int .i64 0] (w1.heap.size) (by simp)); have B2 : Hid (Below w.heap.size w (w1.alloc (.cells #[.int .i64 0, .int .u8 0, .int .u8 0, .int .i64 0] 38))) := Lib.hid (B1.out.alloc B1.out.size (.cells #[.int .i64 0, .int .u8 0, .int .u8 0, .int .i64 0] 38)); clear K1 B1)
    | (refine at_store 38 (.tmp 3) (.tmp 28) (by rfl) ?_; refine wpList_put (by rfl) 38 (.tmp 3) (.tmp 28) (by rfl) (w1.heap.size) 0 (.agg #[.int .i64 (hL xs), .int .u8 (hK xs), .int .u8 (hF xs), .int .i64 (hS xs)]) (by rfl) (by rfl) 38 #[.int .i64 0, .int .u8 0, .int .u8 0, .int .i64 0] #[.int .i64 (hL xs), .int .u8 (hK xs), .int .u8 (hF xs), .int .i64 (hS xs)] (K2.out.row 0 rfl) (by simp [Value.cells]) (by kernel_rfl) infoc_H (by kernel_rfl) ?_; intro w3 hrow hoth hz hbl; have K3 : Hid (EnvF w3 [bF A n xs] [(w1.heap.size, #[.int .i64 (hL xs), .int .u8 (hK xs), .int .u8 (hF xs), .int .i64 (hS xs)], 38), (w.heap.size, #[.int .i64 24, .slice A n c], 24)]) := Lib.hid (K2.out.turn 0 rfl hrow hoth hz); have B3 : Hid (Below w.heap.size w w3) := Lib.hid (hbl _ _ leh B2.out); clear hrow hoth hz hbl K2 B2)
    | (refine at_load 3 (.tmp 33) (by rfl) ?_; refine wpListG_get (by kernel_rfl) 3 (.tmp 33) (by rfl) (w1.heap.size) 0 (by rfl) 38 #[.int .i64 (hL xs), .int .u8 (hK xs), .int .u8 (hF xs), .int .i64 (hS xs)] (.int .i64 (hL xs)) _ (K3.out.row 0 rfl) (by rfl) Try.underlying3 (by rfl) ?_))
  go_ret
  exact ⟨by first | rfl | (simp only [*]; done) | simp [*], B3.out⟩
set_option maxRecDepth 100000 in
set_option maxHeartbeats 4000000 in
theorem d_right_fits (A : Option Addr) (n c : Nat) (xs : List UInt8) (w : World) (hA : Bs w w.heap.size A n xs) (h9 : 9 ≤ n) (hnc : n ≤ c) (hn : n ≤ 1000000) (h : hL xs ≤ 16384) (h2 : 9 + hL xs ≤ n) :
    Calls Try.prog 5 #[.agg #[.int .i64 24, .slice A n c]] w fun e w' => e = .returned (.bool false) ∧ Below w.heap.size w w' := by
  have s1 : IntKind.i64.wrap (9 + (hL xs : Int)) = 9 + (hL xs : Int) := IntWalk.i64_in _ (by have := hL_lt xs; omega)
  have hb1 : decide ((hL xs : Int) ≤ 16384) = true := decide_eq_true (by omega)
  have hb2 : decide ((n : Int) < 9 + (hL xs : Int)) = false := decide_eq_false (by omega)
  have K0 : Hid (EnvF (w.alloc (.cells #[.int .i64 24, .slice A n c] 24)) [bF A n xs] [(w.heap.size, #[.int .i64 24, .slice A n c], 24)]) := Lib.hid (((EnvF.nil w).addB hA).boxg 24 #[.int .i64 24, .slice A n c] (w.heap.size) (by simp))
  have B0 : Hid (Below w.heap.size w (w.alloc (.cells #[.int .i64 24, .slice A n c] 24))) := Lib.hid ((Below.refl _ w).alloc (by first | exact Nat.le_refl _ | (simp only [World.size_alloc]; omega)) (.cells #[.int .i64 24, .slice A n c] 24))
  clear hA
  go_enter Try.func5, Try.ntmps5
  go_wp2_with (first
    | go_skip
    | (refine at_load 3 (.tmp 5) (by rfl) ?_; refine wpList_get (by rfl) 3 (.tmp 5) (by rfl) (w.heap.size) 0 (by rfl) 24 #[.int .i64 24, .slice A n c] (.int .i64 24) _ (K0.out.row 0 rfl) (by rfl) Try.underlying3 (by rfl) ?_)
    | (refine at_load 3 (.tmp 9) (by rfl) ?_; refine wpListG_get (by kernel_rfl) 3 (.tmp 9) (by rfl) (w.heap.size) 0 (by rfl) 24 #[.int .i64 24, .slice A n c] (.int .i64 24) _ (K0.out.row 0 rfl) (by rfl) Try.underlying3 (by rfl) ?_)
    | (refine at_load 3 (.tmp 14) (by rfl) ?_; refine wpListG_get (by kernel_rfl) 3 (.tmp 14) (by rfl) (w.heap.size) 0 (by rfl) 24 #[.int .i64 24, .slice A n c] (.int .i64 24) _ (K0.out.row 0 rfl) (by rfl) Try.underlying3 (by rfl) ?_)
    | (refine at_load 22 (.tmp 18) (by rfl) ?_; refine wpListG_get (by kernel_rfl) 22 (.tmp 18) (by rfl) (w.heap.size) 1 (by rfl) 24 #[.int .i64 24, .slice A n c] (.slice A n c) _ (K0.out.row 0 rfl) (by rfl) Try.underlying22 (by rfl) ?_)
    | (refine at_load 22 (.tmp 25) (by rfl) ?_; refine wpList_get (by rfl) 22 (.tmp 25) (by rfl) (w.heap.size) 1 (by rfl) 24 #[.int .i64 24, .slice A n c] (.slice A n c) _ (K0.out.row 0 rfl) (by rfl) Try.underlying22 (by rfl) ?_)
    | (go_at_call 11; (have hc := (d_head_yes A n c xs _ (K0.out.bs (A := A) (n := n) (xs := xs) (by simp)) h9 hn hnc); (with_reducible refine hc.mono ?_); clear hc); rintro e w1 ⟨rfl, hb⟩; have K1 : Hid (EnvF w1 [bF A n xs] [(w.heap.size, #[.int .i64 24, .slice A n c], 24)]) := Lib.hid (K0.out.on hb); have B1 : Hid (Below w.heap.size w w1) := Lib.hid (below_step B0.out hb); clear hb K0 B0; have leh : w.heap.size ≤ w1.heap.size := (by have := B1.out.size; (try simp only [World.size_alloc] at this); omega); have K2 : Hid (EnvF (w1.alloc (.cells #[.int .i64 0, .int .u8 0, .int .u8 0, .int .i64 0] 38)) [bF A n xs] [(w1.heap.size, #[.int .i64 0, .int .u8 0, .int .u8 0, .int .i64 0], 38), (w.heap.size, #[.int .i64 24, .slice A n c], 24)]) := Lib.hid (K1.out.boxg 38 #[.int .i64 0, .int .u8 0, .int .u8 0, .int .i64 0] (w1.heap.size) (by simp)); have B2 : Hid (Below w.heap.size w (w1.alloc (.cells #[.int .i64 0, .int .u8 0, .int .u8 0, .int .i64 0] 38))) := Lib.hid (B1.out.alloc B1.out.size (.cells #[.int .i64 0, .int .u8 0, .int .u8 0, .int .i64 0] 38)); clear K1 B1)
    | (refine at_store 38 (.tmp 3) (.tmp 28) (by rfl) ?_; refine wpList_put (by rfl) 38 (.tmp 3) (.tmp 28) (by rfl) (w1.heap.size) 0 (.agg #[.int .i64 (hL xs), .int .u8 (hK xs), .int .u8 (hF xs), .int .i64 (hS xs)]) (by rfl) (by rfl) 38 #[.int .i64 0, .int .u8 0, .int .u8 0, .int .i64 0] #[.int .i64 (hL xs), .int .u8 (hK xs), .int .u8 (hF xs), .int .i64 (hS xs)] (K2.out.row 0 rfl) (by simp [Value.cells]) (by kernel_rfl) infoc_H (by kernel_rfl) ?_; intro w3 hrow hoth hz hbl; have K3 : Hid (EnvF w3 [bF A n xs] [(w1.heap.size, #[.int .i64 (hL xs), .int .u8 (hK xs), .int .u8 (hF xs), .int .i64 (hS xs)], 38), (w.heap.size, #[.int .i64 24, .slice A n c], 24)]) := Lib.hid (K2.out.turn 0 rfl hrow hoth hz); have B3 : Hid (Below w.heap.size w w3) := Lib.hid (hbl _ _ leh B2.out); clear hrow hoth hz hbl K2 B2)
    | (refine at_load 3 (.tmp 33) (by rfl) ?_; refine wpListG_get (by kernel_rfl) 3 (.tmp 33) (by rfl) (w1.heap.size) 0 (by rfl) 38 #[.int .i64 (hL xs), .int .u8 (hK xs), .int .u8 (hF xs), .int .i64 (hS xs)] (.int .i64 (hL xs)) _ (K3.out.row 0 rfl) (by rfl) Try.underlying3 (by rfl) ?_)
    | (refine at_load 22 (.tmp 37) (by rfl) ?_; refine wpListG_get (by kernel_rfl) 22 (.tmp 37) (by rfl) (w.heap.size) 1 (by rfl) 24 #[.int .i64 24, .slice A n c] (.slice A n c) _ (K3.out.row 1 rfl) (by rfl) Try.underlying22 (by rfl) ?_)
    | (refine at_load 3 (.tmp 40) (by rfl) ?_; refine wpListG_get (by kernel_rfl) 3 (.tmp 40) (by rfl) (w1.heap.size) 0 (by rfl) 38 #[.int .i64 (hL xs), .int .u8 (hK xs), .int .u8 (hF xs), .int .i64 (hS xs)] (.int .i64 (hL xs)) _ (K3.out.row 0 rfl) (by rfl) Try.underlying3 (by rfl) ?_))
  go_ret
  exact ⟨by first | rfl | (simp only [*]; done) | simp [*], B3.out⟩
set_option maxRecDepth 100000 in
set_option maxHeartbeats 4000000 in
theorem d_right_not (A : Option Addr) (n c : Nat) (xs : List UInt8) (w : World) (hA : Bs w w.heap.size A n xs) (h9 : 9 ≤ n) (hnc : n ≤ c) (hn : n ≤ 1000000) (h : hL xs ≤ 16384) (h2 : n < 9 + hL xs) :
    Calls Try.prog 5 #[.agg #[.int .i64 24, .slice A n c]] w fun e w' => e = .returned (.bool true) ∧ Below w.heap.size w w' := by
  have s1 : IntKind.i64.wrap (9 + (hL xs : Int)) = 9 + (hL xs : Int) := IntWalk.i64_in _ (by have := hL_lt xs; omega)
  have hb1 : decide ((hL xs : Int) ≤ 16384) = true := decide_eq_true (by omega)
  have hb2 : decide ((n : Int) < 9 + (hL xs : Int)) = true := decide_eq_true (by omega)
  have K0 : Hid (EnvF (w.alloc (.cells #[.int .i64 24, .slice A n c] 24)) [bF A n xs] [(w.heap.size, #[.int .i64 24, .slice A n c], 24)]) := Lib.hid (((EnvF.nil w).addB hA).boxg 24 #[.int .i64 24, .slice A n c] (w.heap.size) (by simp))
  have B0 : Hid (Below w.heap.size w (w.alloc (.cells #[.int .i64 24, .slice A n c] 24))) := Lib.hid ((Below.refl _ w).alloc (by first | exact Nat.le_refl _ | (simp only [World.size_alloc]; omega)) (.cells #[.int .i64 24, .slice A n c] 24))
  clear hA
  go_enter Try.func5, Try.ntmps5
  go_wp2_with (first
    | go_skip
    | (refine at_load 3 (.tmp 5) (by rfl) ?_; refine wpList_get (by rfl) 3 (.tmp 5) (by rfl) (w.heap.size) 0 (by rfl) 24 #[.int .i64 24, .slice A n c] (.int .i64 24) _ (K0.out.row 0 rfl) (by rfl) Try.underlying3 (by rfl) ?_)
    | (refine at_load 3 (.tmp 9) (by rfl) ?_; refine wpListG_get (by kernel_rfl) 3 (.tmp 9) (by rfl) (w.heap.size) 0 (by rfl) 24 #[.int .i64 24, .slice A n c] (.int .i64 24) _ (K0.out.row 0 rfl) (by rfl) Try.underlying3 (by rfl) ?_)
    | (refine at_load 3 (.tmp 14) (by rfl) ?_; refine wpListG_get (by kernel_rfl) 3 (.tmp 14) (by rfl) (w.heap.size) 0 (by rfl) 24 #[.int .i64 24, .slice A n c] (.int .i64 24) _ (K0.out.row 0 rfl) (by rfl) Try.underlying3 (by rfl) ?_)
    | (refine at_load 22 (.tmp 18) (by rfl) ?_; refine wpListG_get (by kernel_rfl) 22 (.tmp 18) (by rfl) (w.heap.size) 1 (by rfl) 24 #[.int .i64 24, .slice A n c] (.slice A n c) _ (K0.out.row 0 rfl) (by rfl) Try.underlying22 (by rfl) ?_)
    | (refine at_load 22 (.tmp 25) (by rfl) ?_; refine wpList_get (by rfl) 22 (.tmp 25) (by rfl) (w.heap.size) 1 (by rfl) 24 #[.int .i64 24, .slice A n c] (.slice A n c) _ (K0.out.row 0 rfl) (by rfl) Try.underlying22 (by rfl) ?_)
    | (go_at_call 11; (have hc := (d_head_yes A n c xs _ (K0.out.bs (A := A) (n := n) (xs := xs) (by simp)) h9 hn hnc); (with_reducible refine hc.mono ?_); clear hc); rintro e w1 ⟨rfl, hb⟩; have K1 : Hid (EnvF w1 [bF A n xs] [(w.heap.size, #[.int .i64 24, .slice A n c], 24)]) := Lib.hid (K0.out.on hb); have B1 : Hid (Below w.heap.size w w1) := Lib.hid (below_step B0.out hb); clear hb K0 B0; have leh : w.heap.size ≤ w1.heap.size := (by have := B1.out.size; (try simp only [World.size_alloc] at this); omega); have K2 : Hid (EnvF (w1.alloc (.cells #[.int .i64 0, .int .u8 0, .int .u8 0, .int .i64 0] 38)) [bF A n xs] [(w1.heap.size, #[.int .i64 0, .int .u8 0, .int .u8 0, .int .i64 0], 38), (w.heap.size, #[.int .i64 24, .slice A n c], 24)]) := Lib.hid (K1.out.boxg 38 #[.int .i64 0, .int .u8 0, .int .u8 0, .int .i64 0] (w1.heap.size) (by simp)); have B2 : Hid (Below w.heap.size w (w1.alloc (.cells #[.int .i64 0, .int .u8 0, .int .u8 0, .int .i64 0] 38))) := Lib.hid (B1.out.alloc B1.out.size (.cells #[.int .i64 0, .int .u8 0, .int .u8 0, .int .i64 0] 38)); clear K1 B1)
    | (refine at_store 38 (.tmp 3) (.tmp 28) (by rfl) ?_; refine wpList_put (by rfl) 38 (.tmp 3) (.tmp 28) (by rfl) (w1.heap.size) 0 (.agg #[.int .i64 (hL xs), .int .u8 (hK xs), .int .u8 (hF xs), .int .i64 (hS xs)]) (by rfl) (by rfl) 38 #[.int .i64 0, .int .u8 0, .int .u8 0, .int .i64 0] #[.int .i64 (hL xs), .int .u8 (hK xs), .int .u8 (hF xs), .int .i64 (hS xs)] (K2.out.row 0 rfl) (by simp [Value.cells]) (by kernel_rfl) infoc_H (by kernel_rfl) ?_; intro w3 hrow hoth hz hbl; have K3 : Hid (EnvF w3 [bF A n xs] [(w1.heap.size, #[.int .i64 (hL xs), .int .u8 (hK xs), .int .u8 (hF xs), .int .i64 (hS xs)], 38), (w.heap.size, #[.int .i64 24, .slice A n c], 24)]) := Lib.hid (K2.out.turn 0 rfl hrow hoth hz); have B3 : Hid (Below w.heap.size w w3) := Lib.hid (hbl _ _ leh B2.out); clear hrow hoth hz hbl K2 B2)
    | (refine at_load 3 (.tmp 33) (by rfl) ?_; refine wpListG_get (by kernel_rfl) 3 (.tmp 33) (by rfl) (w1.heap.size) 0 (by rfl) 38 #[.int .i64 (hL xs), .int .u8 (hK xs), .int .u8 (hF xs), .int .i64 (hS xs)] (.int .i64 (hL xs)) _ (K3.out.row 0 rfl) (by rfl) Try.underlying3 (by rfl) ?_)
    | (refine at_load 22 (.tmp 37) (by rfl) ?_; refine wpListG_get (by kernel_rfl) 22 (.tmp 37) (by rfl) (w.heap.size) 1 (by rfl) 24 #[.int .i64 24, .slice A n c] (.slice A n c) _ (K3.out.row 1 rfl) (by rfl) Try.underlying22 (by rfl) ?_)
    | (refine at_load 3 (.tmp 40) (by rfl) ?_; refine wpListG_get (by kernel_rfl) 3 (.tmp 40) (by rfl) (w1.heap.size) 0 (by rfl) 38 #[.int .i64 (hL xs), .int .u8 (hK xs), .int .u8 (hF xs), .int .i64 (hS xs)] (.int .i64 (hL xs)) _ (K3.out.row 0 rfl) (by rfl) Try.underlying3 (by rfl) ?_))
  go_ret
  exact ⟨by first | rfl | (simp only [*]; done) | simp [*], B3.out⟩
theorem d_right (p : Int) (A : Option Addr) (n c : Nat) (xs : List UInt8) (w : World) (hA : Bs w w.heap.size A n xs) (hnc : n ≤ c) (hn : n ≤ 1000000) :
    Calls Try.prog 5 #[.agg #[.int .i64 p, .slice A n c]] w fun e w' => e = .returned (.bool (decide (RightR p xs))) ∧ Below w.heap.size w w' := by
  have hl := hA.1
  by_cases h0 : p < 0
  · rw [decide_eq_false (fun h => by unfold RightR at h; omega)]
    exact d_right_low p A n c xs w hA h0
  · by_cases h2 : p < 24
    ·
      by_cases h0 : n = 0
      · rw [decide_eq_true ((rightR_lt (by omega) h2).2 (by omega))]; exact d_right_lessN p A n c xs w hA (by omega) h2 h0
      · rw [decide_eq_false (fun h => h0 (by have := (rightR_lt (by omega) h2).1 h; omega))]; exact d_right_lessY p A n c xs w hA (by omega) h2 (by omega)
    · by_cases h3 : 24 < p
      · rw [decide_eq_false (fun h => by unfold RightR at h; omega)]
        exact d_right_high p A n c xs w hA h3
      · obtain rfl : p = 24 := by omega
        by_cases h9 : 9 ≤ n
        · by_cases hL1 : hL xs ≤ 16384
          · by_cases h4 : 9 + hL xs ≤ n
            · rw [decide_eq_false (fun h => by have := (rightR_24 xs).1 h (by omega); omega)]
              exact d_right_fits A n c xs w hA h9 hnc hn hL1 h4
            · rw [decide_eq_true ((rightR_24 xs).2 (fun _ => by omega))]
              exact d_right_not A n c xs w hA h9 hnc hn hL1 (by omega)
          · rw [decide_eq_false (fun h => by have := (rightR_24 xs).1 h (by omega); omega)]
            exact d_right_long A n c xs w hA h9 hnc hn (by omega)
        · rw [decide_eq_true ((rightR_24 xs).2 (fun h => by omega))]
          exact d_right_few A n c xs w hA (by omega)
end Go.Proofs.Ytjoopekgbfplpaa
