/- CutWhole: the ways out. -/
import Derived.Test.YtjoopekgbfplpaaCuPc
namespace Go.Proofs.Ytjoopekgbfplpaa
open Go.RowKit Oct Cu Go.Shelf
set_option linter.unusedVariables false
set_option linter.unusedSimpArgs false
set_option maxRecDepth 100000 in
set_option maxHeartbeats 4000000 in
theorem whole_g1 (p : Int) (A : Option Addr) (n c : Nat) (r : List UInt8) (A2 : Option Addr) (n2 c2 : Nat) (cs : List UInt8) (w : World) (hA : Bs w w.heap.size A n r) (hN : A = none → c = 0) (hnc : n ≤ c) (hA2 : Bs w w.heap.size A2 n2 cs) (hN2 : A2 = none → c2 = 0) (hnc2 : n2 ≤ c2) (hb1 : decide ((600 : Int) < (n : Int)) = true) :
    Calls Try.prog 3 #[.agg #[.int .i64 p, .slice A n c], .slice A2 n2 c2] w fun e w' => e = .returned (.bool true) ∧ Below w.heap.size w w' := by
  have K0 : Hid (EnvF (w.alloc (.cells #[.int .i64 p, .slice A n c] 24)) [bF A2 n2 cs, bF A n r] [(w.heap.size, #[.int .i64 p, .slice A n c], 24)]) := Lib.hid ((((EnvF.nil w).addB hA).addB hA2).boxg 24 #[.int .i64 p, .slice A n c] (w.heap.size) (by simp))
  have B0 : Hid (Below w.heap.size w (w.alloc (.cells #[.int .i64 p, .slice A n c] 24))) := Lib.hid ((Below.refl _ w).alloc (by first | exact Nat.le_refl _ | (simp only [World.size_alloc]; omega)) (.cells #[.int .i64 p, .slice A n c] 24))
  obtain ⟨r_0, r_1⟩ := cells2_row (K0.out.row 0 rfl)
  go_enter Try.func3, Try.ntmps3
  go_wp2_with (first
    | go_skip
    | (go_at_call 4; (have hc := (c_great' A n c _ hb1 (w.alloc (.cells #[.int .i64 p, .slice A n c] 24))); (with_reducible refine hc.mono ?_); clear hc); rintro e w1 ⟨rfl, hb⟩; have K1 : Hid (EnvF w1 [bF A2 n2 cs, bF A n r] [(w.heap.size, #[.int .i64 p, .slice A n c], 24)]) := Lib.hid (K0.out.on hb); have B1 : Hid (Below w.heap.size w w1) := Lib.hid (below_step B0.out hb); clear hb K0 B0)
    | (go_at_call 6; (have hc := (wakes5 w1); (with_reducible refine hc.mono ?_); clear hc); rintro e w2 ⟨rfl, hb⟩; have K2 : Hid (EnvF w2 [bF A2 n2 cs, bF A n r] [(w.heap.size, #[.int .i64 p, .slice A n c], 24)]) := Lib.hid (K1.out.on hb); have B2 : Hid (Below w.heap.size w w2) := Lib.hid (below_step B1.out hb); clear hb K1 B1))
  all_goals
    go_ret
    exact ⟨by first | rfl | simp, B2.out⟩
set_option maxRecDepth 100000 in
set_option maxHeartbeats 4000000 in
theorem whole_g2 (p : Int) (A : Option Addr) (n c : Nat) (r : List UInt8) (A2 : Option Addr) (n2 c2 : Nat) (cs : List UInt8) (w : World) (hA : Bs w w.heap.size A n r) (hN : A = none → c = 0) (hnc : n ≤ c) (hA2 : Bs w w.heap.size A2 n2 cs) (hN2 : A2 = none → c2 = 0) (hnc2 : n2 ≤ c2) (hb1 : decide ((600 : Int) < (n : Int)) = false) (hb2 : decide ((600 : Int) < (n2 : Int)) = true) :
    Calls Try.prog 3 #[.agg #[.int .i64 p, .slice A n c], .slice A2 n2 c2] w fun e w' => e = .returned (.bool true) ∧ Below w.heap.size w w' := by
  have K0 : Hid (EnvF (w.alloc (.cells #[.int .i64 p, .slice A n c] 24)) [bF A2 n2 cs, bF A n r] [(w.heap.size, #[.int .i64 p, .slice A n c], 24)]) := Lib.hid ((((EnvF.nil w).addB hA).addB hA2).boxg 24 #[.int .i64 p, .slice A n c] (w.heap.size) (by simp))
  have B0 : Hid (Below w.heap.size w (w.alloc (.cells #[.int .i64 p, .slice A n c] 24))) := Lib.hid ((Below.refl _ w).alloc (by first | exact Nat.le_refl _ | (simp only [World.size_alloc]; omega)) (.cells #[.int .i64 p, .slice A n c] 24))
  obtain ⟨r_0, r_1⟩ := cells2_row (K0.out.row 0 rfl)
  go_enter Try.func3, Try.ntmps3
  go_wp2_with (first
    | go_skip
    | (go_at_call 4; (have hc := (c_great' A n c _ hb1 (w.alloc (.cells #[.int .i64 p, .slice A n c] 24))); (with_reducible refine hc.mono ?_); clear hc); rintro e w1 ⟨rfl, hb⟩; have K1 : Hid (EnvF w1 [bF A2 n2 cs, bF A n r] [(w.heap.size, #[.int .i64 p, .slice A n c], 24)]) := Lib.hid (K0.out.on hb); have B1 : Hid (Below w.heap.size w w1) := Lib.hid (below_step B0.out hb); clear hb K0 B0)
    | (go_at_call 4; (have hc := (c_great' A2 n2 c2 _ hb2 w1); (with_reducible refine hc.mono ?_); clear hc); rintro e w2 ⟨rfl, hb⟩; have K2 : Hid (EnvF w2 [bF A2 n2 cs, bF A n r] [(w.heap.size, #[.int .i64 p, .slice A n c], 24)]) := Lib.hid (K1.out.on hb); have B2 : Hid (Below w.heap.size w w2) := Lib.hid (below_step B1.out hb); clear hb K1 B1)
    | (go_at_call 6; (have hc := (wakes5 w2); (with_reducible refine hc.mono ?_); clear hc); rintro e w3 ⟨rfl, hb⟩; have K3 : Hid (EnvF w3 [bF A2 n2 cs, bF A n r] [(w.heap.size, #[.int .i64 p, .slice A n c], 24)]) := Lib.hid (K2.out.on hb); have B3 : Hid (Below w.heap.size w w3) := Lib.hid (below_step B2.out hb); clear hb K2 B2))
  all_goals
    go_ret
    exact ⟨by first | rfl | simp, B3.out⟩
set_option maxRecDepth 100000 in
set_option maxHeartbeats 4000000 in
theorem whole_no (p : Int) (A : Option Addr) (n c : Nat) (r : List UInt8) (A2 : Option Addr) (n2 c2 : Nat) (cs : List UInt8) (w : World) (hA : Bs w w.heap.size A n r) (hN : A = none → c = 0) (hnc : n ≤ c) (hA2 : Bs w w.heap.size A2 n2 cs) (hN2 : A2 = none → c2 = 0) (hnc2 : n2 ≤ c2) (hb1 : decide ((600 : Int) < (n : Int)) = false) (hb2 : decide ((600 : Int) < (n2 : Int)) = false) (hR : ¬ RightR p r) (hn : n ≤ 600) :
    Calls Try.prog 3 #[.agg #[.int .i64 p, .slice A n c], .slice A2 n2 c2] w fun e w' => e = .returned (.bool true) ∧ Below w.heap.size w w' := by
  have eR := decide_eq_false hR
  have K0 : Hid (EnvF (w.alloc (.cells #[.int .i64 p, .slice A n c] 24)) [bF A2 n2 cs, bF A n r] [(w.heap.size, #[.int .i64 p, .slice A n c], 24)]) := Lib.hid ((((EnvF.nil w).addB hA).addB hA2).boxg 24 #[.int .i64 p, .slice A n c] (w.heap.size) (by simp))
  have B0 : Hid (Below w.heap.size w (w.alloc (.cells #[.int .i64 p, .slice A n c] 24))) := Lib.hid ((Below.refl _ w).alloc (by first | exact Nat.le_refl _ | (simp only [World.size_alloc]; omega)) (.cells #[.int .i64 p, .slice A n c] 24))
  obtain ⟨r_0, r_1⟩ := cells2_row (K0.out.row 0 rfl)
  go_enter Try.func3, Try.ntmps3
  go_wp2_with (first
    | go_skip
    | (go_at_call 4; (have hc := (c_great' A n c _ hb1 (w.alloc (.cells #[.int .i64 p, .slice A n c] 24))); (with_reducible refine hc.mono ?_); clear hc); rintro e w1 ⟨rfl, hb⟩; have K1 : Hid (EnvF w1 [bF A2 n2 cs, bF A n r] [(w.heap.size, #[.int .i64 p, .slice A n c], 24)]) := Lib.hid (K0.out.on hb); have B1 : Hid (Below w.heap.size w w1) := Lib.hid (below_step B0.out hb); clear hb K0 B0)
    | (go_at_call 4; (have hc := (c_great' A2 n2 c2 _ hb2 w1); (with_reducible refine hc.mono ?_); clear hc); rintro e w2 ⟨rfl, hb⟩; have K2 : Hid (EnvF w2 [bF A2 n2 cs, bF A n r] [(w.heap.size, #[.int .i64 p, .slice A n c], 24)]) := Lib.hid (K1.out.on hb); have B2 : Hid (Below w.heap.size w w2) := Lib.hid (below_step B1.out hb); clear hb K1 B1)
    | (refine at_load 24 (.tmp 2) (by rfl) ?_; refine wpListG_row (by kernel_rfl) 24 (.tmp 2) (by rfl) (w.heap.size) (by rfl) 24 #[.int .i64 p, .slice A n c] _ (K2.out.row 0 rfl) Try.underlying24 (by rfl) infoc_R ?_)
    | (go_at_call 5; (have hc := ((eR ▸ d_right p A n c r _ (K2.out.bs (A := A) (n := n) (xs := r) (by simp)) hnc (by omega))); (with_reducible refine hc.mono ?_); clear hc); rintro e w3 ⟨rfl, hb⟩; have K3 : Hid (EnvF w3 [bF A2 n2 cs, bF A n r] [(w.heap.size, #[.int .i64 p, .slice A n c], 24)]) := Lib.hid (K2.out.on hb); have B3 : Hid (Below w.heap.size w w3) := Lib.hid (below_step B2.out hb); clear hb K2 B2)
    | (go_at_call 6; (have hc := (wakes5 w3); (with_reducible refine hc.mono ?_); clear hc); rintro e w4 ⟨rfl, hb⟩; have K4 : Hid (EnvF w4 [bF A2 n2 cs, bF A n r] [(w.heap.size, #[.int .i64 p, .slice A n c], 24)]) := Lib.hid (K3.out.on hb); have B4 : Hid (Below w.heap.size w w4) := Lib.hid (below_step B3.out hb); clear hb K3 B3))
  all_goals
    go_ret
    exact ⟨by first | rfl | simp, B4.out⟩
set_option maxRecDepth 100000 in
set_option maxHeartbeats 4000000 in
theorem whole_pre (p : Int) (A : Option Addr) (n c : Nat) (r : List UInt8) (A2 : Option Addr) (n2 c2 : Nat) (cs : List UInt8) (w : World) (hA : Bs w w.heap.size A n r) (hN : A = none → c = 0) (hnc : n ≤ c) (hA2 : Bs w w.heap.size A2 n2 cs) (hN2 : A2 = none → c2 = 0) (hnc2 : n2 ≤ c2) (hb1 : decide ((600 : Int) < (n : Int)) = false) (hb2 : decide ((600 : Int) < (n2 : Int)) = false) (hR : RightR p r) (hn : n ≤ 600) (hp : (p != 24) = true) :
    Calls Try.prog 3 #[.agg #[.int .i64 p, .slice A n c], .slice A2 n2 c2] w fun e w' => e = .returned (.bool true) ∧ Below w.heap.size w w' := by
  have eR := decide_eq_true hR
  have K0 : Hid (EnvF (w.alloc (.cells #[.int .i64 p, .slice A n c] 24)) [bF A2 n2 cs, bF A n r] [(w.heap.size, #[.int .i64 p, .slice A n c], 24)]) := Lib.hid ((((EnvF.nil w).addB hA).addB hA2).boxg 24 #[.int .i64 p, .slice A n c] (w.heap.size) (by simp))
  have B0 : Hid (Below w.heap.size w (w.alloc (.cells #[.int .i64 p, .slice A n c] 24))) := Lib.hid ((Below.refl _ w).alloc (by first | exact Nat.le_refl _ | (simp only [World.size_alloc]; omega)) (.cells #[.int .i64 p, .slice A n c] 24))
  obtain ⟨r_0, r_1⟩ := cells2_row (K0.out.row 0 rfl)
  go_enter Try.func3, Try.ntmps3
  go_wp2_with (first
    | go_skip
    | (go_at_call 4; (have hc := (c_great' A n c _ hb1 (w.alloc (.cells #[.int .i64 p, .slice A n c] 24))); (with_reducible refine hc.mono ?_); clear hc); rintro e w1 ⟨rfl, hb⟩; have K1 : Hid (EnvF w1 [bF A2 n2 cs, bF A n r] [(w.heap.size, #[.int .i64 p, .slice A n c], 24)]) := Lib.hid (K0.out.on hb); have B1 : Hid (Below w.heap.size w w1) := Lib.hid (below_step B0.out hb); clear hb K0 B0)
    | (go_at_call 4; (have hc := (c_great' A2 n2 c2 _ hb2 w1); (with_reducible refine hc.mono ?_); clear hc); rintro e w2 ⟨rfl, hb⟩; have K2 : Hid (EnvF w2 [bF A2 n2 cs, bF A n r] [(w.heap.size, #[.int .i64 p, .slice A n c], 24)]) := Lib.hid (K1.out.on hb); have B2 : Hid (Below w.heap.size w w2) := Lib.hid (below_step B1.out hb); clear hb K1 B1)
    | (refine at_load 24 (.tmp 2) (by rfl) ?_; refine wpListG_row (by kernel_rfl) 24 (.tmp 2) (by rfl) (w.heap.size) (by rfl) 24 #[.int .i64 p, .slice A n c] _ (K2.out.row 0 rfl) Try.underlying24 (by rfl) infoc_R ?_)
    | (go_at_call 5; (have hc := ((eR ▸ d_right p A n c r _ (K2.out.bs (A := A) (n := n) (xs := r) (by simp)) hnc (by omega))); (with_reducible refine hc.mono ?_); clear hc); rintro e w3 ⟨rfl, hb⟩; have K3 : Hid (EnvF w3 [bF A2 n2 cs, bF A n r] [(w.heap.size, #[.int .i64 p, .slice A n c], 24)]) := Lib.hid (K2.out.on hb); have B3 : Hid (Below w.heap.size w w3) := Lib.hid (below_step B2.out hb); clear hb K2 B2)
    | (refine at_load 3 (.tmp 32) (by rfl) ?_; refine wpListG_get (by kernel_rfl) 3 (.tmp 32) (by rfl) (w.heap.size) 0 (by rfl) 24 #[.int .i64 p, .slice A n c] (.int .i64 p) _ (K3.out.row 0 rfl) (by rfl) Try.underlying3 (by rfl) ?_)
    | (go_at_call 6; (have hc := (wakes5 w3); (with_reducible refine hc.mono ?_); clear hc); rintro e w4 ⟨rfl, hb⟩; have K4 : Hid (EnvF w4 [bF A2 n2 cs, bF A n r] [(w.heap.size, #[.int .i64 p, .slice A n c], 24)]) := Lib.hid (K3.out.on hb); have B4 : Hid (Below w.heap.size w w4) := Lib.hid (below_step B3.out hb); clear hb K3 B3))
  all_goals
    go_ret
    exact ⟨by first | rfl | simp, B4.out⟩
end Go.Proofs.Ytjoopekgbfplpaa
