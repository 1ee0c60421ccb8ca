/- UnpackSizes: the law. -/
import Derived.Test.YtfejohfplnbdkaaDoorUpLa
import Derived.Test.YtfejohfplnbdkaaDoorUpDs
namespace Go.Proofs.YtfejohfplnbdkaaDoor
open Go.RowKit Go.Shelf Px Tx Tb Up GD
set_option linter.unusedVariables false
set_option linter.unusedSimpArgs false
attribute [local go_sem] Oper.semAt_some
set_option maxRecDepth 100000 in
set_option maxHeartbeats 8000000 in
theorem us_g (M most one two : Int) (A : Option Addr) (n c : Nat) (xs : List Fd) (fa fb : List UInt8) (w : World) (hV : EnvF w [fF A n xs, stF, rwF, mvF] []) (HG : Hid (∀ w0 : World, Fs w0 w0.heap.size A n xs → Calls Tryd.prog 6 #[.agg #[.int .i64 M, .slice A n c]] w0 fun e w' => e = .returned (.bool true) ∧ Below w0.heap.size w0 w')) :
    Calls Tryd.prog 5 #[.agg #[.int .i64 M, .slice A n c], .int .i64 most, .int .i64 one, .int .i64 two, .agg #[.string ⟨fa.toArray⟩, .string ⟨fb.toArray⟩]] w fun e w' => e = .returned (.bool true) ∧ Below w.heap.size w w' := by
  have K0 := Lib.hid (((hV).boxg 24 #[.int .i64 M, .slice A n c] w.heap.size (by simp)).boxg 38 #[.string ⟨fa.toArray⟩, .string ⟨fb.toArray⟩] (w.heap.size + 1) (by simp))
  have G0 := Lib.hid (((Below.refl w.heap.size w).alloc (by simp) (.cells #[.int .i64 M, .slice A n c] 24)).alloc (by simp) (.cells #[.string ⟨fa.toArray⟩, .string ⟨fb.toArray⟩] 38))
  clear hV
  go_enter Tryd.func5, Tryd.ntmps5
  go_wp2_with (first
    | go_skip
    | (refine at_load 24 (.tmp 5) (by rfl) ?_; refine wpListG_row (by rfl) 24 (.tmp 5) (by rfl) w.heap.size (by rfl) 24 #[.int .i64 M, .slice A n c] _ (K0.out.row 1 rfl) Tryd.underlying24 (by rfl) infoc_T ?_)
    | (go_at_call 6; (with_reducible refine (HG.out _ (K0.out.fs (A := A) (n := n) (xs := xs) (by simp))).mono ?_); rintro e w1 ⟨rfl, hb⟩; have K1 := Lib.hid (K0.out.on hb); have G1 : Hid (Below w.heap.size w w1) := Lib.hid (below_step G0.out hb); clear hb K0 G0)
    | (go_at_call 8; (with_reducible refine (l_wakes _ K1.out (by simp) (by simp) (by simp)).mono ?_); rintro e w2 ⟨rfl, hb⟩; have K2 := Lib.hid (K1.out.on hb); have G2 : Hid (Below w.heap.size w w2) := Lib.hid (below_step G1.out hb); clear hb K1 G1))
  go_ret
  exact ⟨rfl, G2.out⟩
set_option maxRecDepth 100000 in
set_option maxHeartbeats 8000000 in
theorem us_r (M most one two : Int) (A : Option Addr) (n c : Nat) (xs : List Fd) (fa fb : List UInt8) (w : World) (hV : EnvF w [fF A n xs, stF, rwF, mvF] []) (HG : Hid (∀ w0 : World, Fs w0 w0.heap.size A n xs → Calls Tryd.prog 6 #[.agg #[.int .i64 M, .slice A n c]] w0 fun e w' => e = .returned (.bool false) ∧ Below w0.heap.size w0 w')) (HRT : Hid (∀ w0 : World, Fs w0 w0.heap.size A n xs → Calls Tryd.prog 7 #[.agg #[.int .i64 M, .slice A n c]] w0 fun e w' => e = .returned (.bool false) ∧ Below w0.heap.size w0 w')) :
    Calls Tryd.prog 5 #[.agg #[.int .i64 M, .slice A n c], .int .i64 most, .int .i64 one, .int .i64 two, .agg #[.string ⟨fa.toArray⟩, .string ⟨fb.toArray⟩]] w fun e w' => e = .returned (.bool true) ∧ Below w.heap.size w w' := by
  have K0 := Lib.hid (((hV).boxg 24 #[.int .i64 M, .slice A n c] w.heap.size (by simp)).boxg 38 #[.string ⟨fa.toArray⟩, .string ⟨fb.toArray⟩] (w.heap.size + 1) (by simp))
  have G0 := Lib.hid (((Below.refl w.heap.size w).alloc (by simp) (.cells #[.int .i64 M, .slice A n c] 24)).alloc (by simp) (.cells #[.string ⟨fa.toArray⟩, .string ⟨fb.toArray⟩] 38))
  clear hV
  go_enter Tryd.func5, Tryd.ntmps5
  go_wp2_with (first
    | go_skip
    | (refine at_load 24 (.tmp 5) (by rfl) ?_; refine wpListG_row (by rfl) 24 (.tmp 5) (by rfl) w.heap.size (by rfl) 24 #[.int .i64 M, .slice A n c] _ (K0.out.row 1 rfl) Tryd.underlying24 (by rfl) infoc_T ?_)
    | (go_at_call 6; (with_reducible refine (HG.out _ (K0.out.fs (A := A) (n := n) (xs := xs) (by simp))).mono ?_); rintro e w1 ⟨rfl, hb⟩; have K1 := Lib.hid (K0.out.on hb); have G1 : Hid (Below w.heap.size w w1) := Lib.hid (below_step G0.out hb); clear hb K0 G0)
    | (refine at_load 24 (.tmp 5) (by rfl) ?_; refine wpListG_row (by rfl) 24 (.tmp 5) (by rfl) w.heap.size (by rfl) 24 #[.int .i64 M, .slice A n c] _ (K1.out.row 1 rfl) Tryd.underlying24 (by rfl) infoc_T ?_)
    | (go_at_call 7; (with_reducible refine (HRT.out _ (K1.out.fs (A := A) (n := n) (xs := xs) (by simp))).mono ?_); rintro e w2 ⟨rfl, hb⟩; have K2 := Lib.hid (K1.out.on hb); have G2 : Hid (Below w.heap.size w w2) := Lib.hid (below_step G1.out hb); clear hb K1 G1)
    | (go_at_call 8; (with_reducible refine (l_wakes _ K2.out (by simp) (by simp) (by simp)).mono ?_); rintro e w3 ⟨rfl, hb⟩; have K3 := Lib.hid (K2.out.on hb); have G3 : Hid (Below w.heap.size w w3) := Lib.hid (below_step G2.out hb); clear hb K2 G2))
  go_ret
  exact ⟨rfl, G3.out⟩
set_option maxRecDepth 100000 in
set_option maxHeartbeats 8000000 in
theorem us_m0 (M most one two : Int) (A : Option Addr) (n c : Nat) (xs : List Fd) (fa fb : List UInt8) (w : World) (hV : EnvF w [fF A n xs, stF, rwF, mvF] []) (HG : Hid (∀ w0 : World, Fs w0 w0.heap.size A n xs → Calls Tryd.prog 6 #[.agg #[.int .i64 M, .slice A n c]] w0 fun e w' => e = .returned (.bool false) ∧ Below w0.heap.size w0 w')) (HRT : Hid (∀ w0 : World, Fs w0 w0.heap.size A n xs → Calls Tryd.prog 7 #[.agg #[.int .i64 M, .slice A n c]] w0 fun e w' => e = .returned (.bool true) ∧ Below w0.heap.size w0 w')) (h : most < 0) :
    Calls Tryd.prog 5 #[.agg #[.int .i64 M, .slice A n c], .int .i64 most, .int .i64 one, .int .i64 two, .agg #[.string ⟨fa.toArray⟩, .string ⟨fb.toArray⟩]] w fun e w' => e = .returned (.bool true) ∧ Below w.heap.size w w' := by
  have K0 := Lib.hid (((hV).boxg 24 #[.int .i64 M, .slice A n c] w.heap.size (by simp)).boxg 38 #[.string ⟨fa.toArray⟩, .string ⟨fb.toArray⟩] (w.heap.size + 1) (by simp))
  have G0 := Lib.hid (((Below.refl w.heap.size w).alloc (by simp) (.cells #[.int .i64 M, .slice A n c] 24)).alloc (by simp) (.cells #[.string ⟨fa.toArray⟩, .string ⟨fb.toArray⟩] 38))
  clear hV
  go_enter Tryd.func5, Tryd.ntmps5
  go_wp2_with (first
    | go_skip
    | (refine at_load 24 (.tmp 5) (by rfl) ?_; refine wpListG_row (by rfl) 24 (.tmp 5) (by rfl) w.heap.size (by rfl) 24 #[.int .i64 M, .slice A n c] _ (K0.out.row 1 rfl) Tryd.underlying24 (by rfl) infoc_T ?_)
    | (go_at_call 6; (with_reducible refine (HG.out _ (K0.out.fs (A := A) (n := n) (xs := xs) (by simp))).mono ?_); rintro e w1 ⟨rfl, hb⟩; have K1 := Lib.hid (K0.out.on hb); have G1 : Hid (Below w.heap.size w w1) := Lib.hid (below_step G0.out hb); clear hb K0 G0)
    | (refine at_load 24 (.tmp 5) (by rfl) ?_; refine wpListG_row (by rfl) 24 (.tmp 5) (by rfl) w.heap.size (by rfl) 24 #[.int .i64 M, .slice A n c] _ (K1.out.row 1 rfl) Tryd.underlying24 (by rfl) infoc_T ?_)
    | (go_at_call 7; (with_reducible refine (HRT.out _ (K1.out.fs (A := A) (n := n) (xs := xs) (by simp))).mono ?_); rintro e w2 ⟨rfl, hb⟩; have K2 := Lib.hid (K1.out.on hb); have G2 : Hid (Below w.heap.size w w2) := Lib.hid (below_step G1.out hb); clear hb K1 G1)
    | (go_at_call 8; (with_reducible refine (l_wakes _ K2.out (by simp) (by simp) (by simp)).mono ?_); rintro e w3 ⟨rfl, hb⟩; have K3 := Lib.hid (K2.out.on hb); have G3 : Hid (Below w.heap.size w w3) := Lib.hid (below_step G2.out hb); clear hb K2 G2))
  go_ret
  exact ⟨rfl, G3.out⟩
set_option maxRecDepth 100000 in
set_option maxHeartbeats 8000000 in
theorem us_m1 (M most one two : Int) (A : Option Addr) (n c : Nat) (xs : List Fd) (fa fb : List UInt8) (w : World) (hV : EnvF w [fF A n xs, stF, rwF, mvF] []) (HG : Hid (∀ w0 : World, Fs w0 w0.heap.size A n xs → Calls Tryd.prog 6 #[.agg #[.int .i64 M, .slice A n c]] w0 fun e w' => e = .returned (.bool false) ∧ Below w0.heap.size w0 w')) (HRT : Hid (∀ w0 : World, Fs w0 w0.heap.size A n xs → Calls Tryd.prog 7 #[.agg #[.int .i64 M, .slice A n c]] w0 fun e w' => e = .returned (.bool true) ∧ Below w0.heap.size w0 w')) (h0 : 0 ≤ most) (h : 4096 < most) :
    Calls Tryd.prog 5 #[.agg #[.int .i64 M, .slice A n c], .int .i64 most, .int .i64 one, .int .i64 two, .agg #[.string ⟨fa.toArray⟩, .string ⟨fb.toArray⟩]] w fun e w' => e = .returned (.bool true) ∧ Below w.heap.size w w' := by
  have K0 := Lib.hid (((hV).boxg 24 #[.int .i64 M, .slice A n c] w.heap.size (by simp)).boxg 38 #[.string ⟨fa.toArray⟩, .string ⟨fb.toArray⟩] (w.heap.size + 1) (by simp))
  have G0 := Lib.hid (((Below.refl w.heap.size w).alloc (by simp) (.cells #[.int .i64 M, .slice A n c] 24)).alloc (by simp) (.cells #[.string ⟨fa.toArray⟩, .string ⟨fb.toArray⟩] 38))
  clear hV
  go_enter Tryd.func5, Tryd.ntmps5
  go_wp2_with (first
    | go_skip
    | (refine at_load 24 (.tmp 5) (by rfl) ?_; refine wpListG_row (by rfl) 24 (.tmp 5) (by rfl) w.heap.size (by rfl) 24 #[.int .i64 M, .slice A n c] _ (K0.out.row 1 rfl) Tryd.underlying24 (by rfl) infoc_T ?_)
    | (go_at_call 6; (with_reducible refine (HG.out _ (K0.out.fs (A := A) (n := n) (xs := xs) (by simp))).mono ?_); rintro e w1 ⟨rfl, hb⟩; have K1 := Lib.hid (K0.out.on hb); have G1 : Hid (Below w.heap.size w w1) := Lib.hid (below_step G0.out hb); clear hb K0 G0)
    | (refine at_load 24 (.tmp 5) (by rfl) ?_; refine wpListG_row (by rfl) 24 (.tmp 5) (by rfl) w.heap.size (by rfl) 24 #[.int .i64 M, .slice A n c] _ (K1.out.row 1 rfl) Tryd.underlying24 (by rfl) infoc_T ?_)
    | (go_at_call 7; (with_reducible refine (HRT.out _ (K1.out.fs (A := A) (n := n) (xs := xs) (by simp))).mono ?_); rintro e w2 ⟨rfl, hb⟩; have K2 := Lib.hid (K1.out.on hb); have G2 : Hid (Below w.heap.size w w2) := Lib.hid (below_step G1.out hb); clear hb K1 G1)
    | (go_at_call 8; (with_reducible refine (l_wakes _ K2.out (by simp) (by simp) (by simp)).mono ?_); rintro e w3 ⟨rfl, hb⟩; have K3 := Lib.hid (K2.out.on hb); have G3 : Hid (Below w.heap.size w w3) := Lib.hid (below_step G2.out hb); clear hb K2 G2))
  go_ret
  exact ⟨rfl, G3.out⟩
set_option maxRecDepth 100000 in
set_option maxHeartbeats 8000000 in
theorem us_len (M most one two : Int) (A : Option Addr) (n c : Nat) (xs : List Fd) (fa fb : List UInt8) (w : World) (hV : EnvF w [fF A n xs, stF, rwF, mvF] []) (HG : Hid (∀ w0 : World, Fs w0 w0.heap.size A n xs → Calls Tryd.prog 6 #[.agg #[.int .i64 M, .slice A n c]] w0 fun e w' => e = .returned (.bool false) ∧ Below w0.heap.size w0 w')) (HRT : Hid (∀ w0 : World, Fs w0 w0.heap.size A n xs → Calls Tryd.prog 7 #[.agg #[.int .i64 M, .slice A n c]] w0 fun e w' => e = .returned (.bool true) ∧ Below w0.heap.size w0 w')) (h0 : 0 ≤ most) (h1 : most ≤ 4096) (hfa : fa.length ≤ 140737488355328) (hfb : fb.length ≤ 140737488355328) (h : 900 < fa.length + fb.length) :
    Calls Tryd.prog 5 #[.agg #[.int .i64 M, .slice A n c], .int .i64 most, .int .i64 one, .int .i64 two, .agg #[.string ⟨fa.toArray⟩, .string ⟨fb.toArray⟩]] w fun e w' => e = .returned (.bool true) ∧ Below w.heap.size w w' := by
  have K0 := Lib.hid (((hV).boxg 24 #[.int .i64 M, .slice A n c] w.heap.size (by simp)).boxg 38 #[.string ⟨fa.toArray⟩, .string ⟨fb.toArray⟩] (w.heap.size + 1) (by simp))
  have G0 := Lib.hid (((Below.refl w.heap.size w).alloc (by simp) (.cells #[.int .i64 M, .slice A n c] 24)).alloc (by simp) (.cells #[.string ⟨fa.toArray⟩, .string ⟨fb.toArray⟩] 38))
  have dd0 : decide (most < 0) = false := decide_eq_false (by omega)
  have dd1 : decide (4096 < most) = false := decide_eq_false (by omega)
  clear hV
  go_enter Tryd.func5, Tryd.ntmps5
  go_wp2_with (first
    | go_skip
    | (refine at_load 24 (.tmp 5) (by rfl) ?_; refine wpListG_row (by rfl) 24 (.tmp 5) (by rfl) w.heap.size (by rfl) 24 #[.int .i64 M, .slice A n c] _ (K0.out.row 1 rfl) Tryd.underlying24 (by rfl) infoc_T ?_)
    | (go_at_call 6; (with_reducible refine (HG.out _ (K0.out.fs (A := A) (n := n) (xs := xs) (by simp))).mono ?_); rintro e w1 ⟨rfl, hb⟩; have K1 := Lib.hid (K0.out.on hb); have G1 : Hid (Below w.heap.size w w1) := Lib.hid (below_step G0.out hb); clear hb K0 G0)
    | (refine at_load 24 (.tmp 5) (by rfl) ?_; refine wpListG_row (by rfl) 24 (.tmp 5) (by rfl) w.heap.size (by rfl) 24 #[.int .i64 M, .slice A n c] _ (K1.out.row 1 rfl) Tryd.underlying24 (by rfl) infoc_T ?_)
    | (go_at_call 7; (with_reducible refine (HRT.out _ (K1.out.fs (A := A) (n := n) (xs := xs) (by simp))).mono ?_); rintro e w2 ⟨rfl, hb⟩; have K2 := Lib.hid (K1.out.on hb); have G2 : Hid (Below w.heap.size w w2) := Lib.hid (below_step G1.out hb); clear hb K1 G1)
    | (refine at_load 9 (.tmp 40) (by rfl) ?_; refine wpListG_get (by rfl) 9 (.tmp 40) (by rfl) (w.heap.size + 1) 0 (by rfl) 38 #[.string ⟨fa.toArray⟩, .string ⟨fb.toArray⟩] (.string ⟨fa.toArray⟩) _ (K2.out.row 0 rfl) (by rfl) Tryd.underlying9 (by rfl) ?_)
    | (refine at_load 9 (.tmp 43) (by rfl) ?_; refine wpListG_get (by rfl) 9 (.tmp 43) (by rfl) (w.heap.size + 1) 1 (by rfl) 38 #[.string ⟨fa.toArray⟩, .string ⟨fb.toArray⟩] (.string ⟨fb.toArray⟩) _ (K2.out.row 0 rfl) (by rfl) Tryd.underlying9 (by rfl) ?_)
    | (go_at_call 8; (with_reducible refine (l_wakes _ K2.out (by simp) (by simp) (by simp)).mono ?_); rintro e w3 ⟨rfl, hb⟩; have K3 := Lib.hid (K2.out.on hb); have G3 : Hid (Below w.heap.size w w3) := Lib.hid (below_step G2.out hb); clear hb K2 G2))
  go_ret
  exact ⟨rfl, G3.out⟩
set_option maxRecDepth 100000 in
set_option maxHeartbeats 8000000 in
theorem us_n1 (M most one two : Int) (A : Option Addr) (n c : Nat) (xs : List Fd) (fa fb : List UInt8) (w : World) (hV : EnvF w [fF A n xs, stF, rwF, mvF] []) {L1 L2 : List UInt8} {E2 : Int} (HG : Hid (∀ w0 : World, Fs w0 w0.heap.size A n xs → Calls Tryd.prog 6 #[.agg #[.int .i64 M, .slice A n c]] w0 fun e w' => e = .returned (.bool false) ∧ Below w0.heap.size w0 w')) (HRT : Hid (∀ w0 : World, Fs w0 w0.heap.size A n xs → Calls Tryd.prog 7 #[.agg #[.int .i64 M, .slice A n c]] w0 fun e w' => e = .returned (.bool true) ∧ Below w0.heap.size w0 w')) (h0 : 0 ≤ most) (h1 : most ≤ 4096) (hl : fa.length + fb.length ≤ 900) (g : one < 0) (hL1 : Hid (putL one (5 : Nat) 32 = L1)) (hE1 : Hid (putE one (5 : Nat) = 2)) (hL2 : Hid (putL two (5 : Nat) 32 = L2)) (hE2 : Hid (putE two (5 : Nat) = E2)) :
    Calls Tryd.prog 5 #[.agg #[.int .i64 M, .slice A n c], .int .i64 most, .int .i64 one, .int .i64 two, .agg #[.string ⟨fa.toArray⟩, .string ⟨fb.toArray⟩]] w fun e w' => e = .returned (.bool true) ∧ Below w.heap.size w w' := by
  have K0 := Lib.hid (((hV).boxg 24 #[.int .i64 M, .slice A n c] w.heap.size (by simp)).boxg 38 #[.string ⟨fa.toArray⟩, .string ⟨fb.toArray⟩] (w.heap.size + 1) (by simp))
  have G0 := Lib.hid (((Below.refl w.heap.size w).alloc (by simp) (.cells #[.int .i64 M, .slice A n c] 24)).alloc (by simp) (.cells #[.string ⟨fa.toArray⟩, .string ⟨fb.toArray⟩] 38))
  have dd0 : decide (most < 0) = false := decide_eq_false (by omega)
  have dd1 : decide (4096 < most) = false := decide_eq_false (by omega)
  have dd2 : decide (0 ≤ one) = false := decide_eq_false (by omega)
  clear hV
  go_enter Tryd.func5, Tryd.ntmps5
  go_wp2_with (first
    | go_skip
    | (refine at_load 24 (.tmp 5) (by rfl) ?_; refine wpListG_row (by rfl) 24 (.tmp 5) (by rfl) w.heap.size (by rfl) 24 #[.int .i64 M, .slice A n c] _ (K0.out.row 1 rfl) Tryd.underlying24 (by rfl) infoc_T ?_)
    | (go_at_call 6; (with_reducible refine (HG.out _ (K0.out.fs (A := A) (n := n) (xs := xs) (by simp))).mono ?_); rintro e w1 ⟨rfl, hb⟩; have K1 := Lib.hid (K0.out.on hb); have G1 : Hid (Below w.heap.size w w1) := Lib.hid (below_step G0.out hb); clear hb K0 G0)
    | (refine at_load 24 (.tmp 5) (by rfl) ?_; refine wpListG_row (by rfl) 24 (.tmp 5) (by rfl) w.heap.size (by rfl) 24 #[.int .i64 M, .slice A n c] _ (K1.out.row 1 rfl) Tryd.underlying24 (by rfl) infoc_T ?_)
    | (go_at_call 7; (with_reducible refine (HRT.out _ (K1.out.fs (A := A) (n := n) (xs := xs) (by simp))).mono ?_); rintro e w2 ⟨rfl, hb⟩; have K2 := Lib.hid (K1.out.on hb); have G2 : Hid (Below w.heap.size w w2) := Lib.hid (below_step G1.out hb); clear hb K1 G1)
    | (refine at_load 9 (.tmp 40) (by rfl) ?_; refine wpListG_get (by rfl) 9 (.tmp 40) (by rfl) (w.heap.size + 1) 0 (by rfl) 38 #[.string ⟨fa.toArray⟩, .string ⟨fb.toArray⟩] (.string ⟨fa.toArray⟩) _ (K2.out.row 0 rfl) (by rfl) Tryd.underlying9 (by rfl) ?_)
    | (refine at_load 9 (.tmp 43) (by rfl) ?_; refine wpListG_get (by rfl) 9 (.tmp 43) (by rfl) (w.heap.size + 1) 1 (by rfl) 38 #[.string ⟨fa.toArray⟩, .string ⟨fb.toArray⟩] (.string ⟨fb.toArray⟩) _ (K2.out.row 0 rfl) (by rfl) Tryd.underlying9 (by rfl) ?_)
    | (go_at_call 19; (with_reducible refine (l_put _ K2.out (u_Sized one _ (Up.EnvF.mks K2.out (by simp))) hL1.out hE1.out rfl).mono ?_); rintro e w3 ⟨A1, c1, rfl, hb, hE, HA10⟩; have K3 := Lib.hid hE; have HA1 := Lib.hid HA10; have G3 : Hid (Below w.heap.size w w3) := Lib.hid (below_step G2.out hb); clear hb hE HA10 K2 G2)
    | (go_at_call 19; (with_reducible refine (l_put _ K3.out (u_Sized two _ (Up.EnvF.mks K3.out (by simp))) hL2.out hE2.out rfl).mono ?_); rintro e w4 ⟨A2, c2, rfl, hb, hE, HA20⟩; have K4 := Lib.hid hE; have HA2 := Lib.hid HA20; have G4 : Hid (Below w.heap.size w w4) := Lib.hid (below_step G3.out hb); clear hb hE HA20 K3 G3)
    | (go_at_call 8; (with_reducible refine (l_wakes _ K4.out (by simp) (by simp) (by simp)).mono ?_); rintro e w5 ⟨rfl, hb⟩; have K5 := Lib.hid (K4.out.on hb); have G5 : Hid (Below w.heap.size w w5) := Lib.hid (below_step G4.out hb); clear hb K4 G4))
  go_ret
  exact ⟨rfl, G5.out⟩
set_option maxRecDepth 100000 in
set_option maxHeartbeats 8000000 in
theorem us_n2 (M most one two : Int) (A : Option Addr) (n c : Nat) (xs : List Fd) (fa fb : List UInt8) (w : World) (hV : EnvF w [fF A n xs, stF, rwF, mvF] []) {L1 L2 : List UInt8} {E2 : Int} (HG : Hid (∀ w0 : World, Fs w0 w0.heap.size A n xs → Calls Tryd.prog 6 #[.agg #[.int .i64 M, .slice A n c]] w0 fun e w' => e = .returned (.bool false) ∧ Below w0.heap.size w0 w')) (HRT : Hid (∀ w0 : World, Fs w0 w0.heap.size A n xs → Calls Tryd.prog 7 #[.agg #[.int .i64 M, .slice A n c]] w0 fun e w' => e = .returned (.bool true) ∧ Below w0.heap.size w0 w')) (h0 : 0 ≤ most) (h1 : most ≤ 4096) (hl : fa.length + fb.length ≤ 900) (g : 2147483647 < one) (hL1 : Hid (putL one (5 : Nat) 32 = L1)) (hE1 : Hid (putE one (5 : Nat) = 2)) (hL2 : Hid (putL two (5 : Nat) 32 = L2)) (hE2 : Hid (putE two (5 : Nat) = E2)) :
    Calls Tryd.prog 5 #[.agg #[.int .i64 M, .slice A n c], .int .i64 most, .int .i64 one, .int .i64 two, .agg #[.string ⟨fa.toArray⟩, .string ⟨fb.toArray⟩]] w fun e w' => e = .returned (.bool true) ∧ Below w.heap.size w w' := by
  have K0 := Lib.hid (((hV).boxg 24 #[.int .i64 M, .slice A n c] w.heap.size (by simp)).boxg 38 #[.string ⟨fa.toArray⟩, .string ⟨fb.toArray⟩] (w.heap.size + 1) (by simp))
  have G0 := Lib.hid (((Below.refl w.heap.size w).alloc (by simp) (.cells #[.int .i64 M, .slice A n c] 24)).alloc (by simp) (.cells #[.string ⟨fa.toArray⟩, .string ⟨fb.toArray⟩] 38))
  have dd0 : decide (most < 0) = false := decide_eq_false (by omega)
  have dd1 : decide (4096 < most) = false := decide_eq_false (by omega)
  have dd2 : decide (0 ≤ one) = true := decide_eq_true (by omega)
  have dd3 : decide (one ≤ 2147483647) = false := decide_eq_false (by omega)
  clear hV
  go_enter Tryd.func5, Tryd.ntmps5
  go_wp2_with (first
    | go_skip
    | (refine at_load 24 (.tmp 5) (by rfl) ?_; refine wpListG_row (by rfl) 24 (.tmp 5) (by rfl) w.heap.size (by rfl) 24 #[.int .i64 M, .slice A n c] _ (K0.out.row 1 rfl) Tryd.underlying24 (by rfl) infoc_T ?_)
    | (go_at_call 6; (with_reducible refine (HG.out _ (K0.out.fs (A := A) (n := n) (xs := xs) (by simp))).mono ?_); rintro e w1 ⟨rfl, hb⟩; have K1 := Lib.hid (K0.out.on hb); have G1 : Hid (Below w.heap.size w w1) := Lib.hid (below_step G0.out hb); clear hb K0 G0)
    | (refine at_load 24 (.tmp 5) (by rfl) ?_; refine wpListG_row (by rfl) 24 (.tmp 5) (by rfl) w.heap.size (by rfl) 24 #[.int .i64 M, .slice A n c] _ (K1.out.row 1 rfl) Tryd.underlying24 (by rfl) infoc_T ?_)
    | (go_at_call 7; (with_reducible refine (HRT.out _ (K1.out.fs (A := A) (n := n) (xs := xs) (by simp))).mono ?_); rintro e w2 ⟨rfl, hb⟩; have K2 := Lib.hid (K1.out.on hb); have G2 : Hid (Below w.heap.size w w2) := Lib.hid (below_step G1.out hb); clear hb K1 G1)
    | (refine at_load 9 (.tmp 40) (by rfl) ?_; refine wpListG_get (by rfl) 9 (.tmp 40) (by rfl) (w.heap.size + 1) 0 (by rfl) 38 #[.string ⟨fa.toArray⟩, .string ⟨fb.toArray⟩] (.string ⟨fa.toArray⟩) _ (K2.out.row 0 rfl) (by rfl) Tryd.underlying9 (by rfl) ?_)
    | (refine at_load 9 (.tmp 43) (by rfl) ?_; refine wpListG_get (by rfl) 9 (.tmp 43) (by rfl) (w.heap.size + 1) 1 (by rfl) 38 #[.string ⟨fa.toArray⟩, .string ⟨fb.toArray⟩] (.string ⟨fb.toArray⟩) _ (K2.out.row 0 rfl) (by rfl) Tryd.underlying9 (by rfl) ?_)
    | (go_at_call 19; (with_reducible refine (l_put _ K2.out (u_Sized one _ (Up.EnvF.mks K2.out (by simp))) hL1.out hE1.out rfl).mono ?_); rintro e w3 ⟨A1, c1, rfl, hb, hE, HA10⟩; have K3 := Lib.hid hE; have HA1 := Lib.hid HA10; have G3 : Hid (Below w.heap.size w w3) := Lib.hid (below_step G2.out hb); clear hb hE HA10 K2 G2)
    | (go_at_call 19; (with_reducible refine (l_put _ K3.out (u_Sized two _ (Up.EnvF.mks K3.out (by simp))) hL2.out hE2.out rfl).mono ?_); rintro e w4 ⟨A2, c2, rfl, hb, hE, HA20⟩; have K4 := Lib.hid hE; have HA2 := Lib.hid HA20; have G4 : Hid (Below w.heap.size w w4) := Lib.hid (below_step G3.out hb); clear hb hE HA20 K3 G3)
    | (go_at_call 8; (with_reducible refine (l_wakes _ K4.out (by simp) (by simp) (by simp)).mono ?_); rintro e w5 ⟨rfl, hb⟩; have K5 := Lib.hid (K4.out.on hb); have G5 : Hid (Below w.heap.size w w5) := Lib.hid (below_step G4.out hb); clear hb K4 G4))
  go_ret
  exact ⟨rfl, G5.out⟩
set_option maxRecDepth 100000 in
set_option maxHeartbeats 8000000 in
theorem us_n3 (M most one two : Int) (A : Option Addr) (n c : Nat) (xs : List Fd) (fa fb : List UInt8) (w : World) (hV : EnvF w [fF A n xs, stF, rwF, mvF] []) {L1 L2 : List UInt8} {E2 : Int} (HG : Hid (∀ w0 : World, Fs w0 w0.heap.size A n xs → Calls Tryd.prog 6 #[.agg #[.int .i64 M, .slice A n c]] w0 fun e w' => e = .returned (.bool false) ∧ Below w0.heap.size w0 w')) (HRT : Hid (∀ w0 : World, Fs w0 w0.heap.size A n xs → Calls Tryd.prog 7 #[.agg #[.int .i64 M, .slice A n c]] w0 fun e w' => e = .returned (.bool true) ∧ Below w0.heap.size w0 w')) (h0 : 0 ≤ most) (h1 : most ≤ 4096) (hl : fa.length + fb.length ≤ 900) (g0 : 0 ≤ one) (g1 : one ≤ 2147483647) (g : two < 0) (hL1 : Hid (putL one (5 : Nat) 32 = L1)) (hE1 : Hid (putE one (5 : Nat) = 0)) (hL2 : Hid (putL two (5 : Nat) 32 = L2)) (hE2 : Hid (putE two (5 : Nat) = 2)) :
    Calls Tryd.prog 5 #[.agg #[.int .i64 M, .slice A n c], .int .i64 most, .int .i64 one, .int .i64 two, .agg #[.string ⟨fa.toArray⟩, .string ⟨fb.toArray⟩]] w fun e w' => e = .returned (.bool true) ∧ Below w.heap.size w w' := by
  have K0 := Lib.hid (((hV).boxg 24 #[.int .i64 M, .slice A n c] w.heap.size (by simp)).boxg 38 #[.string ⟨fa.toArray⟩, .string ⟨fb.toArray⟩] (w.heap.size + 1) (by simp))
  have G0 := Lib.hid (((Below.refl w.heap.size w).alloc (by simp) (.cells #[.int .i64 M, .slice A n c] 24)).alloc (by simp) (.cells #[.string ⟨fa.toArray⟩, .string ⟨fb.toArray⟩] 38))
  have dd0 : decide (most < 0) = false := decide_eq_false (by omega)
  have dd1 : decide (4096 < most) = false := decide_eq_false (by omega)
  have dd2 : decide (0 ≤ one) = true := decide_eq_true (by omega)
  have dd3 : decide (one ≤ 2147483647) = true := decide_eq_true (by omega)
  have dd4 : decide (0 ≤ two) = false := decide_eq_false (by omega)
  clear hV
  go_enter Tryd.func5, Tryd.ntmps5
  go_wp2_with (first
    | go_skip
    | (refine at_load 24 (.tmp 5) (by rfl) ?_; refine wpListG_row (by rfl) 24 (.tmp 5) (by rfl) w.heap.size (by rfl) 24 #[.int .i64 M, .slice A n c] _ (K0.out.row 1 rfl) Tryd.underlying24 (by rfl) infoc_T ?_)
    | (go_at_call 6; (with_reducible refine (HG.out _ (K0.out.fs (A := A) (n := n) (xs := xs) (by simp))).mono ?_); rintro e w1 ⟨rfl, hb⟩; have K1 := Lib.hid (K0.out.on hb); have G1 : Hid (Below w.heap.size w w1) := Lib.hid (below_step G0.out hb); clear hb K0 G0)
    | (refine at_load 24 (.tmp 5) (by rfl) ?_; refine wpListG_row (by rfl) 24 (.tmp 5) (by rfl) w.heap.size (by rfl) 24 #[.int .i64 M, .slice A n c] _ (K1.out.row 1 rfl) Tryd.underlying24 (by rfl) infoc_T ?_)
    | (go_at_call 7; (with_reducible refine (HRT.out _ (K1.out.fs (A := A) (n := n) (xs := xs) (by simp))).mono ?_); rintro e w2 ⟨rfl, hb⟩; have K2 := Lib.hid (K1.out.on hb); have G2 : Hid (Below w.heap.size w w2) := Lib.hid (below_step G1.out hb); clear hb K1 G1)
    | (refine at_load 9 (.tmp 40) (by rfl) ?_; refine wpListG_get (by rfl) 9 (.tmp 40) (by rfl) (w.heap.size + 1) 0 (by rfl) 38 #[.string ⟨fa.toArray⟩, .string ⟨fb.toArray⟩] (.string ⟨fa.toArray⟩) _ (K2.out.row 0 rfl) (by rfl) Tryd.underlying9 (by rfl) ?_)
    | (refine at_load 9 (.tmp 43) (by rfl) ?_; refine wpListG_get (by rfl) 9 (.tmp 43) (by rfl) (w.heap.size + 1) 1 (by rfl) 38 #[.string ⟨fa.toArray⟩, .string ⟨fb.toArray⟩] (.string ⟨fb.toArray⟩) _ (K2.out.row 0 rfl) (by rfl) Tryd.underlying9 (by rfl) ?_)
    | (go_at_call 19; (with_reducible refine (l_put _ K2.out (u_Sized one _ (Up.EnvF.mks K2.out (by simp))) hL1.out hE1.out rfl).mono ?_); rintro e w3 ⟨A1, c1, rfl, hb, hE, HA10⟩; have K3 := Lib.hid hE; have HA1 := Lib.hid HA10; have G3 : Hid (Below w.heap.size w w3) := Lib.hid (below_step G2.out hb); clear hb hE HA10 K2 G2)
    | (go_at_call 19; (with_reducible refine (l_put _ K3.out (u_Sized two _ (Up.EnvF.mks K3.out (by simp))) hL2.out hE2.out rfl).mono ?_); rintro e w4 ⟨A2, c2, rfl, hb, hE, HA20⟩; have K4 := Lib.hid hE; have HA2 := Lib.hid HA20; have G4 : Hid (Below w.heap.size w w4) := Lib.hid (below_step G3.out hb); clear hb hE HA20 K3 G3)
    | (go_at_call 8; (with_reducible refine (l_wakes _ K4.out (by simp) (by simp) (by simp)).mono ?_); rintro e w5 ⟨rfl, hb⟩; have K5 := Lib.hid (K4.out.on hb); have G5 : Hid (Below w.heap.size w w5) := Lib.hid (below_step G4.out hb); clear hb K4 G4))
  go_ret
  exact ⟨rfl, G5.out⟩
set_option maxRecDepth 100000 in
set_option maxHeartbeats 8000000 in
theorem us_n4 (M most one two : Int) (A : Option Addr) (n c : Nat) (xs : List Fd) (fa fb : List UInt8) (w : World) (hV : EnvF w [fF A n xs, stF, rwF, mvF] []) {L1 L2 : List UInt8} {E2 : Int} (HG : Hid (∀ w0 : World, Fs w0 w0.heap.size A n xs → Calls Tryd.prog 6 #[.agg #[.int .i64 M, .slice A n c]] w0 fun e w' => e = .returned (.bool false) ∧ Below w0.heap.size w0 w')) (HRT : Hid (∀ w0 : World, Fs w0 w0.heap.size A n xs → Calls Tryd.prog 7 #[.agg #[.int .i64 M, .slice A n c]] w0 fun e w' => e = .returned (.bool true) ∧ Below w0.heap.size w0 w')) (h0 : 0 ≤ most) (h1 : most ≤ 4096) (hl : fa.length + fb.length ≤ 900) (g0 : 0 ≤ one) (g1 : one ≤ 2147483647) (g : 2147483647 < two) (hL1 : Hid (putL one (5 : Nat) 32 = L1)) (hE1 : Hid (putE one (5 : Nat) = 0)) (hL2 : Hid (putL two (5 : Nat) 32 = L2)) (hE2 : Hid (putE two (5 : Nat) = 2)) :
    Calls Tryd.prog 5 #[.agg #[.int .i64 M, .slice A n c], .int .i64 most, .int .i64 one, .int .i64 two, .agg #[.string ⟨fa.toArray⟩, .string ⟨fb.toArray⟩]] w fun e w' => e = .returned (.bool true) ∧ Below w.heap.size w w' := by
  have K0 := Lib.hid (((hV).boxg 24 #[.int .i64 M, .slice A n c] w.heap.size (by simp)).boxg 38 #[.string ⟨fa.toArray⟩, .string ⟨fb.toArray⟩] (w.heap.size + 1) (by simp))
  have G0 := Lib.hid (((Below.refl w.heap.size w).alloc (by simp) (.cells #[.int .i64 M, .slice A n c] 24)).alloc (by simp) (.cells #[.string ⟨fa.toArray⟩, .string ⟨fb.toArray⟩] 38))
  have dd0 : decide (most < 0) = false := decide_eq_false (by omega)
  have dd1 : decide (4096 < most) = false := decide_eq_false (by omega)
  have dd2 : decide (0 ≤ one) = true := decide_eq_true (by omega)
  have dd3 : decide (one ≤ 2147483647) = true := decide_eq_true (by omega)
  have dd4 : decide (0 ≤ two) = true := decide_eq_true (by omega)
  have dd5 : decide (two ≤ 2147483647) = false := decide_eq_false (by omega)
  clear hV
  go_enter Tryd.func5, Tryd.ntmps5
  go_wp2_with (first
    | go_skip
    | (refine at_load 24 (.tmp 5) (by rfl) ?_; refine wpListG_row (by rfl) 24 (.tmp 5) (by rfl) w.heap.size (by rfl) 24 #[.int .i64 M, .slice A n c] _ (K0.out.row 1 rfl) Tryd.underlying24 (by rfl) infoc_T ?_)
    | (go_at_call 6; (with_reducible refine (HG.out _ (K0.out.fs (A := A) (n := n) (xs := xs) (by simp))).mono ?_); rintro e w1 ⟨rfl, hb⟩; have K1 := Lib.hid (K0.out.on hb); have G1 : Hid (Below w.heap.size w w1) := Lib.hid (below_step G0.out hb); clear hb K0 G0)
    | (refine at_load 24 (.tmp 5) (by rfl) ?_; refine wpListG_row (by rfl) 24 (.tmp 5) (by rfl) w.heap.size (by rfl) 24 #[.int .i64 M, .slice A n c] _ (K1.out.row 1 rfl) Tryd.underlying24 (by rfl) infoc_T ?_)
    | (go_at_call 7; (with_reducible refine (HRT.out _ (K1.out.fs (A := A) (n := n) (xs := xs) (by simp))).mono ?_); rintro e w2 ⟨rfl, hb⟩; have K2 := Lib.hid (K1.out.on hb); have G2 : Hid (Below w.heap.size w w2) := Lib.hid (below_step G1.out hb); clear hb K1 G1)
    | (refine at_load 9 (.tmp 40) (by rfl) ?_; refine wpListG_get (by rfl) 9 (.tmp 40) (by rfl) (w.heap.size + 1) 0 (by rfl) 38 #[.string ⟨fa.toArray⟩, .string ⟨fb.toArray⟩] (.string ⟨fa.toArray⟩) _ (K2.out.row 0 rfl) (by rfl) Tryd.underlying9 (by rfl) ?_)
    | (refine at_load 9 (.tmp 43) (by rfl) ?_; refine wpListG_get (by rfl) 9 (.tmp 43) (by rfl) (w.heap.size + 1) 1 (by rfl) 38 #[.string ⟨fa.toArray⟩, .string ⟨fb.toArray⟩] (.string ⟨fb.toArray⟩) _ (K2.out.row 0 rfl) (by rfl) Tryd.underlying9 (by rfl) ?_)
    | (go_at_call 19; (with_reducible refine (l_put _ K2.out (u_Sized one _ (Up.EnvF.mks K2.out (by simp))) hL1.out hE1.out rfl).mono ?_); rintro e w3 ⟨A1, c1, rfl, hb, hE, HA10⟩; have K3 := Lib.hid hE; have HA1 := Lib.hid HA10; have G3 : Hid (Below w.heap.size w w3) := Lib.hid (below_step G2.out hb); clear hb hE HA10 K2 G2)
    | (go_at_call 19; (with_reducible refine (l_put _ K3.out (u_Sized two _ (Up.EnvF.mks K3.out (by simp))) hL2.out hE2.out rfl).mono ?_); rintro e w4 ⟨A2, c2, rfl, hb, hE, HA20⟩; have K4 := Lib.hid hE; have HA2 := Lib.hid HA20; have G4 : Hid (Below w.heap.size w w4) := Lib.hid (below_step G3.out hb); clear hb hE HA20 K3 G3)
    | (go_at_call 8; (with_reducible refine (l_wakes _ K4.out (by simp) (by simp) (by simp)).mono ?_); rintro e w5 ⟨rfl, hb⟩; have K5 := Lib.hid (K4.out.on hb); have G5 : Hid (Below w.heap.size w w5) := Lib.hid (below_step G4.out hb); clear hb K4 G4))
  go_ret
  exact ⟨rfl, G5.out⟩
set_option maxRecDepth 100000 in
set_option maxHeartbeats 8000000 in
theorem us_b1 (M most one two : Int) (A : Option Addr) (n c : Nat) (xs : List Fd) (fa fb : List UInt8) (w : World) (hV : EnvF w [fF A n xs, stF, rwF, mvF] []) {L1 L2 : List UInt8} (HG : Hid (∀ w0 : World, Fs w0 w0.heap.size A n xs → Calls Tryd.prog 6 #[.agg #[.int .i64 M, .slice A n c]] w0 fun e w' => e = .returned (.bool false) ∧ Below w0.heap.size w0 w')) (HRT : Hid (∀ w0 : World, Fs w0 w0.heap.size A n xs → Calls Tryd.prog 7 #[.agg #[.int .i64 M, .slice A n c]] w0 fun e w' => e = .returned (.bool true) ∧ Below w0.heap.size w0 w')) (h0 : 0 ≤ most) (h1 : most ≤ 4096) (hl : fa.length + fb.length ≤ 900) (g0 : 0 ≤ one) (g1 : one ≤ 2147483647) (g2 : 0 ≤ two) (g3 : two ≤ 2147483647) (hL1 : Hid (putL one (5 : Nat) 32 = L1)) (hE1 : Hid (putE one (5 : Nat) = 0)) (hL2 : Hid (putL two (5 : Nat) 32 = L2)) (hE2 : Hid (putE two (5 : Nat) = 0)) (hl1 : L1.length ≤ 6) (hl2 : L2.length ≤ 6) (hfl : (fldL fa fb 0).length ≤ 6000) (hN : A = none → c = 0) (hF : full xs ≤ 20000) (HV2 : BK M most xs (fldL fa fb 0 ++ L1) 100 0 [] false 0 0 []) (k : most < one) (HV1 : BK M most xs (L1 ++ L2) 100 0 [] false 0 0 []) :
    Calls Tryd.prog 5 #[.agg #[.int .i64 M, .slice A n c], .int .i64 most, .int .i64 one, .int .i64 two, .agg #[.string ⟨fa.toArray⟩, .string ⟨fb.toArray⟩]] w fun e w' => e = .returned (.bool true) ∧ Below w.heap.size w w' := by
  have K0 := Lib.hid (((hV).boxg 24 #[.int .i64 M, .slice A n c] w.heap.size (by simp)).boxg 38 #[.string ⟨fa.toArray⟩, .string ⟨fb.toArray⟩] (w.heap.size + 1) (by simp))
  have G0 := Lib.hid (((Below.refl w.heap.size w).alloc (by simp) (.cells #[.int .i64 M, .slice A n c] 24)).alloc (by simp) (.cells #[.string ⟨fa.toArray⟩, .string ⟨fb.toArray⟩] 38))
  have dd0 : decide (most < 0) = false := decide_eq_false (by omega)
  have dd1 : decide (4096 < most) = false := decide_eq_false (by omega)
  have dd2 : decide (0 ≤ one) = true := decide_eq_true (by omega)
  have dd3 : decide (one ≤ 2147483647) = true := decide_eq_true (by omega)
  have dd4 : decide (0 ≤ two) = true := decide_eq_true (by omega)
  have dd5 : decide (two ≤ 2147483647) = true := decide_eq_true (by omega)
  have dd6 : decide (one ≤ most) = false := decide_eq_false (by omega)
  have hF' := Lib.hid hF
  have hN' := Lib.hid hN
  have HV1' := Lib.hid HV1
  have HV2' := Lib.hid HV2
  clear HV1 HV2 hF hN
  clear hV
  go_enter Tryd.func5, Tryd.ntmps5
  go_wp2_with (first
    | go_skip
    | (refine at_load 24 (.tmp 5) (by rfl) ?_; refine wpListG_row (by rfl) 24 (.tmp 5) (by rfl) w.heap.size (by rfl) 24 #[.int .i64 M, .slice A n c] _ (K0.out.row 1 rfl) Tryd.underlying24 (by rfl) infoc_T ?_)
    | (go_at_call 6; (with_reducible refine (HG.out _ (K0.out.fs (A := A) (n := n) (xs := xs) (by simp))).mono ?_); rintro e w1 ⟨rfl, hb⟩; have K1 := Lib.hid (K0.out.on hb); have G1 : Hid (Below w.heap.size w w1) := Lib.hid (below_step G0.out hb); clear hb K0 G0)
    | (refine at_load 24 (.tmp 5) (by rfl) ?_; refine wpListG_row (by rfl) 24 (.tmp 5) (by rfl) w.heap.size (by rfl) 24 #[.int .i64 M, .slice A n c] _ (K1.out.row 1 rfl) Tryd.underlying24 (by rfl) infoc_T ?_)
    | (go_at_call 7; (with_reducible refine (HRT.out _ (K1.out.fs (A := A) (n := n) (xs := xs) (by simp))).mono ?_); rintro e w2 ⟨rfl, hb⟩; have K2 := Lib.hid (K1.out.on hb); have G2 : Hid (Below w.heap.size w w2) := Lib.hid (below_step G1.out hb); clear hb K1 G1)
    | (refine at_load 9 (.tmp 40) (by rfl) ?_; refine wpListG_get (by rfl) 9 (.tmp 40) (by rfl) (w.heap.size + 1) 0 (by rfl) 38 #[.string ⟨fa.toArray⟩, .string ⟨fb.toArray⟩] (.string ⟨fa.toArray⟩) _ (K2.out.row 0 rfl) (by rfl) Tryd.underlying9 (by rfl) ?_)
    | (refine at_load 9 (.tmp 43) (by rfl) ?_; refine wpListG_get (by rfl) 9 (.tmp 43) (by rfl) (w.heap.size + 1) 1 (by rfl) 38 #[.string ⟨fa.toArray⟩, .string ⟨fb.toArray⟩] (.string ⟨fb.toArray⟩) _ (K2.out.row 0 rfl) (by rfl) Tryd.underlying9 (by rfl) ?_)
    | (go_at_call 19; (with_reducible refine (l_put _ K2.out (u_Sized one _ (Up.EnvF.mks K2.out (by simp))) hL1.out hE1.out rfl).mono ?_); rintro e w3 ⟨A1, c1, rfl, hb, hE, HA10⟩; have K3 := Lib.hid hE; have HA1 := Lib.hid HA10; have G3 : Hid (Below w.heap.size w w3) := Lib.hid (below_step G2.out hb); clear hb hE HA10 K2 G2)
    | (go_at_call 19; (with_reducible refine (l_put _ K3.out (u_Sized two _ (Up.EnvF.mks K3.out (by simp))) hL2.out hE2.out rfl).mono ?_); rintro e w4 ⟨A2, c2, rfl, hb, hE, HA20⟩; have K4 := Lib.hid hE; have HA2 := Lib.hid HA20; have G4 : Hid (Below w.heap.size w w4) := Lib.hid (below_step G3.out hb); clear hb hE HA20 K3 G3))
  refine s10_region (A1 := A1) (n1 := L1.length) (n2 := L2.length) (A2 := A2) (a := L1) (b := L2) (xs := xs) (by simp) (by simp) (by simp) (by simp) hN'.out hF'.out (List.mem_of_getElem? (i := 1) rfl) (by simp) HA1.out.2 (by simp) HA2.out.2 (by omega) (by omega) (by omega) (by omega) HV1'.out (fun gX LL TT cl tc _ _ _ w20 K20' hcl htc hb => ?_) K4.out
  have K20 := Lib.hid K20'
  have G20 := Lib.hid (below_step G4.out.drew hb)
  have HX := Lib.hid htc
  clear K20' hcl htc hb K4 G4
  go_wp2
  refine s11_region (A1 := A1) (n1 := L1.length) (a := L1) (fa := fa) (fb := fb) (xs := xs) (by simp) (by simp) (by simp) (by simp) hN'.out hF'.out (List.mem_of_getElem? (i := 2) rfl) (List.mem_of_getElem? (i := 1) rfl) (by simp) HA1.out.2 (by omega) (by omega) (by omega) (by omega) hfl HV2'.out (fun gY LM TM cm tm _ _ w30 K30' hcl htc hb => ?_) K20.out
  have K30 := Lib.hid K30'
  have G30 := Lib.hid (below_step G20.out.drew hb)
  clear K30' hcl htc hb K20 G20
  go_wp2_with (first
    | go_skip
    | (go_at_call 8; (with_reducible refine (l_wakes _ K30.out (by simp) (by simp) (by simp)).mono ?_); rintro e w5 ⟨rfl, hb⟩; have K5 := Lib.hid (K30.out.on hb); have G5 : Hid (Below w.heap.size w w5) := Lib.hid (below_step G30.out hb); clear hb K30 G30))
  go_ret
  exact ⟨rfl, G5.out⟩
set_option maxRecDepth 100000 in
set_option maxHeartbeats 8000000 in
theorem us_b2 (M most one two : Int) (A : Option Addr) (n c : Nat) (xs : List Fd) (fa fb : List UInt8) (w : World) (hV : EnvF w [fF A n xs, stF, rwF, mvF] []) {L1 L2 : List UInt8} (HG : Hid (∀ w0 : World, Fs w0 w0.heap.size A n xs → Calls Tryd.prog 6 #[.agg #[.int .i64 M, .slice A n c]] w0 fun e w' => e = .returned (.bool false) ∧ Below w0.heap.size w0 w')) (HRT : Hid (∀ w0 : World, Fs w0 w0.heap.size A n xs → Calls Tryd.prog 7 #[.agg #[.int .i64 M, .slice A n c]] w0 fun e w' => e = .returned (.bool true) ∧ Below w0.heap.size w0 w')) (h0 : 0 ≤ most) (h1 : most ≤ 4096) (hl : fa.length + fb.length ≤ 900) (g0 : 0 ≤ one) (g1 : one ≤ 2147483647) (g2 : 0 ≤ two) (g3 : two ≤ 2147483647) (hL1 : Hid (putL one (5 : Nat) 32 = L1)) (hE1 : Hid (putE one (5 : Nat) = 0)) (hL2 : Hid (putL two (5 : Nat) 32 = L2)) (hE2 : Hid (putE two (5 : Nat) = 0)) (hl1 : L1.length ≤ 6) (hl2 : L2.length ≤ 6) (hfl : (fldL fa fb 0).length ≤ 6000) (hN : A = none → c = 0) (hF : full xs ≤ 20000) (HV2 : BK M most xs (fldL fa fb 0 ++ L1) 100 0 [] false 0 0 []) (k0 : one ≤ most) (k : most < two) (HV1 : BK M most xs (L1 ++ L2) 100 0 [] false 0 0 []) :
    Calls Tryd.prog 5 #[.agg #[.int .i64 M, .slice A n c], .int .i64 most, .int .i64 one, .int .i64 two, .agg #[.string ⟨fa.toArray⟩, .string ⟨fb.toArray⟩]] w fun e w' => e = .returned (.bool true) ∧ Below w.heap.size w w' := by
  have K0 := Lib.hid (((hV).boxg 24 #[.int .i64 M, .slice A n c] w.heap.size (by simp)).boxg 38 #[.string ⟨fa.toArray⟩, .string ⟨fb.toArray⟩] (w.heap.size + 1) (by simp))
  have G0 := Lib.hid (((Below.refl w.heap.size w).alloc (by simp) (.cells #[.int .i64 M, .slice A n c] 24)).alloc (by simp) (.cells #[.string ⟨fa.toArray⟩, .string ⟨fb.toArray⟩] 38))
  have dd0 : decide (most < 0) = false := decide_eq_false (by omega)
  have dd1 : decide (4096 < most) = false := decide_eq_false (by omega)
  have dd2 : decide (0 ≤ one) = true := decide_eq_true (by omega)
  have dd3 : decide (one ≤ 2147483647) = true := decide_eq_true (by omega)
  have dd4 : decide (0 ≤ two) = true := decide_eq_true (by omega)
  have dd5 : decide (two ≤ 2147483647) = true := decide_eq_true (by omega)
  have dd6 : decide (one ≤ most) = true := decide_eq_true (by omega)
  have dd7 : decide (two ≤ most) = false := decide_eq_false (by omega)
  have hF' := Lib.hid hF
  have hN' := Lib.hid hN
  have HV1' := Lib.hid HV1
  have HV2' := Lib.hid HV2
  clear HV1 HV2 hF hN
  clear hV
  go_enter Tryd.func5, Tryd.ntmps5
  go_wp2_with (first
    | go_skip
    | (refine at_load 24 (.tmp 5) (by rfl) ?_; refine wpListG_row (by rfl) 24 (.tmp 5) (by rfl) w.heap.size (by rfl) 24 #[.int .i64 M, .slice A n c] _ (K0.out.row 1 rfl) Tryd.underlying24 (by rfl) infoc_T ?_)
    | (go_at_call 6; (with_reducible refine (HG.out _ (K0.out.fs (A := A) (n := n) (xs := xs) (by simp))).mono ?_); rintro e w1 ⟨rfl, hb⟩; have K1 := Lib.hid (K0.out.on hb); have G1 : Hid (Below w.heap.size w w1) := Lib.hid (below_step G0.out hb); clear hb K0 G0)
    | (refine at_load 24 (.tmp 5) (by rfl) ?_; refine wpListG_row (by rfl) 24 (.tmp 5) (by rfl) w.heap.size (by rfl) 24 #[.int .i64 M, .slice A n c] _ (K1.out.row 1 rfl) Tryd.underlying24 (by rfl) infoc_T ?_)
    | (go_at_call 7; (with_reducible refine (HRT.out _ (K1.out.fs (A := A) (n := n) (xs := xs) (by simp))).mono ?_); rintro e w2 ⟨rfl, hb⟩; have K2 := Lib.hid (K1.out.on hb); have G2 : Hid (Below w.heap.size w w2) := Lib.hid (below_step G1.out hb); clear hb K1 G1)
    | (refine at_load 9 (.tmp 40) (by rfl) ?_; refine wpListG_get (by rfl) 9 (.tmp 40) (by rfl) (w.heap.size + 1) 0 (by rfl) 38 #[.string ⟨fa.toArray⟩, .string ⟨fb.toArray⟩] (.string ⟨fa.toArray⟩) _ (K2.out.row 0 rfl) (by rfl) Tryd.underlying9 (by rfl) ?_)
    | (refine at_load 9 (.tmp 43) (by rfl) ?_; refine wpListG_get (by rfl) 9 (.tmp 43) (by rfl) (w.heap.size + 1) 1 (by rfl) 38 #[.string ⟨fa.toArray⟩, .string ⟨fb.toArray⟩] (.string ⟨fb.toArray⟩) _ (K2.out.row 0 rfl) (by rfl) Tryd.underlying9 (by rfl) ?_)
    | (go_at_call 19; (with_reducible refine (l_put _ K2.out (u_Sized one _ (Up.EnvF.mks K2.out (by simp))) hL1.out hE1.out rfl).mono ?_); rintro e w3 ⟨A1, c1, rfl, hb, hE, HA10⟩; have K3 := Lib.hid hE; have HA1 := Lib.hid HA10; have G3 : Hid (Below w.heap.size w w3) := Lib.hid (below_step G2.out hb); clear hb hE HA10 K2 G2)
    | (go_at_call 19; (with_reducible refine (l_put _ K3.out (u_Sized two _ (Up.EnvF.mks K3.out (by simp))) hL2.out hE2.out rfl).mono ?_); rintro e w4 ⟨A2, c2, rfl, hb, hE, HA20⟩; have K4 := Lib.hid hE; have HA2 := Lib.hid HA20; have G4 : Hid (Below w.heap.size w w4) := Lib.hid (below_step G3.out hb); clear hb hE HA20 K3 G3))
  refine s10_region (A1 := A1) (n1 := L1.length) (n2 := L2.length) (A2 := A2) (a := L1) (b := L2) (xs := xs) (by simp) (by simp) (by simp) (by simp) hN'.out hF'.out (List.mem_of_getElem? (i := 1) rfl) (by simp) HA1.out.2 (by simp) HA2.out.2 (by omega) (by omega) (by omega) (by omega) HV1'.out (fun gX LL TT cl tc _ _ _ w20 K20' hcl htc hb => ?_) K4.out
  have K20 := Lib.hid K20'
  have G20 := Lib.hid (below_step G4.out.drew hb)
  have HX := Lib.hid htc
  clear K20' hcl htc hb K4 G4
  go_wp2
  refine s11_region (A1 := A1) (n1 := L1.length) (a := L1) (fa := fa) (fb := fb) (xs := xs) (by simp) (by simp) (by simp) (by simp) hN'.out hF'.out (List.mem_of_getElem? (i := 2) rfl) (List.mem_of_getElem? (i := 1) rfl) (by simp) HA1.out.2 (by omega) (by omega) (by omega) (by omega) hfl HV2'.out (fun gY LM TM cm tm _ _ w30 K30' hcl htc hb => ?_) K20.out
  have K30 := Lib.hid K30'
  have G30 := Lib.hid (below_step G20.out.drew hb)
  clear K30' hcl htc hb K20 G20
  go_wp2_with (first
    | go_skip
    | (go_at_call 8; (with_reducible refine (l_wakes _ K30.out (by simp) (by simp) (by simp)).mono ?_); rintro e w5 ⟨rfl, hb⟩; have K5 := Lib.hid (K30.out.on hb); have G5 : Hid (Below w.heap.size w w5) := Lib.hid (below_step G30.out hb); clear hb K30 G30))
  go_ret
  exact ⟨rfl, G5.out⟩
set_option maxRecDepth 100000 in
set_option maxHeartbeats 8000000 in
theorem us_main (M most one two : Int) (A : Option Addr) (n c : Nat) (xs : List Fd) (fa fb : List UInt8) (w : World) (hV : EnvF w [fF A n xs, stF, rwF, mvF] []) {k1 nt : Nat} {X1 X : List Fd} {L1 L2 : List UInt8} (HG : Hid (∀ w0 : World, Fs w0 w0.heap.size A n xs → Calls Tryd.prog 6 #[.agg #[.int .i64 M, .slice A n c]] w0 fun e w' => e = .returned (.bool false) ∧ Below w0.heap.size w0 w')) (HRT : Hid (∀ w0 : World, Fs w0 w0.heap.size A n xs → Calls Tryd.prog 7 #[.agg #[.int .i64 M, .slice A n c]] w0 fun e w' => e = .returned (.bool true) ∧ Below w0.heap.size w0 w')) (h0 : 0 ≤ most) (h1 : most ≤ 4096) (hl : fa.length + fb.length ≤ 900) (g0 : 0 ≤ one) (g1 : one ≤ 2147483647) (g2 : 0 ≤ two) (g3 : two ≤ 2147483647) (hL1 : Hid (putL one (5 : Nat) 32 = L1)) (hE1 : Hid (putE one (5 : Nat) = 0)) (hL2 : Hid (putL two (5 : Nat) 32 = L2)) (hE2 : Hid (putE two (5 : Nat) = 0)) (hl1 : L1.length ≤ 6) (hl2 : L2.length ≤ 6) (hfl : (fldL fa fb 0).length ≤ 6000) (hN : A = none → c = 0) (hF : full xs ≤ 20000) (HV2 : BK M most xs (fldL fa fb 0 ++ L1) 100 0 [] false 0 0 []) (k0 : one ≤ most) (k : two ≤ most) (HV1 : BK M most xs (L1 ++ L2) 0 0 [] false two nt X) (hr1 : Hid (resM M xs one = one ∧ resE M xs one = 0 ∧ resL M xs one = X1 ∧ (X1).length = k1)) (hr2 : Hid (resM one X1 two = two ∧ resE one X1 two = 0 ∧ resL one X1 two = X ∧ (X).length = nt)) (hF1 : Hid (full X1 ≤ 100000)) (hnt : Hid (nt ≤ 1000000)) (hsm : Hid (sameB two X two X = true)) :
    Calls Tryd.prog 5 #[.agg #[.int .i64 M, .slice A n c], .int .i64 most, .int .i64 one, .int .i64 two, .agg #[.string ⟨fa.toArray⟩, .string ⟨fb.toArray⟩]] w fun e w' => e = .returned (.bool true) ∧ Below w.heap.size w w' := by
  have K0 := Lib.hid (((hV).boxg 24 #[.int .i64 M, .slice A n c] w.heap.size (by simp)).boxg 38 #[.string ⟨fa.toArray⟩, .string ⟨fb.toArray⟩] (w.heap.size + 1) (by simp))
  have G0 := Lib.hid (((Below.refl w.heap.size w).alloc (by simp) (.cells #[.int .i64 M, .slice A n c] 24)).alloc (by simp) (.cells #[.string ⟨fa.toArray⟩, .string ⟨fb.toArray⟩] 38))
  have dd0 : decide (most < 0) = false := decide_eq_false (by omega)
  have dd1 : decide (4096 < most) = false := decide_eq_false (by omega)
  have dd2 : decide (0 ≤ one) = true := decide_eq_true (by omega)
  have dd3 : decide (one ≤ 2147483647) = true := decide_eq_true (by omega)
  have dd4 : decide (0 ≤ two) = true := decide_eq_true (by omega)
  have dd5 : decide (two ≤ 2147483647) = true := decide_eq_true (by omega)
  have dd6 : decide (one ≤ most) = true := decide_eq_true (by omega)
  have dd7 : decide (two ≤ most) = true := decide_eq_true (by omega)
  have hF' := Lib.hid hF
  have hN' := Lib.hid hN
  have HV1' := Lib.hid HV1
  have HV2' := Lib.hid HV2
  clear HV1 HV2 hF hN
  clear hV
  go_enter Tryd.func5, Tryd.ntmps5
  go_wp2_with (first
    | go_skip
    | (refine at_load 24 (.tmp 5) (by rfl) ?_; refine wpListG_row (by rfl) 24 (.tmp 5) (by rfl) w.heap.size (by rfl) 24 #[.int .i64 M, .slice A n c] _ (K0.out.row 1 rfl) Tryd.underlying24 (by rfl) infoc_T ?_)
    | (go_at_call 6; (with_reducible refine (HG.out _ (K0.out.fs (A := A) (n := n) (xs := xs) (by simp))).mono ?_); rintro e w1 ⟨rfl, hb⟩; have K1 := Lib.hid (K0.out.on hb); have G1 : Hid (Below w.heap.size w w1) := Lib.hid (below_step G0.out hb); clear hb K0 G0)
    | (refine at_load 24 (.tmp 5) (by rfl) ?_; refine wpListG_row (by rfl) 24 (.tmp 5) (by rfl) w.heap.size (by rfl) 24 #[.int .i64 M, .slice A n c] _ (K1.out.row 1 rfl) Tryd.underlying24 (by rfl) infoc_T ?_)
    | (go_at_call 7; (with_reducible refine (HRT.out _ (K1.out.fs (A := A) (n := n) (xs := xs) (by simp))).mono ?_); rintro e w2 ⟨rfl, hb⟩; have K2 := Lib.hid (K1.out.on hb); have G2 : Hid (Below w.heap.size w w2) := Lib.hid (below_step G1.out hb); clear hb K1 G1)
    | (refine at_load 9 (.tmp 40) (by rfl) ?_; refine wpListG_get (by rfl) 9 (.tmp 40) (by rfl) (w.heap.size + 1) 0 (by rfl) 38 #[.string ⟨fa.toArray⟩, .string ⟨fb.toArray⟩] (.string ⟨fa.toArray⟩) _ (K2.out.row 0 rfl) (by rfl) Tryd.underlying9 (by rfl) ?_)
    | (refine at_load 9 (.tmp 43) (by rfl) ?_; refine wpListG_get (by rfl) 9 (.tmp 43) (by rfl) (w.heap.size + 1) 1 (by rfl) 38 #[.string ⟨fa.toArray⟩, .string ⟨fb.toArray⟩] (.string ⟨fb.toArray⟩) _ (K2.out.row 0 rfl) (by rfl) Tryd.underlying9 (by rfl) ?_)
    | (go_at_call 19; (with_reducible refine (l_put _ K2.out (u_Sized one _ (Up.EnvF.mks K2.out (by simp))) hL1.out hE1.out rfl).mono ?_); rintro e w3 ⟨A1, c1, rfl, hb, hE, HA10⟩; have K3 := Lib.hid hE; have HA1 := Lib.hid HA10; have G3 : Hid (Below w.heap.size w w3) := Lib.hid (below_step G2.out hb); clear hb hE HA10 K2 G2)
    | (go_at_call 19; (with_reducible refine (l_put _ K3.out (u_Sized two _ (Up.EnvF.mks K3.out (by simp))) hL2.out hE2.out rfl).mono ?_); rintro e w4 ⟨A2, c2, rfl, hb, hE, HA20⟩; have K4 := Lib.hid hE; have HA2 := Lib.hid HA20; have G4 : Hid (Below w.heap.size w w4) := Lib.hid (below_step G3.out hb); clear hb hE HA20 K3 G3))
  refine s10_region (A1 := A1) (n1 := L1.length) (n2 := L2.length) (A2 := A2) (a := L1) (b := L2) (xs := xs) (by simp) (by simp) (by simp) (by simp) hN'.out hF'.out (List.mem_of_getElem? (i := 1) rfl) (by simp) HA1.out.2 (by simp) HA2.out.2 (by omega) (by omega) (by omega) (by omega) HV1'.out (fun gX LL TT cl tc _ _ _ w20 K20' hcl htc hb => ?_) K4.out
  have K20 := Lib.hid K20'
  have G20 := Lib.hid (below_step G4.out.drew hb)
  have HX := Lib.hid htc
  clear K20' hcl htc hb K4 G4
  go_wp2
  refine s11_region (A1 := A1) (n1 := L1.length) (a := L1) (fa := fa) (fb := fb) (xs := xs) (by simp) (by simp) (by simp) (by simp) hN'.out hF'.out (List.mem_of_getElem? (i := 2) rfl) (List.mem_of_getElem? (i := 1) rfl) (by simp) HA1.out.2 (by omega) (by omega) (by omega) (by omega) hfl HV2'.out (fun gY LM TM cm tm _ _ w30 K30' hcl htc hb => ?_) K20.out
  have K30 := Lib.hid K30'
  have G30 := Lib.hid (below_step G20.out.drew hb)
  clear K30' hcl htc hb K20 G20
  go_wp2_with (first
    | go_skip
    | (refine at_load 24 (.tmp 5) (by rfl) ?_; refine wpListG_row (by rfl) 24 (.tmp 5) (by rfl) w.heap.size (by rfl) 24 #[.int .i64 M, .slice A n c] _ (K30.out.row 3 rfl) Tryd.underlying24 (by rfl) infoc_T ?_)
    | (go_at_call 20; (with_reducible refine (l_resize (A := A) (n := n) (xs := xs) _ K30.out (by simp) hN'.out (by have := hF'.out; omega) hr1.out.1 hr1.out.2.1 hr1.out.2.2.1 hr1.out.2.2.2).mono ?_); rintro e w5 ⟨A5, c5, rfl, hb, hE, HA50⟩; have K5 := Lib.hid hE; have HA5 := Lib.hid HA50; have G5 : Hid (Below w.heap.size w w5) := Lib.hid (below_step G30.out hb); clear hb hE HA50 K30 G30; have K5b := Lib.hid (K5.out.boxg 24 #[.int .i64 0, .slice none 0 0] w5.heap.size rfl); have hz5 : w.heap.size ≤ w5.heap.size := G5.out.size; have G5b := Lib.hid (G5.out.alloc hz5 (.cells #[.int .i64 0, .slice none 0 0] 24)); clear K5 G5)
    | (refine at_store 24 (.tmp 20) (.tmp 132) (by rfl) ?_; refine wpList_put (by rfl) 24 (.tmp 20) (.tmp 132) (by rfl) w5.heap.size 0 (.agg #[.int .i64 one, .slice A5 k1 c5]) (by rfl) (by rfl) 24 #[.int .i64 0, .slice none 0 0] #[.int .i64 one, .slice A5 k1 c5] (K5b.out.row 0 rfl) (by simp [Value.cells]) (by kernel_rfl) infoc_T (by kernel_rfl) ?_; intro w6 hrow hoth hz hbl; have K6 := Lib.hid (K5b.out.turn 0 rfl hrow hoth hz); have G6 : Hid (Below w.heap.size w w6) := Lib.hid (hbl _ _ (by omega) G5b.out); clear hrow hoth hz hbl K5b G5b)
    | (refine at_load 24 (.tmp 20) (by rfl) ?_; refine wpListG_row (by rfl) 24 (.tmp 20) (by rfl) w5.heap.size (by rfl) 24 #[.int .i64 one, .slice A5 k1 c5] _ (K6.out.row 0 rfl) Tryd.underlying24 (by rfl) infoc_T ?_)
    | (go_at_call 20; (with_reducible refine (l_resize (A := A5) (n := k1) (xs := X1) _ K6.out (by simp) HA5.out hF1.out hr2.out.1 hr2.out.2.1 hr2.out.2.2.1 hr2.out.2.2.2).mono ?_); rintro e w7 ⟨A6, c6, rfl, hb, hE, HA60⟩; have K7 := Lib.hid hE; have HA6 := Lib.hid HA60; have G7 : Hid (Below w.heap.size w w7) := Lib.hid (below_step G6.out hb); clear hb hE HA60 K6 G6; have K7b := Lib.hid (K7.out.boxg 24 #[.int .i64 0, .slice none 0 0] w7.heap.size rfl); have hz7 : w.heap.size ≤ w7.heap.size := G7.out.size; have G7b := Lib.hid (G7.out.alloc hz7 (.cells #[.int .i64 0, .slice none 0 0] 24)); clear K7 G7)
    | (refine at_store 24 (.tmp 22) (.tmp 138) (by rfl) ?_; refine wpList_put (by rfl) 24 (.tmp 22) (.tmp 138) (by rfl) w7.heap.size 0 (.agg #[.int .i64 two, .slice A6 nt c6]) (by rfl) (by rfl) 24 #[.int .i64 0, .slice none 0 0] #[.int .i64 two, .slice A6 nt c6] (K7b.out.row 0 rfl) (by simp [Value.cells]) (by kernel_rfl) infoc_T (by kernel_rfl) ?_; intro w8 hrow hoth hz hbl; have K8 := Lib.hid (K7b.out.turn 0 rfl hrow hoth hz); have G8 : Hid (Below w.heap.size w w8) := Lib.hid (hbl _ _ (by omega) G7b.out); clear hrow hoth hz hbl K7b G7b)
    | (refine at_load 22 (.tmp 140) (by rfl) ?_; refine wpListG_get (by rfl) 22 (.tmp 140) (by rfl) gX 0 (by rfl) 29 #[.slice LL 0 cl, .bool false, .int .i64 two, .slice TT nt tc] (.slice LL 0 cl) _ (K8.out.row 3 rfl) (by rfl) Tryd.underlying22 (by rfl) ?_)
    | (refine at_load 24 (.tmp 145) (by rfl) ?_; refine wpList_part (by rfl) 24 (.tmp 145) (by rfl) gX 2 (by rfl) 29 #[.slice LL 0 cl, .bool false, .int .i64 two, .slice TT nt tc] #[.int .i64 two, .slice TT nt tc] _ (K8.out.row 3 rfl) (part2 (by rfl) (by rfl)) Tryd.underlying24 (by rfl) infoc_T ?_)
    | (refine at_load 24 (.tmp 22) (by rfl) ?_; refine wpListG_row (by rfl) 24 (.tmp 22) (by rfl) w7.heap.size (by rfl) 24 #[.int .i64 two, .slice A6 nt c6] _ (K8.out.row 0 rfl) Tryd.underlying24 (by rfl) infoc_T ?_)
    | (go_at_call 11; (with_reducible refine (l_same (A := TT) (n := nt) (xs := X) (A' := A6) (n' := nt) (ys := X) _ K8.out (by simp) (by simp) hnt.out hsm.out).mono ?_); rintro e w9 ⟨rfl, hb⟩; have K9 := Lib.hid (K8.out.on hb); have G9 : Hid (Below w.heap.size w w9) := Lib.hid (below_step G8.out hb); clear hb K8 G8)
    | (go_at_call 8; (with_reducible refine (l_wakes _ K9.out (by simp) (by simp) (by simp)).mono ?_); rintro e w10 ⟨rfl, hb⟩; have K10 := Lib.hid (K9.out.on hb); have G10 : Hid (Below w.heap.size w w10) := Lib.hid (below_step G9.out hb); clear hb K9 G9))
  go_ret
  exact ⟨rfl, G10.out⟩
theorem us_all (M : Int) (A : Option Addr) (n c : Nat) (most one two : Int) (s u : ByteArray) (w : World) (hR : Up.Vars w) (hI : IsFlds w A n c) (hs : s.size ≤ 140737488355328) (hu : u.size ≤ 140737488355328) :
    Calls Tryd.prog 5 #[.agg #[.int .i64 M, .slice A n c], .int .i64 most, .int .i64 one, .int .i64 two, .agg #[.string s, .string u]] w fun e w' => e = .returned (.bool true) ∧ Below w.heap.size w w' := by
  obtain ⟨xs, hA, hS, hnc, hcm, hN⟩ := rowFlds hI
  obtain ⟨fa, rfl⟩ : ∃ l : List UInt8, s = ⟨l.toArray⟩ := ⟨s.data.toList, by simp⟩
  obtain ⟨fb, rfl⟩ : ∃ l : List UInt8, u = ⟨l.toArray⟩ := ⟨u.data.toList, by simp⟩
  have hfa : fa.length ≤ 140737488355328 := hs
  have hfb : fb.length ≤ 140737488355328 := hu
  have hV := start_env hR hA
  cases hg : grB xs with
  | true => exact us_g M most one two A n c xs fa fb w hV (great_call hnc hcm hS hg)
  | false =>
    have HG := great_call (M := M) (A := A) hnc hcm hS hg
    obtain ⟨hl, hF⟩ := gr_full hg
    cases hr : rightB M xs with
    | false => exact us_r M most one two A n c xs fa fb w hV HG (right_call (by omega) hr)
    | true =>
      have HRT := right_call (A := A) (n := n) (c := c) (by omega) hr
      by_cases h0 : most < 0
      · exact us_m0 M most one two A n c xs fa fb w hV HG HRT h0
      by_cases h1 : 4096 < most
      · exact us_m1 M most one two A n c xs fa fb w hV HG HRT (by omega) h1
      have g0 : 0 ≤ most := by omega
      have g1 : most ≤ 4096 := by omega
      by_cases h2 : 900 < fa.length + fb.length
      · exact us_len M most one two A n c xs fa fb w hV HG HRT g0 g1 hfa hfb h2
      have h2' : fa.length + fb.length ≤ 900 := by omega
      by_cases h3 : one < 0 ∨ 2147483647 < one
      · obtain ⟨e1, e2⟩ := may_not (k := 5) h3
        rcases h3 with h3 | h3
        · exact us_n1 M most one two A n c xs fa fb w hV HG HRT g0 g1 h2' h3 (Lib.hid e2) (Lib.hid e1) (Lib.hid rfl) (Lib.hid (rfl : putE two (5 : Nat) = _))
        · exact us_n2 M most one two A n c xs fa fb w hV HG HRT g0 g1 h2' h3 (Lib.hid e2) (Lib.hid e1) (Lib.hid rfl) (Lib.hid (rfl : putE two (5 : Nat) = _))
      have i0 : 0 ≤ one := by omega
      have i1 : one ≤ 2147483647 := by omega
      obtain ⟨p1, p2⟩ := may_of_bd i0 i1
      by_cases h4 : two < 0 ∨ 2147483647 < two
      · obtain ⟨e1, e2⟩ := may_not (k := 5) h4
        rcases h4 with h4 | h4
        · exact us_n3 (E2 := 0) M most one two A n c xs fa fb w hV HG HRT g0 g1 h2' i0 i1 h4 (Lib.hid rfl) (Lib.hid p1) (Lib.hid e2) (Lib.hid e1)
        · exact us_n4 (E2 := 0) M most one two A n c xs fa fb w hV HG HRT g0 g1 h2' i0 i1 h4 (Lib.hid rfl) (Lib.hid p1) (Lib.hid e2) (Lib.hid e1)
      have j0 : 0 ≤ two := by omega
      have j1 : two ≤ 2147483647 := by omega
      obtain ⟨q1, q2⟩ := may_of_bd j0 j1
      obtain ⟨a, ha⟩ : ∃ a : Nat, one = a := ⟨one.toNat, by omega⟩
      obtain ⟨b, hb⟩ : ∃ b : Nat, two = b := ⟨two.toNat, by omega⟩
      have ea : one.toNat = a := by omega
      have eb : two.toNat = b := by omega
      rw [ea] at p2
      rw [eb] at q2
      have hl1 : (putN a 5 32).length ≤ 6 := by have := putL_len one 5 32; rw [p2] at this; exact this
      have hl2 : (putN b 5 32).length ≤ 6 := by have := putL_len two 5 32; rw [q2] at this; exact this
      have hfl : (fldL fa fb 0).length ≤ 6000 := fldL_len (by omega)
      have HV2 : BK M most xs (fldL fa fb 0 ++ putN a 5 32) 100 0 [] false 0 0 [] := by
        have h := block_late (M := M) (most := most) (xs := xs) (a := fa) (b := fb) (n := a) (by omega) hr g0 g1 (by omega) (by omega)
        obtain ⟨y1, y2, y3, y4⟩ := b_none (M := M) (most := most) (xs := xs) (ls := fldL fa fb 0 ++ putN a 5 32) (by rw [h]; decide)
        exact ⟨h, y1, y2, y3, y4, rfl, rfl⟩
      obtain ⟨t1, t2⟩ := block_two (M := M) (most := most) (xs := xs) (a := a) (b := b) (by omega) (by omega) hr g0 g1
      have bad : most < one ∨ most < two → BK M most xs (putN a 5 32 ++ putN b 5 32) 100 0 [] false 0 0 [] := fun h => by
        have h := t1 (by rw [← ha, ← hb]; exact h)
        obtain ⟨y1, y2, y3, y4⟩ := b_none (M := M) (most := most) (xs := xs) (ls := putN a 5 32 ++ putN b 5 32) (by rw [h]; decide)
        exact ⟨h, y1, y2, y3, y4, rfl, rfl⟩
      by_cases h5 : most < one
      · exact us_b1 M most one two A n c xs fa fb w hV HG HRT g0 g1 h2' i0 i1 j0 j1 (Lib.hid p2) (Lib.hid p1) (Lib.hid q2) (Lib.hid q1) hl1 hl2 hfl hN (by omega) HV2 h5 (bad (.inl h5))
      by_cases h6 : most < two
      · exact us_b2 M most one two A n c xs fa fb w hV HG HRT g0 g1 h2' i0 i1 j0 j1 (Lib.hid p2) (Lib.hid p1) (Lib.hid q2) (Lib.hid q1) hl1 hl2 hfl hN (by omega) HV2 (by omega) h6 (bad (.inr h6))
      obtain ⟨z1, z2, z3, z4⟩ := t2 (by rw [← ha]; exact h5) (by rw [← hb]; exact h6)
      obtain ⟨r1, r2, r3, r4⟩ := res_ok (m := one) hr i0 (by omega)
      obtain ⟨s1, s2, s3, s4⟩ := res_ok (m := two) r4 j0 (by omega)
      have hk1 := keep_sub one xs
      have hk2 := keep_sub two (keep one xs)
      have hln := full_len (keep two (keep one xs))
      have hsm : sameB two (keep two (keep one xs)) two (keep two (keep one xs)) = true := by unfold sameB; simp
      rw [← hb] at z3
      rw [← ha, ← hb] at z4
      have hG : bG M most xs (putN a 5 32 ++ putN b 5 32) = false := by
        have := bG_of (M := M) (most := most) (xs := xs) (ls := putN a 5 32 ++ putN b 5 32) z1 rfl
        have hk : bAll M most xs (putN a 5 32 ++ putN b 5 32) = [] := block_two_all (by omega) (by omega) hr g0 g1 (by rw [← ha]; exact h5) (by rw [← hb]; exact h6)
        rw [this.2, hk]
        rfl
      exact us_main M most one two A n c xs fa fb w hV HG HRT g0 g1 h2' i0 i1 j0 j1 (Lib.hid p2) (Lib.hid p1) (Lib.hid q2) (Lib.hid q1) hl1 hl2 hfl hN (by omega) HV2 (by omega) (by omega) ⟨z1, z2, hG, z3, z4, rfl, rfl⟩ (Lib.hid ⟨r2, r1, r3, rfl⟩) (Lib.hid ⟨s2, s1, s3, rfl⟩) (Lib.hid (by omega)) (Lib.hid (by omega)) (Lib.hid hsm)
end Go.Proofs.YtfejohfplnbdkaaDoor
