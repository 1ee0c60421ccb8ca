/- TableSizes: the law. -/
import Derived.Test.YtgplkjifgagjpaaDoorGQuiet
import Derived.Test.YtgplkjifgagjpaaDoorTbW
namespace Go.Proofs.YtgplkjifgagjpaaDoor
open Go.RowKit Tb
set_option linter.unusedVariables false
set_option linter.unusedSimpArgs false
set_option maxRecDepth 100000 in
set_option maxHeartbeats 4000000 in
theorem ls_G1 (M : Int) (A : Option Addr) (n c : Nat) (xs : List Fd) (m : Int) (w : World) (hR : Stv w) (hA : Fs w w.heap.size A n xs) (HG : Hid (∀ w0 : World, Fs w0 w0.heap.size A n xs → Calls Tryd.prog 8 #[.slice A n c] w0 fun e w' => e = .returned (.bool true) ∧ Below w0.heap.size w0 w')) :
    Calls Tryd.prog 5 #[.agg #[.int .i64 M, .slice A n c], .int .i64 m] w fun e w' => e = .returned (.bool true) ∧ Below w.heap.size w w' := by
  have K0 : Hid (EnvF (w.alloc (.cells #[.int .i64 M, .slice A n c] 24)) [fF A n xs, stF] [(w.heap.size, #[.int .i64 M, .slice A n c], 24)]) := Lib.hid (((envS w hR).addF hA).boxg 24 #[.int .i64 M, .slice A n c] (w.heap.size) (by simp))
  have B0 : Hid (Below w.heap.size w (w.alloc (.cells #[.int .i64 M, .slice A n c] 24))) := Lib.hid ((Below.refl _ w).alloc (by first | exact Nat.le_refl _ | (simp only [World.size_alloc]; omega)) (.cells #[.int .i64 M, .slice A n c] 24))
  go_enter Tryd.func5, Tryd.ntmps5
  go_wp2_with (first
    | go_skip
    | (refine at_load 22 (.tmp 10) (by rfl) ?_; refine wpList_get (by rfl) 22 (.tmp 10) (by rfl) (w.heap.size) 1 (by rfl) 24 #[.int .i64 M, .slice A n c] (.slice A n c) _ (K0.out.row 0 rfl) (by rfl) Tryd.underlying22 (by rfl) ?_)
    | (go_at_call 8; (have hc := (HG.out (w.alloc (.cells #[.int .i64 M, .slice A n c] 24)) (K0.out.fs (A := A) (n := n) (xs := xs) (by simp))); (with_reducible refine hc.mono ?_); clear hc); rintro e w1 ⟨rfl, hb⟩; have K1 : Hid (EnvF w1 [fF A n xs, stF] [(w.heap.size, #[.int .i64 M, .slice A n c], 24)]) := Lib.hid (K0.out.on hb); have B1 : Hid (Below w.heap.size w w1) := Lib.hid (below_step B0.out hb); clear hb K0 B0)
    | (go_at_call 9; (have hc := (wakes9 w1 (Tb.EnvF.stv K1.out (by simp))); (with_reducible refine hc.mono ?_); clear hc); rintro e w2 ⟨rfl, hb⟩; have K2 : Hid (EnvF w2 [fF A n xs, stF] [(w.heap.size, #[.int .i64 M, .slice A n c], 24)]) := Lib.hid (K1.out.on hb); have B2 : Hid (Below w.heap.size w w2) := Lib.hid (below_step B1.out hb); clear hb K1 B1))
  go_ret
  exact ⟨rfl, B2.out⟩
set_option maxRecDepth 100000 in
set_option maxHeartbeats 4000000 in
theorem ls_G2 (M : Int) (A : Option Addr) (n c : Nat) (xs : List Fd) (m : Int) (w : World) (hR : Stv w) (hA : Fs w w.heap.size A n xs) (HG : Hid (∀ w0 : World, Fs w0 w0.heap.size A n xs → Calls Tryd.prog 8 #[.slice A n c] w0 fun e w' => e = .returned (.bool false) ∧ Below w0.heap.size w0 w')) (HRT : Hid (∀ w0 : World, Fs w0 w0.heap.size A n xs → Calls Tryd.prog 20 #[.agg #[.int .i64 M, .slice A n c]] w0 fun e w' => e = .returned (.bool false) ∧ Below w0.heap.size w0 w')) :
    Calls Tryd.prog 5 #[.agg #[.int .i64 M, .slice A n c], .int .i64 m] w fun e w' => e = .returned (.bool true) ∧ Below w.heap.size w w' := by
  have K0 : Hid (EnvF (w.alloc (.cells #[.int .i64 M, .slice A n c] 24)) [fF A n xs, stF] [(w.heap.size, #[.int .i64 M, .slice A n c], 24)]) := Lib.hid (((envS w hR).addF hA).boxg 24 #[.int .i64 M, .slice A n c] (w.heap.size) (by simp))
  have B0 : Hid (Below w.heap.size w (w.alloc (.cells #[.int .i64 M, .slice A n c] 24))) := Lib.hid ((Below.refl _ w).alloc (by first | exact Nat.le_refl _ | (simp only [World.size_alloc]; omega)) (.cells #[.int .i64 M, .slice A n c] 24))
  go_enter Tryd.func5, Tryd.ntmps5
  go_wp2_with (first
    | go_skip
    | (refine at_load 22 (.tmp 10) (by rfl) ?_; refine wpList_get (by rfl) 22 (.tmp 10) (by rfl) (w.heap.size) 1 (by rfl) 24 #[.int .i64 M, .slice A n c] (.slice A n c) _ (K0.out.row 0 rfl) (by rfl) Tryd.underlying22 (by rfl) ?_)
    | (go_at_call 8; (have hc := (HG.out (w.alloc (.cells #[.int .i64 M, .slice A n c] 24)) (K0.out.fs (A := A) (n := n) (xs := xs) (by simp))); (with_reducible refine hc.mono ?_); clear hc); rintro e w1 ⟨rfl, hb⟩; have K1 : Hid (EnvF w1 [fF A n xs, stF] [(w.heap.size, #[.int .i64 M, .slice A n c], 24)]) := Lib.hid (K0.out.on hb); have B1 : Hid (Below w.heap.size w w1) := Lib.hid (below_step B0.out hb); clear hb K0 B0)
    | (refine at_load 24 (.tmp 2) (by rfl) ?_; refine wpListG_row (by kernel_rfl) 24 (.tmp 2) (by rfl) (w.heap.size) (by rfl) 24 #[.int .i64 M, .slice A n c] _ (K1.out.row 0 rfl) Tryd.underlying24 (by rfl) infoc_T ?_)
    | (go_at_call 20; (have hc := (HRT.out w1 (K1.out.fs (A := A) (n := n) (xs := xs) (by simp))); (with_reducible refine hc.mono ?_); clear hc); rintro e w2 ⟨rfl, hb⟩; have K2 : Hid (EnvF w2 [fF A n xs, stF] [(w.heap.size, #[.int .i64 M, .slice A n c], 24)]) := Lib.hid (K1.out.on hb); have B2 : Hid (Below w.heap.size w w2) := Lib.hid (below_step B1.out hb); clear hb K1 B1)
    | (go_at_call 9; (have hc := (wakes9 w2 (Tb.EnvF.stv K2.out (by simp))); (with_reducible refine hc.mono ?_); clear hc); rintro e w3 ⟨rfl, hb⟩; have K3 : Hid (EnvF w3 [fF A n xs, stF] [(w.heap.size, #[.int .i64 M, .slice A n c], 24)]) := Lib.hid (K2.out.on hb); have B3 : Hid (Below w.heap.size w w3) := Lib.hid (below_step B2.out hb); clear hb K2 B2))
  go_ret
  exact ⟨rfl, B3.out⟩
set_option maxRecDepth 100000 in
set_option maxHeartbeats 4000000 in
theorem ls_lo (M : Int) (A : Option Addr) (n c : Nat) (xs : List Fd) (m : Int) (w : World) (hR : Stv w) (hA : Fs w w.heap.size A n xs) (HG : Hid (∀ w0 : World, Fs w0 w0.heap.size A n xs → Calls Tryd.prog 8 #[.slice A n c] w0 fun e w' => e = .returned (.bool false) ∧ Below w0.heap.size w0 w')) (HRT : Hid (∀ w0 : World, Fs w0 w0.heap.size A n xs → Calls Tryd.prog 20 #[.agg #[.int .i64 M, .slice A n c]] w0 fun e w' => e = .returned (.bool true) ∧ Below w0.heap.size w0 w')) (d0 : decide (m < 0) = true) (HR1 : Hid (∀ w0 : World, Fs w0 w0.heap.size A n xs → Calls Tryd.prog 23 #[.agg #[.int .i64 M, .slice A n c], .int .i64 m] w0 fun e w' => ∃ A3 c3, e = .returned (.tuple #[.agg #[.int .i64 0, .slice A3 0 c3], .int .i64 2]) ∧ OwnF w' w0.heap.size 26 (.slice A3 0 c3) ([]) ∧ Below w0.heap.size w0 w')) :
    Calls Tryd.prog 5 #[.agg #[.int .i64 M, .slice A n c], .int .i64 m] w fun e w' => e = .returned (.bool true) ∧ Below w.heap.size w w' := by
  have K0 : Hid (EnvF (w.alloc (.cells #[.int .i64 M, .slice A n c] 24)) [fF A n xs, stF] [(w.heap.size, #[.int .i64 M, .slice A n c], 24)]) := Lib.hid (((envS w hR).addF hA).boxg 24 #[.int .i64 M, .slice A n c] (w.heap.size) (by simp))
  have B0 : Hid (Below w.heap.size w (w.alloc (.cells #[.int .i64 M, .slice A n c] 24))) := Lib.hid ((Below.refl _ w).alloc (by first | exact Nat.le_refl _ | (simp only [World.size_alloc]; omega)) (.cells #[.int .i64 M, .slice A n c] 24))
  go_enter Tryd.func5, Tryd.ntmps5
  go_wp2_with (first
    | go_skip
    | (refine at_load 22 (.tmp 10) (by rfl) ?_; refine wpList_get (by rfl) 22 (.tmp 10) (by rfl) (w.heap.size) 1 (by rfl) 24 #[.int .i64 M, .slice A n c] (.slice A n c) _ (K0.out.row 0 rfl) (by rfl) Tryd.underlying22 (by rfl) ?_)
    | (go_at_call 8; (have hc := (HG.out (w.alloc (.cells #[.int .i64 M, .slice A n c] 24)) (K0.out.fs (A := A) (n := n) (xs := xs) (by simp))); (with_reducible refine hc.mono ?_); clear hc); rintro e w1 ⟨rfl, hb⟩; have K1 : Hid (EnvF w1 [fF A n xs, stF] [(w.heap.size, #[.int .i64 M, .slice A n c], 24)]) := Lib.hid (K0.out.on hb); have B1 : Hid (Below w.heap.size w w1) := Lib.hid (below_step B0.out hb); clear hb K0 B0)
    | (refine at_load 24 (.tmp 2) (by rfl) ?_; refine wpListG_row (by kernel_rfl) 24 (.tmp 2) (by rfl) (w.heap.size) (by rfl) 24 #[.int .i64 M, .slice A n c] _ (K1.out.row 0 rfl) Tryd.underlying24 (by rfl) infoc_T ?_)
    | (go_at_call 20; (have hc := (HRT.out w1 (K1.out.fs (A := A) (n := n) (xs := xs) (by simp))); (with_reducible refine hc.mono ?_); clear hc); rintro e w2 ⟨rfl, hb⟩; have K2 : Hid (EnvF w2 [fF A n xs, stF] [(w.heap.size, #[.int .i64 M, .slice A n c], 24)]) := Lib.hid (K1.out.on hb); have B2 : Hid (Below w.heap.size w w2) := Lib.hid (below_step B1.out hb); clear hb K1 B1)
    | (refine at_load 24 (.tmp 2) (by rfl) ?_; refine wpList_load_row (by rfl) 24 (.tmp 2) (by rfl) (w.heap.size) (by rfl) 24 #[.int .i64 M, .slice A n c] (0, 0) _ (K2.out.row 0 rfl) Tryd.underlying24 (by rfl) infoc_T ?_)
    | (go_at_call 23; (have hc := (HR1.out w2 (K2.out.fs (A := A) (n := n) (xs := xs) (by simp))); (with_reducible refine hc.mono ?_); clear hc); rintro e w3 ⟨A3, c3, rfl, ho, hb⟩; have K3 : Hid (EnvF w3 [oF w.heap.size 26 (.slice A3 0 c3) ([]), fF A3 0 ([]), fF A n xs, stF] [(w.heap.size, #[.int .i64 M, .slice A n c], 24)]) := Lib.hid (K2.out.handO hb ho B2.out.size); have B3 : Hid (Below w.heap.size w w3) := Lib.hid (below_step B2.out hb); clear hb ho K2 B2; have leo : w.heap.size ≤ w3.heap.size := (by have := B3.out.size; (try simp only [World.size_alloc] at this); omega); have K4 : Hid (EnvF (w3.alloc (.cells #[.int .i64 0, .slice none 0 0] 24)) [oF w.heap.size 26 (.slice A3 0 c3) ([]), fF A3 0 ([]), fF A n xs, stF] [(w3.heap.size, #[.int .i64 0, .slice none 0 0], 24), (w.heap.size, #[.int .i64 M, .slice A n c], 24)]) := Lib.hid (K3.out.boxg 24 #[.int .i64 0, .slice none 0 0] (w3.heap.size) (by simp)); have B4 : Hid (Below w.heap.size w (w3.alloc (.cells #[.int .i64 0, .slice none 0 0] 24))) := Lib.hid (B3.out.alloc B3.out.size (.cells #[.int .i64 0, .slice none 0 0] 24)); clear K3 B3)
    | (refine at_store 24 (.tmp 5) (.tmp 23) (by rfl) ?_; refine wpList_put (by rfl) 24 (.tmp 5) (.tmp 23) (by rfl) (w3.heap.size) 0 (.agg #[.int .i64 0, .slice A3 0 c3]) (by rfl) (by rfl) 24 #[.int .i64 0, .slice none 0 0] #[.int .i64 0, .slice A3 0 c3] (K4.out.row 0 rfl) (by simp [Value.cells]) (by kernel_rfl) infoc_T (by kernel_rfl) ?_; intro w5 hrow hoth hz hbl; have K5 : Hid (EnvF w5 [oF w.heap.size 26 (.slice A3 0 c3) ([]), fF A3 0 ([]), fF A n xs, stF] [(w3.heap.size, #[.int .i64 0, .slice A3 0 c3], 24), (w.heap.size, #[.int .i64 M, .slice A n c], 24)]) := Lib.hid (K4.out.turn 0 rfl hrow hoth hz); have B5 : Hid (Below w.heap.size w w5) := Lib.hid (hbl _ _ leo B4.out); clear hrow hoth hz hbl K4 B4)
    | (refine at_load 22 (.tmp 34) (by rfl) ?_; refine wpListG_get (by kernel_rfl) 22 (.tmp 34) (by rfl) (w3.heap.size) 1 (by rfl) 24 #[.int .i64 0, .slice A3 0 c3] (.slice A3 0 c3) _ (K5.out.row 0 rfl) (by rfl) Tryd.underlying22 (by rfl) ?_)
    | (go_at_call 9; (have hc := (wakes9 w5 (Tb.EnvF.stv K5.out (by simp))); (with_reducible refine hc.mono ?_); clear hc); rintro e w6 ⟨rfl, hb⟩; have K6 : Hid (EnvF w6 [oF w.heap.size 26 (.slice A3 0 c3) ([]), fF A3 0 ([]), fF A n xs, stF] [(w3.heap.size, #[.int .i64 0, .slice A3 0 c3], 24), (w.heap.size, #[.int .i64 M, .slice A n c], 24)]) := Lib.hid (K5.out.on hb); have B6 : Hid (Below w.heap.size w w6) := Lib.hid (below_step B5.out hb); clear hb K5 B5))
  go_ret
  exact ⟨rfl, B6.out⟩
set_option maxRecDepth 100000 in
set_option maxHeartbeats 4000000 in
theorem ls_hi (M : Int) (A : Option Addr) (n c : Nat) (xs : List Fd) (m : Int) (w : World) (hR : Stv w) (hA : Fs w w.heap.size A n xs) (HG : Hid (∀ w0 : World, Fs w0 w0.heap.size A n xs → Calls Tryd.prog 8 #[.slice A n c] w0 fun e w' => e = .returned (.bool false) ∧ Below w0.heap.size w0 w')) (HRT : Hid (∀ w0 : World, Fs w0 w0.heap.size A n xs → Calls Tryd.prog 20 #[.agg #[.int .i64 M, .slice A n c]] w0 fun e w' => e = .returned (.bool true) ∧ Below w0.heap.size w0 w')) (d0 : decide (m < 0) = false) (d1 : decide (4096 < m) = true) (HR1 : Hid (∀ w0 : World, Fs w0 w0.heap.size A n xs → Calls Tryd.prog 23 #[.agg #[.int .i64 M, .slice A n c], .int .i64 m] w0 fun e w' => ∃ A3 c3, e = .returned (.tuple #[.agg #[.int .i64 0, .slice A3 0 c3], .int .i64 2]) ∧ OwnF w' w0.heap.size 26 (.slice A3 0 c3) ([]) ∧ Below w0.heap.size w0 w')) :
    Calls Tryd.prog 5 #[.agg #[.int .i64 M, .slice A n c], .int .i64 m] w fun e w' => e = .returned (.bool true) ∧ Below w.heap.size w w' := by
  have K0 : Hid (EnvF (w.alloc (.cells #[.int .i64 M, .slice A n c] 24)) [fF A n xs, stF] [(w.heap.size, #[.int .i64 M, .slice A n c], 24)]) := Lib.hid (((envS w hR).addF hA).boxg 24 #[.int .i64 M, .slice A n c] (w.heap.size) (by simp))
  have B0 : Hid (Below w.heap.size w (w.alloc (.cells #[.int .i64 M, .slice A n c] 24))) := Lib.hid ((Below.refl _ w).alloc (by first | exact Nat.le_refl _ | (simp only [World.size_alloc]; omega)) (.cells #[.int .i64 M, .slice A n c] 24))
  go_enter Tryd.func5, Tryd.ntmps5
  go_wp2_with (first
    | go_skip
    | (refine at_load 22 (.tmp 10) (by rfl) ?_; refine wpList_get (by rfl) 22 (.tmp 10) (by rfl) (w.heap.size) 1 (by rfl) 24 #[.int .i64 M, .slice A n c] (.slice A n c) _ (K0.out.row 0 rfl) (by rfl) Tryd.underlying22 (by rfl) ?_)
    | (go_at_call 8; (have hc := (HG.out (w.alloc (.cells #[.int .i64 M, .slice A n c] 24)) (K0.out.fs (A := A) (n := n) (xs := xs) (by simp))); (with_reducible refine hc.mono ?_); clear hc); rintro e w1 ⟨rfl, hb⟩; have K1 : Hid (EnvF w1 [fF A n xs, stF] [(w.heap.size, #[.int .i64 M, .slice A n c], 24)]) := Lib.hid (K0.out.on hb); have B1 : Hid (Below w.heap.size w w1) := Lib.hid (below_step B0.out hb); clear hb K0 B0)
    | (refine at_load 24 (.tmp 2) (by rfl) ?_; refine wpListG_row (by kernel_rfl) 24 (.tmp 2) (by rfl) (w.heap.size) (by rfl) 24 #[.int .i64 M, .slice A n c] _ (K1.out.row 0 rfl) Tryd.underlying24 (by rfl) infoc_T ?_)
    | (go_at_call 20; (have hc := (HRT.out w1 (K1.out.fs (A := A) (n := n) (xs := xs) (by simp))); (with_reducible refine hc.mono ?_); clear hc); rintro e w2 ⟨rfl, hb⟩; have K2 : Hid (EnvF w2 [fF A n xs, stF] [(w.heap.size, #[.int .i64 M, .slice A n c], 24)]) := Lib.hid (K1.out.on hb); have B2 : Hid (Below w.heap.size w w2) := Lib.hid (below_step B1.out hb); clear hb K1 B1)
    | (refine at_load 24 (.tmp 2) (by rfl) ?_; refine wpList_load_row (by rfl) 24 (.tmp 2) (by rfl) (w.heap.size) (by rfl) 24 #[.int .i64 M, .slice A n c] (0, 0) _ (K2.out.row 0 rfl) Tryd.underlying24 (by rfl) infoc_T ?_)
    | (go_at_call 23; (have hc := (HR1.out w2 (K2.out.fs (A := A) (n := n) (xs := xs) (by simp))); (with_reducible refine hc.mono ?_); clear hc); rintro e w3 ⟨A3, c3, rfl, ho, hb⟩; have K3 : Hid (EnvF w3 [oF w.heap.size 26 (.slice A3 0 c3) ([]), fF A3 0 ([]), fF A n xs, stF] [(w.heap.size, #[.int .i64 M, .slice A n c], 24)]) := Lib.hid (K2.out.handO hb ho B2.out.size); have B3 : Hid (Below w.heap.size w w3) := Lib.hid (below_step B2.out hb); clear hb ho K2 B2; have leo : w.heap.size ≤ w3.heap.size := (by have := B3.out.size; (try simp only [World.size_alloc] at this); omega); have K4 : Hid (EnvF (w3.alloc (.cells #[.int .i64 0, .slice none 0 0] 24)) [oF w.heap.size 26 (.slice A3 0 c3) ([]), fF A3 0 ([]), fF A n xs, stF] [(w3.heap.size, #[.int .i64 0, .slice none 0 0], 24), (w.heap.size, #[.int .i64 M, .slice A n c], 24)]) := Lib.hid (K3.out.boxg 24 #[.int .i64 0, .slice none 0 0] (w3.heap.size) (by simp)); have B4 : Hid (Below w.heap.size w (w3.alloc (.cells #[.int .i64 0, .slice none 0 0] 24))) := Lib.hid (B3.out.alloc B3.out.size (.cells #[.int .i64 0, .slice none 0 0] 24)); clear K3 B3)
    | (refine at_store 24 (.tmp 5) (.tmp 23) (by rfl) ?_; refine wpList_put (by rfl) 24 (.tmp 5) (.tmp 23) (by rfl) (w3.heap.size) 0 (.agg #[.int .i64 0, .slice A3 0 c3]) (by rfl) (by rfl) 24 #[.int .i64 0, .slice none 0 0] #[.int .i64 0, .slice A3 0 c3] (K4.out.row 0 rfl) (by simp [Value.cells]) (by kernel_rfl) infoc_T (by kernel_rfl) ?_; intro w5 hrow hoth hz hbl; have K5 : Hid (EnvF w5 [oF w.heap.size 26 (.slice A3 0 c3) ([]), fF A3 0 ([]), fF A n xs, stF] [(w3.heap.size, #[.int .i64 0, .slice A3 0 c3], 24), (w.heap.size, #[.int .i64 M, .slice A n c], 24)]) := Lib.hid (K4.out.turn 0 rfl hrow hoth hz); have B5 : Hid (Below w.heap.size w w5) := Lib.hid (hbl _ _ leo B4.out); clear hrow hoth hz hbl K4 B4)
    | (refine at_load 22 (.tmp 34) (by rfl) ?_; refine wpListG_get (by kernel_rfl) 22 (.tmp 34) (by rfl) (w3.heap.size) 1 (by rfl) 24 #[.int .i64 0, .slice A3 0 c3] (.slice A3 0 c3) _ (K5.out.row 0 rfl) (by rfl) Tryd.underlying22 (by rfl) ?_)
    | (go_at_call 9; (have hc := (wakes9 w5 (Tb.EnvF.stv K5.out (by simp))); (with_reducible refine hc.mono ?_); clear hc); rintro e w6 ⟨rfl, hb⟩; have K6 : Hid (EnvF w6 [oF w.heap.size 26 (.slice A3 0 c3) ([]), fF A3 0 ([]), fF A n xs, stF] [(w3.heap.size, #[.int .i64 0, .slice A3 0 c3], 24), (w.heap.size, #[.int .i64 M, .slice A n c], 24)]) := Lib.hid (K5.out.on hb); have B6 : Hid (Below w.heap.size w w6) := Lib.hid (below_step B5.out hb); clear hb K5 B5))
  go_ret
  exact ⟨rfl, B6.out⟩
set_option maxRecDepth 100000 in
set_option maxHeartbeats 40000000 in
theorem ls_main (M : Int) (A : Option Addr) (n c : Nat) (xs : List Fd) (m : Int) (w : World) (hR : Stv w) (hA : Fs w w.heap.size A n xs) (hnc : n ≤ c) (hcm : c ≤ maxLen) (hnm : n ≤ 140) (hF : full xs ≤ 9480) (hm0 : 0 ≤ m) (d0 : decide (m < 0) = false) (d1 : decide (4096 < m) = false) (HG : Hid (∀ w0 : World, Fs w0 w0.heap.size A n xs → Calls Tryd.prog 8 #[.slice A n c] w0 fun e w' => e = .returned (.bool false) ∧ Below w0.heap.size w0 w')) (HRT : Hid (∀ w0 : World, Fs w0 w0.heap.size A n xs → Calls Tryd.prog 20 #[.agg #[.int .i64 M, .slice A n c]] w0 fun e w' => e = .returned (.bool true) ∧ Below w0.heap.size w0 w')) (k : Nat) (hk : fit m xs = k) (HR1 : Hid (∀ w0 : World, Fs w0 w0.heap.size A n xs → Calls Tryd.prog 23 #[.agg #[.int .i64 M, .slice A n c], .int .i64 m] w0 fun e w' => ∃ A3 c3, e = .returned (.tuple #[.agg #[.int .i64 m, .slice A3 k c3], .int .i64 0]) ∧ OwnF w' w0.heap.size 26 (.slice A3 k c3) (keep m xs) ∧ Below w0.heap.size w0 w')) (HR2 : Hid (∀ w0 : World, Fs w0 w0.heap.size A n xs → Calls Tryd.prog 23 #[.agg #[.int .i64 M, .slice A n c], .int .i64 M] w0 fun e w' => ∃ A3 c3, e = .returned (.tuple #[.agg #[.int .i64 M, .slice A3 n c3], .int .i64 0]) ∧ OwnF w' w0.heap.size 26 (.slice A3 n c3) (xs) ∧ Below w0.heap.size w0 w')) (HM : Hid (rightB m (keep m xs) = true)) :
    Calls Tryd.prog 5 #[.agg #[.int .i64 M, .slice A n c], .int .i64 m] w fun e w' => e = .returned (.bool true) ∧ Below w.heap.size w w' := by
  have hn := hA.1
  have hkl : k ≤ n := by have h := fit_le m xs; rw [hn, hk] at h; exact h
  have hke : keep m xs = xs.take k := by unfold keep; rw [hk]
  have HKE := Lib.hid hke
  have hkl2 : (keep m xs).length = k := by rw [keep_len, hk]
  have hkc : k ≤ c := by omega
  have hcm2 : c ≤ 9223372036854775807 := by unfold maxLen at hcm; omega
  have dk : decide ((n : Int) < (k : Int)) = false := decide_eq_false (by omega)
  clear hke hcm
  have K0 : Hid (EnvF (w.alloc (.cells #[.int .i64 M, .slice A n c] 24)) [fF A n xs, stF] [(w.heap.size, #[.int .i64 M, .slice A n c], 24)]) := Lib.hid (((envS w hR).addF hA).boxg 24 #[.int .i64 M, .slice A n c] (w.heap.size) (by simp))
  have B0 : Hid (Below w.heap.size w (w.alloc (.cells #[.int .i64 M, .slice A n c] 24))) := Lib.hid ((Below.refl _ w).alloc (by first | exact Nat.le_refl _ | (simp only [World.size_alloc]; omega)) (.cells #[.int .i64 M, .slice A n c] 24))
  go_enter Tryd.func5, Tryd.ntmps5
  go_wp2_with (first
    | go_skip
    | (refine at_load 22 (.tmp 10) (by rfl) ?_; refine wpList_get (by rfl) 22 (.tmp 10) (by rfl) (w.heap.size) 1 (by rfl) 24 #[.int .i64 M, .slice A n c] (.slice A n c) _ (K0.out.row 0 rfl) (by rfl) Tryd.underlying22 (by rfl) ?_)
    | (go_at_call 8; (have hc := (HG.out (w.alloc (.cells #[.int .i64 M, .slice A n c] 24)) (K0.out.fs (A := A) (n := n) (xs := xs) (by simp))); (with_reducible refine hc.mono ?_); clear hc); rintro e w1 ⟨rfl, hb⟩; have K1 : Hid (EnvF w1 [fF A n xs, stF] [(w.heap.size, #[.int .i64 M, .slice A n c], 24)]) := Lib.hid (K0.out.on hb); have B1 : Hid (Below w.heap.size w w1) := Lib.hid (below_step B0.out hb); clear hb K0 B0)
    | (refine at_load 24 (.tmp 2) (by rfl) ?_; refine wpListG_row (by kernel_rfl) 24 (.tmp 2) (by rfl) (w.heap.size) (by rfl) 24 #[.int .i64 M, .slice A n c] _ (K1.out.row 0 rfl) Tryd.underlying24 (by rfl) infoc_T ?_)
    | (go_at_call 20; (have hc := (HRT.out w1 (K1.out.fs (A := A) (n := n) (xs := xs) (by simp))); (with_reducible refine hc.mono ?_); clear hc); rintro e w2 ⟨rfl, hb⟩; have K2 : Hid (EnvF w2 [fF A n xs, stF] [(w.heap.size, #[.int .i64 M, .slice A n c], 24)]) := Lib.hid (K1.out.on hb); have B2 : Hid (Below w.heap.size w w2) := Lib.hid (below_step B1.out hb); clear hb K1 B1)
    | (refine at_load 24 (.tmp 2) (by rfl) ?_; refine wpList_load_row (by rfl) 24 (.tmp 2) (by rfl) (w.heap.size) (by rfl) 24 #[.int .i64 M, .slice A n c] (0, 0) _ (K2.out.row 0 rfl) Tryd.underlying24 (by rfl) infoc_T ?_)
    | (go_at_call 23; (have hc := (HR1.out w2 (K2.out.fs (A := A) (n := n) (xs := xs) (by simp))); (with_reducible refine hc.mono ?_); clear hc); rintro e w3 ⟨A3, c3, rfl, ho, hb⟩; have K3 : Hid (EnvF w3 [oF w.heap.size 26 (.slice A3 k c3) (keep m xs), fF A3 k (keep m xs), fF A n xs, stF] [(w.heap.size, #[.int .i64 M, .slice A n c], 24)]) := Lib.hid (K2.out.handO hb ho B2.out.size); have B3 : Hid (Below w.heap.size w w3) := Lib.hid (below_step B2.out hb); clear hb ho K2 B2; have leo : w.heap.size ≤ w3.heap.size := (by have := B3.out.size; (try simp only [World.size_alloc] at this); omega); have K4 : Hid (EnvF (w3.alloc (.cells #[.int .i64 0, .slice none 0 0] 24)) [oF w.heap.size 26 (.slice A3 k c3) (keep m xs), fF A3 k (keep m xs), fF A n xs, stF] [(w3.heap.size, #[.int .i64 0, .slice none 0 0], 24), (w.heap.size, #[.int .i64 M, .slice A n c], 24)]) := Lib.hid (K3.out.boxg 24 #[.int .i64 0, .slice none 0 0] (w3.heap.size) (by simp)); have B4 : Hid (Below w.heap.size w (w3.alloc (.cells #[.int .i64 0, .slice none 0 0] 24))) := Lib.hid (B3.out.alloc B3.out.size (.cells #[.int .i64 0, .slice none 0 0] 24)); clear K3 B3)
    | (refine at_store 24 (.tmp 5) (.tmp 23) (by rfl) ?_; refine wpList_put (by rfl) 24 (.tmp 5) (.tmp 23) (by rfl) (w3.heap.size) 0 (.agg #[.int .i64 m, .slice A3 k c3]) (by rfl) (by rfl) 24 #[.int .i64 0, .slice none 0 0] #[.int .i64 m, .slice A3 k c3] (K4.out.row 0 rfl) (by simp [Value.cells]) (by kernel_rfl) infoc_T (by kernel_rfl) ?_; intro w5 hrow hoth hz hbl; have K5 : Hid (EnvF w5 [oF w.heap.size 26 (.slice A3 k c3) (keep m xs), fF A3 k (keep m xs), fF A n xs, stF] [(w3.heap.size, #[.int .i64 m, .slice A3 k c3], 24), (w.heap.size, #[.int .i64 M, .slice A n c], 24)]) := Lib.hid (K4.out.turn 0 rfl hrow hoth hz); have B5 : Hid (Below w.heap.size w w5) := Lib.hid (hbl _ _ leo B4.out); clear hrow hoth hz hbl K4 B4)
    | (refine at_load 22 (.tmp 42) (by rfl) ?_; refine wpList_get (by rfl) 22 (.tmp 42) (by rfl) (w3.heap.size) 1 (by rfl) 24 #[.int .i64 m, .slice A3 k c3] (.slice A3 k c3) _ (K5.out.row 0 rfl) (by rfl) Tryd.underlying22 (by rfl) ?_))
  refine q_start (fun W => EnvF W [oF w.heap.size 26 (.slice A3 k c3) (keep m xs), fF A3 k (keep m xs), fF A n xs, stF] [(w3.heap.size, #[.int .i64 m, .slice A3 k c3], 24), (w.heap.size, #[.int .i64 M, .slice A n c], 24)] ∧ Below w.heap.size w W) (by kernel_rfl) (by kernel_rfl) ⟨K5.out.drew, B5.out.drew⟩ ?_
  refine q_move (by rfl) (.tmp 6) (by rfl) ?_
  simp only [Act.put, List.setIfInBounds_toArray, List.set_cons_succ, List.set_cons_zero]
  refine q_val (v := .bool false) (by rfl) (fun w => by go_simp) ?_
  simp only [Act.put, List.setIfInBounds_toArray, List.set_cons_succ, List.set_cons_zero]
  refine q_move (by rfl) (.tmp 46) (by rfl) ?_
  simp only [Act.put, List.setIfInBounds_toArray, List.set_cons_succ, List.set_cons_zero]
  refine q_val (by rfl) (fun w => by go_simp; rfl) ?_
  simp only [Act.put, List.setIfInBounds_toArray, List.set_cons_succ, List.set_cons_zero]
  refine q_get (by rfl) 3 (.tmp 48) (by rfl) (w3.heap.size) 0 (by rfl) 24 #[.int .i64 m, .slice A3 k c3] (.int .i64 m) _ (fun W hW => hW.1.row 0 rfl) (by rfl) Tryd.underlying3 (by rfl) ?_
  simp only [Act.put, List.setIfInBounds_toArray, List.set_cons_succ, List.set_cons_zero]
  refine q_move (by rfl) (.tmp 1) (by rfl) ?_
  simp only [Act.put, List.setIfInBounds_toArray, List.set_cons_succ, List.set_cons_zero]
  refine q_val (v := .bool false) (by rfl) (fun w => by go_simp) ?_
  simp only [Act.put, List.setIfInBounds_toArray, List.set_cons_succ, List.set_cons_zero]
  refine q_val (v := .bool false) (by rfl) (fun w => by go_simp) ?_
  simp only [Act.put, List.setIfInBounds_toArray, List.set_cons_succ, List.set_cons_zero]
  refine q_move (by rfl) (.tmp 52) (by rfl) ?_
  simp only [Act.put, List.setIfInBounds_toArray, List.set_cons_succ, List.set_cons_zero]
  refine q_move (by rfl) (.tmp 7) (by rfl) ?_
  simp only [Act.put, List.setIfInBounds_toArray, List.set_cons_succ, List.set_cons_zero]
  refine q_val (by rfl) (fun w => by go_simp; rfl) ?_
  simp only [Act.put, List.setIfInBounds_toArray, List.set_cons_succ, List.set_cons_zero]
  refine q_get (by rfl) 22 (.tmp 55) (by rfl) (w.heap.size) 1 (by rfl) 24 #[.int .i64 M, .slice A n c] (.slice A n c) _ (fun W hW => hW.1.row 1 rfl) (by rfl) Tryd.underlying22 (by rfl) ?_
  simp only [Act.put, List.setIfInBounds_toArray, List.set_cons_succ, List.set_cons_zero]
  refine q_val (by rfl) (fun w => by go_simp; rfl) ?_
  simp only [Act.put, List.setIfInBounds_toArray, List.set_cons_succ, List.set_cons_zero]
  refine q_val (v := .bool false) (by rfl) (fun w => by go_simp) ?_
  simp only [Act.put, List.setIfInBounds_toArray, List.set_cons_succ, List.set_cons_zero]
  refine q_val (v := .bool false) (by rfl) (fun w => by go_simp) ?_
  simp only [Act.put, List.setIfInBounds_toArray, List.set_cons_succ, List.set_cons_zero]
  refine q_move (by rfl) (.tmp 59) (by rfl) ?_
  simp only [Act.put, List.setIfInBounds_toArray, List.set_cons_succ, List.set_cons_zero]
  refine q_val (by rfl) (fun w => by go_simp; rfl) ?_
  simp only [Act.put, List.setIfInBounds_toArray, List.set_cons_succ, List.set_cons_zero]
  refine q_get (by rfl) 22 (.tmp 61) (by rfl) (w3.heap.size) 1 (by rfl) 24 #[.int .i64 m, .slice A3 k c3] (.slice A3 k c3) _ (fun W hW => hW.1.row 0 rfl) (by rfl) Tryd.underlying22 (by rfl) ?_
  simp only [Act.put, List.setIfInBounds_toArray, List.set_cons_succ, List.set_cons_zero]
  refine q_val (by rfl) (fun w => by go_simp; rfl) ?_
  simp only [Act.put, List.setIfInBounds_toArray, List.set_cons_succ, List.set_cons_zero]
  refine q_get (by rfl) 22 (.tmp 63) (by rfl) (w.heap.size) 1 (by rfl) 24 #[.int .i64 M, .slice A n c] (.slice A n c) _ (fun W hW => hW.1.row 1 rfl) (by rfl) Tryd.underlying22 (by rfl) ?_
  simp only [Act.put, List.setIfInBounds_toArray, List.set_cons_succ, List.set_cons_zero]
  refine q_move (by rfl) (.tmp 7) (by rfl) ?_
  simp only [Act.put, List.setIfInBounds_toArray, List.set_cons_succ, List.set_cons_zero]
  refine q_val (v := .slice A k c) (by rfl) (fun w => by first | (go_simp; done) | (go_simp; rw [if_pos hkc])) ?_
  simp only [Act.put, List.setIfInBounds_toArray, List.set_cons_succ, List.set_cons_zero]
  refine q_call (by rfl) 30 #[.slice A3 k c3, .slice A k c] (.bool true) (fun w => by go_simp) (fun W hW => ((decide_eq_true HKE.out) ▸ r_fields A3 A k k c3 c (keep m xs) (xs.take k) W (hW.1.fs (A := A3) (n := k) (xs := keep m xs) (by simp)) ((hW.1.fs (A := A) (n := n) (xs := xs) (by simp)).take k hkl) (by omega)).mono fun e w' h => ⟨h.1, hW.1.on h.2, below_step hW.2 h.2⟩) ?_
  simp only [Act.put, List.setIfInBounds_toArray, List.set_cons_succ, List.set_cons_zero]
  refine q_val (by rfl) (fun w => by go_simp; rfl) ?_
  simp only [Act.put, List.setIfInBounds_toArray, List.set_cons_succ, List.set_cons_zero]
  refine q_val (v := .bool false) (by rfl) (fun w => by go_simp) ?_
  simp only [Act.put, List.setIfInBounds_toArray, List.set_cons_succ, List.set_cons_zero]
  refine q_move (by rfl) (.tmp 69) (by rfl) ?_
  simp only [Act.put, List.setIfInBounds_toArray, List.set_cons_succ, List.set_cons_zero]
  refine q_row (by rfl) 24 (.tmp 5) (by rfl) (w3.heap.size) (by rfl) 24 #[.int .i64 m, .slice A3 k c3] _ (fun W hW => hW.1.row 0 rfl) Tryd.underlying24 (by rfl) infoc_T ?_
  simp only [Act.put, List.setIfInBounds_toArray, List.set_cons_succ, List.set_cons_zero]
  refine q_call (by rfl) 20 #[.agg #[.int .i64 m, .slice A3 k c3]] (.bool true) (fun w => by go_simp) (fun W hW => (HM.out ▸ r_right m A3 k c3 (keep m xs) W (hW.1.fs (A := A3) (n := k) (xs := keep m xs) (by simp)) (Nat.le_trans (keep_sub _ _) (by omega))).mono fun e w' h => ⟨h.1, hW.1.on h.2, below_step hW.2 h.2⟩) ?_
  simp only [Act.put, List.setIfInBounds_toArray, List.set_cons_succ, List.set_cons_zero]
  refine q_val (by rfl) (fun w => by go_simp; rfl) ?_
  simp only [Act.put, List.setIfInBounds_toArray, List.set_cons_succ, List.set_cons_zero]
  refine q_val (v := .bool false) (by rfl) (fun w => by go_simp) ?_
  simp only [Act.put, List.setIfInBounds_toArray, List.set_cons_succ, List.set_cons_zero]
  refine wpQuiet_nil ?_
  intro wa hWa
  have KA : Hid (EnvF wa [oF w.heap.size 26 (.slice A3 k c3) (keep m xs), fF A3 k (keep m xs), fF A n xs, stF] [(w3.heap.size, #[.int .i64 m, .slice A3 k c3], 24), (w.heap.size, #[.int .i64 M, .slice A n c], 24)]) := Lib.hid hWa.1
  have BA : Hid (Below w.heap.size w wa) := Lib.hid hWa.2
  clear hWa
  have sameT : sameB M xs M xs = true := by unfold sameB; simp
  have K90 := KA
  have B90 := BA
  clear KA BA
  by_cases hend : k = n
  · subst hend
    go_wp2_with (first
      | go_skip
      | (refine at_load 24 (.tmp 2) (by rfl) ?_; refine wpList_load_row (by rfl) 24 (.tmp 2) (by rfl) (w.heap.size) (by rfl) 24 #[.int .i64 M, .slice A k c] (0, 0) _ (K90.out.row 1 rfl) Tryd.underlying24 (by rfl) infoc_T ?_)
      | (refine at_load 3 (.tmp 77) (by rfl) ?_; refine wpList_get (by rfl) 3 (.tmp 77) (by rfl) (w.heap.size) 0 (by rfl) 24 #[.int .i64 M, .slice A k c] (.int .i64 M) _ (K90.out.row 1 rfl) (by rfl) Tryd.underlying3 (by rfl) ?_)
      | (go_at_call 23; (have hc := (HR2.out wa (K90.out.fs (A := A) (n := k) (xs := xs) (by simp))); (with_reducible refine hc.mono ?_); clear hc); rintro e w91 ⟨A5, c5, rfl, ho, hb⟩; have K91 : Hid (EnvF w91 [oF w.heap.size 26 (.slice A5 k c5) (xs), fF A5 k (xs), oF w.heap.size 26 (.slice A3 k c3) (keep m xs), fF A3 k (keep m xs), fF A k xs, stF] [(w3.heap.size, #[.int .i64 m, .slice A3 k c3], 24), (w.heap.size, #[.int .i64 M, .slice A k c], 24)]) := Lib.hid (K90.out.handO hb ho B90.out.size); have B91 : Hid (Below w.heap.size w w91) := Lib.hid (below_step B90.out hb); clear hb ho K90 B90; have leq : w.heap.size ≤ w91.heap.size := (by have := B91.out.size; (try simp only [World.size_alloc] at this); omega); have K92 : Hid (EnvF (w91.alloc (.cells #[.int .i64 0, .slice none 0 0] 24)) [oF w.heap.size 26 (.slice A5 k c5) (xs), fF A5 k (xs), oF w.heap.size 26 (.slice A3 k c3) (keep m xs), fF A3 k (keep m xs), fF A k xs, stF] [(w91.heap.size, #[.int .i64 0, .slice none 0 0], 24), (w3.heap.size, #[.int .i64 m, .slice A3 k c3], 24), (w.heap.size, #[.int .i64 M, .slice A k c], 24)]) := Lib.hid (K91.out.boxg 24 #[.int .i64 0, .slice none 0 0] (w91.heap.size) (by simp)); have B92 : Hid (Below w.heap.size w (w91.alloc (.cells #[.int .i64 0, .slice none 0 0] 24))) := Lib.hid (B91.out.alloc B91.out.size (.cells #[.int .i64 0, .slice none 0 0] 24)); clear K91 B91)
      | (refine at_store 24 (.tmp 8) (.tmp 80) (by rfl) ?_; refine wpList_put (by rfl) 24 (.tmp 8) (.tmp 80) (by rfl) (w91.heap.size) 0 (.agg #[.int .i64 M, .slice A5 k c5]) (by rfl) (by rfl) 24 #[.int .i64 0, .slice none 0 0] #[.int .i64 M, .slice A5 k c5] (K92.out.row 0 rfl) (by simp [Value.cells]) (by kernel_rfl) infoc_T (by kernel_rfl) ?_; intro w93 hrow hoth hz hbl; have K93 : Hid (EnvF w93 [oF w.heap.size 26 (.slice A5 k c5) (xs), fF A5 k (xs), oF w.heap.size 26 (.slice A3 k c3) (keep m xs), fF A3 k (keep m xs), fF A k xs, stF] [(w91.heap.size, #[.int .i64 M, .slice A5 k c5], 24), (w3.heap.size, #[.int .i64 m, .slice A3 k c3], 24), (w.heap.size, #[.int .i64 M, .slice A k c], 24)]) := Lib.hid (K92.out.turn 0 rfl hrow hoth hz); have B93 : Hid (Below w.heap.size w w93) := Lib.hid (hbl _ _ leq B92.out); clear hrow hoth hz hbl K92 B92)
      | (refine at_load 22 (.tmp 83) (by rfl) ?_; refine wpList_get (by rfl) 22 (.tmp 83) (by rfl) (w.heap.size) 1 (by rfl) 24 #[.int .i64 M, .slice A k c] (.slice A k c) _ (K93.out.row 2 rfl) (by rfl) Tryd.underlying22 (by rfl) ?_)
      | (refine at_load 24 (.tmp 8) (by rfl) ?_; refine wpListG_row (by kernel_rfl) 24 (.tmp 8) (by rfl) (w91.heap.size) (by rfl) 24 #[.int .i64 M, .slice A5 k c5] _ (K93.out.row 0 rfl) Tryd.underlying24 (by rfl) infoc_T ?_)
      | (refine at_load 24 (.tmp 2) (by rfl) ?_; refine wpListG_row (by kernel_rfl) 24 (.tmp 2) (by rfl) (w.heap.size) (by rfl) 24 #[.int .i64 M, .slice A k c] _ (K93.out.row 2 rfl) Tryd.underlying24 (by rfl) infoc_T ?_)
      | (go_at_call 14; (have hc := (sameT ▸ r_same M M A5 A k k c5 c xs xs w93 (K93.out.fs (A := A5) (n := k) (xs := xs) (by simp)) (K93.out.fs (A := A) (n := k) (xs := xs) (by simp)) (by omega)); (with_reducible refine hc.mono ?_); clear hc); rintro e w94 ⟨rfl, hb⟩; have K94 : Hid (EnvF w94 [oF w.heap.size 26 (.slice A5 k c5) (xs), fF A5 k (xs), oF w.heap.size 26 (.slice A3 k c3) (keep m xs), fF A3 k (keep m xs), fF A k xs, stF] [(w91.heap.size, #[.int .i64 M, .slice A5 k c5], 24), (w3.heap.size, #[.int .i64 m, .slice A3 k c3], 24), (w.heap.size, #[.int .i64 M, .slice A k c], 24)]) := Lib.hid (K93.out.on hb); have B94 : Hid (Below w.heap.size w w94) := Lib.hid (below_step B93.out hb); clear hb K93 B93)
      | (go_at_call 9; (have hc := (wakes9 w94 (Tb.EnvF.stv K94.out (by simp))); (with_reducible refine hc.mono ?_); clear hc); rintro e w95 ⟨rfl, hb⟩; have K95 : Hid (EnvF w95 [oF w.heap.size 26 (.slice A5 k c5) (xs), fF A5 k (xs), oF w.heap.size 26 (.slice A3 k c3) (keep m xs), fF A3 k (keep m xs), fF A k xs, stF] [(w91.heap.size, #[.int .i64 M, .slice A5 k c5], 24), (w3.heap.size, #[.int .i64 m, .slice A3 k c3], 24), (w.heap.size, #[.int .i64 M, .slice A k c], 24)]) := Lib.hid (K94.out.on hb); have B95 : Hid (Below w.heap.size w w95) := Lib.hid (below_step B94.out hb); clear hb K94 B94))
    go_ret
    exact ⟨rfl, B95.out⟩
  · have e8 : ((k : Int) == (n : Int)) = false := by simp; omega
    have d8 : decide (m < (full (xs.take (k + 1)) : Int)) = true := by
      refine decide_eq_true ?_
      have h : ¬ ((full (xs.take (k + 1)) : Int) ≤ m) := fun h => absurd ((fit_iff (M := m) (xs := xs) (j := k + 1) hm0 (by rw [hn]; omega)).1 h) (by rw [hk]; omega)
      exact Int.lt_of_not_ge h
    go_wp2_with (first
      | go_skip
      | (refine at_load 24 (.tmp 2) (by rfl) ?_; refine wpList_load_row (by rfl) 24 (.tmp 2) (by rfl) (w.heap.size) (by rfl) 24 #[.int .i64 M, .slice A n c] (0, 0) _ (K90.out.row 1 rfl) Tryd.underlying24 (by rfl) infoc_T ?_)
      | (refine at_load 3 (.tmp 77) (by rfl) ?_; refine wpList_get (by rfl) 3 (.tmp 77) (by rfl) (w.heap.size) 0 (by rfl) 24 #[.int .i64 M, .slice A n c] (.int .i64 M) _ (K90.out.row 1 rfl) (by rfl) Tryd.underlying3 (by rfl) ?_)
      | (go_at_call 23; (have hc := (HR2.out wa (K90.out.fs (A := A) (n := n) (xs := xs) (by simp))); (with_reducible refine hc.mono ?_); clear hc); rintro e w91 ⟨A5, c5, rfl, ho, hb⟩; have K91 : Hid (EnvF w91 [oF w.heap.size 26 (.slice A5 n c5) (xs), fF A5 n (xs), oF w.heap.size 26 (.slice A3 k c3) (keep m xs), fF A3 k (keep m xs), fF A n xs, stF] [(w3.heap.size, #[.int .i64 m, .slice A3 k c3], 24), (w.heap.size, #[.int .i64 M, .slice A n c], 24)]) := Lib.hid (K90.out.handO hb ho B90.out.size); have B91 : Hid (Below w.heap.size w w91) := Lib.hid (below_step B90.out hb); clear hb ho K90 B90; have leq : w.heap.size ≤ w91.heap.size := (by have := B91.out.size; (try simp only [World.size_alloc] at this); omega); have K92 : Hid (EnvF (w91.alloc (.cells #[.int .i64 0, .slice none 0 0] 24)) [oF w.heap.size 26 (.slice A5 n c5) (xs), fF A5 n (xs), oF w.heap.size 26 (.slice A3 k c3) (keep m xs), fF A3 k (keep m xs), fF A n xs, stF] [(w91.heap.size, #[.int .i64 0, .slice none 0 0], 24), (w3.heap.size, #[.int .i64 m, .slice A3 k c3], 24), (w.heap.size, #[.int .i64 M, .slice A n c], 24)]) := Lib.hid (K91.out.boxg 24 #[.int .i64 0, .slice none 0 0] (w91.heap.size) (by simp)); have B92 : Hid (Below w.heap.size w (w91.alloc (.cells #[.int .i64 0, .slice none 0 0] 24))) := Lib.hid (B91.out.alloc B91.out.size (.cells #[.int .i64 0, .slice none 0 0] 24)); clear K91 B91)
      | (refine at_store 24 (.tmp 8) (.tmp 80) (by rfl) ?_; refine wpList_put (by rfl) 24 (.tmp 8) (.tmp 80) (by rfl) (w91.heap.size) 0 (.agg #[.int .i64 M, .slice A5 n c5]) (by rfl) (by rfl) 24 #[.int .i64 0, .slice none 0 0] #[.int .i64 M, .slice A5 n c5] (K92.out.row 0 rfl) (by simp [Value.cells]) (by kernel_rfl) infoc_T (by kernel_rfl) ?_; intro w93 hrow hoth hz hbl; have K93 : Hid (EnvF w93 [oF w.heap.size 26 (.slice A5 n c5) (xs), fF A5 n (xs), oF w.heap.size 26 (.slice A3 k c3) (keep m xs), fF A3 k (keep m xs), fF A n xs, stF] [(w91.heap.size, #[.int .i64 M, .slice A5 n c5], 24), (w3.heap.size, #[.int .i64 m, .slice A3 k c3], 24), (w.heap.size, #[.int .i64 M, .slice A n c], 24)]) := Lib.hid (K92.out.turn 0 rfl hrow hoth hz); have B93 : Hid (Below w.heap.size w w93) := Lib.hid (hbl _ _ leq B92.out); clear hrow hoth hz hbl K92 B92)
      | (refine at_load 22 (.tmp 83) (by rfl) ?_; refine wpList_get (by rfl) 22 (.tmp 83) (by rfl) (w.heap.size) 1 (by rfl) 24 #[.int .i64 M, .slice A n c] (.slice A n c) _ (K93.out.row 2 rfl) (by rfl) Tryd.underlying22 (by rfl) ?_)
      | (refine at_load 22 (.tmp 88) (by rfl) ?_; refine wpListG_get (by kernel_rfl) 22 (.tmp 88) (by rfl) (w.heap.size) 1 (by rfl) 24 #[.int .i64 M, .slice A n c] (.slice A n c) _ (K93.out.row 2 rfl) (by rfl) Tryd.underlying22 (by rfl) ?_)
      | (go_at_call 18; (have hc := (r_full 0 A (k + 1) c (xs.take (k + 1)) w93 ((K93.out.fs (A := A) (n := n) (xs := xs) (by simp)).take (k + 1) (by omega)) (Nat.le_trans (full_take _ _) (by omega))); (with_reducible refine hc.mono ?_); clear hc); rintro e w94 ⟨rfl, hb⟩; have K94 : Hid (EnvF w94 [oF w.heap.size 26 (.slice A5 n c5) (xs), fF A5 n (xs), oF w.heap.size 26 (.slice A3 k c3) (keep m xs), fF A3 k (keep m xs), fF A n xs, stF] [(w91.heap.size, #[.int .i64 M, .slice A5 n c5], 24), (w3.heap.size, #[.int .i64 m, .slice A3 k c3], 24), (w.heap.size, #[.int .i64 M, .slice A n c], 24)]) := Lib.hid (K93.out.on hb); have B94 : Hid (Below w.heap.size w w94) := Lib.hid (below_step B93.out hb); clear hb K93 B93)
      | (refine at_load 24 (.tmp 8) (by rfl) ?_; refine wpListG_row (by kernel_rfl) 24 (.tmp 8) (by rfl) (w91.heap.size) (by rfl) 24 #[.int .i64 M, .slice A5 n c5] _ (K94.out.row 0 rfl) Tryd.underlying24 (by rfl) infoc_T ?_)
      | (refine at_load 24 (.tmp 2) (by rfl) ?_; refine wpListG_row (by kernel_rfl) 24 (.tmp 2) (by rfl) (w.heap.size) (by rfl) 24 #[.int .i64 M, .slice A n c] _ (K94.out.row 2 rfl) Tryd.underlying24 (by rfl) infoc_T ?_)
      | (go_at_call 14; (have hc := (sameT ▸ r_same M M A5 A n n c5 c xs xs w94 (K94.out.fs (A := A5) (n := n) (xs := xs) (by simp)) (K94.out.fs (A := A) (n := n) (xs := xs) (by simp)) (by omega)); (with_reducible refine hc.mono ?_); clear hc); rintro e w95 ⟨rfl, hb⟩; have K95 : Hid (EnvF w95 [oF w.heap.size 26 (.slice A5 n c5) (xs), fF A5 n (xs), oF w.heap.size 26 (.slice A3 k c3) (keep m xs), fF A3 k (keep m xs), fF A n xs, stF] [(w91.heap.size, #[.int .i64 M, .slice A5 n c5], 24), (w3.heap.size, #[.int .i64 m, .slice A3 k c3], 24), (w.heap.size, #[.int .i64 M, .slice A n c], 24)]) := Lib.hid (K94.out.on hb); have B95 : Hid (Below w.heap.size w w95) := Lib.hid (below_step B94.out hb); clear hb K94 B94)
      | (go_at_call 9; (have hc := (wakes9 w95 (Tb.EnvF.stv K95.out (by simp))); (with_reducible refine hc.mono ?_); clear hc); rintro e w96 ⟨rfl, hb⟩; have K96 : Hid (EnvF w96 [oF w.heap.size 26 (.slice A5 n c5) (xs), fF A5 n (xs), oF w.heap.size 26 (.slice A3 k c3) (keep m xs), fF A3 k (keep m xs), fF A n xs, stF] [(w91.heap.size, #[.int .i64 M, .slice A5 n c5], 24), (w3.heap.size, #[.int .i64 m, .slice A3 k c3], 24), (w.heap.size, #[.int .i64 M, .slice A n c], 24)]) := Lib.hid (K95.out.on hb); have B96 : Hid (Below w.heap.size w w96) := Lib.hid (below_step B95.out hb); clear hb K95 B95))
    go_ret
    exact ⟨rfl, B96.out⟩
theorem ls_all (M : Int) (A : Option Addr) (n c : Nat) (m : Int) (w : World) (hR : Stv w) (hI : IsFlds w A n c) :
    Calls Tryd.prog 5 #[.agg #[.int .i64 M, .slice A n c], .int .i64 m] w fun e w' => e = .returned (.bool true) ∧ Below w.heap.size w w' := by
  obtain ⟨xs, hA, hS, hnc, hcm, hN⟩ := rowFlds hI
  have HG := Lib.hid fun (w0 : World) (h : Fs w0 w0.heap.size A n xs) => r_great A n c xs w0 h hnc hcm hS
  cases hg : greatB xs with
  | true => rw [hg] at HG; exact ls_G1 M A n c xs m w hR hA HG
  | false =>
    rw [hg] at HG
    obtain ⟨hl, hF⟩ := great_no hg
    have hl2 := hA.1
    have HRT := Lib.hid fun (w0 : World) (h : Fs w0 w0.heap.size A n xs) => r_right M A n c xs w0 h (by omega)
    cases hr : rightB M xs with
    | false => rw [hr] at HRT; exact ls_G2 M A n c xs m w hR hA HG HRT
    | true =>
      rw [hr] at HRT
      have hok : okB M = true := by unfold rightB at hr; rw [Bool.and_eq_true] at hr; exact hr.1
      have hfM : (full xs : Int) ≤ M := by unfold rightB at hr; rw [Bool.and_eq_true] at hr; exact of_decide_eq_true hr.2
      have hall : ∀ (q : Int) (w0 : World), Fs w0 w0.heap.size A n xs → Calls Tryd.prog 23 #[.agg #[.int .i64 M, .slice A n c], .int .i64 q] w0 fun e w' => ∃ A3 c3, e = .returned (.tuple #[.agg #[.int .i64 (resM M xs q), .slice A3 (resL M xs q).length c3], .int .i64 (resE M xs q)]) ∧ OwnF w' w0.heap.size 26 (.slice A3 (resL M xs q).length c3) (resL M xs q) ∧ Below w0.heap.size w0 w' := fun q w0 h => by
        refine (t_resize M A n c xs q w0 h hN (by omega)).mono ?_
        rintro e w' ⟨v, rfl, ho, hb⟩
        obtain ⟨A3, c3, rfl, _⟩ := ho.form2 (n := (resL M xs q).length) rfl
        exact ⟨A3, c3, rfl, ho, hb⟩
      have hno : ∀ q, okB q = false → resM M xs q = 0 ∧ resE M xs q = 2 ∧ resL M xs q = [] := fun q hq => by
        unfold resM resE resL resB
        rw [hr, hq]
        exact ⟨rfl, rfl, rfl⟩
      have hyes : ∀ q, okB q = true → resM M xs q = q ∧ resE M xs q = 0 ∧ resL M xs q = keep q xs := fun q hq => by
        unfold resM resE resL resB
        rw [hr, hq]
        exact ⟨rfl, rfl, rfl⟩
      by_cases h0 : m < 0
      · have h1 := hall m
        obtain ⟨e1, e2, e3⟩ := hno m (by unfold okB; rw [decide_eq_false (show ¬ 0 ≤ m by omega)]; rfl)
        rw [e1, e2, e3] at h1
        exact ls_lo M A n c xs m w hR hA HG HRT (decide_eq_true h0) (Lib.hid h1)
      · by_cases h4 : 4096 < m
        · have h1 := hall m
          obtain ⟨e1, e2, e3⟩ := hno m (by unfold okB; rw [decide_eq_false (show ¬ m ≤ 4096 by omega), Bool.and_false])
          rw [e1, e2, e3] at h1
          exact ls_hi M A n c xs m w hR hA HG HRT (decide_eq_false h0) (decide_eq_true h4) (Lib.hid h1)
        · have hkm : okB m = true := by unfold okB; rw [decide_eq_true (show 0 ≤ m by omega), decide_eq_true (show m ≤ 4096 by omega)]; rfl
          have h1 := hall m
          obtain ⟨e1, e2, e3⟩ := hyes m hkm
          rw [e1, e2, e3, keep_len] at h1
          have h2 := hall M
          obtain ⟨g1, g2, g3⟩ := hyes M hok
          rw [g1, g2, g3, keep_all hfM, hl2] at h2
          exact ls_main M A n c xs m w hR hA hnc hcm (by omega) hF (by omega) (decide_eq_false h0) (decide_eq_false h4) HG HRT _ rfl (Lib.hid h1) (Lib.hid h2) (Lib.hid (by unfold rightB; rw [hkm, decide_eq_true (keep_full xs (by omega))]; rfl))
end Go.Proofs.YtgplkjifgagjpaaDoor
