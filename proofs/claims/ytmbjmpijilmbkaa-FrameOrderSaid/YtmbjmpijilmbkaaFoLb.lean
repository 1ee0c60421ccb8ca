/- FrameOrder: its walks, part 1. -/
import Derived.Test.YtmbjmpijilmbkaaFoR
namespace Go.Proofs.Ytmbjmpijilmbkaa
open Go.RowKit Oct Fi Fm
set_option linter.unusedVariables false
set_option linter.unusedSimpArgs false
set_option maxRecDepth 100000 in
set_option maxHeartbeats 4000000 in
theorem fo_B0 (L fv : Int) (n : Nat) (w : World) (h0 : headB 0 0 = true) (HW : Hid WakesTo) (HPA : Hid (ParseTo 0 fv 0 n true 0 1)) (hn0 : decide ((20000 : Int) < (n : Int)) = false) (hn0' : decide (20000 < n) = false) (hn1 : decide ((16384 : Int) < (n : Int)) = false) (hn1' : decide (16384 < n) = false) :
    Calls Try.prog 3 #[.agg #[.int .i64 L, .int .u8 0, .int .u8 fv, .int .i64 0], .int .i64 (n : Int)] w fun e w' => e = .returned (.bool true) ∧ Below w.heap.size w w' := by
  have K0 : Hid (EnvF (w.alloc (.cells #[.int .i64 L, .int .u8 0, .int .u8 fv, .int .i64 0] 23)) [] [(w.heap.size, #[.int .i64 L, .int .u8 0, .int .u8 fv, .int .i64 0], 23)]) := Lib.hid ((EnvF.nil w).boxg 23 #[.int .i64 L, .int .u8 0, .int .u8 fv, .int .i64 0] (w.heap.size) (by simp))
  have B0 : Hid (Below w.heap.size w (w.alloc (.cells #[.int .i64 L, .int .u8 0, .int .u8 fv, .int .i64 0] 23))) := Lib.hid ((Below.refl _ w).alloc (by first | exact Nat.le_refl _ | (simp only [World.size_alloc]; omega)) (.cells #[.int .i64 L, .int .u8 0, .int .u8 fv, .int .i64 0] 23))
  have H0 := Lib.hid h0
  have hn2 : n ≤ 1000000 := by have := of_decide_eq_false hn0'; omega
  have HN2 := Lib.hid hn2
  clear h0 hn2
  go_enter Try.func3, Try.ntmps3
  go_wp2_with (first
    | go_skip
    | (refine at_store 3 (.tmp 9) (.const (.int .i64 0)) (by rfl) ?_; refine wpList_put (by rfl) 3 (.tmp 9) (.const (.int .i64 0)) (by rfl) (w.heap.size) 0 (.int .i64 0) (by rfl) (by rfl) 23 #[.int .i64 L, .int .u8 0, .int .u8 fv, .int .i64 0] #[.int .i64 0, .int .u8 0, .int .u8 fv, .int .i64 0] (K0.out.row 0 rfl) (by simp [Value.cells]) (by kernel_rfl) info_i (by kernel_rfl) ?_; intro w1 hrow hoth hz hbl; have K1 : Hid (EnvF w1 [] [(w.heap.size, #[.int .i64 0, .int .u8 0, .int .u8 fv, .int .i64 0], 23)]) := Lib.hid (K0.out.turn 0 rfl hrow hoth hz); have B1 : Hid (Below w.heap.size w w1) := Lib.hid (hbl _ _ (Nat.le_refl _) B0.out); clear hrow hoth hz hbl K0 B0)
    | (refine at_load 23 (.tmp 2) (by rfl) ?_; refine wpList_load_row (by rfl) 23 (.tmp 2) (by rfl) (w.heap.size) (by rfl) 23 #[.int .i64 0, .int .u8 0, .int .u8 fv, .int .i64 0] (0, 0) _ (K1.out.row 0 rfl) Try.underlying23 (by rfl) info_H ?_)
    | (go_at_call 5; (have hc := ((H0.out ▸ rright_any 0 0 fv 0 w1)); (with_reducible refine hc.mono ?_); clear hc); rintro e w2 ⟨rfl, hb⟩; have K2 : Hid (EnvF w2 [] [(w.heap.size, #[.int .i64 0, .int .u8 0, .int .u8 fv, .int .i64 0], 23)]) := Lib.hid (K1.out.on hb); have B2 : Hid (Below w.heap.size w w2) := Lib.hid (below_step B1.out hb); clear hb K1 B1))
  refine fo_region HPA (List.mem_of_getElem? (i := 0) rfl) HN2.out (fun g5 g6 gm d A7 n7 c7 A8 n8 c8 w3 K3' l5 l6 hb3 => ?_) K2.out
  have K3 : Hid (EnvF w3 [] [(g6, #[.bool true, .int .i64 0, .int .u32 1], 34), (w.heap.size, #[.int .i64 0, .int .u8 0, .int .u8 fv, .int .i64 0], 23)]) := Lib.hid (K3'.sub (by simp) (List.Sublist.cons_cons _ (List.Sublist.cons _ (List.Sublist.refl _))))
  have B3 : Hid (Below w.heap.size w w3) := Lib.hid (below_step B2.out.drew hb3)
  clear K3' l5 l6 hb3 K2 B2
  go_wp2_with (first
    | go_skip
    | (refine at_load 5 _ (by rfl) ?_; refine wpList_get (by rfl) 5 _ (by rfl) _ 1 (by rfl) _ _ _ _ (K3.out.row 1 rfl) (by rfl) Try.underlying5 (by rfl) ?_)
    | (refine at_load 5 _ (by rfl) ?_; refine wpListG_get (by kernel_rfl) 5 _ (by rfl) _ 1 (by rfl) _ _ _ _ (K3.out.row 1 rfl) (by rfl) Try.underlying5 (by rfl) ?_)
    | (refine at_load 3 _ (by rfl) ?_; refine wpList_get (by rfl) 3 _ (by rfl) _ 3 (by rfl) _ _ _ _ (K3.out.row 1 rfl) (by rfl) Try.underlying3 (by rfl) ?_)
    | (refine at_load 3 _ (by rfl) ?_; refine wpListG_get (by kernel_rfl) 3 _ (by rfl) _ 3 (by rfl) _ _ _ _ (K3.out.row 1 rfl) (by rfl) Try.underlying3 (by rfl) ?_)
    | (refine at_load 34 (.tmp 6) (by rfl) ?_; refine wpList_load_row (by rfl) 34 (.tmp 6) (by rfl) (g6) (by rfl) 34 #[.bool true, .int .i64 0, .int .u32 1] (0, 0) _ (K3.out.row 0 rfl) Try.underlying34 (by rfl) info_X ?_)
    | (go_at_call 8; (have hc := (rknown_any 0 w3 (by decide)); (with_reducible refine hc.mono ?_); clear hc); rintro e w4 ⟨rfl, rfl⟩; rw [show knownB 0 = true by decide])
    | (go_at_call 6; (have hc := (HW.out w3); (with_reducible refine hc.mono ?_); clear hc); rintro e w4 ⟨rfl, hb⟩; have K4 : Hid (EnvF w4 [] [(g6, #[.bool true, .int .i64 0, .int .u32 1], 34), (w.heap.size, #[.int .i64 0, .int .u8 0, .int .u8 fv, .int .i64 0], 23)]) := Lib.hid (K3.out.on hb); have B4 : Hid (Below w.heap.size w w4) := Lib.hid (below_step B3.out hb); clear hb K3 B3))
  all_goals
    first
    | (go_ret; exact ⟨rfl, B4.out⟩)
    | (exfalso; have hcc := hc.out; simp_all; done)
    | (exfalso; have hcc := hc.out; clear hc; omega)
set_option maxRecDepth 100000 in
set_option maxHeartbeats 4000000 in
theorem fo_C1 (L fv sv : Int) (n : Nat) (xb : Bool) (xs xc : Int) (w : World) (hs : (sv == 0) = false) (hs' : (sv != 0) = true) (h0 : headB 0 sv = true) (HW : Hid WakesTo) (HPA : Hid (ParseTo 1 fv sv n xb xs xc)) (hn0 : decide ((20000 : Int) < (n : Int)) = false) (hn0' : decide (20000 < n) = false) (hn1 : decide ((16384 : Int) < (n : Int)) = false) (hn1' : decide (16384 < n) = false) :
    Calls Try.prog 3 #[.agg #[.int .i64 L, .int .u8 1, .int .u8 fv, .int .i64 sv], .int .i64 (n : Int)] w fun e w' => e = .returned (.bool true) ∧ Below w.heap.size w w' := by
  have K0 : Hid (EnvF (w.alloc (.cells #[.int .i64 L, .int .u8 1, .int .u8 fv, .int .i64 sv] 23)) [] [(w.heap.size, #[.int .i64 L, .int .u8 1, .int .u8 fv, .int .i64 sv], 23)]) := Lib.hid ((EnvF.nil w).boxg 23 #[.int .i64 L, .int .u8 1, .int .u8 fv, .int .i64 sv] (w.heap.size) (by simp))
  have B0 : Hid (Below w.heap.size w (w.alloc (.cells #[.int .i64 L, .int .u8 1, .int .u8 fv, .int .i64 sv] 23))) := Lib.hid ((Below.refl _ w).alloc (by first | exact Nat.le_refl _ | (simp only [World.size_alloc]; omega)) (.cells #[.int .i64 L, .int .u8 1, .int .u8 fv, .int .i64 sv] 23))
  have H0 := Lib.hid h0
  have hn2 : n ≤ 1000000 := by have := of_decide_eq_false hn0'; omega
  have HN2 := Lib.hid hn2
  clear h0 hn2
  go_enter Try.func3, Try.ntmps3
  go_wp2_with (first
    | go_skip
    | (refine at_store 3 (.tmp 9) (.const (.int .i64 0)) (by rfl) ?_; refine wpList_put (by rfl) 3 (.tmp 9) (.const (.int .i64 0)) (by rfl) (w.heap.size) 0 (.int .i64 0) (by rfl) (by rfl) 23 #[.int .i64 L, .int .u8 1, .int .u8 fv, .int .i64 sv] #[.int .i64 0, .int .u8 1, .int .u8 fv, .int .i64 sv] (K0.out.row 0 rfl) (by simp [Value.cells]) (by kernel_rfl) info_i (by kernel_rfl) ?_; intro w1 hrow hoth hz hbl; have K1 : Hid (EnvF w1 [] [(w.heap.size, #[.int .i64 0, .int .u8 1, .int .u8 fv, .int .i64 sv], 23)]) := Lib.hid (K0.out.turn 0 rfl hrow hoth hz); have B1 : Hid (Below w.heap.size w w1) := Lib.hid (hbl _ _ (Nat.le_refl _) B0.out); clear hrow hoth hz hbl K0 B0)
    | (refine at_load 23 (.tmp 2) (by rfl) ?_; refine wpList_load_row (by rfl) 23 (.tmp 2) (by rfl) (w.heap.size) (by rfl) 23 #[.int .i64 0, .int .u8 1, .int .u8 fv, .int .i64 sv] (0, 0) _ (K1.out.row 0 rfl) Try.underlying23 (by rfl) info_H ?_)
    | (go_at_call 5; (have hc := ((H0.out ▸ rright_any 0 1 fv sv w1)); (with_reducible refine hc.mono ?_); clear hc); rintro e w2 ⟨rfl, hb⟩; have K2 : Hid (EnvF w2 [] [(w.heap.size, #[.int .i64 0, .int .u8 1, .int .u8 fv, .int .i64 sv], 23)]) := Lib.hid (K1.out.on hb); have B2 : Hid (Below w.heap.size w w2) := Lib.hid (below_step B1.out hb); clear hb K1 B1))
  refine fo_region HPA (List.mem_of_getElem? (i := 0) rfl) HN2.out (fun g5 g6 gm d A7 n7 c7 A8 n8 c8 w3 K3' l5 l6 hb3 => ?_) K2.out
  have K3 : Hid (EnvF w3 [] [(g6, #[.bool xb, .int .i64 xs, .int .u32 xc], 34), (w.heap.size, #[.int .i64 0, .int .u8 1, .int .u8 fv, .int .i64 sv], 23)]) := Lib.hid (K3'.sub (by simp) (List.Sublist.cons_cons _ (List.Sublist.cons _ (List.Sublist.refl _))))
  have B3 : Hid (Below w.heap.size w w3) := Lib.hid (below_step B2.out.drew hb3)
  clear K3' l5 l6 hb3 K2 B2
  go_wp2_with (first
    | go_skip
    | (refine at_load 5 _ (by rfl) ?_; refine wpList_get (by rfl) 5 _ (by rfl) _ 1 (by rfl) _ _ _ _ (K3.out.row 1 rfl) (by rfl) Try.underlying5 (by rfl) ?_)
    | (refine at_load 5 _ (by rfl) ?_; refine wpListG_get (by kernel_rfl) 5 _ (by rfl) _ 1 (by rfl) _ _ _ _ (K3.out.row 1 rfl) (by rfl) Try.underlying5 (by rfl) ?_)
    | (refine at_load 3 _ (by rfl) ?_; refine wpList_get (by rfl) 3 _ (by rfl) _ 3 (by rfl) _ _ _ _ (K3.out.row 1 rfl) (by rfl) Try.underlying3 (by rfl) ?_)
    | (refine at_load 3 _ (by rfl) ?_; refine wpListG_get (by kernel_rfl) 3 _ (by rfl) _ 3 (by rfl) _ _ _ _ (K3.out.row 1 rfl) (by rfl) Try.underlying3 (by rfl) ?_)
    | (refine at_load 34 (.tmp 6) (by rfl) ?_; refine wpList_load_row (by rfl) 34 (.tmp 6) (by rfl) (g6) (by rfl) 34 #[.bool xb, .int .i64 xs, .int .u32 xc] (0, 0) _ (K3.out.row 0 rfl) Try.underlying34 (by rfl) info_X ?_)
    | (go_at_call 8; (have hc := (rknown_any 1 w3 (by decide)); (with_reducible refine hc.mono ?_); clear hc); rintro e w4 ⟨rfl, rfl⟩; rw [show knownB 1 = true by decide])
    | (go_at_call 6; (have hc := (HW.out w3); (with_reducible refine hc.mono ?_); clear hc); rintro e w4 ⟨rfl, hb⟩; have K4 : Hid (EnvF w4 [] [(g6, #[.bool xb, .int .i64 xs, .int .u32 xc], 34), (w.heap.size, #[.int .i64 0, .int .u8 1, .int .u8 fv, .int .i64 sv], 23)]) := Lib.hid (K3.out.on hb); have B4 : Hid (Below w.heap.size w w4) := Lib.hid (below_step B3.out hb); clear hb K3 B3))
  all_goals
    first
    | (go_ret; exact ⟨rfl, B4.out⟩)
    | (exfalso; have hcc := hc.out; simp_all; done)
    | (exfalso; have hcc := hc.out; clear hc; omega)
set_option maxRecDepth 100000 in
set_option maxHeartbeats 4000000 in
theorem fo_D2 (L fv sv : Int) (n : Nat) (xb : Bool) (xs xc : Int) (w : World) (hs : (sv == 0) = false) (hs' : (sv != 0) = true) (h0 : headB 0 sv = true) (HW : Hid WakesTo) (HPA : Hid (ParseTo 2 fv sv n xb xs xc)) (hn0 : decide ((20000 : Int) < (n : Int)) = false) (hn0' : decide (20000 < n) = false) (hn1 : decide ((16384 : Int) < (n : Int)) = false) (hn1' : decide (16384 < n) = false)(hc : Hid (n = 5)) :
    Calls Try.prog 3 #[.agg #[.int .i64 L, .int .u8 2, .int .u8 fv, .int .i64 sv], .int .i64 (n : Int)] w fun e w' => e = .returned (.bool true) ∧ Below w.heap.size w w' := by
  have K0 : Hid (EnvF (w.alloc (.cells #[.int .i64 L, .int .u8 2, .int .u8 fv, .int .i64 sv] 23)) [] [(w.heap.size, #[.int .i64 L, .int .u8 2, .int .u8 fv, .int .i64 sv], 23)]) := Lib.hid ((EnvF.nil w).boxg 23 #[.int .i64 L, .int .u8 2, .int .u8 fv, .int .i64 sv] (w.heap.size) (by simp))
  have B0 : Hid (Below w.heap.size w (w.alloc (.cells #[.int .i64 L, .int .u8 2, .int .u8 fv, .int .i64 sv] 23))) := Lib.hid ((Below.refl _ w).alloc (by first | exact Nat.le_refl _ | (simp only [World.size_alloc]; omega)) (.cells #[.int .i64 L, .int .u8 2, .int .u8 fv, .int .i64 sv] 23))
  have H0 := Lib.hid h0
  have hn2 : n ≤ 1000000 := by have := of_decide_eq_false hn0'; omega
  have HN2 := Lib.hid hn2
  clear h0 hn2
  go_enter Try.func3, Try.ntmps3
  go_wp2_with (first
    | go_skip
    | (refine at_store 3 (.tmp 9) (.const (.int .i64 0)) (by rfl) ?_; refine wpList_put (by rfl) 3 (.tmp 9) (.const (.int .i64 0)) (by rfl) (w.heap.size) 0 (.int .i64 0) (by rfl) (by rfl) 23 #[.int .i64 L, .int .u8 2, .int .u8 fv, .int .i64 sv] #[.int .i64 0, .int .u8 2, .int .u8 fv, .int .i64 sv] (K0.out.row 0 rfl) (by simp [Value.cells]) (by kernel_rfl) info_i (by kernel_rfl) ?_; intro w1 hrow hoth hz hbl; have K1 : Hid (EnvF w1 [] [(w.heap.size, #[.int .i64 0, .int .u8 2, .int .u8 fv, .int .i64 sv], 23)]) := Lib.hid (K0.out.turn 0 rfl hrow hoth hz); have B1 : Hid (Below w.heap.size w w1) := Lib.hid (hbl _ _ (Nat.le_refl _) B0.out); clear hrow hoth hz hbl K0 B0)
    | (refine at_load 23 (.tmp 2) (by rfl) ?_; refine wpList_load_row (by rfl) 23 (.tmp 2) (by rfl) (w.heap.size) (by rfl) 23 #[.int .i64 0, .int .u8 2, .int .u8 fv, .int .i64 sv] (0, 0) _ (K1.out.row 0 rfl) Try.underlying23 (by rfl) info_H ?_)
    | (go_at_call 5; (have hc := ((H0.out ▸ rright_any 0 2 fv sv w1)); (with_reducible refine hc.mono ?_); clear hc); rintro e w2 ⟨rfl, hb⟩; have K2 : Hid (EnvF w2 [] [(w.heap.size, #[.int .i64 0, .int .u8 2, .int .u8 fv, .int .i64 sv], 23)]) := Lib.hid (K1.out.on hb); have B2 : Hid (Below w.heap.size w w2) := Lib.hid (below_step B1.out hb); clear hb K1 B1))
  refine fo_region HPA (List.mem_of_getElem? (i := 0) rfl) HN2.out (fun g5 g6 gm d A7 n7 c7 A8 n8 c8 w3 K3' l5 l6 hb3 => ?_) K2.out
  have K3 : Hid (EnvF w3 [] [(g6, #[.bool xb, .int .i64 xs, .int .u32 xc], 34), (w.heap.size, #[.int .i64 0, .int .u8 2, .int .u8 fv, .int .i64 sv], 23)]) := Lib.hid (K3'.sub (by simp) (List.Sublist.cons_cons _ (List.Sublist.cons _ (List.Sublist.refl _))))
  have B3 : Hid (Below w.heap.size w w3) := Lib.hid (below_step B2.out.drew hb3)
  clear K3' l5 l6 hb3 K2 B2
  go_wp2_with (first
    | go_skip
    | (refine at_load 5 _ (by rfl) ?_; refine wpList_get (by rfl) 5 _ (by rfl) _ 1 (by rfl) _ _ _ _ (K3.out.row 1 rfl) (by rfl) Try.underlying5 (by rfl) ?_)
    | (refine at_load 5 _ (by rfl) ?_; refine wpListG_get (by kernel_rfl) 5 _ (by rfl) _ 1 (by rfl) _ _ _ _ (K3.out.row 1 rfl) (by rfl) Try.underlying5 (by rfl) ?_)
    | (refine at_load 3 _ (by rfl) ?_; refine wpList_get (by rfl) 3 _ (by rfl) _ 3 (by rfl) _ _ _ _ (K3.out.row 1 rfl) (by rfl) Try.underlying3 (by rfl) ?_)
    | (refine at_load 3 _ (by rfl) ?_; refine wpListG_get (by kernel_rfl) 3 _ (by rfl) _ 3 (by rfl) _ _ _ _ (K3.out.row 1 rfl) (by rfl) Try.underlying3 (by rfl) ?_)
    | (refine at_load 34 (.tmp 6) (by rfl) ?_; refine wpList_load_row (by rfl) 34 (.tmp 6) (by rfl) (g6) (by rfl) 34 #[.bool xb, .int .i64 xs, .int .u32 xc] (0, 0) _ (K3.out.row 0 rfl) Try.underlying34 (by rfl) info_X ?_)
    | (go_at_call 8; (have hc := (rknown_any 2 w3 (by decide)); (with_reducible refine hc.mono ?_); clear hc); rintro e w4 ⟨rfl, rfl⟩; rw [show knownB 2 = true by decide])
    | (go_at_call 6; (have hc := (HW.out w3); (with_reducible refine hc.mono ?_); clear hc); rintro e w4 ⟨rfl, hb⟩; have K4 : Hid (EnvF w4 [] [(g6, #[.bool xb, .int .i64 xs, .int .u32 xc], 34), (w.heap.size, #[.int .i64 0, .int .u8 2, .int .u8 fv, .int .i64 sv], 23)]) := Lib.hid (K3.out.on hb); have B4 : Hid (Below w.heap.size w w4) := Lib.hid (below_step B3.out hb); clear hb K3 B3))
  all_goals
    first
    | (go_ret; exact ⟨rfl, B4.out⟩)
    | (exfalso; have hcc := hc.out; simp_all; done)
    | (exfalso; have hcc := hc.out; clear hc; omega)
set_option maxRecDepth 100000 in
set_option maxHeartbeats 4000000 in
theorem fo_D3 (L fv sv : Int) (n : Nat) (w : World) (hs : (sv == 0) = false) (hs' : (sv != 0) = true) (h0 : headB 0 sv = true) (HW : Hid WakesTo) (HPA : Hid (ParseTo 3 fv sv n false 0 0)) (hn0 : decide ((20000 : Int) < (n : Int)) = false) (hn0' : decide (20000 < n) = false) (hn1 : decide ((16384 : Int) < (n : Int)) = false) (hn1' : decide (16384 < n) = false)(hc : Hid (n = 4)) :
    Calls Try.prog 3 #[.agg #[.int .i64 L, .int .u8 3, .int .u8 fv, .int .i64 sv], .int .i64 (n : Int)] w fun e w' => e = .returned (.bool true) ∧ Below w.heap.size w w' := by
  have K0 : Hid (EnvF (w.alloc (.cells #[.int .i64 L, .int .u8 3, .int .u8 fv, .int .i64 sv] 23)) [] [(w.heap.size, #[.int .i64 L, .int .u8 3, .int .u8 fv, .int .i64 sv], 23)]) := Lib.hid ((EnvF.nil w).boxg 23 #[.int .i64 L, .int .u8 3, .int .u8 fv, .int .i64 sv] (w.heap.size) (by simp))
  have B0 : Hid (Below w.heap.size w (w.alloc (.cells #[.int .i64 L, .int .u8 3, .int .u8 fv, .int .i64 sv] 23))) := Lib.hid ((Below.refl _ w).alloc (by first | exact Nat.le_refl _ | (simp only [World.size_alloc]; omega)) (.cells #[.int .i64 L, .int .u8 3, .int .u8 fv, .int .i64 sv] 23))
  have H0 := Lib.hid h0
  have hn2 : n ≤ 1000000 := by have := of_decide_eq_false hn0'; omega
  have HN2 := Lib.hid hn2
  clear h0 hn2
  go_enter Try.func3, Try.ntmps3
  go_wp2_with (first
    | go_skip
    | (refine at_store 3 (.tmp 9) (.const (.int .i64 0)) (by rfl) ?_; refine wpList_put (by rfl) 3 (.tmp 9) (.const (.int .i64 0)) (by rfl) (w.heap.size) 0 (.int .i64 0) (by rfl) (by rfl) 23 #[.int .i64 L, .int .u8 3, .int .u8 fv, .int .i64 sv] #[.int .i64 0, .int .u8 3, .int .u8 fv, .int .i64 sv] (K0.out.row 0 rfl) (by simp [Value.cells]) (by kernel_rfl) info_i (by kernel_rfl) ?_; intro w1 hrow hoth hz hbl; have K1 : Hid (EnvF w1 [] [(w.heap.size, #[.int .i64 0, .int .u8 3, .int .u8 fv, .int .i64 sv], 23)]) := Lib.hid (K0.out.turn 0 rfl hrow hoth hz); have B1 : Hid (Below w.heap.size w w1) := Lib.hid (hbl _ _ (Nat.le_refl _) B0.out); clear hrow hoth hz hbl K0 B0)
    | (refine at_load 23 (.tmp 2) (by rfl) ?_; refine wpList_load_row (by rfl) 23 (.tmp 2) (by rfl) (w.heap.size) (by rfl) 23 #[.int .i64 0, .int .u8 3, .int .u8 fv, .int .i64 sv] (0, 0) _ (K1.out.row 0 rfl) Try.underlying23 (by rfl) info_H ?_)
    | (go_at_call 5; (have hc := ((H0.out ▸ rright_any 0 3 fv sv w1)); (with_reducible refine hc.mono ?_); clear hc); rintro e w2 ⟨rfl, hb⟩; have K2 : Hid (EnvF w2 [] [(w.heap.size, #[.int .i64 0, .int .u8 3, .int .u8 fv, .int .i64 sv], 23)]) := Lib.hid (K1.out.on hb); have B2 : Hid (Below w.heap.size w w2) := Lib.hid (below_step B1.out hb); clear hb K1 B1))
  refine fo_region HPA (List.mem_of_getElem? (i := 0) rfl) HN2.out (fun g5 g6 gm d A7 n7 c7 A8 n8 c8 w3 K3' l5 l6 hb3 => ?_) K2.out
  have K3 : Hid (EnvF w3 [] [(g6, #[.bool false, .int .i64 0, .int .u32 0], 34), (w.heap.size, #[.int .i64 0, .int .u8 3, .int .u8 fv, .int .i64 sv], 23)]) := Lib.hid (K3'.sub (by simp) (List.Sublist.cons_cons _ (List.Sublist.cons _ (List.Sublist.refl _))))
  have B3 : Hid (Below w.heap.size w w3) := Lib.hid (below_step B2.out.drew hb3)
  clear K3' l5 l6 hb3 K2 B2
  go_wp2_with (first
    | go_skip
    | (refine at_load 5 _ (by rfl) ?_; refine wpList_get (by rfl) 5 _ (by rfl) _ 1 (by rfl) _ _ _ _ (K3.out.row 1 rfl) (by rfl) Try.underlying5 (by rfl) ?_)
    | (refine at_load 5 _ (by rfl) ?_; refine wpListG_get (by kernel_rfl) 5 _ (by rfl) _ 1 (by rfl) _ _ _ _ (K3.out.row 1 rfl) (by rfl) Try.underlying5 (by rfl) ?_)
    | (refine at_load 3 _ (by rfl) ?_; refine wpList_get (by rfl) 3 _ (by rfl) _ 3 (by rfl) _ _ _ _ (K3.out.row 1 rfl) (by rfl) Try.underlying3 (by rfl) ?_)
    | (refine at_load 3 _ (by rfl) ?_; refine wpListG_get (by kernel_rfl) 3 _ (by rfl) _ 3 (by rfl) _ _ _ _ (K3.out.row 1 rfl) (by rfl) Try.underlying3 (by rfl) ?_)
    | (refine at_load 34 (.tmp 6) (by rfl) ?_; refine wpList_load_row (by rfl) 34 (.tmp 6) (by rfl) (g6) (by rfl) 34 #[.bool false, .int .i64 0, .int .u32 0] (0, 0) _ (K3.out.row 0 rfl) Try.underlying34 (by rfl) info_X ?_)
    | (go_at_call 8; (have hc := (rknown_any 3 w3 (by decide)); (with_reducible refine hc.mono ?_); clear hc); rintro e w4 ⟨rfl, rfl⟩; rw [show knownB 3 = true by decide])
    | (go_at_call 6; (have hc := (HW.out w3); (with_reducible refine hc.mono ?_); clear hc); rintro e w4 ⟨rfl, hb⟩; have K4 : Hid (EnvF w4 [] [(g6, #[.bool false, .int .i64 0, .int .u32 0], 34), (w.heap.size, #[.int .i64 0, .int .u8 3, .int .u8 fv, .int .i64 sv], 23)]) := Lib.hid (K3.out.on hb); have B4 : Hid (Below w.heap.size w w4) := Lib.hid (below_step B3.out hb); clear hb K3 B3))
  all_goals
    first
    | (go_ret; exact ⟨rfl, B4.out⟩)
    | (exfalso; have hcc := hc.out; simp_all; done)
    | (exfalso; have hcc := hc.out; clear hc; omega)
set_option maxRecDepth 100000 in
set_option maxHeartbeats 4000000 in
theorem fo_A5 (L fv sv : Int) (n : Nat) (w : World) (h0 : headB 0 sv = true) (HW : Hid WakesTo) (HPA : Hid (ParseTo 5 fv sv n true 0 6)) (hn0 : decide ((20000 : Int) < (n : Int)) = false) (hn0' : decide (20000 < n) = false) (hn1 : decide ((16384 : Int) < (n : Int)) = true) (hn1' : decide (16384 < n) = true) :
    Calls Try.prog 3 #[.agg #[.int .i64 L, .int .u8 5, .int .u8 fv, .int .i64 sv], .int .i64 (n : Int)] w fun e w' => e = .returned (.bool true) ∧ Below w.heap.size w w' := by
  have K0 : Hid (EnvF (w.alloc (.cells #[.int .i64 L, .int .u8 5, .int .u8 fv, .int .i64 sv] 23)) [] [(w.heap.size, #[.int .i64 L, .int .u8 5, .int .u8 fv, .int .i64 sv], 23)]) := Lib.hid ((EnvF.nil w).boxg 23 #[.int .i64 L, .int .u8 5, .int .u8 fv, .int .i64 sv] (w.heap.size) (by simp))
  have B0 : Hid (Below w.heap.size w (w.alloc (.cells #[.int .i64 L, .int .u8 5, .int .u8 fv, .int .i64 sv] 23))) := Lib.hid ((Below.refl _ w).alloc (by first | exact Nat.le_refl _ | (simp only [World.size_alloc]; omega)) (.cells #[.int .i64 L, .int .u8 5, .int .u8 fv, .int .i64 sv] 23))
  have H0 := Lib.hid h0
  have hn2 : n ≤ 1000000 := by have := of_decide_eq_false hn0'; omega
  have HN2 := Lib.hid hn2
  clear h0 hn2
  go_enter Try.func3, Try.ntmps3
  go_wp2_with (first
    | go_skip
    | (refine at_store 3 (.tmp 9) (.const (.int .i64 0)) (by rfl) ?_; refine wpList_put (by rfl) 3 (.tmp 9) (.const (.int .i64 0)) (by rfl) (w.heap.size) 0 (.int .i64 0) (by rfl) (by rfl) 23 #[.int .i64 L, .int .u8 5, .int .u8 fv, .int .i64 sv] #[.int .i64 0, .int .u8 5, .int .u8 fv, .int .i64 sv] (K0.out.row 0 rfl) (by simp [Value.cells]) (by kernel_rfl) info_i (by kernel_rfl) ?_; intro w1 hrow hoth hz hbl; have K1 : Hid (EnvF w1 [] [(w.heap.size, #[.int .i64 0, .int .u8 5, .int .u8 fv, .int .i64 sv], 23)]) := Lib.hid (K0.out.turn 0 rfl hrow hoth hz); have B1 : Hid (Below w.heap.size w w1) := Lib.hid (hbl _ _ (Nat.le_refl _) B0.out); clear hrow hoth hz hbl K0 B0)
    | (refine at_load 23 (.tmp 2) (by rfl) ?_; refine wpList_load_row (by rfl) 23 (.tmp 2) (by rfl) (w.heap.size) (by rfl) 23 #[.int .i64 0, .int .u8 5, .int .u8 fv, .int .i64 sv] (0, 0) _ (K1.out.row 0 rfl) Try.underlying23 (by rfl) info_H ?_)
    | (go_at_call 5; (have hc := ((H0.out ▸ rright_any 0 5 fv sv w1)); (with_reducible refine hc.mono ?_); clear hc); rintro e w2 ⟨rfl, hb⟩; have K2 : Hid (EnvF w2 [] [(w.heap.size, #[.int .i64 0, .int .u8 5, .int .u8 fv, .int .i64 sv], 23)]) := Lib.hid (K1.out.on hb); have B2 : Hid (Below w.heap.size w w2) := Lib.hid (below_step B1.out hb); clear hb K1 B1))
  refine fo_region HPA (List.mem_of_getElem? (i := 0) rfl) HN2.out (fun g5 g6 gm d A7 n7 c7 A8 n8 c8 w3 K3' l5 l6 hb3 => ?_) K2.out
  have K3 : Hid (EnvF w3 [] [(g6, #[.bool true, .int .i64 0, .int .u32 6], 34), (w.heap.size, #[.int .i64 0, .int .u8 5, .int .u8 fv, .int .i64 sv], 23)]) := Lib.hid (K3'.sub (by simp) (List.Sublist.cons_cons _ (List.Sublist.cons _ (List.Sublist.refl _))))
  have B3 : Hid (Below w.heap.size w w3) := Lib.hid (below_step B2.out.drew hb3)
  clear K3' l5 l6 hb3 K2 B2
  go_wp2_with (first
    | go_skip
    | (refine at_load 5 _ (by rfl) ?_; refine wpList_get (by rfl) 5 _ (by rfl) _ 1 (by rfl) _ _ _ _ (K3.out.row 1 rfl) (by rfl) Try.underlying5 (by rfl) ?_)
    | (refine at_load 5 _ (by rfl) ?_; refine wpListG_get (by kernel_rfl) 5 _ (by rfl) _ 1 (by rfl) _ _ _ _ (K3.out.row 1 rfl) (by rfl) Try.underlying5 (by rfl) ?_)
    | (refine at_load 3 _ (by rfl) ?_; refine wpList_get (by rfl) 3 _ (by rfl) _ 3 (by rfl) _ _ _ _ (K3.out.row 1 rfl) (by rfl) Try.underlying3 (by rfl) ?_)
    | (refine at_load 3 _ (by rfl) ?_; refine wpListG_get (by kernel_rfl) 3 _ (by rfl) _ 3 (by rfl) _ _ _ _ (K3.out.row 1 rfl) (by rfl) Try.underlying3 (by rfl) ?_)
    | (refine at_load 34 (.tmp 6) (by rfl) ?_; refine wpList_load_row (by rfl) 34 (.tmp 6) (by rfl) (g6) (by rfl) 34 #[.bool true, .int .i64 0, .int .u32 6] (0, 0) _ (K3.out.row 0 rfl) Try.underlying34 (by rfl) info_X ?_)
    | (go_at_call 8; (have hc := (rknown_any 5 w3 (by decide)); (with_reducible refine hc.mono ?_); clear hc); rintro e w4 ⟨rfl, rfl⟩; rw [show knownB 5 = true by decide])
    | (go_at_call 6; (have hc := (HW.out w3); (with_reducible refine hc.mono ?_); clear hc); rintro e w4 ⟨rfl, hb⟩; have K4 : Hid (EnvF w4 [] [(g6, #[.bool true, .int .i64 0, .int .u32 6], 34), (w.heap.size, #[.int .i64 0, .int .u8 5, .int .u8 fv, .int .i64 sv], 23)]) := Lib.hid (K3.out.on hb); have B4 : Hid (Below w.heap.size w w4) := Lib.hid (below_step B3.out hb); clear hb K3 B3))
  all_goals
    first
    | (go_ret; exact ⟨rfl, B4.out⟩)
    | (exfalso; have hcc := hc.out; simp_all; done)
    | (exfalso; have hcc := hc.out; clear hc; omega)
set_option maxRecDepth 100000 in
set_option maxHeartbeats 4000000 in
theorem fo_C6 (L fv : Int) (n : Nat) (w : World) (h0 : headB 0 0 = true) (HW : Hid WakesTo) (HPA : Hid (ParseTo 6 fv 0 n true 0 6)) (hn0 : decide ((20000 : Int) < (n : Int)) = false) (hn0' : decide (20000 < n) = false) (hn1 : decide ((16384 : Int) < (n : Int)) = false) (hn1' : decide (16384 < n) = false)(hc : ((n : Int) == 8) = false) (hc' : ((n : Int) != 8) = true) :
    Calls Try.prog 3 #[.agg #[.int .i64 L, .int .u8 6, .int .u8 fv, .int .i64 0], .int .i64 (n : Int)] w fun e w' => e = .returned (.bool true) ∧ Below w.heap.size w w' := by
  have K0 : Hid (EnvF (w.alloc (.cells #[.int .i64 L, .int .u8 6, .int .u8 fv, .int .i64 0] 23)) [] [(w.heap.size, #[.int .i64 L, .int .u8 6, .int .u8 fv, .int .i64 0], 23)]) := Lib.hid ((EnvF.nil w).boxg 23 #[.int .i64 L, .int .u8 6, .int .u8 fv, .int .i64 0] (w.heap.size) (by simp))
  have B0 : Hid (Below w.heap.size w (w.alloc (.cells #[.int .i64 L, .int .u8 6, .int .u8 fv, .int .i64 0] 23))) := Lib.hid ((Below.refl _ w).alloc (by first | exact Nat.le_refl _ | (simp only [World.size_alloc]; omega)) (.cells #[.int .i64 L, .int .u8 6, .int .u8 fv, .int .i64 0] 23))
  have H0 := Lib.hid h0
  have hn2 : n ≤ 1000000 := by have := of_decide_eq_false hn0'; omega
  have HN2 := Lib.hid hn2
  clear h0 hn2
  go_enter Try.func3, Try.ntmps3
  go_wp2_with (first
    | go_skip
    | (refine at_store 3 (.tmp 9) (.const (.int .i64 0)) (by rfl) ?_; refine wpList_put (by rfl) 3 (.tmp 9) (.const (.int .i64 0)) (by rfl) (w.heap.size) 0 (.int .i64 0) (by rfl) (by rfl) 23 #[.int .i64 L, .int .u8 6, .int .u8 fv, .int .i64 0] #[.int .i64 0, .int .u8 6, .int .u8 fv, .int .i64 0] (K0.out.row 0 rfl) (by simp [Value.cells]) (by kernel_rfl) info_i (by kernel_rfl) ?_; intro w1 hrow hoth hz hbl; have K1 : Hid (EnvF w1 [] [(w.heap.size, #[.int .i64 0, .int .u8 6, .int .u8 fv, .int .i64 0], 23)]) := Lib.hid (K0.out.turn 0 rfl hrow hoth hz); have B1 : Hid (Below w.heap.size w w1) := Lib.hid (hbl _ _ (Nat.le_refl _) B0.out); clear hrow hoth hz hbl K0 B0)
    | (refine at_load 23 (.tmp 2) (by rfl) ?_; refine wpList_load_row (by rfl) 23 (.tmp 2) (by rfl) (w.heap.size) (by rfl) 23 #[.int .i64 0, .int .u8 6, .int .u8 fv, .int .i64 0] (0, 0) _ (K1.out.row 0 rfl) Try.underlying23 (by rfl) info_H ?_)
    | (go_at_call 5; (have hc := ((H0.out ▸ rright_any 0 6 fv 0 w1)); (with_reducible refine hc.mono ?_); clear hc); rintro e w2 ⟨rfl, hb⟩; have K2 : Hid (EnvF w2 [] [(w.heap.size, #[.int .i64 0, .int .u8 6, .int .u8 fv, .int .i64 0], 23)]) := Lib.hid (K1.out.on hb); have B2 : Hid (Below w.heap.size w w2) := Lib.hid (below_step B1.out hb); clear hb K1 B1))
  refine fo_region HPA (List.mem_of_getElem? (i := 0) rfl) HN2.out (fun g5 g6 gm d A7 n7 c7 A8 n8 c8 w3 K3' l5 l6 hb3 => ?_) K2.out
  have K3 : Hid (EnvF w3 [] [(g6, #[.bool true, .int .i64 0, .int .u32 6], 34), (w.heap.size, #[.int .i64 0, .int .u8 6, .int .u8 fv, .int .i64 0], 23)]) := Lib.hid (K3'.sub (by simp) (List.Sublist.cons_cons _ (List.Sublist.cons _ (List.Sublist.refl _))))
  have B3 : Hid (Below w.heap.size w w3) := Lib.hid (below_step B2.out.drew hb3)
  clear K3' l5 l6 hb3 K2 B2
  go_wp2_with (first
    | go_skip
    | (refine at_load 5 _ (by rfl) ?_; refine wpList_get (by rfl) 5 _ (by rfl) _ 1 (by rfl) _ _ _ _ (K3.out.row 1 rfl) (by rfl) Try.underlying5 (by rfl) ?_)
    | (refine at_load 5 _ (by rfl) ?_; refine wpListG_get (by kernel_rfl) 5 _ (by rfl) _ 1 (by rfl) _ _ _ _ (K3.out.row 1 rfl) (by rfl) Try.underlying5 (by rfl) ?_)
    | (refine at_load 3 _ (by rfl) ?_; refine wpList_get (by rfl) 3 _ (by rfl) _ 3 (by rfl) _ _ _ _ (K3.out.row 1 rfl) (by rfl) Try.underlying3 (by rfl) ?_)
    | (refine at_load 3 _ (by rfl) ?_; refine wpListG_get (by kernel_rfl) 3 _ (by rfl) _ 3 (by rfl) _ _ _ _ (K3.out.row 1 rfl) (by rfl) Try.underlying3 (by rfl) ?_)
    | (refine at_load 34 (.tmp 6) (by rfl) ?_; refine wpList_load_row (by rfl) 34 (.tmp 6) (by rfl) (g6) (by rfl) 34 #[.bool true, .int .i64 0, .int .u32 6] (0, 0) _ (K3.out.row 0 rfl) Try.underlying34 (by rfl) info_X ?_)
    | (go_at_call 8; (have hc := (rknown_any 6 w3 (by decide)); (with_reducible refine hc.mono ?_); clear hc); rintro e w4 ⟨rfl, rfl⟩; rw [show knownB 6 = true by decide])
    | (go_at_call 6; (have hc := (HW.out w3); (with_reducible refine hc.mono ?_); clear hc); rintro e w4 ⟨rfl, hb⟩; have K4 : Hid (EnvF w4 [] [(g6, #[.bool true, .int .i64 0, .int .u32 6], 34), (w.heap.size, #[.int .i64 0, .int .u8 6, .int .u8 fv, .int .i64 0], 23)]) := Lib.hid (K3.out.on hb); have B4 : Hid (Below w.heap.size w w4) := Lib.hid (below_step B3.out hb); clear hb K3 B3))
  all_goals
    first
    | (go_ret; exact ⟨rfl, B4.out⟩)
    | (exfalso; have hcc := hc.out; simp_all; done)
    | (exfalso; have hcc := hc.out; clear hc; omega)
set_option maxRecDepth 100000 in
set_option maxHeartbeats 4000000 in
theorem fo_C7 (L fv : Int) (n : Nat) (w : World) (h0 : headB 0 0 = true) (HW : Hid WakesTo) (HPA : Hid (ParseTo 7 fv 0 n true 0 6)) (hn0 : decide ((20000 : Int) < (n : Int)) = false) (hn0' : decide (20000 < n) = false) (hn1 : decide ((16384 : Int) < (n : Int)) = false) (hn1' : decide (16384 < n) = false)(hc : decide ((n : Int) < 8) = true) (hc' : decide (n < 8) = true) :
    Calls Try.prog 3 #[.agg #[.int .i64 L, .int .u8 7, .int .u8 fv, .int .i64 0], .int .i64 (n : Int)] w fun e w' => e = .returned (.bool true) ∧ Below w.heap.size w w' := by
  have K0 : Hid (EnvF (w.alloc (.cells #[.int .i64 L, .int .u8 7, .int .u8 fv, .int .i64 0] 23)) [] [(w.heap.size, #[.int .i64 L, .int .u8 7, .int .u8 fv, .int .i64 0], 23)]) := Lib.hid ((EnvF.nil w).boxg 23 #[.int .i64 L, .int .u8 7, .int .u8 fv, .int .i64 0] (w.heap.size) (by simp))
  have B0 : Hid (Below w.heap.size w (w.alloc (.cells #[.int .i64 L, .int .u8 7, .int .u8 fv, .int .i64 0] 23))) := Lib.hid ((Below.refl _ w).alloc (by first | exact Nat.le_refl _ | (simp only [World.size_alloc]; omega)) (.cells #[.int .i64 L, .int .u8 7, .int .u8 fv, .int .i64 0] 23))
  have H0 := Lib.hid h0
  have hn2 : n ≤ 1000000 := by have := of_decide_eq_false hn0'; omega
  have HN2 := Lib.hid hn2
  clear h0 hn2
  go_enter Try.func3, Try.ntmps3
  go_wp2_with (first
    | go_skip
    | (refine at_store 3 (.tmp 9) (.const (.int .i64 0)) (by rfl) ?_; refine wpList_put (by rfl) 3 (.tmp 9) (.const (.int .i64 0)) (by rfl) (w.heap.size) 0 (.int .i64 0) (by rfl) (by rfl) 23 #[.int .i64 L, .int .u8 7, .int .u8 fv, .int .i64 0] #[.int .i64 0, .int .u8 7, .int .u8 fv, .int .i64 0] (K0.out.row 0 rfl) (by simp [Value.cells]) (by kernel_rfl) info_i (by kernel_rfl) ?_; intro w1 hrow hoth hz hbl; have K1 : Hid (EnvF w1 [] [(w.heap.size, #[.int .i64 0, .int .u8 7, .int .u8 fv, .int .i64 0], 23)]) := Lib.hid (K0.out.turn 0 rfl hrow hoth hz); have B1 : Hid (Below w.heap.size w w1) := Lib.hid (hbl _ _ (Nat.le_refl _) B0.out); clear hrow hoth hz hbl K0 B0)
    | (refine at_load 23 (.tmp 2) (by rfl) ?_; refine wpList_load_row (by rfl) 23 (.tmp 2) (by rfl) (w.heap.size) (by rfl) 23 #[.int .i64 0, .int .u8 7, .int .u8 fv, .int .i64 0] (0, 0) _ (K1.out.row 0 rfl) Try.underlying23 (by rfl) info_H ?_)
    | (go_at_call 5; (have hc := ((H0.out ▸ rright_any 0 7 fv 0 w1)); (with_reducible refine hc.mono ?_); clear hc); rintro e w2 ⟨rfl, hb⟩; have K2 : Hid (EnvF w2 [] [(w.heap.size, #[.int .i64 0, .int .u8 7, .int .u8 fv, .int .i64 0], 23)]) := Lib.hid (K1.out.on hb); have B2 : Hid (Below w.heap.size w w2) := Lib.hid (below_step B1.out hb); clear hb K1 B1))
  refine fo_region HPA (List.mem_of_getElem? (i := 0) rfl) HN2.out (fun g5 g6 gm d A7 n7 c7 A8 n8 c8 w3 K3' l5 l6 hb3 => ?_) K2.out
  have K3 : Hid (EnvF w3 [] [(g6, #[.bool true, .int .i64 0, .int .u32 6], 34), (w.heap.size, #[.int .i64 0, .int .u8 7, .int .u8 fv, .int .i64 0], 23)]) := Lib.hid (K3'.sub (by simp) (List.Sublist.cons_cons _ (List.Sublist.cons _ (List.Sublist.refl _))))
  have B3 : Hid (Below w.heap.size w w3) := Lib.hid (below_step B2.out.drew hb3)
  clear K3' l5 l6 hb3 K2 B2
  go_wp2_with (first
    | go_skip
    | (refine at_load 5 _ (by rfl) ?_; refine wpList_get (by rfl) 5 _ (by rfl) _ 1 (by rfl) _ _ _ _ (K3.out.row 1 rfl) (by rfl) Try.underlying5 (by rfl) ?_)
    | (refine at_load 5 _ (by rfl) ?_; refine wpListG_get (by kernel_rfl) 5 _ (by rfl) _ 1 (by rfl) _ _ _ _ (K3.out.row 1 rfl) (by rfl) Try.underlying5 (by rfl) ?_)
    | (refine at_load 3 _ (by rfl) ?_; refine wpList_get (by rfl) 3 _ (by rfl) _ 3 (by rfl) _ _ _ _ (K3.out.row 1 rfl) (by rfl) Try.underlying3 (by rfl) ?_)
    | (refine at_load 3 _ (by rfl) ?_; refine wpListG_get (by kernel_rfl) 3 _ (by rfl) _ 3 (by rfl) _ _ _ _ (K3.out.row 1 rfl) (by rfl) Try.underlying3 (by rfl) ?_)
    | (refine at_load 34 (.tmp 6) (by rfl) ?_; refine wpList_load_row (by rfl) 34 (.tmp 6) (by rfl) (g6) (by rfl) 34 #[.bool true, .int .i64 0, .int .u32 6] (0, 0) _ (K3.out.row 0 rfl) Try.underlying34 (by rfl) info_X ?_)
    | (go_at_call 8; (have hc := (rknown_any 7 w3 (by decide)); (with_reducible refine hc.mono ?_); clear hc); rintro e w4 ⟨rfl, rfl⟩; rw [show knownB 7 = true by decide])
    | (go_at_call 6; (have hc := (HW.out w3); (with_reducible refine hc.mono ?_); clear hc); rintro e w4 ⟨rfl, hb⟩; have K4 : Hid (EnvF w4 [] [(g6, #[.bool true, .int .i64 0, .int .u32 6], 34), (w.heap.size, #[.int .i64 0, .int .u8 7, .int .u8 fv, .int .i64 0], 23)]) := Lib.hid (K3.out.on hb); have B4 : Hid (Below w.heap.size w w4) := Lib.hid (below_step B3.out hb); clear hb K3 B3))
  all_goals
    first
    | (go_ret; exact ⟨rfl, B4.out⟩)
    | (exfalso; have hcc := hc.out; simp_all; done)
    | (exfalso; have hcc := hc.out; clear hc; omega)
set_option maxRecDepth 100000 in
set_option maxHeartbeats 4000000 in
theorem fo_D8 (L fv sv : Int) (n : Nat) (xb : Bool) (xs xc : Int) (w : World) (h0 : headB 0 sv = true) (HW : Hid WakesTo) (HPA : Hid (ParseTo 8 fv sv n xb xs xc)) (hn0 : decide ((20000 : Int) < (n : Int)) = false) (hn0' : decide (20000 < n) = false) (hn1 : decide ((16384 : Int) < (n : Int)) = false) (hn1' : decide (16384 < n) = false)(hc : Hid (n = 4)) :
    Calls Try.prog 3 #[.agg #[.int .i64 L, .int .u8 8, .int .u8 fv, .int .i64 sv], .int .i64 (n : Int)] w fun e w' => e = .returned (.bool true) ∧ Below w.heap.size w w' := by
  have K0 : Hid (EnvF (w.alloc (.cells #[.int .i64 L, .int .u8 8, .int .u8 fv, .int .i64 sv] 23)) [] [(w.heap.size, #[.int .i64 L, .int .u8 8, .int .u8 fv, .int .i64 sv], 23)]) := Lib.hid ((EnvF.nil w).boxg 23 #[.int .i64 L, .int .u8 8, .int .u8 fv, .int .i64 sv] (w.heap.size) (by simp))
  have B0 : Hid (Below w.heap.size w (w.alloc (.cells #[.int .i64 L, .int .u8 8, .int .u8 fv, .int .i64 sv] 23))) := Lib.hid ((Below.refl _ w).alloc (by first | exact Nat.le_refl _ | (simp only [World.size_alloc]; omega)) (.cells #[.int .i64 L, .int .u8 8, .int .u8 fv, .int .i64 sv] 23))
  have H0 := Lib.hid h0
  have hn2 : n ≤ 1000000 := by have := of_decide_eq_false hn0'; omega
  have HN2 := Lib.hid hn2
  clear h0 hn2
  go_enter Try.func3, Try.ntmps3
  go_wp2_with (first
    | go_skip
    | (refine at_store 3 (.tmp 9) (.const (.int .i64 0)) (by rfl) ?_; refine wpList_put (by rfl) 3 (.tmp 9) (.const (.int .i64 0)) (by rfl) (w.heap.size) 0 (.int .i64 0) (by rfl) (by rfl) 23 #[.int .i64 L, .int .u8 8, .int .u8 fv, .int .i64 sv] #[.int .i64 0, .int .u8 8, .int .u8 fv, .int .i64 sv] (K0.out.row 0 rfl) (by simp [Value.cells]) (by kernel_rfl) info_i (by kernel_rfl) ?_; intro w1 hrow hoth hz hbl; have K1 : Hid (EnvF w1 [] [(w.heap.size, #[.int .i64 0, .int .u8 8, .int .u8 fv, .int .i64 sv], 23)]) := Lib.hid (K0.out.turn 0 rfl hrow hoth hz); have B1 : Hid (Below w.heap.size w w1) := Lib.hid (hbl _ _ (Nat.le_refl _) B0.out); clear hrow hoth hz hbl K0 B0)
    | (refine at_load 23 (.tmp 2) (by rfl) ?_; refine wpList_load_row (by rfl) 23 (.tmp 2) (by rfl) (w.heap.size) (by rfl) 23 #[.int .i64 0, .int .u8 8, .int .u8 fv, .int .i64 sv] (0, 0) _ (K1.out.row 0 rfl) Try.underlying23 (by rfl) info_H ?_)
    | (go_at_call 5; (have hc := ((H0.out ▸ rright_any 0 8 fv sv w1)); (with_reducible refine hc.mono ?_); clear hc); rintro e w2 ⟨rfl, hb⟩; have K2 : Hid (EnvF w2 [] [(w.heap.size, #[.int .i64 0, .int .u8 8, .int .u8 fv, .int .i64 sv], 23)]) := Lib.hid (K1.out.on hb); have B2 : Hid (Below w.heap.size w w2) := Lib.hid (below_step B1.out hb); clear hb K1 B1))
  refine fo_region HPA (List.mem_of_getElem? (i := 0) rfl) HN2.out (fun g5 g6 gm d A7 n7 c7 A8 n8 c8 w3 K3' l5 l6 hb3 => ?_) K2.out
  have K3 : Hid (EnvF w3 [] [(g6, #[.bool xb, .int .i64 xs, .int .u32 xc], 34), (w.heap.size, #[.int .i64 0, .int .u8 8, .int .u8 fv, .int .i64 sv], 23)]) := Lib.hid (K3'.sub (by simp) (List.Sublist.cons_cons _ (List.Sublist.cons _ (List.Sublist.refl _))))
  have B3 : Hid (Below w.heap.size w w3) := Lib.hid (below_step B2.out.drew hb3)
  clear K3' l5 l6 hb3 K2 B2
  go_wp2_with (first
    | go_skip
    | (refine at_load 5 _ (by rfl) ?_; refine wpList_get (by rfl) 5 _ (by rfl) _ 1 (by rfl) _ _ _ _ (K3.out.row 1 rfl) (by rfl) Try.underlying5 (by rfl) ?_)
    | (refine at_load 5 _ (by rfl) ?_; refine wpListG_get (by kernel_rfl) 5 _ (by rfl) _ 1 (by rfl) _ _ _ _ (K3.out.row 1 rfl) (by rfl) Try.underlying5 (by rfl) ?_)
    | (refine at_load 3 _ (by rfl) ?_; refine wpList_get (by rfl) 3 _ (by rfl) _ 3 (by rfl) _ _ _ _ (K3.out.row 1 rfl) (by rfl) Try.underlying3 (by rfl) ?_)
    | (refine at_load 3 _ (by rfl) ?_; refine wpListG_get (by kernel_rfl) 3 _ (by rfl) _ 3 (by rfl) _ _ _ _ (K3.out.row 1 rfl) (by rfl) Try.underlying3 (by rfl) ?_)
    | (refine at_load 34 (.tmp 6) (by rfl) ?_; refine wpList_load_row (by rfl) 34 (.tmp 6) (by rfl) (g6) (by rfl) 34 #[.bool xb, .int .i64 xs, .int .u32 xc] (0, 0) _ (K3.out.row 0 rfl) Try.underlying34 (by rfl) info_X ?_)
    | (go_at_call 8; (have hc := (rknown_any 8 w3 (by decide)); (with_reducible refine hc.mono ?_); clear hc); rintro e w4 ⟨rfl, rfl⟩; rw [show knownB 8 = true by decide])
    | (go_at_call 6; (have hc := (HW.out w3); (with_reducible refine hc.mono ?_); clear hc); rintro e w4 ⟨rfl, hb⟩; have K4 : Hid (EnvF w4 [] [(g6, #[.bool xb, .int .i64 xs, .int .u32 xc], 34), (w.heap.size, #[.int .i64 0, .int .u8 8, .int .u8 fv, .int .i64 sv], 23)]) := Lib.hid (K3.out.on hb); have B4 : Hid (Below w.heap.size w w4) := Lib.hid (below_step B3.out hb); clear hb K3 B3))
  all_goals
    first
    | (go_ret; exact ⟨rfl, B4.out⟩)
    | (exfalso; have hcc := hc.out; simp_all; done)
    | (exfalso; have hcc := hc.out; clear hc; omega)
set_option maxRecDepth 100000 in
set_option maxHeartbeats 4000000 in
theorem fo_A16 (L fv sv : Int) (n : Nat) (w : World) (h0 : headB 0 sv = true) (HW : Hid WakesTo) (HPA : Hid (ParseTo 16 fv sv n true 0 6)) (hn0 : decide ((20000 : Int) < (n : Int)) = false) (hn0' : decide (20000 < n) = false) (hn1 : decide ((16384 : Int) < (n : Int)) = true) (hn1' : decide (16384 < n) = true) :
    Calls Try.prog 3 #[.agg #[.int .i64 L, .int .u8 16, .int .u8 fv, .int .i64 sv], .int .i64 (n : Int)] w fun e w' => e = .returned (.bool true) ∧ Below w.heap.size w w' := by
  have K0 : Hid (EnvF (w.alloc (.cells #[.int .i64 L, .int .u8 16, .int .u8 fv, .int .i64 sv] 23)) [] [(w.heap.size, #[.int .i64 L, .int .u8 16, .int .u8 fv, .int .i64 sv], 23)]) := Lib.hid ((EnvF.nil w).boxg 23 #[.int .i64 L, .int .u8 16, .int .u8 fv, .int .i64 sv] (w.heap.size) (by simp))
  have B0 : Hid (Below w.heap.size w (w.alloc (.cells #[.int .i64 L, .int .u8 16, .int .u8 fv, .int .i64 sv] 23))) := Lib.hid ((Below.refl _ w).alloc (by first | exact Nat.le_refl _ | (simp only [World.size_alloc]; omega)) (.cells #[.int .i64 L, .int .u8 16, .int .u8 fv, .int .i64 sv] 23))
  have H0 := Lib.hid h0
  have hn2 : n ≤ 1000000 := by have := of_decide_eq_false hn0'; omega
  have HN2 := Lib.hid hn2
  clear h0 hn2
  go_enter Try.func3, Try.ntmps3
  go_wp2_with (first
    | go_skip
    | (refine at_store 3 (.tmp 9) (.const (.int .i64 0)) (by rfl) ?_; refine wpList_put (by rfl) 3 (.tmp 9) (.const (.int .i64 0)) (by rfl) (w.heap.size) 0 (.int .i64 0) (by rfl) (by rfl) 23 #[.int .i64 L, .int .u8 16, .int .u8 fv, .int .i64 sv] #[.int .i64 0, .int .u8 16, .int .u8 fv, .int .i64 sv] (K0.out.row 0 rfl) (by simp [Value.cells]) (by kernel_rfl) info_i (by kernel_rfl) ?_; intro w1 hrow hoth hz hbl; have K1 : Hid (EnvF w1 [] [(w.heap.size, #[.int .i64 0, .int .u8 16, .int .u8 fv, .int .i64 sv], 23)]) := Lib.hid (K0.out.turn 0 rfl hrow hoth hz); have B1 : Hid (Below w.heap.size w w1) := Lib.hid (hbl _ _ (Nat.le_refl _) B0.out); clear hrow hoth hz hbl K0 B0)
    | (refine at_load 23 (.tmp 2) (by rfl) ?_; refine wpList_load_row (by rfl) 23 (.tmp 2) (by rfl) (w.heap.size) (by rfl) 23 #[.int .i64 0, .int .u8 16, .int .u8 fv, .int .i64 sv] (0, 0) _ (K1.out.row 0 rfl) Try.underlying23 (by rfl) info_H ?_)
    | (go_at_call 5; (have hc := ((H0.out ▸ rright_any 0 16 fv sv w1)); (with_reducible refine hc.mono ?_); clear hc); rintro e w2 ⟨rfl, hb⟩; have K2 : Hid (EnvF w2 [] [(w.heap.size, #[.int .i64 0, .int .u8 16, .int .u8 fv, .int .i64 sv], 23)]) := Lib.hid (K1.out.on hb); have B2 : Hid (Below w.heap.size w w2) := Lib.hid (below_step B1.out hb); clear hb K1 B1))
  refine fo_region HPA (List.mem_of_getElem? (i := 0) rfl) HN2.out (fun g5 g6 gm d A7 n7 c7 A8 n8 c8 w3 K3' l5 l6 hb3 => ?_) K2.out
  have K3 : Hid (EnvF w3 [] [(g6, #[.bool true, .int .i64 0, .int .u32 6], 34), (w.heap.size, #[.int .i64 0, .int .u8 16, .int .u8 fv, .int .i64 sv], 23)]) := Lib.hid (K3'.sub (by simp) (List.Sublist.cons_cons _ (List.Sublist.cons _ (List.Sublist.refl _))))
  have B3 : Hid (Below w.heap.size w w3) := Lib.hid (below_step B2.out.drew hb3)
  clear K3' l5 l6 hb3 K2 B2
  go_wp2_with (first
    | go_skip
    | (refine at_load 5 _ (by rfl) ?_; refine wpList_get (by rfl) 5 _ (by rfl) _ 1 (by rfl) _ _ _ _ (K3.out.row 1 rfl) (by rfl) Try.underlying5 (by rfl) ?_)
    | (refine at_load 5 _ (by rfl) ?_; refine wpListG_get (by kernel_rfl) 5 _ (by rfl) _ 1 (by rfl) _ _ _ _ (K3.out.row 1 rfl) (by rfl) Try.underlying5 (by rfl) ?_)
    | (refine at_load 3 _ (by rfl) ?_; refine wpList_get (by rfl) 3 _ (by rfl) _ 3 (by rfl) _ _ _ _ (K3.out.row 1 rfl) (by rfl) Try.underlying3 (by rfl) ?_)
    | (refine at_load 3 _ (by rfl) ?_; refine wpListG_get (by kernel_rfl) 3 _ (by rfl) _ 3 (by rfl) _ _ _ _ (K3.out.row 1 rfl) (by rfl) Try.underlying3 (by rfl) ?_)
    | (refine at_load 34 (.tmp 6) (by rfl) ?_; refine wpList_load_row (by rfl) 34 (.tmp 6) (by rfl) (g6) (by rfl) 34 #[.bool true, .int .i64 0, .int .u32 6] (0, 0) _ (K3.out.row 0 rfl) Try.underlying34 (by rfl) info_X ?_)
    | (go_at_call 8; (have hc := (rknown_any 16 w3 (by decide)); (with_reducible refine hc.mono ?_); clear hc); rintro e w4 ⟨rfl, rfl⟩; rw [show knownB 16 = true by decide])
    | (go_at_call 6; (have hc := (HW.out w3); (with_reducible refine hc.mono ?_); clear hc); rintro e w4 ⟨rfl, hb⟩; have K4 : Hid (EnvF w4 [] [(g6, #[.bool true, .int .i64 0, .int .u32 6], 34), (w.heap.size, #[.int .i64 0, .int .u8 16, .int .u8 fv, .int .i64 sv], 23)]) := Lib.hid (K3.out.on hb); have B4 : Hid (Below w.heap.size w w4) := Lib.hid (below_step B3.out hb); clear hb K3 B3))
  all_goals
    first
    | (go_ret; exact ⟨rfl, B4.out⟩)
    | (exfalso; have hcc := hc.out; simp_all; done)
    | (exfalso; have hcc := hc.out; clear hc; omega)
set_option maxRecDepth 100000 in
set_option maxHeartbeats 4000000 in
theorem fo_Ao (L kv fv sv : Int) (n : Nat) (w : World) (e0 : (kv == 0) = false) (e1 : (kv == 1) = false) (e2 : (kv == 2) = false) (e3 : (kv == 3) = false) (e4 : (kv == 4) = false) (e5 : (kv == 5) = false) (e6 : (kv == 6) = false) (e7 : (kv == 7) = false) (e8 : (kv == 8) = false) (e9 : (kv == 9) = false) (e16 : (kv == 16) = false) (hk0 : 0 ≤ kv) (hkn : knownB kv = false) (h0 : headB 0 sv = true) (HW : Hid WakesTo) (HPA : Hid (ParseTo kv fv sv n true 0 6)) (hn0 : decide ((20000 : Int) < (n : Int)) = false) (hn0' : decide (20000 < n) = false) (hn1 : decide ((16384 : Int) < (n : Int)) = true) (hn1' : decide (16384 < n) = true) :
    Calls Try.prog 3 #[.agg #[.int .i64 L, .int .u8 kv, .int .u8 fv, .int .i64 sv], .int .i64 (n : Int)] w fun e w' => e = .returned (.bool true) ∧ Below w.heap.size w w' := by
  have K0 : Hid (EnvF (w.alloc (.cells #[.int .i64 L, .int .u8 kv, .int .u8 fv, .int .i64 sv] 23)) [] [(w.heap.size, #[.int .i64 L, .int .u8 kv, .int .u8 fv, .int .i64 sv], 23)]) := Lib.hid ((EnvF.nil w).boxg 23 #[.int .i64 L, .int .u8 kv, .int .u8 fv, .int .i64 sv] (w.heap.size) (by simp))
  have B0 : Hid (Below w.heap.size w (w.alloc (.cells #[.int .i64 L, .int .u8 kv, .int .u8 fv, .int .i64 sv] 23))) := Lib.hid ((Below.refl _ w).alloc (by first | exact Nat.le_refl _ | (simp only [World.size_alloc]; omega)) (.cells #[.int .i64 L, .int .u8 kv, .int .u8 fv, .int .i64 sv] 23))
  have H0 := Lib.hid h0
  have hn2 : n ≤ 1000000 := by have := of_decide_eq_false hn0'; omega
  have HN2 := Lib.hid hn2
  clear h0 hn2
  have HK := Lib.hid (And.intro hk0 hkn)
  clear hk0 hkn
  go_enter Try.func3, Try.ntmps3
  go_wp2_with (first
    | go_skip
    | (refine at_store 3 (.tmp 9) (.const (.int .i64 0)) (by rfl) ?_; refine wpList_put (by rfl) 3 (.tmp 9) (.const (.int .i64 0)) (by rfl) (w.heap.size) 0 (.int .i64 0) (by rfl) (by rfl) 23 #[.int .i64 L, .int .u8 kv, .int .u8 fv, .int .i64 sv] #[.int .i64 0, .int .u8 kv, .int .u8 fv, .int .i64 sv] (K0.out.row 0 rfl) (by simp [Value.cells]) (by kernel_rfl) info_i (by kernel_rfl) ?_; intro w1 hrow hoth hz hbl; have K1 : Hid (EnvF w1 [] [(w.heap.size, #[.int .i64 0, .int .u8 kv, .int .u8 fv, .int .i64 sv], 23)]) := Lib.hid (K0.out.turn 0 rfl hrow hoth hz); have B1 : Hid (Below w.heap.size w w1) := Lib.hid (hbl _ _ (Nat.le_refl _) B0.out); clear hrow hoth hz hbl K0 B0)
    | (refine at_load 23 (.tmp 2) (by rfl) ?_; refine wpList_load_row (by rfl) 23 (.tmp 2) (by rfl) (w.heap.size) (by rfl) 23 #[.int .i64 0, .int .u8 kv, .int .u8 fv, .int .i64 sv] (0, 0) _ (K1.out.row 0 rfl) Try.underlying23 (by rfl) info_H ?_)
    | (go_at_call 5; (have hc := ((H0.out ▸ rright_any 0 kv fv sv w1)); (with_reducible refine hc.mono ?_); clear hc); rintro e w2 ⟨rfl, hb⟩; have K2 : Hid (EnvF w2 [] [(w.heap.size, #[.int .i64 0, .int .u8 kv, .int .u8 fv, .int .i64 sv], 23)]) := Lib.hid (K1.out.on hb); have B2 : Hid (Below w.heap.size w w2) := Lib.hid (below_step B1.out hb); clear hb K1 B1))
  refine fo_region HPA (List.mem_of_getElem? (i := 0) rfl) HN2.out (fun g5 g6 gm d A7 n7 c7 A8 n8 c8 w3 K3' l5 l6 hb3 => ?_) K2.out
  have K3 : Hid (EnvF w3 [] [(g6, #[.bool true, .int .i64 0, .int .u32 6], 34), (w.heap.size, #[.int .i64 0, .int .u8 kv, .int .u8 fv, .int .i64 sv], 23)]) := Lib.hid (K3'.sub (by simp) (List.Sublist.cons_cons _ (List.Sublist.cons _ (List.Sublist.refl _))))
  have B3 : Hid (Below w.heap.size w w3) := Lib.hid (below_step B2.out.drew hb3)
  clear K3' l5 l6 hb3 K2 B2
  go_wp2_with (first
    | go_skip
    | (refine at_load 5 _ (by rfl) ?_; refine wpList_get (by rfl) 5 _ (by rfl) _ 1 (by rfl) _ _ _ _ (K3.out.row 1 rfl) (by rfl) Try.underlying5 (by rfl) ?_)
    | (refine at_load 5 _ (by rfl) ?_; refine wpListG_get (by kernel_rfl) 5 _ (by rfl) _ 1 (by rfl) _ _ _ _ (K3.out.row 1 rfl) (by rfl) Try.underlying5 (by rfl) ?_)
    | (refine at_load 3 _ (by rfl) ?_; refine wpList_get (by rfl) 3 _ (by rfl) _ 3 (by rfl) _ _ _ _ (K3.out.row 1 rfl) (by rfl) Try.underlying3 (by rfl) ?_)
    | (refine at_load 3 _ (by rfl) ?_; refine wpListG_get (by kernel_rfl) 3 _ (by rfl) _ 3 (by rfl) _ _ _ _ (K3.out.row 1 rfl) (by rfl) Try.underlying3 (by rfl) ?_)
    | (refine at_load 34 (.tmp 6) (by rfl) ?_; refine wpList_load_row (by rfl) 34 (.tmp 6) (by rfl) (g6) (by rfl) 34 #[.bool true, .int .i64 0, .int .u32 6] (0, 0) _ (K3.out.row 0 rfl) Try.underlying34 (by rfl) info_X ?_)
    | (go_at_call 8; (have hc := (rknown_any kv w3 HK.out.1); (with_reducible refine hc.mono ?_); clear hc); rintro e w4 ⟨rfl, rfl⟩; rw [HK.out.2])
    | (go_at_call 6; (have hc := (HW.out w3); (with_reducible refine hc.mono ?_); clear hc); rintro e w4 ⟨rfl, hb⟩; have K4 : Hid (EnvF w4 [] [(g6, #[.bool true, .int .i64 0, .int .u32 6], 34), (w.heap.size, #[.int .i64 0, .int .u8 kv, .int .u8 fv, .int .i64 sv], 23)]) := Lib.hid (K3.out.on hb); have B4 : Hid (Below w.heap.size w w4) := Lib.hid (below_step B3.out hb); clear hb K3 B3))
  all_goals
    first
    | (go_ret; exact ⟨rfl, B4.out⟩)
    | (exfalso; have hcc := hc.out; simp_all; done)
    | (exfalso; have hcc := hc.out; clear hc; omega)
end Go.Proofs.Ytmbjmpijilmbkaa
