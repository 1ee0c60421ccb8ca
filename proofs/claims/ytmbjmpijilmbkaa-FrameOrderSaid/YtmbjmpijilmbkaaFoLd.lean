/- FrameOrder: its walks, part 3. -/
import Derived.Test.YtmbjmpijilmbkaaFoR
namespace Go.Proofs.Ytmbjmpijilmbkaa
open Go.RowKit Oct Fi Fm
set_option linter.unusedVariables false
set_option linter.unusedSimpArgs false
set_option maxRecDepth 100000 in
set_option maxHeartbeats 4000000 in
theorem fo_A1 (L fv sv : Int) (n : Nat) (w : World) (h0 : headB 0 sv = true) (HW : Hid WakesTo) (HPA : Hid (ParseTo 1 fv sv n true 0 6)) (hn0 : decide ((20000 : Int) < (n : Int)) = false) (hn0' : decide (20000 < n) = false) (hn1 : decide ((16384 : Int) < (n : Int)) = true) (hn1' : decide (16384 < n) = true) :
    Calls Try.prog 3 #[.agg #[.int .i64 L, .int .u8 1, .int .u8 fv, .int .i64 sv], .int .i64 (n : Int)] w fun e w' => e = .returned (.bool true) ∧ Below w.heap.size w w' := by
  have K0 : Hid (EnvF (w.alloc (.cells #[.int .i64 L, .int .u8 1, .int .u8 fv, .int .i64 sv] 23)) [] [(w.heap.size, #[.int .i64 L, .int .u8 1, .int .u8 fv, .int .i64 sv], 23)]) := Lib.hid ((EnvF.nil w).boxg 23 #[.int .i64 L, .int .u8 1, .int .u8 fv, .int .i64 sv] (w.heap.size) (by simp))
  have B0 : Hid (Below w.heap.size w (w.alloc (.cells #[.int .i64 L, .int .u8 1, .int .u8 fv, .int .i64 sv] 23))) := Lib.hid ((Below.refl _ w).alloc (by first | exact Nat.le_refl _ | (simp only [World.size_alloc]; omega)) (.cells #[.int .i64 L, .int .u8 1, .int .u8 fv, .int .i64 sv] 23))
  have H0 := Lib.hid h0
  have hn2 : n ≤ 1000000 := by have := of_decide_eq_false hn0'; omega
  have HN2 := Lib.hid hn2
  clear h0 hn2
  go_enter Try.func3, Try.ntmps3
  go_wp2_with (first
    | go_skip
    | (refine at_store 3 (.tmp 9) (.const (.int .i64 0)) (by rfl) ?_; refine wpList_put (by rfl) 3 (.tmp 9) (.const (.int .i64 0)) (by rfl) (w.heap.size) 0 (.int .i64 0) (by rfl) (by rfl) 23 #[.int .i64 L, .int .u8 1, .int .u8 fv, .int .i64 sv] #[.int .i64 0, .int .u8 1, .int .u8 fv, .int .i64 sv] (K0.out.row 0 rfl) (by simp [Value.cells]) (by kernel_rfl) info_i (by kernel_rfl) ?_; intro w1 hrow hoth hz hbl; have K1 : Hid (EnvF w1 [] [(w.heap.size, #[.int .i64 0, .int .u8 1, .int .u8 fv, .int .i64 sv], 23)]) := Lib.hid (K0.out.turn 0 rfl hrow hoth hz); have B1 : Hid (Below w.heap.size w w1) := Lib.hid (hbl _ _ (Nat.le_refl _) B0.out); clear hrow hoth hz hbl K0 B0)
    | (refine at_load 23 (.tmp 2) (by rfl) ?_; refine wpList_load_row (by rfl) 23 (.tmp 2) (by rfl) (w.heap.size) (by rfl) 23 #[.int .i64 0, .int .u8 1, .int .u8 fv, .int .i64 sv] (0, 0) _ (K1.out.row 0 rfl) Try.underlying23 (by rfl) info_H ?_)
    | (go_at_call 5; (have hc := ((H0.out ▸ rright_any 0 1 fv sv w1)); (with_reducible refine hc.mono ?_); clear hc); rintro e w2 ⟨rfl, hb⟩; have K2 : Hid (EnvF w2 [] [(w.heap.size, #[.int .i64 0, .int .u8 1, .int .u8 fv, .int .i64 sv], 23)]) := Lib.hid (K1.out.on hb); have B2 : Hid (Below w.heap.size w w2) := Lib.hid (below_step B1.out hb); clear hb K1 B1))
  refine fo_region HPA (List.mem_of_getElem? (i := 0) rfl) HN2.out (fun g5 g6 gm d A7 n7 c7 A8 n8 c8 w3 K3' l5 l6 hb3 => ?_) K2.out
  have K3 : Hid (EnvF w3 [] [(g6, #[.bool true, .int .i64 0, .int .u32 6], 34), (w.heap.size, #[.int .i64 0, .int .u8 1, .int .u8 fv, .int .i64 sv], 23)]) := Lib.hid (K3'.sub (by simp) (List.Sublist.cons_cons _ (List.Sublist.cons _ (List.Sublist.refl _))))
  have B3 : Hid (Below w.heap.size w w3) := Lib.hid (below_step B2.out.drew hb3)
  clear K3' l5 l6 hb3 K2 B2
  go_wp2_with (first
    | go_skip
    | (refine at_load 5 _ (by rfl) ?_; refine wpList_get (by rfl) 5 _ (by rfl) _ 1 (by rfl) _ _ _ _ (K3.out.row 1 rfl) (by rfl) Try.underlying5 (by rfl) ?_)
    | (refine at_load 5 _ (by rfl) ?_; refine wpListG_get (by kernel_rfl) 5 _ (by rfl) _ 1 (by rfl) _ _ _ _ (K3.out.row 1 rfl) (by rfl) Try.underlying5 (by rfl) ?_)
    | (refine at_load 3 _ (by rfl) ?_; refine wpList_get (by rfl) 3 _ (by rfl) _ 3 (by rfl) _ _ _ _ (K3.out.row 1 rfl) (by rfl) Try.underlying3 (by rfl) ?_)
    | (refine at_load 3 _ (by rfl) ?_; refine wpListG_get (by kernel_rfl) 3 _ (by rfl) _ 3 (by rfl) _ _ _ _ (K3.out.row 1 rfl) (by rfl) Try.underlying3 (by rfl) ?_)
    | (refine at_load 34 (.tmp 6) (by rfl) ?_; refine wpList_load_row (by rfl) 34 (.tmp 6) (by rfl) (g6) (by rfl) 34 #[.bool true, .int .i64 0, .int .u32 6] (0, 0) _ (K3.out.row 0 rfl) Try.underlying34 (by rfl) info_X ?_)
    | (go_at_call 8; (have hc := (rknown_any 1 w3 (by decide)); (with_reducible refine hc.mono ?_); clear hc); rintro e w4 ⟨rfl, rfl⟩; rw [show knownB 1 = true by decide])
    | (go_at_call 6; (have hc := (HW.out w3); (with_reducible refine hc.mono ?_); clear hc); rintro e w4 ⟨rfl, hb⟩; have K4 : Hid (EnvF w4 [] [(g6, #[.bool true, .int .i64 0, .int .u32 6], 34), (w.heap.size, #[.int .i64 0, .int .u8 1, .int .u8 fv, .int .i64 sv], 23)]) := Lib.hid (K3.out.on hb); have B4 : Hid (Below w.heap.size w w4) := Lib.hid (below_step B3.out hb); clear hb K3 B3))
  all_goals
    first
    | (go_ret; exact ⟨rfl, B4.out⟩)
    | (exfalso; have hcc := hc.out; simp_all; done)
    | (exfalso; have hcc := hc.out; clear hc; omega)
set_option maxRecDepth 100000 in
set_option maxHeartbeats 4000000 in
theorem fo_B2 (L fv : Int) (n : Nat) (w : World) (h0 : headB 0 0 = true) (HW : Hid WakesTo) (HPA : Hid (ParseTo 2 fv 0 n true 0 1)) (hn0 : decide ((20000 : Int) < (n : Int)) = false) (hn0' : decide (20000 < n) = false) (hn1 : decide ((16384 : Int) < (n : Int)) = false) (hn1' : decide (16384 < n) = false) :
    Calls Try.prog 3 #[.agg #[.int .i64 L, .int .u8 2, .int .u8 fv, .int .i64 0], .int .i64 (n : Int)] w fun e w' => e = .returned (.bool true) ∧ Below w.heap.size w w' := by
  have K0 : Hid (EnvF (w.alloc (.cells #[.int .i64 L, .int .u8 2, .int .u8 fv, .int .i64 0] 23)) [] [(w.heap.size, #[.int .i64 L, .int .u8 2, .int .u8 fv, .int .i64 0], 23)]) := Lib.hid ((EnvF.nil w).boxg 23 #[.int .i64 L, .int .u8 2, .int .u8 fv, .int .i64 0] (w.heap.size) (by simp))
  have B0 : Hid (Below w.heap.size w (w.alloc (.cells #[.int .i64 L, .int .u8 2, .int .u8 fv, .int .i64 0] 23))) := Lib.hid ((Below.refl _ w).alloc (by first | exact Nat.le_refl _ | (simp only [World.size_alloc]; omega)) (.cells #[.int .i64 L, .int .u8 2, .int .u8 fv, .int .i64 0] 23))
  have H0 := Lib.hid h0
  have hn2 : n ≤ 1000000 := by have := of_decide_eq_false hn0'; omega
  have HN2 := Lib.hid hn2
  clear h0 hn2
  go_enter Try.func3, Try.ntmps3
  go_wp2_with (first
    | go_skip
    | (refine at_store 3 (.tmp 9) (.const (.int .i64 0)) (by rfl) ?_; refine wpList_put (by rfl) 3 (.tmp 9) (.const (.int .i64 0)) (by rfl) (w.heap.size) 0 (.int .i64 0) (by rfl) (by rfl) 23 #[.int .i64 L, .int .u8 2, .int .u8 fv, .int .i64 0] #[.int .i64 0, .int .u8 2, .int .u8 fv, .int .i64 0] (K0.out.row 0 rfl) (by simp [Value.cells]) (by kernel_rfl) info_i (by kernel_rfl) ?_; intro w1 hrow hoth hz hbl; have K1 : Hid (EnvF w1 [] [(w.heap.size, #[.int .i64 0, .int .u8 2, .int .u8 fv, .int .i64 0], 23)]) := Lib.hid (K0.out.turn 0 rfl hrow hoth hz); have B1 : Hid (Below w.heap.size w w1) := Lib.hid (hbl _ _ (Nat.le_refl _) B0.out); clear hrow hoth hz hbl K0 B0)
    | (refine at_load 23 (.tmp 2) (by rfl) ?_; refine wpList_load_row (by rfl) 23 (.tmp 2) (by rfl) (w.heap.size) (by rfl) 23 #[.int .i64 0, .int .u8 2, .int .u8 fv, .int .i64 0] (0, 0) _ (K1.out.row 0 rfl) Try.underlying23 (by rfl) info_H ?_)
    | (go_at_call 5; (have hc := ((H0.out ▸ rright_any 0 2 fv 0 w1)); (with_reducible refine hc.mono ?_); clear hc); rintro e w2 ⟨rfl, hb⟩; have K2 : Hid (EnvF w2 [] [(w.heap.size, #[.int .i64 0, .int .u8 2, .int .u8 fv, .int .i64 0], 23)]) := Lib.hid (K1.out.on hb); have B2 : Hid (Below w.heap.size w w2) := Lib.hid (below_step B1.out hb); clear hb K1 B1))
  refine fo_region HPA (List.mem_of_getElem? (i := 0) rfl) HN2.out (fun g5 g6 gm d A7 n7 c7 A8 n8 c8 w3 K3' l5 l6 hb3 => ?_) K2.out
  have K3 : Hid (EnvF w3 [] [(g6, #[.bool true, .int .i64 0, .int .u32 1], 34), (w.heap.size, #[.int .i64 0, .int .u8 2, .int .u8 fv, .int .i64 0], 23)]) := Lib.hid (K3'.sub (by simp) (List.Sublist.cons_cons _ (List.Sublist.cons _ (List.Sublist.refl _))))
  have B3 : Hid (Below w.heap.size w w3) := Lib.hid (below_step B2.out.drew hb3)
  clear K3' l5 l6 hb3 K2 B2
  go_wp2_with (first
    | go_skip
    | (refine at_load 5 _ (by rfl) ?_; refine wpList_get (by rfl) 5 _ (by rfl) _ 1 (by rfl) _ _ _ _ (K3.out.row 1 rfl) (by rfl) Try.underlying5 (by rfl) ?_)
    | (refine at_load 5 _ (by rfl) ?_; refine wpListG_get (by kernel_rfl) 5 _ (by rfl) _ 1 (by rfl) _ _ _ _ (K3.out.row 1 rfl) (by rfl) Try.underlying5 (by rfl) ?_)
    | (refine at_load 3 _ (by rfl) ?_; refine wpList_get (by rfl) 3 _ (by rfl) _ 3 (by rfl) _ _ _ _ (K3.out.row 1 rfl) (by rfl) Try.underlying3 (by rfl) ?_)
    | (refine at_load 3 _ (by rfl) ?_; refine wpListG_get (by kernel_rfl) 3 _ (by rfl) _ 3 (by rfl) _ _ _ _ (K3.out.row 1 rfl) (by rfl) Try.underlying3 (by rfl) ?_)
    | (refine at_load 34 (.tmp 6) (by rfl) ?_; refine wpList_load_row (by rfl) 34 (.tmp 6) (by rfl) (g6) (by rfl) 34 #[.bool true, .int .i64 0, .int .u32 1] (0, 0) _ (K3.out.row 0 rfl) Try.underlying34 (by rfl) info_X ?_)
    | (go_at_call 8; (have hc := (rknown_any 2 w3 (by decide)); (with_reducible refine hc.mono ?_); clear hc); rintro e w4 ⟨rfl, rfl⟩; rw [show knownB 2 = true by decide])
    | (go_at_call 6; (have hc := (HW.out w3); (with_reducible refine hc.mono ?_); clear hc); rintro e w4 ⟨rfl, hb⟩; have K4 : Hid (EnvF w4 [] [(g6, #[.bool true, .int .i64 0, .int .u32 1], 34), (w.heap.size, #[.int .i64 0, .int .u8 2, .int .u8 fv, .int .i64 0], 23)]) := Lib.hid (K3.out.on hb); have B4 : Hid (Below w.heap.size w w4) := Lib.hid (below_step B3.out hb); clear hb K3 B3))
  all_goals
    first
    | (go_ret; exact ⟨rfl, B4.out⟩)
    | (exfalso; have hcc := hc.out; simp_all; done)
    | (exfalso; have hcc := hc.out; clear hc; omega)
set_option maxRecDepth 100000 in
set_option maxHeartbeats 4000000 in
theorem fo_B3 (L fv : Int) (n : Nat) (w : World) (h0 : headB 0 0 = true) (HW : Hid WakesTo) (HPA : Hid (ParseTo 3 fv 0 n true 0 1)) (hn0 : decide ((20000 : Int) < (n : Int)) = false) (hn0' : decide (20000 < n) = false) (hn1 : decide ((16384 : Int) < (n : Int)) = false) (hn1' : decide (16384 < n) = false) :
    Calls Try.prog 3 #[.agg #[.int .i64 L, .int .u8 3, .int .u8 fv, .int .i64 0], .int .i64 (n : Int)] w fun e w' => e = .returned (.bool true) ∧ Below w.heap.size w w' := by
  have K0 : Hid (EnvF (w.alloc (.cells #[.int .i64 L, .int .u8 3, .int .u8 fv, .int .i64 0] 23)) [] [(w.heap.size, #[.int .i64 L, .int .u8 3, .int .u8 fv, .int .i64 0], 23)]) := Lib.hid ((EnvF.nil w).boxg 23 #[.int .i64 L, .int .u8 3, .int .u8 fv, .int .i64 0] (w.heap.size) (by simp))
  have B0 : Hid (Below w.heap.size w (w.alloc (.cells #[.int .i64 L, .int .u8 3, .int .u8 fv, .int .i64 0] 23))) := Lib.hid ((Below.refl _ w).alloc (by first | exact Nat.le_refl _ | (simp only [World.size_alloc]; omega)) (.cells #[.int .i64 L, .int .u8 3, .int .u8 fv, .int .i64 0] 23))
  have H0 := Lib.hid h0
  have hn2 : n ≤ 1000000 := by have := of_decide_eq_false hn0'; omega
  have HN2 := Lib.hid hn2
  clear h0 hn2
  go_enter Try.func3, Try.ntmps3
  go_wp2_with (first
    | go_skip
    | (refine at_store 3 (.tmp 9) (.const (.int .i64 0)) (by rfl) ?_; refine wpList_put (by rfl) 3 (.tmp 9) (.const (.int .i64 0)) (by rfl) (w.heap.size) 0 (.int .i64 0) (by rfl) (by rfl) 23 #[.int .i64 L, .int .u8 3, .int .u8 fv, .int .i64 0] #[.int .i64 0, .int .u8 3, .int .u8 fv, .int .i64 0] (K0.out.row 0 rfl) (by simp [Value.cells]) (by kernel_rfl) info_i (by kernel_rfl) ?_; intro w1 hrow hoth hz hbl; have K1 : Hid (EnvF w1 [] [(w.heap.size, #[.int .i64 0, .int .u8 3, .int .u8 fv, .int .i64 0], 23)]) := Lib.hid (K0.out.turn 0 rfl hrow hoth hz); have B1 : Hid (Below w.heap.size w w1) := Lib.hid (hbl _ _ (Nat.le_refl _) B0.out); clear hrow hoth hz hbl K0 B0)
    | (refine at_load 23 (.tmp 2) (by rfl) ?_; refine wpList_load_row (by rfl) 23 (.tmp 2) (by rfl) (w.heap.size) (by rfl) 23 #[.int .i64 0, .int .u8 3, .int .u8 fv, .int .i64 0] (0, 0) _ (K1.out.row 0 rfl) Try.underlying23 (by rfl) info_H ?_)
    | (go_at_call 5; (have hc := ((H0.out ▸ rright_any 0 3 fv 0 w1)); (with_reducible refine hc.mono ?_); clear hc); rintro e w2 ⟨rfl, hb⟩; have K2 : Hid (EnvF w2 [] [(w.heap.size, #[.int .i64 0, .int .u8 3, .int .u8 fv, .int .i64 0], 23)]) := Lib.hid (K1.out.on hb); have B2 : Hid (Below w.heap.size w w2) := Lib.hid (below_step B1.out hb); clear hb K1 B1))
  refine fo_region HPA (List.mem_of_getElem? (i := 0) rfl) HN2.out (fun g5 g6 gm d A7 n7 c7 A8 n8 c8 w3 K3' l5 l6 hb3 => ?_) K2.out
  have K3 : Hid (EnvF w3 [] [(g6, #[.bool true, .int .i64 0, .int .u32 1], 34), (w.heap.size, #[.int .i64 0, .int .u8 3, .int .u8 fv, .int .i64 0], 23)]) := Lib.hid (K3'.sub (by simp) (List.Sublist.cons_cons _ (List.Sublist.cons _ (List.Sublist.refl _))))
  have B3 : Hid (Below w.heap.size w w3) := Lib.hid (below_step B2.out.drew hb3)
  clear K3' l5 l6 hb3 K2 B2
  go_wp2_with (first
    | go_skip
    | (refine at_load 5 _ (by rfl) ?_; refine wpList_get (by rfl) 5 _ (by rfl) _ 1 (by rfl) _ _ _ _ (K3.out.row 1 rfl) (by rfl) Try.underlying5 (by rfl) ?_)
    | (refine at_load 5 _ (by rfl) ?_; refine wpListG_get (by kernel_rfl) 5 _ (by rfl) _ 1 (by rfl) _ _ _ _ (K3.out.row 1 rfl) (by rfl) Try.underlying5 (by rfl) ?_)
    | (refine at_load 3 _ (by rfl) ?_; refine wpList_get (by rfl) 3 _ (by rfl) _ 3 (by rfl) _ _ _ _ (K3.out.row 1 rfl) (by rfl) Try.underlying3 (by rfl) ?_)
    | (refine at_load 3 _ (by rfl) ?_; refine wpListG_get (by kernel_rfl) 3 _ (by rfl) _ 3 (by rfl) _ _ _ _ (K3.out.row 1 rfl) (by rfl) Try.underlying3 (by rfl) ?_)
    | (refine at_load 34 (.tmp 6) (by rfl) ?_; refine wpList_load_row (by rfl) 34 (.tmp 6) (by rfl) (g6) (by rfl) 34 #[.bool true, .int .i64 0, .int .u32 1] (0, 0) _ (K3.out.row 0 rfl) Try.underlying34 (by rfl) info_X ?_)
    | (go_at_call 8; (have hc := (rknown_any 3 w3 (by decide)); (with_reducible refine hc.mono ?_); clear hc); rintro e w4 ⟨rfl, rfl⟩; rw [show knownB 3 = true by decide])
    | (go_at_call 6; (have hc := (HW.out w3); (with_reducible refine hc.mono ?_); clear hc); rintro e w4 ⟨rfl, hb⟩; have K4 : Hid (EnvF w4 [] [(g6, #[.bool true, .int .i64 0, .int .u32 1], 34), (w.heap.size, #[.int .i64 0, .int .u8 3, .int .u8 fv, .int .i64 0], 23)]) := Lib.hid (K3.out.on hb); have B4 : Hid (Below w.heap.size w w4) := Lib.hid (below_step B3.out hb); clear hb K3 B3))
  all_goals
    first
    | (go_ret; exact ⟨rfl, B4.out⟩)
    | (exfalso; have hcc := hc.out; simp_all; done)
    | (exfalso; have hcc := hc.out; clear hc; omega)
set_option maxRecDepth 100000 in
set_option maxHeartbeats 4000000 in
theorem fo_B4 (L fv sv : Int) (n : Nat) (w : World) (hs : (sv == 0) = false) (hs' : (sv != 0) = true) (h0 : headB 0 sv = true) (HW : Hid WakesTo) (HPA : Hid (ParseTo 4 fv sv n true 0 1)) (hn0 : decide ((20000 : Int) < (n : Int)) = false) (hn0' : decide (20000 < n) = false) (hn1 : decide ((16384 : Int) < (n : Int)) = false) (hn1' : decide (16384 < n) = false) :
    Calls Try.prog 3 #[.agg #[.int .i64 L, .int .u8 4, .int .u8 fv, .int .i64 sv], .int .i64 (n : Int)] w fun e w' => e = .returned (.bool true) ∧ Below w.heap.size w w' := by
  have K0 : Hid (EnvF (w.alloc (.cells #[.int .i64 L, .int .u8 4, .int .u8 fv, .int .i64 sv] 23)) [] [(w.heap.size, #[.int .i64 L, .int .u8 4, .int .u8 fv, .int .i64 sv], 23)]) := Lib.hid ((EnvF.nil w).boxg 23 #[.int .i64 L, .int .u8 4, .int .u8 fv, .int .i64 sv] (w.heap.size) (by simp))
  have B0 : Hid (Below w.heap.size w (w.alloc (.cells #[.int .i64 L, .int .u8 4, .int .u8 fv, .int .i64 sv] 23))) := Lib.hid ((Below.refl _ w).alloc (by first | exact Nat.le_refl _ | (simp only [World.size_alloc]; omega)) (.cells #[.int .i64 L, .int .u8 4, .int .u8 fv, .int .i64 sv] 23))
  have H0 := Lib.hid h0
  have hn2 : n ≤ 1000000 := by have := of_decide_eq_false hn0'; omega
  have HN2 := Lib.hid hn2
  clear h0 hn2
  go_enter Try.func3, Try.ntmps3
  go_wp2_with (first
    | go_skip
    | (refine at_store 3 (.tmp 9) (.const (.int .i64 0)) (by rfl) ?_; refine wpList_put (by rfl) 3 (.tmp 9) (.const (.int .i64 0)) (by rfl) (w.heap.size) 0 (.int .i64 0) (by rfl) (by rfl) 23 #[.int .i64 L, .int .u8 4, .int .u8 fv, .int .i64 sv] #[.int .i64 0, .int .u8 4, .int .u8 fv, .int .i64 sv] (K0.out.row 0 rfl) (by simp [Value.cells]) (by kernel_rfl) info_i (by kernel_rfl) ?_; intro w1 hrow hoth hz hbl; have K1 : Hid (EnvF w1 [] [(w.heap.size, #[.int .i64 0, .int .u8 4, .int .u8 fv, .int .i64 sv], 23)]) := Lib.hid (K0.out.turn 0 rfl hrow hoth hz); have B1 : Hid (Below w.heap.size w w1) := Lib.hid (hbl _ _ (Nat.le_refl _) B0.out); clear hrow hoth hz hbl K0 B0)
    | (refine at_load 23 (.tmp 2) (by rfl) ?_; refine wpList_load_row (by rfl) 23 (.tmp 2) (by rfl) (w.heap.size) (by rfl) 23 #[.int .i64 0, .int .u8 4, .int .u8 fv, .int .i64 sv] (0, 0) _ (K1.out.row 0 rfl) Try.underlying23 (by rfl) info_H ?_)
    | (go_at_call 5; (have hc := ((H0.out ▸ rright_any 0 4 fv sv w1)); (with_reducible refine hc.mono ?_); clear hc); rintro e w2 ⟨rfl, hb⟩; have K2 : Hid (EnvF w2 [] [(w.heap.size, #[.int .i64 0, .int .u8 4, .int .u8 fv, .int .i64 sv], 23)]) := Lib.hid (K1.out.on hb); have B2 : Hid (Below w.heap.size w w2) := Lib.hid (below_step B1.out hb); clear hb K1 B1))
  refine fo_region HPA (List.mem_of_getElem? (i := 0) rfl) HN2.out (fun g5 g6 gm d A7 n7 c7 A8 n8 c8 w3 K3' l5 l6 hb3 => ?_) K2.out
  have K3 : Hid (EnvF w3 [] [(g6, #[.bool true, .int .i64 0, .int .u32 1], 34), (w.heap.size, #[.int .i64 0, .int .u8 4, .int .u8 fv, .int .i64 sv], 23)]) := Lib.hid (K3'.sub (by simp) (List.Sublist.cons_cons _ (List.Sublist.cons _ (List.Sublist.refl _))))
  have B3 : Hid (Below w.heap.size w w3) := Lib.hid (below_step B2.out.drew hb3)
  clear K3' l5 l6 hb3 K2 B2
  go_wp2_with (first
    | go_skip
    | (refine at_load 5 _ (by rfl) ?_; refine wpList_get (by rfl) 5 _ (by rfl) _ 1 (by rfl) _ _ _ _ (K3.out.row 1 rfl) (by rfl) Try.underlying5 (by rfl) ?_)
    | (refine at_load 5 _ (by rfl) ?_; refine wpListG_get (by kernel_rfl) 5 _ (by rfl) _ 1 (by rfl) _ _ _ _ (K3.out.row 1 rfl) (by rfl) Try.underlying5 (by rfl) ?_)
    | (refine at_load 3 _ (by rfl) ?_; refine wpList_get (by rfl) 3 _ (by rfl) _ 3 (by rfl) _ _ _ _ (K3.out.row 1 rfl) (by rfl) Try.underlying3 (by rfl) ?_)
    | (refine at_load 3 _ (by rfl) ?_; refine wpListG_get (by kernel_rfl) 3 _ (by rfl) _ 3 (by rfl) _ _ _ _ (K3.out.row 1 rfl) (by rfl) Try.underlying3 (by rfl) ?_)
    | (refine at_load 34 (.tmp 6) (by rfl) ?_; refine wpList_load_row (by rfl) 34 (.tmp 6) (by rfl) (g6) (by rfl) 34 #[.bool true, .int .i64 0, .int .u32 1] (0, 0) _ (K3.out.row 0 rfl) Try.underlying34 (by rfl) info_X ?_)
    | (go_at_call 8; (have hc := (rknown_any 4 w3 (by decide)); (with_reducible refine hc.mono ?_); clear hc); rintro e w4 ⟨rfl, rfl⟩; rw [show knownB 4 = true by decide])
    | (go_at_call 6; (have hc := (HW.out w3); (with_reducible refine hc.mono ?_); clear hc); rintro e w4 ⟨rfl, hb⟩; have K4 : Hid (EnvF w4 [] [(g6, #[.bool true, .int .i64 0, .int .u32 1], 34), (w.heap.size, #[.int .i64 0, .int .u8 4, .int .u8 fv, .int .i64 sv], 23)]) := Lib.hid (K3.out.on hb); have B4 : Hid (Below w.heap.size w w4) := Lib.hid (below_step B3.out hb); clear hb K3 B3))
  all_goals
    first
    | (go_ret; exact ⟨rfl, B4.out⟩)
    | (exfalso; have hcc := hc.out; simp_all; done)
    | (exfalso; have hcc := hc.out; clear hc; omega)
set_option maxRecDepth 100000 in
set_option maxHeartbeats 4000000 in
theorem fo_A6 (L fv sv : Int) (n : Nat) (w : World) (h0 : headB 0 sv = true) (HW : Hid WakesTo) (HPA : Hid (ParseTo 6 fv sv n true 0 6)) (hn0 : decide ((20000 : Int) < (n : Int)) = false) (hn0' : decide (20000 < n) = false) (hn1 : decide ((16384 : Int) < (n : Int)) = true) (hn1' : decide (16384 < n) = true) :
    Calls Try.prog 3 #[.agg #[.int .i64 L, .int .u8 6, .int .u8 fv, .int .i64 sv], .int .i64 (n : Int)] w fun e w' => e = .returned (.bool true) ∧ Below w.heap.size w w' := by
  have K0 : Hid (EnvF (w.alloc (.cells #[.int .i64 L, .int .u8 6, .int .u8 fv, .int .i64 sv] 23)) [] [(w.heap.size, #[.int .i64 L, .int .u8 6, .int .u8 fv, .int .i64 sv], 23)]) := Lib.hid ((EnvF.nil w).boxg 23 #[.int .i64 L, .int .u8 6, .int .u8 fv, .int .i64 sv] (w.heap.size) (by simp))
  have B0 : Hid (Below w.heap.size w (w.alloc (.cells #[.int .i64 L, .int .u8 6, .int .u8 fv, .int .i64 sv] 23))) := Lib.hid ((Below.refl _ w).alloc (by first | exact Nat.le_refl _ | (simp only [World.size_alloc]; omega)) (.cells #[.int .i64 L, .int .u8 6, .int .u8 fv, .int .i64 sv] 23))
  have H0 := Lib.hid h0
  have hn2 : n ≤ 1000000 := by have := of_decide_eq_false hn0'; omega
  have HN2 := Lib.hid hn2
  clear h0 hn2
  go_enter Try.func3, Try.ntmps3
  go_wp2_with (first
    | go_skip
    | (refine at_store 3 (.tmp 9) (.const (.int .i64 0)) (by rfl) ?_; refine wpList_put (by rfl) 3 (.tmp 9) (.const (.int .i64 0)) (by rfl) (w.heap.size) 0 (.int .i64 0) (by rfl) (by rfl) 23 #[.int .i64 L, .int .u8 6, .int .u8 fv, .int .i64 sv] #[.int .i64 0, .int .u8 6, .int .u8 fv, .int .i64 sv] (K0.out.row 0 rfl) (by simp [Value.cells]) (by kernel_rfl) info_i (by kernel_rfl) ?_; intro w1 hrow hoth hz hbl; have K1 : Hid (EnvF w1 [] [(w.heap.size, #[.int .i64 0, .int .u8 6, .int .u8 fv, .int .i64 sv], 23)]) := Lib.hid (K0.out.turn 0 rfl hrow hoth hz); have B1 : Hid (Below w.heap.size w w1) := Lib.hid (hbl _ _ (Nat.le_refl _) B0.out); clear hrow hoth hz hbl K0 B0)
    | (refine at_load 23 (.tmp 2) (by rfl) ?_; refine wpList_load_row (by rfl) 23 (.tmp 2) (by rfl) (w.heap.size) (by rfl) 23 #[.int .i64 0, .int .u8 6, .int .u8 fv, .int .i64 sv] (0, 0) _ (K1.out.row 0 rfl) Try.underlying23 (by rfl) info_H ?_)
    | (go_at_call 5; (have hc := ((H0.out ▸ rright_any 0 6 fv sv w1)); (with_reducible refine hc.mono ?_); clear hc); rintro e w2 ⟨rfl, hb⟩; have K2 : Hid (EnvF w2 [] [(w.heap.size, #[.int .i64 0, .int .u8 6, .int .u8 fv, .int .i64 sv], 23)]) := Lib.hid (K1.out.on hb); have B2 : Hid (Below w.heap.size w w2) := Lib.hid (below_step B1.out hb); clear hb K1 B1))
  refine fo_region HPA (List.mem_of_getElem? (i := 0) rfl) HN2.out (fun g5 g6 gm d A7 n7 c7 A8 n8 c8 w3 K3' l5 l6 hb3 => ?_) K2.out
  have K3 : Hid (EnvF w3 [] [(g6, #[.bool true, .int .i64 0, .int .u32 6], 34), (w.heap.size, #[.int .i64 0, .int .u8 6, .int .u8 fv, .int .i64 sv], 23)]) := Lib.hid (K3'.sub (by simp) (List.Sublist.cons_cons _ (List.Sublist.cons _ (List.Sublist.refl _))))
  have B3 : Hid (Below w.heap.size w w3) := Lib.hid (below_step B2.out.drew hb3)
  clear K3' l5 l6 hb3 K2 B2
  go_wp2_with (first
    | go_skip
    | (refine at_load 5 _ (by rfl) ?_; refine wpList_get (by rfl) 5 _ (by rfl) _ 1 (by rfl) _ _ _ _ (K3.out.row 1 rfl) (by rfl) Try.underlying5 (by rfl) ?_)
    | (refine at_load 5 _ (by rfl) ?_; refine wpListG_get (by kernel_rfl) 5 _ (by rfl) _ 1 (by rfl) _ _ _ _ (K3.out.row 1 rfl) (by rfl) Try.underlying5 (by rfl) ?_)
    | (refine at_load 3 _ (by rfl) ?_; refine wpList_get (by rfl) 3 _ (by rfl) _ 3 (by rfl) _ _ _ _ (K3.out.row 1 rfl) (by rfl) Try.underlying3 (by rfl) ?_)
    | (refine at_load 3 _ (by rfl) ?_; refine wpListG_get (by kernel_rfl) 3 _ (by rfl) _ 3 (by rfl) _ _ _ _ (K3.out.row 1 rfl) (by rfl) Try.underlying3 (by rfl) ?_)
    | (refine at_load 34 (.tmp 6) (by rfl) ?_; refine wpList_load_row (by rfl) 34 (.tmp 6) (by rfl) (g6) (by rfl) 34 #[.bool true, .int .i64 0, .int .u32 6] (0, 0) _ (K3.out.row 0 rfl) Try.underlying34 (by rfl) info_X ?_)
    | (go_at_call 8; (have hc := (rknown_any 6 w3 (by decide)); (with_reducible refine hc.mono ?_); clear hc); rintro e w4 ⟨rfl, rfl⟩; rw [show knownB 6 = true by decide])
    | (go_at_call 6; (have hc := (HW.out w3); (with_reducible refine hc.mono ?_); clear hc); rintro e w4 ⟨rfl, hb⟩; have K4 : Hid (EnvF w4 [] [(g6, #[.bool true, .int .i64 0, .int .u32 6], 34), (w.heap.size, #[.int .i64 0, .int .u8 6, .int .u8 fv, .int .i64 sv], 23)]) := Lib.hid (K3.out.on hb); have B4 : Hid (Below w.heap.size w w4) := Lib.hid (below_step B3.out hb); clear hb K3 B3))
  all_goals
    first
    | (go_ret; exact ⟨rfl, B4.out⟩)
    | (exfalso; have hcc := hc.out; simp_all; done)
    | (exfalso; have hcc := hc.out; clear hc; omega)
set_option maxRecDepth 100000 in
set_option maxHeartbeats 4000000 in
theorem fo_A7 (L fv sv : Int) (n : Nat) (w : World) (h0 : headB 0 sv = true) (HW : Hid WakesTo) (HPA : Hid (ParseTo 7 fv sv n true 0 6)) (hn0 : decide ((20000 : Int) < (n : Int)) = false) (hn0' : decide (20000 < n) = false) (hn1 : decide ((16384 : Int) < (n : Int)) = true) (hn1' : decide (16384 < n) = true) :
    Calls Try.prog 3 #[.agg #[.int .i64 L, .int .u8 7, .int .u8 fv, .int .i64 sv], .int .i64 (n : Int)] w fun e w' => e = .returned (.bool true) ∧ Below w.heap.size w w' := by
  have K0 : Hid (EnvF (w.alloc (.cells #[.int .i64 L, .int .u8 7, .int .u8 fv, .int .i64 sv] 23)) [] [(w.heap.size, #[.int .i64 L, .int .u8 7, .int .u8 fv, .int .i64 sv], 23)]) := Lib.hid ((EnvF.nil w).boxg 23 #[.int .i64 L, .int .u8 7, .int .u8 fv, .int .i64 sv] (w.heap.size) (by simp))
  have B0 : Hid (Below w.heap.size w (w.alloc (.cells #[.int .i64 L, .int .u8 7, .int .u8 fv, .int .i64 sv] 23))) := Lib.hid ((Below.refl _ w).alloc (by first | exact Nat.le_refl _ | (simp only [World.size_alloc]; omega)) (.cells #[.int .i64 L, .int .u8 7, .int .u8 fv, .int .i64 sv] 23))
  have H0 := Lib.hid h0
  have hn2 : n ≤ 1000000 := by have := of_decide_eq_false hn0'; omega
  have HN2 := Lib.hid hn2
  clear h0 hn2
  go_enter Try.func3, Try.ntmps3
  go_wp2_with (first
    | go_skip
    | (refine at_store 3 (.tmp 9) (.const (.int .i64 0)) (by rfl) ?_; refine wpList_put (by rfl) 3 (.tmp 9) (.const (.int .i64 0)) (by rfl) (w.heap.size) 0 (.int .i64 0) (by rfl) (by rfl) 23 #[.int .i64 L, .int .u8 7, .int .u8 fv, .int .i64 sv] #[.int .i64 0, .int .u8 7, .int .u8 fv, .int .i64 sv] (K0.out.row 0 rfl) (by simp [Value.cells]) (by kernel_rfl) info_i (by kernel_rfl) ?_; intro w1 hrow hoth hz hbl; have K1 : Hid (EnvF w1 [] [(w.heap.size, #[.int .i64 0, .int .u8 7, .int .u8 fv, .int .i64 sv], 23)]) := Lib.hid (K0.out.turn 0 rfl hrow hoth hz); have B1 : Hid (Below w.heap.size w w1) := Lib.hid (hbl _ _ (Nat.le_refl _) B0.out); clear hrow hoth hz hbl K0 B0)
    | (refine at_load 23 (.tmp 2) (by rfl) ?_; refine wpList_load_row (by rfl) 23 (.tmp 2) (by rfl) (w.heap.size) (by rfl) 23 #[.int .i64 0, .int .u8 7, .int .u8 fv, .int .i64 sv] (0, 0) _ (K1.out.row 0 rfl) Try.underlying23 (by rfl) info_H ?_)
    | (go_at_call 5; (have hc := ((H0.out ▸ rright_any 0 7 fv sv w1)); (with_reducible refine hc.mono ?_); clear hc); rintro e w2 ⟨rfl, hb⟩; have K2 : Hid (EnvF w2 [] [(w.heap.size, #[.int .i64 0, .int .u8 7, .int .u8 fv, .int .i64 sv], 23)]) := Lib.hid (K1.out.on hb); have B2 : Hid (Below w.heap.size w w2) := Lib.hid (below_step B1.out hb); clear hb K1 B1))
  refine fo_region HPA (List.mem_of_getElem? (i := 0) rfl) HN2.out (fun g5 g6 gm d A7 n7 c7 A8 n8 c8 w3 K3' l5 l6 hb3 => ?_) K2.out
  have K3 : Hid (EnvF w3 [] [(g6, #[.bool true, .int .i64 0, .int .u32 6], 34), (w.heap.size, #[.int .i64 0, .int .u8 7, .int .u8 fv, .int .i64 sv], 23)]) := Lib.hid (K3'.sub (by simp) (List.Sublist.cons_cons _ (List.Sublist.cons _ (List.Sublist.refl _))))
  have B3 : Hid (Below w.heap.size w w3) := Lib.hid (below_step B2.out.drew hb3)
  clear K3' l5 l6 hb3 K2 B2
  go_wp2_with (first
    | go_skip
    | (refine at_load 5 _ (by rfl) ?_; refine wpList_get (by rfl) 5 _ (by rfl) _ 1 (by rfl) _ _ _ _ (K3.out.row 1 rfl) (by rfl) Try.underlying5 (by rfl) ?_)
    | (refine at_load 5 _ (by rfl) ?_; refine wpListG_get (by kernel_rfl) 5 _ (by rfl) _ 1 (by rfl) _ _ _ _ (K3.out.row 1 rfl) (by rfl) Try.underlying5 (by rfl) ?_)
    | (refine at_load 3 _ (by rfl) ?_; refine wpList_get (by rfl) 3 _ (by rfl) _ 3 (by rfl) _ _ _ _ (K3.out.row 1 rfl) (by rfl) Try.underlying3 (by rfl) ?_)
    | (refine at_load 3 _ (by rfl) ?_; refine wpListG_get (by kernel_rfl) 3 _ (by rfl) _ 3 (by rfl) _ _ _ _ (K3.out.row 1 rfl) (by rfl) Try.underlying3 (by rfl) ?_)
    | (refine at_load 34 (.tmp 6) (by rfl) ?_; refine wpList_load_row (by rfl) 34 (.tmp 6) (by rfl) (g6) (by rfl) 34 #[.bool true, .int .i64 0, .int .u32 6] (0, 0) _ (K3.out.row 0 rfl) Try.underlying34 (by rfl) info_X ?_)
    | (go_at_call 8; (have hc := (rknown_any 7 w3 (by decide)); (with_reducible refine hc.mono ?_); clear hc); rintro e w4 ⟨rfl, rfl⟩; rw [show knownB 7 = true by decide])
    | (go_at_call 6; (have hc := (HW.out w3); (with_reducible refine hc.mono ?_); clear hc); rintro e w4 ⟨rfl, hb⟩; have K4 : Hid (EnvF w4 [] [(g6, #[.bool true, .int .i64 0, .int .u32 6], 34), (w.heap.size, #[.int .i64 0, .int .u8 7, .int .u8 fv, .int .i64 sv], 23)]) := Lib.hid (K3.out.on hb); have B4 : Hid (Below w.heap.size w w4) := Lib.hid (below_step B3.out hb); clear hb K3 B3))
  all_goals
    first
    | (go_ret; exact ⟨rfl, B4.out⟩)
    | (exfalso; have hcc := hc.out; simp_all; done)
    | (exfalso; have hcc := hc.out; clear hc; omega)
set_option maxRecDepth 100000 in
set_option maxHeartbeats 4000000 in
theorem fo_A8 (L fv sv : Int) (n : Nat) (w : World) (h0 : headB 0 sv = true) (HW : Hid WakesTo) (HPA : Hid (ParseTo 8 fv sv n true 0 6)) (hn0 : decide ((20000 : Int) < (n : Int)) = false) (hn0' : decide (20000 < n) = false) (hn1 : decide ((16384 : Int) < (n : Int)) = true) (hn1' : decide (16384 < n) = true) :
    Calls Try.prog 3 #[.agg #[.int .i64 L, .int .u8 8, .int .u8 fv, .int .i64 sv], .int .i64 (n : Int)] w fun e w' => e = .returned (.bool true) ∧ Below w.heap.size w w' := by
  have K0 : Hid (EnvF (w.alloc (.cells #[.int .i64 L, .int .u8 8, .int .u8 fv, .int .i64 sv] 23)) [] [(w.heap.size, #[.int .i64 L, .int .u8 8, .int .u8 fv, .int .i64 sv], 23)]) := Lib.hid ((EnvF.nil w).boxg 23 #[.int .i64 L, .int .u8 8, .int .u8 fv, .int .i64 sv] (w.heap.size) (by simp))
  have B0 : Hid (Below w.heap.size w (w.alloc (.cells #[.int .i64 L, .int .u8 8, .int .u8 fv, .int .i64 sv] 23))) := Lib.hid ((Below.refl _ w).alloc (by first | exact Nat.le_refl _ | (simp only [World.size_alloc]; omega)) (.cells #[.int .i64 L, .int .u8 8, .int .u8 fv, .int .i64 sv] 23))
  have H0 := Lib.hid h0
  have hn2 : n ≤ 1000000 := by have := of_decide_eq_false hn0'; omega
  have HN2 := Lib.hid hn2
  clear h0 hn2
  go_enter Try.func3, Try.ntmps3
  go_wp2_with (first
    | go_skip
    | (refine at_store 3 (.tmp 9) (.const (.int .i64 0)) (by rfl) ?_; refine wpList_put (by rfl) 3 (.tmp 9) (.const (.int .i64 0)) (by rfl) (w.heap.size) 0 (.int .i64 0) (by rfl) (by rfl) 23 #[.int .i64 L, .int .u8 8, .int .u8 fv, .int .i64 sv] #[.int .i64 0, .int .u8 8, .int .u8 fv, .int .i64 sv] (K0.out.row 0 rfl) (by simp [Value.cells]) (by kernel_rfl) info_i (by kernel_rfl) ?_; intro w1 hrow hoth hz hbl; have K1 : Hid (EnvF w1 [] [(w.heap.size, #[.int .i64 0, .int .u8 8, .int .u8 fv, .int .i64 sv], 23)]) := Lib.hid (K0.out.turn 0 rfl hrow hoth hz); have B1 : Hid (Below w.heap.size w w1) := Lib.hid (hbl _ _ (Nat.le_refl _) B0.out); clear hrow hoth hz hbl K0 B0)
    | (refine at_load 23 (.tmp 2) (by rfl) ?_; refine wpList_load_row (by rfl) 23 (.tmp 2) (by rfl) (w.heap.size) (by rfl) 23 #[.int .i64 0, .int .u8 8, .int .u8 fv, .int .i64 sv] (0, 0) _ (K1.out.row 0 rfl) Try.underlying23 (by rfl) info_H ?_)
    | (go_at_call 5; (have hc := ((H0.out ▸ rright_any 0 8 fv sv w1)); (with_reducible refine hc.mono ?_); clear hc); rintro e w2 ⟨rfl, hb⟩; have K2 : Hid (EnvF w2 [] [(w.heap.size, #[.int .i64 0, .int .u8 8, .int .u8 fv, .int .i64 sv], 23)]) := Lib.hid (K1.out.on hb); have B2 : Hid (Below w.heap.size w w2) := Lib.hid (below_step B1.out hb); clear hb K1 B1))
  refine fo_region HPA (List.mem_of_getElem? (i := 0) rfl) HN2.out (fun g5 g6 gm d A7 n7 c7 A8 n8 c8 w3 K3' l5 l6 hb3 => ?_) K2.out
  have K3 : Hid (EnvF w3 [] [(g6, #[.bool true, .int .i64 0, .int .u32 6], 34), (w.heap.size, #[.int .i64 0, .int .u8 8, .int .u8 fv, .int .i64 sv], 23)]) := Lib.hid (K3'.sub (by simp) (List.Sublist.cons_cons _ (List.Sublist.cons _ (List.Sublist.refl _))))
  have B3 : Hid (Below w.heap.size w w3) := Lib.hid (below_step B2.out.drew hb3)
  clear K3' l5 l6 hb3 K2 B2
  go_wp2_with (first
    | go_skip
    | (refine at_load 5 _ (by rfl) ?_; refine wpList_get (by rfl) 5 _ (by rfl) _ 1 (by rfl) _ _ _ _ (K3.out.row 1 rfl) (by rfl) Try.underlying5 (by rfl) ?_)
    | (refine at_load 5 _ (by rfl) ?_; refine wpListG_get (by kernel_rfl) 5 _ (by rfl) _ 1 (by rfl) _ _ _ _ (K3.out.row 1 rfl) (by rfl) Try.underlying5 (by rfl) ?_)
    | (refine at_load 3 _ (by rfl) ?_; refine wpList_get (by rfl) 3 _ (by rfl) _ 3 (by rfl) _ _ _ _ (K3.out.row 1 rfl) (by rfl) Try.underlying3 (by rfl) ?_)
    | (refine at_load 3 _ (by rfl) ?_; refine wpListG_get (by kernel_rfl) 3 _ (by rfl) _ 3 (by rfl) _ _ _ _ (K3.out.row 1 rfl) (by rfl) Try.underlying3 (by rfl) ?_)
    | (refine at_load 34 (.tmp 6) (by rfl) ?_; refine wpList_load_row (by rfl) 34 (.tmp 6) (by rfl) (g6) (by rfl) 34 #[.bool true, .int .i64 0, .int .u32 6] (0, 0) _ (K3.out.row 0 rfl) Try.underlying34 (by rfl) info_X ?_)
    | (go_at_call 8; (have hc := (rknown_any 8 w3 (by decide)); (with_reducible refine hc.mono ?_); clear hc); rintro e w4 ⟨rfl, rfl⟩; rw [show knownB 8 = true by decide])
    | (go_at_call 6; (have hc := (HW.out w3); (with_reducible refine hc.mono ?_); clear hc); rintro e w4 ⟨rfl, hb⟩; have K4 : Hid (EnvF w4 [] [(g6, #[.bool true, .int .i64 0, .int .u32 6], 34), (w.heap.size, #[.int .i64 0, .int .u8 8, .int .u8 fv, .int .i64 sv], 23)]) := Lib.hid (K3.out.on hb); have B4 : Hid (Below w.heap.size w w4) := Lib.hid (below_step B3.out hb); clear hb K3 B3))
  all_goals
    first
    | (go_ret; exact ⟨rfl, B4.out⟩)
    | (exfalso; have hcc := hc.out; simp_all; done)
    | (exfalso; have hcc := hc.out; clear hc; omega)
set_option maxRecDepth 100000 in
set_option maxHeartbeats 4000000 in
theorem fo_B9 (L fv : Int) (n : Nat) (w : World) (h0 : headB 0 0 = true) (HW : Hid WakesTo) (HPA : Hid (ParseTo 9 fv 0 n true 0 1)) (hn0 : decide ((20000 : Int) < (n : Int)) = false) (hn0' : decide (20000 < n) = false) (hn1 : decide ((16384 : Int) < (n : Int)) = false) (hn1' : decide (16384 < n) = false) :
    Calls Try.prog 3 #[.agg #[.int .i64 L, .int .u8 9, .int .u8 fv, .int .i64 0], .int .i64 (n : Int)] w fun e w' => e = .returned (.bool true) ∧ Below w.heap.size w w' := by
  have K0 : Hid (EnvF (w.alloc (.cells #[.int .i64 L, .int .u8 9, .int .u8 fv, .int .i64 0] 23)) [] [(w.heap.size, #[.int .i64 L, .int .u8 9, .int .u8 fv, .int .i64 0], 23)]) := Lib.hid ((EnvF.nil w).boxg 23 #[.int .i64 L, .int .u8 9, .int .u8 fv, .int .i64 0] (w.heap.size) (by simp))
  have B0 : Hid (Below w.heap.size w (w.alloc (.cells #[.int .i64 L, .int .u8 9, .int .u8 fv, .int .i64 0] 23))) := Lib.hid ((Below.refl _ w).alloc (by first | exact Nat.le_refl _ | (simp only [World.size_alloc]; omega)) (.cells #[.int .i64 L, .int .u8 9, .int .u8 fv, .int .i64 0] 23))
  have H0 := Lib.hid h0
  have hn2 : n ≤ 1000000 := by have := of_decide_eq_false hn0'; omega
  have HN2 := Lib.hid hn2
  clear h0 hn2
  go_enter Try.func3, Try.ntmps3
  go_wp2_with (first
    | go_skip
    | (refine at_store 3 (.tmp 9) (.const (.int .i64 0)) (by rfl) ?_; refine wpList_put (by rfl) 3 (.tmp 9) (.const (.int .i64 0)) (by rfl) (w.heap.size) 0 (.int .i64 0) (by rfl) (by rfl) 23 #[.int .i64 L, .int .u8 9, .int .u8 fv, .int .i64 0] #[.int .i64 0, .int .u8 9, .int .u8 fv, .int .i64 0] (K0.out.row 0 rfl) (by simp [Value.cells]) (by kernel_rfl) info_i (by kernel_rfl) ?_; intro w1 hrow hoth hz hbl; have K1 : Hid (EnvF w1 [] [(w.heap.size, #[.int .i64 0, .int .u8 9, .int .u8 fv, .int .i64 0], 23)]) := Lib.hid (K0.out.turn 0 rfl hrow hoth hz); have B1 : Hid (Below w.heap.size w w1) := Lib.hid (hbl _ _ (Nat.le_refl _) B0.out); clear hrow hoth hz hbl K0 B0)
    | (refine at_load 23 (.tmp 2) (by rfl) ?_; refine wpList_load_row (by rfl) 23 (.tmp 2) (by rfl) (w.heap.size) (by rfl) 23 #[.int .i64 0, .int .u8 9, .int .u8 fv, .int .i64 0] (0, 0) _ (K1.out.row 0 rfl) Try.underlying23 (by rfl) info_H ?_)
    | (go_at_call 5; (have hc := ((H0.out ▸ rright_any 0 9 fv 0 w1)); (with_reducible refine hc.mono ?_); clear hc); rintro e w2 ⟨rfl, hb⟩; have K2 : Hid (EnvF w2 [] [(w.heap.size, #[.int .i64 0, .int .u8 9, .int .u8 fv, .int .i64 0], 23)]) := Lib.hid (K1.out.on hb); have B2 : Hid (Below w.heap.size w w2) := Lib.hid (below_step B1.out hb); clear hb K1 B1))
  refine fo_region HPA (List.mem_of_getElem? (i := 0) rfl) HN2.out (fun g5 g6 gm d A7 n7 c7 A8 n8 c8 w3 K3' l5 l6 hb3 => ?_) K2.out
  have K3 : Hid (EnvF w3 [] [(g6, #[.bool true, .int .i64 0, .int .u32 1], 34), (w.heap.size, #[.int .i64 0, .int .u8 9, .int .u8 fv, .int .i64 0], 23)]) := Lib.hid (K3'.sub (by simp) (List.Sublist.cons_cons _ (List.Sublist.cons _ (List.Sublist.refl _))))
  have B3 : Hid (Below w.heap.size w w3) := Lib.hid (below_step B2.out.drew hb3)
  clear K3' l5 l6 hb3 K2 B2
  go_wp2_with (first
    | go_skip
    | (refine at_load 5 _ (by rfl) ?_; refine wpList_get (by rfl) 5 _ (by rfl) _ 1 (by rfl) _ _ _ _ (K3.out.row 1 rfl) (by rfl) Try.underlying5 (by rfl) ?_)
    | (refine at_load 5 _ (by rfl) ?_; refine wpListG_get (by kernel_rfl) 5 _ (by rfl) _ 1 (by rfl) _ _ _ _ (K3.out.row 1 rfl) (by rfl) Try.underlying5 (by rfl) ?_)
    | (refine at_load 3 _ (by rfl) ?_; refine wpList_get (by rfl) 3 _ (by rfl) _ 3 (by rfl) _ _ _ _ (K3.out.row 1 rfl) (by rfl) Try.underlying3 (by rfl) ?_)
    | (refine at_load 3 _ (by rfl) ?_; refine wpListG_get (by kernel_rfl) 3 _ (by rfl) _ 3 (by rfl) _ _ _ _ (K3.out.row 1 rfl) (by rfl) Try.underlying3 (by rfl) ?_)
    | (refine at_load 34 (.tmp 6) (by rfl) ?_; refine wpList_load_row (by rfl) 34 (.tmp 6) (by rfl) (g6) (by rfl) 34 #[.bool true, .int .i64 0, .int .u32 1] (0, 0) _ (K3.out.row 0 rfl) Try.underlying34 (by rfl) info_X ?_)
    | (go_at_call 8; (have hc := (rknown_any 9 w3 (by decide)); (with_reducible refine hc.mono ?_); clear hc); rintro e w4 ⟨rfl, rfl⟩; rw [show knownB 9 = true by decide])
    | (go_at_call 6; (have hc := (HW.out w3); (with_reducible refine hc.mono ?_); clear hc); rintro e w4 ⟨rfl, hb⟩; have K4 : Hid (EnvF w4 [] [(g6, #[.bool true, .int .i64 0, .int .u32 1], 34), (w.heap.size, #[.int .i64 0, .int .u8 9, .int .u8 fv, .int .i64 0], 23)]) := Lib.hid (K3.out.on hb); have B4 : Hid (Below w.heap.size w w4) := Lib.hid (below_step B3.out hb); clear hb K3 B3))
  all_goals
    first
    | (go_ret; exact ⟨rfl, B4.out⟩)
    | (exfalso; have hcc := hc.out; simp_all; done)
    | (exfalso; have hcc := hc.out; clear hc; omega)
set_option maxRecDepth 100000 in
set_option maxHeartbeats 4000000 in
theorem fo_C16 (L fv : Int) (n : Nat) (w : World) (h0 : headB 0 0 = true) (HW : Hid WakesTo) (HPA : Hid (ParseTo 16 fv 0 n true 0 1)) (hn0 : decide ((20000 : Int) < (n : Int)) = false) (hn0' : decide (20000 < n) = false) (hn1 : decide ((16384 : Int) < (n : Int)) = false) (hn1' : decide (16384 < n) = false)(hc : decide ((4 : Int) ≤ (n : Int)) = true) (hc' : decide (4 ≤ n) = true) :
    Calls Try.prog 3 #[.agg #[.int .i64 L, .int .u8 16, .int .u8 fv, .int .i64 0], .int .i64 (n : Int)] w fun e w' => e = .returned (.bool true) ∧ Below w.heap.size w w' := by
  have K0 : Hid (EnvF (w.alloc (.cells #[.int .i64 L, .int .u8 16, .int .u8 fv, .int .i64 0] 23)) [] [(w.heap.size, #[.int .i64 L, .int .u8 16, .int .u8 fv, .int .i64 0], 23)]) := Lib.hid ((EnvF.nil w).boxg 23 #[.int .i64 L, .int .u8 16, .int .u8 fv, .int .i64 0] (w.heap.size) (by simp))
  have B0 : Hid (Below w.heap.size w (w.alloc (.cells #[.int .i64 L, .int .u8 16, .int .u8 fv, .int .i64 0] 23))) := Lib.hid ((Below.refl _ w).alloc (by first | exact Nat.le_refl _ | (simp only [World.size_alloc]; omega)) (.cells #[.int .i64 L, .int .u8 16, .int .u8 fv, .int .i64 0] 23))
  have H0 := Lib.hid h0
  have hn2 : n ≤ 1000000 := by have := of_decide_eq_false hn0'; omega
  have HN2 := Lib.hid hn2
  clear h0 hn2
  go_enter Try.func3, Try.ntmps3
  go_wp2_with (first
    | go_skip
    | (refine at_store 3 (.tmp 9) (.const (.int .i64 0)) (by rfl) ?_; refine wpList_put (by rfl) 3 (.tmp 9) (.const (.int .i64 0)) (by rfl) (w.heap.size) 0 (.int .i64 0) (by rfl) (by rfl) 23 #[.int .i64 L, .int .u8 16, .int .u8 fv, .int .i64 0] #[.int .i64 0, .int .u8 16, .int .u8 fv, .int .i64 0] (K0.out.row 0 rfl) (by simp [Value.cells]) (by kernel_rfl) info_i (by kernel_rfl) ?_; intro w1 hrow hoth hz hbl; have K1 : Hid (EnvF w1 [] [(w.heap.size, #[.int .i64 0, .int .u8 16, .int .u8 fv, .int .i64 0], 23)]) := Lib.hid (K0.out.turn 0 rfl hrow hoth hz); have B1 : Hid (Below w.heap.size w w1) := Lib.hid (hbl _ _ (Nat.le_refl _) B0.out); clear hrow hoth hz hbl K0 B0)
    | (refine at_load 23 (.tmp 2) (by rfl) ?_; refine wpList_load_row (by rfl) 23 (.tmp 2) (by rfl) (w.heap.size) (by rfl) 23 #[.int .i64 0, .int .u8 16, .int .u8 fv, .int .i64 0] (0, 0) _ (K1.out.row 0 rfl) Try.underlying23 (by rfl) info_H ?_)
    | (go_at_call 5; (have hc := ((H0.out ▸ rright_any 0 16 fv 0 w1)); (with_reducible refine hc.mono ?_); clear hc); rintro e w2 ⟨rfl, hb⟩; have K2 : Hid (EnvF w2 [] [(w.heap.size, #[.int .i64 0, .int .u8 16, .int .u8 fv, .int .i64 0], 23)]) := Lib.hid (K1.out.on hb); have B2 : Hid (Below w.heap.size w w2) := Lib.hid (below_step B1.out hb); clear hb K1 B1))
  refine fo_region HPA (List.mem_of_getElem? (i := 0) rfl) HN2.out (fun g5 g6 gm d A7 n7 c7 A8 n8 c8 w3 K3' l5 l6 hb3 => ?_) K2.out
  have K3 : Hid (EnvF w3 [] [(g6, #[.bool true, .int .i64 0, .int .u32 1], 34), (w.heap.size, #[.int .i64 0, .int .u8 16, .int .u8 fv, .int .i64 0], 23)]) := Lib.hid (K3'.sub (by simp) (List.Sublist.cons_cons _ (List.Sublist.cons _ (List.Sublist.refl _))))
  have B3 : Hid (Below w.heap.size w w3) := Lib.hid (below_step B2.out.drew hb3)
  clear K3' l5 l6 hb3 K2 B2
  go_wp2_with (first
    | go_skip
    | (refine at_load 5 _ (by rfl) ?_; refine wpList_get (by rfl) 5 _ (by rfl) _ 1 (by rfl) _ _ _ _ (K3.out.row 1 rfl) (by rfl) Try.underlying5 (by rfl) ?_)
    | (refine at_load 5 _ (by rfl) ?_; refine wpListG_get (by kernel_rfl) 5 _ (by rfl) _ 1 (by rfl) _ _ _ _ (K3.out.row 1 rfl) (by rfl) Try.underlying5 (by rfl) ?_)
    | (refine at_load 3 _ (by rfl) ?_; refine wpList_get (by rfl) 3 _ (by rfl) _ 3 (by rfl) _ _ _ _ (K3.out.row 1 rfl) (by rfl) Try.underlying3 (by rfl) ?_)
    | (refine at_load 3 _ (by rfl) ?_; refine wpListG_get (by kernel_rfl) 3 _ (by rfl) _ 3 (by rfl) _ _ _ _ (K3.out.row 1 rfl) (by rfl) Try.underlying3 (by rfl) ?_)
    | (refine at_load 34 (.tmp 6) (by rfl) ?_; refine wpList_load_row (by rfl) 34 (.tmp 6) (by rfl) (g6) (by rfl) 34 #[.bool true, .int .i64 0, .int .u32 1] (0, 0) _ (K3.out.row 0 rfl) Try.underlying34 (by rfl) info_X ?_)
    | (go_at_call 8; (have hc := (rknown_any 16 w3 (by decide)); (with_reducible refine hc.mono ?_); clear hc); rintro e w4 ⟨rfl, rfl⟩; rw [show knownB 16 = true by decide])
    | (go_at_call 6; (have hc := (HW.out w3); (with_reducible refine hc.mono ?_); clear hc); rintro e w4 ⟨rfl, hb⟩; have K4 : Hid (EnvF w4 [] [(g6, #[.bool true, .int .i64 0, .int .u32 1], 34), (w.heap.size, #[.int .i64 0, .int .u8 16, .int .u8 fv, .int .i64 0], 23)]) := Lib.hid (K3.out.on hb); have B4 : Hid (Below w.heap.size w w4) := Lib.hid (below_step B3.out hb); clear hb K3 B3))
  all_goals
    first
    | (go_ret; exact ⟨rfl, B4.out⟩)
    | (exfalso; have hcc := hc.out; simp_all; done)
    | (exfalso; have hcc := hc.out; clear hc; omega)
end Go.Proofs.Ytmbjmpijilmbkaa
