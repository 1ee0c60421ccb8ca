/- Right, both. -/
import Derived.Test.YtgplkjifgagjpaaDoorTbG
import Derived.Test.YtgplkjifgagjpaaDoorGQuiet
namespace Go.Proofs.YtgplkjifgagjpaaDoor
open Go.RowKit Tb
set_option linter.unusedVariables false
set_option linter.unusedSimpArgs false
set_option maxRecDepth 100000 in
set_option maxHeartbeats 4000000 in
theorem t_right (M : Int) (A : Option Addr) (n c : Nat) (xs : List Fd) (w : World) (hA : Fs w w.heap.size A n xs) (hF : full xs ≤ 1000000) :
    Calls Tryd.prog 19 #[.agg #[.int .i64 M, .slice A n c]] w fun e w' => e = .returned (.bool (rightB M xs)) ∧ Below w.heap.size w w' := by
  have HC : Hid (EnvF (w.alloc (.cells #[.int .i64 M, .slice A n c] 24)) [fF A n xs] [(w.heap.size, #[.int .i64 M, .slice A n c], 24)]) := Lib.hid (((EnvF.nil w).addF hA).boxg 24 #[.int .i64 M, .slice A n c] (w.heap.size) (by simp))
  have BL : Hid (Below w.heap.size w (w.alloc (.cells #[.int .i64 M, .slice A n c] 24))) := Lib.hid ((Below.refl _ w).alloc (Nat.le_refl _) (.cells #[.int .i64 M, .slice A n c] 24))
  clear hA
  unfold rightB
  have hbd := fun w0 => t_bounded M w0
  by_cases hm : okB M = true
  · rw [hm] at hbd ⊢
    go_enter Tryd.func19, Tryd.ntmps19
    go_wp2
    refine q_start (fun W => EnvF W [fF A n xs] [(w.heap.size, #[.int .i64 M, .slice A n c], 24)] ∧ Below w.heap.size w W) (by kernel_rfl) (by kernel_rfl) ⟨HC.out.drew, BL.out.drew⟩ ?_
    refine q_val (by rfl) (fun w => by go_simp; rfl) ?_
    simp only [Act.put, List.setIfInBounds_toArray, List.set_cons_succ, List.set_cons_zero]
    refine q_get (by rfl) 3 (.tmp 3) (by rfl) (w.heap.size) 0 (by rfl) 24 #[.int .i64 M, .slice A n c] (.int .i64 M) _ (fun W hW => hW.1.row 0 rfl) (by rfl) Tryd.underlying3 (by rfl) ?_
    simp only [Act.put, List.setIfInBounds_toArray, List.set_cons_succ, List.set_cons_zero]
    refine q_call (by rfl) 31 #[.int .i64 M] (.bool true) (fun w => by go_simp) (fun W hW => (hbd W).mono fun e w' h => ⟨h.1, hW.1.on h.2, below_step hW.2 h.2⟩) ?_
    simp only [Act.put, List.setIfInBounds_toArray, List.set_cons_succ, List.set_cons_zero]
    refine q_move (by rfl) (.tmp 5) (by rfl) ?_
    simp only [Act.put, List.setIfInBounds_toArray, List.set_cons_succ, List.set_cons_zero]
    refine q_row (by rfl) 24 (.tmp 1) (by rfl) (w.heap.size) (by rfl) 24 #[.int .i64 M, .slice A n c] _ (fun W hW => hW.1.row 0 rfl) Tryd.underlying24 (by rfl) infoc_T ?_
    simp only [Act.put, List.setIfInBounds_toArray, List.set_cons_succ, List.set_cons_zero]
    refine q_call (by rfl) 17 #[.agg #[.int .i64 M, .slice A n c]] (.int .i64 (full xs : Int)) (fun w => by go_simp) (fun W hW => (t_full M A n c xs W (hW.1.fs (A := A) (n := n) (xs := xs) (by simp)) hF).mono fun e w' h => ⟨h.1, hW.1.on h.2, below_step hW.2 h.2⟩) ?_
    simp only [Act.put, List.setIfInBounds_toArray, List.set_cons_succ, List.set_cons_zero]
    refine q_val (by rfl) (fun w => by go_simp; rfl) ?_
    simp only [Act.put, List.setIfInBounds_toArray, List.set_cons_succ, List.set_cons_zero]
    refine q_get (by rfl) 3 (.tmp 9) (by rfl) (w.heap.size) 0 (by rfl) 24 #[.int .i64 M, .slice A n c] (.int .i64 M) _ (fun W hW => hW.1.row 0 rfl) (by rfl) Tryd.underlying3 (by rfl) ?_
    simp only [Act.put, List.setIfInBounds_toArray, List.set_cons_succ, List.set_cons_zero]
    refine q_val (by rfl) (fun w => by go_simp; rfl) ?_
    simp only [Act.put, List.setIfInBounds_toArray, List.set_cons_succ, List.set_cons_zero]
    refine q_val (by rfl) (fun w => by go_simp; rfl) ?_
    simp only [Act.put, List.setIfInBounds_toArray, List.set_cons_succ, List.set_cons_zero]
    refine q_assign (by rfl) (.tmp 12) (by rfl) ?_
    simp only [Act.put, List.setIfInBounds_toArray, List.set_cons_succ, List.set_cons_zero]
    refine wpQuiet_nil ?_
    intro w1 hW
    go_wp2
    go_ret
    exact ⟨rfl, hW.2⟩
  · rw [Bool.not_eq_true] at hm
    rw [hm] at hbd ⊢
    go_enter Tryd.func19, Tryd.ntmps19
    go_wp2
    refine q_start (fun W => EnvF W [fF A n xs] [(w.heap.size, #[.int .i64 M, .slice A n c], 24)] ∧ Below w.heap.size w W) (by kernel_rfl) (by kernel_rfl) ⟨HC.out.drew, BL.out.drew⟩ ?_
    refine q_val (by rfl) (fun w => by go_simp; rfl) ?_
    simp only [Act.put, List.setIfInBounds_toArray, List.set_cons_succ, List.set_cons_zero]
    refine q_get (by rfl) 3 (.tmp 3) (by rfl) (w.heap.size) 0 (by rfl) 24 #[.int .i64 M, .slice A n c] (.int .i64 M) _ (fun W hW => hW.1.row 0 rfl) (by rfl) Tryd.underlying3 (by rfl) ?_
    simp only [Act.put, List.setIfInBounds_toArray, List.set_cons_succ, List.set_cons_zero]
    refine q_call (by rfl) 31 #[.int .i64 M] (.bool false) (fun w => by go_simp) (fun W hW => (hbd W).mono fun e w' h => ⟨h.1, hW.1.on h.2, below_step hW.2 h.2⟩) ?_
    simp only [Act.put, List.setIfInBounds_toArray, List.set_cons_succ, List.set_cons_zero]
    refine q_move (by rfl) (.tmp 5) (by rfl) ?_
    simp only [Act.put, List.setIfInBounds_toArray, List.set_cons_succ, List.set_cons_zero]
    refine q_skip (by rfl) ?_
    simp only [Act.put, List.setIfInBounds_toArray, List.set_cons_succ, List.set_cons_zero]
    refine q_skip (by rfl) ?_
    simp only [Act.put, List.setIfInBounds_toArray, List.set_cons_succ, List.set_cons_zero]
    refine q_skip (by rfl) ?_
    simp only [Act.put, List.setIfInBounds_toArray, List.set_cons_succ, List.set_cons_zero]
    refine q_skip (by rfl) ?_
    simp only [Act.put, List.setIfInBounds_toArray, List.set_cons_succ, List.set_cons_zero]
    refine q_skip (by rfl) ?_
    simp only [Act.put, List.setIfInBounds_toArray, List.set_cons_succ, List.set_cons_zero]
    refine q_val (v := .bool false) (by rfl) (fun w => by go_simp) ?_
    simp only [Act.put, List.setIfInBounds_toArray, List.set_cons_succ, List.set_cons_zero]
    refine q_assign (by rfl) (.tmp 12) (by rfl) ?_
    simp only [Act.put, List.setIfInBounds_toArray, List.set_cons_succ, List.set_cons_zero]
    refine wpQuiet_nil ?_
    intro w1 hW
    go_wp2
    go_ret
    exact ⟨rfl, hW.2⟩
set_option maxRecDepth 100000 in
set_option maxHeartbeats 4000000 in
theorem r_right (M : Int) (A : Option Addr) (n c : Nat) (xs : List Fd) (w : World) (hA : Fs w w.heap.size A n xs) (hF : full xs ≤ 1000000) :
    Calls Tryd.prog 20 #[.agg #[.int .i64 M, .slice A n c]] w fun e w' => e = .returned (.bool (rightB M xs)) ∧ Below w.heap.size w w' := by
  have HC : Hid (EnvF (w.alloc (.cells #[.int .i64 M, .slice A n c] 24)) [fF A n xs] [(w.heap.size, #[.int .i64 M, .slice A n c], 24)]) := Lib.hid (((EnvF.nil w).addF hA).boxg 24 #[.int .i64 M, .slice A n c] (w.heap.size) (by simp))
  have BL : Hid (Below w.heap.size w (w.alloc (.cells #[.int .i64 M, .slice A n c] 24))) := Lib.hid ((Below.refl _ w).alloc (Nat.le_refl _) (.cells #[.int .i64 M, .slice A n c] 24))
  clear hA
  unfold rightB okB
  by_cases h0 : 0 ≤ M
  · have d0 : decide (0 ≤ M) = true := decide_eq_true h0
    by_cases h1 : M ≤ 4096
    · have d1 : decide (M ≤ 4096) = true := decide_eq_true h1
      rw [d0, d1]
      go_enter Tryd.func20, Tryd.ntmps20
      go_wp2
      refine q_start (fun W => EnvF W [fF A n xs] [(w.heap.size, #[.int .i64 M, .slice A n c], 24)] ∧ Below w.heap.size w W) (by kernel_rfl) (by kernel_rfl) ⟨HC.out.drew, BL.out.drew⟩ ?_
      refine q_val (by rfl) (fun w => by go_simp; rfl) ?_
      simp only [Act.put, List.setIfInBounds_toArray, List.set_cons_succ, List.set_cons_zero]
      refine q_get (by rfl) 3 (.tmp 3) (by rfl) (w.heap.size) 0 (by rfl) 24 #[.int .i64 M, .slice A n c] (.int .i64 M) _ (fun W hW => hW.1.row 0 rfl) (by rfl) Tryd.underlying3 (by rfl) ?_
      simp only [Act.put, List.setIfInBounds_toArray, List.set_cons_succ, List.set_cons_zero]
      refine q_val (v := .bool true) (by rfl) (fun w => by go_simp) ?_
      simp only [Act.put, List.setIfInBounds_toArray, List.set_cons_succ, List.set_cons_zero]
      refine q_move (by rfl) (.tmp 5) (by rfl) ?_
      simp only [Act.put, List.setIfInBounds_toArray, List.set_cons_succ, List.set_cons_zero]
      refine q_val (by rfl) (fun w => by go_simp; rfl) ?_
      simp only [Act.put, List.setIfInBounds_toArray, List.set_cons_succ, List.set_cons_zero]
      refine q_get (by rfl) 3 (.tmp 7) (by rfl) (w.heap.size) 0 (by rfl) 24 #[.int .i64 M, .slice A n c] (.int .i64 M) _ (fun W hW => hW.1.row 0 rfl) (by rfl) Tryd.underlying3 (by rfl) ?_
      simp only [Act.put, List.setIfInBounds_toArray, List.set_cons_succ, List.set_cons_zero]
      refine q_val (v := .bool true) (by rfl) (fun w => by go_simp) ?_
      simp only [Act.put, List.setIfInBounds_toArray, List.set_cons_succ, List.set_cons_zero]
      refine q_val (v := .bool true) (by rfl) (fun w => by go_simp) ?_
      simp only [Act.put, List.setIfInBounds_toArray, List.set_cons_succ, List.set_cons_zero]
      refine q_move (by rfl) (.tmp 10) (by rfl) ?_
      simp only [Act.put, List.setIfInBounds_toArray, List.set_cons_succ, List.set_cons_zero]
      refine q_row (by rfl) 24 (.tmp 1) (by rfl) (w.heap.size) (by rfl) 24 #[.int .i64 M, .slice A n c] _ (fun W hW => hW.1.row 0 rfl) Tryd.underlying24 (by rfl) infoc_T ?_
      simp only [Act.put, List.setIfInBounds_toArray, List.set_cons_succ, List.set_cons_zero]
      refine q_call (by rfl) 18 #[.agg #[.int .i64 M, .slice A n c]] (.int .i64 (full xs : Int)) (fun w => by go_simp) (fun W hW => (r_full M A n c xs W (hW.1.fs (A := A) (n := n) (xs := xs) (by simp)) hF).mono fun e w' h => ⟨h.1, hW.1.on h.2, below_step hW.2 h.2⟩) ?_
      simp only [Act.put, List.setIfInBounds_toArray, List.set_cons_succ, List.set_cons_zero]
      refine q_val (by rfl) (fun w => by go_simp; rfl) ?_
      simp only [Act.put, List.setIfInBounds_toArray, List.set_cons_succ, List.set_cons_zero]
      refine q_get (by rfl) 3 (.tmp 14) (by rfl) (w.heap.size) 0 (by rfl) 24 #[.int .i64 M, .slice A n c] (.int .i64 M) _ (fun W hW => hW.1.row 0 rfl) (by rfl) Tryd.underlying3 (by rfl) ?_
      simp only [Act.put, List.setIfInBounds_toArray, List.set_cons_succ, List.set_cons_zero]
      refine q_val (by rfl) (fun w => by go_simp; rfl) ?_
      simp only [Act.put, List.setIfInBounds_toArray, List.set_cons_succ, List.set_cons_zero]
      refine q_val (by rfl) (fun w => by go_simp; rfl) ?_
      simp only [Act.put, List.setIfInBounds_toArray, List.set_cons_succ, List.set_cons_zero]
      refine q_assign (by rfl) (.tmp 17) (by rfl) ?_
      simp only [Act.put, List.setIfInBounds_toArray, List.set_cons_succ, List.set_cons_zero]
      refine wpQuiet_nil ?_
      intro w1 hW
      go_wp2
      go_ret
      exact ⟨rfl, hW.2⟩
    · have d1 : decide (M ≤ 4096) = false := decide_eq_false h1
      rw [d0, d1]
      go_enter Tryd.func20, Tryd.ntmps20
      go_wp2
      refine q_start (fun W => EnvF W [fF A n xs] [(w.heap.size, #[.int .i64 M, .slice A n c], 24)] ∧ Below w.heap.size w W) (by kernel_rfl) (by kernel_rfl) ⟨HC.out.drew, BL.out.drew⟩ ?_
      refine q_val (by rfl) (fun w => by go_simp; rfl) ?_
      simp only [Act.put, List.setIfInBounds_toArray, List.set_cons_succ, List.set_cons_zero]
      refine q_get (by rfl) 3 (.tmp 3) (by rfl) (w.heap.size) 0 (by rfl) 24 #[.int .i64 M, .slice A n c] (.int .i64 M) _ (fun W hW => hW.1.row 0 rfl) (by rfl) Tryd.underlying3 (by rfl) ?_
      simp only [Act.put, List.setIfInBounds_toArray, List.set_cons_succ, List.set_cons_zero]
      refine q_val (v := .bool true) (by rfl) (fun w => by go_simp) ?_
      simp only [Act.put, List.setIfInBounds_toArray, List.set_cons_succ, List.set_cons_zero]
      refine q_move (by rfl) (.tmp 5) (by rfl) ?_
      simp only [Act.put, List.setIfInBounds_toArray, List.set_cons_succ, List.set_cons_zero]
      refine q_val (by rfl) (fun w => by go_simp; rfl) ?_
      simp only [Act.put, List.setIfInBounds_toArray, List.set_cons_succ, List.set_cons_zero]
      refine q_get (by rfl) 3 (.tmp 7) (by rfl) (w.heap.size) 0 (by rfl) 24 #[.int .i64 M, .slice A n c] (.int .i64 M) _ (fun W hW => hW.1.row 0 rfl) (by rfl) Tryd.underlying3 (by rfl) ?_
      simp only [Act.put, List.setIfInBounds_toArray, List.set_cons_succ, List.set_cons_zero]
      refine q_val (v := .bool false) (by rfl) (fun w => by go_simp) ?_
      simp only [Act.put, List.setIfInBounds_toArray, List.set_cons_succ, List.set_cons_zero]
      refine q_val (v := .bool false) (by rfl) (fun w => by go_simp) ?_
      simp only [Act.put, List.setIfInBounds_toArray, List.set_cons_succ, List.set_cons_zero]
      refine q_move (by rfl) (.tmp 10) (by rfl) ?_
      simp only [Act.put, List.setIfInBounds_toArray, List.set_cons_succ, List.set_cons_zero]
      refine q_skip (by rfl) ?_
      simp only [Act.put, List.setIfInBounds_toArray, List.set_cons_succ, List.set_cons_zero]
      refine q_skip (by rfl) ?_
      simp only [Act.put, List.setIfInBounds_toArray, List.set_cons_succ, List.set_cons_zero]
      refine q_skip (by rfl) ?_
      simp only [Act.put, List.setIfInBounds_toArray, List.set_cons_succ, List.set_cons_zero]
      refine q_skip (by rfl) ?_
      simp only [Act.put, List.setIfInBounds_toArray, List.set_cons_succ, List.set_cons_zero]
      refine q_skip (by rfl) ?_
      simp only [Act.put, List.setIfInBounds_toArray, List.set_cons_succ, List.set_cons_zero]
      refine q_val (v := .bool false) (by rfl) (fun w => by go_simp) ?_
      simp only [Act.put, List.setIfInBounds_toArray, List.set_cons_succ, List.set_cons_zero]
      refine q_assign (by rfl) (.tmp 17) (by rfl) ?_
      simp only [Act.put, List.setIfInBounds_toArray, List.set_cons_succ, List.set_cons_zero]
      refine wpQuiet_nil ?_
      intro w1 hW
      go_wp2
      go_ret
      exact ⟨rfl, hW.2⟩
  · have d0 : decide (0 ≤ M) = false := decide_eq_false h0
    rw [d0]
    go_enter Tryd.func20, Tryd.ntmps20
    go_wp2
    refine q_start (fun W => EnvF W [fF A n xs] [(w.heap.size, #[.int .i64 M, .slice A n c], 24)] ∧ Below w.heap.size w W) (by kernel_rfl) (by kernel_rfl) ⟨HC.out.drew, BL.out.drew⟩ ?_
    refine q_val (by rfl) (fun w => by go_simp; rfl) ?_
    simp only [Act.put, List.setIfInBounds_toArray, List.set_cons_succ, List.set_cons_zero]
    refine q_get (by rfl) 3 (.tmp 3) (by rfl) (w.heap.size) 0 (by rfl) 24 #[.int .i64 M, .slice A n c] (.int .i64 M) _ (fun W hW => hW.1.row 0 rfl) (by rfl) Tryd.underlying3 (by rfl) ?_
    simp only [Act.put, List.setIfInBounds_toArray, List.set_cons_succ, List.set_cons_zero]
    refine q_val (v := .bool false) (by rfl) (fun w => by go_simp) ?_
    simp only [Act.put, List.setIfInBounds_toArray, List.set_cons_succ, List.set_cons_zero]
    refine q_move (by rfl) (.tmp 5) (by rfl) ?_
    simp only [Act.put, List.setIfInBounds_toArray, List.set_cons_succ, List.set_cons_zero]
    refine q_skip (by rfl) ?_
    simp only [Act.put, List.setIfInBounds_toArray, List.set_cons_succ, List.set_cons_zero]
    refine q_skip (by rfl) ?_
    simp only [Act.put, List.setIfInBounds_toArray, List.set_cons_succ, List.set_cons_zero]
    refine q_skip (by rfl) ?_
    simp only [Act.put, List.setIfInBounds_toArray, List.set_cons_succ, List.set_cons_zero]
    refine q_val (v := .bool false) (by rfl) (fun w => by go_simp) ?_
    simp only [Act.put, List.setIfInBounds_toArray, List.set_cons_succ, List.set_cons_zero]
    refine q_move (by rfl) (.tmp 10) (by rfl) ?_
    simp only [Act.put, List.setIfInBounds_toArray, List.set_cons_succ, List.set_cons_zero]
    refine q_skip (by rfl) ?_
    simp only [Act.put, List.setIfInBounds_toArray, List.set_cons_succ, List.set_cons_zero]
    refine q_skip (by rfl) ?_
    simp only [Act.put, List.setIfInBounds_toArray, List.set_cons_succ, List.set_cons_zero]
    refine q_skip (by rfl) ?_
    simp only [Act.put, List.setIfInBounds_toArray, List.set_cons_succ, List.set_cons_zero]
    refine q_skip (by rfl) ?_
    simp only [Act.put, List.setIfInBounds_toArray, List.set_cons_succ, List.set_cons_zero]
    refine q_skip (by rfl) ?_
    simp only [Act.put, List.setIfInBounds_toArray, List.set_cons_succ, List.set_cons_zero]
    refine q_val (v := .bool false) (by rfl) (fun w => by go_simp) ?_
    simp only [Act.put, List.setIfInBounds_toArray, List.set_cons_succ, List.set_cons_zero]
    refine q_assign (by rfl) (.tmp 17) (by rfl) ?_
    simp only [Act.put, List.setIfInBounds_toArray, List.set_cons_succ, List.set_cons_zero]
    refine wpQuiet_nil ?_
    intro w1 hW
    go_wp2
    go_ret
    exact ⟨rfl, hW.2⟩
end Go.Proofs.YtgplkjifgagjpaaDoor
