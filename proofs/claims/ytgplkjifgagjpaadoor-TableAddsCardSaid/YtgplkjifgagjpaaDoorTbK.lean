/- Resize, New, Add, the program's and the document's: the ways without the program's append. -/
import Derived.Test.YtgplkjifgagjpaaDoorTbJ
namespace Go.Proofs.YtgplkjifgagjpaaDoor
open Go.RowKit Tb
set_option linter.unusedVariables false
set_option linter.unusedSimpArgs false
set_option maxRecDepth 100000 in
set_option maxHeartbeats 4000000 in
theorem t_resize (M : Int) (A : Option Addr) (n c : Nat) (xs : List Fd) (m : Int) (w : World) (hA : Fs w w.heap.size A n xs) (hN : A = none → c = 0) (hF : full xs ≤ 100000) :
    Calls Tryd.prog 23 #[.agg #[.int .i64 M, .slice A n c], .int .i64 m] w fun e w' => ∃ v, e = .returned (.tuple #[.agg #[.int .i64 (resM M xs m), v], .int .i64 (resE M xs m)]) ∧ OwnF w' w.heap.size 26 v (resL M xs m) ∧ Below w.heap.size w w' := by
  have hr := fun (w0 : World) (h : Fs w0 w0.heap.size A n xs) => t_right M A n c xs w0 h (by omega)
  unfold resM resE resL resB
  by_cases h0 : rightB M xs = true
  · rw [h0] at hr ⊢
    by_cases hm : okB m = true
    · rw [hm]
      have hm0 : 0 ≤ m := by unfold okB at hm; rw [Bool.and_eq_true] at hm; exact of_decide_eq_true hm.1
      have hm1 : m ≤ 4096 := by unfold okB at hm; rw [Bool.and_eq_true] at hm; exact of_decide_eq_true hm.2
      have d0 : decide (m < 0) = false := decide_eq_false (by omega)
      have d1 : decide (4096 < m) = false := decide_eq_false (by omega)
      have K0 : Hid (EnvF ((w.alloc (.cells #[.int .i64 M, .slice A n c] 24)).alloc (.cells #[.int .i64 0, .slice none 0 0] 24)) [fF A n xs] [(w.heap.size + 1, #[.int .i64 0, .slice none 0 0], 24), (w.heap.size, #[.int .i64 M, .slice A n c], 24)]) := Lib.hid ((((EnvF.nil w).addF hA).boxg 24 #[.int .i64 M, .slice A n c] (w.heap.size) (by simp)).boxg 24 #[.int .i64 0, .slice none 0 0] (w.heap.size + 1) (by simp))
      have B0 : Hid (Below w.heap.size w ((w.alloc (.cells #[.int .i64 M, .slice A n c] 24)).alloc (.cells #[.int .i64 0, .slice none 0 0] 24))) := Lib.hid (((Below.refl _ w).alloc (by first | exact Nat.le_refl _ | (simp only [World.size_alloc]; omega)) (.cells #[.int .i64 M, .slice A n c] 24)).alloc (by first | exact Nat.le_refl _ | (simp only [World.size_alloc]; omega)) (.cells #[.int .i64 0, .slice none 0 0] 24))
      go_enter Tryd.func23, Tryd.ntmps23
      go_wp2_with (first
        | go_skip
        | (refine at_load 24 (.tmp 6) (by rfl) ?_; refine wpList_load_row (by rfl) 24 (.tmp 6) (by rfl) (w.heap.size) (by rfl) 24 #[.int .i64 M, .slice A n c] (0, 0) _ (K0.out.row 1 rfl) Tryd.underlying24 (by rfl) infoc_T ?_)
        | (go_at_call 19; (have hc := (hr ((w.alloc (.cells #[.int .i64 M, .slice A n c] 24)).alloc (.cells #[.int .i64 0, .slice none 0 0] 24)) (K0.out.fs (A := A) (n := n) (xs := xs) (by simp))); (with_reducible refine hc.mono ?_); clear hc); rintro e w1 ⟨rfl, hb⟩; have K1 : Hid (EnvF w1 [fF A n xs] [(w.heap.size + 1, #[.int .i64 0, .slice none 0 0], 24), (w.heap.size, #[.int .i64 M, .slice A n c], 24)]) := Lib.hid (K0.out.on hb); have B1 : Hid (Below w.heap.size w w1) := Lib.hid (below_step B0.out hb); clear hb K0 B0)
        | (go_at_call 31; (have hc := (t_bounded m w1); (with_reducible refine hc.mono ?_); clear hc); rintro e w2 ⟨rfl, hb⟩; rw [hm]; have K2 : Hid (EnvF w2 [fF A n xs] [(w.heap.size + 1, #[.int .i64 0, .slice none 0 0], 24), (w.heap.size, #[.int .i64 M, .slice A n c], 24)]) := Lib.hid (K1.out.on hb); have B2 : Hid (Below w.heap.size w w2) := Lib.hid (below_step B1.out hb); clear hb K1 B1)
        | (refine at_load 22 (.tmp 16) (by rfl) ?_; refine wpList_get (by rfl) 22 (.tmp 16) (by rfl) (w.heap.size) 1 (by rfl) 24 #[.int .i64 M, .slice A n c] (.slice A n c) _ (K2.out.row 1 rfl) (by rfl) Tryd.underlying22 (by rfl) ?_)
        | (go_at_call 32; (have hc := (t_evicted m A n c xs w2 (K2.out.fs (A := A) (n := n) (xs := xs) (by simp)) (by omega) hm0); (with_reducible refine hc.mono ?_); clear hc); rintro e w3 ⟨v3, rfl, ho, hb⟩; obtain ⟨A3, c3, rfl, _⟩ := ho.form2 (n := fit m xs) (keep_len m xs); have K3 : Hid (EnvF w3 [oF w.heap.size 26 (.slice A3 (fit m xs) c3) (keep m xs), fF A3 (fit m xs) (keep m xs), fF A n xs] [(w.heap.size + 1, #[.int .i64 0, .slice none 0 0], 24), (w.heap.size, #[.int .i64 M, .slice A n c], 24)]) := Lib.hid (K2.out.handO hb ho B2.out.size); have B3 : Hid (Below w.heap.size w w3) := Lib.hid (below_step B2.out hb); clear hb ho K2 B2)
        | (refine at_store 24 (.tmp 4) (.tmp 18) (by rfl) ?_; refine wpList_put (by rfl) 24 (.tmp 4) (.tmp 18) (by rfl) (w.heap.size + 1) 0 (.agg #[.int .i64 m, .slice A3 (fit m xs) c3]) (by rfl) (by rfl) 24 #[.int .i64 0, .slice none 0 0] #[.int .i64 m, .slice A3 (fit m xs) c3] (K3.out.row 0 rfl) (by simp [Value.cells]) (by kernel_rfl) infoc_T (by kernel_rfl) ?_; intro w4 hrow hoth hz hbl; have K4 : Hid (EnvF w4 [oF w.heap.size 26 (.slice A3 (fit m xs) c3) (keep m xs), fF A3 (fit m xs) (keep m xs), fF A n xs] [(w.heap.size + 1, #[.int .i64 m, .slice A3 (fit m xs) c3], 24), (w.heap.size, #[.int .i64 M, .slice A n c], 24)]) := Lib.hid (K3.out.turn 0 rfl hrow hoth hz); have B4 : Hid (Below w.heap.size w w4) := Lib.hid (hbl _ _ (by omega) B3.out); clear hrow hoth hz hbl K3 B3))
      exact bodyPost_ret (res_cell_tmp rfl _ _ _ _ _ _ rfl (K4.out.row 0 rfl) Tryd.underlying24 rfl infoc_T) rfl ⟨_, rfl, (K4.out.own (B := w.heap.size) (t := 26) (v := .slice A3 (fit m xs) c3) (xs := keep m xs) (by simp)), B4.out⟩
    · rw [Bool.not_eq_true] at hm
      rw [hm]
      rcases (show m < 0 ∨ (¬ m < 0 ∧ 4096 < m) by
        unfold okB at hm
        rcases Int.lt_or_le m 0 with h | h
        · exact .inl h
        · rcases Int.lt_or_le 4096 m with h' | h'
          · exact .inr ⟨by omega, h'⟩
          · rw [decide_eq_true h, decide_eq_true h'] at hm; cases hm) with hx | ⟨hx, hy⟩
      · have d0 : decide (m < 0) = true := decide_eq_true hx
        have K0 : Hid (EnvF ((w.alloc (.cells #[.int .i64 M, .slice A n c] 24)).alloc (.cells #[.int .i64 0, .slice none 0 0] 24)) [fF A n xs] [(w.heap.size + 1, #[.int .i64 0, .slice none 0 0], 24), (w.heap.size, #[.int .i64 M, .slice A n c], 24)]) := Lib.hid ((((EnvF.nil w).addF hA).boxg 24 #[.int .i64 M, .slice A n c] (w.heap.size) (by simp)).boxg 24 #[.int .i64 0, .slice none 0 0] (w.heap.size + 1) (by simp))
        have B0 : Hid (Below w.heap.size w ((w.alloc (.cells #[.int .i64 M, .slice A n c] 24)).alloc (.cells #[.int .i64 0, .slice none 0 0] 24))) := Lib.hid (((Below.refl _ w).alloc (by first | exact Nat.le_refl _ | (simp only [World.size_alloc]; omega)) (.cells #[.int .i64 M, .slice A n c] 24)).alloc (by first | exact Nat.le_refl _ | (simp only [World.size_alloc]; omega)) (.cells #[.int .i64 0, .slice none 0 0] 24))
        go_enter Tryd.func23, Tryd.ntmps23
        go_wp2_with (first
          | go_skip
          | (refine at_load 24 (.tmp 6) (by rfl) ?_; refine wpList_load_row (by rfl) 24 (.tmp 6) (by rfl) (w.heap.size) (by rfl) 24 #[.int .i64 M, .slice A n c] (0, 0) _ (K0.out.row 1 rfl) Tryd.underlying24 (by rfl) infoc_T ?_)
          | (go_at_call 19; (have hc := (hr ((w.alloc (.cells #[.int .i64 M, .slice A n c] 24)).alloc (.cells #[.int .i64 0, .slice none 0 0] 24)) (K0.out.fs (A := A) (n := n) (xs := xs) (by simp))); (with_reducible refine hc.mono ?_); clear hc); rintro e w1 ⟨rfl, hb⟩; have K1 : Hid (EnvF w1 [fF A n xs] [(w.heap.size + 1, #[.int .i64 0, .slice none 0 0], 24), (w.heap.size, #[.int .i64 M, .slice A n c], 24)]) := Lib.hid (K0.out.on hb); have B1 : Hid (Below w.heap.size w w1) := Lib.hid (below_step B0.out hb); clear hb K0 B0)
          | (go_at_call 31; (have hc := (t_bounded m w1); (with_reducible refine hc.mono ?_); clear hc); rintro e w2 ⟨rfl, hb⟩; rw [hm]; have K2 : Hid (EnvF w2 [fF A n xs] [(w.heap.size + 1, #[.int .i64 0, .slice none 0 0], 24), (w.heap.size, #[.int .i64 M, .slice A n c], 24)]) := Lib.hid (K1.out.on hb); have B2 : Hid (Below w.heap.size w w2) := Lib.hid (below_step B1.out hb); clear hb K1 B1)
          | (refine at_store 24 (.tmp 4) (.tmp 14) (by rfl) ?_; refine wpList_put (by rfl) 24 (.tmp 4) (.tmp 14) (by rfl) (w.heap.size + 1) 0 (.agg #[.int .i64 0, .slice none 0 0]) (by rfl) (by rfl) 24 #[.int .i64 0, .slice none 0 0] #[.int .i64 0, .slice none 0 0] (K2.out.row 0 rfl) (by simp [Value.cells]) (by kernel_rfl) infoc_T (by kernel_rfl) ?_; intro w3 hrow hoth hz hbl; have K3 : Hid (EnvF w3 [fF A n xs] [(w.heap.size + 1, #[.int .i64 0, .slice none 0 0], 24), (w.heap.size, #[.int .i64 M, .slice A n c], 24)]) := Lib.hid (K2.out.turn 0 rfl hrow hoth hz); have B3 : Hid (Below w.heap.size w w3) := Lib.hid (hbl _ _ (by omega) B2.out); clear hrow hoth hz hbl K2 B2))
        exact bodyPost_ret (res_cell_tmp rfl _ _ _ _ _ _ rfl (K3.out.row 0 rfl) Tryd.underlying24 rfl infoc_T) rfl ⟨_, rfl, OwnF.nil_ _ _ _, B3.out⟩
      · have d0 : decide (m < 0) = false := decide_eq_false hx
        have d1 : decide (4096 < m) = true := decide_eq_true hy
        have K0 : Hid (EnvF ((w.alloc (.cells #[.int .i64 M, .slice A n c] 24)).alloc (.cells #[.int .i64 0, .slice none 0 0] 24)) [fF A n xs] [(w.heap.size + 1, #[.int .i64 0, .slice none 0 0], 24), (w.heap.size, #[.int .i64 M, .slice A n c], 24)]) := Lib.hid ((((EnvF.nil w).addF hA).boxg 24 #[.int .i64 M, .slice A n c] (w.heap.size) (by simp)).boxg 24 #[.int .i64 0, .slice none 0 0] (w.heap.size + 1) (by simp))
        have B0 : Hid (Below w.heap.size w ((w.alloc (.cells #[.int .i64 M, .slice A n c] 24)).alloc (.cells #[.int .i64 0, .slice none 0 0] 24))) := Lib.hid (((Below.refl _ w).alloc (by first | exact Nat.le_refl _ | (simp only [World.size_alloc]; omega)) (.cells #[.int .i64 M, .slice A n c] 24)).alloc (by first | exact Nat.le_refl _ | (simp only [World.size_alloc]; omega)) (.cells #[.int .i64 0, .slice none 0 0] 24))
        go_enter Tryd.func23, Tryd.ntmps23
        go_wp2_with (first
          | go_skip
          | (refine at_load 24 (.tmp 6) (by rfl) ?_; refine wpList_load_row (by rfl) 24 (.tmp 6) (by rfl) (w.heap.size) (by rfl) 24 #[.int .i64 M, .slice A n c] (0, 0) _ (K0.out.row 1 rfl) Tryd.underlying24 (by rfl) infoc_T ?_)
          | (go_at_call 19; (have hc := (hr ((w.alloc (.cells #[.int .i64 M, .slice A n c] 24)).alloc (.cells #[.int .i64 0, .slice none 0 0] 24)) (K0.out.fs (A := A) (n := n) (xs := xs) (by simp))); (with_reducible refine hc.mono ?_); clear hc); rintro e w1 ⟨rfl, hb⟩; have K1 : Hid (EnvF w1 [fF A n xs] [(w.heap.size + 1, #[.int .i64 0, .slice none 0 0], 24), (w.heap.size, #[.int .i64 M, .slice A n c], 24)]) := Lib.hid (K0.out.on hb); have B1 : Hid (Below w.heap.size w w1) := Lib.hid (below_step B0.out hb); clear hb K0 B0)
          | (go_at_call 31; (have hc := (t_bounded m w1); (with_reducible refine hc.mono ?_); clear hc); rintro e w2 ⟨rfl, hb⟩; rw [hm]; have K2 : Hid (EnvF w2 [fF A n xs] [(w.heap.size + 1, #[.int .i64 0, .slice none 0 0], 24), (w.heap.size, #[.int .i64 M, .slice A n c], 24)]) := Lib.hid (K1.out.on hb); have B2 : Hid (Below w.heap.size w w2) := Lib.hid (below_step B1.out hb); clear hb K1 B1)
          | (refine at_store 24 (.tmp 4) (.tmp 14) (by rfl) ?_; refine wpList_put (by rfl) 24 (.tmp 4) (.tmp 14) (by rfl) (w.heap.size + 1) 0 (.agg #[.int .i64 0, .slice none 0 0]) (by rfl) (by rfl) 24 #[.int .i64 0, .slice none 0 0] #[.int .i64 0, .slice none 0 0] (K2.out.row 0 rfl) (by simp [Value.cells]) (by kernel_rfl) infoc_T (by kernel_rfl) ?_; intro w3 hrow hoth hz hbl; have K3 : Hid (EnvF w3 [fF A n xs] [(w.heap.size + 1, #[.int .i64 0, .slice none 0 0], 24), (w.heap.size, #[.int .i64 M, .slice A n c], 24)]) := Lib.hid (K2.out.turn 0 rfl hrow hoth hz); have B3 : Hid (Below w.heap.size w w3) := Lib.hid (hbl _ _ (by omega) B2.out); clear hrow hoth hz hbl K2 B2))
        exact bodyPost_ret (res_cell_tmp rfl _ _ _ _ _ _ rfl (K3.out.row 0 rfl) Tryd.underlying24 rfl infoc_T) rfl ⟨_, rfl, OwnF.nil_ _ _ _, B3.out⟩
  · rw [Bool.not_eq_true] at h0
    rw [h0] at hr ⊢
    rw [Bool.false_and]
    have K0 : Hid (EnvF ((w.alloc (.cells #[.int .i64 M, .slice A n c] 24)).alloc (.cells #[.int .i64 0, .slice none 0 0] 24)) [fF A n xs] [(w.heap.size + 1, #[.int .i64 0, .slice none 0 0], 24), (w.heap.size, #[.int .i64 M, .slice A n c], 24)]) := Lib.hid ((((EnvF.nil w).addF hA).boxg 24 #[.int .i64 M, .slice A n c] (w.heap.size) (by simp)).boxg 24 #[.int .i64 0, .slice none 0 0] (w.heap.size + 1) (by simp))
    have B0 : Hid (Below w.heap.size w ((w.alloc (.cells #[.int .i64 M, .slice A n c] 24)).alloc (.cells #[.int .i64 0, .slice none 0 0] 24))) := Lib.hid (((Below.refl _ w).alloc (by first | exact Nat.le_refl _ | (simp only [World.size_alloc]; omega)) (.cells #[.int .i64 M, .slice A n c] 24)).alloc (by first | exact Nat.le_refl _ | (simp only [World.size_alloc]; omega)) (.cells #[.int .i64 0, .slice none 0 0] 24))
    go_enter Tryd.func23, Tryd.ntmps23
    go_wp2_with (first
      | go_skip
      | (refine at_load 24 (.tmp 6) (by rfl) ?_; refine wpList_load_row (by rfl) 24 (.tmp 6) (by rfl) (w.heap.size) (by rfl) 24 #[.int .i64 M, .slice A n c] (0, 0) _ (K0.out.row 1 rfl) Tryd.underlying24 (by rfl) infoc_T ?_)
      | (go_at_call 19; (have hc := (hr ((w.alloc (.cells #[.int .i64 M, .slice A n c] 24)).alloc (.cells #[.int .i64 0, .slice none 0 0] 24)) (K0.out.fs (A := A) (n := n) (xs := xs) (by simp))); (with_reducible refine hc.mono ?_); clear hc); rintro e w1 ⟨rfl, hb⟩; have K1 : Hid (EnvF w1 [fF A n xs] [(w.heap.size + 1, #[.int .i64 0, .slice none 0 0], 24), (w.heap.size, #[.int .i64 M, .slice A n c], 24)]) := Lib.hid (K0.out.on hb); have B1 : Hid (Below w.heap.size w w1) := Lib.hid (below_step B0.out hb); clear hb K0 B0)
      | (refine at_store 24 (.tmp 4) (.tmp 14) (by rfl) ?_; refine wpList_put (by rfl) 24 (.tmp 4) (.tmp 14) (by rfl) (w.heap.size + 1) 0 (.agg #[.int .i64 0, .slice none 0 0]) (by rfl) (by rfl) 24 #[.int .i64 0, .slice none 0 0] #[.int .i64 0, .slice none 0 0] (K1.out.row 0 rfl) (by simp [Value.cells]) (by kernel_rfl) infoc_T (by kernel_rfl) ?_; intro w2 hrow hoth hz hbl; have K2 : Hid (EnvF w2 [fF A n xs] [(w.heap.size + 1, #[.int .i64 0, .slice none 0 0], 24), (w.heap.size, #[.int .i64 M, .slice A n c], 24)]) := Lib.hid (K1.out.turn 0 rfl hrow hoth hz); have B2 : Hid (Below w.heap.size w w2) := Lib.hid (hbl _ _ (by omega) B1.out); clear hrow hoth hz hbl K1 B1))
    exact bodyPost_ret (res_cell_tmp rfl _ _ _ _ _ _ rfl (K2.out.row 0 rfl) Tryd.underlying24 rfl infoc_T) rfl ⟨_, rfl, OwnF.nil_ _ _ _, B2.out⟩
set_option maxRecDepth 100000 in
set_option maxHeartbeats 4000000 in
theorem r_resize (M : Int) (A : Option Addr) (n c : Nat) (xs : List Fd) (m : Int) (w : World) (hA : Fs w w.heap.size A n xs) (hN : A = none → c = 0) (hF : full xs ≤ 100000) :
    Calls Tryd.prog 24 #[.agg #[.int .i64 M, .slice A n c], .int .i64 m] w fun e w' => ∃ v, e = .returned (.tuple #[.agg #[.int .i64 (resM M xs m), v], .int .i64 (resE M xs m)]) ∧ OwnF w' w.heap.size 26 v (resL M xs m) ∧ Below w.heap.size w w' := by
  have hr := fun (w0 : World) (h : Fs w0 w0.heap.size A n xs) => r_right M A n c xs w0 h (by omega)
  unfold resM resE resL resB
  by_cases h0 : rightB M xs = true
  · rw [h0] at hr ⊢
    by_cases hm : okB m = true
    · rw [hm]
      have hm0 : 0 ≤ m := by unfold okB at hm; rw [Bool.and_eq_true] at hm; exact of_decide_eq_true hm.1
      have hm1 : m ≤ 4096 := by unfold okB at hm; rw [Bool.and_eq_true] at hm; exact of_decide_eq_true hm.2
      have d0 : decide (m < 0) = false := decide_eq_false (by omega)
      have d1 : decide (4096 < m) = false := decide_eq_false (by omega)
      have K0 : Hid (EnvF ((w.alloc (.cells #[.int .i64 M, .slice A n c] 24)).alloc (.cells #[.int .i64 0, .slice none 0 0] 24)) [fF A n xs] [(w.heap.size + 1, #[.int .i64 0, .slice none 0 0], 24), (w.heap.size, #[.int .i64 M, .slice A n c], 24)]) := Lib.hid ((((EnvF.nil w).addF hA).boxg 24 #[.int .i64 M, .slice A n c] (w.heap.size) (by simp)).boxg 24 #[.int .i64 0, .slice none 0 0] (w.heap.size + 1) (by simp))
      have B0 : Hid (Below w.heap.size w ((w.alloc (.cells #[.int .i64 M, .slice A n c] 24)).alloc (.cells #[.int .i64 0, .slice none 0 0] 24))) := Lib.hid (((Below.refl _ w).alloc (by first | exact Nat.le_refl _ | (simp only [World.size_alloc]; omega)) (.cells #[.int .i64 M, .slice A n c] 24)).alloc (by first | exact Nat.le_refl _ | (simp only [World.size_alloc]; omega)) (.cells #[.int .i64 0, .slice none 0 0] 24))
      go_enter Tryd.func24, Tryd.ntmps24
      go_wp2_with (first
        | go_skip
        | (refine at_load 24 (.tmp 6) (by rfl) ?_; refine wpList_load_row (by rfl) 24 (.tmp 6) (by rfl) (w.heap.size) (by rfl) 24 #[.int .i64 M, .slice A n c] (0, 0) _ (K0.out.row 1 rfl) Tryd.underlying24 (by rfl) infoc_T ?_)
        | (go_at_call 20; (have hc := (hr ((w.alloc (.cells #[.int .i64 M, .slice A n c] 24)).alloc (.cells #[.int .i64 0, .slice none 0 0] 24)) (K0.out.fs (A := A) (n := n) (xs := xs) (by simp))); (with_reducible refine hc.mono ?_); clear hc); rintro e w1 ⟨rfl, hb⟩; have K1 : Hid (EnvF w1 [fF A n xs] [(w.heap.size + 1, #[.int .i64 0, .slice none 0 0], 24), (w.heap.size, #[.int .i64 M, .slice A n c], 24)]) := Lib.hid (K0.out.on hb); have B1 : Hid (Below w.heap.size w w1) := Lib.hid (below_step B0.out hb); clear hb K0 B0)
        | (refine at_store 3 (.tmp 19) (.tmp 18) (by rfl) ?_; refine wpList_put (by rfl) 3 (.tmp 19) (.tmp 18) (by rfl) (w.heap.size) 0 (.int .i64 m) (by rfl) (by rfl) 24 #[.int .i64 M, .slice A n c] #[.int .i64 m, .slice A n c] (K1.out.row 1 rfl) (by simp [Value.cells]) (by kernel_rfl) infoc_i (by kernel_rfl) ?_; intro w2 hrow hoth hz hbl; have K2 : Hid (EnvF w2 [fF A n xs] [(w.heap.size + 1, #[.int .i64 0, .slice none 0 0], 24), (w.heap.size, #[.int .i64 m, .slice A n c], 24)]) := Lib.hid (K1.out.turn 1 rfl hrow hoth hz); have B2 : Hid (Below w.heap.size w w2) := Lib.hid (hbl _ _ (Nat.le_refl _) B1.out); clear hrow hoth hz hbl K1 B1)
        | (refine at_load 24 (.tmp 2) (by rfl) ?_; refine wpList_load_row (by rfl) 24 (.tmp 2) (by rfl) (w.heap.size) (by rfl) 24 #[.int .i64 m, .slice A n c] (0, 0) _ (K2.out.row 1 rfl) Tryd.underlying24 (by rfl) infoc_T ?_)
        | (go_at_call 33; (have hc := (r_evicted m A n c xs w2 (K2.out.fs (A := A) (n := n) (xs := xs) (by simp)) hN (by omega) hm0); (with_reducible refine hc.mono ?_); clear hc); rintro e w3 ⟨v3, rfl, ho, hb⟩; obtain ⟨A3, c3, rfl, _⟩ := ho.form2 (n := fit m xs) (keep_len m xs); have K3 : Hid (EnvF w3 [oF w.heap.size 26 (.slice A3 (fit m xs) c3) (keep m xs), fF A3 (fit m xs) (keep m xs), fF A n xs] [(w.heap.size + 1, #[.int .i64 0, .slice none 0 0], 24), (w.heap.size, #[.int .i64 m, .slice A n c], 24)]) := Lib.hid (K2.out.handO hb ho B2.out.size); have B3 : Hid (Below w.heap.size w w3) := Lib.hid (below_step B2.out hb); clear hb ho K2 B2)
        | (refine at_store 24 (.tmp 4) (.tmp 21) (by rfl) ?_; refine wpList_put (by rfl) 24 (.tmp 4) (.tmp 21) (by rfl) (w.heap.size + 1) 0 (.agg #[.int .i64 m, .slice A3 (fit m xs) c3]) (by rfl) (by rfl) 24 #[.int .i64 0, .slice none 0 0] #[.int .i64 m, .slice A3 (fit m xs) c3] (K3.out.row 0 rfl) (by simp [Value.cells]) (by kernel_rfl) infoc_T (by kernel_rfl) ?_; intro w4 hrow hoth hz hbl; have K4 : Hid (EnvF w4 [oF w.heap.size 26 (.slice A3 (fit m xs) c3) (keep m xs), fF A3 (fit m xs) (keep m xs), fF A n xs] [(w.heap.size + 1, #[.int .i64 m, .slice A3 (fit m xs) c3], 24), (w.heap.size, #[.int .i64 m, .slice A n c], 24)]) := Lib.hid (K3.out.turn 0 rfl hrow hoth hz); have B4 : Hid (Below w.heap.size w w4) := Lib.hid (hbl _ _ (by omega) B3.out); clear hrow hoth hz hbl K3 B3))
      exact bodyPost_ret (res_cell_tmp rfl _ _ _ _ _ _ rfl (K4.out.row 0 rfl) Tryd.underlying24 rfl infoc_T) rfl ⟨_, rfl, (K4.out.own (B := w.heap.size) (t := 26) (v := .slice A3 (fit m xs) c3) (xs := keep m xs) (by simp)), B4.out⟩
    · rw [Bool.not_eq_true] at hm
      rw [hm]
      rcases (show m < 0 ∨ (¬ m < 0 ∧ 4096 < m) by
        unfold okB at hm
        rcases Int.lt_or_le m 0 with h | h
        · exact .inl h
        · rcases Int.lt_or_le 4096 m with h' | h'
          · exact .inr ⟨by omega, h'⟩
          · rw [decide_eq_true h, decide_eq_true h'] at hm; cases hm) with hx | ⟨hx, hy⟩
      · have d0 : decide (m < 0) = true := decide_eq_true hx
        have K0 : Hid (EnvF ((w.alloc (.cells #[.int .i64 M, .slice A n c] 24)).alloc (.cells #[.int .i64 0, .slice none 0 0] 24)) [fF A n xs] [(w.heap.size + 1, #[.int .i64 0, .slice none 0 0], 24), (w.heap.size, #[.int .i64 M, .slice A n c], 24)]) := Lib.hid ((((EnvF.nil w).addF hA).boxg 24 #[.int .i64 M, .slice A n c] (w.heap.size) (by simp)).boxg 24 #[.int .i64 0, .slice none 0 0] (w.heap.size + 1) (by simp))
        have B0 : Hid (Below w.heap.size w ((w.alloc (.cells #[.int .i64 M, .slice A n c] 24)).alloc (.cells #[.int .i64 0, .slice none 0 0] 24))) := Lib.hid (((Below.refl _ w).alloc (by first | exact Nat.le_refl _ | (simp only [World.size_alloc]; omega)) (.cells #[.int .i64 M, .slice A n c] 24)).alloc (by first | exact Nat.le_refl _ | (simp only [World.size_alloc]; omega)) (.cells #[.int .i64 0, .slice none 0 0] 24))
        go_enter Tryd.func24, Tryd.ntmps24
        go_wp2_with (first
          | go_skip
          | (refine at_load 24 (.tmp 6) (by rfl) ?_; refine wpList_load_row (by rfl) 24 (.tmp 6) (by rfl) (w.heap.size) (by rfl) 24 #[.int .i64 M, .slice A n c] (0, 0) _ (K0.out.row 1 rfl) Tryd.underlying24 (by rfl) infoc_T ?_)
          | (go_at_call 20; (have hc := (hr ((w.alloc (.cells #[.int .i64 M, .slice A n c] 24)).alloc (.cells #[.int .i64 0, .slice none 0 0] 24)) (K0.out.fs (A := A) (n := n) (xs := xs) (by simp))); (with_reducible refine hc.mono ?_); clear hc); rintro e w1 ⟨rfl, hb⟩; have K1 : Hid (EnvF w1 [fF A n xs] [(w.heap.size + 1, #[.int .i64 0, .slice none 0 0], 24), (w.heap.size, #[.int .i64 M, .slice A n c], 24)]) := Lib.hid (K0.out.on hb); have B1 : Hid (Below w.heap.size w w1) := Lib.hid (below_step B0.out hb); clear hb K0 B0)
          | (refine at_store 24 (.tmp 4) (.tmp 17) (by rfl) ?_; refine wpList_put (by rfl) 24 (.tmp 4) (.tmp 17) (by rfl) (w.heap.size + 1) 0 (.agg #[.int .i64 0, .slice none 0 0]) (by rfl) (by rfl) 24 #[.int .i64 0, .slice none 0 0] #[.int .i64 0, .slice none 0 0] (K1.out.row 0 rfl) (by simp [Value.cells]) (by kernel_rfl) infoc_T (by kernel_rfl) ?_; intro w2 hrow hoth hz hbl; have K2 : Hid (EnvF w2 [fF A n xs] [(w.heap.size + 1, #[.int .i64 0, .slice none 0 0], 24), (w.heap.size, #[.int .i64 M, .slice A n c], 24)]) := Lib.hid (K1.out.turn 0 rfl hrow hoth hz); have B2 : Hid (Below w.heap.size w w2) := Lib.hid (hbl _ _ (by omega) B1.out); clear hrow hoth hz hbl K1 B1))
        exact bodyPost_ret (res_cell_tmp rfl _ _ _ _ _ _ rfl (K2.out.row 0 rfl) Tryd.underlying24 rfl infoc_T) rfl ⟨_, rfl, OwnF.nil_ _ _ _, B2.out⟩
      · have d0 : decide (m < 0) = false := decide_eq_false hx
        have d1 : decide (4096 < m) = true := decide_eq_true hy
        have K0 : Hid (EnvF ((w.alloc (.cells #[.int .i64 M, .slice A n c] 24)).alloc (.cells #[.int .i64 0, .slice none 0 0] 24)) [fF A n xs] [(w.heap.size + 1, #[.int .i64 0, .slice none 0 0], 24), (w.heap.size, #[.int .i64 M, .slice A n c], 24)]) := Lib.hid ((((EnvF.nil w).addF hA).boxg 24 #[.int .i64 M, .slice A n c] (w.heap.size) (by simp)).boxg 24 #[.int .i64 0, .slice none 0 0] (w.heap.size + 1) (by simp))
        have B0 : Hid (Below w.heap.size w ((w.alloc (.cells #[.int .i64 M, .slice A n c] 24)).alloc (.cells #[.int .i64 0, .slice none 0 0] 24))) := Lib.hid (((Below.refl _ w).alloc (by first | exact Nat.le_refl _ | (simp only [World.size_alloc]; omega)) (.cells #[.int .i64 M, .slice A n c] 24)).alloc (by first | exact Nat.le_refl _ | (simp only [World.size_alloc]; omega)) (.cells #[.int .i64 0, .slice none 0 0] 24))
        go_enter Tryd.func24, Tryd.ntmps24
        go_wp2_with (first
          | go_skip
          | (refine at_load 24 (.tmp 6) (by rfl) ?_; refine wpList_load_row (by rfl) 24 (.tmp 6) (by rfl) (w.heap.size) (by rfl) 24 #[.int .i64 M, .slice A n c] (0, 0) _ (K0.out.row 1 rfl) Tryd.underlying24 (by rfl) infoc_T ?_)
          | (go_at_call 20; (have hc := (hr ((w.alloc (.cells #[.int .i64 M, .slice A n c] 24)).alloc (.cells #[.int .i64 0, .slice none 0 0] 24)) (K0.out.fs (A := A) (n := n) (xs := xs) (by simp))); (with_reducible refine hc.mono ?_); clear hc); rintro e w1 ⟨rfl, hb⟩; have K1 : Hid (EnvF w1 [fF A n xs] [(w.heap.size + 1, #[.int .i64 0, .slice none 0 0], 24), (w.heap.size, #[.int .i64 M, .slice A n c], 24)]) := Lib.hid (K0.out.on hb); have B1 : Hid (Below w.heap.size w w1) := Lib.hid (below_step B0.out hb); clear hb K0 B0)
          | (refine at_store 24 (.tmp 4) (.tmp 17) (by rfl) ?_; refine wpList_put (by rfl) 24 (.tmp 4) (.tmp 17) (by rfl) (w.heap.size + 1) 0 (.agg #[.int .i64 0, .slice none 0 0]) (by rfl) (by rfl) 24 #[.int .i64 0, .slice none 0 0] #[.int .i64 0, .slice none 0 0] (K1.out.row 0 rfl) (by simp [Value.cells]) (by kernel_rfl) infoc_T (by kernel_rfl) ?_; intro w2 hrow hoth hz hbl; have K2 : Hid (EnvF w2 [fF A n xs] [(w.heap.size + 1, #[.int .i64 0, .slice none 0 0], 24), (w.heap.size, #[.int .i64 M, .slice A n c], 24)]) := Lib.hid (K1.out.turn 0 rfl hrow hoth hz); have B2 : Hid (Below w.heap.size w w2) := Lib.hid (hbl _ _ (by omega) B1.out); clear hrow hoth hz hbl K1 B1))
        exact bodyPost_ret (res_cell_tmp rfl _ _ _ _ _ _ rfl (K2.out.row 0 rfl) Tryd.underlying24 rfl infoc_T) rfl ⟨_, rfl, OwnF.nil_ _ _ _, B2.out⟩
  · rw [Bool.not_eq_true] at h0
    rw [h0] at hr ⊢
    rw [Bool.false_and]
    have K0 : Hid (EnvF ((w.alloc (.cells #[.int .i64 M, .slice A n c] 24)).alloc (.cells #[.int .i64 0, .slice none 0 0] 24)) [fF A n xs] [(w.heap.size + 1, #[.int .i64 0, .slice none 0 0], 24), (w.heap.size, #[.int .i64 M, .slice A n c], 24)]) := Lib.hid ((((EnvF.nil w).addF hA).boxg 24 #[.int .i64 M, .slice A n c] (w.heap.size) (by simp)).boxg 24 #[.int .i64 0, .slice none 0 0] (w.heap.size + 1) (by simp))
    have B0 : Hid (Below w.heap.size w ((w.alloc (.cells #[.int .i64 M, .slice A n c] 24)).alloc (.cells #[.int .i64 0, .slice none 0 0] 24))) := Lib.hid (((Below.refl _ w).alloc (by first | exact Nat.le_refl _ | (simp only [World.size_alloc]; omega)) (.cells #[.int .i64 M, .slice A n c] 24)).alloc (by first | exact Nat.le_refl _ | (simp only [World.size_alloc]; omega)) (.cells #[.int .i64 0, .slice none 0 0] 24))
    go_enter Tryd.func24, Tryd.ntmps24
    go_wp2_with (first
      | go_skip
      | (refine at_load 24 (.tmp 6) (by rfl) ?_; refine wpList_load_row (by rfl) 24 (.tmp 6) (by rfl) (w.heap.size) (by rfl) 24 #[.int .i64 M, .slice A n c] (0, 0) _ (K0.out.row 1 rfl) Tryd.underlying24 (by rfl) infoc_T ?_)
      | (go_at_call 20; (have hc := (hr ((w.alloc (.cells #[.int .i64 M, .slice A n c] 24)).alloc (.cells #[.int .i64 0, .slice none 0 0] 24)) (K0.out.fs (A := A) (n := n) (xs := xs) (by simp))); (with_reducible refine hc.mono ?_); clear hc); rintro e w1 ⟨rfl, hb⟩; have K1 : Hid (EnvF w1 [fF A n xs] [(w.heap.size + 1, #[.int .i64 0, .slice none 0 0], 24), (w.heap.size, #[.int .i64 M, .slice A n c], 24)]) := Lib.hid (K0.out.on hb); have B1 : Hid (Below w.heap.size w w1) := Lib.hid (below_step B0.out hb); clear hb K0 B0)
      | (refine at_store 24 (.tmp 4) (.tmp 17) (by rfl) ?_; refine wpList_put (by rfl) 24 (.tmp 4) (.tmp 17) (by rfl) (w.heap.size + 1) 0 (.agg #[.int .i64 0, .slice none 0 0]) (by rfl) (by rfl) 24 #[.int .i64 0, .slice none 0 0] #[.int .i64 0, .slice none 0 0] (K1.out.row 0 rfl) (by simp [Value.cells]) (by kernel_rfl) infoc_T (by kernel_rfl) ?_; intro w2 hrow hoth hz hbl; have K2 : Hid (EnvF w2 [fF A n xs] [(w.heap.size + 1, #[.int .i64 0, .slice none 0 0], 24), (w.heap.size, #[.int .i64 M, .slice A n c], 24)]) := Lib.hid (K1.out.turn 0 rfl hrow hoth hz); have B2 : Hid (Below w.heap.size w w2) := Lib.hid (hbl _ _ (by omega) B1.out); clear hrow hoth hz hbl K1 B1))
    exact bodyPost_ret (res_cell_tmp rfl _ _ _ _ _ _ rfl (K2.out.row 0 rfl) Tryd.underlying24 rfl infoc_T) rfl ⟨_, rfl, OwnF.nil_ _ _ _, B2.out⟩
end Go.Proofs.YtgplkjifgagjpaaDoor
