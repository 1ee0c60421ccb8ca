/- table.Find. -/
import Derived.Test.YtgplkjifgagjpaaDoorTbR
namespace Go.Proofs.YtgplkjifgagjpaaDoor
open Go.RowKit Tb Go.ChangeMaps
set_option linter.unusedVariables false
set_option linter.unusedSimpArgs false
set_option maxRecDepth 100000 in
set_option maxHeartbeats 4000000 in
theorem t_find (M : Int) (A : Option Addr) (n c : Nat) (xs : List Fd) (f : Fd) (w : World) (hR : Stv w) (hA : Fs w w.heap.size A n xs) (hnm : n ≤ 1000000) (hF : full xs ≤ 1000000) (hf : sz f ≤ 1000000) :
    Calls Tryd.prog 27 #[.agg #[.int .i64 M, .slice A n c], .agg #[.string f.1, .string f.2]] w fun e w' => e = .returned (.tuple #[.int .i64 (findI xs f : Int), .bool (findB xs f)]) ∧ Below w.heap.size w w' := by
  have hsm : small f := by unfold sz at hf; unfold small maxLen; omega
  obtain ⟨q, hkey⟩ := fld_key f hsm
  obtain ⟨h1, h2⟩ := esOf_num f.1 (stat ++ xs)
  by_cases hmem : f ∈ (stat ++ xs)
  · have hin := h2 f hmem rfl
    have hne := ixOf_in hmem
    have e1 : findI xs f = ixOf (isF f) (stat ++ xs) := by unfold findI; rw [if_neg hne]
    have e2 : findB xs f = true := by unfold findB; rw [decide_eq_false hne]; rfl
    rw [e1, e2]
    clear h1 h2 hmem hne e1 e2
    have K0 : Hid (EnvF ((w.alloc (.cells #[.int .i64 M, .slice A n c] 24)).alloc (.cells #[.string f.1, .string f.2] 26)) [fF A n xs, stF] [(w.heap.size + 1, #[.string f.1, .string f.2], 26), (w.heap.size, #[.int .i64 M, .slice A n c], 24)]) := Lib.hid ((((envS w hR).addF hA).boxg 24 #[.int .i64 M, .slice A n c] (w.heap.size) (by simp)).boxg 26 #[.string f.1, .string f.2] (w.heap.size + 1) (by simp))
    have B0 : Hid (Below w.heap.size w ((w.alloc (.cells #[.int .i64 M, .slice A n c] 24)).alloc (.cells #[.string f.1, .string f.2] 26))) := Lib.hid (((Below.refl _ w).alloc (by first | exact Nat.le_refl _ | (simp only [World.size_alloc]; omega)) (.cells #[.int .i64 M, .slice A n c] 24)).alloc (by first | exact Nat.le_refl _ | (simp only [World.size_alloc]; omega)) (.cells #[.string f.1, .string f.2] 26))
    go_enter Tryd.func27, Tryd.ntmps27
    go_wp2_with (first
      | go_skip
      | (refine at_load 24 (.tmp 2) (by rfl) ?_; refine wpList_load_row (by rfl) 24 (.tmp 2) (by rfl) (w.heap.size) (by rfl) 24 #[.int .i64 M, .slice A n c] (0, 0) _ (K0.out.row 1 rfl) Tryd.underlying24 (by rfl) infoc_T ?_)
      | (refine at_load 9 (.tmp 12) (by rfl) ?_; refine wpList_get (by rfl) 9 (.tmp 12) (by rfl) (w.heap.size + 1) 0 (by rfl) 26 #[.string f.1, .string f.2] (.string f.1) _ (K0.out.row 0 rfl) (by rfl) Tryd.underlying9 (by rfl) ?_)
      | (go_at_call 34; (have hc := (t_named M A n c xs f.1 ((w.alloc (.cells #[.int .i64 M, .slice A n c] 24)).alloc (.cells #[.string f.1, .string f.2] 26)) (Tb.EnvF.stv K0.out (by simp)) (K0.out.fs (A := A) (n := n) (xs := xs) (by simp)) hnm hF); (with_reducible refine hc.mono ?_); clear hc); rintro e w1 ⟨b1, rfl, hm, hb⟩; have K1 : Hid (EnvF w1 [fF A n xs, stF] [(w.heap.size + 1, #[.string f.1, .string f.2], 26), (w.heap.size, #[.int .i64 M, .slice A n c], 24)]) := Lib.hid (K0.out.on hb); have B1 : Hid (Below w.heap.size w w1) := Lib.hid (below_step B0.out hb); have hl := hm.look_yes fld_keyed Tryd.underlying53 hkey hin; unfold fdv at hl; clear hm; clear hb K0 B0)
      | (refine at_load 26 (.tmp 3) (by rfl) ?_; refine wpList_load_row (by rfl) 26 (.tmp 3) (by rfl) (w.heap.size + 1) (by rfl) 26 #[.string f.1, .string f.2] (0, 0) _ (K1.out.row 0 rfl) Tryd.underlying26 (by rfl) infoc_D ?_))
    go_ret2
    exact ⟨ret2 rfl rfl, B1.out⟩
  · have hno : ∀ q ∈ esOf f.1 (num (stat ++ xs)), q.1 ≠ fdv f := fun q hq e => by
      obtain ⟨x, hx, e2, _⟩ := h1 q hq
      rw [e2] at e
      exact hmem (fdv_inj e ▸ hx)
    have h0 := ixOf_out hmem
    have e1 : findI xs f = leOf f.1 (num (stat ++ xs)) := by unfold findI; rw [if_pos h0, leOf_num]
    have e2 : findB xs f = false := by unfold findB; rw [decide_eq_true h0]; rfl
    rw [e1, e2]
    clear h1 h2 hmem h0 e1 e2
    have K0 : Hid (EnvF ((w.alloc (.cells #[.int .i64 M, .slice A n c] 24)).alloc (.cells #[.string f.1, .string f.2] 26)) [fF A n xs, stF] [(w.heap.size + 1, #[.string f.1, .string f.2], 26), (w.heap.size, #[.int .i64 M, .slice A n c], 24)]) := Lib.hid ((((envS w hR).addF hA).boxg 24 #[.int .i64 M, .slice A n c] (w.heap.size) (by simp)).boxg 26 #[.string f.1, .string f.2] (w.heap.size + 1) (by simp))
    have B0 : Hid (Below w.heap.size w ((w.alloc (.cells #[.int .i64 M, .slice A n c] 24)).alloc (.cells #[.string f.1, .string f.2] 26))) := Lib.hid (((Below.refl _ w).alloc (by first | exact Nat.le_refl _ | (simp only [World.size_alloc]; omega)) (.cells #[.int .i64 M, .slice A n c] 24)).alloc (by first | exact Nat.le_refl _ | (simp only [World.size_alloc]; omega)) (.cells #[.string f.1, .string f.2] 26))
    go_enter Tryd.func27, Tryd.ntmps27
    go_wp2_with (first
      | go_skip
      | (refine at_load 24 (.tmp 2) (by rfl) ?_; refine wpList_load_row (by rfl) 24 (.tmp 2) (by rfl) (w.heap.size) (by rfl) 24 #[.int .i64 M, .slice A n c] (0, 0) _ (K0.out.row 1 rfl) Tryd.underlying24 (by rfl) infoc_T ?_)
      | (refine at_load 9 (.tmp 12) (by rfl) ?_; refine wpList_get (by rfl) 9 (.tmp 12) (by rfl) (w.heap.size + 1) 0 (by rfl) 26 #[.string f.1, .string f.2] (.string f.1) _ (K0.out.row 0 rfl) (by rfl) Tryd.underlying9 (by rfl) ?_)
      | (go_at_call 34; (have hc := (t_named M A n c xs f.1 ((w.alloc (.cells #[.int .i64 M, .slice A n c] 24)).alloc (.cells #[.string f.1, .string f.2] 26)) (Tb.EnvF.stv K0.out (by simp)) (K0.out.fs (A := A) (n := n) (xs := xs) (by simp)) hnm hF); (with_reducible refine hc.mono ?_); clear hc); rintro e w1 ⟨b1, rfl, hm, hb⟩; have K1 : Hid (EnvF w1 [fF A n xs, stF] [(w.heap.size + 1, #[.string f.1, .string f.2], 26), (w.heap.size, #[.int .i64 M, .slice A n c], 24)]) := Lib.hid (K0.out.on hb); have B1 : Hid (Below w.heap.size w w1) := Lib.hid (below_step B0.out hb); have hl := hm.look_no fld_keyed Tryd.underlying53 (z := .int .i64 0) (e := 3) rfl hkey hno; unfold fdv at hl; clear hm; clear hb K0 B0)
      | (refine at_load 26 (.tmp 3) (by rfl) ?_; refine wpList_load_row (by rfl) 26 (.tmp 3) (by rfl) (w.heap.size + 1) (by rfl) 26 #[.string f.1, .string f.2] (0, 0) _ (K1.out.row 0 rfl) Tryd.underlying26 (by rfl) infoc_D ?_))
    go_ret2
    exact ⟨ret2 rfl rfl, B1.out⟩
end Go.Proofs.YtgplkjifgagjpaaDoor
