/- TableFinds: the law. -/
import Derived.Test.YtgplkjifgagjpaaDoorTbW
namespace Go.Proofs.YtgplkjifgagjpaaDoor
open Go.RowKit Tb
set_option linter.unusedVariables false
set_option linter.unusedSimpArgs false
theorem Tb.find_yes {xs : List Fd} {f : Fd} (h : findB xs f = true) : ∃ m, findI xs f = m + 1 ∧ (stat ++ xs)[m]? = some f ∧ ∀ j y, j < m → (stat ++ xs)[j]? = some y → y ≠ f := by
  have hne : ixOf (isF f) (stat ++ xs) ≠ 0 := fun h0 => by
    unfold findB at h
    rw [decide_eq_true h0] at h
    cases h
  obtain ⟨m, hm⟩ : ∃ m, ixOf (isF f) (stat ++ xs) = m + 1 := ⟨ixOf (isF f) (stat ++ xs) - 1, by omega⟩
  obtain ⟨x, hx, hp, hall⟩ := ixOf_at hm
  obtain rfl : x = f := of_decide_eq_true hp
  exact ⟨m, by unfold findI; rw [if_neg hne, hm], hx, fun j y hj hy e => by have := hall j y hj hy; simp [isF, e] at this⟩
theorem Tb.find_no {xs : List Fd} {f : Fd} (h : findB xs f = false) : (∀ y ∈ stat ++ xs, y ≠ f) ∧ ((findI xs f = 0 ∧ ∀ y ∈ stat ++ xs, y.1 ≠ f.1) ∨ ∃ m, findI xs f = m + 1 ∧ ∃ y, (stat ++ xs)[m]? = some y ∧ y.1 = f.1 ∧ ∀ j z, j < m → (stat ++ xs)[j]? = some z → z.1 ≠ f.1) := by
  have h0 : ixOf (isF f) (stat ++ xs) = 0 := by
    unfold findB at h
    by_cases h0 : ixOf (isF f) (stat ++ xs) = 0
    · exact h0
    · rw [decide_eq_false h0] at h
      cases h
  have e : findI xs f = ixOf (isN f) (stat ++ xs) := by unfold findI; rw [if_pos h0]
  refine ⟨fun y hy ey => by have := ixOf_zero.1 h0 y hy; simp [isF, ey] at this, ?_⟩
  rw [e]
  by_cases h1 : ixOf (isN f) (stat ++ xs) = 0
  · exact .inl ⟨h1, fun y hy ey => by have := ixOf_zero.1 h1 y hy; simp [isN, ey] at this⟩
  · obtain ⟨m, hm⟩ : ∃ m, ixOf (isN f) (stat ++ xs) = m + 1 := ⟨ixOf (isN f) (stat ++ xs) - 1, by omega⟩
    obtain ⟨x, hx, hp, hall⟩ := ixOf_at hm
    exact .inr ⟨m, hm, x, hx, of_decide_eq_true hp, fun j y hj hy ey => by have := hall j y hj hy; simp [isN, ey] at this⟩
set_option maxRecDepth 100000 in
set_option maxHeartbeats 4000000 in
theorem lf_G1 (M : Int) (A : Option Addr) (n c : Nat) (xs : List Fd) (f : Fd) (w : World) (hR : Stv w) (hA : Fs w w.heap.size A n xs) (HG : Hid (∀ w0 : World, Fs w0 w0.heap.size A n xs → Calls Tryd.prog 8 #[.slice A n c] w0 fun e w' => e = .returned (.bool true) ∧ Below w0.heap.size w0 w')) :
    Calls Tryd.prog 6 #[.agg #[.int .i64 M, .slice A n c], .agg #[.string f.1, .string f.2]] w fun e w' => e = .returned (.bool true) ∧ Below w.heap.size w w' := by
  have K0 : Hid (EnvF ((w.alloc (.cells #[.int .i64 M, .slice A n c] 24)).alloc (.cells #[.string f.1, .string f.2] 26)) [fF A n xs, stF] [(w.heap.size + 1, #[.string f.1, .string f.2], 26), (w.heap.size, #[.int .i64 M, .slice A n c], 24)]) := Lib.hid ((((envS w hR).addF hA).boxg 24 #[.int .i64 M, .slice A n c] (w.heap.size) (by simp)).boxg 26 #[.string f.1, .string f.2] (w.heap.size + 1) (by simp))
  have B0 : Hid (Below w.heap.size w ((w.alloc (.cells #[.int .i64 M, .slice A n c] 24)).alloc (.cells #[.string f.1, .string f.2] 26))) := Lib.hid (((Below.refl _ w).alloc (by first | exact Nat.le_refl _ | (simp only [World.size_alloc]; omega)) (.cells #[.int .i64 M, .slice A n c] 24)).alloc (by first | exact Nat.le_refl _ | (simp only [World.size_alloc]; omega)) (.cells #[.string f.1, .string f.2] 26))
  go_enter Tryd.func6, Tryd.ntmps6
  go_wp2_with (first
    | go_skip
    | (refine at_load 22 (.tmp 14) (by rfl) ?_; refine wpList_get (by rfl) 22 (.tmp 14) (by rfl) (w.heap.size) 1 (by rfl) 24 #[.int .i64 M, .slice A n c] (.slice A n c) _ (K0.out.row 1 rfl) (by rfl) Tryd.underlying22 (by rfl) ?_)
    | (go_at_call 8; (have hc := (HG.out ((w.alloc (.cells #[.int .i64 M, .slice A n c] 24)).alloc (.cells #[.string f.1, .string f.2] 26)) (K0.out.fs (A := A) (n := n) (xs := xs) (by simp))); (with_reducible refine hc.mono ?_); clear hc); rintro e w1 ⟨rfl, hb⟩; have K1 : Hid (EnvF w1 [fF A n xs, stF] [(w.heap.size + 1, #[.string f.1, .string f.2], 26), (w.heap.size, #[.int .i64 M, .slice A n c], 24)]) := Lib.hid (K0.out.on hb); have B1 : Hid (Below w.heap.size w w1) := Lib.hid (below_step B0.out hb); clear hb K0 B0)
    | (go_at_call 9; (have hc := (wakes9 w1 (Tb.EnvF.stv K1.out (by simp))); (with_reducible refine hc.mono ?_); clear hc); rintro e w2 ⟨rfl, hb⟩; have K2 : Hid (EnvF w2 [fF A n xs, stF] [(w.heap.size + 1, #[.string f.1, .string f.2], 26), (w.heap.size, #[.int .i64 M, .slice A n c], 24)]) := Lib.hid (K1.out.on hb); have B2 : Hid (Below w.heap.size w w2) := Lib.hid (below_step B1.out hb); clear hb K1 B1))
  go_ret
  exact ⟨rfl, B2.out⟩
set_option maxRecDepth 100000 in
set_option maxHeartbeats 4000000 in
theorem lf_G2 (M : Int) (A : Option Addr) (n c : Nat) (xs : List Fd) (f : Fd) (w : World) (hR : Stv w) (hA : Fs w w.heap.size A n xs) (HG : Hid (∀ w0 : World, Fs w0 w0.heap.size A n xs → Calls Tryd.prog 8 #[.slice A n c] w0 fun e w' => e = .returned (.bool false) ∧ Below w0.heap.size w0 w')) (HGF : Hid (∀ (A0 : Option Addr) (w0 : World), Fs w0 w0.heap.size A0 1 [f] → Calls Tryd.prog 8 #[.slice A0 1 1] w0 fun e w' => e = .returned (.bool true) ∧ Below w0.heap.size w0 w')) :
    Calls Tryd.prog 6 #[.agg #[.int .i64 M, .slice A n c], .agg #[.string f.1, .string f.2]] w fun e w' => e = .returned (.bool true) ∧ Below w.heap.size w w' := by
  have K0 : Hid (EnvF ((w.alloc (.cells #[.int .i64 M, .slice A n c] 24)).alloc (.cells #[.string f.1, .string f.2] 26)) [fF A n xs, stF] [(w.heap.size + 1, #[.string f.1, .string f.2], 26), (w.heap.size, #[.int .i64 M, .slice A n c], 24)]) := Lib.hid ((((envS w hR).addF hA).boxg 24 #[.int .i64 M, .slice A n c] (w.heap.size) (by simp)).boxg 26 #[.string f.1, .string f.2] (w.heap.size + 1) (by simp))
  have B0 : Hid (Below w.heap.size w ((w.alloc (.cells #[.int .i64 M, .slice A n c] 24)).alloc (.cells #[.string f.1, .string f.2] 26))) := Lib.hid (((Below.refl _ w).alloc (by first | exact Nat.le_refl _ | (simp only [World.size_alloc]; omega)) (.cells #[.int .i64 M, .slice A n c] 24)).alloc (by first | exact Nat.le_refl _ | (simp only [World.size_alloc]; omega)) (.cells #[.string f.1, .string f.2] 26))
  go_enter Tryd.func6, Tryd.ntmps6
  go_wp2_with (first
    | go_skip
    | (refine at_load 22 (.tmp 14) (by rfl) ?_; refine wpList_get (by rfl) 22 (.tmp 14) (by rfl) (w.heap.size) 1 (by rfl) 24 #[.int .i64 M, .slice A n c] (.slice A n c) _ (K0.out.row 1 rfl) (by rfl) Tryd.underlying22 (by rfl) ?_)
    | (go_at_call 8; (have hc := (HG.out ((w.alloc (.cells #[.int .i64 M, .slice A n c] 24)).alloc (.cells #[.string f.1, .string f.2] 26)) (K0.out.fs (A := A) (n := n) (xs := xs) (by simp))); (with_reducible refine hc.mono ?_); clear hc); rintro e w1 ⟨rfl, hb⟩; have K1 : Hid (EnvF w1 [fF A n xs, stF] [(w.heap.size + 1, #[.string f.1, .string f.2], 26), (w.heap.size, #[.int .i64 M, .slice A n c], 24)]) := Lib.hid (K0.out.on hb); have B1 : Hid (Below w.heap.size w w1) := Lib.hid (below_step B0.out hb); clear hb K0 B0)
    | (refine at_load 26 (.tmp 3) (by rfl) ?_; refine wpListG_row (by kernel_rfl) 26 (.tmp 3) (by rfl) (w.heap.size + 1) (by rfl) 26 #[.string f.1, .string f.2] _ (K1.out.row 0 rfl) Tryd.underlying26 (by rfl) infoc_D ?_)
    | (go_at_call 8; have K2 : Hid (EnvF (w1.alloc (.cells #[.string f.1, .string f.2] 26)) [fF (some ⟨w1.heap.size, 0, none⟩) 1 [f], fF A n xs, stF] [(w.heap.size + 1, #[.string f.1, .string f.2], 26), (w.heap.size, #[.int .i64 M, .slice A n c], 24)]) := Lib.hid (K1.out.litf 26 [f] #[.string f.1, .string f.2] (by simp [fdc]) 1 rfl (w1.heap.size) (by simp [World.size_alloc])); have B2 : Hid (Below w.heap.size w (w1.alloc (.cells #[.string f.1, .string f.2] 26))) := Lib.hid (B1.out.alloc B1.out.size (.cells #[.string f.1, .string f.2] 26)); clear K1 B1; (have hc := (HGF.out (some ⟨w1.heap.size, 0, none⟩) (w1.alloc (.cells #[.string f.1, .string f.2] 26)) (K2.out.fs (A := (some ⟨w1.heap.size, 0, none⟩)) (n := 1) (xs := [f]) (by simp))); (with_reducible refine hc.mono ?_); clear hc); rintro e w3 ⟨rfl, hb⟩; have K3 : Hid (EnvF w3 [fF (some ⟨w1.heap.size, 0, none⟩) 1 [f], fF A n xs, stF] [(w.heap.size + 1, #[.string f.1, .string f.2], 26), (w.heap.size, #[.int .i64 M, .slice A n c], 24)]) := Lib.hid (K2.out.on hb); have B3 : Hid (Below w.heap.size w w3) := Lib.hid (below_step B2.out hb); clear hb K2 B2)
    | (go_at_call 9; (have hc := (wakes9 w3 (Tb.EnvF.stv K3.out (by simp))); (with_reducible refine hc.mono ?_); clear hc); rintro e w4 ⟨rfl, hb⟩; have K4 : Hid (EnvF w4 [fF (some ⟨w1.heap.size, 0, none⟩) 1 [f], fF A n xs, stF] [(w.heap.size + 1, #[.string f.1, .string f.2], 26), (w.heap.size, #[.int .i64 M, .slice A n c], 24)]) := Lib.hid (K3.out.on hb); have B4 : Hid (Below w.heap.size w w4) := Lib.hid (below_step B3.out hb); clear hb K3 B3))
  go_ret
  exact ⟨rfl, B4.out⟩
end Go.Proofs.YtgplkjifgagjpaaDoor
