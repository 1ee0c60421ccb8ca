/- TableAdds: the law. -/
import Derived.Test.YtgplkjifgagjpaaDoorGQuietN
import Derived.Test.YtgplkjifgagjpaaDoorTbW
namespace Go.Proofs.YtgplkjifgagjpaaDoor
open Go.RowKit Tb
set_option linter.unusedVariables false
set_option linter.unusedSimpArgs false
set_option maxRecDepth 100000 in
set_option maxHeartbeats 4000000 in
theorem la_G1 (M : Int) (A : Option Addr) (n c : Nat) (xs : List Fd) (f : Fd) (w : World) (hR : Stv w) (hA : Fs w w.heap.size A n xs) (hN : A = none → c = 0) (HG : Hid (∀ w0 : World, Fs w0 w0.heap.size A n xs → Calls Tryd.prog 8 #[.slice A n c] w0 fun e w' => e = .returned (.bool true) ∧ Below w0.heap.size w0 w')) :
    Calls Tryd.prog 4 #[.agg #[.int .i64 M, .slice A n c], .agg #[.string f.1, .string f.2]] w fun e w' => e = .returned (.bool true) ∧ Below w.heap.size w w' := by
  have K0 : Hid (EnvF ((w.alloc (.cells #[.int .i64 M, .slice A n c] 24)).alloc (.cells #[.string f.1, .string f.2] 26)) [fF A n xs, stF] [(w.heap.size + 1, #[.string f.1, .string f.2], 26), (w.heap.size, #[.int .i64 M, .slice A n c], 24)]) := Lib.hid ((((envS w hR).addF hA).boxg 24 #[.int .i64 M, .slice A n c] (w.heap.size) (by simp)).boxg 26 #[.string f.1, .string f.2] (w.heap.size + 1) (by simp))
  have B0 : Hid (Below w.heap.size w ((w.alloc (.cells #[.int .i64 M, .slice A n c] 24)).alloc (.cells #[.string f.1, .string f.2] 26))) := Lib.hid (((Below.refl _ w).alloc (by first | exact Nat.le_refl _ | (simp only [World.size_alloc]; omega)) (.cells #[.int .i64 M, .slice A n c] 24)).alloc (by first | exact Nat.le_refl _ | (simp only [World.size_alloc]; omega)) (.cells #[.string f.1, .string f.2] 26))
  go_enter Tryd.func4, Tryd.ntmps4
  go_wp2_with (first
    | go_skip
    | (refine at_load 22 (.tmp 9) (by rfl) ?_; refine wpList_get (by rfl) 22 (.tmp 9) (by rfl) (w.heap.size) 1 (by rfl) 24 #[.int .i64 M, .slice A n c] (.slice A n c) _ (K0.out.row 1 rfl) (by rfl) Tryd.underlying22 (by rfl) ?_)
    | (go_at_call 8; (have hc := (HG.out ((w.alloc (.cells #[.int .i64 M, .slice A n c] 24)).alloc (.cells #[.string f.1, .string f.2] 26)) (K0.out.fs (A := A) (n := n) (xs := xs) (by simp))); (with_reducible refine hc.mono ?_); clear hc); rintro e w1 ⟨rfl, hb⟩; have K1 : Hid (EnvF w1 [fF A n xs, stF] [(w.heap.size + 1, #[.string f.1, .string f.2], 26), (w.heap.size, #[.int .i64 M, .slice A n c], 24)]) := Lib.hid (K0.out.on hb); have B1 : Hid (Below w.heap.size w w1) := Lib.hid (below_step B0.out hb); clear hb K0 B0)
    | (go_at_call 9; (have hc := (wakes9 w1 (Tb.EnvF.stv K1.out (by simp))); (with_reducible refine hc.mono ?_); clear hc); rintro e w2 ⟨rfl, hb⟩; have K2 : Hid (EnvF w2 [fF A n xs, stF] [(w.heap.size + 1, #[.string f.1, .string f.2], 26), (w.heap.size, #[.int .i64 M, .slice A n c], 24)]) := Lib.hid (K1.out.on hb); have B2 : Hid (Below w.heap.size w w2) := Lib.hid (below_step B1.out hb); clear hb K1 B1))
  go_ret
  exact ⟨rfl, B2.out⟩
set_option maxRecDepth 100000 in
set_option maxHeartbeats 4000000 in
theorem la_G2 (M : Int) (A : Option Addr) (n c : Nat) (xs : List Fd) (f : Fd) (w : World) (hR : Stv w) (hA : Fs w w.heap.size A n xs) (hN : A = none → c = 0) (HG : Hid (∀ w0 : World, Fs w0 w0.heap.size A n xs → Calls Tryd.prog 8 #[.slice A n c] w0 fun e w' => e = .returned (.bool false) ∧ Below w0.heap.size w0 w')) (HGF : Hid (∀ (A0 : Option Addr) (w0 : World), Fs w0 w0.heap.size A0 1 [f] → Calls Tryd.prog 8 #[.slice A0 1 1] w0 fun e w' => e = .returned (.bool true) ∧ Below w0.heap.size w0 w')) :
    Calls Tryd.prog 4 #[.agg #[.int .i64 M, .slice A n c], .agg #[.string f.1, .string f.2]] w fun e w' => e = .returned (.bool true) ∧ Below w.heap.size w w' := by
  have K0 : Hid (EnvF ((w.alloc (.cells #[.int .i64 M, .slice A n c] 24)).alloc (.cells #[.string f.1, .string f.2] 26)) [fF A n xs, stF] [(w.heap.size + 1, #[.string f.1, .string f.2], 26), (w.heap.size, #[.int .i64 M, .slice A n c], 24)]) := Lib.hid ((((envS w hR).addF hA).boxg 24 #[.int .i64 M, .slice A n c] (w.heap.size) (by simp)).boxg 26 #[.string f.1, .string f.2] (w.heap.size + 1) (by simp))
  have B0 : Hid (Below w.heap.size w ((w.alloc (.cells #[.int .i64 M, .slice A n c] 24)).alloc (.cells #[.string f.1, .string f.2] 26))) := Lib.hid (((Below.refl _ w).alloc (by first | exact Nat.le_refl _ | (simp only [World.size_alloc]; omega)) (.cells #[.int .i64 M, .slice A n c] 24)).alloc (by first | exact Nat.le_refl _ | (simp only [World.size_alloc]; omega)) (.cells #[.string f.1, .string f.2] 26))
  go_enter Tryd.func4, Tryd.ntmps4
  go_wp2_with (first
    | go_skip
    | (refine at_load 22 (.tmp 9) (by rfl) ?_; refine wpList_get (by rfl) 22 (.tmp 9) (by rfl) (w.heap.size) 1 (by rfl) 24 #[.int .i64 M, .slice A n c] (.slice A n c) _ (K0.out.row 1 rfl) (by rfl) Tryd.underlying22 (by rfl) ?_)
    | (go_at_call 8; (have hc := (HG.out ((w.alloc (.cells #[.int .i64 M, .slice A n c] 24)).alloc (.cells #[.string f.1, .string f.2] 26)) (K0.out.fs (A := A) (n := n) (xs := xs) (by simp))); (with_reducible refine hc.mono ?_); clear hc); rintro e w1 ⟨rfl, hb⟩; have K1 : Hid (EnvF w1 [fF A n xs, stF] [(w.heap.size + 1, #[.string f.1, .string f.2], 26), (w.heap.size, #[.int .i64 M, .slice A n c], 24)]) := Lib.hid (K0.out.on hb); have B1 : Hid (Below w.heap.size w w1) := Lib.hid (below_step B0.out hb); clear hb K0 B0)
    | (refine at_load 26 (.tmp 3) (by rfl) ?_; refine wpListG_row (by kernel_rfl) 26 (.tmp 3) (by rfl) (w.heap.size + 1) (by rfl) 26 #[.string f.1, .string f.2] _ (K1.out.row 0 rfl) Tryd.underlying26 (by rfl) infoc_D ?_)
    | (go_at_call 8; have K2 : Hid (EnvF (w1.alloc (.cells #[.string f.1, .string f.2] 26)) [fF (some ⟨w1.heap.size, 0, none⟩) 1 [f], fF A n xs, stF] [(w.heap.size + 1, #[.string f.1, .string f.2], 26), (w.heap.size, #[.int .i64 M, .slice A n c], 24)]) := Lib.hid (K1.out.litf 26 [f] #[.string f.1, .string f.2] (by simp [fdc]) 1 rfl (w1.heap.size) (by simp [World.size_alloc])); have B2 : Hid (Below w.heap.size w (w1.alloc (.cells #[.string f.1, .string f.2] 26))) := Lib.hid (B1.out.alloc B1.out.size (.cells #[.string f.1, .string f.2] 26)); clear K1 B1; (have hc := (HGF.out (some ⟨w1.heap.size, 0, none⟩) (w1.alloc (.cells #[.string f.1, .string f.2] 26)) (K2.out.fs (A := (some ⟨w1.heap.size, 0, none⟩)) (n := 1) (xs := [f]) (by simp))); (with_reducible refine hc.mono ?_); clear hc); rintro e w3 ⟨rfl, hb⟩; have K3 : Hid (EnvF w3 [fF (some ⟨w1.heap.size, 0, none⟩) 1 [f], fF A n xs, stF] [(w.heap.size + 1, #[.string f.1, .string f.2], 26), (w.heap.size, #[.int .i64 M, .slice A n c], 24)]) := Lib.hid (K2.out.on hb); have B3 : Hid (Below w.heap.size w w3) := Lib.hid (below_step B2.out hb); clear hb K2 B2)
    | (go_at_call 9; (have hc := (wakes9 w3 (Tb.EnvF.stv K3.out (by simp))); (with_reducible refine hc.mono ?_); clear hc); rintro e w4 ⟨rfl, hb⟩; have K4 : Hid (EnvF w4 [fF (some ⟨w1.heap.size, 0, none⟩) 1 [f], fF A n xs, stF] [(w.heap.size + 1, #[.string f.1, .string f.2], 26), (w.heap.size, #[.int .i64 M, .slice A n c], 24)]) := Lib.hid (K3.out.on hb); have B4 : Hid (Below w.heap.size w w4) := Lib.hid (below_step B3.out hb); clear hb K3 B3))
  go_ret
  exact ⟨rfl, B4.out⟩
set_option maxRecDepth 100000 in
set_option maxHeartbeats 4000000 in
theorem la_G3 (M : Int) (A : Option Addr) (n c : Nat) (xs : List Fd) (f : Fd) (w : World) (hR : Stv w) (hA : Fs w w.heap.size A n xs) (hN : A = none → c = 0) (HG : Hid (∀ w0 : World, Fs w0 w0.heap.size A n xs → Calls Tryd.prog 8 #[.slice A n c] w0 fun e w' => e = .returned (.bool false) ∧ Below w0.heap.size w0 w')) (HGF : Hid (∀ (A0 : Option Addr) (w0 : World), Fs w0 w0.heap.size A0 1 [f] → Calls Tryd.prog 8 #[.slice A0 1 1] w0 fun e w' => e = .returned (.bool false) ∧ Below w0.heap.size w0 w')) (HRT : Hid (∀ w0 : World, Fs w0 w0.heap.size A n xs → Calls Tryd.prog 20 #[.agg #[.int .i64 M, .slice A n c]] w0 fun e w' => e = .returned (.bool false) ∧ Below w0.heap.size w0 w')) :
    Calls Tryd.prog 4 #[.agg #[.int .i64 M, .slice A n c], .agg #[.string f.1, .string f.2]] w fun e w' => e = .returned (.bool true) ∧ Below w.heap.size w w' := by
  have K0 : Hid (EnvF ((w.alloc (.cells #[.int .i64 M, .slice A n c] 24)).alloc (.cells #[.string f.1, .string f.2] 26)) [fF A n xs, stF] [(w.heap.size + 1, #[.string f.1, .string f.2], 26), (w.heap.size, #[.int .i64 M, .slice A n c], 24)]) := Lib.hid ((((envS w hR).addF hA).boxg 24 #[.int .i64 M, .slice A n c] (w.heap.size) (by simp)).boxg 26 #[.string f.1, .string f.2] (w.heap.size + 1) (by simp))
  have B0 : Hid (Below w.heap.size w ((w.alloc (.cells #[.int .i64 M, .slice A n c] 24)).alloc (.cells #[.string f.1, .string f.2] 26))) := Lib.hid (((Below.refl _ w).alloc (by first | exact Nat.le_refl _ | (simp only [World.size_alloc]; omega)) (.cells #[.int .i64 M, .slice A n c] 24)).alloc (by first | exact Nat.le_refl _ | (simp only [World.size_alloc]; omega)) (.cells #[.string f.1, .string f.2] 26))
  go_enter Tryd.func4, Tryd.ntmps4
  go_wp2_with (first
    | go_skip
    | (refine at_load 22 (.tmp 9) (by rfl) ?_; refine wpList_get (by rfl) 22 (.tmp 9) (by rfl) (w.heap.size) 1 (by rfl) 24 #[.int .i64 M, .slice A n c] (.slice A n c) _ (K0.out.row 1 rfl) (by rfl) Tryd.underlying22 (by rfl) ?_)
    | (go_at_call 8; (have hc := (HG.out ((w.alloc (.cells #[.int .i64 M, .slice A n c] 24)).alloc (.cells #[.string f.1, .string f.2] 26)) (K0.out.fs (A := A) (n := n) (xs := xs) (by simp))); (with_reducible refine hc.mono ?_); clear hc); rintro e w1 ⟨rfl, hb⟩; have K1 : Hid (EnvF w1 [fF A n xs, stF] [(w.heap.size + 1, #[.string f.1, .string f.2], 26), (w.heap.size, #[.int .i64 M, .slice A n c], 24)]) := Lib.hid (K0.out.on hb); have B1 : Hid (Below w.heap.size w w1) := Lib.hid (below_step B0.out hb); clear hb K0 B0)
    | (refine at_load 26 (.tmp 3) (by rfl) ?_; refine wpListG_row (by kernel_rfl) 26 (.tmp 3) (by rfl) (w.heap.size + 1) (by rfl) 26 #[.string f.1, .string f.2] _ (K1.out.row 0 rfl) Tryd.underlying26 (by rfl) infoc_D ?_)
    | (go_at_call 8; have K2 : Hid (EnvF (w1.alloc (.cells #[.string f.1, .string f.2] 26)) [fF (some ⟨w1.heap.size, 0, none⟩) 1 [f], fF A n xs, stF] [(w.heap.size + 1, #[.string f.1, .string f.2], 26), (w.heap.size, #[.int .i64 M, .slice A n c], 24)]) := Lib.hid (K1.out.litf 26 [f] #[.string f.1, .string f.2] (by simp [fdc]) 1 rfl (w1.heap.size) (by simp [World.size_alloc])); have B2 : Hid (Below w.heap.size w (w1.alloc (.cells #[.string f.1, .string f.2] 26))) := Lib.hid (B1.out.alloc B1.out.size (.cells #[.string f.1, .string f.2] 26)); clear K1 B1; (have hc := (HGF.out (some ⟨w1.heap.size, 0, none⟩) (w1.alloc (.cells #[.string f.1, .string f.2] 26)) (K2.out.fs (A := (some ⟨w1.heap.size, 0, none⟩)) (n := 1) (xs := [f]) (by simp))); (with_reducible refine hc.mono ?_); clear hc); rintro e w3 ⟨rfl, hb⟩; have K3 : Hid (EnvF w3 [fF (some ⟨w1.heap.size, 0, none⟩) 1 [f], fF A n xs, stF] [(w.heap.size + 1, #[.string f.1, .string f.2], 26), (w.heap.size, #[.int .i64 M, .slice A n c], 24)]) := Lib.hid (K2.out.on hb); have B3 : Hid (Below w.heap.size w w3) := Lib.hid (below_step B2.out hb); clear hb K2 B2)
    | (refine at_load 24 (.tmp 2) (by rfl) ?_; refine wpListG_row (by kernel_rfl) 24 (.tmp 2) (by rfl) (w.heap.size) (by rfl) 24 #[.int .i64 M, .slice A n c] _ (K3.out.row 1 rfl) Tryd.underlying24 (by rfl) infoc_T ?_)
    | (go_at_call 20; (have hc := (HRT.out w3 (K3.out.fs (A := A) (n := n) (xs := xs) (by simp))); (with_reducible refine hc.mono ?_); clear hc); rintro e w4 ⟨rfl, hb⟩; have K4 : Hid (EnvF w4 [fF (some ⟨w1.heap.size, 0, none⟩) 1 [f], fF A n xs, stF] [(w.heap.size + 1, #[.string f.1, .string f.2], 26), (w.heap.size, #[.int .i64 M, .slice A n c], 24)]) := Lib.hid (K3.out.on hb); have B4 : Hid (Below w.heap.size w w4) := Lib.hid (below_step B3.out hb); clear hb K3 B3)
    | (go_at_call 9; (have hc := (wakes9 w4 (Tb.EnvF.stv K4.out (by simp))); (with_reducible refine hc.mono ?_); clear hc); rintro e w5 ⟨rfl, hb⟩; have K5 : Hid (EnvF w5 [fF (some ⟨w1.heap.size, 0, none⟩) 1 [f], fF A n xs, stF] [(w.heap.size + 1, #[.string f.1, .string f.2], 26), (w.heap.size, #[.int .i64 M, .slice A n c], 24)]) := Lib.hid (K4.out.on hb); have B5 : Hid (Below w.heap.size w w5) := Lib.hid (below_step B4.out hb); clear hb K4 B4))
  go_ret
  exact ⟨rfl, B5.out⟩
set_option maxRecDepth 100000 in
set_option maxHeartbeats 40000000 in
theorem la_main (M : Int) (A : Option Addr) (n c : Nat) (xs : List Fd) (f : Fd) (w : World) (hR : Stv w) (hA : Fs w w.heap.size A n xs) (hN : A = none → c = 0) (hnm : n ≤ 140) (hM : 0 ≤ M) (hfu : full (f :: xs) ≤ 1000000) (HG : Hid (∀ w0 : World, Fs w0 w0.heap.size A n xs → Calls Tryd.prog 8 #[.slice A n c] w0 fun e w' => e = .returned (.bool false) ∧ Below w0.heap.size w0 w')) (HGF : Hid (∀ (A0 : Option Addr) (w0 : World), Fs w0 w0.heap.size A0 1 [f] → Calls Tryd.prog 8 #[.slice A0 1 1] w0 fun e w' => e = .returned (.bool false) ∧ Below w0.heap.size w0 w')) (HRT : Hid (∀ w0 : World, Fs w0 w0.heap.size A n xs → Calls Tryd.prog 20 #[.agg #[.int .i64 M, .slice A n c]] w0 fun e w' => e = .returned (.bool true) ∧ Below w0.heap.size w0 w')) (k : Nat) (hk : (fit M (f :: xs)) = k) (HAD : Hid (∀ w0 : World, Fs w0 w0.heap.size A n xs → Calls Tryd.prog 21 #[.agg #[.int .i64 M, .slice A n c], .agg #[.string f.1, .string f.2]] w0 fun e w' => ∃ A3 c3, e = .returned (.tuple #[.agg #[.int .i64 M, .slice A3 k c3], .int .i64 0]) ∧ OwnF w' w0.heap.size 26 (.slice A3 k c3) (keep M (f :: xs)) ∧ Below w0.heap.size w0 w')) (HM : Hid (rightB M (keep M (f :: xs)) = true)) :
    Calls Tryd.prog 4 #[.agg #[.int .i64 M, .slice A n c], .agg #[.string f.1, .string f.2]] w fun e w' => e = .returned (.bool true) ∧ Below w.heap.size w w' := by
  have hn := hA.1
  have hkl : k ≤ n + 1 := by have h := fit_le M (f :: xs); rw [List.length_cons, hn, hk] at h; exact h
  have hke : keep M (f :: xs) = (f :: xs).take k := by unfold keep; rw [hk]
  have HKE := Lib.hid hke
  have hkl2 : (keep M (f :: xs)).length = k := by rw [keep_len, hk]
  obtain ⟨i0, hi, hz0, hz1, hz2⟩ := info_parts info_fld
  have hinf := Lib.hid (And.intro hi (And.intro hz0 (And.intro hz1 hz2)))
  clear hi hz0 hz1 hz2 hke
  have dk : decide ((n : Int) + 1 < (k : Int)) = false := decide_eq_false (by omega)
  have K0 : Hid (EnvF ((w.alloc (.cells #[.int .i64 M, .slice A n c] 24)).alloc (.cells #[.string f.1, .string f.2] 26)) [fF A n xs, stF] [(w.heap.size + 1, #[.string f.1, .string f.2], 26), (w.heap.size, #[.int .i64 M, .slice A n c], 24)]) := Lib.hid ((((envS w hR).addF hA).boxg 24 #[.int .i64 M, .slice A n c] (w.heap.size) (by simp)).boxg 26 #[.string f.1, .string f.2] (w.heap.size + 1) (by simp))
  have B0 : Hid (Below w.heap.size w ((w.alloc (.cells #[.int .i64 M, .slice A n c] 24)).alloc (.cells #[.string f.1, .string f.2] 26))) := Lib.hid (((Below.refl _ w).alloc (by first | exact Nat.le_refl _ | (simp only [World.size_alloc]; omega)) (.cells #[.int .i64 M, .slice A n c] 24)).alloc (by first | exact Nat.le_refl _ | (simp only [World.size_alloc]; omega)) (.cells #[.string f.1, .string f.2] 26))
  go_enter Tryd.func4, Tryd.ntmps4
  go_wp2_with (first
    | go_skip
    | (refine at_load 22 (.tmp 9) (by rfl) ?_; refine wpList_get (by rfl) 22 (.tmp 9) (by rfl) (w.heap.size) 1 (by rfl) 24 #[.int .i64 M, .slice A n c] (.slice A n c) _ (K0.out.row 1 rfl) (by rfl) Tryd.underlying22 (by rfl) ?_)
    | (go_at_call 8; (have hc := (HG.out ((w.alloc (.cells #[.int .i64 M, .slice A n c] 24)).alloc (.cells #[.string f.1, .string f.2] 26)) (K0.out.fs (A := A) (n := n) (xs := xs) (by simp))); (with_reducible refine hc.mono ?_); clear hc); rintro e w1 ⟨rfl, hb⟩; have K1 : Hid (EnvF w1 [fF A n xs, stF] [(w.heap.size + 1, #[.string f.1, .string f.2], 26), (w.heap.size, #[.int .i64 M, .slice A n c], 24)]) := Lib.hid (K0.out.on hb); have B1 : Hid (Below w.heap.size w w1) := Lib.hid (below_step B0.out hb); clear hb K0 B0)
    | (refine at_load 26 (.tmp 3) (by rfl) ?_; refine wpListG_row (by kernel_rfl) 26 (.tmp 3) (by rfl) (w.heap.size + 1) (by rfl) 26 #[.string f.1, .string f.2] _ (K1.out.row 0 rfl) Tryd.underlying26 (by rfl) infoc_D ?_)
    | (go_at_call 8; have K2 : Hid (EnvF (w1.alloc (.cells #[.string f.1, .string f.2] 26)) [fF (some ⟨w1.heap.size, 0, none⟩) 1 [f], fF A n xs, stF] [(w.heap.size + 1, #[.string f.1, .string f.2], 26), (w.heap.size, #[.int .i64 M, .slice A n c], 24)]) := Lib.hid (K1.out.litf 26 [f] #[.string f.1, .string f.2] (by simp [fdc]) 1 rfl (w1.heap.size) (by simp [World.size_alloc])); have B2 : Hid (Below w.heap.size w (w1.alloc (.cells #[.string f.1, .string f.2] 26))) := Lib.hid (B1.out.alloc B1.out.size (.cells #[.string f.1, .string f.2] 26)); clear K1 B1; (have hc := (HGF.out (some ⟨w1.heap.size, 0, none⟩) (w1.alloc (.cells #[.string f.1, .string f.2] 26)) (K2.out.fs (A := (some ⟨w1.heap.size, 0, none⟩)) (n := 1) (xs := [f]) (by simp))); (with_reducible refine hc.mono ?_); clear hc); rintro e w3 ⟨rfl, hb⟩; have K3 : Hid (EnvF w3 [fF (some ⟨w1.heap.size, 0, none⟩) 1 [f], fF A n xs, stF] [(w.heap.size + 1, #[.string f.1, .string f.2], 26), (w.heap.size, #[.int .i64 M, .slice A n c], 24)]) := Lib.hid (K2.out.on hb); have B3 : Hid (Below w.heap.size w w3) := Lib.hid (below_step B2.out hb); clear hb K2 B2)
    | (refine at_load 24 (.tmp 2) (by rfl) ?_; refine wpListG_row (by kernel_rfl) 24 (.tmp 2) (by rfl) (w.heap.size) (by rfl) 24 #[.int .i64 M, .slice A n c] _ (K3.out.row 1 rfl) Tryd.underlying24 (by rfl) infoc_T ?_)
    | (go_at_call 20; (have hc := (HRT.out w3 (K3.out.fs (A := A) (n := n) (xs := xs) (by simp))); (with_reducible refine hc.mono ?_); clear hc); rintro e w4 ⟨rfl, hb⟩; have K4 : Hid (EnvF w4 [fF (some ⟨w1.heap.size, 0, none⟩) 1 [f], fF A n xs, stF] [(w.heap.size + 1, #[.string f.1, .string f.2], 26), (w.heap.size, #[.int .i64 M, .slice A n c], 24)]) := Lib.hid (K3.out.on hb); have B4 : Hid (Below w.heap.size w w4) := Lib.hid (below_step B3.out hb); clear hb K3 B3)
    | (refine at_load 24 (.tmp 2) (by rfl) ?_; refine wpList_load_row (by rfl) 24 (.tmp 2) (by rfl) (w.heap.size) (by rfl) 24 #[.int .i64 M, .slice A n c] (0, 0) _ (K4.out.row 1 rfl) Tryd.underlying24 (by rfl) infoc_T ?_)
    | (refine at_load 26 (.tmp 3) (by rfl) ?_; refine wpList_load_row (by rfl) 26 (.tmp 3) (by rfl) (w.heap.size + 1) (by rfl) 26 #[.string f.1, .string f.2] (0, 0) _ (K4.out.row 0 rfl) Tryd.underlying26 (by rfl) infoc_D ?_)
    | (go_at_call 21; (have hc := (HAD.out w4 (K4.out.fs (A := A) (n := n) (xs := xs) (by simp))); (with_reducible refine hc.mono ?_); clear hc); rintro e w5 ⟨A3, c3, rfl, ho, hb⟩; have K5 : Hid (EnvF w5 [oF w.heap.size 26 (.slice A3 k c3) (keep M (f :: xs)), fF A3 k (keep M (f :: xs)), fF (some ⟨w1.heap.size, 0, none⟩) 1 [f], fF A n xs, stF] [(w.heap.size + 1, #[.string f.1, .string f.2], 26), (w.heap.size, #[.int .i64 M, .slice A n c], 24)]) := Lib.hid (K4.out.handO hb ho B4.out.size); have B5 : Hid (Below w.heap.size w w5) := Lib.hid (below_step B4.out hb); clear hb ho K4 B4; have leo : w.heap.size ≤ w5.heap.size := (by have := B5.out.size; (try simp only [World.size_alloc] at this); omega); have K6 : Hid (EnvF (w5.alloc (.cells #[.int .i64 0, .slice none 0 0] 24)) [oF w.heap.size 26 (.slice A3 k c3) (keep M (f :: xs)), fF A3 k (keep M (f :: xs)), fF (some ⟨w1.heap.size, 0, none⟩) 1 [f], fF A n xs, stF] [(w5.heap.size, #[.int .i64 0, .slice none 0 0], 24), (w.heap.size + 1, #[.string f.1, .string f.2], 26), (w.heap.size, #[.int .i64 M, .slice A n c], 24)]) := Lib.hid (K5.out.boxg 24 #[.int .i64 0, .slice none 0 0] (w5.heap.size) (by simp)); have B6 : Hid (Below w.heap.size w (w5.alloc (.cells #[.int .i64 0, .slice none 0 0] 24))) := Lib.hid (B5.out.alloc B5.out.size (.cells #[.int .i64 0, .slice none 0 0] 24)); clear K5 B5)
    | (refine at_store 24 (.tmp 5) (.tmp 27) (by rfl) ?_; refine wpList_put (by rfl) 24 (.tmp 5) (.tmp 27) (by rfl) (w5.heap.size) 0 (.agg #[.int .i64 M, .slice A3 k c3]) (by rfl) (by rfl) 24 #[.int .i64 0, .slice none 0 0] #[.int .i64 M, .slice A3 k c3] (K6.out.row 0 rfl) (by simp [Value.cells]) (by kernel_rfl) infoc_T (by kernel_rfl) ?_; intro w7 hrow hoth hz hbl; have K7 : Hid (EnvF w7 [oF w.heap.size 26 (.slice A3 k c3) (keep M (f :: xs)), fF A3 k (keep M (f :: xs)), fF (some ⟨w1.heap.size, 0, none⟩) 1 [f], fF A n xs, stF] [(w5.heap.size, #[.int .i64 M, .slice A3 k c3], 24), (w.heap.size + 1, #[.string f.1, .string f.2], 26), (w.heap.size, #[.int .i64 M, .slice A n c], 24)]) := Lib.hid (K6.out.turn 0 rfl hrow hoth hz); have B7 : Hid (Below w.heap.size w w7) := Lib.hid (hbl _ _ leo B6.out); clear hrow hoth hz hbl K6 B6; have hl1 := (cells2_row ((K7.out.al (.cells #[.string f.1, .string f.2] 26)).row 2 rfl)).2)
    | (refine at_load 26 (.tmp 3) (by rfl) ?_; refine wpList_load_row (by rfl) 26 (.tmp 3) (by rfl) (w.heap.size + 1) (by rfl) 26 #[.string f.1, .string f.2] (0, 0) _ (K7.out.row 1 rfl) Tryd.underlying26 (by rfl) infoc_D ?_)
    | (at_builtin; refine wpList_append_flds _ rfl (.tmp 30) (.tmp 32) 22 rfl (w7.heap.size) 26 i0 Tryd.underlying22 hinf.out.1 hinf.out.2.1 hinf.out.2.2.1 hinf.out.2.2.2 _ [f] rfl (OwnF.litn w7 26 _ (Nat.le_refl _) _ rfl [f] _ (by simp [fdc]) 1 rfl (by omega)) _ A n c xs rfl ((K7.out.fs (A := A) (n := n) (xs := xs) (by simp)).alloc (Nat.le_refl _) (.cells #[.string f.1, .string f.2] 26)) hN (by simp; omega) (by simp) ?_; intro v4 wq hown4 hb4 hg4 hv4; clear hv4; rw [List.singleton_append] at hown4; obtain ⟨A4, c4, rfl, hc4, _⟩ := hown4.form2 (n := n + 1) (by simp; omega); have hb5 := ((Below.refl (w7.heap.size) w7).alloc (Nat.le_refl _) (.cells #[.string f.1, .string f.2] 26)).trans hb4; have K8 : Hid (EnvF wq [oF w.heap.size 26 (.slice A4 (n + 1) c4) (f :: xs), fF A4 (n + 1) (f :: xs), oF w.heap.size 26 (.slice A3 k c3) (keep M (f :: xs)), fF A3 k (keep M (f :: xs)), fF (some ⟨w1.heap.size, 0, none⟩) 1 [f], fF A n xs, stF] [(w5.heap.size, #[.int .i64 M, .slice A3 k c3], 24), (w.heap.size + 1, #[.string f.1, .string f.2], 26), (w.heap.size, #[.int .i64 M, .slice A n c], 24)]) := Lib.hid (K7.out.handO hb5 hown4 B7.out.size); have B8 : Hid (Below w.heap.size w wq) := Lib.hid (below_step B7.out hb5); clear hown4 hb4 hg4 hb5 hl1 K7 B7)
    | (refine at_load 22 (.tmp 34) (by rfl) ?_; refine wpList_get (by rfl) 22 (.tmp 34) (by rfl) (w5.heap.size) 1 (by rfl) 24 #[.int .i64 M, .slice A3 k c3] (.slice A3 k c3) _ (K8.out.row 0 rfl) (by rfl) Tryd.underlying22 (by rfl) ?_))
  refine q_start (fun W => EnvF W [oF w.heap.size 26 (.slice A4 (n + 1) c4) (f :: xs), fF A4 (n + 1) (f :: xs), oF w.heap.size 26 (.slice A3 k c3) (keep M (f :: xs)), fF A3 k (keep M (f :: xs)), fF (some ⟨w1.heap.size, 0, none⟩) 1 [f], fF A n xs, stF] [(w5.heap.size, #[.int .i64 M, .slice A3 k c3], 24), (w.heap.size + 1, #[.string f.1, .string f.2], 26), (w.heap.size, #[.int .i64 M, .slice A n c], 24)] ∧ Below w.heap.size w W) (by kernel_rfl) (by kernel_rfl) ⟨K8.out.drew, B8.out.drew⟩ ?_
  refine q_val (by rfl) (fun w => by go_simp; rfl) ?_
  first | (refine q_norm ?_; dsimp only [List.set_cons_succ, List.set_cons_zero]) | refine q_norm0 ?_
  refine q_val (v := .bool false) (by rfl) (fun w => by go_simp) ?_
  first | (refine q_norm ?_; dsimp only [List.set_cons_succ, List.set_cons_zero]) | refine q_norm0 ?_
  refine q_val (v := .bool false) (by rfl) (fun w => by go_simp) ?_
  first | (refine q_norm ?_; dsimp only [List.set_cons_succ, List.set_cons_zero]) | refine q_norm0 ?_
  refine q_row (by rfl) 24 (.tmp 5) (by rfl) (w5.heap.size) (by rfl) 24 #[.int .i64 M, .slice A3 k c3] _ (fun W hW => hW.1.row 0 rfl) Tryd.underlying24 (by rfl) infoc_T ?_
  first | (refine q_norm ?_; dsimp only [List.set_cons_succ, List.set_cons_zero]) | refine q_norm0 ?_
  refine q_call (by rfl) 20 #[.agg #[.int .i64 M, .slice A3 k c3]] (.bool true) (fun w => by go_simp) (fun W hW => (HM.out ▸ r_right M A3 k c3 (keep M (f :: xs)) W (hW.1.fs (A := A3) (n := k) (xs := keep M (f :: xs)) (by simp)) (Nat.le_trans (keep_sub _ _) hfu)).mono fun e w' h => ⟨h.1, hW.1.on h.2, below_step hW.2 h.2⟩) ?_
  first | (refine q_norm ?_; dsimp only [List.set_cons_succ, List.set_cons_zero]) | refine q_norm0 ?_
  refine q_val (by rfl) (fun w => by go_simp; rfl) ?_
  first | (refine q_norm ?_; dsimp only [List.set_cons_succ, List.set_cons_zero]) | refine q_norm0 ?_
  refine q_val (v := .bool false) (by rfl) (fun w => by go_simp) ?_
  first | (refine q_norm ?_; dsimp only [List.set_cons_succ, List.set_cons_zero]) | refine q_norm0 ?_
  refine q_val (v := .bool false) (by rfl) (fun w => by go_simp) ?_
  first | (refine q_norm ?_; dsimp only [List.set_cons_succ, List.set_cons_zero]) | refine q_norm0 ?_
  refine q_val (by rfl) (fun w => by go_simp; rfl) ?_
  first | (refine q_norm ?_; dsimp only [List.set_cons_succ, List.set_cons_zero]) | refine q_norm0 ?_
  refine q_get (by rfl) 3 (.tmp 45) (by rfl) (w5.heap.size) 0 (by rfl) 24 #[.int .i64 M, .slice A3 k c3] (.int .i64 M) _ (fun W hW => hW.1.row 0 rfl) (by rfl) Tryd.underlying3 (by rfl) ?_
  first | (refine q_norm ?_; dsimp only [List.set_cons_succ, List.set_cons_zero]) | refine q_norm0 ?_
  refine q_val (by rfl) (fun w => by go_simp; rfl) ?_
  first | (refine q_norm ?_; dsimp only [List.set_cons_succ, List.set_cons_zero]) | refine q_norm0 ?_
  refine q_get (by rfl) 3 (.tmp 47) (by rfl) (w.heap.size) 0 (by rfl) 24 #[.int .i64 M, .slice A n c] (.int .i64 M) _ (fun W hW => hW.1.row 2 rfl) (by rfl) Tryd.underlying3 (by rfl) ?_
  first | (refine q_norm ?_; dsimp only [List.set_cons_succ, List.set_cons_zero]) | refine q_norm0 ?_
  refine q_val (v := .bool false) (by rfl) (fun w => by go_simp) ?_
  first | (refine q_norm ?_; dsimp only [List.set_cons_succ, List.set_cons_zero]) | refine q_norm0 ?_
  refine q_val (v := .bool false) (by rfl) (fun w => by go_simp) ?_
  first | (refine q_norm ?_; dsimp only [List.set_cons_succ, List.set_cons_zero]) | refine q_norm0 ?_
  refine q_val (v := .bool false) (by rfl) (fun w => by go_simp) ?_
  first | (refine q_norm ?_; dsimp only [List.set_cons_succ, List.set_cons_zero]) | refine q_norm0 ?_
  refine q_val (by rfl) (fun w => by go_simp; rfl) ?_
  first | (refine q_norm ?_; dsimp only [List.set_cons_succ, List.set_cons_zero]) | refine q_norm0 ?_
  refine q_val (by rfl) (fun w => by go_simp; rfl) ?_
  first | (refine q_norm ?_; dsimp only [List.set_cons_succ, List.set_cons_zero]) | refine q_norm0 ?_
  refine q_val (by rfl) (fun w => by go_simp; rfl) ?_
  first | (refine q_norm ?_; dsimp only [List.set_cons_succ, List.set_cons_zero]) | refine q_norm0 ?_
  refine q_val (v := .bool false) (by rfl) (fun w => by go_simp) ?_
  first | (refine q_norm ?_; dsimp only [List.set_cons_succ, List.set_cons_zero]) | refine q_norm0 ?_
  refine q_val (v := .bool false) (by rfl) (fun w => by go_simp) ?_
  first | (refine q_norm ?_; dsimp only [List.set_cons_succ, List.set_cons_zero]) | refine q_norm0 ?_
  refine q_val (v := .bool false) (by rfl) (fun w => by go_simp) ?_
  first | (refine q_norm ?_; dsimp only [List.set_cons_succ, List.set_cons_zero]) | refine q_norm0 ?_
  refine q_val (by rfl) (fun w => by go_simp; rfl) ?_
  first | (refine q_norm ?_; dsimp only [List.set_cons_succ, List.set_cons_zero]) | refine q_norm0 ?_
  refine q_get (by rfl) 22 (.tmp 58) (by rfl) (w5.heap.size) 1 (by rfl) 24 #[.int .i64 M, .slice A3 k c3] (.slice A3 k c3) _ (fun W hW => hW.1.row 0 rfl) (by rfl) Tryd.underlying22 (by rfl) ?_
  first | (refine q_norm ?_; dsimp only [List.set_cons_succ, List.set_cons_zero]) | refine q_norm0 ?_
  refine q_val (by rfl) (fun w => by go_simp; rfl) ?_
  first | (refine q_norm ?_; dsimp only [List.set_cons_succ, List.set_cons_zero]) | refine q_norm0 ?_
  refine q_val (by rfl) (fun w => by go_simp; rfl) ?_
  first | (refine q_norm ?_; dsimp only [List.set_cons_succ, List.set_cons_zero]) | refine q_norm0 ?_
  refine q_val (v := .slice A4 k c4) (by rfl) (fun w => by first | (go_simp; done) | (go_simp; rw [if_pos (by omega)]) | (go_simp; intro hlt; exact absurd hlt (by omega))) ?_
  first | (refine q_norm ?_; dsimp only [List.set_cons_succ, List.set_cons_zero]) | refine q_norm0 ?_
  refine q_call (by rfl) 30 #[.slice A3 k c3, .slice A4 k c4] (.bool true) (fun w => by go_simp) (fun W hW => ((decide_eq_true HKE.out) ▸ r_fields A3 A4 k k c3 c4 (keep M (f :: xs)) ((f :: xs).take k) W (hW.1.fs (A := A3) (n := k) (xs := keep M (f :: xs)) (by simp)) ((hW.1.fs (A := A4) (n := (n + 1)) (xs := (f :: xs)) (by simp)).take k hkl) (by omega)).mono fun e w' h => ⟨h.1, hW.1.on h.2, below_step hW.2 h.2⟩) ?_
  first | (refine q_norm ?_; dsimp only [List.set_cons_succ, List.set_cons_zero]) | refine q_norm0 ?_
  refine q_val (by rfl) (fun w => by go_simp; rfl) ?_
  first | (refine q_norm ?_; dsimp only [List.set_cons_succ, List.set_cons_zero]) | refine q_norm0 ?_
  refine q_val (v := .bool false) (by rfl) (fun w => by go_simp) ?_
  first | (refine q_norm ?_; dsimp only [List.set_cons_succ, List.set_cons_zero]) | refine q_norm0 ?_
  refine wpQuiet_nil ?_
  intro wa hWa
  go_wp2
  by_cases hend : k = n + 1
  · subst hend
    refine q_start (fun W => EnvF W [oF w.heap.size 26 (.slice A4 (n + 1) c4) (f :: xs), fF A4 (n + 1) (f :: xs), oF w.heap.size 26 (.slice A3 (n + 1) c3) (keep M (f :: xs)), fF A3 (n + 1) (keep M (f :: xs)), fF (some ⟨w1.heap.size, 0, none⟩) 1 [f], fF A n xs, stF] [(w5.heap.size, #[.int .i64 M, .slice A3 (n + 1) c3], 24), (w.heap.size + 1, #[.string f.1, .string f.2], 26), (w.heap.size, #[.int .i64 M, .slice A n c], 24)] ∧ Below w.heap.size w W) (by kernel_rfl) (by kernel_rfl) ⟨hWa.1.drew, hWa.2.drew⟩ ?_
    with_reducible apply q_val
    focus (rfl)
    focus (intro w; (go_simp; rfl))
    first | (with_reducible refine q_norm ?_; dsimp only [List.set_cons_succ, List.set_cons_zero]) | with_reducible refine q_norm0 ?_
    with_reducible apply q_val
    focus (rfl)
    focus (intro w; (go_simp; rfl))
    first | (with_reducible refine q_norm ?_; dsimp only [List.set_cons_succ, List.set_cons_zero]) | with_reducible refine q_norm0 ?_
    with_reducible apply q_val
    focus (rfl)
    focus (intro w; (go_simp; rfl))
    first | (with_reducible refine q_norm ?_; dsimp only [List.set_cons_succ, List.set_cons_zero]) | with_reducible refine q_norm0 ?_
    with_reducible refine q_val (v := .bool true) ?_ ?_ ?_
    focus (rfl)
    focus (intro w; (go_simp))
    first | (with_reducible refine q_norm ?_; dsimp only [List.set_cons_succ, List.set_cons_zero]) | with_reducible refine q_norm0 ?_
    with_reducible refine q_val (v := .bool true) ?_ ?_ ?_
    focus (rfl)
    focus (intro w; (go_simp))
    first | (with_reducible refine q_norm ?_; dsimp only [List.set_cons_succ, List.set_cons_zero]) | with_reducible refine q_norm0 ?_
    with_reducible refine q_skip ?_ ?_
    focus (rfl)
    first | (with_reducible refine q_norm ?_; dsimp only [List.set_cons_succ, List.set_cons_zero]) | with_reducible refine q_norm0 ?_
    with_reducible refine q_skip ?_ ?_
    focus (rfl)
    first | (with_reducible refine q_norm ?_; dsimp only [List.set_cons_succ, List.set_cons_zero]) | with_reducible refine q_norm0 ?_
    with_reducible refine q_skip ?_ ?_
    focus (rfl)
    first | (with_reducible refine q_norm ?_; dsimp only [List.set_cons_succ, List.set_cons_zero]) | with_reducible refine q_norm0 ?_
    with_reducible refine q_skip ?_ ?_
    focus (rfl)
    first | (with_reducible refine q_norm ?_; dsimp only [List.set_cons_succ, List.set_cons_zero]) | with_reducible refine q_norm0 ?_
    with_reducible refine q_skip ?_ ?_
    focus (rfl)
    first | (with_reducible refine q_norm ?_; dsimp only [List.set_cons_succ, List.set_cons_zero]) | with_reducible refine q_norm0 ?_
    with_reducible refine q_skip ?_ ?_
    focus (rfl)
    first | (with_reducible refine q_norm ?_; dsimp only [List.set_cons_succ, List.set_cons_zero]) | with_reducible refine q_norm0 ?_
    with_reducible refine q_skip ?_ ?_
    focus (rfl)
    first | (with_reducible refine q_norm ?_; dsimp only [List.set_cons_succ, List.set_cons_zero]) | with_reducible refine q_norm0 ?_
    with_reducible refine q_skip ?_ ?_
    focus (rfl)
    first | (with_reducible refine q_norm ?_; dsimp only [List.set_cons_succ, List.set_cons_zero]) | with_reducible refine q_norm0 ?_
    with_reducible refine q_skip ?_ ?_
    focus (rfl)
    first | (with_reducible refine q_norm ?_; dsimp only [List.set_cons_succ, List.set_cons_zero]) | with_reducible refine q_norm0 ?_
    with_reducible refine q_val (v := .bool true) ?_ ?_ ?_
    focus (rfl)
    focus (intro w; (go_simp))
    first | (with_reducible refine q_norm ?_; dsimp only [List.set_cons_succ, List.set_cons_zero]) | with_reducible refine q_norm0 ?_
    with_reducible refine q_val (v := .bool true) ?_ ?_ ?_
    focus (rfl)
    focus (intro w; (go_simp))
    first | (with_reducible refine q_norm ?_; dsimp only [List.set_cons_succ, List.set_cons_zero]) | with_reducible refine q_norm0 ?_
    with_reducible refine q_call ?_ 9 #[] (.bool true) ?_ ?_ ?_
    focus (rfl)
    focus (intro w; (go_simp))
    focus exact (fun W hW => (wakes9 W (Tb.EnvF.stv hW.1 (by simp))).mono fun e w' h => ⟨h.1, hW.1.on h.2, below_step hW.2 h.2⟩)
    first | (with_reducible refine q_norm ?_; dsimp only [List.set_cons_succ, List.set_cons_zero]) | with_reducible refine q_norm0 ?_
    with_reducible refine q_val (v := .bool true) ?_ ?_ ?_
    focus (rfl)
    focus (intro w; (go_simp))
    first | (with_reducible refine q_norm ?_; dsimp only [List.set_cons_succ, List.set_cons_zero]) | with_reducible refine q_norm0 ?_
    with_reducible refine q_val (v := .bool true) ?_ ?_ ?_
    focus (rfl)
    focus (intro w; (go_simp))
    first | (with_reducible refine q_norm ?_; dsimp only [List.set_cons_succ, List.set_cons_zero]) | with_reducible refine q_norm0 ?_
    refine wpQuiet_nil ?_
    intro wb hWb
    go_wp2
    go_ret
    exact ⟨rfl, hWb.2⟩
  · have e8 : ((k : Int) == (n : Int) + 1) = false := by simp; omega
    have w8 : IntKind.i64.wrap ((k : Int) + 1) = (k : Int) + 1 := by rw [IntKind.wrap_i64]; omega
    have w9 : ((k : Int) + 1).toNat = k + 1 := by omega
    have d8 : decide (M < (full ((f :: xs).take (k + 1)) : Int)) = true := by
      refine decide_eq_true ?_
      have h : ¬ ((full ((f :: xs).take (k + 1)) : Int) ≤ M) := fun h => absurd ((fit_iff (M := M) (xs := (f :: xs)) (j := k + 1) hM (by rw [List.length_cons, hn]; omega)).1 h) (by rw [hk]; omega)
      exact Int.lt_of_not_ge h
    refine q_start (fun W => EnvF W [oF w.heap.size 26 (.slice A4 (n + 1) c4) (f :: xs), fF A4 (n + 1) (f :: xs), oF w.heap.size 26 (.slice A3 k c3) (keep M (f :: xs)), fF A3 k (keep M (f :: xs)), fF (some ⟨w1.heap.size, 0, none⟩) 1 [f], fF A n xs, stF] [(w5.heap.size, #[.int .i64 M, .slice A3 k c3], 24), (w.heap.size + 1, #[.string f.1, .string f.2], 26), (w.heap.size, #[.int .i64 M, .slice A n c], 24)] ∧ Below w.heap.size w W) (by kernel_rfl) (by kernel_rfl) ⟨hWa.1.drew, hWa.2.drew⟩ ?_
    with_reducible apply q_val
    focus (rfl)
    focus (intro w; (go_simp; rfl))
    first | (with_reducible refine q_norm ?_; dsimp only [List.set_cons_succ, List.set_cons_zero]) | with_reducible refine q_norm0 ?_
    with_reducible apply q_val
    focus (rfl)
    focus (intro w; (go_simp; rfl))
    first | (with_reducible refine q_norm ?_; dsimp only [List.set_cons_succ, List.set_cons_zero]) | with_reducible refine q_norm0 ?_
    with_reducible apply q_val
    focus (rfl)
    focus (intro w; (go_simp; rfl))
    first | (with_reducible refine q_norm ?_; dsimp only [List.set_cons_succ, List.set_cons_zero]) | with_reducible refine q_norm0 ?_
    with_reducible refine q_val (v := .bool false) ?_ ?_ ?_
    focus (rfl)
    focus (intro w; (go_simp; try exact of_decide_eq_true d8))
    first | (with_reducible refine q_norm ?_; dsimp only [List.set_cons_succ, List.set_cons_zero]) | with_reducible refine q_norm0 ?_
    with_reducible refine q_val (v := .bool false) ?_ ?_ ?_
    focus (rfl)
    focus (intro w; (go_simp; try exact of_decide_eq_true d8))
    first | (with_reducible refine q_norm ?_; dsimp only [List.set_cons_succ, List.set_cons_zero]) | with_reducible refine q_norm0 ?_
    with_reducible apply q_val
    focus (rfl)
    focus (intro w; (go_simp; rfl))
    first | (with_reducible refine q_norm ?_; dsimp only [List.set_cons_succ, List.set_cons_zero]) | with_reducible refine q_norm0 ?_
    with_reducible apply q_val
    focus (rfl)
    focus (intro w; (go_simp; rfl))
    first | (with_reducible refine q_norm ?_; dsimp only [List.set_cons_succ, List.set_cons_zero]) | with_reducible refine q_norm0 ?_
    with_reducible apply q_val
    focus (rfl)
    focus (intro w; (go_simp; rfl))
    first | (with_reducible refine q_norm ?_; dsimp only [List.set_cons_succ, List.set_cons_zero]) | with_reducible refine q_norm0 ?_
    with_reducible refine q_val (v := .slice A4 (k + 1) c4) ?_ ?_ ?_
    focus (rfl)
    focus (intro w; (first | (go_simp; done) | (go_simp; rw [if_pos (by omega), w9]) | (go_simp; rw [w8, if_pos (by omega), w9]) | (go_simp; rw [w9]) | (go_simp; omega) | (go_simp; rw [if_pos (by omega)]) | (go_simp; intro hlt; exact absurd hlt (by omega))))
    first | (with_reducible refine q_norm ?_; dsimp only [List.set_cons_succ, List.set_cons_zero]) | with_reducible refine q_norm0 ?_
    with_reducible apply q_val
    focus (rfl)
    focus (intro w; (go_simp; rfl))
    first | (with_reducible refine q_norm ?_; dsimp only [List.set_cons_succ, List.set_cons_zero]) | with_reducible refine q_norm0 ?_
    with_reducible refine q_call ?_ 18 #[.agg #[.int .i64 0, .slice A4 (k + 1) c4]] (.int .i64 (full ((f :: xs).take (k + 1)) : Int)) ?_ ?_ ?_
    focus (rfl)
    focus (intro w; (go_simp; try exact of_decide_eq_true d8))
    focus exact (fun W hW => (r_full 0 A4 (k + 1) c4 ((f :: xs).take (k + 1)) W ((hW.1.fs (A := A4) (n := (n + 1)) (xs := (f :: xs)) (by simp)).take (k + 1) (by omega)) (Nat.le_trans (full_take _ _) hfu)).mono fun e w' h => ⟨h.1, hW.1.on h.2, below_step hW.2 h.2⟩)
    first | (with_reducible refine q_norm ?_; dsimp only [List.set_cons_succ, List.set_cons_zero]) | with_reducible refine q_norm0 ?_
    with_reducible apply q_val
    focus (rfl)
    focus (intro w; (go_simp; rfl))
    first | (with_reducible refine q_norm ?_; dsimp only [List.set_cons_succ, List.set_cons_zero]) | with_reducible refine q_norm0 ?_
    with_reducible refine q_get ?_ 3 (.tmp 77) ?_ (w.heap.size) 0 ?_ 24 #[.int .i64 M, .slice A n c] (.int .i64 M) _ ?_ ?_ Tryd.underlying3 ?_ ?_
    focus (rfl)
    focus (rfl)
    focus (rfl)
    focus exact (fun W hW => hW.1.row 2 rfl)
    focus (rfl)
    focus (rfl)
    first | (with_reducible refine q_norm ?_; dsimp only [List.set_cons_succ, List.set_cons_zero]) | with_reducible refine q_norm0 ?_
    with_reducible refine q_val (v := .bool true) ?_ ?_ ?_
    focus (rfl)
    focus (intro w; (go_simp; try exact of_decide_eq_true d8))
    first | (with_reducible refine q_norm ?_; dsimp only [List.set_cons_succ, List.set_cons_zero]) | with_reducible refine q_norm0 ?_
    with_reducible refine q_val (v := .bool true) ?_ ?_ ?_
    focus (rfl)
    focus (intro w; (go_simp; try exact of_decide_eq_true d8))
    first | (with_reducible refine q_norm ?_; dsimp only [List.set_cons_succ, List.set_cons_zero]) | with_reducible refine q_norm0 ?_
    with_reducible refine q_val (v := .bool true) ?_ ?_ ?_
    focus (rfl)
    focus (intro w; (go_simp; try exact of_decide_eq_true d8))
    first | (with_reducible refine q_norm ?_; dsimp only [List.set_cons_succ, List.set_cons_zero]) | with_reducible refine q_norm0 ?_
    with_reducible refine q_call ?_ 9 #[] (.bool true) ?_ ?_ ?_
    focus (rfl)
    focus (intro w; (go_simp; try exact of_decide_eq_true d8))
    focus exact (fun W hW => (wakes9 W (Tb.EnvF.stv hW.1 (by simp))).mono fun e w' h => ⟨h.1, hW.1.on h.2, below_step hW.2 h.2⟩)
    first | (with_reducible refine q_norm ?_; dsimp only [List.set_cons_succ, List.set_cons_zero]) | with_reducible refine q_norm0 ?_
    with_reducible refine q_val (v := .bool true) ?_ ?_ ?_
    focus (rfl)
    focus (intro w; (go_simp; try exact of_decide_eq_true d8))
    first | (with_reducible refine q_norm ?_; dsimp only [List.set_cons_succ, List.set_cons_zero]) | with_reducible refine q_norm0 ?_
    with_reducible refine q_val (v := .bool true) ?_ ?_ ?_
    focus (rfl)
    focus (intro w; (go_simp; try exact of_decide_eq_true d8))
    first | (with_reducible refine q_norm ?_; dsimp only [List.set_cons_succ, List.set_cons_zero]) | with_reducible refine q_norm0 ?_
    refine wpQuiet_nil ?_
    intro wb hWb
    go_wp2
    go_ret
    exact ⟨rfl, hWb.2⟩
theorem la_all (M : Int) (A : Option Addr) (n c : Nat) (f : Fd) (w : World) (hR : Stv w) (hI : IsFlds w A n c) (h1 : f.1.size ≤ 140737488355328) (h2 : f.2.size ≤ 140737488355328) :
    Calls Tryd.prog 4 #[.agg #[.int .i64 M, .slice A n c], .agg #[.string f.1, .string f.2]] w fun e w' => e = .returned (.bool true) ∧ Below w.heap.size w w' := by
  obtain ⟨xs, hA, hS, hnc, hcm, hN⟩ := rowFlds hI
  have HG := Lib.hid fun (w0 : World) (h : Fs w0 w0.heap.size A n xs) => r_great A n c xs w0 h hnc hcm hS
  have HGF := Lib.hid fun (A0 : Option Addr) (w0 : World) (h : Fs w0 w0.heap.size A0 1 [f]) => r_great A0 1 1 [f] w0 h (Nat.le_refl _) (by unfold maxLen; omega) (fun x hx => by rw [List.mem_singleton.1 hx]; exact ⟨h1, h2⟩)
  cases hg : greatB xs with
  | true => rw [hg] at HG; exact la_G1 M A n c xs f w hR hA hN HG
  | false =>
    rw [hg] at HG
    cases hgf : greatB [f] with
    | true => rw [hgf] at HGF; exact la_G2 M A n c xs f w hR hA hN HG HGF
    | false =>
      rw [hgf] at HGF
      obtain ⟨hl, hF⟩ := great_no hg
      have hl2 := hA.1
      obtain ⟨_, h3⟩ := great_no hgf
      simp only [full] at h3
      have HRT := Lib.hid fun (w0 : World) (h : Fs w0 w0.heap.size A n xs) => r_right M A n c xs w0 h (by omega)
      cases hr : rightB M xs with
      | false => rw [hr] at HRT; exact la_G3 M A n c xs f w hR hA hN HG HGF HRT
      | true =>
        rw [hr] at HRT
        have hok : okB M = true := by unfold rightB at hr; rw [Bool.and_eq_true] at hr; exact hr.1
        have hM : 0 ≤ M := by unfold okB at hok; rw [Bool.and_eq_true] at hok; exact of_decide_eq_true hok.1
        refine la_main M A n c xs f w hR hA hN (by omega) hM (by simp only [full]; omega) HG HGF HRT _ rfl (Lib.hid fun w0 h => ?_) (Lib.hid ?_)
        · refine (t_add M A n c xs f w0 h hN (by omega) (by omega)).mono ?_
          rintro e w' ⟨v, rfl, ho, hb⟩
          unfold addM addE
          unfold addL at ho
          rw [hr] at ho ⊢
          obtain ⟨A3, c3, rfl, _⟩ := ho.form2 (n := fit M (f :: xs)) (keep_len M _)
          exact ⟨A3, c3, rfl, ho, hb⟩
        · unfold rightB
          rw [hok, decide_eq_true (keep_full _ hM)]
          rfl
end Go.Proofs.YtgplkjifgagjpaaDoor
