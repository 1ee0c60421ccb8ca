/- The walk of HuffApart. -/
import Derived.Test.YtfjmgfahlicleaaDoorHfW
namespace Go.Proofs.YtfjmgfahlicleaaDoor
open Go.RowKit Hf Oct
set_option linter.unusedVariables false
set_option linter.unusedSimpArgs false
set_option maxRecDepth 100000 in
set_option maxHeartbeats 4000000 in
theorem la_5_eq (c : UInt8) (N : Nat) (w : World) (hR : Rws w) (hN : cod c = N) (hM : mny c = 5) :
    Calls Tryd.prog 4 #[.int .u8 (c.toNat : Int), .int .u8 (c.toNat : Int)] w fun e w' => e = .returned (.bool true) ∧ Below w.heap.size w w' := by
  have r1 := cod_range c
  have b1 : 0 ≤ N ∧ N < 16 := by omega
  have K0 : Hid (EnvF w [rF] []) := Lib.hid (Hf.envR w hR)
  have B0 : Hid (Below w.heap.size w w) := Lib.hid (Below.refl _ w)
  have HC1 : Hid (∀ W, Rws W → Calls Tryd.prog 9 #[.int .u8 (c.toNat : Int)] W fun e w' => e = .returned (.tuple #[.int .i64 (N : Int), .int .i64 5]) ∧ Below W.heap.size W w') := Lib.hid (fun W h => by have h2 := h_code c W h; rw [hN, hM] at h2; exact h2)
  have HO : Hid (∀ W, Rws W → Calls Tryd.prog 11 #[.int .i64 (N : Int), .int .i64 5] W fun e w' => e = .returned (.tuple #[.int .u8 (c.toNat : Int), .bool true]) ∧ Below W.heap.size W w') := Lib.hid (fun W h => by
    have h2 := h_of (N : Int) 5 W h (int_wf (by omega) (by omega)) (by decide)
    have hf := find_cod c
    rw [hN, hM] at hf
    have e1 : fnV (N : Int) 5 = (c.toNat : Int) := by unfold fnV; rw [show findN (N : Int) 5 = some c from hf]
    have e2 : fnS (N : Int) 5 = true := by unfold fnS; rw [show findN (N : Int) 5 = some c from hf]; rfl
    rw [e1, e2] at h2
    exact h2)
  have d1 : decide ((32 : Int) ≤ (N : Int)) = false := decide_eq_false (by omega)
  have d2 : decide ((N : Int) < 0) = false := decide_eq_false (by omega)
  have d4 : ((31 : Int) != (N : Int)) = true := by simp; omega
  clear hR hN hM r1 b1
  go_enter Tryd.func4, Tryd.ntmps4
  go_wp2_with (first
    | go_skip
    | (go_at_call 9; (have hc := (HC1.out w (Hf.EnvF.rws K0.out (by simp))); (with_reducible refine hc.mono ?_); clear hc); rintro e w1 ⟨rfl, hb⟩; have K1 : Hid (EnvF w1 [rF] []) := Lib.hid (K0.out.on hb); have B1 : Hid (Below w.heap.size w w1) := Lib.hid (below_step B0.out hb); clear hb K0 B0)
    | (go_at_call 9; (have hc := (HC1.out w1 (Hf.EnvF.rws K1.out (by simp))); (with_reducible refine hc.mono ?_); clear hc); rintro e w2 ⟨rfl, hb⟩; have K2 : Hid (EnvF w2 [rF] []) := Lib.hid (K1.out.on hb); have B2 : Hid (Below w.heap.size w w2) := Lib.hid (below_step B1.out hb); clear hb K1 B1)
    | (go_at_call 11; (have hc := (HO.out w2 (Hf.EnvF.rws K2.out (by simp))); (with_reducible refine hc.mono ?_); clear hc); rintro e w3 ⟨rfl, hb⟩; have K3 : Hid (EnvF w3 [rF] []) := Lib.hid (K2.out.on hb); have B3 : Hid (Below w.heap.size w w3) := Lib.hid (below_step B2.out hb); clear hb K2 B2)
    | (go_at_call 8; (have hc := (wakes7 w3 (Hf.EnvF.rws K3.out (by simp))); (with_reducible refine hc.mono ?_); clear hc); rintro e w4 ⟨rfl, hb⟩; have K4 : Hid (EnvF w4 [rF] []) := Lib.hid (K3.out.on hb); have B4 : Hid (Below w.heap.size w w4) := Lib.hid (below_step B3.out hb); clear hb K3 B3))
  go_ret
  exact ⟨rfl, B4.out⟩
set_option maxRecDepth 100000 in
set_option maxHeartbeats 4000000 in
theorem la_5_5 (c d : UInt8) (N K : Nat) (w : World) (hR : Rws w) (hN : cod c = N) (hM : mny c = 5) (hK : cod d = K) (hL : mny d = 5) (hne : c ≠ d) :
    Calls Tryd.prog 4 #[.int .u8 (c.toNat : Int), .int .u8 (d.toNat : Int)] w fun e w' => e = .returned (.bool true) ∧ Below w.heap.size w w' := by
  have r1 := cod_range c
  have b1 : 0 ≤ N ∧ N < 16 := by omega
  have r2 := cod_range d
  have b2 : 0 ≤ K ∧ K < 16 := by omega
  have K0 : Hid (EnvF w [rF] []) := Lib.hid (Hf.envR w hR)
  have B0 : Hid (Below w.heap.size w w) := Lib.hid (Below.refl _ w)
  have HC1 : Hid (∀ W, Rws W → Calls Tryd.prog 9 #[.int .u8 (c.toNat : Int)] W fun e w' => e = .returned (.tuple #[.int .i64 (N : Int), .int .i64 5]) ∧ Below W.heap.size W w') := Lib.hid (fun W h => by have h2 := h_code c W h; rw [hN, hM] at h2; exact h2)
  have HC2 : Hid (∀ W, Rws W → Calls Tryd.prog 9 #[.int .u8 (d.toNat : Int)] W fun e w' => e = .returned (.tuple #[.int .i64 (K : Int), .int .i64 5]) ∧ Below W.heap.size W w') := Lib.hid (fun W h => by have h2 := h_code d W h; rw [hK, hL] at h2; exact h2)
  have HO : Hid (∀ W, Rws W → Calls Tryd.prog 11 #[.int .i64 (N : Int), .int .i64 5] W fun e w' => e = .returned (.tuple #[.int .u8 (c.toNat : Int), .bool true]) ∧ Below W.heap.size W w') := Lib.hid (fun W h => by
    have h2 := h_of (N : Int) 5 W h (int_wf (by omega) (by omega)) (by decide)
    have hf := find_cod c
    rw [hN, hM] at hf
    have e1 : fnV (N : Int) 5 = (c.toNat : Int) := by unfold fnV; rw [show findN (N : Int) 5 = some c from hf]
    have e2 : fnS (N : Int) 5 = true := by unfold fnS; rw [show findN (N : Int) 5 = some c from hf]; rfl
    rw [e1, e2] at h2
    exact h2)
  have d1 : decide ((32 : Int) ≤ (N : Int)) = false := decide_eq_false (by omega)
  have d2 : decide ((N : Int) < 0) = false := decide_eq_false (by omega)
  have d4 : ((31 : Int) != (N : Int)) = true := by simp; omega
  have d3 : decide ((K : Int) < 0) = false := decide_eq_false (by omega)
  have q1 : ((N : Int) == (K : Int)) = false := by have hNK : N ≠ K := fun e => hne (cod_inj (by omega) (by omega)); simp only [beq_eq_false_iff_ne, ne_eq]; omega
  have q2 : ((c.toNat : Int) == (d.toNat : Int)) = false := by
    simp only [beq_eq_false_iff_ne, ne_eq]
    intro e
    exact hne (UInt8.toNat_inj.1 (by omega))
  clear hR hN hM r1 b1 hK hL hne r2 b2
  go_enter Tryd.func4, Tryd.ntmps4
  go_wp2_with (first
    | go_skip
    | (go_at_call 9; (have hc := (HC1.out w (Hf.EnvF.rws K0.out (by simp))); (with_reducible refine hc.mono ?_); clear hc); rintro e w1 ⟨rfl, hb⟩; have K1 : Hid (EnvF w1 [rF] []) := Lib.hid (K0.out.on hb); have B1 : Hid (Below w.heap.size w w1) := Lib.hid (below_step B0.out hb); clear hb K0 B0)
    | (go_at_call 9; (have hc := (HC2.out w1 (Hf.EnvF.rws K1.out (by simp))); (with_reducible refine hc.mono ?_); clear hc); rintro e w2 ⟨rfl, hb⟩; have K2 : Hid (EnvF w2 [rF] []) := Lib.hid (K1.out.on hb); have B2 : Hid (Below w.heap.size w w2) := Lib.hid (below_step B1.out hb); clear hb K1 B1)
    | (go_at_call 11; (have hc := (HO.out w2 (Hf.EnvF.rws K2.out (by simp))); (with_reducible refine hc.mono ?_); clear hc); rintro e w3 ⟨rfl, hb⟩; have K3 : Hid (EnvF w3 [rF] []) := Lib.hid (K2.out.on hb); have B3 : Hid (Below w.heap.size w w3) := Lib.hid (below_step B2.out hb); clear hb K2 B2)
    | (go_at_call 8; (have hc := (wakes7 w3 (Hf.EnvF.rws K3.out (by simp))); (with_reducible refine hc.mono ?_); clear hc); rintro e w4 ⟨rfl, hb⟩; have K4 : Hid (EnvF w4 [rF] []) := Lib.hid (K3.out.on hb); have B4 : Hid (Below w.heap.size w w4) := Lib.hid (below_step B3.out hb); clear hb K3 B3))
  go_ret
  exact ⟨rfl, B4.out⟩
set_option maxRecDepth 100000 in
set_option maxHeartbeats 4000000 in
theorem la_5_6 (c d : UInt8) (N K : Nat) (w : World) (hR : Rws w) (hN : cod c = N) (hM : mny c = 5) (hK : cod d = K) (hL : mny d = 6) (hne : c ≠ d) :
    Calls Tryd.prog 4 #[.int .u8 (c.toNat : Int), .int .u8 (d.toNat : Int)] w fun e w' => e = .returned (.bool true) ∧ Below w.heap.size w w' := by
  have r1 := cod_range c
  have b1 : 0 ≤ N ∧ N < 16 := by omega
  have r2 := cod_range d
  have b2 : 32 ≤ K ∧ K < 48 := by omega
  have K0 : Hid (EnvF w [rF] []) := Lib.hid (Hf.envR w hR)
  have B0 : Hid (Below w.heap.size w w) := Lib.hid (Below.refl _ w)
  have HC1 : Hid (∀ W, Rws W → Calls Tryd.prog 9 #[.int .u8 (c.toNat : Int)] W fun e w' => e = .returned (.tuple #[.int .i64 (N : Int), .int .i64 5]) ∧ Below W.heap.size W w') := Lib.hid (fun W h => by have h2 := h_code c W h; rw [hN, hM] at h2; exact h2)
  have HC2 : Hid (∀ W, Rws W → Calls Tryd.prog 9 #[.int .u8 (d.toNat : Int)] W fun e w' => e = .returned (.tuple #[.int .i64 (K : Int), .int .i64 6]) ∧ Below W.heap.size W w') := Lib.hid (fun W h => by have h2 := h_code d W h; rw [hK, hL] at h2; exact h2)
  have HO : Hid (∀ W, Rws W → Calls Tryd.prog 11 #[.int .i64 (N : Int), .int .i64 5] W fun e w' => e = .returned (.tuple #[.int .u8 (c.toNat : Int), .bool true]) ∧ Below W.heap.size W w') := Lib.hid (fun W h => by
    have h2 := h_of (N : Int) 5 W h (int_wf (by omega) (by omega)) (by decide)
    have hf := find_cod c
    rw [hN, hM] at hf
    have e1 : fnV (N : Int) 5 = (c.toNat : Int) := by unfold fnV; rw [show findN (N : Int) 5 = some c from hf]
    have e2 : fnS (N : Int) 5 = true := by unfold fnS; rw [show findN (N : Int) 5 = some c from hf]; rfl
    rw [e1, e2] at h2
    exact h2)
  have d1 : decide ((32 : Int) ≤ (N : Int)) = false := decide_eq_false (by omega)
  have d2 : decide ((N : Int) < 0) = false := decide_eq_false (by omega)
  have d4 : ((31 : Int) != (N : Int)) = true := by simp; omega
  have d3 : decide ((K : Int) < 0) = false := decide_eq_false (by omega)
  have q1 : ((N : Int) == (K : Int) / 2) = false := by simp only [beq_eq_false_iff_ne, ne_eq]; omega
  have q2 : ((c.toNat : Int) == (d.toNat : Int)) = false := by
    simp only [beq_eq_false_iff_ne, ne_eq]
    intro e
    exact hne (UInt8.toNat_inj.1 (by omega))
  clear hR hN hM r1 b1 hK hL hne r2 b2
  go_enter Tryd.func4, Tryd.ntmps4
  go_wp2_with (first
    | go_skip
    | (go_at_call 9; (have hc := (HC1.out w (Hf.EnvF.rws K0.out (by simp))); (with_reducible refine hc.mono ?_); clear hc); rintro e w1 ⟨rfl, hb⟩; have K1 : Hid (EnvF w1 [rF] []) := Lib.hid (K0.out.on hb); have B1 : Hid (Below w.heap.size w w1) := Lib.hid (below_step B0.out hb); clear hb K0 B0)
    | (go_at_call 9; (have hc := (HC2.out w1 (Hf.EnvF.rws K1.out (by simp))); (with_reducible refine hc.mono ?_); clear hc); rintro e w2 ⟨rfl, hb⟩; have K2 : Hid (EnvF w2 [rF] []) := Lib.hid (K1.out.on hb); have B2 : Hid (Below w.heap.size w w2) := Lib.hid (below_step B1.out hb); clear hb K1 B1)
    | (go_at_call 11; (have hc := (HO.out w2 (Hf.EnvF.rws K2.out (by simp))); (with_reducible refine hc.mono ?_); clear hc); rintro e w3 ⟨rfl, hb⟩; have K3 : Hid (EnvF w3 [rF] []) := Lib.hid (K2.out.on hb); have B3 : Hid (Below w.heap.size w w3) := Lib.hid (below_step B2.out hb); clear hb K2 B2)
    | (go_at_call 8; (have hc := (wakes7 w3 (Hf.EnvF.rws K3.out (by simp))); (with_reducible refine hc.mono ?_); clear hc); rintro e w4 ⟨rfl, hb⟩; have K4 : Hid (EnvF w4 [rF] []) := Lib.hid (K3.out.on hb); have B4 : Hid (Below w.heap.size w w4) := Lib.hid (below_step B3.out hb); clear hb K3 B3))
  go_ret
  exact ⟨rfl, B4.out⟩
set_option maxRecDepth 100000 in
set_option maxHeartbeats 4000000 in
theorem la_5_7 (c d : UInt8) (N K : Nat) (w : World) (hR : Rws w) (hN : cod c = N) (hM : mny c = 5) (hK : cod d = K) (hL : mny d = 7) (hne : c ≠ d) :
    Calls Tryd.prog 4 #[.int .u8 (c.toNat : Int), .int .u8 (d.toNat : Int)] w fun e w' => e = .returned (.bool true) ∧ Below w.heap.size w w' := by
  have r1 := cod_range c
  have b1 : 0 ≤ N ∧ N < 16 := by omega
  have r2 := cod_range d
  have b2 : 96 ≤ K ∧ K < 112 := by omega
  have K0 : Hid (EnvF w [rF] []) := Lib.hid (Hf.envR w hR)
  have B0 : Hid (Below w.heap.size w w) := Lib.hid (Below.refl _ w)
  have HC1 : Hid (∀ W, Rws W → Calls Tryd.prog 9 #[.int .u8 (c.toNat : Int)] W fun e w' => e = .returned (.tuple #[.int .i64 (N : Int), .int .i64 5]) ∧ Below W.heap.size W w') := Lib.hid (fun W h => by have h2 := h_code c W h; rw [hN, hM] at h2; exact h2)
  have HC2 : Hid (∀ W, Rws W → Calls Tryd.prog 9 #[.int .u8 (d.toNat : Int)] W fun e w' => e = .returned (.tuple #[.int .i64 (K : Int), .int .i64 7]) ∧ Below W.heap.size W w') := Lib.hid (fun W h => by have h2 := h_code d W h; rw [hK, hL] at h2; exact h2)
  have HO : Hid (∀ W, Rws W → Calls Tryd.prog 11 #[.int .i64 (N : Int), .int .i64 5] W fun e w' => e = .returned (.tuple #[.int .u8 (c.toNat : Int), .bool true]) ∧ Below W.heap.size W w') := Lib.hid (fun W h => by
    have h2 := h_of (N : Int) 5 W h (int_wf (by omega) (by omega)) (by decide)
    have hf := find_cod c
    rw [hN, hM] at hf
    have e1 : fnV (N : Int) 5 = (c.toNat : Int) := by unfold fnV; rw [show findN (N : Int) 5 = some c from hf]
    have e2 : fnS (N : Int) 5 = true := by unfold fnS; rw [show findN (N : Int) 5 = some c from hf]; rfl
    rw [e1, e2] at h2
    exact h2)
  have d1 : decide ((32 : Int) ≤ (N : Int)) = false := decide_eq_false (by omega)
  have d2 : decide ((N : Int) < 0) = false := decide_eq_false (by omega)
  have d4 : ((31 : Int) != (N : Int)) = true := by simp; omega
  have d3 : decide ((K : Int) < 0) = false := decide_eq_false (by omega)
  have q1 : ((N : Int) == (K : Int) / 4) = false := by simp only [beq_eq_false_iff_ne, ne_eq]; omega
  have q2 : ((c.toNat : Int) == (d.toNat : Int)) = false := by
    simp only [beq_eq_false_iff_ne, ne_eq]
    intro e
    exact hne (UInt8.toNat_inj.1 (by omega))
  clear hR hN hM r1 b1 hK hL hne r2 b2
  go_enter Tryd.func4, Tryd.ntmps4
  go_wp2_with (first
    | go_skip
    | (go_at_call 9; (have hc := (HC1.out w (Hf.EnvF.rws K0.out (by simp))); (with_reducible refine hc.mono ?_); clear hc); rintro e w1 ⟨rfl, hb⟩; have K1 : Hid (EnvF w1 [rF] []) := Lib.hid (K0.out.on hb); have B1 : Hid (Below w.heap.size w w1) := Lib.hid (below_step B0.out hb); clear hb K0 B0)
    | (go_at_call 9; (have hc := (HC2.out w1 (Hf.EnvF.rws K1.out (by simp))); (with_reducible refine hc.mono ?_); clear hc); rintro e w2 ⟨rfl, hb⟩; have K2 : Hid (EnvF w2 [rF] []) := Lib.hid (K1.out.on hb); have B2 : Hid (Below w.heap.size w w2) := Lib.hid (below_step B1.out hb); clear hb K1 B1)
    | (go_at_call 11; (have hc := (HO.out w2 (Hf.EnvF.rws K2.out (by simp))); (with_reducible refine hc.mono ?_); clear hc); rintro e w3 ⟨rfl, hb⟩; have K3 : Hid (EnvF w3 [rF] []) := Lib.hid (K2.out.on hb); have B3 : Hid (Below w.heap.size w w3) := Lib.hid (below_step B2.out hb); clear hb K2 B2)
    | (go_at_call 8; (have hc := (wakes7 w3 (Hf.EnvF.rws K3.out (by simp))); (with_reducible refine hc.mono ?_); clear hc); rintro e w4 ⟨rfl, hb⟩; have K4 : Hid (EnvF w4 [rF] []) := Lib.hid (K3.out.on hb); have B4 : Hid (Below w.heap.size w w4) := Lib.hid (below_step B3.out hb); clear hb K3 B3))
  go_ret
  exact ⟨rfl, B4.out⟩
set_option maxRecDepth 100000 in
set_option maxHeartbeats 4000000 in
theorem la_5_11 (c d : UInt8) (N K : Nat) (w : World) (hR : Rws w) (hN : cod c = N) (hM : mny c = 5) (hK : cod d = K) (hL : mny d = 11) (hne : c ≠ d) :
    Calls Tryd.prog 4 #[.int .u8 (c.toNat : Int), .int .u8 (d.toNat : Int)] w fun e w' => e = .returned (.bool true) ∧ Below w.heap.size w w' := by
  have r1 := cod_range c
  have b1 : 0 ≤ N ∧ N < 16 := by omega
  have r2 := cod_range d
  have b2 : 1792 ≤ K ∧ K < 2000 := by omega
  have K0 : Hid (EnvF w [rF] []) := Lib.hid (Hf.envR w hR)
  have B0 : Hid (Below w.heap.size w w) := Lib.hid (Below.refl _ w)
  have HC1 : Hid (∀ W, Rws W → Calls Tryd.prog 9 #[.int .u8 (c.toNat : Int)] W fun e w' => e = .returned (.tuple #[.int .i64 (N : Int), .int .i64 5]) ∧ Below W.heap.size W w') := Lib.hid (fun W h => by have h2 := h_code c W h; rw [hN, hM] at h2; exact h2)
  have HC2 : Hid (∀ W, Rws W → Calls Tryd.prog 9 #[.int .u8 (d.toNat : Int)] W fun e w' => e = .returned (.tuple #[.int .i64 (K : Int), .int .i64 11]) ∧ Below W.heap.size W w') := Lib.hid (fun W h => by have h2 := h_code d W h; rw [hK, hL] at h2; exact h2)
  have HO : Hid (∀ W, Rws W → Calls Tryd.prog 11 #[.int .i64 (N : Int), .int .i64 5] W fun e w' => e = .returned (.tuple #[.int .u8 (c.toNat : Int), .bool true]) ∧ Below W.heap.size W w') := Lib.hid (fun W h => by
    have h2 := h_of (N : Int) 5 W h (int_wf (by omega) (by omega)) (by decide)
    have hf := find_cod c
    rw [hN, hM] at hf
    have e1 : fnV (N : Int) 5 = (c.toNat : Int) := by unfold fnV; rw [show findN (N : Int) 5 = some c from hf]
    have e2 : fnS (N : Int) 5 = true := by unfold fnS; rw [show findN (N : Int) 5 = some c from hf]; rfl
    rw [e1, e2] at h2
    exact h2)
  have d1 : decide ((32 : Int) ≤ (N : Int)) = false := decide_eq_false (by omega)
  have d2 : decide ((N : Int) < 0) = false := decide_eq_false (by omega)
  have d4 : ((31 : Int) != (N : Int)) = true := by simp; omega
  have d3 : decide ((K : Int) < 0) = false := decide_eq_false (by omega)
  have q1 : ((N : Int) == (K : Int) / 64) = false := by simp only [beq_eq_false_iff_ne, ne_eq]; omega
  have q2 : ((c.toNat : Int) == (d.toNat : Int)) = false := by
    simp only [beq_eq_false_iff_ne, ne_eq]
    intro e
    exact hne (UInt8.toNat_inj.1 (by omega))
  clear hR hN hM r1 b1 hK hL hne r2 b2
  go_enter Tryd.func4, Tryd.ntmps4
  go_wp2_with (first
    | go_skip
    | (go_at_call 9; (have hc := (HC1.out w (Hf.EnvF.rws K0.out (by simp))); (with_reducible refine hc.mono ?_); clear hc); rintro e w1 ⟨rfl, hb⟩; have K1 : Hid (EnvF w1 [rF] []) := Lib.hid (K0.out.on hb); have B1 : Hid (Below w.heap.size w w1) := Lib.hid (below_step B0.out hb); clear hb K0 B0)
    | (go_at_call 9; (have hc := (HC2.out w1 (Hf.EnvF.rws K1.out (by simp))); (with_reducible refine hc.mono ?_); clear hc); rintro e w2 ⟨rfl, hb⟩; have K2 : Hid (EnvF w2 [rF] []) := Lib.hid (K1.out.on hb); have B2 : Hid (Below w.heap.size w w2) := Lib.hid (below_step B1.out hb); clear hb K1 B1)
    | (go_at_call 11; (have hc := (HO.out w2 (Hf.EnvF.rws K2.out (by simp))); (with_reducible refine hc.mono ?_); clear hc); rintro e w3 ⟨rfl, hb⟩; have K3 : Hid (EnvF w3 [rF] []) := Lib.hid (K2.out.on hb); have B3 : Hid (Below w.heap.size w w3) := Lib.hid (below_step B2.out hb); clear hb K2 B2)
    | (go_at_call 8; (have hc := (wakes7 w3 (Hf.EnvF.rws K3.out (by simp))); (with_reducible refine hc.mono ?_); clear hc); rintro e w4 ⟨rfl, hb⟩; have K4 : Hid (EnvF w4 [rF] []) := Lib.hid (K3.out.on hb); have B4 : Hid (Below w.heap.size w w4) := Lib.hid (below_step B3.out hb); clear hb K3 B3))
  go_ret
  exact ⟨rfl, B4.out⟩
set_option maxRecDepth 100000 in
set_option maxHeartbeats 4000000 in
theorem la_6_eq (c : UInt8) (N : Nat) (w : World) (hR : Rws w) (hN : cod c = N) (hM : mny c = 6) :
    Calls Tryd.prog 4 #[.int .u8 (c.toNat : Int), .int .u8 (c.toNat : Int)] w fun e w' => e = .returned (.bool true) ∧ Below w.heap.size w w' := by
  have r1 := cod_range c
  have b1 : 32 ≤ N ∧ N < 48 := by omega
  have K0 : Hid (EnvF w [rF] []) := Lib.hid (Hf.envR w hR)
  have B0 : Hid (Below w.heap.size w w) := Lib.hid (Below.refl _ w)
  have HC1 : Hid (∀ W, Rws W → Calls Tryd.prog 9 #[.int .u8 (c.toNat : Int)] W fun e w' => e = .returned (.tuple #[.int .i64 (N : Int), .int .i64 6]) ∧ Below W.heap.size W w') := Lib.hid (fun W h => by have h2 := h_code c W h; rw [hN, hM] at h2; exact h2)
  have HO : Hid (∀ W, Rws W → Calls Tryd.prog 11 #[.int .i64 (N : Int), .int .i64 6] W fun e w' => e = .returned (.tuple #[.int .u8 (c.toNat : Int), .bool true]) ∧ Below W.heap.size W w') := Lib.hid (fun W h => by
    have h2 := h_of (N : Int) 6 W h (int_wf (by omega) (by omega)) (by decide)
    have hf := find_cod c
    rw [hN, hM] at hf
    have e1 : fnV (N : Int) 6 = (c.toNat : Int) := by unfold fnV; rw [show findN (N : Int) 6 = some c from hf]
    have e2 : fnS (N : Int) 6 = true := by unfold fnS; rw [show findN (N : Int) 6 = some c from hf]; rfl
    rw [e1, e2] at h2
    exact h2)
  have d1 : decide ((64 : Int) ≤ (N : Int)) = false := decide_eq_false (by omega)
  have d2 : decide ((N : Int) < 0) = false := decide_eq_false (by omega)
  have d4 : ((63 : Int) != (N : Int)) = true := by simp; omega
  clear hR hN hM r1 b1
  go_enter Tryd.func4, Tryd.ntmps4
  go_wp2_with (first
    | go_skip
    | (go_at_call 9; (have hc := (HC1.out w (Hf.EnvF.rws K0.out (by simp))); (with_reducible refine hc.mono ?_); clear hc); rintro e w1 ⟨rfl, hb⟩; have K1 : Hid (EnvF w1 [rF] []) := Lib.hid (K0.out.on hb); have B1 : Hid (Below w.heap.size w w1) := Lib.hid (below_step B0.out hb); clear hb K0 B0)
    | (go_at_call 9; (have hc := (HC1.out w1 (Hf.EnvF.rws K1.out (by simp))); (with_reducible refine hc.mono ?_); clear hc); rintro e w2 ⟨rfl, hb⟩; have K2 : Hid (EnvF w2 [rF] []) := Lib.hid (K1.out.on hb); have B2 : Hid (Below w.heap.size w w2) := Lib.hid (below_step B1.out hb); clear hb K1 B1)
    | (go_at_call 11; (have hc := (HO.out w2 (Hf.EnvF.rws K2.out (by simp))); (with_reducible refine hc.mono ?_); clear hc); rintro e w3 ⟨rfl, hb⟩; have K3 : Hid (EnvF w3 [rF] []) := Lib.hid (K2.out.on hb); have B3 : Hid (Below w.heap.size w w3) := Lib.hid (below_step B2.out hb); clear hb K2 B2)
    | (go_at_call 8; (have hc := (wakes7 w3 (Hf.EnvF.rws K3.out (by simp))); (with_reducible refine hc.mono ?_); clear hc); rintro e w4 ⟨rfl, hb⟩; have K4 : Hid (EnvF w4 [rF] []) := Lib.hid (K3.out.on hb); have B4 : Hid (Below w.heap.size w w4) := Lib.hid (below_step B3.out hb); clear hb K3 B3))
  go_ret
  exact ⟨rfl, B4.out⟩
set_option maxRecDepth 100000 in
set_option maxHeartbeats 4000000 in
theorem la_6_5 (c d : UInt8) (N K : Nat) (w : World) (hR : Rws w) (hN : cod c = N) (hM : mny c = 6) (hK : cod d = K) (hL : mny d = 5) (hne : c ≠ d) :
    Calls Tryd.prog 4 #[.int .u8 (c.toNat : Int), .int .u8 (d.toNat : Int)] w fun e w' => e = .returned (.bool true) ∧ Below w.heap.size w w' := by
  have r1 := cod_range c
  have b1 : 32 ≤ N ∧ N < 48 := by omega
  have r2 := cod_range d
  have b2 : 0 ≤ K ∧ K < 16 := by omega
  have K0 : Hid (EnvF w [rF] []) := Lib.hid (Hf.envR w hR)
  have B0 : Hid (Below w.heap.size w w) := Lib.hid (Below.refl _ w)
  have HC1 : Hid (∀ W, Rws W → Calls Tryd.prog 9 #[.int .u8 (c.toNat : Int)] W fun e w' => e = .returned (.tuple #[.int .i64 (N : Int), .int .i64 6]) ∧ Below W.heap.size W w') := Lib.hid (fun W h => by have h2 := h_code c W h; rw [hN, hM] at h2; exact h2)
  have HC2 : Hid (∀ W, Rws W → Calls Tryd.prog 9 #[.int .u8 (d.toNat : Int)] W fun e w' => e = .returned (.tuple #[.int .i64 (K : Int), .int .i64 5]) ∧ Below W.heap.size W w') := Lib.hid (fun W h => by have h2 := h_code d W h; rw [hK, hL] at h2; exact h2)
  have HO : Hid (∀ W, Rws W → Calls Tryd.prog 11 #[.int .i64 (N : Int), .int .i64 6] W fun e w' => e = .returned (.tuple #[.int .u8 (c.toNat : Int), .bool true]) ∧ Below W.heap.size W w') := Lib.hid (fun W h => by
    have h2 := h_of (N : Int) 6 W h (int_wf (by omega) (by omega)) (by decide)
    have hf := find_cod c
    rw [hN, hM] at hf
    have e1 : fnV (N : Int) 6 = (c.toNat : Int) := by unfold fnV; rw [show findN (N : Int) 6 = some c from hf]
    have e2 : fnS (N : Int) 6 = true := by unfold fnS; rw [show findN (N : Int) 6 = some c from hf]; rfl
    rw [e1, e2] at h2
    exact h2)
  have d1 : decide ((64 : Int) ≤ (N : Int)) = false := decide_eq_false (by omega)
  have d2 : decide ((N : Int) < 0) = false := decide_eq_false (by omega)
  have d4 : ((63 : Int) != (N : Int)) = true := by simp; omega
  have d3 : decide ((K : Int) < 0) = false := decide_eq_false (by omega)
  have q1 : ((N : Int) / 2 == (K : Int)) = false := by simp only [beq_eq_false_iff_ne, ne_eq]; omega
  have q2 : ((c.toNat : Int) == (d.toNat : Int)) = false := by
    simp only [beq_eq_false_iff_ne, ne_eq]
    intro e
    exact hne (UInt8.toNat_inj.1 (by omega))
  clear hR hN hM r1 b1 hK hL hne r2 b2
  go_enter Tryd.func4, Tryd.ntmps4
  go_wp2_with (first
    | go_skip
    | (go_at_call 9; (have hc := (HC1.out w (Hf.EnvF.rws K0.out (by simp))); (with_reducible refine hc.mono ?_); clear hc); rintro e w1 ⟨rfl, hb⟩; have K1 : Hid (EnvF w1 [rF] []) := Lib.hid (K0.out.on hb); have B1 : Hid (Below w.heap.size w w1) := Lib.hid (below_step B0.out hb); clear hb K0 B0)
    | (go_at_call 9; (have hc := (HC2.out w1 (Hf.EnvF.rws K1.out (by simp))); (with_reducible refine hc.mono ?_); clear hc); rintro e w2 ⟨rfl, hb⟩; have K2 : Hid (EnvF w2 [rF] []) := Lib.hid (K1.out.on hb); have B2 : Hid (Below w.heap.size w w2) := Lib.hid (below_step B1.out hb); clear hb K1 B1)
    | (go_at_call 11; (have hc := (HO.out w2 (Hf.EnvF.rws K2.out (by simp))); (with_reducible refine hc.mono ?_); clear hc); rintro e w3 ⟨rfl, hb⟩; have K3 : Hid (EnvF w3 [rF] []) := Lib.hid (K2.out.on hb); have B3 : Hid (Below w.heap.size w w3) := Lib.hid (below_step B2.out hb); clear hb K2 B2)
    | (go_at_call 8; (have hc := (wakes7 w3 (Hf.EnvF.rws K3.out (by simp))); (with_reducible refine hc.mono ?_); clear hc); rintro e w4 ⟨rfl, hb⟩; have K4 : Hid (EnvF w4 [rF] []) := Lib.hid (K3.out.on hb); have B4 : Hid (Below w.heap.size w w4) := Lib.hid (below_step B3.out hb); clear hb K3 B3))
  go_ret
  exact ⟨rfl, B4.out⟩
set_option maxRecDepth 100000 in
set_option maxHeartbeats 4000000 in
theorem la_6_6 (c d : UInt8) (N K : Nat) (w : World) (hR : Rws w) (hN : cod c = N) (hM : mny c = 6) (hK : cod d = K) (hL : mny d = 6) (hne : c ≠ d) :
    Calls Tryd.prog 4 #[.int .u8 (c.toNat : Int), .int .u8 (d.toNat : Int)] w fun e w' => e = .returned (.bool true) ∧ Below w.heap.size w w' := by
  have r1 := cod_range c
  have b1 : 32 ≤ N ∧ N < 48 := by omega
  have r2 := cod_range d
  have b2 : 32 ≤ K ∧ K < 48 := by omega
  have K0 : Hid (EnvF w [rF] []) := Lib.hid (Hf.envR w hR)
  have B0 : Hid (Below w.heap.size w w) := Lib.hid (Below.refl _ w)
  have HC1 : Hid (∀ W, Rws W → Calls Tryd.prog 9 #[.int .u8 (c.toNat : Int)] W fun e w' => e = .returned (.tuple #[.int .i64 (N : Int), .int .i64 6]) ∧ Below W.heap.size W w') := Lib.hid (fun W h => by have h2 := h_code c W h; rw [hN, hM] at h2; exact h2)
  have HC2 : Hid (∀ W, Rws W → Calls Tryd.prog 9 #[.int .u8 (d.toNat : Int)] W fun e w' => e = .returned (.tuple #[.int .i64 (K : Int), .int .i64 6]) ∧ Below W.heap.size W w') := Lib.hid (fun W h => by have h2 := h_code d W h; rw [hK, hL] at h2; exact h2)
  have HO : Hid (∀ W, Rws W → Calls Tryd.prog 11 #[.int .i64 (N : Int), .int .i64 6] W fun e w' => e = .returned (.tuple #[.int .u8 (c.toNat : Int), .bool true]) ∧ Below W.heap.size W w') := Lib.hid (fun W h => by
    have h2 := h_of (N : Int) 6 W h (int_wf (by omega) (by omega)) (by decide)
    have hf := find_cod c
    rw [hN, hM] at hf
    have e1 : fnV (N : Int) 6 = (c.toNat : Int) := by unfold fnV; rw [show findN (N : Int) 6 = some c from hf]
    have e2 : fnS (N : Int) 6 = true := by unfold fnS; rw [show findN (N : Int) 6 = some c from hf]; rfl
    rw [e1, e2] at h2
    exact h2)
  have d1 : decide ((64 : Int) ≤ (N : Int)) = false := decide_eq_false (by omega)
  have d2 : decide ((N : Int) < 0) = false := decide_eq_false (by omega)
  have d4 : ((63 : Int) != (N : Int)) = true := by simp; omega
  have d3 : decide ((K : Int) < 0) = false := decide_eq_false (by omega)
  have q1 : ((N : Int) == (K : Int)) = false := by have hNK : N ≠ K := fun e => hne (cod_inj (by omega) (by omega)); simp only [beq_eq_false_iff_ne, ne_eq]; omega
  have q2 : ((c.toNat : Int) == (d.toNat : Int)) = false := by
    simp only [beq_eq_false_iff_ne, ne_eq]
    intro e
    exact hne (UInt8.toNat_inj.1 (by omega))
  clear hR hN hM r1 b1 hK hL hne r2 b2
  go_enter Tryd.func4, Tryd.ntmps4
  go_wp2_with (first
    | go_skip
    | (go_at_call 9; (have hc := (HC1.out w (Hf.EnvF.rws K0.out (by simp))); (with_reducible refine hc.mono ?_); clear hc); rintro e w1 ⟨rfl, hb⟩; have K1 : Hid (EnvF w1 [rF] []) := Lib.hid (K0.out.on hb); have B1 : Hid (Below w.heap.size w w1) := Lib.hid (below_step B0.out hb); clear hb K0 B0)
    | (go_at_call 9; (have hc := (HC2.out w1 (Hf.EnvF.rws K1.out (by simp))); (with_reducible refine hc.mono ?_); clear hc); rintro e w2 ⟨rfl, hb⟩; have K2 : Hid (EnvF w2 [rF] []) := Lib.hid (K1.out.on hb); have B2 : Hid (Below w.heap.size w w2) := Lib.hid (below_step B1.out hb); clear hb K1 B1)
    | (go_at_call 11; (have hc := (HO.out w2 (Hf.EnvF.rws K2.out (by simp))); (with_reducible refine hc.mono ?_); clear hc); rintro e w3 ⟨rfl, hb⟩; have K3 : Hid (EnvF w3 [rF] []) := Lib.hid (K2.out.on hb); have B3 : Hid (Below w.heap.size w w3) := Lib.hid (below_step B2.out hb); clear hb K2 B2)
    | (go_at_call 8; (have hc := (wakes7 w3 (Hf.EnvF.rws K3.out (by simp))); (with_reducible refine hc.mono ?_); clear hc); rintro e w4 ⟨rfl, hb⟩; have K4 : Hid (EnvF w4 [rF] []) := Lib.hid (K3.out.on hb); have B4 : Hid (Below w.heap.size w w4) := Lib.hid (below_step B3.out hb); clear hb K3 B3))
  go_ret
  exact ⟨rfl, B4.out⟩
set_option maxRecDepth 100000 in
set_option maxHeartbeats 4000000 in
theorem la_6_7 (c d : UInt8) (N K : Nat) (w : World) (hR : Rws w) (hN : cod c = N) (hM : mny c = 6) (hK : cod d = K) (hL : mny d = 7) (hne : c ≠ d) :
    Calls Tryd.prog 4 #[.int .u8 (c.toNat : Int), .int .u8 (d.toNat : Int)] w fun e w' => e = .returned (.bool true) ∧ Below w.heap.size w w' := by
  have r1 := cod_range c
  have b1 : 32 ≤ N ∧ N < 48 := by omega
  have r2 := cod_range d
  have b2 : 96 ≤ K ∧ K < 112 := by omega
  have K0 : Hid (EnvF w [rF] []) := Lib.hid (Hf.envR w hR)
  have B0 : Hid (Below w.heap.size w w) := Lib.hid (Below.refl _ w)
  have HC1 : Hid (∀ W, Rws W → Calls Tryd.prog 9 #[.int .u8 (c.toNat : Int)] W fun e w' => e = .returned (.tuple #[.int .i64 (N : Int), .int .i64 6]) ∧ Below W.heap.size W w') := Lib.hid (fun W h => by have h2 := h_code c W h; rw [hN, hM] at h2; exact h2)
  have HC2 : Hid (∀ W, Rws W → Calls Tryd.prog 9 #[.int .u8 (d.toNat : Int)] W fun e w' => e = .returned (.tuple #[.int .i64 (K : Int), .int .i64 7]) ∧ Below W.heap.size W w') := Lib.hid (fun W h => by have h2 := h_code d W h; rw [hK, hL] at h2; exact h2)
  have HO : Hid (∀ W, Rws W → Calls Tryd.prog 11 #[.int .i64 (N : Int), .int .i64 6] W fun e w' => e = .returned (.tuple #[.int .u8 (c.toNat : Int), .bool true]) ∧ Below W.heap.size W w') := Lib.hid (fun W h => by
    have h2 := h_of (N : Int) 6 W h (int_wf (by omega) (by omega)) (by decide)
    have hf := find_cod c
    rw [hN, hM] at hf
    have e1 : fnV (N : Int) 6 = (c.toNat : Int) := by unfold fnV; rw [show findN (N : Int) 6 = some c from hf]
    have e2 : fnS (N : Int) 6 = true := by unfold fnS; rw [show findN (N : Int) 6 = some c from hf]; rfl
    rw [e1, e2] at h2
    exact h2)
  have d1 : decide ((64 : Int) ≤ (N : Int)) = false := decide_eq_false (by omega)
  have d2 : decide ((N : Int) < 0) = false := decide_eq_false (by omega)
  have d4 : ((63 : Int) != (N : Int)) = true := by simp; omega
  have d3 : decide ((K : Int) < 0) = false := decide_eq_false (by omega)
  have q1 : ((N : Int) == (K : Int) / 2) = false := by simp only [beq_eq_false_iff_ne, ne_eq]; omega
  have q2 : ((c.toNat : Int) == (d.toNat : Int)) = false := by
    simp only [beq_eq_false_iff_ne, ne_eq]
    intro e
    exact hne (UInt8.toNat_inj.1 (by omega))
  clear hR hN hM r1 b1 hK hL hne r2 b2
  go_enter Tryd.func4, Tryd.ntmps4
  go_wp2_with (first
    | go_skip
    | (go_at_call 9; (have hc := (HC1.out w (Hf.EnvF.rws K0.out (by simp))); (with_reducible refine hc.mono ?_); clear hc); rintro e w1 ⟨rfl, hb⟩; have K1 : Hid (EnvF w1 [rF] []) := Lib.hid (K0.out.on hb); have B1 : Hid (Below w.heap.size w w1) := Lib.hid (below_step B0.out hb); clear hb K0 B0)
    | (go_at_call 9; (have hc := (HC2.out w1 (Hf.EnvF.rws K1.out (by simp))); (with_reducible refine hc.mono ?_); clear hc); rintro e w2 ⟨rfl, hb⟩; have K2 : Hid (EnvF w2 [rF] []) := Lib.hid (K1.out.on hb); have B2 : Hid (Below w.heap.size w w2) := Lib.hid (below_step B1.out hb); clear hb K1 B1)
    | (go_at_call 11; (have hc := (HO.out w2 (Hf.EnvF.rws K2.out (by simp))); (with_reducible refine hc.mono ?_); clear hc); rintro e w3 ⟨rfl, hb⟩; have K3 : Hid (EnvF w3 [rF] []) := Lib.hid (K2.out.on hb); have B3 : Hid (Below w.heap.size w w3) := Lib.hid (below_step B2.out hb); clear hb K2 B2)
    | (go_at_call 8; (have hc := (wakes7 w3 (Hf.EnvF.rws K3.out (by simp))); (with_reducible refine hc.mono ?_); clear hc); rintro e w4 ⟨rfl, hb⟩; have K4 : Hid (EnvF w4 [rF] []) := Lib.hid (K3.out.on hb); have B4 : Hid (Below w.heap.size w w4) := Lib.hid (below_step B3.out hb); clear hb K3 B3))
  go_ret
  exact ⟨rfl, B4.out⟩
set_option maxRecDepth 100000 in
set_option maxHeartbeats 4000000 in
theorem la_6_11 (c d : UInt8) (N K : Nat) (w : World) (hR : Rws w) (hN : cod c = N) (hM : mny c = 6) (hK : cod d = K) (hL : mny d = 11) (hne : c ≠ d) :
    Calls Tryd.prog 4 #[.int .u8 (c.toNat : Int), .int .u8 (d.toNat : Int)] w fun e w' => e = .returned (.bool true) ∧ Below w.heap.size w w' := by
  have r1 := cod_range c
  have b1 : 32 ≤ N ∧ N < 48 := by omega
  have r2 := cod_range d
  have b2 : 1792 ≤ K ∧ K < 2000 := by omega
  have K0 : Hid (EnvF w [rF] []) := Lib.hid (Hf.envR w hR)
  have B0 : Hid (Below w.heap.size w w) := Lib.hid (Below.refl _ w)
  have HC1 : Hid (∀ W, Rws W → Calls Tryd.prog 9 #[.int .u8 (c.toNat : Int)] W fun e w' => e = .returned (.tuple #[.int .i64 (N : Int), .int .i64 6]) ∧ Below W.heap.size W w') := Lib.hid (fun W h => by have h2 := h_code c W h; rw [hN, hM] at h2; exact h2)
  have HC2 : Hid (∀ W, Rws W → Calls Tryd.prog 9 #[.int .u8 (d.toNat : Int)] W fun e w' => e = .returned (.tuple #[.int .i64 (K : Int), .int .i64 11]) ∧ Below W.heap.size W w') := Lib.hid (fun W h => by have h2 := h_code d W h; rw [hK, hL] at h2; exact h2)
  have HO : Hid (∀ W, Rws W → Calls Tryd.prog 11 #[.int .i64 (N : Int), .int .i64 6] W fun e w' => e = .returned (.tuple #[.int .u8 (c.toNat : Int), .bool true]) ∧ Below W.heap.size W w') := Lib.hid (fun W h => by
    have h2 := h_of (N : Int) 6 W h (int_wf (by omega) (by omega)) (by decide)
    have hf := find_cod c
    rw [hN, hM] at hf
    have e1 : fnV (N : Int) 6 = (c.toNat : Int) := by unfold fnV; rw [show findN (N : Int) 6 = some c from hf]
    have e2 : fnS (N : Int) 6 = true := by unfold fnS; rw [show findN (N : Int) 6 = some c from hf]; rfl
    rw [e1, e2] at h2
    exact h2)
  have d1 : decide ((64 : Int) ≤ (N : Int)) = false := decide_eq_false (by omega)
  have d2 : decide ((N : Int) < 0) = false := decide_eq_false (by omega)
  have d4 : ((63 : Int) != (N : Int)) = true := by simp; omega
  have d3 : decide ((K : Int) < 0) = false := decide_eq_false (by omega)
  have q1 : ((N : Int) == (K : Int) / 32) = false := by simp only [beq_eq_false_iff_ne, ne_eq]; omega
  have q2 : ((c.toNat : Int) == (d.toNat : Int)) = false := by
    simp only [beq_eq_false_iff_ne, ne_eq]
    intro e
    exact hne (UInt8.toNat_inj.1 (by omega))
  clear hR hN hM r1 b1 hK hL hne r2 b2
  go_enter Tryd.func4, Tryd.ntmps4
  go_wp2_with (first
    | go_skip
    | (go_at_call 9; (have hc := (HC1.out w (Hf.EnvF.rws K0.out (by simp))); (with_reducible refine hc.mono ?_); clear hc); rintro e w1 ⟨rfl, hb⟩; have K1 : Hid (EnvF w1 [rF] []) := Lib.hid (K0.out.on hb); have B1 : Hid (Below w.heap.size w w1) := Lib.hid (below_step B0.out hb); clear hb K0 B0)
    | (go_at_call 9; (have hc := (HC2.out w1 (Hf.EnvF.rws K1.out (by simp))); (with_reducible refine hc.mono ?_); clear hc); rintro e w2 ⟨rfl, hb⟩; have K2 : Hid (EnvF w2 [rF] []) := Lib.hid (K1.out.on hb); have B2 : Hid (Below w.heap.size w w2) := Lib.hid (below_step B1.out hb); clear hb K1 B1)
    | (go_at_call 11; (have hc := (HO.out w2 (Hf.EnvF.rws K2.out (by simp))); (with_reducible refine hc.mono ?_); clear hc); rintro e w3 ⟨rfl, hb⟩; have K3 : Hid (EnvF w3 [rF] []) := Lib.hid (K2.out.on hb); have B3 : Hid (Below w.heap.size w w3) := Lib.hid (below_step B2.out hb); clear hb K2 B2)
    | (go_at_call 8; (have hc := (wakes7 w3 (Hf.EnvF.rws K3.out (by simp))); (with_reducible refine hc.mono ?_); clear hc); rintro e w4 ⟨rfl, hb⟩; have K4 : Hid (EnvF w4 [rF] []) := Lib.hid (K3.out.on hb); have B4 : Hid (Below w.heap.size w w4) := Lib.hid (below_step B3.out hb); clear hb K3 B3))
  go_ret
  exact ⟨rfl, B4.out⟩
set_option maxRecDepth 100000 in
set_option maxHeartbeats 4000000 in
theorem la_7_eq (c : UInt8) (N : Nat) (w : World) (hR : Rws w) (hN : cod c = N) (hM : mny c = 7) :
    Calls Tryd.prog 4 #[.int .u8 (c.toNat : Int), .int .u8 (c.toNat : Int)] w fun e w' => e = .returned (.bool true) ∧ Below w.heap.size w w' := by
  have r1 := cod_range c
  have b1 : 96 ≤ N ∧ N < 112 := by omega
  have K0 : Hid (EnvF w [rF] []) := Lib.hid (Hf.envR w hR)
  have B0 : Hid (Below w.heap.size w w) := Lib.hid (Below.refl _ w)
  have HC1 : Hid (∀ W, Rws W → Calls Tryd.prog 9 #[.int .u8 (c.toNat : Int)] W fun e w' => e = .returned (.tuple #[.int .i64 (N : Int), .int .i64 7]) ∧ Below W.heap.size W w') := Lib.hid (fun W h => by have h2 := h_code c W h; rw [hN, hM] at h2; exact h2)
  have HO : Hid (∀ W, Rws W → Calls Tryd.prog 11 #[.int .i64 (N : Int), .int .i64 7] W fun e w' => e = .returned (.tuple #[.int .u8 (c.toNat : Int), .bool true]) ∧ Below W.heap.size W w') := Lib.hid (fun W h => by
    have h2 := h_of (N : Int) 7 W h (int_wf (by omega) (by omega)) (by decide)
    have hf := find_cod c
    rw [hN, hM] at hf
    have e1 : fnV (N : Int) 7 = (c.toNat : Int) := by unfold fnV; rw [show findN (N : Int) 7 = some c from hf]
    have e2 : fnS (N : Int) 7 = true := by unfold fnS; rw [show findN (N : Int) 7 = some c from hf]; rfl
    rw [e1, e2] at h2
    exact h2)
  have d1 : decide ((128 : Int) ≤ (N : Int)) = false := decide_eq_false (by omega)
  have d2 : decide ((N : Int) < 0) = false := decide_eq_false (by omega)
  have d4 : ((127 : Int) != (N : Int)) = true := by simp; omega
  clear hR hN hM r1 b1
  go_enter Tryd.func4, Tryd.ntmps4
  go_wp2_with (first
    | go_skip
    | (go_at_call 9; (have hc := (HC1.out w (Hf.EnvF.rws K0.out (by simp))); (with_reducible refine hc.mono ?_); clear hc); rintro e w1 ⟨rfl, hb⟩; have K1 : Hid (EnvF w1 [rF] []) := Lib.hid (K0.out.on hb); have B1 : Hid (Below w.heap.size w w1) := Lib.hid (below_step B0.out hb); clear hb K0 B0)
    | (go_at_call 9; (have hc := (HC1.out w1 (Hf.EnvF.rws K1.out (by simp))); (with_reducible refine hc.mono ?_); clear hc); rintro e w2 ⟨rfl, hb⟩; have K2 : Hid (EnvF w2 [rF] []) := Lib.hid (K1.out.on hb); have B2 : Hid (Below w.heap.size w w2) := Lib.hid (below_step B1.out hb); clear hb K1 B1)
    | (go_at_call 11; (have hc := (HO.out w2 (Hf.EnvF.rws K2.out (by simp))); (with_reducible refine hc.mono ?_); clear hc); rintro e w3 ⟨rfl, hb⟩; have K3 : Hid (EnvF w3 [rF] []) := Lib.hid (K2.out.on hb); have B3 : Hid (Below w.heap.size w w3) := Lib.hid (below_step B2.out hb); clear hb K2 B2)
    | (go_at_call 8; (have hc := (wakes7 w3 (Hf.EnvF.rws K3.out (by simp))); (with_reducible refine hc.mono ?_); clear hc); rintro e w4 ⟨rfl, hb⟩; have K4 : Hid (EnvF w4 [rF] []) := Lib.hid (K3.out.on hb); have B4 : Hid (Below w.heap.size w w4) := Lib.hid (below_step B3.out hb); clear hb K3 B3))
  go_ret
  exact ⟨rfl, B4.out⟩
set_option maxRecDepth 100000 in
set_option maxHeartbeats 4000000 in
theorem la_7_5 (c d : UInt8) (N K : Nat) (w : World) (hR : Rws w) (hN : cod c = N) (hM : mny c = 7) (hK : cod d = K) (hL : mny d = 5) (hne : c ≠ d) :
    Calls Tryd.prog 4 #[.int .u8 (c.toNat : Int), .int .u8 (d.toNat : Int)] w fun e w' => e = .returned (.bool true) ∧ Below w.heap.size w w' := by
  have r1 := cod_range c
  have b1 : 96 ≤ N ∧ N < 112 := by omega
  have r2 := cod_range d
  have b2 : 0 ≤ K ∧ K < 16 := by omega
  have K0 : Hid (EnvF w [rF] []) := Lib.hid (Hf.envR w hR)
  have B0 : Hid (Below w.heap.size w w) := Lib.hid (Below.refl _ w)
  have HC1 : Hid (∀ W, Rws W → Calls Tryd.prog 9 #[.int .u8 (c.toNat : Int)] W fun e w' => e = .returned (.tuple #[.int .i64 (N : Int), .int .i64 7]) ∧ Below W.heap.size W w') := Lib.hid (fun W h => by have h2 := h_code c W h; rw [hN, hM] at h2; exact h2)
  have HC2 : Hid (∀ W, Rws W → Calls Tryd.prog 9 #[.int .u8 (d.toNat : Int)] W fun e w' => e = .returned (.tuple #[.int .i64 (K : Int), .int .i64 5]) ∧ Below W.heap.size W w') := Lib.hid (fun W h => by have h2 := h_code d W h; rw [hK, hL] at h2; exact h2)
  have HO : Hid (∀ W, Rws W → Calls Tryd.prog 11 #[.int .i64 (N : Int), .int .i64 7] W fun e w' => e = .returned (.tuple #[.int .u8 (c.toNat : Int), .bool true]) ∧ Below W.heap.size W w') := Lib.hid (fun W h => by
    have h2 := h_of (N : Int) 7 W h (int_wf (by omega) (by omega)) (by decide)
    have hf := find_cod c
    rw [hN, hM] at hf
    have e1 : fnV (N : Int) 7 = (c.toNat : Int) := by unfold fnV; rw [show findN (N : Int) 7 = some c from hf]
    have e2 : fnS (N : Int) 7 = true := by unfold fnS; rw [show findN (N : Int) 7 = some c from hf]; rfl
    rw [e1, e2] at h2
    exact h2)
  have d1 : decide ((128 : Int) ≤ (N : Int)) = false := decide_eq_false (by omega)
  have d2 : decide ((N : Int) < 0) = false := decide_eq_false (by omega)
  have d4 : ((127 : Int) != (N : Int)) = true := by simp; omega
  have d3 : decide ((K : Int) < 0) = false := decide_eq_false (by omega)
  have q1 : ((N : Int) / 4 == (K : Int)) = false := by simp only [beq_eq_false_iff_ne, ne_eq]; omega
  have q2 : ((c.toNat : Int) == (d.toNat : Int)) = false := by
    simp only [beq_eq_false_iff_ne, ne_eq]
    intro e
    exact hne (UInt8.toNat_inj.1 (by omega))
  clear hR hN hM r1 b1 hK hL hne r2 b2
  go_enter Tryd.func4, Tryd.ntmps4
  go_wp2_with (first
    | go_skip
    | (go_at_call 9; (have hc := (HC1.out w (Hf.EnvF.rws K0.out (by simp))); (with_reducible refine hc.mono ?_); clear hc); rintro e w1 ⟨rfl, hb⟩; have K1 : Hid (EnvF w1 [rF] []) := Lib.hid (K0.out.on hb); have B1 : Hid (Below w.heap.size w w1) := Lib.hid (below_step B0.out hb); clear hb K0 B0)
    | (go_at_call 9; (have hc := (HC2.out w1 (Hf.EnvF.rws K1.out (by simp))); (with_reducible refine hc.mono ?_); clear hc); rintro e w2 ⟨rfl, hb⟩; have K2 : Hid (EnvF w2 [rF] []) := Lib.hid (K1.out.on hb); have B2 : Hid (Below w.heap.size w w2) := Lib.hid (below_step B1.out hb); clear hb K1 B1)
    | (go_at_call 11; (have hc := (HO.out w2 (Hf.EnvF.rws K2.out (by simp))); (with_reducible refine hc.mono ?_); clear hc); rintro e w3 ⟨rfl, hb⟩; have K3 : Hid (EnvF w3 [rF] []) := Lib.hid (K2.out.on hb); have B3 : Hid (Below w.heap.size w w3) := Lib.hid (below_step B2.out hb); clear hb K2 B2)
    | (go_at_call 8; (have hc := (wakes7 w3 (Hf.EnvF.rws K3.out (by simp))); (with_reducible refine hc.mono ?_); clear hc); rintro e w4 ⟨rfl, hb⟩; have K4 : Hid (EnvF w4 [rF] []) := Lib.hid (K3.out.on hb); have B4 : Hid (Below w.heap.size w w4) := Lib.hid (below_step B3.out hb); clear hb K3 B3))
  go_ret
  exact ⟨rfl, B4.out⟩
set_option maxRecDepth 100000 in
set_option maxHeartbeats 4000000 in
theorem la_7_6 (c d : UInt8) (N K : Nat) (w : World) (hR : Rws w) (hN : cod c = N) (hM : mny c = 7) (hK : cod d = K) (hL : mny d = 6) (hne : c ≠ d) :
    Calls Tryd.prog 4 #[.int .u8 (c.toNat : Int), .int .u8 (d.toNat : Int)] w fun e w' => e = .returned (.bool true) ∧ Below w.heap.size w w' := by
  have r1 := cod_range c
  have b1 : 96 ≤ N ∧ N < 112 := by omega
  have r2 := cod_range d
  have b2 : 32 ≤ K ∧ K < 48 := by omega
  have K0 : Hid (EnvF w [rF] []) := Lib.hid (Hf.envR w hR)
  have B0 : Hid (Below w.heap.size w w) := Lib.hid (Below.refl _ w)
  have HC1 : Hid (∀ W, Rws W → Calls Tryd.prog 9 #[.int .u8 (c.toNat : Int)] W fun e w' => e = .returned (.tuple #[.int .i64 (N : Int), .int .i64 7]) ∧ Below W.heap.size W w') := Lib.hid (fun W h => by have h2 := h_code c W h; rw [hN, hM] at h2; exact h2)
  have HC2 : Hid (∀ W, Rws W → Calls Tryd.prog 9 #[.int .u8 (d.toNat : Int)] W fun e w' => e = .returned (.tuple #[.int .i64 (K : Int), .int .i64 6]) ∧ Below W.heap.size W w') := Lib.hid (fun W h => by have h2 := h_code d W h; rw [hK, hL] at h2; exact h2)
  have HO : Hid (∀ W, Rws W → Calls Tryd.prog 11 #[.int .i64 (N : Int), .int .i64 7] W fun e w' => e = .returned (.tuple #[.int .u8 (c.toNat : Int), .bool true]) ∧ Below W.heap.size W w') := Lib.hid (fun W h => by
    have h2 := h_of (N : Int) 7 W h (int_wf (by omega) (by omega)) (by decide)
    have hf := find_cod c
    rw [hN, hM] at hf
    have e1 : fnV (N : Int) 7 = (c.toNat : Int) := by unfold fnV; rw [show findN (N : Int) 7 = some c from hf]
    have e2 : fnS (N : Int) 7 = true := by unfold fnS; rw [show findN (N : Int) 7 = some c from hf]; rfl
    rw [e1, e2] at h2
    exact h2)
  have d1 : decide ((128 : Int) ≤ (N : Int)) = false := decide_eq_false (by omega)
  have d2 : decide ((N : Int) < 0) = false := decide_eq_false (by omega)
  have d4 : ((127 : Int) != (N : Int)) = true := by simp; omega
  have d3 : decide ((K : Int) < 0) = false := decide_eq_false (by omega)
  have q1 : ((N : Int) / 2 == (K : Int)) = false := by simp only [beq_eq_false_iff_ne, ne_eq]; omega
  have q2 : ((c.toNat : Int) == (d.toNat : Int)) = false := by
    simp only [beq_eq_false_iff_ne, ne_eq]
    intro e
    exact hne (UInt8.toNat_inj.1 (by omega))
  clear hR hN hM r1 b1 hK hL hne r2 b2
  go_enter Tryd.func4, Tryd.ntmps4
  go_wp2_with (first
    | go_skip
    | (go_at_call 9; (have hc := (HC1.out w (Hf.EnvF.rws K0.out (by simp))); (with_reducible refine hc.mono ?_); clear hc); rintro e w1 ⟨rfl, hb⟩; have K1 : Hid (EnvF w1 [rF] []) := Lib.hid (K0.out.on hb); have B1 : Hid (Below w.heap.size w w1) := Lib.hid (below_step B0.out hb); clear hb K0 B0)
    | (go_at_call 9; (have hc := (HC2.out w1 (Hf.EnvF.rws K1.out (by simp))); (with_reducible refine hc.mono ?_); clear hc); rintro e w2 ⟨rfl, hb⟩; have K2 : Hid (EnvF w2 [rF] []) := Lib.hid (K1.out.on hb); have B2 : Hid (Below w.heap.size w w2) := Lib.hid (below_step B1.out hb); clear hb K1 B1)
    | (go_at_call 11; (have hc := (HO.out w2 (Hf.EnvF.rws K2.out (by simp))); (with_reducible refine hc.mono ?_); clear hc); rintro e w3 ⟨rfl, hb⟩; have K3 : Hid (EnvF w3 [rF] []) := Lib.hid (K2.out.on hb); have B3 : Hid (Below w.heap.size w w3) := Lib.hid (below_step B2.out hb); clear hb K2 B2)
    | (go_at_call 8; (have hc := (wakes7 w3 (Hf.EnvF.rws K3.out (by simp))); (with_reducible refine hc.mono ?_); clear hc); rintro e w4 ⟨rfl, hb⟩; have K4 : Hid (EnvF w4 [rF] []) := Lib.hid (K3.out.on hb); have B4 : Hid (Below w.heap.size w w4) := Lib.hid (below_step B3.out hb); clear hb K3 B3))
  go_ret
  exact ⟨rfl, B4.out⟩
set_option maxRecDepth 100000 in
set_option maxHeartbeats 4000000 in
theorem la_7_7 (c d : UInt8) (N K : Nat) (w : World) (hR : Rws w) (hN : cod c = N) (hM : mny c = 7) (hK : cod d = K) (hL : mny d = 7) (hne : c ≠ d) :
    Calls Tryd.prog 4 #[.int .u8 (c.toNat : Int), .int .u8 (d.toNat : Int)] w fun e w' => e = .returned (.bool true) ∧ Below w.heap.size w w' := by
  have r1 := cod_range c
  have b1 : 96 ≤ N ∧ N < 112 := by omega
  have r2 := cod_range d
  have b2 : 96 ≤ K ∧ K < 112 := by omega
  have K0 : Hid (EnvF w [rF] []) := Lib.hid (Hf.envR w hR)
  have B0 : Hid (Below w.heap.size w w) := Lib.hid (Below.refl _ w)
  have HC1 : Hid (∀ W, Rws W → Calls Tryd.prog 9 #[.int .u8 (c.toNat : Int)] W fun e w' => e = .returned (.tuple #[.int .i64 (N : Int), .int .i64 7]) ∧ Below W.heap.size W w') := Lib.hid (fun W h => by have h2 := h_code c W h; rw [hN, hM] at h2; exact h2)
  have HC2 : Hid (∀ W, Rws W → Calls Tryd.prog 9 #[.int .u8 (d.toNat : Int)] W fun e w' => e = .returned (.tuple #[.int .i64 (K : Int), .int .i64 7]) ∧ Below W.heap.size W w') := Lib.hid (fun W h => by have h2 := h_code d W h; rw [hK, hL] at h2; exact h2)
  have HO : Hid (∀ W, Rws W → Calls Tryd.prog 11 #[.int .i64 (N : Int), .int .i64 7] W fun e w' => e = .returned (.tuple #[.int .u8 (c.toNat : Int), .bool true]) ∧ Below W.heap.size W w') := Lib.hid (fun W h => by
    have h2 := h_of (N : Int) 7 W h (int_wf (by omega) (by omega)) (by decide)
    have hf := find_cod c
    rw [hN, hM] at hf
    have e1 : fnV (N : Int) 7 = (c.toNat : Int) := by unfold fnV; rw [show findN (N : Int) 7 = some c from hf]
    have e2 : fnS (N : Int) 7 = true := by unfold fnS; rw [show findN (N : Int) 7 = some c from hf]; rfl
    rw [e1, e2] at h2
    exact h2)
  have d1 : decide ((128 : Int) ≤ (N : Int)) = false := decide_eq_false (by omega)
  have d2 : decide ((N : Int) < 0) = false := decide_eq_false (by omega)
  have d4 : ((127 : Int) != (N : Int)) = true := by simp; omega
  have d3 : decide ((K : Int) < 0) = false := decide_eq_false (by omega)
  have q1 : ((N : Int) == (K : Int)) = false := by have hNK : N ≠ K := fun e => hne (cod_inj (by omega) (by omega)); simp only [beq_eq_false_iff_ne, ne_eq]; omega
  have q2 : ((c.toNat : Int) == (d.toNat : Int)) = false := by
    simp only [beq_eq_false_iff_ne, ne_eq]
    intro e
    exact hne (UInt8.toNat_inj.1 (by omega))
  clear hR hN hM r1 b1 hK hL hne r2 b2
  go_enter Tryd.func4, Tryd.ntmps4
  go_wp2_with (first
    | go_skip
    | (go_at_call 9; (have hc := (HC1.out w (Hf.EnvF.rws K0.out (by simp))); (with_reducible refine hc.mono ?_); clear hc); rintro e w1 ⟨rfl, hb⟩; have K1 : Hid (EnvF w1 [rF] []) := Lib.hid (K0.out.on hb); have B1 : Hid (Below w.heap.size w w1) := Lib.hid (below_step B0.out hb); clear hb K0 B0)
    | (go_at_call 9; (have hc := (HC2.out w1 (Hf.EnvF.rws K1.out (by simp))); (with_reducible refine hc.mono ?_); clear hc); rintro e w2 ⟨rfl, hb⟩; have K2 : Hid (EnvF w2 [rF] []) := Lib.hid (K1.out.on hb); have B2 : Hid (Below w.heap.size w w2) := Lib.hid (below_step B1.out hb); clear hb K1 B1)
    | (go_at_call 11; (have hc := (HO.out w2 (Hf.EnvF.rws K2.out (by simp))); (with_reducible refine hc.mono ?_); clear hc); rintro e w3 ⟨rfl, hb⟩; have K3 : Hid (EnvF w3 [rF] []) := Lib.hid (K2.out.on hb); have B3 : Hid (Below w.heap.size w w3) := Lib.hid (below_step B2.out hb); clear hb K2 B2)
    | (go_at_call 8; (have hc := (wakes7 w3 (Hf.EnvF.rws K3.out (by simp))); (with_reducible refine hc.mono ?_); clear hc); rintro e w4 ⟨rfl, hb⟩; have K4 : Hid (EnvF w4 [rF] []) := Lib.hid (K3.out.on hb); have B4 : Hid (Below w.heap.size w w4) := Lib.hid (below_step B3.out hb); clear hb K3 B3))
  go_ret
  exact ⟨rfl, B4.out⟩
set_option maxRecDepth 100000 in
set_option maxHeartbeats 4000000 in
theorem la_7_11 (c d : UInt8) (N K : Nat) (w : World) (hR : Rws w) (hN : cod c = N) (hM : mny c = 7) (hK : cod d = K) (hL : mny d = 11) (hne : c ≠ d) :
    Calls Tryd.prog 4 #[.int .u8 (c.toNat : Int), .int .u8 (d.toNat : Int)] w fun e w' => e = .returned (.bool true) ∧ Below w.heap.size w w' := by
  have r1 := cod_range c
  have b1 : 96 ≤ N ∧ N < 112 := by omega
  have r2 := cod_range d
  have b2 : 1792 ≤ K ∧ K < 2000 := by omega
  have K0 : Hid (EnvF w [rF] []) := Lib.hid (Hf.envR w hR)
  have B0 : Hid (Below w.heap.size w w) := Lib.hid (Below.refl _ w)
  have HC1 : Hid (∀ W, Rws W → Calls Tryd.prog 9 #[.int .u8 (c.toNat : Int)] W fun e w' => e = .returned (.tuple #[.int .i64 (N : Int), .int .i64 7]) ∧ Below W.heap.size W w') := Lib.hid (fun W h => by have h2 := h_code c W h; rw [hN, hM] at h2; exact h2)
  have HC2 : Hid (∀ W, Rws W → Calls Tryd.prog 9 #[.int .u8 (d.toNat : Int)] W fun e w' => e = .returned (.tuple #[.int .i64 (K : Int), .int .i64 11]) ∧ Below W.heap.size W w') := Lib.hid (fun W h => by have h2 := h_code d W h; rw [hK, hL] at h2; exact h2)
  have HO : Hid (∀ W, Rws W → Calls Tryd.prog 11 #[.int .i64 (N : Int), .int .i64 7] W fun e w' => e = .returned (.tuple #[.int .u8 (c.toNat : Int), .bool true]) ∧ Below W.heap.size W w') := Lib.hid (fun W h => by
    have h2 := h_of (N : Int) 7 W h (int_wf (by omega) (by omega)) (by decide)
    have hf := find_cod c
    rw [hN, hM] at hf
    have e1 : fnV (N : Int) 7 = (c.toNat : Int) := by unfold fnV; rw [show findN (N : Int) 7 = some c from hf]
    have e2 : fnS (N : Int) 7 = true := by unfold fnS; rw [show findN (N : Int) 7 = some c from hf]; rfl
    rw [e1, e2] at h2
    exact h2)
  have d1 : decide ((128 : Int) ≤ (N : Int)) = false := decide_eq_false (by omega)
  have d2 : decide ((N : Int) < 0) = false := decide_eq_false (by omega)
  have d4 : ((127 : Int) != (N : Int)) = true := by simp; omega
  have d3 : decide ((K : Int) < 0) = false := decide_eq_false (by omega)
  have q1 : ((N : Int) == (K : Int) / 16) = false := by simp only [beq_eq_false_iff_ne, ne_eq]; omega
  have q2 : ((c.toNat : Int) == (d.toNat : Int)) = false := by
    simp only [beq_eq_false_iff_ne, ne_eq]
    intro e
    exact hne (UInt8.toNat_inj.1 (by omega))
  clear hR hN hM r1 b1 hK hL hne r2 b2
  go_enter Tryd.func4, Tryd.ntmps4
  go_wp2_with (first
    | go_skip
    | (go_at_call 9; (have hc := (HC1.out w (Hf.EnvF.rws K0.out (by simp))); (with_reducible refine hc.mono ?_); clear hc); rintro e w1 ⟨rfl, hb⟩; have K1 : Hid (EnvF w1 [rF] []) := Lib.hid (K0.out.on hb); have B1 : Hid (Below w.heap.size w w1) := Lib.hid (below_step B0.out hb); clear hb K0 B0)
    | (go_at_call 9; (have hc := (HC2.out w1 (Hf.EnvF.rws K1.out (by simp))); (with_reducible refine hc.mono ?_); clear hc); rintro e w2 ⟨rfl, hb⟩; have K2 : Hid (EnvF w2 [rF] []) := Lib.hid (K1.out.on hb); have B2 : Hid (Below w.heap.size w w2) := Lib.hid (below_step B1.out hb); clear hb K1 B1)
    | (go_at_call 11; (have hc := (HO.out w2 (Hf.EnvF.rws K2.out (by simp))); (with_reducible refine hc.mono ?_); clear hc); rintro e w3 ⟨rfl, hb⟩; have K3 : Hid (EnvF w3 [rF] []) := Lib.hid (K2.out.on hb); have B3 : Hid (Below w.heap.size w w3) := Lib.hid (below_step B2.out hb); clear hb K2 B2)
    | (go_at_call 8; (have hc := (wakes7 w3 (Hf.EnvF.rws K3.out (by simp))); (with_reducible refine hc.mono ?_); clear hc); rintro e w4 ⟨rfl, hb⟩; have K4 : Hid (EnvF w4 [rF] []) := Lib.hid (K3.out.on hb); have B4 : Hid (Below w.heap.size w w4) := Lib.hid (below_step B3.out hb); clear hb K3 B3))
  go_ret
  exact ⟨rfl, B4.out⟩
set_option maxRecDepth 100000 in
set_option maxHeartbeats 4000000 in
theorem la_11_eq (c : UInt8) (N : Nat) (w : World) (hR : Rws w) (hN : cod c = N) (hM : mny c = 11) :
    Calls Tryd.prog 4 #[.int .u8 (c.toNat : Int), .int .u8 (c.toNat : Int)] w fun e w' => e = .returned (.bool true) ∧ Below w.heap.size w w' := by
  have r1 := cod_range c
  have b1 : 1792 ≤ N ∧ N < 2000 := by omega
  have K0 : Hid (EnvF w [rF] []) := Lib.hid (Hf.envR w hR)
  have B0 : Hid (Below w.heap.size w w) := Lib.hid (Below.refl _ w)
  have HC1 : Hid (∀ W, Rws W → Calls Tryd.prog 9 #[.int .u8 (c.toNat : Int)] W fun e w' => e = .returned (.tuple #[.int .i64 (N : Int), .int .i64 11]) ∧ Below W.heap.size W w') := Lib.hid (fun W h => by have h2 := h_code c W h; rw [hN, hM] at h2; exact h2)
  have HO : Hid (∀ W, Rws W → Calls Tryd.prog 11 #[.int .i64 (N : Int), .int .i64 11] W fun e w' => e = .returned (.tuple #[.int .u8 (c.toNat : Int), .bool true]) ∧ Below W.heap.size W w') := Lib.hid (fun W h => by
    have h2 := h_of (N : Int) 11 W h (int_wf (by omega) (by omega)) (by decide)
    have hf := find_cod c
    rw [hN, hM] at hf
    have e1 : fnV (N : Int) 11 = (c.toNat : Int) := by unfold fnV; rw [show findN (N : Int) 11 = some c from hf]
    have e2 : fnS (N : Int) 11 = true := by unfold fnS; rw [show findN (N : Int) 11 = some c from hf]; rfl
    rw [e1, e2] at h2
    exact h2)
  have d1 : decide ((2048 : Int) ≤ (N : Int)) = false := decide_eq_false (by omega)
  have d2 : decide ((N : Int) < 0) = false := decide_eq_false (by omega)
  have d4 : ((2047 : Int) != (N : Int)) = true := by simp; omega
  clear hR hN hM r1 b1
  go_enter Tryd.func4, Tryd.ntmps4
  go_wp2_with (first
    | go_skip
    | (go_at_call 9; (have hc := (HC1.out w (Hf.EnvF.rws K0.out (by simp))); (with_reducible refine hc.mono ?_); clear hc); rintro e w1 ⟨rfl, hb⟩; have K1 : Hid (EnvF w1 [rF] []) := Lib.hid (K0.out.on hb); have B1 : Hid (Below w.heap.size w w1) := Lib.hid (below_step B0.out hb); clear hb K0 B0)
    | (go_at_call 9; (have hc := (HC1.out w1 (Hf.EnvF.rws K1.out (by simp))); (with_reducible refine hc.mono ?_); clear hc); rintro e w2 ⟨rfl, hb⟩; have K2 : Hid (EnvF w2 [rF] []) := Lib.hid (K1.out.on hb); have B2 : Hid (Below w.heap.size w w2) := Lib.hid (below_step B1.out hb); clear hb K1 B1)
    | (go_at_call 11; (have hc := (HO.out w2 (Hf.EnvF.rws K2.out (by simp))); (with_reducible refine hc.mono ?_); clear hc); rintro e w3 ⟨rfl, hb⟩; have K3 : Hid (EnvF w3 [rF] []) := Lib.hid (K2.out.on hb); have B3 : Hid (Below w.heap.size w w3) := Lib.hid (below_step B2.out hb); clear hb K2 B2)
    | (go_at_call 8; (have hc := (wakes7 w3 (Hf.EnvF.rws K3.out (by simp))); (with_reducible refine hc.mono ?_); clear hc); rintro e w4 ⟨rfl, hb⟩; have K4 : Hid (EnvF w4 [rF] []) := Lib.hid (K3.out.on hb); have B4 : Hid (Below w.heap.size w w4) := Lib.hid (below_step B3.out hb); clear hb K3 B3))
  go_ret
  exact ⟨rfl, B4.out⟩
set_option maxRecDepth 100000 in
set_option maxHeartbeats 4000000 in
theorem la_11_5 (c d : UInt8) (N K : Nat) (w : World) (hR : Rws w) (hN : cod c = N) (hM : mny c = 11) (hK : cod d = K) (hL : mny d = 5) (hne : c ≠ d) :
    Calls Tryd.prog 4 #[.int .u8 (c.toNat : Int), .int .u8 (d.toNat : Int)] w fun e w' => e = .returned (.bool true) ∧ Below w.heap.size w w' := by
  have r1 := cod_range c
  have b1 : 1792 ≤ N ∧ N < 2000 := by omega
  have r2 := cod_range d
  have b2 : 0 ≤ K ∧ K < 16 := by omega
  have K0 : Hid (EnvF w [rF] []) := Lib.hid (Hf.envR w hR)
  have B0 : Hid (Below w.heap.size w w) := Lib.hid (Below.refl _ w)
  have HC1 : Hid (∀ W, Rws W → Calls Tryd.prog 9 #[.int .u8 (c.toNat : Int)] W fun e w' => e = .returned (.tuple #[.int .i64 (N : Int), .int .i64 11]) ∧ Below W.heap.size W w') := Lib.hid (fun W h => by have h2 := h_code c W h; rw [hN, hM] at h2; exact h2)
  have HC2 : Hid (∀ W, Rws W → Calls Tryd.prog 9 #[.int .u8 (d.toNat : Int)] W fun e w' => e = .returned (.tuple #[.int .i64 (K : Int), .int .i64 5]) ∧ Below W.heap.size W w') := Lib.hid (fun W h => by have h2 := h_code d W h; rw [hK, hL] at h2; exact h2)
  have HO : Hid (∀ W, Rws W → Calls Tryd.prog 11 #[.int .i64 (N : Int), .int .i64 11] W fun e w' => e = .returned (.tuple #[.int .u8 (c.toNat : Int), .bool true]) ∧ Below W.heap.size W w') := Lib.hid (fun W h => by
    have h2 := h_of (N : Int) 11 W h (int_wf (by omega) (by omega)) (by decide)
    have hf := find_cod c
    rw [hN, hM] at hf
    have e1 : fnV (N : Int) 11 = (c.toNat : Int) := by unfold fnV; rw [show findN (N : Int) 11 = some c from hf]
    have e2 : fnS (N : Int) 11 = true := by unfold fnS; rw [show findN (N : Int) 11 = some c from hf]; rfl
    rw [e1, e2] at h2
    exact h2)
  have d1 : decide ((2048 : Int) ≤ (N : Int)) = false := decide_eq_false (by omega)
  have d2 : decide ((N : Int) < 0) = false := decide_eq_false (by omega)
  have d4 : ((2047 : Int) != (N : Int)) = true := by simp; omega
  have d3 : decide ((K : Int) < 0) = false := decide_eq_false (by omega)
  have q1 : ((N : Int) / 64 == (K : Int)) = false := by simp only [beq_eq_false_iff_ne, ne_eq]; omega
  have q2 : ((c.toNat : Int) == (d.toNat : Int)) = false := by
    simp only [beq_eq_false_iff_ne, ne_eq]
    intro e
    exact hne (UInt8.toNat_inj.1 (by omega))
  clear hR hN hM r1 b1 hK hL hne r2 b2
  go_enter Tryd.func4, Tryd.ntmps4
  go_wp2_with (first
    | go_skip
    | (go_at_call 9; (have hc := (HC1.out w (Hf.EnvF.rws K0.out (by simp))); (with_reducible refine hc.mono ?_); clear hc); rintro e w1 ⟨rfl, hb⟩; have K1 : Hid (EnvF w1 [rF] []) := Lib.hid (K0.out.on hb); have B1 : Hid (Below w.heap.size w w1) := Lib.hid (below_step B0.out hb); clear hb K0 B0)
    | (go_at_call 9; (have hc := (HC2.out w1 (Hf.EnvF.rws K1.out (by simp))); (with_reducible refine hc.mono ?_); clear hc); rintro e w2 ⟨rfl, hb⟩; have K2 : Hid (EnvF w2 [rF] []) := Lib.hid (K1.out.on hb); have B2 : Hid (Below w.heap.size w w2) := Lib.hid (below_step B1.out hb); clear hb K1 B1)
    | (go_at_call 11; (have hc := (HO.out w2 (Hf.EnvF.rws K2.out (by simp))); (with_reducible refine hc.mono ?_); clear hc); rintro e w3 ⟨rfl, hb⟩; have K3 : Hid (EnvF w3 [rF] []) := Lib.hid (K2.out.on hb); have B3 : Hid (Below w.heap.size w w3) := Lib.hid (below_step B2.out hb); clear hb K2 B2)
    | (go_at_call 8; (have hc := (wakes7 w3 (Hf.EnvF.rws K3.out (by simp))); (with_reducible refine hc.mono ?_); clear hc); rintro e w4 ⟨rfl, hb⟩; have K4 : Hid (EnvF w4 [rF] []) := Lib.hid (K3.out.on hb); have B4 : Hid (Below w.heap.size w w4) := Lib.hid (below_step B3.out hb); clear hb K3 B3))
  go_ret
  exact ⟨rfl, B4.out⟩
set_option maxRecDepth 100000 in
set_option maxHeartbeats 4000000 in
theorem la_11_6 (c d : UInt8) (N K : Nat) (w : World) (hR : Rws w) (hN : cod c = N) (hM : mny c = 11) (hK : cod d = K) (hL : mny d = 6) (hne : c ≠ d) :
    Calls Tryd.prog 4 #[.int .u8 (c.toNat : Int), .int .u8 (d.toNat : Int)] w fun e w' => e = .returned (.bool true) ∧ Below w.heap.size w w' := by
  have r1 := cod_range c
  have b1 : 1792 ≤ N ∧ N < 2000 := by omega
  have r2 := cod_range d
  have b2 : 32 ≤ K ∧ K < 48 := by omega
  have K0 : Hid (EnvF w [rF] []) := Lib.hid (Hf.envR w hR)
  have B0 : Hid (Below w.heap.size w w) := Lib.hid (Below.refl _ w)
  have HC1 : Hid (∀ W, Rws W → Calls Tryd.prog 9 #[.int .u8 (c.toNat : Int)] W fun e w' => e = .returned (.tuple #[.int .i64 (N : Int), .int .i64 11]) ∧ Below W.heap.size W w') := Lib.hid (fun W h => by have h2 := h_code c W h; rw [hN, hM] at h2; exact h2)
  have HC2 : Hid (∀ W, Rws W → Calls Tryd.prog 9 #[.int .u8 (d.toNat : Int)] W fun e w' => e = .returned (.tuple #[.int .i64 (K : Int), .int .i64 6]) ∧ Below W.heap.size W w') := Lib.hid (fun W h => by have h2 := h_code d W h; rw [hK, hL] at h2; exact h2)
  have HO : Hid (∀ W, Rws W → Calls Tryd.prog 11 #[.int .i64 (N : Int), .int .i64 11] W fun e w' => e = .returned (.tuple #[.int .u8 (c.toNat : Int), .bool true]) ∧ Below W.heap.size W w') := Lib.hid (fun W h => by
    have h2 := h_of (N : Int) 11 W h (int_wf (by omega) (by omega)) (by decide)
    have hf := find_cod c
    rw [hN, hM] at hf
    have e1 : fnV (N : Int) 11 = (c.toNat : Int) := by unfold fnV; rw [show findN (N : Int) 11 = some c from hf]
    have e2 : fnS (N : Int) 11 = true := by unfold fnS; rw [show findN (N : Int) 11 = some c from hf]; rfl
    rw [e1, e2] at h2
    exact h2)
  have d1 : decide ((2048 : Int) ≤ (N : Int)) = false := decide_eq_false (by omega)
  have d2 : decide ((N : Int) < 0) = false := decide_eq_false (by omega)
  have d4 : ((2047 : Int) != (N : Int)) = true := by simp; omega
  have d3 : decide ((K : Int) < 0) = false := decide_eq_false (by omega)
  have q1 : ((N : Int) / 32 == (K : Int)) = false := by simp only [beq_eq_false_iff_ne, ne_eq]; omega
  have q2 : ((c.toNat : Int) == (d.toNat : Int)) = false := by
    simp only [beq_eq_false_iff_ne, ne_eq]
    intro e
    exact hne (UInt8.toNat_inj.1 (by omega))
  clear hR hN hM r1 b1 hK hL hne r2 b2
  go_enter Tryd.func4, Tryd.ntmps4
  go_wp2_with (first
    | go_skip
    | (go_at_call 9; (have hc := (HC1.out w (Hf.EnvF.rws K0.out (by simp))); (with_reducible refine hc.mono ?_); clear hc); rintro e w1 ⟨rfl, hb⟩; have K1 : Hid (EnvF w1 [rF] []) := Lib.hid (K0.out.on hb); have B1 : Hid (Below w.heap.size w w1) := Lib.hid (below_step B0.out hb); clear hb K0 B0)
    | (go_at_call 9; (have hc := (HC2.out w1 (Hf.EnvF.rws K1.out (by simp))); (with_reducible refine hc.mono ?_); clear hc); rintro e w2 ⟨rfl, hb⟩; have K2 : Hid (EnvF w2 [rF] []) := Lib.hid (K1.out.on hb); have B2 : Hid (Below w.heap.size w w2) := Lib.hid (below_step B1.out hb); clear hb K1 B1)
    | (go_at_call 11; (have hc := (HO.out w2 (Hf.EnvF.rws K2.out (by simp))); (with_reducible refine hc.mono ?_); clear hc); rintro e w3 ⟨rfl, hb⟩; have K3 : Hid (EnvF w3 [rF] []) := Lib.hid (K2.out.on hb); have B3 : Hid (Below w.heap.size w w3) := Lib.hid (below_step B2.out hb); clear hb K2 B2)
    | (go_at_call 8; (have hc := (wakes7 w3 (Hf.EnvF.rws K3.out (by simp))); (with_reducible refine hc.mono ?_); clear hc); rintro e w4 ⟨rfl, hb⟩; have K4 : Hid (EnvF w4 [rF] []) := Lib.hid (K3.out.on hb); have B4 : Hid (Below w.heap.size w w4) := Lib.hid (below_step B3.out hb); clear hb K3 B3))
  go_ret
  exact ⟨rfl, B4.out⟩
set_option maxRecDepth 100000 in
set_option maxHeartbeats 4000000 in
theorem la_11_7 (c d : UInt8) (N K : Nat) (w : World) (hR : Rws w) (hN : cod c = N) (hM : mny c = 11) (hK : cod d = K) (hL : mny d = 7) (hne : c ≠ d) :
    Calls Tryd.prog 4 #[.int .u8 (c.toNat : Int), .int .u8 (d.toNat : Int)] w fun e w' => e = .returned (.bool true) ∧ Below w.heap.size w w' := by
  have r1 := cod_range c
  have b1 : 1792 ≤ N ∧ N < 2000 := by omega
  have r2 := cod_range d
  have b2 : 96 ≤ K ∧ K < 112 := by omega
  have K0 : Hid (EnvF w [rF] []) := Lib.hid (Hf.envR w hR)
  have B0 : Hid (Below w.heap.size w w) := Lib.hid (Below.refl _ w)
  have HC1 : Hid (∀ W, Rws W → Calls Tryd.prog 9 #[.int .u8 (c.toNat : Int)] W fun e w' => e = .returned (.tuple #[.int .i64 (N : Int), .int .i64 11]) ∧ Below W.heap.size W w') := Lib.hid (fun W h => by have h2 := h_code c W h; rw [hN, hM] at h2; exact h2)
  have HC2 : Hid (∀ W, Rws W → Calls Tryd.prog 9 #[.int .u8 (d.toNat : Int)] W fun e w' => e = .returned (.tuple #[.int .i64 (K : Int), .int .i64 7]) ∧ Below W.heap.size W w') := Lib.hid (fun W h => by have h2 := h_code d W h; rw [hK, hL] at h2; exact h2)
  have HO : Hid (∀ W, Rws W → Calls Tryd.prog 11 #[.int .i64 (N : Int), .int .i64 11] W fun e w' => e = .returned (.tuple #[.int .u8 (c.toNat : Int), .bool true]) ∧ Below W.heap.size W w') := Lib.hid (fun W h => by
    have h2 := h_of (N : Int) 11 W h (int_wf (by omega) (by omega)) (by decide)
    have hf := find_cod c
    rw [hN, hM] at hf
    have e1 : fnV (N : Int) 11 = (c.toNat : Int) := by unfold fnV; rw [show findN (N : Int) 11 = some c from hf]
    have e2 : fnS (N : Int) 11 = true := by unfold fnS; rw [show findN (N : Int) 11 = some c from hf]; rfl
    rw [e1, e2] at h2
    exact h2)
  have d1 : decide ((2048 : Int) ≤ (N : Int)) = false := decide_eq_false (by omega)
  have d2 : decide ((N : Int) < 0) = false := decide_eq_false (by omega)
  have d4 : ((2047 : Int) != (N : Int)) = true := by simp; omega
  have d3 : decide ((K : Int) < 0) = false := decide_eq_false (by omega)
  have q1 : ((N : Int) / 16 == (K : Int)) = false := by simp only [beq_eq_false_iff_ne, ne_eq]; omega
  have q2 : ((c.toNat : Int) == (d.toNat : Int)) = false := by
    simp only [beq_eq_false_iff_ne, ne_eq]
    intro e
    exact hne (UInt8.toNat_inj.1 (by omega))
  clear hR hN hM r1 b1 hK hL hne r2 b2
  go_enter Tryd.func4, Tryd.ntmps4
  go_wp2_with (first
    | go_skip
    | (go_at_call 9; (have hc := (HC1.out w (Hf.EnvF.rws K0.out (by simp))); (with_reducible refine hc.mono ?_); clear hc); rintro e w1 ⟨rfl, hb⟩; have K1 : Hid (EnvF w1 [rF] []) := Lib.hid (K0.out.on hb); have B1 : Hid (Below w.heap.size w w1) := Lib.hid (below_step B0.out hb); clear hb K0 B0)
    | (go_at_call 9; (have hc := (HC2.out w1 (Hf.EnvF.rws K1.out (by simp))); (with_reducible refine hc.mono ?_); clear hc); rintro e w2 ⟨rfl, hb⟩; have K2 : Hid (EnvF w2 [rF] []) := Lib.hid (K1.out.on hb); have B2 : Hid (Below w.heap.size w w2) := Lib.hid (below_step B1.out hb); clear hb K1 B1)
    | (go_at_call 11; (have hc := (HO.out w2 (Hf.EnvF.rws K2.out (by simp))); (with_reducible refine hc.mono ?_); clear hc); rintro e w3 ⟨rfl, hb⟩; have K3 : Hid (EnvF w3 [rF] []) := Lib.hid (K2.out.on hb); have B3 : Hid (Below w.heap.size w w3) := Lib.hid (below_step B2.out hb); clear hb K2 B2)
    | (go_at_call 8; (have hc := (wakes7 w3 (Hf.EnvF.rws K3.out (by simp))); (with_reducible refine hc.mono ?_); clear hc); rintro e w4 ⟨rfl, hb⟩; have K4 : Hid (EnvF w4 [rF] []) := Lib.hid (K3.out.on hb); have B4 : Hid (Below w.heap.size w w4) := Lib.hid (below_step B3.out hb); clear hb K3 B3))
  go_ret
  exact ⟨rfl, B4.out⟩
set_option maxRecDepth 100000 in
set_option maxHeartbeats 4000000 in
theorem la_11_11 (c d : UInt8) (N K : Nat) (w : World) (hR : Rws w) (hN : cod c = N) (hM : mny c = 11) (hK : cod d = K) (hL : mny d = 11) (hne : c ≠ d) :
    Calls Tryd.prog 4 #[.int .u8 (c.toNat : Int), .int .u8 (d.toNat : Int)] w fun e w' => e = .returned (.bool true) ∧ Below w.heap.size w w' := by
  have r1 := cod_range c
  have b1 : 1792 ≤ N ∧ N < 2000 := by omega
  have r2 := cod_range d
  have b2 : 1792 ≤ K ∧ K < 2000 := by omega
  have K0 : Hid (EnvF w [rF] []) := Lib.hid (Hf.envR w hR)
  have B0 : Hid (Below w.heap.size w w) := Lib.hid (Below.refl _ w)
  have HC1 : Hid (∀ W, Rws W → Calls Tryd.prog 9 #[.int .u8 (c.toNat : Int)] W fun e w' => e = .returned (.tuple #[.int .i64 (N : Int), .int .i64 11]) ∧ Below W.heap.size W w') := Lib.hid (fun W h => by have h2 := h_code c W h; rw [hN, hM] at h2; exact h2)
  have HC2 : Hid (∀ W, Rws W → Calls Tryd.prog 9 #[.int .u8 (d.toNat : Int)] W fun e w' => e = .returned (.tuple #[.int .i64 (K : Int), .int .i64 11]) ∧ Below W.heap.size W w') := Lib.hid (fun W h => by have h2 := h_code d W h; rw [hK, hL] at h2; exact h2)
  have HO : Hid (∀ W, Rws W → Calls Tryd.prog 11 #[.int .i64 (N : Int), .int .i64 11] W fun e w' => e = .returned (.tuple #[.int .u8 (c.toNat : Int), .bool true]) ∧ Below W.heap.size W w') := Lib.hid (fun W h => by
    have h2 := h_of (N : Int) 11 W h (int_wf (by omega) (by omega)) (by decide)
    have hf := find_cod c
    rw [hN, hM] at hf
    have e1 : fnV (N : Int) 11 = (c.toNat : Int) := by unfold fnV; rw [show findN (N : Int) 11 = some c from hf]
    have e2 : fnS (N : Int) 11 = true := by unfold fnS; rw [show findN (N : Int) 11 = some c from hf]; rfl
    rw [e1, e2] at h2
    exact h2)
  have d1 : decide ((2048 : Int) ≤ (N : Int)) = false := decide_eq_false (by omega)
  have d2 : decide ((N : Int) < 0) = false := decide_eq_false (by omega)
  have d4 : ((2047 : Int) != (N : Int)) = true := by simp; omega
  have d3 : decide ((K : Int) < 0) = false := decide_eq_false (by omega)
  have q1 : ((N : Int) == (K : Int)) = false := by have hNK : N ≠ K := fun e => hne (cod_inj (by omega) (by omega)); simp only [beq_eq_false_iff_ne, ne_eq]; omega
  have q2 : ((c.toNat : Int) == (d.toNat : Int)) = false := by
    simp only [beq_eq_false_iff_ne, ne_eq]
    intro e
    exact hne (UInt8.toNat_inj.1 (by omega))
  clear hR hN hM r1 b1 hK hL hne r2 b2
  go_enter Tryd.func4, Tryd.ntmps4
  go_wp2_with (first
    | go_skip
    | (go_at_call 9; (have hc := (HC1.out w (Hf.EnvF.rws K0.out (by simp))); (with_reducible refine hc.mono ?_); clear hc); rintro e w1 ⟨rfl, hb⟩; have K1 : Hid (EnvF w1 [rF] []) := Lib.hid (K0.out.on hb); have B1 : Hid (Below w.heap.size w w1) := Lib.hid (below_step B0.out hb); clear hb K0 B0)
    | (go_at_call 9; (have hc := (HC2.out w1 (Hf.EnvF.rws K1.out (by simp))); (with_reducible refine hc.mono ?_); clear hc); rintro e w2 ⟨rfl, hb⟩; have K2 : Hid (EnvF w2 [rF] []) := Lib.hid (K1.out.on hb); have B2 : Hid (Below w.heap.size w w2) := Lib.hid (below_step B1.out hb); clear hb K1 B1)
    | (go_at_call 11; (have hc := (HO.out w2 (Hf.EnvF.rws K2.out (by simp))); (with_reducible refine hc.mono ?_); clear hc); rintro e w3 ⟨rfl, hb⟩; have K3 : Hid (EnvF w3 [rF] []) := Lib.hid (K2.out.on hb); have B3 : Hid (Below w.heap.size w w3) := Lib.hid (below_step B2.out hb); clear hb K2 B2)
    | (go_at_call 8; (have hc := (wakes7 w3 (Hf.EnvF.rws K3.out (by simp))); (with_reducible refine hc.mono ?_); clear hc); rintro e w4 ⟨rfl, hb⟩; have K4 : Hid (EnvF w4 [rF] []) := Lib.hid (K3.out.on hb); have B4 : Hid (Below w.heap.size w w4) := Lib.hid (below_step B3.out hb); clear hb K3 B3))
  go_ret
  exact ⟨rfl, B4.out⟩
theorem la_main (c d : UInt8) (w : World) (hR : Rws w) :
    Calls Tryd.prog 4 #[.int .u8 (c.toNat : Int), .int .u8 (d.toNat : Int)] w fun e w' => e = .returned (.bool true) ∧ Below w.heap.size w w' := by
  by_cases h : c = d
  · subst h
    rcases cod_range c with ⟨h1, _⟩ | ⟨h1, _⟩ | ⟨h1, _⟩ | ⟨h1, _⟩
    · exact la_5_eq c _ w hR rfl h1
    · exact la_6_eq c _ w hR rfl h1
    · exact la_7_eq c _ w hR rfl h1
    · exact la_11_eq c _ w hR rfl h1
  · rcases cod_range c with ⟨h1, _⟩ | ⟨h1, _⟩ | ⟨h1, _⟩ | ⟨h1, _⟩ <;> rcases cod_range d with ⟨h2, _⟩ | ⟨h2, _⟩ | ⟨h2, _⟩ | ⟨h2, _⟩
    · exact la_5_5 c d _ _ w hR rfl h1 rfl h2 h
    · exact la_5_6 c d _ _ w hR rfl h1 rfl h2 h
    · exact la_5_7 c d _ _ w hR rfl h1 rfl h2 h
    · exact la_5_11 c d _ _ w hR rfl h1 rfl h2 h
    · exact la_6_5 c d _ _ w hR rfl h1 rfl h2 h
    · exact la_6_6 c d _ _ w hR rfl h1 rfl h2 h
    · exact la_6_7 c d _ _ w hR rfl h1 rfl h2 h
    · exact la_6_11 c d _ _ w hR rfl h1 rfl h2 h
    · exact la_7_5 c d _ _ w hR rfl h1 rfl h2 h
    · exact la_7_6 c d _ _ w hR rfl h1 rfl h2 h
    · exact la_7_7 c d _ _ w hR rfl h1 rfl h2 h
    · exact la_7_11 c d _ _ w hR rfl h1 rfl h2 h
    · exact la_11_5 c d _ _ w hR rfl h1 rfl h2 h
    · exact la_11_6 c d _ _ w hR rfl h1 rfl h2 h
    · exact la_11_7 c d _ _ w hR rfl h1 rfl h2 h
    · exact la_11_11 c d _ _ w hR rfl h1 rfl h2 h
end Go.Proofs.YtfjmgfahlicleaaDoor
