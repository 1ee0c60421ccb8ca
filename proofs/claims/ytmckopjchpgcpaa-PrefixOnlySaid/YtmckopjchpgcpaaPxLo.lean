/- PrefixOnly: what is taken is put in as many bytes, or fewer; what stands behind it is the end of the bytes. -/
import Derived.Test.YtmckopjchpgcpaaPxW
import Derived.Test.YtmckopjchpgcpaaGArgs
namespace Go.Proofs.Ytmckopjchpgcpaa
open Go.RowKit Px
set_option linter.unusedVariables false
set_option linter.unusedSimpArgs false
theorem lo_great (A : Option Addr) (m c : Nat) (k : Int) (w : World) (h : 300 < m) (hm : m ≤ maxLen) :
    Calls Try.prog 5 #[.slice A m c, .int .i64 k] w fun e w' => e = .returned (.bool true) ∧ Below w.heap.size w w' := by
  have d0 : decide ((300 : Int) < (m : Int)) = true := decide_eq_true (by omega)
  go_enter Try.func5, Try.ntmps5
  go_wp2_with (go_at_call 7; (with_reducible refine (wakes6 _).mono ?_); rintro e w1 ⟨rfl, hb⟩)
  go_ret
  exact ⟨rfl, hb⟩
theorem lo_a (A : Option Addr) (m c : Nat) (k : Int) (xs : List UInt8) (w : World) (hA : Bs w w.heap.size A m xs) (hmc : m ≤ c) (hm : m ≤ 300) (h : k < 1) (hz : m = 0) (ht : (takC xs k) = (2, 0, 0)) :
    Calls Try.prog 5 #[.slice A m c, .int .i64 k] w fun e w' => e = .returned (.bool true) ∧ Below w.heap.size w w' := by
  have d0 : decide ((300 : Int) < (m : Int)) = false := decide_eq_false (by omega)
  have d1 : decide (k < 1) = true := decide_eq_true h
  have dz : ((m : Int) != 0) = false := by rw [bne_eq_false_iff_eq]; omega
  have hx := X_Take A m c xs k w hA hmc (by omega)
  rw [show takL xs k = [] from by unfold takL; rw [ht]; rfl, ht] at hx
  have HX := Lib.hid hx
  clear hx h hz ht hA
  go_enter Try.func5, Try.ntmps5
  go_wp2_with (first
    | go_skip
    | (go_at_call 10; (with_reducible refine (Calls.mono HX.out ?_)); rintro e w1 ⟨A1, c1, rfl, hh, hb⟩; have HB1 := Lib.hid hb; clear hb hh)
    | (go_at_call 7; (with_reducible refine (wakes6 w1).mono ?_); rintro e w2 ⟨rfl, hb⟩; have HB2 := Lib.hid (below_step HB1.out hb); clear hb))
  go_ret
  exact ⟨rfl, HB2.out⟩
theorem lo_b (A : Option Addr) (m c : Nat) (k : Int) (xs : List UInt8) (w : World) (hA : Bs w w.heap.size A m xs) (hmc : m ≤ c) (hm : m ≤ 300) (h : k < 1) (hz : m ≠ 0) (ht : (takC xs k) = (2, 0, 0)) :
    Calls Try.prog 5 #[.slice A m c, .int .i64 k] w fun e w' => e = .returned (.bool true) ∧ Below w.heap.size w w' := by
  have d0 : decide ((300 : Int) < (m : Int)) = false := decide_eq_false (by omega)
  have d1 : decide (k < 1) = true := decide_eq_true h
  have dz : ((m : Int) != 0) = true := by rw [bne_iff_ne]; omega
  have hx := X_Take A m c xs k w hA hmc (by omega)
  rw [show takL xs k = [] from by unfold takL; rw [ht]; rfl, ht] at hx
  have HX := Lib.hid hx
  clear hx h hz ht hA
  go_enter Try.func5, Try.ntmps5
  go_wp2_with (first
    | go_skip
    | (go_at_call 10; (with_reducible refine (Calls.mono HX.out ?_)); rintro e w1 ⟨A1, c1, rfl, hh, hb⟩; have HB1 := Lib.hid hb; clear hb hh)
    | (go_at_call 7; (with_reducible refine (wakes6 w1).mono ?_); rintro e w2 ⟨rfl, hb⟩; have HB2 := Lib.hid (below_step HB1.out hb); clear hb))
  go_ret
  exact ⟨rfl, HB2.out⟩
theorem lo_c (A : Option Addr) (m c : Nat) (k : Int) (xs : List UInt8) (w : World) (hA : Bs w w.heap.size A m xs) (hmc : m ≤ c) (hm : m ≤ 300) (h : 8 < k) (hz : m = 0) (ht : (takC xs k) = (2, 0, 0)) :
    Calls Try.prog 5 #[.slice A m c, .int .i64 k] w fun e w' => e = .returned (.bool true) ∧ Below w.heap.size w w' := by
  have d0 : decide ((300 : Int) < (m : Int)) = false := decide_eq_false (by omega)
  have d1 : decide (k < 1) = false := decide_eq_false (by omega)
  have d2 : decide (8 < k) = true := decide_eq_true h
  have dz : ((m : Int) != 0) = false := by rw [bne_eq_false_iff_eq]; omega
  have hx := X_Take A m c xs k w hA hmc (by omega)
  rw [show takL xs k = [] from by unfold takL; rw [ht]; rfl, ht] at hx
  have HX := Lib.hid hx
  clear hx h hz ht hA
  go_enter Try.func5, Try.ntmps5
  go_wp2_with (first
    | go_skip
    | (go_at_call 10; (with_reducible refine (Calls.mono HX.out ?_)); rintro e w1 ⟨A1, c1, rfl, hh, hb⟩; have HB1 := Lib.hid hb; clear hb hh)
    | (go_at_call 7; (with_reducible refine (wakes6 w1).mono ?_); rintro e w2 ⟨rfl, hb⟩; have HB2 := Lib.hid (below_step HB1.out hb); clear hb))
  go_ret
  exact ⟨rfl, HB2.out⟩
theorem lo_d (A : Option Addr) (m c : Nat) (k : Int) (xs : List UInt8) (w : World) (hA : Bs w w.heap.size A m xs) (hmc : m ≤ c) (hm : m ≤ 300) (h : 8 < k) (hz : m ≠ 0) (ht : (takC xs k) = (2, 0, 0)) :
    Calls Try.prog 5 #[.slice A m c, .int .i64 k] w fun e w' => e = .returned (.bool true) ∧ Below w.heap.size w w' := by
  have d0 : decide ((300 : Int) < (m : Int)) = false := decide_eq_false (by omega)
  have d1 : decide (k < 1) = false := decide_eq_false (by omega)
  have d2 : decide (8 < k) = true := decide_eq_true h
  have dz : ((m : Int) != 0) = true := by rw [bne_iff_ne]; omega
  have hx := X_Take A m c xs k w hA hmc (by omega)
  rw [show takL xs k = [] from by unfold takL; rw [ht]; rfl, ht] at hx
  have HX := Lib.hid hx
  clear hx h hz ht hA
  go_enter Try.func5, Try.ntmps5
  go_wp2_with (first
    | go_skip
    | (go_at_call 10; (with_reducible refine (Calls.mono HX.out ?_)); rintro e w1 ⟨A1, c1, rfl, hh, hb⟩; have HB1 := Lib.hid hb; clear hb hh)
    | (go_at_call 7; (with_reducible refine (wakes6 w1).mono ?_); rintro e w2 ⟨rfl, hb⟩; have HB2 := Lib.hid (below_step HB1.out hb); clear hb))
  go_ret
  exact ⟨rfl, HB2.out⟩
theorem lo_e (A : Option Addr) (m c : Nat) (k : Int) (xs : List UInt8) (w : World) (hA : Bs w w.heap.size A m xs) (hmc : m ≤ c) (hm : m ≤ 300) (h : 1 ≤ k ∧ k ≤ 8) (hz : m = 0) (ht : (takC xs k) = (10, 0, 0)) :
    Calls Try.prog 5 #[.slice A m c, .int .i64 k] w fun e w' => e = .returned (.bool true) ∧ Below w.heap.size w w' := by
  have d0 : decide ((300 : Int) < (m : Int)) = false := decide_eq_false (by omega)
  have d1 : decide (k < 1) = false := decide_eq_false (by omega)
  have d2 : decide (8 < k) = false := decide_eq_false (by omega)
  have dz : ((m : Int) != 0) = false := by rw [bne_eq_false_iff_eq]; omega
  have hx := X_Take A m c xs k w hA hmc (by omega)
  rw [show takL xs k = [] from by unfold takL; rw [ht]; rfl, ht] at hx
  have HX := Lib.hid hx
  clear hx h hz ht hA
  go_enter Try.func5, Try.ntmps5
  go_wp2_with (first
    | go_skip
    | (go_at_call 10; (with_reducible refine (Calls.mono HX.out ?_)); rintro e w1 ⟨A1, c1, rfl, hh, hb⟩; have HB1 := Lib.hid hb; clear hb hh)
    | (go_at_call 7; (with_reducible refine (wakes6 w1).mono ?_); rintro e w2 ⟨rfl, hb⟩; have HB2 := Lib.hid (below_step HB1.out hb); clear hb))
  go_ret
  exact ⟨rfl, HB2.out⟩
theorem lo_f (A : Option Addr) (m c : Nat) (k : Int) (xs : List UInt8) (w : World) (hA : Bs w w.heap.size A m xs) (hmc : m ≤ c) (hm : m ≤ 300) (h : 1 ≤ k ∧ k ≤ 8) (hz : m ≠ 0) (ht : (takC xs k) = (10, 0, 0)) :
    Calls Try.prog 5 #[.slice A m c, .int .i64 k] w fun e w' => e = .returned (.bool true) ∧ Below w.heap.size w w' := by
  have d0 : decide ((300 : Int) < (m : Int)) = false := decide_eq_false (by omega)
  have d1 : decide (k < 1) = false := decide_eq_false (by omega)
  have d2 : decide (8 < k) = false := decide_eq_false (by omega)
  have dz : ((m : Int) != 0) = true := by rw [bne_iff_ne]; omega
  have hx := X_Take A m c xs k w hA hmc (by omega)
  rw [show takL xs k = [] from by unfold takL; rw [ht]; rfl, ht] at hx
  have HX := Lib.hid hx
  clear hx h hz ht hA
  go_enter Try.func5, Try.ntmps5
  go_wp2_with (first
    | go_skip
    | (go_at_call 10; (with_reducible refine (Calls.mono HX.out ?_)); rintro e w1 ⟨A1, c1, rfl, hh, hb⟩; have HB1 := Lib.hid hb; clear hb hh)
    | (go_at_call 7; (with_reducible refine (wakes6 w1).mono ?_); rintro e w2 ⟨rfl, hb⟩; have HB2 := Lib.hid (below_step HB1.out hb); clear hb))
  go_ret
  exact ⟨rfl, HB2.out⟩
theorem lo_g (A : Option Addr) (m c : Nat) (k : Int) (xs : List UInt8) (w : World) (hA : Bs w w.heap.size A m xs) (hmc : m ≤ c) (hm : m ≤ 300) (h : 1 ≤ k ∧ k ≤ 8) (hz : m ≠ 0) (ht : (takC xs k) = (60, 0, 0)) :
    Calls Try.prog 5 #[.slice A m c, .int .i64 k] w fun e w' => e = .returned (.bool true) ∧ Below w.heap.size w w' := by
  have d0 : decide ((300 : Int) < (m : Int)) = false := decide_eq_false (by omega)
  have d1 : decide (k < 1) = false := decide_eq_false (by omega)
  have d2 : decide (8 < k) = false := decide_eq_false (by omega)
  have dz : ((m : Int) != 0) = true := by rw [bne_iff_ne]; omega
  have hx := X_Take A m c xs k w hA hmc (by omega)
  rw [show takL xs k = [] from by unfold takL; rw [ht]; rfl, ht] at hx
  have HX := Lib.hid hx
  clear hx h hz ht hA
  go_enter Try.func5, Try.ntmps5
  go_wp2_with (first
    | go_skip
    | (go_at_call 10; (with_reducible refine (Calls.mono HX.out ?_)); rintro e w1 ⟨A1, c1, rfl, hh, hb⟩; have HB1 := Lib.hid hb; clear hb hh)
    | (go_at_call 7; (with_reducible refine (wakes6 w1).mono ?_); rintro e w2 ⟨rfl, hb⟩; have HB2 := Lib.hid (below_step HB1.out hb); clear hb))
  go_ret
  exact ⟨rfl, HB2.out⟩
set_option maxRecDepth 100000 in
set_option maxHeartbeats 4000000 in
theorem lo_yes (A : Option Addr) (m c k N U : Nat) (xs : List UInt8) (w : World) (hA : Bs w w.heap.size A m xs) (hmc : m ≤ c) (hm : m ≤ 300) (h1 : 1 ≤ k) (h8 : k ≤ 8) (ht : takeN xs k = (0, N, U)) :
    Calls Try.prog 5 #[.slice A m c, .int .i64 (k : Int)] w fun e w' => e = .returned (.bool true) ∧ Below w.heap.size w w' := by
  have hl := hA.1
  obtain ⟨q1, q2, q3, q4, q5⟩ := take_only h8 ht
  rw [hl] at q4
  have hmay : MayN (N : Int) (k : Int) := ⟨⟨by omega, by omega⟩, by omega, by omega⟩
  have hx := Lib.hid (fun w hA => X_Take A m c xs (k : Int) w hA hmc (by omega))
  rw [show takL xs (k : Int) = xs.drop U from by unfold takL; rw [takC_yes h1 h8, ht]; rfl, takC_yes h1 h8, ht] at hx
  have hp : Hid (∀ w : World, Calls Try.prog 8 #[.int .i64 (N : Int), .int .i64 (k : Int), .int .u8 0] w fun e w' => ∃ A c, e = .returned (.tuple #[.slice A (putL (N : Int) (k : Int) 0).length c, .int .i64 (putE (N : Int) (k : Int))]) ∧ HandS w' w.heap.size A (putL (N : Int) (k : Int) 0).length c (putL (N : Int) (k : Int) 0) ∧ Below w.heap.size w w') := Lib.hid (fun w => X_Put (N : Int) (k : Int) 0 w)
  rw [putE_yes hmay, putL_yes hmay, numB_len_putN] at hp
  have hdl : (xs.drop U).length = m - U := by rw [List.length_drop, hl]
  rw [hdl] at hx
  obtain ⟨b, o, rfl, hb, _⟩ := bs_cell hA (by omega)
  have hcut := hA.cut (k := U) q4 hmc
  obtain ⟨A2, hA2⟩ : ∃ A2, (if c = U then some (⟨b, o, none⟩ : Addr) else some ⟨b, o + U, none⟩) = A2 := ⟨_, rfl⟩
  rw [hA2] at hcut
  have HX := Lib.hid hx
  have HP := Lib.hid hp
  generalize xs.drop U = R at *
  generalize (numB N k).length = PN at *
  generalize putN N k 0 = PL at *
  have d0 : decide ((300 : Int) < (m : Int)) = false := decide_eq_false (by omega)
  have hu : (m : Int) - ((m - U : Nat) : Int) = (U : Int) := by omega
  have d1 : decide ((1 : Int) ≤ (U : Int)) = true := decide_eq_true (by omega)
  have d2 : decide ((U : Int) ≤ 6) = true := decide_eq_true (by omega)
  have d3 : decide ((PN : Int) ≤ (U : Int)) = true := decide_eq_true (by omega)
  have d3' : decide (PN ≤ U) = true := decide_eq_true (by omega)
  have d4 : decide ((0 : Int) ≤ (N : Int)) = true := decide_eq_true (by omega)
  have d5 : decide ((N : Int) ≤ 2147483647) = true := decide_eq_true (by omega)
  have s1 : (U : Int) ≤ (m : Int) := by omega
  have s2 : (U : Int) ≤ (c : Int) := by omega
  have s3 : 0 ≤ (U : Int) := by omega
  have hle : m - U ≤ m := by omega
  generalize hr : m - U = r at *
  have K0 : Hid (EnvF w [bF A2 r R, bF (some ⟨b, o, none⟩) m xs] []) := Lib.hid (((EnvF.nil w).addB hA).addB hcut)
  have B0 : Hid (Below w.heap.size w w) := Lib.hid (Below.refl _ w)
  clear hA hcut hx hp ht q5 hdl
  go_enter Try.func5, Try.ntmps5
  go_wp2_with (first
    | go_skip
    | (go_at_call 10; (have hc := (HX.out.out w (K0.out.bs (A := (some ⟨b, o, none⟩)) (n := m) (xs := xs) (by simp))); (with_reducible refine hc.mono ?_); clear hc); rintro e w1 ⟨A1, c1, rfl, hh, hb⟩; have K1 : Hid (EnvF w1 [bF A1 r R, bF A2 r R, bF (some ⟨b, o, none⟩) m xs] []) := Lib.hid (K0.out.handS hb hh); have B1 : Hid (Below w.heap.size w w1) := Lib.hid (below_step B0.out hb); clear hb hh K0 B0)
    | (go_at_call 8; (have hc := (HP.out.out w1); (with_reducible refine hc.mono ?_); clear hc); rintro e w2 ⟨A3, c3, rfl, hh, hb⟩; have K2 : Hid (EnvF w2 [bF A3 PN PL, bF A1 r R, bF A2 r R, bF (some ⟨b, o, none⟩) m xs] []) := Lib.hid (K1.out.handS hb hh); have B2 : Hid (Below w.heap.size w w2) := Lib.hid (below_step B1.out hb); clear hb hh K1 B1)
    | (go_at_call 14; (have hc := (x_same A1 A2 r r c1 (c - U) _ _ R R w2 (K2.out.bs (A := A1) (n := r) (xs := R) (by simp)) (K2.out.bs (A := A2) (n := r) (xs := R) (by simp))); (with_reducible refine hc.mono ?_); clear hc); rintro e w' ⟨rfl, rfl⟩; rw [beq_self_eq_true])
    | (go_at_call 7; (have hc := (wakes6 w2); (with_reducible refine hc.mono ?_); clear hc); rintro e w3 ⟨rfl, hb⟩; have K3 : Hid (EnvF w3 [bF A3 PN PL, bF A1 r R, bF A2 r R, bF (some ⟨b, o, none⟩) m xs] []) := Lib.hid (K2.out.on hb); have B3 : Hid (Below w.heap.size w w3) := Lib.hid (below_step B2.out hb); clear hb K2 B2))
  go_ret
  exact ⟨rfl, B3.out⟩
end Go.Proofs.Ytmckopjchpgcpaa
