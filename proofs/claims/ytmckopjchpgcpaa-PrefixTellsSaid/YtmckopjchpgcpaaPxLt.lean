/- PrefixTells: the program tells what the document tells, of numbers' bytes, sizes, numbers of bytes, upper bits. -/
import Derived.Test.YtmckopjchpgcpaaPxW
import Derived.Test.YtmckopjchpgcpaaGArgs
namespace Go.Proofs.Ytmckopjchpgcpaa
open Go.RowKit Px
set_option linter.unusedVariables false
set_option linter.unusedSimpArgs false
theorem lt_great (n k u : Int) (A : Option Addr) (m c : Nat) (w : World) (h : 300 < m) (hm : m ≤ maxLen) :
    Calls Try.prog 3 #[.int .i64 n, .int .i64 k, .int .u8 u, .slice A m c] w fun e w' => e = .returned (.bool true) ∧ Below w.heap.size w w' := by
  have d0 : decide ((300 : Int) < (m : Int)) = true := decide_eq_true (by omega)
  go_enter Try.func3, Try.ntmps3
  go_wp2_with (go_at_call 7; (with_reducible refine (wakes6 _).mono ?_); rintro e w1 ⟨rfl, hb⟩)
  go_ret
  exact ⟨rfl, hb⟩
set_option maxRecDepth 100000 in
set_option maxHeartbeats 4000000 in
theorem lt_yes (n k : Int) (u : UInt8) (A : Option Addr) (m c : Nat) (xs : List UInt8) (w : World) (hA : Bs w w.heap.size A m xs) (hmc : m ≤ c) (hm : m ≤ 300) :
    Calls Try.prog 3 #[.int .i64 n, .int .i64 k, .int .u8 (u.toNat : Int), .slice A m c] w fun e w' => e = .returned (.bool true) ∧ Below w.heap.size w w' := by
  have d0 : decide ((300 : Int) < (m : Int)) = false := decide_eq_false (by omega)
  have HX1 := Lib.hid (fun w => X_Put n k u w)
  have HY1 := Lib.hid (fun w => Y_Put n k u w)
  have HX2 := Lib.hid (fun w => X_Size n k w)
  have HY2 := Lib.hid (fun w => Y_Size n k w)
  have HX3 := Lib.hid (fun w hA => X_Take A m c xs k w hA hmc (by omega))
  have HY3 := Lib.hid (fun w hA => Y_Take A m c xs k w hA hmc (by omega))
  have HX4 := Lib.hid (fun w hA => X_Upper A m c xs k w hA)
  have HY4 := Lib.hid (fun w hA => Y_Upper A m c xs k w hA)
  generalize putL n k u.toNat = PL at *
  generalize PL.length = PN at *
  generalize putE n k = PE at *
  generalize sizeV n k = SV at *
  generalize (takC xs k).2.1 = TV at *
  generalize (takC xs k).1 = TE at *
  generalize takL xs k = TL at *
  generalize TL.length = TN at *
  generalize upV xs k = UV at *
  generalize upE xs k = UE at *
  have K0 : Hid (EnvF w [bF A m xs] []) := Lib.hid ((EnvF.nil w).addB hA)
  have B0 : Hid (Below w.heap.size w w) := Lib.hid (Below.refl _ w)
  clear hA
  go_enter Try.func3, Try.ntmps3
  go_wp2_with (first
    | go_skip
    | (go_at_call 8; (have hc := (HX1.out w); (with_reducible refine hc.mono ?_); clear hc); rintro e w1 ⟨A1, c1, rfl, hh, hb⟩; have K1 : Hid (EnvF w1 [bF A1 PN PL, bF A m xs] []) := Lib.hid (K0.out.handS hb hh); have B1 : Hid (Below w.heap.size w w1) := Lib.hid (below_step B0.out hb); clear hb hh K0 B0)
    | (go_at_call 9; (have hc := (HY1.out w1); (with_reducible refine hc.mono ?_); clear hc); rintro e w2 ⟨A2, c2, rfl, hh, hb⟩; have K2 : Hid (EnvF w2 [bF A2 PN PL, bF A1 PN PL, bF A m xs] []) := Lib.hid (K1.out.handS hb hh); have B2 : Hid (Below w.heap.size w w2) := Lib.hid (below_step B1.out hb); clear hb hh K1 B1)
    | (go_at_call 10; (have hc := (HX3.out w2 (K2.out.bs (A := A) (n := m) (xs := xs) (by simp))); (with_reducible refine hc.mono ?_); clear hc); rintro e w3 ⟨A3, c3, rfl, hh, hb⟩; have K3 : Hid (EnvF w3 [bF A3 TN TL, bF A2 PN PL, bF A1 PN PL, bF A m xs] []) := Lib.hid (K2.out.handS hb hh); have B3 : Hid (Below w.heap.size w w3) := Lib.hid (below_step B2.out hb); clear hb hh K2 B2)
    | (go_at_call 11; (have hc := (HY3.out w3 (K3.out.bs (A := A) (n := m) (xs := xs) (by simp))); (with_reducible refine hc.mono ?_); clear hc); rintro e w4 ⟨A4, c4, rfl, hh, hb⟩; have K4 : Hid (EnvF w4 [bF A4 TN TL, bF A3 TN TL, bF A2 PN PL, bF A1 PN PL, bF A m xs] []) := Lib.hid (K3.out.handS hb hh); have B4 : Hid (Below w.heap.size w w4) := Lib.hid (below_step B3.out hb); clear hb hh K3 B3)
    | (go_at_call 12; (have hc := (HX4.out w4 (K4.out.bs (A := A) (n := m) (xs := xs) (by simp))); (with_reducible refine hc.mono ?_); clear hc); rintro e w5 ⟨rfl, hb⟩; have K5 : Hid (EnvF w5 [bF A4 TN TL, bF A3 TN TL, bF A2 PN PL, bF A1 PN PL, bF A m xs] []) := Lib.hid (K4.out.on hb); have B5 : Hid (Below w.heap.size w w5) := Lib.hid (below_step B4.out hb); clear hb K4 B4)
    | (go_at_call 13; (have hc := (HY4.out w5 (K5.out.bs (A := A) (n := m) (xs := xs) (by simp))); (with_reducible refine hc.mono ?_); clear hc); rintro e w6 ⟨rfl, hb⟩; have K6 : Hid (EnvF w6 [bF A4 TN TL, bF A3 TN TL, bF A2 PN PL, bF A1 PN PL, bF A m xs] []) := Lib.hid (K5.out.on hb); have B6 : Hid (Below w.heap.size w w6) := Lib.hid (below_step B5.out hb); clear hb K5 B5)
    | (go_at_call 14; (have hc := (x_same A1 A2 PN PN c1 c2 _ _ PL PL w6 (K6.out.bs (A := A1) (n := PN) (xs := PL) (by simp)) (K6.out.bs (A := A2) (n := PN) (xs := PL) (by simp))); (with_reducible refine hc.mono ?_); clear hc); rintro e w' ⟨rfl, rfl⟩; rw [beq_self_eq_true])
    | (go_at_call 15; (have hc := (HX2.out w6); (with_reducible refine hc.mono ?_); clear hc); rintro e w7 ⟨rfl, hb⟩; have K7 : Hid (EnvF w7 [bF A4 TN TL, bF A3 TN TL, bF A2 PN PL, bF A1 PN PL, bF A m xs] []) := Lib.hid (K6.out.on hb); have B7 : Hid (Below w.heap.size w w7) := Lib.hid (below_step B6.out hb); clear hb K6 B6)
    | (go_at_call 16; (have hc := (HY2.out w7); (with_reducible refine hc.mono ?_); clear hc); rintro e w8 ⟨rfl, hb⟩; have K8 : Hid (EnvF w8 [bF A4 TN TL, bF A3 TN TL, bF A2 PN PL, bF A1 PN PL, bF A m xs] []) := Lib.hid (K7.out.on hb); have B8 : Hid (Below w.heap.size w w8) := Lib.hid (below_step B7.out hb); clear hb K7 B7)
    | (go_at_call 14; (have hc := (x_same A3 A4 TN TN c3 c4 _ _ TL TL w8 (K8.out.bs (A := A3) (n := TN) (xs := TL) (by simp)) (K8.out.bs (A := A4) (n := TN) (xs := TL) (by simp))); (with_reducible refine hc.mono ?_); clear hc); rintro e w' ⟨rfl, rfl⟩; rw [beq_self_eq_true])
    | (go_at_call 7; (have hc := (wakes6 w8); (with_reducible refine hc.mono ?_); clear hc); rintro e w9 ⟨rfl, hb⟩; have K9 : Hid (EnvF w9 [bF A4 TN TL, bF A3 TN TL, bF A2 PN PL, bF A1 PN PL, bF A m xs] []) := Lib.hid (K8.out.on hb); have B9 : Hid (Below w.heap.size w w9) := Lib.hid (below_step B8.out hb); clear hb K8 B8))
  go_ret
  exact ⟨rfl, B9.out⟩
end Go.Proofs.Ytmckopjchpgcpaa
