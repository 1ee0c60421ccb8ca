/- The walk of TextTells. -/
import Derived.Test.YtdcbafddnegpaaaDoorTxW
namespace Go.Proofs.YtdcbafddnegpaaaDoor
open Go.RowKit Hf Oct Tx
set_option linter.unusedVariables false
set_option linter.unusedSimpArgs false
set_option maxHeartbeats 1000000 in
theorem tt_great (s : List UInt8) (A : Option Addr) (n c : Nat) (w : World) (hR : Rws w) (h : 3000 < s.length ∨ 3000 < n) (hs : s.length ≤ maxLen) (hn : n ≤ maxLen) :
    Calls Tryd.prog 3 #[.string ⟨s.toArray⟩, .slice A n c] w fun e w' => e = .returned (.bool true) ∧ Below w.heap.size w w' := by
  have HW := Lib.hid (wakes8 w hR)
  clear hR
  unfold maxLen at hs hn
  by_cases h1 : 3000 < s.length
  · clear h
    go_enter Tryd.func3, Tryd.ntmps3
    go_wp2_with (go_at_call 7; (with_reducible refine HW.out.mono ?_); rintro e w1 ⟨rfl, hb1⟩; have HB1 := Lib.hid hb1; clear hb1)
    go_ret
    exact ⟨rfl, HB1.out⟩
  · have h2 : s.length ≤ 3000 := by omega
    have h3 : 3000 < n := by omega
    clear h
    go_enter Tryd.func3, Tryd.ntmps3
    go_wp2_with (go_at_call 7; (with_reducible refine HW.out.mono ?_); rintro e w1 ⟨rfl, hb1⟩; have HB1 := Lib.hid hb1; clear hb1)
    go_ret
    exact ⟨rfl, HB1.out⟩
set_option maxRecDepth 100000 in
set_option maxHeartbeats 4000000 in
theorem tt_main (s : List UInt8) (A : Option Addr) (n c : Nat) (xs : List UInt8) (w : World) (hR : Rws w) (hA : Bs w w.heap.size A n xs) (hnc : n ≤ c) (hs : s.length ≤ 3000) (hn : n ≤ 3000) :
    Calls Tryd.prog 3 #[.string ⟨s.toArray⟩, .slice A n c] w fun e w' => e = .returned (.bool true) ∧ Below w.heap.size w w' := by
  have K0 : Hid (EnvF w [bF A n xs, rF] []) := Lib.hid ((Tx.envR w hR).add0 (x := bF A n xs) hA (bs_on hA))
  have B0 : Hid (Below w.heap.size w w) := Lib.hid (Below.refl _ w)
  clear hR hA
  go_enter Tryd.func3, Tryd.ntmps3
  go_wp2_with (first
    | go_skip
    | (go_at_call 8; (have hc := (x_Take A n c xs w (Tx.EnvF.rws K0.out (by simp)) (K0.out.bs (A := A) (n := n) (xs := xs) (by simp)) hnc (by omega) (.inl (by omega))); (with_reducible refine hc.mono ?_); clear hc); rintro e w1 ⟨A1, c1, rfl, hh, hb⟩; have K1 : Hid (EnvF w1 [bF A1 (tR xs).length (tR xs), bF A n xs, rF] []) := Lib.hid (K0.out.handS hb hh); have B1 : Hid (Below w.heap.size w w1) := Lib.hid (below_step B0.out hb); clear hb hh K0 B0)
    | (go_at_call 9; (have hc := (y_Take A n c xs w1 (K1.out.bs (A := A) (n := n) (xs := xs) (by simp)) hnc (by omega) (.inl (by omega))); (with_reducible refine hc.mono ?_); clear hc); rintro e w2 ⟨A2, c2, rfl, hh, hb⟩; have K2 : Hid (EnvF w2 [bF A2 (tR xs).length (tR xs), bF A1 (tR xs).length (tR xs), bF A n xs, rF] []) := Lib.hid (K1.out.handS hb hh); have B2 : Hid (Below w.heap.size w w2) := Lib.hid (below_step B1.out hb); clear hb hh K1 B1)
    | (go_at_call 11; (have hc := (x_Plain s w2 (by omega)); (with_reducible refine hc.mono ?_); clear hc); rintro e w3 ⟨A3, c3, rfl, hh, hb⟩; have K3 : Hid (EnvF w3 [bF A3 (plB s).length (plB s), bF A2 (tR xs).length (tR xs), bF A1 (tR xs).length (tR xs), bF A n xs, rF] []) := Lib.hid (K2.out.handS hb hh); have B3 : Hid (Below w.heap.size w w3) := Lib.hid (below_step B2.out hb); clear hb hh K2 B2)
    | (go_at_call 12; (have hc := (y_Plain s w3 (by omega)); (with_reducible refine hc.mono ?_); clear hc); rintro e w4 ⟨A4, c4, rfl, hh, hb⟩; have K4 : Hid (EnvF w4 [bF A4 (plB s).length (plB s), bF A3 (plB s).length (plB s), bF A2 (tR xs).length (tR xs), bF A1 (tR xs).length (tR xs), bF A n xs, rF] []) := Lib.hid (K3.out.handS hb hh); have B4 : Hid (Below w.heap.size w w4) := Lib.hid (below_step B3.out hb); clear hb hh K3 B3)
    | (go_at_call 10; (have hc := (l_same A3 A4 (plB s).length (plB s).length c3 c4 _ _ (plB s) (plB s) w4 (K4.out.bs (A := A3) (n := (plB s).length) (xs := (plB s)) (by simp)) (K4.out.bs (A := A4) (n := (plB s).length) (xs := (plB s)) (by simp))); (with_reducible refine hc.mono ?_); clear hc); rintro e w' ⟨rfl, rfl⟩; rw [beq_self_eq_true])
    | (go_at_call 13; (have hc := (x_Bits s w4 (Tx.EnvF.rws K4.out (by simp)) (by omega)); (with_reducible refine hc.mono ?_); clear hc); rintro e w5 ⟨A5, c5, rfl, hh, hb⟩; have K5 : Hid (EnvF w5 [bF A5 (biB s).length (biB s), bF A4 (plB s).length (plB s), bF A3 (plB s).length (plB s), bF A2 (tR xs).length (tR xs), bF A1 (tR xs).length (tR xs), bF A n xs, rF] []) := Lib.hid (K4.out.handS hb hh); have B5 : Hid (Below w.heap.size w w5) := Lib.hid (below_step B4.out hb); clear hb hh K4 B4)
    | (go_at_call 14; (have hc := (y_Bits s w5 (by omega)); (with_reducible refine hc.mono ?_); clear hc); rintro e w6 ⟨A6, c6, rfl, hh, hb⟩; have K6 : Hid (EnvF w6 [bF A6 (biB s).length (biB s), bF A5 (biB s).length (biB s), bF A4 (plB s).length (plB s), bF A3 (plB s).length (plB s), bF A2 (tR xs).length (tR xs), bF A1 (tR xs).length (tR xs), bF A n xs, rF] []) := Lib.hid (K5.out.handS hb hh); have B6 : Hid (Below w.heap.size w w6) := Lib.hid (below_step B5.out hb); clear hb hh K5 B5)
    | (go_at_call 10; (have hc := (l_same A5 A6 (biB s).length (biB s).length c5 c6 _ _ (biB s) (biB s) w6 (K6.out.bs (A := A5) (n := (biB s).length) (xs := (biB s)) (by simp)) (K6.out.bs (A := A6) (n := (biB s).length) (xs := (biB s)) (by simp))); (with_reducible refine hc.mono ?_); clear hc); rintro e w' ⟨rfl, rfl⟩; rw [beq_self_eq_true])
    | (go_at_call 15; (have hc := (x_Best s w6 (Tx.EnvF.rws K6.out (by simp)) (by omega)); (with_reducible refine hc.mono ?_); clear hc); rintro e w7 ⟨A7, c7, rfl, hh, hb⟩; have K7 : Hid (EnvF w7 [bF A7 (beB s).length (beB s), bF A6 (biB s).length (biB s), bF A5 (biB s).length (biB s), bF A4 (plB s).length (plB s), bF A3 (plB s).length (plB s), bF A2 (tR xs).length (tR xs), bF A1 (tR xs).length (tR xs), bF A n xs, rF] []) := Lib.hid (K6.out.handS hb hh); have B7 : Hid (Below w.heap.size w w7) := Lib.hid (below_step B6.out hb); clear hb hh K6 B6)
    | (go_at_call 16; (have hc := (y_Best s w7 (by omega)); (with_reducible refine hc.mono ?_); clear hc); rintro e w8 ⟨A8, c8, rfl, hh, hb⟩; have K8 : Hid (EnvF w8 [bF A8 (beB s).length (beB s), bF A7 (beB s).length (beB s), bF A6 (biB s).length (biB s), bF A5 (biB s).length (biB s), bF A4 (plB s).length (plB s), bF A3 (plB s).length (plB s), bF A2 (tR xs).length (tR xs), bF A1 (tR xs).length (tR xs), bF A n xs, rF] []) := Lib.hid (K7.out.handS hb hh); have B8 : Hid (Below w.heap.size w w8) := Lib.hid (below_step B7.out hb); clear hb hh K7 B7)
    | (go_at_call 10; (have hc := (l_same A7 A8 (beB s).length (beB s).length c7 c8 _ _ (beB s) (beB s) w8 (K8.out.bs (A := A7) (n := (beB s).length) (xs := (beB s)) (by simp)) (K8.out.bs (A := A8) (n := (beB s).length) (xs := (beB s)) (by simp))); (with_reducible refine hc.mono ?_); clear hc); rintro e w' ⟨rfl, rfl⟩; rw [beq_self_eq_true])
    | (go_at_call 17; (have hc := (x_Size s w8 (Tx.EnvF.rws K8.out (by simp)) (by omega)); (with_reducible refine hc.mono ?_); clear hc); rintro e w9 ⟨rfl, hb⟩; have K9 : Hid (EnvF w9 [bF A8 (beB s).length (beB s), bF A7 (beB s).length (beB s), bF A6 (biB s).length (biB s), bF A5 (biB s).length (biB s), bF A4 (plB s).length (plB s), bF A3 (plB s).length (plB s), bF A2 (tR xs).length (tR xs), bF A1 (tR xs).length (tR xs), bF A n xs, rF] []) := Lib.hid (K8.out.on hb); have B9 : Hid (Below w.heap.size w w9) := Lib.hid (below_step B8.out hb); clear hb K8 B8)
    | (go_at_call 18; (have hc := (y_Size s w9 (by omega)); (with_reducible refine hc.mono ?_); clear hc); rintro e w10 ⟨rfl, hb⟩; have K10 : Hid (EnvF w10 [bF A8 (beB s).length (beB s), bF A7 (beB s).length (beB s), bF A6 (biB s).length (biB s), bF A5 (biB s).length (biB s), bF A4 (plB s).length (plB s), bF A3 (plB s).length (plB s), bF A2 (tR xs).length (tR xs), bF A1 (tR xs).length (tR xs), bF A n xs, rF] []) := Lib.hid (K9.out.on hb); have B10 : Hid (Below w.heap.size w w10) := Lib.hid (below_step B9.out hb); clear hb K9 B9)
    | (go_at_call 10; (have hc := (l_same A1 A2 (tR xs).length (tR xs).length c1 c2 _ _ (tR xs) (tR xs) w10 (K10.out.bs (A := A1) (n := (tR xs).length) (xs := (tR xs)) (by simp)) (K10.out.bs (A := A2) (n := (tR xs).length) (xs := (tR xs)) (by simp))); (with_reducible refine hc.mono ?_); clear hc); rintro e w' ⟨rfl, rfl⟩; rw [beq_self_eq_true])
    | (go_at_call 7; (have hc := (wakes8 w10 (Tx.EnvF.rws K10.out (by simp))); (with_reducible refine hc.mono ?_); clear hc); rintro e w11 ⟨rfl, hb⟩; have K11 : Hid (EnvF w11 [bF A8 (beB s).length (beB s), bF A7 (beB s).length (beB s), bF A6 (biB s).length (biB s), bF A5 (biB s).length (biB s), bF A4 (plB s).length (plB s), bF A3 (plB s).length (plB s), bF A2 (tR xs).length (tR xs), bF A1 (tR xs).length (tR xs), bF A n xs, rF] []) := Lib.hid (K10.out.on hb); have B11 : Hid (Below w.heap.size w w11) := Lib.hid (below_step B10.out hb); clear hb K10 B10))
  go_ret
  exact ⟨rfl, B11.out⟩
end Go.Proofs.YtdcbafddnegpaaaDoor
