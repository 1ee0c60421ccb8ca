/- CutParts. -/
import Derived.Test.YtolminjedgoggaaCuPa
import Derived.Test.YtolminjedgoggaaCuPb
import Derived.Test.YtolminjedgoggaaGTop
namespace Go.Proofs.Ytolminjedgoggaa
open Go.RowKit Oct Cu Go.Shelf
set_option linter.unusedVariables false
set_option linter.unusedSimpArgs false
theorem at_bi {P : Program} {ops : Array Oper} {rest : List Oper} {o : Oper} {a : Act} {w : World} {Q : Exit → Act → World → Prop} (b : Builtin) (xs : Array Operand) (ts : Array TypeId) (_ : o.op = .call { callee := .builtin b, args := xs, argTypes := ts }) (h : wpList P ops Q (o :: rest) a w) : wpList P ops Q (o :: rest) a w := h
theorem wpList_val {P : Program} {ops : Array Oper} {rest : List Oper} {op : Oper} {a : Act} {w : World} {Q : Exit → Act → World → Prop} (hgd : op.guard = none) (v : Value)
    (hr : (execOp a.eval op).run P w = .ok (.value v) w) (h : wpList P ops Q rest (a.put op.dst v) w) : wpList P ops Q (op :: rest) a w :=
  wpList_plain hgd fun _ hK => by
    unfold Oper.wp
    rw [hr]
    exact hK _ _ h
set_option maxRecDepth 100000 in
set_option maxHeartbeats 4000000 in
theorem parts_g1 (p a : Int) (A : Option Addr) (n c : Nat) (r : List UInt8) (A2 : Option Addr) (n2 c2 : Nat) (cs : List UInt8) (w : World) (hA : Bs w w.heap.size A n r) (hN : A = none → c = 0) (hnc : n ≤ c) (hA2 : Bs w w.heap.size A2 n2 cs) (hN2 : A2 = none → c2 = 0) (hnc2 : n2 ≤ c2) (hb1 : decide ((600 : Int) < (n : Int)) = true) :
    Calls Try.prog 4 #[.agg #[.int .i64 p, .slice A n c], .slice A2 n2 c2, .int .i64 a] w fun e w' => e = .returned (.bool true) ∧ Below w.heap.size w w' := by
  have K0 : Hid (EnvF (w.alloc (.cells #[.int .i64 p, .slice A n c] 40)) [bF A2 n2 cs, bF A n r] [(w.heap.size, #[.int .i64 p, .slice A n c], 40)]) := Lib.hid ((((EnvF.nil w).addB hA).addB hA2).boxg 40 #[.int .i64 p, .slice A n c] (w.heap.size) (by simp))
  have B0 : Hid (Below w.heap.size w (w.alloc (.cells #[.int .i64 p, .slice A n c] 40))) := Lib.hid ((Below.refl _ w).alloc (by first | exact Nat.le_refl _ | (simp only [World.size_alloc]; omega)) (.cells #[.int .i64 p, .slice A n c] 40))
  obtain ⟨r_0, r_1⟩ := cells2_row (K0.out.row 0 rfl)
  go_enter Try.func4, Try.ntmps4
  go_wp2_with (first
    | go_skip
    | (go_at_call 11; (have hc := (c_great' A n c _ hb1 (w.alloc (.cells #[.int .i64 p, .slice A n c] 40))); (with_reducible refine hc.mono ?_); clear hc); rintro e w1 ⟨rfl, hb⟩; have K1 : Hid (EnvF w1 [bF A2 n2 cs, bF A n r] [(w.heap.size, #[.int .i64 p, .slice A n c], 40)]) := Lib.hid (K0.out.on hb); have B1 : Hid (Below w.heap.size w w1) := Lib.hid (below_step B0.out hb); clear hb K0 B0)
    | (go_at_call 13; (have hc := (wakes5 w1); (with_reducible refine hc.mono ?_); clear hc); rintro e w2 ⟨rfl, hb⟩; have K2 : Hid (EnvF w2 [bF A2 n2 cs, bF A n r] [(w.heap.size, #[.int .i64 p, .slice A n c], 40)]) := Lib.hid (K1.out.on hb); have B2 : Hid (Below w.heap.size w w2) := Lib.hid (below_step B1.out hb); clear hb K1 B1))
  all_goals
    go_ret
    exact ⟨by first | rfl | simp, B2.out⟩
set_option maxRecDepth 100000 in
set_option maxHeartbeats 4000000 in
theorem parts_g2 (p a : Int) (A : Option Addr) (n c : Nat) (r : List UInt8) (A2 : Option Addr) (n2 c2 : Nat) (cs : List UInt8) (w : World) (hA : Bs w w.heap.size A n r) (hN : A = none → c = 0) (hnc : n ≤ c) (hA2 : Bs w w.heap.size A2 n2 cs) (hN2 : A2 = none → c2 = 0) (hnc2 : n2 ≤ c2) (hb1 : decide ((600 : Int) < (n : Int)) = false) (hb2 : decide ((600 : Int) < (n2 : Int)) = true) :
    Calls Try.prog 4 #[.agg #[.int .i64 p, .slice A n c], .slice A2 n2 c2, .int .i64 a] w fun e w' => e = .returned (.bool true) ∧ Below w.heap.size w w' := by
  have K0 : Hid (EnvF (w.alloc (.cells #[.int .i64 p, .slice A n c] 40)) [bF A2 n2 cs, bF A n r] [(w.heap.size, #[.int .i64 p, .slice A n c], 40)]) := Lib.hid ((((EnvF.nil w).addB hA).addB hA2).boxg 40 #[.int .i64 p, .slice A n c] (w.heap.size) (by simp))
  have B0 : Hid (Below w.heap.size w (w.alloc (.cells #[.int .i64 p, .slice A n c] 40))) := Lib.hid ((Below.refl _ w).alloc (by first | exact Nat.le_refl _ | (simp only [World.size_alloc]; omega)) (.cells #[.int .i64 p, .slice A n c] 40))
  obtain ⟨r_0, r_1⟩ := cells2_row (K0.out.row 0 rfl)
  go_enter Try.func4, Try.ntmps4
  go_wp2_with (first
    | go_skip
    | (go_at_call 11; (have hc := (c_great' A n c _ hb1 (w.alloc (.cells #[.int .i64 p, .slice A n c] 40))); (with_reducible refine hc.mono ?_); clear hc); rintro e w1 ⟨rfl, hb⟩; have K1 : Hid (EnvF w1 [bF A2 n2 cs, bF A n r] [(w.heap.size, #[.int .i64 p, .slice A n c], 40)]) := Lib.hid (K0.out.on hb); have B1 : Hid (Below w.heap.size w w1) := Lib.hid (below_step B0.out hb); clear hb K0 B0)
    | (go_at_call 11; (have hc := (c_great' A2 n2 c2 _ hb2 w1); (with_reducible refine hc.mono ?_); clear hc); rintro e w2 ⟨rfl, hb⟩; have K2 : Hid (EnvF w2 [bF A2 n2 cs, bF A n r] [(w.heap.size, #[.int .i64 p, .slice A n c], 40)]) := Lib.hid (K1.out.on hb); have B2 : Hid (Below w.heap.size w w2) := Lib.hid (below_step B1.out hb); clear hb K1 B1)
    | (go_at_call 13; (have hc := (wakes5 w2); (with_reducible refine hc.mono ?_); clear hc); rintro e w3 ⟨rfl, hb⟩; have K3 : Hid (EnvF w3 [bF A2 n2 cs, bF A n r] [(w.heap.size, #[.int .i64 p, .slice A n c], 40)]) := Lib.hid (K2.out.on hb); have B3 : Hid (Below w.heap.size w w3) := Lib.hid (below_step B2.out hb); clear hb K2 B2))
  all_goals
    go_ret
    exact ⟨by first | rfl | simp, B3.out⟩
set_option maxRecDepth 100000 in
set_option maxHeartbeats 4000000 in
theorem parts_no (p a : Int) (A : Option Addr) (n c : Nat) (r : List UInt8) (A2 : Option Addr) (n2 c2 : Nat) (cs : List UInt8) (w : World) (hA : Bs w w.heap.size A n r) (hN : A = none → c = 0) (hnc : n ≤ c) (hA2 : Bs w w.heap.size A2 n2 cs) (hN2 : A2 = none → c2 = 0) (hnc2 : n2 ≤ c2) (hb1 : decide ((600 : Int) < (n : Int)) = false) (hb2 : decide ((600 : Int) < (n2 : Int)) = false) (hR : ¬ RightR p r) (hn : n ≤ 600) :
    Calls Try.prog 4 #[.agg #[.int .i64 p, .slice A n c], .slice A2 n2 c2, .int .i64 a] w fun e w' => e = .returned (.bool true) ∧ Below w.heap.size w w' := by
  have eR := decide_eq_false hR
  have K0 : Hid (EnvF (w.alloc (.cells #[.int .i64 p, .slice A n c] 40)) [bF A2 n2 cs, bF A n r] [(w.heap.size, #[.int .i64 p, .slice A n c], 40)]) := Lib.hid ((((EnvF.nil w).addB hA).addB hA2).boxg 40 #[.int .i64 p, .slice A n c] (w.heap.size) (by simp))
  have B0 : Hid (Below w.heap.size w (w.alloc (.cells #[.int .i64 p, .slice A n c] 40))) := Lib.hid ((Below.refl _ w).alloc (by first | exact Nat.le_refl _ | (simp only [World.size_alloc]; omega)) (.cells #[.int .i64 p, .slice A n c] 40))
  obtain ⟨r_0, r_1⟩ := cells2_row (K0.out.row 0 rfl)
  go_enter Try.func4, Try.ntmps4
  go_wp2_with (first
    | go_skip
    | (go_at_call 11; (have hc := (c_great' A n c _ hb1 (w.alloc (.cells #[.int .i64 p, .slice A n c] 40))); (with_reducible refine hc.mono ?_); clear hc); rintro e w1 ⟨rfl, hb⟩; have K1 : Hid (EnvF w1 [bF A2 n2 cs, bF A n r] [(w.heap.size, #[.int .i64 p, .slice A n c], 40)]) := Lib.hid (K0.out.on hb); have B1 : Hid (Below w.heap.size w w1) := Lib.hid (below_step B0.out hb); clear hb K0 B0)
    | (go_at_call 11; (have hc := (c_great' A2 n2 c2 _ hb2 w1); (with_reducible refine hc.mono ?_); clear hc); rintro e w2 ⟨rfl, hb⟩; have K2 : Hid (EnvF w2 [bF A2 n2 cs, bF A n r] [(w.heap.size, #[.int .i64 p, .slice A n c], 40)]) := Lib.hid (K1.out.on hb); have B2 : Hid (Below w.heap.size w w2) := Lib.hid (below_step B1.out hb); clear hb K1 B1)
    | (refine at_load 40 (.tmp 3) (by rfl) ?_; refine wpListG_row (by kernel_rfl) 40 (.tmp 3) (by rfl) (w.heap.size) (by rfl) 40 #[.int .i64 p, .slice A n c] _ (K2.out.row 0 rfl) Try.underlying40 (by rfl) infoc_R ?_)
    | (go_at_call 12; (have hc := ((eR ▸ d_right p A n c r _ (K2.out.bs (A := A) (n := n) (xs := r) (by simp)) hnc (by omega))); (with_reducible refine hc.mono ?_); clear hc); rintro e w3 ⟨rfl, hb⟩; have K3 : Hid (EnvF w3 [bF A2 n2 cs, bF A n r] [(w.heap.size, #[.int .i64 p, .slice A n c], 40)]) := Lib.hid (K2.out.on hb); have B3 : Hid (Below w.heap.size w w3) := Lib.hid (below_step B2.out hb); clear hb K2 B2)
    | (go_at_call 13; (have hc := (wakes5 w3); (with_reducible refine hc.mono ?_); clear hc); rintro e w4 ⟨rfl, hb⟩; have K4 : Hid (EnvF w4 [bF A2 n2 cs, bF A n r] [(w.heap.size, #[.int .i64 p, .slice A n c], 40)]) := Lib.hid (K3.out.on hb); have B4 : Hid (Below w.heap.size w w4) := Lib.hid (below_step B3.out hb); clear hb K3 B3))
  all_goals
    go_ret
    exact ⟨by first | rfl | simp, B4.out⟩
set_option maxRecDepth 100000 in
set_option maxHeartbeats 4000000 in
theorem parts_stop (p a : Int) {P RN X LN m P1 RN1 : Nat} {R R1 : List UInt8} {L : List (List UInt8)} (A : Option Addr) (n c : Nat) (r : List UInt8) (A2 : Option Addr) (n2 c2 : Nat) (cs : List UInt8) (w : World) (hA : Bs w w.heap.size A n r) (hN : A = none → c = 0) (hnc : n ≤ c) (hA2 : Bs w w.heap.size A2 n2 cs) (hN2 : A2 = none → c2 = 0) (hnc2 : n2 ≤ c2) (hb1 : decide ((600 : Int) < (n : Int)) = false) (hb2 : decide ((600 : Int) < (n2 : Int)) = false) (hR : RightR p r) (hn : n ≤ 600) (hn2 : n2 ≤ 600) (HFD : Hid (FeedTo p r n cs n2 P R RN X true L LN)) (HFD1 : Hid (FeedTo p r n (cs.take m) m P1 R1 RN1 X true L LN)) (hm2 : m ≤ n2) (mx : Int) (emx : (if a < 0 then 0 else a) = mx) (emn : (if (n2 : Int) < mx then (n2 : Int) else mx) = (m : Int)) (hRN : RN ≤ 1000000) (hRN1 : RN1 ≤ 1000000) (hLN : LN ≤ 100000) (eR2 : Hid (decide (RightR (P : Int) R) = true)) (eR3 : Hid (decide (RightR (P1 : Int) R1) = true)) :
    Calls Try.prog 4 #[.agg #[.int .i64 p, .slice A n c], .slice A2 n2 c2, .int .i64 a] w fun e w' => e = .returned (.bool true) ∧ Below w.heap.size w w' := by
  have eR := decide_eq_true hR
  have HN := Lib.hid hN
  have HN2 := Lib.hid hN2
  clear hN hN2
  have K0 : Hid (EnvF (w.alloc (.cells #[.int .i64 p, .slice A n c] 40)) [bF A2 n2 cs, bF A n r] [(w.heap.size, #[.int .i64 p, .slice A n c], 40)]) := Lib.hid ((((EnvF.nil w).addB hA).addB hA2).boxg 40 #[.int .i64 p, .slice A n c] (w.heap.size) (by simp))
  have B0 : Hid (Below w.heap.size w (w.alloc (.cells #[.int .i64 p, .slice A n c] 40))) := Lib.hid ((Below.refl _ w).alloc (by first | exact Nat.le_refl _ | (simp only [World.size_alloc]; omega)) (.cells #[.int .i64 p, .slice A n c] 40))
  obtain ⟨r_0, r_1⟩ := cells2_row (K0.out.row 0 rfl)
  go_enter Try.func4, Try.ntmps4
  go_wp2_with (first
    | go_skip
    | (go_at_call 11; (have hc := (c_great' A n c _ hb1 (w.alloc (.cells #[.int .i64 p, .slice A n c] 40))); (with_reducible refine hc.mono ?_); clear hc); rintro e w1 ⟨rfl, hb⟩; have K1 : Hid (EnvF w1 [bF A2 n2 cs, bF A n r] [(w.heap.size, #[.int .i64 p, .slice A n c], 40)]) := Lib.hid (K0.out.on hb); have B1 : Hid (Below w.heap.size w w1) := Lib.hid (below_step B0.out hb); clear hb K0 B0)
    | (go_at_call 11; (have hc := (c_great' A2 n2 c2 _ hb2 w1); (with_reducible refine hc.mono ?_); clear hc); rintro e w2 ⟨rfl, hb⟩; have K2 : Hid (EnvF w2 [bF A2 n2 cs, bF A n r] [(w.heap.size, #[.int .i64 p, .slice A n c], 40)]) := Lib.hid (K1.out.on hb); have B2 : Hid (Below w.heap.size w w2) := Lib.hid (below_step B1.out hb); clear hb K1 B1)
    | (refine at_load 40 (.tmp 3) (by rfl) ?_; refine wpListG_row (by kernel_rfl) 40 (.tmp 3) (by rfl) (w.heap.size) (by rfl) 40 #[.int .i64 p, .slice A n c] _ (K2.out.row 0 rfl) Try.underlying40 (by rfl) infoc_R ?_)
    | (go_at_call 12; (have hc := ((eR ▸ d_right p A n c r _ (K2.out.bs (A := A) (n := n) (xs := r) (by simp)) hnc (by omega))); (with_reducible refine hc.mono ?_); clear hc); rintro e w3 ⟨rfl, hb⟩; have K3 : Hid (EnvF w3 [bF A2 n2 cs, bF A n r] [(w.heap.size, #[.int .i64 p, .slice A n c], 40)]) := Lib.hid (K2.out.on hb); have B3 : Hid (Below w.heap.size w w3) := Lib.hid (below_step B2.out hb); clear hb K2 B2)
    | (refine at_bi .max _ _ (by rfl) ?_; refine wpList_val (by rfl) (.int .i64 mx) (by go_simp; exact emx) ?_)
    | (refine at_bi .min _ _ (by rfl) ?_; refine wpList_val (by rfl) (.int .i64 (m : Int)) (by go_simp; exact emn) ?_)
    | (refine at_load 40 (.tmp 3) (by rfl) ?_; refine wpList_load_row (by rfl) 40 (.tmp 3) (by rfl) (w.heap.size) (by rfl) 40 #[.int .i64 p, .slice A n c] (0, 0) _ (K3.out.row 0 rfl) Try.underlying40 (by rfl) infoc_R ?_)
    | (go_at_call 14; (have hc := (HFD.out A A2 c c2 _ (K3.out.bs (A := A) (n := n) (xs := r) (by simp)) HN.out hnc (K3.out.bs (A := A2) (n := n2) (xs := cs) (by simp)) HN2.out hnc2); (with_reducible refine hc.mono ?_); clear hc); rintro e w4 ⟨A3, c3, A4, c4, qs, rfl, hh, hq, hm, hb⟩; have HM := Lib.hid hm; have HC3 := Lib.hid hh.2.2.1; have K4 : Hid (EnvF w4 [qF A4 LN qs, bF A3 RN R, bF A2 n2 cs, bF A n r] [(w.heap.size, #[.int .i64 p, .slice A n c], 40)]) := Lib.hid ((K3.out.handS hb hh).hand2 K3.out hb ⟨hq.1, fun k hk => ⟨hq.2.1 k hk, hq.1.lt hk⟩⟩); have B4 : Hid (Below w.heap.size w w4) := Lib.hid (below_step B3.out hb); clear hb hh hq hm K3 B3; have leo : w.heap.size ≤ w4.heap.size := (by have := B4.out.size; (try simp only [World.size_alloc] at this); omega); have K5 : Hid (EnvF (w4.alloc (.cells #[.int .i64 0, .slice none 0 0] 40)) [qF A4 LN qs, bF A3 RN R, bF A2 n2 cs, bF A n r] [(w4.heap.size, #[.int .i64 0, .slice none 0 0], 40), (w.heap.size, #[.int .i64 p, .slice A n c], 40)]) := Lib.hid (K4.out.boxg 40 #[.int .i64 0, .slice none 0 0] (w4.heap.size) (by simp)); have B5 : Hid (Below w.heap.size w (w4.alloc (.cells #[.int .i64 0, .slice none 0 0] 40))) := Lib.hid (B4.out.alloc B4.out.size (.cells #[.int .i64 0, .slice none 0 0] 40)); clear K4 B4; have lef : w.heap.size ≤ w4.heap.size + 1 := (by have := B5.out.size; (try simp only [World.size_alloc] at this); omega); have K6 : Hid (EnvF ((w4.alloc (.cells #[.int .i64 0, .slice none 0 0] 40)).alloc (.cells #[.bool false, .int .i64 0, .int .u32 0] 34)) [qF A4 LN qs, bF A3 RN R, bF A2 n2 cs, bF A n r] [(w4.heap.size + 1, #[.bool false, .int .i64 0, .int .u32 0], 34), (w4.heap.size, #[.int .i64 0, .slice none 0 0], 40), (w.heap.size, #[.int .i64 p, .slice A n c], 40)]) := Lib.hid (K5.out.boxg 34 #[.bool false, .int .i64 0, .int .u32 0] (w4.heap.size + 1) (by simp)); have B6 : Hid (Below w.heap.size w ((w4.alloc (.cells #[.int .i64 0, .slice none 0 0] 40)).alloc (.cells #[.bool false, .int .i64 0, .int .u32 0] 34))) := Lib.hid (B5.out.alloc B5.out.size (.cells #[.bool false, .int .i64 0, .int .u32 0] 34)); clear K5 B5)
    | (refine at_store 40 (.tmp 7) (.tmp 41) (by rfl) ?_; refine wpList_put (by rfl) 40 (.tmp 7) (.tmp 41) (by rfl) (w4.heap.size) 0 (.agg #[.int .i64 (P : Int), .slice A3 RN c3]) (by rfl) (by rfl) 40 #[.int .i64 0, .slice none 0 0] #[.int .i64 (P : Int), .slice A3 RN c3] (K6.out.row 1 rfl) (by simp [Value.cells]) (by kernel_rfl) infoc_R (by kernel_rfl) ?_; intro w7 hrow hoth hz hbl; have K7 : Hid (EnvF w7 [qF A4 LN qs, bF A3 RN R, bF A2 n2 cs, bF A n r] [(w4.heap.size + 1, #[.bool false, .int .i64 0, .int .u32 0], 34), (w4.heap.size, #[.int .i64 (P : Int), .slice A3 RN c3], 40), (w.heap.size, #[.int .i64 p, .slice A n c], 40)]) := Lib.hid (K6.out.turn 1 rfl hrow hoth hz); have B7 : Hid (Below w.heap.size w w7) := Lib.hid (hbl _ _ leo B6.out); clear hrow hoth hz hbl K6 B6)
    | (refine at_store 34 (.tmp 9) (.tmp 43) (by rfl) ?_; refine wpList_put (by rfl) 34 (.tmp 9) (.tmp 43) (by rfl) (w4.heap.size + 1) 0 (.agg #[.bool true, .int .i64 0, .int .u32 (X : Int)]) (by rfl) (by rfl) 34 #[.bool false, .int .i64 0, .int .u32 0] #[.bool true, .int .i64 0, .int .u32 (X : Int)] (K7.out.row 0 rfl) (by simp [Value.cells]) (by kernel_rfl) infoc_X (by kernel_rfl) ?_; intro w8 hrow hoth hz hbl; have K8 : Hid (EnvF w8 [qF A4 LN qs, bF A3 RN R, bF A2 n2 cs, bF A n r] [(w4.heap.size + 1, #[.bool true, .int .i64 0, .int .u32 (X : Int)], 34), (w4.heap.size, #[.int .i64 (P : Int), .slice A3 RN c3], 40), (w.heap.size, #[.int .i64 p, .slice A n c], 40)]) := Lib.hid (K7.out.turn 0 rfl hrow hoth hz); have B8 : Hid (Below w.heap.size w w8) := Lib.hid (hbl _ _ lef B7.out); clear hrow hoth hz hbl K7 B7))
  have KC := K8.out.cutT (A := A2) (n := n2) (xs := cs) (k := m) (by simp) hm2
  refine q5_region (Ac := A2) (nc := n2) (cc := c2) (mm := m) HFD1 (List.mem_of_getElem? (i := 2) rfl) (by simp) (by simp) HN.out hnc HN2.out hm2 hnc2 (by omega) (fun g11 g13 A5 c5 A6 c6 qs1 w9 K9' hm1 hh1 hh2 l1 l2 hb9 => ?_) KC
  have K9 : Hid (EnvF w9 [qF A6 LN qs1, bF A5 RN1 R1, bF A2 m (cs.take m), qF A4 LN qs, bF A3 RN R, bF A2 n2 cs, bF A n r] [(g13, #[.bool true, .int .i64 0, .int .u32 (X : Int)], 34), (g11, #[.int .i64 (P1 : Int), .slice A5 RN1 c5], 40), (w4.heap.size + 1, #[.bool true, .int .i64 0, .int .u32 (X : Int)], 34), (w4.heap.size, #[.int .i64 (P : Int), .slice A3 RN c3], 40), (w.heap.size, #[.int .i64 p, .slice A n c], 40)]) := Lib.hid K9'
  have B9 : Hid (Below w.heap.size w w9) := Lib.hid (below_step B8.out.drew hb9)
  have HM1 := Lib.hid hm1
  have HH1 := Lib.hid hh1
  have HH2 := Lib.hid hh2
  clear K9' hm1 hh1 hh2 l1 l2 hb9 KC K8 B8
  go_wp2_with (first
    | go_skip
    | (refine at_load 40 (.tmp 7) (by rfl) ?_; refine wpListG_row (by kernel_rfl) 40 (.tmp 7) (by rfl) (w4.heap.size) (by rfl) 40 #[.int .i64 (P : Int), .slice A3 RN c3] _ (K9.out.row 3 rfl) Try.underlying40 (by rfl) infoc_R ?_)
    | (go_at_call 12; (have hc := ((eR2.out ▸ d_right (P : Int) A3 RN c3 R _ (K9.out.bs (A := A3) (n := RN) (xs := R) (by simp)) HC3.out hRN)); (with_reducible refine hc.mono ?_); clear hc); rintro e w10 ⟨rfl, hb⟩; have K10 : Hid (EnvF w10 [qF A6 LN qs1, bF A5 RN1 R1, bF A2 m (cs.take m), qF A4 LN qs, bF A3 RN R, bF A2 n2 cs, bF A n r] [(g13, #[.bool true, .int .i64 0, .int .u32 (X : Int)], 34), (g11, #[.int .i64 (P1 : Int), .slice A5 RN1 c5], 40), (w4.heap.size + 1, #[.bool true, .int .i64 0, .int .u32 (X : Int)], 34), (w4.heap.size, #[.int .i64 (P : Int), .slice A3 RN c3], 40), (w.heap.size, #[.int .i64 p, .slice A n c], 40)]) := Lib.hid (K9.out.on hb); have B10 : Hid (Below w.heap.size w w10) := Lib.hid (below_step B9.out hb); clear hb K9 B9)
    | (refine at_load 40 (.tmp 11) (by rfl) ?_; refine wpListG_row (by kernel_rfl) 40 (.tmp 11) (by rfl) (g11) (by rfl) 40 #[.int .i64 (P1 : Int), .slice A5 RN1 c5] _ (K10.out.row 1 rfl) Try.underlying40 (by rfl) infoc_R ?_)
    | (go_at_call 12; (have hc := ((eR3.out ▸ d_right (P1 : Int) A5 RN1 c5 R1 _ (K10.out.bs (A := A5) (n := RN1) (xs := R1) (by simp)) HH1.out.1 hRN1)); (with_reducible refine hc.mono ?_); clear hc); rintro e w11 ⟨rfl, hb⟩; have K11 : Hid (EnvF w11 [qF A6 LN qs1, bF A5 RN1 R1, bF A2 m (cs.take m), qF A4 LN qs, bF A3 RN R, bF A2 n2 cs, bF A n r] [(g13, #[.bool true, .int .i64 0, .int .u32 (X : Int)], 34), (g11, #[.int .i64 (P1 : Int), .slice A5 RN1 c5], 40), (w4.heap.size + 1, #[.bool true, .int .i64 0, .int .u32 (X : Int)], 34), (w4.heap.size, #[.int .i64 (P : Int), .slice A3 RN c3], 40), (w.heap.size, #[.int .i64 p, .slice A n c], 40)]) := Lib.hid (K10.out.on hb); have B11 : Hid (Below w.heap.size w w11) := Lib.hid (below_step B10.out hb); clear hb K10 B10)
    | (refine at_load 34 (.tmp 13) (by rfl) ?_; refine wpList_load_row (by rfl) 34 (.tmp 13) (by rfl) (g13) (by rfl) 34 #[.bool true, .int .i64 0, .int .u32 (X : Int)] (0, 0) _ (K11.out.row 0 rfl) Try.underlying34 (by rfl) infoc_X ?_)
    | (refine at_load 34 (.tmp 9) (by rfl) ?_; refine wpList_load_row (by rfl) 34 (.tmp 9) (by rfl) (w4.heap.size + 1) (by rfl) 34 #[.bool true, .int .i64 0, .int .u32 (X : Int)] (0, 0) _ (K11.out.row 2 rfl) Try.underlying34 (by rfl) infoc_X ?_)
    | (go_at_call 15; (have hc := (d_pieces A4 A6 LN c4 LN c6 qs qs1 _ (K11.out.qs (A := A4) (n := LN) (xs := qs) (by simp)) (K11.out.qs (A := A6) (n := LN) (xs := qs1) (by simp)) (HM.out.trans HM1.out.symm) hLN); (with_reducible refine hc.mono ?_); clear hc); rintro e w12 ⟨rfl, hb⟩; have K12 : Hid (EnvF w12 [qF A6 LN qs1, bF A5 RN1 R1, bF A2 m (cs.take m), qF A4 LN qs, bF A3 RN R, bF A2 n2 cs, bF A n r] [(g13, #[.bool true, .int .i64 0, .int .u32 (X : Int)], 34), (g11, #[.int .i64 (P1 : Int), .slice A5 RN1 c5], 40), (w4.heap.size + 1, #[.bool true, .int .i64 0, .int .u32 (X : Int)], 34), (w4.heap.size, #[.int .i64 (P : Int), .slice A3 RN c3], 40), (w.heap.size, #[.int .i64 p, .slice A n c], 40)]) := Lib.hid (K11.out.on hb); have B12 : Hid (Below w.heap.size w w12) := Lib.hid (below_step B11.out hb); clear hb K11 B11)
    | (go_at_call 13; (have hc := (wakes5 w12); (with_reducible refine hc.mono ?_); clear hc); rintro e w13 ⟨rfl, hb⟩; have K13 : Hid (EnvF w13 [qF A6 LN qs1, bF A5 RN1 R1, bF A2 m (cs.take m), qF A4 LN qs, bF A3 RN R, bF A2 n2 cs, bF A n r] [(g13, #[.bool true, .int .i64 0, .int .u32 (X : Int)], 34), (g11, #[.int .i64 (P1 : Int), .slice A5 RN1 c5], 40), (w4.heap.size + 1, #[.bool true, .int .i64 0, .int .u32 (X : Int)], 34), (w4.heap.size, #[.int .i64 (P : Int), .slice A3 RN c3], 40), (w.heap.size, #[.int .i64 p, .slice A n c], 40)]) := Lib.hid (K12.out.on hb); have B13 : Hid (Below w.heap.size w w13) := Lib.hid (below_step B12.out hb); clear hb K12 B12))
  all_goals
    go_ret
    exact ⟨by first | rfl | simp, B13.out⟩
set_option maxRecDepth 100000 in
set_option maxHeartbeats 4000000 in
theorem parts_go (p a : Int) {P RN X LN m P1 RN1 LN1 LN2 : Nat} {R R1 : List UInt8} {xb : Bool} {L L1 L2 : List (List UInt8)} (A : Option Addr) (n c : Nat) (r : List UInt8) (A2 : Option Addr) (n2 c2 : Nat) (cs : List UInt8) (w : World) (hA : Bs w w.heap.size A n r) (hN : A = none → c = 0) (hnc : n ≤ c) (hA2 : Bs w w.heap.size A2 n2 cs) (hN2 : A2 = none → c2 = 0) (hnc2 : n2 ≤ c2) (hb1 : decide ((600 : Int) < (n : Int)) = false) (hb2 : decide ((600 : Int) < (n2 : Int)) = false) (hR : RightR p r) (hn : n ≤ 600) (hn2 : n2 ≤ 600) (HFD : Hid (FeedTo p r n cs n2 P R RN X xb L LN)) (HFD1 : Hid (FeedTo p r n (cs.take m) m P1 R1 RN1 0 false L1 LN1)) (HFD2 : Hid (FeedTo (P1 : Int) R1 RN1 (cs.drop m) (n2 - m) P R RN X xb L2 LN2)) (HL : Hid (L = L1 ++ L2)) (hLL : LN1 + LN2 = LN) (HLE : Hid (L1.length = LN1 ∧ L2.length = LN2)) (hm2 : m ≤ n2) (mx : Int) (emx : (if a < 0 then 0 else a) = mx) (emn : (if (n2 : Int) < mx then (n2 : Int) else mx) = (m : Int)) (hRN : RN ≤ 1000000) (hRN1 : RN1 ≤ 1000000) (hLN : LN ≤ 100000) (eR2 : Hid (decide (RightR (P : Int) R) = true)) (eR3 : Hid (decide (RightR (P1 : Int) R1) = true)) :
    Calls Try.prog 4 #[.agg #[.int .i64 p, .slice A n c], .slice A2 n2 c2, .int .i64 a] w fun e w' => e = .returned (.bool true) ∧ Below w.heap.size w w' := by
  obtain ⟨ip, hip, hip0, hip1, hip2⟩ := info_parts info_piece
  have hinf := Lib.hid (And.intro hip (And.intro hip0 (And.intro hip1 hip2)))
  clear hip hip0 hip1 hip2
  have eR := decide_eq_true hR
  have HN := Lib.hid hN
  have HN2 := Lib.hid hN2
  clear hN hN2
  have K0 : Hid (EnvF (w.alloc (.cells #[.int .i64 p, .slice A n c] 40)) [bF A2 n2 cs, bF A n r] [(w.heap.size, #[.int .i64 p, .slice A n c], 40)]) := Lib.hid ((((EnvF.nil w).addB hA).addB hA2).boxg 40 #[.int .i64 p, .slice A n c] (w.heap.size) (by simp))
  have B0 : Hid (Below w.heap.size w (w.alloc (.cells #[.int .i64 p, .slice A n c] 40))) := Lib.hid ((Below.refl _ w).alloc (by first | exact Nat.le_refl _ | (simp only [World.size_alloc]; omega)) (.cells #[.int .i64 p, .slice A n c] 40))
  obtain ⟨r_0, r_1⟩ := cells2_row (K0.out.row 0 rfl)
  go_enter Try.func4, Try.ntmps4
  go_wp2_with (first
    | go_skip
    | (go_at_call 11; (have hc := (c_great' A n c _ hb1 (w.alloc (.cells #[.int .i64 p, .slice A n c] 40))); (with_reducible refine hc.mono ?_); clear hc); rintro e w1 ⟨rfl, hb⟩; have K1 : Hid (EnvF w1 [bF A2 n2 cs, bF A n r] [(w.heap.size, #[.int .i64 p, .slice A n c], 40)]) := Lib.hid (K0.out.on hb); have B1 : Hid (Below w.heap.size w w1) := Lib.hid (below_step B0.out hb); clear hb K0 B0)
    | (go_at_call 11; (have hc := (c_great' A2 n2 c2 _ hb2 w1); (with_reducible refine hc.mono ?_); clear hc); rintro e w2 ⟨rfl, hb⟩; have K2 : Hid (EnvF w2 [bF A2 n2 cs, bF A n r] [(w.heap.size, #[.int .i64 p, .slice A n c], 40)]) := Lib.hid (K1.out.on hb); have B2 : Hid (Below w.heap.size w w2) := Lib.hid (below_step B1.out hb); clear hb K1 B1)
    | (refine at_load 40 (.tmp 3) (by rfl) ?_; refine wpListG_row (by kernel_rfl) 40 (.tmp 3) (by rfl) (w.heap.size) (by rfl) 40 #[.int .i64 p, .slice A n c] _ (K2.out.row 0 rfl) Try.underlying40 (by rfl) infoc_R ?_)
    | (go_at_call 12; (have hc := ((eR ▸ d_right p A n c r _ (K2.out.bs (A := A) (n := n) (xs := r) (by simp)) hnc (by omega))); (with_reducible refine hc.mono ?_); clear hc); rintro e w3 ⟨rfl, hb⟩; have K3 : Hid (EnvF w3 [bF A2 n2 cs, bF A n r] [(w.heap.size, #[.int .i64 p, .slice A n c], 40)]) := Lib.hid (K2.out.on hb); have B3 : Hid (Below w.heap.size w w3) := Lib.hid (below_step B2.out hb); clear hb K2 B2)
    | (refine at_bi .max _ _ (by rfl) ?_; refine wpList_val (by rfl) (.int .i64 mx) (by go_simp; exact emx) ?_)
    | (refine at_bi .min _ _ (by rfl) ?_; refine wpList_val (by rfl) (.int .i64 (m : Int)) (by go_simp; exact emn) ?_)
    | (refine at_load 40 (.tmp 3) (by rfl) ?_; refine wpList_load_row (by rfl) 40 (.tmp 3) (by rfl) (w.heap.size) (by rfl) 40 #[.int .i64 p, .slice A n c] (0, 0) _ (K3.out.row 0 rfl) Try.underlying40 (by rfl) infoc_R ?_)
    | (go_at_call 14; (have hc := (HFD.out A A2 c c2 _ (K3.out.bs (A := A) (n := n) (xs := r) (by simp)) HN.out hnc (K3.out.bs (A := A2) (n := n2) (xs := cs) (by simp)) HN2.out hnc2); (with_reducible refine hc.mono ?_); clear hc); rintro e w4 ⟨A3, c3, A4, c4, qs, rfl, hh, hq, hm, hb⟩; have HM := Lib.hid hm; have HC3 := Lib.hid hh.2.2.1; have K4 : Hid (EnvF w4 [qF A4 LN qs, bF A3 RN R, bF A2 n2 cs, bF A n r] [(w.heap.size, #[.int .i64 p, .slice A n c], 40)]) := Lib.hid ((K3.out.handS hb hh).hand2 K3.out hb ⟨hq.1, fun k hk => ⟨hq.2.1 k hk, hq.1.lt hk⟩⟩); have B4 : Hid (Below w.heap.size w w4) := Lib.hid (below_step B3.out hb); clear hb hh hq hm K3 B3; have leo : w.heap.size ≤ w4.heap.size := (by have := B4.out.size; (try simp only [World.size_alloc] at this); omega); have K5 : Hid (EnvF (w4.alloc (.cells #[.int .i64 0, .slice none 0 0] 40)) [qF A4 LN qs, bF A3 RN R, bF A2 n2 cs, bF A n r] [(w4.heap.size, #[.int .i64 0, .slice none 0 0], 40), (w.heap.size, #[.int .i64 p, .slice A n c], 40)]) := Lib.hid (K4.out.boxg 40 #[.int .i64 0, .slice none 0 0] (w4.heap.size) (by simp)); have B5 : Hid (Below w.heap.size w (w4.alloc (.cells #[.int .i64 0, .slice none 0 0] 40))) := Lib.hid (B4.out.alloc B4.out.size (.cells #[.int .i64 0, .slice none 0 0] 40)); clear K4 B4; have lef : w.heap.size ≤ w4.heap.size + 1 := (by have := B5.out.size; (try simp only [World.size_alloc] at this); omega); have K6 : Hid (EnvF ((w4.alloc (.cells #[.int .i64 0, .slice none 0 0] 40)).alloc (.cells #[.bool false, .int .i64 0, .int .u32 0] 34)) [qF A4 LN qs, bF A3 RN R, bF A2 n2 cs, bF A n r] [(w4.heap.size + 1, #[.bool false, .int .i64 0, .int .u32 0], 34), (w4.heap.size, #[.int .i64 0, .slice none 0 0], 40), (w.heap.size, #[.int .i64 p, .slice A n c], 40)]) := Lib.hid (K5.out.boxg 34 #[.bool false, .int .i64 0, .int .u32 0] (w4.heap.size + 1) (by simp)); have B6 : Hid (Below w.heap.size w ((w4.alloc (.cells #[.int .i64 0, .slice none 0 0] 40)).alloc (.cells #[.bool false, .int .i64 0, .int .u32 0] 34))) := Lib.hid (B5.out.alloc B5.out.size (.cells #[.bool false, .int .i64 0, .int .u32 0] 34)); clear K5 B5)
    | (refine at_store 40 (.tmp 7) (.tmp 41) (by rfl) ?_; refine wpList_put (by rfl) 40 (.tmp 7) (.tmp 41) (by rfl) (w4.heap.size) 0 (.agg #[.int .i64 (P : Int), .slice A3 RN c3]) (by rfl) (by rfl) 40 #[.int .i64 0, .slice none 0 0] #[.int .i64 (P : Int), .slice A3 RN c3] (K6.out.row 1 rfl) (by simp [Value.cells]) (by kernel_rfl) infoc_R (by kernel_rfl) ?_; intro w7 hrow hoth hz hbl; have K7 : Hid (EnvF w7 [qF A4 LN qs, bF A3 RN R, bF A2 n2 cs, bF A n r] [(w4.heap.size + 1, #[.bool false, .int .i64 0, .int .u32 0], 34), (w4.heap.size, #[.int .i64 (P : Int), .slice A3 RN c3], 40), (w.heap.size, #[.int .i64 p, .slice A n c], 40)]) := Lib.hid (K6.out.turn 1 rfl hrow hoth hz); have B7 : Hid (Below w.heap.size w w7) := Lib.hid (hbl _ _ leo B6.out); clear hrow hoth hz hbl K6 B6)
    | (refine at_store 34 (.tmp 9) (.tmp 43) (by rfl) ?_; refine wpList_put (by rfl) 34 (.tmp 9) (.tmp 43) (by rfl) (w4.heap.size + 1) 0 (.agg #[.bool xb, .int .i64 0, .int .u32 (X : Int)]) (by rfl) (by rfl) 34 #[.bool false, .int .i64 0, .int .u32 0] #[.bool xb, .int .i64 0, .int .u32 (X : Int)] (K7.out.row 0 rfl) (by simp [Value.cells]) (by kernel_rfl) infoc_X (by kernel_rfl) ?_; intro w8 hrow hoth hz hbl; have K8 : Hid (EnvF w8 [qF A4 LN qs, bF A3 RN R, bF A2 n2 cs, bF A n r] [(w4.heap.size + 1, #[.bool xb, .int .i64 0, .int .u32 (X : Int)], 34), (w4.heap.size, #[.int .i64 (P : Int), .slice A3 RN c3], 40), (w.heap.size, #[.int .i64 p, .slice A n c], 40)]) := Lib.hid (K7.out.turn 0 rfl hrow hoth hz); have B8 : Hid (Below w.heap.size w w8) := Lib.hid (hbl _ _ lef B7.out); clear hrow hoth hz hbl K7 B7))
  have KC := K8.out.cutT (A := A2) (n := n2) (xs := cs) (k := m) (by simp) hm2
  refine q5_region (Ac := A2) (nc := n2) (cc := c2) (mm := m) (X := 0) (xb := false) HFD1 (List.mem_of_getElem? (i := 2) rfl) (by simp) (by simp) HN.out hnc HN2.out hm2 hnc2 (by omega) (fun g11 g13 A5 c5 A6 c6 qs1 w9 K9' hm1 hh1 hh2 l1 l2 hb9 => ?_) KC
  have K9 : Hid (EnvF w9 [qF A6 LN1 qs1, bF A5 RN1 R1, bF A2 m (cs.take m), qF A4 LN qs, bF A3 RN R, bF A2 n2 cs, bF A n r] [(g13, #[.bool false, .int .i64 0, .int .u32 0], 34), (g11, #[.int .i64 (P1 : Int), .slice A5 RN1 c5], 40), (w4.heap.size + 1, #[.bool xb, .int .i64 0, .int .u32 (X : Int)], 34), (w4.heap.size, #[.int .i64 (P : Int), .slice A3 RN c3], 40), (w.heap.size, #[.int .i64 p, .slice A n c], 40)]) := Lib.hid K9'
  have B9 : Hid (Below w.heap.size w w9) := Lib.hid (below_step B8.out.drew hb9)
  have HM1 := Lib.hid hm1
  have HH1 := Lib.hid hh1
  have HH2 := Lib.hid hh2
  clear K9' hm1 hh1 hh2 l1 l2 hb9 KC K8 B8
  go_wp2_with (first
    | go_skip
    | (refine at_load 40 (.tmp 7) (by rfl) ?_; refine wpListG_row (by kernel_rfl) 40 (.tmp 7) (by rfl) (w4.heap.size) (by rfl) 40 #[.int .i64 (P : Int), .slice A3 RN c3] _ (K9.out.row 3 rfl) Try.underlying40 (by rfl) infoc_R ?_)
    | (go_at_call 12; (have hc := ((eR2.out ▸ d_right (P : Int) A3 RN c3 R _ (K9.out.bs (A := A3) (n := RN) (xs := R) (by simp)) HC3.out hRN)); (with_reducible refine hc.mono ?_); clear hc); rintro e w10 ⟨rfl, hb⟩; have K10 : Hid (EnvF w10 [qF A6 LN1 qs1, bF A5 RN1 R1, bF A2 m (cs.take m), qF A4 LN qs, bF A3 RN R, bF A2 n2 cs, bF A n r] [(g13, #[.bool false, .int .i64 0, .int .u32 0], 34), (g11, #[.int .i64 (P1 : Int), .slice A5 RN1 c5], 40), (w4.heap.size + 1, #[.bool xb, .int .i64 0, .int .u32 (X : Int)], 34), (w4.heap.size, #[.int .i64 (P : Int), .slice A3 RN c3], 40), (w.heap.size, #[.int .i64 p, .slice A n c], 40)]) := Lib.hid (K9.out.on hb); have B10 : Hid (Below w.heap.size w w10) := Lib.hid (below_step B9.out hb); clear hb K9 B9)
    | (refine at_load 40 (.tmp 11) (by rfl) ?_; refine wpListG_row (by kernel_rfl) 40 (.tmp 11) (by rfl) (g11) (by rfl) 40 #[.int .i64 (P1 : Int), .slice A5 RN1 c5] _ (K10.out.row 1 rfl) Try.underlying40 (by rfl) infoc_R ?_)
    | (go_at_call 12; (have hc := ((eR3.out ▸ d_right (P1 : Int) A5 RN1 c5 R1 _ (K10.out.bs (A := A5) (n := RN1) (xs := R1) (by simp)) HH1.out.1 hRN1)); (with_reducible refine hc.mono ?_); clear hc); rintro e w11 ⟨rfl, hb⟩; have K11 : Hid (EnvF w11 [qF A6 LN1 qs1, bF A5 RN1 R1, bF A2 m (cs.take m), qF A4 LN qs, bF A3 RN R, bF A2 n2 cs, bF A n r] [(g13, #[.bool false, .int .i64 0, .int .u32 0], 34), (g11, #[.int .i64 (P1 : Int), .slice A5 RN1 c5], 40), (w4.heap.size + 1, #[.bool xb, .int .i64 0, .int .u32 (X : Int)], 34), (w4.heap.size, #[.int .i64 (P : Int), .slice A3 RN c3], 40), (w.heap.size, #[.int .i64 p, .slice A n c], 40)]) := Lib.hid (K10.out.on hb); have B11 : Hid (Below w.heap.size w w11) := Lib.hid (below_step B10.out hb); clear hb K10 B10)
    | (refine at_load 34 (.tmp 13) (by rfl) ?_; refine wpList_load_row (by rfl) 34 (.tmp 13) (by rfl) (g13) (by rfl) 34 #[.bool false, .int .i64 0, .int .u32 0] (0, 0) _ (K11.out.row 0 rfl) Try.underlying34 (by rfl) infoc_X ?_))
  have KD := K11.out.cutD (A := A2) (n := n2) (c := c2) (xs := cs) (k := m) (by simp) hm2 hnc2
  have hNq : (if c2 = m then A2 else A2.map fun x => x.add m) = none → c2 - m = 0 := by
    intro h
    by_cases e : c2 = m
    · omega
    · rw [if_neg e] at h
      have := HN2.out (by cases A2 <;> simp_all)
      omega
  refine q10_region (Ac := A2) (nc := n2) (cc := c2) (mm := m) HFD2 (List.mem_of_getElem? (i := 1) rfl) (by simp) (by simp) HH1.out.2 HH1.out.1 hNq (by omega) hm2 hnc2 (by omega) rfl rfl rfl (fun g15 g17 A7 c7 A8 c8 qs2 w15 K15' hm1 hh1 hh2 l1 l2 hb9 => ?_) KD
  have K15 : Hid (EnvF w15 [qF A8 LN2 qs2, bF A7 RN R, bF (if c2 = m then A2 else A2.map fun x => x.add m) (n2 - m) (cs.drop m), qF A6 LN1 qs1, bF A5 RN1 R1, bF A2 m (cs.take m), qF A4 LN qs, bF A3 RN R, bF A2 n2 cs, bF A n r] [(g17, #[.bool xb, .int .i64 0, .int .u32 (X : Int)], 34), (g15, #[.int .i64 (P : Int), .slice A7 RN c7], 40), (g13, #[.bool false, .int .i64 0, .int .u32 0], 34), (g11, #[.int .i64 (P1 : Int), .slice A5 RN1 c5], 40), (w4.heap.size + 1, #[.bool xb, .int .i64 0, .int .u32 (X : Int)], 34), (w4.heap.size, #[.int .i64 (P : Int), .slice A3 RN c3], 40), (w.heap.size, #[.int .i64 p, .slice A n c], 40)]) := Lib.hid K15'
  have B15 : Hid (Below w.heap.size w w15) := Lib.hid (below_step B11.out.drew hb9)
  have HM2 := Lib.hid hm1
  have HH7 := Lib.hid hh1
  have HH8 := Lib.hid hh2
  have HL1 : Hid (qs1.length = LN1) := Lib.hid (by have := congrArg List.length HM1.out; rw [List.length_map, HLE.out.1] at this; exact this)
  have HL2 : Hid (qs2.length = LN2) := Lib.hid (by have := congrArg List.length HM2.out; rw [List.length_map, HLE.out.2] at this; exact this)
  have HE : Hid (qs.map (·.f) = (qs1 ++ qs2).map (·.f)) := Lib.hid (by rw [List.map_append, HM1.out, HM2.out, HM.out, HL.out])
  clear K15' hm1 hh1 hh2 l1 l2 hb9 KD hNq K11 B11
  go_wp2_with (first
    | go_skip
    | (refine at_load 34 (.tmp 17) (by rfl) ?_; refine wpListG_row (by kernel_rfl) 34 (.tmp 17) (by rfl) (g17) (by rfl) 34 #[.bool xb, .int .i64 0, .int .u32 (X : Int)] _ (K15.out.row 0 rfl) Try.underlying34 (by rfl) infoc_X ?_)
    | (refine at_load 34 (.tmp 9) (by rfl) ?_; refine wpListG_row (by kernel_rfl) 34 (.tmp 9) (by rfl) (w4.heap.size + 1) (by rfl) 34 #[.bool xb, .int .i64 0, .int .u32 (X : Int)] _ (K15.out.row 4 rfl) Try.underlying34 (by rfl) infoc_X ?_)
    | (refine at_load 40 (.tmp 15) (by rfl) ?_; refine wpListG_row (by kernel_rfl) 40 (.tmp 15) (by rfl) (g15) (by rfl) 40 #[.int .i64 (P : Int), .slice A7 RN c7] _ (K15.out.row 1 rfl) Try.underlying40 (by rfl) infoc_R ?_)
    | (refine at_load 40 (.tmp 7) (by rfl) ?_; refine wpListG_row (by kernel_rfl) 40 (.tmp 7) (by rfl) (w4.heap.size) (by rfl) 40 #[.int .i64 (P : Int), .slice A3 RN c3] _ (K15.out.row 5 rfl) Try.underlying40 (by rfl) infoc_R ?_)
    | (go_at_call 16; (have hc := (d_same (P : Int) A7 A3 RN c7 RN c3 R _ (K15.out.bs (A := A7) (n := RN) (xs := R) (by simp)) (K15.out.bs (A := A3) (n := RN) (xs := R) (by simp))); (with_reducible refine hc.mono ?_); clear hc); rintro e w16 ⟨rfl, hb⟩; have K16 : Hid (EnvF w16 [qF A8 LN2 qs2, bF A7 RN R, bF (if c2 = m then A2 else A2.map fun x => x.add m) (n2 - m) (cs.drop m), qF A6 LN1 qs1, bF A5 RN1 R1, bF A2 m (cs.take m), qF A4 LN qs, bF A3 RN R, bF A2 n2 cs, bF A n r] [(g17, #[.bool xb, .int .i64 0, .int .u32 (X : Int)], 34), (g15, #[.int .i64 (P : Int), .slice A7 RN c7], 40), (g13, #[.bool false, .int .i64 0, .int .u32 0], 34), (g11, #[.int .i64 (P1 : Int), .slice A5 RN1 c5], 40), (w4.heap.size + 1, #[.bool xb, .int .i64 0, .int .u32 (X : Int)], 34), (w4.heap.size, #[.int .i64 (P : Int), .slice A3 RN c3], 40), (w.heap.size, #[.int .i64 p, .slice A n c], 40)]) := Lib.hid (K15.out.on hb); have B16 : Hid (Below w.heap.size w w16) := Lib.hid (below_step B15.out hb); clear hb K15 B15)
    | (at_builtin; refine wpList_append_pcs _ (by kernel_rfl) (.tmp 109) (.tmp 110) 43 rfl 0 53 ip Try.underlying43 hinf.out.1 hinf.out.2.1 hinf.out.2.2.1 hinf.out.2.2.2 _ [] rfl (OwnQ.lit w16 53 0 w16.heap.size rfl (Nat.zero_le _)) _ LN1 c6 qs1 rfl ((K16.out.al (.cells #[] 53)).qs (A := A6) (n := LN1) (xs := qs1) (by simp)) (fun x hx k hk => ⟨Nat.zero_le _, fun e => by have := PayB.lt ((K16.out.qs (A := A6) (n := LN1) (xs := qs1) (by simp)).2.2 x hx) hk; have e2 : some w16.heap.size = some k := e; have := Option.some.inj e2; omega⟩) HH2.out.2 (by simp; omega) (Nat.zero_le _) ?_; intro v20 w20 ho20 hx20 hg20 hv20; rw [List.nil_append] at ho20; obtain ⟨A9, c9, rfl, hh20⟩ := ho20.handQ (n := LN1) HL1.out; have HB20 : Hid (Below w16.heap.size w16 w20) := Lib.hid (((Below.refl w16.heap.size w16).alloc (Nat.le_refl _) (.cells #[] 53)).grown hg20 (by simp) (fun k hk => by have e2 : some w16.heap.size = some k := hk; have := Option.some.inj e2; omega)); have HB9 : Hid (∀ k, (Value.slice A9 LN1 c9).ownBlock = some k → w16.heap.size ≤ k) := Lib.hid (fun k hk => by rcases hv20 with e | e <;> first | (have e2 : some w16.heap.size = some k := e.symm.trans hk; have := Option.some.inj e2; omega) | (have e2 := Option.some.inj (e.symm.trans hk); simp at e2; omega)); have HLT : Hid (∀ x ∈ qs2, ∀ k, payOn x k → k < w16.heap.size) := Lib.hid (fun x hx k hk => PayB.lt ((K16.out.qs (A := A8) (n := LN2) (xs := qs2) (by simp)).2.2 x hx) hk); have HO9 := Lib.hid ho20; clear ho20 hx20 hg20 hv20 hh20)
    | (at_builtin; refine wpList_append_pcs _ (by kernel_rfl) (.tmp 111) (.tmp 112) 43 rfl 0 53 ip Try.underlying43 hinf.out.1 hinf.out.2.1 hinf.out.2.2.1 hinf.out.2.2.2 _ qs1 rfl HO9.out _ LN2 c8 qs2 rfl ((K16.out.on HB20.out).qs (A := A8) (n := LN2) (xs := qs2) (by simp)) (fun x hx k hk => ⟨Nat.zero_le _, fun e => by have h1 := HLT.out x hx k hk; have h2 := HB9.out k e; omega⟩) HH8.out.2 (by rw [HL1.out]; omega) (Nat.zero_le _) ?_; intro v21 w21 ho21 hx21 hg21 hv21; obtain ⟨A10, c10, rfl, hh21⟩ := ho21.handQ (n := LN) (by rw [List.length_append, HL1.out, HL2.out]; exact hLL); have HQ10 := Lib.hid hh21.1; have hb21 : Below w16.heap.size w16 w21 := HB20.out.grown hg21 HB20.out.size (fun k hk => HB9.out k hk); have K21 : Hid (EnvF w21 [qF A8 LN2 qs2, bF A7 RN R, bF (if c2 = m then A2 else A2.map fun x => x.add m) (n2 - m) (cs.drop m), qF A6 LN1 qs1, bF A5 RN1 R1, bF A2 m (cs.take m), qF A4 LN qs, bF A3 RN R, bF A2 n2 cs, bF A n r] [(g17, #[.bool xb, .int .i64 0, .int .u32 (X : Int)], 34), (g15, #[.int .i64 (P : Int), .slice A7 RN c7], 40), (g13, #[.bool false, .int .i64 0, .int .u32 0], 34), (g11, #[.int .i64 (P1 : Int), .slice A5 RN1 c5], 40), (w4.heap.size + 1, #[.bool xb, .int .i64 0, .int .u32 (X : Int)], 34), (w4.heap.size, #[.int .i64 (P : Int), .slice A3 RN c3], 40), (w.heap.size, #[.int .i64 p, .slice A n c], 40)]) := Lib.hid (K16.out.on hb21); have B21 : Hid (Below w.heap.size w w21) := Lib.hid (below_step B16.out hb21); clear ho21 hx21 hg21 hv21 hh21 hb21 K16 B16 HB20 HB9 HLT HO9)
    | (go_at_call 15; (have hc := (d_pieces A4 A10 LN c4 LN c10 qs (qs1 ++ qs2) _ (K21.out.qs (A := A4) (n := LN) (xs := qs) (by simp)) HQ10.out HE.out hLN); (with_reducible refine hc.mono ?_); clear hc); rintro e w22 ⟨rfl, hb⟩; have K22 : Hid (EnvF w22 [qF A8 LN2 qs2, bF A7 RN R, bF (if c2 = m then A2 else A2.map fun x => x.add m) (n2 - m) (cs.drop m), qF A6 LN1 qs1, bF A5 RN1 R1, bF A2 m (cs.take m), qF A4 LN qs, bF A3 RN R, bF A2 n2 cs, bF A n r] [(g17, #[.bool xb, .int .i64 0, .int .u32 (X : Int)], 34), (g15, #[.int .i64 (P : Int), .slice A7 RN c7], 40), (g13, #[.bool false, .int .i64 0, .int .u32 0], 34), (g11, #[.int .i64 (P1 : Int), .slice A5 RN1 c5], 40), (w4.heap.size + 1, #[.bool xb, .int .i64 0, .int .u32 (X : Int)], 34), (w4.heap.size, #[.int .i64 (P : Int), .slice A3 RN c3], 40), (w.heap.size, #[.int .i64 p, .slice A n c], 40)]) := Lib.hid (K21.out.on hb); have B22 : Hid (Below w.heap.size w w22) := Lib.hid (below_step B21.out hb); clear hb K21 B21)
    | (go_at_call 13; (have hc := (wakes5 w22); (with_reducible refine hc.mono ?_); clear hc); rintro e w23 ⟨rfl, hb⟩; have K23 : Hid (EnvF w23 [qF A8 LN2 qs2, bF A7 RN R, bF (if c2 = m then A2 else A2.map fun x => x.add m) (n2 - m) (cs.drop m), qF A6 LN1 qs1, bF A5 RN1 R1, bF A2 m (cs.take m), qF A4 LN qs, bF A3 RN R, bF A2 n2 cs, bF A n r] [(g17, #[.bool xb, .int .i64 0, .int .u32 (X : Int)], 34), (g15, #[.int .i64 (P : Int), .slice A7 RN c7], 40), (g13, #[.bool false, .int .i64 0, .int .u32 0], 34), (g11, #[.int .i64 (P1 : Int), .slice A5 RN1 c5], 40), (w4.heap.size + 1, #[.bool xb, .int .i64 0, .int .u32 (X : Int)], 34), (w4.heap.size, #[.int .i64 (P : Int), .slice A3 RN c3], 40), (w.heap.size, #[.int .i64 p, .slice A n c], 40)]) := Lib.hid (K22.out.on hb); have B23 : Hid (Below w.heap.size w w23) := Lib.hid (below_step B22.out hb); clear hb K22 B22))
  all_goals
    go_ret
    exact ⟨by first | rfl | simp, B23.out⟩
theorem right_len {p : Int} {r : List UInt8} (h : RightR p r) : r.length ≤ 16393 := by
  obtain ⟨_, _, _, h4, h5⟩ := h
  unfold Fits at h4
  unfold Bad at h5
  omega
theorem parts_any (p a : Int) (A : Option Addr) (n c : Nat) (r : List UInt8) (A2 : Option Addr) (n2 c2 : Nat) (cs : List UInt8) (w : World) (hA : Bs w w.heap.size A n r) (hN : A = none → c = 0) (hnc : n ≤ c) (hA2 : Bs w w.heap.size A2 n2 cs) (hN2 : A2 = none → c2 = 0) (hnc2 : n2 ≤ c2) :
    Calls Try.prog 4 #[.agg #[.int .i64 p, .slice A n c], .slice A2 n2 c2, .int .i64 a] w fun e w' => e = .returned (.bool true) ∧ Below w.heap.size w w' := by
  have hl := hA.1
  have hl2 := hA2.1
  by_cases g1 : 600 < n
  · exact parts_g1 p a A n c r A2 n2 c2 cs w hA hN hnc hA2 hN2 hnc2 (decide_eq_true (by omega))
  have hb1 : decide ((600 : Int) < (n : Int)) = false := decide_eq_false (by omega)
  by_cases g2 : 600 < n2
  · exact parts_g2 p a A n c r A2 n2 c2 cs w hA hN hnc hA2 hN2 hnc2 hb1 (decide_eq_true (by omega))
  have hb2 : decide ((600 : Int) < (n2 : Int)) = false := decide_eq_false (by omega)
  by_cases hR : RightR p r
  · obtain ⟨q, rfl⟩ : ∃ q : Nat, p = q := Int.eq_ofNat_of_zero_le hR.1
    obtain ⟨mx, emx⟩ : ∃ mx, (if a < 0 then 0 else a) = mx := ⟨_, rfl⟩
    have hmx : 0 ≤ mx := by split at emx <;> omega
    obtain ⟨m, emn⟩ : ∃ m : Nat, (if (n2 : Int) < mx then (n2 : Int) else mx) = (m : Int) := by
      split
      · exact ⟨n2, rfl⟩
      · exact Int.eq_ofNat_of_zero_le hmx
    have hm2 : m ≤ n2 := by split at emn <;> omega
    have hcs : cs.take m ++ cs.drop m = cs := List.take_append_drop m cs
    obtain ⟨hs, hg⟩ := fd_parts hR (cs.take m) (cs.drop m)
    rw [hcs] at hs hg
    have r1 := fd_right hR cs
    have r2 := fd_right hR (cs.take m)
    have l1 := right_len r1
    have l2 := right_len r2
    have lL : (fdL q r cs).length ≤ 100000 := by
      have hf := cut_len (r ++ cs.drop (gre q cs - q)).length (r ++ cs.drop (gre q cs - q))
      rw [List.length_append, List.length_drop] at hf
      unfold fdL
      split
      · simp
      · unfold fdC fs
        rw [List.length_append, List.length_drop]
        omega
    by_cases hX : fdX q r (cs.take m) = 0
    · obtain ⟨f1, f2, f3, f4⟩ := hg hX
      have e4 := congrArg List.length f4
      rw [List.length_append] at e4
      exact parts_go q a A n c r A2 n2 c2 cs w hA hN hnc hA2 hN2 hnc2 hb1 hb2 hR (by omega) (by omega)
        (Lib.hid (feedTo hR (by omega) (by omega) rfl rfl rfl rfl rfl rfl rfl rfl))
        (Lib.hid (feedTo hR (by omega) (by omega) rfl rfl hX rfl rfl rfl rfl rfl))
        (Lib.hid (feedTo r2 (by omega) (by omega) f2 f3 f1 rfl rfl rfl rfl rfl))
        (Lib.hid f4) e4.symm (Lib.hid ⟨rfl, rfl⟩) hm2 mx emx emn (by omega) (by omega) lL (Lib.hid (decide_eq_true r1)) (Lib.hid (decide_eq_true r2))
    · obtain ⟨e1, e2⟩ := hs hX
      have eb : (fdX q r cs != 0) = true := by rw [e1]; simp [hX]
      exact parts_stop q a A n c r A2 n2 c2 cs w hA hN hnc hA2 hN2 hnc2 hb1 hb2 hR (by omega) (by omega)
        (Lib.hid (feedTo hR (by omega) (by omega) rfl rfl rfl eb rfl rfl rfl rfl))
        (Lib.hid (feedTo hR (by omega) (by omega) rfl rfl e1.symm eb e2.symm rfl rfl rfl))
        hm2 mx emx emn (by omega) (by omega) lL (Lib.hid (decide_eq_true r1)) (Lib.hid (decide_eq_true r2))
  · exact parts_no p a A n c r A2 n2 c2 cs w hA hN hnc hA2 hN2 hnc2 hb1 hb2 hR (by omega)
end Go.Proofs.Ytolminjedgoggaa
