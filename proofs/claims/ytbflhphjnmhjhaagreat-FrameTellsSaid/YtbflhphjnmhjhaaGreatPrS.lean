/- The program's Same of frames, field by field. -/
import Derived.Test.YtbflhphjnmhjhaaGreatPrA
import Derived.Test.YtbflhphjnmhjhaaGreatFiI
import Derived.Test.YtbflhphjnmhjhaaGreatGStr
namespace Go.Proofs.YtbflhphjnmhjhaaGreat
open Go.RowKit Oct Fi Fm
set_option linter.unusedVariables false
set_option linter.unusedSimpArgs false
theorem at_wp {P : Program} {ops : Array Oper} {l : List Oper} {a : Act} {w : World} {Q : Exit → Act → World → Prop} (h : wpList P ops Q l a w) : wpList P ops Q l a w := h

theorem equal_any (A A' : Option Addr) (n n' c c' B B' : Nat) (xs ys : List UInt8) (w : World) (h : Bs w B A n xs) (h' : Bs w B' A' n' ys) :
    Calls Tryz.prog 55 #[.slice A n c, .slice A' n' c'] w fun e w' => e = .returned (.bool (xs == ys)) ∧ w = w' := by
  have h1 := conv_bytes (c := c) h
  have h2 := conv_bytes (c := c') h'
  clear h h'
  go_enter Tryz.func55, Tryz.ntmps55
  go_wp2
  go_ret
  exact ⟨rfl, rfl⟩
theorem same_any (A A' : Option Addr) (n n' c c' B B' : Nat) (xs ys : List UInt8) (w : World) (h : Bs w B A n xs) (h' : Bs w B' A' n' ys) :
    Calls Tryz.prog 33 #[.slice A n c, .slice A' n' c'] w fun e w' => e = .returned (.bool (xs == ys)) ∧ w = w' := by
  have H1 := Lib.hid h
  have H2 := Lib.hid h'
  clear h h'
  go_enter Tryz.func33, Tryz.ntmps33
  go_wp2_with (go_at_call 55; refine (equal_any _ _ _ _ _ _ B B' xs ys _ H1.out H2.out).mono ?_; rintro e w' ⟨rfl, rfl⟩)
  go_ret
  exact ⟨rfl, rfl⟩
set_option maxRecDepth 100000 in
set_option maxHeartbeats 2000000 in
theorem p_same_0 (A1 A2 D1 D2 : Option Addr) (n1 c1 n2 c2 m1 e1 m2 e2 : Nat) (kd1 kd2 : Int) (fl1 fl2 : Int) (st1 st2 : Int) (da1 da2 : List UInt8) (pd1 pd2 : Int) (la1 la2 : Int) (ic1 ic2 : Int) (co1 co2 : Int) (ps1 ps2 : List Pr) (rk1 rk2 : Bool) (al1 al2 : Bool) (dp1 dp2 : Int) (wt1 wt2 : Int) (w : World) (hA1 : Bs w w.heap.size A1 n1 da1) (hA2 : Bs w w.heap.size A2 n2 da2) (hD1 : Ps w w.heap.size D1 m1 ps1) (hD2 : Ps w w.heap.size D2 m2 ps2) (hm : m1 ≤ 100000) (hne : ¬ kd1 = kd2) :
    Calls Tryz.prog 14 #[.agg (fr13 kd1 fl1 st1 A1 n1 c1 pd1 la1 ic1 co1 D1 m1 e1 rk1 al1 dp1 wt1), .agg (fr13 kd2 fl2 st2 A2 n2 c2 pd2 la2 ic2 co2 D2 m2 e2 rk2 al2 dp2 wt2)] w fun e w' => e = .returned (.bool false) ∧ Below w.heap.size w w' := by
  have B0 : Hid (Below w.heap.size w ((w.alloc (.cells (fr13 kd1 fl1 st1 A1 n1 c1 pd1 la1 ic1 co1 D1 m1 e1 rk1 al1 dp1 wt1) 30)).alloc (.cells (fr13 kd2 fl2 st2 A2 n2 c2 pd2 la2 ic2 co2 D2 m2 e2 rk2 al2 dp2 wt2) 30))) := Lib.hid (((Below.refl _ w).alloc (Nat.le_refl _) _).alloc (by simp) _)
  have K0 : Hid (EnvB ((w.alloc (.cells (fr13 kd1 fl1 st1 A1 n1 c1 pd1 la1 ic1 co1 D1 m1 e1 rk1 al1 dp1 wt1) 30)).alloc (.cells (fr13 kd2 fl2 st2 A2 n2 c2 pd2 la2 ic2 co2 D2 m2 e2 rk2 al2 dp2 wt2) 30)) [(A1, n1, da1), (A2, n2, da2)] [(D1, m1, ps1), (D2, m2, ps2)] [(w.heap.size + 1, (fr13 kd2 fl2 st2 A2 n2 c2 pd2 la2 ic2 co2 D2 m2 e2 rk2 al2 dp2 wt2), 30), (w.heap.size, (fr13 kd1 fl1 st1 A1 n1 c1 pd1 la1 ic1 co1 D1 m1 e1 rk1 al1 dp1 wt1), 30)]) := Lib.hid ((((((EnvB.nil w).addS0 hA2).addS0 hA1).addP0 hD2).addP0 hD1).box 30 (fr13 kd1 fl1 st1 A1 n1 c1 pd1 la1 ic1 co1 D1 m1 e1 rk1 al1 dp1 wt1) |>.boxg 30 (fr13 kd2 fl2 st2 A2 n2 c2 pd2 la2 ic2 co2 D2 m2 e2 rk2 al2 dp2 wt2) (w.heap.size + 1) (by simp))
  have hnb : (kd1 == kd2) = false := by simpa using hne
  clear hA1 hA2 hD1 hD2
  go_enter Tryz.func14, Tryz.ntmps14
  go_wp2_with (first
    | (with_reducible refine at_wp ?_; go_skip)
    | (with_reducible refine at_wp ?_; refine at_load 5 (.tmp 5) (by rfl) ?_; generalize ((w.alloc (.cells (fr13 kd1 fl1 st1 A1 n1 c1 pd1 la1 ic1 co1 D1 m1 e1 rk1 al1 dp1 wt1) 30)).alloc (.cells (fr13 kd2 fl2 st2 A2 n2 c2 pd2 la2 ic2 co2 D2 m2 e2 rk2 al2 dp2 wt2) 30)) = W0 at *; refine wpList_get (by rfl) 5 (.tmp 5) (by rfl) (w.heap.size) 0 (by rfl) 30 _ (.int .u8 kd1) _ (K0.out.row 1 rfl) (by rfl) Tryz.underlying5 (by rfl) ?_)
    | (with_reducible refine at_wp ?_; refine at_load 5 (.tmp 7) (by rfl) ?_; refine wpList_get (by rfl) 5 (.tmp 7) (by rfl) (w.heap.size + 1) 0 (by rfl) 30 _ (.int .u8 kd2) _ (K0.out.row 0 rfl) (by rfl) Tryz.underlying5 (by rfl) ?_; generalize (Value.agg (fr13 kd1 fl1 st1 A1 n1 c1 pd1 la1 ic1 co1 D1 m1 e1 rk1 al1 dp1 wt1)) = V1; generalize (Value.agg (fr13 kd2 fl2 st2 A2 n2 c2 pd2 la2 ic2 co2 D2 m2 e2 rk2 al2 dp2 wt2)) = V2))
  go_ret
  exact ⟨rfl, B0.out⟩
set_option maxRecDepth 100000 in
set_option maxHeartbeats 2000000 in
theorem p_same_1 (A1 A2 D1 D2 : Option Addr) (n1 c1 n2 c2 m1 e1 m2 e2 : Nat) (kd : Int) (fl1 fl2 : Int) (st1 st2 : Int) (da1 da2 : List UInt8) (pd1 pd2 : Int) (la1 la2 : Int) (ic1 ic2 : Int) (co1 co2 : Int) (ps1 ps2 : List Pr) (rk1 rk2 : Bool) (al1 al2 : Bool) (dp1 dp2 : Int) (wt1 wt2 : Int) (w : World) (hA1 : Bs w w.heap.size A1 n1 da1) (hA2 : Bs w w.heap.size A2 n2 da2) (hD1 : Ps w w.heap.size D1 m1 ps1) (hD2 : Ps w w.heap.size D2 m2 ps2) (hm : m1 ≤ 100000) (hne : ¬ fl1 = fl2) :
    Calls Tryz.prog 14 #[.agg (fr13 kd fl1 st1 A1 n1 c1 pd1 la1 ic1 co1 D1 m1 e1 rk1 al1 dp1 wt1), .agg (fr13 kd fl2 st2 A2 n2 c2 pd2 la2 ic2 co2 D2 m2 e2 rk2 al2 dp2 wt2)] w fun e w' => e = .returned (.bool false) ∧ Below w.heap.size w w' := by
  have B0 : Hid (Below w.heap.size w ((w.alloc (.cells (fr13 kd fl1 st1 A1 n1 c1 pd1 la1 ic1 co1 D1 m1 e1 rk1 al1 dp1 wt1) 30)).alloc (.cells (fr13 kd fl2 st2 A2 n2 c2 pd2 la2 ic2 co2 D2 m2 e2 rk2 al2 dp2 wt2) 30))) := Lib.hid (((Below.refl _ w).alloc (Nat.le_refl _) _).alloc (by simp) _)
  have K0 : Hid (EnvB ((w.alloc (.cells (fr13 kd fl1 st1 A1 n1 c1 pd1 la1 ic1 co1 D1 m1 e1 rk1 al1 dp1 wt1) 30)).alloc (.cells (fr13 kd fl2 st2 A2 n2 c2 pd2 la2 ic2 co2 D2 m2 e2 rk2 al2 dp2 wt2) 30)) [(A1, n1, da1), (A2, n2, da2)] [(D1, m1, ps1), (D2, m2, ps2)] [(w.heap.size + 1, (fr13 kd fl2 st2 A2 n2 c2 pd2 la2 ic2 co2 D2 m2 e2 rk2 al2 dp2 wt2), 30), (w.heap.size, (fr13 kd fl1 st1 A1 n1 c1 pd1 la1 ic1 co1 D1 m1 e1 rk1 al1 dp1 wt1), 30)]) := Lib.hid ((((((EnvB.nil w).addS0 hA2).addS0 hA1).addP0 hD2).addP0 hD1).box 30 (fr13 kd fl1 st1 A1 n1 c1 pd1 la1 ic1 co1 D1 m1 e1 rk1 al1 dp1 wt1) |>.boxg 30 (fr13 kd fl2 st2 A2 n2 c2 pd2 la2 ic2 co2 D2 m2 e2 rk2 al2 dp2 wt2) (w.heap.size + 1) (by simp))
  have hnb : (fl1 == fl2) = false := by simpa using hne
  clear hA1 hA2 hD1 hD2
  go_enter Tryz.func14, Tryz.ntmps14
  go_wp2_with (first
    | (with_reducible refine at_wp ?_; go_skip)
    | (with_reducible refine at_wp ?_; refine at_load 5 (.tmp 5) (by rfl) ?_; generalize ((w.alloc (.cells (fr13 kd fl1 st1 A1 n1 c1 pd1 la1 ic1 co1 D1 m1 e1 rk1 al1 dp1 wt1) 30)).alloc (.cells (fr13 kd fl2 st2 A2 n2 c2 pd2 la2 ic2 co2 D2 m2 e2 rk2 al2 dp2 wt2) 30)) = W0 at *; refine wpList_get (by rfl) 5 (.tmp 5) (by rfl) (w.heap.size) 0 (by rfl) 30 _ (.int .u8 kd) _ (K0.out.row 1 rfl) (by rfl) Tryz.underlying5 (by rfl) ?_)
    | (with_reducible refine at_wp ?_; refine at_load 5 (.tmp 7) (by rfl) ?_; refine wpList_get (by rfl) 5 (.tmp 7) (by rfl) (w.heap.size + 1) 0 (by rfl) 30 _ (.int .u8 kd) _ (K0.out.row 0 rfl) (by rfl) Tryz.underlying5 (by rfl) ?_; generalize (Value.agg (fr13 kd fl1 st1 A1 n1 c1 pd1 la1 ic1 co1 D1 m1 e1 rk1 al1 dp1 wt1)) = V1; generalize (Value.agg (fr13 kd fl2 st2 A2 n2 c2 pd2 la2 ic2 co2 D2 m2 e2 rk2 al2 dp2 wt2)) = V2; obtain ⟨p0, p1, p2, p3, p4, p5, p6, p7, p8, p9, p10, p11, p12⟩ := c13_row (K0.out.row 1 rfl); obtain ⟨q0, q1, q2, q3, q4, q5, q6, q7, q8, q9, q10, q11, q12⟩ := c13_row (K0.out.row 0 rfl)))
  go_ret
  exact ⟨rfl, B0.out⟩
set_option maxRecDepth 100000 in
set_option maxHeartbeats 2000000 in
theorem p_same_2 (A1 A2 D1 D2 : Option Addr) (n1 c1 n2 c2 m1 e1 m2 e2 : Nat) (kd : Int) (fl : Int) (st1 st2 : Int) (da1 da2 : List UInt8) (pd1 pd2 : Int) (la1 la2 : Int) (ic1 ic2 : Int) (co1 co2 : Int) (ps1 ps2 : List Pr) (rk1 rk2 : Bool) (al1 al2 : Bool) (dp1 dp2 : Int) (wt1 wt2 : Int) (w : World) (hA1 : Bs w w.heap.size A1 n1 da1) (hA2 : Bs w w.heap.size A2 n2 da2) (hD1 : Ps w w.heap.size D1 m1 ps1) (hD2 : Ps w w.heap.size D2 m2 ps2) (hm : m1 ≤ 100000) (hne : ¬ st1 = st2) :
    Calls Tryz.prog 14 #[.agg (fr13 kd fl st1 A1 n1 c1 pd1 la1 ic1 co1 D1 m1 e1 rk1 al1 dp1 wt1), .agg (fr13 kd fl st2 A2 n2 c2 pd2 la2 ic2 co2 D2 m2 e2 rk2 al2 dp2 wt2)] w fun e w' => e = .returned (.bool false) ∧ Below w.heap.size w w' := by
  have B0 : Hid (Below w.heap.size w ((w.alloc (.cells (fr13 kd fl st1 A1 n1 c1 pd1 la1 ic1 co1 D1 m1 e1 rk1 al1 dp1 wt1) 30)).alloc (.cells (fr13 kd fl st2 A2 n2 c2 pd2 la2 ic2 co2 D2 m2 e2 rk2 al2 dp2 wt2) 30))) := Lib.hid (((Below.refl _ w).alloc (Nat.le_refl _) _).alloc (by simp) _)
  have K0 : Hid (EnvB ((w.alloc (.cells (fr13 kd fl st1 A1 n1 c1 pd1 la1 ic1 co1 D1 m1 e1 rk1 al1 dp1 wt1) 30)).alloc (.cells (fr13 kd fl st2 A2 n2 c2 pd2 la2 ic2 co2 D2 m2 e2 rk2 al2 dp2 wt2) 30)) [(A1, n1, da1), (A2, n2, da2)] [(D1, m1, ps1), (D2, m2, ps2)] [(w.heap.size + 1, (fr13 kd fl st2 A2 n2 c2 pd2 la2 ic2 co2 D2 m2 e2 rk2 al2 dp2 wt2), 30), (w.heap.size, (fr13 kd fl st1 A1 n1 c1 pd1 la1 ic1 co1 D1 m1 e1 rk1 al1 dp1 wt1), 30)]) := Lib.hid ((((((EnvB.nil w).addS0 hA2).addS0 hA1).addP0 hD2).addP0 hD1).box 30 (fr13 kd fl st1 A1 n1 c1 pd1 la1 ic1 co1 D1 m1 e1 rk1 al1 dp1 wt1) |>.boxg 30 (fr13 kd fl st2 A2 n2 c2 pd2 la2 ic2 co2 D2 m2 e2 rk2 al2 dp2 wt2) (w.heap.size + 1) (by simp))
  have hnb : (st1 == st2) = false := by simpa using hne
  clear hA1 hA2 hD1 hD2
  go_enter Tryz.func14, Tryz.ntmps14
  go_wp2_with (first
    | (with_reducible refine at_wp ?_; go_skip)
    | (with_reducible refine at_wp ?_; refine at_load 5 (.tmp 5) (by rfl) ?_; generalize ((w.alloc (.cells (fr13 kd fl st1 A1 n1 c1 pd1 la1 ic1 co1 D1 m1 e1 rk1 al1 dp1 wt1) 30)).alloc (.cells (fr13 kd fl st2 A2 n2 c2 pd2 la2 ic2 co2 D2 m2 e2 rk2 al2 dp2 wt2) 30)) = W0 at *; refine wpList_get (by rfl) 5 (.tmp 5) (by rfl) (w.heap.size) 0 (by rfl) 30 _ (.int .u8 kd) _ (K0.out.row 1 rfl) (by rfl) Tryz.underlying5 (by rfl) ?_)
    | (with_reducible refine at_wp ?_; refine at_load 5 (.tmp 7) (by rfl) ?_; refine wpList_get (by rfl) 5 (.tmp 7) (by rfl) (w.heap.size + 1) 0 (by rfl) 30 _ (.int .u8 kd) _ (K0.out.row 0 rfl) (by rfl) Tryz.underlying5 (by rfl) ?_; generalize (Value.agg (fr13 kd fl st1 A1 n1 c1 pd1 la1 ic1 co1 D1 m1 e1 rk1 al1 dp1 wt1)) = V1; generalize (Value.agg (fr13 kd fl st2 A2 n2 c2 pd2 la2 ic2 co2 D2 m2 e2 rk2 al2 dp2 wt2)) = V2; obtain ⟨p0, p1, p2, p3, p4, p5, p6, p7, p8, p9, p10, p11, p12⟩ := c13_row (K0.out.row 1 rfl); obtain ⟨q0, q1, q2, q3, q4, q5, q6, q7, q8, q9, q10, q11, q12⟩ := c13_row (K0.out.row 0 rfl)))
  go_ret
  exact ⟨rfl, B0.out⟩
set_option maxRecDepth 100000 in
set_option maxHeartbeats 2000000 in
theorem p_same_3 (A1 A2 D1 D2 : Option Addr) (n1 c1 n2 c2 m1 e1 m2 e2 : Nat) (kd : Int) (fl : Int) (st : Int) (da1 da2 : List UInt8) (pd1 pd2 : Int) (la1 la2 : Int) (ic1 ic2 : Int) (co1 co2 : Int) (ps1 ps2 : List Pr) (rk1 rk2 : Bool) (al1 al2 : Bool) (dp1 dp2 : Int) (wt1 wt2 : Int) (w : World) (hA1 : Bs w w.heap.size A1 n1 da1) (hA2 : Bs w w.heap.size A2 n2 da2) (hD1 : Ps w w.heap.size D1 m1 ps1) (hD2 : Ps w w.heap.size D2 m2 ps2) (hm : m1 ≤ 100000) (hne : (da1 == da2) = false) :
    Calls Tryz.prog 14 #[.agg (fr13 kd fl st A1 n1 c1 pd1 la1 ic1 co1 D1 m1 e1 rk1 al1 dp1 wt1), .agg (fr13 kd fl st A2 n2 c2 pd2 la2 ic2 co2 D2 m2 e2 rk2 al2 dp2 wt2)] w fun e w' => e = .returned (.bool false) ∧ Below w.heap.size w w' := by
  have B0 : Hid (Below w.heap.size w ((w.alloc (.cells (fr13 kd fl st A1 n1 c1 pd1 la1 ic1 co1 D1 m1 e1 rk1 al1 dp1 wt1) 30)).alloc (.cells (fr13 kd fl st A2 n2 c2 pd2 la2 ic2 co2 D2 m2 e2 rk2 al2 dp2 wt2) 30))) := Lib.hid (((Below.refl _ w).alloc (Nat.le_refl _) _).alloc (by simp) _)
  have K0 : Hid (EnvB ((w.alloc (.cells (fr13 kd fl st A1 n1 c1 pd1 la1 ic1 co1 D1 m1 e1 rk1 al1 dp1 wt1) 30)).alloc (.cells (fr13 kd fl st A2 n2 c2 pd2 la2 ic2 co2 D2 m2 e2 rk2 al2 dp2 wt2) 30)) [(A1, n1, da1), (A2, n2, da2)] [(D1, m1, ps1), (D2, m2, ps2)] [(w.heap.size + 1, (fr13 kd fl st A2 n2 c2 pd2 la2 ic2 co2 D2 m2 e2 rk2 al2 dp2 wt2), 30), (w.heap.size, (fr13 kd fl st A1 n1 c1 pd1 la1 ic1 co1 D1 m1 e1 rk1 al1 dp1 wt1), 30)]) := Lib.hid ((((((EnvB.nil w).addS0 hA2).addS0 hA1).addP0 hD2).addP0 hD1).box 30 (fr13 kd fl st A1 n1 c1 pd1 la1 ic1 co1 D1 m1 e1 rk1 al1 dp1 wt1) |>.boxg 30 (fr13 kd fl st A2 n2 c2 pd2 la2 ic2 co2 D2 m2 e2 rk2 al2 dp2 wt2) (w.heap.size + 1) (by simp))
  clear hA1 hA2 hD1 hD2
  go_enter Tryz.func14, Tryz.ntmps14
  go_wp2_with (first
    | (with_reducible refine at_wp ?_; go_skip)
    | (with_reducible refine at_wp ?_; refine at_load 5 (.tmp 5) (by rfl) ?_; generalize ((w.alloc (.cells (fr13 kd fl st A1 n1 c1 pd1 la1 ic1 co1 D1 m1 e1 rk1 al1 dp1 wt1) 30)).alloc (.cells (fr13 kd fl st A2 n2 c2 pd2 la2 ic2 co2 D2 m2 e2 rk2 al2 dp2 wt2) 30)) = W0 at *; refine wpList_get (by rfl) 5 (.tmp 5) (by rfl) (w.heap.size) 0 (by rfl) 30 _ (.int .u8 kd) _ (K0.out.row 1 rfl) (by rfl) Tryz.underlying5 (by rfl) ?_)
    | (with_reducible refine at_wp ?_; refine at_load 5 (.tmp 7) (by rfl) ?_; refine wpList_get (by rfl) 5 (.tmp 7) (by rfl) (w.heap.size + 1) 0 (by rfl) 30 _ (.int .u8 kd) _ (K0.out.row 0 rfl) (by rfl) Tryz.underlying5 (by rfl) ?_; generalize (Value.agg (fr13 kd fl st A1 n1 c1 pd1 la1 ic1 co1 D1 m1 e1 rk1 al1 dp1 wt1)) = V1; generalize (Value.agg (fr13 kd fl st A2 n2 c2 pd2 la2 ic2 co2 D2 m2 e2 rk2 al2 dp2 wt2)) = V2; obtain ⟨p0, p1, p2, p3, p4, p5, p6, p7, p8, p9, p10, p11, p12⟩ := c13_row (K0.out.row 1 rfl); obtain ⟨q0, q1, q2, q3, q4, q5, q6, q7, q8, q9, q10, q11, q12⟩ := c13_row (K0.out.row 0 rfl))
    | (go_at_call 33; (with_reducible refine (same_any A1 A2 n1 n2 c1 c2 _ _ _ _ _ (K0.out.s (A1, n1, da1) (by simp)).1 (K0.out.s (A2, n2, da2) (by simp)).1).mono ?_); rintro e w' ⟨rfl, rfl⟩; rw [hne]; skip))
  go_ret
  exact ⟨rfl, B0.out⟩
set_option maxRecDepth 100000 in
set_option maxHeartbeats 2000000 in
theorem p_same_4 (A1 A2 D1 D2 : Option Addr) (n1 c1 n2 c2 m1 e1 m2 e2 : Nat) (kd : Int) (fl : Int) (st : Int) (da : List UInt8) (pd1 pd2 : Int) (la1 la2 : Int) (ic1 ic2 : Int) (co1 co2 : Int) (ps1 ps2 : List Pr) (rk1 rk2 : Bool) (al1 al2 : Bool) (dp1 dp2 : Int) (wt1 wt2 : Int) (w : World) (hA1 : Bs w w.heap.size A1 n1 da) (hA2 : Bs w w.heap.size A2 n2 da) (hD1 : Ps w w.heap.size D1 m1 ps1) (hD2 : Ps w w.heap.size D2 m2 ps2) (hm : m1 ≤ 100000) (hne : ¬ pd1 = pd2) :
    Calls Tryz.prog 14 #[.agg (fr13 kd fl st A1 n1 c1 pd1 la1 ic1 co1 D1 m1 e1 rk1 al1 dp1 wt1), .agg (fr13 kd fl st A2 n2 c2 pd2 la2 ic2 co2 D2 m2 e2 rk2 al2 dp2 wt2)] w fun e w' => e = .returned (.bool false) ∧ Below w.heap.size w w' := by
  have B0 : Hid (Below w.heap.size w ((w.alloc (.cells (fr13 kd fl st A1 n1 c1 pd1 la1 ic1 co1 D1 m1 e1 rk1 al1 dp1 wt1) 30)).alloc (.cells (fr13 kd fl st A2 n2 c2 pd2 la2 ic2 co2 D2 m2 e2 rk2 al2 dp2 wt2) 30))) := Lib.hid (((Below.refl _ w).alloc (Nat.le_refl _) _).alloc (by simp) _)
  have K0 : Hid (EnvB ((w.alloc (.cells (fr13 kd fl st A1 n1 c1 pd1 la1 ic1 co1 D1 m1 e1 rk1 al1 dp1 wt1) 30)).alloc (.cells (fr13 kd fl st A2 n2 c2 pd2 la2 ic2 co2 D2 m2 e2 rk2 al2 dp2 wt2) 30)) [(A1, n1, da), (A2, n2, da)] [(D1, m1, ps1), (D2, m2, ps2)] [(w.heap.size + 1, (fr13 kd fl st A2 n2 c2 pd2 la2 ic2 co2 D2 m2 e2 rk2 al2 dp2 wt2), 30), (w.heap.size, (fr13 kd fl st A1 n1 c1 pd1 la1 ic1 co1 D1 m1 e1 rk1 al1 dp1 wt1), 30)]) := Lib.hid ((((((EnvB.nil w).addS0 hA2).addS0 hA1).addP0 hD2).addP0 hD1).box 30 (fr13 kd fl st A1 n1 c1 pd1 la1 ic1 co1 D1 m1 e1 rk1 al1 dp1 wt1) |>.boxg 30 (fr13 kd fl st A2 n2 c2 pd2 la2 ic2 co2 D2 m2 e2 rk2 al2 dp2 wt2) (w.heap.size + 1) (by simp))
  have hnb : (pd1 == pd2) = false := by simpa using hne
  clear hA1 hA2 hD1 hD2
  go_enter Tryz.func14, Tryz.ntmps14
  go_wp2_with (first
    | (with_reducible refine at_wp ?_; go_skip)
    | (with_reducible refine at_wp ?_; refine at_load 5 (.tmp 5) (by rfl) ?_; generalize ((w.alloc (.cells (fr13 kd fl st A1 n1 c1 pd1 la1 ic1 co1 D1 m1 e1 rk1 al1 dp1 wt1) 30)).alloc (.cells (fr13 kd fl st A2 n2 c2 pd2 la2 ic2 co2 D2 m2 e2 rk2 al2 dp2 wt2) 30)) = W0 at *; refine wpList_get (by rfl) 5 (.tmp 5) (by rfl) (w.heap.size) 0 (by rfl) 30 _ (.int .u8 kd) _ (K0.out.row 1 rfl) (by rfl) Tryz.underlying5 (by rfl) ?_)
    | (with_reducible refine at_wp ?_; refine at_load 5 (.tmp 7) (by rfl) ?_; refine wpList_get (by rfl) 5 (.tmp 7) (by rfl) (w.heap.size + 1) 0 (by rfl) 30 _ (.int .u8 kd) _ (K0.out.row 0 rfl) (by rfl) Tryz.underlying5 (by rfl) ?_; generalize (Value.agg (fr13 kd fl st A1 n1 c1 pd1 la1 ic1 co1 D1 m1 e1 rk1 al1 dp1 wt1)) = V1; generalize (Value.agg (fr13 kd fl st A2 n2 c2 pd2 la2 ic2 co2 D2 m2 e2 rk2 al2 dp2 wt2)) = V2; obtain ⟨p0, p1, p2, p3, p4, p5, p6, p7, p8, p9, p10, p11, p12⟩ := c13_row (K0.out.row 1 rfl); obtain ⟨q0, q1, q2, q3, q4, q5, q6, q7, q8, q9, q10, q11, q12⟩ := c13_row (K0.out.row 0 rfl))
    | (go_at_call 33; (with_reducible refine (same_any A1 A2 n1 n2 c1 c2 _ _ _ _ _ (K0.out.s (A1, n1, da) (by simp)).1 (K0.out.s (A2, n2, da) (by simp)).1).mono ?_); rintro e w' ⟨rfl, rfl⟩; rw [beq_self_eq_true]; skip))
  go_ret
  exact ⟨rfl, B0.out⟩
set_option maxRecDepth 100000 in
set_option maxHeartbeats 2000000 in
theorem p_same_5 (A1 A2 D1 D2 : Option Addr) (n1 c1 n2 c2 m1 e1 m2 e2 : Nat) (kd : Int) (fl : Int) (st : Int) (da : List UInt8) (pd : Int) (la1 la2 : Int) (ic1 ic2 : Int) (co1 co2 : Int) (ps1 ps2 : List Pr) (rk1 rk2 : Bool) (al1 al2 : Bool) (dp1 dp2 : Int) (wt1 wt2 : Int) (w : World) (hA1 : Bs w w.heap.size A1 n1 da) (hA2 : Bs w w.heap.size A2 n2 da) (hD1 : Ps w w.heap.size D1 m1 ps1) (hD2 : Ps w w.heap.size D2 m2 ps2) (hm : m1 ≤ 100000) (hne : ¬ la1 = la2) :
    Calls Tryz.prog 14 #[.agg (fr13 kd fl st A1 n1 c1 pd la1 ic1 co1 D1 m1 e1 rk1 al1 dp1 wt1), .agg (fr13 kd fl st A2 n2 c2 pd la2 ic2 co2 D2 m2 e2 rk2 al2 dp2 wt2)] w fun e w' => e = .returned (.bool false) ∧ Below w.heap.size w w' := by
  have B0 : Hid (Below w.heap.size w ((w.alloc (.cells (fr13 kd fl st A1 n1 c1 pd la1 ic1 co1 D1 m1 e1 rk1 al1 dp1 wt1) 30)).alloc (.cells (fr13 kd fl st A2 n2 c2 pd la2 ic2 co2 D2 m2 e2 rk2 al2 dp2 wt2) 30))) := Lib.hid (((Below.refl _ w).alloc (Nat.le_refl _) _).alloc (by simp) _)
  have K0 : Hid (EnvB ((w.alloc (.cells (fr13 kd fl st A1 n1 c1 pd la1 ic1 co1 D1 m1 e1 rk1 al1 dp1 wt1) 30)).alloc (.cells (fr13 kd fl st A2 n2 c2 pd la2 ic2 co2 D2 m2 e2 rk2 al2 dp2 wt2) 30)) [(A1, n1, da), (A2, n2, da)] [(D1, m1, ps1), (D2, m2, ps2)] [(w.heap.size + 1, (fr13 kd fl st A2 n2 c2 pd la2 ic2 co2 D2 m2 e2 rk2 al2 dp2 wt2), 30), (w.heap.size, (fr13 kd fl st A1 n1 c1 pd la1 ic1 co1 D1 m1 e1 rk1 al1 dp1 wt1), 30)]) := Lib.hid ((((((EnvB.nil w).addS0 hA2).addS0 hA1).addP0 hD2).addP0 hD1).box 30 (fr13 kd fl st A1 n1 c1 pd la1 ic1 co1 D1 m1 e1 rk1 al1 dp1 wt1) |>.boxg 30 (fr13 kd fl st A2 n2 c2 pd la2 ic2 co2 D2 m2 e2 rk2 al2 dp2 wt2) (w.heap.size + 1) (by simp))
  have hnb : (la1 == la2) = false := by simpa using hne
  clear hA1 hA2 hD1 hD2
  go_enter Tryz.func14, Tryz.ntmps14
  go_wp2_with (first
    | (with_reducible refine at_wp ?_; go_skip)
    | (with_reducible refine at_wp ?_; refine at_load 5 (.tmp 5) (by rfl) ?_; generalize ((w.alloc (.cells (fr13 kd fl st A1 n1 c1 pd la1 ic1 co1 D1 m1 e1 rk1 al1 dp1 wt1) 30)).alloc (.cells (fr13 kd fl st A2 n2 c2 pd la2 ic2 co2 D2 m2 e2 rk2 al2 dp2 wt2) 30)) = W0 at *; refine wpList_get (by rfl) 5 (.tmp 5) (by rfl) (w.heap.size) 0 (by rfl) 30 _ (.int .u8 kd) _ (K0.out.row 1 rfl) (by rfl) Tryz.underlying5 (by rfl) ?_)
    | (with_reducible refine at_wp ?_; refine at_load 5 (.tmp 7) (by rfl) ?_; refine wpList_get (by rfl) 5 (.tmp 7) (by rfl) (w.heap.size + 1) 0 (by rfl) 30 _ (.int .u8 kd) _ (K0.out.row 0 rfl) (by rfl) Tryz.underlying5 (by rfl) ?_; generalize (Value.agg (fr13 kd fl st A1 n1 c1 pd la1 ic1 co1 D1 m1 e1 rk1 al1 dp1 wt1)) = V1; generalize (Value.agg (fr13 kd fl st A2 n2 c2 pd la2 ic2 co2 D2 m2 e2 rk2 al2 dp2 wt2)) = V2; obtain ⟨p0, p1, p2, p3, p4, p5, p6, p7, p8, p9, p10, p11, p12⟩ := c13_row (K0.out.row 1 rfl); obtain ⟨q0, q1, q2, q3, q4, q5, q6, q7, q8, q9, q10, q11, q12⟩ := c13_row (K0.out.row 0 rfl))
    | (go_at_call 33; (with_reducible refine (same_any A1 A2 n1 n2 c1 c2 _ _ _ _ _ (K0.out.s (A1, n1, da) (by simp)).1 (K0.out.s (A2, n2, da) (by simp)).1).mono ?_); rintro e w' ⟨rfl, rfl⟩; rw [beq_self_eq_true]; skip))
  go_ret
  exact ⟨rfl, B0.out⟩
set_option maxRecDepth 100000 in
set_option maxHeartbeats 2000000 in
theorem p_same_6 (A1 A2 D1 D2 : Option Addr) (n1 c1 n2 c2 m1 e1 m2 e2 : Nat) (kd : Int) (fl : Int) (st : Int) (da : List UInt8) (pd : Int) (la : Int) (ic1 ic2 : Int) (co1 co2 : Int) (ps1 ps2 : List Pr) (rk1 rk2 : Bool) (al1 al2 : Bool) (dp1 dp2 : Int) (wt1 wt2 : Int) (w : World) (hA1 : Bs w w.heap.size A1 n1 da) (hA2 : Bs w w.heap.size A2 n2 da) (hD1 : Ps w w.heap.size D1 m1 ps1) (hD2 : Ps w w.heap.size D2 m2 ps2) (hm : m1 ≤ 100000) (hne : ¬ ic1 = ic2) :
    Calls Tryz.prog 14 #[.agg (fr13 kd fl st A1 n1 c1 pd la ic1 co1 D1 m1 e1 rk1 al1 dp1 wt1), .agg (fr13 kd fl st A2 n2 c2 pd la ic2 co2 D2 m2 e2 rk2 al2 dp2 wt2)] w fun e w' => e = .returned (.bool false) ∧ Below w.heap.size w w' := by
  have B0 : Hid (Below w.heap.size w ((w.alloc (.cells (fr13 kd fl st A1 n1 c1 pd la ic1 co1 D1 m1 e1 rk1 al1 dp1 wt1) 30)).alloc (.cells (fr13 kd fl st A2 n2 c2 pd la ic2 co2 D2 m2 e2 rk2 al2 dp2 wt2) 30))) := Lib.hid (((Below.refl _ w).alloc (Nat.le_refl _) _).alloc (by simp) _)
  have K0 : Hid (EnvB ((w.alloc (.cells (fr13 kd fl st A1 n1 c1 pd la ic1 co1 D1 m1 e1 rk1 al1 dp1 wt1) 30)).alloc (.cells (fr13 kd fl st A2 n2 c2 pd la ic2 co2 D2 m2 e2 rk2 al2 dp2 wt2) 30)) [(A1, n1, da), (A2, n2, da)] [(D1, m1, ps1), (D2, m2, ps2)] [(w.heap.size + 1, (fr13 kd fl st A2 n2 c2 pd la ic2 co2 D2 m2 e2 rk2 al2 dp2 wt2), 30), (w.heap.size, (fr13 kd fl st A1 n1 c1 pd la ic1 co1 D1 m1 e1 rk1 al1 dp1 wt1), 30)]) := Lib.hid ((((((EnvB.nil w).addS0 hA2).addS0 hA1).addP0 hD2).addP0 hD1).box 30 (fr13 kd fl st A1 n1 c1 pd la ic1 co1 D1 m1 e1 rk1 al1 dp1 wt1) |>.boxg 30 (fr13 kd fl st A2 n2 c2 pd la ic2 co2 D2 m2 e2 rk2 al2 dp2 wt2) (w.heap.size + 1) (by simp))
  have hnb : (ic1 == ic2) = false := by simpa using hne
  clear hA1 hA2 hD1 hD2
  go_enter Tryz.func14, Tryz.ntmps14
  go_wp2_with (first
    | (with_reducible refine at_wp ?_; go_skip)
    | (with_reducible refine at_wp ?_; refine at_load 5 (.tmp 5) (by rfl) ?_; generalize ((w.alloc (.cells (fr13 kd fl st A1 n1 c1 pd la ic1 co1 D1 m1 e1 rk1 al1 dp1 wt1) 30)).alloc (.cells (fr13 kd fl st A2 n2 c2 pd la ic2 co2 D2 m2 e2 rk2 al2 dp2 wt2) 30)) = W0 at *; refine wpList_get (by rfl) 5 (.tmp 5) (by rfl) (w.heap.size) 0 (by rfl) 30 _ (.int .u8 kd) _ (K0.out.row 1 rfl) (by rfl) Tryz.underlying5 (by rfl) ?_)
    | (with_reducible refine at_wp ?_; refine at_load 5 (.tmp 7) (by rfl) ?_; refine wpList_get (by rfl) 5 (.tmp 7) (by rfl) (w.heap.size + 1) 0 (by rfl) 30 _ (.int .u8 kd) _ (K0.out.row 0 rfl) (by rfl) Tryz.underlying5 (by rfl) ?_; generalize (Value.agg (fr13 kd fl st A1 n1 c1 pd la ic1 co1 D1 m1 e1 rk1 al1 dp1 wt1)) = V1; generalize (Value.agg (fr13 kd fl st A2 n2 c2 pd la ic2 co2 D2 m2 e2 rk2 al2 dp2 wt2)) = V2; obtain ⟨p0, p1, p2, p3, p4, p5, p6, p7, p8, p9, p10, p11, p12⟩ := c13_row (K0.out.row 1 rfl); obtain ⟨q0, q1, q2, q3, q4, q5, q6, q7, q8, q9, q10, q11, q12⟩ := c13_row (K0.out.row 0 rfl))
    | (go_at_call 33; (with_reducible refine (same_any A1 A2 n1 n2 c1 c2 _ _ _ _ _ (K0.out.s (A1, n1, da) (by simp)).1 (K0.out.s (A2, n2, da) (by simp)).1).mono ?_); rintro e w' ⟨rfl, rfl⟩; rw [beq_self_eq_true]; skip))
  go_ret
  exact ⟨rfl, B0.out⟩
set_option maxRecDepth 100000 in
set_option maxHeartbeats 2000000 in
theorem p_same_7 (A1 A2 D1 D2 : Option Addr) (n1 c1 n2 c2 m1 e1 m2 e2 : Nat) (kd : Int) (fl : Int) (st : Int) (da : List UInt8) (pd : Int) (la : Int) (ic : Int) (co1 co2 : Int) (ps1 ps2 : List Pr) (rk1 rk2 : Bool) (al1 al2 : Bool) (dp1 dp2 : Int) (wt1 wt2 : Int) (w : World) (hA1 : Bs w w.heap.size A1 n1 da) (hA2 : Bs w w.heap.size A2 n2 da) (hD1 : Ps w w.heap.size D1 m1 ps1) (hD2 : Ps w w.heap.size D2 m2 ps2) (hm : m1 ≤ 100000) (hne : ¬ co1 = co2) :
    Calls Tryz.prog 14 #[.agg (fr13 kd fl st A1 n1 c1 pd la ic co1 D1 m1 e1 rk1 al1 dp1 wt1), .agg (fr13 kd fl st A2 n2 c2 pd la ic co2 D2 m2 e2 rk2 al2 dp2 wt2)] w fun e w' => e = .returned (.bool false) ∧ Below w.heap.size w w' := by
  have B0 : Hid (Below w.heap.size w ((w.alloc (.cells (fr13 kd fl st A1 n1 c1 pd la ic co1 D1 m1 e1 rk1 al1 dp1 wt1) 30)).alloc (.cells (fr13 kd fl st A2 n2 c2 pd la ic co2 D2 m2 e2 rk2 al2 dp2 wt2) 30))) := Lib.hid (((Below.refl _ w).alloc (Nat.le_refl _) _).alloc (by simp) _)
  have K0 : Hid (EnvB ((w.alloc (.cells (fr13 kd fl st A1 n1 c1 pd la ic co1 D1 m1 e1 rk1 al1 dp1 wt1) 30)).alloc (.cells (fr13 kd fl st A2 n2 c2 pd la ic co2 D2 m2 e2 rk2 al2 dp2 wt2) 30)) [(A1, n1, da), (A2, n2, da)] [(D1, m1, ps1), (D2, m2, ps2)] [(w.heap.size + 1, (fr13 kd fl st A2 n2 c2 pd la ic co2 D2 m2 e2 rk2 al2 dp2 wt2), 30), (w.heap.size, (fr13 kd fl st A1 n1 c1 pd la ic co1 D1 m1 e1 rk1 al1 dp1 wt1), 30)]) := Lib.hid ((((((EnvB.nil w).addS0 hA2).addS0 hA1).addP0 hD2).addP0 hD1).box 30 (fr13 kd fl st A1 n1 c1 pd la ic co1 D1 m1 e1 rk1 al1 dp1 wt1) |>.boxg 30 (fr13 kd fl st A2 n2 c2 pd la ic co2 D2 m2 e2 rk2 al2 dp2 wt2) (w.heap.size + 1) (by simp))
  have hnb : (co1 == co2) = false := by simpa using hne
  clear hA1 hA2 hD1 hD2
  go_enter Tryz.func14, Tryz.ntmps14
  go_wp2_with (first
    | (with_reducible refine at_wp ?_; go_skip)
    | (with_reducible refine at_wp ?_; refine at_load 5 (.tmp 5) (by rfl) ?_; generalize ((w.alloc (.cells (fr13 kd fl st A1 n1 c1 pd la ic co1 D1 m1 e1 rk1 al1 dp1 wt1) 30)).alloc (.cells (fr13 kd fl st A2 n2 c2 pd la ic co2 D2 m2 e2 rk2 al2 dp2 wt2) 30)) = W0 at *; refine wpList_get (by rfl) 5 (.tmp 5) (by rfl) (w.heap.size) 0 (by rfl) 30 _ (.int .u8 kd) _ (K0.out.row 1 rfl) (by rfl) Tryz.underlying5 (by rfl) ?_)
    | (with_reducible refine at_wp ?_; refine at_load 5 (.tmp 7) (by rfl) ?_; refine wpList_get (by rfl) 5 (.tmp 7) (by rfl) (w.heap.size + 1) 0 (by rfl) 30 _ (.int .u8 kd) _ (K0.out.row 0 rfl) (by rfl) Tryz.underlying5 (by rfl) ?_; generalize (Value.agg (fr13 kd fl st A1 n1 c1 pd la ic co1 D1 m1 e1 rk1 al1 dp1 wt1)) = V1; generalize (Value.agg (fr13 kd fl st A2 n2 c2 pd la ic co2 D2 m2 e2 rk2 al2 dp2 wt2)) = V2; obtain ⟨p0, p1, p2, p3, p4, p5, p6, p7, p8, p9, p10, p11, p12⟩ := c13_row (K0.out.row 1 rfl); obtain ⟨q0, q1, q2, q3, q4, q5, q6, q7, q8, q9, q10, q11, q12⟩ := c13_row (K0.out.row 0 rfl))
    | (go_at_call 33; (with_reducible refine (same_any A1 A2 n1 n2 c1 c2 _ _ _ _ _ (K0.out.s (A1, n1, da) (by simp)).1 (K0.out.s (A2, n2, da) (by simp)).1).mono ?_); rintro e w' ⟨rfl, rfl⟩; rw [beq_self_eq_true]; skip))
  go_ret
  exact ⟨rfl, B0.out⟩
set_option maxRecDepth 100000 in
set_option maxHeartbeats 2000000 in
theorem p_same_8 (A1 A2 D1 D2 : Option Addr) (n1 c1 n2 c2 m1 e1 m2 e2 : Nat) (kd : Int) (fl : Int) (st : Int) (da : List UInt8) (pd : Int) (la : Int) (ic : Int) (co : Int) (ps1 ps2 : List Pr) (rk1 rk2 : Bool) (al1 al2 : Bool) (dp1 dp2 : Int) (wt1 wt2 : Int) (w : World) (hA1 : Bs w w.heap.size A1 n1 da) (hA2 : Bs w w.heap.size A2 n2 da) (hD1 : Ps w w.heap.size D1 m1 ps1) (hD2 : Ps w w.heap.size D2 m2 ps2) (hm : m1 ≤ 100000) (hne : (ps1 == ps2) = false) :
    Calls Tryz.prog 14 #[.agg (fr13 kd fl st A1 n1 c1 pd la ic co D1 m1 e1 rk1 al1 dp1 wt1), .agg (fr13 kd fl st A2 n2 c2 pd la ic co D2 m2 e2 rk2 al2 dp2 wt2)] w fun e w' => e = .returned (.bool false) ∧ Below w.heap.size w w' := by
  have B0 : Hid (Below w.heap.size w ((w.alloc (.cells (fr13 kd fl st A1 n1 c1 pd la ic co D1 m1 e1 rk1 al1 dp1 wt1) 30)).alloc (.cells (fr13 kd fl st A2 n2 c2 pd la ic co D2 m2 e2 rk2 al2 dp2 wt2) 30))) := Lib.hid (((Below.refl _ w).alloc (Nat.le_refl _) _).alloc (by simp) _)
  have K0 : Hid (EnvB ((w.alloc (.cells (fr13 kd fl st A1 n1 c1 pd la ic co D1 m1 e1 rk1 al1 dp1 wt1) 30)).alloc (.cells (fr13 kd fl st A2 n2 c2 pd la ic co D2 m2 e2 rk2 al2 dp2 wt2) 30)) [(A1, n1, da), (A2, n2, da)] [(D1, m1, ps1), (D2, m2, ps2)] [(w.heap.size + 1, (fr13 kd fl st A2 n2 c2 pd la ic co D2 m2 e2 rk2 al2 dp2 wt2), 30), (w.heap.size, (fr13 kd fl st A1 n1 c1 pd la ic co D1 m1 e1 rk1 al1 dp1 wt1), 30)]) := Lib.hid ((((((EnvB.nil w).addS0 hA2).addS0 hA1).addP0 hD2).addP0 hD1).box 30 (fr13 kd fl st A1 n1 c1 pd la ic co D1 m1 e1 rk1 al1 dp1 wt1) |>.boxg 30 (fr13 kd fl st A2 n2 c2 pd la ic co D2 m2 e2 rk2 al2 dp2 wt2) (w.heap.size + 1) (by simp))
  clear hA1 hA2 hD1 hD2
  go_enter Tryz.func14, Tryz.ntmps14
  go_wp2_with (first
    | (with_reducible refine at_wp ?_; go_skip)
    | (with_reducible refine at_wp ?_; refine at_load 5 (.tmp 5) (by rfl) ?_; generalize ((w.alloc (.cells (fr13 kd fl st A1 n1 c1 pd la ic co D1 m1 e1 rk1 al1 dp1 wt1) 30)).alloc (.cells (fr13 kd fl st A2 n2 c2 pd la ic co D2 m2 e2 rk2 al2 dp2 wt2) 30)) = W0 at *; refine wpList_get (by rfl) 5 (.tmp 5) (by rfl) (w.heap.size) 0 (by rfl) 30 _ (.int .u8 kd) _ (K0.out.row 1 rfl) (by rfl) Tryz.underlying5 (by rfl) ?_)
    | (with_reducible refine at_wp ?_; refine at_load 5 (.tmp 7) (by rfl) ?_; refine wpList_get (by rfl) 5 (.tmp 7) (by rfl) (w.heap.size + 1) 0 (by rfl) 30 _ (.int .u8 kd) _ (K0.out.row 0 rfl) (by rfl) Tryz.underlying5 (by rfl) ?_; generalize (Value.agg (fr13 kd fl st A1 n1 c1 pd la ic co D1 m1 e1 rk1 al1 dp1 wt1)) = V1; generalize (Value.agg (fr13 kd fl st A2 n2 c2 pd la ic co D2 m2 e2 rk2 al2 dp2 wt2)) = V2; obtain ⟨p0, p1, p2, p3, p4, p5, p6, p7, p8, p9, p10, p11, p12⟩ := c13_row (K0.out.row 1 rfl); obtain ⟨q0, q1, q2, q3, q4, q5, q6, q7, q8, q9, q10, q11, q12⟩ := c13_row (K0.out.row 0 rfl))
    | (go_at_call 33; (with_reducible refine (same_any A1 A2 n1 n2 c1 c2 _ _ _ _ _ (K0.out.s (A1, n1, da) (by simp)).1 (K0.out.s (A2, n2, da) (by simp)).1).mono ?_); rintro e w' ⟨rfl, rfl⟩; rw [beq_self_eq_true]; skip)
    | (go_at_call 34; (with_reducible refine (fpairs_any D1 D2 m1 m2 e1 e2 _ _ _ (K0.out.p (D1, m1, ps1) (by simp)).1 (K0.out.p (D2, m2, ps2) (by simp)).1 (by omega)).mono ?_); rintro e w1 ⟨rfl, hb⟩; rw [hne]; have K1 := Lib.hid (K0.out.on hb); have B1 := Lib.hid (below_step B0.out hb); obtain ⟨p0, p1, p2, p3, p4, p5, p6, p7, p8, p9, p10, p11, p12⟩ := c13_row (K1.out.row 1 rfl); obtain ⟨q0, q1, q2, q3, q4, q5, q6, q7, q8, q9, q10, q11, q12⟩ := c13_row (K1.out.row 0 rfl); clear hb))
  go_ret
  exact ⟨rfl, B1.out⟩
set_option maxRecDepth 100000 in
set_option maxHeartbeats 2000000 in
theorem p_same_9 (A1 A2 D1 D2 : Option Addr) (n1 c1 n2 c2 m1 e1 m2 e2 : Nat) (kd : Int) (fl : Int) (st : Int) (da : List UInt8) (pd : Int) (la : Int) (ic : Int) (co : Int) (ps : List Pr) (rk1 rk2 : Bool) (al1 al2 : Bool) (dp1 dp2 : Int) (wt1 wt2 : Int) (w : World) (hA1 : Bs w w.heap.size A1 n1 da) (hA2 : Bs w w.heap.size A2 n2 da) (hD1 : Ps w w.heap.size D1 m1 ps) (hD2 : Ps w w.heap.size D2 m2 ps) (hm : m1 ≤ 100000) (hne : ¬ rk1 = rk2) :
    Calls Tryz.prog 14 #[.agg (fr13 kd fl st A1 n1 c1 pd la ic co D1 m1 e1 rk1 al1 dp1 wt1), .agg (fr13 kd fl st A2 n2 c2 pd la ic co D2 m2 e2 rk2 al2 dp2 wt2)] w fun e w' => e = .returned (.bool false) ∧ Below w.heap.size w w' := by
  have B0 : Hid (Below w.heap.size w ((w.alloc (.cells (fr13 kd fl st A1 n1 c1 pd la ic co D1 m1 e1 rk1 al1 dp1 wt1) 30)).alloc (.cells (fr13 kd fl st A2 n2 c2 pd la ic co D2 m2 e2 rk2 al2 dp2 wt2) 30))) := Lib.hid (((Below.refl _ w).alloc (Nat.le_refl _) _).alloc (by simp) _)
  have K0 : Hid (EnvB ((w.alloc (.cells (fr13 kd fl st A1 n1 c1 pd la ic co D1 m1 e1 rk1 al1 dp1 wt1) 30)).alloc (.cells (fr13 kd fl st A2 n2 c2 pd la ic co D2 m2 e2 rk2 al2 dp2 wt2) 30)) [(A1, n1, da), (A2, n2, da)] [(D1, m1, ps), (D2, m2, ps)] [(w.heap.size + 1, (fr13 kd fl st A2 n2 c2 pd la ic co D2 m2 e2 rk2 al2 dp2 wt2), 30), (w.heap.size, (fr13 kd fl st A1 n1 c1 pd la ic co D1 m1 e1 rk1 al1 dp1 wt1), 30)]) := Lib.hid ((((((EnvB.nil w).addS0 hA2).addS0 hA1).addP0 hD2).addP0 hD1).box 30 (fr13 kd fl st A1 n1 c1 pd la ic co D1 m1 e1 rk1 al1 dp1 wt1) |>.boxg 30 (fr13 kd fl st A2 n2 c2 pd la ic co D2 m2 e2 rk2 al2 dp2 wt2) (w.heap.size + 1) (by simp))
  have hnb : (rk1 == rk2) = false := by simpa using hne
  clear hA1 hA2 hD1 hD2
  go_enter Tryz.func14, Tryz.ntmps14
  go_wp2_with (first
    | (with_reducible refine at_wp ?_; go_skip)
    | (with_reducible refine at_wp ?_; refine at_load 5 (.tmp 5) (by rfl) ?_; generalize ((w.alloc (.cells (fr13 kd fl st A1 n1 c1 pd la ic co D1 m1 e1 rk1 al1 dp1 wt1) 30)).alloc (.cells (fr13 kd fl st A2 n2 c2 pd la ic co D2 m2 e2 rk2 al2 dp2 wt2) 30)) = W0 at *; refine wpList_get (by rfl) 5 (.tmp 5) (by rfl) (w.heap.size) 0 (by rfl) 30 _ (.int .u8 kd) _ (K0.out.row 1 rfl) (by rfl) Tryz.underlying5 (by rfl) ?_)
    | (with_reducible refine at_wp ?_; refine at_load 5 (.tmp 7) (by rfl) ?_; refine wpList_get (by rfl) 5 (.tmp 7) (by rfl) (w.heap.size + 1) 0 (by rfl) 30 _ (.int .u8 kd) _ (K0.out.row 0 rfl) (by rfl) Tryz.underlying5 (by rfl) ?_; generalize (Value.agg (fr13 kd fl st A1 n1 c1 pd la ic co D1 m1 e1 rk1 al1 dp1 wt1)) = V1; generalize (Value.agg (fr13 kd fl st A2 n2 c2 pd la ic co D2 m2 e2 rk2 al2 dp2 wt2)) = V2; obtain ⟨p0, p1, p2, p3, p4, p5, p6, p7, p8, p9, p10, p11, p12⟩ := c13_row (K0.out.row 1 rfl); obtain ⟨q0, q1, q2, q3, q4, q5, q6, q7, q8, q9, q10, q11, q12⟩ := c13_row (K0.out.row 0 rfl))
    | (go_at_call 33; (with_reducible refine (same_any A1 A2 n1 n2 c1 c2 _ _ _ _ _ (K0.out.s (A1, n1, da) (by simp)).1 (K0.out.s (A2, n2, da) (by simp)).1).mono ?_); rintro e w' ⟨rfl, rfl⟩; rw [beq_self_eq_true]; skip)
    | (go_at_call 34; (with_reducible refine (fpairs_any D1 D2 m1 m2 e1 e2 _ _ _ (K0.out.p (D1, m1, ps) (by simp)).1 (K0.out.p (D2, m2, ps) (by simp)).1 (by omega)).mono ?_); rintro e w1 ⟨rfl, hb⟩; rw [beq_self_eq_true]; have K1 := Lib.hid (K0.out.on hb); have B1 := Lib.hid (below_step B0.out hb); obtain ⟨p0, p1, p2, p3, p4, p5, p6, p7, p8, p9, p10, p11, p12⟩ := c13_row (K1.out.row 1 rfl); obtain ⟨q0, q1, q2, q3, q4, q5, q6, q7, q8, q9, q10, q11, q12⟩ := c13_row (K1.out.row 0 rfl); clear hb))
  go_ret
  exact ⟨rfl, B1.out⟩
set_option maxRecDepth 100000 in
set_option maxHeartbeats 2000000 in
theorem p_same_10 (A1 A2 D1 D2 : Option Addr) (n1 c1 n2 c2 m1 e1 m2 e2 : Nat) (kd : Int) (fl : Int) (st : Int) (da : List UInt8) (pd : Int) (la : Int) (ic : Int) (co : Int) (ps : List Pr) (rk : Bool) (al1 al2 : Bool) (dp1 dp2 : Int) (wt1 wt2 : Int) (w : World) (hA1 : Bs w w.heap.size A1 n1 da) (hA2 : Bs w w.heap.size A2 n2 da) (hD1 : Ps w w.heap.size D1 m1 ps) (hD2 : Ps w w.heap.size D2 m2 ps) (hm : m1 ≤ 100000) (hne : ¬ al1 = al2) :
    Calls Tryz.prog 14 #[.agg (fr13 kd fl st A1 n1 c1 pd la ic co D1 m1 e1 rk al1 dp1 wt1), .agg (fr13 kd fl st A2 n2 c2 pd la ic co D2 m2 e2 rk al2 dp2 wt2)] w fun e w' => e = .returned (.bool false) ∧ Below w.heap.size w w' := by
  have B0 : Hid (Below w.heap.size w ((w.alloc (.cells (fr13 kd fl st A1 n1 c1 pd la ic co D1 m1 e1 rk al1 dp1 wt1) 30)).alloc (.cells (fr13 kd fl st A2 n2 c2 pd la ic co D2 m2 e2 rk al2 dp2 wt2) 30))) := Lib.hid (((Below.refl _ w).alloc (Nat.le_refl _) _).alloc (by simp) _)
  have K0 : Hid (EnvB ((w.alloc (.cells (fr13 kd fl st A1 n1 c1 pd la ic co D1 m1 e1 rk al1 dp1 wt1) 30)).alloc (.cells (fr13 kd fl st A2 n2 c2 pd la ic co D2 m2 e2 rk al2 dp2 wt2) 30)) [(A1, n1, da), (A2, n2, da)] [(D1, m1, ps), (D2, m2, ps)] [(w.heap.size + 1, (fr13 kd fl st A2 n2 c2 pd la ic co D2 m2 e2 rk al2 dp2 wt2), 30), (w.heap.size, (fr13 kd fl st A1 n1 c1 pd la ic co D1 m1 e1 rk al1 dp1 wt1), 30)]) := Lib.hid ((((((EnvB.nil w).addS0 hA2).addS0 hA1).addP0 hD2).addP0 hD1).box 30 (fr13 kd fl st A1 n1 c1 pd la ic co D1 m1 e1 rk al1 dp1 wt1) |>.boxg 30 (fr13 kd fl st A2 n2 c2 pd la ic co D2 m2 e2 rk al2 dp2 wt2) (w.heap.size + 1) (by simp))
  have hnb : (al1 == al2) = false := by simpa using hne
  clear hA1 hA2 hD1 hD2
  go_enter Tryz.func14, Tryz.ntmps14
  go_wp2_with (first
    | (with_reducible refine at_wp ?_; go_skip)
    | (with_reducible refine at_wp ?_; refine at_load 5 (.tmp 5) (by rfl) ?_; generalize ((w.alloc (.cells (fr13 kd fl st A1 n1 c1 pd la ic co D1 m1 e1 rk al1 dp1 wt1) 30)).alloc (.cells (fr13 kd fl st A2 n2 c2 pd la ic co D2 m2 e2 rk al2 dp2 wt2) 30)) = W0 at *; refine wpList_get (by rfl) 5 (.tmp 5) (by rfl) (w.heap.size) 0 (by rfl) 30 _ (.int .u8 kd) _ (K0.out.row 1 rfl) (by rfl) Tryz.underlying5 (by rfl) ?_)
    | (with_reducible refine at_wp ?_; refine at_load 5 (.tmp 7) (by rfl) ?_; refine wpList_get (by rfl) 5 (.tmp 7) (by rfl) (w.heap.size + 1) 0 (by rfl) 30 _ (.int .u8 kd) _ (K0.out.row 0 rfl) (by rfl) Tryz.underlying5 (by rfl) ?_; generalize (Value.agg (fr13 kd fl st A1 n1 c1 pd la ic co D1 m1 e1 rk al1 dp1 wt1)) = V1; generalize (Value.agg (fr13 kd fl st A2 n2 c2 pd la ic co D2 m2 e2 rk al2 dp2 wt2)) = V2; obtain ⟨p0, p1, p2, p3, p4, p5, p6, p7, p8, p9, p10, p11, p12⟩ := c13_row (K0.out.row 1 rfl); obtain ⟨q0, q1, q2, q3, q4, q5, q6, q7, q8, q9, q10, q11, q12⟩ := c13_row (K0.out.row 0 rfl))
    | (go_at_call 33; (with_reducible refine (same_any A1 A2 n1 n2 c1 c2 _ _ _ _ _ (K0.out.s (A1, n1, da) (by simp)).1 (K0.out.s (A2, n2, da) (by simp)).1).mono ?_); rintro e w' ⟨rfl, rfl⟩; rw [beq_self_eq_true]; skip)
    | (go_at_call 34; (with_reducible refine (fpairs_any D1 D2 m1 m2 e1 e2 _ _ _ (K0.out.p (D1, m1, ps) (by simp)).1 (K0.out.p (D2, m2, ps) (by simp)).1 (by omega)).mono ?_); rintro e w1 ⟨rfl, hb⟩; rw [beq_self_eq_true]; have K1 := Lib.hid (K0.out.on hb); have B1 := Lib.hid (below_step B0.out hb); obtain ⟨p0, p1, p2, p3, p4, p5, p6, p7, p8, p9, p10, p11, p12⟩ := c13_row (K1.out.row 1 rfl); obtain ⟨q0, q1, q2, q3, q4, q5, q6, q7, q8, q9, q10, q11, q12⟩ := c13_row (K1.out.row 0 rfl); clear hb))
  go_ret
  exact ⟨rfl, B1.out⟩
set_option maxRecDepth 100000 in
set_option maxHeartbeats 2000000 in
theorem p_same_11 (A1 A2 D1 D2 : Option Addr) (n1 c1 n2 c2 m1 e1 m2 e2 : Nat) (kd : Int) (fl : Int) (st : Int) (da : List UInt8) (pd : Int) (la : Int) (ic : Int) (co : Int) (ps : List Pr) (rk : Bool) (al : Bool) (dp1 dp2 : Int) (wt1 wt2 : Int) (w : World) (hA1 : Bs w w.heap.size A1 n1 da) (hA2 : Bs w w.heap.size A2 n2 da) (hD1 : Ps w w.heap.size D1 m1 ps) (hD2 : Ps w w.heap.size D2 m2 ps) (hm : m1 ≤ 100000) (hne : ¬ dp1 = dp2) :
    Calls Tryz.prog 14 #[.agg (fr13 kd fl st A1 n1 c1 pd la ic co D1 m1 e1 rk al dp1 wt1), .agg (fr13 kd fl st A2 n2 c2 pd la ic co D2 m2 e2 rk al dp2 wt2)] w fun e w' => e = .returned (.bool false) ∧ Below w.heap.size w w' := by
  have B0 : Hid (Below w.heap.size w ((w.alloc (.cells (fr13 kd fl st A1 n1 c1 pd la ic co D1 m1 e1 rk al dp1 wt1) 30)).alloc (.cells (fr13 kd fl st A2 n2 c2 pd la ic co D2 m2 e2 rk al dp2 wt2) 30))) := Lib.hid (((Below.refl _ w).alloc (Nat.le_refl _) _).alloc (by simp) _)
  have K0 : Hid (EnvB ((w.alloc (.cells (fr13 kd fl st A1 n1 c1 pd la ic co D1 m1 e1 rk al dp1 wt1) 30)).alloc (.cells (fr13 kd fl st A2 n2 c2 pd la ic co D2 m2 e2 rk al dp2 wt2) 30)) [(A1, n1, da), (A2, n2, da)] [(D1, m1, ps), (D2, m2, ps)] [(w.heap.size + 1, (fr13 kd fl st A2 n2 c2 pd la ic co D2 m2 e2 rk al dp2 wt2), 30), (w.heap.size, (fr13 kd fl st A1 n1 c1 pd la ic co D1 m1 e1 rk al dp1 wt1), 30)]) := Lib.hid ((((((EnvB.nil w).addS0 hA2).addS0 hA1).addP0 hD2).addP0 hD1).box 30 (fr13 kd fl st A1 n1 c1 pd la ic co D1 m1 e1 rk al dp1 wt1) |>.boxg 30 (fr13 kd fl st A2 n2 c2 pd la ic co D2 m2 e2 rk al dp2 wt2) (w.heap.size + 1) (by simp))
  have hnb : (dp1 == dp2) = false := by simpa using hne
  clear hA1 hA2 hD1 hD2
  go_enter Tryz.func14, Tryz.ntmps14
  go_wp2_with (first
    | (with_reducible refine at_wp ?_; go_skip)
    | (with_reducible refine at_wp ?_; refine at_load 5 (.tmp 5) (by rfl) ?_; generalize ((w.alloc (.cells (fr13 kd fl st A1 n1 c1 pd la ic co D1 m1 e1 rk al dp1 wt1) 30)).alloc (.cells (fr13 kd fl st A2 n2 c2 pd la ic co D2 m2 e2 rk al dp2 wt2) 30)) = W0 at *; refine wpList_get (by rfl) 5 (.tmp 5) (by rfl) (w.heap.size) 0 (by rfl) 30 _ (.int .u8 kd) _ (K0.out.row 1 rfl) (by rfl) Tryz.underlying5 (by rfl) ?_)
    | (with_reducible refine at_wp ?_; refine at_load 5 (.tmp 7) (by rfl) ?_; refine wpList_get (by rfl) 5 (.tmp 7) (by rfl) (w.heap.size + 1) 0 (by rfl) 30 _ (.int .u8 kd) _ (K0.out.row 0 rfl) (by rfl) Tryz.underlying5 (by rfl) ?_; generalize (Value.agg (fr13 kd fl st A1 n1 c1 pd la ic co D1 m1 e1 rk al dp1 wt1)) = V1; generalize (Value.agg (fr13 kd fl st A2 n2 c2 pd la ic co D2 m2 e2 rk al dp2 wt2)) = V2; obtain ⟨p0, p1, p2, p3, p4, p5, p6, p7, p8, p9, p10, p11, p12⟩ := c13_row (K0.out.row 1 rfl); obtain ⟨q0, q1, q2, q3, q4, q5, q6, q7, q8, q9, q10, q11, q12⟩ := c13_row (K0.out.row 0 rfl))
    | (go_at_call 33; (with_reducible refine (same_any A1 A2 n1 n2 c1 c2 _ _ _ _ _ (K0.out.s (A1, n1, da) (by simp)).1 (K0.out.s (A2, n2, da) (by simp)).1).mono ?_); rintro e w' ⟨rfl, rfl⟩; rw [beq_self_eq_true]; skip)
    | (go_at_call 34; (with_reducible refine (fpairs_any D1 D2 m1 m2 e1 e2 _ _ _ (K0.out.p (D1, m1, ps) (by simp)).1 (K0.out.p (D2, m2, ps) (by simp)).1 (by omega)).mono ?_); rintro e w1 ⟨rfl, hb⟩; rw [beq_self_eq_true]; have K1 := Lib.hid (K0.out.on hb); have B1 := Lib.hid (below_step B0.out hb); obtain ⟨p0, p1, p2, p3, p4, p5, p6, p7, p8, p9, p10, p11, p12⟩ := c13_row (K1.out.row 1 rfl); obtain ⟨q0, q1, q2, q3, q4, q5, q6, q7, q8, q9, q10, q11, q12⟩ := c13_row (K1.out.row 0 rfl); clear hb))
  go_ret
  exact ⟨rfl, B1.out⟩
set_option maxRecDepth 100000 in
set_option maxHeartbeats 2000000 in
theorem p_same_12 (A1 A2 D1 D2 : Option Addr) (n1 c1 n2 c2 m1 e1 m2 e2 : Nat) (kd : Int) (fl : Int) (st : Int) (da : List UInt8) (pd : Int) (la : Int) (ic : Int) (co : Int) (ps : List Pr) (rk : Bool) (al : Bool) (dp : Int) (wt1 wt2 : Int) (w : World) (hA1 : Bs w w.heap.size A1 n1 da) (hA2 : Bs w w.heap.size A2 n2 da) (hD1 : Ps w w.heap.size D1 m1 ps) (hD2 : Ps w w.heap.size D2 m2 ps) (hm : m1 ≤ 100000) (hne : ¬ wt1 = wt2) :
    Calls Tryz.prog 14 #[.agg (fr13 kd fl st A1 n1 c1 pd la ic co D1 m1 e1 rk al dp wt1), .agg (fr13 kd fl st A2 n2 c2 pd la ic co D2 m2 e2 rk al dp wt2)] w fun e w' => e = .returned (.bool false) ∧ Below w.heap.size w w' := by
  have B0 : Hid (Below w.heap.size w ((w.alloc (.cells (fr13 kd fl st A1 n1 c1 pd la ic co D1 m1 e1 rk al dp wt1) 30)).alloc (.cells (fr13 kd fl st A2 n2 c2 pd la ic co D2 m2 e2 rk al dp wt2) 30))) := Lib.hid (((Below.refl _ w).alloc (Nat.le_refl _) _).alloc (by simp) _)
  have K0 : Hid (EnvB ((w.alloc (.cells (fr13 kd fl st A1 n1 c1 pd la ic co D1 m1 e1 rk al dp wt1) 30)).alloc (.cells (fr13 kd fl st A2 n2 c2 pd la ic co D2 m2 e2 rk al dp wt2) 30)) [(A1, n1, da), (A2, n2, da)] [(D1, m1, ps), (D2, m2, ps)] [(w.heap.size + 1, (fr13 kd fl st A2 n2 c2 pd la ic co D2 m2 e2 rk al dp wt2), 30), (w.heap.size, (fr13 kd fl st A1 n1 c1 pd la ic co D1 m1 e1 rk al dp wt1), 30)]) := Lib.hid ((((((EnvB.nil w).addS0 hA2).addS0 hA1).addP0 hD2).addP0 hD1).box 30 (fr13 kd fl st A1 n1 c1 pd la ic co D1 m1 e1 rk al dp wt1) |>.boxg 30 (fr13 kd fl st A2 n2 c2 pd la ic co D2 m2 e2 rk al dp wt2) (w.heap.size + 1) (by simp))
  have hnb : (wt1 == wt2) = false := by simpa using hne
  clear hA1 hA2 hD1 hD2
  go_enter Tryz.func14, Tryz.ntmps14
  go_wp2_with (first
    | (with_reducible refine at_wp ?_; go_skip)
    | (with_reducible refine at_wp ?_; refine at_load 5 (.tmp 5) (by rfl) ?_; generalize ((w.alloc (.cells (fr13 kd fl st A1 n1 c1 pd la ic co D1 m1 e1 rk al dp wt1) 30)).alloc (.cells (fr13 kd fl st A2 n2 c2 pd la ic co D2 m2 e2 rk al dp wt2) 30)) = W0 at *; refine wpList_get (by rfl) 5 (.tmp 5) (by rfl) (w.heap.size) 0 (by rfl) 30 _ (.int .u8 kd) _ (K0.out.row 1 rfl) (by rfl) Tryz.underlying5 (by rfl) ?_)
    | (with_reducible refine at_wp ?_; refine at_load 5 (.tmp 7) (by rfl) ?_; refine wpList_get (by rfl) 5 (.tmp 7) (by rfl) (w.heap.size + 1) 0 (by rfl) 30 _ (.int .u8 kd) _ (K0.out.row 0 rfl) (by rfl) Tryz.underlying5 (by rfl) ?_; generalize (Value.agg (fr13 kd fl st A1 n1 c1 pd la ic co D1 m1 e1 rk al dp wt1)) = V1; generalize (Value.agg (fr13 kd fl st A2 n2 c2 pd la ic co D2 m2 e2 rk al dp wt2)) = V2; obtain ⟨p0, p1, p2, p3, p4, p5, p6, p7, p8, p9, p10, p11, p12⟩ := c13_row (K0.out.row 1 rfl); obtain ⟨q0, q1, q2, q3, q4, q5, q6, q7, q8, q9, q10, q11, q12⟩ := c13_row (K0.out.row 0 rfl))
    | (go_at_call 33; (with_reducible refine (same_any A1 A2 n1 n2 c1 c2 _ _ _ _ _ (K0.out.s (A1, n1, da) (by simp)).1 (K0.out.s (A2, n2, da) (by simp)).1).mono ?_); rintro e w' ⟨rfl, rfl⟩; rw [beq_self_eq_true]; skip)
    | (go_at_call 34; (with_reducible refine (fpairs_any D1 D2 m1 m2 e1 e2 _ _ _ (K0.out.p (D1, m1, ps) (by simp)).1 (K0.out.p (D2, m2, ps) (by simp)).1 (by omega)).mono ?_); rintro e w1 ⟨rfl, hb⟩; rw [beq_self_eq_true]; have K1 := Lib.hid (K0.out.on hb); have B1 := Lib.hid (below_step B0.out hb); obtain ⟨p0, p1, p2, p3, p4, p5, p6, p7, p8, p9, p10, p11, p12⟩ := c13_row (K1.out.row 1 rfl); obtain ⟨q0, q1, q2, q3, q4, q5, q6, q7, q8, q9, q10, q11, q12⟩ := c13_row (K1.out.row 0 rfl); clear hb))
  go_ret
  exact ⟨rfl, B1.out⟩
set_option maxRecDepth 100000 in
set_option maxHeartbeats 2000000 in
theorem p_same_13 (A1 A2 D1 D2 : Option Addr) (n1 c1 n2 c2 m1 e1 m2 e2 : Nat) (kd : Int) (fl : Int) (st : Int) (da : List UInt8) (pd : Int) (la : Int) (ic : Int) (co : Int) (ps : List Pr) (rk : Bool) (al : Bool) (dp : Int) (wt : Int) (w : World) (hA1 : Bs w w.heap.size A1 n1 da) (hA2 : Bs w w.heap.size A2 n2 da) (hD1 : Ps w w.heap.size D1 m1 ps) (hD2 : Ps w w.heap.size D2 m2 ps) (hm : m1 ≤ 100000)  :
    Calls Tryz.prog 14 #[.agg (fr13 kd fl st A1 n1 c1 pd la ic co D1 m1 e1 rk al dp wt), .agg (fr13 kd fl st A2 n2 c2 pd la ic co D2 m2 e2 rk al dp wt)] w fun e w' => e = .returned (.bool true) ∧ Below w.heap.size w w' := by
  have B0 : Hid (Below w.heap.size w ((w.alloc (.cells (fr13 kd fl st A1 n1 c1 pd la ic co D1 m1 e1 rk al dp wt) 30)).alloc (.cells (fr13 kd fl st A2 n2 c2 pd la ic co D2 m2 e2 rk al dp wt) 30))) := Lib.hid (((Below.refl _ w).alloc (Nat.le_refl _) _).alloc (by simp) _)
  have K0 : Hid (EnvB ((w.alloc (.cells (fr13 kd fl st A1 n1 c1 pd la ic co D1 m1 e1 rk al dp wt) 30)).alloc (.cells (fr13 kd fl st A2 n2 c2 pd la ic co D2 m2 e2 rk al dp wt) 30)) [(A1, n1, da), (A2, n2, da)] [(D1, m1, ps), (D2, m2, ps)] [(w.heap.size + 1, (fr13 kd fl st A2 n2 c2 pd la ic co D2 m2 e2 rk al dp wt), 30), (w.heap.size, (fr13 kd fl st A1 n1 c1 pd la ic co D1 m1 e1 rk al dp wt), 30)]) := Lib.hid ((((((EnvB.nil w).addS0 hA2).addS0 hA1).addP0 hD2).addP0 hD1).box 30 (fr13 kd fl st A1 n1 c1 pd la ic co D1 m1 e1 rk al dp wt) |>.boxg 30 (fr13 kd fl st A2 n2 c2 pd la ic co D2 m2 e2 rk al dp wt) (w.heap.size + 1) (by simp))
  clear hA1 hA2 hD1 hD2
  go_enter Tryz.func14, Tryz.ntmps14
  go_wp2_with (first
    | (with_reducible refine at_wp ?_; go_skip)
    | (with_reducible refine at_wp ?_; refine at_load 5 (.tmp 5) (by rfl) ?_; generalize ((w.alloc (.cells (fr13 kd fl st A1 n1 c1 pd la ic co D1 m1 e1 rk al dp wt) 30)).alloc (.cells (fr13 kd fl st A2 n2 c2 pd la ic co D2 m2 e2 rk al dp wt) 30)) = W0 at *; refine wpList_get (by rfl) 5 (.tmp 5) (by rfl) (w.heap.size) 0 (by rfl) 30 _ (.int .u8 kd) _ (K0.out.row 1 rfl) (by rfl) Tryz.underlying5 (by rfl) ?_)
    | (with_reducible refine at_wp ?_; refine at_load 5 (.tmp 7) (by rfl) ?_; refine wpList_get (by rfl) 5 (.tmp 7) (by rfl) (w.heap.size + 1) 0 (by rfl) 30 _ (.int .u8 kd) _ (K0.out.row 0 rfl) (by rfl) Tryz.underlying5 (by rfl) ?_; generalize (Value.agg (fr13 kd fl st A1 n1 c1 pd la ic co D1 m1 e1 rk al dp wt)) = V1; generalize (Value.agg (fr13 kd fl st A2 n2 c2 pd la ic co D2 m2 e2 rk al dp wt)) = V2; obtain ⟨p0, p1, p2, p3, p4, p5, p6, p7, p8, p9, p10, p11, p12⟩ := c13_row (K0.out.row 1 rfl); obtain ⟨q0, q1, q2, q3, q4, q5, q6, q7, q8, q9, q10, q11, q12⟩ := c13_row (K0.out.row 0 rfl))
    | (go_at_call 33; (with_reducible refine (same_any A1 A2 n1 n2 c1 c2 _ _ _ _ _ (K0.out.s (A1, n1, da) (by simp)).1 (K0.out.s (A2, n2, da) (by simp)).1).mono ?_); rintro e w' ⟨rfl, rfl⟩; rw [beq_self_eq_true]; skip)
    | (go_at_call 34; (with_reducible refine (fpairs_any D1 D2 m1 m2 e1 e2 _ _ _ (K0.out.p (D1, m1, ps) (by simp)).1 (K0.out.p (D2, m2, ps) (by simp)).1 (by omega)).mono ?_); rintro e w1 ⟨rfl, hb⟩; rw [beq_self_eq_true]; have K1 := Lib.hid (K0.out.on hb); have B1 := Lib.hid (below_step B0.out hb); obtain ⟨p0, p1, p2, p3, p4, p5, p6, p7, p8, p9, p10, p11, p12⟩ := c13_row (K1.out.row 1 rfl); obtain ⟨q0, q1, q2, q3, q4, q5, q6, q7, q8, q9, q10, q11, q12⟩ := c13_row (K1.out.row 0 rfl); clear hb))
  go_ret
  exact ⟨rfl, B1.out⟩
end Go.Proofs.YtbflhphjnmhjhaaGreat
