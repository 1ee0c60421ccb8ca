/- The document's Same of frames; Great. -/
import Derived.Test.YtbflhphjnmhjhaaGreatMx
import Derived.Test.YtbflhphjnmhjhaaGreatFiI
import Derived.Test.YtbflhphjnmhjhaaGreatGStr
namespace Go.Proofs.YtbflhphjnmhjhaaGreat
open Go.RowKit Oct Fi Fm
set_option linter.unusedVariables false
set_option linter.unusedSimpArgs false
attribute [local go_sem] i64_and1 i64_and7 i64_and31

theorem ff_boxes {w w1 : World} {a0 a1 a2 a3 a4 a5 a6 a7 a8 a9 a10 a11 a12 b0 b1 b2 b3 b4 b5 b6 b7 b8 b9 b10 b11 b12 : Value} {t s : TypeId} (hb : Below ((w.alloc (.cells #[a0, a1, a2, a3, a4, a5, a6, a7, a8, a9, a10, a11, a12] t)).alloc (.cells #[b0, b1, b2, b3, b4, b5, b6, b7, b8, b9, b10, b11, b12] s)).heap.size ((w.alloc (.cells #[a0, a1, a2, a3, a4, a5, a6, a7, a8, a9, a10, a11, a12] t)).alloc (.cells #[b0, b1, b2, b3, b4, b5, b6, b7, b8, b9, b10, b11, b12] s)) w1) :
    (w1.cell? ⟨w.heap.size, 0, none⟩ = some a0 ∧ w1.cell? ⟨w.heap.size, 1, none⟩ = some a1 ∧ w1.cell? ⟨w.heap.size, 2, none⟩ = some a2 ∧ w1.cell? ⟨w.heap.size, 3, none⟩ = some a3 ∧ w1.cell? ⟨w.heap.size, 4, none⟩ = some a4 ∧ w1.cell? ⟨w.heap.size, 5, none⟩ = some a5 ∧ w1.cell? ⟨w.heap.size, 6, none⟩ = some a6 ∧ w1.cell? ⟨w.heap.size, 7, none⟩ = some a7 ∧ w1.cell? ⟨w.heap.size, 8, none⟩ = some a8 ∧ w1.cell? ⟨w.heap.size, 9, none⟩ = some a9 ∧ w1.cell? ⟨w.heap.size, 10, none⟩ = some a10 ∧ w1.cell? ⟨w.heap.size, 11, none⟩ = some a11 ∧ w1.cell? ⟨w.heap.size, 12, none⟩ = some a12) ∧ (w1.cell? ⟨w.heap.size + 1, 0, none⟩ = some b0 ∧ w1.cell? ⟨w.heap.size + 1, 1, none⟩ = some b1 ∧ w1.cell? ⟨w.heap.size + 1, 2, none⟩ = some b2 ∧ w1.cell? ⟨w.heap.size + 1, 3, none⟩ = some b3 ∧ w1.cell? ⟨w.heap.size + 1, 4, none⟩ = some b4 ∧ w1.cell? ⟨w.heap.size + 1, 5, none⟩ = some b5 ∧ w1.cell? ⟨w.heap.size + 1, 6, none⟩ = some b6 ∧ w1.cell? ⟨w.heap.size + 1, 7, none⟩ = some b7 ∧ w1.cell? ⟨w.heap.size + 1, 8, none⟩ = some b8 ∧ w1.cell? ⟨w.heap.size + 1, 9, none⟩ = some b9 ∧ w1.cell? ⟨w.heap.size + 1, 10, none⟩ = some b10 ∧ w1.cell? ⟨w.heap.size + 1, 11, none⟩ = some b11 ∧ w1.cell? ⟨w.heap.size + 1, 12, none⟩ = some b12) := by
  refine ⟨c13_row (t := t) ?_, c13_row (t := s) ?_⟩
  · rw [hb.block _ (by simp; omega), Below.heap_alloc _ _ _ (by simp)]
    exact World.alloc_heap_new w _
  · rw [hb.block _ (by simp)]
    have h := World.alloc_heap_new (w.alloc (.cells #[a0, a1, a2, a3, a4, a5, a6, a7, a8, a9, a10, a11, a12] t)) (.cells #[b0, b1, b2, b3, b4, b5, b6, b7, b8, b9, b10, b11, b12] s)
    rwa [World.size_alloc] at h
set_option maxRecDepth 100000 in
set_option maxHeartbeats 2000000 in
theorem m_same_0 (A1 A2 D1 D2 : Option Addr) (n1 c1 n2 c2 m1 e1 m2 e2 : Nat) (kd1 kd2 : Int) (fl1 fl2 : Int) (st1 st2 : Int) (da1 da2 : List UInt8) (pd1 pd2 : Int) (la1 la2 : Int) (ic1 ic2 : Int) (co1 co2 : Int) (ps1 ps2 : List Pr) (rk1 rk2 : Bool) (al1 al2 : Bool) (dp1 dp2 : Int) (wt1 wt2 : Int) (w : World) (hA1 : Bs w w.heap.size A1 n1 da1) (hA2 : Bs w w.heap.size A2 n2 da2) (hD1 : Ps w w.heap.size D1 m1 ps1) (hD2 : Ps w w.heap.size D2 m2 ps2) (hm : m1 ≤ 100000) (hne : ¬ kd1 = kd2) :
    Calls Tryz.prog 10 #[.agg (fr13 kd1 fl1 st1 A1 n1 c1 pd1 la1 ic1 co1 D1 m1 e1 rk1 al1 dp1 wt1), .agg (fr13 kd2 fl2 st2 A2 n2 c2 pd2 la2 ic2 co2 D2 m2 e2 rk2 al2 dp2 wt2)] w fun e w' => e = .returned (.bool false) ∧ Below w.heap.size w w' := by
  have B0 : Hid (Below w.heap.size w ((w.alloc (.cells (fr13 kd1 fl1 st1 A1 n1 c1 pd1 la1 ic1 co1 D1 m1 e1 rk1 al1 dp1 wt1) 30)).alloc (.cells (fr13 kd2 fl2 st2 A2 n2 c2 pd2 la2 ic2 co2 D2 m2 e2 rk2 al2 dp2 wt2) 30))) := Lib.hid (((Below.refl _ w).alloc (Nat.le_refl _) _).alloc (by simp) _)
  have HD1 := Lib.hid ((hD1.on ((Below.refl _ w).alloc (Nat.le_refl _) (.cells (fr13 kd1 fl1 st1 A1 n1 c1 pd1 la1 ic1 co1 D1 m1 e1 rk1 al1 dp1 wt1) 30))).on ((Below.refl _ _).alloc (Nat.le_refl _) (.cells (fr13 kd2 fl2 st2 A2 n2 c2 pd2 la2 ic2 co2 D2 m2 e2 rk2 al2 dp2 wt2) 30)))
  have HD2 := Lib.hid ((hD2.on ((Below.refl _ w).alloc (Nat.le_refl _) (.cells (fr13 kd1 fl1 st1 A1 n1 c1 pd1 la1 ic1 co1 D1 m1 e1 rk1 al1 dp1 wt1) 30))).on ((Below.refl _ _).alloc (Nat.le_refl _) (.cells (fr13 kd2 fl2 st2 A2 n2 c2 pd2 la2 ic2 co2 D2 m2 e2 rk2 al2 dp2 wt2) 30)))
  have hnb : (kd1 == kd2) = false := by simpa using hne
  clear hA1 hA2 hD1 hD2
  go_enter Tryz.func10, Tryz.ntmps10
  go_wp2
  go_ret
  exact ⟨rfl, B0.out⟩
set_option maxRecDepth 100000 in
set_option maxHeartbeats 2000000 in
theorem m_same_1 (A1 A2 D1 D2 : Option Addr) (n1 c1 n2 c2 m1 e1 m2 e2 : Nat) (kd : Int) (fl1 fl2 : Int) (st1 st2 : Int) (da1 da2 : List UInt8) (pd1 pd2 : Int) (la1 la2 : Int) (ic1 ic2 : Int) (co1 co2 : Int) (ps1 ps2 : List Pr) (rk1 rk2 : Bool) (al1 al2 : Bool) (dp1 dp2 : Int) (wt1 wt2 : Int) (w : World) (hA1 : Bs w w.heap.size A1 n1 da1) (hA2 : Bs w w.heap.size A2 n2 da2) (hD1 : Ps w w.heap.size D1 m1 ps1) (hD2 : Ps w w.heap.size D2 m2 ps2) (hm : m1 ≤ 100000) (hne : ¬ fl1 = fl2) :
    Calls Tryz.prog 10 #[.agg (fr13 kd fl1 st1 A1 n1 c1 pd1 la1 ic1 co1 D1 m1 e1 rk1 al1 dp1 wt1), .agg (fr13 kd fl2 st2 A2 n2 c2 pd2 la2 ic2 co2 D2 m2 e2 rk2 al2 dp2 wt2)] w fun e w' => e = .returned (.bool false) ∧ Below w.heap.size w w' := by
  have B0 : Hid (Below w.heap.size w ((w.alloc (.cells (fr13 kd fl1 st1 A1 n1 c1 pd1 la1 ic1 co1 D1 m1 e1 rk1 al1 dp1 wt1) 30)).alloc (.cells (fr13 kd fl2 st2 A2 n2 c2 pd2 la2 ic2 co2 D2 m2 e2 rk2 al2 dp2 wt2) 30))) := Lib.hid (((Below.refl _ w).alloc (Nat.le_refl _) _).alloc (by simp) _)
  have HD1 := Lib.hid ((hD1.on ((Below.refl _ w).alloc (Nat.le_refl _) (.cells (fr13 kd fl1 st1 A1 n1 c1 pd1 la1 ic1 co1 D1 m1 e1 rk1 al1 dp1 wt1) 30))).on ((Below.refl _ _).alloc (Nat.le_refl _) (.cells (fr13 kd fl2 st2 A2 n2 c2 pd2 la2 ic2 co2 D2 m2 e2 rk2 al2 dp2 wt2) 30)))
  have HD2 := Lib.hid ((hD2.on ((Below.refl _ w).alloc (Nat.le_refl _) (.cells (fr13 kd fl1 st1 A1 n1 c1 pd1 la1 ic1 co1 D1 m1 e1 rk1 al1 dp1 wt1) 30))).on ((Below.refl _ _).alloc (Nat.le_refl _) (.cells (fr13 kd fl2 st2 A2 n2 c2 pd2 la2 ic2 co2 D2 m2 e2 rk2 al2 dp2 wt2) 30)))
  have hnb : (fl1 == fl2) = false := by simpa using hne
  clear hA1 hA2 hD1 hD2
  go_enter Tryz.func10, Tryz.ntmps10
  go_wp2
  go_ret
  exact ⟨rfl, B0.out⟩
set_option maxRecDepth 100000 in
set_option maxHeartbeats 2000000 in
theorem m_same_2 (A1 A2 D1 D2 : Option Addr) (n1 c1 n2 c2 m1 e1 m2 e2 : Nat) (kd : Int) (fl : Int) (st1 st2 : Int) (da1 da2 : List UInt8) (pd1 pd2 : Int) (la1 la2 : Int) (ic1 ic2 : Int) (co1 co2 : Int) (ps1 ps2 : List Pr) (rk1 rk2 : Bool) (al1 al2 : Bool) (dp1 dp2 : Int) (wt1 wt2 : Int) (w : World) (hA1 : Bs w w.heap.size A1 n1 da1) (hA2 : Bs w w.heap.size A2 n2 da2) (hD1 : Ps w w.heap.size D1 m1 ps1) (hD2 : Ps w w.heap.size D2 m2 ps2) (hm : m1 ≤ 100000) (hne : ¬ st1 = st2) :
    Calls Tryz.prog 10 #[.agg (fr13 kd fl st1 A1 n1 c1 pd1 la1 ic1 co1 D1 m1 e1 rk1 al1 dp1 wt1), .agg (fr13 kd fl st2 A2 n2 c2 pd2 la2 ic2 co2 D2 m2 e2 rk2 al2 dp2 wt2)] w fun e w' => e = .returned (.bool false) ∧ Below w.heap.size w w' := by
  have B0 : Hid (Below w.heap.size w ((w.alloc (.cells (fr13 kd fl st1 A1 n1 c1 pd1 la1 ic1 co1 D1 m1 e1 rk1 al1 dp1 wt1) 30)).alloc (.cells (fr13 kd fl st2 A2 n2 c2 pd2 la2 ic2 co2 D2 m2 e2 rk2 al2 dp2 wt2) 30))) := Lib.hid (((Below.refl _ w).alloc (Nat.le_refl _) _).alloc (by simp) _)
  have HD1 := Lib.hid ((hD1.on ((Below.refl _ w).alloc (Nat.le_refl _) (.cells (fr13 kd fl st1 A1 n1 c1 pd1 la1 ic1 co1 D1 m1 e1 rk1 al1 dp1 wt1) 30))).on ((Below.refl _ _).alloc (Nat.le_refl _) (.cells (fr13 kd fl st2 A2 n2 c2 pd2 la2 ic2 co2 D2 m2 e2 rk2 al2 dp2 wt2) 30)))
  have HD2 := Lib.hid ((hD2.on ((Below.refl _ w).alloc (Nat.le_refl _) (.cells (fr13 kd fl st1 A1 n1 c1 pd1 la1 ic1 co1 D1 m1 e1 rk1 al1 dp1 wt1) 30))).on ((Below.refl _ _).alloc (Nat.le_refl _) (.cells (fr13 kd fl st2 A2 n2 c2 pd2 la2 ic2 co2 D2 m2 e2 rk2 al2 dp2 wt2) 30)))
  have hnb : (st1 == st2) = false := by simpa using hne
  clear hA1 hA2 hD1 hD2
  go_enter Tryz.func10, Tryz.ntmps10
  go_wp2
  go_ret
  exact ⟨rfl, B0.out⟩
set_option maxRecDepth 100000 in
set_option maxHeartbeats 2000000 in
theorem m_same_3 (A1 A2 D1 D2 : Option Addr) (n1 c1 n2 c2 m1 e1 m2 e2 : Nat) (kd : Int) (fl : Int) (st : Int) (da1 da2 : List UInt8) (pd1 pd2 : Int) (la1 la2 : Int) (ic1 ic2 : Int) (co1 co2 : Int) (ps1 ps2 : List Pr) (rk1 rk2 : Bool) (al1 al2 : Bool) (dp1 dp2 : Int) (wt1 wt2 : Int) (w : World) (hA1 : Bs w w.heap.size A1 n1 da1) (hA2 : Bs w w.heap.size A2 n2 da2) (hD1 : Ps w w.heap.size D1 m1 ps1) (hD2 : Ps w w.heap.size D2 m2 ps2) (hm : m1 ≤ 100000) (hne : (da1 == da2) = false) :
    Calls Tryz.prog 10 #[.agg (fr13 kd fl st A1 n1 c1 pd1 la1 ic1 co1 D1 m1 e1 rk1 al1 dp1 wt1), .agg (fr13 kd fl st A2 n2 c2 pd2 la2 ic2 co2 D2 m2 e2 rk2 al2 dp2 wt2)] w fun e w' => e = .returned (.bool false) ∧ Below w.heap.size w w' := by
  have B0 : Hid (Below w.heap.size w ((w.alloc (.cells (fr13 kd fl st A1 n1 c1 pd1 la1 ic1 co1 D1 m1 e1 rk1 al1 dp1 wt1) 30)).alloc (.cells (fr13 kd fl st A2 n2 c2 pd2 la2 ic2 co2 D2 m2 e2 rk2 al2 dp2 wt2) 30))) := Lib.hid (((Below.refl _ w).alloc (Nat.le_refl _) _).alloc (by simp) _)
  have HD1 := Lib.hid ((hD1.on ((Below.refl _ w).alloc (Nat.le_refl _) (.cells (fr13 kd fl st A1 n1 c1 pd1 la1 ic1 co1 D1 m1 e1 rk1 al1 dp1 wt1) 30))).on ((Below.refl _ _).alloc (Nat.le_refl _) (.cells (fr13 kd fl st A2 n2 c2 pd2 la2 ic2 co2 D2 m2 e2 rk2 al2 dp2 wt2) 30)))
  have HD2 := Lib.hid ((hD2.on ((Below.refl _ w).alloc (Nat.le_refl _) (.cells (fr13 kd fl st A1 n1 c1 pd1 la1 ic1 co1 D1 m1 e1 rk1 al1 dp1 wt1) 30))).on ((Below.refl _ _).alloc (Nat.le_refl _) (.cells (fr13 kd fl st A2 n2 c2 pd2 la2 ic2 co2 D2 m2 e2 rk2 al2 dp2 wt2) 30)))
  have v1 := conv_bytes (c := c1) ((hA1.on ((Below.refl _ w).alloc (Nat.le_refl _) (.cells (fr13 kd fl st A1 n1 c1 pd1 la1 ic1 co1 D1 m1 e1 rk1 al1 dp1 wt1) 30))).on ((Below.refl _ _).alloc (Nat.le_refl _) (.cells (fr13 kd fl st A2 n2 c2 pd2 la2 ic2 co2 D2 m2 e2 rk2 al2 dp2 wt2) 30)))
  have v2 := conv_bytes (c := c2) ((hA2.on ((Below.refl _ w).alloc (Nat.le_refl _) (.cells (fr13 kd fl st A1 n1 c1 pd1 la1 ic1 co1 D1 m1 e1 rk1 al1 dp1 wt1) 30))).on ((Below.refl _ _).alloc (Nat.le_refl _) (.cells (fr13 kd fl st A2 n2 c2 pd2 la2 ic2 co2 D2 m2 e2 rk2 al2 dp2 wt2) 30)))
  clear hA1 hA2 hD1 hD2
  go_enter Tryz.func10, Tryz.ntmps10
  go_wp2
  go_ret
  exact ⟨rfl, B0.out⟩
set_option maxRecDepth 100000 in
set_option maxHeartbeats 2000000 in
theorem m_same_4 (A1 A2 D1 D2 : Option Addr) (n1 c1 n2 c2 m1 e1 m2 e2 : Nat) (kd : Int) (fl : Int) (st : Int) (da : List UInt8) (pd1 pd2 : Int) (la1 la2 : Int) (ic1 ic2 : Int) (co1 co2 : Int) (ps1 ps2 : List Pr) (rk1 rk2 : Bool) (al1 al2 : Bool) (dp1 dp2 : Int) (wt1 wt2 : Int) (w : World) (hA1 : Bs w w.heap.size A1 n1 da) (hA2 : Bs w w.heap.size A2 n2 da) (hD1 : Ps w w.heap.size D1 m1 ps1) (hD2 : Ps w w.heap.size D2 m2 ps2) (hm : m1 ≤ 100000) (hne : ¬ pd1 = pd2) :
    Calls Tryz.prog 10 #[.agg (fr13 kd fl st A1 n1 c1 pd1 la1 ic1 co1 D1 m1 e1 rk1 al1 dp1 wt1), .agg (fr13 kd fl st A2 n2 c2 pd2 la2 ic2 co2 D2 m2 e2 rk2 al2 dp2 wt2)] w fun e w' => e = .returned (.bool false) ∧ Below w.heap.size w w' := by
  have B0 : Hid (Below w.heap.size w ((w.alloc (.cells (fr13 kd fl st A1 n1 c1 pd1 la1 ic1 co1 D1 m1 e1 rk1 al1 dp1 wt1) 30)).alloc (.cells (fr13 kd fl st A2 n2 c2 pd2 la2 ic2 co2 D2 m2 e2 rk2 al2 dp2 wt2) 30))) := Lib.hid (((Below.refl _ w).alloc (Nat.le_refl _) _).alloc (by simp) _)
  have HD1 := Lib.hid ((hD1.on ((Below.refl _ w).alloc (Nat.le_refl _) (.cells (fr13 kd fl st A1 n1 c1 pd1 la1 ic1 co1 D1 m1 e1 rk1 al1 dp1 wt1) 30))).on ((Below.refl _ _).alloc (Nat.le_refl _) (.cells (fr13 kd fl st A2 n2 c2 pd2 la2 ic2 co2 D2 m2 e2 rk2 al2 dp2 wt2) 30)))
  have HD2 := Lib.hid ((hD2.on ((Below.refl _ w).alloc (Nat.le_refl _) (.cells (fr13 kd fl st A1 n1 c1 pd1 la1 ic1 co1 D1 m1 e1 rk1 al1 dp1 wt1) 30))).on ((Below.refl _ _).alloc (Nat.le_refl _) (.cells (fr13 kd fl st A2 n2 c2 pd2 la2 ic2 co2 D2 m2 e2 rk2 al2 dp2 wt2) 30)))
  have v1 := conv_bytes (c := c1) ((hA1.on ((Below.refl _ w).alloc (Nat.le_refl _) (.cells (fr13 kd fl st A1 n1 c1 pd1 la1 ic1 co1 D1 m1 e1 rk1 al1 dp1 wt1) 30))).on ((Below.refl _ _).alloc (Nat.le_refl _) (.cells (fr13 kd fl st A2 n2 c2 pd2 la2 ic2 co2 D2 m2 e2 rk2 al2 dp2 wt2) 30)))
  have v2 := conv_bytes (c := c2) ((hA2.on ((Below.refl _ w).alloc (Nat.le_refl _) (.cells (fr13 kd fl st A1 n1 c1 pd1 la1 ic1 co1 D1 m1 e1 rk1 al1 dp1 wt1) 30))).on ((Below.refl _ _).alloc (Nat.le_refl _) (.cells (fr13 kd fl st A2 n2 c2 pd2 la2 ic2 co2 D2 m2 e2 rk2 al2 dp2 wt2) 30)))
  have hnb : (pd1 == pd2) = false := by simpa using hne
  clear hA1 hA2 hD1 hD2
  go_enter Tryz.func10, Tryz.ntmps10
  go_wp2
  go_ret
  exact ⟨rfl, B0.out⟩
set_option maxRecDepth 100000 in
set_option maxHeartbeats 2000000 in
theorem m_same_5 (A1 A2 D1 D2 : Option Addr) (n1 c1 n2 c2 m1 e1 m2 e2 : Nat) (kd : Int) (fl : Int) (st : Int) (da : List UInt8) (pd : Int) (la1 la2 : Int) (ic1 ic2 : Int) (co1 co2 : Int) (ps1 ps2 : List Pr) (rk1 rk2 : Bool) (al1 al2 : Bool) (dp1 dp2 : Int) (wt1 wt2 : Int) (w : World) (hA1 : Bs w w.heap.size A1 n1 da) (hA2 : Bs w w.heap.size A2 n2 da) (hD1 : Ps w w.heap.size D1 m1 ps1) (hD2 : Ps w w.heap.size D2 m2 ps2) (hm : m1 ≤ 100000) (hne : ¬ la1 = la2) :
    Calls Tryz.prog 10 #[.agg (fr13 kd fl st A1 n1 c1 pd la1 ic1 co1 D1 m1 e1 rk1 al1 dp1 wt1), .agg (fr13 kd fl st A2 n2 c2 pd la2 ic2 co2 D2 m2 e2 rk2 al2 dp2 wt2)] w fun e w' => e = .returned (.bool false) ∧ Below w.heap.size w w' := by
  have B0 : Hid (Below w.heap.size w ((w.alloc (.cells (fr13 kd fl st A1 n1 c1 pd la1 ic1 co1 D1 m1 e1 rk1 al1 dp1 wt1) 30)).alloc (.cells (fr13 kd fl st A2 n2 c2 pd la2 ic2 co2 D2 m2 e2 rk2 al2 dp2 wt2) 30))) := Lib.hid (((Below.refl _ w).alloc (Nat.le_refl _) _).alloc (by simp) _)
  have HD1 := Lib.hid ((hD1.on ((Below.refl _ w).alloc (Nat.le_refl _) (.cells (fr13 kd fl st A1 n1 c1 pd la1 ic1 co1 D1 m1 e1 rk1 al1 dp1 wt1) 30))).on ((Below.refl _ _).alloc (Nat.le_refl _) (.cells (fr13 kd fl st A2 n2 c2 pd la2 ic2 co2 D2 m2 e2 rk2 al2 dp2 wt2) 30)))
  have HD2 := Lib.hid ((hD2.on ((Below.refl _ w).alloc (Nat.le_refl _) (.cells (fr13 kd fl st A1 n1 c1 pd la1 ic1 co1 D1 m1 e1 rk1 al1 dp1 wt1) 30))).on ((Below.refl _ _).alloc (Nat.le_refl _) (.cells (fr13 kd fl st A2 n2 c2 pd la2 ic2 co2 D2 m2 e2 rk2 al2 dp2 wt2) 30)))
  have v1 := conv_bytes (c := c1) ((hA1.on ((Below.refl _ w).alloc (Nat.le_refl _) (.cells (fr13 kd fl st A1 n1 c1 pd la1 ic1 co1 D1 m1 e1 rk1 al1 dp1 wt1) 30))).on ((Below.refl _ _).alloc (Nat.le_refl _) (.cells (fr13 kd fl st A2 n2 c2 pd la2 ic2 co2 D2 m2 e2 rk2 al2 dp2 wt2) 30)))
  have v2 := conv_bytes (c := c2) ((hA2.on ((Below.refl _ w).alloc (Nat.le_refl _) (.cells (fr13 kd fl st A1 n1 c1 pd la1 ic1 co1 D1 m1 e1 rk1 al1 dp1 wt1) 30))).on ((Below.refl _ _).alloc (Nat.le_refl _) (.cells (fr13 kd fl st A2 n2 c2 pd la2 ic2 co2 D2 m2 e2 rk2 al2 dp2 wt2) 30)))
  have hnb : (la1 == la2) = false := by simpa using hne
  clear hA1 hA2 hD1 hD2
  go_enter Tryz.func10, Tryz.ntmps10
  go_wp2
  go_ret
  exact ⟨rfl, B0.out⟩
set_option maxRecDepth 100000 in
set_option maxHeartbeats 2000000 in
theorem m_same_6 (A1 A2 D1 D2 : Option Addr) (n1 c1 n2 c2 m1 e1 m2 e2 : Nat) (kd : Int) (fl : Int) (st : Int) (da : List UInt8) (pd : Int) (la : Int) (ic1 ic2 : Int) (co1 co2 : Int) (ps1 ps2 : List Pr) (rk1 rk2 : Bool) (al1 al2 : Bool) (dp1 dp2 : Int) (wt1 wt2 : Int) (w : World) (hA1 : Bs w w.heap.size A1 n1 da) (hA2 : Bs w w.heap.size A2 n2 da) (hD1 : Ps w w.heap.size D1 m1 ps1) (hD2 : Ps w w.heap.size D2 m2 ps2) (hm : m1 ≤ 100000) (hne : ¬ ic1 = ic2) :
    Calls Tryz.prog 10 #[.agg (fr13 kd fl st A1 n1 c1 pd la ic1 co1 D1 m1 e1 rk1 al1 dp1 wt1), .agg (fr13 kd fl st A2 n2 c2 pd la ic2 co2 D2 m2 e2 rk2 al2 dp2 wt2)] w fun e w' => e = .returned (.bool false) ∧ Below w.heap.size w w' := by
  have B0 : Hid (Below w.heap.size w ((w.alloc (.cells (fr13 kd fl st A1 n1 c1 pd la ic1 co1 D1 m1 e1 rk1 al1 dp1 wt1) 30)).alloc (.cells (fr13 kd fl st A2 n2 c2 pd la ic2 co2 D2 m2 e2 rk2 al2 dp2 wt2) 30))) := Lib.hid (((Below.refl _ w).alloc (Nat.le_refl _) _).alloc (by simp) _)
  have HD1 := Lib.hid ((hD1.on ((Below.refl _ w).alloc (Nat.le_refl _) (.cells (fr13 kd fl st A1 n1 c1 pd la ic1 co1 D1 m1 e1 rk1 al1 dp1 wt1) 30))).on ((Below.refl _ _).alloc (Nat.le_refl _) (.cells (fr13 kd fl st A2 n2 c2 pd la ic2 co2 D2 m2 e2 rk2 al2 dp2 wt2) 30)))
  have HD2 := Lib.hid ((hD2.on ((Below.refl _ w).alloc (Nat.le_refl _) (.cells (fr13 kd fl st A1 n1 c1 pd la ic1 co1 D1 m1 e1 rk1 al1 dp1 wt1) 30))).on ((Below.refl _ _).alloc (Nat.le_refl _) (.cells (fr13 kd fl st A2 n2 c2 pd la ic2 co2 D2 m2 e2 rk2 al2 dp2 wt2) 30)))
  have v1 := conv_bytes (c := c1) ((hA1.on ((Below.refl _ w).alloc (Nat.le_refl _) (.cells (fr13 kd fl st A1 n1 c1 pd la ic1 co1 D1 m1 e1 rk1 al1 dp1 wt1) 30))).on ((Below.refl _ _).alloc (Nat.le_refl _) (.cells (fr13 kd fl st A2 n2 c2 pd la ic2 co2 D2 m2 e2 rk2 al2 dp2 wt2) 30)))
  have v2 := conv_bytes (c := c2) ((hA2.on ((Below.refl _ w).alloc (Nat.le_refl _) (.cells (fr13 kd fl st A1 n1 c1 pd la ic1 co1 D1 m1 e1 rk1 al1 dp1 wt1) 30))).on ((Below.refl _ _).alloc (Nat.le_refl _) (.cells (fr13 kd fl st A2 n2 c2 pd la ic2 co2 D2 m2 e2 rk2 al2 dp2 wt2) 30)))
  have hnb : (ic1 == ic2) = false := by simpa using hne
  clear hA1 hA2 hD1 hD2
  go_enter Tryz.func10, Tryz.ntmps10
  go_wp2
  go_ret
  exact ⟨rfl, B0.out⟩
set_option maxRecDepth 100000 in
set_option maxHeartbeats 2000000 in
theorem m_same_7 (A1 A2 D1 D2 : Option Addr) (n1 c1 n2 c2 m1 e1 m2 e2 : Nat) (kd : Int) (fl : Int) (st : Int) (da : List UInt8) (pd : Int) (la : Int) (ic : Int) (co1 co2 : Int) (ps1 ps2 : List Pr) (rk1 rk2 : Bool) (al1 al2 : Bool) (dp1 dp2 : Int) (wt1 wt2 : Int) (w : World) (hA1 : Bs w w.heap.size A1 n1 da) (hA2 : Bs w w.heap.size A2 n2 da) (hD1 : Ps w w.heap.size D1 m1 ps1) (hD2 : Ps w w.heap.size D2 m2 ps2) (hm : m1 ≤ 100000) (hne : ¬ co1 = co2) :
    Calls Tryz.prog 10 #[.agg (fr13 kd fl st A1 n1 c1 pd la ic co1 D1 m1 e1 rk1 al1 dp1 wt1), .agg (fr13 kd fl st A2 n2 c2 pd la ic co2 D2 m2 e2 rk2 al2 dp2 wt2)] w fun e w' => e = .returned (.bool false) ∧ Below w.heap.size w w' := by
  have B0 : Hid (Below w.heap.size w ((w.alloc (.cells (fr13 kd fl st A1 n1 c1 pd la ic co1 D1 m1 e1 rk1 al1 dp1 wt1) 30)).alloc (.cells (fr13 kd fl st A2 n2 c2 pd la ic co2 D2 m2 e2 rk2 al2 dp2 wt2) 30))) := Lib.hid (((Below.refl _ w).alloc (Nat.le_refl _) _).alloc (by simp) _)
  have HD1 := Lib.hid ((hD1.on ((Below.refl _ w).alloc (Nat.le_refl _) (.cells (fr13 kd fl st A1 n1 c1 pd la ic co1 D1 m1 e1 rk1 al1 dp1 wt1) 30))).on ((Below.refl _ _).alloc (Nat.le_refl _) (.cells (fr13 kd fl st A2 n2 c2 pd la ic co2 D2 m2 e2 rk2 al2 dp2 wt2) 30)))
  have HD2 := Lib.hid ((hD2.on ((Below.refl _ w).alloc (Nat.le_refl _) (.cells (fr13 kd fl st A1 n1 c1 pd la ic co1 D1 m1 e1 rk1 al1 dp1 wt1) 30))).on ((Below.refl _ _).alloc (Nat.le_refl _) (.cells (fr13 kd fl st A2 n2 c2 pd la ic co2 D2 m2 e2 rk2 al2 dp2 wt2) 30)))
  have v1 := conv_bytes (c := c1) ((hA1.on ((Below.refl _ w).alloc (Nat.le_refl _) (.cells (fr13 kd fl st A1 n1 c1 pd la ic co1 D1 m1 e1 rk1 al1 dp1 wt1) 30))).on ((Below.refl _ _).alloc (Nat.le_refl _) (.cells (fr13 kd fl st A2 n2 c2 pd la ic co2 D2 m2 e2 rk2 al2 dp2 wt2) 30)))
  have v2 := conv_bytes (c := c2) ((hA2.on ((Below.refl _ w).alloc (Nat.le_refl _) (.cells (fr13 kd fl st A1 n1 c1 pd la ic co1 D1 m1 e1 rk1 al1 dp1 wt1) 30))).on ((Below.refl _ _).alloc (Nat.le_refl _) (.cells (fr13 kd fl st A2 n2 c2 pd la ic co2 D2 m2 e2 rk2 al2 dp2 wt2) 30)))
  have hnb : (co1 == co2) = false := by simpa using hne
  clear hA1 hA2 hD1 hD2
  go_enter Tryz.func10, Tryz.ntmps10
  go_wp2
  go_ret
  exact ⟨rfl, B0.out⟩
set_option maxRecDepth 100000 in
set_option maxHeartbeats 2000000 in
theorem m_same_8 (A1 A2 D1 D2 : Option Addr) (n1 c1 n2 c2 m1 e1 m2 e2 : Nat) (kd : Int) (fl : Int) (st : Int) (da : List UInt8) (pd : Int) (la : Int) (ic : Int) (co : Int) (ps1 ps2 : List Pr) (rk1 rk2 : Bool) (al1 al2 : Bool) (dp1 dp2 : Int) (wt1 wt2 : Int) (w : World) (hA1 : Bs w w.heap.size A1 n1 da) (hA2 : Bs w w.heap.size A2 n2 da) (hD1 : Ps w w.heap.size D1 m1 ps1) (hD2 : Ps w w.heap.size D2 m2 ps2) (hm : m1 ≤ 100000) (hne : (ps1 == ps2) = false) :
    Calls Tryz.prog 10 #[.agg (fr13 kd fl st A1 n1 c1 pd la ic co D1 m1 e1 rk1 al1 dp1 wt1), .agg (fr13 kd fl st A2 n2 c2 pd la ic co D2 m2 e2 rk2 al2 dp2 wt2)] w fun e w' => e = .returned (.bool false) ∧ Below w.heap.size w w' := by
  have B0 : Hid (Below w.heap.size w ((w.alloc (.cells (fr13 kd fl st A1 n1 c1 pd la ic co D1 m1 e1 rk1 al1 dp1 wt1) 30)).alloc (.cells (fr13 kd fl st A2 n2 c2 pd la ic co D2 m2 e2 rk2 al2 dp2 wt2) 30))) := Lib.hid (((Below.refl _ w).alloc (Nat.le_refl _) _).alloc (by simp) _)
  have HD1 := Lib.hid ((hD1.on ((Below.refl _ w).alloc (Nat.le_refl _) (.cells (fr13 kd fl st A1 n1 c1 pd la ic co D1 m1 e1 rk1 al1 dp1 wt1) 30))).on ((Below.refl _ _).alloc (Nat.le_refl _) (.cells (fr13 kd fl st A2 n2 c2 pd la ic co D2 m2 e2 rk2 al2 dp2 wt2) 30)))
  have HD2 := Lib.hid ((hD2.on ((Below.refl _ w).alloc (Nat.le_refl _) (.cells (fr13 kd fl st A1 n1 c1 pd la ic co D1 m1 e1 rk1 al1 dp1 wt1) 30))).on ((Below.refl _ _).alloc (Nat.le_refl _) (.cells (fr13 kd fl st A2 n2 c2 pd la ic co D2 m2 e2 rk2 al2 dp2 wt2) 30)))
  have v1 := conv_bytes (c := c1) ((hA1.on ((Below.refl _ w).alloc (Nat.le_refl _) (.cells (fr13 kd fl st A1 n1 c1 pd la ic co D1 m1 e1 rk1 al1 dp1 wt1) 30))).on ((Below.refl _ _).alloc (Nat.le_refl _) (.cells (fr13 kd fl st A2 n2 c2 pd la ic co D2 m2 e2 rk2 al2 dp2 wt2) 30)))
  have v2 := conv_bytes (c := c2) ((hA2.on ((Below.refl _ w).alloc (Nat.le_refl _) (.cells (fr13 kd fl st A1 n1 c1 pd la ic co D1 m1 e1 rk1 al1 dp1 wt1) 30))).on ((Below.refl _ _).alloc (Nat.le_refl _) (.cells (fr13 kd fl st A2 n2 c2 pd la ic co D2 m2 e2 rk2 al2 dp2 wt2) 30)))
  clear hA1 hA2 hD1 hD2
  go_enter Tryz.func10, Tryz.ntmps10
  go_wp2_with (go_at_call 32; (with_reducible refine (rpairs_any D1 D2 m1 m2 e1 e2 _ _ _ HD1.out HD2.out (by omega)).mono ?_); rintro e w1 ⟨rfl, hb⟩; rw [hne]; obtain ⟨⟨p0, p1, p2, p3, p4, p5, p6, p7, p8, p9, p10, p11, p12⟩, ⟨q0, q1, q2, q3, q4, q5, q6, q7, q8, q9, q10, q11, q12⟩⟩ := ff_boxes hb; have B1 := Lib.hid (below_step B0.out hb); clear hb)
  go_ret
  exact ⟨rfl, B1.out⟩
set_option maxRecDepth 100000 in
set_option maxHeartbeats 2000000 in
theorem m_same_9 (A1 A2 D1 D2 : Option Addr) (n1 c1 n2 c2 m1 e1 m2 e2 : Nat) (kd : Int) (fl : Int) (st : Int) (da : List UInt8) (pd : Int) (la : Int) (ic : Int) (co : Int) (ps : List Pr) (rk1 rk2 : Bool) (al1 al2 : Bool) (dp1 dp2 : Int) (wt1 wt2 : Int) (w : World) (hA1 : Bs w w.heap.size A1 n1 da) (hA2 : Bs w w.heap.size A2 n2 da) (hD1 : Ps w w.heap.size D1 m1 ps) (hD2 : Ps w w.heap.size D2 m2 ps) (hm : m1 ≤ 100000) (hne : ¬ rk1 = rk2) :
    Calls Tryz.prog 10 #[.agg (fr13 kd fl st A1 n1 c1 pd la ic co D1 m1 e1 rk1 al1 dp1 wt1), .agg (fr13 kd fl st A2 n2 c2 pd la ic co D2 m2 e2 rk2 al2 dp2 wt2)] w fun e w' => e = .returned (.bool false) ∧ Below w.heap.size w w' := by
  have B0 : Hid (Below w.heap.size w ((w.alloc (.cells (fr13 kd fl st A1 n1 c1 pd la ic co D1 m1 e1 rk1 al1 dp1 wt1) 30)).alloc (.cells (fr13 kd fl st A2 n2 c2 pd la ic co D2 m2 e2 rk2 al2 dp2 wt2) 30))) := Lib.hid (((Below.refl _ w).alloc (Nat.le_refl _) _).alloc (by simp) _)
  have HD1 := Lib.hid ((hD1.on ((Below.refl _ w).alloc (Nat.le_refl _) (.cells (fr13 kd fl st A1 n1 c1 pd la ic co D1 m1 e1 rk1 al1 dp1 wt1) 30))).on ((Below.refl _ _).alloc (Nat.le_refl _) (.cells (fr13 kd fl st A2 n2 c2 pd la ic co D2 m2 e2 rk2 al2 dp2 wt2) 30)))
  have HD2 := Lib.hid ((hD2.on ((Below.refl _ w).alloc (Nat.le_refl _) (.cells (fr13 kd fl st A1 n1 c1 pd la ic co D1 m1 e1 rk1 al1 dp1 wt1) 30))).on ((Below.refl _ _).alloc (Nat.le_refl _) (.cells (fr13 kd fl st A2 n2 c2 pd la ic co D2 m2 e2 rk2 al2 dp2 wt2) 30)))
  have v1 := conv_bytes (c := c1) ((hA1.on ((Below.refl _ w).alloc (Nat.le_refl _) (.cells (fr13 kd fl st A1 n1 c1 pd la ic co D1 m1 e1 rk1 al1 dp1 wt1) 30))).on ((Below.refl _ _).alloc (Nat.le_refl _) (.cells (fr13 kd fl st A2 n2 c2 pd la ic co D2 m2 e2 rk2 al2 dp2 wt2) 30)))
  have v2 := conv_bytes (c := c2) ((hA2.on ((Below.refl _ w).alloc (Nat.le_refl _) (.cells (fr13 kd fl st A1 n1 c1 pd la ic co D1 m1 e1 rk1 al1 dp1 wt1) 30))).on ((Below.refl _ _).alloc (Nat.le_refl _) (.cells (fr13 kd fl st A2 n2 c2 pd la ic co D2 m2 e2 rk2 al2 dp2 wt2) 30)))
  have hnb : (rk1 == rk2) = false := by simpa using hne
  clear hA1 hA2 hD1 hD2
  go_enter Tryz.func10, Tryz.ntmps10
  go_wp2_with (go_at_call 32; (with_reducible refine (rpairs_any D1 D2 m1 m2 e1 e2 _ _ _ HD1.out HD2.out (by omega)).mono ?_); rintro e w1 ⟨rfl, hb⟩; rw [beq_self_eq_true]; obtain ⟨⟨p0, p1, p2, p3, p4, p5, p6, p7, p8, p9, p10, p11, p12⟩, ⟨q0, q1, q2, q3, q4, q5, q6, q7, q8, q9, q10, q11, q12⟩⟩ := ff_boxes hb; have B1 := Lib.hid (below_step B0.out hb); clear hb)
  go_ret
  exact ⟨rfl, B1.out⟩
set_option maxRecDepth 100000 in
set_option maxHeartbeats 2000000 in
theorem m_same_10 (A1 A2 D1 D2 : Option Addr) (n1 c1 n2 c2 m1 e1 m2 e2 : Nat) (kd : Int) (fl : Int) (st : Int) (da : List UInt8) (pd : Int) (la : Int) (ic : Int) (co : Int) (ps : List Pr) (rk : Bool) (al1 al2 : Bool) (dp1 dp2 : Int) (wt1 wt2 : Int) (w : World) (hA1 : Bs w w.heap.size A1 n1 da) (hA2 : Bs w w.heap.size A2 n2 da) (hD1 : Ps w w.heap.size D1 m1 ps) (hD2 : Ps w w.heap.size D2 m2 ps) (hm : m1 ≤ 100000) (hne : ¬ al1 = al2) :
    Calls Tryz.prog 10 #[.agg (fr13 kd fl st A1 n1 c1 pd la ic co D1 m1 e1 rk al1 dp1 wt1), .agg (fr13 kd fl st A2 n2 c2 pd la ic co D2 m2 e2 rk al2 dp2 wt2)] w fun e w' => e = .returned (.bool false) ∧ Below w.heap.size w w' := by
  have B0 : Hid (Below w.heap.size w ((w.alloc (.cells (fr13 kd fl st A1 n1 c1 pd la ic co D1 m1 e1 rk al1 dp1 wt1) 30)).alloc (.cells (fr13 kd fl st A2 n2 c2 pd la ic co D2 m2 e2 rk al2 dp2 wt2) 30))) := Lib.hid (((Below.refl _ w).alloc (Nat.le_refl _) _).alloc (by simp) _)
  have HD1 := Lib.hid ((hD1.on ((Below.refl _ w).alloc (Nat.le_refl _) (.cells (fr13 kd fl st A1 n1 c1 pd la ic co D1 m1 e1 rk al1 dp1 wt1) 30))).on ((Below.refl _ _).alloc (Nat.le_refl _) (.cells (fr13 kd fl st A2 n2 c2 pd la ic co D2 m2 e2 rk al2 dp2 wt2) 30)))
  have HD2 := Lib.hid ((hD2.on ((Below.refl _ w).alloc (Nat.le_refl _) (.cells (fr13 kd fl st A1 n1 c1 pd la ic co D1 m1 e1 rk al1 dp1 wt1) 30))).on ((Below.refl _ _).alloc (Nat.le_refl _) (.cells (fr13 kd fl st A2 n2 c2 pd la ic co D2 m2 e2 rk al2 dp2 wt2) 30)))
  have v1 := conv_bytes (c := c1) ((hA1.on ((Below.refl _ w).alloc (Nat.le_refl _) (.cells (fr13 kd fl st A1 n1 c1 pd la ic co D1 m1 e1 rk al1 dp1 wt1) 30))).on ((Below.refl _ _).alloc (Nat.le_refl _) (.cells (fr13 kd fl st A2 n2 c2 pd la ic co D2 m2 e2 rk al2 dp2 wt2) 30)))
  have v2 := conv_bytes (c := c2) ((hA2.on ((Below.refl _ w).alloc (Nat.le_refl _) (.cells (fr13 kd fl st A1 n1 c1 pd la ic co D1 m1 e1 rk al1 dp1 wt1) 30))).on ((Below.refl _ _).alloc (Nat.le_refl _) (.cells (fr13 kd fl st A2 n2 c2 pd la ic co D2 m2 e2 rk al2 dp2 wt2) 30)))
  have hnb : (al1 == al2) = false := by simpa using hne
  clear hA1 hA2 hD1 hD2
  go_enter Tryz.func10, Tryz.ntmps10
  go_wp2_with (go_at_call 32; (with_reducible refine (rpairs_any D1 D2 m1 m2 e1 e2 _ _ _ HD1.out HD2.out (by omega)).mono ?_); rintro e w1 ⟨rfl, hb⟩; rw [beq_self_eq_true]; obtain ⟨⟨p0, p1, p2, p3, p4, p5, p6, p7, p8, p9, p10, p11, p12⟩, ⟨q0, q1, q2, q3, q4, q5, q6, q7, q8, q9, q10, q11, q12⟩⟩ := ff_boxes hb; have B1 := Lib.hid (below_step B0.out hb); clear hb)
  go_ret
  exact ⟨rfl, B1.out⟩
set_option maxRecDepth 100000 in
set_option maxHeartbeats 2000000 in
theorem m_same_11 (A1 A2 D1 D2 : Option Addr) (n1 c1 n2 c2 m1 e1 m2 e2 : Nat) (kd : Int) (fl : Int) (st : Int) (da : List UInt8) (pd : Int) (la : Int) (ic : Int) (co : Int) (ps : List Pr) (rk : Bool) (al : Bool) (dp1 dp2 : Int) (wt1 wt2 : Int) (w : World) (hA1 : Bs w w.heap.size A1 n1 da) (hA2 : Bs w w.heap.size A2 n2 da) (hD1 : Ps w w.heap.size D1 m1 ps) (hD2 : Ps w w.heap.size D2 m2 ps) (hm : m1 ≤ 100000) (hne : ¬ dp1 = dp2) :
    Calls Tryz.prog 10 #[.agg (fr13 kd fl st A1 n1 c1 pd la ic co D1 m1 e1 rk al dp1 wt1), .agg (fr13 kd fl st A2 n2 c2 pd la ic co D2 m2 e2 rk al dp2 wt2)] w fun e w' => e = .returned (.bool false) ∧ Below w.heap.size w w' := by
  have B0 : Hid (Below w.heap.size w ((w.alloc (.cells (fr13 kd fl st A1 n1 c1 pd la ic co D1 m1 e1 rk al dp1 wt1) 30)).alloc (.cells (fr13 kd fl st A2 n2 c2 pd la ic co D2 m2 e2 rk al dp2 wt2) 30))) := Lib.hid (((Below.refl _ w).alloc (Nat.le_refl _) _).alloc (by simp) _)
  have HD1 := Lib.hid ((hD1.on ((Below.refl _ w).alloc (Nat.le_refl _) (.cells (fr13 kd fl st A1 n1 c1 pd la ic co D1 m1 e1 rk al dp1 wt1) 30))).on ((Below.refl _ _).alloc (Nat.le_refl _) (.cells (fr13 kd fl st A2 n2 c2 pd la ic co D2 m2 e2 rk al dp2 wt2) 30)))
  have HD2 := Lib.hid ((hD2.on ((Below.refl _ w).alloc (Nat.le_refl _) (.cells (fr13 kd fl st A1 n1 c1 pd la ic co D1 m1 e1 rk al dp1 wt1) 30))).on ((Below.refl _ _).alloc (Nat.le_refl _) (.cells (fr13 kd fl st A2 n2 c2 pd la ic co D2 m2 e2 rk al dp2 wt2) 30)))
  have v1 := conv_bytes (c := c1) ((hA1.on ((Below.refl _ w).alloc (Nat.le_refl _) (.cells (fr13 kd fl st A1 n1 c1 pd la ic co D1 m1 e1 rk al dp1 wt1) 30))).on ((Below.refl _ _).alloc (Nat.le_refl _) (.cells (fr13 kd fl st A2 n2 c2 pd la ic co D2 m2 e2 rk al dp2 wt2) 30)))
  have v2 := conv_bytes (c := c2) ((hA2.on ((Below.refl _ w).alloc (Nat.le_refl _) (.cells (fr13 kd fl st A1 n1 c1 pd la ic co D1 m1 e1 rk al dp1 wt1) 30))).on ((Below.refl _ _).alloc (Nat.le_refl _) (.cells (fr13 kd fl st A2 n2 c2 pd la ic co D2 m2 e2 rk al dp2 wt2) 30)))
  have hnb : (dp1 == dp2) = false := by simpa using hne
  clear hA1 hA2 hD1 hD2
  go_enter Tryz.func10, Tryz.ntmps10
  go_wp2_with (go_at_call 32; (with_reducible refine (rpairs_any D1 D2 m1 m2 e1 e2 _ _ _ HD1.out HD2.out (by omega)).mono ?_); rintro e w1 ⟨rfl, hb⟩; rw [beq_self_eq_true]; obtain ⟨⟨p0, p1, p2, p3, p4, p5, p6, p7, p8, p9, p10, p11, p12⟩, ⟨q0, q1, q2, q3, q4, q5, q6, q7, q8, q9, q10, q11, q12⟩⟩ := ff_boxes hb; have B1 := Lib.hid (below_step B0.out hb); clear hb)
  go_ret
  exact ⟨rfl, B1.out⟩
set_option maxRecDepth 100000 in
set_option maxHeartbeats 2000000 in
theorem m_same_12 (A1 A2 D1 D2 : Option Addr) (n1 c1 n2 c2 m1 e1 m2 e2 : Nat) (kd : Int) (fl : Int) (st : Int) (da : List UInt8) (pd : Int) (la : Int) (ic : Int) (co : Int) (ps : List Pr) (rk : Bool) (al : Bool) (dp : Int) (wt1 wt2 : Int) (w : World) (hA1 : Bs w w.heap.size A1 n1 da) (hA2 : Bs w w.heap.size A2 n2 da) (hD1 : Ps w w.heap.size D1 m1 ps) (hD2 : Ps w w.heap.size D2 m2 ps) (hm : m1 ≤ 100000) (hne : ¬ wt1 = wt2) :
    Calls Tryz.prog 10 #[.agg (fr13 kd fl st A1 n1 c1 pd la ic co D1 m1 e1 rk al dp wt1), .agg (fr13 kd fl st A2 n2 c2 pd la ic co D2 m2 e2 rk al dp wt2)] w fun e w' => e = .returned (.bool false) ∧ Below w.heap.size w w' := by
  have B0 : Hid (Below w.heap.size w ((w.alloc (.cells (fr13 kd fl st A1 n1 c1 pd la ic co D1 m1 e1 rk al dp wt1) 30)).alloc (.cells (fr13 kd fl st A2 n2 c2 pd la ic co D2 m2 e2 rk al dp wt2) 30))) := Lib.hid (((Below.refl _ w).alloc (Nat.le_refl _) _).alloc (by simp) _)
  have HD1 := Lib.hid ((hD1.on ((Below.refl _ w).alloc (Nat.le_refl _) (.cells (fr13 kd fl st A1 n1 c1 pd la ic co D1 m1 e1 rk al dp wt1) 30))).on ((Below.refl _ _).alloc (Nat.le_refl _) (.cells (fr13 kd fl st A2 n2 c2 pd la ic co D2 m2 e2 rk al dp wt2) 30)))
  have HD2 := Lib.hid ((hD2.on ((Below.refl _ w).alloc (Nat.le_refl _) (.cells (fr13 kd fl st A1 n1 c1 pd la ic co D1 m1 e1 rk al dp wt1) 30))).on ((Below.refl _ _).alloc (Nat.le_refl _) (.cells (fr13 kd fl st A2 n2 c2 pd la ic co D2 m2 e2 rk al dp wt2) 30)))
  have v1 := conv_bytes (c := c1) ((hA1.on ((Below.refl _ w).alloc (Nat.le_refl _) (.cells (fr13 kd fl st A1 n1 c1 pd la ic co D1 m1 e1 rk al dp wt1) 30))).on ((Below.refl _ _).alloc (Nat.le_refl _) (.cells (fr13 kd fl st A2 n2 c2 pd la ic co D2 m2 e2 rk al dp wt2) 30)))
  have v2 := conv_bytes (c := c2) ((hA2.on ((Below.refl _ w).alloc (Nat.le_refl _) (.cells (fr13 kd fl st A1 n1 c1 pd la ic co D1 m1 e1 rk al dp wt1) 30))).on ((Below.refl _ _).alloc (Nat.le_refl _) (.cells (fr13 kd fl st A2 n2 c2 pd la ic co D2 m2 e2 rk al dp wt2) 30)))
  have hnb : (wt1 == wt2) = false := by simpa using hne
  clear hA1 hA2 hD1 hD2
  go_enter Tryz.func10, Tryz.ntmps10
  go_wp2_with (go_at_call 32; (with_reducible refine (rpairs_any D1 D2 m1 m2 e1 e2 _ _ _ HD1.out HD2.out (by omega)).mono ?_); rintro e w1 ⟨rfl, hb⟩; rw [beq_self_eq_true]; obtain ⟨⟨p0, p1, p2, p3, p4, p5, p6, p7, p8, p9, p10, p11, p12⟩, ⟨q0, q1, q2, q3, q4, q5, q6, q7, q8, q9, q10, q11, q12⟩⟩ := ff_boxes hb; have B1 := Lib.hid (below_step B0.out hb); clear hb)
  go_ret
  exact ⟨rfl, B1.out⟩
set_option maxRecDepth 100000 in
set_option maxHeartbeats 2000000 in
theorem m_same_13 (A1 A2 D1 D2 : Option Addr) (n1 c1 n2 c2 m1 e1 m2 e2 : Nat) (kd : Int) (fl : Int) (st : Int) (da : List UInt8) (pd : Int) (la : Int) (ic : Int) (co : Int) (ps : List Pr) (rk : Bool) (al : Bool) (dp : Int) (wt : Int) (w : World) (hA1 : Bs w w.heap.size A1 n1 da) (hA2 : Bs w w.heap.size A2 n2 da) (hD1 : Ps w w.heap.size D1 m1 ps) (hD2 : Ps w w.heap.size D2 m2 ps) (hm : m1 ≤ 100000)  :
    Calls Tryz.prog 10 #[.agg (fr13 kd fl st A1 n1 c1 pd la ic co D1 m1 e1 rk al dp wt), .agg (fr13 kd fl st A2 n2 c2 pd la ic co D2 m2 e2 rk al dp wt)] w fun e w' => e = .returned (.bool true) ∧ Below w.heap.size w w' := by
  have B0 : Hid (Below w.heap.size w ((w.alloc (.cells (fr13 kd fl st A1 n1 c1 pd la ic co D1 m1 e1 rk al dp wt) 30)).alloc (.cells (fr13 kd fl st A2 n2 c2 pd la ic co D2 m2 e2 rk al dp wt) 30))) := Lib.hid (((Below.refl _ w).alloc (Nat.le_refl _) _).alloc (by simp) _)
  have HD1 := Lib.hid ((hD1.on ((Below.refl _ w).alloc (Nat.le_refl _) (.cells (fr13 kd fl st A1 n1 c1 pd la ic co D1 m1 e1 rk al dp wt) 30))).on ((Below.refl _ _).alloc (Nat.le_refl _) (.cells (fr13 kd fl st A2 n2 c2 pd la ic co D2 m2 e2 rk al dp wt) 30)))
  have HD2 := Lib.hid ((hD2.on ((Below.refl _ w).alloc (Nat.le_refl _) (.cells (fr13 kd fl st A1 n1 c1 pd la ic co D1 m1 e1 rk al dp wt) 30))).on ((Below.refl _ _).alloc (Nat.le_refl _) (.cells (fr13 kd fl st A2 n2 c2 pd la ic co D2 m2 e2 rk al dp wt) 30)))
  have v1 := conv_bytes (c := c1) ((hA1.on ((Below.refl _ w).alloc (Nat.le_refl _) (.cells (fr13 kd fl st A1 n1 c1 pd la ic co D1 m1 e1 rk al dp wt) 30))).on ((Below.refl _ _).alloc (Nat.le_refl _) (.cells (fr13 kd fl st A2 n2 c2 pd la ic co D2 m2 e2 rk al dp wt) 30)))
  have v2 := conv_bytes (c := c2) ((hA2.on ((Below.refl _ w).alloc (Nat.le_refl _) (.cells (fr13 kd fl st A1 n1 c1 pd la ic co D1 m1 e1 rk al dp wt) 30))).on ((Below.refl _ _).alloc (Nat.le_refl _) (.cells (fr13 kd fl st A2 n2 c2 pd la ic co D2 m2 e2 rk al dp wt) 30)))
  clear hA1 hA2 hD1 hD2
  go_enter Tryz.func10, Tryz.ntmps10
  go_wp2_with (go_at_call 32; (with_reducible refine (rpairs_any D1 D2 m1 m2 e1 e2 _ _ _ HD1.out HD2.out (by omega)).mono ?_); rintro e w1 ⟨rfl, hb⟩; rw [beq_self_eq_true]; obtain ⟨⟨p0, p1, p2, p3, p4, p5, p6, p7, p8, p9, p10, p11, p12⟩, ⟨q0, q1, q2, q3, q4, q5, q6, q7, q8, q9, q10, q11, q12⟩⟩ := ff_boxes hb; have B1 := Lib.hid (below_step B0.out hb); clear hb)
  go_ret
  exact ⟨rfl, B1.out⟩
end Go.Proofs.YtbflhphjnmhjhaaGreat
