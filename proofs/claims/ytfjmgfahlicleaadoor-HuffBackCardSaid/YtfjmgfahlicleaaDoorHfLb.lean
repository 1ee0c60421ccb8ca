/- The walk of HuffBack. -/
import Derived.Test.YtfjmgfahlicleaaDoorHfW
namespace Go.Proofs.YtfjmgfahlicleaaDoor
open Go.RowKit Hf Oct
set_option linter.unusedVariables false
set_option linter.unusedSimpArgs false
theorem Hf.bl_ge (b : List UInt8) : 5 * b.length ≤ (bl b).length := by
  induction b with
  | nil => simp
  | cons c b ih => have := mny_bd c; rw [bl_cons, List.length_append, cbits_length, List.length_cons]; omega
set_option maxHeartbeats 1000000 in
theorem lb_great (A A' : Option Addr) (n n' cc cc' : Nat) (w : World) (hR : Rws w) (h : 200 < n ∨ 200 < n') (hm : n ≤ maxLen) (hm' : n' ≤ maxLen) :
    Calls Tryd.prog 5 #[.slice A n cc, .slice A' n' cc'] w fun e w' => e = .returned (.bool true) ∧ Below w.heap.size w w' := by
  unfold maxLen at hm hm'
  have HW := Lib.hid (wakes7 w hR)
  clear hR
  rcases Nat.lt_or_ge 200 n with h1 | h1
  · clear h
    go_enter Tryd.func5, Tryd.ntmps5
    go_wp2_with (go_at_call 8; (with_reducible refine HW.out.mono ?_); rintro e w1 ⟨rfl, hb1⟩; have HB1 := Lib.hid hb1; clear hb1)
    go_ret
    exact ⟨rfl, HB1.out⟩
  · have h2 : 200 < n' := by omega
    clear h
    go_enter Tryd.func5, Tryd.ntmps5
    go_wp2_with (go_at_call 8; (with_reducible refine HW.out.mono ?_); rintro e w1 ⟨rfl, hb1⟩; have HB1 := Lib.hid hb1; clear hb1)
    go_ret
    exact ⟨rfl, HB1.out⟩
set_option maxRecDepth 100000 in
set_option maxHeartbeats 4000000 in
theorem lb_main (A A' : Option Addr) (n n' cc cc' : Nat) (xs ys : List UInt8) (w : World) (hR : Rws w) (hA : Bs w w.heap.size A n xs) (hA' : Bs w w.heap.size A' n' ys) (hn : n ≤ 200) (hn' : n' ≤ 200) :
    Calls Tryd.prog 5 #[.slice A n cc, .slice A' n' cc'] w fun e w' => e = .returned (.bool true) ∧ Below w.heap.size w w' := by
  have hbl := bl_le xs
  have hxl := hA.1
  have K0 : Hid (EnvF w [bF A n xs, bF A' n' ys, rF] []) := Lib.hid (((Hf.envR w hR).add0 (x := bF A' n' ys) hA' (bs_on hA')).add0 (x := bF A n xs) hA (bs_on hA))
  have B0 : Hid (Below w.heap.size w w) := Lib.hid (Below.refl _ w)
  clear hR hA hA'
  go_enter Tryd.func5, Tryd.ntmps5
  go_wp2_with (first
    | go_skip
    | (go_at_call 18; (have hc := (h_put A n cc xs w (Hf.EnvF.rws K0.out (by simp)) (K0.out.bs (A := A) (n := n) (xs := xs) (by simp)) (by omega)); (with_reducible refine hc.mono ?_); clear hc); rintro e w1 ⟨A1, m1, c1, zs, rfl, hp, hh, hb⟩; have K1 : Hid (EnvF w1 [bF A1 m1 zs, bF A n xs, bF A' n' ys, rF] []) := Lib.hid (K0.out.handS hb hh); have B1 : Hid (Below w.heap.size w w1) := Lib.hid (below_step B0.out hb); have HP := Lib.hid hp; have hm1 : zs.length = m1 := hh.1.1; have hpl := hp.1; have htk := take_put hp; clear hp; clear hb hh K0 B0)
    | (go_at_call 13; (have hc := (h_take A1 m1 c1 zs w1 (Hf.EnvF.rws K1.out (by simp)) (K1.out.bs (A := A1) (n := m1) (xs := zs) (by simp)) (by omega)); (with_reducible refine hc.mono ?_); clear hc); rintro e w2 ⟨A2, m2, c2, rfl, hh, hb⟩; rw [htk.1]; rw [htk.2] at hh; have K2 : Hid (EnvF w2 [bF A2 m2 xs, bF A1 m1 zs, bF A n xs, bF A' n' ys, rF] []) := Lib.hid (K1.out.handS hb hh); have B2 : Hid (Below w.heap.size w w2) := Lib.hid (below_step B1.out hb); clear htk; clear hb hh K1 B1)
    | (go_at_call 15; (have hc := (h_bits A n cc xs w2 (Hf.EnvF.rws K2.out (by simp)) (K2.out.bs (A := A) (n := n) (xs := xs) (by simp)) (by omega)); (with_reducible refine hc.mono ?_); clear hc); rintro e w3 ⟨rfl, hb⟩; have K3 : Hid (EnvF w3 [bF A2 m2 xs, bF A1 m1 zs, bF A n xs, bF A' n' ys, rF] []) := Lib.hid (K2.out.on hb); have B3 : Hid (Below w.heap.size w w3) := Lib.hid (below_step B2.out hb); clear hb K2 B2)
    | (go_at_call 17; (have hc := (refsame_any A2 A m2 n c2 cc _ _ xs xs w3 (K3.out.bs (A := A2) (n := m2) (xs := xs) (by simp)) (K3.out.bs (A := A) (n := n) (xs := xs) (by simp))); (with_reducible refine hc.mono ?_); clear hc); rintro e w' ⟨rfl, rfl⟩; rw [beq_self_eq_true]; have hq1 : ((m1 : Int) != (((bl xs).length : Int) + 7) / 8) = false := (by simp; omega))
    | (go_at_call 20; (have hc := (h_shorter A n cc xs w3 (Hf.EnvF.rws K3.out (by simp)) (K3.out.bs (A := A) (n := n) (xs := xs) (by simp)) (by omega)); (with_reducible refine hc.mono ?_); clear hc); rintro e w4 ⟨rfl, hb⟩; have K4 : Hid (EnvF w4 [bF A2 m2 xs, bF A1 m1 zs, bF A n xs, bF A' n' ys, rF] []) := Lib.hid (K3.out.on hb); have B4 : Hid (Below w.heap.size w w4) := Lib.hid (below_step B3.out hb); rw [show decide (((bl xs).length + 7) / 8 < n) = decide (m1 < n) from by rw [← hpl, hm1]]; clear hb K3 B3))
  have HZ := Lib.hid (K4.out.bs (A := A1) (n := m1) (xs := zs) (by simp))
  obtain ⟨hb1, hb2, hb3, hb4⟩ := HP.out.bits
  have HONE := Lib.hid hb2
  obtain ⟨wo, rfl⟩ : ∃ wo : World, wo = w4 := ⟨_, rfl⟩
  have hq3 : (bl xs).length ≤ 8 * m1 := by omega
  have hm1k : m1 ≤ 1000 := by omega
  have HM1 := Lib.hid hm1
  clear hb1 hb2 hb3 hb4 hpl hq1 hbl hxl hm1
  generalize (bl xs).length = S at *
  go_loop [9] (fun t => ∃ i : Nat, S ≤ i ∧ i ≤ 8 * m1 ∧ t = .int .i64 (i : Int)) (fun t => 8 * m1 - (intOf t).toNat)
  case atStart => exact ⟨S, Nat.le_refl _, hq3, rfl⟩
  case round =>
    obtain ⟨i, hi1, hi2, rfl⟩ := hrel
    by_cases hlt : i < 8 * m1
    · have hlt2 : (i : Int) < 8 * (m1 : Int) := by omega
      have hbit := rbit_yes A1 _ m1 c1 zs (i : Int) wo HZ.out (by omega) (by omega) (by omega)
      rw [Int.toNat_natCast, HONE.out i hi1 (by rw [HM1.out]; exact hlt)] at hbit
      have HBIT := Lib.hid hbit
      clear hbit
      go_wp2_with (go_at_call 22; (with_reducible refine HBIT.out.mono ?_); rintro e w' ⟨rfl, rfl⟩)
      go_round
      case rel => exact ⟨i + 1, by omega, by omega, by go_num⟩
      case measure => simp [intOf]; omega
    · obtain rfl : i = 8 * m1 := by omega
      have hlt2 : decide (((8 * m1 : Nat) : Int) < 8 * (m1 : Int)) = false := decide_eq_false (by omega)
      rcases takeE_or ys with h0 | ⟨h70, hnil⟩
      · have HPT := Lib.hid (put_take h0)
        have H0 := Lib.hid h0
        clear h0
        go_wp2_with (first
          | (go_at_call 13; (have hc := (h_take A' n' cc' ys wo (Hf.EnvF.rws K4.out (by simp)) (K4.out.bs (A := A') (n := n') (xs := ys) (by simp)) (by omega)); (with_reducible refine hc.mono ?_); clear hc); rintro e w5 ⟨A5, m5, c5, rfl, hh, hb⟩; rw [H0.out]; have hm5 : m5 ≤ 1000 := (by have h1 := hh.1.1; have h2 := HPT.out.bits.2.2.1; have h3 := bl_ge (takeL ys); have h4 := (K4.out.bs (A := A') (n := n') (xs := ys) (by simp)).1; omega); have K5 : Hid (EnvF w5 [bF A5 m5 (takeL ys), bF A2 m2 xs, bF A1 m1 zs, bF A n xs, bF A' n' ys, rF] []) := Lib.hid (K4.out.handS hb hh); have B5 : Hid (Below w.heap.size w w5) := Lib.hid (below_step B4.out hb); clear hb hh K4 B4)
          | (go_at_call 18; (have hc := (h_put A5 m5 c5 (takeL ys) w5 (Hf.EnvF.rws K5.out (by simp)) (K5.out.bs (A := A5) (n := m5) (xs := (takeL ys)) (by simp)) (by omega)); (with_reducible refine hc.mono ?_); clear hc); rintro e w6 ⟨A6, m6, c6, us, rfl, hp, hh, hb⟩; obtain rfl := HPT.out.one hp; clear hp; have K6 : Hid (EnvF w6 [bF A6 m6 ys, bF A5 m5 (takeL ys), bF A2 m2 xs, bF A1 m1 zs, bF A n xs, bF A' n' ys, rF] []) := Lib.hid (K5.out.handS hb hh); have B6 : Hid (Below w.heap.size w w6) := Lib.hid (below_step B5.out hb); clear hb hh K5 B5)
          | (go_at_call 17; (have hc := (refsame_any A6 A' m6 n' c6 cc' _ _ ys ys w6 (K6.out.bs (A := A6) (n := m6) (xs := ys) (by simp)) (K6.out.bs (A := A') (n := n') (xs := ys) (by simp))); (with_reducible refine hc.mono ?_); clear hc); rintro e w' ⟨rfl, rfl⟩; rw [beq_self_eq_true])
          | (go_at_call 8; (have hc := (wakes7 w6 (Hf.EnvF.rws K6.out (by simp))); (with_reducible refine hc.mono ?_); clear hc); rintro e w7 ⟨rfl, hb⟩; have K7 : Hid (EnvF w7 [bF A6 m6 ys, bF A5 m5 (takeL ys), bF A2 m2 xs, bF A1 m1 zs, bF A n xs, bF A' n' ys, rF] []) := Lib.hid (K6.out.on hb); have B7 : Hid (Below w.heap.size w w7) := Lib.hid (below_step B6.out hb); clear hb K6 B6))
        go_ret
        exact ⟨rfl, B7.out⟩
      · have H70 := Lib.hid h70
        have HNIL := Lib.hid hnil
        clear h70 hnil
        go_wp2_with (first
          | (go_at_call 13; (have hc := (h_take A' n' cc' ys wo (Hf.EnvF.rws K4.out (by simp)) (K4.out.bs (A := A') (n := n') (xs := ys) (by simp)) (by omega)); (with_reducible refine hc.mono ?_); clear hc); rintro e w5 ⟨A5, m5, c5, rfl, hh, hb⟩; rw [H70.out]; rw [HNIL.out] at hh; have hm5 : 0 = m5 := hh.1.1; subst hm5; have K5 : Hid (EnvF w5 [bF A5 0 [], bF A2 m2 xs, bF A1 m1 zs, bF A n xs, bF A' n' ys, rF] []) := Lib.hid (K4.out.handS hb hh); have B5 : Hid (Below w.heap.size w w5) := Lib.hid (below_step B4.out hb); clear hb hh K4 B4)
          | (go_at_call 8; (have hc := (wakes7 w5 (Hf.EnvF.rws K5.out (by simp))); (with_reducible refine hc.mono ?_); clear hc); rintro e w6 ⟨rfl, hb⟩; have K6 : Hid (EnvF w6 [bF A5 0 [], bF A2 m2 xs, bF A1 m1 zs, bF A n xs, bF A' n' ys, rF] []) := Lib.hid (K5.out.on hb); have B6 : Hid (Below w.heap.size w w6) := Lib.hid (below_step B5.out hb); clear hb K5 B5))
        go_ret
        exact ⟨rfl, B6.out⟩
end Go.Proofs.YtfjmgfahlicleaaDoor
