/- field.settings: the iterator of the settings of bytes; TakePairs. -/
import Derived.Test.YtgmnhbpdpnciaaaFiF
import Derived.Test.YtgmnhbpdpnciaaaGKeep
namespace Go.Proofs.Ytgmnhbpdpnciaaa
open Go.RowKit Oct Fi Go.Shelf
attribute [local go_sem] Oper.semAt_some

set_option maxRecDepth 100000 in
set_option maxHeartbeats 1000000 in
theorem settings1_in (k : Nat) (hk : 1 ≤ k) (l B1 m c : Nat) (A : Option Addr) (xs : List UInt8) (p : Nat → Prop) (J Jx : List Pr → World → Prop) (W : World)
    (hp1 : p B1) (hpA : 0 < m → ∀ b o, A = some ⟨b, o, none⟩ → p b) (hm : m * 6 ≤ 1000000) (hmc : m * 6 ≤ c)
    (hY : ∀ pre (x : Pr) W1, J pre W1 → pre.length < m → YieldAt Fence.wide (k - 1) Try.prog l #[pv x] W1 fun e W' =>
      (e = .returned (.bool true) ∧ J (pre ++ [x]) W' ∧ KeepC p W1 W') ∨ (e = .returned (.bool false) ∧ Jx (pre ++ [x]) W'))
    (hc : W.cell? ⟨B1, 0, none⟩ = some (.slice A (m * 6) c)) (hA : Bs W W.heap.size A (m * 6) xs) (h0 : J [] W) :
    CallsIn Fence.wide k Try.prog 37 #[.func (.yield l) #[] #[], .pointer (some ⟨B1, 0, none⟩)] W fun e W' => (∃ v, e = .returned v) ∧
      ((∃ ys, ys = upP xs m ∧ J ys W') ∨ (∃ pre, True ∧ Jx pre W')) := by
  have HY := Lib.hid hY
  have HP := Lib.hid hp1
  have HPA := Lib.hid hpA
  have HC := Lib.hid hc
  have HA := Lib.hid hA
  clear hY hp1 hpA hc hA
  refine callsIn_of_wp Try.func37 rfl trivial ?_ rfl
  simp only [Try.ntmps37, List.size_toArray, List.length_cons, List.length_nil, Nat.reduceAdd, Nat.reduceSub, Array.replicate_succ, Array.replicate_zero, List.push_toArray, List.append_toArray, List.nil_append, List.cons_append]
  gi_wp2
  gi_loopw [3] (fun t wr => ∃ j : Nat, j ≤ m ∧ t = .int .i64 ((j : Int) * 6) ∧ KeepC p W wr ∧ J (upP xs j) wr) (fun t _ => m - (intOf t / 6).toNat)
  case atStart => exact ⟨0, Nat.zero_le _, rfl, KeepC.refl _ _, h0⟩
  case round =>
    obtain ⟨j, hj, rfl, hkp, hJj⟩ := hrel
    have hcb := hkp.cell (a := ⟨B1, 0, none⟩) HP.out HC.out
    have HK := Lib.hid hkp
    have HJj := Lib.hid hJj
    clear hkp hJj
    by_cases hlt : j < m
    · have HA1 := Lib.hid (HK.out.bs HA.out (HPA.out (by omega)))
      have hx1 := (pairAt xs j).1.toNat_lt
      have hx2 := (pairAt xs j).2.toNat_lt
      have HX := Lib.hid (upP_step xs j)
      have HL := Lib.hid (upP_len xs j)
      generalize hP : pairAt xs j = P at *
      have hT1 : Hid (∀ w1, Bs w1 W.heap.size A (m * 6) xs → Calls Try.prog 38 #[.slice A (m * 6) c, .int .i64 ((j : Int) * 6), .int .i64 2] w1 fun e w' => e = .returned (.tuple #[.int .i64 (P.1.toNat : Int), .int .i64 0]) ∧ w1 = w') := Lib.hid (fun w1 h => by subst hP; exact ftakeP1 A _ _ c xs j w1 h hm hmc (by omega))
      have hT2 : Hid (∀ w1, Bs w1 W.heap.size A (m * 6) xs → Calls Try.prog 38 #[.slice A (m * 6) c, .int .i64 ((j : Int) * 6 + 2), .int .i64 4] w1 fun e w' => e = .returned (.tuple #[.int .i64 (P.2.toNat : Int), .int .i64 0]) ∧ w1 = w') := Lib.hid (fun w1 h => by subst hP; exact ftakeP2 A _ _ c xs j w1 h hm hmc (by omega))
      clear hP
      obtain ⟨fn, tmps, assign, body, hy, hR⟩ := HY.out _ P wr HJj.out (by rw [HL.out]; omega)
      rw [HX.out] at hR
      unfold pv at hy
      have HR := Lib.hid hR
      clear hR
      gi_wp2_with (first
        | (refine ⟨trivial, ?_⟩; gi_at_call 38; (with_reducible refine (callsIn_wide.2 (hT1.out _ HA1.out)).mono ?_); rintro e W1 ⟨rfl, rfl⟩)
        | (refine ⟨trivial, ?_⟩; gi_at_call 38; (with_reducible refine (callsIn_wide.2 (hT2.out _ HA1.out)).mono ?_); rintro e W1 ⟨rfl, rfl⟩))
      refine HR.out.mono ?_
      rintro e W4 (⟨rfl, hJ4, hk4⟩ | ⟨rfl, hJx4⟩)
      · gi_wp2
        go_roundw
        case rel => exact ⟨j + 1, by omega, by go_num, HK.out.trans hk4, hJ4⟩
        case measure => simp [intOf]; omega
      · gi_wp2
        refine bodyPost_ret (results_none rfl _ _ _) rfl ?_
        exact ⟨⟨_, rfl⟩, .inr ⟨_, trivial, hJx4⟩⟩
    · obtain rfl : j = m := by omega
      gi_wp2
      go_end0
      exact ⟨⟨_, rfl⟩, .inl ⟨_, rfl, HJj.out⟩⟩
end Go.Proofs.Ytgmnhbpdpnciaaa
