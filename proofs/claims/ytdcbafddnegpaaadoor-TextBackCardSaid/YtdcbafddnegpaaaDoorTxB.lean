/- Package text: the iterator of two slices' bytes, one behind the other. -/
import Derived.Test.YtdcbafddnegpaaaDoorMHb
import Derived.Test.YtdcbafddnegpaaaDoorMGa
namespace Go.Proofs.YtdcbafddnegpaaaDoor
open Go.RowKit Hf Go.Shelf Oct
set_option linter.unusedVariables false
set_option linter.unusedSimpArgs false
attribute [local go_sem] Oper.semAt_some
theorem ixb0 (A A' : Option Addr) (n c n' c' : Nat) (w : World) : (Instr.index 76 (.agg #[.slice A n c, .slice A' n' c']) (.int .i64 0)).run Tryd.prog w = .ok (.slice A n c) w := by kernel_rfl
theorem ixb1 (A A' : Option Addr) (n c n' c' : Nat) (w : World) : (Instr.index 76 (.agg #[.slice A n c, .slice A' n' c']) (.int .i64 1)).run Tryd.prog w = .ok (.slice A' n' c') w := by kernel_rfl
theorem x_both (A A' : Option Addr) (n c n' c' : Nat) (w : World) : Calls Tryd.prog 41 #[.slice A n c, .slice A' n' c'] w fun e w' =>
      e = .returned (.func (.func 57) #[] #[.pointer (some ⟨w.heap.size, 0, none⟩), .pointer (some ⟨w.heap.size + 1, 0, none⟩)]) ∧ (w.alloc (.cells #[.slice A n c] 22)).alloc (.cells #[.slice A' n' c'] 22) = w' := by
  go_enter Tryd.func41, Tryd.ntmps41
  go_wp2
  go_ret
  exact ⟨rfl, rfl⟩
theorem Tx.take_snoc {xs : List UInt8} {k : Nat} {x : UInt8} (h : xs[k]? = some x) : xs.take k ++ [x] = xs.take (k + 1) := by
  obtain ⟨hl, rfl⟩ := List.getElem?_eq_some_iff.1 h
  simp
set_option maxRecDepth 100000 in
set_option maxHeartbeats 2000000 in
theorem both1_in (k : Nat) (hk : 1 ≤ k) (l B1 B2 n c n' c' : Nat) (A A' : Option Addr) (xs zs : List UInt8) (p : Nat → Prop) (J : List UInt8 → World → Prop) (W : World)
    (hpA : 0 < n → ∀ b o, A = some ⟨b, o, none⟩ → p b) (hpA' : 0 < n' → ∀ b o, A' = some ⟨b, o, none⟩ → p b) (hn : n ≤ 1000000) (hn' : n' ≤ 1000000)
    (hY : ∀ pre (x : UInt8) W1, J pre W1 → pre.length < n + n' → YieldAt Fence.wide (k - 1) Tryd.prog l #[.int .u8 (x.toNat : Int)] W1 fun e W' => e = .returned (.bool true) ∧ J (pre ++ [x]) W' ∧ KeepZ p W1 W')
    (hc1 : W.cell? ⟨B1, 0, none⟩ = some (.slice A n c)) (hc2 : W.cell? ⟨B2, 0, none⟩ = some (.slice A' n' c')) (hA : Bs W W.heap.size A n xs) (hA' : Bs W W.heap.size A' n' zs) (h0 : J [] W) :
    CallsIn Fence.wide k Tryd.prog 57 #[.func (.yield l) #[] #[], .pointer (some ⟨B1, 0, none⟩), .pointer (some ⟨B2, 0, none⟩)] W fun e W' => (∃ v, e = .returned v) ∧ ∃ ys, ys = xs ++ zs ∧ J ys W' := by
  have HY := Lib.hid hY
  have HPA := Lib.hid hpA
  have HPA' := Lib.hid hpA'
  have HA := Lib.hid hA
  have HA' := Lib.hid hA'
  clear hY hpA hpA' hA hA'
  refine callsIn_of_wp Tryd.func57 rfl trivial ?_ rfl
  simp only [Tryd.ntmps57, List.size_toArray, List.length_cons, List.length_nil, Nat.reduceAdd, Nat.reduceSub, Array.replicate_succ, Array.replicate_zero, List.push_toArray, List.append_toArray, List.nil_append, List.cons_append]
  gi_wp2
  gi_loopw [11] (fun t wr => ∃ pre, ((t = .int .i64 0 ∧ pre = []) ∨ (t = .int .i64 1 ∧ pre = xs) ∨ (t = .int .i64 2 ∧ pre = xs ++ zs)) ∧ KeepZ p W wr ∧ J pre wr) (fun t _ => 2 - (intOf t).toNat)
  case atStart => exact ⟨[], .inl ⟨rfl, rfl⟩, KeepZ.refl _ _, h0⟩
  case round =>
    obtain ⟨pre0, hcase, hkp, hJj⟩ := hrel
    obtain ⟨wo, rfl⟩ : ∃ wo : World, wo = wr := ⟨_, rfl⟩
    have HK := Lib.hid hkp
    have HJj := Lib.hid hJj
    clear hkp hJj hc1 hc2 h0
    obtain ⟨rfl, rfl⟩ | ⟨rfl, rfl⟩ | ⟨rfl, rfl⟩ := hcase
    · have i0 := ixb0 A A' n c n' c' wo
      gi_wp2
      gi_loopw [16] (fun u wr => ∃ j : Nat, j ≤ n ∧ u = .int .i64 (j : Int) ∧ KeepZ p W wr ∧ J (xs.take j) wr) (fun u _ => n - (intOf u).toNat)
      case atStart => exact ⟨0, Nat.zero_le _, rfl, HK.out, HJj.out⟩
      case round =>
        obtain ⟨j, hj, rfl, hkp2, hJq⟩ := hrel
        obtain ⟨wi, rfl⟩ : ∃ wi : World, wi = wr := ⟨_, rfl⟩
        have HK2 := Lib.hid hkp2
        have HJq := Lib.hid hJq
        clear hkp2 hJq
        by_cases hlt : j < n
        · obtain ⟨b, o, rfl, hb2, hcc⟩ := bs_cell HA.out (by omega)
          obtain ⟨x, hx, hcx⟩ := hcc j hlt
          have hcj := HK2.out.1.cell (a := ⟨b, o + j, none⟩) (HPA.out (by omega) b o rfl) hcx
          obtain ⟨fn, tmps, assign, body, hy, hR⟩ := HY.out (xs.take j) x wi HJq.out (by rw [List.length_take]; omega)
          have HRR := Lib.hid hR
          have HT := Lib.hid (Tx.take_snoc hx)
          clear hR hcc hx hcx
          gi_wp2
          refine HRR.out.mono ?_
          rintro e w4 ⟨rfl, hJ4, hk4⟩
          have HJ4 := Lib.hid hJ4
          have HK4 := Lib.hid hk4
          clear hJ4 hk4
          gi_wp2
          go_roundw
          case rel => exact ⟨j + 1, by omega, by go_num, HK2.out.trans HK4.out, by rw [← HT.out]; exact HJ4.out⟩
          case measure => simp [intOf]; omega
        · obtain rfl : j = n := by omega
          have hJx : J xs wi := by
            have h := HJq.out
            rwa [List.take_of_length_le (by rw [HA.out.1]; exact Nat.le_refl _)] at h
          have HJX := Lib.hid hJx
          clear hJx
          gi_wp2
          go_roundw
          case rel => exact ⟨xs, .inr (.inl ⟨rfl, rfl⟩), HK2.out, HJX.out⟩
          case measure => simp [intOf]
    · have i0 := ixb1 A A' n c n' c' wo
      gi_wp2
      gi_loopw [16] (fun u wr => ∃ j : Nat, j ≤ n' ∧ u = .int .i64 (j : Int) ∧ KeepZ p W wr ∧ J (pre0 ++ zs.take j) wr) (fun u _ => n' - (intOf u).toNat)
      case atStart => exact ⟨0, Nat.zero_le _, rfl, HK.out, by simpa using HJj.out⟩
      case round =>
        obtain ⟨j, hj, rfl, hkp2, hJq⟩ := hrel
        obtain ⟨wi, rfl⟩ : ∃ wi : World, wi = wr := ⟨_, rfl⟩
        have HK2 := Lib.hid hkp2
        have HJq := Lib.hid hJq
        clear hkp2 hJq
        by_cases hlt : j < n'
        · obtain ⟨b, o, rfl, hb2, hcc⟩ := bs_cell HA'.out (by omega)
          obtain ⟨x, hx, hcx⟩ := hcc j hlt
          have hcj := HK2.out.1.cell (a := ⟨b, o + j, none⟩) (HPA'.out (by omega) b o rfl) hcx
          obtain ⟨fn, tmps, assign, body, hy, hR⟩ := HY.out (pre0 ++ zs.take j) x wi HJq.out (by rw [List.length_append, List.length_take, HA.out.1]; omega)
          have HRR := Lib.hid hR
          have HT := Lib.hid (Tx.take_snoc hx)
          clear hR hcc hx hcx
          gi_wp2
          refine HRR.out.mono ?_
          rintro e w4 ⟨rfl, hJ4, hk4⟩
          have HJ4 := Lib.hid hJ4
          have HK4 := Lib.hid hk4
          clear hJ4 hk4
          gi_wp2
          go_roundw
          case rel => exact ⟨j + 1, by omega, by go_num, HK2.out.trans HK4.out, by rw [← HT.out, ← List.append_assoc]; exact HJ4.out⟩
          case measure => simp [intOf]; omega
        · obtain rfl : j = n' := by omega
          have hJx : J (pre0 ++ zs) wi := by
            have h := HJq.out
            rwa [List.take_of_length_le (by rw [HA'.out.1]; exact Nat.le_refl _)] at h
          have HJX := Lib.hid hJx
          clear hJx
          gi_wp2
          go_roundw
          case rel => exact ⟨pre0 ++ zs, .inr (.inr ⟨rfl, rfl⟩), HK2.out, HJX.out⟩
          case measure => simp [intOf]
    · gi_wp2
      go_end0
      exact ⟨⟨_, rfl⟩, _, rfl, HJj.out⟩
theorem both_stops (k : Nat) (hk : 1 ≤ k) (B1 B2 n c n' c' : Nat) (A A' : Option Addr) (xs zs : List UInt8) (p : Nat → Prop) (w : World)
    (hB1 : B1 < w.heap.size) (hB2 : B2 < w.heap.size) (hpA : 0 < n → ∀ b o, A = some ⟨b, o, none⟩ → p b) (hpA' : 0 < n' → ∀ b o, A' = some ⟨b, o, none⟩ → p b) (hn : n ≤ 1000000) (hn' : n' ≤ 1000000)
    (hc1 : w.cell? ⟨B1, 0, none⟩ = some (.slice A n c)) (hc2 : w.cell? ⟨B2, 0, none⟩ = some (.slice A' n' c')) (hA : Bs w w.heap.size A n xs) (hA' : Bs w w.heap.size A' n' zs) :
    SeqS Fence.wide k Tryd.prog 57 #[.pointer (some ⟨B1, 0, none⟩), .pointer (some ⟨B2, 0, none⟩)] (fun x : UInt8 => #[.int .u8 (x.toNat : Int)]) (KeepZ p) (fun _ _ => False) (fun _ _ _ => True) (fun ys => ys = xs ++ zs) (n + n') w := fun l J W hW hJ hSt hY h0 =>
  both1_in k hk l B1 B2 n c n' c' A A' xs zs p J W hpA hpA' hn hn' (fun pre x W1 hj hl => hY pre x W1 hj trivial hl) ((hW.cell (p := ⟨B1, 0, none⟩) hB1).trans hc1) ((hW.cell (p := ⟨B2, 0, none⟩) hB2).trans hc2) ((hA.below hW).more hW.size) ((hA'.below hW).more hW.size) h0
end Go.Proofs.YtdcbafddnegpaaaDoor
