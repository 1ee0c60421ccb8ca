/- Package prefix: bytes of one's own; the iterator of the bytes behind the first one; Upper. -/
import Derived.Test.YtmckopjchpgcpaaPxY
import Derived.Test.YtmckopjchpgcpaaPxD
import Derived.Test.YtmckopjchpgcpaaGJump
import Derived.BigQuiet
namespace Go.Proofs.Ytmckopjchpgcpaa
open Go.RowKit Px Go.Shelf
set_option linter.unusedVariables false
set_option linter.unusedSimpArgs false
attribute [local go_sem] Oper.semAt_some

theorem x_own (A : Option Addr) (n c : Nat) (xs : List UInt8) (w : World) (hA : Bs w w.heap.size A n xs) (hAc : A = none → c = 0) (hn : n ≤ 1000000) :
    Calls Try.prog 24 #[.slice A n c] w fun e w' => ∃ A' c', e = .returned (.slice A' n c') ∧ HandS w' w.heap.size A' n c' xs ∧ Below w.heap.size w w' := by
  have HA := Lib.hid hA
  have HAc := Lib.hid hAc
  clear hA hAc
  obtain ⟨i0, hi, hz0, hz1, hz2⟩ := info_parts info_u8
  have hinf := Lib.hid (And.intro hi (And.intro hz0 (And.intro hz1 hz2)))
  clear hi hz0 hz1 hz2
  go_enter Try.func24, Try.ntmps24
  go_wp2_with (at_builtin; refine wpList_append_bytes _ rfl (.const (.slice none 0 0)) (.tmp 3) 22 rfl w.heap.size 5 i0 Try.underlying22 hinf.out.1 hinf.out.2.1 hinf.out.2.2.1 hinf.out.2.2.2 _ [] rfl (OwnB.nil_ w _ _) _ A n c xs rfl HA.out HAc.out (by simp; omega) (Nat.le_refl _) ?_; intro v1 w1 hown1 hb1; obtain ⟨A1, c1, rfl, hh⟩ := hown1.handS (n := n) (by simpa using HA.out.1))
  go_ret
  exact ⟨_, _, rfl, by simpa using hh, hb1⟩
namespace Px
theorem pre_step {ys : List UInt8} {j : Nat} {y : UInt8} (h : ys[j]? = some y) : (pairsT 0 ys).take j ++ [(y, j * 7)] = (pairsT 0 ys).take (j + 1) := by
  have h1 := pairsT_get ys 0 j y h
  rw [Nat.zero_add] at h1
  rw [List.take_add_one, h1]
  rfl
end Px
set_option maxRecDepth 100000 in
set_option maxHeartbeats 1000000 in
theorem tail1_in (k : Nat) (hk : 1 ≤ k) (l B1 n c : Nat) (A : Option Addr) (xs : List UInt8) (p : Nat → Prop) (J Jx : List (UInt8 × Nat) → World → Prop) (W : World)
    (hp1 : p B1) (hpA : ∀ b o, A = some ⟨b, o, none⟩ → p b) (hn : 1 ≤ n) (hnc : n ≤ c) (hn2 : n ≤ 1000000)
    (hY : ∀ pre (x : UInt8 × Nat) W1, J pre W1 → pre.length < n → YieldAt Fence.wide (k - 1) Try.prog l #[.int .u8 (x.1.toNat : Int), .int .i64 (x.2 : Int)] W1 fun e W' =>
      (e = .returned (.bool true) ∧ J (pre ++ [x]) W' ∧ KeepC p W1 W') ∨ (e = .returned (.bool false) ∧ Jx (pre ++ [x]) W'))
    (hc : W.cell? ⟨B1, 0, none⟩ = some (.slice A n c)) (hA : Bs W W.heap.size A n xs) (h0 : J [] W) :
    CallsIn Fence.wide k Try.prog 27 #[.func (.yield l) #[] #[], .pointer (some ⟨B1, 0, none⟩)] W fun e W' => (∃ v, e = .returned v) ∧
      ((∃ ys, ys = pairsT 0 (xs.drop 1) ∧ J ys W') ∨ (∃ pre, pre <+: pairsT 0 (xs.drop 1) ∧ Jx pre W')) := by
  obtain ⟨b, o, rfl, hb, hcc⟩ := bs_cell hA (by omega)
  obtain ⟨m, rfl⟩ : ∃ m, n = m + 1 := ⟨n - 1, by omega⟩
  have hlen := hA.1
  have HY := Lib.hid hY
  have HP := Lib.hid hp1
  have HPA := Lib.hid (hpA b o rfl)
  have HC := Lib.hid hc
  have hl1 : (xs.drop 1).length = m := by rw [List.length_drop, hlen]; omega
  have hcc2 : ∀ j, j < m → ∃ x, (xs.drop 1)[j]? = some x ∧ W.cell? ⟨b, o + 1 + j, none⟩ = some (.int .u8 (x.toNat : Int)) := by
    intro j hj
    obtain ⟨x, h1, h2⟩ := hcc (j + 1) (by omega)
    refine ⟨x, by rw [List.getElem?_drop, Nat.add_comm]; exact h1, ?_⟩
    rw [show o + 1 + j = o + (j + 1) by omega]
    exact h2
  have HCC := Lib.hid hcc2
  clear hcc2
  generalize xs.drop 1 = ys at *
  have HL := Lib.hid hl1
  clear hY hp1 hpA hA hcc hlen hl1
  obtain ⟨A2, hA2⟩ : ∃ A2, (if c = 1 then some (⟨b, o, none⟩ : Addr) else some ⟨b, o + 1, none⟩) = A2 := ⟨_, rfl⟩
  have HA2 := Lib.hid hA2
  refine callsIn_of_wp Try.func27 rfl trivial ?_ rfl
  simp only [Try.ntmps27, List.size_toArray, List.length_cons, List.length_nil, Nat.reduceAdd, Nat.reduceSub, Array.replicate_succ, Array.replicate_zero, List.push_toArray, List.append_toArray, List.nil_append, List.cons_append]
  have s1 : (1 : Int) ≤ ((m + 1 : Nat) : Int) := by omega
  have s2 : (1 : Int) ≤ (c : Int) := by omega
  gi_wp2
  clear hA2 s1 s2
  gi_loopw [8] (fun t wr => ∃ j : Nat, j ≤ m ∧ t = .int .i64 (j : Int) ∧ KeepC p W wr ∧ J ((pairsT 0 ys).take j) wr) (fun t _ => m - (intOf t).toNat)
  case atStart => exact ⟨0, Nat.zero_le _, rfl, KeepC.refl _ _, by simpa using h0⟩
  case round =>
    obtain ⟨j, hj, rfl, hkp, hJj⟩ := hrel
    have HK := Lib.hid hkp
    have HJj := Lib.hid hJj
    clear hkp hJj hc
    by_cases hlt : j < m
    · have e2 : A2 = some ⟨b, o + 1, none⟩ := by rw [← HA2.out, if_neg (by omega)]
      subst e2
      obtain ⟨x, hx, hcx⟩ := HCC.out j hlt
      have hcj := HK.out.cell (a := ⟨b, o + 1 + j, none⟩) HPA.out hcx
      have HST := Lib.hid (pre_step hx)
      obtain ⟨fn, tmps, assign, body, hy, hR⟩ := HY.out ((pairsT 0 ys).take j) (x, j * 7) wr HJj.out (by rw [List.length_take, pairsT_length, HL.out]; omega)
      simp only at hy
      rw [show ((j * 7 : Nat) : Int) = (j : Int) * 7 from by omega] at hy
      rw [HST.out] at hR
      have HR := Lib.hid hR
      clear hR hx hcx
      gi_wp2
      refine HR.out.mono ?_
      rintro e W4 (⟨rfl, hJ4, hk4⟩ | ⟨rfl, hJx4⟩)
      · gi_wp2
        go_roundw
        case rel => exact ⟨j + 1, by omega, by go_num, HK.out.trans hk4, hJ4⟩
        case measure => simp [intOf]; omega
      · gi_wp2
        refine bodyPost_ret (results_none rfl _ _ _) rfl ?_
        exact ⟨⟨_, rfl⟩, .inr ⟨_, List.take_prefix _ _, hJx4⟩⟩
    · obtain rfl : j = m := by omega
      gi_wp2
      go_end0
      refine ⟨⟨_, rfl⟩, .inl ⟨_, rfl, ?_⟩⟩
      have h := HJj.out
      rw [List.take_of_length_le (by rw [pairsT_length, HL.out]; exact Nat.le_refl _)] at h
      exact h
/-- The bytes behind the first one, as an iterator's word. -/
theorem tail_stops (k : Nat) (hk : 1 ≤ k) (B1 n c : Nat) (A : Option Addr) (xs : List UInt8) (p : Nat → Prop) (w : World)
    (hB : B1 < w.heap.size) (hp1 : p B1) (hpA : ∀ b o, A = some ⟨b, o, none⟩ → p b) (hn : 1 ≤ n) (hnc : n ≤ c) (hn2 : n ≤ 1000000)
    (hc : w.cell? ⟨B1, 0, none⟩ = some (.slice A n c)) (hA : Bs w w.heap.size A n xs) :
    SeqStopsK Fence.wide k Try.prog 27 #[.pointer (some ⟨B1, 0, none⟩)] (fun x : UInt8 × Nat => #[.int .u8 (x.1.toNat : Int), .int .i64 (x.2 : Int)]) (KeepC p) (fun ys => ys = pairsT 0 (xs.drop 1)) (fun pre => pre <+: pairsT 0 (xs.drop 1)) n w := fun l J Jx W hW _ _ hY h0 =>
  tail1_in k hk l B1 n c A xs p J Jx W hp1 hpA hn hnc hn2 hY ((hW.cell (p := ⟨B1, 0, none⟩) hB).trans hc) ((hA.below hW).more hW.size) h0
theorem x_upper_no (A : Option Addr) (n c : Nat) (k : Int) (w : World) (h : ¬ (1 ≤ k ∧ k ≤ 8)) : Calls Try.prog 12 #[.slice A n c, .int .i64 k] w fun e w' => e = .returned (.tuple #[.int .u8 0, .int .i64 2]) ∧ Below w.heap.size w w' := by
  go_enter Try.func12, Try.ntmps12
  go_wp2
  refine wp_scope_forward 0 rfl ?_
  go_wp2_with (go_at_call 22; (with_reducible refine (x_begun_no A n c k _ h).mono ?_); rintro e w' ⟨rfl, rfl⟩)
  go_step3
  refine ⟨rfl, ?_⟩
  go_wp2
  rw [jump_ret]
  go_ret2
  exact ⟨rfl, Below.refl _ _⟩
theorem x_upper_short (A : Option Addr) (c : Nat) (k : Int) (w : World) (h : 1 ≤ k ∧ k ≤ 8) : Calls Try.prog 12 #[.slice A 0 c, .int .i64 k] w fun e w' => e = .returned (.tuple #[.int .u8 0, .int .i64 10]) ∧ Below w.heap.size w w' := by
  go_enter Try.func12, Try.ntmps12
  go_wp2
  refine wp_scope_forward 0 rfl ?_
  go_wp2_with (go_at_call 22; (with_reducible refine (x_begun_yes A 0 c k _ h).mono ?_); rintro e w' ⟨rfl, rfl⟩; rw [if_pos rfl])
  go_step3
  refine ⟨rfl, ?_⟩
  go_wp2
  rw [jump_ret]
  go_ret2
  exact ⟨rfl, Below.refl _ _⟩
theorem x_upper_yes (A : Option Addr) (n c k : Nat) (x : UInt8) (ys : List UInt8) (w : World) (hA : Bs w w.heap.size A n (x :: ys)) (h1 : 1 ≤ k) (h8 : k ≤ 8) : Calls Try.prog 12 #[.slice A n c, .int .i64 (k : Int)] w fun e w' => e = .returned (.tuple #[.int .u8 ((x.toNat / 2 ^ k * 2 ^ k : Nat) : Int), .int .i64 0]) ∧ Below w.heap.size w w' := by
  have hl := hA.1
  rw [List.length_cons] at hl
  have hn0 : 0 < n := by omega
  have hn1 : n ≠ 0 := by omega
  have s0 : (0 : Int) < (n : Int) := by omega
  obtain ⟨b, o, rfl, hb, hcc⟩ := bs_cell hA (by omega)
  obtain ⟨x', hx', c0⟩ := hcc 0 (by omega)
  simp only [List.getElem?_cons_zero, Option.some.injEq] at hx'
  subst hx'
  rw [Nat.add_zero] at c0
  have HAN := Lib.hid (andNot_u8 x.toNat k x.toNat_lt h8)
  clear hA hcc hb hl
  go_enter Try.func12, Try.ntmps12
  go_wp2
  refine wp_scope_forward 0 rfl ?_
  go_wp2_with (go_at_call 22; (with_reducible refine (x_begun_yes _ n c (k : Int) _ ⟨by omega, by omega⟩).mono ?_); rintro e w' ⟨rfl, rfl⟩; rw [if_neg hn1])
  refine wp_then_only ?_
  go_region_with (go_at_call 19; (with_reducible refine (x_full k _ h1 h8).mono ?_); rintro e w' ⟨rfl, rfl⟩)
  all_goals
    simp [Act.put]
    go_wp2
    rw [jump_ret]
    go_ret2
    exact ⟨by rw [HAN.out]; rfl, (Below.refl _ _).drew⟩
end Go.Proofs.Ytmckopjchpgcpaa
