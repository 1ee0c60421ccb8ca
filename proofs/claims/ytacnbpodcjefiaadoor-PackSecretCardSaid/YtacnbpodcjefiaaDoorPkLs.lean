/- PackSecret: the law. -/
import Derived.Test.YtacnbpodcjefiaaDoorPkDs
import Derived.Test.YtacnbpodcjefiaaDoorUpOk
namespace Go.Proofs.YtacnbpodcjefiaaDoor
open Go.RowKit Go.Shelf Px Tx Tb Up Pk
set_option linter.unusedVariables false
set_option linter.unusedSimpArgs false
attribute [local go_sem] Oper.semAt_some
namespace Pk
def anyB (l : List Fd) : Bool := l.any secB
theorem any_snoc {l : List Fd} {j : Nat} {x : Fd} (h : l[j]? = some x) : anyB (l.take (j + 1)) = (anyB (l.take j) || secB x) := by
  unfold anyB
  rw [← take_snoc h, List.any_append]
  simp
theorem any_keep {m : Int} {l : List Fd} (h : anyB (keep m l) = true) : anyB l = true := by
  unfold anyB keep at *
  rw [List.any_eq_true] at h ⊢
  obtain ⟨x, hx, hs⟩ := h
  exact ⟨x, List.mem_of_mem_take hx, hs⟩
theorem any_fX {M : Int} {xs : List Fd} {f : Fd} (h : anyB (fX M xs f) = true) : anyB xs = true := by
  unfold fX at h
  split at h
  · exact h
  · split at h
    · rename_i hw
      have h1 := any_keep h
      unfold anyB at h1 ⊢
      rw [List.any_cons] at h1
      have hs : secB f = false := by
        cases hs : secB f with
        | false => rfl
        | true => unfold wy at hw; rw [hs] at hw; simp at hw
      rw [hs, Bool.false_or] at h1
      exact h1
    · exact h
theorem any_kX {M : Int} : ∀ {l xs : List Fd}, anyB (kX M xs l) = true → anyB xs = true := by
  intro l
  induction l with
  | nil => intro xs h; exact h
  | cons f l ih => intro xs h; exact any_fX (ih h)
end Pk
set_option maxRecDepth 100000 in
set_option maxHeartbeats 8000000 in
theorem ps_g (M : Int) (A : Option Addr) (n c : Nat) (xs : List Fd) (LA : Option Addr) (ln lc : Nat) (ls : List Fd) (w : World) (hV : EnvF w [fF LA ln ls, fF A n xs, stF, rwF, mvF] []) (HG : Hid (∀ w0 : World, Fs w0 w0.heap.size A n xs → Fs w0 w0.heap.size LA ln ls → Calls Tryd.prog 6 #[.agg #[.int .i64 M, .slice A n c], .slice LA ln lc] w0 fun e w' => e = .returned (.bool true) ∧ Below w0.heap.size w0 w')) :
    Calls Tryd.prog 3 #[.agg #[.int .i64 M, .slice A n c], .slice LA ln lc] w fun e w' => e = .returned (.bool true) ∧ Below w.heap.size w w' := by
  have K0 := Lib.hid ((hV).boxg 24 #[.int .i64 M, .slice A n c] w.heap.size (by simp))
  have G0 := Lib.hid ((Below.refl w.heap.size w).alloc (by simp) (.cells #[.int .i64 M, .slice A n c] 24))
  clear hV
  go_enter Tryd.func3, Tryd.ntmps3
  go_wp2_with (first
    | go_skip
    | (refine at_load 24 (.tmp 2) (by rfl) ?_; refine wpListG_row (by rfl) 24 (.tmp 2) (by rfl) w.heap.size (by rfl) 24 #[.int .i64 M, .slice A n c] _ (K0.out.row 0 rfl) Tryd.underlying24 (by rfl) infoc_T ?_)
    | (go_at_call 6; (with_reducible refine (HG.out _ (K0.out.fs (A := A) (n := n) (xs := xs) (by simp)) (K0.out.fs (A := LA) (n := ln) (xs := ls) (by simp))).mono ?_); rintro e w1 ⟨rfl, hb⟩; have K1 := Lib.hid (K0.out.on hb); have G1 := Lib.hid (below_step G0.out hb); clear hb K0 G0)
    | (go_at_call 8; (with_reducible refine (wakes11 _ K1.out (by simp) (by simp) (by simp)).mono ?_); rintro e w2 ⟨rfl, hb⟩; have K2 := Lib.hid (K1.out.on hb); have G2 := Lib.hid (below_step G1.out hb); clear hb K1 G1))
  go_ret
  exact ⟨rfl, G2.out⟩
set_option maxRecDepth 100000 in
set_option maxHeartbeats 8000000 in
theorem ps_r (M : Int) (A : Option Addr) (n c : Nat) (xs : List Fd) (LA : Option Addr) (ln lc : Nat) (ls : List Fd) (w : World) (hV : EnvF w [fF LA ln ls, fF A n xs, stF, rwF, mvF] []) (HG : Hid (∀ w0 : World, Fs w0 w0.heap.size A n xs → Fs w0 w0.heap.size LA ln ls → Calls Tryd.prog 6 #[.agg #[.int .i64 M, .slice A n c], .slice LA ln lc] w0 fun e w' => e = .returned (.bool false) ∧ Below w0.heap.size w0 w')) (HRT : Hid (∀ w0 : World, Fs w0 w0.heap.size A n xs → Calls Tryd.prog 7 #[.agg #[.int .i64 M, .slice A n c]] w0 fun e w' => e = .returned (.bool false) ∧ Below w0.heap.size w0 w')) :
    Calls Tryd.prog 3 #[.agg #[.int .i64 M, .slice A n c], .slice LA ln lc] w fun e w' => e = .returned (.bool true) ∧ Below w.heap.size w w' := by
  have K0 := Lib.hid ((hV).boxg 24 #[.int .i64 M, .slice A n c] w.heap.size (by simp))
  have G0 := Lib.hid ((Below.refl w.heap.size w).alloc (by simp) (.cells #[.int .i64 M, .slice A n c] 24))
  clear hV
  go_enter Tryd.func3, Tryd.ntmps3
  go_wp2_with (first
    | go_skip
    | (refine at_load 24 (.tmp 2) (by rfl) ?_; refine wpListG_row (by rfl) 24 (.tmp 2) (by rfl) w.heap.size (by rfl) 24 #[.int .i64 M, .slice A n c] _ (K0.out.row 0 rfl) Tryd.underlying24 (by rfl) infoc_T ?_)
    | (go_at_call 6; (with_reducible refine (HG.out _ (K0.out.fs (A := A) (n := n) (xs := xs) (by simp)) (K0.out.fs (A := LA) (n := ln) (xs := ls) (by simp))).mono ?_); rintro e w1 ⟨rfl, hb⟩; have K1 := Lib.hid (K0.out.on hb); have G1 := Lib.hid (below_step G0.out hb); clear hb K0 G0)
    | (refine at_load 24 (.tmp 2) (by rfl) ?_; refine wpListG_row (by rfl) 24 (.tmp 2) (by rfl) w.heap.size (by rfl) 24 #[.int .i64 M, .slice A n c] _ (K1.out.row 0 rfl) Tryd.underlying24 (by rfl) infoc_T ?_)
    | (go_at_call 7; (with_reducible refine (HRT.out _ (K1.out.fs (A := A) (n := n) (xs := xs) (by simp))).mono ?_); rintro e w2 ⟨rfl, hb⟩; have K2 := Lib.hid (K1.out.on hb); have G2 := Lib.hid (below_step G1.out hb); clear hb K1 G1)
    | (go_at_call 8; (with_reducible refine (wakes11 _ K2.out (by simp) (by simp) (by simp)).mono ?_); rintro e w3 ⟨rfl, hb⟩; have K3 := Lib.hid (K2.out.on hb); have G3 := Lib.hid (below_step G2.out hb); clear hb K2 G2))
  go_ret
  exact ⟨rfl, G3.out⟩
theorem Pk.f_whole {M : Int} {xs : List Fd} {f : Fd} (h : findB xs f = true) : fB M xs f = putL (findI xs f : Int) (7 : Nat) 128 ∧ fX M xs f = xs := by
  unfold fB fX
  rw [if_pos h, if_pos h]
  exact ⟨rfl, rfl⟩
set_option maxRecDepth 100000 in
set_option maxHeartbeats 8000000 in
theorem ps_main (M : Int) (A : Option Addr) (n c : Nat) (xs : List Fd) (LA : Option Addr) (ln lc : Nat) (ls : List Fd) (w : World) (hV : EnvF w [fF LA ln ls, fF A n xs, stF, rwF, mvF] []) (HG : Hid (∀ w0 : World, Fs w0 w0.heap.size A n xs → Fs w0 w0.heap.size LA ln ls → Calls Tryd.prog 6 #[.agg #[.int .i64 M, .slice A n c], .slice LA ln lc] w0 fun e w' => e = .returned (.bool false) ∧ Below w0.heap.size w0 w')) (HRT : Hid (∀ w0 : World, Fs w0 w0.heap.size A n xs → Calls Tryd.prog 7 #[.agg #[.int .i64 M, .slice A n c]] w0 fun e w' => e = .returned (.bool true) ∧ Below w0.heap.size w0 w')) {k1 q : Nat} {L : List UInt8} {Y : List Fd} (HN : Hid (A = none → c = 0)) (Hn : Hid (n ≤ 1000000)) (Hn1 : Hid (n ≤ 1000)) (Hxn : Hid (xs.length = n)) (hr : Hid (rightB M xs = true)) (hz : Hid (full ls ≤ 7000)) (hF1 : Hid (full xs ≤ 1000000)) (hB1 : Hid (kB M xs ls = L)) (hY1 : Hid (kX M xs ls = Y)) (hk1 : Hid (L.length = k1)) (hq1 : Hid (Y.length = q)) (Hq2 : Hid (q ≤ 1000)) (Hl1 : Hid (ln ≤ 1000)) (hsc : Hid (Pk.anyB Y = true → Pk.anyB xs = true)) :
    Calls Tryd.prog 3 #[.agg #[.int .i64 M, .slice A n c], .slice LA ln lc] w fun e w' => e = .returned (.bool true) ∧ Below w.heap.size w w' := by
  have K0 := Lib.hid ((hV).boxg 24 #[.int .i64 M, .slice A n c] w.heap.size (by simp))
  have G0 := Lib.hid ((Below.refl w.heap.size w).alloc (by simp) (.cells #[.int .i64 M, .slice A n c] 24))
  clear hV
  go_enter Tryd.func3, Tryd.ntmps3
  go_wp2_with (first
    | go_skip
    | (refine at_load 24 (.tmp 2) (by rfl) ?_; refine wpListG_row (by rfl) 24 (.tmp 2) (by rfl) w.heap.size (by rfl) 24 #[.int .i64 M, .slice A n c] _ (K0.out.row 0 rfl) Tryd.underlying24 (by rfl) infoc_T ?_)
    | (go_at_call 6; (with_reducible refine (HG.out _ (K0.out.fs (A := A) (n := n) (xs := xs) (by simp)) (K0.out.fs (A := LA) (n := ln) (xs := ls) (by simp))).mono ?_); rintro e w1 ⟨rfl, hb⟩; have K1 := Lib.hid (K0.out.on hb); have G1 := Lib.hid (below_step G0.out hb); clear hb K0 G0)
    | (refine at_load 24 (.tmp 2) (by rfl) ?_; refine wpListG_row (by rfl) 24 (.tmp 2) (by rfl) w.heap.size (by rfl) 24 #[.int .i64 M, .slice A n c] _ (K1.out.row 0 rfl) Tryd.underlying24 (by rfl) infoc_T ?_)
    | (go_at_call 7; (with_reducible refine (HRT.out _ (K1.out.fs (A := A) (n := n) (xs := xs) (by simp))).mono ?_); rintro e w2 ⟨rfl, hb⟩; have K2 := Lib.hid (K1.out.on hb); have G2 := Lib.hid (below_step G1.out hb); clear hb K1 G1)
    | (refine at_load 24 (.tmp 2) (by rfl) ?_; refine wpListG_row (by rfl) 24 (.tmp 2) (by rfl) w.heap.size (by rfl) 24 #[.int .i64 M, .slice A n c] _ (K2.out.row 0 rfl) Tryd.underlying24 (by rfl) infoc_T ?_)
    | (go_at_call 9; (with_reducible refine (p_Block (A := A) (n := n) (c := c) (xs := xs) (ls := ls) LA ln lc _ K2.out (by simp) HN.out (by simp) (by simp) (by simp) (by simp) hr.out hz.out hB1.out hY1.out hk1.out hq1.out).mono ?_); rintro e w3 ⟨A1, c1, A2, c2, rfl, hb, hE, HA10⟩; have K3 := Lib.hid hE; have HA1 := Lib.hid HA10; have G3 := Lib.hid (below_step G2.out hb); clear hb hE HA10 K2 G2; have K3b := Lib.hid (K3.out.boxg 24 #[.int .i64 0, .slice none 0 0] w3.heap.size rfl); have hz3 : w.heap.size ≤ w3.heap.size := G3.out.size; have G3b := Lib.hid (G3.out.alloc hz3 (.cells #[.int .i64 0, .slice none 0 0] 24)); clear K3 G3)
    | (refine at_store 24 (.tmp 6) (.tmp 34) (by rfl) ?_; refine wpList_put (by rfl) 24 (.tmp 6) (.tmp 34) (by rfl) w3.heap.size 0 (.agg #[.int .i64 M, .slice A2 q c2]) (by rfl) (by rfl) 24 #[.int .i64 0, .slice none 0 0] #[.int .i64 M, .slice A2 q c2] (K3b.out.row 0 rfl) (by simp [Value.cells]) (by kernel_rfl) infoc_T (by kernel_rfl) ?_; intro w4 hrow hoth hz hbl; have K4 := Lib.hid (K3b.out.turn 0 rfl hrow hoth hz); have G4 := Lib.hid (hbl _ _ (by omega) G3b.out); clear hrow hoth hz hbl K3b G3b))
  go_loopw [8, 10] (fun u v wr => ∃ j : Nat, j ≤ n ∧ u = .bool (Pk.anyB (xs.take j)) ∧ v = .int .i64 (j : Int) ∧ EnvF wr [fF A2 q Y, fF LA ln ls, fF A n xs, stF, rwF, mvF] [(w3.heap.size, #[.int .i64 M, .slice A2 q c2], 24), (w.heap.size, #[.int .i64 M, .slice A n c], 24)] ∧ Below w.heap.size w wr) (fun _ v _ => n - (intOf v).toNat)
  case atStart => exact ⟨0, Nat.zero_le _, rfl, rfl, K4.out.sub (fun y hy => by simp only [List.mem_cons, List.not_mem_nil, or_false] at hy ⊢; rcases hy with rfl | rfl | rfl | rfl | rfl | rfl <;> simp) (List.Sublist.refl _), G4.out⟩
  case round =>
    obtain ⟨j, hj, rfl, rfl, hk0, hbel⟩ := hrel
    have KR := Lib.hid hk0
    have GR := Lib.hid hbel
    have r1 := (cells2_row (hk0.row 1 rfl)).2
    have hN1 := Hn1.out
    clear hbel K4 G4
    by_cases hlt : j < n
    · obtain ⟨b, o, hAe, hb, hcc⟩ := fs_cell (hk0.fs (A := A) (n := n) (xs := xs) (by simp)) (by omega)
      obtain ⟨x, hx, h1, h2⟩ := hcc j hlt
      rw [← Nat.add_assoc] at h2
      rw [hAe] at r1
      have HS1 := Lib.hid (Pk.any_snoc hx)
      clear hcc hk0 hx
      have HAE := Lib.hid hAe
      clear hAe
      obtain ⟨ah, hah⟩ : ∃ ah, Pk.anyB (xs.take j) = ah := ⟨_, rfl⟩
      rw [hah] at HS1 ⊢
      clear hah
      cases ah with
      | true =>
        go_wp2_with (first
          | go_skip
          | ((first | (with_reducible refine wpList_skip (o := { dst := some 45, op := _, type := _, pos := _, after := _, guard := _ }) (by kernel_rfl) ?_) | (with_reducible refine wpList_skip (o := { dst := some 46, op := _, type := _, pos := _, after := _, guard := _ }) (by kernel_rfl) ?_) | (with_reducible refine wpList_skip (o := { dst := some 47, op := _, type := _, pos := _, after := _, guard := _ }) (by kernel_rfl) ?_) | (with_reducible refine wpList_skip (o := { dst := some 48, op := _, type := _, pos := _, after := _, guard := _ }) (by kernel_rfl) ?_) | (with_reducible refine wpList_skip (o := { dst := some 49, op := _, type := _, pos := _, after := _, guard := _ }) (by kernel_rfl) ?_) | (with_reducible refine wpList_skip (o := { dst := some 50, op := _, type := _, pos := _, after := _, guard := _ }) (by kernel_rfl) ?_)); try simp only [Act.put, List.setIfInBounds_toArray, List.set_cons_zero, List.set_cons_succ]))
        go_roundw
        case rel => exact ⟨j + 1, by omega, by rw [HS1.out, Bool.true_or], by go_num, KR.out, GR.out⟩
        case measure => simp [intOf]; omega
      | false =>
        go_wp2_with (first
          | go_skip
          | (go_at_call 10; (with_reducible refine (c_Secret x.1 x.2 _).mono ?_); rintro e w71 ⟨rfl, hb⟩; have K71 := Lib.hid (KR.out.on hb); have B71 := Lib.hid (below_step GR.out hb); clear hb KR GR r1 h1 h2))
        go_roundw
        case rel => exact ⟨j + 1, by omega, by rw [HS1.out, Bool.false_or], by go_num, K71.out, B71.out⟩
        case measure => simp [intOf]; omega
    · obtain rfl : n = j := by omega
      clear hk0
      go_wp2
      have KX := KR
      have GX := GR
      clear KR GR r1
      obtain ⟨wo, hwo⟩ : ∃ wo : World, wo = wr := ⟨_, rfl⟩
      subst hwo
      go_loopw [9, 11] (fun u v wr => ∃ j : Nat, j ≤ q ∧ u = .bool (Pk.anyB (Y.take j)) ∧ v = .int .i64 (j : Int) ∧ EnvF wr [fF A2 q Y, fF LA ln ls, fF A n xs, stF, rwF, mvF] [(w3.heap.size, #[.int .i64 M, .slice A2 q c2], 24), (w.heap.size, #[.int .i64 M, .slice A n c], 24)] ∧ Below w.heap.size w wr) (fun _ v _ => q - (intOf v).toNat)
      case atStart => exact ⟨0, Nat.zero_le _, rfl, rfl, KX.out, GX.out⟩
      case round =>
        obtain ⟨j, hj, rfl, rfl, hk0, hbel⟩ := hrel
        have KR := Lib.hid hk0
        have GR := Lib.hid hbel
        have r1 := (cells2_row (hk0.row 0 rfl)).2
        have hN1 := Hq2.out
        clear hbel KX GX
        by_cases hlt : j < q
        · obtain ⟨b, o, hAe, hb, hcc⟩ := fs_cell (hk0.fs (A := A2) (n := q) (xs := Y) (by simp)) (by omega)
          obtain ⟨x, hx, h1, h2⟩ := hcc j hlt
          rw [← Nat.add_assoc] at h2
          rw [hAe] at r1
          have HS1 := Lib.hid (Pk.any_snoc hx)
          clear hcc hk0 hx
          have HAE := Lib.hid hAe
          clear hAe
          obtain ⟨ah, hah⟩ : ∃ ah, Pk.anyB (Y.take j) = ah := ⟨_, rfl⟩
          rw [hah] at HS1 ⊢
          clear hah
          cases ah with
          | true =>
            go_wp2_with (first
              | go_skip
              | ((first | (with_reducible refine wpList_skip (o := { dst := some 61, op := _, type := _, pos := _, after := _, guard := _ }) (by kernel_rfl) ?_) | (with_reducible refine wpList_skip (o := { dst := some 62, op := _, type := _, pos := _, after := _, guard := _ }) (by kernel_rfl) ?_) | (with_reducible refine wpList_skip (o := { dst := some 63, op := _, type := _, pos := _, after := _, guard := _ }) (by kernel_rfl) ?_) | (with_reducible refine wpList_skip (o := { dst := some 64, op := _, type := _, pos := _, after := _, guard := _ }) (by kernel_rfl) ?_) | (with_reducible refine wpList_skip (o := { dst := some 65, op := _, type := _, pos := _, after := _, guard := _ }) (by kernel_rfl) ?_) | (with_reducible refine wpList_skip (o := { dst := some 66, op := _, type := _, pos := _, after := _, guard := _ }) (by kernel_rfl) ?_)); try simp only [Act.put, List.setIfInBounds_toArray, List.set_cons_zero, List.set_cons_succ]))
            go_roundw
            case rel => exact ⟨j + 1, by omega, by rw [HS1.out, Bool.true_or], by go_num, KR.out, GR.out⟩
            case measure => simp [intOf]; omega
          | false =>
            go_wp2_with (first
              | go_skip
              | (go_at_call 10; (with_reducible refine (c_Secret x.1 x.2 _).mono ?_); rintro e w71 ⟨rfl, hb⟩; have K71 := Lib.hid (KR.out.on hb); have B71 := Lib.hid (below_step GR.out hb); clear hb KR GR r1 h1 h2))
            go_roundw
            case rel => exact ⟨j + 1, by omega, by rw [HS1.out, Bool.false_or], by go_num, K71.out, B71.out⟩
            case measure => simp [intOf]; omega
        · obtain rfl : q = j := by omega
          clear hk0
          have e1 : Pk.anyB (xs.take n) = Pk.anyB xs := by rw [List.take_of_length_le (by rw [Hxn.out]; exact Nat.le_refl _)]
          have e2 : Pk.anyB (Y.take q) = Pk.anyB Y := by rw [List.take_of_length_le (by rw [hq1.out]; exact Nat.le_refl _)]
          rw [e1, e2]
          clear e1 e2
          have hsec := hsc.out
          obtain ⟨ah, hah⟩ : ∃ ah, Pk.anyB xs = ah := ⟨_, rfl⟩
          obtain ⟨bh, hbh⟩ : ∃ bh, Pk.anyB Y = bh := ⟨_, rfl⟩
          rw [hah, hbh] at hsec ⊢
          clear hah hbh
          have hway : bh = true ∧ ah = true ∨ bh = false := by cases bh <;> simp_all
          clear hsec
          rcases hway with ⟨rfl, rfl⟩ | rfl
          all_goals
            go_wp2
            have KX := KR
            have GX := GR
            clear KR GR r1
            obtain ⟨wq, hwq⟩ : ∃ wq : World, wq = wr := ⟨_, rfl⟩
            subst hwq
            go_loopw [12] (fun u wr => ∃ j : Nat, j ≤ ln ∧ u = .int .i64 (j : Int) ∧ EnvF wr [fF A2 q Y, fF LA ln ls, fF A n xs, stF, rwF, mvF] [(w3.heap.size, #[.int .i64 M, .slice A2 q c2], 24), (w.heap.size, #[.int .i64 M, .slice A n c], 24)] ∧ Below w.heap.size w wr) (fun u _ => ln - (intOf u).toNat)
            case atStart => exact ⟨0, Nat.zero_le _, rfl, KX.out, GX.out⟩
            case round =>
              obtain ⟨j, hj, rfl, hk0, hbel⟩ := hrel
              have KR := Lib.hid hk0
              have GR := Lib.hid hbel
              have hN1 := Hl1.out
              clear hbel KX GX
              by_cases hlt : j < ln
              · obtain ⟨b, o, hAe, hb, hcc⟩ := fs_cell (hk0.fs (A := LA) (n := ln) (xs := ls) (by simp)) (by omega)
                obtain ⟨⟨fa, fb⟩, hx, h1, h2⟩ := hcc j hlt
                subst hAe
                have hzx : sz ((fa, fb) : Fd) ≤ 7000 := Nat.le_trans (sz_le hx) hz.out
                have HF2 := Pk.fX_right hr.out (fa, fb)
                clear hcc hk0 h1 h2
                go_wp2
                refine ps18_region (A := A) (n := n) (c := c) (xs := xs) (ls := ls) (b := b) (o := o) (j := j) (i := findI xs (fa, fb)) (B1 := findB xs (fa, fb)) (by simp) (by simp) (by simp) (by simp) HN.out (List.mem_of_getElem? (i := 1) rfl) (by simp) hx (by omega) (by omega) hlt hr.out hzx rfl rfl Hn.out hF1.out (fun w20 K20' hb => ?_) KR.out
                have K20 := Lib.hid K20'
                have G20 := Lib.hid (below_step GR.out.drew hb)
                clear K20' hb KR GR
                go_wp2
                refine ps19_region (A := A) (n := n) (c := c) (xs := xs) (ls := ls) (b := b) (o := o) (j := j) (L := fB M xs (fa, fb)) (Y := fX M xs (fa, fb)) (by simp) (by simp) (by simp) (by simp) HN.out (List.mem_of_getElem? (i := 1) rfl) (by simp) hx (by omega) (by omega) hlt hr.out hzx rfl rfl rfl rfl (fun gX A5 A6 c5 c6 w30 K30' h6 hb => ?_) K20.out
                have K30 := Lib.hid K30'
                have G30 := Lib.hid (below_step G20.out.drew hb)
                clear K30' hb h6 K20 G20
                have hi := findI_le xs (fa, fb)
                obtain ⟨i, hi1⟩ : ∃ i, findI xs (fa, fb) = i := ⟨_, rfl⟩
                have hfe := fun h => Pk.f_whole (M := M) (xs := xs) (f := (fa, fb)) h
                rw [hi1] at hi hfe ⊢
                obtain ⟨Lf, hLf⟩ : ∃ Lf, fB M xs (fa, fb) = Lf := ⟨_, rfl⟩
                obtain ⟨Yf, hYf⟩ : ∃ Yf, fX M xs (fa, fb) = Yf := ⟨_, rfl⟩
                rw [hLf, hYf] at K30 hfe ⊢
                obtain ⟨kf, hkf⟩ : ∃ kf, Lf.length = kf := ⟨_, rfl⟩
                obtain ⟨qf, hqf⟩ : ∃ qf, Yf.length = qf := ⟨_, rfl⟩
                rw [hkf, hqf] at K30 ⊢
                obtain ⟨P, hP⟩ : ∃ P, putL (i : Int) (7 : Nat) 128 = P := ⟨_, rfl⟩
                obtain ⟨kp, hkp⟩ : ∃ kp, P.length = kp := ⟨_, rfl⟩
                have HE7 : Hid (putE (i : Int) (7 : Nat) = 0) := Lib.hid (putE_small (by omega) (by have := Hn1.out; have := Hxn.out; omega))
                have HP7 := Lib.hid hP
                have HK7 := Lib.hid hkp
                have HQF := Lib.hid hqf
                have HQB : Hid (qf ≤ 1000000) := Lib.hid (by rw [← hqf, ← hYf]; have a1 := Pk.okB_of HF2; have a2 := full_len (Pk.fX M xs (fa, fb)); omega)
                have hne0 : ((0 : Int) != 0) = false := rfl
                cases hwh : findB xs (fa, fb) with
                | true =>
                  obtain ⟨q1, q2⟩ := hfe hwh
                  rw [hP] at q1
                  have HB2 : Hid ((Lf == P) = true) := Lib.hid (by rw [q1]; simp)
                  have HT2 : Hid (sameB M Yf M xs = true) := Lib.hid (by rw [q2]; unfold sameB; simp)
                  clear hfe q1 q2 hLf hYf hkf hqf hP hkp hi hi1 hwh
                  go_wp2_with (first
                    | go_skip
                    | (go_at_call 13; (with_reducible refine (p_put _ K30.out (d_Indexed (i : Int) _) HP7.out HE7.out HK7.out).mono ?_); rintro e w31 ⟨A9, c9, rfl, hb, hE, HA90⟩; have K31 := Lib.hid hE; have HA9 := Lib.hid HA90; have G31 := Lib.hid (below_step G30.out hb); clear hb hE HA90 K30 G30)
                    | (go_at_call 14; (with_reducible refine (p_bsame (A := A5) (A' := A9) (n := kf) (n' := kp) (xs := Lf) (ys := P) (b := true) _ K31.out (by simp) (by simp) HB2.out).mono ?_); rintro e w32 ⟨rfl, hb⟩; have K32 := Lib.hid (K31.out.on hb); have G32 := Lib.hid (below_step G31.out hb); clear hb K31 G31)
                    | (refine at_load 24 (.tmp 16) (by rfl) ?_; refine wpListG_row (by rfl) 24 (.tmp 16) (by rfl) gX (by rfl) 24 #[.int .i64 M, .slice A6 qf c6] _ (K32.out.row 0 rfl) Tryd.underlying24 (by rfl) infoc_T ?_)
                    | (refine at_load 24 (.tmp 2) (by rfl) ?_; refine wpListG_row (by rfl) 24 (.tmp 2) (by rfl) w.heap.size (by rfl) 24 #[.int .i64 M, .slice A n c] _ (K32.out.row 2 rfl) Tryd.underlying24 (by rfl) infoc_T ?_)
                    | (go_at_call 15; (with_reducible refine (p_tsame (A := A6) (A' := A) (n := qf) (n' := n) (xs := Yf) (ys := xs) (b := true) _ K32.out (by simp) (by simp) HQB.out HT2.out).mono ?_); rintro e w33 ⟨rfl, hb⟩; have K33 := Lib.hid (K32.out.on hb); have G33 := Lib.hid (below_step G32.out hb); clear hb K32 G32))
                  go_roundw
                  case rel => exact ⟨j + 1, by omega, by go_num, K33.out.sub (fun y hy => List.mem_cons_of_mem _ (List.mem_cons_of_mem _ (List.mem_cons_of_mem _ hy))) (List.sublist_cons_self _ _), G33.out⟩
                  case measure => simp [intOf]; omega
                | false =>
                  clear hfe hLf hYf hkf hqf hP hkp hi hi1 hwh
                  go_wp2_with (first
                    | go_skip
                    | (go_at_call 13; (with_reducible refine (p_put _ K30.out (d_Indexed (i : Int) _) HP7.out HE7.out HK7.out).mono ?_); rintro e w31 ⟨A9, c9, rfl, hb, hE, HA90⟩; have K31 := Lib.hid hE; have HA9 := Lib.hid HA90; have G31 := Lib.hid (below_step G30.out hb); clear hb hE HA90 K30 G30)
                    | ((first | (with_reducible refine wpList_skip (o := { dst := some 108, op := _, type := _, pos := _, after := _, guard := _ }) (by kernel_rfl) ?_) | (with_reducible refine wpList_skip (o := { dst := some 109, op := _, type := _, pos := _, after := _, guard := _ }) (by kernel_rfl) ?_) | (with_reducible refine wpList_skip (o := { dst := some 110, op := _, type := _, pos := _, after := _, guard := _ }) (by kernel_rfl) ?_) | (with_reducible refine wpList_skip (o := { dst := some 111, op := _, type := _, pos := _, after := _, guard := _ }) (by kernel_rfl) ?_) | (with_reducible refine wpList_skip (o := { dst := some 112, op := _, type := _, pos := _, after := _, guard := _ }) (by kernel_rfl) ?_) | (with_reducible refine wpList_skip (o := { dst := some 113, op := _, type := _, pos := _, after := _, guard := _ }) (by kernel_rfl) ?_) | (with_reducible refine wpList_skip (o := { dst := some 114, op := _, type := _, pos := _, after := _, guard := _ }) (by kernel_rfl) ?_) | (with_reducible refine wpList_skip (o := { dst := some 115, op := _, type := _, pos := _, after := _, guard := _ }) (by kernel_rfl) ?_) | (with_reducible refine wpList_skip (o := { dst := some 116, op := _, type := _, pos := _, after := _, guard := _ }) (by kernel_rfl) ?_) | (with_reducible refine wpList_skip (o := { dst := some 117, op := _, type := _, pos := _, after := _, guard := _ }) (by kernel_rfl) ?_)); try simp only [Act.put, List.setIfInBounds_toArray, List.set_cons_zero, List.set_cons_succ]))
                  go_roundw
                  case rel => exact ⟨j + 1, by omega, by go_num, K31.out.sub (fun y hy => List.mem_cons_of_mem _ (List.mem_cons_of_mem _ (List.mem_cons_of_mem _ hy))) (List.sublist_cons_self _ _), G31.out⟩
                  case measure => simp [intOf]; omega
              · obtain rfl : ln = j := by omega
                clear hk0
                go_wp2_with (first
                  | go_skip
                  | (go_at_call 8; (with_reducible refine (wakes11 _ KR.out (by simp) (by simp) (by simp)).mono ?_); rintro e w51 ⟨rfl, hb⟩; have K51 := Lib.hid (KR.out.on hb); have G51 := Lib.hid (below_step GR.out hb); clear hb KR GR))
                go_ret
                exact ⟨rfl, G51.out⟩
theorem ps_all (M : Int) (A : Option Addr) (n c : Nat) (LA : Option Addr) (ln lc : Nat) (w : World) (hR : Up.Vars w) (hI : IsFlds w A n c) (hJ : IsFlds w LA ln lc) :
    Calls Tryd.prog 3 #[.agg #[.int .i64 M, .slice A n c], .slice LA ln lc] w fun e w' => e = .returned (.bool true) ∧ Below w.heap.size w w' := by
  obtain ⟨xs, hA, hS, hnc, hcm, hN⟩ := rowFlds hI
  obtain ⟨ls, hL, hT, hnl, hlm, hLN⟩ := rowFlds hJ
  have hV : EnvF w [fF LA ln ls, fF A n xs, stF, rwF, mvF] [] := (Pk.start11 hR hA).addF hL
  have HG := great_call (M := M) hA hnc hcm hS hL hnl hlm hT
  cases hg : gB xs ls with
  | true => rw [hg] at HG; exact ps_g M A n c xs LA ln lc ls w hV HG
  | false =>
    rw [hg] at HG
    obtain ⟨g1, g2, g3, g4⟩ := g_bd hg
    have e1 := hA.1
    have e2 := hL.1
    cases hr : rightB M xs with
    | false => exact ps_r M A n c xs LA ln lc ls w hV HG (right_call (by omega) hr)
    | true =>
      exact ps_main M A n c xs LA ln lc ls w hV HG (right_call (by omega) hr) (Lib.hid hN) (Lib.hid (by omega)) (Lib.hid (by omega)) (Lib.hid e1) (Lib.hid hr) (Lib.hid g3) (Lib.hid (by omega)) (Lib.hid rfl) (Lib.hid rfl) (Lib.hid rfl) (Lib.hid rfl) (Lib.hid (by have a1 := okB_of (kX_right hr ls); have a2 := full_len (kX M xs ls); omega)) (Lib.hid (by omega)) (Lib.hid Pk.any_kX)
end Go.Proofs.YtacnbpodcjefiaaDoor
