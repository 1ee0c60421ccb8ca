/- The walk of HeadWhole. -/
import Derived.Test.YtodghbfgfdbaiaaHdS
import Derived.Test.YtodghbfgfdbaiaaHdX
import Derived.Test.YtodghbfgfdbaiaaGArgs
namespace Go.Proofs.Ytodghbfgfdbaiaa
open Go.RowKit Oct

theorem lwhole_no (L K F S : Int) (A A' : Option Addr) (n c n' c' : Nat) (w : World) (h : 3000 < n ∨ 3000 < n' ∨ ¬ HeadIn L S) (hm : n ≤ maxLen) (hm' : n' ≤ maxLen) :
    Calls Try.prog 5 #[.agg #[.int .i64 L, .int .u8 K, .int .u8 F, .int .i64 S], .slice A n c, .slice A' n' c'] w fun e w' => e = .returned (.bool true) ∧ Below w.heap.size w w' := by
  unfold maxLen at hm hm'
  by_cases h1 : 3000 < n
  · clear h
    go_enter Try.func5, Try.ntmps5
    go_wp2_with (go_at_call 7; refine (wakes_any _).mono ?_; rintro e w' ⟨rfl, hb⟩)
    go_ret
    exact ⟨rfl, ((Below.refl _ w).alloc (Nat.le_refl _) _).trans (hb.mono (by simp))⟩
  · have d1 : decide (3000 < (n : Int)) = false := by simp; omega
    by_cases h2 : 3000 < n'
    · have d2 : decide (3000 < (n' : Int)) = true := by simp; omega
      clear h
      go_enter Try.func5, Try.ntmps5
      go_wp2_with (go_at_call 7; refine (wakes_any _).mono ?_; rintro e w' ⟨rfl, hb⟩)
      go_ret
      exact ⟨rfl, ((Below.refl _ w).alloc (Nat.le_refl _) _).trans (hb.mono (by simp))⟩
    · have d2 : decide (3000 < (n' : Int)) = false := by simp; omega
      have hh := headB_no (show ¬ HeadIn L S by
        rcases h with h | h | h
        · omega
        · omega
        · exact h)
      clear h
      go_enter Try.func5, Try.ntmps5
      go_wp2_with (first
        | (go_at_call 16; refine (rright_any _ _ _ _ _).mono ?_; rintro e w1 ⟨rfl, hb1⟩; rw [hh])
        | (go_at_call 7; refine (wakes_any _).mono ?_; rintro e w' ⟨rfl, hb⟩))
      go_ret
      have hz := hb1.size
      exact ⟨rfl, ((Below.refl _ w).alloc (Nat.le_refl _) _).trans ((hb1.mono (by simp)).trans (hb.mono (by simp at hz; omega)))⟩
theorem hd_in {n S : Nat} {K F : UInt8} (h1 : n ≤ 3000) (h2 : S < 2147483648) : hpV (n : Int) K F (S : Int) = hdBytes n K F S ∧ hpE (n : Int) (S : Int) = 0 := by
  have h : HeadIn (n : Int) (S : Int) := ⟨by omega, by omega, by omega, by omega⟩
  unfold hpV hpE
  rw [if_pos h, if_pos h]
  exact ⟨rfl, rfl⟩
section
variable {K F : UInt8} {S : Nat} {xs zs : List UInt8} {n : Nat}
theorem full_in (hn : xs.length = n) (h : n ≤ 3000) : WholeIn (hdBytes n K F S ++ xs ++ zs) (9 + n + zs.length) := by
  refine ⟨by omega, ?_⟩
  rw [List.append_assoc, hL_hd _ _ _ _ _ (by omega)]
  omega
theorem full_P (hn : xs.length = n) (h : n ≤ 3000) : wP (hdBytes n K F S ++ xs ++ zs) (9 + n + zs.length) = xs := by
  unfold wP
  rw [if_pos (full_in hn h), List.append_assoc, hL_hd _ _ _ _ _ (by omega), hd_drop9, List.take_append_of_le_length (by omega), List.take_of_length_le (by omega)]
theorem full_R (hn : xs.length = n) (h : n ≤ 3000) : wR (hdBytes n K F S ++ xs ++ zs) (9 + n + zs.length) = zs := by
  unfold wR
  rw [if_pos (full_in hn h), List.append_assoc, hL_hd _ _ _ _ _ (by omega), ← List.drop_drop, hd_drop9, ← hn, List.drop_left]
theorem full_E (hn : xs.length = n) (h : n ≤ 3000) : wE (hdBytes n K F S ++ xs ++ zs) (9 + n + zs.length) = 0 := if_pos (full_in hn h)
theorem full_H (h : n ≤ 3000) (hS : S < 2147483648) {m : Nat} (hm : 9 ≤ m) : tL (hdBytes n K F S ++ xs ++ zs) m = n ∧ tK (hdBytes n K F S ++ xs ++ zs) m = K.toNat ∧ tF (hdBytes n K F S ++ xs ++ zs) m = F.toNat ∧ tS (hdBytes n K F S ++ xs ++ zs) m = S := by
  unfold tL tK tF tS
  rw [if_pos hm, if_pos hm, if_pos hm, if_pos hm, List.append_assoc, hL_hd _ _ _ _ _ (by omega), hK_hd, hF_hd, hS_hd _ _ _ _ _ hS]
  exact ⟨rfl, rfl, rfl, rfl⟩
theorem less_no (hn : xs.length = n) (h : n ≤ 3000) : ¬ WholeIn ((hdBytes n K F S ++ xs).take (9 + n - 1)) (9 + n - 1) := by
  rintro ⟨h1, h2⟩
  have e : ((hdBytes n K F S ++ xs).take (9 + n - 1)).take 3 = putB n 3 := by
    rw [List.take_take, Nat.min_eq_left (by omega), hd_take3]
  have : hL ((hdBytes n K F S ++ xs).take (9 + n - 1)) = n := by
    unfold hL
    rw [e, takeB_putB]
    exact Nat.mod_eq_of_lt (by omega)
  omega
theorem less_E (hn : xs.length = n) (h : n ≤ 3000) : wE ((hdBytes n K F S ++ xs).take (9 + n - 1)) (9 + n - 1) = 10 := if_neg (less_no hn h)
theorem less_P (hn : xs.length = n) (h : n ≤ 3000) : wP ((hdBytes n K F S ++ xs).take (9 + n - 1)) (9 + n - 1) = [] := if_neg (less_no hn h)
theorem less_R (hn : xs.length = n) (h : n ≤ 3000) : wR ((hdBytes n K F S ++ xs).take (9 + n - 1)) (9 + n - 1) = [] := if_neg (less_no hn h)
end
theorem whole_full (A : Option Addr) (B n n' c S : Nat) (K F : UInt8) (xs zs : List UInt8) (w : World) (hA : Bs w B A (9 + n + n') (hdBytes n K F S ++ xs ++ zs)) (hx : xs.length = n) (hz : zs.length = n') (hn : n ≤ 3000) (hn' : n' ≤ 3000) (hS : S < 2147483648) (hc : 9 + n + n' ≤ c) (hB : B ≤ w.heap.size) :
    Calls Try.prog 13 #[.slice A (9 + n + n') c] w fun e w' => ∃ v u, e = .returned (.tuple #[.agg #[.int .i64 n, .int .u8 (K.toNat : Int), .int .u8 (F.toNat : Int), .int .i64 S], v, u, .int .i64 0]) ∧ OwnB w' w.heap.size 5 v xs ∧ OwnB w' w.heap.size 5 u zs ∧ Below w.heap.size w w' := by
  subst hz
  have h := whole_tot A B (9 + n + zs.length) c _ w hA (by omega) hc hB
  obtain ⟨e1, e2, e3, e4⟩ := full_H (xs := xs) (zs := zs) (K := K) (F := F) hn hS (m := 9 + n + zs.length) (by omega)
  rw [e1, e2, e3, e4, full_E hx hn, full_P hx hn, full_R hx hn] at h
  exact h
theorem less_bs {W : World} {B n S : Nat} {K F : UInt8} {A : Option Addr} {xs : List UInt8} (h : Bs W B A (9 + n) (hdBytes n K F S ++ xs)) : Bs W B A (8 + n) ((hdBytes n K F S ++ xs).take (8 + n)) := h.take (by omega)
theorem whole_less (A : Option Addr) (B n c S : Nat) (K F : UInt8) (xs : List UInt8) (w : World) (hA : Bs w B A (8 + n) ((hdBytes n K F S ++ xs).take (8 + n))) (hx : xs.length = n) (hn : n ≤ 3000) (hc : 8 + n ≤ c) (hB : B ≤ w.heap.size) :
    Calls Try.prog 13 #[.slice A (8 + n) c] w fun e w' => ∃ (u0 u1 u2 u3 : Nat) (p q : Option Addr) (r s : Nat), e = .returned (.tuple #[.agg #[.int .i64 u0, .int .u8 u1, .int .u8 u2, .int .i64 u3], .slice p 0 r, .slice q 0 s, .int .i64 10]) ∧ Below w.heap.size w w' := by
  have h := whole_tot A B (8 + n) c _ w hA (by omega) hc hB
  have e0 : 8 + n = 9 + n - 1 := by omega
  have e1 : wE ((hdBytes n K F S ++ xs).take (8 + n)) (8 + n) = 10 := by rw [e0]; exact less_E hx hn
  have e2 : wP ((hdBytes n K F S ++ xs).take (8 + n)) (8 + n) = [] := by rw [e0]; exact less_P hx hn
  have e3 : wR ((hdBytes n K F S ++ xs).take (8 + n)) (8 + n) = [] := by rw [e0]; exact less_R hx hn
  rw [e1, e2, e3] at h
  refine h.mono ?_
  rintro e w' ⟨v, u, rfl, ho, hu, hb⟩
  obtain ⟨p, r, rfl, _, _, _⟩ := ho.form2 (n := 0) rfl
  obtain ⟨q, s, rfl, _, _, _⟩ := hu.form2 (n := 0) rfl
  exact ⟨_, _, _, _, p, q, r, s, rfl, hb⟩
set_option maxRecDepth 100000 in
set_option maxHeartbeats 4000000 in
theorem lwhole_yes (L S : Nat) (K F : UInt8) (A A' : Option Addr) (n c n' c' : Nat) (xs zs : List UInt8) (w : World) (hA : Bs w w.heap.size A n xs) (hA' : Bs w w.heap.size A' n' zs) (hAc : A = none → c = 0) (hAc' : A' = none → c' = 0)
    (hn : n ≤ 3000) (hn' : n' ≤ 3000) (hL : L < 16777216) (hS : S < 2147483648) :
    Calls Try.prog 5 #[.agg #[.int .i64 L, .int .u8 (K.toNat : Int), .int .u8 (F.toNat : Int), .int .i64 S], .slice A n c, .slice A' n' c'] w fun e w' => e = .returned (.bool true) ∧ Below w.heap.size w w' := by
  have HAc := Lib.hid hAc
  have HAc' := Lib.hid hAc'
  have HLx := Lib.hid hA.1
  have HLz := Lib.hid hA'.1
  have hh := headB_yes (L := L) (S := S) ⟨by omega, by omega, by omega, by omega⟩
  have K0 := Lib.hid (((Env.nil w).addS hA).addS hA')
  have d1 : decide (3000 < (n : Int)) = false := by simp; omega
  have d2 : decide (3000 < (n' : Int)) = false := by simp; omega
  have HP : Hid (∀ W : World, Calls Try.prog 9 #[.agg #[.int .i64 n, .int .u8 (K.toNat : Int), .int .u8 (F.toNat : Int), .int .i64 S]] W fun e w' => ∃ v, e = .returned (.tuple #[v, .int .i64 0]) ∧ OwnB w' W.heap.size 5 v (hdBytes n K F S) ∧ Below W.heap.size W w') :=
    Lib.hid (fun W => rhput_yes n S K F W (by omega) hS)
  obtain ⟨i0, hi, hz0, hz1, hz2⟩ := info_parts info_u8
  have hinf := Lib.hid (And.intro hi (And.intro hz0 (And.intro hz1 hz2)))
  clear hA hA' hAc hAc' hi hz0 hz1 hz2
  go_enter Try.func5, Try.ntmps5
  go_wp2_with (first
    | (go_at_call 16; refine (rright_any _ _ _ _ _).mono ?_; rintro e w1 ⟨rfl, hb1⟩; rw [hh]; have hx1 := four_box1 hb1; have HF1 := Lib.hid hx1.1; have B1 := Lib.hid (((Below.refl _ w).alloc (Nat.le_refl _) _).trans (hb1.mono (by simp))); have hlt1 : w.heap.size < w1.heap.size := Nat.lt_of_lt_of_le (by simp) hb1.size; clear hb1; obtain ⟨⟨c0, c1, c2, c3⟩, hfr1⟩ := hx1)
    | (go_at_call 9; refine (HP.out _).mono ?_; rintro e w2 ⟨v2, rfl, ho, hb2⟩; obtain ⟨A2, k2, rfl, hk2, hn2, hr2⟩ := ho.form2 (hdBytes_length ..); have HN2 := Lib.hid hn2; have HBs := Lib.hid (B1.out.setCell (p := ⟨w.heap.size, 0, none⟩) (Nat.le_refl _) (.int .i64 n)); have K2 := Lib.hid ((((K0.out.on HBs.out).addF (HF1.out.set0 _) (by rw [World.size_setCell]; exact hlt1)).on hb2).addS hr2); have B2 := Lib.hid (HBs.out.trans (hb2.mono HBs.out.size)); clear ho hr2 hn2 hb2 K0)
    | (at_builtin; refine wpList_append_full _ rfl (.tmp 40) (.tmp 41) 24 rfl w2.heap.size 5 i0 Try.underlying24 hinf.out.1 hinf.out.2.1 hinf.out.2.2.1 hinf.out.2.2.2 _ [] rfl (OwnB.lit2 w2 _ _ _ rfl (Nat.le_refl _)) _ A2 9 k2 _ rfl ((K2.out.al _).s (A2, 9, hdBytes n K F S) (by simp)) HN2.out (by simp) (by simp) ?_; intro v3 w3 hown hb _ _ _; rw [List.nil_append] at hown; have HO3 := Lib.hid hown; have B3 := Lib.hid (((Below.refl _ w2).alloc (Nat.le_refl _) _).trans hb); have K3 := Lib.hid (K2.out.on B3.out); clear hown hb)
    | (at_builtin; refine wpList_append_full _ rfl (.tmp 42) (.tmp 43) 24 rfl w2.heap.size 5 i0 Try.underlying24 hinf.out.1 hinf.out.2.1 hinf.out.2.2.1 hinf.out.2.2.2 _ (hdBytes n K F S) rfl HO3.out _ A n c xs rfl (K3.out.s (A, n, xs) (by simp)) HAc.out (by rw [hdBytes_length]; omega) B3.out.size ?_; intro v4 w4 hown hb _ _ _; obtain ⟨A4, k4, rfl, hk4, hn4, hr4⟩ := hown.form2 (n := 9 + n) (by rw [List.length_append, hdBytes_length, HLx.out]); have HN4 := Lib.hid hn4; have B4 := Lib.hid (B3.out.trans hb); have K4 := Lib.hid ((K2.out.on B4.out).addS hr4); clear hown hb hr4 hn4 K3 HO3)
    | (at_builtin; refine wpList_append_full _ rfl (.tmp 46) (.tmp 47) 24 rfl w4.heap.size 5 i0 Try.underlying24 hinf.out.1 hinf.out.2.1 hinf.out.2.2.1 hinf.out.2.2.2 _ [] rfl (OwnB.lit2 w4 _ _ _ rfl (Nat.le_refl _)) _ A4 (9 + n) k4 _ rfl ((K4.out.al _).s (A4, 9 + n, hdBytes n K F S ++ xs) (by simp)) HN4.out (by simp; omega) (by simp) ?_; intro v5 w5 hown hb _ _ _; rw [List.nil_append] at hown; have HO5 := Lib.hid hown; have B5 := Lib.hid (((Below.refl _ w4).alloc (Nat.le_refl _) _).trans hb); have K5 := Lib.hid (K4.out.on B5.out); clear hown hb)
    | (at_builtin; refine wpList_append_full _ rfl (.tmp 48) (.tmp 49) 24 rfl w4.heap.size 5 i0 Try.underlying24 hinf.out.1 hinf.out.2.1 hinf.out.2.2.1 hinf.out.2.2.2 _ (hdBytes n K F S ++ xs) rfl HO5.out _ A' n' c' zs rfl (K5.out.s (A', n', zs) (by simp)) HAc'.out (by rw [List.length_append, hdBytes_length, HLx.out]; omega) B5.out.size ?_; intro v6 w6 hown hb _ _ _; obtain ⟨A6, k6, rfl, hk6, _, hr6⟩ := hown.form2 (n := 9 + n + n') (by rw [List.length_append, List.length_append, hdBytes_length, HLx.out, HLz.out]); have HR6 := Lib.hid hr6; have B6 := Lib.hid (B5.out.trans hb); have K6 := Lib.hid (K4.out.on B6.out); clear hown hb hr6 K5 HO5)
    | (go_at_call 13; (with_reducible refine (whole_full A6 _ n n' k6 S K F xs zs _ HR6.out HLx.out HLz.out hn hn' hS hk6 (Nat.le_refl _)).mono ?_); rintro e w7 ⟨v7, u7, rfl, ho, hu, hb⟩; obtain ⟨A7, c7, rfl, hc7, _, hr⟩ := ho.form2 HLx.out; obtain ⟨B7, e7, rfl, he7, _, hr'⟩ := hu.form2 HLz.out; have K7 := Lib.hid ((((K6.out.on hb).addS hr).addS hr').box 23 (.int .i64 n) (.int .u8 (K.toNat : Int)) (.int .u8 (F.toNat : Int)) (.int .i64 S)); have HB7 := Lib.hid hb; clear ho hu hb hr hr')
    | (go_at_call 13; (with_reducible refine (whole_less A4 _ n k4 S K F xs _ (less_bs (K7.out.s (A4, 9 + n, hdBytes n K F S ++ xs) (by simp))) HLx.out hn (by omega) (Nat.le_refl _)).mono ?_); rintro e w8 ⟨u0, u1, u2, u3, p8, q8, r8, s8, rfl, hb⟩; have K8 := Lib.hid ((K7.out.on hb).box 23 (.int .i64 u0) (.int .u8 u1) (.int .u8 u2) (.int .i64 u3)); have HB8 := Lib.hid hb; clear hb; obtain ⟨⟨a0, a1, a2, a3⟩, la⟩ := K8.out.f (w.heap.size, .int .i64 n, .int .u8 (K.toNat : Int), .int .u8 (F.toNat : Int), .int .i64 S) (by simp); obtain ⟨⟨b0, b1, b2, b3⟩, lb⟩ := K8.out.f (w7.heap.size, .int .i64 n, .int .u8 (K.toNat : Int), .int .u8 (F.toNat : Int), .int .i64 S) (by simp))
    | (go_at_call 12; (with_reducible refine (lsame_any A7 A n n c7 c _ _ xs xs _ (K8.out.s (A7, n, xs) (by simp)) (K8.out.s (A, n, xs) (by simp))).mono ?_); rintro e w' ⟨rfl, rfl⟩; rw [beq_self_eq_true])
    | (go_at_call 12; (with_reducible refine (lsame_any B7 A' n' n' e7 c' _ _ zs zs _ (K8.out.s (B7, n', zs) (by simp)) (K8.out.s (A', n', zs) (by simp))).mono ?_); rintro e w' ⟨rfl, rfl⟩; rw [beq_self_eq_true])
    | (go_at_call 7; refine (wakes_any _).mono ?_; rintro e w9 ⟨rfl, hb9⟩))
  go_ret
  have b4 := B2.out.trans (B4.out.mono B2.out.size)
  have b6 := b4.trans (B6.out.mono b4.size)
  have b7 := b6.trans (HB7.out.mono b6.size)
  have b7' := b7.alloc b7.size (.cells #[.int .i64 n, .int .u8 (K.toNat : Int), .int .u8 (F.toNat : Int), .int .i64 S] 23)
  have b8 := b7'.trans (HB8.out.mono b7'.size)
  have b8' := b8.alloc b8.size (.cells #[.int .i64 u0, .int .u8 u1, .int .u8 u2, .int .i64 u3] 23)
  exact ⟨rfl, b8'.trans (hb9.mono b8'.size)⟩
end Go.Proofs.Ytodghbfgfdbaiaa
