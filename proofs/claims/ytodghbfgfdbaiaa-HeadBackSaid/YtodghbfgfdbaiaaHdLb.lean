/- The walk of HeadBack. -/
import Derived.Test.YtodghbfgfdbaiaaHdS
import Derived.Test.YtodghbfgfdbaiaaHdX
import Derived.Test.YtodghbfgfdbaiaaGArgs
namespace Go.Proofs.Ytodghbfgfdbaiaa
open Go.RowKit Oct

theorem back_great (L S : Int) (K F : Int) (A : Option Addr) (n c : Nat) (w : World) (h : 3000 < n) (hm : n ≤ maxLen) :
    Calls Try.prog 4 #[.agg #[.int .i64 L, .int .u8 K, .int .u8 F, .int .i64 S], .slice A n c] w fun e w' => e = .returned (.bool true) ∧ Below w.heap.size w w' := by
  unfold maxLen at hm
  go_enter Try.func4, Try.ntmps4
  go_wp2_with (go_at_call 7; refine (wakes_any _).mono ?_; rintro e w' ⟨rfl, hb⟩)
  go_ret
  exact ⟨rfl, ((Below.refl _ w).alloc (Nat.le_refl _) _).trans (hb.mono (by simp))⟩
/-- Put of what was taken. -/
theorem put_back (a0 a1 a2 a3 a4 a5 a6 a7 a8 : UInt8) (r xs : List UInt8) (hx : xs = a0 :: a1 :: a2 :: a3 :: a4 :: a5 :: a6 :: a7 :: a8 :: r) (y : UInt8) (hy : y = a5 &&& 127) (w : World) :
    Calls Try.prog 8 #[.agg #[.int .i64 (hL xs), .int .u8 (hK xs), .int .u8 (hF xs), .int .i64 (hS xs)]] w fun e w' => ∃ v, e = .returned (.tuple #[v, .int .i64 0]) ∧ OwnB w' w.heap.size 5 v [a0, a1, a2, a3, a4, y, a6, a7, a8] ∧ Below w.heap.size w w' := by
  subst hy
  have h := hput_yes (hL xs) (hS xs) a3 a4 w (hL_lt xs) (hS_lt xs)
  have e1 : hdBytes (hL xs) a3 a4 (hS xs) = [a0, a1, a2, a3, a4, a5 &&& 127, a6, a7, a8] := by rw [hx]; exact hd_back a0 a1 a2 a3 a4 a5 a6 a7 a8 r
  have e2 : a3.toNat = hK xs := by rw [hx]; rfl
  have e3 : a4.toNat = hF xs := by rw [hx]; rfl
  rw [e1, e2, e3] at h
  exact h
theorem u8_and_127 (x : UInt8) : bits .and .u8 (x.toNat : Int) 127 = ((x &&& 127 : UInt8).toNat : Int) := by
  have h := u8_and_nat x.toNat 127 x.toNat_lt (by decide)
  have e : ((127 : Nat) : Int) = 127 := rfl
  rw [e] at h
  rw [h, UInt8.toNat_and]
  rfl
/-- Take of a head's bytes and what stands behind them. -/
theorem take_back (A : Option Addr) (B n c L S : Nat) (K F : UInt8) (xs : List UInt8) (w : World) (hA : Bs w B A (9 + n) (hdBytes L K F S ++ xs)) (hAc : A = none → c = 0) (hx : xs.length = n) (hn : n ≤ 3000) (hL' : L < 16777216) (hS' : S < 2147483648) (hc : 9 + n ≤ c) (hB : B ≤ w.heap.size) :
    Calls Try.prog 10 #[.slice A (9 + n) c] w fun e w' => ∃ v, e = .returned (.tuple #[.agg #[.int .i64 L, .int .u8 (K.toNat : Int), .int .u8 (F.toNat : Int), .int .i64 S], v, .int .i64 0]) ∧ OwnB w' w.heap.size 5 v xs ∧ Below w.heap.size w w' := by
  have h := htake_yes A B (9 + n) c _ w hA hAc (by omega) (by omega) hc hB
  rw [hL_hd _ _ _ _ _ hL', hK_hd, hF_hd, hS_hd _ _ _ _ _ hS', hd_drop9] at h
  exact h
set_option maxRecDepth 100000 in
set_option maxHeartbeats 4000000 in
theorem back_yes_few (L S : Nat) (K F : UInt8) (A : Option Addr) (n c : Nat) (xs : List UInt8) (w : World) (hA : Bs w w.heap.size A n xs) (hAc : A = none → c = 0) (hn : n ≤ 3000) (hL' : L < 16777216) (hS' : S < 2147483648) (h9 : n < 9) :
    Calls Try.prog 4 #[.agg #[.int .i64 L, .int .u8 (K.toNat : Int), .int .u8 (F.toNat : Int), .int .i64 S], .slice A n c] w fun e w' => e = .returned (.bool true) ∧ Below w.heap.size w w' := by
  have HAc := Lib.hid hAc
  have HLx := Lib.hid hA.1
  have hh : headB L S = true := headB_yes ⟨by omega, by omega, by omega, by omega⟩
  have d1 : decide (3000 < (n : Int)) = false := by simp; omega
  have K0 := Lib.hid (((Env.nil w).addS hA).box 23 (.int .i64 L) (.int .u8 (K.toNat : Int)) (.int .u8 (F.toNat : Int)) (.int .i64 S))
  have B0 : Hid (Below w.heap.size w (w.alloc (.cells #[.int .i64 L, .int .u8 (K.toNat : Int), .int .u8 (F.toNat : Int), .int .i64 S] 23))) := Lib.hid ((Below.refl _ w).alloc (Nat.le_refl _) _)
  obtain ⟨i0, hi, hz0, hz1, hz2⟩ := info_parts info_u8
  have hinf := Lib.hid (And.intro hi (And.intro hz0 (And.intro hz1 hz2)))
  clear hA hAc hi hz0 hz1 hz2
  go_enter Try.func4, Try.ntmps4
  go_wp2_with (first
    | (go_at_call 8; (with_reducible refine (hput_yes L S K F _ hL' hS').mono ?_); rintro e w1 ⟨v1, rfl, ho, hb⟩; obtain ⟨A1, k1, rfl, hk1, hn1, hr⟩ := ho.form2 (hdBytes_length ..); have HN1 := Lib.hid hn1; have K1 := Lib.hid ((K0.out.on hb).addS hr); have B1 := Lib.hid (B0.out.trans (hb.mono B0.out.size)); obtain ⟨⟨c0, c1, c2, c3⟩, la⟩ := K1.out.f (w.heap.size, .int .i64 L, .int .u8 (K.toNat : Int), .int .u8 (F.toNat : Int), .int .i64 S) (by simp); clear ho hb hr hn1)
    | (go_at_call 16; refine (rright_any _ _ _ _ _).mono ?_; rintro e w2 ⟨rfl, hb⟩; rw [hh]; clear hh; have K2 := Lib.hid (K1.out.on hb); have B2 := Lib.hid (B1.out.trans (hb.mono B1.out.size)); obtain ⟨⟨c0, c1, c2, c3⟩, la⟩ := K2.out.f (w.heap.size, .int .i64 L, .int .u8 (K.toNat : Int), .int .u8 (F.toNat : Int), .int .i64 S) (by simp); clear hb)
    | (at_builtin; refine wpList_append_full _ rfl (.tmp 46) (.tmp 47) 24 rfl w2.heap.size 5 i0 Try.underlying24 hinf.out.1 hinf.out.2.1 hinf.out.2.2.1 hinf.out.2.2.2 _ [] rfl (OwnB.lit2 w2 _ _ _ rfl (Nat.le_refl _)) _ A1 9 k1 _ rfl ((K2.out.al _).s (A1, 9, hdBytes L K F S) (by simp)) HN1.out (by simp) (by simp) ?_; intro v3 w3 hown hb _ _ _; rw [List.nil_append] at hown; have HO3 := Lib.hid hown; have B3 := Lib.hid (((Below.refl _ w2).alloc (Nat.le_refl _) _).trans hb); have K3 := Lib.hid (K2.out.on B3.out); clear hown hb)
    | (at_builtin; refine wpList_append_full _ rfl (.tmp 48) (.tmp 49) 24 rfl w2.heap.size 5 i0 Try.underlying24 hinf.out.1 hinf.out.2.1 hinf.out.2.2.1 hinf.out.2.2.2 _ (hdBytes L K F S) rfl HO3.out _ A n c xs rfl (K3.out.s (A, n, xs) (by simp)) HAc.out (by rw [hdBytes_length]; omega) B3.out.size ?_; intro v4 w4 hown hb _ _ _; obtain ⟨A4, k4, rfl, hk4, hn4, hr4⟩ := hown.form2 (n := 9 + n) (by rw [List.length_append, hdBytes_length, HLx.out]); have HN4 := Lib.hid hn4; have HR4 := Lib.hid hr4; have B4 := Lib.hid (B3.out.trans hb); have K4 := Lib.hid (K2.out.on B4.out); clear hown hb hr4 hn4 K3 HO3)
    | (go_at_call 10; (with_reducible refine (take_back A4 _ n k4 L S K F xs _ HR4.out HN4.out HLx.out hn hL' hS' hk4 (Nat.le_refl _)).mono ?_); rintro e w5 ⟨v5, rfl, ho, hb⟩; obtain ⟨A5, k5, rfl, hk5, _, hr⟩ := ho.form2 HLx.out; have K5 := Lib.hid (((K4.out.on hb).addS hr).box 23 (.int .i64 L) (.int .u8 (K.toNat : Int)) (.int .u8 (F.toNat : Int)) (.int .i64 S)); have B5 := Lib.hid (((B2.out.trans (B4.out.mono B2.out.size)).trans (hb.mono (B2.out.trans (B4.out.mono B2.out.size)).size)).alloc ((B2.out.trans (B4.out.mono B2.out.size)).trans (hb.mono (B2.out.trans (B4.out.mono B2.out.size)).size)).size (.cells #[.int .i64 L, .int .u8 (K.toNat : Int), .int .u8 (F.toNat : Int), .int .i64 S] 23)); obtain ⟨⟨c0, c1, c2, c3⟩, la⟩ := K5.out.f (w.heap.size, .int .i64 L, .int .u8 (K.toNat : Int), .int .u8 (F.toNat : Int), .int .i64 S) (by simp); obtain ⟨⟨d0, d1', d2', d3'⟩, ld⟩ := K5.out.f (w5.heap.size, .int .i64 L, .int .u8 (K.toNat : Int), .int .u8 (F.toNat : Int), .int .i64 S) (by simp); clear ho hb hr K4)
    | (go_at_call 12; (with_reducible refine (lsame_any A5 A n n k5 c _ _ xs xs _ (K5.out.s (A5, n, xs) (by simp)) (K5.out.s (A, n, xs) (by simp))).mono ?_); rintro e w' ⟨rfl, rfl⟩; rw [beq_self_eq_true])
    | (go_at_call 10; (with_reducible refine (htake_no A n c _ h9).mono ?_); rintro e w6 ⟨rfl, hb⟩; have B6 := Lib.hid ((B5.out.trans (hb.mono B5.out.size)).alloc (B5.out.trans (hb.mono B5.out.size)).size (.cells #[.int .i64 0, .int .u8 0, .int .u8 0, .int .i64 0] 23)); clear hb c0 c1 c2 c3 la d0 d1' d2' d3' ld K5)
    | (go_at_call 7; refine (wakes_any _).mono ?_; rintro e w9 ⟨rfl, hb9⟩))
  go_ret
  exact ⟨rfl, B6.out.trans (hb9.mono B6.out.size)⟩
set_option maxRecDepth 100000 in
set_option maxHeartbeats 4000000 in
theorem back_no_few (L S : Int) (K F : UInt8) (A : Option Addr) (n c : Nat) (xs : List UInt8) (w : World) (hA : Bs w w.heap.size A n xs) (hAc : A = none → c = 0) (hn : n ≤ 3000) (hI : ¬ HeadIn L S) (h9 : n < 9) :
    Calls Try.prog 4 #[.agg #[.int .i64 L, .int .u8 (K.toNat : Int), .int .u8 (F.toNat : Int), .int .i64 S], .slice A n c] w fun e w' => e = .returned (.bool true) ∧ Below w.heap.size w w' := by
  have HAc := Lib.hid hAc
  have HLx := Lib.hid hA.1
  have hh : headB L S = false := headB_no hI
  have d1 : decide (3000 < (n : Int)) = false := by simp; omega
  have K0 := Lib.hid (((Env.nil w).addS hA).box 23 (.int .i64 L) (.int .u8 (K.toNat : Int)) (.int .u8 (F.toNat : Int)) (.int .i64 S))
  have B0 : Hid (Below w.heap.size w (w.alloc (.cells #[.int .i64 L, .int .u8 (K.toNat : Int), .int .u8 (F.toNat : Int), .int .i64 S] 23))) := Lib.hid ((Below.refl _ w).alloc (Nat.le_refl _) _)
  obtain ⟨i0, hi, hz0, hz1, hz2⟩ := info_parts info_u8
  have hinf := Lib.hid (And.intro hi (And.intro hz0 (And.intro hz1 hz2)))
  clear hA hAc hi hz0 hz1 hz2
  go_enter Try.func4, Try.ntmps4
  go_wp2_with (first
    | (go_at_call 8; (with_reducible refine (hput_no _ _ _ _ _ hI).mono ?_); rintro e w1 ⟨rfl, hb⟩; have K1 := Lib.hid (K0.out.on hb); have B1 := Lib.hid (B0.out.trans (hb.mono B0.out.size)); obtain ⟨⟨c0, c1, c2, c3⟩, la⟩ := K1.out.f (w.heap.size, .int .i64 L, .int .u8 (K.toNat : Int), .int .u8 (F.toNat : Int), .int .i64 S) (by simp); clear hb)
    | (go_at_call 16; refine (rright_any _ _ _ _ _).mono ?_; rintro e w5 ⟨rfl, hb⟩; rw [hh]; clear hh; have K5 := Lib.hid (K1.out.on hb); have B5 := Lib.hid (B1.out.trans (hb.mono B1.out.size)); clear hb)
    | (go_at_call 10; (with_reducible refine (htake_no A n c _ h9).mono ?_); rintro e w6 ⟨rfl, hb⟩; have B6 := Lib.hid ((B5.out.trans (hb.mono B5.out.size)).alloc (B5.out.trans (hb.mono B5.out.size)).size (.cells #[.int .i64 0, .int .u8 0, .int .u8 0, .int .i64 0] 23)); clear hb)
    | (go_at_call 7; refine (wakes_any _).mono ?_; rintro e w9 ⟨rfl, hb9⟩))
  go_ret
  exact ⟨rfl, B6.out.trans (hb9.mono B6.out.size)⟩
theorem nine_bs {W : World} {B n : Nat} {A : Option Addr} {a0 a1 a2 a3 a4 a5 a6 a7 a8 : UInt8} {r xs : List UInt8} (hx : xs = a0 :: a1 :: a2 :: a3 :: a4 :: a5 :: a6 :: a7 :: a8 :: r) (h : Bs W B A n xs) (h9 : 9 ≤ n) : Bs W B A 9 [a0, a1, a2, a3, a4, a5, a6, a7, a8] := by
  have := h.take h9
  rw [hx] at this
  exact this
theorem b8_of {w w6 w8 w9 : World} {o : Obj} (h6 : Below w.heap.size w (w6.alloc o)) (h8 : Below (w6.heap.size + 1) (w6.alloc o) w8) (h9 : Below w8.heap.size w8 w9) : Below w.heap.size w w9 := by
  have h := h6.size
  rw [World.size_alloc] at h
  have h68 := h6.trans (h8.mono h)
  exact h68.trans (h9.mono h68.size)
/-- The nine bytes of the call's own: the sixth one may be read, and written. -/
theorem nine_own {W : World} {y : UInt8} {B : Nat} {v : Value} {a0 a1 a2 a3 a4 a5 a6 a7 a8 : UInt8} (h : OwnB W B 5 v ([] ++ [a0, a1, a2, a3, a4, a5, a6, a7, a8])) (hv : v ≠ .slice none 0 0) :
    ∃ g k, v = .slice (some ⟨g, 0, none⟩) 9 k ∧ B ≤ g ∧ 9 ≤ k ∧ W.cell? ⟨g, 5, none⟩ = some (.int .u8 (a5.toNat : Int)) ∧ W.frozen? ⟨g, 5, none⟩ = false ∧
      Bs (W.setCell ⟨g, 5, none⟩ (.int .u8 (y.toNat : Int))) (W.setCell ⟨g, 5, none⟩ (.int .u8 (y.toNat : Int))).heap.size (some ⟨g, 0, none⟩) 9 [a0, a1, a2, a3, a4, y, a6, a7, a8] := by
  obtain ⟨A, k, rfl, hk, _, _⟩ := h.form2 (n := 9) rfl
  obtain ⟨g, rfl, hB, hg, hnk, hc, hf, hs⟩ := h.at_ (j := 5) (by simp)
  refine ⟨g, k, rfl, hB, hnk, hc, hf, ?_⟩
  obtain ⟨_, _, e, _, _, hr⟩ := (hs y).form2 (n := 9) rfl
  cases e
  exact hr
set_option maxRecDepth 100000 in
set_option maxHeartbeats 4000000 in
theorem back_yes_nine (L S : Nat) (K F : UInt8) (A : Option Addr) (n c : Nat) (xs : List UInt8) (w : World) (hA : Bs w w.heap.size A n xs) (hAc : A = none → c = 0) (hn : n ≤ 3000) (hnc : n ≤ c) (hL' : L < 16777216) (hS' : S < 2147483648) (h9 : 9 ≤ n) :
    Calls Try.prog 4 #[.agg #[.int .i64 L, .int .u8 (K.toNat : Int), .int .u8 (F.toNat : Int), .int .i64 S], .slice A n c] w fun e w' => e = .returned (.bool true) ∧ Below w.heap.size w w' := by
  have HAc := Lib.hid hAc
  have HLx := Lib.hid hA.1
  have hh : headB L S = true := headB_yes ⟨by omega, by omega, by omega, by omega⟩
  have d1 : decide (3000 < (n : Int)) = false := by simp; omega
  have HLd : Hid ((xs.drop 9).length = n - 9) := Lib.hid (by rw [List.length_drop, hA.1])
  obtain ⟨b, o, rfl, _, _⟩ := hA.2 (by omega)
  have hcut := hA.cut (k := 9) h9 hnc
  obtain ⟨A2, hA2⟩ : ∃ A2, (if c = 9 then some (⟨b, o, none⟩ : Addr) else some ⟨b, o + 9, none⟩) = A2 := ⟨_, rfl⟩
  rw [hA2] at hcut
  obtain ⟨a0, a1, a2, a3, a4, a5, a6, a7, a8, r, hx⟩ := nine (show 9 ≤ xs.length by rw [hA.1]; exact h9)
  have HX := Lib.hid hx
  obtain ⟨y, hy⟩ : ∃ y : UInt8, y = a5 &&& 127 := ⟨_, rfl⟩
  have h127 : bits .and .u8 (a5.toNat : Int) 127 = (y.toNat : Int) := by rw [hy]; exact u8_and_127 a5
  have HY := Lib.hid hy
  have K0 := Lib.hid ((((Env.nil w).addS hA).addS hcut).box 23 (.int .i64 L) (.int .u8 (K.toNat : Int)) (.int .u8 (F.toNat : Int)) (.int .i64 S))
  clear hcut hx hy
  have B0 : Hid (Below w.heap.size w (w.alloc (.cells #[.int .i64 L, .int .u8 (K.toNat : Int), .int .u8 (F.toNat : Int), .int .i64 S] 23))) := Lib.hid ((Below.refl _ w).alloc (Nat.le_refl _) _)
  obtain ⟨i0, hi, hz0, hz1, hz2⟩ := info_parts info_u8
  have hinf := Lib.hid (And.intro hi (And.intro hz0 (And.intro hz1 hz2)))
  clear hA hAc hi hz0 hz1 hz2
  go_enter Try.func4, Try.ntmps4
  go_wp2_with (first
    | (go_at_call 8; (with_reducible refine (hput_yes L S K F _ hL' hS').mono ?_); rintro e w1 ⟨v1, rfl, ho, hb⟩; obtain ⟨A1, k1, rfl, hk1, hn1, hr⟩ := ho.form2 (hdBytes_length ..); have HN1 := Lib.hid hn1; have K1 := Lib.hid ((K0.out.on hb).addS hr); have B1 := Lib.hid (B0.out.trans (hb.mono B0.out.size)); obtain ⟨⟨c0, c1, c2, c3⟩, la⟩ := K1.out.f (w.heap.size, .int .i64 L, .int .u8 (K.toNat : Int), .int .u8 (F.toNat : Int), .int .i64 S) (by simp); clear ho hb hr hn1)
    | (go_at_call 16; refine (rright_any _ _ _ _ _).mono ?_; rintro e w2 ⟨rfl, hb⟩; rw [hh]; clear hh; have K2 := Lib.hid (K1.out.on hb); have B2 := Lib.hid (B1.out.trans (hb.mono B1.out.size)); obtain ⟨⟨c0, c1, c2, c3⟩, la⟩ := K2.out.f (w.heap.size, .int .i64 L, .int .u8 (K.toNat : Int), .int .u8 (F.toNat : Int), .int .i64 S) (by simp); clear hb)
    | (at_builtin; refine wpList_append_full _ rfl (.tmp 46) (.tmp 47) 24 rfl w2.heap.size 5 i0 Try.underlying24 hinf.out.1 hinf.out.2.1 hinf.out.2.2.1 hinf.out.2.2.2 _ [] rfl (OwnB.lit2 w2 _ _ _ rfl (Nat.le_refl _)) _ A1 9 k1 _ rfl ((K2.out.al _).s (A1, 9, hdBytes L K F S) (by simp)) HN1.out (by simp) (by simp) ?_; intro v3 w3 hown hb _ _ _; rw [List.nil_append] at hown; have HO3 := Lib.hid hown; have B3 := Lib.hid (((Below.refl _ w2).alloc (Nat.le_refl _) _).trans hb); have K3 := Lib.hid (K2.out.on B3.out); clear hown hb)
    | (at_builtin; refine wpList_append_full _ rfl (.tmp 48) (.tmp 49) 24 rfl w2.heap.size 5 i0 Try.underlying24 hinf.out.1 hinf.out.2.1 hinf.out.2.2.1 hinf.out.2.2.2 _ (hdBytes L K F S) rfl HO3.out _ (some ⟨b, o, none⟩) n c xs rfl (K3.out.s (some ⟨b, o, none⟩, n, xs) (by simp)) HAc.out (by rw [hdBytes_length]; omega) B3.out.size ?_; intro v4 w4 hown hb _ _ _; obtain ⟨A4, k4, rfl, hk4, hn4, hr4⟩ := hown.form2 (n := 9 + n) (by rw [List.length_append, hdBytes_length, HLx.out]); have HN4 := Lib.hid hn4; have HR4 := Lib.hid hr4; have B4 := Lib.hid (B3.out.trans hb); have K4 := Lib.hid (K2.out.on B4.out); clear hown hb hr4 hn4 K3 HO3)
    | (go_at_call 10; (with_reducible refine (take_back A4 _ n k4 L S K F xs _ HR4.out HN4.out HLx.out hn hL' hS' hk4 (Nat.le_refl _)).mono ?_); rintro e w5 ⟨v5, rfl, ho, hb⟩; obtain ⟨A5, k5, rfl, hk5, _, hr⟩ := ho.form2 HLx.out; have K5 := Lib.hid (((K4.out.on hb).addS hr).box 23 (.int .i64 L) (.int .u8 (K.toNat : Int)) (.int .u8 (F.toNat : Int)) (.int .i64 S)); have B5 := Lib.hid (((B2.out.trans (B4.out.mono B2.out.size)).trans (hb.mono (B2.out.trans (B4.out.mono B2.out.size)).size)).alloc ((B2.out.trans (B4.out.mono B2.out.size)).trans (hb.mono (B2.out.trans (B4.out.mono B2.out.size)).size)).size (.cells #[.int .i64 L, .int .u8 (K.toNat : Int), .int .u8 (F.toNat : Int), .int .i64 S] 23)); obtain ⟨⟨c0, c1, c2, c3⟩, la⟩ := K5.out.f (w.heap.size, .int .i64 L, .int .u8 (K.toNat : Int), .int .u8 (F.toNat : Int), .int .i64 S) (by simp); obtain ⟨⟨d0, d1', d2', d3'⟩, ld⟩ := K5.out.f (w5.heap.size, .int .i64 L, .int .u8 (K.toNat : Int), .int .u8 (F.toNat : Int), .int .i64 S) (by simp); clear ho hb hr K4)
    | (go_at_call 12; (with_reducible refine (lsame_any A5 (some ⟨b, o, none⟩) n n k5 c _ _ xs xs _ (K5.out.s (A5, n, xs) (by simp)) (K5.out.s (some ⟨b, o, none⟩, n, xs) (by simp))).mono ?_); rintro e w' ⟨rfl, rfl⟩; rw [beq_self_eq_true])
    | (go_at_call 10; (with_reducible refine (htake_yes (some ⟨b, o, none⟩) _ n c xs _ (K5.out.s (some ⟨b, o, none⟩, n, xs) (by simp)) HAc.out h9 (by omega) hnc (Nat.le_refl _)).mono ?_); rintro e w6 ⟨v6, rfl, ho, hb⟩; obtain ⟨A6, k6, rfl, hk6, _, hr⟩ := ho.form2 HLd.out; have K6 := Lib.hid (((K5.out.on hb).addS hr).box 23 (.int .i64 (hL xs)) (.int .u8 (hK xs)) (.int .u8 (hF xs)) (.int .i64 (hS xs))); have B6 := Lib.hid ((B5.out.trans (hb.mono B5.out.size)).alloc (B5.out.trans (hb.mono B5.out.size)).size (.cells #[.int .i64 (hL xs), .int .u8 (hK xs), .int .u8 (hF xs), .int .i64 (hS xs)] 23)); clear ho hb hr K5 B5)
    | (at_builtin; refine wpList_append_full _ rfl (.tmp 97) (.tmp 99) 24 rfl (w6.heap.size + 1) 5 i0 Try.underlying24 hinf.out.1 hinf.out.2.1 hinf.out.2.2.1 hinf.out.2.2.2 _ [] rfl (OwnB.lit2 (w6.alloc _) _ _ _ (by simp) (Nat.le_refl _)) _ (some ⟨b, o, none⟩) 9 c [a0, a1, a2, a3, a4, a5, a6, a7, a8] rfl (nine_bs HX.out ((K6.out.al _).s (some ⟨b, o, none⟩, n, xs) (by simp)) h9) HAc.out (by simp) (by simp) ?_; intro v7 w7 hown hb _ _ hv7; have hne := hv7 (fun h => by cases h); obtain ⟨g, k7, rfl, hg, hk7, hc7, hf7, hs7⟩ := nine_own (y := y) hown hne; have B8 := Lib.hid ((((Below.refl (w6.heap.size + 1) (w6.alloc (.cells #[.int .i64 (hL xs), .int .u8 (hK xs), .int .u8 (hF xs), .int .i64 (hS xs)] 23))).alloc (by simp) _).trans hb).setCell (p := ⟨g, 5, none⟩) hg (.int .u8 (y.toNat : Int))); have K8 := Lib.hid ((K6.out.on (B8.out.mono (by simp))).addS hs7); obtain ⟨⟨e0, e1, e2, e3⟩, le⟩ := K8.out.f (w6.heap.size, .int .i64 (hL xs), .int .u8 (hK xs), .int .u8 (hF xs), .int .i64 (hS xs)) (by simp); have hg6 : w6.heap.size ≠ g := Nat.ne_of_lt hg; clear hown hb hv7 hne hs7 K6)
    | (go_at_call 8; (with_reducible refine (put_back a0 a1 a2 a3 a4 a5 a6 a7 a8 r xs HX.out y HY.out _).mono ?_); rintro e w9 ⟨v9, rfl, ho, hb⟩; obtain ⟨A9, k9, rfl, hk9, _, hr⟩ := ho.form2 (n := 9) rfl; have K9 := Lib.hid ((K8.out.on hb).addS hr); have B9 := Lib.hid (b8_of B6.out B8.out hb); clear ho hb hr K8)
    | (go_at_call 12; (with_reducible refine (lsame_any A9 (some ⟨g, 0, none⟩) 9 9 k9 k7 _ _ [a0, a1, a2, a3, a4, y, a6, a7, a8] [a0, a1, a2, a3, a4, y, a6, a7, a8] _ (K9.out.s (A9, 9, [a0, a1, a2, a3, a4, y, a6, a7, a8]) (by simp)) (K9.out.s (some ⟨g, 0, none⟩, 9, [a0, a1, a2, a3, a4, y, a6, a7, a8]) (by simp))).mono ?_); rintro e w' ⟨rfl, rfl⟩; rw [beq_self_eq_true])
    | (go_at_call 12; (with_reducible refine (lsame_any A6 A2 (n - 9) (n - 9) k6 (c - 9) _ _ (xs.drop 9) (xs.drop 9) _ (K9.out.s (A6, n - 9, xs.drop 9) (by simp)) (K9.out.s (A2, n - 9, xs.drop 9) (by simp))).mono ?_); rintro e w' ⟨rfl, rfl⟩; rw [beq_self_eq_true])
    | (go_at_call 7; refine (wakes_any _).mono ?_; rintro e w10 ⟨rfl, hb10⟩))
  go_ret
  exact ⟨rfl, B9.out.trans (hb10.mono B9.out.size)⟩
set_option maxRecDepth 100000 in
set_option maxHeartbeats 4000000 in
theorem back_no_nine (L S : Int) (K F : UInt8) (A : Option Addr) (n c : Nat) (xs : List UInt8) (w : World) (hA : Bs w w.heap.size A n xs) (hAc : A = none → c = 0) (hn : n ≤ 3000) (hnc : n ≤ c) (hI : ¬ HeadIn L S) (h9 : 9 ≤ n) :
    Calls Try.prog 4 #[.agg #[.int .i64 L, .int .u8 (K.toNat : Int), .int .u8 (F.toNat : Int), .int .i64 S], .slice A n c] w fun e w' => e = .returned (.bool true) ∧ Below w.heap.size w w' := by
  have HAc := Lib.hid hAc
  have HLx := Lib.hid hA.1
  have hh : headB L S = false := headB_no hI
  have d1 : decide (3000 < (n : Int)) = false := by simp; omega
  have HLd : Hid ((xs.drop 9).length = n - 9) := Lib.hid (by rw [List.length_drop, hA.1])
  obtain ⟨b, o, rfl, _, _⟩ := hA.2 (by omega)
  have hcut := hA.cut (k := 9) h9 hnc
  obtain ⟨A2, hA2⟩ : ∃ A2, (if c = 9 then some (⟨b, o, none⟩ : Addr) else some ⟨b, o + 9, none⟩) = A2 := ⟨_, rfl⟩
  rw [hA2] at hcut
  obtain ⟨a0, a1, a2, a3, a4, a5, a6, a7, a8, r, hx⟩ := nine (show 9 ≤ xs.length by rw [hA.1]; exact h9)
  have HX := Lib.hid hx
  obtain ⟨y, hy⟩ : ∃ y : UInt8, y = a5 &&& 127 := ⟨_, rfl⟩
  have h127 : bits .and .u8 (a5.toNat : Int) 127 = (y.toNat : Int) := by rw [hy]; exact u8_and_127 a5
  have HY := Lib.hid hy
  have K0 := Lib.hid ((((Env.nil w).addS hA).addS hcut).box 23 (.int .i64 L) (.int .u8 (K.toNat : Int)) (.int .u8 (F.toNat : Int)) (.int .i64 S))
  clear hcut hx hy
  have B0 : Hid (Below w.heap.size w (w.alloc (.cells #[.int .i64 L, .int .u8 (K.toNat : Int), .int .u8 (F.toNat : Int), .int .i64 S] 23))) := Lib.hid ((Below.refl _ w).alloc (Nat.le_refl _) _)
  obtain ⟨i0, hi, hz0, hz1, hz2⟩ := info_parts info_u8
  have hinf := Lib.hid (And.intro hi (And.intro hz0 (And.intro hz1 hz2)))
  clear hA hAc hi hz0 hz1 hz2
  go_enter Try.func4, Try.ntmps4
  go_wp2_with (first
    | (go_at_call 8; (with_reducible refine (hput_no _ _ _ _ _ hI).mono ?_); rintro e w1 ⟨rfl, hb⟩; have K1 := Lib.hid (K0.out.on hb); have B1 := Lib.hid (B0.out.trans (hb.mono B0.out.size)); obtain ⟨⟨c0, c1, c2, c3⟩, la⟩ := K1.out.f (w.heap.size, .int .i64 L, .int .u8 (K.toNat : Int), .int .u8 (F.toNat : Int), .int .i64 S) (by simp); clear hb)
    | (go_at_call 16; refine (rright_any _ _ _ _ _).mono ?_; rintro e w5 ⟨rfl, hb⟩; rw [hh]; clear hh; have K5 := Lib.hid (K1.out.on hb); have B5 := Lib.hid (B1.out.trans (hb.mono B1.out.size)); clear hb)
    | (go_at_call 10; (with_reducible refine (htake_yes (some ⟨b, o, none⟩) _ n c xs _ (K5.out.s (some ⟨b, o, none⟩, n, xs) (by simp)) HAc.out h9 (by omega) hnc (Nat.le_refl _)).mono ?_); rintro e w6 ⟨v6, rfl, ho, hb⟩; obtain ⟨A6, k6, rfl, hk6, _, hr⟩ := ho.form2 HLd.out; have K6 := Lib.hid (((K5.out.on hb).addS hr).box 23 (.int .i64 (hL xs)) (.int .u8 (hK xs)) (.int .u8 (hF xs)) (.int .i64 (hS xs))); have B6 := Lib.hid ((B5.out.trans (hb.mono B5.out.size)).alloc (B5.out.trans (hb.mono B5.out.size)).size (.cells #[.int .i64 (hL xs), .int .u8 (hK xs), .int .u8 (hF xs), .int .i64 (hS xs)] 23)); clear ho hb hr K5 B5)
    | (at_builtin; refine wpList_append_full _ rfl (.tmp 97) (.tmp 99) 24 rfl (w6.heap.size + 1) 5 i0 Try.underlying24 hinf.out.1 hinf.out.2.1 hinf.out.2.2.1 hinf.out.2.2.2 _ [] rfl (OwnB.lit2 (w6.alloc _) _ _ _ (by simp) (Nat.le_refl _)) _ (some ⟨b, o, none⟩) 9 c [a0, a1, a2, a3, a4, a5, a6, a7, a8] rfl (nine_bs HX.out ((K6.out.al _).s (some ⟨b, o, none⟩, n, xs) (by simp)) h9) HAc.out (by simp) (by simp) ?_; intro v7 w7 hown hb _ _ hv7; have hne := hv7 (fun h => by cases h); obtain ⟨g, k7, rfl, hg, hk7, hc7, hf7, hs7⟩ := nine_own (y := y) hown hne; have B8 := Lib.hid ((((Below.refl (w6.heap.size + 1) (w6.alloc (.cells #[.int .i64 (hL xs), .int .u8 (hK xs), .int .u8 (hF xs), .int .i64 (hS xs)] 23))).alloc (by simp) _).trans hb).setCell (p := ⟨g, 5, none⟩) hg (.int .u8 (y.toNat : Int))); have K8 := Lib.hid ((K6.out.on (B8.out.mono (by simp))).addS hs7); obtain ⟨⟨e0, e1, e2, e3⟩, le⟩ := K8.out.f (w6.heap.size, .int .i64 (hL xs), .int .u8 (hK xs), .int .u8 (hF xs), .int .i64 (hS xs)) (by simp); have hg6 : w6.heap.size ≠ g := Nat.ne_of_lt hg; clear hown hb hv7 hne hs7 K6)
    | (go_at_call 8; (with_reducible refine (put_back a0 a1 a2 a3 a4 a5 a6 a7 a8 r xs HX.out y HY.out _).mono ?_); rintro e w9 ⟨v9, rfl, ho, hb⟩; obtain ⟨A9, k9, rfl, hk9, _, hr⟩ := ho.form2 (n := 9) rfl; have K9 := Lib.hid ((K8.out.on hb).addS hr); have B9 := Lib.hid (b8_of B6.out B8.out hb); clear ho hb hr K8)
    | (go_at_call 12; (with_reducible refine (lsame_any A9 (some ⟨g, 0, none⟩) 9 9 k9 k7 _ _ [a0, a1, a2, a3, a4, y, a6, a7, a8] [a0, a1, a2, a3, a4, y, a6, a7, a8] _ (K9.out.s (A9, 9, [a0, a1, a2, a3, a4, y, a6, a7, a8]) (by simp)) (K9.out.s (some ⟨g, 0, none⟩, 9, [a0, a1, a2, a3, a4, y, a6, a7, a8]) (by simp))).mono ?_); rintro e w' ⟨rfl, rfl⟩; rw [beq_self_eq_true])
    | (go_at_call 12; (with_reducible refine (lsame_any A6 A2 (n - 9) (n - 9) k6 (c - 9) _ _ (xs.drop 9) (xs.drop 9) _ (K9.out.s (A6, n - 9, xs.drop 9) (by simp)) (K9.out.s (A2, n - 9, xs.drop 9) (by simp))).mono ?_); rintro e w' ⟨rfl, rfl⟩; rw [beq_self_eq_true])
    | (go_at_call 7; refine (wakes_any _).mono ?_; rintro e w10 ⟨rfl, hb10⟩))
  go_ret
  exact ⟨rfl, B9.out.trans (hb10.mono B9.out.size)⟩
end Go.Proofs.Ytodghbfgfdbaiaa
