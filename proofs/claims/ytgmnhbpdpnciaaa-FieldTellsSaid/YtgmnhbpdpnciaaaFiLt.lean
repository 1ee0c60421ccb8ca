/- The walk of FieldTells: whatever is handed in, true; nothing that was there has turned. -/
import Derived.Test.YtgmnhbpdpnciaaaFiS
import Derived.Test.YtgmnhbpdpnciaaaGArgsP
import Derived.Deep.RegionHeld3
namespace Go.Proofs.Ytgmnhbpdpnciaaa
open Go.RowKit Oct Fi

theorem OwnP.hands {W : World} {B : Nat} {t : TypeId} {v : Value} {ys : List Pr} (h : OwnP W B t v ys) : ∃ A n c, v = .slice A n c ∧ Ps W W.heap.size A n ys := by
  obtain ⟨A, c, e, _, _, _, hb⟩ := h.form
  exact ⟨A, _, c, e, hb⟩
theorem tp_small {W : World} {B n k : Nat} {A : Option Addr} {xs : List UInt8} (h : Ps W B A k (tpV xs n)) (hn : n ≤ 600) : k ≤ 1000000 := by
  have h1 := h.1
  unfold tpV at h1
  split at h1
  · simp at h1; omega
  · simp at h1; omega
set_option maxRecDepth 100000 in
set_option maxHeartbeats 1000000 in
theorem tells_great (A L L2 : Option Addr) (n c m cl m2 cl2 : Nat) (M D W id : Int) (a : Bool) (w : World) (h : 600 < n ∨ 60 < m ∨ 60 < m2) (hn : n ≤ maxLen) (hm : m ≤ maxLen) (hm2 : m2 ≤ maxLen) :
    Calls Try.prog 3 #[.slice A n c, .int .i64 M, .agg #[.bool a, .int .i64 D, .int .u8 W], .slice L m cl, .slice L2 m2 cl2, .int .u16 id] w fun e w' => e = .returned (.bool true) ∧ Below w.heap.size w w' := by
  unfold maxLen at hn hm hm2
  by_cases h1 : 600 < n
  · clear h
    go_enter Try.func3, Try.ntmps3
    go_wp2_with (go_at_call 7; refine (wakes_any _).mono ?_; rintro e w' ⟨rfl, hb⟩)
    go_ret
    exact ⟨rfl, ((Below.refl _ w).alloc (Nat.le_refl _) _).trans (hb.mono (by simp))⟩
  · by_cases h2 : 60 < m
    · clear h
      go_enter Try.func3, Try.ntmps3
      go_wp2_with (go_at_call 7; refine (wakes_any _).mono ?_; rintro e w' ⟨rfl, hb⟩)
      go_ret
      exact ⟨rfl, ((Below.refl _ w).alloc (Nat.le_refl _) _).trans (hb.mono (by simp))⟩
    · have h3 : 60 < m2 := by omega
      clear h
      go_enter Try.func3, Try.ntmps3
      go_wp2_with (go_at_call 7; refine (wakes_any _).mono ?_; rintro e w' ⟨rfl, hb⟩)
      go_ret
      exact ⟨rfl, ((Below.refl _ w).alloc (Nat.le_refl _) _).trans (hb.mono (by simp))⟩
set_option maxRecDepth 100000 in
set_option maxHeartbeats 4000000 in
theorem tells_yes (A L L2 : Option Addr) (n c m cl m2 cl2 : Nat) (M D : Int) (W : UInt8) (id : UInt16) (a : Bool) (xs : List UInt8) (l l2 : List Pr) (w : World) (hA : Bs w w.heap.size A n xs) (hAc : A = none → c = 0) (hn6 : n ≤ 600) (hnc : n ≤ c) (hL : Ps w w.heap.size L m l) (hL2 : Ps w w.heap.size L2 m2 l2) (hm6 : m ≤ 60) (hm2 : m2 ≤ 60) :
    Calls Try.prog 3 #[.slice A n c, .int .i64 M, .agg #[.bool a, .int .i64 D, .int .u8 (W.toNat : Int)], .slice L m cl, .slice L2 m2 cl2, .int .u16 (id.toNat : Int)] w fun e w' => e = .returned (.bool true) ∧ Below w.heap.size w w' := by
  have HN := Lib.hid hAc
  have B0 : Hid (Below w.heap.size w (w.alloc (.cells #[.bool a, .int .i64 D, .int .u8 (W.toNat : Int)] 24))) := Lib.hid ((Below.refl _ w).alloc (Nat.le_refl _) _)
  have K0 := Lib.hid (((((EnvP.nil w).addS hA).addP hL).addP hL2).box 24 #[.bool a, .int .i64 D, .int .u8 (W.toNat : Int)])
  have hn1 : n ≤ 1000000 := by omega
  have hn4 : n ≤ 10000 := by omega
  have hm1 : m ≤ 1000000 := by omega
  have hm4 : m ≤ 10000 := by omega
  clear hA hAc hL hL2
  go_enter Try.func3, Try.ntmps3
  go_wp2_with (first
    | (go_at_call 8; (with_reducible refine (fpad_tot A n c M xs _ (K0.out.s (A, n, xs) (by simp)) HN.out hn4).mono ?_); rintro e w1 ⟨v1, rfl, ho, hb⟩; obtain ⟨A1, n1, c1, rfl, hr⟩ := ho.hands; have K1 := Lib.hid ((K0.out.on hb).addS hr); have B1 := Lib.hid (below_step B0.out hb); clear hb B0 K0 ho hr)
    | (go_at_call 9; (with_reducible refine (rfpad_tot A n c M xs _ (K1.out.s (A, n, xs) (by simp)) HN.out hn4).mono ?_); rintro e w2 ⟨v2, rfl, ho, hb⟩; obtain ⟨A2, n2, c2, rfl, hr⟩ := ho.hands; have K2 := Lib.hid ((K1.out.on hb).addS hr); have B2 := Lib.hid (below_step B1.out hb); clear hb B1 K1 ho hr)
    | (go_at_call 10; (with_reducible refine (unpad_tot A n c xs _ (K2.out.s (A, n, xs) (by simp)) hn1 hnc).mono ?_); rintro e w3 ⟨v3, rfl, ho, hb⟩; obtain ⟨A3, n3, c3, rfl, hr⟩ := ho.hands; have K3 := Lib.hid ((K2.out.on hb).addS hr); have B3 := Lib.hid (below_step B2.out hb); clear hb B2 K2 ho hr)
    | (go_at_call 11; (with_reducible refine (runpad_tot A n c xs _ (K3.out.s (A, n, xs) (by simp)) hn1 hnc).mono ?_); rintro e w4 ⟨v4, rfl, ho, hb⟩; obtain ⟨A4, n4, c4, rfl, hr⟩ := ho.hands; have K4 := Lib.hid ((K3.out.on hb).addS hr); obtain ⟨p0, p1, p2⟩ := K4.out.c3 (g := w.heap.size) (a := .bool a) (b := .int .i64 D) (c := .int .u8 (W.toNat : Int)) (by simp); have B4 := Lib.hid (below_step B3.out hb); clear hb B3 K3 ho hr)
    | (go_at_call 12; (with_reducible refine (refsame_any A1 A2 n1 n2 c1 c2 _ _ (padV xs M) (padV xs M) _ (K4.out.s (A1, n1, padV xs M) (by simp)) (K4.out.s (A2, n2, padV xs M) (by simp))).mono ?_); rintro e w' ⟨rfl, rfl⟩; rw [beq_self_eq_true])
    | (go_at_call 12; (with_reducible refine (refsame_any A3 A4 n3 n4 c3 c4 _ _ (unV xs n) (unV xs n) _ (K4.out.s (A3, n3, unV xs n) (by simp)) (K4.out.s (A4, n4, unV xs n) (by simp))).mono ?_); rintro e w' ⟨rfl, rfl⟩; rw [beq_self_eq_true])
    | (go_at_call 13; (with_reducible refine (fprank_tot a D W _).mono ?_); rintro e w5 ⟨v5, rfl, ho, hb⟩; obtain ⟨A5, n5, c5, rfl, hr⟩ := ho.hands; have K5 := Lib.hid ((K4.out.on hb).addS hr); obtain ⟨p0, p1, p2⟩ := K5.out.c3 (g := w.heap.size) (a := .bool a) (b := .int .i64 D) (c := .int .u8 (W.toNat : Int)) (by simp); have B5 := Lib.hid (below_step B4.out hb); clear hb B4 K4 ho hr)
    | (go_at_call 14; (with_reducible refine (rprank_tot a D W _).mono ?_); rintro e w6 ⟨v6, rfl, ho, hb⟩; obtain ⟨A6, n6, c6, rfl, hr⟩ := ho.hands; have K6 := Lib.hid ((K5.out.on hb).addS hr); have B6 := Lib.hid (below_step B5.out hb); clear hb B5 K5 ho hr)
    | (go_at_call 15; (with_reducible refine (ftrank_tot A n c xs _ (K6.out.s (A, n, xs) (by simp)) hn1 hnc).mono ?_); rintro e w7 ⟨v7, rfl, ho, hb⟩; obtain ⟨A7, n7, c7, rfl, hr⟩ := ho.hands; have K7 := Lib.hid (((K6.out.on hb).addS hr).box 24 #[.bool (trA xs n), .int .i64 (trD xs n), .int .u8 (trW xs n)]); have B7 := Lib.hid (below_step (below_step B6.out hb) ((Below.refl _ w7).alloc (Nat.le_refl _) (.cells #[.bool (trA xs n), .int .i64 (trD xs n), .int .u8 (trW xs n)] 24))); clear ho hb hr K6 B6)
    | (go_at_call 16; (with_reducible refine (rtrank_tot A n c xs _ (K7.out.s (A, n, xs) (by simp)) hn1 hnc).mono ?_); rintro e w8 ⟨v8, rfl, ho, hb⟩; obtain ⟨A8, n8, c8, rfl, hr⟩ := ho.hands; have K8 := Lib.hid (((K7.out.on hb).addS hr).box 24 #[.bool (trA xs n), .int .i64 (trD xs n), .int .u8 (trW xs n)]); have B8 := Lib.hid (below_step (below_step B7.out hb) ((Below.refl _ w8).alloc (Nat.le_refl _) (.cells #[.bool (trA xs n), .int .i64 (trD xs n), .int .u8 (trW xs n)] 24))); obtain ⟨p0, p1, p2⟩ := K8.out.c3 (g := w7.heap.size) (a := .bool (trA xs n)) (b := .int .i64 (trD xs n)) (c := .int .u8 (trW xs n)) (by simp); obtain ⟨q0, q1, q2⟩ := K8.out.c3 (g := w8.heap.size) (a := .bool (trA xs n)) (b := .int .i64 (trD xs n)) (c := .int .u8 (trW xs n)) (by simp); clear ho hb hr K7 B7)
    | (go_at_call 12; (with_reducible refine (refsame_any A5 A6 n5 n6 c5 c6 _ _ (prV a D W) (prV a D W) _ (K8.out.s (A5, n5, prV a D W) (by simp)) (K8.out.s (A6, n6, prV a D W) (by simp))).mono ?_); rintro e w' ⟨rfl, rfl⟩; rw [beq_self_eq_true])
    | (go_at_call 12; (with_reducible refine (refsame_any A7 A8 n7 n8 c7 c8 _ _ (trR xs n) (trR xs n) _ (K8.out.s (A7, n7, trR xs n) (by simp)) (K8.out.s (A8, n8, trR xs n) (by simp))).mono ?_); rintro e w' ⟨rfl, rfl⟩; rw [beq_self_eq_true])
    | (go_at_call 17; (with_reducible refine (ftp_tot A n c xs _ (K8.out.s (A, n, xs) (by simp)) hn1 hnc).mono ?_); rintro e w9 ⟨v9, rfl, ho, hb⟩; obtain ⟨A9, n9, c9, rfl, hr⟩ := ho.hands; have hl9 : n9 ≤ 1000000 := tp_small hr hn6; have K9 := Lib.hid ((K8.out.on hb).addP hr); have B9 := Lib.hid (below_step B8.out hb); clear hb B8 K8 ho hr)
    | (go_at_call 18; (with_reducible refine (rtp_tot A n c xs _ (K9.out.s (A, n, xs) (by simp)) hn1).mono ?_); rintro e w10 ⟨v10, rfl, ho, hb⟩; obtain ⟨A10, n10, c10, rfl, hr⟩ := ho.hands; have hl10 : n10 ≤ 1000000 := tp_small hr hn6; have K10 := Lib.hid ((K9.out.on hb).addP hr); have B10 := Lib.hid (below_step B9.out hb); clear hb B9 K9 ho hr)
    | (go_at_call 19; (with_reducible refine (flast_any L m cl l id _ (K10.out.p (L, m, l) (by simp)) hm1).mono ?_); rintro e w11 ⟨rfl, hb⟩; have K11 := Lib.hid (K10.out.on hb); have B11 := Lib.hid (below_step B10.out hb); clear hb B10 K10)
    | (go_at_call 20; (with_reducible refine (rlast_any L m cl l id _ (K11.out.p (L, m, l) (by simp)) hm1).mono ?_); rintro e w' ⟨rfl, rfl⟩)
    | (go_at_call 21; (with_reducible refine (fpp_any L m cl l _ (K11.out.p (L, m, l) (by simp)) hm4).mono ?_); rintro e w12 ⟨v12, rfl, ho, hb⟩; obtain ⟨A12, n12, c12, rfl, hr⟩ := ho.hands; have K12 := Lib.hid ((K11.out.on hb).addS hr); have B12 := Lib.hid (below_step B11.out hb); clear hb B11 K11 ho hr)
    | (go_at_call 22; (with_reducible refine (rpp_any L m cl l _ (K12.out.p (L, m, l) (by simp)) hm4).mono ?_); rintro e w13 ⟨v13, rfl, ho, hb⟩; obtain ⟨A13, n13, c13, rfl, hr⟩ := ho.hands; have K13 := Lib.hid ((K12.out.on hb).addS hr); have B13 := Lib.hid (below_step B12.out hb); clear hb B12 K12 ho hr)
    | (go_at_call 12; (with_reducible refine (refsame_any A12 A13 n12 n13 c12 c13 _ _ (ppV l) (ppV l) _ (K13.out.s (A12, n12, ppV l) (by simp)) (K13.out.s (A13, n13, ppV l) (by simp))).mono ?_); rintro e w' ⟨rfl, rfl⟩; rw [beq_self_eq_true])
    | (go_at_call 23; (with_reducible refine (rpairs_any A9 A10 n9 n10 c9 c10 (tpV xs n) (tpV xs n) _ (K13.out.p (A9, n9, tpV xs n) (by simp)) (K13.out.p (A10, n10, tpV xs n) (by simp)) hl9).mono ?_); rintro e w14 ⟨rfl, hb⟩; rw [beq_self_eq_true]; have K14 := Lib.hid (K13.out.on hb); have B14 := Lib.hid (below_step B13.out hb); clear hb B13 K13)
    | (go_at_call 24; (with_reducible refine (fpairs_any L L2 m m2 cl cl2 l l2 _ (K14.out.p (L, m, l) (by simp)) (K14.out.p (L2, m2, l2) (by simp)) hm1).mono ?_); rintro e w15 ⟨rfl, hb⟩; have K15 := Lib.hid (K14.out.on hb); have B15 := Lib.hid (below_step B14.out hb); clear hb B14 K14)
    | (go_at_call 23; (with_reducible refine (rpairs_any L L2 m m2 cl cl2 l l2 _ (K15.out.p (L, m, l) (by simp)) (K15.out.p (L2, m2, l2) (by simp)) hm1).mono ?_); rintro e w16 ⟨rfl, hb⟩; have K16 := Lib.hid (K15.out.on hb); have B16 := Lib.hid (below_step B15.out hb); clear hb B15 K15)
    | (go_at_call 7; (with_reducible refine (wakes_any _).mono ?_); rintro e w17 ⟨rfl, hb⟩; have K17 := Lib.hid (K16.out.on hb); have B17 := Lib.hid (below_step B16.out hb); clear hb B16 K16))
  go_ret
  exact ⟨rfl, B17.out⟩
end Go.Proofs.Ytgmnhbpdpnciaaa
