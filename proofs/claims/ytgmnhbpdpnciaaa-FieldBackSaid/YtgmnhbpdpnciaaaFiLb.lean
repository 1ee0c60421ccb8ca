/- The walk of FieldBack: whatever is handed in, true; nothing that was there has turned. -/
import Derived.Test.YtgmnhbpdpnciaaaFiS
import Derived.Test.YtgmnhbpdpnciaaaFiT
import Derived.Test.YtgmnhbpdpnciaaaGArgsP
import Derived.Deep.RegionHeld3
namespace Go.Proofs.Ytgmnhbpdpnciaaa
open Go.RowKit Oct Fi

set_option maxRecDepth 100000 in
set_option maxHeartbeats 1000000 in
theorem back_great (A L : Option Addr) (n c m cl : Nat) (M D W : Int) (a : Bool) (w : World) (h : 300 < n ∨ 60 < m) (hn : n ≤ maxLen) (hm : m ≤ maxLen) :
    Calls Try.prog 4 #[.slice A n c, .int .i64 M, .agg #[.bool a, .int .i64 D, .int .u8 W], .slice L m cl] w fun e w' => e = .returned (.bool true) ∧ Below w.heap.size w w' := by
  unfold maxLen at hn hm
  by_cases h1 : 300 < n
  · clear h
    go_enter Try.func4, Try.ntmps4
    go_wp2_with (go_at_call 7; refine (wakes_any _).mono ?_; rintro e w' ⟨rfl, hb⟩)
    go_ret
    exact ⟨rfl, ((Below.refl _ w).alloc (Nat.le_refl _) _).trans (hb.mono (by simp))⟩
  · have h2 : 60 < m := by omega
    clear h
    go_enter Try.func4, Try.ntmps4
    go_wp2_with (go_at_call 7; refine (wakes_any _).mono ?_; rintro e w' ⟨rfl, hb⟩)
    go_ret
    exact ⟨rfl, ((Below.refl _ w).alloc (Nat.le_refl _) _).trans (hb.mono (by simp))⟩
set_option maxRecDepth 100000 in
set_option maxHeartbeats 4000000 in
theorem back_YY (A L : Option Addr) (n c m cl : Nat) (M D : Int) (W : UInt8) (a : Bool) (xs : List UInt8) (l : List Pr) (w : World) (hA : Bs w w.heap.size A n xs) (hAc : A = none → c = 0) (hn3 : n ≤ 300) (hL : Ps w w.heap.size L m l) (hm6 : m ≤ 60) (hp : PadIn M) (hr : RankIn D) :
    Calls Try.prog 4 #[.slice A n c, .int .i64 M, .agg #[.bool a, .int .i64 D, .int .u8 (W.toNat : Int)], .slice L m cl] w fun e w' => e = .returned (.bool true) ∧ Below w.heap.size w w' := by
  obtain ⟨i0, hi, hz0, hz1, hz2⟩ := info_parts info_u8
  have hinf := Lib.hid (And.intro hi (And.intro hz0 (And.intro hz1 hz2)))
  have HN := Lib.hid hAc
  have HX : Hid (xs.length = n) := Lib.hid hA.1
  have HLL : Hid (l.length = m) := Lib.hid hL.1
  have HPP : Hid ((ppV l).length = 6 * m) := Lib.hid (by rw [ppV_len, HLL.out])
  have HTP := Lib.hid (tp_put l (n := 6 * m) (by rw [HLL.out]))
  have B0 : Hid (Below w.heap.size w (w.alloc (.cells #[.bool a, .int .i64 D, .int .u8 (W.toNat : Int)] 24))) := Lib.hid ((Below.refl _ w).alloc (Nat.le_refl _) _)
  have K0 := Lib.hid ((((EnvP.nil w).addS hA).addP hL).box 24 #[.bool a, .int .i64 D, .int .u8 (W.toNat : Int)])
  have hn4 : n ≤ 10000 := by omega
  clear hi hz0 hz1 hz2 hA hAc hL
  have HPE : Hid (padE M = 0) := Lib.hid (by unfold padE; rw [if_pos hp])
  obtain ⟨n1, hn1e⟩ : ∃ n1, (padV xs M).length = n1 := ⟨_, rfl⟩
  have hpl := padV_len xs hp
  rw [hn1e, HX.out] at hpl
  have HPL := Lib.hid hn1e
  have HU := Lib.hid (un_pad xs hp hn1e)
  obtain ⟨hp1, hp2⟩ := hp
  have hn1 : n1 ≤ 1000000 := by omega
  have d1 : ((n1 : Int) != (n : Int) + (M + 1)) = false := by rw [hpl]; simp
  clear hn1e hpl
  have HRE : Hid (prE D = 0) := Lib.hid (by unfold prE; rw [if_pos hr])
  have HRL : Hid ((prV a D W).length = 5) := Lib.hid (prV_len a W hr)
  have HTR := Lib.hid (tr_put a W xs hr (n := n + 5) (by rw [HX.out]))
  obtain ⟨hr1, hr2⟩ := hr
  go_enter Try.func4, Try.ntmps4
  go_wp2_with (first
    | (go_at_call 8; (with_reducible refine (fpad_tot A n c M xs _ (K0.out.s (A, n, xs) (by simp)) HN.out hn4).mono ?_); rintro e w1 ⟨v1, rfl, ho, hb⟩; rw [HPE.out]; obtain ⟨A1, c1, rfl, hc1, _, hr⟩ := ho.form2 HPL.out; have K1 := Lib.hid ((K0.out.on hb).addS hr); have B1 := Lib.hid (below_step B0.out hb); clear ho hr; clear hb B0 K0)
    | (go_at_call 10; (with_reducible refine (unpad_tot A1 n1 c1 (padV xs M) _ (K1.out.s (A1, n1, padV xs M) (by simp)) hn1 hc1).mono ?_); rintro e w2 ⟨v2, rfl, ho, hb⟩; rw [HU.out.1, HU.out.2.1]; rw [HU.out.2.2] at ho; obtain ⟨A2, c2, rfl, _, _, hr⟩ := ho.form2 HX.out; have K2 := Lib.hid ((K1.out.on hb).addS hr); have B2 := Lib.hid (below_step B1.out hb); obtain ⟨p0, p1, p2⟩ := K2.out.c3 (g := w.heap.size) (a := .bool a) (b := .int .i64 D) (c := .int .u8 (W.toNat : Int)) (by simp); clear ho hr; clear hb B1 K1)
    | (go_at_call 12; (with_reducible refine (refsame_any A2 A n n c2 c _ _ xs xs _ (K2.out.s (A2, n, xs) (by simp)) (K2.out.s (A, n, xs) (by simp))).mono ?_); rintro e w' ⟨rfl, rfl⟩; rw [beq_self_eq_true])
    | (go_at_call 13; (with_reducible refine (fprank_tot a D W _).mono ?_); rintro e w3 ⟨v3, rfl, ho, hb⟩; rw [HRE.out]; obtain ⟨A3, c3, rfl, hc3, hn3, hr⟩ := ho.form2 HRL.out; have HN3 := Lib.hid hn3; have K3 := Lib.hid ((K2.out.on hb).addS hr); have B3 := Lib.hid (below_step B2.out hb); obtain ⟨p0, p1, p2⟩ := K3.out.c3 (g := w.heap.size) (a := .bool a) (b := .int .i64 D) (c := .int .u8 (W.toNat : Int)) (by simp); clear ho hr hn3; clear hb B2 K2)
    | (at_builtin; refine wpList_append_bytes _ rfl (.tmp 114) (.tmp 115) 22 rfl w3.heap.size 5 i0 Try.underlying22 hinf.out.1 hinf.out.2.1 hinf.out.2.2.1 hinf.out.2.2.2 _ [] rfl (OwnB.lit2 w3 _ _ _ rfl (Nat.le_refl _)) _ A3 5 c3 (prV a D W) rfl ((K3.out.al _).s (A3, 5, prV a D W) (by simp)) HN3.out (by simp) (by simp) ?_; intro v4 w4 hown4 hb4; have HO4 := Lib.hid hown4; have B4 := Lib.hid (((Below.refl _ w3).alloc (Nat.le_refl _) _).trans hb4); clear hown4 hb4)
    | (at_builtin; refine wpList_append_bytes _ rfl (.tmp 116) (.tmp 117) 22 rfl w3.heap.size 5 i0 Try.underlying22 hinf.out.1 hinf.out.2.1 hinf.out.2.2.1 hinf.out.2.2.2 _ _ rfl HO4.out _ A n c xs rfl ((K3.out.on B4.out).s (A, n, xs) (by simp)) HN.out (by have := HRL.out; simp; omega) B4.out.size ?_; intro v5 w5 hown5 hb5; rw [List.nil_append] at hown5; obtain ⟨A5, c5, rfl, hc5, _, hr⟩ := hown5.form2 (n := n + 5) (by have := HRL.out; have := HX.out; simp; omega); have B45 := B4.out.trans hb5; have K5 := Lib.hid ((K3.out.on B45).addS hr); have B5 := Lib.hid (below_step B3.out B45); clear hown5 hb5 hr B45 K3 B3)
    | (go_at_call 15; (with_reducible refine (ftrank_tot A5 (n + 5) c5 (prV a D W ++ xs) _ (K5.out.s (A5, n + 5, prV a D W ++ xs) (by simp)) (by omega) hc5).mono ?_); rintro e w6 ⟨v6, rfl, ho, hb⟩; rw [HTR.out.1, HTR.out.2.1, HTR.out.2.2.1, HTR.out.2.2.2.1]; rw [HTR.out.2.2.2.2] at ho; obtain ⟨A6, c6, rfl, _, _, hr⟩ := ho.form2 HX.out; have K6 := Lib.hid (((K5.out.on hb).addS hr).box 24 #[.bool a, .int .i64 D, .int .u8 (W.toNat : Int)]); have B6 := Lib.hid (below_step B5.out hb); have B6 := Lib.hid (B6.out.alloc B6.out.size (.cells #[.bool a, .int .i64 D, .int .u8 (W.toNat : Int)] 24)); obtain ⟨p0, p1, p2⟩ := K6.out.c3 (g := w.heap.size) (a := .bool a) (b := .int .i64 D) (c := .int .u8 (W.toNat : Int)) (by simp); obtain ⟨q0, q1, q2⟩ := K6.out.c3 (g := w6.heap.size) (a := .bool a) (b := .int .i64 D) (c := .int .u8 (W.toNat : Int)) (by simp); clear ho hr; clear hb B5 K5)
    | (go_at_call 12; (with_reducible refine (refsame_any A6 A n n c6 c _ _ xs xs _ (K6.out.s (A6, n, xs) (by simp)) (K6.out.s (A, n, xs) (by simp))).mono ?_); rintro e w' ⟨rfl, rfl⟩; rw [beq_self_eq_true])
    | (go_at_call 21; (with_reducible refine (fpp_any L m cl l _ (K6.out.p (L, m, l) (by simp)) (by omega)).mono ?_); rintro e w7 ⟨v7, rfl, ho, hb⟩; obtain ⟨A7, c7, rfl, hc7, _, hr⟩ := ho.form2 HPP.out; have K7 := Lib.hid ((K6.out.on hb).addS hr); have B7 := Lib.hid (below_step B6.out hb); clear ho hr; clear hb B6 K6)
    | (go_at_call 17; (with_reducible refine (ftp_tot A7 (6 * m) c7 (ppV l) _ (K7.out.s (A7, 6 * m, ppV l) (by simp)) (by omega) hc7).mono ?_); rintro e w8 ⟨v8, rfl, ho, hb⟩; rw [HTP.out.1]; rw [HTP.out.2] at ho; obtain ⟨A8, c8, rfl, _, _, hr⟩ := ho.form2 HLL.out; have K8 := Lib.hid ((K7.out.on hb).addP hr); have B8 := Lib.hid (below_step B7.out hb); clear ho hr; clear hb B7 K7)
    | (go_at_call 23; (with_reducible refine (rpairs_any A8 L m m c8 cl l l _ (K8.out.p (A8, m, l) (by simp)) (K8.out.p (L, m, l) (by simp)) (by omega)).mono ?_); rintro e w9 ⟨rfl, hb⟩; rw [beq_self_eq_true]; have K9 := Lib.hid (K8.out.on hb); have B9 := Lib.hid (below_step B8.out hb); clear hb B8 K8)
    | (go_at_call 7; (with_reducible refine (wakes_any _).mono ?_); rintro e w10 ⟨rfl, hb⟩; have K10 := Lib.hid (K9.out.on hb); have B10 := Lib.hid (below_step B9.out hb); clear hb B9 K9))
  go_ret
  exact ⟨rfl, B10.out⟩
set_option maxRecDepth 100000 in
set_option maxHeartbeats 4000000 in
theorem back_YN (A L : Option Addr) (n c m cl : Nat) (M D : Int) (W : UInt8) (a : Bool) (xs : List UInt8) (l : List Pr) (w : World) (hA : Bs w w.heap.size A n xs) (hAc : A = none → c = 0) (hn3 : n ≤ 300) (hL : Ps w w.heap.size L m l) (hm6 : m ≤ 60) (hp : PadIn M) (hr : D < 0) :
    Calls Try.prog 4 #[.slice A n c, .int .i64 M, .agg #[.bool a, .int .i64 D, .int .u8 (W.toNat : Int)], .slice L m cl] w fun e w' => e = .returned (.bool true) ∧ Below w.heap.size w w' := by
  obtain ⟨i0, hi, hz0, hz1, hz2⟩ := info_parts info_u8
  have hinf := Lib.hid (And.intro hi (And.intro hz0 (And.intro hz1 hz2)))
  have HN := Lib.hid hAc
  have HX : Hid (xs.length = n) := Lib.hid hA.1
  have HLL : Hid (l.length = m) := Lib.hid hL.1
  have HPP : Hid ((ppV l).length = 6 * m) := Lib.hid (by rw [ppV_len, HLL.out])
  have HTP := Lib.hid (tp_put l (n := 6 * m) (by rw [HLL.out]))
  have B0 : Hid (Below w.heap.size w (w.alloc (.cells #[.bool a, .int .i64 D, .int .u8 (W.toNat : Int)] 24))) := Lib.hid ((Below.refl _ w).alloc (Nat.le_refl _) _)
  have K0 := Lib.hid ((((EnvP.nil w).addS hA).addP hL).box 24 #[.bool a, .int .i64 D, .int .u8 (W.toNat : Int)])
  have hn4 : n ≤ 10000 := by omega
  clear hi hz0 hz1 hz2 hA hAc hL
  have HPE : Hid (padE M = 0) := Lib.hid (by unfold padE; rw [if_pos hp])
  obtain ⟨n1, hn1e⟩ : ∃ n1, (padV xs M).length = n1 := ⟨_, rfl⟩
  have hpl := padV_len xs hp
  rw [hn1e, HX.out] at hpl
  have HPL := Lib.hid hn1e
  have HU := Lib.hid (un_pad xs hp hn1e)
  obtain ⟨hp1, hp2⟩ := hp
  have hn1 : n1 ≤ 1000000 := by omega
  have d1 : ((n1 : Int) != (n : Int) + (M + 1)) = false := by rw [hpl]; simp
  clear hn1e hpl
  have hrn : ¬ RankIn D := by unfold RankIn; omega
  have HRE : Hid (prE D = 2) := Lib.hid (by unfold prE; rw [if_neg hrn])
  have HRV : Hid (prV a D W = []) := Lib.hid (by unfold prV; rw [if_neg hrn])
  clear hrn
  go_enter Try.func4, Try.ntmps4
  go_wp2_with (first
    | (go_at_call 8; (with_reducible refine (fpad_tot A n c M xs _ (K0.out.s (A, n, xs) (by simp)) HN.out hn4).mono ?_); rintro e w1 ⟨v1, rfl, ho, hb⟩; rw [HPE.out]; obtain ⟨A1, c1, rfl, hc1, _, hr⟩ := ho.form2 HPL.out; have K1 := Lib.hid ((K0.out.on hb).addS hr); have B1 := Lib.hid (below_step B0.out hb); clear ho hr; clear hb B0 K0)
    | (go_at_call 10; (with_reducible refine (unpad_tot A1 n1 c1 (padV xs M) _ (K1.out.s (A1, n1, padV xs M) (by simp)) hn1 hc1).mono ?_); rintro e w2 ⟨v2, rfl, ho, hb⟩; rw [HU.out.1, HU.out.2.1]; rw [HU.out.2.2] at ho; obtain ⟨A2, c2, rfl, _, _, hr⟩ := ho.form2 HX.out; have K2 := Lib.hid ((K1.out.on hb).addS hr); have B2 := Lib.hid (below_step B1.out hb); obtain ⟨p0, p1, p2⟩ := K2.out.c3 (g := w.heap.size) (a := .bool a) (b := .int .i64 D) (c := .int .u8 (W.toNat : Int)) (by simp); clear ho hr; clear hb B1 K1)
    | (go_at_call 12; (with_reducible refine (refsame_any A2 A n n c2 c _ _ xs xs _ (K2.out.s (A2, n, xs) (by simp)) (K2.out.s (A, n, xs) (by simp))).mono ?_); rintro e w' ⟨rfl, rfl⟩; rw [beq_self_eq_true])
    | (go_at_call 13; (with_reducible refine (fprank_tot a D W _).mono ?_); rintro e w3 ⟨v3, rfl, ho, hb⟩; rw [HRE.out]; rw [HRV.out] at ho; obtain ⟨A3, c3, rfl, _, _, _⟩ := ho.form2 (n := 0) rfl; have K3 := Lib.hid (K2.out.on hb); have B3 := Lib.hid (below_step B2.out hb); obtain ⟨p0, p1, p2⟩ := K3.out.c3 (g := w.heap.size) (a := .bool a) (b := .int .i64 D) (c := .int .u8 (W.toNat : Int)) (by simp); clear ho; clear hb B2 K2)
    | (go_at_call 21; (with_reducible refine (fpp_any L m cl l _ (K3.out.p (L, m, l) (by simp)) (by omega)).mono ?_); rintro e w7 ⟨v7, rfl, ho, hb⟩; obtain ⟨A7, c7, rfl, hc7, _, hr⟩ := ho.form2 HPP.out; have K7 := Lib.hid ((K3.out.on hb).addS hr); have B7 := Lib.hid (below_step B3.out hb); clear ho hr; clear hb B3 K3)
    | (go_at_call 17; (with_reducible refine (ftp_tot A7 (6 * m) c7 (ppV l) _ (K7.out.s (A7, 6 * m, ppV l) (by simp)) (by omega) hc7).mono ?_); rintro e w8 ⟨v8, rfl, ho, hb⟩; rw [HTP.out.1]; rw [HTP.out.2] at ho; obtain ⟨A8, c8, rfl, _, _, hr⟩ := ho.form2 HLL.out; have K8 := Lib.hid ((K7.out.on hb).addP hr); have B8 := Lib.hid (below_step B7.out hb); clear ho hr; clear hb B7 K7)
    | (go_at_call 23; (with_reducible refine (rpairs_any A8 L m m c8 cl l l _ (K8.out.p (A8, m, l) (by simp)) (K8.out.p (L, m, l) (by simp)) (by omega)).mono ?_); rintro e w9 ⟨rfl, hb⟩; rw [beq_self_eq_true]; have K9 := Lib.hid (K8.out.on hb); have B9 := Lib.hid (below_step B8.out hb); clear hb B8 K8)
    | (go_at_call 7; (with_reducible refine (wakes_any _).mono ?_); rintro e w10 ⟨rfl, hb⟩; have K10 := Lib.hid (K9.out.on hb); have B10 := Lib.hid (below_step B9.out hb); clear hb B9 K9))
  go_ret
  exact ⟨rfl, B10.out⟩
set_option maxRecDepth 100000 in
set_option maxHeartbeats 4000000 in
theorem back_YG (A L : Option Addr) (n c m cl : Nat) (M D : Int) (W : UInt8) (a : Bool) (xs : List UInt8) (l : List Pr) (w : World) (hA : Bs w w.heap.size A n xs) (hAc : A = none → c = 0) (hn3 : n ≤ 300) (hL : Ps w w.heap.size L m l) (hm6 : m ≤ 60) (hp : PadIn M) (hr : 2147483648 ≤ D) :
    Calls Try.prog 4 #[.slice A n c, .int .i64 M, .agg #[.bool a, .int .i64 D, .int .u8 (W.toNat : Int)], .slice L m cl] w fun e w' => e = .returned (.bool true) ∧ Below w.heap.size w w' := by
  obtain ⟨i0, hi, hz0, hz1, hz2⟩ := info_parts info_u8
  have hinf := Lib.hid (And.intro hi (And.intro hz0 (And.intro hz1 hz2)))
  have HN := Lib.hid hAc
  have HX : Hid (xs.length = n) := Lib.hid hA.1
  have HLL : Hid (l.length = m) := Lib.hid hL.1
  have HPP : Hid ((ppV l).length = 6 * m) := Lib.hid (by rw [ppV_len, HLL.out])
  have HTP := Lib.hid (tp_put l (n := 6 * m) (by rw [HLL.out]))
  have B0 : Hid (Below w.heap.size w (w.alloc (.cells #[.bool a, .int .i64 D, .int .u8 (W.toNat : Int)] 24))) := Lib.hid ((Below.refl _ w).alloc (Nat.le_refl _) _)
  have K0 := Lib.hid ((((EnvP.nil w).addS hA).addP hL).box 24 #[.bool a, .int .i64 D, .int .u8 (W.toNat : Int)])
  have hn4 : n ≤ 10000 := by omega
  clear hi hz0 hz1 hz2 hA hAc hL
  have HPE : Hid (padE M = 0) := Lib.hid (by unfold padE; rw [if_pos hp])
  obtain ⟨n1, hn1e⟩ : ∃ n1, (padV xs M).length = n1 := ⟨_, rfl⟩
  have hpl := padV_len xs hp
  rw [hn1e, HX.out] at hpl
  have HPL := Lib.hid hn1e
  have HU := Lib.hid (un_pad xs hp hn1e)
  obtain ⟨hp1, hp2⟩ := hp
  have hn1 : n1 ≤ 1000000 := by omega
  have d1 : ((n1 : Int) != (n : Int) + (M + 1)) = false := by rw [hpl]; simp
  clear hn1e hpl
  have hrn : ¬ RankIn D := by unfold RankIn; omega
  have HRE : Hid (prE D = 2) := Lib.hid (by unfold prE; rw [if_neg hrn])
  have HRV : Hid (prV a D W = []) := Lib.hid (by unfold prV; rw [if_neg hrn])
  clear hrn
  go_enter Try.func4, Try.ntmps4
  go_wp2_with (first
    | (go_at_call 8; (with_reducible refine (fpad_tot A n c M xs _ (K0.out.s (A, n, xs) (by simp)) HN.out hn4).mono ?_); rintro e w1 ⟨v1, rfl, ho, hb⟩; rw [HPE.out]; obtain ⟨A1, c1, rfl, hc1, _, hr⟩ := ho.form2 HPL.out; have K1 := Lib.hid ((K0.out.on hb).addS hr); have B1 := Lib.hid (below_step B0.out hb); clear ho hr; clear hb B0 K0)
    | (go_at_call 10; (with_reducible refine (unpad_tot A1 n1 c1 (padV xs M) _ (K1.out.s (A1, n1, padV xs M) (by simp)) hn1 hc1).mono ?_); rintro e w2 ⟨v2, rfl, ho, hb⟩; rw [HU.out.1, HU.out.2.1]; rw [HU.out.2.2] at ho; obtain ⟨A2, c2, rfl, _, _, hr⟩ := ho.form2 HX.out; have K2 := Lib.hid ((K1.out.on hb).addS hr); have B2 := Lib.hid (below_step B1.out hb); obtain ⟨p0, p1, p2⟩ := K2.out.c3 (g := w.heap.size) (a := .bool a) (b := .int .i64 D) (c := .int .u8 (W.toNat : Int)) (by simp); clear ho hr; clear hb B1 K1)
    | (go_at_call 12; (with_reducible refine (refsame_any A2 A n n c2 c _ _ xs xs _ (K2.out.s (A2, n, xs) (by simp)) (K2.out.s (A, n, xs) (by simp))).mono ?_); rintro e w' ⟨rfl, rfl⟩; rw [beq_self_eq_true])
    | (go_at_call 13; (with_reducible refine (fprank_tot a D W _).mono ?_); rintro e w3 ⟨v3, rfl, ho, hb⟩; rw [HRE.out]; rw [HRV.out] at ho; obtain ⟨A3, c3, rfl, _, _, _⟩ := ho.form2 (n := 0) rfl; have K3 := Lib.hid (K2.out.on hb); have B3 := Lib.hid (below_step B2.out hb); obtain ⟨p0, p1, p2⟩ := K3.out.c3 (g := w.heap.size) (a := .bool a) (b := .int .i64 D) (c := .int .u8 (W.toNat : Int)) (by simp); clear ho; clear hb B2 K2)
    | (go_at_call 21; (with_reducible refine (fpp_any L m cl l _ (K3.out.p (L, m, l) (by simp)) (by omega)).mono ?_); rintro e w7 ⟨v7, rfl, ho, hb⟩; obtain ⟨A7, c7, rfl, hc7, _, hr⟩ := ho.form2 HPP.out; have K7 := Lib.hid ((K3.out.on hb).addS hr); have B7 := Lib.hid (below_step B3.out hb); clear ho hr; clear hb B3 K3)
    | (go_at_call 17; (with_reducible refine (ftp_tot A7 (6 * m) c7 (ppV l) _ (K7.out.s (A7, 6 * m, ppV l) (by simp)) (by omega) hc7).mono ?_); rintro e w8 ⟨v8, rfl, ho, hb⟩; rw [HTP.out.1]; rw [HTP.out.2] at ho; obtain ⟨A8, c8, rfl, _, _, hr⟩ := ho.form2 HLL.out; have K8 := Lib.hid ((K7.out.on hb).addP hr); have B8 := Lib.hid (below_step B7.out hb); clear ho hr; clear hb B7 K7)
    | (go_at_call 23; (with_reducible refine (rpairs_any A8 L m m c8 cl l l _ (K8.out.p (A8, m, l) (by simp)) (K8.out.p (L, m, l) (by simp)) (by omega)).mono ?_); rintro e w9 ⟨rfl, hb⟩; rw [beq_self_eq_true]; have K9 := Lib.hid (K8.out.on hb); have B9 := Lib.hid (below_step B8.out hb); clear hb B8 K8)
    | (go_at_call 7; (with_reducible refine (wakes_any _).mono ?_); rintro e w10 ⟨rfl, hb⟩; have K10 := Lib.hid (K9.out.on hb); have B10 := Lib.hid (below_step B9.out hb); clear hb B9 K9))
  go_ret
  exact ⟨rfl, B10.out⟩
set_option maxRecDepth 100000 in
set_option maxHeartbeats 4000000 in
theorem back_NY (A L : Option Addr) (n c m cl : Nat) (M D : Int) (W : UInt8) (a : Bool) (xs : List UInt8) (l : List Pr) (w : World) (hA : Bs w w.heap.size A n xs) (hAc : A = none → c = 0) (hn3 : n ≤ 300) (hL : Ps w w.heap.size L m l) (hm6 : m ≤ 60) (hp : M < 0) (hr : RankIn D) :
    Calls Try.prog 4 #[.slice A n c, .int .i64 M, .agg #[.bool a, .int .i64 D, .int .u8 (W.toNat : Int)], .slice L m cl] w fun e w' => e = .returned (.bool true) ∧ Below w.heap.size w w' := by
  obtain ⟨i0, hi, hz0, hz1, hz2⟩ := info_parts info_u8
  have hinf := Lib.hid (And.intro hi (And.intro hz0 (And.intro hz1 hz2)))
  have HN := Lib.hid hAc
  have HX : Hid (xs.length = n) := Lib.hid hA.1
  have HLL : Hid (l.length = m) := Lib.hid hL.1
  have HPP : Hid ((ppV l).length = 6 * m) := Lib.hid (by rw [ppV_len, HLL.out])
  have HTP := Lib.hid (tp_put l (n := 6 * m) (by rw [HLL.out]))
  have B0 : Hid (Below w.heap.size w (w.alloc (.cells #[.bool a, .int .i64 D, .int .u8 (W.toNat : Int)] 24))) := Lib.hid ((Below.refl _ w).alloc (Nat.le_refl _) _)
  have K0 := Lib.hid ((((EnvP.nil w).addS hA).addP hL).box 24 #[.bool a, .int .i64 D, .int .u8 (W.toNat : Int)])
  have hn4 : n ≤ 10000 := by omega
  clear hi hz0 hz1 hz2 hA hAc hL
  have hpn : ¬ PadIn M := by unfold PadIn; omega
  have HPE : Hid (padE M = 2) := Lib.hid (by unfold padE; rw [if_neg hpn])
  have HPV : Hid (padV xs M = []) := Lib.hid (by unfold padV; rw [if_neg hpn])
  clear hpn
  have HRE : Hid (prE D = 0) := Lib.hid (by unfold prE; rw [if_pos hr])
  have HRL : Hid ((prV a D W).length = 5) := Lib.hid (prV_len a W hr)
  have HTR := Lib.hid (tr_put a W xs hr (n := n + 5) (by rw [HX.out]))
  obtain ⟨hr1, hr2⟩ := hr
  go_enter Try.func4, Try.ntmps4
  go_wp2_with (first
    | (go_at_call 8; (with_reducible refine (fpad_tot A n c M xs _ (K0.out.s (A, n, xs) (by simp)) HN.out hn4).mono ?_); rintro e w1 ⟨v1, rfl, ho, hb⟩; rw [HPE.out]; rw [HPV.out] at ho; obtain ⟨A1, c1, rfl, hc1, _, _⟩ := ho.form2 (n := 0) rfl; have K1 := Lib.hid (K0.out.on hb); have B1 := Lib.hid (below_step B0.out hb); obtain ⟨p0, p1, p2⟩ := K1.out.c3 (g := w.heap.size) (a := .bool a) (b := .int .i64 D) (c := .int .u8 (W.toNat : Int)) (by simp); clear ho; clear hb B0 K0)
    | (go_at_call 13; (with_reducible refine (fprank_tot a D W _).mono ?_); rintro e w3 ⟨v3, rfl, ho, hb⟩; rw [HRE.out]; obtain ⟨A3, c3, rfl, hc3, hn3, hr⟩ := ho.form2 HRL.out; have HN3 := Lib.hid hn3; have K3 := Lib.hid ((K1.out.on hb).addS hr); have B3 := Lib.hid (below_step B1.out hb); obtain ⟨p0, p1, p2⟩ := K3.out.c3 (g := w.heap.size) (a := .bool a) (b := .int .i64 D) (c := .int .u8 (W.toNat : Int)) (by simp); clear ho hr hn3; clear hb B1 K1)
    | (at_builtin; refine wpList_append_bytes _ rfl (.tmp 114) (.tmp 115) 22 rfl w3.heap.size 5 i0 Try.underlying22 hinf.out.1 hinf.out.2.1 hinf.out.2.2.1 hinf.out.2.2.2 _ [] rfl (OwnB.lit2 w3 _ _ _ rfl (Nat.le_refl _)) _ A3 5 c3 (prV a D W) rfl ((K3.out.al _).s (A3, 5, prV a D W) (by simp)) HN3.out (by simp) (by simp) ?_; intro v4 w4 hown4 hb4; have HO4 := Lib.hid hown4; have B4 := Lib.hid (((Below.refl _ w3).alloc (Nat.le_refl _) _).trans hb4); clear hown4 hb4)
    | (at_builtin; refine wpList_append_bytes _ rfl (.tmp 116) (.tmp 117) 22 rfl w3.heap.size 5 i0 Try.underlying22 hinf.out.1 hinf.out.2.1 hinf.out.2.2.1 hinf.out.2.2.2 _ _ rfl HO4.out _ A n c xs rfl ((K3.out.on B4.out).s (A, n, xs) (by simp)) HN.out (by have := HRL.out; simp; omega) B4.out.size ?_; intro v5 w5 hown5 hb5; rw [List.nil_append] at hown5; obtain ⟨A5, c5, rfl, hc5, _, hr⟩ := hown5.form2 (n := n + 5) (by have := HRL.out; have := HX.out; simp; omega); have B45 := B4.out.trans hb5; have K5 := Lib.hid ((K3.out.on B45).addS hr); have B5 := Lib.hid (below_step B3.out B45); clear hown5 hb5 hr B45 K3 B3)
    | (go_at_call 15; (with_reducible refine (ftrank_tot A5 (n + 5) c5 (prV a D W ++ xs) _ (K5.out.s (A5, n + 5, prV a D W ++ xs) (by simp)) (by omega) hc5).mono ?_); rintro e w6 ⟨v6, rfl, ho, hb⟩; rw [HTR.out.1, HTR.out.2.1, HTR.out.2.2.1, HTR.out.2.2.2.1]; rw [HTR.out.2.2.2.2] at ho; obtain ⟨A6, c6, rfl, _, _, hr⟩ := ho.form2 HX.out; have K6 := Lib.hid (((K5.out.on hb).addS hr).box 24 #[.bool a, .int .i64 D, .int .u8 (W.toNat : Int)]); have B6 := Lib.hid (below_step B5.out hb); have B6 := Lib.hid (B6.out.alloc B6.out.size (.cells #[.bool a, .int .i64 D, .int .u8 (W.toNat : Int)] 24)); obtain ⟨p0, p1, p2⟩ := K6.out.c3 (g := w.heap.size) (a := .bool a) (b := .int .i64 D) (c := .int .u8 (W.toNat : Int)) (by simp); obtain ⟨q0, q1, q2⟩ := K6.out.c3 (g := w6.heap.size) (a := .bool a) (b := .int .i64 D) (c := .int .u8 (W.toNat : Int)) (by simp); clear ho hr; clear hb B5 K5)
    | (go_at_call 12; (with_reducible refine (refsame_any A6 A n n c6 c _ _ xs xs _ (K6.out.s (A6, n, xs) (by simp)) (K6.out.s (A, n, xs) (by simp))).mono ?_); rintro e w' ⟨rfl, rfl⟩; rw [beq_self_eq_true])
    | (go_at_call 21; (with_reducible refine (fpp_any L m cl l _ (K6.out.p (L, m, l) (by simp)) (by omega)).mono ?_); rintro e w7 ⟨v7, rfl, ho, hb⟩; obtain ⟨A7, c7, rfl, hc7, _, hr⟩ := ho.form2 HPP.out; have K7 := Lib.hid ((K6.out.on hb).addS hr); have B7 := Lib.hid (below_step B6.out hb); clear ho hr; clear hb B6 K6)
    | (go_at_call 17; (with_reducible refine (ftp_tot A7 (6 * m) c7 (ppV l) _ (K7.out.s (A7, 6 * m, ppV l) (by simp)) (by omega) hc7).mono ?_); rintro e w8 ⟨v8, rfl, ho, hb⟩; rw [HTP.out.1]; rw [HTP.out.2] at ho; obtain ⟨A8, c8, rfl, _, _, hr⟩ := ho.form2 HLL.out; have K8 := Lib.hid ((K7.out.on hb).addP hr); have B8 := Lib.hid (below_step B7.out hb); clear ho hr; clear hb B7 K7)
    | (go_at_call 23; (with_reducible refine (rpairs_any A8 L m m c8 cl l l _ (K8.out.p (A8, m, l) (by simp)) (K8.out.p (L, m, l) (by simp)) (by omega)).mono ?_); rintro e w9 ⟨rfl, hb⟩; rw [beq_self_eq_true]; have K9 := Lib.hid (K8.out.on hb); have B9 := Lib.hid (below_step B8.out hb); clear hb B8 K8)
    | (go_at_call 7; (with_reducible refine (wakes_any _).mono ?_); rintro e w10 ⟨rfl, hb⟩; have K10 := Lib.hid (K9.out.on hb); have B10 := Lib.hid (below_step B9.out hb); clear hb B9 K9))
  go_ret
  exact ⟨rfl, B10.out⟩
set_option maxRecDepth 100000 in
set_option maxHeartbeats 4000000 in
theorem back_NN (A L : Option Addr) (n c m cl : Nat) (M D : Int) (W : UInt8) (a : Bool) (xs : List UInt8) (l : List Pr) (w : World) (hA : Bs w w.heap.size A n xs) (hAc : A = none → c = 0) (hn3 : n ≤ 300) (hL : Ps w w.heap.size L m l) (hm6 : m ≤ 60) (hp : M < 0) (hr : D < 0) :
    Calls Try.prog 4 #[.slice A n c, .int .i64 M, .agg #[.bool a, .int .i64 D, .int .u8 (W.toNat : Int)], .slice L m cl] w fun e w' => e = .returned (.bool true) ∧ Below w.heap.size w w' := by
  obtain ⟨i0, hi, hz0, hz1, hz2⟩ := info_parts info_u8
  have hinf := Lib.hid (And.intro hi (And.intro hz0 (And.intro hz1 hz2)))
  have HN := Lib.hid hAc
  have HX : Hid (xs.length = n) := Lib.hid hA.1
  have HLL : Hid (l.length = m) := Lib.hid hL.1
  have HPP : Hid ((ppV l).length = 6 * m) := Lib.hid (by rw [ppV_len, HLL.out])
  have HTP := Lib.hid (tp_put l (n := 6 * m) (by rw [HLL.out]))
  have B0 : Hid (Below w.heap.size w (w.alloc (.cells #[.bool a, .int .i64 D, .int .u8 (W.toNat : Int)] 24))) := Lib.hid ((Below.refl _ w).alloc (Nat.le_refl _) _)
  have K0 := Lib.hid ((((EnvP.nil w).addS hA).addP hL).box 24 #[.bool a, .int .i64 D, .int .u8 (W.toNat : Int)])
  have hn4 : n ≤ 10000 := by omega
  clear hi hz0 hz1 hz2 hA hAc hL
  have hpn : ¬ PadIn M := by unfold PadIn; omega
  have HPE : Hid (padE M = 2) := Lib.hid (by unfold padE; rw [if_neg hpn])
  have HPV : Hid (padV xs M = []) := Lib.hid (by unfold padV; rw [if_neg hpn])
  clear hpn
  have hrn : ¬ RankIn D := by unfold RankIn; omega
  have HRE : Hid (prE D = 2) := Lib.hid (by unfold prE; rw [if_neg hrn])
  have HRV : Hid (prV a D W = []) := Lib.hid (by unfold prV; rw [if_neg hrn])
  clear hrn
  go_enter Try.func4, Try.ntmps4
  go_wp2_with (first
    | (go_at_call 8; (with_reducible refine (fpad_tot A n c M xs _ (K0.out.s (A, n, xs) (by simp)) HN.out hn4).mono ?_); rintro e w1 ⟨v1, rfl, ho, hb⟩; rw [HPE.out]; rw [HPV.out] at ho; obtain ⟨A1, c1, rfl, hc1, _, _⟩ := ho.form2 (n := 0) rfl; have K1 := Lib.hid (K0.out.on hb); have B1 := Lib.hid (below_step B0.out hb); obtain ⟨p0, p1, p2⟩ := K1.out.c3 (g := w.heap.size) (a := .bool a) (b := .int .i64 D) (c := .int .u8 (W.toNat : Int)) (by simp); clear ho; clear hb B0 K0)
    | (go_at_call 13; (with_reducible refine (fprank_tot a D W _).mono ?_); rintro e w3 ⟨v3, rfl, ho, hb⟩; rw [HRE.out]; rw [HRV.out] at ho; obtain ⟨A3, c3, rfl, _, _, _⟩ := ho.form2 (n := 0) rfl; have K3 := Lib.hid (K1.out.on hb); have B3 := Lib.hid (below_step B1.out hb); obtain ⟨p0, p1, p2⟩ := K3.out.c3 (g := w.heap.size) (a := .bool a) (b := .int .i64 D) (c := .int .u8 (W.toNat : Int)) (by simp); clear ho; clear hb B1 K1)
    | (go_at_call 21; (with_reducible refine (fpp_any L m cl l _ (K3.out.p (L, m, l) (by simp)) (by omega)).mono ?_); rintro e w7 ⟨v7, rfl, ho, hb⟩; obtain ⟨A7, c7, rfl, hc7, _, hr⟩ := ho.form2 HPP.out; have K7 := Lib.hid ((K3.out.on hb).addS hr); have B7 := Lib.hid (below_step B3.out hb); clear ho hr; clear hb B3 K3)
    | (go_at_call 17; (with_reducible refine (ftp_tot A7 (6 * m) c7 (ppV l) _ (K7.out.s (A7, 6 * m, ppV l) (by simp)) (by omega) hc7).mono ?_); rintro e w8 ⟨v8, rfl, ho, hb⟩; rw [HTP.out.1]; rw [HTP.out.2] at ho; obtain ⟨A8, c8, rfl, _, _, hr⟩ := ho.form2 HLL.out; have K8 := Lib.hid ((K7.out.on hb).addP hr); have B8 := Lib.hid (below_step B7.out hb); clear ho hr; clear hb B7 K7)
    | (go_at_call 23; (with_reducible refine (rpairs_any A8 L m m c8 cl l l _ (K8.out.p (A8, m, l) (by simp)) (K8.out.p (L, m, l) (by simp)) (by omega)).mono ?_); rintro e w9 ⟨rfl, hb⟩; rw [beq_self_eq_true]; have K9 := Lib.hid (K8.out.on hb); have B9 := Lib.hid (below_step B8.out hb); clear hb B8 K8)
    | (go_at_call 7; (with_reducible refine (wakes_any _).mono ?_); rintro e w10 ⟨rfl, hb⟩; have K10 := Lib.hid (K9.out.on hb); have B10 := Lib.hid (below_step B9.out hb); clear hb B9 K9))
  go_ret
  exact ⟨rfl, B10.out⟩
set_option maxRecDepth 100000 in
set_option maxHeartbeats 4000000 in
theorem back_NG (A L : Option Addr) (n c m cl : Nat) (M D : Int) (W : UInt8) (a : Bool) (xs : List UInt8) (l : List Pr) (w : World) (hA : Bs w w.heap.size A n xs) (hAc : A = none → c = 0) (hn3 : n ≤ 300) (hL : Ps w w.heap.size L m l) (hm6 : m ≤ 60) (hp : M < 0) (hr : 2147483648 ≤ D) :
    Calls Try.prog 4 #[.slice A n c, .int .i64 M, .agg #[.bool a, .int .i64 D, .int .u8 (W.toNat : Int)], .slice L m cl] w fun e w' => e = .returned (.bool true) ∧ Below w.heap.size w w' := by
  obtain ⟨i0, hi, hz0, hz1, hz2⟩ := info_parts info_u8
  have hinf := Lib.hid (And.intro hi (And.intro hz0 (And.intro hz1 hz2)))
  have HN := Lib.hid hAc
  have HX : Hid (xs.length = n) := Lib.hid hA.1
  have HLL : Hid (l.length = m) := Lib.hid hL.1
  have HPP : Hid ((ppV l).length = 6 * m) := Lib.hid (by rw [ppV_len, HLL.out])
  have HTP := Lib.hid (tp_put l (n := 6 * m) (by rw [HLL.out]))
  have B0 : Hid (Below w.heap.size w (w.alloc (.cells #[.bool a, .int .i64 D, .int .u8 (W.toNat : Int)] 24))) := Lib.hid ((Below.refl _ w).alloc (Nat.le_refl _) _)
  have K0 := Lib.hid ((((EnvP.nil w).addS hA).addP hL).box 24 #[.bool a, .int .i64 D, .int .u8 (W.toNat : Int)])
  have hn4 : n ≤ 10000 := by omega
  clear hi hz0 hz1 hz2 hA hAc hL
  have hpn : ¬ PadIn M := by unfold PadIn; omega
  have HPE : Hid (padE M = 2) := Lib.hid (by unfold padE; rw [if_neg hpn])
  have HPV : Hid (padV xs M = []) := Lib.hid (by unfold padV; rw [if_neg hpn])
  clear hpn
  have hrn : ¬ RankIn D := by unfold RankIn; omega
  have HRE : Hid (prE D = 2) := Lib.hid (by unfold prE; rw [if_neg hrn])
  have HRV : Hid (prV a D W = []) := Lib.hid (by unfold prV; rw [if_neg hrn])
  clear hrn
  go_enter Try.func4, Try.ntmps4
  go_wp2_with (first
    | (go_at_call 8; (with_reducible refine (fpad_tot A n c M xs _ (K0.out.s (A, n, xs) (by simp)) HN.out hn4).mono ?_); rintro e w1 ⟨v1, rfl, ho, hb⟩; rw [HPE.out]; rw [HPV.out] at ho; obtain ⟨A1, c1, rfl, hc1, _, _⟩ := ho.form2 (n := 0) rfl; have K1 := Lib.hid (K0.out.on hb); have B1 := Lib.hid (below_step B0.out hb); obtain ⟨p0, p1, p2⟩ := K1.out.c3 (g := w.heap.size) (a := .bool a) (b := .int .i64 D) (c := .int .u8 (W.toNat : Int)) (by simp); clear ho; clear hb B0 K0)
    | (go_at_call 13; (with_reducible refine (fprank_tot a D W _).mono ?_); rintro e w3 ⟨v3, rfl, ho, hb⟩; rw [HRE.out]; rw [HRV.out] at ho; obtain ⟨A3, c3, rfl, _, _, _⟩ := ho.form2 (n := 0) rfl; have K3 := Lib.hid (K1.out.on hb); have B3 := Lib.hid (below_step B1.out hb); obtain ⟨p0, p1, p2⟩ := K3.out.c3 (g := w.heap.size) (a := .bool a) (b := .int .i64 D) (c := .int .u8 (W.toNat : Int)) (by simp); clear ho; clear hb B1 K1)
    | (go_at_call 21; (with_reducible refine (fpp_any L m cl l _ (K3.out.p (L, m, l) (by simp)) (by omega)).mono ?_); rintro e w7 ⟨v7, rfl, ho, hb⟩; obtain ⟨A7, c7, rfl, hc7, _, hr⟩ := ho.form2 HPP.out; have K7 := Lib.hid ((K3.out.on hb).addS hr); have B7 := Lib.hid (below_step B3.out hb); clear ho hr; clear hb B3 K3)
    | (go_at_call 17; (with_reducible refine (ftp_tot A7 (6 * m) c7 (ppV l) _ (K7.out.s (A7, 6 * m, ppV l) (by simp)) (by omega) hc7).mono ?_); rintro e w8 ⟨v8, rfl, ho, hb⟩; rw [HTP.out.1]; rw [HTP.out.2] at ho; obtain ⟨A8, c8, rfl, _, _, hr⟩ := ho.form2 HLL.out; have K8 := Lib.hid ((K7.out.on hb).addP hr); have B8 := Lib.hid (below_step B7.out hb); clear ho hr; clear hb B7 K7)
    | (go_at_call 23; (with_reducible refine (rpairs_any A8 L m m c8 cl l l _ (K8.out.p (A8, m, l) (by simp)) (K8.out.p (L, m, l) (by simp)) (by omega)).mono ?_); rintro e w9 ⟨rfl, hb⟩; rw [beq_self_eq_true]; have K9 := Lib.hid (K8.out.on hb); have B9 := Lib.hid (below_step B8.out hb); clear hb B8 K8)
    | (go_at_call 7; (with_reducible refine (wakes_any _).mono ?_); rintro e w10 ⟨rfl, hb⟩; have K10 := Lib.hid (K9.out.on hb); have B10 := Lib.hid (below_step B9.out hb); clear hb B9 K9))
  go_ret
  exact ⟨rfl, B10.out⟩
set_option maxRecDepth 100000 in
set_option maxHeartbeats 4000000 in
theorem back_GY (A L : Option Addr) (n c m cl : Nat) (M D : Int) (W : UInt8) (a : Bool) (xs : List UInt8) (l : List Pr) (w : World) (hA : Bs w w.heap.size A n xs) (hAc : A = none → c = 0) (hn3 : n ≤ 300) (hL : Ps w w.heap.size L m l) (hm6 : m ≤ 60) (hp : 255 < M) (hr : RankIn D) :
    Calls Try.prog 4 #[.slice A n c, .int .i64 M, .agg #[.bool a, .int .i64 D, .int .u8 (W.toNat : Int)], .slice L m cl] w fun e w' => e = .returned (.bool true) ∧ Below w.heap.size w w' := by
  obtain ⟨i0, hi, hz0, hz1, hz2⟩ := info_parts info_u8
  have hinf := Lib.hid (And.intro hi (And.intro hz0 (And.intro hz1 hz2)))
  have HN := Lib.hid hAc
  have HX : Hid (xs.length = n) := Lib.hid hA.1
  have HLL : Hid (l.length = m) := Lib.hid hL.1
  have HPP : Hid ((ppV l).length = 6 * m) := Lib.hid (by rw [ppV_len, HLL.out])
  have HTP := Lib.hid (tp_put l (n := 6 * m) (by rw [HLL.out]))
  have B0 : Hid (Below w.heap.size w (w.alloc (.cells #[.bool a, .int .i64 D, .int .u8 (W.toNat : Int)] 24))) := Lib.hid ((Below.refl _ w).alloc (Nat.le_refl _) _)
  have K0 := Lib.hid ((((EnvP.nil w).addS hA).addP hL).box 24 #[.bool a, .int .i64 D, .int .u8 (W.toNat : Int)])
  have hn4 : n ≤ 10000 := by omega
  clear hi hz0 hz1 hz2 hA hAc hL
  have hpn : ¬ PadIn M := by unfold PadIn; omega
  have HPE : Hid (padE M = 2) := Lib.hid (by unfold padE; rw [if_neg hpn])
  have HPV : Hid (padV xs M = []) := Lib.hid (by unfold padV; rw [if_neg hpn])
  clear hpn
  have HRE : Hid (prE D = 0) := Lib.hid (by unfold prE; rw [if_pos hr])
  have HRL : Hid ((prV a D W).length = 5) := Lib.hid (prV_len a W hr)
  have HTR := Lib.hid (tr_put a W xs hr (n := n + 5) (by rw [HX.out]))
  obtain ⟨hr1, hr2⟩ := hr
  go_enter Try.func4, Try.ntmps4
  go_wp2_with (first
    | (go_at_call 8; (with_reducible refine (fpad_tot A n c M xs _ (K0.out.s (A, n, xs) (by simp)) HN.out hn4).mono ?_); rintro e w1 ⟨v1, rfl, ho, hb⟩; rw [HPE.out]; rw [HPV.out] at ho; obtain ⟨A1, c1, rfl, hc1, _, _⟩ := ho.form2 (n := 0) rfl; have K1 := Lib.hid (K0.out.on hb); have B1 := Lib.hid (below_step B0.out hb); obtain ⟨p0, p1, p2⟩ := K1.out.c3 (g := w.heap.size) (a := .bool a) (b := .int .i64 D) (c := .int .u8 (W.toNat : Int)) (by simp); clear ho; clear hb B0 K0)
    | (go_at_call 13; (with_reducible refine (fprank_tot a D W _).mono ?_); rintro e w3 ⟨v3, rfl, ho, hb⟩; rw [HRE.out]; obtain ⟨A3, c3, rfl, hc3, hn3, hr⟩ := ho.form2 HRL.out; have HN3 := Lib.hid hn3; have K3 := Lib.hid ((K1.out.on hb).addS hr); have B3 := Lib.hid (below_step B1.out hb); obtain ⟨p0, p1, p2⟩ := K3.out.c3 (g := w.heap.size) (a := .bool a) (b := .int .i64 D) (c := .int .u8 (W.toNat : Int)) (by simp); clear ho hr hn3; clear hb B1 K1)
    | (at_builtin; refine wpList_append_bytes _ rfl (.tmp 114) (.tmp 115) 22 rfl w3.heap.size 5 i0 Try.underlying22 hinf.out.1 hinf.out.2.1 hinf.out.2.2.1 hinf.out.2.2.2 _ [] rfl (OwnB.lit2 w3 _ _ _ rfl (Nat.le_refl _)) _ A3 5 c3 (prV a D W) rfl ((K3.out.al _).s (A3, 5, prV a D W) (by simp)) HN3.out (by simp) (by simp) ?_; intro v4 w4 hown4 hb4; have HO4 := Lib.hid hown4; have B4 := Lib.hid (((Below.refl _ w3).alloc (Nat.le_refl _) _).trans hb4); clear hown4 hb4)
    | (at_builtin; refine wpList_append_bytes _ rfl (.tmp 116) (.tmp 117) 22 rfl w3.heap.size 5 i0 Try.underlying22 hinf.out.1 hinf.out.2.1 hinf.out.2.2.1 hinf.out.2.2.2 _ _ rfl HO4.out _ A n c xs rfl ((K3.out.on B4.out).s (A, n, xs) (by simp)) HN.out (by have := HRL.out; simp; omega) B4.out.size ?_; intro v5 w5 hown5 hb5; rw [List.nil_append] at hown5; obtain ⟨A5, c5, rfl, hc5, _, hr⟩ := hown5.form2 (n := n + 5) (by have := HRL.out; have := HX.out; simp; omega); have B45 := B4.out.trans hb5; have K5 := Lib.hid ((K3.out.on B45).addS hr); have B5 := Lib.hid (below_step B3.out B45); clear hown5 hb5 hr B45 K3 B3)
    | (go_at_call 15; (with_reducible refine (ftrank_tot A5 (n + 5) c5 (prV a D W ++ xs) _ (K5.out.s (A5, n + 5, prV a D W ++ xs) (by simp)) (by omega) hc5).mono ?_); rintro e w6 ⟨v6, rfl, ho, hb⟩; rw [HTR.out.1, HTR.out.2.1, HTR.out.2.2.1, HTR.out.2.2.2.1]; rw [HTR.out.2.2.2.2] at ho; obtain ⟨A6, c6, rfl, _, _, hr⟩ := ho.form2 HX.out; have K6 := Lib.hid (((K5.out.on hb).addS hr).box 24 #[.bool a, .int .i64 D, .int .u8 (W.toNat : Int)]); have B6 := Lib.hid (below_step B5.out hb); have B6 := Lib.hid (B6.out.alloc B6.out.size (.cells #[.bool a, .int .i64 D, .int .u8 (W.toNat : Int)] 24)); obtain ⟨p0, p1, p2⟩ := K6.out.c3 (g := w.heap.size) (a := .bool a) (b := .int .i64 D) (c := .int .u8 (W.toNat : Int)) (by simp); obtain ⟨q0, q1, q2⟩ := K6.out.c3 (g := w6.heap.size) (a := .bool a) (b := .int .i64 D) (c := .int .u8 (W.toNat : Int)) (by simp); clear ho hr; clear hb B5 K5)
    | (go_at_call 12; (with_reducible refine (refsame_any A6 A n n c6 c _ _ xs xs _ (K6.out.s (A6, n, xs) (by simp)) (K6.out.s (A, n, xs) (by simp))).mono ?_); rintro e w' ⟨rfl, rfl⟩; rw [beq_self_eq_true])
    | (go_at_call 21; (with_reducible refine (fpp_any L m cl l _ (K6.out.p (L, m, l) (by simp)) (by omega)).mono ?_); rintro e w7 ⟨v7, rfl, ho, hb⟩; obtain ⟨A7, c7, rfl, hc7, _, hr⟩ := ho.form2 HPP.out; have K7 := Lib.hid ((K6.out.on hb).addS hr); have B7 := Lib.hid (below_step B6.out hb); clear ho hr; clear hb B6 K6)
    | (go_at_call 17; (with_reducible refine (ftp_tot A7 (6 * m) c7 (ppV l) _ (K7.out.s (A7, 6 * m, ppV l) (by simp)) (by omega) hc7).mono ?_); rintro e w8 ⟨v8, rfl, ho, hb⟩; rw [HTP.out.1]; rw [HTP.out.2] at ho; obtain ⟨A8, c8, rfl, _, _, hr⟩ := ho.form2 HLL.out; have K8 := Lib.hid ((K7.out.on hb).addP hr); have B8 := Lib.hid (below_step B7.out hb); clear ho hr; clear hb B7 K7)
    | (go_at_call 23; (with_reducible refine (rpairs_any A8 L m m c8 cl l l _ (K8.out.p (A8, m, l) (by simp)) (K8.out.p (L, m, l) (by simp)) (by omega)).mono ?_); rintro e w9 ⟨rfl, hb⟩; rw [beq_self_eq_true]; have K9 := Lib.hid (K8.out.on hb); have B9 := Lib.hid (below_step B8.out hb); clear hb B8 K8)
    | (go_at_call 7; (with_reducible refine (wakes_any _).mono ?_); rintro e w10 ⟨rfl, hb⟩; have K10 := Lib.hid (K9.out.on hb); have B10 := Lib.hid (below_step B9.out hb); clear hb B9 K9))
  go_ret
  exact ⟨rfl, B10.out⟩
set_option maxRecDepth 100000 in
set_option maxHeartbeats 4000000 in
theorem back_GN (A L : Option Addr) (n c m cl : Nat) (M D : Int) (W : UInt8) (a : Bool) (xs : List UInt8) (l : List Pr) (w : World) (hA : Bs w w.heap.size A n xs) (hAc : A = none → c = 0) (hn3 : n ≤ 300) (hL : Ps w w.heap.size L m l) (hm6 : m ≤ 60) (hp : 255 < M) (hr : D < 0) :
    Calls Try.prog 4 #[.slice A n c, .int .i64 M, .agg #[.bool a, .int .i64 D, .int .u8 (W.toNat : Int)], .slice L m cl] w fun e w' => e = .returned (.bool true) ∧ Below w.heap.size w w' := by
  obtain ⟨i0, hi, hz0, hz1, hz2⟩ := info_parts info_u8
  have hinf := Lib.hid (And.intro hi (And.intro hz0 (And.intro hz1 hz2)))
  have HN := Lib.hid hAc
  have HX : Hid (xs.length = n) := Lib.hid hA.1
  have HLL : Hid (l.length = m) := Lib.hid hL.1
  have HPP : Hid ((ppV l).length = 6 * m) := Lib.hid (by rw [ppV_len, HLL.out])
  have HTP := Lib.hid (tp_put l (n := 6 * m) (by rw [HLL.out]))
  have B0 : Hid (Below w.heap.size w (w.alloc (.cells #[.bool a, .int .i64 D, .int .u8 (W.toNat : Int)] 24))) := Lib.hid ((Below.refl _ w).alloc (Nat.le_refl _) _)
  have K0 := Lib.hid ((((EnvP.nil w).addS hA).addP hL).box 24 #[.bool a, .int .i64 D, .int .u8 (W.toNat : Int)])
  have hn4 : n ≤ 10000 := by omega
  clear hi hz0 hz1 hz2 hA hAc hL
  have hpn : ¬ PadIn M := by unfold PadIn; omega
  have HPE : Hid (padE M = 2) := Lib.hid (by unfold padE; rw [if_neg hpn])
  have HPV : Hid (padV xs M = []) := Lib.hid (by unfold padV; rw [if_neg hpn])
  clear hpn
  have hrn : ¬ RankIn D := by unfold RankIn; omega
  have HRE : Hid (prE D = 2) := Lib.hid (by unfold prE; rw [if_neg hrn])
  have HRV : Hid (prV a D W = []) := Lib.hid (by unfold prV; rw [if_neg hrn])
  clear hrn
  go_enter Try.func4, Try.ntmps4
  go_wp2_with (first
    | (go_at_call 8; (with_reducible refine (fpad_tot A n c M xs _ (K0.out.s (A, n, xs) (by simp)) HN.out hn4).mono ?_); rintro e w1 ⟨v1, rfl, ho, hb⟩; rw [HPE.out]; rw [HPV.out] at ho; obtain ⟨A1, c1, rfl, hc1, _, _⟩ := ho.form2 (n := 0) rfl; have K1 := Lib.hid (K0.out.on hb); have B1 := Lib.hid (below_step B0.out hb); obtain ⟨p0, p1, p2⟩ := K1.out.c3 (g := w.heap.size) (a := .bool a) (b := .int .i64 D) (c := .int .u8 (W.toNat : Int)) (by simp); clear ho; clear hb B0 K0)
    | (go_at_call 13; (with_reducible refine (fprank_tot a D W _).mono ?_); rintro e w3 ⟨v3, rfl, ho, hb⟩; rw [HRE.out]; rw [HRV.out] at ho; obtain ⟨A3, c3, rfl, _, _, _⟩ := ho.form2 (n := 0) rfl; have K3 := Lib.hid (K1.out.on hb); have B3 := Lib.hid (below_step B1.out hb); obtain ⟨p0, p1, p2⟩ := K3.out.c3 (g := w.heap.size) (a := .bool a) (b := .int .i64 D) (c := .int .u8 (W.toNat : Int)) (by simp); clear ho; clear hb B1 K1)
    | (go_at_call 21; (with_reducible refine (fpp_any L m cl l _ (K3.out.p (L, m, l) (by simp)) (by omega)).mono ?_); rintro e w7 ⟨v7, rfl, ho, hb⟩; obtain ⟨A7, c7, rfl, hc7, _, hr⟩ := ho.form2 HPP.out; have K7 := Lib.hid ((K3.out.on hb).addS hr); have B7 := Lib.hid (below_step B3.out hb); clear ho hr; clear hb B3 K3)
    | (go_at_call 17; (with_reducible refine (ftp_tot A7 (6 * m) c7 (ppV l) _ (K7.out.s (A7, 6 * m, ppV l) (by simp)) (by omega) hc7).mono ?_); rintro e w8 ⟨v8, rfl, ho, hb⟩; rw [HTP.out.1]; rw [HTP.out.2] at ho; obtain ⟨A8, c8, rfl, _, _, hr⟩ := ho.form2 HLL.out; have K8 := Lib.hid ((K7.out.on hb).addP hr); have B8 := Lib.hid (below_step B7.out hb); clear ho hr; clear hb B7 K7)
    | (go_at_call 23; (with_reducible refine (rpairs_any A8 L m m c8 cl l l _ (K8.out.p (A8, m, l) (by simp)) (K8.out.p (L, m, l) (by simp)) (by omega)).mono ?_); rintro e w9 ⟨rfl, hb⟩; rw [beq_self_eq_true]; have K9 := Lib.hid (K8.out.on hb); have B9 := Lib.hid (below_step B8.out hb); clear hb B8 K8)
    | (go_at_call 7; (with_reducible refine (wakes_any _).mono ?_); rintro e w10 ⟨rfl, hb⟩; have K10 := Lib.hid (K9.out.on hb); have B10 := Lib.hid (below_step B9.out hb); clear hb B9 K9))
  go_ret
  exact ⟨rfl, B10.out⟩
set_option maxRecDepth 100000 in
set_option maxHeartbeats 4000000 in
theorem back_GG (A L : Option Addr) (n c m cl : Nat) (M D : Int) (W : UInt8) (a : Bool) (xs : List UInt8) (l : List Pr) (w : World) (hA : Bs w w.heap.size A n xs) (hAc : A = none → c = 0) (hn3 : n ≤ 300) (hL : Ps w w.heap.size L m l) (hm6 : m ≤ 60) (hp : 255 < M) (hr : 2147483648 ≤ D) :
    Calls Try.prog 4 #[.slice A n c, .int .i64 M, .agg #[.bool a, .int .i64 D, .int .u8 (W.toNat : Int)], .slice L m cl] w fun e w' => e = .returned (.bool true) ∧ Below w.heap.size w w' := by
  obtain ⟨i0, hi, hz0, hz1, hz2⟩ := info_parts info_u8
  have hinf := Lib.hid (And.intro hi (And.intro hz0 (And.intro hz1 hz2)))
  have HN := Lib.hid hAc
  have HX : Hid (xs.length = n) := Lib.hid hA.1
  have HLL : Hid (l.length = m) := Lib.hid hL.1
  have HPP : Hid ((ppV l).length = 6 * m) := Lib.hid (by rw [ppV_len, HLL.out])
  have HTP := Lib.hid (tp_put l (n := 6 * m) (by rw [HLL.out]))
  have B0 : Hid (Below w.heap.size w (w.alloc (.cells #[.bool a, .int .i64 D, .int .u8 (W.toNat : Int)] 24))) := Lib.hid ((Below.refl _ w).alloc (Nat.le_refl _) _)
  have K0 := Lib.hid ((((EnvP.nil w).addS hA).addP hL).box 24 #[.bool a, .int .i64 D, .int .u8 (W.toNat : Int)])
  have hn4 : n ≤ 10000 := by omega
  clear hi hz0 hz1 hz2 hA hAc hL
  have hpn : ¬ PadIn M := by unfold PadIn; omega
  have HPE : Hid (padE M = 2) := Lib.hid (by unfold padE; rw [if_neg hpn])
  have HPV : Hid (padV xs M = []) := Lib.hid (by unfold padV; rw [if_neg hpn])
  clear hpn
  have hrn : ¬ RankIn D := by unfold RankIn; omega
  have HRE : Hid (prE D = 2) := Lib.hid (by unfold prE; rw [if_neg hrn])
  have HRV : Hid (prV a D W = []) := Lib.hid (by unfold prV; rw [if_neg hrn])
  clear hrn
  go_enter Try.func4, Try.ntmps4
  go_wp2_with (first
    | (go_at_call 8; (with_reducible refine (fpad_tot A n c M xs _ (K0.out.s (A, n, xs) (by simp)) HN.out hn4).mono ?_); rintro e w1 ⟨v1, rfl, ho, hb⟩; rw [HPE.out]; rw [HPV.out] at ho; obtain ⟨A1, c1, rfl, hc1, _, _⟩ := ho.form2 (n := 0) rfl; have K1 := Lib.hid (K0.out.on hb); have B1 := Lib.hid (below_step B0.out hb); obtain ⟨p0, p1, p2⟩ := K1.out.c3 (g := w.heap.size) (a := .bool a) (b := .int .i64 D) (c := .int .u8 (W.toNat : Int)) (by simp); clear ho; clear hb B0 K0)
    | (go_at_call 13; (with_reducible refine (fprank_tot a D W _).mono ?_); rintro e w3 ⟨v3, rfl, ho, hb⟩; rw [HRE.out]; rw [HRV.out] at ho; obtain ⟨A3, c3, rfl, _, _, _⟩ := ho.form2 (n := 0) rfl; have K3 := Lib.hid (K1.out.on hb); have B3 := Lib.hid (below_step B1.out hb); obtain ⟨p0, p1, p2⟩ := K3.out.c3 (g := w.heap.size) (a := .bool a) (b := .int .i64 D) (c := .int .u8 (W.toNat : Int)) (by simp); clear ho; clear hb B1 K1)
    | (go_at_call 21; (with_reducible refine (fpp_any L m cl l _ (K3.out.p (L, m, l) (by simp)) (by omega)).mono ?_); rintro e w7 ⟨v7, rfl, ho, hb⟩; obtain ⟨A7, c7, rfl, hc7, _, hr⟩ := ho.form2 HPP.out; have K7 := Lib.hid ((K3.out.on hb).addS hr); have B7 := Lib.hid (below_step B3.out hb); clear ho hr; clear hb B3 K3)
    | (go_at_call 17; (with_reducible refine (ftp_tot A7 (6 * m) c7 (ppV l) _ (K7.out.s (A7, 6 * m, ppV l) (by simp)) (by omega) hc7).mono ?_); rintro e w8 ⟨v8, rfl, ho, hb⟩; rw [HTP.out.1]; rw [HTP.out.2] at ho; obtain ⟨A8, c8, rfl, _, _, hr⟩ := ho.form2 HLL.out; have K8 := Lib.hid ((K7.out.on hb).addP hr); have B8 := Lib.hid (below_step B7.out hb); clear ho hr; clear hb B7 K7)
    | (go_at_call 23; (with_reducible refine (rpairs_any A8 L m m c8 cl l l _ (K8.out.p (A8, m, l) (by simp)) (K8.out.p (L, m, l) (by simp)) (by omega)).mono ?_); rintro e w9 ⟨rfl, hb⟩; rw [beq_self_eq_true]; have K9 := Lib.hid (K8.out.on hb); have B9 := Lib.hid (below_step B8.out hb); clear hb B8 K8)
    | (go_at_call 7; (with_reducible refine (wakes_any _).mono ?_); rintro e w10 ⟨rfl, hb⟩; have K10 := Lib.hid (K9.out.on hb); have B10 := Lib.hid (below_step B9.out hb); clear hb B9 K9))
  go_ret
  exact ⟨rfl, B10.out⟩
theorem back_small (A L : Option Addr) (n c m cl : Nat) (M D : Int) (W : UInt8) (a : Bool) (xs : List UInt8) (l : List Pr) (w : World) (hA : Bs w w.heap.size A n xs) (hAc : A = none → c = 0) (hn3 : n ≤ 300) (hL : Ps w w.heap.size L m l) (hm6 : m ≤ 60) :
    Calls Try.prog 4 #[.slice A n c, .int .i64 M, .agg #[.bool a, .int .i64 D, .int .u8 (W.toNat : Int)], .slice L m cl] w fun e w' => e = .returned (.bool true) ∧ Below w.heap.size w w' := by
  have hp : PadIn M ∨ M < 0 ∨ 255 < M := by unfold PadIn; omega
  have hr : RankIn D ∨ D < 0 ∨ 2147483648 ≤ D := by unfold RankIn; omega
  rcases hp with hp | hp | hp
  · rcases hr with hr | hr | hr
    · exact back_YY A L n c m cl M D W a xs l w hA hAc hn3 hL hm6 hp hr
    · exact back_YN A L n c m cl M D W a xs l w hA hAc hn3 hL hm6 hp hr
    · exact back_YG A L n c m cl M D W a xs l w hA hAc hn3 hL hm6 hp hr
  · rcases hr with hr | hr | hr
    · exact back_NY A L n c m cl M D W a xs l w hA hAc hn3 hL hm6 hp hr
    · exact back_NN A L n c m cl M D W a xs l w hA hAc hn3 hL hm6 hp hr
    · exact back_NG A L n c m cl M D W a xs l w hA hAc hn3 hL hm6 hp hr
  · rcases hr with hr | hr | hr
    · exact back_GY A L n c m cl M D W a xs l w hA hAc hn3 hL hm6 hp hr
    · exact back_GN A L n c m cl M D W a xs l w hA hAc hn3 hL hm6 hp hr
    · exact back_GG A L n c m cl M D W a xs l w hA hAc hn3 hL hm6 hp hr
end Go.Proofs.Ytgmnhbpdpnciaaa
