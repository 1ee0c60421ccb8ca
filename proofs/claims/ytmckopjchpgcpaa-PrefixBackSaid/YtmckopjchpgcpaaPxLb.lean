/- PrefixBack: what is put is taken, whatever stands behind it; with its last byte left out it is too short. -/
import Derived.Test.YtmckopjchpgcpaaPxW
import Derived.Test.YtmckopjchpgcpaaGArgs
namespace Go.Proofs.Ytmckopjchpgcpaa
open Go.RowKit Px
set_option linter.unusedVariables false
set_option linter.unusedSimpArgs false
theorem lb_great (n k u : Int) (A : Option Addr) (m c : Nat) (w : World) (h : 300 < m) (hm : m ≤ maxLen) :
    Calls Try.prog 4 #[.int .i64 n, .int .i64 k, .int .u8 u, .slice A m c] w fun e w' => e = .returned (.bool true) ∧ Below w.heap.size w w' := by
  have d0 : decide ((300 : Int) < (m : Int)) = true := decide_eq_true (by omega)
  go_enter Try.func4, Try.ntmps4
  go_wp2_with (go_at_call 7; (with_reducible refine (wakes6 _).mono ?_); rintro e w1 ⟨rfl, hb⟩)
  go_ret
  exact ⟨rfl, hb⟩
theorem lb_no0 (n k : Int) (u : UInt8) (A : Option Addr) (m c : Nat) (w : World) (hm : m ≤ 300) (h : ¬ 1 ≤ k) :
    Calls Try.prog 4 #[.int .i64 n, .int .i64 k, .int .u8 (u.toNat : Int), .slice A m c] w fun e w' => e = .returned (.bool true) ∧ Below w.heap.size w w' := by
  have d0 : decide ((300 : Int) < (m : Int)) = false := decide_eq_false (by omega)
  have hmay : ¬ MayN n k := fun h2 => by have h3 := h2.1.1; have h4 := h2.1.2; have h5 := h2.2.1; have h6 := h2.2.2; omega
  have dN : decide (1 ≤ k) = false := decide_eq_false h
  have hp := Lib.hid (fun w => X_Put n k u w)
  rw [putL_no hmay, putE_no hmay] at hp
  have hs := Lib.hid (fun w => X_Size n k w)
  rw [show sizeV n k = 0 from by unfold sizeV; rw [putL_no hmay]; rfl] at hs
  clear h
  go_enter Try.func4, Try.ntmps4
  go_wp2_with (first
    | go_skip
    | (go_at_call 8; (with_reducible refine (hp.out w).mono ?_); rintro e w1 ⟨A1, c1, rfl, hh, hb⟩; have HB1 := Lib.hid hb; clear hb hh)
    | (go_at_call 15; (with_reducible refine (hs.out w1).mono ?_); rintro e w2 ⟨rfl, hb⟩; have HB2 := Lib.hid (below_step HB1.out hb); clear hb)
    | (go_at_call 7; (with_reducible refine (wakes6 w2).mono ?_); rintro e w3 ⟨rfl, hb⟩; have HB3 := Lib.hid (below_step HB2.out hb); clear hb))
  go_ret
  exact ⟨rfl, HB3.out⟩
theorem lb_no1 (n k : Int) (u : UInt8) (A : Option Addr) (m c : Nat) (w : World) (hm : m ≤ 300) (h : ¬ k ≤ 8) (h0 : 1 ≤ k) :
    Calls Try.prog 4 #[.int .i64 n, .int .i64 k, .int .u8 (u.toNat : Int), .slice A m c] w fun e w' => e = .returned (.bool true) ∧ Below w.heap.size w w' := by
  have d0 : decide ((300 : Int) < (m : Int)) = false := decide_eq_false (by omega)
  have hmay : ¬ MayN n k := fun h2 => by have h3 := h2.1.1; have h4 := h2.1.2; have h5 := h2.2.1; have h6 := h2.2.2; omega
  have d1 : decide (1 ≤ k) = true := decide_eq_true h0
  have dN : decide (k ≤ 8) = false := decide_eq_false h
  have hp := Lib.hid (fun w => X_Put n k u w)
  rw [putL_no hmay, putE_no hmay] at hp
  have hs := Lib.hid (fun w => X_Size n k w)
  rw [show sizeV n k = 0 from by unfold sizeV; rw [putL_no hmay]; rfl] at hs
  clear h h0
  go_enter Try.func4, Try.ntmps4
  go_wp2_with (first
    | go_skip
    | (go_at_call 8; (with_reducible refine (hp.out w).mono ?_); rintro e w1 ⟨A1, c1, rfl, hh, hb⟩; have HB1 := Lib.hid hb; clear hb hh)
    | (go_at_call 15; (with_reducible refine (hs.out w1).mono ?_); rintro e w2 ⟨rfl, hb⟩; have HB2 := Lib.hid (below_step HB1.out hb); clear hb)
    | (go_at_call 7; (with_reducible refine (wakes6 w2).mono ?_); rintro e w3 ⟨rfl, hb⟩; have HB3 := Lib.hid (below_step HB2.out hb); clear hb))
  go_ret
  exact ⟨rfl, HB3.out⟩
theorem lb_no2 (n k : Int) (u : UInt8) (A : Option Addr) (m c : Nat) (w : World) (hm : m ≤ 300) (h : ¬ 0 ≤ n) (h0 : 1 ≤ k) (h1 : k ≤ 8) :
    Calls Try.prog 4 #[.int .i64 n, .int .i64 k, .int .u8 (u.toNat : Int), .slice A m c] w fun e w' => e = .returned (.bool true) ∧ Below w.heap.size w w' := by
  have d0 : decide ((300 : Int) < (m : Int)) = false := decide_eq_false (by omega)
  have hmay : ¬ MayN n k := fun h2 => by have h3 := h2.1.1; have h4 := h2.1.2; have h5 := h2.2.1; have h6 := h2.2.2; omega
  have d1 : decide (1 ≤ k) = true := decide_eq_true h0
  have d2 : decide (k ≤ 8) = true := decide_eq_true h1
  have dN : decide (0 ≤ n) = false := decide_eq_false h
  have hp := Lib.hid (fun w => X_Put n k u w)
  rw [putL_no hmay, putE_no hmay] at hp
  have hs := Lib.hid (fun w => X_Size n k w)
  rw [show sizeV n k = 0 from by unfold sizeV; rw [putL_no hmay]; rfl] at hs
  clear h h0 h1
  go_enter Try.func4, Try.ntmps4
  go_wp2_with (first
    | go_skip
    | (go_at_call 8; (with_reducible refine (hp.out w).mono ?_); rintro e w1 ⟨A1, c1, rfl, hh, hb⟩; have HB1 := Lib.hid hb; clear hb hh)
    | (go_at_call 15; (with_reducible refine (hs.out w1).mono ?_); rintro e w2 ⟨rfl, hb⟩; have HB2 := Lib.hid (below_step HB1.out hb); clear hb)
    | (go_at_call 7; (with_reducible refine (wakes6 w2).mono ?_); rintro e w3 ⟨rfl, hb⟩; have HB3 := Lib.hid (below_step HB2.out hb); clear hb))
  go_ret
  exact ⟨rfl, HB3.out⟩
theorem lb_no3 (n k : Int) (u : UInt8) (A : Option Addr) (m c : Nat) (w : World) (hm : m ≤ 300) (h : ¬ n ≤ 2147483647) (h0 : 1 ≤ k) (h1 : k ≤ 8) (h2 : 0 ≤ n) :
    Calls Try.prog 4 #[.int .i64 n, .int .i64 k, .int .u8 (u.toNat : Int), .slice A m c] w fun e w' => e = .returned (.bool true) ∧ Below w.heap.size w w' := by
  have d0 : decide ((300 : Int) < (m : Int)) = false := decide_eq_false (by omega)
  have hmay : ¬ MayN n k := fun h2 => by have h3 := h2.1.1; have h4 := h2.1.2; have h5 := h2.2.1; have h6 := h2.2.2; omega
  have d1 : decide (1 ≤ k) = true := decide_eq_true h0
  have d2 : decide (k ≤ 8) = true := decide_eq_true h1
  have d3 : decide (0 ≤ n) = true := decide_eq_true h2
  have dN : decide (n ≤ 2147483647) = false := decide_eq_false h
  have hp := Lib.hid (fun w => X_Put n k u w)
  rw [putL_no hmay, putE_no hmay] at hp
  have hs := Lib.hid (fun w => X_Size n k w)
  rw [show sizeV n k = 0 from by unfold sizeV; rw [putL_no hmay]; rfl] at hs
  clear h h0 h1 h2
  go_enter Try.func4, Try.ntmps4
  go_wp2_with (first
    | go_skip
    | (go_at_call 8; (with_reducible refine (hp.out w).mono ?_); rintro e w1 ⟨A1, c1, rfl, hh, hb⟩; have HB1 := Lib.hid hb; clear hb hh)
    | (go_at_call 15; (with_reducible refine (hs.out w1).mono ?_); rintro e w2 ⟨rfl, hb⟩; have HB2 := Lib.hid (below_step HB1.out hb); clear hb)
    | (go_at_call 7; (with_reducible refine (wakes6 w2).mono ?_); rintro e w3 ⟨rfl, hb⟩; have HB3 := Lib.hid (below_step HB2.out hb); clear hb))
  go_ret
  exact ⟨rfl, HB3.out⟩
namespace Px
theorem put_upper {n k u : Nat} (h1 : 1 ≤ k) (h8 : k ≤ 8) (hu : u < 256) : upV (putN n k u) (k : Int) = u / 2 ^ k * 2 ^ k ∧ upE (putN n k u) (k : Int) = 0 := by
  obtain ⟨m, rest, hm, _, hp⟩ := put_first n k u
  unfold upV upE
  rw [if_pos (by omega), if_pos (by omega), hp]
  refine ⟨?_, rfl⟩
  show (UInt8.ofNat (u / 2 ^ k * 2 ^ k + m)).toNat / 2 ^ ((k : Int)).toNat * 2 ^ ((k : Int)).toNat = _
  rw [Int.toNat_natCast, byte_div u k m h8 hu hm]
theorem back_take {n k u : Nat} (zs : List UInt8) (h1 : 1 ≤ k) (h8 : k ≤ 8) (hn : n < 2 ^ 31) (hu : u < 256) : takC (putN n k u ++ zs) (k : Int) = (0, n, (putN n k u).length) ∧ takL (putN n k u ++ zs) (k : Int) = zs := by
  have h := take_put (k := k) h8 hu hn zs
  unfold takL
  rw [takC_yes h1 h8, h]
  exact ⟨rfl, List.drop_left⟩
theorem back_short {n k u : Nat} (h1 : 1 ≤ k) (h8 : k ≤ 8) (hn : n < 2 ^ 31) (hu : u < 256) : takC ((putN n k u).take ((putN n k u).length - 1)) (k : Int) = (10, 0, 0) ∧ takL ((putN n k u).take ((putN n k u).length - 1)) (k : Int) = [] := by
  have h := take_short (k := k) h8 hu hn
  unfold takL
  rw [takC_yes h1 h8, h]
  exact ⟨rfl, rfl⟩
end Px
set_option maxRecDepth 100000 in
set_option maxHeartbeats 4000000 in
theorem lb_yes (n k : Nat) (u : UInt8) (A : Option Addr) (m c : Nat) (zs : List UInt8) (w : World) (hA : Bs w w.heap.size A m zs) (hmc : m ≤ c) (hN : A = none → c = 0) (hm : m ≤ 300) (h1 : 1 ≤ k) (h8 : k ≤ 8) (hn : n ≤ 2147483647) :
    Calls Try.prog 4 #[.int .i64 (n : Int), .int .i64 (k : Int), .int .u8 (u.toNat : Int), .slice A m c] w fun e w' => e = .returned (.bool true) ∧ Below w.heap.size w w' := by
  obtain ⟨i0, hi, hz0, hz1, hz2⟩ := info_parts info_u8
  have hinf := Lib.hid (And.intro hi (And.intro hz0 (And.intro hz1 hz2)))
  clear hi hz0 hz1 hz2
  have hmay : MayN (n : Int) (k : Int) := ⟨⟨by omega, by omega⟩, by omega, by omega⟩
  have hul := u.toNat_lt
  have hp := Lib.hid (fun w => X_Put (n : Int) (k : Int) u w)
  rw [putE_yes hmay, putL_yes hmay] at hp
  have hs := Lib.hid (fun w => X_Size (n : Int) (k : Int) w)
  rw [show sizeV (n : Int) (k : Int) = ((putN n k u.toNat).length : Int) from by unfold sizeV; rw [putL_yes hmay, numB_len_putN, numB_len_putN]] at hs
  have hup := put_upper (n := n) h1 h8 hul
  have htk := back_take (n := n) zs h1 h8 (by omega) hul
  have hsh := back_short (n := n) h1 h8 (by omega) hul
  have hl1 : 1 ≤ (putN n k u.toNat).length := by have := numB_pos n k; rw [numB_len_putN]; omega
  have hl6 : (putN n k u.toNat).length ≤ 6 := by have := numB_len (n := n) (k := k) (by omega); rw [numB_len_putN]; omega
  have hlm := hA.1
  generalize hPL : putN n k u.toNat = PL at *
  have hlen : PL.length = PL.length := rfl
  have HU : Hid (∀ (A : Option Addr) (c : Nat) (w : World), Bs w w.heap.size A PL.length PL → Calls Try.prog 12 #[.slice A PL.length c, .int .i64 (k : Int)] w fun e w' => e = .returned (.tuple #[.int .u8 ((u.toNat / 2 ^ k * 2 ^ k : Nat) : Int), .int .i64 0]) ∧ Below w.heap.size w w') := Lib.hid (fun A c w h => by have h2 := X_Upper A PL.length c PL (k : Int) w h; rw [hup.1, hup.2] at h2; exact h2)
  have HT : Hid (∀ (A : Option Addr) (c : Nat) (w : World), Bs w w.heap.size A (PL.length + m) (PL ++ zs) → PL.length + m ≤ c → Calls Try.prog 10 #[.slice A (PL.length + m) c, .int .i64 (k : Int)] w fun e w' => ∃ A' c', e = .returned (.tuple #[.int .i64 (n : Int), .slice A' m c', .int .i64 0]) ∧ HandS w' w.heap.size A' m c' zs ∧ Below w.heap.size w w') := Lib.hid (fun A c w h hc => by have h2 := X_Take A (PL.length + m) c (PL ++ zs) (k : Int) w h hc (by omega); rw [htk.1, htk.2, hlm] at h2; exact h2)
  have HS : Hid (∀ (A : Option Addr) (c : Nat) (w : World), Bs w w.heap.size A (PL.length - 1) (PL.take (PL.length - 1)) → PL.length - 1 ≤ c → Calls Try.prog 10 #[.slice A (PL.length - 1) c, .int .i64 (k : Int)] w fun e w' => ∃ A' c', e = .returned (.tuple #[.int .i64 0, .slice A' 0 c', .int .i64 10]) ∧ HandS w' w.heap.size A' 0 c' [] ∧ Below w.heap.size w w') := Lib.hid (fun A c w h hc => by have h2 := X_Take A (PL.length - 1) c (PL.take (PL.length - 1)) (k : Int) w h hc (by omega); rw [hsh.1, hsh.2] at h2; exact h2)
  have HPS := Lib.hid (And.intro hp.out hs.out)
  have HTK : Hid (∀ w' B (A' : Option Addr), Bs w' B A' PL.length PL → Bs w' B A' (PL.length - 1) (PL.take (PL.length - 1))) := Lib.hid (fun w' B A' h => h.take (by omega))
  have HLL : Hid ((PL ++ zs).length = PL.length + m ∧ zs.length = m) := Lib.hid ⟨by rw [List.length_append, hlm], hlm⟩
  have HLP : Hid (PL.length ≤ 6) := Lib.hid hl6
  clear hup htk hsh hp hs hPL hlen hmay hlm
  generalize hPN : PL.length = PN at *
  have HPN := Lib.hid hPN
  clear hPN
  have hUV : wrap64 ((u.toNat / 2 ^ k * 2 ^ k : Nat) : Int) = wrap64 ((u.toNat : Int) / 2 ^ k * 2 ^ k) := by rw [Int.natCast_mul, Int.natCast_ediv, Int.natCast_pow]; rfl
  generalize u.toNat / 2 ^ k * 2 ^ k = UV at *
  have d0 : decide ((300 : Int) < (m : Int)) = false := decide_eq_false (by omega)
  have d1 : decide ((1 : Int) ≤ (k : Int)) = true := decide_eq_true (by omega)
  have d2 : decide ((k : Int) ≤ 8) = true := decide_eq_true (by omega)
  have d3 : decide ((0 : Int) ≤ (n : Int)) = true := decide_eq_true (by omega)
  have d4 : decide ((n : Int) ≤ 2147483647) = true := decide_eq_true (by omega)
  have p1 : (1 : Int) ≤ (PN : Int) := by omega
  have d5 : ((PN : Int) == 0) = false := by rw [beq_eq_false_iff_ne]; omega
  have HA := Lib.hid hA
  have HN := Lib.hid hN
  have K0 : Hid (EnvF w [bF A m zs] []) := Lib.hid ((EnvF.nil w).addB hA)
  have B0 : Hid (Below w.heap.size w w) := Lib.hid (Below.refl _ w)
  clear hA hN
  go_enter Try.func4, Try.ntmps4
  go_wp2_with (first
    | go_skip
    | (go_at_call 8; (have hc := (HPS.out.1 w); (with_reducible refine hc.mono ?_); clear hc); rintro e w1 ⟨A1, c1, rfl, hh, hb⟩; have HC1 := Lib.hid hh.2.2; have hpc : (PN : Int) - 1 ≤ (c1 : Int) := (by have := hh.2.2.1; omega); have K1 : Hid (EnvF w1 [bF A1 PN PL, bF A m zs] []) := Lib.hid (K0.out.handS hb hh); have B1 : Hid (Below w.heap.size w w1) := Lib.hid (below_step B0.out hb); clear hb hh K0 B0)
    | (at_builtin; refine wpList_append_bytes _ rfl (.tmp 66) (.tmp 67) 22 rfl w1.heap.size 5 i0 Try.underlying22 hinf.out.1 hinf.out.2.1 hinf.out.2.2.1 hinf.out.2.2.2 _ [] rfl (OwnB.lit2 w1 5 w1.heap.size w1.heap.size rfl (Nat.le_refl _)) _ A1 PN c1 PL rfl ((K1.out.al (.cells #[] 5)).bs (A := A1) (n := PN) (xs := PL) (by simp)) HC1.out.2 (by have := HLP.out; simp; omega) (by simp) ?_; intro v2 w2 ho2 hb2; rw [List.nil_append] at ho2; obtain ⟨A2, c2, rfl, hh2⟩ := ho2.handS (n := PN) HPN.out; have HO2 := Lib.hid ho2; have HB2 : Hid (Below w1.heap.size w1 w2) := Lib.hid (((Below.refl _ w1).alloc (Nat.le_refl _) (.cells #[] 5)).trans hb2); have hz2' : w1.heap.size ≤ w2.heap.size := HB2.out.size; clear ho2 hh2 hb2)
    | (at_builtin; refine wpList_append_bytes _ rfl (.tmp 68) (.tmp 69) 22 rfl w1.heap.size 5 i0 Try.underlying22 hinf.out.1 hinf.out.2.1 hinf.out.2.2.1 hinf.out.2.2.2 _ PL rfl HO2.out _ A m c zs rfl ((K1.out.on HB2.out).bs (A := A) (n := m) (xs := zs) (by simp)) HN.out (by have := HLP.out; have := HPN.out; omega) hz2' ?_; intro v3 w3 ho3 hb3; obtain ⟨A3, c3, rfl, hh3⟩ := ho3.handS (n := PN + m) HLL.out.1; have HC3 := Lib.hid hh3.2.2; have HB3 : Hid (Below w1.heap.size w1 w3) := Lib.hid (HB2.out.trans hb3); have K3 : Hid (EnvF w3 [bF A3 (PN + m) (PL ++ zs), bF A1 PN PL, bF A m zs] []) := Lib.hid (K1.out.handS HB3.out hh3); have B3 : Hid (Below w.heap.size w w3) := Lib.hid (below_step B1.out HB3.out); clear ho3 hb3 hh3 K1 B1 HO2 HB2)
    | (go_at_call 10; (have hc := (HT.out A3 c3 w3 (K3.out.bs (A := A3) (n := (PN + m)) (xs := (PL ++ zs)) (by simp)) HC3.out.1); (with_reducible refine hc.mono ?_); clear hc); rintro e w4 ⟨A4, c4, rfl, hh, hb⟩; have K4 : Hid (EnvF w4 [bF A4 m zs, bF A3 (PN + m) (PL ++ zs), bF A1 PN PL, bF A m zs] []) := Lib.hid (K3.out.handS hb hh); have B4 : Hid (Below w.heap.size w w4) := Lib.hid (below_step B3.out hb); clear hb hh K3 B3)
    | (go_at_call 12; (have hc := (HU.out A1 c1 w4 (K4.out.bs (A := A1) (n := PN) (xs := PL) (by simp))); (with_reducible refine hc.mono ?_); clear hc); rintro e w5 ⟨rfl, hb⟩; have K5 : Hid (EnvF w5 [bF A4 m zs, bF A3 (PN + m) (PL ++ zs), bF A1 PN PL, bF A m zs] []) := Lib.hid (K4.out.on hb); have B5 : Hid (Below w.heap.size w w5) := Lib.hid (below_step B4.out hb); clear hb K4 B4)
    | (go_at_call 14; (have hc := (x_same A4 A m m c4 c _ _ zs zs w5 (K5.out.bs (A := A4) (n := m) (xs := zs) (by simp)) (K5.out.bs (A := A) (n := m) (xs := zs) (by simp))); (with_reducible refine hc.mono ?_); clear hc); rintro e w' ⟨rfl, rfl⟩; rw [beq_self_eq_true])
    | (go_at_call 15; (have hc := (HPS.out.2 w5); (with_reducible refine hc.mono ?_); clear hc); rintro e w6 ⟨rfl, hb⟩; have K6 : Hid (EnvF w6 [bF A4 m zs, bF A3 (PN + m) (PL ++ zs), bF A1 PN PL, bF A m zs] []) := Lib.hid (K5.out.on hb); have B6 : Hid (Below w.heap.size w w6) := Lib.hid (below_step B5.out hb); clear hb K5 B5)
    | (go_at_call 10; (have hc := (HS.out A1 c1 w6 (HTK.out _ _ _ (K6.out.bs (A := A1) (n := PN) (xs := PL) (by simp))) (by have := HC1.out.1; omega)); (with_reducible refine hc.mono ?_); clear hc); rintro e w7 ⟨A5, c5, rfl, hh, hb⟩; have K7 : Hid (EnvF w7 [bF A5 0 [], bF A4 m zs, bF A3 (PN + m) (PL ++ zs), bF A1 PN PL, bF A m zs] []) := Lib.hid (K6.out.handS hb hh); have B7 : Hid (Below w.heap.size w w7) := Lib.hid (below_step B6.out hb); clear hb hh K6 B6)
    | (go_at_call 7; (have hc := (wakes6 w7); (with_reducible refine hc.mono ?_); clear hc); rintro e w8 ⟨rfl, hb⟩; have K8 : Hid (EnvF w8 [bF A5 0 [], bF A4 m zs, bF A3 (PN + m) (PL ++ zs), bF A1 PN PL, bF A m zs] []) := Lib.hid (K7.out.on hb); have B8 : Hid (Below w.heap.size w w8) := Lib.hid (below_step B7.out hb); clear hb K7 B7))
  go_ret
  exact ⟨rfl, B8.out⟩
end Go.Proofs.Ytmckopjchpgcpaa
