/- The walk of TextOnly. -/
import Derived.Test.YtdcbafddnegpaaaDoorTxW
namespace Go.Proofs.YtdcbafddnegpaaaDoor
open Go.RowKit Hf Oct Tx
set_option linter.unusedVariables false
set_option linter.unusedSimpArgs false
set_option maxHeartbeats 1000000 in
theorem to_great (A : Option Addr) (n c : Nat) (w : World) (hR : Rws w) (h : 3000 < n) (hn : n ≤ maxLen) :
    Calls Tryd.prog 5 #[.slice A n c] w fun e w' => e = .returned (.bool true) ∧ Below w.heap.size w w' := by
  have HW := Lib.hid (wakes8 w hR)
  clear hR
  unfold maxLen at hn
  · go_enter Tryd.func5, Tryd.ntmps5
    go_wp2_with (go_at_call 7; (with_reducible refine HW.out.mono ?_); rintro e w1 ⟨rfl, hb1⟩; have HB1 := Lib.hid hb1; clear hb1)
    go_ret
    exact ⟨rfl, HB1.out⟩
set_option maxRecDepth 100000 in
set_option maxHeartbeats 4000000 in
theorem to_num (A : Option Addr) (n c : Nat) (xs : List UInt8) (w : World) (hR : Rws w) (hA : Bs w w.heap.size A n xs) (hnc : n ≤ c) (hn : n ≤ 3000) (h : cT xs ≠ 0) :
    Calls Tryd.prog 5 #[.slice A n c] w fun e w' => e = .returned (.bool true) ∧ Below w.heap.size w w' := by
  have K0 : Hid (EnvF w [bF A n xs, rF] []) := Lib.hid ((Tx.envR w hR).add0 (x := bF A n xs) hA (bs_on hA))
  have B0 : Hid (Below w.heap.size w w) := Lib.hid (Below.refl _ w)
  have HX := Lib.hid (x_Take A n c xs w hR hA hnc (by omega) (.inl (by omega)))
  obtain ⟨e1, e2, e3⟩ := t_num h
  rw [e1, e2, e3] at HX
  have HC := Lib.hid (y_take7 A n c xs)
  obtain ⟨C, hC⟩ : ∃ C : Nat, cT xs = C := ⟨_, rfl⟩
  rw [hC] at h HX HC
  have q1 : ((C : Int) != 0) = true := by simp; omega
  have q2 : ((C : Int) == 0) = false := by simp; omega
  clear hR hA e1 e2 e3 hC
  go_enter Tryd.func5, Tryd.ntmps5
  go_wp2_with (first
    | go_skip
    | (go_at_call 8; (have hc := (HX.out); (with_reducible refine hc.mono ?_); clear hc); rintro e w1 ⟨A1, c1, rfl, hh, hb⟩; have K1 : Hid (EnvF w1 [bF A n xs, rF] []) := Lib.hid (K0.out.on hb); have B1 : Hid (Below w.heap.size w w1) := Lib.hid (below_step B0.out hb); clear hb hh K0 B0)
    | (go_at_call 19; (have hc := (HC.out w1 (K1.out.bs (A := A) (n := n) (xs := xs) (by simp)) hnc (by omega)); (with_reducible refine hc.mono ?_); clear hc); rintro e w2 ⟨A2, c2, rfl, hh, hb⟩; have K2 : Hid (EnvF w2 [bF A n xs, rF] []) := Lib.hid (K1.out.on hb); have B2 : Hid (Below w.heap.size w w2) := Lib.hid (below_step B1.out hb); clear hb hh K1 B1)
    | (go_at_call 7; (have hc := (wakes8 w2 (Tx.EnvF.rws K2.out (by simp))); (with_reducible refine hc.mono ?_); clear hc); rintro e w3 ⟨rfl, hb⟩; have K3 : Hid (EnvF w3 [bF A n xs, rF] []) := Lib.hid (K2.out.on hb); have B3 : Hid (Below w.heap.size w w3) := Lib.hid (below_step B2.out hb); clear hb K2 B2))
  go_ret
  exact ⟨by first | rfl | (simp; done), B3.out⟩
set_option maxRecDepth 100000 in
set_option maxHeartbeats 4000000 in
theorem to_short (A : Option Addr) (n c : Nat) (xs : List UInt8) (w : World) (hR : Rws w) (hA : Bs w w.heap.size A n xs) (hnc : n ≤ c) (hn : n ≤ 3000) (h : cT xs = 0) (h2 : (rT xs).length < nT xs) :
    Calls Tryd.prog 5 #[.slice A n c] w fun e w' => e = .returned (.bool true) ∧ Below w.heap.size w w' := by
  have K0 : Hid (EnvF w [bF A n xs, rF] []) := Lib.hid ((Tx.envR w hR).add0 (x := bF A n xs) hA (bs_on hA))
  have B0 : Hid (Below w.heap.size w w) := Lib.hid (Below.refl _ w)
  have HX := Lib.hid (x_Take A n c xs w hR hA hnc (by omega) (.inl (by omega)))
  obtain ⟨e1, e2, e3⟩ := t_short h h2
  rw [e1, e2, e3] at HX
  have HC := Lib.hid (y_take7 A n c xs)
  rw [h] at HC
  obtain ⟨N, hN⟩ : ∃ N : Nat, nT xs = N := ⟨_, rfl⟩
  obtain ⟨R, hR2⟩ : ∃ R : Nat, (rT xs).length = R := ⟨_, rfl⟩
  rw [hN] at h2 HC
  rw [hR2] at h2 HC
  have q1 : decide ((R : Int) < (N : Int)) = true := decide_eq_true (by omega)
  have q2 : decide (R < N) = true := decide_eq_true (by omega)
  clear hR hA e1 e2 e3 hN hR2 h
  go_enter Tryd.func5, Tryd.ntmps5
  go_wp2_with (first
    | go_skip
    | (go_at_call 8; (have hc := (HX.out); (with_reducible refine hc.mono ?_); clear hc); rintro e w1 ⟨A1, c1, rfl, hh, hb⟩; have K1 : Hid (EnvF w1 [bF A n xs, rF] []) := Lib.hid (K0.out.on hb); have B1 : Hid (Below w.heap.size w w1) := Lib.hid (below_step B0.out hb); clear hb hh K0 B0)
    | (go_at_call 19; (have hc := (HC.out w1 (K1.out.bs (A := A) (n := n) (xs := xs) (by simp)) hnc (by omega)); (with_reducible refine hc.mono ?_); clear hc); rintro e w2 ⟨A2, c2, rfl, hh, hb⟩; have K2 : Hid (EnvF w2 [bF A n xs, rF] []) := Lib.hid (K1.out.on hb); have B2 : Hid (Below w.heap.size w w2) := Lib.hid (below_step B1.out hb); clear hb hh K1 B1)
    | (go_at_call 7; (have hc := (wakes8 w2 (Tx.EnvF.rws K2.out (by simp))); (with_reducible refine hc.mono ?_); clear hc); rintro e w3 ⟨rfl, hb⟩; have K3 : Hid (EnvF w3 [bF A n xs, rF] []) := Lib.hid (K2.out.on hb); have B3 : Hid (Below w.heap.size w w3) := Lib.hid (below_step B2.out hb); clear hb K2 B2))
  go_ret
  exact ⟨by first | rfl | (simp; done), B3.out⟩
set_option maxRecDepth 100000 in
set_option maxHeartbeats 4000000 in
theorem to_plain (A : Option Addr) (n c : Nat) (xs : List UInt8) (w : World) (hR : Rws w) (hA : Bs w w.heap.size A n xs) (hnc : n ≤ c) (hn : n ≤ 3000) (h : cT xs = 0) (h2 : nT xs ≤ (rT xs).length) (h3 : wT xs = false) :
    Calls Tryd.prog 5 #[.slice A n c] w fun e w' => e = .returned (.bool true) ∧ Below w.heap.size w w' := by
  have HX := Lib.hid (x_Take A n c xs w hR hA hnc (by omega) (.inl (by omega)))
  obtain ⟨e1, e2, e3⟩ := t_plain h h2 h3
  rw [e1, e2, e3] at HX
  obtain ⟨x, ys, rfl⟩ := Tx.rT_pos h
  have HC := Lib.hid (y_take7 A n c (x :: ys))
  rw [h] at HC
  have hle := Tx.rT_le (x :: ys)
  have hl := hA.1
  obtain ⟨b, o, rfl, hb, hcc⟩ := bs_cell hA (by rw [List.length_cons] at hl; omega)
  obtain ⟨x', hx', c0⟩ := hcc 0 (by rw [List.length_cons] at hl; omega)
  simp only [List.getElem?_cons_zero, Option.some.injEq] at hx'
  subst hx'
  rw [Nat.add_zero] at c0
  have HC0 := Lib.hid c0
  have HBB := Lib.hid hb
  have hxl : decide ((x.toNat : Int) < 128) = true := decide_eq_true (by have h4 : ¬ 128 ≤ x.toNat := (by simpa [wT] using h3); omega)
  have hn0 : 0 < n := by rw [List.length_cons] at hl; omega
  obtain ⟨N, hN⟩ : ∃ N : Nat, nT (x :: ys) = N := ⟨_, rfl⟩
  obtain ⟨L, hL⟩ : ∃ L : List UInt8, rT (x :: ys) = L := ⟨_, rfl⟩
  rw [hN, hL] at h2 HX HC
  rw [hL] at hle
  obtain ⟨R, hR2⟩ : ∃ R : Nat, L.length = R := ⟨_, rfl⟩
  rw [hR2] at h2 HC hle
  rw [hl] at hle
  have hRn : R ≤ 3000 := by omega
  have q1 : decide ((R : Int) < (N : Int)) = false := decide_eq_false (by omega)
  have q2 : decide (R < N) = false := decide_eq_false (by omega)
  have hNR : (N : Int) ≤ (R : Int) := by omega
  have K0 : Hid (EnvF w [bF (some ⟨b, o, none⟩) n (x :: ys), rF] []) := Lib.hid ((Tx.envR w hR).add0 (x := bF (some ⟨b, o, none⟩) n (x :: ys)) hA (bs_on hA))
  have B0 : Hid (Below w.heap.size w w) := Lib.hid (Below.refl _ w)
  have hdl : (L.drop N).length = R - N := by rw [List.length_drop, hR2]
  have HDL := Lib.hid hdl
  rw [hdl] at HX
  clear hR hA e1 e2 e3 hN hL hl hle h h3 hR2 hb hcc c0 hdl
  go_enter Tryd.func5, Tryd.ntmps5
  go_wp2_with (first
    | go_skip
    | (go_at_call 8; (have hc := (HX.out); (with_reducible refine hc.mono ?_); clear hc); rintro e w1 ⟨A1, c1, rfl, hh, hb⟩; have K1 : Hid (EnvF w1 [bF A1 (R - N) (L.drop N), bF (some ⟨b, o, none⟩) n (x :: ys), rF] []) := Lib.hid (K0.out.handS hb hh); have B1 : Hid (Below w.heap.size w w1) := Lib.hid (below_step B0.out hb); clear hb hh K0 B0)
    | (go_at_call 19; (have hc := (HC.out w1 (K1.out.bs (A := (some ⟨b, o, none⟩)) (n := n) (xs := (x :: ys)) (by simp)) hnc (by omega)); (with_reducible refine hc.mono ?_); clear hc); rintro e w2 ⟨A2, c2, rfl, hh, hb⟩; have hcap := hh.2.2.1; have hNc : N ≤ c2 := (by omega); have hNc2 : (N : Int) ≤ (c2 : Int) := (by omega); have hRc : (R : Int) ≤ (c2 : Int) := (by omega); obtain ⟨A3, hA3⟩ : ∃ A3, (if c2 = N then A2 else A2.map fun x => x.add N) = A3 := ⟨_, rfl⟩; have HA3 := Lib.hid hA3; have hcx : w2.cell? ⟨b, o, none⟩ = some (.int .u8 (x.toNat : Int)) := ((B1.out.trans (hb.mono B1.out.size)).cell (p := ⟨b, o, none⟩) HBB.out).trans HC0.out; have K2 : Hid (EnvF w2 [bF A2 R L, bF A1 (R - N) (L.drop N), bF (some ⟨b, o, none⟩) n (x :: ys), rF] []) := Lib.hid (K1.out.handS hb hh); have B2 : Hid (Below w.heap.size w w2) := Lib.hid (below_step B1.out hb); clear hb hh K1 B1; have hcv := conv_bytes (c := c2) ((K2.out.bs (A := A2) (n := R) (xs := L) (by simp)).take h2))
    | (go_at_call 10; (have hc := (l_same A1 A3 (R - N) (R - N) c1 (c2 - N) _ _ (L.drop N) (L.drop N) w2 (K2.out.bs (A := A1) (n := (R - N)) (xs := (L.drop N)) (by simp)) (HA3.out ▸ Tx.cutO (K2.out.bs (A := A2) (n := R) (xs := L) (by simp)) h2 hcap : Bs w2 w2.heap.size A3 (R - N) (L.drop N))); (with_reducible refine hc.mono ?_); clear hc); rintro e w' ⟨rfl, rfl⟩; rw [beq_self_eq_true])
    | (go_at_call 7; (have hc := (wakes8 w2 (Tx.EnvF.rws K2.out (by simp))); (with_reducible refine hc.mono ?_); clear hc); rintro e w3 ⟨rfl, hb⟩; have K3 : Hid (EnvF w3 [bF A2 R L, bF A1 (R - N) (L.drop N), bF (some ⟨b, o, none⟩) n (x :: ys), rF] []) := Lib.hid (K2.out.on hb); have B3 : Hid (Below w.heap.size w w3) := Lib.hid (below_step B2.out hb); clear hb K2 B2))
  go_ret
  exact ⟨by first | rfl | (simp; done), B3.out⟩
set_option maxRecDepth 100000 in
set_option maxHeartbeats 4000000 in
theorem to_bitsok (A : Option Addr) (n c : Nat) (xs : List UInt8) (w : World) (hR : Rws w) (hA : Bs w w.heap.size A n xs) (hnc : n ≤ c) (hn : n ≤ 3000) (h : cT xs = 0) (h2 : nT xs ≤ (rT xs).length) (h3 : wT xs = true) (hE : takeE ((rT xs).take (nT xs)) = 0) :
    Calls Tryd.prog 5 #[.slice A n c] w fun e w' => e = .returned (.bool true) ∧ Below w.heap.size w w' := by
  have HX := Lib.hid (x_Take A n c xs w hR hA hnc (by omega) (.inl (by omega)))
  obtain ⟨e1, e2, e3⟩ := t_bits h h2 h3
  rw [hE] at e1
  rw [if_pos hE] at e3
  rw [e1, e2, e3] at HX
  obtain ⟨x, ys, rfl⟩ := Tx.rT_pos h
  have HC := Lib.hid (y_take7 A n c (x :: ys))
  rw [h] at HC
  have hle := Tx.rT_le (x :: ys)
  have hl := hA.1
  obtain ⟨b, o, rfl, hb, hcc⟩ := bs_cell hA (by rw [List.length_cons] at hl; omega)
  obtain ⟨x', hx', c0⟩ := hcc 0 (by rw [List.length_cons] at hl; omega)
  simp only [List.getElem?_cons_zero, Option.some.injEq] at hx'
  subst hx'
  rw [Nat.add_zero] at c0
  have HC0 := Lib.hid c0
  have HBB := Lib.hid hb
  have hxl : decide ((x.toNat : Int) < 128) = false := decide_eq_false (by have h4 : 128 ≤ x.toNat := (by simpa [wT] using h3); omega)
  have hn0 : 0 < n := by rw [List.length_cons] at hl; omega
  obtain ⟨N, hN⟩ : ∃ N : Nat, nT (x :: ys) = N := ⟨_, rfl⟩
  obtain ⟨L, hL⟩ : ∃ L : List UInt8, rT (x :: ys) = L := ⟨_, rfl⟩
  rw [hN, hL] at h2 HX HC hE
  rw [hL] at hle
  obtain ⟨R, hR2⟩ : ∃ R : Nat, L.length = R := ⟨_, rfl⟩
  rw [hR2] at h2 HC hle
  rw [hl] at hle
  have hRn : R ≤ 3000 := by omega
  have q1 : decide ((R : Int) < (N : Int)) = false := decide_eq_false (by omega)
  have q2 : decide (R < N) = false := decide_eq_false (by omega)
  have hNR : (N : Int) ≤ (R : Int) := by omega
  have K0 : Hid (EnvF w [bF (some ⟨b, o, none⟩) n (x :: ys), rF] []) := Lib.hid ((Tx.envR w hR).add0 (x := bF (some ⟨b, o, none⟩) n (x :: ys)) hA (bs_on hA))
  have B0 : Hid (Below w.heap.size w w) := Lib.hid (Below.refl _ w)
  have hdl : (L.drop N).length = R - N := by rw [List.length_drop, hR2]
  have HDL := Lib.hid hdl
  have HE := Lib.hid hE
  clear hE
  rw [hdl] at HX
  clear hR hA e1 e2 e3 hN hL hl hle h h3 hR2 hb hcc c0 hdl
  go_enter Tryd.func5, Tryd.ntmps5
  go_wp2_with (first
    | go_skip
    | (go_at_call 8; (have hc := (HX.out); (with_reducible refine hc.mono ?_); clear hc); rintro e w1 ⟨A1, c1, rfl, hh, hb⟩; have K1 : Hid (EnvF w1 [bF A1 (R - N) (L.drop N), bF (some ⟨b, o, none⟩) n (x :: ys), rF] []) := Lib.hid (K0.out.handS hb hh); have B1 : Hid (Below w.heap.size w w1) := Lib.hid (below_step B0.out hb); clear hb hh K0 B0)
    | (go_at_call 19; (have hc := (HC.out w1 (K1.out.bs (A := (some ⟨b, o, none⟩)) (n := n) (xs := (x :: ys)) (by simp)) hnc (by omega)); (with_reducible refine hc.mono ?_); clear hc); rintro e w2 ⟨A2, c2, rfl, hh, hb⟩; have hcap := hh.2.2.1; have hNc : N ≤ c2 := (by omega); have hNc2 : (N : Int) ≤ (c2 : Int) := (by omega); have hRc : (R : Int) ≤ (c2 : Int) := (by omega); obtain ⟨A3, hA3⟩ : ∃ A3, (if c2 = N then A2 else A2.map fun x => x.add N) = A3 := ⟨_, rfl⟩; have HA3 := Lib.hid hA3; have hcx : w2.cell? ⟨b, o, none⟩ = some (.int .u8 (x.toNat : Int)) := ((B1.out.trans (hb.mono B1.out.size)).cell (p := ⟨b, o, none⟩) HBB.out).trans HC0.out; have K2 : Hid (EnvF w2 [bF A2 R L, bF A1 (R - N) (L.drop N), bF (some ⟨b, o, none⟩) n (x :: ys), rF] []) := Lib.hid (K1.out.handS hb hh); have B2 : Hid (Below w.heap.size w w2) := Lib.hid (below_step B1.out hb); clear hb hh K1 B1)
    | (go_at_call 20; (have hc := (r_take A2 N c2 (L.take N) w2 ((K2.out.bs (A := A2) (n := R) (xs := L) (by simp)).take h2) (by omega)); (with_reducible refine hc.mono ?_); clear hc); rintro e w3 ⟨A4, m4, c4, rfl, hh, hb⟩; rw [HE.out]; have K3 : Hid (EnvF w3 [bF A4 m4 (takeL (L.take N)), bF A2 R L, bF A1 (R - N) (L.drop N), bF (some ⟨b, o, none⟩) n (x :: ys), rF] []) := Lib.hid (K2.out.handS hb hh); have B3 : Hid (Below w.heap.size w w3) := Lib.hid (below_step B2.out hb); clear hb hh K2 B2; have hcv := conv_bytes (c := c4) (K3.out.bs (A := A4) (n := m4) (xs := takeL (L.take N)) (by simp)))
    | (go_at_call 10; (have hc := (l_same A1 A3 (R - N) (R - N) c1 (c2 - N) _ _ (L.drop N) (L.drop N) w3 (K3.out.bs (A := A1) (n := (R - N)) (xs := (L.drop N)) (by simp)) (HA3.out ▸ Tx.cutO (K3.out.bs (A := A2) (n := R) (xs := L) (by simp)) h2 hcap : Bs w3 w3.heap.size A3 (R - N) (L.drop N))); (with_reducible refine hc.mono ?_); clear hc); rintro e w' ⟨rfl, rfl⟩; rw [beq_self_eq_true])
    | (go_at_call 7; (have hc := (wakes8 w3 (Tx.EnvF.rws K3.out (by simp))); (with_reducible refine hc.mono ?_); clear hc); rintro e w4 ⟨rfl, hb⟩; have K4 : Hid (EnvF w4 [bF A4 m4 (takeL (L.take N)), bF A2 R L, bF A1 (R - N) (L.drop N), bF (some ⟨b, o, none⟩) n (x :: ys), rF] []) := Lib.hid (K3.out.on hb); have B4 : Hid (Below w.heap.size w w4) := Lib.hid (below_step B3.out hb); clear hb K3 B3))
  go_ret
  exact ⟨by first | rfl | (simp; done), B4.out⟩
set_option maxRecDepth 100000 in
set_option maxHeartbeats 4000000 in
theorem to_bitsno (A : Option Addr) (n c : Nat) (xs : List UInt8) (w : World) (hR : Rws w) (hA : Bs w w.heap.size A n xs) (hnc : n ≤ c) (hn : n ≤ 3000) (h : cT xs = 0) (h2 : nT xs ≤ (rT xs).length) (h3 : wT xs = true) (hE : takeE ((rT xs).take (nT xs)) = 70) :
    Calls Tryd.prog 5 #[.slice A n c] w fun e w' => e = .returned (.bool true) ∧ Below w.heap.size w w' := by
  have HX := Lib.hid (x_Take A n c xs w hR hA hnc (by omega) (.inl (by omega)))
  obtain ⟨e1, e2, e3⟩ := t_bits h h2 h3
  have hL0 : takeL ((rT xs).take (nT xs)) = [] := by rcases takeE_or ((rT xs).take (nT xs)) with g | ⟨_, g⟩ <;> first | exact g | omega
  rw [hE] at e1
  rw [if_neg (by omega)] at e3
  rw [hL0] at e2
  rw [e1, e2, e3] at HX
  obtain ⟨x, ys, rfl⟩ := Tx.rT_pos h
  have HC := Lib.hid (y_take7 A n c (x :: ys))
  rw [h] at HC
  have hle := Tx.rT_le (x :: ys)
  have hl := hA.1
  obtain ⟨b, o, rfl, hb, hcc⟩ := bs_cell hA (by rw [List.length_cons] at hl; omega)
  obtain ⟨x', hx', c0⟩ := hcc 0 (by rw [List.length_cons] at hl; omega)
  simp only [List.getElem?_cons_zero, Option.some.injEq] at hx'
  subst hx'
  rw [Nat.add_zero] at c0
  have HC0 := Lib.hid c0
  have HBB := Lib.hid hb
  have hxl : decide ((x.toNat : Int) < 128) = false := decide_eq_false (by have h4 : 128 ≤ x.toNat := (by simpa [wT] using h3); omega)
  have hn0 : 0 < n := by rw [List.length_cons] at hl; omega
  obtain ⟨N, hN⟩ : ∃ N : Nat, nT (x :: ys) = N := ⟨_, rfl⟩
  obtain ⟨L, hL⟩ : ∃ L : List UInt8, rT (x :: ys) = L := ⟨_, rfl⟩
  rw [hN, hL] at h2 HC hE hL0
  rw [hL] at hle
  obtain ⟨R, hR2⟩ : ∃ R : Nat, L.length = R := ⟨_, rfl⟩
  rw [hR2] at h2 HC hle
  rw [hl] at hle
  have hRn : R ≤ 3000 := by omega
  have q1 : decide ((R : Int) < (N : Int)) = false := decide_eq_false (by omega)
  have q2 : decide (R < N) = false := decide_eq_false (by omega)
  have hNR : (N : Int) ≤ (R : Int) := by omega
  have K0 : Hid (EnvF w [bF (some ⟨b, o, none⟩) n (x :: ys), rF] []) := Lib.hid ((Tx.envR w hR).add0 (x := bF (some ⟨b, o, none⟩) n (x :: ys)) hA (bs_on hA))
  have B0 : Hid (Below w.heap.size w w) := Lib.hid (Below.refl _ w)
  have hdl : (L.drop N).length = R - N := by rw [List.length_drop, hR2]
  have HDL := Lib.hid hdl
  have HE := Lib.hid hE
  clear hE
  have HE2 := Lib.hid hL0
  clear hL0
  clear hR hA e1 e2 e3 hN hL hl hle h h3 hR2 hb hcc c0 hdl
  go_enter Tryd.func5, Tryd.ntmps5
  go_wp2_with (first
    | go_skip
    | (go_at_call 8; (have hc := (HX.out); (with_reducible refine hc.mono ?_); clear hc); rintro e w1 ⟨A1, c1, rfl, hh, hb⟩; have K1 : Hid (EnvF w1 [bF A1 0 [], bF (some ⟨b, o, none⟩) n (x :: ys), rF] []) := Lib.hid (K0.out.handS hb hh); have B1 : Hid (Below w.heap.size w w1) := Lib.hid (below_step B0.out hb); clear hb hh K0 B0)
    | (go_at_call 19; (have hc := (HC.out w1 (K1.out.bs (A := (some ⟨b, o, none⟩)) (n := n) (xs := (x :: ys)) (by simp)) hnc (by omega)); (with_reducible refine hc.mono ?_); clear hc); rintro e w2 ⟨A2, c2, rfl, hh, hb⟩; have hcap := hh.2.2.1; have hNc : N ≤ c2 := (by omega); have hNc2 : (N : Int) ≤ (c2 : Int) := (by omega); have hRc : (R : Int) ≤ (c2 : Int) := (by omega); obtain ⟨A3, hA3⟩ : ∃ A3, (if c2 = N then A2 else A2.map fun x => x.add N) = A3 := ⟨_, rfl⟩; have HA3 := Lib.hid hA3; have hcx : w2.cell? ⟨b, o, none⟩ = some (.int .u8 (x.toNat : Int)) := ((B1.out.trans (hb.mono B1.out.size)).cell (p := ⟨b, o, none⟩) HBB.out).trans HC0.out; have K2 : Hid (EnvF w2 [bF A2 R L, bF A1 0 [], bF (some ⟨b, o, none⟩) n (x :: ys), rF] []) := Lib.hid (K1.out.handS hb hh); have B2 : Hid (Below w.heap.size w w2) := Lib.hid (below_step B1.out hb); clear hb hh K1 B1)
    | (go_at_call 20; (have hc := (r_take A2 N c2 (L.take N) w2 ((K2.out.bs (A := A2) (n := R) (xs := L) (by simp)).take h2) (by omega)); (with_reducible refine hc.mono ?_); clear hc); rintro e w3 ⟨A4, m4, c4, rfl, hh, hb⟩; rw [HE.out]; have K3 : Hid (EnvF w3 [bF A2 R L, bF A1 0 [], bF (some ⟨b, o, none⟩) n (x :: ys), rF] []) := Lib.hid (K2.out.on hb); have B3 : Hid (Below w.heap.size w w3) := Lib.hid (below_step B2.out hb); clear hb hh K2 B2)
    | (go_at_call 7; (have hc := (wakes8 w3 (Tx.EnvF.rws K3.out (by simp))); (with_reducible refine hc.mono ?_); clear hc); rintro e w4 ⟨rfl, hb⟩; have K4 : Hid (EnvF w4 [bF A2 R L, bF A1 0 [], bF (some ⟨b, o, none⟩) n (x :: ys), rF] []) := Lib.hid (K3.out.on hb); have B4 : Hid (Below w.heap.size w w4) := Lib.hid (below_step B3.out hb); clear hb K3 B3))
  go_ret
  exact ⟨by first | rfl | (simp; done), B4.out⟩
theorem to_main (A : Option Addr) (n c : Nat) (xs : List UInt8) (w : World) (hR : Rws w) (hA : Bs w w.heap.size A n xs) (hnc : n ≤ c) (hn : n ≤ 3000) :
    Calls Tryd.prog 5 #[.slice A n c] w fun e w' => e = .returned (.bool true) ∧ Below w.heap.size w w' := by
  by_cases h : cT xs = 0
  · rcases Nat.lt_or_ge (rT xs).length (nT xs) with h2 | h2
    · exact to_short A n c xs w hR hA hnc hn h h2
    · cases h3 : wT xs with
      | false => exact to_plain A n c xs w hR hA hnc hn h h2 h3
      | true =>
        rcases takeE_or ((rT xs).take (nT xs)) with g | ⟨g, _⟩
        · exact to_bitsok A n c xs w hR hA hnc hn h h2 h3 g
        · exact to_bitsno A n c xs w hR hA hnc hn h h2 h3 g
  · exact to_num A n c xs w hR hA hnc hn h
end Go.Proofs.YtdcbafddnegpaaaDoor
