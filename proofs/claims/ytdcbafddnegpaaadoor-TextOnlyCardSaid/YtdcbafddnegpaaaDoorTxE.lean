/- Package text: Take. -/
import Derived.Test.YtdcbafddnegpaaaDoorTxD
import Derived.Deep.RegionHeld3
namespace Go.Proofs.YtdcbafddnegpaaaDoor
open Go.RowKit Hf Oct Tx Go.Shelf
set_option linter.unusedVariables false
set_option linter.unusedSimpArgs false
theorem run_fieldW (a b c : Value) (w : World) : (Instr.field 43 (.agg #[a, b, c]) 2).run Tryd.prog w = .ok c w := by
  simp [Instr.field, go_sem, Tryd.underlying43, asAgg]
theorem x_take7 (A : Option Addr) (n c : Nat) (xs : List UInt8) (w : World) (hA : Bs w w.heap.size A n xs) (hnc : n ≤ c) (hn : n ≤ 1000000) :
    Calls Tryd.prog 21 #[.slice A n c, .int .i64 7] w fun e w' => ∃ A' c', e = .returned (.tuple #[.int .i64 (nT xs : Int), .slice A' (rT xs).length c', .int .i64 (cT xs : Int)]) ∧ HandS w' w.heap.size A' (rT xs).length c' (rT xs) ∧ Below w.heap.size w w' := by
  have h := X_Take A n c xs 7 w hA hnc hn
  unfold nT cT rT
  rw [takC7] at h
  exact h
theorem Tx.rT_pos {xs : List UInt8} (h : cT xs = 0) : ∃ x ys, xs = x :: ys := by
  cases xs with
  | nil => cases h
  | cons x ys => exact ⟨x, ys, rfl⟩
theorem Tx.rT_le (xs : List UInt8) : (rT xs).length ≤ xs.length := by rw [rT_eq]; split <;> simp
theorem x_Take_num (A : Option Addr) (n c : Nat) (xs : List UInt8) (w : World) (hR : Rws w) (hA : Bs w w.heap.size A n xs) (hnc : n ≤ c) (hn : n ≤ 100000) (h : cT xs ≠ 0) :
    Calls Tryd.prog 8 #[.slice A n c] w fun e w' => ∃ A' c', e = .returned (.tuple #[.string ⟨(tS xs).toArray⟩, .slice A' (tR xs).length c', .int .i64 (tE xs)]) ∧ HandS w' w.heap.size A' (tR xs).length c' (tR xs) ∧ Below w.heap.size w w' := by
  have H1 := Lib.hid (x_take7 A n c xs w hA hnc (by omega))
  obtain ⟨e1, e2, e3⟩ := t_num h
  rw [e1, e2, e3]
  obtain ⟨C, hC⟩ : ∃ C : Nat, cT xs = C := ⟨_, rfl⟩
  rw [hC] at h H1 ⊢
  have hC2 : ((C : Int) != 0) = true := by simp; omega
  clear e1 e2 e3 hA hR hC
  go_enter Tryd.func8, Tryd.ntmps8
  go_wp2
  refine wp_scope_forward 0 rfl ?_
  go_wp2_with (go_at_call 21; (with_reducible refine H1.out.mono ?_); rintro e w1 ⟨A1, c1, rfl, hh1, hb1⟩; have HH1 := Lib.hid hh1; have HB1 := Lib.hid hb1; clear hh1 hb1)
  go_step3
  refine ⟨rfl, ?_⟩
  go_wp2
  rw [jump_ret]
  go_ret3
  exact ⟨none, 0, rfl, HandS.nil_ _ _, HB1.out⟩
theorem x_Take_short (A : Option Addr) (n c : Nat) (xs : List UInt8) (w : World) (hR : Rws w) (hA : Bs w w.heap.size A n xs) (hnc : n ≤ c) (hn : n ≤ 100000) (h : cT xs = 0) (h2 : (rT xs).length < nT xs) :
    Calls Tryd.prog 8 #[.slice A n c] w fun e w' => ∃ A' c', e = .returned (.tuple #[.string ⟨(tS xs).toArray⟩, .slice A' (tR xs).length c', .int .i64 (tE xs)]) ∧ HandS w' w.heap.size A' (tR xs).length c' (tR xs) ∧ Below w.heap.size w w' := by
  have H1 := Lib.hid (x_take7 A n c xs w hA hnc (by omega))
  obtain ⟨e1, e2, e3⟩ := t_short h h2
  rw [e1, e2, e3]
  rw [h] at H1
  have hlt : decide (((rT xs).length : Int) < (nT xs : Int)) = true := decide_eq_true (by omega)
  obtain ⟨N, hN⟩ : ∃ N : Nat, nT xs = N := ⟨_, rfl⟩
  obtain ⟨R, hR2⟩ : ∃ R : Nat, (rT xs).length = R := ⟨_, rfl⟩
  rw [hN] at h2 H1 hlt
  rw [hR2] at h2 H1 hlt
  have hlt2 : decide (R < N) = true := decide_eq_true (by omega)
  clear e1 e2 e3 hA hR hN h hR2 h2
  go_enter Tryd.func8, Tryd.ntmps8
  go_wp2
  refine wp_scope_forward 0 rfl ?_
  go_wp2_with (go_at_call 21; (with_reducible refine H1.out.mono ?_); rintro e w1 ⟨A1, c1, rfl, hh1, hb1⟩; have HH1 := Lib.hid hh1; have HB1 := Lib.hid hb1; clear hh1 hb1)
  go_step3
  refine ⟨rfl, ?_⟩
  go_wp2
  rw [jump_ret]
  go_ret3
  exact ⟨none, 0, rfl, HandS.nil_ _ _, HB1.out⟩
theorem x_read2_ok (A : Option Addr) (n c : Nat) (xs : List UInt8) (w : World) (hR : Rws w) (hA : Bs w w.heap.size A n xs) (hn : n ≤ 10000) (h : takeE xs = 0) : Calls Tryd.prog 45 #[.slice A n c] w fun e w' => e = .returned (.tuple #[.string ⟨(takeL xs).toArray⟩, .int .i64 0]) ∧ Below w.heap.size w w' := by
  have := x_read2 A n c xs w hR hA hn
  rwa [h] at this
theorem x_read2_no (A : Option Addr) (n c : Nat) (xs : List UInt8) (w : World) (hR : Rws w) (hA : Bs w w.heap.size A n xs) (hn : n ≤ 10000) (h : takeE xs = 70) (h2 : takeL xs = []) : Calls Tryd.prog 45 #[.slice A n c] w fun e w' => e = .returned (.tuple #[.string ⟨#[]⟩, .int .i64 70]) ∧ Below w.heap.size w w' := by
  have := x_read2 A n c xs w hR hA hn
  rwa [h, h2] at this
theorem Tx.map1_eval {a : Act} {x : Operand} {u : Value} (hx : a.eval x = u) : #[x].map a.eval ++ #[] = #[u] := by simp [hx]
theorem Tx.cutO {w : World} {B n c k : Nat} {A : Option Addr} {xs : List UInt8} (h : Bs w B A n xs) (hk : k ≤ n) (hc : n ≤ c) : Bs w B (if c = k then A else A.map fun x => x.add k) (n - k) (xs.drop k) := by
  by_cases h0 : n - k = 0
  · rw [h0, List.drop_eq_nil_of_le (by rw [h.1]; omega)]
    exact Bs.empty _ _ _
  · obtain ⟨b, o, rfl, _, _⟩ := h.2 (by omega)
    rw [if_neg (by omega)]
    simp only [Option.map_some, Addr.add_lit]
    exact h.drop hk
theorem Tx.cut_none {c k : Nat} {A A3 : Option Addr} (h : (if c = k then A else A.map fun x => x.add k) = A3) (hN : A = none → c = 0) : A3 = none → c - k = 0 := fun e => by
  subst e
  split at h
  · omega
  · have := hN (by simpa using h); omega
set_option maxRecDepth 100000 in
set_option maxHeartbeats 1000000 in
theorem x_Take_plain (A : Option Addr) (n c : Nat) (xs : List UInt8) (w : World) (hR : Rws w) (hA : Bs w w.heap.size A n xs) (hnc : n ≤ c) (hn : n ≤ 100000) (h : cT xs = 0) (h2 : nT xs ≤ (rT xs).length) (h3 : wT xs = false) :
    Calls Tryd.prog 8 #[.slice A n c] w fun e w' => ∃ A' c', e = .returned (.tuple #[.string ⟨(tS xs).toArray⟩, .slice A' (tR xs).length c', .int .i64 (tE xs)]) ∧ HandS w' w.heap.size A' (tR xs).length c' (tR xs) ∧ Below w.heap.size w w' := by
  have H1 := Lib.hid (x_take7 A n c xs w hA hnc (by omega))
  obtain ⟨e1, e2, e3⟩ := t_plain h h2 h3
  rw [e1, e2, e3]
  rw [h] at H1
  obtain ⟨x, ys, rfl⟩ := Tx.rT_pos h
  have hle := Tx.rT_le (x :: ys)
  have hl := hA.1
  have HW := Lib.hid (x_wayOf A n c x ys)
  rw [if_neg (by simpa [wT] using h3)] at HW
  clear e1 e2 e3
  obtain ⟨N, hN⟩ : ∃ N : Nat, nT (x :: ys) = N := ⟨_, rfl⟩
  obtain ⟨L, hL⟩ : ∃ L : List UInt8, rT (x :: ys) = L := ⟨_, rfl⟩
  rw [hN, hL] at h2 H1
  try rw [hN, hL]
  rw [hL] at hle
  obtain ⟨R, hR2⟩ : ∃ R : Nat, L.length = R := ⟨_, rfl⟩
  rw [hR2] at h2 H1 hle
  have HRL := Lib.hid hR2
  have hRn : R ≤ 1000000 := by omega
  have HL := Lib.hid hl
  have HA := Lib.hid hA
  have HR := Lib.hid hR
  clear hA hR hN h hR2 hL hl hle h3
  have hfd := run_fieldW
  go_enter Tryd.func8, Tryd.ntmps8
  go_wp2
  refine wp_scope_forward 0 rfl ?_
  go_wp2_with (go_at_call 21; (with_reducible refine H1.out.mono ?_); rintro e w1 ⟨A1, c1, rfl, hh1, hb1⟩; have hcap := hh1.2.2.1; have hNc : N ≤ c1 := (by omega); have hNc2 : (N : Int) ≤ (c1 : Int) := (by omega); obtain ⟨A2, hA2⟩ : ∃ A2, (if c1 = N then A1 else A1.map fun x => x.add N) = A2 := ⟨_, rfl⟩; have HH1 := Lib.hid hh1; have HB1 := Lib.hid hb1; clear hh1 hb1)
  go_region_held3 (fun W' => True) (exact trivial)
    (first
      | (go_at_call 22; (have hc := (HW.out w1.drew (HA.out.on HB1.out.drew)); (with_reducible refine hc.mono ?_); clear hc); rintro e w2 ⟨rfl, hb2⟩; unfold Tx.plainW; have B2 : Hid (Below w.heap.size w w2) := Lib.hid (below_step HB1.out.drew hb2); have HT2 : Hid (Bs w2 w2.heap.size A1 N (L.take N)) := Lib.hid ((show Bs w1.drew w1.drew.heap.size A1 N (L.take N) from HH1.out.1.take h2).on hb2); have HH2 : Hid (Bs w2 w2.heap.size A1 R L) := Lib.hid ((show Bs w1.drew w1.drew.heap.size A1 R L from HH1.out.1).on hb2); clear hb2)
      | (refine step_callv (by rfl) (.tmp 21) #[.tmp 24] _ (by rfl) 39 #[] (by rfl) (enters_of Tryd.func39 (by kernel_rfl) rfl) #[.slice A1 N c1] (Tx.map1_eval (by rfl)) (fun v w' => v = .tuple #[.string ⟨(L.take N).toArray⟩, .int .i64 0] ∧ Below w2.heap.size w2 w') ((x_read1 A1 N c1 (L.take N) w2 HT2.out).mono fun e w' h => ⟨_, h.1, rfl, h.2⟩) ?_; rintro v w3 ⟨rfl, hb3⟩; have B3 := Lib.hid (below_step B2.out hb3); have HH3 : Hid (Bs w3 w3.heap.size A1 R L) := Lib.hid (HH2.out.on hb3); clear hb3))
  have HOWN := Lib.hid (x_towned A2 (R - N) (c1 - N) (L.drop N) w3 (hA2 ▸ Tx.cutO HH3.out h2 hcap) (Tx.cut_none hA2 HH1.out.2.2.2) (by omega))
  have hdl : (L.drop N).length = R - N := by rw [List.length_drop, HRL.out]
  have HDL := Lib.hid hdl
  clear hdl
  go_wp2_with (go_at_call 23; (with_reducible refine HOWN.out.mono ?_); rintro e w4 ⟨A4, c4, rfl, hh4, hb4⟩; have B4 := Lib.hid (below_step B3.out hb4); have HH4 := Lib.hid hh4; clear hh4 hb4)
  rw [jump_ret]
  go_ret3
  rw [HDL.out]
  exact ⟨A4, c4, rfl, ⟨HH4.out.1, FreshS.less HH4.out.2.1 B3.out.size, HH4.out.2.2⟩, B4.out⟩
set_option maxRecDepth 100000 in
set_option maxHeartbeats 1000000 in
theorem x_Take_bitsok (A : Option Addr) (n c : Nat) (xs : List UInt8) (w : World) (hR : Rws w) (hA : Bs w w.heap.size A n xs) (hnc : n ≤ c) (hn : n ≤ 100000) (h : cT xs = 0) (h2 : nT xs ≤ (rT xs).length) (h3 : wT xs = true) (hq : nT xs ≤ 10000) (hE : takeE ((rT xs).take (nT xs)) = 0) :
    Calls Tryd.prog 8 #[.slice A n c] w fun e w' => ∃ A' c', e = .returned (.tuple #[.string ⟨(tS xs).toArray⟩, .slice A' (tR xs).length c', .int .i64 (tE xs)]) ∧ HandS w' w.heap.size A' (tR xs).length c' (tR xs) ∧ Below w.heap.size w w' := by
  have H1 := Lib.hid (x_take7 A n c xs w hA hnc (by omega))
  obtain ⟨e1, e2, e3⟩ := t_bits h h2 h3
  rw [hE] at e1
  rw [if_pos hE] at e3
  rw [e1, e2, e3]
  rw [h] at H1
  obtain ⟨x, ys, rfl⟩ := Tx.rT_pos h
  have hle := Tx.rT_le (x :: ys)
  have hl := hA.1
  have HW := Lib.hid (x_wayOf A n c x ys)
  rw [if_pos (by simpa [wT] using h3)] at HW
  clear e1 e2 e3
  obtain ⟨N, hN⟩ : ∃ N : Nat, nT (x :: ys) = N := ⟨_, rfl⟩
  obtain ⟨L, hL⟩ : ∃ L : List UInt8, rT (x :: ys) = L := ⟨_, rfl⟩
  rw [hN, hL] at h2 H1 hE
  try rw [hN, hL]
  rw [hL] at hle
  rw [hN] at hq
  obtain ⟨R, hR2⟩ : ∃ R : Nat, L.length = R := ⟨_, rfl⟩
  rw [hR2] at h2 H1 hle
  have HRL := Lib.hid hR2
  have hRn : R ≤ 1000000 := by omega
  have HL := Lib.hid hl
  have HA := Lib.hid hA
  have HR := Lib.hid hR
  have HE := Lib.hid hE
  clear hE
  clear hA hR hN h hR2 hL hl hle h3
  have hfd := run_fieldW
  go_enter Tryd.func8, Tryd.ntmps8
  go_wp2
  refine wp_scope_forward 0 rfl ?_
  go_wp2_with (go_at_call 21; (with_reducible refine H1.out.mono ?_); rintro e w1 ⟨A1, c1, rfl, hh1, hb1⟩; have hcap := hh1.2.2.1; have hNc : N ≤ c1 := (by omega); have hNc2 : (N : Int) ≤ (c1 : Int) := (by omega); obtain ⟨A2, hA2⟩ : ∃ A2, (if c1 = N then A1 else A1.map fun x => x.add N) = A2 := ⟨_, rfl⟩; have HH1 := Lib.hid hh1; have HB1 := Lib.hid hb1; clear hh1 hb1)
  go_region_held3 (fun W' => True) (exact trivial)
    (first
      | (go_at_call 22; (have hc := (HW.out w1.drew (HA.out.on HB1.out.drew)); (with_reducible refine hc.mono ?_); clear hc); rintro e w2 ⟨rfl, hb2⟩; unfold Tx.bitsW; have B2 : Hid (Below w.heap.size w w2) := Lib.hid (below_step HB1.out.drew hb2); have HT2 : Hid (Bs w2 w2.heap.size A1 N (L.take N)) := Lib.hid ((show Bs w1.drew w1.drew.heap.size A1 N (L.take N) from HH1.out.1.take h2).on hb2); have HH2 : Hid (Bs w2 w2.heap.size A1 R L) := Lib.hid ((show Bs w1.drew w1.drew.heap.size A1 R L from HH1.out.1).on hb2); clear hb2)
      | (refine step_callv (by rfl) (.tmp 21) #[.tmp 24] _ (by rfl) 45 #[] (by rfl) (enters_of Tryd.func45 (by kernel_rfl) rfl) #[.slice A1 N c1] (Tx.map1_eval (by rfl)) (fun v w' => v = .tuple #[.string ⟨(takeL (L.take N)).toArray⟩, .int .i64 0] ∧ Below w2.heap.size w2 w') ((x_read2_ok A1 N c1 (L.take N) w2 (HR.out.on B2.out) HT2.out hq HE.out).mono fun e w' h => ⟨_, h.1, rfl, h.2⟩) ?_; rintro v w3 ⟨rfl, hb3⟩; have B3 := Lib.hid (below_step B2.out hb3); have HH3 : Hid (Bs w3 w3.heap.size A1 R L) := Lib.hid (HH2.out.on hb3); clear hb3))
  have HOWN := Lib.hid (x_towned A2 (R - N) (c1 - N) (L.drop N) w3 (hA2 ▸ Tx.cutO HH3.out h2 hcap) (Tx.cut_none hA2 HH1.out.2.2.2) (by omega))
  have hdl : (L.drop N).length = R - N := by rw [List.length_drop, HRL.out]
  have HDL := Lib.hid hdl
  clear hdl
  go_wp2_with (go_at_call 23; (with_reducible refine HOWN.out.mono ?_); rintro e w4 ⟨A4, c4, rfl, hh4, hb4⟩; have B4 := Lib.hid (below_step B3.out hb4); have HH4 := Lib.hid hh4; clear hh4 hb4)
  rw [jump_ret]
  go_ret3
  rw [HDL.out]
  exact ⟨A4, c4, rfl, ⟨HH4.out.1, FreshS.less HH4.out.2.1 B3.out.size, HH4.out.2.2⟩, B4.out⟩
set_option maxRecDepth 100000 in
set_option maxHeartbeats 1000000 in
theorem x_Take_bitsno (A : Option Addr) (n c : Nat) (xs : List UInt8) (w : World) (hR : Rws w) (hA : Bs w w.heap.size A n xs) (hnc : n ≤ c) (hn : n ≤ 100000) (h : cT xs = 0) (h2 : nT xs ≤ (rT xs).length) (h3 : wT xs = true) (hq : nT xs ≤ 10000) (hE : takeE ((rT xs).take (nT xs)) = 70) :
    Calls Tryd.prog 8 #[.slice A n c] w fun e w' => ∃ A' c', e = .returned (.tuple #[.string ⟨(tS xs).toArray⟩, .slice A' (tR xs).length c', .int .i64 (tE xs)]) ∧ HandS w' w.heap.size A' (tR xs).length c' (tR xs) ∧ Below w.heap.size w w' := by
  have H1 := Lib.hid (x_take7 A n c xs w hA hnc (by omega))
  obtain ⟨e1, e2, e3⟩ := t_bits h h2 h3
  have hL0 : takeL ((rT xs).take (nT xs)) = [] := by rcases takeE_or ((rT xs).take (nT xs)) with g | ⟨_, g⟩ <;> first | exact g | omega
  rw [hE] at e1
  rw [if_neg (by omega)] at e3
  rw [hL0] at e2
  rw [e1, e2, e3]
  rw [h] at H1
  obtain ⟨x, ys, rfl⟩ := Tx.rT_pos h
  have hle := Tx.rT_le (x :: ys)
  have hl := hA.1
  have HW := Lib.hid (x_wayOf A n c x ys)
  rw [if_pos (by simpa [wT] using h3)] at HW
  clear e1 e2 e3
  obtain ⟨N, hN⟩ : ∃ N : Nat, nT (x :: ys) = N := ⟨_, rfl⟩
  obtain ⟨L, hL⟩ : ∃ L : List UInt8, rT (x :: ys) = L := ⟨_, rfl⟩
  rw [hN, hL] at h2 H1 hE hL0
  try rw [hN, hL]
  rw [hL] at hle
  rw [hN] at hq
  obtain ⟨R, hR2⟩ : ∃ R : Nat, L.length = R := ⟨_, rfl⟩
  rw [hR2] at h2 H1 hle
  have HRL := Lib.hid hR2
  have hRn : R ≤ 1000000 := by omega
  have HL := Lib.hid hl
  have HA := Lib.hid hA
  have HR := Lib.hid hR
  have HE := Lib.hid hE
  have HE2 := Lib.hid hL0
  clear hE hL0
  clear hA hR hN h hR2 hL hl hle h3
  have hfd := run_fieldW
  go_enter Tryd.func8, Tryd.ntmps8
  go_wp2
  refine wp_scope_forward 0 rfl ?_
  go_wp2_with (go_at_call 21; (with_reducible refine H1.out.mono ?_); rintro e w1 ⟨A1, c1, rfl, hh1, hb1⟩; have hcap := hh1.2.2.1; have hNc : N ≤ c1 := (by omega); have hNc2 : (N : Int) ≤ (c1 : Int) := (by omega); obtain ⟨A2, hA2⟩ : ∃ A2, (if c1 = N then A1 else A1.map fun x => x.add N) = A2 := ⟨_, rfl⟩; have HH1 := Lib.hid hh1; have HB1 := Lib.hid hb1; clear hh1 hb1)
  go_region_held3 (fun W' => True) (exact trivial)
    (first
      | (go_at_call 22; (have hc := (HW.out w1.drew (HA.out.on HB1.out.drew)); (with_reducible refine hc.mono ?_); clear hc); rintro e w2 ⟨rfl, hb2⟩; unfold Tx.bitsW; have B2 : Hid (Below w.heap.size w w2) := Lib.hid (below_step HB1.out.drew hb2); have HT2 : Hid (Bs w2 w2.heap.size A1 N (L.take N)) := Lib.hid ((show Bs w1.drew w1.drew.heap.size A1 N (L.take N) from HH1.out.1.take h2).on hb2); have HH2 : Hid (Bs w2 w2.heap.size A1 R L) := Lib.hid ((show Bs w1.drew w1.drew.heap.size A1 R L from HH1.out.1).on hb2); clear hb2)
      | (refine step_callv (by rfl) (.tmp 21) #[.tmp 24] _ (by rfl) 45 #[] (by rfl) (enters_of Tryd.func45 (by kernel_rfl) rfl) #[.slice A1 N c1] (Tx.map1_eval (by rfl)) (fun v w' => v = .tuple #[.string ⟨#[]⟩, .int .i64 70] ∧ Below w2.heap.size w2 w') ((x_read2_no A1 N c1 (L.take N) w2 (HR.out.on B2.out) HT2.out hq HE.out HE2.out).mono fun e w' h => ⟨_, h.1, rfl, h.2⟩) ?_; rintro v w3 ⟨rfl, hb3⟩; have B3 := Lib.hid (below_step B2.out hb3); have HH3 : Hid (Bs w3 w3.heap.size A1 R L) := Lib.hid (HH2.out.on hb3); clear hb3))
  go_wp2
  go_step3
  refine ⟨rfl, ?_⟩
  go_wp2
  rw [jump_ret]
  go_ret3
  exact ⟨none, 0, rfl, HandS.nil_ _ _, B3.out⟩
theorem x_Take (A : Option Addr) (n c : Nat) (xs : List UInt8) (w : World) (hR : Rws w) (hA : Bs w w.heap.size A n xs) (hnc : n ≤ c) (hn : n ≤ 100000) (hq : n ≤ 10000 ∨ nT xs ≤ 10000) :
    Calls Tryd.prog 8 #[.slice A n c] w fun e w' => ∃ A' c', e = .returned (.tuple #[.string ⟨(tS xs).toArray⟩, .slice A' (tR xs).length c', .int .i64 (tE xs)]) ∧ HandS w' w.heap.size A' (tR xs).length c' (tR xs) ∧ Below w.heap.size w w' := by
  by_cases h : cT xs = 0
  · rcases Nat.lt_or_ge (rT xs).length (nT xs) with h2 | h2
    · exact x_Take_short A n c xs w hR hA hnc hn h h2
    · cases h3 : wT xs with
      | false => exact x_Take_plain A n c xs w hR hA hnc hn h h2 h3
      | true =>
        have hl := hA.1
        have hle := Tx.rT_le xs
        have hq2 : nT xs ≤ 10000 := by omega
        rcases takeE_or ((rT xs).take (nT xs)) with g | ⟨g, _⟩
        · exact x_Take_bitsok A n c xs w hR hA hnc hn h h2 h3 hq2 g
        · exact x_Take_bitsno A n c xs w hR hA hnc hn h h2 h3 hq2 g
  · exact x_Take_num A n c xs w hR hA hnc hn h
end Go.Proofs.YtdcbafddnegpaaaDoor
