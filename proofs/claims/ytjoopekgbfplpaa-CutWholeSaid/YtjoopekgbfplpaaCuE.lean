/- Package cut: Feed. -/
import Derived.Test.YtjoopekgbfplpaaCuF
namespace Go.Proofs.Ytjoopekgbfplpaa
open Go.RowKit Oct Cu Go.Shelf
set_option linter.unusedVariables false
set_option linter.unusedSimpArgs false
attribute [local go_sem] Oper.semAt_some
theorem infoc_u8 : (Try.prog.info? 5).map (·.size) = some 1 := by kernel_rfl
theorem c_right_t (p : Int) (A : Option Addr) (n c : Nat) (xs : List UInt8) (w : World) (hA : Bs w w.heap.size A n xs) (hnc : n ≤ c) (hn : n ≤ 1000000) (h : RightR p xs) :
    Calls Try.prog 15 #[.agg #[.int .i64 p, .slice A n c]] w fun e w' => e = .returned (.bool true) ∧ Below w.heap.size w w' := by
  have h1 := c_right p A n c xs w hA hnc hn
  rw [decide_eq_true h] at h1
  exact h1
theorem c_right_f (p : Int) (A : Option Addr) (n c : Nat) (xs : List UInt8) (w : World) (hA : Bs w w.heap.size A n xs) (hnc : n ≤ c) (hn : n ≤ 1000000) (h : ¬ RightR p xs) :
    Calls Try.prog 15 #[.agg #[.int .i64 p, .slice A n c]] w fun e w' => e = .returned (.bool false) ∧ Below w.heap.size w w' := by
  have h1 := c_right p A n c xs w hA hnc hn
  rw [decide_eq_false h] at h1
  exact h1
theorem c_greeted' (p : Nat) (A : Option Addr) (n c : Nat) (xs : List UInt8) (w : World) (hA : Bs w w.heap.size A n xs) (hp : p ≤ 24) (hn : n ≤ 100000) (g : Nat) (hg : gre p xs = g) :
    Calls Try.prog 17 #[.int .i64 p, .slice A n c] w fun e w' => e = .returned (.int .i64 g) ∧ Below w.heap.size w w' := by
  subst hg
  refine (c_greeted p A n c xs w hA hp hn).mono ?_
  rintro e w' ⟨rfl, rfl⟩
  exact ⟨rfl, Below.refl _ _⟩
theorem c_begun' (p : Int) (b : Bool) (hb : (p == 24) = b) (A : Option Addr) (n c : Nat) (w : World) :
    Calls Try.prog 14 #[.agg #[.int .i64 p, .slice A n c]] w fun e w' => e = .returned (.bool b) ∧ Below w.heap.size w w' := by
  subst hb; exact c_begun p _ w rfl
/-- What lies in the four results of Feed. -/
theorem res_feed {P : Program} {fn : Func} {p q r s : Tmp} {tR tQ tX : TypeId} (h : fn.results = #[.cell p tR, .cell q tQ, .cell r tX, .tmp s]) (tmps : Array Value) (w : World) (g1 g2 g3 : Nat) (cs ds : Array Value) (v : Value) (d1 d2 d3 : TypeDesc)
    (hp : tmps.getD p undef = .pointer (some ⟨g1, 0, none⟩)) (h1 : w.heap[g1]? = some (.cells cs tR)) (hq : tmps.getD q undef = .pointer (some ⟨g2, 0, none⟩)) (h2 : w.heap[g2]? = some (.cells #[v] tQ)) (hr : tmps.getD r undef = .pointer (some ⟨g3, 0, none⟩)) (h3 : w.heap[g3]? = some (.cells ds tX))
    (u1 : P.underlying tR = some d1) (e1 : (match d1 with | .struct _ | .array _ _ => true | _ => false) = true) (i1 : (P.info? tR).map (·.size) = some cs.size)
    (u2 : P.underlying tQ = some d2) (e2 : (match d2 with | .struct _ | .array _ _ => true | _ => false) = false)
    (u3 : P.underlying tX = some d3) (e3 : (match d3 with | .struct _ | .array _ _ => true | _ => false) = true) (i3 : (P.info? tX).map (·.size) = some ds.size) :
    (results fn tmps).run P w = .ok (.tuple #[.agg cs, v, .agg ds, tmps.getD s undef]) w := by
  have hp' : tmps[p]?.getD undef = .pointer (some ⟨g1, 0, none⟩) := by simpa using hp
  have hq' : tmps[q]?.getD undef = .pointer (some ⟨g2, 0, none⟩) := by simpa using hq
  have hr' : tmps[r]?.getD undef = .pointer (some ⟨g3, 0, none⟩) := by simpa using hr
  simp [results, h, hp', hq', hr', asAddr, run_loadVar_row w g1 tR tR cs _ d1 h1 u1 e1 i1, run_get w g2 0 tQ tQ #[v] v d2 h2 rfl u2 e2, run_loadVar_row w g3 tX tX ds _ d3 h3 u3 e3 i3]
set_option maxRecDepth 100000 in
set_option maxHeartbeats 4000000 in
theorem c_feed1 (p : Nat) (A A' : Option Addr) (n c n' c' : Nat) (r cs : List UInt8) (w : World) (hA : Bs w w.heap.size A n r) (hN : A = none → c = 0) (hnc : n ≤ c) (hn : n ≤ 50000) (hA' : Bs w w.heap.size A' n' cs) (hN' : A' = none → c' = 0) (hnc' : n' ≤ c') (hn' : n' ≤ 50000) (hR : RightR p r) (g : Nat) (hg : gre p cs = g) (h24 : ((g : Int) == 24) = false) (hz : 0 < n' - (g - p)) :
    Calls Try.prog 7 #[.agg #[.int .i64 (p : Int), .slice A n c], .slice A' n' c'] w fun e w' => e = .returned (.tuple #[.agg #[.int .i64 (g : Int), .slice none 0 0], .slice none 0 0, .agg #[.bool true, .int .i64 0, .int .u32 1], .int .i64 0]) ∧ Below w.heap.size w w' := by
  have hp24 : p ≤ 24 := by unfold RightR at hR; omega
  have hgl := gre_le cs p
  have hl' := hA'.1
  rw [hg] at hgl
  have e1 : ((g : Int) - (p : Int)) = ((g - p : Nat) : Int) := by omega
  have s1 : IntKind.i64.wrap ((g : Int) - (p : Int)) = ((g - p : Nat) : Int) := by rw [e1]; exact IntWalk.i64_in _ (by omega)
  have s2 : (0 : Int) ≤ ((g - p : Nat) : Int) := by omega
  have s3 : ((g - p : Nat) : Int) ≤ (n' : Int) := by omega
  have s4 : ((g - p : Nat) : Int).toNat = g - p := by omega
  obtain ⟨A3, hA3⟩ : ∃ A3, (if c' = g - p then A' else A'.map fun x => x.add (g - p)) = A3 := ⟨_, rfl⟩
  have HCUT := Lib.hid (Bs.cutO' hA' (k := g - p) (by omega) hnc')
  rw [hA3] at HCUT
  have HN3 := Lib.hid (cutO_none' hA3 hN')
  clear e1
  have K0 : Hid (EnvF (((((w.alloc (.cells #[.int .i64 (p : Int), .slice A n c] 24)).alloc (.cells #[.int .i64 0, .slice none 0 0] 24)).alloc (.cells #[.slice none 0 0] 28)).alloc (.cells #[.bool false, .int .i64 0, .int .u32 0] 31)).alloc (.cells #[.slice none 0 0] 22)) [bF A' n' cs, bF A n r] [(w.heap.size + 1 + 1 + 1 + 1, #[.slice none 0 0], 22), (w.heap.size + 1 + 1 + 1, #[.bool false, .int .i64 0, .int .u32 0], 31), (w.heap.size + 1 + 1, #[.slice none 0 0], 28), (w.heap.size + 1, #[.int .i64 0, .slice none 0 0], 24), (w.heap.size, #[.int .i64 (p : Int), .slice A n c], 24)]) := Lib.hid ((((((((EnvF.nil w).addB hA).addB hA').boxg 24 #[.int .i64 (p : Int), .slice A n c] (w.heap.size) (by simp)).boxg 24 #[.int .i64 0, .slice none 0 0] (w.heap.size + 1) (by simp)).boxg 28 #[.slice none 0 0] (w.heap.size + 1 + 1) (by simp)).boxg 31 #[.bool false, .int .i64 0, .int .u32 0] (w.heap.size + 1 + 1 + 1) (by simp)).boxg 22 #[.slice none 0 0] (w.heap.size + 1 + 1 + 1 + 1) (by simp))
  have B0 : Hid (Below w.heap.size w (((((w.alloc (.cells #[.int .i64 (p : Int), .slice A n c] 24)).alloc (.cells #[.int .i64 0, .slice none 0 0] 24)).alloc (.cells #[.slice none 0 0] 28)).alloc (.cells #[.bool false, .int .i64 0, .int .u32 0] 31)).alloc (.cells #[.slice none 0 0] 22))) := Lib.hid ((((((Below.refl _ w).alloc (by first | exact Nat.le_refl _ | (simp only [World.size_alloc]; omega)) (.cells #[.int .i64 (p : Int), .slice A n c] 24)).alloc (by first | exact Nat.le_refl _ | (simp only [World.size_alloc]; omega)) (.cells #[.int .i64 0, .slice none 0 0] 24)).alloc (by first | exact Nat.le_refl _ | (simp only [World.size_alloc]; omega)) (.cells #[.slice none 0 0] 28)).alloc (by first | exact Nat.le_refl _ | (simp only [World.size_alloc]; omega)) (.cells #[.bool false, .int .i64 0, .int .u32 0] 31)).alloc (by first | exact Nat.le_refl _ | (simp only [World.size_alloc]; omega)) (.cells #[.slice none 0 0] 22))
  clear hA hA' hN'
  go_enter Try.func7, Try.ntmps7
  go_wp2
  refine wp_scope_forward 1 rfl ?_
  go_wp2_with (first
    | go_skip
    | (refine at_load 24 (.tmp 2) (by rfl) ?_; refine wpList_load_row (by rfl) 24 (.tmp 2) (by rfl) (w.heap.size) (by rfl) 24 #[.int .i64 (p : Int), .slice A n c] (0, 0) _ (K0.out.row 4 rfl) Try.underlying24 (by rfl) infoc_R ?_)
    | (go_at_call 15; (have hc := (c_right_t p A n c r _ (K0.out.bs (A := A) (n := n) (xs := r) (by simp)) hnc (by omega) hR); (with_reducible refine hc.mono ?_); clear hc); rintro e w1 ⟨rfl, hb⟩; have K1 : Hid (EnvF w1 [bF A' n' cs, bF A n r] [(w.heap.size + 1 + 1 + 1 + 1, #[.slice none 0 0], 22), (w.heap.size + 1 + 1 + 1, #[.bool false, .int .i64 0, .int .u32 0], 31), (w.heap.size + 1 + 1, #[.slice none 0 0], 28), (w.heap.size + 1, #[.int .i64 0, .slice none 0 0], 24), (w.heap.size, #[.int .i64 (p : Int), .slice A n c], 24)]) := Lib.hid (K0.out.on hb); have B1 : Hid (Below w.heap.size w w1) := Lib.hid (below_step B0.out hb); clear hb K0 B0)
    | (refine at_load 3 (.tmp 15) (by rfl) ?_; refine wpList_get (by rfl) 3 (.tmp 15) (by rfl) (w.heap.size) 0 (by rfl) 24 #[.int .i64 (p : Int), .slice A n c] (.int .i64 (p : Int)) _ (K1.out.row 4 rfl) (by rfl) Try.underlying3 (by rfl) ?_)
    | (go_at_call 17; (have hc := (c_greeted' p A' n' c' cs _ (K1.out.bs (A := A') (n := n') (xs := cs) (by simp)) hp24 (by omega) g hg); (with_reducible refine hc.mono ?_); clear hc); rintro e w2 ⟨rfl, hb⟩; have K2 : Hid (EnvF w2 [bF A' n' cs, bF A n r] [(w.heap.size + 1 + 1 + 1 + 1, #[.slice none 0 0], 22), (w.heap.size + 1 + 1 + 1, #[.bool false, .int .i64 0, .int .u32 0], 31), (w.heap.size + 1 + 1, #[.slice none 0 0], 28), (w.heap.size + 1, #[.int .i64 0, .slice none 0 0], 24), (w.heap.size, #[.int .i64 (p : Int), .slice A n c], 24)]) := Lib.hid (K1.out.on hb); have B2 : Hid (Below w.heap.size w w2) := Lib.hid (below_step B1.out hb); clear hb K1 B1)
    | (refine at_store 3 (.tmp 19) (.tmp 18) (by rfl) ?_; refine wpList_put (by rfl) 3 (.tmp 19) (.tmp 18) (by rfl) (w.heap.size + 1) 0 (.int .i64 (g : Int)) (by rfl) (by rfl) 24 #[.int .i64 0, .slice none 0 0] #[.int .i64 (g : Int), .slice none 0 0] (K2.out.row 3 rfl) (by simp [Value.cells]) (by kernel_rfl) infoc_i (by kernel_rfl) ?_; intro w3 hrow hoth hz hbl; have K3 : Hid (EnvF w3 [bF A' n' cs, bF A n r] [(w.heap.size + 1 + 1 + 1 + 1, #[.slice none 0 0], 22), (w.heap.size + 1 + 1 + 1, #[.bool false, .int .i64 0, .int .u32 0], 31), (w.heap.size + 1 + 1, #[.slice none 0 0], 28), (w.heap.size + 1, #[.int .i64 (g : Int), .slice none 0 0], 24), (w.heap.size, #[.int .i64 (p : Int), .slice A n c], 24)]) := Lib.hid (K2.out.turn 3 rfl hrow hoth hz); have B3 : Hid (Below w.heap.size w w3) := Lib.hid (hbl _ _ (by omega) B2.out); clear hrow hoth hz hbl K2 B2)
    | (refine at_load 3 (.tmp 21) (by rfl) ?_; refine wpList_get (by rfl) 3 (.tmp 21) (by rfl) (w.heap.size + 1) 0 (by rfl) 24 #[.int .i64 (g : Int), .slice none 0 0] (.int .i64 (g : Int)) _ (K3.out.row 3 rfl) (by rfl) Try.underlying3 (by rfl) ?_)
    | (refine at_load 3 (.tmp 23) (by rfl) ?_; refine wpList_get (by rfl) 3 (.tmp 23) (by rfl) (w.heap.size) 0 (by rfl) 24 #[.int .i64 (p : Int), .slice A n c] (.int .i64 (p : Int)) _ (K3.out.row 4 rfl) (by rfl) Try.underlying3 (by rfl) ?_)
    | (refine at_load 24 (.tmp 4) (by rfl) ?_; refine wpList_load_row (by rfl) 24 (.tmp 4) (by rfl) (w.heap.size + 1) (by rfl) 24 #[.int .i64 (g : Int), .slice none 0 0] (0, 0) _ (K3.out.row 3 rfl) Try.underlying24 (by rfl) infoc_R ?_)
    | (go_at_call 14; (have hc := (c_begun' (g : Int) _ h24 none 0 0 w3); (with_reducible refine hc.mono ?_); clear hc); rintro e w4 ⟨rfl, hb⟩; have K4 : Hid (EnvF w4 [bF A' n' cs, bF A n r] [(w.heap.size + 1 + 1 + 1 + 1, #[.slice none 0 0], 22), (w.heap.size + 1 + 1 + 1, #[.bool false, .int .i64 0, .int .u32 0], 31), (w.heap.size + 1 + 1, #[.slice none 0 0], 28), (w.heap.size + 1, #[.int .i64 (g : Int), .slice none 0 0], 24), (w.heap.size, #[.int .i64 (p : Int), .slice A n c], 24)]) := Lib.hid (K3.out.on hb); have B4 : Hid (Below w.heap.size w w4) := Lib.hid (below_step B3.out hb); clear hb K3 B3)
    | (refine at_store 29 (.tmp 35) (.const (.int .u32 1)) (by rfl) ?_; refine wpList_put (by rfl) 29 (.tmp 35) (.const (.int .u32 1)) (by rfl) (w.heap.size + 1 + 1 + 1) 2 (.int .u32 1) (by rfl) (by rfl) 31 #[.bool false, .int .i64 0, .int .u32 0] #[.bool false, .int .i64 0, .int .u32 1] (K4.out.row 1 rfl) (by simp [Value.cells]) (by kernel_rfl) infoc_n (by kernel_rfl) ?_; intro w5 hrow hoth hz hbl; have K5 : Hid (EnvF w5 [bF A' n' cs, bF A n r] [(w.heap.size + 1 + 1 + 1 + 1, #[.slice none 0 0], 22), (w.heap.size + 1 + 1 + 1, #[.bool false, .int .i64 0, .int .u32 1], 31), (w.heap.size + 1 + 1, #[.slice none 0 0], 28), (w.heap.size + 1, #[.int .i64 (g : Int), .slice none 0 0], 24), (w.heap.size, #[.int .i64 (p : Int), .slice A n c], 24)]) := Lib.hid (K4.out.turn 1 rfl hrow hoth hz); have B5 : Hid (Below w.heap.size w w5) := Lib.hid (hbl _ _ (by omega) B4.out); clear hrow hoth hz hbl K4 B4))
  go_step3
  refine ⟨rfl, ?_⟩
  go_wp2_with (first
    | go_skip
    | (refine at_store 4 (.tmp 70) (.const (.bool true)) (by rfl) ?_; refine wpList_put (by rfl) 4 (.tmp 70) (.const (.bool true)) (by rfl) (w.heap.size + 1 + 1 + 1) 0 (.bool true) (by rfl) (by rfl) 31 #[.bool false, .int .i64 0, .int .u32 1] #[.bool true, .int .i64 0, .int .u32 1] (K5.out.row 1 rfl) (by simp [Value.cells]) (by kernel_rfl) infoc_b (by kernel_rfl) ?_; intro w6 hrow hoth hz hbl; have K6 : Hid (EnvF w6 [bF A' n' cs, bF A n r] [(w.heap.size + 1 + 1 + 1 + 1, #[.slice none 0 0], 22), (w.heap.size + 1 + 1 + 1, #[.bool true, .int .i64 0, .int .u32 1], 31), (w.heap.size + 1 + 1, #[.slice none 0 0], 28), (w.heap.size + 1, #[.int .i64 (g : Int), .slice none 0 0], 24), (w.heap.size, #[.int .i64 (p : Int), .slice A n c], 24)]) := Lib.hid (K5.out.turn 1 rfl hrow hoth hz); have B6 : Hid (Below w.heap.size w w6) := Lib.hid (hbl _ _ (by omega) B5.out); clear hrow hoth hz hbl K5 B5))
  obtain ⟨o_0, o_1⟩ := cells2_row (K6.out.row 3 rfl)
  have zo := fun j => frozen_of_row _ _ j _ _ (K6.out.row 3 rfl)
  have l_0 := cells1_row (K6.out.row 2 rfl)
  have zl := fun j => frozen_of_row _ _ j _ _ (K6.out.row 2 rfl)
  obtain ⟨x_0, x_1, x_2⟩ := cells3_row (K6.out.row 1 rfl)
  have zx := fun j => frozen_of_row _ _ j _ _ (K6.out.row 1 rfl)
  have nol : w.heap.size + 1 ≠ w.heap.size + 1 + 1 := K6.out.ne 3 2 rfl rfl (by decide)
  have nlo := nol.symm
  have nox : w.heap.size + 1 ≠ w.heap.size + 1 + 1 + 1 := K6.out.ne 3 1 rfl rfl (by decide)
  have nxo := nox.symm
  have nlx : w.heap.size + 1 + 1 ≠ w.heap.size + 1 + 1 + 1 := K6.out.ne 2 1 rfl rfl (by decide)
  have nxl := nlx.symm
  have KA := Lib.hid ((K6.out).setCells 3 rfl [.int .i64 (g : Int), .slice none 0 0] (cs := #[.int .i64 (g : Int), .slice none 0 0]) (by kernel_rfl))
  have KB := Lib.hid ((KA.out).setCells 2 rfl [.slice none 0 0] (cs := #[.slice none 0 0]) (by kernel_rfl))
  have KC := Lib.hid ((KB.out).setCells 1 rfl [.bool true, .int .i64 0, .int .u32 1] (cs := #[.bool true, .int .i64 0, .int .u32 1]) (by kernel_rfl))
  have KD := Lib.hid KC.out.drew
  have BB0 := (setCells_below (g := w.heap.size + 1 + 1 + 1) (by omega) [.bool true, .int .i64 0, .int .u32 1] 0 _ _ (setCells_below (g := w.heap.size + 1 + 1) (by omega) [.slice none 0 0] 0 _ _ (setCells_below (g := w.heap.size + 1) (by omega) [.int .i64 (g : Int), .slice none 0 0] 0 _ _ B6.out))).drew
  have hr10 := KD.out.row 3 rfl
  have hr20 := KD.out.row 2 rfl
  have hr30 := KD.out.row 1 rfl
  simp only [World.setCells, Nat.reduceAdd] at hr10 hr20 hr30 BB0
  have hr1 := Lib.hid hr10
  clear hr10
  have hr2 := Lib.hid hr20
  clear hr20
  have hr3 := Lib.hid hr30
  clear hr30
  have BB := Lib.hid BB0
  clear BB0
  clear KA KB KC KD
  go_region
  all_goals
    go_wp2
    rw [jump_ret]
    exact bodyPost_ret (res_feed rfl _ _ _ _ _ _ _ _ _ _ _ rfl hr1.out rfl hr2.out rfl hr3.out Try.underlying24 rfl infoc_R Try.underlying28 rfl Try.underlying31 rfl infoc_X) rfl ⟨rfl, BB.out⟩
end Go.Proofs.Ytjoopekgbfplpaa
