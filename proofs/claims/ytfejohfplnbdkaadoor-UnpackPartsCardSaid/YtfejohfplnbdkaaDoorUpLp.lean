/- UnpackParts: the law. -/
import Derived.Test.YtfejohfplnbdkaaDoorUpLb
import Derived.Test.YtfejohfplnbdkaaDoorUpDp
namespace Go.Proofs.YtfejohfplnbdkaaDoor
open Go.RowKit Go.Shelf Px Tx Tb Up GD
set_option linter.unusedVariables false
set_option linter.unusedSimpArgs false
attribute [local go_sem] Oper.semAt_some
/-- What a call of the document tells, in short. -/
abbrev Up.GG (M : Int) (A : Option Addr) (n c : Nat) (xs : List Fd) (b : Bool) : Prop := Hid (∀ w0 : World, Fs w0 w0.heap.size A n xs → Calls Tryd.prog 6 #[.agg #[.int .i64 M, .slice A n c]] w0 fun e w' => e = .returned (.bool b) ∧ Below w0.heap.size w0 w')
abbrev Up.GRt (M : Int) (A : Option Addr) (n c : Nat) (xs : List Fd) (b : Bool) : Prop := Hid (∀ w0 : World, Fs w0 w0.heap.size A n xs → Calls Tryd.prog 7 #[.agg #[.int .i64 M, .slice A n c]] w0 fun e w' => e = .returned (.bool b) ∧ Below w0.heap.size w0 w')
abbrev Up.GR1 (N1 : Int) (nt1 : Nat) (X1 : List Fd) : Prop := Hid (∀ (T1 : Option Addr) (tc1 : Nat) (w0 : World), Fs w0 w0.heap.size T1 nt1 X1 → Calls Tryd.prog 7 #[.agg #[.int .i64 N1, .slice T1 nt1 tc1]] w0 fun e w' => e = .returned (.bool true) ∧ Below w0.heap.size w0 w')
theorem Up.first_cell {w : World} {B q o n : Nat} {x : UInt8} {l : List UInt8} (h : Bs w B (some ⟨q, o, none⟩) n (x :: l)) : w.cell? ⟨q, o, none⟩ = some (.int .u8 (x.toNat : Int)) := by
  have hn : 0 < n := by have := h.1; simp at this; omega
  obtain ⟨b, o', e, _, hc⟩ := bs_cell h hn
  cases e
  obtain ⟨y, hy, h1⟩ := hc 0 hn
  simp only [List.getElem?_cons_zero, Option.some.injEq] at hy
  subst hy
  exact h1
set_option maxRecDepth 100000 in
set_option maxHeartbeats 8000000 in
theorem up_g (M most : Int) (A : Option Addr) (n c : Nat) (xs : List Fd) (Aa : Option Addr) (na ca : Nat) (a : List UInt8) (Ab : Option Addr) (nb cb : Nat) (b : List UInt8) (w : World) (hV : EnvF w [bF Ab nb b, bF Aa na a, fF A n xs, stF, rwF, mvF] []) (HG : GG M A n c xs true) :
    Calls Tryd.prog 3 #[.agg #[.int .i64 M, .slice A n c], .int .i64 most, .slice Aa na ca, .slice Ab nb cb] w fun e w' => e = .returned (.bool true) ∧ Below w.heap.size w w' := by
  have K0 := Lib.hid ((hV).boxg 24 #[.int .i64 M, .slice A n c] w.heap.size (by simp))
  have G0 := Lib.hid ((Below.refl w.heap.size w).alloc (by simp) (.cells #[.int .i64 M, .slice A n c] 24))
  clear hV
  go_enter Tryd.func3, Tryd.ntmps3
  go_wp2_with (first
    | go_skip
    | (refine at_load 24 (.tmp 4) (by rfl) ?_; refine wpListG_row (by rfl) 24 (.tmp 4) (by rfl) w.heap.size (by rfl) 24 #[.int .i64 M, .slice A n c] _ (K0.out.row 0 rfl) Tryd.underlying24 (by rfl) infoc_T ?_)
    | (go_at_call 6; (with_reducible refine (HG.out _ (K0.out.fs (A := A) (n := n) (xs := xs) (by simp))).mono ?_); rintro e w1 ⟨rfl, hb⟩; have K1 := Lib.hid (K0.out.on hb); have G1 := Lib.hid (below_step G0.out hb); clear hb K0 G0)
    | (go_at_call 8; (with_reducible refine (l_wakes _ K1.out (by simp) (by simp) (by simp)).mono ?_); rintro e w2 ⟨rfl, hb⟩; have K2 := Lib.hid (K1.out.on hb); have G2 := Lib.hid (below_step G1.out hb); clear hb K1 G1))
  go_ret
  exact ⟨rfl, G2.out⟩
set_option maxRecDepth 100000 in
set_option maxHeartbeats 8000000 in
theorem up_r (M most : Int) (A : Option Addr) (n c : Nat) (xs : List Fd) (Aa : Option Addr) (na ca : Nat) (a : List UInt8) (Ab : Option Addr) (nb cb : Nat) (b : List UInt8) (w : World) (hV : EnvF w [bF Ab nb b, bF Aa na a, fF A n xs, stF, rwF, mvF] []) (HG : GG M A n c xs false) (HRT : GRt M A n c xs false) :
    Calls Tryd.prog 3 #[.agg #[.int .i64 M, .slice A n c], .int .i64 most, .slice Aa na ca, .slice Ab nb cb] w fun e w' => e = .returned (.bool true) ∧ Below w.heap.size w w' := by
  have K0 := Lib.hid ((hV).boxg 24 #[.int .i64 M, .slice A n c] w.heap.size (by simp))
  have G0 := Lib.hid ((Below.refl w.heap.size w).alloc (by simp) (.cells #[.int .i64 M, .slice A n c] 24))
  clear hV
  go_enter Tryd.func3, Tryd.ntmps3
  go_wp2_with (first
    | go_skip
    | (refine at_load 24 (.tmp 4) (by rfl) ?_; refine wpListG_row (by rfl) 24 (.tmp 4) (by rfl) w.heap.size (by rfl) 24 #[.int .i64 M, .slice A n c] _ (K0.out.row 0 rfl) Tryd.underlying24 (by rfl) infoc_T ?_)
    | (go_at_call 6; (with_reducible refine (HG.out _ (K0.out.fs (A := A) (n := n) (xs := xs) (by simp))).mono ?_); rintro e w1 ⟨rfl, hb⟩; have K1 := Lib.hid (K0.out.on hb); have G1 := Lib.hid (below_step G0.out hb); clear hb K0 G0)
    | (refine at_load 24 (.tmp 4) (by rfl) ?_; refine wpListG_row (by rfl) 24 (.tmp 4) (by rfl) w.heap.size (by rfl) 24 #[.int .i64 M, .slice A n c] _ (K1.out.row 0 rfl) Tryd.underlying24 (by rfl) infoc_T ?_)
    | (go_at_call 7; (with_reducible refine (HRT.out _ (K1.out.fs (A := A) (n := n) (xs := xs) (by simp))).mono ?_); rintro e w2 ⟨rfl, hb⟩; have K2 := Lib.hid (K1.out.on hb); have G2 := Lib.hid (below_step G1.out hb); clear hb K1 G1)
    | (go_at_call 8; (with_reducible refine (l_wakes _ K2.out (by simp) (by simp) (by simp)).mono ?_); rintro e w3 ⟨rfl, hb⟩; have K3 := Lib.hid (K2.out.on hb); have G3 := Lib.hid (below_step G2.out hb); clear hb K2 G2))
  go_ret
  exact ⟨rfl, G3.out⟩
set_option maxRecDepth 100000 in
set_option maxHeartbeats 8000000 in
theorem up_x (M most : Int) (A : Option Addr) (n c : Nat) (xs : List Fd) (Aa : Option Addr) (na ca : Nat) (a : List UInt8) (Ab : Option Addr) (nb cb : Nat) (b : List UInt8) (w : World) (hV : EnvF w [bF Ab nb b, bF Aa na a, fF A n xs, stF, rwF, mvF] []) (HG : GG M A n c xs false) (HRT : GRt M A n c xs true) (h : most < 0 ∨ (0 ≤ most ∧ 4096 < most) ∨ (0 ≤ most ∧ most ≤ 4096 ∧ 1000 < na) ∨ (0 ≤ most ∧ most ≤ 4096 ∧ na ≤ 1000 ∧ 1000 < nb)) :
    Calls Tryd.prog 3 #[.agg #[.int .i64 M, .slice A n c], .int .i64 most, .slice Aa na ca, .slice Ab nb cb] w fun e w' => e = .returned (.bool true) ∧ Below w.heap.size w w' := by
  rcases h with h | ⟨h, g⟩ | ⟨h, g, g'⟩ | ⟨h, g, g', g''⟩
  all_goals
    try have d0 : decide (most < 0) = true := decide_eq_true (by omega)
    try have d0 : decide (most < 0) = false := decide_eq_false (by omega)
    try have d1 : decide (4096 < most) = true := decide_eq_true (by omega)
    try have d1 : decide (4096 < most) = false := decide_eq_false (by omega)
    try have d2 : decide ((1000 : Int) < (na : Int)) = true := decide_eq_true (by omega)
    try have d2 : decide ((1000 : Int) < (na : Int)) = false := decide_eq_false (by omega)
    have K0 := Lib.hid ((hV).boxg 24 #[.int .i64 M, .slice A n c] w.heap.size (by simp))
    have G0 := Lib.hid ((Below.refl w.heap.size w).alloc (by simp) (.cells #[.int .i64 M, .slice A n c] 24))
    clear hV
    go_enter Tryd.func3, Tryd.ntmps3
    go_wp2_with (first
      | go_skip
      | (refine at_load 24 (.tmp 4) (by rfl) ?_; refine wpListG_row (by rfl) 24 (.tmp 4) (by rfl) w.heap.size (by rfl) 24 #[.int .i64 M, .slice A n c] _ (K0.out.row 0 rfl) Tryd.underlying24 (by rfl) infoc_T ?_)
      | (go_at_call 6; (with_reducible refine (HG.out _ (K0.out.fs (A := A) (n := n) (xs := xs) (by simp))).mono ?_); rintro e w1 ⟨rfl, hb⟩; have K1 := Lib.hid (K0.out.on hb); have G1 := Lib.hid (below_step G0.out hb); clear hb K0 G0)
      | (refine at_load 24 (.tmp 4) (by rfl) ?_; refine wpListG_row (by rfl) 24 (.tmp 4) (by rfl) w.heap.size (by rfl) 24 #[.int .i64 M, .slice A n c] _ (K1.out.row 0 rfl) Tryd.underlying24 (by rfl) infoc_T ?_)
      | (go_at_call 7; (with_reducible refine (HRT.out _ (K1.out.fs (A := A) (n := n) (xs := xs) (by simp))).mono ?_); rintro e w2 ⟨rfl, hb⟩; have K2 := Lib.hid (K1.out.on hb); have G2 := Lib.hid (below_step G1.out hb); clear hb K1 G1)
      | (go_at_call 8; (with_reducible refine (l_wakes _ K2.out (by simp) (by simp) (by simp)).mono ?_); rintro e w3 ⟨rfl, hb⟩; have K3 := Lib.hid (K2.out.on hb); have G3 := Lib.hid (below_step G2.out hb); clear hb K2 G2))
    go_ret
    exact ⟨rfl, G3.out⟩
set_option maxRecDepth 100000 in
set_option maxHeartbeats 8000000 in
theorem up_bad (M most : Int) (A : Option Addr) (n c : Nat) (xs : List Fd) (Aa : Option Addr) (na ca : Nat) (a : List UInt8) (Ab : Option Addr) (nb cb : Nat) (b : List UInt8) (w : World) (hV : EnvF w [bF Ab nb b, bF Aa na a, fF A n xs, stF, rwF, mvF] []) (HG : GG M A n c xs false) (HRT : GRt M A n c xs true) (h0 : 0 ≤ most) (h1 : most ≤ 4096) (hna : na ≤ 1000) (hnb : nb ≤ 1000) (hca : na ≤ ca) (hcb : nb ≤ cb) (hNa : Aa = none → ca = 0) (hNb : Ab = none → cb = 0) (hN : A = none → c = 0) (hF : full xs ≤ 20000) {E1 : Int} {g1 : Bool} {N1 : Int} {nt1 : Nat} {X1 : List Fd} (HV1 : Hid (BK M most xs a E1 0 [] g1 N1 nt1 X1)) (he0 : (E1 != 0) = true) (he2 : (E1 != 2) = true) :
    Calls Tryd.prog 3 #[.agg #[.int .i64 M, .slice A n c], .int .i64 most, .slice Aa na ca, .slice Ab nb cb] w fun e w' => e = .returned (.bool true) ∧ Below w.heap.size w w' := by
  have K0 := Lib.hid ((hV).boxg 24 #[.int .i64 M, .slice A n c] w.heap.size (by simp))
  have G0 := Lib.hid ((Below.refl w.heap.size w).alloc (by simp) (.cells #[.int .i64 M, .slice A n c] 24))
  have dd0 : decide (most < 0) = false := decide_eq_false (by omega)
  have dd1 : decide (4096 < most) = false := decide_eq_false (by omega)
  have dd2 : decide ((1000 : Int) < (na : Int)) = false := decide_eq_false (by omega)
  have dd3 : decide ((1000 : Int) < (nb : Int)) = false := decide_eq_false (by omega)
  have hF' := Lib.hid hF
  have hN' := Lib.hid hN
  have HCA := Lib.hid (And.intro hca hNa)
  have HCB := Lib.hid (And.intro hcb hNb)
  clear hF hN hca hcb hNa hNb
  clear hV
  go_enter Tryd.func3, Tryd.ntmps3
  go_wp2_with (first
    | go_skip
    | (refine at_load 24 (.tmp 4) (by rfl) ?_; refine wpListG_row (by rfl) 24 (.tmp 4) (by rfl) w.heap.size (by rfl) 24 #[.int .i64 M, .slice A n c] _ (K0.out.row 0 rfl) Tryd.underlying24 (by rfl) infoc_T ?_)
    | (go_at_call 6; (with_reducible refine (HG.out _ (K0.out.fs (A := A) (n := n) (xs := xs) (by simp))).mono ?_); rintro e w1 ⟨rfl, hb⟩; have K1 := Lib.hid (K0.out.on hb); have G1 := Lib.hid (below_step G0.out hb); clear hb K0 G0)
    | (refine at_load 24 (.tmp 4) (by rfl) ?_; refine wpListG_row (by rfl) 24 (.tmp 4) (by rfl) w.heap.size (by rfl) 24 #[.int .i64 M, .slice A n c] _ (K1.out.row 0 rfl) Tryd.underlying24 (by rfl) infoc_T ?_)
    | (go_at_call 7; (with_reducible refine (HRT.out _ (K1.out.fs (A := A) (n := n) (xs := xs) (by simp))).mono ?_); rintro e w2 ⟨rfl, hb⟩; have K2 := Lib.hid (K1.out.on hb); have G2 := Lib.hid (below_step G1.out hb); clear hb K1 G1)
    | (refine at_load 24 (.tmp 4) (by rfl) ?_; refine wpListG_row (by rfl) 24 (.tmp 4) (by rfl) w.heap.size (by rfl) 24 #[.int .i64 M, .slice A n c] _ (K2.out.row 0 rfl) Tryd.underlying24 (by rfl) infoc_T ?_)
    | (go_at_call 9; (with_reducible refine (b_call (A := A) (n := n) (c := c) (LA := Aa) (ln := na) (lc := ca) _ HV1.out K2.out (by simp) HCA.out.1 HCA.out.2 (by simp) hN'.out (by simp) (by simp) (by simp) hF'.out (by omega)).mono ?_); rintro e w3 ⟨L1, cl1, T1, tc1, rfl, hb, hE, hc0, HT10⟩; have K3 := Lib.hid hE; have HT1 := Lib.hid HT10; have G3 := Lib.hid (below_step G2.out hb); clear hb hE hc0 HT10 K2 G2; have K3b := Lib.hid (K3.out.boxg 29 #[.slice none 0 0, .bool false, .int .i64 0, .slice none 0 0] w3.heap.size rfl); have hz3 : w.heap.size ≤ w3.heap.size := G3.out.size; have G3b := Lib.hid (G3.out.alloc hz3 (.cells #[.slice none 0 0, .bool false, .int .i64 0, .slice none 0 0] 29)); clear K3 G3)
    | (refine at_store 29 (.tmp 9) (.tmp 47) (by rfl) ?_; refine wpList_put (by rfl) 29 (.tmp 9) (.tmp 47) (by rfl) w3.heap.size 0 (.agg #[.slice L1 0 cl1, .bool g1, .int .i64 N1, .slice T1 nt1 tc1]) (by rfl) (by rfl) 29 #[.slice none 0 0, .bool false, .int .i64 0, .slice none 0 0] #[.slice L1 0 cl1, .bool g1, .int .i64 N1, .slice T1 nt1 tc1] (K3b.out.row 0 rfl) (by simp [Value.cells]) (by kernel_rfl) infoc_U (by kernel_rfl) ?_; intro w4 hrow hoth hz hbl; have K4 := Lib.hid (K3b.out.turn 0 rfl hrow hoth hz); have G4 := Lib.hid (hbl _ _ (by omega) G3b.out); clear hrow hoth hz hbl K3b G3b)
    | (refine at_load 22 (.tmp 54) (by rfl) ?_; refine wpListG_get (by rfl) 22 (.tmp 54) (by rfl) w3.heap.size 0 (by rfl) 29 #[.slice L1 0 cl1, .bool g1, .int .i64 N1, .slice T1 nt1 tc1] (.slice L1 0 cl1) _ (K4.out.row 0 rfl) (by rfl) Tryd.underlying22 (by rfl) ?_)
    | (go_at_call 8; (with_reducible refine (l_wakes _ K4.out (by simp) (by simp) (by simp)).mono ?_); rintro e w5 ⟨rfl, hb⟩; have K5 := Lib.hid (K4.out.on hb); have G5 := Lib.hid (below_step G4.out hb); clear hb K4 G4))
  go_ret
  exact ⟨rfl, G5.out⟩
set_option maxRecDepth 100000 in
set_option maxHeartbeats 8000000 in
theorem up_a0 (M most : Int) (A : Option Addr) (n c : Nat) (xs : List Fd) (Aa : Option Addr) (na ca : Nat) (a : List UInt8) (Ab : Option Addr) (cb : Nat) (w : World) (hV : EnvF w [bF Ab 0 [], bF Aa na a, fF A n xs, stF, rwF, mvF] []) (HG : GG M A n c xs false) (HRT : GRt M A n c xs true) (h0 : 0 ≤ most) (h1 : most ≤ 4096) (hna : na ≤ 1000) (hca : na ≤ ca) (hcb : 0 ≤ cb) (hNa : Aa = none → ca = 0) (hNb : (Ab : Option Addr) = none → cb = 0) (hN : A = none → c = 0) (hF : full xs ≤ 20000) {L1l L2l : List Fd} {nl1 nl2 nt1 nt2 : Nat} {N1 N2 : Int} {X1 X2 : List Fd} {E2 : Int} {g1 g2 : Bool} (HV1 : Hid (BK M most xs a 0 nl1 L1l g1 N1 nt1 X1)) (HV2 : Hid (BK N1 most X1 [] E2 nl2 L2l g2 N2 nt2 X2)) (HR1 : GR1 N1 nt1 X1) (hF1 : Hid (full X1 ≤ 20000)) (HC : g1 = true ∨ (g1 = false ∧ g2 = true))  :
    Calls Tryd.prog 3 #[.agg #[.int .i64 M, .slice A n c], .int .i64 most, .slice Aa na ca, .slice Ab 0 cb] w fun e w' => e = .returned (.bool true) ∧ Below w.heap.size w w' := by
  rcases HC with e1 | ⟨e1, e2⟩
  all_goals
    have K0 := Lib.hid ((hV).boxg 24 #[.int .i64 M, .slice A n c] w.heap.size (by simp))
    have G0 := Lib.hid ((Below.refl w.heap.size w).alloc (by simp) (.cells #[.int .i64 M, .slice A n c] 24))
    have dd0 : decide (most < 0) = false := decide_eq_false (by omega)
    have dd1 : decide (4096 < most) = false := decide_eq_false (by omega)
    have dd2 : decide ((1000 : Int) < (na : Int)) = false := decide_eq_false (by omega)
    (try have E1 := Lib.hid e1)
    (try have E2 := Lib.hid e2)
    (try clear e1)
    (try clear e2)
    have hF' := Lib.hid hF
    have hN' := Lib.hid hN
    have HCA := Lib.hid (And.intro hca hNa)
    have HCB := Lib.hid (And.intro hcb hNb)
    clear hF hN hca hcb hNa hNb
    clear hV
    go_enter Tryd.func3, Tryd.ntmps3
    go_wp2_with (first
      | go_skip
      | (refine at_load 24 (.tmp 4) (by rfl) ?_; refine wpListG_row (by rfl) 24 (.tmp 4) (by rfl) w.heap.size (by rfl) 24 #[.int .i64 M, .slice A n c] _ (K0.out.row 0 rfl) Tryd.underlying24 (by rfl) infoc_T ?_)
      | (go_at_call 6; (with_reducible refine (HG.out _ (K0.out.fs (A := A) (n := n) (xs := xs) (by simp))).mono ?_); rintro e w1 ⟨rfl, hb⟩; have K1 := Lib.hid (K0.out.on hb); have G1 := Lib.hid (below_step G0.out hb); clear hb K0 G0)
      | (refine at_load 24 (.tmp 4) (by rfl) ?_; refine wpListG_row (by rfl) 24 (.tmp 4) (by rfl) w.heap.size (by rfl) 24 #[.int .i64 M, .slice A n c] _ (K1.out.row 0 rfl) Tryd.underlying24 (by rfl) infoc_T ?_)
      | (go_at_call 7; (with_reducible refine (HRT.out _ (K1.out.fs (A := A) (n := n) (xs := xs) (by simp))).mono ?_); rintro e w2 ⟨rfl, hb⟩; have K2 := Lib.hid (K1.out.on hb); have G2 := Lib.hid (below_step G1.out hb); clear hb K1 G1)
      | (refine at_load 24 (.tmp 4) (by rfl) ?_; refine wpListG_row (by rfl) 24 (.tmp 4) (by rfl) w.heap.size (by rfl) 24 #[.int .i64 M, .slice A n c] _ (K2.out.row 0 rfl) Tryd.underlying24 (by rfl) infoc_T ?_)
      | (go_at_call 9; (with_reducible refine (b_call (A := A) (n := n) (c := c) (LA := Aa) (ln := na) (lc := ca) _ HV1.out K2.out (by simp) HCA.out.1 HCA.out.2 (by simp) hN'.out (by simp) (by simp) (by simp) hF'.out (by omega)).mono ?_); rintro e w3 ⟨L1, cl1, T1, tc1, rfl, hb, hE, HM10, HT10⟩; have K3 := Lib.hid hE; have HT1 := Lib.hid HT10; have G3 := Lib.hid (below_step G2.out hb); have HM1 := Lib.hid HM10; clear hb hE HM10 HT10 K2 G2; have K3b := Lib.hid (K3.out.boxg 29 #[.slice none 0 0, .bool false, .int .i64 0, .slice none 0 0] w3.heap.size rfl); have hz3 : w.heap.size ≤ w3.heap.size := G3.out.size; have G3b := Lib.hid (G3.out.alloc hz3 (.cells #[.slice none 0 0, .bool false, .int .i64 0, .slice none 0 0] 29)); clear K3 G3)
      | (refine at_store 29 (.tmp 9) (.tmp 47) (by rfl) ?_; refine wpList_put (by rfl) 29 (.tmp 9) (.tmp 47) (by rfl) w3.heap.size 0 (.agg #[.slice L1 nl1 cl1, .bool g1, .int .i64 N1, .slice T1 nt1 tc1]) (by rfl) (by rfl) 29 #[.slice none 0 0, .bool false, .int .i64 0, .slice none 0 0] #[.slice L1 nl1 cl1, .bool g1, .int .i64 N1, .slice T1 nt1 tc1] (K3b.out.row 0 rfl) (by simp [Value.cells]) (by kernel_rfl) infoc_U (by kernel_rfl) ?_; intro w4 hrow hoth hz hbl; have K4 := Lib.hid (K3b.out.turn 0 rfl hrow hoth hz); have G4 := Lib.hid (hbl _ _ (by omega) G3b.out); clear hrow hoth hz hbl K3b G3b)
      | (refine at_load 24 (.tmp 62) (by rfl) ?_; refine wpList_part (by rfl) 24 (.tmp 62) (by rfl) w3.heap.size 2 (by rfl) 29 #[.slice L1 nl1 cl1, .bool g1, .int .i64 N1, .slice T1 nt1 tc1] #[.int .i64 N1, .slice T1 nt1 tc1] _ (K4.out.row 0 rfl) (part2 (by rfl) (by rfl)) Tryd.underlying24 (by rfl) infoc_T ?_)
      | (go_at_call 7; (with_reducible refine (HR1.out _ _ _ (K4.out.fs (A := T1) (n := nt1) (xs := X1) (by simp))).mono ?_); rintro e w5 ⟨rfl, hb⟩; have K5 := Lib.hid (K4.out.on hb); have G5 := Lib.hid (below_step G4.out hb); clear hb K4 G4)
      | (refine at_load 24 (.tmp 67) (by rfl) ?_; refine wpList_part (by rfl) 24 (.tmp 67) (by rfl) w3.heap.size 2 (by rfl) 29 #[.slice L1 nl1 cl1, .bool g1, .int .i64 N1, .slice T1 nt1 tc1] #[.int .i64 N1, .slice T1 nt1 tc1] _ (K5.out.row 0 rfl) (part2 (by rfl) (by rfl)) Tryd.underlying24 (by rfl) infoc_T ?_)
      | (go_at_call 9; (with_reducible refine (b_call (A := T1) (n := nt1) (c := tc1) (LA := Ab) (ln := 0) (lc := cb) _ HV2.out K5.out (by simp) HCB.out.1 HCB.out.2 (by simp) HT1.out (by simp) (by simp) (by simp) hF1.out (by omega)).mono ?_); rintro e w6 ⟨L2, cl2, T2, tc2, rfl, hb, hE, HM20, HT20⟩; have K6 := Lib.hid hE; have HT2 := Lib.hid HT20; have G6 := Lib.hid (below_step G5.out hb); have HM2 := Lib.hid HM20; clear hb hE HM20 HT20 K5 G5; have K6b := Lib.hid (K6.out.boxg 29 #[.slice none 0 0, .bool false, .int .i64 0, .slice none 0 0] w6.heap.size rfl); have hz6 : w.heap.size ≤ w6.heap.size := G6.out.size; have G6b := Lib.hid (G6.out.alloc hz6 (.cells #[.slice none 0 0, .bool false, .int .i64 0, .slice none 0 0] 29)); clear K6 G6)
      | (refine at_store 29 (.tmp 11) (.tmp 72) (by rfl) ?_; refine wpList_put (by rfl) 29 (.tmp 11) (.tmp 72) (by rfl) w6.heap.size 0 (.agg #[.slice L2 nl2 cl2, .bool g2, .int .i64 N2, .slice T2 nt2 tc2]) (by rfl) (by rfl) 29 #[.slice none 0 0, .bool false, .int .i64 0, .slice none 0 0] #[.slice L2 nl2 cl2, .bool g2, .int .i64 N2, .slice T2 nt2 tc2] (K6b.out.row 0 rfl) (by simp [Value.cells]) (by kernel_rfl) infoc_U (by kernel_rfl) ?_; intro w7 hrow hoth hz hbl; have K7 := Lib.hid (K6b.out.turn 0 rfl hrow hoth hz); have G7 := Lib.hid (hbl _ _ (by omega) G6b.out); clear hrow hoth hz hbl K6b G6b; (try have e1 := E1.out); (try have e2 := E2.out))
      | (refine at_load 4 (.tmp 90) (by rfl) ?_; refine wpListG_get (by rfl) 4 (.tmp 90) (by rfl) w3.heap.size 1 (by rfl) 29 #[.slice L1 nl1 cl1, .bool g1, .int .i64 N1, .slice T1 nt1 tc1] (.bool g1) _ (K7.out.row 1 rfl) (by rfl) Tryd.underlying4 (by rfl) ?_)
      | (refine at_load 4 (.tmp 94) (by rfl) ?_; refine wpListG_get (by rfl) 4 (.tmp 94) (by rfl) w6.heap.size 1 (by rfl) 29 #[.slice L2 nl2 cl2, .bool g2, .int .i64 N2, .slice T2 nt2 tc2] (.bool g2) _ (K7.out.row 0 rfl) (by rfl) Tryd.underlying4 (by rfl) ?_)
      | (go_at_call 8; (with_reducible refine (l_wakes _ K7.out (by simp) (by simp) (by simp)).mono ?_); rintro e w8 ⟨rfl, hb⟩; have K8 := Lib.hid (K7.out.on hb); have G8 := Lib.hid (below_step G7.out hb); clear hb K7 G7))
    go_ret
    exact ⟨rfl, G8.out⟩
set_option maxRecDepth 100000 in
set_option maxHeartbeats 8000000 in
theorem up_e0 (M most : Int) (A : Option Addr) (n c : Nat) (xs : List Fd) (Aa : Option Addr) (na ca : Nat) (a : List UInt8) (Ab : Option Addr) (cb : Nat) (w : World) (hV : EnvF w [bF Ab 0 [], bF Aa na a, fF A n xs, stF, rwF, mvF] []) (HG : GG M A n c xs false) (HRT : GRt M A n c xs true) (h0 : 0 ≤ most) (h1 : most ≤ 4096) (hna : na ≤ 1000) (hca : na ≤ ca) (hcb : 0 ≤ cb) (hNa : Aa = none → ca = 0) (hNb : (Ab : Option Addr) = none → cb = 0) (hN : A = none → c = 0) (hF : full xs ≤ 20000) {L1l L2l : List Fd} {nl1 nl2 nt1 nt2 : Nat} {N1 N2 : Int} {X1 X2 : List Fd} {E2 : Int} {nl3 nt3 : Nat} {L3l X3 : List Fd} {g3 : Bool} {N3 : Int} (HV1 : Hid (BK M most xs a 0 nl1 L1l false N1 nt1 X1)) (HV2 : Hid (BK N1 most X1 [] E2 nl2 L2l false N2 nt2 X2)) (HR1 : GR1 N1 nt1 X1) (hF1 : Hid (full X1 ≤ 20000)) (HV3 : BK M most xs (a ++ []) E2 nl3 L3l g3 N3 nt3 X3) (he : (E2 != 0) = true) (hal : a.length ≤ 4000) (hbl : ([] : List UInt8).length ≤ 4000)  :
    Calls Tryd.prog 3 #[.agg #[.int .i64 M, .slice A n c], .int .i64 most, .slice Aa na ca, .slice Ab 0 cb] w fun e w' => e = .returned (.bool true) ∧ Below w.heap.size w w' := by
  all_goals
    have K0 := Lib.hid ((hV).boxg 24 #[.int .i64 M, .slice A n c] w.heap.size (by simp))
    have G0 := Lib.hid ((Below.refl w.heap.size w).alloc (by simp) (.cells #[.int .i64 M, .slice A n c] 24))
    have dd0 : decide (most < 0) = false := decide_eq_false (by omega)
    have dd1 : decide (4096 < most) = false := decide_eq_false (by omega)
    have dd2 : decide ((1000 : Int) < (na : Int)) = false := decide_eq_false (by omega)
    have hF' := Lib.hid hF
    have hN' := Lib.hid hN
    have HCA := Lib.hid (And.intro hca hNa)
    have HCB := Lib.hid (And.intro hcb hNb)
    clear hF hN hca hcb hNa hNb
    have HV3' := Lib.hid HV3
    clear HV3
    clear hV
    go_enter Tryd.func3, Tryd.ntmps3
    go_wp2_with (first
      | go_skip
      | (refine at_load 24 (.tmp 4) (by rfl) ?_; refine wpListG_row (by rfl) 24 (.tmp 4) (by rfl) w.heap.size (by rfl) 24 #[.int .i64 M, .slice A n c] _ (K0.out.row 0 rfl) Tryd.underlying24 (by rfl) infoc_T ?_)
      | (go_at_call 6; (with_reducible refine (HG.out _ (K0.out.fs (A := A) (n := n) (xs := xs) (by simp))).mono ?_); rintro e w1 ⟨rfl, hb⟩; have K1 := Lib.hid (K0.out.on hb); have G1 := Lib.hid (below_step G0.out hb); clear hb K0 G0)
      | (refine at_load 24 (.tmp 4) (by rfl) ?_; refine wpListG_row (by rfl) 24 (.tmp 4) (by rfl) w.heap.size (by rfl) 24 #[.int .i64 M, .slice A n c] _ (K1.out.row 0 rfl) Tryd.underlying24 (by rfl) infoc_T ?_)
      | (go_at_call 7; (with_reducible refine (HRT.out _ (K1.out.fs (A := A) (n := n) (xs := xs) (by simp))).mono ?_); rintro e w2 ⟨rfl, hb⟩; have K2 := Lib.hid (K1.out.on hb); have G2 := Lib.hid (below_step G1.out hb); clear hb K1 G1)
      | (refine at_load 24 (.tmp 4) (by rfl) ?_; refine wpListG_row (by rfl) 24 (.tmp 4) (by rfl) w.heap.size (by rfl) 24 #[.int .i64 M, .slice A n c] _ (K2.out.row 0 rfl) Tryd.underlying24 (by rfl) infoc_T ?_)
      | (go_at_call 9; (with_reducible refine (b_call (A := A) (n := n) (c := c) (LA := Aa) (ln := na) (lc := ca) _ HV1.out K2.out (by simp) HCA.out.1 HCA.out.2 (by simp) hN'.out (by simp) (by simp) (by simp) hF'.out (by omega)).mono ?_); rintro e w3 ⟨L1, cl1, T1, tc1, rfl, hb, hE, HM10, HT10⟩; have K3 := Lib.hid hE; have HT1 := Lib.hid HT10; have G3 := Lib.hid (below_step G2.out hb); have HM1 := Lib.hid HM10; clear hb hE HM10 HT10 K2 G2; have K3b := Lib.hid (K3.out.boxg 29 #[.slice none 0 0, .bool false, .int .i64 0, .slice none 0 0] w3.heap.size rfl); have hz3 : w.heap.size ≤ w3.heap.size := G3.out.size; have G3b := Lib.hid (G3.out.alloc hz3 (.cells #[.slice none 0 0, .bool false, .int .i64 0, .slice none 0 0] 29)); clear K3 G3)
      | (refine at_store 29 (.tmp 9) (.tmp 47) (by rfl) ?_; refine wpList_put (by rfl) 29 (.tmp 9) (.tmp 47) (by rfl) w3.heap.size 0 (.agg #[.slice L1 nl1 cl1, .bool false, .int .i64 N1, .slice T1 nt1 tc1]) (by rfl) (by rfl) 29 #[.slice none 0 0, .bool false, .int .i64 0, .slice none 0 0] #[.slice L1 nl1 cl1, .bool false, .int .i64 N1, .slice T1 nt1 tc1] (K3b.out.row 0 rfl) (by simp [Value.cells]) (by kernel_rfl) infoc_U (by kernel_rfl) ?_; intro w4 hrow hoth hz hbl; have K4 := Lib.hid (K3b.out.turn 0 rfl hrow hoth hz); have G4 := Lib.hid (hbl _ _ (by omega) G3b.out); clear hrow hoth hz hbl K3b G3b)
      | (refine at_load 24 (.tmp 62) (by rfl) ?_; refine wpList_part (by rfl) 24 (.tmp 62) (by rfl) w3.heap.size 2 (by rfl) 29 #[.slice L1 nl1 cl1, .bool false, .int .i64 N1, .slice T1 nt1 tc1] #[.int .i64 N1, .slice T1 nt1 tc1] _ (K4.out.row 0 rfl) (part2 (by rfl) (by rfl)) Tryd.underlying24 (by rfl) infoc_T ?_)
      | (go_at_call 7; (with_reducible refine (HR1.out _ _ _ (K4.out.fs (A := T1) (n := nt1) (xs := X1) (by simp))).mono ?_); rintro e w5 ⟨rfl, hb⟩; have K5 := Lib.hid (K4.out.on hb); have G5 := Lib.hid (below_step G4.out hb); clear hb K4 G4)
      | (refine at_load 24 (.tmp 67) (by rfl) ?_; refine wpList_part (by rfl) 24 (.tmp 67) (by rfl) w3.heap.size 2 (by rfl) 29 #[.slice L1 nl1 cl1, .bool false, .int .i64 N1, .slice T1 nt1 tc1] #[.int .i64 N1, .slice T1 nt1 tc1] _ (K5.out.row 0 rfl) (part2 (by rfl) (by rfl)) Tryd.underlying24 (by rfl) infoc_T ?_)
      | (go_at_call 9; (with_reducible refine (b_call (A := T1) (n := nt1) (c := tc1) (LA := Ab) (ln := 0) (lc := cb) _ HV2.out K5.out (by simp) HCB.out.1 HCB.out.2 (by simp) HT1.out (by simp) (by simp) (by simp) hF1.out (by omega)).mono ?_); rintro e w6 ⟨L2, cl2, T2, tc2, rfl, hb, hE, HM20, HT20⟩; have K6 := Lib.hid hE; have HT2 := Lib.hid HT20; have G6 := Lib.hid (below_step G5.out hb); have HM2 := Lib.hid HM20; clear hb hE HM20 HT20 K5 G5; have K6b := Lib.hid (K6.out.boxg 29 #[.slice none 0 0, .bool false, .int .i64 0, .slice none 0 0] w6.heap.size rfl); have hz6 : w.heap.size ≤ w6.heap.size := G6.out.size; have G6b := Lib.hid (G6.out.alloc hz6 (.cells #[.slice none 0 0, .bool false, .int .i64 0, .slice none 0 0] 29)); clear K6 G6)
      | (refine at_store 29 (.tmp 11) (.tmp 72) (by rfl) ?_; refine wpList_put (by rfl) 29 (.tmp 11) (.tmp 72) (by rfl) w6.heap.size 0 (.agg #[.slice L2 nl2 cl2, .bool false, .int .i64 N2, .slice T2 nt2 tc2]) (by rfl) (by rfl) 29 #[.slice none 0 0, .bool false, .int .i64 0, .slice none 0 0] #[.slice L2 nl2 cl2, .bool false, .int .i64 N2, .slice T2 nt2 tc2] (K6b.out.row 0 rfl) (by simp [Value.cells]) (by kernel_rfl) infoc_U (by kernel_rfl) ?_; intro w7 hrow hoth hz hbl; have K7 := Lib.hid (K6b.out.turn 0 rfl hrow hoth hz); have G7 := Lib.hid (hbl _ _ (by omega) G6b.out); clear hrow hoth hz hbl K6b G6b)
      | (refine at_load 4 (.tmp 90) (by rfl) ?_; refine wpListG_get (by rfl) 4 (.tmp 90) (by rfl) w3.heap.size 1 (by rfl) 29 #[.slice L1 nl1 cl1, .bool false, .int .i64 N1, .slice T1 nt1 tc1] (.bool false) _ (K7.out.row 1 rfl) (by rfl) Tryd.underlying4 (by rfl) ?_)
      | (refine at_load 4 (.tmp 94) (by rfl) ?_; refine wpListG_get (by rfl) 4 (.tmp 94) (by rfl) w6.heap.size 1 (by rfl) 29 #[.slice L2 nl2 cl2, .bool false, .int .i64 N2, .slice T2 nt2 tc2] (.bool false) _ (K7.out.row 0 rfl) (by rfl) Tryd.underlying4 (by rfl) ?_))
    refine p11_region (A1 := Aa) (n1 := na) (A2 := Ab) (n2 := 0) (a := a) (b := []) (xs := xs) (by simp) (by simp) (by simp) (by simp) hN'.out hF'.out (List.mem_of_getElem? (i := 2) rfl) (by simp) HCA.out.2 (by simp) HCB.out.2 hal hbl (by omega) (by omega) HV3'.out (fun gX L3 T3 cl3 tc3 _ _ _ w40 K40' hcl htc hb => ?_) K7.out
    have K40 := Lib.hid K40'
    have G40 := Lib.hid (below_step G7.out.drew hb)
    clear K40' hcl htc hb K7 G7
    go_wp2_with (first
      | go_skip
      | (go_at_call 8; (with_reducible refine (l_wakes _ K40.out (by simp) (by simp) (by simp)).mono ?_); rintro e w41 ⟨rfl, hb⟩; have K41 := Lib.hid (K40.out.on hb); have G41 := Lib.hid (below_step G40.out hb); clear hb K40 G40))
    go_ret
    exact ⟨rfl, G41.out⟩
set_option maxRecDepth 100000 in
set_option maxHeartbeats 8000000 in
theorem up_o0 (M most : Int) (A : Option Addr) (n c : Nat) (xs : List Fd) (Aa : Option Addr) (na ca : Nat) (a : List UInt8) (Ab : Option Addr) (cb : Nat) (w : World) (hV : EnvF w [bF Ab 0 [], bF Aa na a, fF A n xs, stF, rwF, mvF] []) (HG : GG M A n c xs false) (HRT : GRt M A n c xs true) (h0 : 0 ≤ most) (h1 : most ≤ 4096) (hna : na ≤ 1000) (hca : na ≤ ca) (hcb : 0 ≤ cb) (hNa : Aa = none → ca = 0) (hNb : (Ab : Option Addr) = none → cb = 0) (hN : A = none → c = 0) (hF : full xs ≤ 20000) {L1l L2l : List Fd} {nl1 nl2 nt1 nt2 : Nat} {N1 N2 : Int} {X1 X2 : List Fd} {nl3 n3 sb : Nat} {L3l : List Fd} (HV1 : Hid (BK M most xs a 0 nl1 L1l false N1 nt1 X1)) (HV2 : Hid (BK N1 most X1 [] 0 nl2 L2l false N2 nt2 X2)) (HR1 : GR1 N1 nt1 X1) (hF1 : Hid (full X1 ≤ 20000)) (g3 : Bool) (HV3 : BK M most xs (a ++ []) 0 nl3 L3l g3 N2 nt2 X2) (HSB : Hid (∀ (A0 : Option Addr) (c0 : Nat) (w0 : World), Fs w0 w0.heap.size A0 n3 (L1l ++ L2l) → Calls Tryd.prog 10 #[.slice A0 n3 c0] w0 fun e w' => e = .returned (.int .i64 (sb : Int)) ∧ Below w0.heap.size w0 w')) (hg3 : decide ((2000 : Int) < (sb : Int)) = g3) (HL3 : Hid (g3 = false → L3l = L1l ++ L2l)) (h4a : Hid (L1l.length ≤ 4000)) (h4b : Hid (nl2 ≤ 4000)) (h4c : Hid (nl1 ≤ 4000)) (hn3 : Hid ((L1l ++ L2l).length = n3)) (hnt : Hid (nt2 ≤ 1000000)) (hnl : Hid (nl3 ≤ 1000000)) (hsm : Hid (sameB N2 X2 N2 X2 = true)) (hal : a.length ≤ 4000) (hbl : ([] : List UInt8).length ≤ 4000)  :
    Calls Tryd.prog 3 #[.agg #[.int .i64 M, .slice A n c], .int .i64 most, .slice Aa na ca, .slice Ab 0 cb] w fun e w' => e = .returned (.bool true) ∧ Below w.heap.size w w' := by
  all_goals rcases Bool.eq_false_or_eq_true g3 with e3 | e3
  all_goals rw [e3] at hg3
  all_goals
    have K0 := Lib.hid ((hV).boxg 24 #[.int .i64 M, .slice A n c] w.heap.size (by simp))
    have G0 := Lib.hid ((Below.refl w.heap.size w).alloc (by simp) (.cells #[.int .i64 M, .slice A n c] 24))
    have dd0 : decide (most < 0) = false := decide_eq_false (by omega)
    have dd1 : decide (4096 < most) = false := decide_eq_false (by omega)
    have dd2 : decide ((1000 : Int) < (na : Int)) = false := decide_eq_false (by omega)
    have hF' := Lib.hid hF
    have hN' := Lib.hid hN
    have HCA := Lib.hid (And.intro hca hNa)
    have HCB := Lib.hid (And.intro hcb hNb)
    clear hF hN hca hcb hNa hNb
    have HV3' := Lib.hid HV3
    clear HV3
    clear hV
    go_enter Tryd.func3, Tryd.ntmps3
    go_wp2_with (first
      | go_skip
      | (refine at_load 24 (.tmp 4) (by rfl) ?_; refine wpListG_row (by rfl) 24 (.tmp 4) (by rfl) w.heap.size (by rfl) 24 #[.int .i64 M, .slice A n c] _ (K0.out.row 0 rfl) Tryd.underlying24 (by rfl) infoc_T ?_)
      | (go_at_call 6; (with_reducible refine (HG.out _ (K0.out.fs (A := A) (n := n) (xs := xs) (by simp))).mono ?_); rintro e w1 ⟨rfl, hb⟩; have K1 := Lib.hid (K0.out.on hb); have G1 := Lib.hid (below_step G0.out hb); clear hb K0 G0)
      | (refine at_load 24 (.tmp 4) (by rfl) ?_; refine wpListG_row (by rfl) 24 (.tmp 4) (by rfl) w.heap.size (by rfl) 24 #[.int .i64 M, .slice A n c] _ (K1.out.row 0 rfl) Tryd.underlying24 (by rfl) infoc_T ?_)
      | (go_at_call 7; (with_reducible refine (HRT.out _ (K1.out.fs (A := A) (n := n) (xs := xs) (by simp))).mono ?_); rintro e w2 ⟨rfl, hb⟩; have K2 := Lib.hid (K1.out.on hb); have G2 := Lib.hid (below_step G1.out hb); clear hb K1 G1)
      | (refine at_load 24 (.tmp 4) (by rfl) ?_; refine wpListG_row (by rfl) 24 (.tmp 4) (by rfl) w.heap.size (by rfl) 24 #[.int .i64 M, .slice A n c] _ (K2.out.row 0 rfl) Tryd.underlying24 (by rfl) infoc_T ?_)
      | (go_at_call 9; (with_reducible refine (b_call (A := A) (n := n) (c := c) (LA := Aa) (ln := na) (lc := ca) _ HV1.out K2.out (by simp) HCA.out.1 HCA.out.2 (by simp) hN'.out (by simp) (by simp) (by simp) hF'.out (by omega)).mono ?_); rintro e w3 ⟨L1, cl1, T1, tc1, rfl, hb, hE, HM10, HT10⟩; have K3 := Lib.hid hE; have HT1 := Lib.hid HT10; have G3 := Lib.hid (below_step G2.out hb); have HM1 := Lib.hid HM10; clear hb hE HM10 HT10 K2 G2; have K3b := Lib.hid (K3.out.boxg 29 #[.slice none 0 0, .bool false, .int .i64 0, .slice none 0 0] w3.heap.size rfl); have hz3 : w.heap.size ≤ w3.heap.size := G3.out.size; have G3b := Lib.hid (G3.out.alloc hz3 (.cells #[.slice none 0 0, .bool false, .int .i64 0, .slice none 0 0] 29)); clear K3 G3)
      | (refine at_store 29 (.tmp 9) (.tmp 47) (by rfl) ?_; refine wpList_put (by rfl) 29 (.tmp 9) (.tmp 47) (by rfl) w3.heap.size 0 (.agg #[.slice L1 nl1 cl1, .bool false, .int .i64 N1, .slice T1 nt1 tc1]) (by rfl) (by rfl) 29 #[.slice none 0 0, .bool false, .int .i64 0, .slice none 0 0] #[.slice L1 nl1 cl1, .bool false, .int .i64 N1, .slice T1 nt1 tc1] (K3b.out.row 0 rfl) (by simp [Value.cells]) (by kernel_rfl) infoc_U (by kernel_rfl) ?_; intro w4 hrow hoth hz hbl; have K4 := Lib.hid (K3b.out.turn 0 rfl hrow hoth hz); have G4 := Lib.hid (hbl _ _ (by omega) G3b.out); clear hrow hoth hz hbl K3b G3b)
      | (refine at_load 24 (.tmp 62) (by rfl) ?_; refine wpList_part (by rfl) 24 (.tmp 62) (by rfl) w3.heap.size 2 (by rfl) 29 #[.slice L1 nl1 cl1, .bool false, .int .i64 N1, .slice T1 nt1 tc1] #[.int .i64 N1, .slice T1 nt1 tc1] _ (K4.out.row 0 rfl) (part2 (by rfl) (by rfl)) Tryd.underlying24 (by rfl) infoc_T ?_)
      | (go_at_call 7; (with_reducible refine (HR1.out _ _ _ (K4.out.fs (A := T1) (n := nt1) (xs := X1) (by simp))).mono ?_); rintro e w5 ⟨rfl, hb⟩; have K5 := Lib.hid (K4.out.on hb); have G5 := Lib.hid (below_step G4.out hb); clear hb K4 G4)
      | (refine at_load 24 (.tmp 67) (by rfl) ?_; refine wpList_part (by rfl) 24 (.tmp 67) (by rfl) w3.heap.size 2 (by rfl) 29 #[.slice L1 nl1 cl1, .bool false, .int .i64 N1, .slice T1 nt1 tc1] #[.int .i64 N1, .slice T1 nt1 tc1] _ (K5.out.row 0 rfl) (part2 (by rfl) (by rfl)) Tryd.underlying24 (by rfl) infoc_T ?_)
      | (go_at_call 9; (with_reducible refine (b_call (A := T1) (n := nt1) (c := tc1) (LA := Ab) (ln := 0) (lc := cb) _ HV2.out K5.out (by simp) HCB.out.1 HCB.out.2 (by simp) HT1.out (by simp) (by simp) (by simp) hF1.out (by omega)).mono ?_); rintro e w6 ⟨L2, cl2, T2, tc2, rfl, hb, hE, HM20, HT20⟩; have K6 := Lib.hid hE; have HT2 := Lib.hid HT20; have G6 := Lib.hid (below_step G5.out hb); have HM2 := Lib.hid HM20; clear hb hE HM20 HT20 K5 G5; have K6b := Lib.hid (K6.out.boxg 29 #[.slice none 0 0, .bool false, .int .i64 0, .slice none 0 0] w6.heap.size rfl); have hz6 : w.heap.size ≤ w6.heap.size := G6.out.size; have G6b := Lib.hid (G6.out.alloc hz6 (.cells #[.slice none 0 0, .bool false, .int .i64 0, .slice none 0 0] 29)); clear K6 G6)
      | (refine at_store 29 (.tmp 11) (.tmp 72) (by rfl) ?_; refine wpList_put (by rfl) 29 (.tmp 11) (.tmp 72) (by rfl) w6.heap.size 0 (.agg #[.slice L2 nl2 cl2, .bool false, .int .i64 N2, .slice T2 nt2 tc2]) (by rfl) (by rfl) 29 #[.slice none 0 0, .bool false, .int .i64 0, .slice none 0 0] #[.slice L2 nl2 cl2, .bool false, .int .i64 N2, .slice T2 nt2 tc2] (K6b.out.row 0 rfl) (by simp [Value.cells]) (by kernel_rfl) infoc_U (by kernel_rfl) ?_; intro w7 hrow hoth hz hbl; have K7 := Lib.hid (K6b.out.turn 0 rfl hrow hoth hz); have G7 := Lib.hid (hbl _ _ (by omega) G6b.out); clear hrow hoth hz hbl K6b G6b)
      | (refine at_load 4 (.tmp 90) (by rfl) ?_; refine wpListG_get (by rfl) 4 (.tmp 90) (by rfl) w3.heap.size 1 (by rfl) 29 #[.slice L1 nl1 cl1, .bool false, .int .i64 N1, .slice T1 nt1 tc1] (.bool false) _ (K7.out.row 1 rfl) (by rfl) Tryd.underlying4 (by rfl) ?_)
      | (refine at_load 4 (.tmp 94) (by rfl) ?_; refine wpListG_get (by rfl) 4 (.tmp 94) (by rfl) w6.heap.size 1 (by rfl) 29 #[.slice L2 nl2 cl2, .bool false, .int .i64 N2, .slice T2 nt2 tc2] (.bool false) _ (K7.out.row 0 rfl) (by rfl) Tryd.underlying4 (by rfl) ?_))
    refine p11_region (A1 := Aa) (n1 := na) (A2 := Ab) (n2 := 0) (a := a) (b := []) (xs := xs) (by simp) (by simp) (by simp) (by simp) hN'.out hF'.out (List.mem_of_getElem? (i := 2) rfl) (by simp) HCA.out.2 (by simp) HCB.out.2 hal hbl (by omega) (by omega) HV3'.out (fun gX L3 T3 cl3 tc3 _ _ _ w40 K40' hcl htc hb => ?_) K7.out
    have K40 := Lib.hid K40'
    have G40 := Lib.hid (below_step G7.out.drew hb)
    clear K40' hcl htc hb K7 G7
    go_wp2
    refine p14_region (L1 := L1l) (L2 := L2l) (List.mem_of_getElem? (i := 2) rfl) (List.mem_of_getElem? (i := 1) rfl) (by simp) HM1.out (by simp) HM2.out h4a.out h4b.out h4c.out hn3.out (fun A3 c3 _ _ w50 K50' hN3 hb => ?_) K40.out
    have K50 := Lib.hid K50'
    have G50 := Lib.hid (below_step G40.out.drew hb)
    clear K50' hN3 hb K40 G40
    go_wp2_with (first
      | go_skip
      | (go_at_call 10; (with_reducible refine (HSB.out _ _ _ (K50.out.fs (A := A3) (n := n3) (xs := (L1l ++ L2l)) (by simp))).mono ?_); rintro e w51 ⟨rfl, hb⟩; have K51 := Lib.hid (K50.out.on hb); have G51 := Lib.hid (below_step G50.out hb); clear hb K50 G50)
      | (refine at_load 4 (.tmp 131) (by rfl) ?_; refine wpListG_get (by rfl) 4 (.tmp 131) (by rfl) gX 1 (by rfl) 29 #[.slice L3 nl3 cl3, .bool g3, .int .i64 N2, .slice T3 nt2 tc3] (.bool g3) _ (K51.out.row 0 rfl) (by rfl) Tryd.underlying4 (by rfl) ?_)
      | (refine at_load 4 (.tmp 143) (by rfl) ?_; refine wpListG_get (by rfl) 4 (.tmp 143) (by rfl) gX 1 (by rfl) 29 #[.slice L3 nl3 cl3, .bool g3, .int .i64 N2, .slice T3 nt2 tc3] (.bool g3) _ (K51.out.row 0 rfl) (by rfl) Tryd.underlying4 (by rfl) ?_)
      | (refine at_load 24 (.tmp 134) (by rfl) ?_; refine wpList_part (by rfl) 24 (.tmp 134) (by rfl) gX 2 (by rfl) 29 #[.slice L3 nl3 cl3, .bool g3, .int .i64 N2, .slice T3 nt2 tc3] #[.int .i64 N2, .slice T3 nt2 tc3] _ (K51.out.row 0 rfl) (part2 (by rfl) (by rfl)) Tryd.underlying24 (by rfl) infoc_T ?_)
      | (refine at_load 24 (.tmp 136) (by rfl) ?_; refine wpList_part (by rfl) 24 (.tmp 136) (by rfl) w6.heap.size 2 (by rfl) 29 #[.slice L2 nl2 cl2, .bool false, .int .i64 N2, .slice T2 nt2 tc2] #[.int .i64 N2, .slice T2 nt2 tc2] _ (K51.out.row 1 rfl) (part2 (by rfl) (by rfl)) Tryd.underlying24 (by rfl) infoc_T ?_)
      | (go_at_call 11; (with_reducible refine (l_same (b := true) (A := T3) (n := nt2) (xs := X2) (A' := T2) (n' := nt2) (ys := X2) _ K51.out (by simp) (by simp) hnt.out hsm.out).mono ?_); rintro e w60 ⟨rfl, hb⟩; have K60 := Lib.hid (K51.out.on hb); have G60 := Lib.hid (below_step G51.out hb); clear hb K51 G51)
      | (refine at_load 22 (.tmp 147) (by rfl) ?_; refine wpListG_get (by rfl) 22 (.tmp 147) (by rfl) gX 0 (by rfl) 29 #[.slice L3 nl3 cl3, .bool g3, .int .i64 N2, .slice T3 nt2 tc3] (.slice L3 nl3 cl3) _ (K51.out.row 0 rfl) (by rfl) Tryd.underlying22 (by rfl) ?_)
      | (go_at_call 12; (with_reducible refine (l_fields (b := true) (A := L3) (n := nl3) (xs := L3l) (A' := A3) (n' := n3) (ys := (L1l ++ L2l)) _ K51.out (by simp) (by simp) hnl.out (decide_eq_true (HL3.out e3))).mono ?_); rintro e w70 ⟨rfl, hb⟩; have K70 := Lib.hid (K51.out.on hb); have G70 := Lib.hid (below_step G51.out hb); clear hb K51 G51)
      | (refine at_load 24 (.tmp 153) (by rfl) ?_; refine wpList_part (by rfl) 24 (.tmp 153) (by rfl) gX 2 (by rfl) 29 #[.slice L3 nl3 cl3, .bool g3, .int .i64 N2, .slice T3 nt2 tc3] #[.int .i64 N2, .slice T3 nt2 tc3] _ (K70.out.row 0 rfl) (part2 (by rfl) (by rfl)) Tryd.underlying24 (by rfl) infoc_T ?_)
      | (refine at_load 24 (.tmp 155) (by rfl) ?_; refine wpList_part (by rfl) 24 (.tmp 155) (by rfl) w6.heap.size 2 (by rfl) 29 #[.slice L2 nl2 cl2, .bool false, .int .i64 N2, .slice T2 nt2 tc2] #[.int .i64 N2, .slice T2 nt2 tc2] _ (K70.out.row 1 rfl) (part2 (by rfl) (by rfl)) Tryd.underlying24 (by rfl) infoc_T ?_)
      | (go_at_call 11; (with_reducible refine (l_same (b := true) (A := T3) (n := nt2) (xs := X2) (A' := T2) (n' := nt2) (ys := X2) _ K70.out (by simp) (by simp) hnt.out hsm.out).mono ?_); rintro e w60 ⟨rfl, hb⟩; have K60 := Lib.hid (K70.out.on hb); have G60 := Lib.hid (below_step G70.out hb); clear hb K70 G70)
      | (go_at_call 8; (with_reducible refine (l_wakes _ K60.out (by simp) (by simp) (by simp)).mono ?_); rintro e w61 ⟨rfl, hb⟩; have K61 := Lib.hid (K60.out.on hb); have G61 := Lib.hid (below_step G60.out hb); clear hb K60 G60))
    go_ret
    exact ⟨rfl, G61.out⟩
set_option maxRecDepth 100000 in
set_option maxHeartbeats 8000000 in
theorem up_a1 (M most : Int) (A : Option Addr) (n c : Nat) (xs : List Fd) (Aa : Option Addr) (na ca : Nat) (a : List UInt8) (qb ob nb cb : Nat) (x0 : UInt8) (bs : List UInt8) (s1 s2 : Bool) (w : World) (hV : EnvF w [bF (some ⟨qb, ob, none⟩) nb (x0 :: bs), bF Aa na a, fF A n xs, stF, rwF, mvF] []) (HG : GG M A n c xs false) (HRT : GRt M A n c xs true) (h0 : 0 ≤ most) (h1 : most ≤ 4096) (hna : na ≤ 1000) (hnb : nb ≤ 1000) (hca : na ≤ ca) (hcb : nb ≤ cb) (hNa : Aa = none → ca = 0) (hNb : ((some ⟨qb, ob, none⟩) : Option Addr) = none → cb = 0) (hN : A = none → c = 0) (hF : full xs ≤ 20000) {L1l L2l : List Fd} {nl1 nl2 nt1 nt2 : Nat} {N1 N2 : Int} {X1 X2 : List Fd} {E2 : Int} {g1 g2 : Bool} (HV1 : Hid (BK M most xs a 0 nl1 L1l g1 N1 nt1 X1)) (HV2 : Hid (BK N1 most X1 (x0 :: bs) E2 nl2 L2l g2 N2 nt2 X2)) (HR1 : GR1 N1 nt1 X1) (hF1 : Hid (full X1 ≤ 20000)) (HC : (s1 = true ∧ s2 = true) ∨ (s1 = false ∧ g1 = true) ∨ (s1 = true ∧ s2 = false ∧ g1 = true) ∨ (s1 = false ∧ g1 = false ∧ g2 = true) ∨ (s1 = true ∧ s2 = false ∧ g1 = false ∧ g2 = true)) (hb0 : 0 < nb) (hb1 : decide ((0 : Int) < (nb : Int)) = true) (hb2 : decide (0 < nb) = true) (t1 : decide ((32 : Int) ≤ (x0.toNat : Int)) = s1) (t1' : decide (32 ≤ x0.toNat) = s1) (t2 : decide ((x0.toNat : Int) < (64 : Int)) = s2) (t2' : decide (x0.toNat < 64) = s2) :
    Calls Tryd.prog 3 #[.agg #[.int .i64 M, .slice A n c], .int .i64 most, .slice Aa na ca, .slice (some ⟨qb, ob, none⟩) nb cb] w fun e w' => e = .returned (.bool true) ∧ Below w.heap.size w w' := by
  rcases HC with ⟨rfl, rfl⟩ | ⟨rfl, e1⟩ | ⟨rfl, rfl, e1⟩ | ⟨rfl, e1, e2⟩ | ⟨rfl, rfl, e1, e2⟩
  all_goals
    have K0 := Lib.hid ((hV).boxg 24 #[.int .i64 M, .slice A n c] w.heap.size (by simp))
    have G0 := Lib.hid ((Below.refl w.heap.size w).alloc (by simp) (.cells #[.int .i64 M, .slice A n c] 24))
    have dd0 : decide (most < 0) = false := decide_eq_false (by omega)
    have dd1 : decide (4096 < most) = false := decide_eq_false (by omega)
    have dd2 : decide ((1000 : Int) < (na : Int)) = false := decide_eq_false (by omega)
    have dd3 : decide ((1000 : Int) < (nb : Int)) = false := decide_eq_false (by omega)
    (try have E1 := Lib.hid e1)
    (try have E2 := Lib.hid e2)
    (try clear e1)
    (try clear e2)
    have hF' := Lib.hid hF
    have hN' := Lib.hid hN
    have HCA := Lib.hid (And.intro hca hNa)
    have HCB := Lib.hid (And.intro hcb hNb)
    clear hF hN hca hcb hNa hNb
    clear hV
    go_enter Tryd.func3, Tryd.ntmps3
    go_wp2_with (first
      | go_skip
      | (refine at_load 24 (.tmp 4) (by rfl) ?_; refine wpListG_row (by rfl) 24 (.tmp 4) (by rfl) w.heap.size (by rfl) 24 #[.int .i64 M, .slice A n c] _ (K0.out.row 0 rfl) Tryd.underlying24 (by rfl) infoc_T ?_)
      | (go_at_call 6; (with_reducible refine (HG.out _ (K0.out.fs (A := A) (n := n) (xs := xs) (by simp))).mono ?_); rintro e w1 ⟨rfl, hb⟩; have K1 := Lib.hid (K0.out.on hb); have G1 := Lib.hid (below_step G0.out hb); clear hb K0 G0)
      | (refine at_load 24 (.tmp 4) (by rfl) ?_; refine wpListG_row (by rfl) 24 (.tmp 4) (by rfl) w.heap.size (by rfl) 24 #[.int .i64 M, .slice A n c] _ (K1.out.row 0 rfl) Tryd.underlying24 (by rfl) infoc_T ?_)
      | (go_at_call 7; (with_reducible refine (HRT.out _ (K1.out.fs (A := A) (n := n) (xs := xs) (by simp))).mono ?_); rintro e w2 ⟨rfl, hb⟩; have K2 := Lib.hid (K1.out.on hb); have G2 := Lib.hid (below_step G1.out hb); clear hb K1 G1)
      | (refine at_load 24 (.tmp 4) (by rfl) ?_; refine wpListG_row (by rfl) 24 (.tmp 4) (by rfl) w.heap.size (by rfl) 24 #[.int .i64 M, .slice A n c] _ (K2.out.row 0 rfl) Tryd.underlying24 (by rfl) infoc_T ?_)
      | (go_at_call 9; (with_reducible refine (b_call (A := A) (n := n) (c := c) (LA := Aa) (ln := na) (lc := ca) _ HV1.out K2.out (by simp) HCA.out.1 HCA.out.2 (by simp) hN'.out (by simp) (by simp) (by simp) hF'.out (by omega)).mono ?_); rintro e w3 ⟨L1, cl1, T1, tc1, rfl, hb, hE, HM10, HT10⟩; have K3 := Lib.hid hE; have HT1 := Lib.hid HT10; have G3 := Lib.hid (below_step G2.out hb); have HM1 := Lib.hid HM10; clear hb hE HM10 HT10 K2 G2; have K3b := Lib.hid (K3.out.boxg 29 #[.slice none 0 0, .bool false, .int .i64 0, .slice none 0 0] w3.heap.size rfl); have hz3 : w.heap.size ≤ w3.heap.size := G3.out.size; have G3b := Lib.hid (G3.out.alloc hz3 (.cells #[.slice none 0 0, .bool false, .int .i64 0, .slice none 0 0] 29)); clear K3 G3)
      | (refine at_store 29 (.tmp 9) (.tmp 47) (by rfl) ?_; refine wpList_put (by rfl) 29 (.tmp 9) (.tmp 47) (by rfl) w3.heap.size 0 (.agg #[.slice L1 nl1 cl1, .bool g1, .int .i64 N1, .slice T1 nt1 tc1]) (by rfl) (by rfl) 29 #[.slice none 0 0, .bool false, .int .i64 0, .slice none 0 0] #[.slice L1 nl1 cl1, .bool g1, .int .i64 N1, .slice T1 nt1 tc1] (K3b.out.row 0 rfl) (by simp [Value.cells]) (by kernel_rfl) infoc_U (by kernel_rfl) ?_; intro w4 hrow hoth hz hbl; have K4 := Lib.hid (K3b.out.turn 0 rfl hrow hoth hz); have G4 := Lib.hid (hbl _ _ (by omega) G3b.out); clear hrow hoth hz hbl K3b G3b)
      | (refine at_load 24 (.tmp 62) (by rfl) ?_; refine wpList_part (by rfl) 24 (.tmp 62) (by rfl) w3.heap.size 2 (by rfl) 29 #[.slice L1 nl1 cl1, .bool g1, .int .i64 N1, .slice T1 nt1 tc1] #[.int .i64 N1, .slice T1 nt1 tc1] _ (K4.out.row 0 rfl) (part2 (by rfl) (by rfl)) Tryd.underlying24 (by rfl) infoc_T ?_)
      | (go_at_call 7; (with_reducible refine (HR1.out _ _ _ (K4.out.fs (A := T1) (n := nt1) (xs := X1) (by simp))).mono ?_); rintro e w5 ⟨rfl, hb⟩; have K5 := Lib.hid (K4.out.on hb); have G5 := Lib.hid (below_step G4.out hb); clear hb K4 G4)
      | (refine at_load 24 (.tmp 67) (by rfl) ?_; refine wpList_part (by rfl) 24 (.tmp 67) (by rfl) w3.heap.size 2 (by rfl) 29 #[.slice L1 nl1 cl1, .bool g1, .int .i64 N1, .slice T1 nt1 tc1] #[.int .i64 N1, .slice T1 nt1 tc1] _ (K5.out.row 0 rfl) (part2 (by rfl) (by rfl)) Tryd.underlying24 (by rfl) infoc_T ?_)
      | (go_at_call 9; (with_reducible refine (b_call (A := T1) (n := nt1) (c := tc1) (LA := (some ⟨qb, ob, none⟩)) (ln := nb) (lc := cb) _ HV2.out K5.out (by simp) HCB.out.1 HCB.out.2 (by simp) HT1.out (by simp) (by simp) (by simp) hF1.out (by omega)).mono ?_); rintro e w6 ⟨L2, cl2, T2, tc2, rfl, hb, hE, HM20, HT20⟩; have K6 := Lib.hid hE; have HT2 := Lib.hid HT20; have G6 := Lib.hid (below_step G5.out hb); have HM2 := Lib.hid HM20; clear hb hE HM20 HT20 K5 G5; have K6b := Lib.hid (K6.out.boxg 29 #[.slice none 0 0, .bool false, .int .i64 0, .slice none 0 0] w6.heap.size rfl); have hz6 : w.heap.size ≤ w6.heap.size := G6.out.size; have G6b := Lib.hid (G6.out.alloc hz6 (.cells #[.slice none 0 0, .bool false, .int .i64 0, .slice none 0 0] 29)); clear K6 G6)
      | (refine at_store 29 (.tmp 11) (.tmp 72) (by rfl) ?_; refine wpList_put (by rfl) 29 (.tmp 11) (.tmp 72) (by rfl) w6.heap.size 0 (.agg #[.slice L2 nl2 cl2, .bool g2, .int .i64 N2, .slice T2 nt2 tc2]) (by rfl) (by rfl) 29 #[.slice none 0 0, .bool false, .int .i64 0, .slice none 0 0] #[.slice L2 nl2 cl2, .bool g2, .int .i64 N2, .slice T2 nt2 tc2] (K6b.out.row 0 rfl) (by simp [Value.cells]) (by kernel_rfl) infoc_U (by kernel_rfl) ?_; intro w7 hrow hoth hz hbl; have K7 := Lib.hid (K6b.out.turn 0 rfl hrow hoth hz); have G7 := Lib.hid (hbl _ _ (by omega) G6b.out); clear hrow hoth hz hbl K6b G6b; have cb0 := first_cell (K7.out.bs (A := (some ⟨qb, ob, none⟩)) (n := nb) (xs := (x0 :: bs)) (by simp)); (try have e1 := E1.out); (try have e2 := E2.out))
      | (refine at_load 4 (.tmp 90) (by rfl) ?_; refine wpListG_get (by rfl) 4 (.tmp 90) (by rfl) w3.heap.size 1 (by rfl) 29 #[.slice L1 nl1 cl1, .bool g1, .int .i64 N1, .slice T1 nt1 tc1] (.bool g1) _ (K7.out.row 1 rfl) (by rfl) Tryd.underlying4 (by rfl) ?_)
      | (refine at_load 4 (.tmp 94) (by rfl) ?_; refine wpListG_get (by rfl) 4 (.tmp 94) (by rfl) w6.heap.size 1 (by rfl) 29 #[.slice L2 nl2 cl2, .bool g2, .int .i64 N2, .slice T2 nt2 tc2] (.bool g2) _ (K7.out.row 0 rfl) (by rfl) Tryd.underlying4 (by rfl) ?_)
      | (go_at_call 8; (with_reducible refine (l_wakes _ K7.out (by simp) (by simp) (by simp)).mono ?_); rintro e w8 ⟨rfl, hb⟩; have K8 := Lib.hid (K7.out.on hb); have G8 := Lib.hid (below_step G7.out hb); clear hb K7 G7))
    go_ret
    exact ⟨rfl, G8.out⟩
set_option maxRecDepth 100000 in
set_option maxHeartbeats 8000000 in
theorem up_e1 (M most : Int) (A : Option Addr) (n c : Nat) (xs : List Fd) (Aa : Option Addr) (na ca : Nat) (a : List UInt8) (qb ob nb cb : Nat) (x0 : UInt8) (bs : List UInt8) (s1 s2 : Bool) (w : World) (hV : EnvF w [bF (some ⟨qb, ob, none⟩) nb (x0 :: bs), bF Aa na a, fF A n xs, stF, rwF, mvF] []) (HG : GG M A n c xs false) (HRT : GRt M A n c xs true) (h0 : 0 ≤ most) (h1 : most ≤ 4096) (hna : na ≤ 1000) (hnb : nb ≤ 1000) (hca : na ≤ ca) (hcb : nb ≤ cb) (hNa : Aa = none → ca = 0) (hNb : ((some ⟨qb, ob, none⟩) : Option Addr) = none → cb = 0) (hN : A = none → c = 0) (hF : full xs ≤ 20000) {L1l L2l : List Fd} {nl1 nl2 nt1 nt2 : Nat} {N1 N2 : Int} {X1 X2 : List Fd} {E2 : Int} {nl3 nt3 : Nat} {L3l X3 : List Fd} {g3 : Bool} {N3 : Int} (HV1 : Hid (BK M most xs a 0 nl1 L1l false N1 nt1 X1)) (HV2 : Hid (BK N1 most X1 (x0 :: bs) E2 nl2 L2l false N2 nt2 X2)) (HR1 : GR1 N1 nt1 X1) (hF1 : Hid (full X1 ≤ 20000)) (HV3 : BK M most xs (a ++ (x0 :: bs)) E2 nl3 L3l g3 N3 nt3 X3) (he : (E2 != 0) = true) (hal : a.length ≤ 4000) (hbl : ((x0 :: bs) : List UInt8).length ≤ 4000) (HC : s1 = false ∨ (s1 = true ∧ s2 = false)) (hb0 : 0 < nb) (hb1 : decide ((0 : Int) < (nb : Int)) = true) (hb2 : decide (0 < nb) = true) (t1 : decide ((32 : Int) ≤ (x0.toNat : Int)) = s1) (t1' : decide (32 ≤ x0.toNat) = s1) (t2 : decide ((x0.toNat : Int) < (64 : Int)) = s2) (t2' : decide (x0.toNat < 64) = s2) :
    Calls Tryd.prog 3 #[.agg #[.int .i64 M, .slice A n c], .int .i64 most, .slice Aa na ca, .slice (some ⟨qb, ob, none⟩) nb cb] w fun e w' => e = .returned (.bool true) ∧ Below w.heap.size w w' := by
  rcases HC with rfl | ⟨rfl, rfl⟩
  all_goals
    have K0 := Lib.hid ((hV).boxg 24 #[.int .i64 M, .slice A n c] w.heap.size (by simp))
    have G0 := Lib.hid ((Below.refl w.heap.size w).alloc (by simp) (.cells #[.int .i64 M, .slice A n c] 24))
    have dd0 : decide (most < 0) = false := decide_eq_false (by omega)
    have dd1 : decide (4096 < most) = false := decide_eq_false (by omega)
    have dd2 : decide ((1000 : Int) < (na : Int)) = false := decide_eq_false (by omega)
    have dd3 : decide ((1000 : Int) < (nb : Int)) = false := decide_eq_false (by omega)
    have hF' := Lib.hid hF
    have hN' := Lib.hid hN
    have HCA := Lib.hid (And.intro hca hNa)
    have HCB := Lib.hid (And.intro hcb hNb)
    clear hF hN hca hcb hNa hNb
    have HV3' := Lib.hid HV3
    clear HV3
    clear hV
    go_enter Tryd.func3, Tryd.ntmps3
    go_wp2_with (first
      | go_skip
      | (refine at_load 24 (.tmp 4) (by rfl) ?_; refine wpListG_row (by rfl) 24 (.tmp 4) (by rfl) w.heap.size (by rfl) 24 #[.int .i64 M, .slice A n c] _ (K0.out.row 0 rfl) Tryd.underlying24 (by rfl) infoc_T ?_)
      | (go_at_call 6; (with_reducible refine (HG.out _ (K0.out.fs (A := A) (n := n) (xs := xs) (by simp))).mono ?_); rintro e w1 ⟨rfl, hb⟩; have K1 := Lib.hid (K0.out.on hb); have G1 := Lib.hid (below_step G0.out hb); clear hb K0 G0)
      | (refine at_load 24 (.tmp 4) (by rfl) ?_; refine wpListG_row (by rfl) 24 (.tmp 4) (by rfl) w.heap.size (by rfl) 24 #[.int .i64 M, .slice A n c] _ (K1.out.row 0 rfl) Tryd.underlying24 (by rfl) infoc_T ?_)
      | (go_at_call 7; (with_reducible refine (HRT.out _ (K1.out.fs (A := A) (n := n) (xs := xs) (by simp))).mono ?_); rintro e w2 ⟨rfl, hb⟩; have K2 := Lib.hid (K1.out.on hb); have G2 := Lib.hid (below_step G1.out hb); clear hb K1 G1)
      | (refine at_load 24 (.tmp 4) (by rfl) ?_; refine wpListG_row (by rfl) 24 (.tmp 4) (by rfl) w.heap.size (by rfl) 24 #[.int .i64 M, .slice A n c] _ (K2.out.row 0 rfl) Tryd.underlying24 (by rfl) infoc_T ?_)
      | (go_at_call 9; (with_reducible refine (b_call (A := A) (n := n) (c := c) (LA := Aa) (ln := na) (lc := ca) _ HV1.out K2.out (by simp) HCA.out.1 HCA.out.2 (by simp) hN'.out (by simp) (by simp) (by simp) hF'.out (by omega)).mono ?_); rintro e w3 ⟨L1, cl1, T1, tc1, rfl, hb, hE, HM10, HT10⟩; have K3 := Lib.hid hE; have HT1 := Lib.hid HT10; have G3 := Lib.hid (below_step G2.out hb); have HM1 := Lib.hid HM10; clear hb hE HM10 HT10 K2 G2; have K3b := Lib.hid (K3.out.boxg 29 #[.slice none 0 0, .bool false, .int .i64 0, .slice none 0 0] w3.heap.size rfl); have hz3 : w.heap.size ≤ w3.heap.size := G3.out.size; have G3b := Lib.hid (G3.out.alloc hz3 (.cells #[.slice none 0 0, .bool false, .int .i64 0, .slice none 0 0] 29)); clear K3 G3)
      | (refine at_store 29 (.tmp 9) (.tmp 47) (by rfl) ?_; refine wpList_put (by rfl) 29 (.tmp 9) (.tmp 47) (by rfl) w3.heap.size 0 (.agg #[.slice L1 nl1 cl1, .bool false, .int .i64 N1, .slice T1 nt1 tc1]) (by rfl) (by rfl) 29 #[.slice none 0 0, .bool false, .int .i64 0, .slice none 0 0] #[.slice L1 nl1 cl1, .bool false, .int .i64 N1, .slice T1 nt1 tc1] (K3b.out.row 0 rfl) (by simp [Value.cells]) (by kernel_rfl) infoc_U (by kernel_rfl) ?_; intro w4 hrow hoth hz hbl; have K4 := Lib.hid (K3b.out.turn 0 rfl hrow hoth hz); have G4 := Lib.hid (hbl _ _ (by omega) G3b.out); clear hrow hoth hz hbl K3b G3b)
      | (refine at_load 24 (.tmp 62) (by rfl) ?_; refine wpList_part (by rfl) 24 (.tmp 62) (by rfl) w3.heap.size 2 (by rfl) 29 #[.slice L1 nl1 cl1, .bool false, .int .i64 N1, .slice T1 nt1 tc1] #[.int .i64 N1, .slice T1 nt1 tc1] _ (K4.out.row 0 rfl) (part2 (by rfl) (by rfl)) Tryd.underlying24 (by rfl) infoc_T ?_)
      | (go_at_call 7; (with_reducible refine (HR1.out _ _ _ (K4.out.fs (A := T1) (n := nt1) (xs := X1) (by simp))).mono ?_); rintro e w5 ⟨rfl, hb⟩; have K5 := Lib.hid (K4.out.on hb); have G5 := Lib.hid (below_step G4.out hb); clear hb K4 G4)
      | (refine at_load 24 (.tmp 67) (by rfl) ?_; refine wpList_part (by rfl) 24 (.tmp 67) (by rfl) w3.heap.size 2 (by rfl) 29 #[.slice L1 nl1 cl1, .bool false, .int .i64 N1, .slice T1 nt1 tc1] #[.int .i64 N1, .slice T1 nt1 tc1] _ (K5.out.row 0 rfl) (part2 (by rfl) (by rfl)) Tryd.underlying24 (by rfl) infoc_T ?_)
      | (go_at_call 9; (with_reducible refine (b_call (A := T1) (n := nt1) (c := tc1) (LA := (some ⟨qb, ob, none⟩)) (ln := nb) (lc := cb) _ HV2.out K5.out (by simp) HCB.out.1 HCB.out.2 (by simp) HT1.out (by simp) (by simp) (by simp) hF1.out (by omega)).mono ?_); rintro e w6 ⟨L2, cl2, T2, tc2, rfl, hb, hE, HM20, HT20⟩; have K6 := Lib.hid hE; have HT2 := Lib.hid HT20; have G6 := Lib.hid (below_step G5.out hb); have HM2 := Lib.hid HM20; clear hb hE HM20 HT20 K5 G5; have K6b := Lib.hid (K6.out.boxg 29 #[.slice none 0 0, .bool false, .int .i64 0, .slice none 0 0] w6.heap.size rfl); have hz6 : w.heap.size ≤ w6.heap.size := G6.out.size; have G6b := Lib.hid (G6.out.alloc hz6 (.cells #[.slice none 0 0, .bool false, .int .i64 0, .slice none 0 0] 29)); clear K6 G6)
      | (refine at_store 29 (.tmp 11) (.tmp 72) (by rfl) ?_; refine wpList_put (by rfl) 29 (.tmp 11) (.tmp 72) (by rfl) w6.heap.size 0 (.agg #[.slice L2 nl2 cl2, .bool false, .int .i64 N2, .slice T2 nt2 tc2]) (by rfl) (by rfl) 29 #[.slice none 0 0, .bool false, .int .i64 0, .slice none 0 0] #[.slice L2 nl2 cl2, .bool false, .int .i64 N2, .slice T2 nt2 tc2] (K6b.out.row 0 rfl) (by simp [Value.cells]) (by kernel_rfl) infoc_U (by kernel_rfl) ?_; intro w7 hrow hoth hz hbl; have K7 := Lib.hid (K6b.out.turn 0 rfl hrow hoth hz); have G7 := Lib.hid (hbl _ _ (by omega) G6b.out); clear hrow hoth hz hbl K6b G6b; have cb0 := first_cell (K7.out.bs (A := (some ⟨qb, ob, none⟩)) (n := nb) (xs := (x0 :: bs)) (by simp)))
      | (refine at_load 4 (.tmp 90) (by rfl) ?_; refine wpListG_get (by rfl) 4 (.tmp 90) (by rfl) w3.heap.size 1 (by rfl) 29 #[.slice L1 nl1 cl1, .bool false, .int .i64 N1, .slice T1 nt1 tc1] (.bool false) _ (K7.out.row 1 rfl) (by rfl) Tryd.underlying4 (by rfl) ?_)
      | (refine at_load 4 (.tmp 94) (by rfl) ?_; refine wpListG_get (by rfl) 4 (.tmp 94) (by rfl) w6.heap.size 1 (by rfl) 29 #[.slice L2 nl2 cl2, .bool false, .int .i64 N2, .slice T2 nt2 tc2] (.bool false) _ (K7.out.row 0 rfl) (by rfl) Tryd.underlying4 (by rfl) ?_))
    refine p11_region (A1 := Aa) (n1 := na) (A2 := (some ⟨qb, ob, none⟩)) (n2 := nb) (a := a) (b := (x0 :: bs)) (xs := xs) (by simp) (by simp) (by simp) (by simp) hN'.out hF'.out (List.mem_of_getElem? (i := 2) rfl) (by simp) HCA.out.2 (by simp) HCB.out.2 hal hbl (by omega) (by omega) HV3'.out (fun gX L3 T3 cl3 tc3 _ _ _ w40 K40' hcl htc hb => ?_) K7.out
    have K40 := Lib.hid K40'
    have G40 := Lib.hid (below_step G7.out.drew hb)
    clear K40' hcl htc hb K7 G7
    go_wp2_with (first
      | go_skip
      | (go_at_call 8; (with_reducible refine (l_wakes _ K40.out (by simp) (by simp) (by simp)).mono ?_); rintro e w41 ⟨rfl, hb⟩; have K41 := Lib.hid (K40.out.on hb); have G41 := Lib.hid (below_step G40.out hb); clear hb K40 G40))
    go_ret
    exact ⟨rfl, G41.out⟩
set_option maxRecDepth 100000 in
set_option maxHeartbeats 8000000 in
theorem up_o1 (M most : Int) (A : Option Addr) (n c : Nat) (xs : List Fd) (Aa : Option Addr) (na ca : Nat) (a : List UInt8) (qb ob nb cb : Nat) (x0 : UInt8) (bs : List UInt8) (s1 s2 : Bool) (w : World) (hV : EnvF w [bF (some ⟨qb, ob, none⟩) nb (x0 :: bs), bF Aa na a, fF A n xs, stF, rwF, mvF] []) (HG : GG M A n c xs false) (HRT : GRt M A n c xs true) (h0 : 0 ≤ most) (h1 : most ≤ 4096) (hna : na ≤ 1000) (hnb : nb ≤ 1000) (hca : na ≤ ca) (hcb : nb ≤ cb) (hNa : Aa = none → ca = 0) (hNb : ((some ⟨qb, ob, none⟩) : Option Addr) = none → cb = 0) (hN : A = none → c = 0) (hF : full xs ≤ 20000) {L1l L2l : List Fd} {nl1 nl2 nt1 nt2 : Nat} {N1 N2 : Int} {X1 X2 : List Fd} {nl3 n3 sb : Nat} {L3l : List Fd} (HV1 : Hid (BK M most xs a 0 nl1 L1l false N1 nt1 X1)) (HV2 : Hid (BK N1 most X1 (x0 :: bs) 0 nl2 L2l false N2 nt2 X2)) (HR1 : GR1 N1 nt1 X1) (hF1 : Hid (full X1 ≤ 20000)) (g3 : Bool) (HV3 : BK M most xs (a ++ (x0 :: bs)) 0 nl3 L3l g3 N2 nt2 X2) (HSB : Hid (∀ (A0 : Option Addr) (c0 : Nat) (w0 : World), Fs w0 w0.heap.size A0 n3 (L1l ++ L2l) → Calls Tryd.prog 10 #[.slice A0 n3 c0] w0 fun e w' => e = .returned (.int .i64 (sb : Int)) ∧ Below w0.heap.size w0 w')) (hg3 : decide ((2000 : Int) < (sb : Int)) = g3) (HL3 : Hid (g3 = false → L3l = L1l ++ L2l)) (h4a : Hid (L1l.length ≤ 4000)) (h4b : Hid (nl2 ≤ 4000)) (h4c : Hid (nl1 ≤ 4000)) (hn3 : Hid ((L1l ++ L2l).length = n3)) (hnt : Hid (nt2 ≤ 1000000)) (hnl : Hid (nl3 ≤ 1000000)) (hsm : Hid (sameB N2 X2 N2 X2 = true)) (hal : a.length ≤ 4000) (hbl : ((x0 :: bs) : List UInt8).length ≤ 4000) (HC : s1 = false ∨ (s1 = true ∧ s2 = false)) (hb0 : 0 < nb) (hb1 : decide ((0 : Int) < (nb : Int)) = true) (hb2 : decide (0 < nb) = true) (t1 : decide ((32 : Int) ≤ (x0.toNat : Int)) = s1) (t1' : decide (32 ≤ x0.toNat) = s1) (t2 : decide ((x0.toNat : Int) < (64 : Int)) = s2) (t2' : decide (x0.toNat < 64) = s2) :
    Calls Tryd.prog 3 #[.agg #[.int .i64 M, .slice A n c], .int .i64 most, .slice Aa na ca, .slice (some ⟨qb, ob, none⟩) nb cb] w fun e w' => e = .returned (.bool true) ∧ Below w.heap.size w w' := by
  rcases HC with rfl | ⟨rfl, rfl⟩
  all_goals rcases Bool.eq_false_or_eq_true g3 with e3 | e3
  all_goals rw [e3] at hg3
  all_goals
    have K0 := Lib.hid ((hV).boxg 24 #[.int .i64 M, .slice A n c] w.heap.size (by simp))
    have G0 := Lib.hid ((Below.refl w.heap.size w).alloc (by simp) (.cells #[.int .i64 M, .slice A n c] 24))
    have dd0 : decide (most < 0) = false := decide_eq_false (by omega)
    have dd1 : decide (4096 < most) = false := decide_eq_false (by omega)
    have dd2 : decide ((1000 : Int) < (na : Int)) = false := decide_eq_false (by omega)
    have dd3 : decide ((1000 : Int) < (nb : Int)) = false := decide_eq_false (by omega)
    have hF' := Lib.hid hF
    have hN' := Lib.hid hN
    have HCA := Lib.hid (And.intro hca hNa)
    have HCB := Lib.hid (And.intro hcb hNb)
    clear hF hN hca hcb hNa hNb
    have HV3' := Lib.hid HV3
    clear HV3
    clear hV
    go_enter Tryd.func3, Tryd.ntmps3
    go_wp2_with (first
      | go_skip
      | (refine at_load 24 (.tmp 4) (by rfl) ?_; refine wpListG_row (by rfl) 24 (.tmp 4) (by rfl) w.heap.size (by rfl) 24 #[.int .i64 M, .slice A n c] _ (K0.out.row 0 rfl) Tryd.underlying24 (by rfl) infoc_T ?_)
      | (go_at_call 6; (with_reducible refine (HG.out _ (K0.out.fs (A := A) (n := n) (xs := xs) (by simp))).mono ?_); rintro e w1 ⟨rfl, hb⟩; have K1 := Lib.hid (K0.out.on hb); have G1 := Lib.hid (below_step G0.out hb); clear hb K0 G0)
      | (refine at_load 24 (.tmp 4) (by rfl) ?_; refine wpListG_row (by rfl) 24 (.tmp 4) (by rfl) w.heap.size (by rfl) 24 #[.int .i64 M, .slice A n c] _ (K1.out.row 0 rfl) Tryd.underlying24 (by rfl) infoc_T ?_)
      | (go_at_call 7; (with_reducible refine (HRT.out _ (K1.out.fs (A := A) (n := n) (xs := xs) (by simp))).mono ?_); rintro e w2 ⟨rfl, hb⟩; have K2 := Lib.hid (K1.out.on hb); have G2 := Lib.hid (below_step G1.out hb); clear hb K1 G1)
      | (refine at_load 24 (.tmp 4) (by rfl) ?_; refine wpListG_row (by rfl) 24 (.tmp 4) (by rfl) w.heap.size (by rfl) 24 #[.int .i64 M, .slice A n c] _ (K2.out.row 0 rfl) Tryd.underlying24 (by rfl) infoc_T ?_)
      | (go_at_call 9; (with_reducible refine (b_call (A := A) (n := n) (c := c) (LA := Aa) (ln := na) (lc := ca) _ HV1.out K2.out (by simp) HCA.out.1 HCA.out.2 (by simp) hN'.out (by simp) (by simp) (by simp) hF'.out (by omega)).mono ?_); rintro e w3 ⟨L1, cl1, T1, tc1, rfl, hb, hE, HM10, HT10⟩; have K3 := Lib.hid hE; have HT1 := Lib.hid HT10; have G3 := Lib.hid (below_step G2.out hb); have HM1 := Lib.hid HM10; clear hb hE HM10 HT10 K2 G2; have K3b := Lib.hid (K3.out.boxg 29 #[.slice none 0 0, .bool false, .int .i64 0, .slice none 0 0] w3.heap.size rfl); have hz3 : w.heap.size ≤ w3.heap.size := G3.out.size; have G3b := Lib.hid (G3.out.alloc hz3 (.cells #[.slice none 0 0, .bool false, .int .i64 0, .slice none 0 0] 29)); clear K3 G3)
      | (refine at_store 29 (.tmp 9) (.tmp 47) (by rfl) ?_; refine wpList_put (by rfl) 29 (.tmp 9) (.tmp 47) (by rfl) w3.heap.size 0 (.agg #[.slice L1 nl1 cl1, .bool false, .int .i64 N1, .slice T1 nt1 tc1]) (by rfl) (by rfl) 29 #[.slice none 0 0, .bool false, .int .i64 0, .slice none 0 0] #[.slice L1 nl1 cl1, .bool false, .int .i64 N1, .slice T1 nt1 tc1] (K3b.out.row 0 rfl) (by simp [Value.cells]) (by kernel_rfl) infoc_U (by kernel_rfl) ?_; intro w4 hrow hoth hz hbl; have K4 := Lib.hid (K3b.out.turn 0 rfl hrow hoth hz); have G4 := Lib.hid (hbl _ _ (by omega) G3b.out); clear hrow hoth hz hbl K3b G3b)
      | (refine at_load 24 (.tmp 62) (by rfl) ?_; refine wpList_part (by rfl) 24 (.tmp 62) (by rfl) w3.heap.size 2 (by rfl) 29 #[.slice L1 nl1 cl1, .bool false, .int .i64 N1, .slice T1 nt1 tc1] #[.int .i64 N1, .slice T1 nt1 tc1] _ (K4.out.row 0 rfl) (part2 (by rfl) (by rfl)) Tryd.underlying24 (by rfl) infoc_T ?_)
      | (go_at_call 7; (with_reducible refine (HR1.out _ _ _ (K4.out.fs (A := T1) (n := nt1) (xs := X1) (by simp))).mono ?_); rintro e w5 ⟨rfl, hb⟩; have K5 := Lib.hid (K4.out.on hb); have G5 := Lib.hid (below_step G4.out hb); clear hb K4 G4)
      | (refine at_load 24 (.tmp 67) (by rfl) ?_; refine wpList_part (by rfl) 24 (.tmp 67) (by rfl) w3.heap.size 2 (by rfl) 29 #[.slice L1 nl1 cl1, .bool false, .int .i64 N1, .slice T1 nt1 tc1] #[.int .i64 N1, .slice T1 nt1 tc1] _ (K5.out.row 0 rfl) (part2 (by rfl) (by rfl)) Tryd.underlying24 (by rfl) infoc_T ?_)
      | (go_at_call 9; (with_reducible refine (b_call (A := T1) (n := nt1) (c := tc1) (LA := (some ⟨qb, ob, none⟩)) (ln := nb) (lc := cb) _ HV2.out K5.out (by simp) HCB.out.1 HCB.out.2 (by simp) HT1.out (by simp) (by simp) (by simp) hF1.out (by omega)).mono ?_); rintro e w6 ⟨L2, cl2, T2, tc2, rfl, hb, hE, HM20, HT20⟩; have K6 := Lib.hid hE; have HT2 := Lib.hid HT20; have G6 := Lib.hid (below_step G5.out hb); have HM2 := Lib.hid HM20; clear hb hE HM20 HT20 K5 G5; have K6b := Lib.hid (K6.out.boxg 29 #[.slice none 0 0, .bool false, .int .i64 0, .slice none 0 0] w6.heap.size rfl); have hz6 : w.heap.size ≤ w6.heap.size := G6.out.size; have G6b := Lib.hid (G6.out.alloc hz6 (.cells #[.slice none 0 0, .bool false, .int .i64 0, .slice none 0 0] 29)); clear K6 G6)
      | (refine at_store 29 (.tmp 11) (.tmp 72) (by rfl) ?_; refine wpList_put (by rfl) 29 (.tmp 11) (.tmp 72) (by rfl) w6.heap.size 0 (.agg #[.slice L2 nl2 cl2, .bool false, .int .i64 N2, .slice T2 nt2 tc2]) (by rfl) (by rfl) 29 #[.slice none 0 0, .bool false, .int .i64 0, .slice none 0 0] #[.slice L2 nl2 cl2, .bool false, .int .i64 N2, .slice T2 nt2 tc2] (K6b.out.row 0 rfl) (by simp [Value.cells]) (by kernel_rfl) infoc_U (by kernel_rfl) ?_; intro w7 hrow hoth hz hbl; have K7 := Lib.hid (K6b.out.turn 0 rfl hrow hoth hz); have G7 := Lib.hid (hbl _ _ (by omega) G6b.out); clear hrow hoth hz hbl K6b G6b; have cb0 := first_cell (K7.out.bs (A := (some ⟨qb, ob, none⟩)) (n := nb) (xs := (x0 :: bs)) (by simp)))
      | (refine at_load 4 (.tmp 90) (by rfl) ?_; refine wpListG_get (by rfl) 4 (.tmp 90) (by rfl) w3.heap.size 1 (by rfl) 29 #[.slice L1 nl1 cl1, .bool false, .int .i64 N1, .slice T1 nt1 tc1] (.bool false) _ (K7.out.row 1 rfl) (by rfl) Tryd.underlying4 (by rfl) ?_)
      | (refine at_load 4 (.tmp 94) (by rfl) ?_; refine wpListG_get (by rfl) 4 (.tmp 94) (by rfl) w6.heap.size 1 (by rfl) 29 #[.slice L2 nl2 cl2, .bool false, .int .i64 N2, .slice T2 nt2 tc2] (.bool false) _ (K7.out.row 0 rfl) (by rfl) Tryd.underlying4 (by rfl) ?_))
    refine p11_region (A1 := Aa) (n1 := na) (A2 := (some ⟨qb, ob, none⟩)) (n2 := nb) (a := a) (b := (x0 :: bs)) (xs := xs) (by simp) (by simp) (by simp) (by simp) hN'.out hF'.out (List.mem_of_getElem? (i := 2) rfl) (by simp) HCA.out.2 (by simp) HCB.out.2 hal hbl (by omega) (by omega) HV3'.out (fun gX L3 T3 cl3 tc3 _ _ _ w40 K40' hcl htc hb => ?_) K7.out
    have K40 := Lib.hid K40'
    have G40 := Lib.hid (below_step G7.out.drew hb)
    clear K40' hcl htc hb K7 G7
    go_wp2
    refine p14_region (L1 := L1l) (L2 := L2l) (List.mem_of_getElem? (i := 2) rfl) (List.mem_of_getElem? (i := 1) rfl) (by simp) HM1.out (by simp) HM2.out h4a.out h4b.out h4c.out hn3.out (fun A3 c3 _ _ w50 K50' hN3 hb => ?_) K40.out
    have K50 := Lib.hid K50'
    have G50 := Lib.hid (below_step G40.out.drew hb)
    clear K50' hN3 hb K40 G40
    go_wp2_with (first
      | go_skip
      | (go_at_call 10; (with_reducible refine (HSB.out _ _ _ (K50.out.fs (A := A3) (n := n3) (xs := (L1l ++ L2l)) (by simp))).mono ?_); rintro e w51 ⟨rfl, hb⟩; have K51 := Lib.hid (K50.out.on hb); have G51 := Lib.hid (below_step G50.out hb); clear hb K50 G50)
      | (refine at_load 4 (.tmp 131) (by rfl) ?_; refine wpListG_get (by rfl) 4 (.tmp 131) (by rfl) gX 1 (by rfl) 29 #[.slice L3 nl3 cl3, .bool g3, .int .i64 N2, .slice T3 nt2 tc3] (.bool g3) _ (K51.out.row 0 rfl) (by rfl) Tryd.underlying4 (by rfl) ?_)
      | (refine at_load 4 (.tmp 143) (by rfl) ?_; refine wpListG_get (by rfl) 4 (.tmp 143) (by rfl) gX 1 (by rfl) 29 #[.slice L3 nl3 cl3, .bool g3, .int .i64 N2, .slice T3 nt2 tc3] (.bool g3) _ (K51.out.row 0 rfl) (by rfl) Tryd.underlying4 (by rfl) ?_)
      | (refine at_load 24 (.tmp 134) (by rfl) ?_; refine wpList_part (by rfl) 24 (.tmp 134) (by rfl) gX 2 (by rfl) 29 #[.slice L3 nl3 cl3, .bool g3, .int .i64 N2, .slice T3 nt2 tc3] #[.int .i64 N2, .slice T3 nt2 tc3] _ (K51.out.row 0 rfl) (part2 (by rfl) (by rfl)) Tryd.underlying24 (by rfl) infoc_T ?_)
      | (refine at_load 24 (.tmp 136) (by rfl) ?_; refine wpList_part (by rfl) 24 (.tmp 136) (by rfl) w6.heap.size 2 (by rfl) 29 #[.slice L2 nl2 cl2, .bool false, .int .i64 N2, .slice T2 nt2 tc2] #[.int .i64 N2, .slice T2 nt2 tc2] _ (K51.out.row 1 rfl) (part2 (by rfl) (by rfl)) Tryd.underlying24 (by rfl) infoc_T ?_)
      | (go_at_call 11; (with_reducible refine (l_same (b := true) (A := T3) (n := nt2) (xs := X2) (A' := T2) (n' := nt2) (ys := X2) _ K51.out (by simp) (by simp) hnt.out hsm.out).mono ?_); rintro e w60 ⟨rfl, hb⟩; have K60 := Lib.hid (K51.out.on hb); have G60 := Lib.hid (below_step G51.out hb); clear hb K51 G51)
      | (refine at_load 22 (.tmp 147) (by rfl) ?_; refine wpListG_get (by rfl) 22 (.tmp 147) (by rfl) gX 0 (by rfl) 29 #[.slice L3 nl3 cl3, .bool g3, .int .i64 N2, .slice T3 nt2 tc3] (.slice L3 nl3 cl3) _ (K51.out.row 0 rfl) (by rfl) Tryd.underlying22 (by rfl) ?_)
      | (go_at_call 12; (with_reducible refine (l_fields (b := true) (A := L3) (n := nl3) (xs := L3l) (A' := A3) (n' := n3) (ys := (L1l ++ L2l)) _ K51.out (by simp) (by simp) hnl.out (decide_eq_true (HL3.out e3))).mono ?_); rintro e w70 ⟨rfl, hb⟩; have K70 := Lib.hid (K51.out.on hb); have G70 := Lib.hid (below_step G51.out hb); clear hb K51 G51)
      | (refine at_load 24 (.tmp 153) (by rfl) ?_; refine wpList_part (by rfl) 24 (.tmp 153) (by rfl) gX 2 (by rfl) 29 #[.slice L3 nl3 cl3, .bool g3, .int .i64 N2, .slice T3 nt2 tc3] #[.int .i64 N2, .slice T3 nt2 tc3] _ (K70.out.row 0 rfl) (part2 (by rfl) (by rfl)) Tryd.underlying24 (by rfl) infoc_T ?_)
      | (refine at_load 24 (.tmp 155) (by rfl) ?_; refine wpList_part (by rfl) 24 (.tmp 155) (by rfl) w6.heap.size 2 (by rfl) 29 #[.slice L2 nl2 cl2, .bool false, .int .i64 N2, .slice T2 nt2 tc2] #[.int .i64 N2, .slice T2 nt2 tc2] _ (K70.out.row 1 rfl) (part2 (by rfl) (by rfl)) Tryd.underlying24 (by rfl) infoc_T ?_)
      | (go_at_call 11; (with_reducible refine (l_same (b := true) (A := T3) (n := nt2) (xs := X2) (A' := T2) (n' := nt2) (ys := X2) _ K70.out (by simp) (by simp) hnt.out hsm.out).mono ?_); rintro e w60 ⟨rfl, hb⟩; have K60 := Lib.hid (K70.out.on hb); have G60 := Lib.hid (below_step G70.out hb); clear hb K70 G70)
      | (go_at_call 8; (with_reducible refine (l_wakes _ K60.out (by simp) (by simp) (by simp)).mono ?_); rintro e w61 ⟨rfl, hb⟩; have K61 := Lib.hid (K60.out.on hb); have G61 := Lib.hid (below_step G60.out hb); clear hb K60 G60))
    go_ret
    exact ⟨rfl, G61.out⟩
theorem up_all0 (M most : Int) (A : Option Addr) (n c : Nat) (xs : List Fd) (Aa : Option Addr) (na ca : Nat) (a : List UInt8) (Ab : Option Addr) (cb : Nat) (w : World) (hV : EnvF w [bF Ab 0 [], bF Aa na a, fF A n xs, stF, rwF, mvF] []) (HG : GG M A n c xs false) (HRT : GRt M A n c xs true) (hr : rightB M xs = true) (h0 : 0 ≤ most) (h1 : most ≤ 4096) (hna : na ≤ 1000) (hca : na ≤ ca) (hcb : 0 ≤ cb) (hNa : Aa = none → ca = 0) (hNb : (Ab : Option Addr) = none → cb = 0) (hN : A = none → c = 0) (hF : full xs ≤ 15400) (hal : a.length ≤ 1000) (hbl : ([] : List UInt8).length ≤ 1000) (e1 : bE M most xs a = 0) :
    Calls Tryd.prog 3 #[.agg #[.int .i64 M, .slice A n c], .int .i64 most, .slice Aa na ca, .slice Ab 0 cb] w fun e w' => e = .returned (.bool true) ∧ Below w.heap.size w w' := by
  have HV1 : BK M most xs a 0 (bL M most xs a).length (bL M most xs a) (bG M most xs a) (bM M most xs a) (bX M most xs a).length (bX M most xs a) := ⟨e1, rfl, rfl, rfl, rfl, rfl, rfl⟩
  have r1 := b_right e1
  have L1b := bL_full (M := M) (most := most) (xs := xs) (ls := a)
  have D1 : bG M most xs a = false → bL M most xs a = bAll M most xs a := fun h => by
    obtain ⟨y1, y2⟩ := bG_of e1 rfl
    rw [y2] at h
    rw [y1]
    exact keep_all (by have := of_decide_eq_false h; omega)
  obtain ⟨N1, hN1⟩ : ∃ q, bM M most xs a = q := ⟨_, rfl⟩
  obtain ⟨X1, hX1⟩ : ∃ q, bX M most xs a = q := ⟨_, rfl⟩
  rw [hN1, hX1] at HV1 r1
  have bd1 := rt_bd (s := ⟨N1, X1, []⟩) r1
  simp only at bd1
  have HR1 : Hid (∀ (T1 : Option Addr) (tc1 : Nat) (w0 : World), Fs w0 w0.heap.size T1 X1.length X1 → Calls Tryd.prog 7 #[.agg #[.int .i64 N1, .slice T1 X1.length tc1]] w0 fun e w' => e = .returned (.bool true) ∧ Below w0.heap.size w0 w') := Lib.hid fun T1 tc1 w0 h => r1 ▸ r_right N1 T1 X1.length tc1 X1 w0 h (by omega)
  have HV2 := bk_of N1 most X1 ([] : List UInt8)
  have hF1 : full X1 ≤ 20000 := by omega
  by_cases g : bG M most xs a = true
  · exact up_a0 M most A n c xs Aa na ca a Ab cb w hV HG HRT h0 h1 hna hca hcb hNa hNb hN (by omega) (Lib.hid HV1) (Lib.hid HV2) HR1 hF1 (.inl g)
  have g1 : bG M most xs a = false := by simpa using g
  clear g
  by_cases g : bG N1 most X1 ([] : List UInt8) = true
  · exact up_a0 M most A n c xs Aa na ca a Ab cb w hV HG HRT h0 h1 hna hca hcb hNa hNb hN (by omega) (Lib.hid HV1) (Lib.hid HV2) HR1 hF1 (.inr ⟨g1, g⟩)
  have g2 : bG N1 most X1 ([] : List UInt8) = false := by simpa using g
  clear g
  have ho := okA_of (xs := xs) hr h0 h1
  have ho1 := okA_of (xs := X1) r1 h0 h1
  rw [← hN1, ← hX1] at ho1
  obtain ⟨p1, p2, p3⟩ := parts (b := []) ho e1 (.inl rfl) ho1
  rw [hN1, hX1] at p1 p2 p3
  rw [g1] at HV1
  by_cases e2 : bE N1 most X1 ([] : List UInt8) = 0
  · rw [e2] at p1
    obtain ⟨p3, p4⟩ := p3 p1
    have HV2' : BK N1 most X1 ([] : List UInt8) 0 (bL N1 most X1 ([] : List UInt8)).length (bL N1 most X1 ([] : List UInt8)) false (bM N1 most X1 ([] : List UInt8)) (bX N1 most X1 ([] : List UInt8)).length (bX N1 most X1 ([] : List UInt8)) := ⟨e2, rfl, g2, rfl, rfl, rfl, rfl⟩
    have D2 : bL N1 most X1 ([] : List UInt8) = bAll N1 most X1 ([] : List UInt8) := by
      obtain ⟨y1, y2⟩ := bG_of e2 rfl
      rw [y2] at g2
      rw [y1]
      exact keep_all (by have := of_decide_eq_false g2; omega)
    have L2b := bL_full (M := N1) (most := most) (xs := X1) (ls := ([] : List UInt8))
    have r2 := b_right e2
    have bd2 := rt_bd (s := ⟨bM N1 most X1 ([] : List UInt8), bX N1 most X1 ([] : List UInt8), []⟩) r2
    simp only at bd2
    obtain ⟨q1, q2⟩ := bG_of p1 p2
    rw [← D1 g1, ← D2] at q1 q2
    have n1 := full_len (bL M most xs a)
    have n2 := full_len (bL N1 most X1 ([] : List UInt8))
    have n3 := full_len (bX N1 most X1 ([] : List UInt8))
    have hfa := full_append (bL M most xs a) (bL N1 most X1 ([] : List UInt8))
    have nk := full_len (keep 2000 (bL M most xs a ++ bL N1 most X1 ([] : List UInt8)))
    have nk2 := keep_sub 2000 (bL M most xs a ++ bL N1 most X1 ([] : List UInt8))
    have hsm : sameB (bM N1 most X1 ([] : List UInt8)) (bX N1 most X1 ([] : List UInt8)) (bM N1 most X1 ([] : List UInt8)) (bX N1 most X1 ([] : List UInt8)) = true := by unfold sameB; simp
    have HV3 : BK M most xs (a ++ []) 0 (keep 2000 (bL M most xs a ++ bL N1 most X1 ([] : List UInt8))).length (keep 2000 (bL M most xs a ++ bL N1 most X1 ([] : List UInt8))) (decide (2000 < full (bL M most xs a ++ bL N1 most X1 ([] : List UInt8)))) (bM N1 most X1 ([] : List UInt8)) (bX N1 most X1 ([] : List UInt8)).length (bX N1 most X1 ([] : List UInt8)) := ⟨p1, q1, q2, p3, p4, rfl, rfl⟩
    refine up_o0 M most A n c xs Aa na ca a Ab cb w hV HG HRT h0 h1 hna hca hcb hNa hNb hN (by omega) (Lib.hid HV1) (Lib.hid HV2') HR1 hF1 _ HV3 (n3 := (bL M most xs a ++ bL N1 most X1 ([] : List UInt8)).length) (sb := full (bL M most xs a ++ bL N1 most X1 ([] : List UInt8))) (Lib.hid fun A0 c0 w0 h => v_Size A0 _ c0 _ w0 h (by omega)) ?_ (Lib.hid fun h => ?_) (Lib.hid (by omega)) (Lib.hid (by omega)) (Lib.hid (by omega)) (Lib.hid rfl) (Lib.hid (by omega)) (Lib.hid (by omega)) (Lib.hid hsm) (by omega) (by omega)
    · by_cases q : 2000 < full (bL M most xs a ++ bL N1 most X1 ([] : List UInt8))
      · rw [decide_eq_true q, decide_eq_true (by omega)]
      · rw [decide_eq_false q, decide_eq_false (by omega)]
    · exact keep_all (by have := of_decide_eq_false h; omega)
  · have HV2' : BK N1 most X1 ([] : List UInt8) (bE N1 most X1 ([] : List UInt8)) (bL N1 most X1 ([] : List UInt8)).length (bL N1 most X1 ([] : List UInt8)) false (bM N1 most X1 ([] : List UInt8)) (bX N1 most X1 ([] : List UInt8)).length (bX N1 most X1 ([] : List UInt8)) := ⟨rfl, rfl, g2, rfl, rfl, rfl, rfl⟩
    have HV3 : BK M most xs (a ++ []) (bE N1 most X1 ([] : List UInt8)) (bL M most xs (a ++ [])).length (bL M most xs (a ++ [])) (bG M most xs (a ++ [])) (bM M most xs (a ++ [])) (bX M most xs (a ++ [])).length (bX M most xs (a ++ [])) := ⟨p1, rfl, rfl, rfl, rfl, rfl, rfl⟩
    exact up_e0 M most A n c xs Aa na ca a Ab cb w hV HG HRT h0 h1 hna hca hcb hNa hNb hN (by omega) (Lib.hid HV1) (Lib.hid HV2') HR1 hF1 HV3 (bne_iff_ne.2 e2) (by omega) (by omega)
theorem up_all1 (M most : Int) (A : Option Addr) (n c : Nat) (xs : List Fd) (Aa : Option Addr) (na ca : Nat) (a : List UInt8) (qb ob nb cb : Nat) (x0 : UInt8) (bs : List UInt8) (w : World) (hV : EnvF w [bF (some ⟨qb, ob, none⟩) nb (x0 :: bs), bF Aa na a, fF A n xs, stF, rwF, mvF] []) (HG : GG M A n c xs false) (HRT : GRt M A n c xs true) (hr : rightB M xs = true) (h0 : 0 ≤ most) (h1 : most ≤ 4096) (hna : na ≤ 1000) (hb0 : 0 < nb) (hnb : nb ≤ 1000) (hca : na ≤ ca) (hcb : nb ≤ cb) (hNa : Aa = none → ca = 0) (hNb : ((some ⟨qb, ob, none⟩) : Option Addr) = none → cb = 0) (hN : A = none → c = 0) (hF : full xs ≤ 15400) (hal : a.length ≤ 1000) (hbl : ((x0 :: bs) : List UInt8).length ≤ 1000) (e1 : bE M most xs a = 0) :
    Calls Tryd.prog 3 #[.agg #[.int .i64 M, .slice A n c], .int .i64 most, .slice Aa na ca, .slice (some ⟨qb, ob, none⟩) nb cb] w fun e w' => e = .returned (.bool true) ∧ Below w.heap.size w w' := by
  have HV1 : BK M most xs a 0 (bL M most xs a).length (bL M most xs a) (bG M most xs a) (bM M most xs a) (bX M most xs a).length (bX M most xs a) := ⟨e1, rfl, rfl, rfl, rfl, rfl, rfl⟩
  have r1 := b_right e1
  have L1b := bL_full (M := M) (most := most) (xs := xs) (ls := a)
  have D1 : bG M most xs a = false → bL M most xs a = bAll M most xs a := fun h => by
    obtain ⟨y1, y2⟩ := bG_of e1 rfl
    rw [y2] at h
    rw [y1]
    exact keep_all (by have := of_decide_eq_false h; omega)
  obtain ⟨N1, hN1⟩ : ∃ q, bM M most xs a = q := ⟨_, rfl⟩
  obtain ⟨X1, hX1⟩ : ∃ q, bX M most xs a = q := ⟨_, rfl⟩
  rw [hN1, hX1] at HV1 r1
  have bd1 := rt_bd (s := ⟨N1, X1, []⟩) r1
  simp only at bd1
  have HR1 : Hid (∀ (T1 : Option Addr) (tc1 : Nat) (w0 : World), Fs w0 w0.heap.size T1 X1.length X1 → Calls Tryd.prog 7 #[.agg #[.int .i64 N1, .slice T1 X1.length tc1]] w0 fun e w' => e = .returned (.bool true) ∧ Below w0.heap.size w0 w') := Lib.hid fun T1 tc1 w0 h => r1 ▸ r_right N1 T1 X1.length tc1 X1 w0 h (by omega)
  have HV2 := bk_of N1 most X1 (x0 :: bs)
  have hF1 : full X1 ≤ 20000 := by omega
  have i1 : decide (32 ≤ x0.toNat) = decide ((32 : Int) ≤ (x0.toNat : Int)) := by by_cases q : 32 ≤ x0.toNat <;> simp [q] <;> omega
  have i2 : decide (x0.toNat < 64) = decide ((x0.toNat : Int) < (64 : Int)) := by by_cases q : x0.toNat < 64 <;> simp [q] <;> omega
  by_cases hs : 32 ≤ x0.toNat ∧ x0.toNat < 64
  · exact up_a1 M most A n c xs Aa na ca a qb ob nb cb x0 bs (decide ((32 : Int) ≤ (x0.toNat : Int))) (decide ((x0.toNat : Int) < (64 : Int))) w hV HG HRT h0 h1 hna hnb hca hcb hNa hNb hN (by omega) (Lib.hid HV1) (Lib.hid HV2) HR1 hF1 (.inl ⟨decide_eq_true (by omega), decide_eq_true (by omega)⟩) hb0 (decide_eq_true (by omega)) (decide_eq_true hb0) rfl i1 rfl i2
  have HC : decide ((32 : Int) ≤ (x0.toNat : Int)) = false ∨ (decide ((32 : Int) ≤ (x0.toNat : Int)) = true ∧ decide ((x0.toNat : Int) < (64 : Int)) = false) := by
    by_cases q : 32 ≤ x0.toNat
    · exact .inr ⟨decide_eq_true (by omega), decide_eq_false (by omega)⟩
    · exact .inl (decide_eq_false (by omega))
  by_cases g : bG M most xs a = true
  · exact up_a1 M most A n c xs Aa na ca a qb ob nb cb x0 bs (decide ((32 : Int) ≤ (x0.toNat : Int))) (decide ((x0.toNat : Int) < (64 : Int))) w hV HG HRT h0 h1 hna hnb hca hcb hNa hNb hN (by omega) (Lib.hid HV1) (Lib.hid HV2) HR1 hF1 (HC.elim (fun q => .inr (.inl ⟨q, g⟩)) (fun q => .inr (.inr (.inl ⟨q.1, q.2, g⟩)))) hb0 (decide_eq_true (by omega)) (decide_eq_true hb0) rfl i1 rfl i2
  have g1 : bG M most xs a = false := by simpa using g
  clear g
  by_cases g : bG N1 most X1 (x0 :: bs) = true
  · exact up_a1 M most A n c xs Aa na ca a qb ob nb cb x0 bs (decide ((32 : Int) ≤ (x0.toNat : Int))) (decide ((x0.toNat : Int) < (64 : Int))) w hV HG HRT h0 h1 hna hnb hca hcb hNa hNb hN (by omega) (Lib.hid HV1) (Lib.hid HV2) HR1 hF1 (HC.elim (fun q => .inr (.inr (.inr (.inl ⟨q, g1, g⟩)))) (fun q => .inr (.inr (.inr (.inr ⟨q.1, q.2, g1, g⟩))))) hb0 (decide_eq_true (by omega)) (decide_eq_true hb0) rfl i1 rfl i2
  have g2 : bG N1 most X1 (x0 :: bs) = false := by simpa using g
  clear g
  have ho := okA_of (xs := xs) hr h0 h1
  have ho1 := okA_of (xs := X1) r1 h0 h1
  rw [← hN1, ← hX1] at ho1
  obtain ⟨p1, p2, p3⟩ := parts (b := (x0 :: bs)) ho e1 (.inr (fun g => hs ((kk_3 x0).1 g))) ho1
  rw [hN1, hX1] at p1 p2 p3
  rw [g1] at HV1
  by_cases e2 : bE N1 most X1 (x0 :: bs) = 0
  · rw [e2] at p1
    obtain ⟨p3, p4⟩ := p3 p1
    have HV2' : BK N1 most X1 (x0 :: bs) 0 (bL N1 most X1 (x0 :: bs)).length (bL N1 most X1 (x0 :: bs)) false (bM N1 most X1 (x0 :: bs)) (bX N1 most X1 (x0 :: bs)).length (bX N1 most X1 (x0 :: bs)) := ⟨e2, rfl, g2, rfl, rfl, rfl, rfl⟩
    have D2 : bL N1 most X1 (x0 :: bs) = bAll N1 most X1 (x0 :: bs) := by
      obtain ⟨y1, y2⟩ := bG_of e2 rfl
      rw [y2] at g2
      rw [y1]
      exact keep_all (by have := of_decide_eq_false g2; omega)
    have L2b := bL_full (M := N1) (most := most) (xs := X1) (ls := (x0 :: bs))
    have r2 := b_right e2
    have bd2 := rt_bd (s := ⟨bM N1 most X1 (x0 :: bs), bX N1 most X1 (x0 :: bs), []⟩) r2
    simp only at bd2
    obtain ⟨q1, q2⟩ := bG_of p1 p2
    rw [← D1 g1, ← D2] at q1 q2
    have n1 := full_len (bL M most xs a)
    have n2 := full_len (bL N1 most X1 (x0 :: bs))
    have n3 := full_len (bX N1 most X1 (x0 :: bs))
    have hfa := full_append (bL M most xs a) (bL N1 most X1 (x0 :: bs))
    have nk := full_len (keep 2000 (bL M most xs a ++ bL N1 most X1 (x0 :: bs)))
    have nk2 := keep_sub 2000 (bL M most xs a ++ bL N1 most X1 (x0 :: bs))
    have hsm : sameB (bM N1 most X1 (x0 :: bs)) (bX N1 most X1 (x0 :: bs)) (bM N1 most X1 (x0 :: bs)) (bX N1 most X1 (x0 :: bs)) = true := by unfold sameB; simp
    have HV3 : BK M most xs (a ++ (x0 :: bs)) 0 (keep 2000 (bL M most xs a ++ bL N1 most X1 (x0 :: bs))).length (keep 2000 (bL M most xs a ++ bL N1 most X1 (x0 :: bs))) (decide (2000 < full (bL M most xs a ++ bL N1 most X1 (x0 :: bs)))) (bM N1 most X1 (x0 :: bs)) (bX N1 most X1 (x0 :: bs)).length (bX N1 most X1 (x0 :: bs)) := ⟨p1, q1, q2, p3, p4, rfl, rfl⟩
    refine up_o1 M most A n c xs Aa na ca a qb ob nb cb x0 bs (decide ((32 : Int) ≤ (x0.toNat : Int))) (decide ((x0.toNat : Int) < (64 : Int))) w hV HG HRT h0 h1 hna hnb hca hcb hNa hNb hN (by omega) (Lib.hid HV1) (Lib.hid HV2') HR1 hF1 _ HV3 (n3 := (bL M most xs a ++ bL N1 most X1 (x0 :: bs)).length) (sb := full (bL M most xs a ++ bL N1 most X1 (x0 :: bs))) (Lib.hid fun A0 c0 w0 h => v_Size A0 _ c0 _ w0 h (by omega)) ?_ (Lib.hid fun h => ?_) (Lib.hid (by omega)) (Lib.hid (by omega)) (Lib.hid (by omega)) (Lib.hid rfl) (Lib.hid (by omega)) (Lib.hid (by omega)) (Lib.hid hsm) (by omega) (by omega) HC hb0 (decide_eq_true (by omega)) (decide_eq_true hb0) rfl i1 rfl i2
    · by_cases q : 2000 < full (bL M most xs a ++ bL N1 most X1 (x0 :: bs))
      · rw [decide_eq_true q, decide_eq_true (by omega)]
      · rw [decide_eq_false q, decide_eq_false (by omega)]
    · exact keep_all (by have := of_decide_eq_false h; omega)
  · have HV2' : BK N1 most X1 (x0 :: bs) (bE N1 most X1 (x0 :: bs)) (bL N1 most X1 (x0 :: bs)).length (bL N1 most X1 (x0 :: bs)) false (bM N1 most X1 (x0 :: bs)) (bX N1 most X1 (x0 :: bs)).length (bX N1 most X1 (x0 :: bs)) := ⟨rfl, rfl, g2, rfl, rfl, rfl, rfl⟩
    have HV3 : BK M most xs (a ++ (x0 :: bs)) (bE N1 most X1 (x0 :: bs)) (bL M most xs (a ++ (x0 :: bs))).length (bL M most xs (a ++ (x0 :: bs))) (bG M most xs (a ++ (x0 :: bs))) (bM M most xs (a ++ (x0 :: bs))) (bX M most xs (a ++ (x0 :: bs))).length (bX M most xs (a ++ (x0 :: bs))) := ⟨p1, rfl, rfl, rfl, rfl, rfl, rfl⟩
    exact up_e1 M most A n c xs Aa na ca a qb ob nb cb x0 bs (decide ((32 : Int) ≤ (x0.toNat : Int))) (decide ((x0.toNat : Int) < (64 : Int))) w hV HG HRT h0 h1 hna hnb hca hcb hNa hNb hN (by omega) (Lib.hid HV1) (Lib.hid HV2') HR1 hF1 HV3 (bne_iff_ne.2 e2) (by omega) (by omega) HC hb0 (decide_eq_true (by omega)) (decide_eq_true hb0) rfl i1 rfl i2
theorem up_all (M most : Int) (A : Option Addr) (n c : Nat) (Aa : Option Addr) (na ca : Nat) (a : List UInt8) (Ab : Option Addr) (nb cb : Nat) (b : List UInt8) (w : World) (hR : Up.Vars w) (hI : IsFlds w A n c) (ha : Bs w w.heap.size Aa na a) (hca : na ≤ ca) (hNa : Aa = none → ca = 0) (hb : Bs w w.heap.size Ab nb b) (hcb : nb ≤ cb) (hNb : Ab = none → cb = 0) (hba : ca ≤ maxLen) (hbb : cb ≤ maxLen) :
    Calls Tryd.prog 3 #[.agg #[.int .i64 M, .slice A n c], .int .i64 most, .slice Aa na ca, .slice Ab nb cb] w fun e w' => e = .returned (.bool true) ∧ Below w.heap.size w w' := by
  obtain ⟨xs, hA, hS, hnc, hcm, hN⟩ := rowFlds hI
  have hV := ((start_env hR hA).addB ha).addB hb
  have hla := ha.1
  have hlb := hb.1
  unfold maxLen at hba hbb
  cases hg : grB xs with
  | true => exact up_g M most A n c xs Aa na ca a Ab nb cb b w hV (great_call hnc hcm hS hg)
  | false =>
    have HG := great_call (M := M) (A := A) hnc hcm hS hg
    obtain ⟨hl, hF⟩ := gr_full hg
    cases hr : rightB M xs with
    | false => exact up_r M most A n c xs Aa na ca a Ab nb cb b w hV HG (right_call (by omega) hr)
    | true =>
      have HRT := right_call (A := A) (n := n) (c := c) (by omega) hr
      by_cases h0 : most < 0
      · exact up_x M most A n c xs Aa na ca a Ab nb cb b w hV HG HRT (by omega)
      by_cases h1 : 4096 < most
      · exact up_x M most A n c xs Aa na ca a Ab nb cb b w hV HG HRT (by omega)
      by_cases h2 : 1000 < na
      · exact up_x M most A n c xs Aa na ca a Ab nb cb b w hV HG HRT (by omega)
      by_cases h3 : 1000 < nb
      · exact up_x M most A n c xs Aa na ca a Ab nb cb b w hV HG HRT (by omega)
      have g0 : 0 ≤ most := by omega
      have g1 : most ≤ 4096 := by omega
      by_cases e1 : bE M most xs a = 0
      · by_cases hz : nb = 0
        · subst hz
          obtain rfl : b = [] := List.eq_nil_of_length_eq_zero hlb
          exact up_all0 M most A n c xs Aa na ca a Ab cb w hV HG HRT hr g0 g1 (by omega) hca hcb hNa hNb hN hF (by omega) (by simp) e1
        · obtain ⟨qb, ob, rfl, _, _⟩ := bs_cell hb (by omega)
          cases b with
          | nil => simp at hlb; omega
          | cons x0 bs => exact up_all1 M most A n c xs Aa na ca a qb ob nb cb x0 bs w hV HG HRT hr g0 g1 (by omega) (by omega) (by omega) hca hcb hNa hNb hN hF (by omega) (by omega) e1
      · obtain ⟨y1, y2, y3, y4⟩ := b_none e1
        exact up_bad M most A n c xs Aa na ca a Ab nb cb b w hV HG HRT g0 g1 (by omega) (by omega) hca hcb hNa hNb hN (by omega) (E1 := bE M most xs a) (g1 := false) (N1 := 0) (nt1 := 0) (X1 := []) (Lib.hid ⟨rfl, y1, y2, y3, y4, rfl, rfl⟩) (bne_iff_ne.2 e1) (bne_iff_ne.2 (b_code hr g0 g1))
end Go.Proofs.YtfejohfplnbdkaaDoor
