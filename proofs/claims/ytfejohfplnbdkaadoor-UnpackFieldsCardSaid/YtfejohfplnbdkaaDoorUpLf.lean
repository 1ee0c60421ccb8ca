/- UnpackFields: the law. -/
import Derived.Test.YtfejohfplnbdkaaDoorUpLb
import Derived.Test.YtfejohfplnbdkaaDoorUpDf
namespace Go.Proofs.YtfejohfplnbdkaaDoor
open Go.RowKit Go.Shelf Px Tx Tb Up GD
set_option linter.unusedVariables false
set_option linter.unusedSimpArgs false
attribute [local go_sem] Oper.semAt_some
set_option maxRecDepth 100000 in
set_option maxHeartbeats 8000000 in
theorem uf_g (M way i : Int) (A : Option Addr) (n c : Nat) (xs : List Fd) (fa fb : List UInt8) (w : World) (hV : EnvF w [fF A n xs, stF, rwF, mvF] []) (HG : Hid (∀ w0 : World, Fs w0 w0.heap.size A n xs → Calls Tryd.prog 6 #[.agg #[.int .i64 M, .slice A n c]] w0 fun e w' => e = .returned (.bool true) ∧ Below w0.heap.size w0 w')) :
    Calls Tryd.prog 4 #[.agg #[.int .i64 M, .slice A n c], .agg #[.string ⟨fa.toArray⟩, .string ⟨fb.toArray⟩], .int .i64 way, .int .i64 i] w fun e w' => e = .returned (.bool true) ∧ Below w.heap.size w w' := by
  have K0 := Lib.hid (((hV).boxg 24 #[.int .i64 M, .slice A n c] w.heap.size (by simp)).boxg 38 #[.string ⟨fa.toArray⟩, .string ⟨fb.toArray⟩] (w.heap.size + 1) (by simp))
  have G0 := Lib.hid (((Below.refl w.heap.size w).alloc (by simp) (.cells #[.int .i64 M, .slice A n c] 24)).alloc (by simp) (.cells #[.string ⟨fa.toArray⟩, .string ⟨fb.toArray⟩] 38))
  clear hV
  go_enter Tryd.func4, Tryd.ntmps4
  go_wp2_with (first
    | go_skip
    | (refine at_load 24 (.tmp 4) (by rfl) ?_; refine wpListG_row (by rfl) 24 (.tmp 4) (by rfl) w.heap.size (by rfl) 24 #[.int .i64 M, .slice A n c] _ (K0.out.row 1 rfl) Tryd.underlying24 (by rfl) infoc_T ?_)
    | (go_at_call 6; (with_reducible refine (HG.out _ (K0.out.fs (A := A) (n := n) (xs := xs) (by simp))).mono ?_); rintro e w1 ⟨rfl, hb⟩; have K1 := Lib.hid (K0.out.on hb); have G1 := Lib.hid (below_step G0.out hb); clear hb K0 G0)
    | (go_at_call 8; (with_reducible refine (l_wakes _ K1.out (by simp) (by simp) (by simp)).mono ?_); rintro e w2 ⟨rfl, hb⟩; have K2 := Lib.hid (K1.out.on hb); have G2 := Lib.hid (below_step G1.out hb); clear hb K1 G1))
  go_ret
  exact ⟨rfl, G2.out⟩
set_option maxRecDepth 100000 in
set_option maxHeartbeats 8000000 in
theorem uf_r (M way i : Int) (A : Option Addr) (n c : Nat) (xs : List Fd) (fa fb : List UInt8) (w : World) (hV : EnvF w [fF A n xs, stF, rwF, mvF] []) (HG : Hid (∀ w0 : World, Fs w0 w0.heap.size A n xs → Calls Tryd.prog 6 #[.agg #[.int .i64 M, .slice A n c]] w0 fun e w' => e = .returned (.bool false) ∧ Below w0.heap.size w0 w')) (HRT : Hid (∀ w0 : World, Fs w0 w0.heap.size A n xs → Calls Tryd.prog 7 #[.agg #[.int .i64 M, .slice A n c]] w0 fun e w' => e = .returned (.bool false) ∧ Below w0.heap.size w0 w')) :
    Calls Tryd.prog 4 #[.agg #[.int .i64 M, .slice A n c], .agg #[.string ⟨fa.toArray⟩, .string ⟨fb.toArray⟩], .int .i64 way, .int .i64 i] w fun e w' => e = .returned (.bool true) ∧ Below w.heap.size w w' := by
  have K0 := Lib.hid (((hV).boxg 24 #[.int .i64 M, .slice A n c] w.heap.size (by simp)).boxg 38 #[.string ⟨fa.toArray⟩, .string ⟨fb.toArray⟩] (w.heap.size + 1) (by simp))
  have G0 := Lib.hid (((Below.refl w.heap.size w).alloc (by simp) (.cells #[.int .i64 M, .slice A n c] 24)).alloc (by simp) (.cells #[.string ⟨fa.toArray⟩, .string ⟨fb.toArray⟩] 38))
  clear hV
  go_enter Tryd.func4, Tryd.ntmps4
  go_wp2_with (first
    | go_skip
    | (refine at_load 24 (.tmp 4) (by rfl) ?_; refine wpListG_row (by rfl) 24 (.tmp 4) (by rfl) w.heap.size (by rfl) 24 #[.int .i64 M, .slice A n c] _ (K0.out.row 1 rfl) Tryd.underlying24 (by rfl) infoc_T ?_)
    | (go_at_call 6; (with_reducible refine (HG.out _ (K0.out.fs (A := A) (n := n) (xs := xs) (by simp))).mono ?_); rintro e w1 ⟨rfl, hb⟩; have K1 := Lib.hid (K0.out.on hb); have G1 := Lib.hid (below_step G0.out hb); clear hb K0 G0)
    | (refine at_load 24 (.tmp 4) (by rfl) ?_; refine wpListG_row (by rfl) 24 (.tmp 4) (by rfl) w.heap.size (by rfl) 24 #[.int .i64 M, .slice A n c] _ (K1.out.row 1 rfl) Tryd.underlying24 (by rfl) infoc_T ?_)
    | (go_at_call 7; (with_reducible refine (HRT.out _ (K1.out.fs (A := A) (n := n) (xs := xs) (by simp))).mono ?_); rintro e w2 ⟨rfl, hb⟩; have K2 := Lib.hid (K1.out.on hb); have G2 := Lib.hid (below_step G1.out hb); clear hb K1 G1)
    | (go_at_call 8; (with_reducible refine (l_wakes _ K2.out (by simp) (by simp) (by simp)).mono ?_); rintro e w3 ⟨rfl, hb⟩; have K3 := Lib.hid (K2.out.on hb); have G3 := Lib.hid (below_step G2.out hb); clear hb K2 G2))
  go_ret
  exact ⟨rfl, G3.out⟩
set_option maxRecDepth 100000 in
set_option maxHeartbeats 8000000 in
theorem uf_len (M way i : Int) (A : Option Addr) (n c : Nat) (xs : List Fd) (fa fb : List UInt8) (w : World) (hV : EnvF w [fF A n xs, stF, rwF, mvF] []) (HG : Hid (∀ w0 : World, Fs w0 w0.heap.size A n xs → Calls Tryd.prog 6 #[.agg #[.int .i64 M, .slice A n c]] w0 fun e w' => e = .returned (.bool false) ∧ Below w0.heap.size w0 w')) (HRT : Hid (∀ w0 : World, Fs w0 w0.heap.size A n xs → Calls Tryd.prog 7 #[.agg #[.int .i64 M, .slice A n c]] w0 fun e w' => e = .returned (.bool true) ∧ Below w0.heap.size w0 w')) (hfa : fa.length ≤ 140737488355328) (hfb : fb.length ≤ 140737488355328) (h : 900 < fa.length + fb.length) :
    Calls Tryd.prog 4 #[.agg #[.int .i64 M, .slice A n c], .agg #[.string ⟨fa.toArray⟩, .string ⟨fb.toArray⟩], .int .i64 way, .int .i64 i] w fun e w' => e = .returned (.bool true) ∧ Below w.heap.size w w' := by
  have K0 := Lib.hid (((hV).boxg 24 #[.int .i64 M, .slice A n c] w.heap.size (by simp)).boxg 38 #[.string ⟨fa.toArray⟩, .string ⟨fb.toArray⟩] (w.heap.size + 1) (by simp))
  have G0 := Lib.hid (((Below.refl w.heap.size w).alloc (by simp) (.cells #[.int .i64 M, .slice A n c] 24)).alloc (by simp) (.cells #[.string ⟨fa.toArray⟩, .string ⟨fb.toArray⟩] 38))
  clear hV
  go_enter Tryd.func4, Tryd.ntmps4
  go_wp2_with (first
    | go_skip
    | (refine at_load 24 (.tmp 4) (by rfl) ?_; refine wpListG_row (by rfl) 24 (.tmp 4) (by rfl) w.heap.size (by rfl) 24 #[.int .i64 M, .slice A n c] _ (K0.out.row 1 rfl) Tryd.underlying24 (by rfl) infoc_T ?_)
    | (go_at_call 6; (with_reducible refine (HG.out _ (K0.out.fs (A := A) (n := n) (xs := xs) (by simp))).mono ?_); rintro e w1 ⟨rfl, hb⟩; have K1 := Lib.hid (K0.out.on hb); have G1 := Lib.hid (below_step G0.out hb); clear hb K0 G0)
    | (refine at_load 24 (.tmp 4) (by rfl) ?_; refine wpListG_row (by rfl) 24 (.tmp 4) (by rfl) w.heap.size (by rfl) 24 #[.int .i64 M, .slice A n c] _ (K1.out.row 1 rfl) Tryd.underlying24 (by rfl) infoc_T ?_)
    | (go_at_call 7; (with_reducible refine (HRT.out _ (K1.out.fs (A := A) (n := n) (xs := xs) (by simp))).mono ?_); rintro e w2 ⟨rfl, hb⟩; have K2 := Lib.hid (K1.out.on hb); have G2 := Lib.hid (below_step G1.out hb); clear hb K1 G1)
    | (refine at_load 9 (.tmp 33) (by rfl) ?_; refine wpListG_get (by rfl) 9 (.tmp 33) (by rfl) (w.heap.size + 1) 0 (by rfl) 38 #[.string ⟨fa.toArray⟩, .string ⟨fb.toArray⟩] (.string ⟨fa.toArray⟩) _ (K2.out.row 0 rfl) (by rfl) Tryd.underlying9 (by rfl) ?_)
    | (refine at_load 9 (.tmp 36) (by rfl) ?_; refine wpListG_get (by rfl) 9 (.tmp 36) (by rfl) (w.heap.size + 1) 1 (by rfl) 38 #[.string ⟨fa.toArray⟩, .string ⟨fb.toArray⟩] (.string ⟨fb.toArray⟩) _ (K2.out.row 0 rfl) (by rfl) Tryd.underlying9 (by rfl) ?_)
    | (go_at_call 8; (with_reducible refine (l_wakes _ K2.out (by simp) (by simp) (by simp)).mono ?_); rintro e w3 ⟨rfl, hb⟩; have K3 := Lib.hid (K2.out.on hb); have G3 := Lib.hid (below_step G2.out hb); clear hb K2 G2))
  go_ret
  exact ⟨rfl, G3.out⟩
set_option maxRecDepth 100000 in
set_option maxHeartbeats 8000000 in
theorem uf_n2 (M way i : Int) (A : Option Addr) (n c : Nat) (xs : List Fd) (fa fb : List UInt8) (w : World) (hV : EnvF w [fF A n xs, stF, rwF, mvF] []) (HG : Hid (∀ w0 : World, Fs w0 w0.heap.size A n xs → Calls Tryd.prog 6 #[.agg #[.int .i64 M, .slice A n c]] w0 fun e w' => e = .returned (.bool false) ∧ Below w0.heap.size w0 w')) (HRT : Hid (∀ w0 : World, Fs w0 w0.heap.size A n xs → Calls Tryd.prog 7 #[.agg #[.int .i64 M, .slice A n c]] w0 fun e w' => e = .returned (.bool true) ∧ Below w0.heap.size w0 w')) (hl : fa.length + fb.length ≤ 900) (hN : A = none → c = 0) (hF : full xs ≤ 20000) (hfl : (fldL fa fb way).length ≤ 6000) {nt : Nat} {X : List Fd} (HV1 : BK M M xs (fldL fa fb way) 0 1 [(⟨fa.toArray⟩, ⟨fb.toArray⟩)] false M nt X) (HAD : Hid (way = 1 → addM M xs = M ∧ addE M xs = 0 ∧ addL M xs (⟨fa.toArray⟩, ⟨fb.toArray⟩) = X ∧ X.length = nt)) (HNA : Hid (¬ way = 1 → X = xs ∧ nt = n)) (hnt : Hid (nt ≤ 1000000)) (hsz : Hid (sz (⟨fa.toArray⟩, ⟨fb.toArray⟩) ≤ 100000)) {ga gb : ByteArray} (HAT : Hid (∀ w0 : World, Fs w0 w0.heap.size A n xs → Calls Tryd.prog 15 #[.agg #[.int .i64 M, .slice A n c], .int .i64 i] w0 fun e w' => e = .returned (.tuple #[.agg #[.string ga, .string gb], .int .i64 90]) ∧ Below w0.heap.size w0 w')) {P Q : List UInt8} {kp kq : Nat} {jE : Int} (hP : Hid (putL i (7 : Nat) 128 = P ∧ putE i (7 : Nat) = 2 ∧ P.length = kp)) (hQ : Hid (nmL i fb way = Q ∧ nmE i way = jE ∧ Q.length = kq)) (hkp : kp ≤ 6000) (hkq : kq ≤ 6000) {yG : Bool} {yM : Int} {nty : Nat} {yX : List Fd} {kE : Int} {ny : Nat} {yL : List Fd} (HV2 : Hid (BK M M xs P kE ny yL yG yM nty yX)) :
    Calls Tryd.prog 4 #[.agg #[.int .i64 M, .slice A n c], .agg #[.string ⟨fa.toArray⟩, .string ⟨fb.toArray⟩], .int .i64 way, .int .i64 i] w fun e w' => e = .returned (.bool true) ∧ Below w.heap.size w w' := by
  have K0 := Lib.hid (((hV).boxg 24 #[.int .i64 M, .slice A n c] w.heap.size (by simp)).boxg 38 #[.string ⟨fa.toArray⟩, .string ⟨fb.toArray⟩] (w.heap.size + 1) (by simp))
  have G0 := Lib.hid (((Below.refl w.heap.size w).alloc (by simp) (.cells #[.int .i64 M, .slice A n c] 24)).alloc (by simp) (.cells #[.string ⟨fa.toArray⟩, .string ⟨fb.toArray⟩] 38))
  have hF' := Lib.hid hF
  have hN' := Lib.hid hN
  have HV1' := Lib.hid HV1
  have hsm : Hid (sameB M X M X = true) := Lib.hid (by unfold sameB; simp)
  clear HV1 hF hN
  clear hV
  go_enter Tryd.func4, Tryd.ntmps4
  go_wp2_with (first
    | go_skip
    | (refine at_load 24 (.tmp 4) (by rfl) ?_; refine wpListG_row (by rfl) 24 (.tmp 4) (by rfl) w.heap.size (by rfl) 24 #[.int .i64 M, .slice A n c] _ (K0.out.row 1 rfl) Tryd.underlying24 (by rfl) infoc_T ?_)
    | (go_at_call 6; (with_reducible refine (HG.out _ (K0.out.fs (A := A) (n := n) (xs := xs) (by simp))).mono ?_); rintro e w1 ⟨rfl, hb⟩; have K1 := Lib.hid (K0.out.on hb); have G1 := Lib.hid (below_step G0.out hb); clear hb K0 G0)
    | (refine at_load 24 (.tmp 4) (by rfl) ?_; refine wpListG_row (by rfl) 24 (.tmp 4) (by rfl) w.heap.size (by rfl) 24 #[.int .i64 M, .slice A n c] _ (K1.out.row 1 rfl) Tryd.underlying24 (by rfl) infoc_T ?_)
    | (go_at_call 7; (with_reducible refine (HRT.out _ (K1.out.fs (A := A) (n := n) (xs := xs) (by simp))).mono ?_); rintro e w2 ⟨rfl, hb⟩; have K2 := Lib.hid (K1.out.on hb); have G2 := Lib.hid (below_step G1.out hb); clear hb K1 G1)
    | (refine at_load 9 (.tmp 33) (by rfl) ?_; refine wpListG_get (by rfl) 9 (.tmp 33) (by rfl) (w.heap.size + 1) 0 (by rfl) 38 #[.string ⟨fa.toArray⟩, .string ⟨fb.toArray⟩] (.string ⟨fa.toArray⟩) _ (K2.out.row 0 rfl) (by rfl) Tryd.underlying9 (by rfl) ?_)
    | (refine at_load 9 (.tmp 36) (by rfl) ?_; refine wpListG_get (by rfl) 9 (.tmp 36) (by rfl) (w.heap.size + 1) 1 (by rfl) 38 #[.string ⟨fa.toArray⟩, .string ⟨fb.toArray⟩] (.string ⟨fb.toArray⟩) _ (K2.out.row 0 rfl) (by rfl) Tryd.underlying9 (by rfl) ?_))
  refine f3_region (fa := fa) (fb := fb) (xs := xs) (by simp) (by simp) (by simp) (by simp) hN'.out hF'.out (List.mem_of_getElem? (i := 1) rfl) (List.mem_of_getElem? (i := 0) rfl) (by omega) (by omega) hfl HV1'.out (fun gX LL TT cl tc _ w20 K20' hcl htc hb => ?_) K2.out
  have K20 := Lib.hid K20'
  have G20 := Lib.hid (below_step G2.out.drew hb)
  clear K20' hcl htc hb K2 G2
  go_wp2_with (first
    | go_skip
    | (refine at_load 24 (.tmp 4) (by rfl) ?_; refine wpListG_row (by rfl) 24 (.tmp 4) (by rfl) w.heap.size (by rfl) 24 #[.int .i64 M, .slice A n c] _ (K20.out.row 2 rfl) Tryd.underlying24 (by rfl) infoc_T ?_; have K20b := Lib.hid (K20.out.boxg 24 #[.int .i64 0, .slice none 0 0] w20.heap.size rfl); have hz20 : w.heap.size ≤ w20.heap.size := G20.out.size; have G20b := Lib.hid (G20.out.alloc hz20 (.cells #[.int .i64 0, .slice none 0 0] 24)); clear K20 G20)
    | (refine at_store 24 (.tmp 11) (.tmp 53) (by rfl) ?_; refine wpList_put (by rfl) 24 (.tmp 11) (.tmp 53) (by rfl) w20.heap.size 0 (.agg #[.int .i64 M, .slice A n c]) (by rfl) (by rfl) 24 #[.int .i64 0, .slice none 0 0] #[.int .i64 M, .slice A n c] (K20b.out.row 0 rfl) (by simp [Value.cells]) (by kernel_rfl) infoc_T (by kernel_rfl) ?_; intro w21 hrow hoth hz hbl; have K21 : Hid (EnvF w21 _ [(w20.heap.size, #[.int .i64 M, .slice A n c], 24), (gX, #[.slice LL 1 cl, .bool false, .int .i64 M, .slice TT nt tc], 29), ((w.heap.size + 1), #[.string ⟨fa.toArray⟩, .string ⟨fb.toArray⟩], 38), (w.heap.size, #[.int .i64 M, .slice A n c], 24)]) := Lib.hid (K20b.out.turn 0 rfl hrow hoth hz); have G21 := Lib.hid (hbl _ _ (by omega) G20b.out); clear hrow hoth hz hbl K20b G20b)
    | (refine at_load 24 (.tmp 4) (by rfl) ?_; refine wpListG_row (by rfl) 24 (.tmp 4) (by rfl) w.heap.size (by rfl) 24 #[.int .i64 M, .slice A n c] _ (K21.out.row 3 rfl) Tryd.underlying24 (by rfl) infoc_T ?_)
    | (refine at_load 38 (.tmp 5) (by rfl) ?_; refine wpListG_row (by rfl) 38 (.tmp 5) (by rfl) (w.heap.size + 1) (by rfl) 38 #[.string ⟨fa.toArray⟩, .string ⟨fb.toArray⟩] _ (K21.out.row 2 rfl) Tryd.underlying38 (by rfl) infoc_D ?_)
    | (go_at_call 14; (with_reducible refine (l_add (A := A) (n := n) (xs := xs) (⟨fa.toArray⟩, ⟨fb.toArray⟩) _ K21.out (by simp) hN'.out (by have := hF'.out; omega) hsz.out (HAD.out (eq_of_beq ‹(way == 1) = true›)).1 (HAD.out (eq_of_beq ‹(way == 1) = true›)).2.1 (HAD.out (eq_of_beq ‹(way == 1) = true›)).2.2.1 (HAD.out (eq_of_beq ‹(way == 1) = true›)).2.2.2).mono ?_); rintro e w22 ⟨A5, c5, rfl, hb, hE, HA50⟩; have K22 := Lib.hid hE; have HA5 := Lib.hid HA50; have G22 := Lib.hid (below_step G21.out hb); clear hb hE HA50 K21 G21)
    | (refine at_store 24 (.tmp 11) (.tmp 60) (by rfl) ?_; refine wpList_put (by rfl) 24 (.tmp 11) (.tmp 60) (by rfl) w20.heap.size 0 (.agg #[.int .i64 M, .slice A5 nt c5]) (by rfl) (by rfl) 24 #[.int .i64 M, .slice A n c] #[.int .i64 M, .slice A5 nt c5] (K22.out.row 0 rfl) (by simp [Value.cells]) (by kernel_rfl) infoc_T (by kernel_rfl) ?_; intro w23 hrow hoth hz hbl; have K23 : Hid (EnvF w23 _ [(w20.heap.size, #[.int .i64 M, .slice A5 nt c5], 24), (gX, #[.slice LL 1 cl, .bool false, .int .i64 M, .slice TT nt tc], 29), ((w.heap.size + 1), #[.string ⟨fa.toArray⟩, .string ⟨fb.toArray⟩], 38), (w.heap.size, #[.int .i64 M, .slice A n c], 24)]) := Lib.hid (K22.out.turn 0 rfl hrow hoth hz); have G23 := Lib.hid (hbl _ _ (by omega) G22.out); clear hrow hoth hz hbl K22 G22)
    | (refine at_load 4 (.tmp 65) (by rfl) ?_; refine wpListG_get (by rfl) 4 (.tmp 65) (by rfl) gX 1 (by rfl) 29 #[.slice LL 1 cl, .bool false, .int .i64 M, .slice TT nt tc] (.bool false) _ (K23.out.row 1 rfl) (by rfl) Tryd.underlying4 (by rfl) ?_)
    | (refine at_load 22 (.tmp 69) (by rfl) ?_; refine wpListG_get (by rfl) 22 (.tmp 69) (by rfl) gX 0 (by rfl) 29 #[.slice LL 1 cl, .bool false, .int .i64 M, .slice TT nt tc] (.slice LL 1 cl) _ (K23.out.row 1 rfl) (by rfl) Tryd.underlying22 (by rfl) ?_)
    | (refine at_load 38 (.tmp 5) (by rfl) ?_; refine wpListG_row (by rfl) 38 (.tmp 5) (by rfl) (w.heap.size + 1) (by rfl) 38 #[.string ⟨fa.toArray⟩, .string ⟨fb.toArray⟩] _ (K23.out.row 2 rfl) Tryd.underlying38 (by rfl) infoc_D ?_)
    | (go_at_call 12; have K23l := Lib.hid (K23.out.litf 38 [(⟨fa.toArray⟩, ⟨fb.toArray⟩)] #[.string ⟨fa.toArray⟩, .string ⟨fb.toArray⟩] (by simp [fdc]) 1 rfl w23.heap.size rfl); have G23l := Lib.hid (G23.out.alloc G23.out.size (.cells #[.string ⟨fa.toArray⟩, .string ⟨fb.toArray⟩] 38)); (with_reducible refine (l_fields (A := LL) (n := 1) (xs := [(⟨fa.toArray⟩, ⟨fb.toArray⟩)]) (A' := (some ⟨w23.heap.size, 0, none⟩)) (n' := 1) (ys := [(⟨fa.toArray⟩, ⟨fb.toArray⟩)]) _ K23l.out (by simp) (by simp) (by omega) (decide_eq_true rfl)).mono ?_); rintro e w30 ⟨rfl, hb⟩; have K30 := Lib.hid (K23l.out.on hb); have G30 := Lib.hid (below_step G23l.out hb); clear hb K23 G23 K23l G23l)
    | (refine at_load 24 (.tmp 77) (by rfl) ?_; refine wpList_part (by rfl) 24 (.tmp 77) (by rfl) gX 2 (by rfl) 29 #[.slice LL 1 cl, .bool false, .int .i64 M, .slice TT nt tc] #[.int .i64 M, .slice TT nt tc] _ (K30.out.row 1 rfl) (part2 (by rfl) (by rfl)) Tryd.underlying24 (by rfl) infoc_T ?_)
    | (refine at_load 24 (.tmp 11) (by rfl) ?_; refine wpListG_row (by rfl) 24 (.tmp 11) (by rfl) w20.heap.size (by rfl) 24 #[.int .i64 M, .slice A5 nt c5] _ (K30.out.row 0 rfl) Tryd.underlying24 (by rfl) infoc_T ?_)
    | (go_at_call 11; (with_reducible refine (l_same (A := TT) (n := nt) (xs := X) (A' := A5) (n' := nt) (ys := X) _ K30.out (by simp) (by simp) hnt.out hsm.out).mono ?_); rintro e w50 ⟨rfl, hb⟩; have K50 := Lib.hid (K30.out.on hb); have G50 := Lib.hid (below_step G30.out hb); clear hb K30 G30; refine Hid.out ?_)
    | (refine at_load 4 (.tmp 65) (by rfl) ?_; refine wpListG_get (by rfl) 4 (.tmp 65) (by rfl) gX 1 (by rfl) 29 #[.slice LL 1 cl, .bool false, .int .i64 M, .slice TT nt tc] (.bool false) _ (K21.out.row 1 rfl) (by rfl) Tryd.underlying4 (by rfl) ?_)
    | (refine at_load 22 (.tmp 69) (by rfl) ?_; refine wpListG_get (by rfl) 22 (.tmp 69) (by rfl) gX 0 (by rfl) 29 #[.slice LL 1 cl, .bool false, .int .i64 M, .slice TT nt tc] (.slice LL 1 cl) _ (K21.out.row 1 rfl) (by rfl) Tryd.underlying22 (by rfl) ?_)
    | (refine at_load 38 (.tmp 5) (by rfl) ?_; refine wpListG_row (by rfl) 38 (.tmp 5) (by rfl) (w.heap.size + 1) (by rfl) 38 #[.string ⟨fa.toArray⟩, .string ⟨fb.toArray⟩] _ (K21.out.row 2 rfl) Tryd.underlying38 (by rfl) infoc_D ?_)
    | (go_at_call 12; have K21l := Lib.hid (K21.out.litf 38 [(⟨fa.toArray⟩, ⟨fb.toArray⟩)] #[.string ⟨fa.toArray⟩, .string ⟨fb.toArray⟩] (by simp [fdc]) 1 rfl w21.heap.size rfl); have G21l := Lib.hid (G21.out.alloc G21.out.size (.cells #[.string ⟨fa.toArray⟩, .string ⟨fb.toArray⟩] 38)); (with_reducible refine (l_fields (A := LL) (n := 1) (xs := [(⟨fa.toArray⟩, ⟨fb.toArray⟩)]) (A' := (some ⟨w21.heap.size, 0, none⟩)) (n' := 1) (ys := [(⟨fa.toArray⟩, ⟨fb.toArray⟩)]) _ K21l.out (by simp) (by simp) (by omega) (decide_eq_true rfl)).mono ?_); rintro e w40 ⟨rfl, hb⟩; have K40 := Lib.hid (K21l.out.on hb); have G40 := Lib.hid (below_step G21l.out hb); clear hb K21 G21 K21l G21l)
    | (refine at_load 24 (.tmp 77) (by rfl) ?_; refine wpList_part (by rfl) 24 (.tmp 77) (by rfl) gX 2 (by rfl) 29 #[.slice LL 1 cl, .bool false, .int .i64 M, .slice TT nt tc] #[.int .i64 M, .slice TT nt tc] _ (K40.out.row 1 rfl) (part2 (by rfl) (by rfl)) Tryd.underlying24 (by rfl) infoc_T ?_)
    | (refine at_load 24 (.tmp 11) (by rfl) ?_; refine wpListG_row (by rfl) 24 (.tmp 11) (by rfl) w20.heap.size (by rfl) 24 #[.int .i64 M, .slice A n c] _ (K40.out.row 0 rfl) Tryd.underlying24 (by rfl) infoc_T ?_)
    | (go_at_call 11; (with_reducible refine (l_same (b := true) (A := TT) (n := nt) (xs := X) (A' := A) (n' := n) (ys := xs) _ K40.out (by simp) (by simp) hnt.out (by have h := HNA.out (beq_eq_false_iff_ne.1 ‹(way == 1) = false›); rw [← h.1]; exact hsm.out)).mono ?_); rintro e w50 ⟨rfl, hb⟩; have K50 := Lib.hid (K40.out.on hb); have G50 := Lib.hid (below_step G40.out hb); clear hb K40 G40; refine Hid.out ?_))
  all_goals refine Lib.hid ?_
  all_goals
    go_wp2_with (first
      | go_skip
      | (refine at_load 24 (.tmp 4) (by rfl) ?_; refine wpListG_row (by rfl) 24 (.tmp 4) (by rfl) w.heap.size (by rfl) 24 #[.int .i64 M, .slice A n c] _ (K50.out.row 3 rfl) Tryd.underlying24 (by rfl) infoc_T ?_)
      | (go_at_call 15; (with_reducible refine (HAT.out _ (K50.out.fs (A := A) (n := n) (xs := xs) (by simp))).mono ?_); rintro e w51 ⟨rfl, hb⟩; have K51 := Lib.hid (K50.out.on hb); have G51 := Lib.hid (below_step G50.out hb); clear hb K50 G50; have K51b := Lib.hid (K51.out.boxg 38 #[.string ⟨#[]⟩, .string ⟨#[]⟩] w51.heap.size rfl); have hz51 : w.heap.size ≤ w51.heap.size := G51.out.size; have G51b := Lib.hid (G51.out.alloc hz51 (.cells #[.string ⟨#[]⟩, .string ⟨#[]⟩] 38)); clear K51 G51)
      | (refine at_store 38 (.tmp 12) (.tmp 87) (by rfl) ?_; refine wpList_put (by rfl) 38 (.tmp 12) (.tmp 87) (by rfl) w51.heap.size 0 (.agg #[.string ga, .string gb]) (by rfl) (by rfl) 38 #[.string ⟨#[]⟩, .string ⟨#[]⟩] #[.string ga, .string gb] (K51b.out.row 0 rfl) (by simp [Value.cells]) (by kernel_rfl) infoc_D (by kernel_rfl) ?_; intro w52 hrow hoth hz hbl; have K52 : Hid (EnvF w52 _ [(w51.heap.size, #[.string ga, .string gb], 38), (w20.heap.size, _, 24), (gX, #[.slice LL 1 cl, .bool false, .int .i64 M, .slice TT nt tc], 29), ((w.heap.size + 1), #[.string ⟨fa.toArray⟩, .string ⟨fb.toArray⟩], 38), (w.heap.size, #[.int .i64 M, .slice A n c], 24)]) := Lib.hid (K51b.out.turn 0 rfl hrow hoth hz); have G52 := Lib.hid (hbl _ _ (by omega) G51b.out); clear hrow hoth hz hbl K51b G51b)
      | (go_at_call 16; (with_reducible refine (l_put _ K52.out (u_Indexed i _ (Up.EnvF.mks K52.out (by simp))) hP.out.1 hP.out.2.1 hP.out.2.2).mono ?_); rintro e w53 ⟨A7, c7, rfl, hb, hE, HA70⟩; have K53 := Lib.hid hE; have HA7 := Lib.hid HA70; have G53 := Lib.hid (below_step G52.out hb); clear hb hE HA70 K52 G52)
      | (refine at_load 9 (.tmp 96) (by rfl) ?_; refine wpListG_get (by rfl) 9 (.tmp 96) (by rfl) (w.heap.size + 1) 1 (by rfl) 38 #[.string ⟨fa.toArray⟩, .string ⟨fb.toArray⟩] (.string ⟨fb.toArray⟩) _ (K53.out.row 3 rfl) (by rfl) Tryd.underlying9 (by rfl) ?_)
      | (go_at_call 17; (with_reducible refine (l_named _ K53.out (by simp) (by simp) (by omega) hQ.out.1 hQ.out.2.1 hQ.out.2.2).mono ?_); rintro e w54 ⟨A8, c8, rfl, hb, hE, HA80⟩; have K54 := Lib.hid hE; have HA8 := Lib.hid HA80; have G54 := Lib.hid (below_step G53.out hb); clear hb hE HA80 K53 G53)
      | (refine at_load 24 (.tmp 4) (by rfl) ?_; refine wpListG_row (by rfl) 24 (.tmp 4) (by rfl) w.heap.size (by rfl) 24 #[.int .i64 M, .slice A n c] _ (K54.out.row 4 rfl) Tryd.underlying24 (by rfl) infoc_T ?_)
      | (refine at_load 3 (.tmp 106) (by rfl) ?_; refine wpListG_get (by rfl) 3 (.tmp 106) (by rfl) w.heap.size 0 (by rfl) 24 #[.int .i64 M, .slice A n c] (.int .i64 M) _ (K54.out.row 4 rfl) (by rfl) Tryd.underlying3 (by rfl) ?_)
      | (go_at_call 9; (with_reducible refine (b_call (A := A) (n := n) (c := c) (LA := A7) (ln := kp) (lc := c7) _ HV2.out K54.out (by simp) HA7.out.1 HA7.out.2 (by simp) hN'.out (by simp) (by simp) (by simp) hF'.out (by omega)).mono ?_); rintro e w55 ⟨Ly, cly, Ty, tcy, rfl, hb, hE, hc0, HTLy0⟩; have K55 := Lib.hid hE; have HTLy := Lib.hid HTLy0; have G55 := Lib.hid (below_step G54.out hb); clear hb hE hc0 HTLy0 K54 G54; have K55b := Lib.hid (K55.out.boxg 29 #[.slice none 0 0, .bool false, .int .i64 0, .slice none 0 0] w55.heap.size rfl); have hz55 : w.heap.size ≤ w55.heap.size := G55.out.size; have G55b := Lib.hid (G55.out.alloc hz55 (.cells #[.slice none 0 0, .bool false, .int .i64 0, .slice none 0 0] 29)); clear K55 G55)
      | (refine at_store 29 (.tmp 18) (.tmp 110) (by rfl) ?_; refine wpList_put (by rfl) 29 (.tmp 18) (.tmp 110) (by rfl) w55.heap.size 0 (.agg #[.slice Ly ny cly, .bool yG, .int .i64 yM, .slice Ty nty tcy]) (by rfl) (by rfl) 29 #[.slice none 0 0, .bool false, .int .i64 0, .slice none 0 0] #[.slice Ly ny cly, .bool yG, .int .i64 yM, .slice Ty nty tcy] (K55b.out.row 0 rfl) (by simp [Value.cells]) (by kernel_rfl) infoc_U (by kernel_rfl) ?_; intro w56 hrow hoth hz hbl; have K56 : Hid (EnvF w56 _ [(w55.heap.size, #[.slice Ly ny cly, .bool yG, .int .i64 yM, .slice Ty nty tcy], 29), (w51.heap.size, #[.string ga, .string gb], 38), (w20.heap.size, _, 24), (gX, #[.slice LL 1 cl, .bool false, .int .i64 M, .slice TT nt tc], 29), ((w.heap.size + 1), #[.string ⟨fa.toArray⟩, .string ⟨fb.toArray⟩], 38), (w.heap.size, #[.int .i64 M, .slice A n c], 24)]) := Lib.hid (K55b.out.turn 0 rfl hrow hoth hz); have G56 := Lib.hid (hbl _ _ (by omega) G55b.out); clear hrow hoth hz hbl K55b G55b)
      | (go_at_call 8; (with_reducible refine (l_wakes _ K56.out (by simp) (by simp) (by simp)).mono ?_); rintro e w57 ⟨rfl, hb⟩; have K57 := Lib.hid (K56.out.on hb); have G57 := Lib.hid (below_step G56.out hb); clear hb K56 G56))
  all_goals
    go_ret
    exact ⟨rfl, G57.out⟩
set_option maxRecDepth 100000 in
set_option maxHeartbeats 8000000 in
theorem uf_n0 (M way i : Int) (A : Option Addr) (n c : Nat) (xs : List Fd) (fa fb : List UInt8) (w : World) (hV : EnvF w [fF A n xs, stF, rwF, mvF] []) (HG : Hid (∀ w0 : World, Fs w0 w0.heap.size A n xs → Calls Tryd.prog 6 #[.agg #[.int .i64 M, .slice A n c]] w0 fun e w' => e = .returned (.bool false) ∧ Below w0.heap.size w0 w')) (HRT : Hid (∀ w0 : World, Fs w0 w0.heap.size A n xs → Calls Tryd.prog 7 #[.agg #[.int .i64 M, .slice A n c]] w0 fun e w' => e = .returned (.bool true) ∧ Below w0.heap.size w0 w')) (hl : fa.length + fb.length ≤ 900) (hN : A = none → c = 0) (hF : full xs ≤ 20000) (hfl : (fldL fa fb way).length ≤ 6000) {nt : Nat} {X : List Fd} (HV1 : BK M M xs (fldL fa fb way) 0 1 [(⟨fa.toArray⟩, ⟨fb.toArray⟩)] false M nt X) (HAD : Hid (way = 1 → addM M xs = M ∧ addE M xs = 0 ∧ addL M xs (⟨fa.toArray⟩, ⟨fb.toArray⟩) = X ∧ X.length = nt)) (HNA : Hid (¬ way = 1 → X = xs ∧ nt = n)) (hnt : Hid (nt ≤ 1000000)) (hsz : Hid (sz (⟨fa.toArray⟩, ⟨fb.toArray⟩) ≤ 100000)) {ga gb : ByteArray} (HAT : Hid (∀ w0 : World, Fs w0 w0.heap.size A n xs → Calls Tryd.prog 15 #[.agg #[.int .i64 M, .slice A n c], .int .i64 i] w0 fun e w' => e = .returned (.tuple #[.agg #[.string ga, .string gb], .int .i64 90]) ∧ Below w0.heap.size w0 w')) {P Q : List UInt8} {kp kq : Nat} {jE : Int} (hP : Hid (putL i (7 : Nat) 128 = P ∧ putE i (7 : Nat) = 0 ∧ P.length = kp)) (hQ : Hid (nmL i fb way = Q ∧ nmE i way = jE ∧ Q.length = kq)) (hkp : kp ≤ 6000) (hkq : kq ≤ 6000) {yG : Bool} {yM : Int} {nty : Nat} {yX : List Fd} (HV2 : Hid (BK M M xs P 90 0 [] yG yM nty yX)) :
    Calls Tryd.prog 4 #[.agg #[.int .i64 M, .slice A n c], .agg #[.string ⟨fa.toArray⟩, .string ⟨fb.toArray⟩], .int .i64 way, .int .i64 i] w fun e w' => e = .returned (.bool true) ∧ Below w.heap.size w w' := by
  have K0 := Lib.hid (((hV).boxg 24 #[.int .i64 M, .slice A n c] w.heap.size (by simp)).boxg 38 #[.string ⟨fa.toArray⟩, .string ⟨fb.toArray⟩] (w.heap.size + 1) (by simp))
  have G0 := Lib.hid (((Below.refl w.heap.size w).alloc (by simp) (.cells #[.int .i64 M, .slice A n c] 24)).alloc (by simp) (.cells #[.string ⟨fa.toArray⟩, .string ⟨fb.toArray⟩] 38))
  have hF' := Lib.hid hF
  have hN' := Lib.hid hN
  have HV1' := Lib.hid HV1
  have hsm : Hid (sameB M X M X = true) := Lib.hid (by unfold sameB; simp)
  clear HV1 hF hN
  clear hV
  go_enter Tryd.func4, Tryd.ntmps4
  go_wp2_with (first
    | go_skip
    | (refine at_load 24 (.tmp 4) (by rfl) ?_; refine wpListG_row (by rfl) 24 (.tmp 4) (by rfl) w.heap.size (by rfl) 24 #[.int .i64 M, .slice A n c] _ (K0.out.row 1 rfl) Tryd.underlying24 (by rfl) infoc_T ?_)
    | (go_at_call 6; (with_reducible refine (HG.out _ (K0.out.fs (A := A) (n := n) (xs := xs) (by simp))).mono ?_); rintro e w1 ⟨rfl, hb⟩; have K1 := Lib.hid (K0.out.on hb); have G1 := Lib.hid (below_step G0.out hb); clear hb K0 G0)
    | (refine at_load 24 (.tmp 4) (by rfl) ?_; refine wpListG_row (by rfl) 24 (.tmp 4) (by rfl) w.heap.size (by rfl) 24 #[.int .i64 M, .slice A n c] _ (K1.out.row 1 rfl) Tryd.underlying24 (by rfl) infoc_T ?_)
    | (go_at_call 7; (with_reducible refine (HRT.out _ (K1.out.fs (A := A) (n := n) (xs := xs) (by simp))).mono ?_); rintro e w2 ⟨rfl, hb⟩; have K2 := Lib.hid (K1.out.on hb); have G2 := Lib.hid (below_step G1.out hb); clear hb K1 G1)
    | (refine at_load 9 (.tmp 33) (by rfl) ?_; refine wpListG_get (by rfl) 9 (.tmp 33) (by rfl) (w.heap.size + 1) 0 (by rfl) 38 #[.string ⟨fa.toArray⟩, .string ⟨fb.toArray⟩] (.string ⟨fa.toArray⟩) _ (K2.out.row 0 rfl) (by rfl) Tryd.underlying9 (by rfl) ?_)
    | (refine at_load 9 (.tmp 36) (by rfl) ?_; refine wpListG_get (by rfl) 9 (.tmp 36) (by rfl) (w.heap.size + 1) 1 (by rfl) 38 #[.string ⟨fa.toArray⟩, .string ⟨fb.toArray⟩] (.string ⟨fb.toArray⟩) _ (K2.out.row 0 rfl) (by rfl) Tryd.underlying9 (by rfl) ?_))
  refine f3_region (fa := fa) (fb := fb) (xs := xs) (by simp) (by simp) (by simp) (by simp) hN'.out hF'.out (List.mem_of_getElem? (i := 1) rfl) (List.mem_of_getElem? (i := 0) rfl) (by omega) (by omega) hfl HV1'.out (fun gX LL TT cl tc _ w20 K20' hcl htc hb => ?_) K2.out
  have K20 := Lib.hid K20'
  have G20 := Lib.hid (below_step G2.out.drew hb)
  clear K20' hcl htc hb K2 G2
  go_wp2_with (first
    | go_skip
    | (refine at_load 24 (.tmp 4) (by rfl) ?_; refine wpListG_row (by rfl) 24 (.tmp 4) (by rfl) w.heap.size (by rfl) 24 #[.int .i64 M, .slice A n c] _ (K20.out.row 2 rfl) Tryd.underlying24 (by rfl) infoc_T ?_; have K20b := Lib.hid (K20.out.boxg 24 #[.int .i64 0, .slice none 0 0] w20.heap.size rfl); have hz20 : w.heap.size ≤ w20.heap.size := G20.out.size; have G20b := Lib.hid (G20.out.alloc hz20 (.cells #[.int .i64 0, .slice none 0 0] 24)); clear K20 G20)
    | (refine at_store 24 (.tmp 11) (.tmp 53) (by rfl) ?_; refine wpList_put (by rfl) 24 (.tmp 11) (.tmp 53) (by rfl) w20.heap.size 0 (.agg #[.int .i64 M, .slice A n c]) (by rfl) (by rfl) 24 #[.int .i64 0, .slice none 0 0] #[.int .i64 M, .slice A n c] (K20b.out.row 0 rfl) (by simp [Value.cells]) (by kernel_rfl) infoc_T (by kernel_rfl) ?_; intro w21 hrow hoth hz hbl; have K21 : Hid (EnvF w21 _ [(w20.heap.size, #[.int .i64 M, .slice A n c], 24), (gX, #[.slice LL 1 cl, .bool false, .int .i64 M, .slice TT nt tc], 29), ((w.heap.size + 1), #[.string ⟨fa.toArray⟩, .string ⟨fb.toArray⟩], 38), (w.heap.size, #[.int .i64 M, .slice A n c], 24)]) := Lib.hid (K20b.out.turn 0 rfl hrow hoth hz); have G21 := Lib.hid (hbl _ _ (by omega) G20b.out); clear hrow hoth hz hbl K20b G20b)
    | (refine at_load 24 (.tmp 4) (by rfl) ?_; refine wpListG_row (by rfl) 24 (.tmp 4) (by rfl) w.heap.size (by rfl) 24 #[.int .i64 M, .slice A n c] _ (K21.out.row 3 rfl) Tryd.underlying24 (by rfl) infoc_T ?_)
    | (refine at_load 38 (.tmp 5) (by rfl) ?_; refine wpListG_row (by rfl) 38 (.tmp 5) (by rfl) (w.heap.size + 1) (by rfl) 38 #[.string ⟨fa.toArray⟩, .string ⟨fb.toArray⟩] _ (K21.out.row 2 rfl) Tryd.underlying38 (by rfl) infoc_D ?_)
    | (go_at_call 14; (with_reducible refine (l_add (A := A) (n := n) (xs := xs) (⟨fa.toArray⟩, ⟨fb.toArray⟩) _ K21.out (by simp) hN'.out (by have := hF'.out; omega) hsz.out (HAD.out (eq_of_beq ‹(way == 1) = true›)).1 (HAD.out (eq_of_beq ‹(way == 1) = true›)).2.1 (HAD.out (eq_of_beq ‹(way == 1) = true›)).2.2.1 (HAD.out (eq_of_beq ‹(way == 1) = true›)).2.2.2).mono ?_); rintro e w22 ⟨A5, c5, rfl, hb, hE, HA50⟩; have K22 := Lib.hid hE; have HA5 := Lib.hid HA50; have G22 := Lib.hid (below_step G21.out hb); clear hb hE HA50 K21 G21)
    | (refine at_store 24 (.tmp 11) (.tmp 60) (by rfl) ?_; refine wpList_put (by rfl) 24 (.tmp 11) (.tmp 60) (by rfl) w20.heap.size 0 (.agg #[.int .i64 M, .slice A5 nt c5]) (by rfl) (by rfl) 24 #[.int .i64 M, .slice A n c] #[.int .i64 M, .slice A5 nt c5] (K22.out.row 0 rfl) (by simp [Value.cells]) (by kernel_rfl) infoc_T (by kernel_rfl) ?_; intro w23 hrow hoth hz hbl; have K23 : Hid (EnvF w23 _ [(w20.heap.size, #[.int .i64 M, .slice A5 nt c5], 24), (gX, #[.slice LL 1 cl, .bool false, .int .i64 M, .slice TT nt tc], 29), ((w.heap.size + 1), #[.string ⟨fa.toArray⟩, .string ⟨fb.toArray⟩], 38), (w.heap.size, #[.int .i64 M, .slice A n c], 24)]) := Lib.hid (K22.out.turn 0 rfl hrow hoth hz); have G23 := Lib.hid (hbl _ _ (by omega) G22.out); clear hrow hoth hz hbl K22 G22)
    | (refine at_load 4 (.tmp 65) (by rfl) ?_; refine wpListG_get (by rfl) 4 (.tmp 65) (by rfl) gX 1 (by rfl) 29 #[.slice LL 1 cl, .bool false, .int .i64 M, .slice TT nt tc] (.bool false) _ (K23.out.row 1 rfl) (by rfl) Tryd.underlying4 (by rfl) ?_)
    | (refine at_load 22 (.tmp 69) (by rfl) ?_; refine wpListG_get (by rfl) 22 (.tmp 69) (by rfl) gX 0 (by rfl) 29 #[.slice LL 1 cl, .bool false, .int .i64 M, .slice TT nt tc] (.slice LL 1 cl) _ (K23.out.row 1 rfl) (by rfl) Tryd.underlying22 (by rfl) ?_)
    | (refine at_load 38 (.tmp 5) (by rfl) ?_; refine wpListG_row (by rfl) 38 (.tmp 5) (by rfl) (w.heap.size + 1) (by rfl) 38 #[.string ⟨fa.toArray⟩, .string ⟨fb.toArray⟩] _ (K23.out.row 2 rfl) Tryd.underlying38 (by rfl) infoc_D ?_)
    | (go_at_call 12; have K23l := Lib.hid (K23.out.litf 38 [(⟨fa.toArray⟩, ⟨fb.toArray⟩)] #[.string ⟨fa.toArray⟩, .string ⟨fb.toArray⟩] (by simp [fdc]) 1 rfl w23.heap.size rfl); have G23l := Lib.hid (G23.out.alloc G23.out.size (.cells #[.string ⟨fa.toArray⟩, .string ⟨fb.toArray⟩] 38)); (with_reducible refine (l_fields (A := LL) (n := 1) (xs := [(⟨fa.toArray⟩, ⟨fb.toArray⟩)]) (A' := (some ⟨w23.heap.size, 0, none⟩)) (n' := 1) (ys := [(⟨fa.toArray⟩, ⟨fb.toArray⟩)]) _ K23l.out (by simp) (by simp) (by omega) (decide_eq_true rfl)).mono ?_); rintro e w30 ⟨rfl, hb⟩; have K30 := Lib.hid (K23l.out.on hb); have G30 := Lib.hid (below_step G23l.out hb); clear hb K23 G23 K23l G23l)
    | (refine at_load 24 (.tmp 77) (by rfl) ?_; refine wpList_part (by rfl) 24 (.tmp 77) (by rfl) gX 2 (by rfl) 29 #[.slice LL 1 cl, .bool false, .int .i64 M, .slice TT nt tc] #[.int .i64 M, .slice TT nt tc] _ (K30.out.row 1 rfl) (part2 (by rfl) (by rfl)) Tryd.underlying24 (by rfl) infoc_T ?_)
    | (refine at_load 24 (.tmp 11) (by rfl) ?_; refine wpListG_row (by rfl) 24 (.tmp 11) (by rfl) w20.heap.size (by rfl) 24 #[.int .i64 M, .slice A5 nt c5] _ (K30.out.row 0 rfl) Tryd.underlying24 (by rfl) infoc_T ?_)
    | (go_at_call 11; (with_reducible refine (l_same (A := TT) (n := nt) (xs := X) (A' := A5) (n' := nt) (ys := X) _ K30.out (by simp) (by simp) hnt.out hsm.out).mono ?_); rintro e w50 ⟨rfl, hb⟩; have K50 := Lib.hid (K30.out.on hb); have G50 := Lib.hid (below_step G30.out hb); clear hb K30 G30; refine Hid.out ?_)
    | (refine at_load 4 (.tmp 65) (by rfl) ?_; refine wpListG_get (by rfl) 4 (.tmp 65) (by rfl) gX 1 (by rfl) 29 #[.slice LL 1 cl, .bool false, .int .i64 M, .slice TT nt tc] (.bool false) _ (K21.out.row 1 rfl) (by rfl) Tryd.underlying4 (by rfl) ?_)
    | (refine at_load 22 (.tmp 69) (by rfl) ?_; refine wpListG_get (by rfl) 22 (.tmp 69) (by rfl) gX 0 (by rfl) 29 #[.slice LL 1 cl, .bool false, .int .i64 M, .slice TT nt tc] (.slice LL 1 cl) _ (K21.out.row 1 rfl) (by rfl) Tryd.underlying22 (by rfl) ?_)
    | (refine at_load 38 (.tmp 5) (by rfl) ?_; refine wpListG_row (by rfl) 38 (.tmp 5) (by rfl) (w.heap.size + 1) (by rfl) 38 #[.string ⟨fa.toArray⟩, .string ⟨fb.toArray⟩] _ (K21.out.row 2 rfl) Tryd.underlying38 (by rfl) infoc_D ?_)
    | (go_at_call 12; have K21l := Lib.hid (K21.out.litf 38 [(⟨fa.toArray⟩, ⟨fb.toArray⟩)] #[.string ⟨fa.toArray⟩, .string ⟨fb.toArray⟩] (by simp [fdc]) 1 rfl w21.heap.size rfl); have G21l := Lib.hid (G21.out.alloc G21.out.size (.cells #[.string ⟨fa.toArray⟩, .string ⟨fb.toArray⟩] 38)); (with_reducible refine (l_fields (A := LL) (n := 1) (xs := [(⟨fa.toArray⟩, ⟨fb.toArray⟩)]) (A' := (some ⟨w21.heap.size, 0, none⟩)) (n' := 1) (ys := [(⟨fa.toArray⟩, ⟨fb.toArray⟩)]) _ K21l.out (by simp) (by simp) (by omega) (decide_eq_true rfl)).mono ?_); rintro e w40 ⟨rfl, hb⟩; have K40 := Lib.hid (K21l.out.on hb); have G40 := Lib.hid (below_step G21l.out hb); clear hb K21 G21 K21l G21l)
    | (refine at_load 24 (.tmp 77) (by rfl) ?_; refine wpList_part (by rfl) 24 (.tmp 77) (by rfl) gX 2 (by rfl) 29 #[.slice LL 1 cl, .bool false, .int .i64 M, .slice TT nt tc] #[.int .i64 M, .slice TT nt tc] _ (K40.out.row 1 rfl) (part2 (by rfl) (by rfl)) Tryd.underlying24 (by rfl) infoc_T ?_)
    | (refine at_load 24 (.tmp 11) (by rfl) ?_; refine wpListG_row (by rfl) 24 (.tmp 11) (by rfl) w20.heap.size (by rfl) 24 #[.int .i64 M, .slice A n c] _ (K40.out.row 0 rfl) Tryd.underlying24 (by rfl) infoc_T ?_)
    | (go_at_call 11; (with_reducible refine (l_same (b := true) (A := TT) (n := nt) (xs := X) (A' := A) (n' := n) (ys := xs) _ K40.out (by simp) (by simp) hnt.out (by have h := HNA.out (beq_eq_false_iff_ne.1 ‹(way == 1) = false›); rw [← h.1]; exact hsm.out)).mono ?_); rintro e w50 ⟨rfl, hb⟩; have K50 := Lib.hid (K40.out.on hb); have G50 := Lib.hid (below_step G40.out hb); clear hb K40 G40; refine Hid.out ?_))
  all_goals refine Lib.hid ?_
  all_goals
    go_wp2_with (first
      | go_skip
      | (refine at_load 24 (.tmp 4) (by rfl) ?_; refine wpListG_row (by rfl) 24 (.tmp 4) (by rfl) w.heap.size (by rfl) 24 #[.int .i64 M, .slice A n c] _ (K50.out.row 3 rfl) Tryd.underlying24 (by rfl) infoc_T ?_)
      | (go_at_call 15; (with_reducible refine (HAT.out _ (K50.out.fs (A := A) (n := n) (xs := xs) (by simp))).mono ?_); rintro e w51 ⟨rfl, hb⟩; have K51 := Lib.hid (K50.out.on hb); have G51 := Lib.hid (below_step G50.out hb); clear hb K50 G50; have K51b := Lib.hid (K51.out.boxg 38 #[.string ⟨#[]⟩, .string ⟨#[]⟩] w51.heap.size rfl); have hz51 : w.heap.size ≤ w51.heap.size := G51.out.size; have G51b := Lib.hid (G51.out.alloc hz51 (.cells #[.string ⟨#[]⟩, .string ⟨#[]⟩] 38)); clear K51 G51)
      | (refine at_store 38 (.tmp 12) (.tmp 87) (by rfl) ?_; refine wpList_put (by rfl) 38 (.tmp 12) (.tmp 87) (by rfl) w51.heap.size 0 (.agg #[.string ga, .string gb]) (by rfl) (by rfl) 38 #[.string ⟨#[]⟩, .string ⟨#[]⟩] #[.string ga, .string gb] (K51b.out.row 0 rfl) (by simp [Value.cells]) (by kernel_rfl) infoc_D (by kernel_rfl) ?_; intro w52 hrow hoth hz hbl; have K52 : Hid (EnvF w52 _ [(w51.heap.size, #[.string ga, .string gb], 38), (w20.heap.size, _, 24), (gX, #[.slice LL 1 cl, .bool false, .int .i64 M, .slice TT nt tc], 29), ((w.heap.size + 1), #[.string ⟨fa.toArray⟩, .string ⟨fb.toArray⟩], 38), (w.heap.size, #[.int .i64 M, .slice A n c], 24)]) := Lib.hid (K51b.out.turn 0 rfl hrow hoth hz); have G52 := Lib.hid (hbl _ _ (by omega) G51b.out); clear hrow hoth hz hbl K51b G51b)
      | (go_at_call 16; (with_reducible refine (l_put _ K52.out (u_Indexed i _ (Up.EnvF.mks K52.out (by simp))) hP.out.1 hP.out.2.1 hP.out.2.2).mono ?_); rintro e w53 ⟨A7, c7, rfl, hb, hE, HA70⟩; have K53 := Lib.hid hE; have HA7 := Lib.hid HA70; have G53 := Lib.hid (below_step G52.out hb); clear hb hE HA70 K52 G52)
      | (refine at_load 9 (.tmp 96) (by rfl) ?_; refine wpListG_get (by rfl) 9 (.tmp 96) (by rfl) (w.heap.size + 1) 1 (by rfl) 38 #[.string ⟨fa.toArray⟩, .string ⟨fb.toArray⟩] (.string ⟨fb.toArray⟩) _ (K53.out.row 3 rfl) (by rfl) Tryd.underlying9 (by rfl) ?_)
      | (go_at_call 17; (with_reducible refine (l_named _ K53.out (by simp) (by simp) (by omega) hQ.out.1 hQ.out.2.1 hQ.out.2.2).mono ?_); rintro e w54 ⟨A8, c8, rfl, hb, hE, HA80⟩; have K54 := Lib.hid hE; have HA8 := Lib.hid HA80; have G54 := Lib.hid (below_step G53.out hb); clear hb hE HA80 K53 G53)
      | (refine at_load 24 (.tmp 4) (by rfl) ?_; refine wpListG_row (by rfl) 24 (.tmp 4) (by rfl) w.heap.size (by rfl) 24 #[.int .i64 M, .slice A n c] _ (K54.out.row 4 rfl) Tryd.underlying24 (by rfl) infoc_T ?_)
      | (refine at_load 3 (.tmp 106) (by rfl) ?_; refine wpListG_get (by rfl) 3 (.tmp 106) (by rfl) w.heap.size 0 (by rfl) 24 #[.int .i64 M, .slice A n c] (.int .i64 M) _ (K54.out.row 4 rfl) (by rfl) Tryd.underlying3 (by rfl) ?_)
      | (go_at_call 9; (with_reducible refine (b_call (A := A) (n := n) (c := c) (LA := A7) (ln := kp) (lc := c7) _ HV2.out K54.out (by simp) HA7.out.1 HA7.out.2 (by simp) hN'.out (by simp) (by simp) (by simp) hF'.out (by omega)).mono ?_); rintro e w55 ⟨Ly, cly, Ty, tcy, rfl, hb, hE, hc0, HTLy0⟩; have K55 := Lib.hid hE; have HTLy := Lib.hid HTLy0; have G55 := Lib.hid (below_step G54.out hb); clear hb hE hc0 HTLy0 K54 G54; have K55b := Lib.hid (K55.out.boxg 29 #[.slice none 0 0, .bool false, .int .i64 0, .slice none 0 0] w55.heap.size rfl); have hz55 : w.heap.size ≤ w55.heap.size := G55.out.size; have G55b := Lib.hid (G55.out.alloc hz55 (.cells #[.slice none 0 0, .bool false, .int .i64 0, .slice none 0 0] 29)); clear K55 G55)
      | (refine at_store 29 (.tmp 18) (.tmp 110) (by rfl) ?_; refine wpList_put (by rfl) 29 (.tmp 18) (.tmp 110) (by rfl) w55.heap.size 0 (.agg #[.slice Ly 0 cly, .bool yG, .int .i64 yM, .slice Ty nty tcy]) (by rfl) (by rfl) 29 #[.slice none 0 0, .bool false, .int .i64 0, .slice none 0 0] #[.slice Ly 0 cly, .bool yG, .int .i64 yM, .slice Ty nty tcy] (K55b.out.row 0 rfl) (by simp [Value.cells]) (by kernel_rfl) infoc_U (by kernel_rfl) ?_; intro w56 hrow hoth hz hbl; have K56 : Hid (EnvF w56 _ [(w55.heap.size, #[.slice Ly 0 cly, .bool yG, .int .i64 yM, .slice Ty nty tcy], 29), (w51.heap.size, #[.string ga, .string gb], 38), (w20.heap.size, _, 24), (gX, #[.slice LL 1 cl, .bool false, .int .i64 M, .slice TT nt tc], 29), ((w.heap.size + 1), #[.string ⟨fa.toArray⟩, .string ⟨fb.toArray⟩], 38), (w.heap.size, #[.int .i64 M, .slice A n c], 24)]) := Lib.hid (K55b.out.turn 0 rfl hrow hoth hz); have G56 := Lib.hid (hbl _ _ (by omega) G55b.out); clear hrow hoth hz hbl K55b G55b)
      | (refine at_load 22 (.tmp 118) (by rfl) ?_; refine wpListG_get (by rfl) 22 (.tmp 118) (by rfl) w55.heap.size 0 (by rfl) 29 #[.slice Ly 0 cly, .bool yG, .int .i64 yM, .slice Ty nty tcy] (.slice Ly 0 cly) _ (K56.out.row 0 rfl) (by rfl) Tryd.underlying22 (by rfl) ?_)
      | (go_at_call 8; (with_reducible refine (l_wakes _ K56.out (by simp) (by simp) (by simp)).mono ?_); rintro e w57 ⟨rfl, hb⟩; have K57 := Lib.hid (K56.out.on hb); have G57 := Lib.hid (below_step G56.out hb); clear hb K56 G56))
  all_goals
    go_ret
    exact ⟨rfl, G57.out⟩
set_option maxRecDepth 100000 in
set_option maxHeartbeats 40000000 in
theorem uf_yes (M way i : Int) (A : Option Addr) (n c : Nat) (xs : List Fd) (fa fb : List UInt8) (w : World) (hV : EnvF w [fF A n xs, stF, rwF, mvF] []) (HG : Hid (∀ w0 : World, Fs w0 w0.heap.size A n xs → Calls Tryd.prog 6 #[.agg #[.int .i64 M, .slice A n c]] w0 fun e w' => e = .returned (.bool false) ∧ Below w0.heap.size w0 w')) (HRT : Hid (∀ w0 : World, Fs w0 w0.heap.size A n xs → Calls Tryd.prog 7 #[.agg #[.int .i64 M, .slice A n c]] w0 fun e w' => e = .returned (.bool true) ∧ Below w0.heap.size w0 w')) (hl : fa.length + fb.length ≤ 900) (hN : A = none → c = 0) (hF : full xs ≤ 20000) (hfl : (fldL fa fb way).length ≤ 6000) {nt : Nat} {X : List Fd} (HV1 : BK M M xs (fldL fa fb way) 0 1 [(⟨fa.toArray⟩, ⟨fb.toArray⟩)] false M nt X) (HAD : Hid (way = 1 → addM M xs = M ∧ addE M xs = 0 ∧ addL M xs (⟨fa.toArray⟩, ⟨fb.toArray⟩) = X ∧ X.length = nt)) (HNA : Hid (¬ way = 1 → X = xs ∧ nt = n)) (hnt : Hid (nt ≤ 1000000)) (hsz : Hid (sz (⟨fa.toArray⟩, ⟨fb.toArray⟩) ≤ 100000)) {ga gb : ByteArray} (HAT : Hid (∀ w0 : World, Fs w0 w0.heap.size A n xs → Calls Tryd.prog 15 #[.agg #[.int .i64 M, .slice A n c], .int .i64 i] w0 fun e w' => e = .returned (.tuple #[.agg #[.string ga, .string gb], .int .i64 0]) ∧ Below w0.heap.size w0 w')) {P Q : List UInt8} {kp kq : Nat}  (hP : Hid (putL i (7 : Nat) 128 = P ∧ putE i (7 : Nat) = 0 ∧ P.length = kp)) (hQ : Hid (nmL i fb way = Q ∧ nmE i way = 0 ∧ Q.length = kq)) (hkp : kp ≤ 6000) (hkq : kq ≤ 6000) {yG zG : Bool} {zM : Int} {ny nz ntz sg sn : Nat} {yL zL zX : List Fd} (HV2 : Hid (BK M M xs P 0 ny yL yG M n xs)) (HV3 : Hid (BK M M xs Q 0 nz zL zG zM ntz zX)) (HSG : Hid (∀ w0 : World, Calls Tryd.prog 18 #[.agg #[.string ga, .string gb]] w0 fun e w' => e = .returned (.int .i64 (sg : Int)) ∧ Below w0.heap.size w0 w')) (HSN : Hid (∀ w0 : World, Calls Tryd.prog 18 #[.agg #[.string ga, .string ⟨fb.toArray⟩]] w0 fun e w' => e = .returned (.int .i64 (sn : Int)) ∧ Below w0.heap.size w0 w')) (b1 b2 : Bool) (hb1 : decide ((2000 : Int) < (sg : Int)) = b1) (hb2 : decide ((2000 : Int) < (sn : Int)) = b2) (HLY : Hid (b1 = false → yL = [(ga, gb)])) (HLZ : Hid (b2 = false → zL = [(ga, ⟨fb.toArray⟩)])) (hny : Hid (ny ≤ 1000000)) (hnz : Hid (nz ≤ 1000000)) (hn0 : Hid (n ≤ 1000000)) (hsm0 : Hid (sameB M xs M xs = true)) :
    Calls Tryd.prog 4 #[.agg #[.int .i64 M, .slice A n c], .agg #[.string ⟨fa.toArray⟩, .string ⟨fb.toArray⟩], .int .i64 way, .int .i64 i] w fun e w' => e = .returned (.bool true) ∧ Below w.heap.size w w' := by
  cases b1 <;> cases b2
  all_goals
    have K0 := Lib.hid (((hV).boxg 24 #[.int .i64 M, .slice A n c] w.heap.size (by simp)).boxg 38 #[.string ⟨fa.toArray⟩, .string ⟨fb.toArray⟩] (w.heap.size + 1) (by simp))
    have G0 := Lib.hid (((Below.refl w.heap.size w).alloc (by simp) (.cells #[.int .i64 M, .slice A n c] 24)).alloc (by simp) (.cells #[.string ⟨fa.toArray⟩, .string ⟨fb.toArray⟩] 38))
    have hF' := Lib.hid hF
    have hN' := Lib.hid hN
    have HV1' := Lib.hid HV1
    have hsm : Hid (sameB M X M X = true) := Lib.hid (by unfold sameB; simp)
    clear HV1 hF hN
    clear hV
    go_enter Tryd.func4, Tryd.ntmps4
    go_wp2_with (first
      | go_skip
      | (refine at_load 24 (.tmp 4) (by rfl) ?_; refine wpListG_row (by rfl) 24 (.tmp 4) (by rfl) w.heap.size (by rfl) 24 #[.int .i64 M, .slice A n c] _ (K0.out.row 1 rfl) Tryd.underlying24 (by rfl) infoc_T ?_)
      | (go_at_call 6; (with_reducible refine (HG.out _ (K0.out.fs (A := A) (n := n) (xs := xs) (by simp))).mono ?_); rintro e w1 ⟨rfl, hb⟩; have K1 := Lib.hid (K0.out.on hb); have G1 := Lib.hid (below_step G0.out hb); clear hb K0 G0)
      | (refine at_load 24 (.tmp 4) (by rfl) ?_; refine wpListG_row (by rfl) 24 (.tmp 4) (by rfl) w.heap.size (by rfl) 24 #[.int .i64 M, .slice A n c] _ (K1.out.row 1 rfl) Tryd.underlying24 (by rfl) infoc_T ?_)
      | (go_at_call 7; (with_reducible refine (HRT.out _ (K1.out.fs (A := A) (n := n) (xs := xs) (by simp))).mono ?_); rintro e w2 ⟨rfl, hb⟩; have K2 := Lib.hid (K1.out.on hb); have G2 := Lib.hid (below_step G1.out hb); clear hb K1 G1)
      | (refine at_load 9 (.tmp 33) (by rfl) ?_; refine wpListG_get (by rfl) 9 (.tmp 33) (by rfl) (w.heap.size + 1) 0 (by rfl) 38 #[.string ⟨fa.toArray⟩, .string ⟨fb.toArray⟩] (.string ⟨fa.toArray⟩) _ (K2.out.row 0 rfl) (by rfl) Tryd.underlying9 (by rfl) ?_)
      | (refine at_load 9 (.tmp 36) (by rfl) ?_; refine wpListG_get (by rfl) 9 (.tmp 36) (by rfl) (w.heap.size + 1) 1 (by rfl) 38 #[.string ⟨fa.toArray⟩, .string ⟨fb.toArray⟩] (.string ⟨fb.toArray⟩) _ (K2.out.row 0 rfl) (by rfl) Tryd.underlying9 (by rfl) ?_))
    refine f3_region (fa := fa) (fb := fb) (xs := xs) (by simp) (by simp) (by simp) (by simp) hN'.out hF'.out (List.mem_of_getElem? (i := 1) rfl) (List.mem_of_getElem? (i := 0) rfl) (by omega) (by omega) hfl HV1'.out (fun gX LL TT cl tc _ w20 K20' hcl htc hb => ?_) K2.out
    have K20 := Lib.hid K20'
    have G20 := Lib.hid (below_step G2.out.drew hb)
    clear K20' hcl htc hb K2 G2
    go_wp2_with (first
      | go_skip
      | (refine at_load 24 (.tmp 4) (by rfl) ?_; refine wpListG_row (by rfl) 24 (.tmp 4) (by rfl) w.heap.size (by rfl) 24 #[.int .i64 M, .slice A n c] _ (K20.out.row 2 rfl) Tryd.underlying24 (by rfl) infoc_T ?_; have K20b := Lib.hid (K20.out.boxg 24 #[.int .i64 0, .slice none 0 0] w20.heap.size rfl); have hz20 : w.heap.size ≤ w20.heap.size := G20.out.size; have G20b := Lib.hid (G20.out.alloc hz20 (.cells #[.int .i64 0, .slice none 0 0] 24)); clear K20 G20)
      | (refine at_store 24 (.tmp 11) (.tmp 53) (by rfl) ?_; refine wpList_put (by rfl) 24 (.tmp 11) (.tmp 53) (by rfl) w20.heap.size 0 (.agg #[.int .i64 M, .slice A n c]) (by rfl) (by rfl) 24 #[.int .i64 0, .slice none 0 0] #[.int .i64 M, .slice A n c] (K20b.out.row 0 rfl) (by simp [Value.cells]) (by kernel_rfl) infoc_T (by kernel_rfl) ?_; intro w21 hrow hoth hz hbl; have K21 : Hid (EnvF w21 _ [(w20.heap.size, #[.int .i64 M, .slice A n c], 24), (gX, #[.slice LL 1 cl, .bool false, .int .i64 M, .slice TT nt tc], 29), ((w.heap.size + 1), #[.string ⟨fa.toArray⟩, .string ⟨fb.toArray⟩], 38), (w.heap.size, #[.int .i64 M, .slice A n c], 24)]) := Lib.hid (K20b.out.turn 0 rfl hrow hoth hz); have G21 := Lib.hid (hbl _ _ (by omega) G20b.out); clear hrow hoth hz hbl K20b G20b)
      | (refine at_load 24 (.tmp 4) (by rfl) ?_; refine wpListG_row (by rfl) 24 (.tmp 4) (by rfl) w.heap.size (by rfl) 24 #[.int .i64 M, .slice A n c] _ (K21.out.row 3 rfl) Tryd.underlying24 (by rfl) infoc_T ?_)
      | (refine at_load 38 (.tmp 5) (by rfl) ?_; refine wpListG_row (by rfl) 38 (.tmp 5) (by rfl) (w.heap.size + 1) (by rfl) 38 #[.string ⟨fa.toArray⟩, .string ⟨fb.toArray⟩] _ (K21.out.row 2 rfl) Tryd.underlying38 (by rfl) infoc_D ?_)
      | (go_at_call 14; (with_reducible refine (l_add (A := A) (n := n) (xs := xs) (⟨fa.toArray⟩, ⟨fb.toArray⟩) _ K21.out (by simp) hN'.out (by have := hF'.out; omega) hsz.out (HAD.out (eq_of_beq ‹(way == 1) = true›)).1 (HAD.out (eq_of_beq ‹(way == 1) = true›)).2.1 (HAD.out (eq_of_beq ‹(way == 1) = true›)).2.2.1 (HAD.out (eq_of_beq ‹(way == 1) = true›)).2.2.2).mono ?_); rintro e w22 ⟨A5, c5, rfl, hb, hE, HA50⟩; have K22 := Lib.hid hE; have HA5 := Lib.hid HA50; have G22 := Lib.hid (below_step G21.out hb); clear hb hE HA50 K21 G21)
      | (refine at_store 24 (.tmp 11) (.tmp 60) (by rfl) ?_; refine wpList_put (by rfl) 24 (.tmp 11) (.tmp 60) (by rfl) w20.heap.size 0 (.agg #[.int .i64 M, .slice A5 nt c5]) (by rfl) (by rfl) 24 #[.int .i64 M, .slice A n c] #[.int .i64 M, .slice A5 nt c5] (K22.out.row 0 rfl) (by simp [Value.cells]) (by kernel_rfl) infoc_T (by kernel_rfl) ?_; intro w23 hrow hoth hz hbl; have K23 : Hid (EnvF w23 _ [(w20.heap.size, #[.int .i64 M, .slice A5 nt c5], 24), (gX, #[.slice LL 1 cl, .bool false, .int .i64 M, .slice TT nt tc], 29), ((w.heap.size + 1), #[.string ⟨fa.toArray⟩, .string ⟨fb.toArray⟩], 38), (w.heap.size, #[.int .i64 M, .slice A n c], 24)]) := Lib.hid (K22.out.turn 0 rfl hrow hoth hz); have G23 := Lib.hid (hbl _ _ (by omega) G22.out); clear hrow hoth hz hbl K22 G22)
      | (refine at_load 4 (.tmp 65) (by rfl) ?_; refine wpListG_get (by rfl) 4 (.tmp 65) (by rfl) gX 1 (by rfl) 29 #[.slice LL 1 cl, .bool false, .int .i64 M, .slice TT nt tc] (.bool false) _ (K23.out.row 1 rfl) (by rfl) Tryd.underlying4 (by rfl) ?_)
      | (refine at_load 22 (.tmp 69) (by rfl) ?_; refine wpListG_get (by rfl) 22 (.tmp 69) (by rfl) gX 0 (by rfl) 29 #[.slice LL 1 cl, .bool false, .int .i64 M, .slice TT nt tc] (.slice LL 1 cl) _ (K23.out.row 1 rfl) (by rfl) Tryd.underlying22 (by rfl) ?_)
      | (refine at_load 38 (.tmp 5) (by rfl) ?_; refine wpListG_row (by rfl) 38 (.tmp 5) (by rfl) (w.heap.size + 1) (by rfl) 38 #[.string ⟨fa.toArray⟩, .string ⟨fb.toArray⟩] _ (K23.out.row 2 rfl) Tryd.underlying38 (by rfl) infoc_D ?_)
      | (go_at_call 12; have K23l := Lib.hid (K23.out.litf 38 [(⟨fa.toArray⟩, ⟨fb.toArray⟩)] #[.string ⟨fa.toArray⟩, .string ⟨fb.toArray⟩] (by simp [fdc]) 1 rfl w23.heap.size rfl); have G23l := Lib.hid (G23.out.alloc G23.out.size (.cells #[.string ⟨fa.toArray⟩, .string ⟨fb.toArray⟩] 38)); (with_reducible refine (l_fields (A := LL) (n := 1) (xs := [(⟨fa.toArray⟩, ⟨fb.toArray⟩)]) (A' := (some ⟨w23.heap.size, 0, none⟩)) (n' := 1) (ys := [(⟨fa.toArray⟩, ⟨fb.toArray⟩)]) _ K23l.out (by simp) (by simp) (by omega) (decide_eq_true rfl)).mono ?_); rintro e w30 ⟨rfl, hb⟩; have K30 := Lib.hid (K23l.out.on hb); have G30 := Lib.hid (below_step G23l.out hb); clear hb K23 G23 K23l G23l)
      | (refine at_load 24 (.tmp 77) (by rfl) ?_; refine wpList_part (by rfl) 24 (.tmp 77) (by rfl) gX 2 (by rfl) 29 #[.slice LL 1 cl, .bool false, .int .i64 M, .slice TT nt tc] #[.int .i64 M, .slice TT nt tc] _ (K30.out.row 1 rfl) (part2 (by rfl) (by rfl)) Tryd.underlying24 (by rfl) infoc_T ?_)
      | (refine at_load 24 (.tmp 11) (by rfl) ?_; refine wpListG_row (by rfl) 24 (.tmp 11) (by rfl) w20.heap.size (by rfl) 24 #[.int .i64 M, .slice A5 nt c5] _ (K30.out.row 0 rfl) Tryd.underlying24 (by rfl) infoc_T ?_)
      | (go_at_call 11; (with_reducible refine (l_same (A := TT) (n := nt) (xs := X) (A' := A5) (n' := nt) (ys := X) _ K30.out (by simp) (by simp) hnt.out hsm.out).mono ?_); rintro e w50 ⟨rfl, hb⟩; have K50 := Lib.hid (K30.out.on hb); have G50 := Lib.hid (below_step G30.out hb); clear hb K30 G30; refine Hid.out ?_)
      | (refine at_load 4 (.tmp 65) (by rfl) ?_; refine wpListG_get (by rfl) 4 (.tmp 65) (by rfl) gX 1 (by rfl) 29 #[.slice LL 1 cl, .bool false, .int .i64 M, .slice TT nt tc] (.bool false) _ (K21.out.row 1 rfl) (by rfl) Tryd.underlying4 (by rfl) ?_)
      | (refine at_load 22 (.tmp 69) (by rfl) ?_; refine wpListG_get (by rfl) 22 (.tmp 69) (by rfl) gX 0 (by rfl) 29 #[.slice LL 1 cl, .bool false, .int .i64 M, .slice TT nt tc] (.slice LL 1 cl) _ (K21.out.row 1 rfl) (by rfl) Tryd.underlying22 (by rfl) ?_)
      | (refine at_load 38 (.tmp 5) (by rfl) ?_; refine wpListG_row (by rfl) 38 (.tmp 5) (by rfl) (w.heap.size + 1) (by rfl) 38 #[.string ⟨fa.toArray⟩, .string ⟨fb.toArray⟩] _ (K21.out.row 2 rfl) Tryd.underlying38 (by rfl) infoc_D ?_)
      | (go_at_call 12; have K21l := Lib.hid (K21.out.litf 38 [(⟨fa.toArray⟩, ⟨fb.toArray⟩)] #[.string ⟨fa.toArray⟩, .string ⟨fb.toArray⟩] (by simp [fdc]) 1 rfl w21.heap.size rfl); have G21l := Lib.hid (G21.out.alloc G21.out.size (.cells #[.string ⟨fa.toArray⟩, .string ⟨fb.toArray⟩] 38)); (with_reducible refine (l_fields (A := LL) (n := 1) (xs := [(⟨fa.toArray⟩, ⟨fb.toArray⟩)]) (A' := (some ⟨w21.heap.size, 0, none⟩)) (n' := 1) (ys := [(⟨fa.toArray⟩, ⟨fb.toArray⟩)]) _ K21l.out (by simp) (by simp) (by omega) (decide_eq_true rfl)).mono ?_); rintro e w40 ⟨rfl, hb⟩; have K40 := Lib.hid (K21l.out.on hb); have G40 := Lib.hid (below_step G21l.out hb); clear hb K21 G21 K21l G21l)
      | (refine at_load 24 (.tmp 77) (by rfl) ?_; refine wpList_part (by rfl) 24 (.tmp 77) (by rfl) gX 2 (by rfl) 29 #[.slice LL 1 cl, .bool false, .int .i64 M, .slice TT nt tc] #[.int .i64 M, .slice TT nt tc] _ (K40.out.row 1 rfl) (part2 (by rfl) (by rfl)) Tryd.underlying24 (by rfl) infoc_T ?_)
      | (refine at_load 24 (.tmp 11) (by rfl) ?_; refine wpListG_row (by rfl) 24 (.tmp 11) (by rfl) w20.heap.size (by rfl) 24 #[.int .i64 M, .slice A n c] _ (K40.out.row 0 rfl) Tryd.underlying24 (by rfl) infoc_T ?_)
      | (go_at_call 11; (with_reducible refine (l_same (b := true) (A := TT) (n := nt) (xs := X) (A' := A) (n' := n) (ys := xs) _ K40.out (by simp) (by simp) hnt.out (by have h := HNA.out (beq_eq_false_iff_ne.1 ‹(way == 1) = false›); rw [← h.1]; exact hsm.out)).mono ?_); rintro e w50 ⟨rfl, hb⟩; have K50 := Lib.hid (K40.out.on hb); have G50 := Lib.hid (below_step G40.out hb); clear hb K40 G40; refine Hid.out ?_))
    all_goals refine Lib.hid ?_
    all_goals
      go_wp2_with (first
        | go_skip
        | (refine at_load 24 (.tmp 4) (by rfl) ?_; refine wpListG_row (by rfl) 24 (.tmp 4) (by rfl) w.heap.size (by rfl) 24 #[.int .i64 M, .slice A n c] _ (K50.out.row 3 rfl) Tryd.underlying24 (by rfl) infoc_T ?_)
        | (go_at_call 15; (with_reducible refine (HAT.out _ (K50.out.fs (A := A) (n := n) (xs := xs) (by simp))).mono ?_); rintro e w51 ⟨rfl, hb⟩; have K51 := Lib.hid (K50.out.on hb); have G51 := Lib.hid (below_step G50.out hb); clear hb K50 G50; have K51b := Lib.hid (K51.out.boxg 38 #[.string ⟨#[]⟩, .string ⟨#[]⟩] w51.heap.size rfl); have hz51 : w.heap.size ≤ w51.heap.size := G51.out.size; have G51b := Lib.hid (G51.out.alloc hz51 (.cells #[.string ⟨#[]⟩, .string ⟨#[]⟩] 38)); clear K51 G51)
        | (refine at_store 38 (.tmp 12) (.tmp 87) (by rfl) ?_; refine wpList_put (by rfl) 38 (.tmp 12) (.tmp 87) (by rfl) w51.heap.size 0 (.agg #[.string ga, .string gb]) (by rfl) (by rfl) 38 #[.string ⟨#[]⟩, .string ⟨#[]⟩] #[.string ga, .string gb] (K51b.out.row 0 rfl) (by simp [Value.cells]) (by kernel_rfl) infoc_D (by kernel_rfl) ?_; intro w52 hrow hoth hz hbl; have K52 : Hid (EnvF w52 _ [(w51.heap.size, #[.string ga, .string gb], 38), (w20.heap.size, _, 24), (gX, #[.slice LL 1 cl, .bool false, .int .i64 M, .slice TT nt tc], 29), ((w.heap.size + 1), #[.string ⟨fa.toArray⟩, .string ⟨fb.toArray⟩], 38), (w.heap.size, #[.int .i64 M, .slice A n c], 24)]) := Lib.hid (K51b.out.turn 0 rfl hrow hoth hz); have G52 := Lib.hid (hbl _ _ (by omega) G51b.out); clear hrow hoth hz hbl K51b G51b)
        | (go_at_call 16; (with_reducible refine (l_put _ K52.out (u_Indexed i _ (Up.EnvF.mks K52.out (by simp))) hP.out.1 hP.out.2.1 hP.out.2.2).mono ?_); rintro e w53 ⟨A7, c7, rfl, hb, hE, HA70⟩; have K53 := Lib.hid hE; have HA7 := Lib.hid HA70; have G53 := Lib.hid (below_step G52.out hb); clear hb hE HA70 K52 G52)
        | (refine at_load 9 (.tmp 96) (by rfl) ?_; refine wpListG_get (by rfl) 9 (.tmp 96) (by rfl) (w.heap.size + 1) 1 (by rfl) 38 #[.string ⟨fa.toArray⟩, .string ⟨fb.toArray⟩] (.string ⟨fb.toArray⟩) _ (K53.out.row 3 rfl) (by rfl) Tryd.underlying9 (by rfl) ?_)
        | (go_at_call 17; (with_reducible refine (l_named _ K53.out (by simp) (by simp) (by omega) hQ.out.1 hQ.out.2.1 hQ.out.2.2).mono ?_); rintro e w54 ⟨A8, c8, rfl, hb, hE, HA80⟩; have K54 := Lib.hid hE; have HA8 := Lib.hid HA80; have G54 := Lib.hid (below_step G53.out hb); clear hb hE HA80 K53 G53)
        | (refine at_load 24 (.tmp 4) (by rfl) ?_; refine wpListG_row (by rfl) 24 (.tmp 4) (by rfl) w.heap.size (by rfl) 24 #[.int .i64 M, .slice A n c] _ (K54.out.row 4 rfl) Tryd.underlying24 (by rfl) infoc_T ?_)
        | (refine at_load 3 (.tmp 129) (by rfl) ?_; refine wpListG_get (by rfl) 3 (.tmp 129) (by rfl) w.heap.size 0 (by rfl) 24 #[.int .i64 M, .slice A n c] (.int .i64 M) _ (K54.out.row 4 rfl) (by rfl) Tryd.underlying3 (by rfl) ?_)
        | (go_at_call 9; (with_reducible refine (b_call (A := A) (n := n) (c := c) (LA := A7) (ln := kp) (lc := c7) _ HV2.out K54.out (by simp) HA7.out.1 HA7.out.2 (by simp) hN'.out (by simp) (by simp) (by simp) hF'.out (by omega)).mono ?_); rintro e w55 ⟨Ly, cly, Ty, tcy, rfl, hb, hE, hc0, HTLy0⟩; have K55 := Lib.hid hE; have HTLy := Lib.hid HTLy0; have G55 := Lib.hid (below_step G54.out hb); clear hb hE hc0 HTLy0 K54 G54; have K55b := Lib.hid (K55.out.boxg 29 #[.slice none 0 0, .bool false, .int .i64 0, .slice none 0 0] w55.heap.size rfl); have hz55 : w.heap.size ≤ w55.heap.size := G55.out.size; have G55b := Lib.hid (G55.out.alloc hz55 (.cells #[.slice none 0 0, .bool false, .int .i64 0, .slice none 0 0] 29)); clear K55 G55)
        | (refine at_store 29 (.tmp 20) (.tmp 133) (by rfl) ?_; refine wpList_put (by rfl) 29 (.tmp 20) (.tmp 133) (by rfl) w55.heap.size 0 (.agg #[.slice Ly ny cly, .bool yG, .int .i64 M, .slice Ty n tcy]) (by rfl) (by rfl) 29 #[.slice none 0 0, .bool false, .int .i64 0, .slice none 0 0] #[.slice Ly ny cly, .bool yG, .int .i64 M, .slice Ty n tcy] (K55b.out.row 0 rfl) (by simp [Value.cells]) (by kernel_rfl) infoc_U (by kernel_rfl) ?_; intro w56 hrow hoth hz hbl; have K56 : Hid (EnvF w56 _ [(w55.heap.size, #[.slice Ly ny cly, .bool yG, .int .i64 M, .slice Ty n tcy], 29), (w51.heap.size, #[.string ga, .string gb], 38), (w20.heap.size, _, 24), (gX, #[.slice LL 1 cl, .bool false, .int .i64 M, .slice TT nt tc], 29), ((w.heap.size + 1), #[.string ⟨fa.toArray⟩, .string ⟨fb.toArray⟩], 38), (w.heap.size, #[.int .i64 M, .slice A n c], 24)]) := Lib.hid (K55b.out.turn 0 rfl hrow hoth hz); have G56 := Lib.hid (hbl _ _ (by omega) G55b.out); clear hrow hoth hz hbl K55b G55b)
        | (refine at_load 24 (.tmp 4) (by rfl) ?_; refine wpListG_row (by rfl) 24 (.tmp 4) (by rfl) w.heap.size (by rfl) 24 #[.int .i64 M, .slice A n c] _ (K56.out.row 5 rfl) Tryd.underlying24 (by rfl) infoc_T ?_)
        | (refine at_load 3 (.tmp 137) (by rfl) ?_; refine wpListG_get (by rfl) 3 (.tmp 137) (by rfl) w.heap.size 0 (by rfl) 24 #[.int .i64 M, .slice A n c] (.int .i64 M) _ (K56.out.row 5 rfl) (by rfl) Tryd.underlying3 (by rfl) ?_)
        | (go_at_call 9; (with_reducible refine (b_call (A := A) (n := n) (c := c) (LA := A8) (ln := kq) (lc := c8) _ HV3.out K56.out (by simp) HA8.out.1 HA8.out.2 (by simp) hN'.out (by simp) (by simp) (by simp) hF'.out (by omega)).mono ?_); rintro e w57 ⟨Lz, clz, Tz, tcz, rfl, hb, hE, hc0, HTLz0⟩; have K57 := Lib.hid hE; have HTLz := Lib.hid HTLz0; have G57 := Lib.hid (below_step G56.out hb); clear hb hE hc0 HTLz0 K56 G56; have K57b := Lib.hid (K57.out.boxg 29 #[.slice none 0 0, .bool false, .int .i64 0, .slice none 0 0] w57.heap.size rfl); have hz57 : w.heap.size ≤ w57.heap.size := G57.out.size; have G57b := Lib.hid (G57.out.alloc hz57 (.cells #[.slice none 0 0, .bool false, .int .i64 0, .slice none 0 0] 29)); clear K57 G57)
        | (refine at_store 29 (.tmp 22) (.tmp 141) (by rfl) ?_; refine wpList_put (by rfl) 29 (.tmp 22) (.tmp 141) (by rfl) w57.heap.size 0 (.agg #[.slice Lz nz clz, .bool zG, .int .i64 zM, .slice Tz ntz tcz]) (by rfl) (by rfl) 29 #[.slice none 0 0, .bool false, .int .i64 0, .slice none 0 0] #[.slice Lz nz clz, .bool zG, .int .i64 zM, .slice Tz ntz tcz] (K57b.out.row 0 rfl) (by simp [Value.cells]) (by kernel_rfl) infoc_U (by kernel_rfl) ?_; intro w58 hrow hoth hz hbl; have K58 : Hid (EnvF w58 _ [(w57.heap.size, #[.slice Lz nz clz, .bool zG, .int .i64 zM, .slice Tz ntz tcz], 29), (w55.heap.size, #[.slice Ly ny cly, .bool yG, .int .i64 M, .slice Ty n tcy], 29), (w51.heap.size, #[.string ga, .string gb], 38), (w20.heap.size, _, 24), (gX, #[.slice LL 1 cl, .bool false, .int .i64 M, .slice TT nt tc], 29), ((w.heap.size + 1), #[.string ⟨fa.toArray⟩, .string ⟨fb.toArray⟩], 38), (w.heap.size, #[.int .i64 M, .slice A n c], 24)]) := Lib.hid (K57b.out.turn 0 rfl hrow hoth hz); have G58 := Lib.hid (hbl _ _ (by omega) G57b.out); clear hrow hoth hz hbl K57b G57b)
        | (refine at_load 9 (.tmp 143) (by rfl) ?_; refine wpListG_get (by rfl) 9 (.tmp 143) (by rfl) w51.heap.size 0 (by rfl) 38 #[.string ga, .string gb] (.string ga) _ (K58.out.row 2 rfl) (by rfl) Tryd.underlying9 (by rfl) ?_)
        | (refine at_load 9 (.tmp 145) (by rfl) ?_; refine wpListG_get (by rfl) 9 (.tmp 145) (by rfl) (w.heap.size + 1) 1 (by rfl) 38 #[.string ⟨fa.toArray⟩, .string ⟨fb.toArray⟩] (.string ⟨fb.toArray⟩) _ (K58.out.row 5 rfl) (by rfl) Tryd.underlying9 (by rfl) ?_)
        | (refine at_dst 147 (by rfl) ?_; refine wpList_val (by rfl) (.agg #[.string ga, .string ⟨fb.toArray⟩]) (by kernel_rfl) ?_; have K58b := Lib.hid (K58.out.boxg 38 #[.string ⟨#[]⟩, .string ⟨#[]⟩] w58.heap.size rfl); have hz58 : w.heap.size ≤ w58.heap.size := G58.out.size; have G58b := Lib.hid (G58.out.alloc hz58 (.cells #[.string ⟨#[]⟩, .string ⟨#[]⟩] 38)); clear K58 G58)
        | (refine at_store 38 (.tmp 24) (.tmp 147) (by rfl) ?_; refine wpList_put (by rfl) 38 (.tmp 24) (.tmp 147) (by rfl) w58.heap.size 0 (.agg #[.string ga, .string ⟨fb.toArray⟩]) (by rfl) (by rfl) 38 #[.string ⟨#[]⟩, .string ⟨#[]⟩] #[.string ga, .string ⟨fb.toArray⟩] (K58b.out.row 0 rfl) (by simp [Value.cells]) (by kernel_rfl) infoc_D (by kernel_rfl) ?_; intro w59 hrow hoth hz hbl; have K59 : Hid (EnvF w59 _ [(w58.heap.size, #[.string ga, .string ⟨fb.toArray⟩], 38), (w57.heap.size, #[.slice Lz nz clz, .bool zG, .int .i64 zM, .slice Tz ntz tcz], 29), (w55.heap.size, #[.slice Ly ny cly, .bool yG, .int .i64 M, .slice Ty n tcy], 29), (w51.heap.size, #[.string ga, .string gb], 38), (w20.heap.size, _, 24), (gX, #[.slice LL 1 cl, .bool false, .int .i64 M, .slice TT nt tc], 29), ((w.heap.size + 1), #[.string ⟨fa.toArray⟩, .string ⟨fb.toArray⟩], 38), (w.heap.size, #[.int .i64 M, .slice A n c], 24)]) := Lib.hid (K58b.out.turn 0 rfl hrow hoth hz); have G59 := Lib.hid (hbl _ _ (by omega) G58b.out); clear hrow hoth hz hbl K58b G58b; refine Hid.out ?_))
    all_goals refine Lib.hid ?_
    all_goals
      go_wp2_with (first
        | go_skip
        | (refine at_load 38 (.tmp 12) (by rfl) ?_; refine wpListG_row (by rfl) 38 (.tmp 12) (by rfl) w51.heap.size (by rfl) 38 #[.string ga, .string gb] _ (K59.out.row 3 rfl) Tryd.underlying38 (by rfl) infoc_D ?_)
        | (go_at_call 18; (with_reducible refine (HSG.out _).mono ?_); rintro e w60 ⟨rfl, hb⟩; have K60 := Lib.hid (K59.out.on hb); have G60 := Lib.hid (below_step G59.out hb); clear hb K59 G59)
        | (refine at_load 22 (.tmp 166) (by rfl) ?_; refine wpListG_get (by rfl) 22 (.tmp 166) (by rfl) w55.heap.size 0 (by rfl) 29 #[.slice Ly ny cly, .bool yG, .int .i64 M, .slice Ty n tcy] (.slice Ly ny cly) _ (K60.out.row 2 rfl) (by rfl) Tryd.underlying22 (by rfl) ?_)
        | (refine at_load 38 (.tmp 12) (by rfl) ?_; refine wpListG_row (by rfl) 38 (.tmp 12) (by rfl) w51.heap.size (by rfl) 38 #[.string ga, .string gb] _ (K60.out.row 3 rfl) Tryd.underlying38 (by rfl) infoc_D ?_)
        | (go_at_call 12; have K60l := Lib.hid (K60.out.litf 38 [(ga, gb)] #[.string ga, .string gb] (by simp [fdc]) 1 rfl w60.heap.size rfl); have G60l := Lib.hid (G60.out.alloc G60.out.size (.cells #[.string ga, .string gb] 38)); (with_reducible refine (l_fields (A := Ly) (n := ny) (xs := yL) (A' := (some ⟨w60.heap.size, 0, none⟩)) (n' := 1) (ys := [(ga, gb)]) _ K60l.out (by simp) (by simp) hny.out (decide_eq_true (HLY.out (by simp)))).mono ?_); rintro e w70 ⟨rfl, hb⟩; have K70 := Lib.hid (K60l.out.on hb); have G70 := Lib.hid (below_step G60l.out hb); clear hb K60 G60 K60l G60l)
        | (refine at_load 24 (.tmp 173) (by rfl) ?_; refine wpList_part (by rfl) 24 (.tmp 173) (by rfl) w55.heap.size 2 (by rfl) 29 #[.slice Ly ny cly, .bool yG, .int .i64 M, .slice Ty n tcy] #[.int .i64 M, .slice Ty n tcy] _ (K70.out.row 2 rfl) (part2 (by rfl) (by rfl)) Tryd.underlying24 (by rfl) infoc_T ?_)
        | (refine at_load 24 (.tmp 4) (by rfl) ?_; refine wpListG_row (by rfl) 24 (.tmp 4) (by rfl) w.heap.size (by rfl) 24 #[.int .i64 M, .slice A n c] _ (K70.out.row 7 rfl) Tryd.underlying24 (by rfl) infoc_T ?_)
        | (go_at_call 11; (with_reducible refine (l_same (A := Ty) (n := n) (xs := xs) (A' := A) (n' := n) (ys := xs) _ K70.out (by simp) (by simp) hn0.out hsm0.out).mono ?_); rintro e w80 ⟨rfl, hb⟩; have K80 := Lib.hid (K70.out.on hb); have G80 := Lib.hid (below_step G70.out hb); clear hb K70 G70; refine Hid.out ?_)
        | (refine at_load 24 (.tmp 173) (by rfl) ?_; refine wpList_part (by rfl) 24 (.tmp 173) (by rfl) w55.heap.size 2 (by rfl) 29 #[.slice Ly ny cly, .bool yG, .int .i64 M, .slice Ty n tcy] #[.int .i64 M, .slice Ty n tcy] _ (K60.out.row 2 rfl) (part2 (by rfl) (by rfl)) Tryd.underlying24 (by rfl) infoc_T ?_)
        | (refine at_load 24 (.tmp 4) (by rfl) ?_; refine wpListG_row (by rfl) 24 (.tmp 4) (by rfl) w.heap.size (by rfl) 24 #[.int .i64 M, .slice A n c] _ (K60.out.row 7 rfl) Tryd.underlying24 (by rfl) infoc_T ?_)
        | (go_at_call 11; (with_reducible refine (l_same (A := Ty) (n := n) (xs := xs) (A' := A) (n' := n) (ys := xs) _ K60.out (by simp) (by simp) hn0.out hsm0.out).mono ?_); rintro e w80 ⟨rfl, hb⟩; have K80 := Lib.hid (K60.out.on hb); have G80 := Lib.hid (below_step G60.out hb); clear hb K60 G60; refine Hid.out ?_))
    all_goals refine Lib.hid ?_
    all_goals
      go_wp2_with (first
        | go_skip
        | (refine at_load 38 (.tmp 24) (by rfl) ?_; refine wpListG_row (by rfl) 38 (.tmp 24) (by rfl) w58.heap.size (by rfl) 38 #[.string ga, .string ⟨fb.toArray⟩] _ (K80.out.row 0 rfl) Tryd.underlying38 (by rfl) infoc_D ?_)
        | (go_at_call 18; (with_reducible refine (HSN.out _).mono ?_); rintro e w81 ⟨rfl, hb⟩; have K81 := Lib.hid (K80.out.on hb); have G81 := Lib.hid (below_step G80.out hb); clear hb K80 G80)
        | (refine at_load 22 (.tmp 183) (by rfl) ?_; refine wpListG_get (by rfl) 22 (.tmp 183) (by rfl) w57.heap.size 0 (by rfl) 29 #[.slice Lz nz clz, .bool zG, .int .i64 zM, .slice Tz ntz tcz] (.slice Lz nz clz) _ (K81.out.row 1 rfl) (by rfl) Tryd.underlying22 (by rfl) ?_)
        | (refine at_load 38 (.tmp 24) (by rfl) ?_; refine wpListG_row (by rfl) 38 (.tmp 24) (by rfl) w58.heap.size (by rfl) 38 #[.string ga, .string ⟨fb.toArray⟩] _ (K81.out.row 0 rfl) Tryd.underlying38 (by rfl) infoc_D ?_)
        | (go_at_call 12; have K81l := Lib.hid (K81.out.litf 38 [(ga, ⟨fb.toArray⟩)] #[.string ga, .string ⟨fb.toArray⟩] (by simp [fdc]) 1 rfl w81.heap.size rfl); have G81l := Lib.hid (G81.out.alloc G81.out.size (.cells #[.string ga, .string ⟨fb.toArray⟩] 38)); (with_reducible refine (l_fields (A := Lz) (n := nz) (xs := zL) (A' := (some ⟨w81.heap.size, 0, none⟩)) (n' := 1) (ys := [(ga, ⟨fb.toArray⟩)]) _ K81l.out (by simp) (by simp) hnz.out (decide_eq_true (HLZ.out (by simp)))).mono ?_); rintro e w90 ⟨rfl, hb⟩; have K90 := Lib.hid (K81l.out.on hb); have G90 := Lib.hid (below_step G81l.out hb); clear hb K81 G81 K81l G81l)
        | (go_at_call 8; (with_reducible refine (l_wakes _ K90.out (by simp) (by simp) (by simp)).mono ?_); rintro e w100 ⟨rfl, hb⟩; have K100 := Lib.hid (K90.out.on hb); have G100 := Lib.hid (below_step G90.out hb); clear hb K90 G90)
        | (go_at_call 8; (with_reducible refine (l_wakes _ K81.out (by simp) (by simp) (by simp)).mono ?_); rintro e w100 ⟨rfl, hb⟩; have K100 := Lib.hid (K81.out.on hb); have G100 := Lib.hid (below_step G81.out hb); clear hb K81 G81))
    all_goals
      go_ret
      exact ⟨rfl, G100.out⟩
theorem uf_all (M : Int) (A : Option Addr) (n c : Nat) (s u : ByteArray) (way i : Int) (w : World) (hR : Up.Vars w) (hI : IsFlds w A n c) (hs : s.size ≤ 140737488355328) (hu : u.size ≤ 140737488355328) (hi : (Lit.int .i64 i).wf = true) :
    Calls Tryd.prog 4 #[.agg #[.int .i64 M, .slice A n c], .agg #[.string s, .string u], .int .i64 way, .int .i64 i] w fun e w' => e = .returned (.bool true) ∧ Below w.heap.size w w' := by
  obtain ⟨xs, hA, hS, hnc, hcm, hN⟩ := rowFlds hI
  obtain ⟨fa, rfl⟩ : ∃ l : List UInt8, s = ⟨l.toArray⟩ := ⟨s.data.toList, by simp⟩
  obtain ⟨fb, rfl⟩ : ∃ l : List UInt8, u = ⟨l.toArray⟩ := ⟨u.data.toList, by simp⟩
  have hfa : fa.length ≤ 140737488355328 := hs
  have hfb : fb.length ≤ 140737488355328 := hu
  have hV := start_env hR hA
  have hn := hA.1
  cases hg : grB xs with
  | true => exact uf_g M way i A n c xs fa fb w hV (great_call hnc hcm hS hg)
  | false =>
    have HG := great_call (M := M) (A := A) hnc hcm hS hg
    obtain ⟨hl, hF⟩ := gr_full hg
    cases hr : rightB M xs with
    | false => exact uf_r M way i A n c xs fa fb w hV HG (right_call (by omega) hr)
    | true =>
      have HRT := right_call (A := A) (n := n) (c := c) (by omega) hr
      by_cases h2 : 900 < fa.length + fb.length
      · exact uf_len M way i A n c xs fa fb w hV HG HRT hfa hfb h2
      have h2' : fa.length + fb.length ≤ 900 := by omega
      have hfl : (fldL fa fb way).length ≤ 6000 := fldL_len (by omega)
      have hbd := rt_bd (s := ⟨M, xs, []⟩) hr
      have g0 : 0 ≤ M := hbd.1
      have g1 : M ≤ 4096 := hbd.2.1
      have hsf : sz (⟨fa.toArray⟩, ⟨fb.toArray⟩) = fa.length + fb.length + 32 := rfl
      obtain ⟨e1, e2, e3, e4⟩ := block_fld (M := M) (most := M) (xs := xs) (a := fa) (b := fb) way hr g0 g1 (by omega) (by omega)
      obtain ⟨d1, d2⟩ := bG_of e1 e2
      have d1' : bL M M xs (fldL fa fb way) = [(⟨fa.toArray⟩, ⟨fb.toArray⟩)] := d1.trans (keep_one (by show sz (⟨fa.toArray⟩, ⟨fb.toArray⟩) ≤ 2000; omega))
      have d2' : bG M M xs (fldL fa fb way) = false := d2.trans (decide_eq_false (by rw [full_one]; show ¬ 2000 < sz (⟨fa.toArray⟩, ⟨fb.toArray⟩); omega))
      obtain ⟨a1, a2, a3⟩ := rt_add (s := ⟨M, xs, []⟩) hr (⟨fa.toArray⟩, ⟨fb.toArray⟩)
      obtain ⟨X, hX⟩ : ∃ X, (if way = 1 then addL M xs (st fa, st fb) else xs) = X := ⟨_, rfl⟩
      have HV1 : BK M M xs (fldL fa fb way) 0 1 [(⟨fa.toArray⟩, ⟨fb.toArray⟩)] false M X.length X := ⟨e1, d1', d2', e3, e4.trans hX, rfl, rfl⟩
      have HAD : Hid (way = 1 → addM M xs = M ∧ addE M xs = 0 ∧ addL M xs (⟨fa.toArray⟩, ⟨fb.toArray⟩) = X ∧ X.length = X.length) := Lib.hid fun h => ⟨a1, a2, by rw [if_pos h] at hX; exact hX, rfl⟩
      have HNA : Hid (¬ way = 1 → X = xs ∧ X.length = n) := Lib.hid fun h => by rw [if_neg h] at hX; exact ⟨hX.symm, by rw [← hX]; exact hn⟩
      have hXl : X.length ≤ 1000000 := by
        rw [← hX]
        split
        · show (addL M xs (⟨fa.toArray⟩, ⟨fb.toArray⟩)).length ≤ _
          rw [show addL M xs (⟨fa.toArray⟩, ⟨fb.toArray⟩) = keep M ((⟨fa.toArray⟩, ⟨fb.toArray⟩) :: xs) from a3, keep_len]
          have := fit_le M ((⟨fa.toArray⟩, ⟨fb.toArray⟩) :: xs)
          simp only [List.length_cons] at this
          omega
        · omega
      have hkp := putL_len i (7 : Nat) 128
      have hkq : (nmL i fb way).length ≤ 6000 := by
        have h1 := putL_len i (wR way) (wU way)
        have h2 := (be_le fb).1
        have h3 := pl_len fb
        have h4 := numB_len (n := fb.length) (k := 7) (by omega)
        unfold nmL
        split
        · simp
        · split
          · rw [List.length_append]; omega
          · simp
      have hP : ∀ E, putE i (7 : Nat) = E → Hid (putL i (7 : Nat) 128 = putL i (7 : Nat) 128 ∧ putE i (7 : Nat) = E ∧ (putL i (7 : Nat) 128).length = (putL i (7 : Nat) 128).length) := fun E h => Lib.hid ⟨rfl, h, rfl⟩
      have hQ : ∀ E, nmE i way = E → Hid (nmL i fb way = nmL i fb way ∧ nmE i way = E ∧ (nmL i fb way).length = (nmL i fb way).length) := fun E h => Lib.hid ⟨rfl, h, rfl⟩
      rcases atE_or xs i with h0 | h9
      · obtain ⟨i1, i2⟩ := atE_bd h0
        obtain ⟨v, rfl⟩ : ∃ v : Nat, i = v := ⟨i.toNat, by omega⟩
        have hv : v < 2 ^ 31 := by omega
        obtain ⟨y1, y2⟩ := block_idx (M := M) (most := M) (xs := xs) hv hr g0 g1
        obtain ⟨y2, y3, y4⟩ := y2 h0
        rw [h0] at y1
        rw [← putL_of (n := v) (k := 7) (u := 128) (by omega) hv] at y1 y2 y3 y4
        obtain ⟨y5, y6⟩ := bG_of y1 y2
        obtain ⟨z0, z1, z2⟩ := block_nm (M := M) (most := M) (xs := xs) (b := fb) way hv (by omega) hr g0 g1 (by omega) h0
        obtain ⟨z5, z6⟩ := bG_of z1 z2
        have hga := atV_sz xs v
        have hn2 : sz ((atV xs v).1, st fb) ≤ 100000 := by
          show (atV xs v).1.size + fb.length + 32 ≤ _
          have : (atV xs v).1.size ≤ sz (atV xs v) := by unfold sz; omega
          omega
        have hsm0 : sameB M xs M xs = true := by unfold sameB; simp
        refine uf_yes M way v A n c xs fa fb w hV HG HRT h2' hN (by omega) hfl HV1 HAD HNA (Lib.hid hXl) (Lib.hid (by omega)) (at_call (by omega) hi rfl rfl h0) (hP 0 (putE_of (k := 7) (by omega) hv)) (hQ 0 z0) (by omega) hkq (Lib.hid ⟨y1, y5, y6, y3, y4, rfl, hn⟩) (Lib.hid ⟨z1, z5, z6, rfl, rfl, rfl, rfl⟩) (size_call (x := atV xs v) rfl rfl (by omega)) (size_call (x := ((atV xs v).1, st fb)) rfl rfl (by omega)) _ _ rfl rfl (Lib.hid fun h => ?_) (Lib.hid fun h => ?_) (Lib.hid ?_) (Lib.hid ?_) (Lib.hid (by omega)) (Lib.hid hsm0)
        · have h := of_decide_eq_false h
          exact keep_one (by omega)
        · have h := of_decide_eq_false h
          exact keep_one (by omega)
        · rw [keep_len]
          have := fit_le 2000 [atV xs v]
          simp only [List.length_singleton] at this
          omega
        · rw [keep_len]
          have := fit_le 2000 [((atV xs v).1, st fb)]
          simp only [List.length_singleton] at this
          omega
      · by_cases hm : 0 ≤ i ∧ i ≤ 2147483647
        · obtain ⟨v, rfl⟩ : ∃ v : Nat, i = v := ⟨i.toNat, by omega⟩
          have hv : v < 2 ^ 31 := by omega
          obtain ⟨y1, _⟩ := block_idx (M := M) (most := M) (xs := xs) hv hr g0 g1
          rw [h9, ← putL_of (n := v) (k := 7) (u := 128) (by omega) hv] at y1
          obtain ⟨q1, q2, q3, q4⟩ := b_none (M := M) (most := M) (xs := xs) (ls := putL (v : Int) (7 : Nat) 128) (by rw [y1]; decide)
          exact uf_n0 M way v A n c xs fa fb w hV HG HRT h2' hN (by omega) hfl HV1 HAD HNA (Lib.hid hXl) (Lib.hid (by omega)) (at_call (by omega) hi rfl rfl h9) (hP 0 (putE_of (k := 7) (by omega) hv)) (hQ _ rfl) (by omega) hkq (Lib.hid ⟨y1, q1, q2, q3, q4, rfl, rfl⟩)
        · obtain ⟨p1, p2⟩ := may_not (i := i) (k := 7) (by omega)
          exact uf_n2 M way i A n c xs fa fb w hV HG HRT h2' hN (by omega) hfl HV1 HAD HNA (Lib.hid hXl) (Lib.hid (by omega)) (at_call (by omega) hi rfl rfl h9) (hP 2 p1) (hQ _ rfl) (by omega) hkq (Lib.hid (bk_of M M xs _))
end Go.Proofs.YtfejohfplnbdkaaDoor
