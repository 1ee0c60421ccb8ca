/- Package cut: Own, Same, Feed of a reader that may not be; the document's Same, Pieces; the statements' great. -/
import Derived.Test.YtjoopekgbfplpaaCuG
import Derived.BigQuiet
import Derived.WalkSmall
namespace Go.Proofs.Ytjoopekgbfplpaa
open Go.RowKit Oct Cu Go.Shelf
set_option linter.unusedVariables false
set_option linter.unusedSimpArgs false
theorem c_equal' (A A' : Option Addr) (n n' c c' B B' : Nat) (xs : List UInt8) (w : World) (h : Bs w B A n xs) (h' : Bs w B' A' n' xs) :
    Calls Try.prog 27 #[.slice A n c, .slice A' n' c'] w fun e w' => e = .returned (.bool true) ∧ Below w.heap.size w w' := by
  refine (c_equal A A' n n' c c' B B' xs xs w h h').mono ?_
  rintro e w' ⟨rfl, rfl⟩
  exact ⟨by simp, Below.refl _ _⟩
theorem c_great (A : Option Addr) (n c : Nat) (w : World) :
    Calls Try.prog 4 #[.slice A n c] w fun e w' => e = .returned (.bool (decide ((600 : Int) < (n : Int)))) ∧ Below w.heap.size w w' := by
  go_enter Try.func4, Try.ntmps4
  go_wp2
  go_ret
  exact ⟨rfl, Below.refl _ _⟩
theorem c_great' (A : Option Addr) (n c : Nat) (b : Bool) (hb : decide ((600 : Int) < (n : Int)) = b) (w : World) :
    Calls Try.prog 4 #[.slice A n c] w fun e w' => e = .returned (.bool b) ∧ Below w.heap.size w w' := by
  subst hb; exact c_great A n c w
set_option maxRecDepth 100000 in
set_option maxHeartbeats 4000000 in
theorem c_Own (p : Int) (A : Option Addr) (n c : Nat) (xs : List UInt8) (w : World) (hA : Bs w w.heap.size A n xs) (hN : A = none → c = 0) (hn : n ≤ 1000000) :
    Calls Try.prog 16 #[.agg #[.int .i64 p, .slice A n c]] w fun e w' => ∃ A1 c1, e = .returned (.agg #[.int .i64 p, .slice A1 n c1]) ∧ HandS w' w.heap.size A1 n c1 xs ∧ Below w.heap.size w w' := by
  have K0 : Hid (EnvF ((w.alloc (.cells #[.int .i64 p, .slice A n c] 24)).alloc (.cells #[.int .i64 0, .slice none 0 0] 24)) [bF A n xs] [(w.heap.size + 1, #[.int .i64 0, .slice none 0 0], 24), (w.heap.size, #[.int .i64 p, .slice A n c], 24)]) := Lib.hid ((((EnvF.nil w).addB hA).boxg 24 #[.int .i64 p, .slice A n c] (w.heap.size) (by simp)).boxg 24 #[.int .i64 0, .slice none 0 0] (w.heap.size + 1) (by simp))
  have B0 : Hid (Below w.heap.size w ((w.alloc (.cells #[.int .i64 p, .slice A n c] 24)).alloc (.cells #[.int .i64 0, .slice none 0 0] 24))) := Lib.hid (((Below.refl _ w).alloc (by first | exact Nat.le_refl _ | (simp only [World.size_alloc]; omega)) (.cells #[.int .i64 p, .slice A n c] 24)).alloc (by first | exact Nat.le_refl _ | (simp only [World.size_alloc]; omega)) (.cells #[.int .i64 0, .slice none 0 0] 24))
  have HN := Lib.hid hN
  clear hA hN
  obtain ⟨r_0, r_1⟩ := cells2_row (K0.out.row 1 rfl)
  go_enter Try.func16, Try.ntmps16
  go_wp2
  go_region_with (go_at_call 22; (with_reducible refine (c_own A n c xs _ (K0.out.drew.bs (A := A) (n := n) (xs := xs) (by simp)) HN.out hn).mono ?_); rintro e w1 ⟨A1, c1, rfl, hh, hb⟩; have HC1 := Lib.hid hh.2.2; have HF1 := Lib.hid (hh.2.1.less (B' := w.heap.size) (by have := B0.out.drew.size; exact this)); have K1 : Hid (EnvF w1 [bF A1 n xs, bF A n xs] [(w.heap.size + 1, #[.int .i64 0, .slice none 0 0], 24), (w.heap.size, #[.int .i64 p, .slice A n c], 24)]) := Lib.hid (K0.out.drew.handS hb hh); have B1 := Lib.hid (below_step B0.out.drew hb); clear hh hb; obtain ⟨s_0, s_1⟩ := cells2_row (K1.out.row 1 rfl); have zf := fun j => frozen_of_row _ _ j _ _ (K1.out.row 0 rfl); obtain ⟨q_0, q_1⟩ := cells2_row (K1.out.row 0 rfl))
  all_goals
    have K2 := Lib.hid (K1.out.setCells 0 rfl [.int .i64 p, .slice A1 n c1] (cs := #[.int .i64 p, .slice A1 n c1]) (by kernel_rfl))
    have BB0 := setCells_below (g := w.heap.size + 1) (by omega) [.int .i64 p, .slice A1 n c1] 0 _ _ B1.out
    have hr0 := K2.out.row 0 rfl
    have hs0 := K2.out.bs (A := A1) (n := n) (xs := xs) (by simp)
    simp only [World.setCells, Nat.reduceAdd] at hr0 hs0 BB0
    have hr := Lib.hid hr0
    have hs := Lib.hid hs0
    have BB := Lib.hid BB0
    clear hr0 hs0 BB0 K2
    go_wp2
    exact bodyPost_ret (res_cell1 rfl _ _ _ _ _ _ rfl hr.out Try.underlying24 rfl infoc_R) rfl ⟨A1, c1, rfl, ⟨hs.out, HF1.out, HC1.out⟩, BB.out⟩
set_option maxRecDepth 100000 in
set_option maxHeartbeats 4000000 in
theorem c_same (p : Int) (A A' : Option Addr) (n c n' c' : Nat) (xs : List UInt8) (w : World) (hA : Bs w w.heap.size A n xs) (hA' : Bs w w.heap.size A' n' xs) :
    Calls Try.prog 13 #[.agg #[.int .i64 p, .slice A n c], .agg #[.int .i64 p, .slice A' n' c']] w fun e w' => e = .returned (.bool true) ∧ Below w.heap.size w w' := by
  have K0 : Hid (EnvF ((w.alloc (.cells #[.int .i64 p, .slice A n c] 24)).alloc (.cells #[.int .i64 p, .slice A' n' c'] 24)) [bF A' n' xs, bF A n xs] [(w.heap.size + 1, #[.int .i64 p, .slice A' n' c'], 24), (w.heap.size, #[.int .i64 p, .slice A n c], 24)]) := Lib.hid (((((EnvF.nil w).addB hA).addB hA').boxg 24 #[.int .i64 p, .slice A n c] (w.heap.size) (by simp)).boxg 24 #[.int .i64 p, .slice A' n' c'] (w.heap.size + 1) (by simp))
  have B0 : Hid (Below w.heap.size w ((w.alloc (.cells #[.int .i64 p, .slice A n c] 24)).alloc (.cells #[.int .i64 p, .slice A' n' c'] 24))) := Lib.hid (((Below.refl _ w).alloc (by first | exact Nat.le_refl _ | (simp only [World.size_alloc]; omega)) (.cells #[.int .i64 p, .slice A n c] 24)).alloc (by first | exact Nat.le_refl _ | (simp only [World.size_alloc]; omega)) (.cells #[.int .i64 p, .slice A' n' c'] 24))
  have hp : (p == p) = true := by simp
  clear hA hA'
  go_enter Try.func13, Try.ntmps13
  go_wp2_with (first
    | go_skip
    | (refine at_load 3 (.tmp 5) (by rfl) ?_; refine wpList_get (by rfl) 3 (.tmp 5) (by rfl) (w.heap.size) 0 (by rfl) 24 #[.int .i64 p, .slice A n c] (.int .i64 p) _ (K0.out.row 1 rfl) (by rfl) Try.underlying3 (by rfl) ?_)
    | (refine at_load 3 (.tmp 7) (by rfl) ?_; refine wpList_get (by rfl) 3 (.tmp 7) (by rfl) (w.heap.size + 1) 0 (by rfl) 24 #[.int .i64 p, .slice A' n' c'] (.int .i64 p) _ (K0.out.row 0 rfl) (by rfl) Try.underlying3 (by rfl) ?_)
    | (refine at_load 22 (.tmp 11) (by rfl) ?_; refine wpListG_get (by kernel_rfl) 22 (.tmp 11) (by rfl) (w.heap.size) 1 (by rfl) 24 #[.int .i64 p, .slice A n c] (.slice A n c) _ (K0.out.row 1 rfl) (by rfl) Try.underlying22 (by rfl) ?_)
    | (refine at_load 22 (.tmp 13) (by rfl) ?_; refine wpListG_get (by kernel_rfl) 22 (.tmp 13) (by rfl) (w.heap.size + 1) 1 (by rfl) 24 #[.int .i64 p, .slice A' n' c'] (.slice A' n' c') _ (K0.out.row 0 rfl) (by rfl) Try.underlying22 (by rfl) ?_)
    | (go_at_call 27; (have hc := (c_equal' A A' n n' c c' _ _ xs _ (K0.out.bs (A := A) (n := n) (xs := xs) (by simp)) (K0.out.bs (A := A') (n := n') (xs := xs) (by simp))); (with_reducible refine hc.mono ?_); clear hc); rintro e w1 ⟨rfl, hb⟩; have K1 : Hid (EnvF w1 [bF A' n' xs, bF A n xs] [(w.heap.size + 1, #[.int .i64 p, .slice A' n' c'], 24), (w.heap.size, #[.int .i64 p, .slice A n c], 24)]) := Lib.hid (K0.out.on hb); have B1 : Hid (Below w.heap.size w w1) := Lib.hid (below_step B0.out hb); clear hb K0 B0))
  go_ret
  exact ⟨by first | rfl | simp, B1.out⟩
set_option maxRecDepth 100000 in
set_option maxHeartbeats 4000000 in
theorem c_feed0 (p : Int) (A A' : Option Addr) (n c n' c' : Nat) (r : List UInt8) (w : World) (hA : Bs w w.heap.size A n r) (hN : A = none → c = 0) (hnc : n ≤ c) (hn : n ≤ 50000) (hR : ¬ RightR p r) :
    Calls Try.prog 7 #[.agg #[.int .i64 p, .slice A n c], .slice A' n' c'] w fun e w' => ∃ A1 c1, e = .returned (.tuple #[.agg #[.int .i64 p, .slice A1 n c1], .slice none 0 0, .agg #[.bool false, .int .i64 0, .int .u32 0], .int .i64 2]) ∧ HandS w' w.heap.size A1 n c1 r ∧ Below w.heap.size w w' := by
  have K0 : Hid (EnvF (((((w.alloc (.cells #[.int .i64 p, .slice A n c] 24)).alloc (.cells #[.int .i64 0, .slice none 0 0] 24)).alloc (.cells #[.slice none 0 0] 28)).alloc (.cells #[.bool false, .int .i64 0, .int .u32 0] 31)).alloc (.cells #[.slice none 0 0] 22)) [bF A n r] [(w.heap.size + 1 + 1 + 1 + 1, #[.slice none 0 0], 22), (w.heap.size + 1 + 1 + 1, #[.bool false, .int .i64 0, .int .u32 0], 31), (w.heap.size + 1 + 1, #[.slice none 0 0], 28), (w.heap.size + 1, #[.int .i64 0, .slice none 0 0], 24), (w.heap.size, #[.int .i64 p, .slice A n c], 24)]) := Lib.hid (((((((EnvF.nil w).addB hA).boxg 24 #[.int .i64 p, .slice A n c] (w.heap.size) (by simp)).boxg 24 #[.int .i64 0, .slice none 0 0] (w.heap.size + 1) (by simp)).boxg 28 #[.slice none 0 0] (w.heap.size + 1 + 1) (by simp)).boxg 31 #[.bool false, .int .i64 0, .int .u32 0] (w.heap.size + 1 + 1 + 1) (by simp)).boxg 22 #[.slice none 0 0] (w.heap.size + 1 + 1 + 1 + 1) (by simp))
  have B0 : Hid (Below w.heap.size w (((((w.alloc (.cells #[.int .i64 p, .slice A n c] 24)).alloc (.cells #[.int .i64 0, .slice none 0 0] 24)).alloc (.cells #[.slice none 0 0] 28)).alloc (.cells #[.bool false, .int .i64 0, .int .u32 0] 31)).alloc (.cells #[.slice none 0 0] 22))) := Lib.hid ((((((Below.refl _ w).alloc (by first | exact Nat.le_refl _ | (simp only [World.size_alloc]; omega)) (.cells #[.int .i64 p, .slice A n c] 24)).alloc (by first | exact Nat.le_refl _ | (simp only [World.size_alloc]; omega)) (.cells #[.int .i64 0, .slice none 0 0] 24)).alloc (by first | exact Nat.le_refl _ | (simp only [World.size_alloc]; omega)) (.cells #[.slice none 0 0] 28)).alloc (by first | exact Nat.le_refl _ | (simp only [World.size_alloc]; omega)) (.cells #[.bool false, .int .i64 0, .int .u32 0] 31)).alloc (by first | exact Nat.le_refl _ | (simp only [World.size_alloc]; omega)) (.cells #[.slice none 0 0] 22))
  clear hA
  go_enter Try.func7, Try.ntmps7
  go_wp2
  refine wp_scope_forward 0 rfl ?_
  go_wp2_with (first
    | go_skip
    | (refine at_load 24 (.tmp 2) (by rfl) ?_; refine wpList_load_row (by rfl) 24 (.tmp 2) (by rfl) (w.heap.size) (by rfl) 24 #[.int .i64 p, .slice A n c] (0, 0) _ (K0.out.row 4 rfl) Try.underlying24 (by rfl) infoc_R ?_)
    | (go_at_call 15; (have hc := (c_right_f p A n c r _ (K0.out.bs (A := A) (n := n) (xs := r) (by simp)) hnc (by omega) hR); (with_reducible refine hc.mono ?_); clear hc); rintro e w1 ⟨rfl, hb⟩; have K1 : Hid (EnvF w1 [bF A n r] [(w.heap.size + 1 + 1 + 1 + 1, #[.slice none 0 0], 22), (w.heap.size + 1 + 1 + 1, #[.bool false, .int .i64 0, .int .u32 0], 31), (w.heap.size + 1 + 1, #[.slice none 0 0], 28), (w.heap.size + 1, #[.int .i64 0, .slice none 0 0], 24), (w.heap.size, #[.int .i64 p, .slice A n c], 24)]) := Lib.hid (K0.out.on hb); have B1 : Hid (Below w.heap.size w w1) := Lib.hid (below_step B0.out hb); clear hb K0 B0))
  go_step3
  refine ⟨rfl, ?_⟩
  go_wp2_with (first
    | go_skip
    | (refine at_load 24 (.tmp 2) (by rfl) ?_; refine wpList_load_row (by rfl) 24 (.tmp 2) (by rfl) (w.heap.size) (by rfl) 24 #[.int .i64 p, .slice A n c] (0, 0) _ (K1.out.row 4 rfl) Try.underlying24 (by rfl) infoc_R ?_)
    | (go_at_call 16; (have hc := (c_Own p A n c r _ (K1.out.bs (A := A) (n := n) (xs := r) (by simp)) hN (by omega)); (with_reducible refine hc.mono ?_); clear hc); rintro e w2 ⟨A1, c1, rfl, hh, hb⟩; have HC1 := Lib.hid hh.2.2; have HF1 := Lib.hid (hh.2.1.less (B' := w.heap.size) B1.out.size); have K2 : Hid (EnvF w2 [bF A1 n r, bF A n r] [(w.heap.size + 1 + 1 + 1 + 1, #[.slice none 0 0], 22), (w.heap.size + 1 + 1 + 1, #[.bool false, .int .i64 0, .int .u32 0], 31), (w.heap.size + 1 + 1, #[.slice none 0 0], 28), (w.heap.size + 1, #[.int .i64 0, .slice none 0 0], 24), (w.heap.size, #[.int .i64 p, .slice A n c], 24)]) := Lib.hid (K1.out.handS hb hh); have B2 : Hid (Below w.heap.size w w2) := Lib.hid (below_step B1.out hb); clear hb hh K1 B1)
    | (refine at_store 24 (.tmp 4) (.tmp 75) (by rfl) ?_; refine wpList_put (by rfl) 24 (.tmp 4) (.tmp 75) (by rfl) (w.heap.size + 1) 0 (.agg #[.int .i64 p, .slice A1 n c1]) (by rfl) (by rfl) 24 #[.int .i64 0, .slice none 0 0] #[.int .i64 p, .slice A1 n c1] (K2.out.row 3 rfl) (by simp [Value.cells]) (by kernel_rfl) infoc_R (by kernel_rfl) ?_; intro w3 hrow hoth hz hbl; have K3 : Hid (EnvF w3 [bF A1 n r, bF A n r] [(w.heap.size + 1 + 1 + 1 + 1, #[.slice none 0 0], 22), (w.heap.size + 1 + 1 + 1, #[.bool false, .int .i64 0, .int .u32 0], 31), (w.heap.size + 1 + 1, #[.slice none 0 0], 28), (w.heap.size + 1, #[.int .i64 p, .slice A1 n c1], 24), (w.heap.size, #[.int .i64 p, .slice A n c], 24)]) := Lib.hid (K2.out.turn 3 rfl hrow hoth hz); have B3 : Hid (Below w.heap.size w w3) := Lib.hid (hbl _ _ (by omega) B2.out); clear hrow hoth hz hbl K2 B2)
    | (refine at_store 28 (.tmp 5) (.const (.slice none 0 0)) (by rfl) ?_; refine wpList_put (by rfl) 28 (.tmp 5) (.const (.slice none 0 0)) (by rfl) (w.heap.size + 1 + 1) 0 (.slice none 0 0) (by rfl) (by rfl) 28 #[.slice none 0 0] #[.slice none 0 0] (K3.out.row 2 rfl) (by simp [Value.cells]) (by kernel_rfl) infoc_Q (by kernel_rfl) ?_; intro w4 hrow hoth hz hbl; have K4 : Hid (EnvF w4 [bF A1 n r, bF A n r] [(w.heap.size + 1 + 1 + 1 + 1, #[.slice none 0 0], 22), (w.heap.size + 1 + 1 + 1, #[.bool false, .int .i64 0, .int .u32 0], 31), (w.heap.size + 1 + 1, #[.slice none 0 0], 28), (w.heap.size + 1, #[.int .i64 p, .slice A1 n c1], 24), (w.heap.size, #[.int .i64 p, .slice A n c], 24)]) := Lib.hid (K3.out.turn 2 rfl hrow hoth hz); have B4 : Hid (Below w.heap.size w w4) := Lib.hid (hbl _ _ (by omega) B3.out); clear hrow hoth hz hbl K3 B3)
    | (refine at_store 31 (.tmp 6) (.tmp 76) (by rfl) ?_; refine wpList_put (by rfl) 31 (.tmp 6) (.tmp 76) (by rfl) (w.heap.size + 1 + 1 + 1) 0 (.agg #[.bool false, .int .i64 0, .int .u32 0]) (by rfl) (by rfl) 31 #[.bool false, .int .i64 0, .int .u32 0] #[.bool false, .int .i64 0, .int .u32 0] (K4.out.row 1 rfl) (by simp [Value.cells]) (by kernel_rfl) infoc_X (by kernel_rfl) ?_; intro w5 hrow hoth hz hbl; have K5 : Hid (EnvF w5 [bF A1 n r, bF A n r] [(w.heap.size + 1 + 1 + 1 + 1, #[.slice none 0 0], 22), (w.heap.size + 1 + 1 + 1, #[.bool false, .int .i64 0, .int .u32 0], 31), (w.heap.size + 1 + 1, #[.slice none 0 0], 28), (w.heap.size + 1, #[.int .i64 p, .slice A1 n c1], 24), (w.heap.size, #[.int .i64 p, .slice A n c], 24)]) := Lib.hid (K4.out.turn 1 rfl hrow hoth hz); have B5 : Hid (Below w.heap.size w w5) := Lib.hid (hbl _ _ (by omega) B4.out); clear hrow hoth hz hbl K4 B4))
  rw [jump_ret]
  exact bodyPost_ret (res_feed rfl _ _ _ _ _ _ _ _ _ _ _ rfl (K5.out.row 3 rfl) rfl (K5.out.row 2 rfl) rfl (K5.out.row 1 rfl) Try.underlying24 rfl infoc_R Try.underlying28 rfl Try.underlying31 rfl infoc_X) rfl ⟨A1, c1, rfl, ⟨K5.out.bs (A := A1) (n := n) (xs := r) (by simp), HF1.out, HC1.out⟩, B5.out⟩
end Go.Proofs.Ytjoopekgbfplpaa
