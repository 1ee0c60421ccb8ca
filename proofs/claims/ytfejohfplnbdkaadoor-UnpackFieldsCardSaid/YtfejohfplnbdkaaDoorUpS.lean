/- Package unpack: Same. -/
import Derived.Test.YtfejohfplnbdkaaDoorUpR
namespace Go.Proofs.YtfejohfplnbdkaaDoor
open Go.RowKit Go.Shelf Px Tx Tb Up
set_option linter.unusedVariables false
set_option linter.unusedSimpArgs false
attribute [local go_sem] Oper.semAt_some
/-- Whether what was told of two blocks is the same. -/
def Up.sameU (xs : List Fd) (g : Bool) (M : Int) (xs' : List Fd) (ys : List Fd) (h : Bool) (N : Int) (ys' : List Fd) : Bool := sameB 0 xs 0 ys && (g == h) && sameB M xs' N ys'
set_option maxRecDepth 100000 in
set_option maxHeartbeats 4000000 in
theorem u_Same (LA LB TA TB : Option Addr) (ln lc lm ld tn tc tm td : Nat) (g h : Bool) (M N : Int) (xs ys xs' ys' : List Fd) (w : World) (h1 : Fs w w.heap.size LA ln xs) (h2 : Fs w w.heap.size LB lm ys) (h3 : Fs w w.heap.size TA tn xs') (h4 : Fs w w.heap.size TB tm ys') (n1 : ln ≤ 1000000) (n2 : tn ≤ 1000000) :
    Calls Tryd.prog 24 #[.agg #[.slice LA ln lc, .bool g, .int .i64 M, .slice TA tn tc], .agg #[.slice LB lm ld, .bool h, .int .i64 N, .slice TB tm td]] w fun e w' => e = .returned (.bool (sameU xs g M xs' ys h N ys')) ∧ Below w.heap.size w w' := by
  obtain ⟨w0, hw0⟩ : ∃ w0, (w.alloc (.cells #[.slice LA ln lc, .bool g, .int .i64 M, .slice TA tn tc] 29)).alloc (.cells #[.slice LB lm ld, .bool h, .int .i64 N, .slice TB tm td] 29) = w0 := ⟨_, rfl⟩
  have K0 : Hid (EnvF w0 [fF TB tm ys', fF TA tn xs', fF LB lm ys, fF LA ln xs] [(w.heap.size + 1, #[.slice LB lm ld, .bool h, .int .i64 N, .slice TB tm td], 29), (w.heap.size, #[.slice LA ln lc, .bool g, .int .i64 M, .slice TA tn tc], 29)]) := Lib.hid (hw0 ▸ ((((((EnvF.nil w).addF h1).addF h2).addF h3).addF h4).boxg 29 #[.slice LA ln lc, .bool g, .int .i64 M, .slice TA tn tc] w.heap.size rfl).boxg 29 #[.slice LB lm ld, .bool h, .int .i64 N, .slice TB tm td] (w.heap.size + 1) (by simp))
  have G0 : Hid (Below w.heap.size w w0) := Lib.hid (hw0 ▸ ((Below.refl w.heap.size w).alloc (Nat.le_refl _) _).alloc (by simp) _)
  have HS1 := Lib.hid (t_same 0 0 LA LB ln lm lc ld xs ys w0 (K0.out.fs (A := LA) (n := ln) (xs := xs) (by simp)) (K0.out.fs (A := LB) (n := lm) (xs := ys) (by simp)) n1)
  have HS2 := Lib.hid (fun W (hb : Below w0.heap.size w0 W) => t_same M N TA TB tn tm tc td xs' ys' W ((K0.out.on hb).fs (A := TA) (n := tn) (xs := xs') (by simp)) ((K0.out.on hb).fs (A := TB) (n := tm) (xs := ys') (by simp)) n2)
  unfold sameU
  generalize sameB 0 xs 0 ys = s1 at *
  generalize sameB M xs' N ys' = s2 at *
  have hz : w.heap.size ≤ w0.heap.size := G0.out.size
  clear h1 h2 h3 h4 n1 n2
  go_enter Tryd.func24, Tryd.ntmps24
  go_wp2_with (first
    | go_skip
    | (refine at_load 22 (.tmp 6) (by rfl) ?_; refine wpListG_get (by rfl) 22 (.tmp 6) (by rfl) w.heap.size 0 (by rfl) 29 #[.slice LA ln lc, .bool g, .int .i64 M, .slice TA tn tc] (.slice LA ln lc) _ (K0.out.row 1 rfl) (by rfl) Tryd.underlying22 (by rfl) ?_)
    | (refine at_load 22 (.tmp 9) (by rfl) ?_; refine wpListG_get (by rfl) 22 (.tmp 9) (by rfl) (w.heap.size + 1) 0 (by rfl) 29 #[.slice LB lm ld, .bool h, .int .i64 N, .slice TB tm td] (.slice LB lm ld) _ (K0.out.row 0 rfl) (by rfl) Tryd.underlying22 (by rfl) ?_)
    | (go_at_call 36; (with_reducible refine HS1.out.mono ?_); rintro e w1 ⟨rfl, hb⟩; have D1 := Lib.hid hb; clear hb HS1; refine Hid.out ?_))
  refine Lib.hid ?_
  obtain ⟨ca0, ca1, ca2, ca3⟩ := cells4_row ((K0.out.on D1.out).row 1 rfl)
  obtain ⟨cb0, cb1, cb2, cb3⟩ := cells4_row ((K0.out.on D1.out).row 0 rfl)
  cases s1 <;> cases g <;> cases h
  all_goals
    go_wp2_with (first
      | go_skip
      | (go_at_call 36; (with_reducible refine (HS2.out _ D1.out).mono ?_); rintro e w2 ⟨rfl, hb⟩; have D2 := Lib.hid (below_step D1.out hb); clear hb))
  all_goals
    go_ret
    first
    | exact ⟨rfl, G0.out.trans (D2.out.mono hz)⟩
    | exact ⟨rfl, G0.out.trans (D1.out.mono hz)⟩
end Go.Proofs.YtfejohfplnbdkaaDoor
