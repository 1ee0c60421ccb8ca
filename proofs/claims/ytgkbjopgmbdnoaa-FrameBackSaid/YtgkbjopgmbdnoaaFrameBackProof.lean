/-
  For every input causey/causeylaw04.FrameBack returns true, and each argument reads afterwards as it read before. No condition.
-/
import Derived.Test.YtgkbjopgmbdnoaaRows
import Derived.WalkKit
import Derived.ProofKit
import Derived.OpenShut
import Derived.ShutString
import Derived.ChangeOld
import Derived.Below
import Derived.Lib.SmallJoins
import Derived.Deep.SlicePairs
import Derived.Test.YtgkbjopgmbdnoaaMk
namespace Go.Proofs.Ytgkbjopgmbdnoaa.frameBack
open Go.ChangeShapes Go.WideShapes Go.ChangeAt Go.RowKit
open Go.ChangeMaps (open_string shut_string)
set_option linter.unusedVariables false

theorem own : ownKnob Try.prog.godebug = none := by kernel_rfl
theorem laidOut : laidOutB Try.prog = true := by kernel_rfl

def IsRow (k : IntKind) (w : World) (a : Option Addr) (len cap : Nat) (zs : List Int) : Prop :=
  (a = none ∧ len = 0 ∧ cap = 0 ∧ zs = []) ∨
  ∃ x, a = some x ∧ len ≤ cap ∧ cap ≤ maxLen ∧ zs.length = cap ∧ (∀ i, i < zs.length → w.cell? (x.add i) = some (.int k (zs.getD i 0))) ∧ ∀ n ∈ zs, (Lit.int k n).wf = true

theorem walk (a0_0 : Int) (a0_1 : Int) (a0_2 : Int) (a0_3 : Option Addr) (len0_3 cap0_3 : Nat) (z0_3 : List Int) (a0_4 : Int) (a0_5 : Int) (a0_6 : Int) (a0_7 : Int) (a0_8 : Option Addr) (len0_8 cap0_8 : Nat) (a0_9 : Bool) (a0_10 : Bool) (a0_11 : Int) (a0_12 : Int) (w : World) (w0_0 : (Lit.int .u8 a0_0).wf = true) (w0_1 : (Lit.int .u8 a0_1).wf = true) (w0_2 : (Lit.int .i64 a0_2).wf = true) (w0_3 : IsRow .u8 w a0_3 len0_3 cap0_3 z0_3) (w0_4 : (Lit.int .i64 a0_4).wf = true) (w0_5 : (Lit.int .i64 a0_5).wf = true) (w0_6 : (Lit.int .i64 a0_6).wf = true) (w0_7 : (Lit.int .u32 a0_7).wf = true) (w0_8 : IsPairs w a0_8 len0_8 cap0_8) (w0_9 : a0_9 = a0_9) (w0_10 : a0_10 = a0_10) (w0_11 : (Lit.int .i64 a0_11).wf = true) (w0_12 : (Lit.int .u8 a0_12).wf = true) :
    Calls Try.prog 3 #[.agg #[.int .u8 a0_0, .int .u8 a0_1, .int .i64 a0_2, .slice a0_3 len0_3 cap0_3, .int .i64 a0_4, .int .i64 a0_5, .int .i64 a0_6, .int .u32 a0_7, .slice a0_8 len0_8 cap0_8, .bool a0_9, .bool a0_10, .int .i64 a0_11, .int .u8 a0_12]] w fun e w' => e = .returned (.bool true) ∧ Below w.heap.size w w' := by
  obtain ⟨xs, hA, hc, hm, hn⟩ := rowBytes w0_3
  obtain ⟨l, hL, hcl, hml, hnl⟩ := rowPairs w0_8
  obtain ⟨K, rfl⟩ := u8_of w0_0
  obtain ⟨F, rfl⟩ := u8_of w0_1
  obtain ⟨C, rfl⟩ := u32_of w0_7
  obtain ⟨W, rfl⟩ := u8_of w0_12
  exact back4_any ⟨K, F, a0_2, xs, a0_4, a0_5, a0_6, C, l, a0_9, a0_10, a0_11, W⟩ a0_3 a0_8 len0_3 cap0_3 len0_8 cap0_8 w hA hn hc hL

set_option maxRecDepth 100000 in
theorem lifted (os : Os) (started : os.Started) (H : Type) (enc : TypeId × Value → H) :
    ReturnsInHanded {} Try.checked os 3 .any (Rows.frameBackSpec.pre6 enc Try.prog Try.f3 Rows.frameBackRow.domain false) (Rows.frameBackSpec.post enc Try.prog Try.f3 false true false false) := by
  refine returnsInHanded_of_change (C := Try.checked) own started (by kernel_rfl) Try.func3
    (ChangeSpec.witness6 (enc := enc) (C := Try.checked) false ⟨#[], #[.agg #[.int .u8 0, .int .u8 0, .int .i64 0, .slice none 0 0, .int .i64 0, .int .i64 0, .int .i64 0, .int .u32 0, .slice none 0 0, .bool false, .bool false, .int .i64 0, .int .u8 0]], []⟩ 8 (by kernel_rfl) (by kernel_rfl) (by kernel_rfl) (by kernel_rfl)) ?_
  intro W base args ds gs before hval0 hW hcnd _
  have hval : ∀ (j : Nat) t v, Try.f3.params[j]? = some t → args[j]? = some v → Value.okWide Try.prog W .any base t v := hval0
  have hW' := hW
  obtain ⟨p, q, hA0, hV, rfl, hfz, hnd⟩ := hW
  have hA : DataW.TrodAll enc Try.prog W 0 (fun _ => true) true Try.f3.params.toList args.toList ds p := hA0
  rw [Try.params3] at hA hval
  obtain ⟨v0, vs0, d0, ds0, p0, q0, hargs, rfl, rfl, h0, r0⟩ := trodAll_cons hA
  obtain ⟨rfl, rfl, rfl⟩ := trodAll_nil r0
  obtain rfl : args = #[v0] := by cases args; simp_all
  obtain ⟨rfl, rfl⟩ := trodVars_none hV
  have k0 := h0
  have lt0 : ∀ x ∈ p0, x.block < W.heap.size := by obtain ⟨m, hm⟩ := k0; exact DataW.trod_lt m _ _ _ hm
  obtain ⟨cs0, fu0, rfl, sz0, hy0⟩ := open_cells Try.underlying28 (m := 13) (by kernel_rfl) (hval 0 28 v0 rfl rfl) h0
  obtain ⟨c0_0, c0_1, c0_2, c0_3, c0_4, c0_5, c0_6, c0_7, c0_8, c0_9, c0_10, c0_11, c0_12, rfl⟩ := array13 sz0
  obtain ⟨y0_0, g0_0⟩ := hy0 0 _ 5 0 1 rfl rfl rfl (by kernel_rfl)
  replace g0_0 : DataW.trod _ _ _ _ _ _ _ 5 [c0_0] = some _ := g0_0
  obtain ⟨a0_0, e0_0, rfl, w0_0⟩ := DataW.trod_int Try.underlying5 g0_0
  simp only [List.cons.injEq, and_true] at e0_0
  subst e0_0
  obtain ⟨y0_1, g0_1⟩ := hy0 1 _ 5 1 1 rfl rfl rfl (by kernel_rfl)
  replace g0_1 : DataW.trod _ _ _ _ _ _ _ 5 [c0_1] = some _ := g0_1
  obtain ⟨a0_1, e0_1, rfl, w0_1⟩ := DataW.trod_int Try.underlying5 g0_1
  simp only [List.cons.injEq, and_true] at e0_1
  subst e0_1
  obtain ⟨y0_2, g0_2⟩ := hy0 2 _ 3 2 1 rfl rfl rfl (by kernel_rfl)
  replace g0_2 : DataW.trod _ _ _ _ _ _ _ 3 [c0_2] = some _ := g0_2
  obtain ⟨a0_2, e0_2, rfl, w0_2⟩ := DataW.trod_int Try.underlying3 g0_2
  simp only [List.cons.injEq, and_true] at e0_2
  subst e0_2
  obtain ⟨y0_3, g0_3⟩ := hy0 3 _ 22 3 1 rfl rfl rfl (by kernel_rfl)
  replace g0_3 : DataW.trod _ _ _ _ _ _ _ 22 [c0_3] = some _ := g0_3
  obtain ⟨a0_3, len0_3, cap0_3, z0_3, e0_3, w0_3⟩ : ∃ a len cap zs, c0_3 = .slice a len cap ∧ IsRow .u8 W a len cap zs := by
    rcases open_ints Try.underlying22 Try.underlying5 (by kernel_rfl) g0_3 with ⟨hcs, _⟩ | ⟨x, l, c, zs, hcs, _, hl, hm, hz, _, hcell, hwz⟩
    · simp only [List.cons.injEq, and_true] at hcs
      exact ⟨none, 0, 0, [], hcs, .inl ⟨rfl, rfl, rfl, rfl⟩⟩
    · simp only [List.cons.injEq, and_true] at hcs
      exact ⟨_, _, _, zs, hcs, .inr ⟨_, rfl, hl, hm, by simpa using hz, hcell, hwz⟩⟩
  subst e0_3
  obtain ⟨y0_4, g0_4⟩ := hy0 4 _ 3 4 1 rfl rfl rfl (by kernel_rfl)
  replace g0_4 : DataW.trod _ _ _ _ _ _ _ 3 [c0_4] = some _ := g0_4
  obtain ⟨a0_4, e0_4, rfl, w0_4⟩ := DataW.trod_int Try.underlying3 g0_4
  simp only [List.cons.injEq, and_true] at e0_4
  subst e0_4
  obtain ⟨y0_5, g0_5⟩ := hy0 5 _ 3 5 1 rfl rfl rfl (by kernel_rfl)
  replace g0_5 : DataW.trod _ _ _ _ _ _ _ 3 [c0_5] = some _ := g0_5
  obtain ⟨a0_5, e0_5, rfl, w0_5⟩ := DataW.trod_int Try.underlying3 g0_5
  simp only [List.cons.injEq, and_true] at e0_5
  subst e0_5
  obtain ⟨y0_6, g0_6⟩ := hy0 6 _ 3 6 1 rfl rfl rfl (by kernel_rfl)
  replace g0_6 : DataW.trod _ _ _ _ _ _ _ 3 [c0_6] = some _ := g0_6
  obtain ⟨a0_6, e0_6, rfl, w0_6⟩ := DataW.trod_int Try.underlying3 g0_6
  simp only [List.cons.injEq, and_true] at e0_6
  subst e0_6
  obtain ⟨y0_7, g0_7⟩ := hy0 7 _ 23 7 1 rfl rfl rfl (by kernel_rfl)
  replace g0_7 : DataW.trod _ _ _ _ _ _ _ 23 [c0_7] = some _ := g0_7
  obtain ⟨a0_7, e0_7, rfl, w0_7⟩ := DataW.trod_int Try.underlying23 g0_7
  simp only [List.cons.injEq, and_true] at e0_7
  subst e0_7
  obtain ⟨y0_8, g0_8⟩ := hy0 8 _ 24 8 1 rfl rfl rfl (by kernel_rfl)
  replace g0_8 : DataW.trod _ _ _ _ _ _ _ 24 [c0_8] = some _ := g0_8
  obtain ⟨a0_8, len0_8, cap0_8, e0_8, w0_8⟩ : ∃ a len cap, c0_8 = .slice a len cap ∧ IsPairs W a len cap := by
    rcases Go.Deep.open_slice_pairs Try.underlying24 Try.underlying50 (by kernel_rfl) rfl rfl (by kernel_rfl) (by kernel_rfl) g0_8 with ⟨hcs, _⟩ | ⟨x, l, c, m, n, V0, V1, D0, D1, P0, P1, hcs, _, hl, hm, hmm, _, hc⟩
    · simp only [List.cons.injEq, and_true] at hcs
      exact ⟨none, 0, 0, hcs, .inl ⟨rfl, rfl, rfl⟩⟩
    · simp only [List.cons.injEq, and_true] at hcs
      refine ⟨_, _, _, hcs, .inr ⟨_, rfl, hl, hm, fun i hi => ?_⟩⟩
      obtain ⟨h1, h2, t0, t1⟩ := hc i (by rw [hmm]; split <;> omega)
      obtain ⟨n0, e0, _, w0⟩ := DataW.trod_int Try.underlying48 t0
      obtain ⟨n1, e1, _, w1⟩ := DataW.trod_int Try.underlying23 t1
      simp only [List.cons.injEq, and_true] at e0 e1
      rw [e0] at h1
      rw [e1] at h2
      exact ⟨n0, n1, h1, h2, w0, w1⟩
  subst e0_8
  obtain ⟨y0_9, g0_9⟩ := hy0 9 _ 4 9 1 rfl rfl rfl (by kernel_rfl)
  replace g0_9 : DataW.trod _ _ _ _ _ _ _ 4 [c0_9] = some _ := g0_9
  obtain ⟨a0_9, e0_9, rfl⟩ := DataW.trod_bool Try.underlying4 g0_9
  simp only [List.cons.injEq, and_true] at e0_9
  subst e0_9
  obtain ⟨y0_10, g0_10⟩ := hy0 10 _ 26 10 3 rfl rfl rfl (by kernel_rfl)
  replace g0_10 : DataW.trod _ _ _ _ _ _ _ 26 [c0_10, c0_11, c0_12] = some _ := g0_10
  obtain ⟨fv0_10, hx0_10⟩ := open_within Try.underlying26 g0_10
  obtain ⟨x0_10, d0_10⟩ := hx0_10 0 _ 4 0 1 rfl rfl rfl (by kernel_rfl)
  replace d0_10 : DataW.trod _ _ _ _ _ _ _ 4 [c0_10] = some _ := d0_10
  obtain ⟨a0_10, e0_10, rfl⟩ := DataW.trod_bool Try.underlying4 d0_10
  simp only [List.cons.injEq, and_true] at e0_10
  subst e0_10
  obtain ⟨x0_11, d0_11⟩ := hx0_10 1 _ 3 1 1 rfl rfl rfl (by kernel_rfl)
  replace d0_11 : DataW.trod _ _ _ _ _ _ _ 3 [c0_11] = some _ := d0_11
  obtain ⟨a0_11, e0_11, rfl, w0_11⟩ := DataW.trod_int Try.underlying3 d0_11
  simp only [List.cons.injEq, and_true] at e0_11
  subst e0_11
  obtain ⟨x0_12, d0_12⟩ := hx0_10 2 _ 5 2 1 rfl rfl rfl (by kernel_rfl)
  replace d0_12 : DataW.trod _ _ _ _ _ _ _ 5 [c0_12] = some _ := d0_12
  obtain ⟨a0_12, e0_12, rfl, w0_12⟩ := DataW.trod_int Try.underlying5 d0_12
  simp only [List.cons.injEq, and_true] at e0_12
  subst e0_12
  clear hA0 hval0
  refine (walk a0_0 a0_1 a0_2 a0_3 len0_3 cap0_3 z0_3 a0_4 a0_5 a0_6 a0_7 a0_8 len0_8 cap0_8 a0_9 a0_10 a0_11 a0_12 W w0_0 w0_1 w0_2 w0_3 w0_4 w0_5 w0_6 w0_7 w0_8 rfl rfl w0_11 w0_12).mono fun e W' ⟨he, bel⟩ => ?_
  subst he
  exact ⟨_, rfl, _, _, _, [], _, [], hW', trodAll_mk1 (shut_bool Try.underlying4 _), (trodAll_cons_mk (Below.trod laidOut (by kernel_rfl) (of_decide_eq_true (by kernel_rfl)) k0 bel lt0) trodAll_mk0), rfl, bel.frame _, fun h => by cases h⟩

theorem over : Rows.frameBackRow.holds Try.pinned (OpenSpec.ofChange Rows.frameBackSpec) :=
  OpenClaim.holds_of_wide 3 Try.f3 rfl rfl rfl rfl rfl rfl rfl ⟨rfl, rfl, rfl, rfl, rfl⟩ rfl rfl rfl rfl rfl (by kernel_rfl) Try.func3 (by kernel_rfl)
    (of_decide_eq_true (by kernel_rfl)) (by unfold Func.isWrapper; first | (rw [if_pos (by decide +kernel)]; kernel_rfl) | (rw [if_neg (by decide +kernel)]; exact ⟨rfl, rfl⟩))
    (fun os started H enc _ => lifted os started H enc)

theorem proved : Rows.FrameBackSaid := over
end Go.Proofs.Ytgkbjopgmbdnoaa.frameBack
