/-
  For every input causey/causeylaw04.FrameTells returns true, and each argument reads afterwards as it read before. No condition.
-/
import Derived.Test.YtbflhphjnmhjhaaGreatRows
import Derived.WalkKit
import Derived.ProofKit
import Derived.OpenShut
import Derived.ShutString
import Derived.ChangeOld
import Derived.Below
import Derived.Lib.SmallJoins
import Derived.Deep.SlicePairs
import Derived.Test.YtbflhphjnmhjhaaGreatFtM
namespace Go.Proofs.YtbflhphjnmhjhaaGreat.frameTells
open Go.ChangeShapes Go.WideShapes Go.ChangeAt Go.RowKit
open Go.ChangeMaps (open_string shut_string)
set_option linter.unusedVariables false

theorem own : ownKnob Tryz.prog.godebug = none := by kernel_rfl
theorem laidOut : laidOutB Tryz.prog = true := by kernel_rfl

def IsRow (k : IntKind) (w : World) (a : Option Addr) (len cap : Nat) (zs : List Int) : Prop :=
  (a = none ∧ len = 0 ∧ cap = 0 ∧ zs = []) ∨
  ∃ x, a = some x ∧ len ≤ cap ∧ cap ≤ maxLen ∧ zs.length = cap ∧ (∀ i, i < zs.length → w.cell? (x.add i) = some (.int k (zs.getD i 0))) ∧ ∀ n ∈ zs, (Lit.int k n).wf = true

theorem walk (a0_0 : Int) (a0_1 : Int) (a0_2 : Int) (a0_3 : Int) (a1 : Option Addr) (len1 cap1 : Nat) (z1 : List Int) (a2_0 : Int) (a2_1 : Int) (a2_2 : Int) (a2_3 : Option Addr) (len2_3 cap2_3 : Nat) (z2_3 : List Int) (a2_4 : Int) (a2_5 : Int) (a2_6 : Int) (a2_7 : Int) (a2_8 : Option Addr) (len2_8 cap2_8 : Nat) (a2_9 : Bool) (a2_10 : Bool) (a2_11 : Int) (a2_12 : Int) (a3_0 : Int) (a3_1 : Int) (a3_2 : Int) (a3_3 : Option Addr) (len3_3 cap3_3 : Nat) (z3_3 : List Int) (a3_4 : Int) (a3_5 : Int) (a3_6 : Int) (a3_7 : Int) (a3_8 : Option Addr) (len3_8 cap3_8 : Nat) (a3_9 : Bool) (a3_10 : Bool) (a3_11 : Int) (a3_12 : Int) (a4 : Int) (a5 : Int) (w : World) (w0_0 : (Lit.int .i64 a0_0).wf = true) (w0_1 : (Lit.int .u8 a0_1).wf = true) (w0_2 : (Lit.int .u8 a0_2).wf = true) (w0_3 : (Lit.int .i64 a0_3).wf = true) (w1 : IsRow .u8 w a1 len1 cap1 z1) (w2_0 : (Lit.int .u8 a2_0).wf = true) (w2_1 : (Lit.int .u8 a2_1).wf = true) (w2_2 : (Lit.int .i64 a2_2).wf = true) (w2_3 : IsRow .u8 w a2_3 len2_3 cap2_3 z2_3) (w2_4 : (Lit.int .i64 a2_4).wf = true) (w2_5 : (Lit.int .i64 a2_5).wf = true) (w2_6 : (Lit.int .i64 a2_6).wf = true) (w2_7 : (Lit.int .u32 a2_7).wf = true) (w2_8 : IsPairs w a2_8 len2_8 cap2_8) (w2_9 : a2_9 = a2_9) (w2_10 : a2_10 = a2_10) (w2_11 : (Lit.int .i64 a2_11).wf = true) (w2_12 : (Lit.int .u8 a2_12).wf = true) (w3_0 : (Lit.int .u8 a3_0).wf = true) (w3_1 : (Lit.int .u8 a3_1).wf = true) (w3_2 : (Lit.int .i64 a3_2).wf = true) (w3_3 : IsRow .u8 w a3_3 len3_3 cap3_3 z3_3) (w3_4 : (Lit.int .i64 a3_4).wf = true) (w3_5 : (Lit.int .i64 a3_5).wf = true) (w3_6 : (Lit.int .i64 a3_6).wf = true) (w3_7 : (Lit.int .u32 a3_7).wf = true) (w3_8 : IsPairs w a3_8 len3_8 cap3_8) (w3_9 : a3_9 = a3_9) (w3_10 : a3_10 = a3_10) (w3_11 : (Lit.int .i64 a3_11).wf = true) (w3_12 : (Lit.int .u8 a3_12).wf = true) (w4 : (Lit.int .i64 a4).wf = true) (w5 : (Lit.int .u32 a5).wf = true) :
    Calls Tryz.prog 3 #[.agg #[.int .i64 a0_0, .int .u8 a0_1, .int .u8 a0_2, .int .i64 a0_3], .slice a1 len1 cap1, .agg #[.int .u8 a2_0, .int .u8 a2_1, .int .i64 a2_2, .slice a2_3 len2_3 cap2_3, .int .i64 a2_4, .int .i64 a2_5, .int .i64 a2_6, .int .u32 a2_7, .slice a2_8 len2_8 cap2_8, .bool a2_9, .bool a2_10, .int .i64 a2_11, .int .u8 a2_12], .agg #[.int .u8 a3_0, .int .u8 a3_1, .int .i64 a3_2, .slice a3_3 len3_3 cap3_3, .int .i64 a3_4, .int .i64 a3_5, .int .i64 a3_6, .int .u32 a3_7, .slice a3_8 len3_8 cap3_8, .bool a3_9, .bool a3_10, .int .i64 a3_11, .int .u8 a3_12], .int .i64 a4, .int .u32 a5] w fun e w' => e = .returned (.bool true) ∧ Below w.heap.size w w' := by
  obtain ⟨xs, hA, hc, hm, hn⟩ := rowBytes w1
  obtain ⟨K, rfl⟩ := u8_of w0_1
  obtain ⟨F, rfl⟩ := u8_of w0_2
  obtain ⟨xf, hAf, hcf, hmf, hnf⟩ := rowBytes w2_3
  obtain ⟨lf, hLf, hclf, hmlf, hnlf⟩ := rowPairs w2_8
  obtain ⟨Kf, rfl⟩ := u8_of w2_0
  obtain ⟨Ff, rfl⟩ := u8_of w2_1
  obtain ⟨Cf, rfl⟩ := u32_of w2_7
  obtain ⟨Wf, rfl⟩ := u8_of w2_12
  obtain ⟨xg, hAg, hcg, hmg, hng⟩ := rowBytes w3_3
  obtain ⟨lg, hLg, hclg, hmlg, hnlg⟩ := rowPairs w3_8
  obtain ⟨Kg, rfl⟩ := u8_of w3_0
  obtain ⟨Fg, rfl⟩ := u8_of w3_1
  obtain ⟨Cg, rfl⟩ := u32_of w3_7
  obtain ⟨Wg, rfl⟩ := u8_of w3_12
  exact tells4_any a0_0 a0_3 a4 a5 K F a1 a2_3 a2_8 a3_3 a3_8 len1 cap1 len2_3 cap2_3 len2_8 cap2_8 len3_3 cap3_3 len3_8 cap3_8 xs ⟨Kf, Ff, a2_2, xf, a2_4, a2_5, a2_6, Cf, lf, a2_9, a2_10, a2_11, Wf⟩ ⟨Kg, Fg, a3_2, xg, a3_4, a3_5, a3_6, Cg, lg, a3_9, a3_10, a3_11, Wg⟩ w hA hn hc hAf hnf hcf hLf hnlf hAg hLg

set_option maxRecDepth 100000 in
theorem lifted (os : Os) (started : os.Started) (H : Type) (enc : TypeId × Value → H) :
    ReturnsInHanded {} Tryz.checked os 3 .any (Rows.frameTellsSpec.pre6 enc Tryz.prog Tryz.f3 Rows.frameTellsRow.domain false) (Rows.frameTellsSpec.post enc Tryz.prog Tryz.f3 false true false false) := by
  refine returnsInHanded_of_change (C := Tryz.checked) own started (by kernel_rfl) Tryz.func3
    (ChangeSpec.witness6 (enc := enc) (C := Tryz.checked) false ⟨#[], #[.agg #[.int .i64 0, .int .u8 0, .int .u8 0, .int .i64 0], .slice none 0 0, .agg #[.int .u8 0, .int .u8 0, .int .i64 0, .slice none 0 0, .int .i64 0, .int .i64 0, .int .i64 0, .int .u32 0, .slice none 0 0, .bool false, .bool false, .int .i64 0, .int .u8 0], .agg #[.int .u8 0, .int .u8 0, .int .i64 0, .slice none 0 0, .int .i64 0, .int .i64 0, .int .i64 0, .int .u32 0, .slice none 0 0, .bool false, .bool false, .int .i64 0, .int .u8 0], .int .i64 0, .int .u32 0], []⟩ 8 (by kernel_rfl) (by kernel_rfl) (by kernel_rfl) (by kernel_rfl)) ?_
  intro W base args ds gs before hval0 hW hcnd _
  have hval : ∀ (j : Nat) t v, Tryz.f3.params[j]? = some t → args[j]? = some v → Value.okWide Tryz.prog W .any base t v := hval0
  have hW' := hW
  obtain ⟨p, q, hA0, hV, rfl, hfz, hnd⟩ := hW
  have hA : DataW.TrodAll enc Tryz.prog W 0 (fun _ => true) true Tryz.f3.params.toList args.toList ds p := hA0
  rw [Tryz.params3] at hA hval
  obtain ⟨v0, vs0, d0, ds0, p0, q0, hargs, rfl, rfl, h0, r0⟩ := trodAll_cons hA
  obtain ⟨v1, vs1, d1, ds1, p1, q1, rfl, rfl, rfl, h1, r1⟩ := trodAll_cons r0
  obtain ⟨v2, vs2, d2, ds2, p2, q2, rfl, rfl, rfl, h2, r2⟩ := trodAll_cons r1
  obtain ⟨v3, vs3, d3, ds3, p3, q3, rfl, rfl, rfl, h3, r3⟩ := trodAll_cons r2
  obtain ⟨v4, vs4, d4, ds4, p4, q4, rfl, rfl, rfl, h4, r4⟩ := trodAll_cons r3
  obtain ⟨v5, vs5, d5, ds5, p5, q5, rfl, rfl, rfl, h5, r5⟩ := trodAll_cons r4
  obtain ⟨rfl, rfl, rfl⟩ := trodAll_nil r5
  obtain rfl : args = #[v0, v1, v2, v3, v4, v5] := by cases args; simp_all
  obtain ⟨rfl, rfl⟩ := trodVars_none hV
  have k0 := h0
  have lt0 : ∀ x ∈ p0, x.block < W.heap.size := by obtain ⟨m, hm⟩ := k0; exact DataW.trod_lt m _ _ _ hm
  obtain ⟨c0_0, c0_1, c0_2, c0_3, y0_0, y0_1, y0_2, y0_3, fu0, rfl, rfl, rfl, hy0_0, hy0_1, hy0_2, hy0_3⟩ := Go.Joins.open_agg4 Tryz.underlying23 (by kernel_rfl) (by kernel_rfl) (hval 0 23 v0 rfl rfl) h0
  obtain ⟨a0_0, e0_0, rfl, w0_0⟩ := DataW.trod_int Tryz.underlying3 hy0_0
  simp only [List.cons.injEq, and_true] at e0_0
  subst e0_0
  obtain ⟨a0_1, e0_1, rfl, w0_1⟩ := DataW.trod_int Tryz.underlying5 hy0_1
  simp only [List.cons.injEq, and_true] at e0_1
  subst e0_1
  obtain ⟨a0_2, e0_2, rfl, w0_2⟩ := DataW.trod_int Tryz.underlying5 hy0_2
  simp only [List.cons.injEq, and_true] at e0_2
  subst e0_2
  obtain ⟨a0_3, e0_3, rfl, w0_3⟩ := DataW.trod_int Tryz.underlying3 hy0_3
  simp only [List.cons.injEq, and_true] at e0_3
  subst e0_3
  obtain ⟨a1, len1, cap1, rfl⟩ := okWide_slice Tryz.underlying24 (hval 1 24 v1 rfl rfl)
  have k1 := h1
  have lt1 : ∀ x ∈ p1, x.block < W.heap.size := by obtain ⟨m, hm⟩ := k1; exact DataW.trod_lt m _ _ _ hm
  obtain ⟨z1, w1⟩ : ∃ zs, IsRow .u8 W a1 len1 cap1 zs := by
    obtain ⟨fuel, hf⟩ := h1
    rcases open_ints Tryz.underlying24 Tryz.underlying5 (by kernel_rfl) hf with ⟨hcs, _⟩ | ⟨x, l, c, zs, hcs, _, hl, hm, hz, _, hcell, hwz⟩
    · simp [Value.cells] at hcs
      obtain ⟨rfl, rfl, rfl⟩ := hcs
      exact ⟨[], .inl ⟨rfl, rfl, rfl, rfl⟩⟩
    · simp [Value.cells] at hcs
      obtain ⟨rfl, rfl, rfl⟩ := hcs
      exact ⟨zs, .inr ⟨_, rfl, hl, hm, by simpa using hz, hcell, hwz⟩⟩
  have k2 := h2
  have lt2 : ∀ x ∈ p2, x.block < W.heap.size := by obtain ⟨m, hm⟩ := k2; exact DataW.trod_lt m _ _ _ hm
  obtain ⟨cs2, fu2, rfl, sz2, hy2⟩ := open_cells Tryz.underlying30 (m := 13) (by kernel_rfl) (hval 2 30 v2 rfl rfl) h2
  obtain ⟨c2_0, c2_1, c2_2, c2_3, c2_4, c2_5, c2_6, c2_7, c2_8, c2_9, c2_10, c2_11, c2_12, rfl⟩ := array13 sz2
  obtain ⟨y2_0, g2_0⟩ := hy2 0 _ 5 0 1 rfl rfl rfl (by kernel_rfl)
  replace g2_0 : DataW.trod _ _ _ _ _ _ _ 5 [c2_0] = some _ := g2_0
  obtain ⟨a2_0, e2_0, rfl, w2_0⟩ := DataW.trod_int Tryz.underlying5 g2_0
  simp only [List.cons.injEq, and_true] at e2_0
  subst e2_0
  obtain ⟨y2_1, g2_1⟩ := hy2 1 _ 5 1 1 rfl rfl rfl (by kernel_rfl)
  replace g2_1 : DataW.trod _ _ _ _ _ _ _ 5 [c2_1] = some _ := g2_1
  obtain ⟨a2_1, e2_1, rfl, w2_1⟩ := DataW.trod_int Tryz.underlying5 g2_1
  simp only [List.cons.injEq, and_true] at e2_1
  subst e2_1
  obtain ⟨y2_2, g2_2⟩ := hy2 2 _ 3 2 1 rfl rfl rfl (by kernel_rfl)
  replace g2_2 : DataW.trod _ _ _ _ _ _ _ 3 [c2_2] = some _ := g2_2
  obtain ⟨a2_2, e2_2, rfl, w2_2⟩ := DataW.trod_int Tryz.underlying3 g2_2
  simp only [List.cons.injEq, and_true] at e2_2
  subst e2_2
  obtain ⟨y2_3, g2_3⟩ := hy2 3 _ 24 3 1 rfl rfl rfl (by kernel_rfl)
  replace g2_3 : DataW.trod _ _ _ _ _ _ _ 24 [c2_3] = some _ := g2_3
  obtain ⟨a2_3, len2_3, cap2_3, z2_3, e2_3, w2_3⟩ : ∃ a len cap zs, c2_3 = .slice a len cap ∧ IsRow .u8 W a len cap zs := by
    rcases open_ints Tryz.underlying24 Tryz.underlying5 (by kernel_rfl) g2_3 with ⟨hcs, _⟩ | ⟨x, l, c, zs, hcs, _, hl, hm, hz, _, hcell, hwz⟩
    · simp only [List.cons.injEq, and_true] at hcs
      exact ⟨none, 0, 0, [], hcs, .inl ⟨rfl, rfl, rfl, rfl⟩⟩
    · simp only [List.cons.injEq, and_true] at hcs
      exact ⟨_, _, _, zs, hcs, .inr ⟨_, rfl, hl, hm, by simpa using hz, hcell, hwz⟩⟩
  subst e2_3
  obtain ⟨y2_4, g2_4⟩ := hy2 4 _ 3 4 1 rfl rfl rfl (by kernel_rfl)
  replace g2_4 : DataW.trod _ _ _ _ _ _ _ 3 [c2_4] = some _ := g2_4
  obtain ⟨a2_4, e2_4, rfl, w2_4⟩ := DataW.trod_int Tryz.underlying3 g2_4
  simp only [List.cons.injEq, and_true] at e2_4
  subst e2_4
  obtain ⟨y2_5, g2_5⟩ := hy2 5 _ 3 5 1 rfl rfl rfl (by kernel_rfl)
  replace g2_5 : DataW.trod _ _ _ _ _ _ _ 3 [c2_5] = some _ := g2_5
  obtain ⟨a2_5, e2_5, rfl, w2_5⟩ := DataW.trod_int Tryz.underlying3 g2_5
  simp only [List.cons.injEq, and_true] at e2_5
  subst e2_5
  obtain ⟨y2_6, g2_6⟩ := hy2 6 _ 3 6 1 rfl rfl rfl (by kernel_rfl)
  replace g2_6 : DataW.trod _ _ _ _ _ _ _ 3 [c2_6] = some _ := g2_6
  obtain ⟨a2_6, e2_6, rfl, w2_6⟩ := DataW.trod_int Tryz.underlying3 g2_6
  simp only [List.cons.injEq, and_true] at e2_6
  subst e2_6
  obtain ⟨y2_7, g2_7⟩ := hy2 7 _ 25 7 1 rfl rfl rfl (by kernel_rfl)
  replace g2_7 : DataW.trod _ _ _ _ _ _ _ 25 [c2_7] = some _ := g2_7
  obtain ⟨a2_7, e2_7, rfl, w2_7⟩ := DataW.trod_int Tryz.underlying25 g2_7
  simp only [List.cons.injEq, and_true] at e2_7
  subst e2_7
  obtain ⟨y2_8, g2_8⟩ := hy2 8 _ 26 8 1 rfl rfl rfl (by kernel_rfl)
  replace g2_8 : DataW.trod _ _ _ _ _ _ _ 26 [c2_8] = some _ := g2_8
  obtain ⟨a2_8, len2_8, cap2_8, e2_8, w2_8⟩ : ∃ a len cap, c2_8 = .slice a len cap ∧ IsPairs W a len cap := by
    rcases Go.Deep.open_slice_pairs Tryz.underlying26 Tryz.underlying79 (by kernel_rfl) rfl rfl (by kernel_rfl) (by kernel_rfl) g2_8 with ⟨hcs, _⟩ | ⟨x, l, c, m, n, V0, V1, D0, D1, P0, P1, hcs, _, hl, hm, hmm, _, hc⟩
    · simp only [List.cons.injEq, and_true] at hcs
      exact ⟨none, 0, 0, hcs, .inl ⟨rfl, rfl, rfl⟩⟩
    · simp only [List.cons.injEq, and_true] at hcs
      refine ⟨_, _, _, hcs, .inr ⟨_, rfl, hl, hm, fun i hi => ?_⟩⟩
      obtain ⟨h1, h2, t0, t1⟩ := hc i (by rw [hmm]; split <;> omega)
      obtain ⟨n0, e0, _, w0⟩ := DataW.trod_int Tryz.underlying77 t0
      obtain ⟨n1, e1, _, w1⟩ := DataW.trod_int Tryz.underlying25 t1
      simp only [List.cons.injEq, and_true] at e0 e1
      rw [e0] at h1
      rw [e1] at h2
      exact ⟨n0, n1, h1, h2, w0, w1⟩
  subst e2_8
  obtain ⟨y2_9, g2_9⟩ := hy2 9 _ 4 9 1 rfl rfl rfl (by kernel_rfl)
  replace g2_9 : DataW.trod _ _ _ _ _ _ _ 4 [c2_9] = some _ := g2_9
  obtain ⟨a2_9, e2_9, rfl⟩ := DataW.trod_bool Tryz.underlying4 g2_9
  simp only [List.cons.injEq, and_true] at e2_9
  subst e2_9
  obtain ⟨y2_10, g2_10⟩ := hy2 10 _ 28 10 3 rfl rfl rfl (by kernel_rfl)
  replace g2_10 : DataW.trod _ _ _ _ _ _ _ 28 [c2_10, c2_11, c2_12] = some _ := g2_10
  obtain ⟨fv2_10, hx2_10⟩ := open_within Tryz.underlying28 g2_10
  obtain ⟨x2_10, d2_10⟩ := hx2_10 0 _ 4 0 1 rfl rfl rfl (by kernel_rfl)
  replace d2_10 : DataW.trod _ _ _ _ _ _ _ 4 [c2_10] = some _ := d2_10
  obtain ⟨a2_10, e2_10, rfl⟩ := DataW.trod_bool Tryz.underlying4 d2_10
  simp only [List.cons.injEq, and_true] at e2_10
  subst e2_10
  obtain ⟨x2_11, d2_11⟩ := hx2_10 1 _ 3 1 1 rfl rfl rfl (by kernel_rfl)
  replace d2_11 : DataW.trod _ _ _ _ _ _ _ 3 [c2_11] = some _ := d2_11
  obtain ⟨a2_11, e2_11, rfl, w2_11⟩ := DataW.trod_int Tryz.underlying3 d2_11
  simp only [List.cons.injEq, and_true] at e2_11
  subst e2_11
  obtain ⟨x2_12, d2_12⟩ := hx2_10 2 _ 5 2 1 rfl rfl rfl (by kernel_rfl)
  replace d2_12 : DataW.trod _ _ _ _ _ _ _ 5 [c2_12] = some _ := d2_12
  obtain ⟨a2_12, e2_12, rfl, w2_12⟩ := DataW.trod_int Tryz.underlying5 d2_12
  simp only [List.cons.injEq, and_true] at e2_12
  subst e2_12
  have k3 := h3
  have lt3 : ∀ x ∈ p3, x.block < W.heap.size := by obtain ⟨m, hm⟩ := k3; exact DataW.trod_lt m _ _ _ hm
  obtain ⟨cs3, fu3, rfl, sz3, hy3⟩ := open_cells Tryz.underlying30 (m := 13) (by kernel_rfl) (hval 3 30 v3 rfl rfl) h3
  obtain ⟨c3_0, c3_1, c3_2, c3_3, c3_4, c3_5, c3_6, c3_7, c3_8, c3_9, c3_10, c3_11, c3_12, rfl⟩ := array13 sz3
  obtain ⟨y3_0, g3_0⟩ := hy3 0 _ 5 0 1 rfl rfl rfl (by kernel_rfl)
  replace g3_0 : DataW.trod _ _ _ _ _ _ _ 5 [c3_0] = some _ := g3_0
  obtain ⟨a3_0, e3_0, rfl, w3_0⟩ := DataW.trod_int Tryz.underlying5 g3_0
  simp only [List.cons.injEq, and_true] at e3_0
  subst e3_0
  obtain ⟨y3_1, g3_1⟩ := hy3 1 _ 5 1 1 rfl rfl rfl (by kernel_rfl)
  replace g3_1 : DataW.trod _ _ _ _ _ _ _ 5 [c3_1] = some _ := g3_1
  obtain ⟨a3_1, e3_1, rfl, w3_1⟩ := DataW.trod_int Tryz.underlying5 g3_1
  simp only [List.cons.injEq, and_true] at e3_1
  subst e3_1
  obtain ⟨y3_2, g3_2⟩ := hy3 2 _ 3 2 1 rfl rfl rfl (by kernel_rfl)
  replace g3_2 : DataW.trod _ _ _ _ _ _ _ 3 [c3_2] = some _ := g3_2
  obtain ⟨a3_2, e3_2, rfl, w3_2⟩ := DataW.trod_int Tryz.underlying3 g3_2
  simp only [List.cons.injEq, and_true] at e3_2
  subst e3_2
  obtain ⟨y3_3, g3_3⟩ := hy3 3 _ 24 3 1 rfl rfl rfl (by kernel_rfl)
  replace g3_3 : DataW.trod _ _ _ _ _ _ _ 24 [c3_3] = some _ := g3_3
  obtain ⟨a3_3, len3_3, cap3_3, z3_3, e3_3, w3_3⟩ : ∃ a len cap zs, c3_3 = .slice a len cap ∧ IsRow .u8 W a len cap zs := by
    rcases open_ints Tryz.underlying24 Tryz.underlying5 (by kernel_rfl) g3_3 with ⟨hcs, _⟩ | ⟨x, l, c, zs, hcs, _, hl, hm, hz, _, hcell, hwz⟩
    · simp only [List.cons.injEq, and_true] at hcs
      exact ⟨none, 0, 0, [], hcs, .inl ⟨rfl, rfl, rfl, rfl⟩⟩
    · simp only [List.cons.injEq, and_true] at hcs
      exact ⟨_, _, _, zs, hcs, .inr ⟨_, rfl, hl, hm, by simpa using hz, hcell, hwz⟩⟩
  subst e3_3
  obtain ⟨y3_4, g3_4⟩ := hy3 4 _ 3 4 1 rfl rfl rfl (by kernel_rfl)
  replace g3_4 : DataW.trod _ _ _ _ _ _ _ 3 [c3_4] = some _ := g3_4
  obtain ⟨a3_4, e3_4, rfl, w3_4⟩ := DataW.trod_int Tryz.underlying3 g3_4
  simp only [List.cons.injEq, and_true] at e3_4
  subst e3_4
  obtain ⟨y3_5, g3_5⟩ := hy3 5 _ 3 5 1 rfl rfl rfl (by kernel_rfl)
  replace g3_5 : DataW.trod _ _ _ _ _ _ _ 3 [c3_5] = some _ := g3_5
  obtain ⟨a3_5, e3_5, rfl, w3_5⟩ := DataW.trod_int Tryz.underlying3 g3_5
  simp only [List.cons.injEq, and_true] at e3_5
  subst e3_5
  obtain ⟨y3_6, g3_6⟩ := hy3 6 _ 3 6 1 rfl rfl rfl (by kernel_rfl)
  replace g3_6 : DataW.trod _ _ _ _ _ _ _ 3 [c3_6] = some _ := g3_6
  obtain ⟨a3_6, e3_6, rfl, w3_6⟩ := DataW.trod_int Tryz.underlying3 g3_6
  simp only [List.cons.injEq, and_true] at e3_6
  subst e3_6
  obtain ⟨y3_7, g3_7⟩ := hy3 7 _ 25 7 1 rfl rfl rfl (by kernel_rfl)
  replace g3_7 : DataW.trod _ _ _ _ _ _ _ 25 [c3_7] = some _ := g3_7
  obtain ⟨a3_7, e3_7, rfl, w3_7⟩ := DataW.trod_int Tryz.underlying25 g3_7
  simp only [List.cons.injEq, and_true] at e3_7
  subst e3_7
  obtain ⟨y3_8, g3_8⟩ := hy3 8 _ 26 8 1 rfl rfl rfl (by kernel_rfl)
  replace g3_8 : DataW.trod _ _ _ _ _ _ _ 26 [c3_8] = some _ := g3_8
  obtain ⟨a3_8, len3_8, cap3_8, e3_8, w3_8⟩ : ∃ a len cap, c3_8 = .slice a len cap ∧ IsPairs W a len cap := by
    rcases Go.Deep.open_slice_pairs Tryz.underlying26 Tryz.underlying79 (by kernel_rfl) rfl rfl (by kernel_rfl) (by kernel_rfl) g3_8 with ⟨hcs, _⟩ | ⟨x, l, c, m, n, V0, V1, D0, D1, P0, P1, hcs, _, hl, hm, hmm, _, hc⟩
    · simp only [List.cons.injEq, and_true] at hcs
      exact ⟨none, 0, 0, hcs, .inl ⟨rfl, rfl, rfl⟩⟩
    · simp only [List.cons.injEq, and_true] at hcs
      refine ⟨_, _, _, hcs, .inr ⟨_, rfl, hl, hm, fun i hi => ?_⟩⟩
      obtain ⟨h1, h2, t0, t1⟩ := hc i (by rw [hmm]; split <;> omega)
      obtain ⟨n0, e0, _, w0⟩ := DataW.trod_int Tryz.underlying77 t0
      obtain ⟨n1, e1, _, w1⟩ := DataW.trod_int Tryz.underlying25 t1
      simp only [List.cons.injEq, and_true] at e0 e1
      rw [e0] at h1
      rw [e1] at h2
      exact ⟨n0, n1, h1, h2, w0, w1⟩
  subst e3_8
  obtain ⟨y3_9, g3_9⟩ := hy3 9 _ 4 9 1 rfl rfl rfl (by kernel_rfl)
  replace g3_9 : DataW.trod _ _ _ _ _ _ _ 4 [c3_9] = some _ := g3_9
  obtain ⟨a3_9, e3_9, rfl⟩ := DataW.trod_bool Tryz.underlying4 g3_9
  simp only [List.cons.injEq, and_true] at e3_9
  subst e3_9
  obtain ⟨y3_10, g3_10⟩ := hy3 10 _ 28 10 3 rfl rfl rfl (by kernel_rfl)
  replace g3_10 : DataW.trod _ _ _ _ _ _ _ 28 [c3_10, c3_11, c3_12] = some _ := g3_10
  obtain ⟨fv3_10, hx3_10⟩ := open_within Tryz.underlying28 g3_10
  obtain ⟨x3_10, d3_10⟩ := hx3_10 0 _ 4 0 1 rfl rfl rfl (by kernel_rfl)
  replace d3_10 : DataW.trod _ _ _ _ _ _ _ 4 [c3_10] = some _ := d3_10
  obtain ⟨a3_10, e3_10, rfl⟩ := DataW.trod_bool Tryz.underlying4 d3_10
  simp only [List.cons.injEq, and_true] at e3_10
  subst e3_10
  obtain ⟨x3_11, d3_11⟩ := hx3_10 1 _ 3 1 1 rfl rfl rfl (by kernel_rfl)
  replace d3_11 : DataW.trod _ _ _ _ _ _ _ 3 [c3_11] = some _ := d3_11
  obtain ⟨a3_11, e3_11, rfl, w3_11⟩ := DataW.trod_int Tryz.underlying3 d3_11
  simp only [List.cons.injEq, and_true] at e3_11
  subst e3_11
  obtain ⟨x3_12, d3_12⟩ := hx3_10 2 _ 5 2 1 rfl rfl rfl (by kernel_rfl)
  replace d3_12 : DataW.trod _ _ _ _ _ _ _ 5 [c3_12] = some _ := d3_12
  obtain ⟨a3_12, e3_12, rfl, w3_12⟩ := DataW.trod_int Tryz.underlying5 d3_12
  simp only [List.cons.injEq, and_true] at e3_12
  subst e3_12
  obtain ⟨a4, rfl, rfl, rfl, w4⟩ := open_int Tryz.underlying3 (hval 4 3 v4 rfl rfl) h4
  obtain ⟨a5, rfl, rfl, rfl, w5⟩ := open_int Tryz.underlying25 (hval 5 25 v5 rfl rfl) h5
  clear hA0 hval0
  refine (walk a0_0 a0_1 a0_2 a0_3 a1 len1 cap1 z1 a2_0 a2_1 a2_2 a2_3 len2_3 cap2_3 z2_3 a2_4 a2_5 a2_6 a2_7 a2_8 len2_8 cap2_8 a2_9 a2_10 a2_11 a2_12 a3_0 a3_1 a3_2 a3_3 len3_3 cap3_3 z3_3 a3_4 a3_5 a3_6 a3_7 a3_8 len3_8 cap3_8 a3_9 a3_10 a3_11 a3_12 a4 a5 W w0_0 w0_1 w0_2 w0_3 w1 w2_0 w2_1 w2_2 w2_3 w2_4 w2_5 w2_6 w2_7 w2_8 rfl rfl w2_11 w2_12 w3_0 w3_1 w3_2 w3_3 w3_4 w3_5 w3_6 w3_7 w3_8 rfl rfl w3_11 w3_12 w4 w5).mono fun e W' ⟨he, bel⟩ => ?_
  subst he
  exact ⟨_, rfl, _, _, _, [], _, [], hW', trodAll_mk1 (shut_bool Tryz.underlying4 _), (trodAll_cons_mk (Below.trod laidOut (by kernel_rfl) (of_decide_eq_true (by kernel_rfl)) k0 bel lt0) (trodAll_cons_mk (Below.trod laidOut (by kernel_rfl) (of_decide_eq_true (by kernel_rfl)) k1 bel lt1) (trodAll_cons_mk (Below.trod laidOut (by kernel_rfl) (of_decide_eq_true (by kernel_rfl)) k2 bel lt2) (trodAll_cons_mk (Below.trod laidOut (by kernel_rfl) (of_decide_eq_true (by kernel_rfl)) k3 bel lt3) (trodAll_cons_mk (shut_int Tryz.underlying3 w4) (trodAll_cons_mk (shut_int Tryz.underlying25 w5) trodAll_mk0)))))), rfl, bel.frame _, fun h => by cases h⟩

theorem over : Rows.frameTellsRow.holds Tryz.pinned (OpenSpec.ofChange Rows.frameTellsSpec) :=
  OpenClaim.holds_of_wide 3 Tryz.f3 rfl rfl rfl rfl rfl rfl rfl ⟨rfl, rfl, rfl, rfl, rfl⟩ rfl rfl rfl rfl rfl (by kernel_rfl) Tryz.func3 (by kernel_rfl)
    (of_decide_eq_true (by kernel_rfl)) (by unfold Func.isWrapper; first | (rw [if_pos (by decide +kernel)]; kernel_rfl) | (rw [if_neg (by decide +kernel)]; exact ⟨rfl, rfl⟩))
    (fun os started H enc _ => lifted os started H enc)

theorem proved : Rows.FrameTellsSaid := over
end Go.Proofs.YtbflhphjnmhjhaaGreat.frameTells
