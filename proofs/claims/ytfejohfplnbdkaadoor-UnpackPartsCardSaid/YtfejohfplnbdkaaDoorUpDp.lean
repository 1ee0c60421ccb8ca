/- The laws of layer 10: their regions that draw their order. -/
import Derived.Test.YtfejohfplnbdkaaDoorUpBx
namespace Go.Proofs.YtfejohfplnbdkaaDoor
open Go.RowKit Go.Shelf Px Tx Tb Up GD
set_option linter.unusedVariables false
set_option linter.unusedSimpArgs false
set_option linter.unusedSectionVars false
noncomputable def p11ops : List Oper := opsOf 11 (Tryd.f3.body.getD .skip)
section
variable {w0 : World} {fs : List Fact} {gs : List Bx} {M most : Int} {A A1 A2 : Option Addr} {n c n1 c1 n2 c2 gT : Nat} {xs : List Fd} {a b : List UInt8} {E : Int} {nl : Nat} {L : List Fd} {G : Bool} {N : Int} {nt : Nat} {X : List Fd} {v0 v5 v6 v7 v8 v9 x0 x1 x2 x3 x4 x5 x6 x7 x8 x9 y0 y1 y2 y3 y4 y5 y6 y7 y8 y9 z0 z1 z2 z3 z4 z5 z6 z7 z8 z9 j0 j1 j2 j3 j4 j5 j6 j7 j8 j9 r0 r1 r2 r3 r4 r5 r6 r7 r8 r9 q0 q1 q2 q3 q4 q5 q6 q7 q8 q9 p0 p1 p2 p3 p4 p5 p6 p7 p8 p9 o0 o1 o2 o3 o4 o5 o6 o7 o8 o9 m0 m1 m2 m3 m4 m5 m6 m7 m8 k1 k3 k5 k6 k7 k8 k9 f0 f1 f2 f3 f4 f5 f6 f7 f8 f9 g0 g1 g2 g3 g4 g5 g6 g7 g8 g9 t0 t1 t2 t3 t4 t5 t6 t7 t8 t9 d0 d1 d2 d3 d4 d5 d6 d7 d8 d9 l0 l1 l2 l3 l4 l5 l6 l7 l8 l9 s0 s1 : Value} {KK : Act → World → Prop} (hST : stF ∈ fs) (hRW : rwF ∈ fs) (hMV : mvF ∈ fs) (h_xs : fF A n xs ∈ fs) (hN_xs : A = none → c = 0) (hF : full xs ≤ 20000) (h3 : (gT, #[.int .i64 M, .slice A n c], 24) ∈ gs) (h_a : bF A1 n1 a ∈ fs) (hN_a : A1 = none → c1 = 0) (h_b : bF A2 n2 b ∈ fs) (hN_b : A2 = none → c2 = 0) (hla : a.length ≤ 4000) (hlb : b.length ≤ 4000) (hna : n1 ≤ 4000) (hnb : n2 ≤ 4000) (HV : BK M most xs (a ++ b) E nl L G N nt X) (hR : ∀ (gX : Nat) (LL TT : Option Addr) (cl tc : Nat) (u101 u103 u105 : Value) (w : World), EnvF w (fF LL nl L :: fF TT nt X :: fs) ((gX, #[.slice LL nl cl, .bool G, .int .i64 N, .slice TT nt tc], 29) :: (gs)) → (LL = none → cl = 0) → (TT = none → tc = 0) → Below w0.heap.size w0 w → KK { tmps := #[v0, .int .i64 most, .slice A1 n1 c1, .slice A2 n2 c2, .pointer (some ⟨gT, 0, none⟩), v5, v6, v7, v8, v9, x0, x1, x2, .pointer (some ⟨gX, 0, none⟩), .int .i64 E, x5, x6, x7, x8, x9, y0, y1, y2, y3, y4, y5, y6, y7, y8, y9, z0, z1, z2, z3, z4, z5, z6, z7, z8, z9, j0, j1, j2, j3, j4, j5, j6, j7, j8, j9, r0, r1, r2, r3, r4, r5, r6, r7, r8, r9, q0, q1, q2, q3, q4, q5, q6, q7, q8, q9, p0, p1, p2, p3, p4, p5, p6, p7, p8, p9, o0, o1, o2, o3, o4, o5, o6, o7, o8, o9, m0, m1, m2, m3, m4, m5, m6, m7, .tuple #[.agg #[.slice LL nl cl, .bool G, .int .i64 N, .slice TT nt tc], .int .i64 E], .agg #[.int .i64 M, .slice A n c], .int .i64 most, u101, .slice A1 n1 c1, u103, .slice A2 n2 c2, u105, .tuple #[.agg #[.slice LL nl cl, .bool G, .int .i64 N, .slice TT nt tc], .int .i64 E], .agg #[.slice LL nl cl, .bool G, .int .i64 N, .slice TT nt tc], .int .i64 E, k9, f0, f1, f2, f3, f4, f5, f6, f7, f8, f9, g0, g1, g2, g3, g4, g5, g6, g7, g8, g9, t0, t1, t2, t3, t4, t5, t6, t7, t8, t9, d0, d1, d2, d3, d4, d5, d6, d7, d8, d9, l0, l1, l2, l3, l4, l5, l6, l7, l8, l9, s0, s1], defers := [] } w)
include hST hRW hMV h_xs hN_xs hF h3 h_a hN_a h_b hN_b hla hlb hna hnb HV hR
set_option maxRecDepth 100000 in
set_option maxHeartbeats 4000000 in
theorem p11_41 {gX : Nat} {LL TT : Option Addr} {cl tc : Nat}  (leX : w0.heap.size ≤ gX) (hcl : LL = none → cl = 0) (htc : TT = none → tc = 0) {w : World} (ls : Array Bool) (hl : ls = #[true, true, true, true, true, true, true, true, true, true, true, true, false, false]) (K : EnvF w (fF LL nl L :: fF TT nt X :: fs) ((gX, #[.slice none 0 0, .bool false, .int .i64 0, .slice none 0 0], 29) :: (gs))) (B : Below w0.heap.size w0 w) :
    wpAnyH Tryd.prog .any p11ops.toArray (Exit.then KK fun _ _ _ => False) (fun W' => W'.cell? ⟨gT, 0, none⟩ = some (.int .i64 M) ∧ W'.cell? ⟨gT, 1, none⟩ = some (.slice A n c)) 2 ls { tmps := #[v0, .int .i64 most, .slice A1 n1 c1, .slice A2 n2 c2, .pointer (some ⟨gT, 0, none⟩), v5, v6, v7, v8, v9, x0, x1, x2, .pointer (some ⟨gX, 0, none⟩), x4, x5, x6, x7, x8, x9, y0, y1, y2, y3, y4, y5, y6, y7, y8, y9, z0, z1, z2, z3, z4, z5, z6, z7, z8, z9, j0, j1, j2, j3, j4, j5, j6, j7, j8, j9, r0, r1, r2, r3, r4, r5, r6, r7, r8, r9, q0, q1, q2, q3, q4, q5, q6, q7, q8, q9, p0, p1, p2, p3, p4, p5, p6, p7, p8, p9, o0, o1, o2, o3, o4, o5, o6, o7, o8, o9, m0, m1, m2, m3, m4, m5, m6, m7, .tuple #[.agg #[.slice LL nl cl, .bool G, .int .i64 N, .slice TT nt tc], .int .i64 E], .agg #[.int .i64 M, .slice A n c], .int .i64 most, k1, .slice A1 n1 c1, k3, .slice A2 n2 c2, k5, .tuple #[.agg #[.slice LL nl cl, .bool G, .int .i64 N, .slice TT nt tc], .int .i64 E], .agg #[.slice LL nl cl, .bool G, .int .i64 N, .slice TT nt tc], .int .i64 E, k9, f0, f1, f2, f3, f4, f5, f6, f7, f8, f9, g0, g1, g2, g3, g4, g5, g6, g7, g8, g9, t0, t1, t2, t3, t4, t5, t6, t7, t8, t9, d0, d1, d2, d3, d4, d5, d6, d7, d8, d9, l0, l1, l2, l3, l4, l5, l6, l7, l8, l9, s0, s1], defers := [] } w := by
  subst hl
  refine readyD (i := 12) rfl (by as_aux_lemma => kernel_rfl) (fun K' hK => ?_)
  refine step_put (by rfl) 29 (.tmp 13) (.tmp 107) (by rfl) gX 0 (.agg #[.slice LL nl cl, .bool G, .int .i64 N, .slice TT nt tc]) (by rfl) (by rfl) 29 #[.slice none 0 0, .bool false, .int .i64 0, .slice none 0 0] #[.slice LL nl cl, .bool G, .int .i64 N, .slice TT nt tc] (K.row 0 rfl) (by simp [Value.cells]) (by kernel_rfl) infoc_U (by kernel_rfl) ?_
  intro w1 c1' c2' c3' c4'
  have K1 := K.turn 0 rfl c1' c2' c3'
  have B1 := c4' _ _ leX B
  refine hK.out _ _ (cells2_row (K1.g _ (List.mem_cons_of_mem _ (h3)))) (fun hH => ?_)
  clear hK K'
  try simp only [Act.put, List.setIfInBounds_toArray, List.set_cons_zero, List.set_cons_succ]
  refine takeD (i := 13) (v := ?_) rfl (by as_aux_lemma => kernel_rfl) (by as_aux_lemma => kernel_rfl) (by as_aux_lemma => kernel_rfl) (fun _ _ _ h => h) (Or.inl ⟨by rfl, ?_⟩) hH ?_
  rotate_left
  · intro w hSw; (try dsimp only at hSw); go_simp <;> with_reducible rfl
  try simp only [Act.put, List.setIfInBounds_toArray, List.set_cons_zero, List.set_cons_succ]
  refine wpAnyH_done (by as_aux_lemma => kernel_rfl) ?_ _
  exact hR _ _ _ _ _ _ _ _ _ K1 hcl htc B1
set_option maxRecDepth 100000 in
set_option maxHeartbeats 4000000 in
theorem p11_40 {LL TT : Option Addr} {cl tc : Nat}  (hcl : LL = none → cl = 0) (htc : TT = none → tc = 0) {w : World} (ls : Array Bool) (hl : ls = #[true, true, true, true, true, true, true, true, true, true, true, false, false, false]) (K : EnvF w (fF LL nl L :: fF TT nt X :: fs) (gs)) (B : Below w0.heap.size w0 w) :
    wpAnyH Tryd.prog .any p11ops.toArray (Exit.then KK fun _ _ _ => False) (fun W' => W'.cell? ⟨gT, 0, none⟩ = some (.int .i64 M) ∧ W'.cell? ⟨gT, 1, none⟩ = some (.slice A n c)) 3 ls { tmps := #[v0, .int .i64 most, .slice A1 n1 c1, .slice A2 n2 c2, .pointer (some ⟨gT, 0, none⟩), v5, v6, v7, v8, v9, x0, x1, x2, x3, x4, x5, x6, x7, x8, x9, y0, y1, y2, y3, y4, y5, y6, y7, y8, y9, z0, z1, z2, z3, z4, z5, z6, z7, z8, z9, j0, j1, j2, j3, j4, j5, j6, j7, j8, j9, r0, r1, r2, r3, r4, r5, r6, r7, r8, r9, q0, q1, q2, q3, q4, q5, q6, q7, q8, q9, p0, p1, p2, p3, p4, p5, p6, p7, p8, p9, o0, o1, o2, o3, o4, o5, o6, o7, o8, o9, m0, m1, m2, m3, m4, m5, m6, m7, .tuple #[.agg #[.slice LL nl cl, .bool G, .int .i64 N, .slice TT nt tc], .int .i64 E], .agg #[.int .i64 M, .slice A n c], .int .i64 most, k1, .slice A1 n1 c1, k3, .slice A2 n2 c2, k5, .tuple #[.agg #[.slice LL nl cl, .bool G, .int .i64 N, .slice TT nt tc], .int .i64 E], .agg #[.slice LL nl cl, .bool G, .int .i64 N, .slice TT nt tc], .int .i64 E, k9, f0, f1, f2, f3, f4, f5, f6, f7, f8, f9, g0, g1, g2, g3, g4, g5, g6, g7, g8, g9, t0, t1, t2, t3, t4, t5, t6, t7, t8, t9, d0, d1, d2, d3, d4, d5, d6, d7, d8, d9, l0, l1, l2, l3, l4, l5, l6, l7, l8, l9, s0, s1], defers := [] } w := by
  subst hl
  refine wpAnyH_ready (rs := [11]) (by as_aux_lemma => kernel_rfl) (by simp) ?_
  refine AllReadyH.cons (getOf (i := 11) rfl) (fun K' hK => ?_) ?_
  ·
    go_simp
    have K2 := K.boxg 29 #[.slice none 0 0, .bool false, .int .i64 0, .slice none 0 0] w.heap.size rfl
    have B2 := B.alloc B.size (.cells #[.slice none 0 0, .bool false, .int .i64 0, .slice none 0 0] 29)
    have leX := B.size
    refine hK.out _ _ (cells2_row (K2.g _ (List.mem_cons_of_mem _ (h3)))) (fun hH => ?_)
    clear hK K'
    try simp only [Act.put, List.setIfInBounds_toArray, List.set_cons_zero, List.set_cons_succ]
    exact p11_41 hST hRW hMV h_xs hN_xs hF h3 h_a hN_a h_b hN_b hla hlb hna hnb HV hR leX hcl htc _ (by kernel_rfl) K2 B2
  exact AllReadyH.nil
set_option maxRecDepth 100000 in
set_option maxHeartbeats 4000000 in
theorem p11_31 {gX : Nat} {V : Value} {lb : List Bx}  (leX : w0.heap.size ≤ gX) (hl1 : BBox w0.heap.size V (a ++ b) lb) {w : World} (ls : Array Bool) (hl : ls = #[true, true, true, true, true, true, true, false, false, false, false, true, false, false]) (K : EnvF w fs ((gX, #[.slice none 0 0, .bool false, .int .i64 0, .slice none 0 0], 29) :: (gs ++ lb))) (B : Below w0.heap.size w0 w) :
    wpAnyH Tryd.prog .any p11ops.toArray (Exit.then KK fun _ _ _ => False) (fun W' => W'.cell? ⟨gT, 0, none⟩ = some (.int .i64 M) ∧ W'.cell? ⟨gT, 1, none⟩ = some (.slice A n c)) 6 ls { tmps := #[v0, .int .i64 most, .slice A1 n1 c1, .slice A2 n2 c2, .pointer (some ⟨gT, 0, none⟩), v5, v6, v7, v8, v9, x0, x1, x2, .pointer (some ⟨gX, 0, none⟩), x4, x5, x6, x7, x8, x9, y0, y1, y2, y3, y4, y5, y6, y7, y8, y9, z0, z1, z2, z3, z4, z5, z6, z7, z8, z9, j0, j1, j2, j3, j4, j5, j6, j7, j8, j9, r0, r1, r2, r3, r4, r5, r6, r7, r8, r9, q0, q1, q2, q3, q4, q5, q6, q7, q8, q9, p0, p1, p2, p3, p4, p5, p6, p7, p8, p9, o0, o1, o2, o3, o4, o5, o6, o7, o8, o9, m0, m1, m2, m3, m4, m5, m6, m7, m8, .agg #[.int .i64 M, .slice A n c], .int .i64 most, k1, .slice A1 n1 c1, k3, .slice A2 n2 c2, V, k6, k7, k8, k9, f0, f1, f2, f3, f4, f5, f6, f7, f8, f9, g0, g1, g2, g3, g4, g5, g6, g7, g8, g9, t0, t1, t2, t3, t4, t5, t6, t7, t8, t9, d0, d1, d2, d3, d4, d5, d6, d7, d8, d9, l0, l1, l2, l3, l4, l5, l6, l7, l8, l9, s0, s1], defers := [] } w := by
  subst hl
  refine wpAnyH_ready (rs := [7]) (by as_aux_lemma => kernel_rfl) (by simp) ?_
  refine AllReadyH.cons (getOf (i := 7) rfl) (fun K' hK => ?_) ?_
  ·
    obtain ⟨A3, n3, c3, rfl, hn3, h31, h32⟩ := hl1.form2 (gs := ((gX, #[.slice none 0 0, .bool false, .int .i64 0, .slice none 0 0], 29) :: (gs))) K
    have K1 := bbox_fact (gs := ((gX, #[.slice none 0 0, .bool false, .int .i64 0, .slice none 0 0], 29) :: (gs))) K hl1 hn3
    have hn3' : n3 ≤ 10000 := by rw [← hn3]; rw [List.length_append]; omega
    clear hn3
    go_simp
    go_at_call 9
    refine (b_call w HV K1 (List.mem_cons_self ..) h31 h32 (List.mem_cons_of_mem _ h_xs) hN_xs (List.mem_cons_of_mem _ hST) (List.mem_cons_of_mem _ hRW) (List.mem_cons_of_mem _ hMV) hF hn3').mono ?_
    rintro e w2 ⟨LL, cl, TT, tc, rfl, hb, hE, hcl, htc⟩
    have K2 := Up.EnvF.drop3 hE
    have B2 := below_step B hb
    refine hK.out _ _ (cells2_row (K2.g _ (List.mem_cons_of_mem _ (h3)))) (fun hH => ?_)
    clear hK K'
    try simp only [Act.put, List.setIfInBounds_toArray, List.set_cons_zero, List.set_cons_succ]
    refine takeD (i := 8) (v := ?_) rfl (by as_aux_lemma => kernel_rfl) (by as_aux_lemma => kernel_rfl) (by as_aux_lemma => kernel_rfl) (fun _ _ _ h => h) (Or.inl ⟨by rfl, ?_⟩) hH ?_
    rotate_left
    · intro w hSw; (try dsimp only at hSw); go_simp <;> with_reducible rfl
    try simp only [Act.put, List.setIfInBounds_toArray, List.set_cons_zero, List.set_cons_succ]
    refine takeD (i := 9) (v := ?_) rfl (by as_aux_lemma => kernel_rfl) (by as_aux_lemma => kernel_rfl) (by as_aux_lemma => kernel_rfl) (fun _ _ _ h => h) (Or.inl ⟨by rfl, ?_⟩) hH ?_
    rotate_left
    · intro w hSw; (try dsimp only at hSw); go_simp <;> with_reducible rfl
    try simp only [Act.put, List.setIfInBounds_toArray, List.set_cons_zero, List.set_cons_succ]
    refine takeD (i := 10) (v := ?_) rfl (by as_aux_lemma => kernel_rfl) (by as_aux_lemma => kernel_rfl) (by as_aux_lemma => kernel_rfl) (fun _ _ _ h => h) (Or.inl ⟨by rfl, ?_⟩) hH ?_
    rotate_left
    · intro w hSw; (try dsimp only at hSw); go_simp <;> with_reducible rfl
    try simp only [Act.put, List.setIfInBounds_toArray, List.set_cons_zero, List.set_cons_succ]
    exact p11_41 hST hRW hMV h_xs hN_xs hF h3 h_a hN_a h_b hN_b hla hlb hna hnb HV hR leX hcl htc _ (by kernel_rfl) K2 B2
  exact AllReadyH.nil
set_option maxRecDepth 100000 in
set_option maxHeartbeats 4000000 in
theorem p11_30 {V : Value} {lb : List Bx}  (hl1 : BBox w0.heap.size V (a ++ b) lb) {w : World} (ls : Array Bool) (hl : ls = #[true, true, true, true, true, true, true, false, false, false, false, false, false, false]) (K : EnvF w fs (gs ++ lb)) (B : Below w0.heap.size w0 w) :
    wpAnyH Tryd.prog .any p11ops.toArray (Exit.then KK fun _ _ _ => False) (fun W' => W'.cell? ⟨gT, 0, none⟩ = some (.int .i64 M) ∧ W'.cell? ⟨gT, 1, none⟩ = some (.slice A n c)) 7 ls { tmps := #[v0, .int .i64 most, .slice A1 n1 c1, .slice A2 n2 c2, .pointer (some ⟨gT, 0, none⟩), v5, v6, v7, v8, v9, x0, x1, x2, x3, x4, x5, x6, x7, x8, x9, y0, y1, y2, y3, y4, y5, y6, y7, y8, y9, z0, z1, z2, z3, z4, z5, z6, z7, z8, z9, j0, j1, j2, j3, j4, j5, j6, j7, j8, j9, r0, r1, r2, r3, r4, r5, r6, r7, r8, r9, q0, q1, q2, q3, q4, q5, q6, q7, q8, q9, p0, p1, p2, p3, p4, p5, p6, p7, p8, p9, o0, o1, o2, o3, o4, o5, o6, o7, o8, o9, m0, m1, m2, m3, m4, m5, m6, m7, m8, .agg #[.int .i64 M, .slice A n c], .int .i64 most, k1, .slice A1 n1 c1, k3, .slice A2 n2 c2, V, k6, k7, k8, k9, f0, f1, f2, f3, f4, f5, f6, f7, f8, f9, g0, g1, g2, g3, g4, g5, g6, g7, g8, g9, t0, t1, t2, t3, t4, t5, t6, t7, t8, t9, d0, d1, d2, d3, d4, d5, d6, d7, d8, d9, l0, l1, l2, l3, l4, l5, l6, l7, l8, l9, s0, s1], defers := [] } w := by
  subst hl
  refine wpAnyH_ready (rs := [7, 11]) (by as_aux_lemma => kernel_rfl) (by simp) ?_
  refine AllReadyH.cons (getOf (i := 7) rfl) (fun K' hK => ?_) ?_
  ·
    obtain ⟨A3, n3, c3, rfl, hn3, h31, h32⟩ := hl1.form2 (gs := (gs)) K
    have K1 := bbox_fact (gs := (gs)) K hl1 hn3
    have hn3' : n3 ≤ 10000 := by rw [← hn3]; rw [List.length_append]; omega
    clear hn3
    go_simp
    go_at_call 9
    refine (b_call w HV K1 (List.mem_cons_self ..) h31 h32 (List.mem_cons_of_mem _ h_xs) hN_xs (List.mem_cons_of_mem _ hST) (List.mem_cons_of_mem _ hRW) (List.mem_cons_of_mem _ hMV) hF hn3').mono ?_
    rintro e w2 ⟨LL, cl, TT, tc, rfl, hb, hE, hcl, htc⟩
    have K2 := Up.EnvF.drop3 hE
    have B2 := below_step B hb
    refine hK.out _ _ (cells2_row (K2.g _ (h3))) (fun hH => ?_)
    clear hK K'
    try simp only [Act.put, List.setIfInBounds_toArray, List.set_cons_zero, List.set_cons_succ]
    refine takeD (i := 8) (v := ?_) rfl (by as_aux_lemma => kernel_rfl) (by as_aux_lemma => kernel_rfl) (by as_aux_lemma => kernel_rfl) (fun _ _ _ h => h) (Or.inl ⟨by rfl, ?_⟩) hH ?_
    rotate_left
    · intro w hSw; (try dsimp only at hSw); go_simp <;> with_reducible rfl
    try simp only [Act.put, List.setIfInBounds_toArray, List.set_cons_zero, List.set_cons_succ]
    refine takeD (i := 9) (v := ?_) rfl (by as_aux_lemma => kernel_rfl) (by as_aux_lemma => kernel_rfl) (by as_aux_lemma => kernel_rfl) (fun _ _ _ h => h) (Or.inl ⟨by rfl, ?_⟩) hH ?_
    rotate_left
    · intro w hSw; (try dsimp only at hSw); go_simp <;> with_reducible rfl
    try simp only [Act.put, List.setIfInBounds_toArray, List.set_cons_zero, List.set_cons_succ]
    refine takeD (i := 10) (v := ?_) rfl (by as_aux_lemma => kernel_rfl) (by as_aux_lemma => kernel_rfl) (by as_aux_lemma => kernel_rfl) (fun _ _ _ h => h) (Or.inl ⟨by rfl, ?_⟩) hH ?_
    rotate_left
    · intro w hSw; (try dsimp only at hSw); go_simp <;> with_reducible rfl
    try simp only [Act.put, List.setIfInBounds_toArray, List.set_cons_zero, List.set_cons_succ]
    exact p11_40 hST hRW hMV h_xs hN_xs hF h3 h_a hN_a h_b hN_b hla hlb hna hnb HV hR hcl htc _ (by kernel_rfl) K2 B2
  refine AllReadyH.cons (getOf (i := 11) rfl) (fun K' hK => ?_) ?_
  ·
    go_simp
    have K2 := K.boxg 29 #[.slice none 0 0, .bool false, .int .i64 0, .slice none 0 0] w.heap.size rfl
    have B2 := B.alloc B.size (.cells #[.slice none 0 0, .bool false, .int .i64 0, .slice none 0 0] 29)
    have leX := B.size
    refine hK.out _ _ (cells2_row (K2.g _ (List.mem_cons_of_mem _ (List.mem_append_left _ h3)))) (fun hH => ?_)
    clear hK K'
    try simp only [Act.put, List.setIfInBounds_toArray, List.set_cons_zero, List.set_cons_succ]
    exact p11_31 hST hRW hMV h_xs hN_xs hF h3 h_a hN_a h_b hN_b hla hlb hna hnb HV hR leX hl1 _ (by kernel_rfl) K2 B2
  exact AllReadyH.nil
set_option maxRecDepth 100000 in
set_option maxHeartbeats 4000000 in
theorem p11_21 {gX : Nat} {V : Value} {lb : List Bx}  (leX : w0.heap.size ≤ gX) (hl1 : BBox w0.heap.size V a lb) {w : World} (ls : Array Bool) (hl : ls = #[true, true, true, true, true, true, false, false, false, false, false, true, false, false]) (K : EnvF w fs ((gX, #[.slice none 0 0, .bool false, .int .i64 0, .slice none 0 0], 29) :: (gs ++ lb))) (B : Below w0.heap.size w0 w) :
    wpAnyH Tryd.prog .any p11ops.toArray (Exit.then KK fun _ _ _ => False) (fun W' => W'.cell? ⟨gT, 0, none⟩ = some (.int .i64 M) ∧ W'.cell? ⟨gT, 1, none⟩ = some (.slice A n c)) 7 ls { tmps := #[v0, .int .i64 most, .slice A1 n1 c1, .slice A2 n2 c2, .pointer (some ⟨gT, 0, none⟩), v5, v6, v7, v8, v9, x0, x1, x2, .pointer (some ⟨gX, 0, none⟩), x4, x5, x6, x7, x8, x9, y0, y1, y2, y3, y4, y5, y6, y7, y8, y9, z0, z1, z2, z3, z4, z5, z6, z7, z8, z9, j0, j1, j2, j3, j4, j5, j6, j7, j8, j9, r0, r1, r2, r3, r4, r5, r6, r7, r8, r9, q0, q1, q2, q3, q4, q5, q6, q7, q8, q9, p0, p1, p2, p3, p4, p5, p6, p7, p8, p9, o0, o1, o2, o3, o4, o5, o6, o7, o8, o9, m0, m1, m2, m3, m4, m5, m6, m7, m8, .agg #[.int .i64 M, .slice A n c], .int .i64 most, k1, .slice A1 n1 c1, V, .slice A2 n2 c2, k5, k6, k7, k8, k9, f0, f1, f2, f3, f4, f5, f6, f7, f8, f9, g0, g1, g2, g3, g4, g5, g6, g7, g8, g9, t0, t1, t2, t3, t4, t5, t6, t7, t8, t9, d0, d1, d2, d3, d4, d5, d6, d7, d8, d9, l0, l1, l2, l3, l4, l5, l6, l7, l8, l9, s0, s1], defers := [] } w := by
  subst hl
  refine wpAnyH_ready (rs := [6]) (by as_aux_lemma => kernel_rfl) (by simp) ?_
  refine AllReadyH.cons (getOf (i := 6) rfl) (fun K' hK => ?_) ?_
  ·
    obtain ⟨i0, hi, hz0, hz1, hz2⟩ := info_parts info_tu8
    refine step_append_full _ (by rfl) (.tmp 103) (.tmp 104) 25 (by rfl) w0.heap.size 5 i0 Tryd.underlying25 hi hz0 hz1 hz2 V a (by rfl) (hl1.own (gs := ((gX, #[.slice none 0 0, .bool false, .int .i64 0, .slice none 0 0], 29) :: (gs)) ++ lb) K (fun y hy => List.mem_append_right _ hy)) _ A2 n2 c2 b (by rfl) (K.bs h_b) hN_b (by omega) B.size ?_
    intro V2 w2 ho hb hg hv _
    obtain ⟨lb2, hl2, K2⟩ := bbox_append (gs := ((gX, #[.slice none 0 0, .bool false, .int .i64 0, .slice none 0 0], 29) :: (gs))) (lb := lb) K hl1 ho hg hv
    have B2 := B.trans hb
    clear hl1 K B
    have hl1 := hl2
    refine hK.out _ _ (cells2_row (K2.g _ (List.mem_cons_of_mem _ (List.mem_append_left _ h3)))) (fun hH => ?_)
    clear hK K'
    try simp only [Act.put, List.setIfInBounds_toArray, List.set_cons_zero, List.set_cons_succ]
    exact p11_31 hST hRW hMV h_xs hN_xs hF h3 h_a hN_a h_b hN_b hla hlb hna hnb HV hR leX hl1 _ (by kernel_rfl) K2 B2
  exact AllReadyH.nil
set_option maxRecDepth 100000 in
set_option maxHeartbeats 4000000 in
theorem p11_20 {V : Value} {lb : List Bx}  (hl1 : BBox w0.heap.size V a lb) {w : World} (ls : Array Bool) (hl : ls = #[true, true, true, true, true, true, false, false, false, false, false, false, false, false]) (K : EnvF w fs (gs ++ lb)) (B : Below w0.heap.size w0 w) :
    wpAnyH Tryd.prog .any p11ops.toArray (Exit.then KK fun _ _ _ => False) (fun W' => W'.cell? ⟨gT, 0, none⟩ = some (.int .i64 M) ∧ W'.cell? ⟨gT, 1, none⟩ = some (.slice A n c)) 8 ls { tmps := #[v0, .int .i64 most, .slice A1 n1 c1, .slice A2 n2 c2, .pointer (some ⟨gT, 0, none⟩), v5, v6, v7, v8, v9, x0, x1, x2, x3, x4, x5, x6, x7, x8, x9, y0, y1, y2, y3, y4, y5, y6, y7, y8, y9, z0, z1, z2, z3, z4, z5, z6, z7, z8, z9, j0, j1, j2, j3, j4, j5, j6, j7, j8, j9, r0, r1, r2, r3, r4, r5, r6, r7, r8, r9, q0, q1, q2, q3, q4, q5, q6, q7, q8, q9, p0, p1, p2, p3, p4, p5, p6, p7, p8, p9, o0, o1, o2, o3, o4, o5, o6, o7, o8, o9, m0, m1, m2, m3, m4, m5, m6, m7, m8, .agg #[.int .i64 M, .slice A n c], .int .i64 most, k1, .slice A1 n1 c1, V, .slice A2 n2 c2, k5, k6, k7, k8, k9, f0, f1, f2, f3, f4, f5, f6, f7, f8, f9, g0, g1, g2, g3, g4, g5, g6, g7, g8, g9, t0, t1, t2, t3, t4, t5, t6, t7, t8, t9, d0, d1, d2, d3, d4, d5, d6, d7, d8, d9, l0, l1, l2, l3, l4, l5, l6, l7, l8, l9, s0, s1], defers := [] } w := by
  subst hl
  refine wpAnyH_ready (rs := [6, 11]) (by as_aux_lemma => kernel_rfl) (by simp) ?_
  refine AllReadyH.cons (getOf (i := 6) rfl) (fun K' hK => ?_) ?_
  ·
    obtain ⟨i0, hi, hz0, hz1, hz2⟩ := info_parts info_tu8
    refine step_append_full _ (by rfl) (.tmp 103) (.tmp 104) 25 (by rfl) w0.heap.size 5 i0 Tryd.underlying25 hi hz0 hz1 hz2 V a (by rfl) (hl1.own (gs := (gs) ++ lb) K (fun y hy => List.mem_append_right _ hy)) _ A2 n2 c2 b (by rfl) (K.bs h_b) hN_b (by omega) B.size ?_
    intro V2 w2 ho hb hg hv _
    obtain ⟨lb2, hl2, K2⟩ := bbox_append (gs := (gs)) (lb := lb) K hl1 ho hg hv
    have B2 := B.trans hb
    clear hl1 K B
    have hl1 := hl2
    refine hK.out _ _ (cells2_row (K2.g _ (List.mem_append_left _ h3))) (fun hH => ?_)
    clear hK K'
    try simp only [Act.put, List.setIfInBounds_toArray, List.set_cons_zero, List.set_cons_succ]
    exact p11_30 hST hRW hMV h_xs hN_xs hF h3 h_a hN_a h_b hN_b hla hlb hna hnb HV hR hl1 _ (by kernel_rfl) K2 B2
  refine AllReadyH.cons (getOf (i := 11) rfl) (fun K' hK => ?_) ?_
  ·
    go_simp
    have K2 := K.boxg 29 #[.slice none 0 0, .bool false, .int .i64 0, .slice none 0 0] w.heap.size rfl
    have B2 := B.alloc B.size (.cells #[.slice none 0 0, .bool false, .int .i64 0, .slice none 0 0] 29)
    have leX := B.size
    refine hK.out _ _ (cells2_row (K2.g _ (List.mem_cons_of_mem _ (List.mem_append_left _ h3)))) (fun hH => ?_)
    clear hK K'
    try simp only [Act.put, List.setIfInBounds_toArray, List.set_cons_zero, List.set_cons_succ]
    exact p11_21 hST hRW hMV h_xs hN_xs hF h3 h_a hN_a h_b hN_b hla hlb hna hnb HV hR leX hl1 _ (by kernel_rfl) K2 B2
  exact AllReadyH.nil
set_option maxRecDepth 100000 in
set_option maxHeartbeats 4000000 in
theorem p11_11 {gX : Nat} {V : Value} {lb : List Bx}  (leX : w0.heap.size ≤ gX) (hl1 : BBox w0.heap.size V [] lb) {w : World} (ls : Array Bool) (hl : ls = #[true, true, true, true, false, true, false, false, false, false, false, true, false, false]) (K : EnvF w fs ((gX, #[.slice none 0 0, .bool false, .int .i64 0, .slice none 0 0], 29) :: (gs ++ lb))) (B : Below w0.heap.size w0 w) :
    wpAnyH Tryd.prog .any p11ops.toArray (Exit.then KK fun _ _ _ => False) (fun W' => W'.cell? ⟨gT, 0, none⟩ = some (.int .i64 M) ∧ W'.cell? ⟨gT, 1, none⟩ = some (.slice A n c)) 8 ls { tmps := #[v0, .int .i64 most, .slice A1 n1 c1, .slice A2 n2 c2, .pointer (some ⟨gT, 0, none⟩), v5, v6, v7, v8, v9, x0, x1, x2, .pointer (some ⟨gX, 0, none⟩), x4, x5, x6, x7, x8, x9, y0, y1, y2, y3, y4, y5, y6, y7, y8, y9, z0, z1, z2, z3, z4, z5, z6, z7, z8, z9, j0, j1, j2, j3, j4, j5, j6, j7, j8, j9, r0, r1, r2, r3, r4, r5, r6, r7, r8, r9, q0, q1, q2, q3, q4, q5, q6, q7, q8, q9, p0, p1, p2, p3, p4, p5, p6, p7, p8, p9, o0, o1, o2, o3, o4, o5, o6, o7, o8, o9, m0, m1, m2, m3, m4, m5, m6, m7, m8, .agg #[.int .i64 M, .slice A n c], .int .i64 most, V, .slice A1 n1 c1, k3, .slice A2 n2 c2, k5, k6, k7, k8, k9, f0, f1, f2, f3, f4, f5, f6, f7, f8, f9, g0, g1, g2, g3, g4, g5, g6, g7, g8, g9, t0, t1, t2, t3, t4, t5, t6, t7, t8, t9, d0, d1, d2, d3, d4, d5, d6, d7, d8, d9, l0, l1, l2, l3, l4, l5, l6, l7, l8, l9, s0, s1], defers := [] } w := by
  subst hl
  refine wpAnyH_ready (rs := [4]) (by as_aux_lemma => kernel_rfl) (by simp) ?_
  refine AllReadyH.cons (getOf (i := 4) rfl) (fun K' hK => ?_) ?_
  ·
    obtain ⟨i0, hi, hz0, hz1, hz2⟩ := info_parts info_tu8
    refine step_append_full _ (by rfl) (.tmp 101) (.tmp 102) 25 (by rfl) w0.heap.size 5 i0 Tryd.underlying25 hi hz0 hz1 hz2 V [] (by rfl) (hl1.own (gs := ((gX, #[.slice none 0 0, .bool false, .int .i64 0, .slice none 0 0], 29) :: (gs)) ++ lb) K (fun y hy => List.mem_append_right _ hy)) _ A1 n1 c1 a (by rfl) (K.bs h_a) hN_a (by simp only [List.length_nil]; omega) B.size ?_
    intro V2 w2 ho hb hg hv _
    obtain ⟨lb2, hl2, K2⟩ := bbox_append (gs := ((gX, #[.slice none 0 0, .bool false, .int .i64 0, .slice none 0 0], 29) :: (gs))) (lb := lb) K hl1 ho hg hv
    have B2 := B.trans hb
    clear hl1 K B
    rw [List.nil_append] at hl2
    have hl1 := hl2
    refine hK.out _ _ (cells2_row (K2.g _ (List.mem_cons_of_mem _ (List.mem_append_left _ h3)))) (fun hH => ?_)
    clear hK K'
    try simp only [Act.put, List.setIfInBounds_toArray, List.set_cons_zero, List.set_cons_succ]
    exact p11_21 hST hRW hMV h_xs hN_xs hF h3 h_a hN_a h_b hN_b hla hlb hna hnb HV hR leX hl1 _ (by kernel_rfl) K2 B2
  exact AllReadyH.nil
set_option maxRecDepth 100000 in
set_option maxHeartbeats 4000000 in
theorem p11_10 {V : Value} {lb : List Bx}  (hl1 : BBox w0.heap.size V [] lb) {w : World} (ls : Array Bool) (hl : ls = #[true, true, true, true, false, true, false, false, false, false, false, false, false, false]) (K : EnvF w fs (gs ++ lb)) (B : Below w0.heap.size w0 w) :
    wpAnyH Tryd.prog .any p11ops.toArray (Exit.then KK fun _ _ _ => False) (fun W' => W'.cell? ⟨gT, 0, none⟩ = some (.int .i64 M) ∧ W'.cell? ⟨gT, 1, none⟩ = some (.slice A n c)) 9 ls { tmps := #[v0, .int .i64 most, .slice A1 n1 c1, .slice A2 n2 c2, .pointer (some ⟨gT, 0, none⟩), v5, v6, v7, v8, v9, x0, x1, x2, x3, x4, x5, x6, x7, x8, x9, y0, y1, y2, y3, y4, y5, y6, y7, y8, y9, z0, z1, z2, z3, z4, z5, z6, z7, z8, z9, j0, j1, j2, j3, j4, j5, j6, j7, j8, j9, r0, r1, r2, r3, r4, r5, r6, r7, r8, r9, q0, q1, q2, q3, q4, q5, q6, q7, q8, q9, p0, p1, p2, p3, p4, p5, p6, p7, p8, p9, o0, o1, o2, o3, o4, o5, o6, o7, o8, o9, m0, m1, m2, m3, m4, m5, m6, m7, m8, .agg #[.int .i64 M, .slice A n c], .int .i64 most, V, .slice A1 n1 c1, k3, .slice A2 n2 c2, k5, k6, k7, k8, k9, f0, f1, f2, f3, f4, f5, f6, f7, f8, f9, g0, g1, g2, g3, g4, g5, g6, g7, g8, g9, t0, t1, t2, t3, t4, t5, t6, t7, t8, t9, d0, d1, d2, d3, d4, d5, d6, d7, d8, d9, l0, l1, l2, l3, l4, l5, l6, l7, l8, l9, s0, s1], defers := [] } w := by
  subst hl
  refine wpAnyH_ready (rs := [4, 11]) (by as_aux_lemma => kernel_rfl) (by simp) ?_
  refine AllReadyH.cons (getOf (i := 4) rfl) (fun K' hK => ?_) ?_
  ·
    obtain ⟨i0, hi, hz0, hz1, hz2⟩ := info_parts info_tu8
    refine step_append_full _ (by rfl) (.tmp 101) (.tmp 102) 25 (by rfl) w0.heap.size 5 i0 Tryd.underlying25 hi hz0 hz1 hz2 V [] (by rfl) (hl1.own (gs := (gs) ++ lb) K (fun y hy => List.mem_append_right _ hy)) _ A1 n1 c1 a (by rfl) (K.bs h_a) hN_a (by simp only [List.length_nil]; omega) B.size ?_
    intro V2 w2 ho hb hg hv _
    obtain ⟨lb2, hl2, K2⟩ := bbox_append (gs := (gs)) (lb := lb) K hl1 ho hg hv
    have B2 := B.trans hb
    clear hl1 K B
    rw [List.nil_append] at hl2
    have hl1 := hl2
    refine hK.out _ _ (cells2_row (K2.g _ (List.mem_append_left _ h3))) (fun hH => ?_)
    clear hK K'
    try simp only [Act.put, List.setIfInBounds_toArray, List.set_cons_zero, List.set_cons_succ]
    exact p11_20 hST hRW hMV h_xs hN_xs hF h3 h_a hN_a h_b hN_b hla hlb hna hnb HV hR hl1 _ (by kernel_rfl) K2 B2
  refine AllReadyH.cons (getOf (i := 11) rfl) (fun K' hK => ?_) ?_
  ·
    go_simp
    have K2 := K.boxg 29 #[.slice none 0 0, .bool false, .int .i64 0, .slice none 0 0] w.heap.size rfl
    have B2 := B.alloc B.size (.cells #[.slice none 0 0, .bool false, .int .i64 0, .slice none 0 0] 29)
    have leX := B.size
    refine hK.out _ _ (cells2_row (K2.g _ (List.mem_cons_of_mem _ (List.mem_append_left _ h3)))) (fun hH => ?_)
    clear hK K'
    try simp only [Act.put, List.setIfInBounds_toArray, List.set_cons_zero, List.set_cons_succ]
    exact p11_11 hST hRW hMV h_xs hN_xs hF h3 h_a hN_a h_b hN_b hla hlb hna hnb HV hR leX hl1 _ (by kernel_rfl) K2 B2
  exact AllReadyH.nil
set_option maxRecDepth 100000 in
set_option maxHeartbeats 4000000 in
theorem p11_01 {gX : Nat}  (leX : w0.heap.size ≤ gX) {w : World} (ls : Array Bool) (hl : ls = #[true, true, false, true, false, true, false, false, false, false, false, true, false, false]) (K : EnvF w fs ((gX, #[.slice none 0 0, .bool false, .int .i64 0, .slice none 0 0], 29) :: (gs))) (B : Below w0.heap.size w0 w) :
    wpAnyH Tryd.prog .any p11ops.toArray (Exit.then KK fun _ _ _ => False) (fun W' => W'.cell? ⟨gT, 0, none⟩ = some (.int .i64 M) ∧ W'.cell? ⟨gT, 1, none⟩ = some (.slice A n c)) 9 ls { tmps := #[v0, .int .i64 most, .slice A1 n1 c1, .slice A2 n2 c2, .pointer (some ⟨gT, 0, none⟩), v5, v6, v7, v8, v9, x0, x1, x2, .pointer (some ⟨gX, 0, none⟩), x4, x5, x6, x7, x8, x9, y0, y1, y2, y3, y4, y5, y6, y7, y8, y9, z0, z1, z2, z3, z4, z5, z6, z7, z8, z9, j0, j1, j2, j3, j4, j5, j6, j7, j8, j9, r0, r1, r2, r3, r4, r5, r6, r7, r8, r9, q0, q1, q2, q3, q4, q5, q6, q7, q8, q9, p0, p1, p2, p3, p4, p5, p6, p7, p8, p9, o0, o1, o2, o3, o4, o5, o6, o7, o8, o9, m0, m1, m2, m3, m4, m5, m6, m7, m8, .agg #[.int .i64 M, .slice A n c], .int .i64 most, k1, .slice A1 n1 c1, k3, .slice A2 n2 c2, k5, k6, k7, k8, k9, f0, f1, f2, f3, f4, f5, f6, f7, f8, f9, g0, g1, g2, g3, g4, g5, g6, g7, g8, g9, t0, t1, t2, t3, t4, t5, t6, t7, t8, t9, d0, d1, d2, d3, d4, d5, d6, d7, d8, d9, l0, l1, l2, l3, l4, l5, l6, l7, l8, l9, s0, s1], defers := [] } w := by
  subst hl
  refine wpAnyH_ready (rs := [2]) (by as_aux_lemma => kernel_rfl) (by simp) ?_
  refine AllReadyH.cons (getOf (i := 2) rfl) (fun K' hK => ?_) ?_
  ·
    obtain ⟨lb, hl1, K2⟩ := bbox_lit (gs := ((gX, #[.slice none 0 0, .bool false, .int .i64 0, .slice none 0 0], 29) :: (gs))) K B.size
    have B2 := B.alloc B.size (.cells #[] 5)
    go_simp
    refine hK.out _ _ (cells2_row (K2.g _ (List.mem_cons_of_mem _ (List.mem_append_left _ h3)))) (fun hH => ?_)
    clear hK K'
    try simp only [Act.put, List.setIfInBounds_toArray, List.set_cons_zero, List.set_cons_succ]
    exact p11_11 hST hRW hMV h_xs hN_xs hF h3 h_a hN_a h_b hN_b hla hlb hna hnb HV hR leX hl1 _ (by kernel_rfl) K2 B2
  exact AllReadyH.nil
set_option maxRecDepth 100000 in
set_option maxHeartbeats 4000000 in
theorem p11_00  {w : World} (ls : Array Bool) (hl : ls = #[true, true, false, true, false, true, false, false, false, false, false, false, false, false]) (K : EnvF w fs (gs)) (B : Below w0.heap.size w0 w) :
    wpAnyH Tryd.prog .any p11ops.toArray (Exit.then KK fun _ _ _ => False) (fun W' => W'.cell? ⟨gT, 0, none⟩ = some (.int .i64 M) ∧ W'.cell? ⟨gT, 1, none⟩ = some (.slice A n c)) 10 ls { tmps := #[v0, .int .i64 most, .slice A1 n1 c1, .slice A2 n2 c2, .pointer (some ⟨gT, 0, none⟩), v5, v6, v7, v8, v9, x0, x1, x2, x3, x4, x5, x6, x7, x8, x9, y0, y1, y2, y3, y4, y5, y6, y7, y8, y9, z0, z1, z2, z3, z4, z5, z6, z7, z8, z9, j0, j1, j2, j3, j4, j5, j6, j7, j8, j9, r0, r1, r2, r3, r4, r5, r6, r7, r8, r9, q0, q1, q2, q3, q4, q5, q6, q7, q8, q9, p0, p1, p2, p3, p4, p5, p6, p7, p8, p9, o0, o1, o2, o3, o4, o5, o6, o7, o8, o9, m0, m1, m2, m3, m4, m5, m6, m7, m8, .agg #[.int .i64 M, .slice A n c], .int .i64 most, k1, .slice A1 n1 c1, k3, .slice A2 n2 c2, k5, k6, k7, k8, k9, f0, f1, f2, f3, f4, f5, f6, f7, f8, f9, g0, g1, g2, g3, g4, g5, g6, g7, g8, g9, t0, t1, t2, t3, t4, t5, t6, t7, t8, t9, d0, d1, d2, d3, d4, d5, d6, d7, d8, d9, l0, l1, l2, l3, l4, l5, l6, l7, l8, l9, s0, s1], defers := [] } w := by
  subst hl
  refine wpAnyH_ready (rs := [2, 11]) (by as_aux_lemma => kernel_rfl) (by simp) ?_
  refine AllReadyH.cons (getOf (i := 2) rfl) (fun K' hK => ?_) ?_
  ·
    obtain ⟨lb, hl1, K2⟩ := bbox_lit (gs := (gs)) K B.size
    have B2 := B.alloc B.size (.cells #[] 5)
    go_simp
    refine hK.out _ _ (cells2_row (K2.g _ (List.mem_append_left _ h3))) (fun hH => ?_)
    clear hK K'
    try simp only [Act.put, List.setIfInBounds_toArray, List.set_cons_zero, List.set_cons_succ]
    exact p11_10 hST hRW hMV h_xs hN_xs hF h3 h_a hN_a h_b hN_b hla hlb hna hnb HV hR hl1 _ (by kernel_rfl) K2 B2
  refine AllReadyH.cons (getOf (i := 11) rfl) (fun K' hK => ?_) ?_
  ·
    go_simp
    have K2 := K.boxg 29 #[.slice none 0 0, .bool false, .int .i64 0, .slice none 0 0] w.heap.size rfl
    have B2 := B.alloc B.size (.cells #[.slice none 0 0, .bool false, .int .i64 0, .slice none 0 0] 29)
    have leX := B.size
    refine hK.out _ _ (cells2_row (K2.g _ (List.mem_cons_of_mem _ (h3)))) (fun hH => ?_)
    clear hK K'
    try simp only [Act.put, List.setIfInBounds_toArray, List.set_cons_zero, List.set_cons_succ]
    exact p11_01 hST hRW hMV h_xs hN_xs hF h3 h_a hN_a h_b hN_b hla hlb hna hnb HV hR leX _ (by kernel_rfl) K2 B2
  exact AllReadyH.nil
end
set_option maxRecDepth 100000 in
set_option maxHeartbeats 4000000 in
theorem p11_region {w : World} {fs : List Fact} {gs : List Bx} {M most : Int} {A A1 A2 : Option Addr} {n c n1 c1 n2 c2 gT : Nat} {xs : List Fd} {a b : List UInt8} {E : Int} {nl : Nat} {L : List Fd} {G : Bool} {N : Int} {nt : Nat} {X : List Fd} {v0 v5 v6 v7 v8 v9 x0 x1 x2 x3 x4 x5 x6 x7 x8 x9 y0 y1 y2 y3 y4 y5 y6 y7 y8 y9 z0 z1 z2 z3 z4 z5 z6 z7 z8 z9 j0 j1 j2 j3 j4 j5 j6 j7 j8 j9 r0 r1 r2 r3 r4 r5 r6 r7 r8 r9 q0 q1 q2 q3 q4 q5 q6 q7 q8 q9 p0 p1 p2 p3 p4 p5 p6 p7 p8 p9 o0 o1 o2 o3 o4 o5 o6 o7 o8 o9 m0 m1 m2 m3 m4 m5 m6 m7 m8 m9 k0 k1 k2 k3 k4 k5 k6 k7 k8 k9 f0 f1 f2 f3 f4 f5 f6 f7 f8 f9 g0 g1 g2 g3 g4 g5 g6 g7 g8 g9 t0 t1 t2 t3 t4 t5 t6 t7 t8 t9 d0 d1 d2 d3 d4 d5 d6 d7 d8 d9 l0 l1 l2 l3 l4 l5 l6 l7 l8 l9 s0 s1 : Value} {KK : Act → World → Prop} {Q : Exit → Act → World → Prop} (hST : stF ∈ fs) (hRW : rwF ∈ fs) (hMV : mvF ∈ fs) (h_xs : fF A n xs ∈ fs) (hN_xs : A = none → c = 0) (hF : full xs ≤ 20000) (h3 : (gT, #[.int .i64 M, .slice A n c], 24) ∈ gs) (h_a : bF A1 n1 a ∈ fs) (hN_a : A1 = none → c1 = 0) (h_b : bF A2 n2 b ∈ fs) (hN_b : A2 = none → c2 = 0) (hla : a.length ≤ 4000) (hlb : b.length ≤ 4000) (hna : n1 ≤ 4000) (hnb : n2 ≤ 4000) (HV : BK M most xs (a ++ b) E nl L G N nt X) (hR : ∀ (gX : Nat) (LL TT : Option Addr) (cl tc : Nat) (u101 u103 u105 : Value) (w' : World), EnvF w' (fF LL nl L :: fF TT nt X :: fs) ((gX, #[.slice LL nl cl, .bool G, .int .i64 N, .slice TT nt tc], 29) :: (gs)) → (LL = none → cl = 0) → (TT = none → tc = 0) → Below w.drew.heap.size w.drew w' → KK { tmps := #[v0, .int .i64 most, .slice A1 n1 c1, .slice A2 n2 c2, .pointer (some ⟨gT, 0, none⟩), v5, v6, v7, v8, v9, x0, x1, x2, .pointer (some ⟨gX, 0, none⟩), .int .i64 E, x5, x6, x7, x8, x9, y0, y1, y2, y3, y4, y5, y6, y7, y8, y9, z0, z1, z2, z3, z4, z5, z6, z7, z8, z9, j0, j1, j2, j3, j4, j5, j6, j7, j8, j9, r0, r1, r2, r3, r4, r5, r6, r7, r8, r9, q0, q1, q2, q3, q4, q5, q6, q7, q8, q9, p0, p1, p2, p3, p4, p5, p6, p7, p8, p9, o0, o1, o2, o3, o4, o5, o6, o7, o8, o9, m0, m1, m2, m3, m4, m5, m6, m7, .tuple #[.agg #[.slice LL nl cl, .bool G, .int .i64 N, .slice TT nt tc], .int .i64 E], .agg #[.int .i64 M, .slice A n c], .int .i64 most, u101, .slice A1 n1 c1, u103, .slice A2 n2 c2, u105, .tuple #[.agg #[.slice LL nl cl, .bool G, .int .i64 N, .slice TT nt tc], .int .i64 E], .agg #[.slice LL nl cl, .bool G, .int .i64 N, .slice TT nt tc], .int .i64 E, k9, f0, f1, f2, f3, f4, f5, f6, f7, f8, f9, g0, g1, g2, g3, g4, g5, g6, g7, g8, g9, t0, t1, t2, t3, t4, t5, t6, t7, t8, t9, d0, d1, d2, d3, d4, d5, d6, d7, d8, d9, l0, l1, l2, l3, l4, l5, l6, l7, l8, l9, s0, s1], defers := [] } w') (K : EnvF w fs gs) :
    (Code.region 11 p11ops.toArray true).wp Tryd.prog (Exit.then KK Q) { tmps := #[v0, .int .i64 most, .slice A1 n1 c1, .slice A2 n2 c2, .pointer (some ⟨gT, 0, none⟩), v5, v6, v7, v8, v9, x0, x1, x2, x3, x4, x5, x6, x7, x8, x9, y0, y1, y2, y3, y4, y5, y6, y7, y8, y9, z0, z1, z2, z3, z4, z5, z6, z7, z8, z9, j0, j1, j2, j3, j4, j5, j6, j7, j8, j9, r0, r1, r2, r3, r4, r5, r6, r7, r8, r9, q0, q1, q2, q3, q4, q5, q6, q7, q8, q9, p0, p1, p2, p3, p4, p5, p6, p7, p8, p9, o0, o1, o2, o3, o4, o5, o6, o7, o8, o9, m0, m1, m2, m3, m4, m5, m6, m7, m8, m9, k0, k1, k2, k3, k4, k5, k6, k7, k8, k9, f0, f1, f2, f3, f4, f5, f6, f7, f8, f9, g0, g1, g2, g3, g4, g5, g6, g7, g8, g9, t0, t1, t2, t3, t4, t5, t6, t7, t8, t9, d0, d1, d2, d3, d4, d5, d6, d7, d8, d9, l0, l1, l2, l3, l4, l5, l6, l7, l8, l9, s0, s1], defers := [] } w := by
  refine Code.wp_mono (Q := Exit.then KK fun _ _ _ => False) (fun e a w h => by cases e <;> first | exact h | exact h.elim) ?_
  refine wp_region_held_drew (S := (fun W' => W'.cell? ⟨gT, 0, none⟩ = some (.int .i64 M) ∧ W'.cell? ⟨gT, 1, none⟩ = some (.slice A n c))) (by kernel_rfl) (cells2_row (K.drew.g _ (h3))) (fun hH => ?_)
  refine takeD (i := 0) (v := ?_) rfl (by as_aux_lemma => kernel_rfl) (by as_aux_lemma => kernel_rfl) (by as_aux_lemma => kernel_rfl) (fun _ _ _ h => h) (Or.inl ⟨by rfl, ?_⟩) hH ?_
  rotate_left
  · intro w hSw; (try dsimp only at hSw); go_simp <;> with_reducible rfl
  try simp only [Act.put, List.setIfInBounds_toArray, List.set_cons_zero, List.set_cons_succ]
  refine takeD (i := 1) (v := ?_) rfl (by as_aux_lemma => kernel_rfl) (by as_aux_lemma => kernel_rfl) (by as_aux_lemma => kernel_rfl) (fun _ _ _ h => h) (Or.inl ⟨by rfl, ?_⟩) hH ?_
  rotate_left
  · intro w hSw; (try dsimp only at hSw); go_simp <;> with_reducible rfl
  try simp only [Act.put, List.setIfInBounds_toArray, List.set_cons_zero, List.set_cons_succ]
  refine takeD (i := 3) (v := ?_) rfl (by as_aux_lemma => kernel_rfl) (by as_aux_lemma => kernel_rfl) (by as_aux_lemma => kernel_rfl) (fun _ _ _ h => h) (Or.inl ⟨by rfl, ?_⟩) hH ?_
  rotate_left
  · intro w hSw; (try dsimp only at hSw); go_simp <;> with_reducible rfl
  try simp only [Act.put, List.setIfInBounds_toArray, List.set_cons_zero, List.set_cons_succ]
  refine takeD (i := 5) (v := ?_) rfl (by as_aux_lemma => kernel_rfl) (by as_aux_lemma => kernel_rfl) (by as_aux_lemma => kernel_rfl) (fun _ _ _ h => h) (Or.inl ⟨by rfl, ?_⟩) hH ?_
  rotate_left
  · intro w hSw; (try dsimp only at hSw); go_simp <;> with_reducible rfl
  try simp only [Act.put, List.setIfInBounds_toArray, List.set_cons_zero, List.set_cons_succ]
  exact p11_00 hST hRW hMV h_xs hN_xs hF h3 h_a hN_a h_b hN_b hla hlb hna hnb HV hR _ (by kernel_rfl) K.drew (Below.refl _ _)
noncomputable def p14ops : List Oper := opsOf 14 (Tryd.f3.body.getD .skip)
section
variable {w0 : World} {fs : List Fact} {gs : List Bx} {LL LM : Option Addr} {nl cl nm cm gX gY n3 : Nat} {L1 L2 : List Fd} {xb yb : Bool} {xm ym : Int} {xt yt : Value} {v0 v1 v2 v3 v4 v5 v6 v7 v8 x0 x2 x3 x4 x5 x6 x7 x8 x9 y0 y1 y2 y3 y4 y5 y6 y7 y8 y9 z0 z1 z2 z3 z4 z5 z6 z7 z8 z9 j0 j1 j2 j3 j4 j5 j6 j7 j8 j9 r0 r1 r2 r3 r4 r5 r6 r7 r8 r9 q0 q1 q2 q3 q4 q5 q6 q7 q8 q9 p0 p1 p2 p3 p4 p5 p6 p7 p8 p9 o0 o1 o2 o3 o4 o5 o6 o7 o8 o9 m0 m1 m2 m3 m4 m5 m6 m7 m8 m9 k0 k1 k2 k3 k4 k5 k6 k7 k8 k9 f0 f1 f2 f3 f4 f5 f6 f7 f8 f9 g0 g1 g4 g7 g8 g9 t0 t1 t2 t3 t4 t5 t6 t7 t8 t9 d0 d1 d2 d3 d4 d5 d6 d7 d8 d9 l0 l1 l2 l3 l4 l5 l6 l7 l8 l9 s0 s1 : Value} {KK : Act → World → Prop} (h3 : (gX, #[.slice LL nl cl, .bool xb, .int .i64 xm, xt], 29) ∈ gs) (h4 : (gY, #[.slice LM nm cm, .bool yb, .int .i64 ym, yt], 29) ∈ gs) (h_L1 : fF LL nl L1 ∈ fs) (hN_L1 : LL = none → cl = 0) (h_L2 : fF LM nm L2 ∈ fs) (hN_L2 : LM = none → cm = 0) (hl1' : L1.length ≤ 4000) (hl2' : nm ≤ 4000) (hnl : nl ≤ 4000) (hn3 : (L1 ++ L2).length = n3) (hR : ∀ (A3 : Option Addr) (c3 : Nat) (u121 u124 : Value) (w : World), EnvF w (fF A3 n3 (L1 ++ L2) :: fs) (gs) → (A3 = none → c3 = 0) → Below w0.heap.size w0 w → KK { tmps := #[v0, v1, v2, v3, v4, v5, v6, v7, v8, .pointer (some ⟨gX, 0, none⟩), x0, .pointer (some ⟨gY, 0, none⟩), x2, x3, x4, .slice A3 n3 c3, x6, x7, x8, x9, y0, y1, y2, y3, y4, y5, y6, y7, y8, y9, z0, z1, z2, z3, z4, z5, z6, z7, z8, z9, j0, j1, j2, j3, j4, j5, j6, j7, j8, j9, r0, r1, r2, r3, r4, r5, r6, r7, r8, r9, q0, q1, q2, q3, q4, q5, q6, q7, q8, q9, p0, p1, p2, p3, p4, p5, p6, p7, p8, p9, o0, o1, o2, o3, o4, o5, o6, o7, o8, o9, m0, m1, m2, m3, m4, m5, m6, m7, m8, m9, k0, k1, k2, k3, k4, k5, k6, k7, k8, k9, f0, f1, f2, f3, f4, f5, f6, f7, f8, f9, g0, u121, .pointer (some ⟨gX, 0, none⟩), .slice LL nl cl, u124, .pointer (some ⟨gY, 0, none⟩), .slice LM nm cm, .slice A3 n3 c3, g8, g9, t0, t1, t2, t3, t4, t5, t6, t7, t8, t9, d0, d1, d2, d3, d4, d5, d6, d7, d8, d9, l0, l1, l2, l3, l4, l5, l6, l7, l8, l9, s0, s1], defers := [] } w)
include h3 h4 h_L1 hN_L1 h_L2 hN_L2 hl1' hl2' hnl hn3 hR
set_option maxRecDepth 100000 in
set_option maxHeartbeats 4000000 in
theorem p14_30 {V : Value} {lb : List Bx}  (hl1 : LBox w0.heap.size V (L1 ++ L2) lb) {w : World} (ls : Array Bool) (hl : ls = #[true, true, true, true, true, true, true, false]) (K : EnvF w fs (gs ++ lb)) (B : Below w0.heap.size w0 w) :
    wpAnyH Tryd.prog .any p14ops.toArray (Exit.then KK fun _ _ _ => False) (fun W' => W'.cell? ⟨gX, 0, none⟩ = some (.slice LL nl cl) ∧ W'.cell? ⟨gY, 0, none⟩ = some (.slice LM nm cm)) 1 ls { tmps := #[v0, v1, v2, v3, v4, v5, v6, v7, v8, .pointer (some ⟨gX, 0, none⟩), x0, .pointer (some ⟨gY, 0, none⟩), x2, x3, x4, x5, x6, x7, x8, x9, y0, y1, y2, y3, y4, y5, y6, y7, y8, y9, z0, z1, z2, z3, z4, z5, z6, z7, z8, z9, j0, j1, j2, j3, j4, j5, j6, j7, j8, j9, r0, r1, r2, r3, r4, r5, r6, r7, r8, r9, q0, q1, q2, q3, q4, q5, q6, q7, q8, q9, p0, p1, p2, p3, p4, p5, p6, p7, p8, p9, o0, o1, o2, o3, o4, o5, o6, o7, o8, o9, m0, m1, m2, m3, m4, m5, m6, m7, m8, m9, k0, k1, k2, k3, k4, k5, k6, k7, k8, k9, f0, f1, f2, f3, f4, f5, f6, f7, f8, f9, g0, g1, .pointer (some ⟨gX, 0, none⟩), .slice LL nl cl, g4, .pointer (some ⟨gY, 0, none⟩), .slice LM nm cm, V, g8, g9, t0, t1, t2, t3, t4, t5, t6, t7, t8, t9, d0, d1, d2, d3, d4, d5, d6, d7, d8, d9, l0, l1, l2, l3, l4, l5, l6, l7, l8, l9, s0, s1], defers := [] } w := by
  subst hl
  have hH : (fun W' => W'.cell? ⟨gX, 0, none⟩ = some (.slice LL nl cl) ∧ W'.cell? ⟨gY, 0, none⟩ = some (.slice LM nm cm)) w := (⟨(cells4_row (K.g _ (List.mem_append_left _ h3))).1, (cells4_row (K.g _ (List.mem_append_left _ h4))).1⟩)
  obtain ⟨A3, c3, rfl, hN3⟩ := hl1.form
  rw [hn3] at hl1 ⊢
  have K1 := lbox_fact (gs := gs) K hl1 hn3
  refine takeD (i := 7) (v := ?_) rfl (by as_aux_lemma => kernel_rfl) (by as_aux_lemma => kernel_rfl) (by as_aux_lemma => kernel_rfl) (fun _ _ _ h => h) (Or.inl ⟨by rfl, ?_⟩) hH ?_
  rotate_left
  · intro w hSw; (try dsimp only at hSw); go_simp <;> with_reducible rfl
  try simp only [Act.put, List.setIfInBounds_toArray, List.set_cons_zero, List.set_cons_succ]
  refine wpAnyH_done (by as_aux_lemma => kernel_rfl) ?_ _
  exact hR _ _ _ _ _ K1 hN3 B
set_option maxRecDepth 100000 in
set_option maxHeartbeats 4000000 in
theorem p14_20 {V : Value} {lb : List Bx}  (hl1 : LBox w0.heap.size V L1 lb) {w : World} (ls : Array Bool) (hl : ls = #[true, true, true, true, true, true, false, false]) (K : EnvF w fs (gs ++ lb)) (B : Below w0.heap.size w0 w) :
    wpAnyH Tryd.prog .any p14ops.toArray (Exit.then KK fun _ _ _ => False) (fun W' => W'.cell? ⟨gX, 0, none⟩ = some (.slice LL nl cl) ∧ W'.cell? ⟨gY, 0, none⟩ = some (.slice LM nm cm)) 2 ls { tmps := #[v0, v1, v2, v3, v4, v5, v6, v7, v8, .pointer (some ⟨gX, 0, none⟩), x0, .pointer (some ⟨gY, 0, none⟩), x2, x3, x4, x5, x6, x7, x8, x9, y0, y1, y2, y3, y4, y5, y6, y7, y8, y9, z0, z1, z2, z3, z4, z5, z6, z7, z8, z9, j0, j1, j2, j3, j4, j5, j6, j7, j8, j9, r0, r1, r2, r3, r4, r5, r6, r7, r8, r9, q0, q1, q2, q3, q4, q5, q6, q7, q8, q9, p0, p1, p2, p3, p4, p5, p6, p7, p8, p9, o0, o1, o2, o3, o4, o5, o6, o7, o8, o9, m0, m1, m2, m3, m4, m5, m6, m7, m8, m9, k0, k1, k2, k3, k4, k5, k6, k7, k8, k9, f0, f1, f2, f3, f4, f5, f6, f7, f8, f9, g0, g1, .pointer (some ⟨gX, 0, none⟩), .slice LL nl cl, V, .pointer (some ⟨gY, 0, none⟩), .slice LM nm cm, g7, g8, g9, t0, t1, t2, t3, t4, t5, t6, t7, t8, t9, d0, d1, d2, d3, d4, d5, d6, d7, d8, d9, l0, l1, l2, l3, l4, l5, l6, l7, l8, l9, s0, s1], defers := [] } w := by
  subst hl
  refine wpAnyH_ready (rs := [6]) (by as_aux_lemma => kernel_rfl) (by simp) ?_
  refine AllReadyH.cons (getOf (i := 6) rfl) (fun K' hK => ?_) ?_
  ·
    obtain ⟨i0, hi, hz0, hz1, hz2⟩ := info_parts info_fld
    refine step_append_flds _ (by rfl) (.tmp 124) (.tmp 126) 22 (by rfl) w0.heap.size 38 i0 Tryd.underlying22 hi hz0 hz1 hz2 V L1 (by rfl) (hl1.own (gs := (gs) ++ lb) K (fun y hy => List.mem_append_right _ hy)) _ LM nm cm L2 (by rfl) (K.fs h_L2) hN_L2 (by omega) B.size ?_
    intro V2 w2 ho hb hg hv
    obtain ⟨lb2, hl2, K2⟩ := lbox_append (gs := (gs)) (lb := lb) K hl1 ho hg hv
    have B2 := B.trans hb
    clear hl1 K B
    have hl1 := hl2
    refine hK.out _ _ (⟨(cells4_row (K2.g _ (List.mem_append_left _ h3))).1, (cells4_row (K2.g _ (List.mem_append_left _ h4))).1⟩) (fun hH => ?_)
    clear hK K'
    try simp only [Act.put, List.setIfInBounds_toArray, List.set_cons_zero, List.set_cons_succ]
    exact p14_30 h3 h4 h_L1 hN_L1 h_L2 hN_L2 hl1' hl2' hnl hn3 hR hl1 _ (by kernel_rfl) K2 B2
  exact AllReadyH.nil
set_option maxRecDepth 100000 in
set_option maxHeartbeats 4000000 in
theorem p14_10 {V : Value} {lb : List Bx}  (hl1 : LBox w0.heap.size V [] lb) {w : World} (ls : Array Bool) (hl : ls = #[true, true, true, false, true, true, false, false]) (K : EnvF w fs (gs ++ lb)) (B : Below w0.heap.size w0 w) :
    wpAnyH Tryd.prog .any p14ops.toArray (Exit.then KK fun _ _ _ => False) (fun W' => W'.cell? ⟨gX, 0, none⟩ = some (.slice LL nl cl) ∧ W'.cell? ⟨gY, 0, none⟩ = some (.slice LM nm cm)) 3 ls { tmps := #[v0, v1, v2, v3, v4, v5, v6, v7, v8, .pointer (some ⟨gX, 0, none⟩), x0, .pointer (some ⟨gY, 0, none⟩), x2, x3, x4, x5, x6, x7, x8, x9, y0, y1, y2, y3, y4, y5, y6, y7, y8, y9, z0, z1, z2, z3, z4, z5, z6, z7, z8, z9, j0, j1, j2, j3, j4, j5, j6, j7, j8, j9, r0, r1, r2, r3, r4, r5, r6, r7, r8, r9, q0, q1, q2, q3, q4, q5, q6, q7, q8, q9, p0, p1, p2, p3, p4, p5, p6, p7, p8, p9, o0, o1, o2, o3, o4, o5, o6, o7, o8, o9, m0, m1, m2, m3, m4, m5, m6, m7, m8, m9, k0, k1, k2, k3, k4, k5, k6, k7, k8, k9, f0, f1, f2, f3, f4, f5, f6, f7, f8, f9, g0, V, .pointer (some ⟨gX, 0, none⟩), .slice LL nl cl, g4, .pointer (some ⟨gY, 0, none⟩), .slice LM nm cm, g7, g8, g9, t0, t1, t2, t3, t4, t5, t6, t7, t8, t9, d0, d1, d2, d3, d4, d5, d6, d7, d8, d9, l0, l1, l2, l3, l4, l5, l6, l7, l8, l9, s0, s1], defers := [] } w := by
  subst hl
  refine wpAnyH_ready (rs := [3]) (by as_aux_lemma => kernel_rfl) (by simp) ?_
  refine AllReadyH.cons (getOf (i := 3) rfl) (fun K' hK => ?_) ?_
  ·
    obtain ⟨i0, hi, hz0, hz1, hz2⟩ := info_parts info_fld
    refine step_append_flds _ (by rfl) (.tmp 121) (.tmp 123) 22 (by rfl) w0.heap.size 38 i0 Tryd.underlying22 hi hz0 hz1 hz2 V [] (by rfl) (hl1.own (gs := (gs) ++ lb) K (fun y hy => List.mem_append_right _ hy)) _ LL nl cl L1 (by rfl) (K.fs h_L1) hN_L1 (by simp only [List.length_nil]; omega) B.size ?_
    intro V2 w2 ho hb hg hv
    obtain ⟨lb2, hl2, K2⟩ := lbox_append (gs := (gs)) (lb := lb) K hl1 ho hg hv
    have B2 := B.trans hb
    clear hl1 K B
    rw [List.nil_append] at hl2
    have hl1 := hl2
    refine hK.out _ _ (⟨(cells4_row (K2.g _ (List.mem_append_left _ h3))).1, (cells4_row (K2.g _ (List.mem_append_left _ h4))).1⟩) (fun hH => ?_)
    clear hK K'
    try simp only [Act.put, List.setIfInBounds_toArray, List.set_cons_zero, List.set_cons_succ]
    exact p14_20 h3 h4 h_L1 hN_L1 h_L2 hN_L2 hl1' hl2' hnl hn3 hR hl1 _ (by kernel_rfl) K2 B2
  exact AllReadyH.nil
set_option maxRecDepth 100000 in
set_option maxHeartbeats 4000000 in
theorem p14_00  {w : World} (ls : Array Bool) (hl : ls = #[false, true, true, false, true, true, false, false]) (K : EnvF w fs (gs)) (B : Below w0.heap.size w0 w) :
    wpAnyH Tryd.prog .any p14ops.toArray (Exit.then KK fun _ _ _ => False) (fun W' => W'.cell? ⟨gX, 0, none⟩ = some (.slice LL nl cl) ∧ W'.cell? ⟨gY, 0, none⟩ = some (.slice LM nm cm)) 4 ls { tmps := #[v0, v1, v2, v3, v4, v5, v6, v7, v8, .pointer (some ⟨gX, 0, none⟩), x0, .pointer (some ⟨gY, 0, none⟩), x2, x3, x4, x5, x6, x7, x8, x9, y0, y1, y2, y3, y4, y5, y6, y7, y8, y9, z0, z1, z2, z3, z4, z5, z6, z7, z8, z9, j0, j1, j2, j3, j4, j5, j6, j7, j8, j9, r0, r1, r2, r3, r4, r5, r6, r7, r8, r9, q0, q1, q2, q3, q4, q5, q6, q7, q8, q9, p0, p1, p2, p3, p4, p5, p6, p7, p8, p9, o0, o1, o2, o3, o4, o5, o6, o7, o8, o9, m0, m1, m2, m3, m4, m5, m6, m7, m8, m9, k0, k1, k2, k3, k4, k5, k6, k7, k8, k9, f0, f1, f2, f3, f4, f5, f6, f7, f8, f9, g0, g1, .pointer (some ⟨gX, 0, none⟩), .slice LL nl cl, g4, .pointer (some ⟨gY, 0, none⟩), .slice LM nm cm, g7, g8, g9, t0, t1, t2, t3, t4, t5, t6, t7, t8, t9, d0, d1, d2, d3, d4, d5, d6, d7, d8, d9, l0, l1, l2, l3, l4, l5, l6, l7, l8, l9, s0, s1], defers := [] } w := by
  subst hl
  refine wpAnyH_ready (rs := [0]) (by as_aux_lemma => kernel_rfl) (by simp) ?_
  refine AllReadyH.cons (getOf (i := 0) rfl) (fun K' hK => ?_) ?_
  ·
    obtain ⟨lb, hl1, K2⟩ := lbox_lit (gs := (gs)) K B.size
    have B2 := B.alloc B.size (.cells #[] 38)
    go_simp
    refine hK.out _ _ (⟨(cells4_row (K2.g _ (List.mem_append_left _ h3))).1, (cells4_row (K2.g _ (List.mem_append_left _ h4))).1⟩) (fun hH => ?_)
    clear hK K'
    try simp only [Act.put, List.setIfInBounds_toArray, List.set_cons_zero, List.set_cons_succ]
    exact p14_10 h3 h4 h_L1 hN_L1 h_L2 hN_L2 hl1' hl2' hnl hn3 hR hl1 _ (by kernel_rfl) K2 B2
  exact AllReadyH.nil
end
set_option maxRecDepth 100000 in
set_option maxHeartbeats 4000000 in
theorem p14_region {w : World} {fs : List Fact} {gs : List Bx} {LL LM : Option Addr} {nl cl nm cm gX gY n3 : Nat} {L1 L2 : List Fd} {xb yb : Bool} {xm ym : Int} {xt yt : Value} {v0 v1 v2 v3 v4 v5 v6 v7 v8 x0 x2 x3 x4 x5 x6 x7 x8 x9 y0 y1 y2 y3 y4 y5 y6 y7 y8 y9 z0 z1 z2 z3 z4 z5 z6 z7 z8 z9 j0 j1 j2 j3 j4 j5 j6 j7 j8 j9 r0 r1 r2 r3 r4 r5 r6 r7 r8 r9 q0 q1 q2 q3 q4 q5 q6 q7 q8 q9 p0 p1 p2 p3 p4 p5 p6 p7 p8 p9 o0 o1 o2 o3 o4 o5 o6 o7 o8 o9 m0 m1 m2 m3 m4 m5 m6 m7 m8 m9 k0 k1 k2 k3 k4 k5 k6 k7 k8 k9 f0 f1 f2 f3 f4 f5 f6 f7 f8 f9 g0 g1 g2 g3 g4 g5 g6 g7 g8 g9 t0 t1 t2 t3 t4 t5 t6 t7 t8 t9 d0 d1 d2 d3 d4 d5 d6 d7 d8 d9 l0 l1 l2 l3 l4 l5 l6 l7 l8 l9 s0 s1 : Value} {KK : Act → World → Prop} {Q : Exit → Act → World → Prop} (h3 : (gX, #[.slice LL nl cl, .bool xb, .int .i64 xm, xt], 29) ∈ gs) (h4 : (gY, #[.slice LM nm cm, .bool yb, .int .i64 ym, yt], 29) ∈ gs) (h_L1 : fF LL nl L1 ∈ fs) (hN_L1 : LL = none → cl = 0) (h_L2 : fF LM nm L2 ∈ fs) (hN_L2 : LM = none → cm = 0) (hl1' : L1.length ≤ 4000) (hl2' : nm ≤ 4000) (hnl : nl ≤ 4000) (hn3 : (L1 ++ L2).length = n3) (hR : ∀ (A3 : Option Addr) (c3 : Nat) (u121 u124 : Value) (w' : World), EnvF w' (fF A3 n3 (L1 ++ L2) :: fs) (gs) → (A3 = none → c3 = 0) → Below w.drew.heap.size w.drew w' → KK { tmps := #[v0, v1, v2, v3, v4, v5, v6, v7, v8, .pointer (some ⟨gX, 0, none⟩), x0, .pointer (some ⟨gY, 0, none⟩), x2, x3, x4, .slice A3 n3 c3, x6, x7, x8, x9, y0, y1, y2, y3, y4, y5, y6, y7, y8, y9, z0, z1, z2, z3, z4, z5, z6, z7, z8, z9, j0, j1, j2, j3, j4, j5, j6, j7, j8, j9, r0, r1, r2, r3, r4, r5, r6, r7, r8, r9, q0, q1, q2, q3, q4, q5, q6, q7, q8, q9, p0, p1, p2, p3, p4, p5, p6, p7, p8, p9, o0, o1, o2, o3, o4, o5, o6, o7, o8, o9, m0, m1, m2, m3, m4, m5, m6, m7, m8, m9, k0, k1, k2, k3, k4, k5, k6, k7, k8, k9, f0, f1, f2, f3, f4, f5, f6, f7, f8, f9, g0, u121, .pointer (some ⟨gX, 0, none⟩), .slice LL nl cl, u124, .pointer (some ⟨gY, 0, none⟩), .slice LM nm cm, .slice A3 n3 c3, g8, g9, t0, t1, t2, t3, t4, t5, t6, t7, t8, t9, d0, d1, d2, d3, d4, d5, d6, d7, d8, d9, l0, l1, l2, l3, l4, l5, l6, l7, l8, l9, s0, s1], defers := [] } w') (K : EnvF w fs gs) :
    (Code.region 14 p14ops.toArray true).wp Tryd.prog (Exit.then KK Q) { tmps := #[v0, v1, v2, v3, v4, v5, v6, v7, v8, .pointer (some ⟨gX, 0, none⟩), x0, .pointer (some ⟨gY, 0, none⟩), x2, x3, x4, x5, x6, x7, x8, x9, y0, y1, y2, y3, y4, y5, y6, y7, y8, y9, z0, z1, z2, z3, z4, z5, z6, z7, z8, z9, j0, j1, j2, j3, j4, j5, j6, j7, j8, j9, r0, r1, r2, r3, r4, r5, r6, r7, r8, r9, q0, q1, q2, q3, q4, q5, q6, q7, q8, q9, p0, p1, p2, p3, p4, p5, p6, p7, p8, p9, o0, o1, o2, o3, o4, o5, o6, o7, o8, o9, m0, m1, m2, m3, m4, m5, m6, m7, m8, m9, k0, k1, k2, k3, k4, k5, k6, k7, k8, k9, f0, f1, f2, f3, f4, f5, f6, f7, f8, f9, g0, g1, g2, g3, g4, g5, g6, g7, g8, g9, t0, t1, t2, t3, t4, t5, t6, t7, t8, t9, d0, d1, d2, d3, d4, d5, d6, d7, d8, d9, l0, l1, l2, l3, l4, l5, l6, l7, l8, l9, s0, s1], defers := [] } w := by
  refine Code.wp_mono (Q := Exit.then KK fun _ _ _ => False) (fun e a w h => by cases e <;> first | exact h | exact h.elim) ?_
  refine wp_region_held_drew (S := (fun W' => W'.cell? ⟨gX, 0, none⟩ = some (.slice LL nl cl) ∧ W'.cell? ⟨gY, 0, none⟩ = some (.slice LM nm cm))) (by kernel_rfl) (⟨(cells4_row (K.drew.g _ (h3))).1, (cells4_row (K.drew.g _ (h4))).1⟩) (fun hH => ?_)
  refine takeD (i := 1) (v := ?_) rfl (by as_aux_lemma => kernel_rfl) (by as_aux_lemma => kernel_rfl) (by as_aux_lemma => kernel_rfl) (fun _ _ _ h => h) (Or.inl ⟨by rfl, ?_⟩) hH ?_
  rotate_left
  · intro w hSw; (try dsimp only at hSw); go_simp <;> with_reducible rfl
  try simp only [Act.put, List.setIfInBounds_toArray, List.set_cons_zero, List.set_cons_succ]
  refine takeD (i := 2) (v := ?_) rfl (by as_aux_lemma => kernel_rfl) (by as_aux_lemma => kernel_rfl) (by as_aux_lemma => kernel_rfl) (fun _ _ _ h => h) (Or.inl ⟨by rfl, ?_⟩) hH ?_
  rotate_left
  · intro w hSw; (try dsimp only at hSw); go_simp <;> with_reducible rfl
  try simp only [Act.put, List.setIfInBounds_toArray, List.set_cons_zero, List.set_cons_succ]
  refine takeD (i := 4) (v := ?_) rfl (by as_aux_lemma => kernel_rfl) (by as_aux_lemma => kernel_rfl) (by as_aux_lemma => kernel_rfl) (fun _ _ _ h => h) (Or.inl ⟨by rfl, ?_⟩) hH ?_
  rotate_left
  · intro w hSw; (try dsimp only at hSw); go_simp <;> with_reducible rfl
  try simp only [Act.put, List.setIfInBounds_toArray, List.set_cons_zero, List.set_cons_succ]
  refine takeD (i := 5) (v := ?_) rfl (by as_aux_lemma => kernel_rfl) (by as_aux_lemma => kernel_rfl) (by as_aux_lemma => kernel_rfl) (fun _ _ _ h => h) (Or.inl ⟨by rfl, ?_⟩) hH ?_
  rotate_left
  · intro w hSw; (try dsimp only at hSw); go_simp <;> with_reducible rfl
  try simp only [Act.put, List.setIfInBounds_toArray, List.set_cons_zero, List.set_cons_succ]
  exact p14_00 h3 h4 h_L1 hN_L1 h_L2 hN_L2 hl1' hl2' hnl hn3 hR _ (by kernel_rfl) K.drew (Below.refl _ _)
end Go.Proofs.YtfejohfplnbdkaaDoor
