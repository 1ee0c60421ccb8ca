/- The laws of layer 10: their regions that draw their order. -/
import Derived.Test.YtfejohfplnbdkaaDoorUpBx
namespace Go.Proofs.YtfejohfplnbdkaaDoor
open Go.RowKit Go.Shelf Px Tx Tb Up GD
set_option linter.unusedVariables false
set_option linter.unusedSimpArgs false
set_option linter.unusedSectionVars false
noncomputable def s10ops : List Oper := opsOf 10 (Tryd.f5.body.getD .skip)
section
variable {w0 : World} {fs : List Fact} {gs : List Bx} {M most : Int} {A A1 A2 : Option Addr} {n c n1 c1 n2 c2 gT : Nat} {xs : List Fd} {a b : List UInt8} {E : Int} {nl : Nat} {L : List Fd} {G : Bool} {N : Int} {nt : Nat} {X : List Fd} {v0 v2 v3 v4 v6 v7 v8 v9 v10 v12 v14 v15 v16 v17 v18 v19 v20 v21 v22 v23 v24 v25 v26 v27 v28 v29 v30 v31 v32 v33 v34 v35 v36 v37 v38 v39 v40 v41 v42 v43 v44 v45 v46 v47 v48 v49 v50 v51 v52 v53 v54 v55 v56 v57 v58 v59 v60 v61 v62 v63 v64 v65 v66 v67 v68 v69 v70 v71 v72 v73 v74 v75 v76 v77 v78 v79 v80 v81 v82 v83 v84 v85 v88 v90 v92 v93 v94 v95 v96 v97 v98 v99 v100 v101 v102 v103 v104 v105 v106 v107 v108 v109 v110 v111 v112 v113 v114 v115 v116 v117 v118 v119 v120 v121 v122 v123 v124 v125 v126 v127 v128 v129 v130 v131 v132 v133 v134 v135 v136 v137 v138 v139 v140 v141 v142 v143 v144 v145 v146 v147 v148 v149 v150 v151 v152 : Value} {KK : Act → World → Prop} (hST : stF ∈ fs) (hRW : rwF ∈ fs) (hMV : mvF ∈ fs) (h_xs : fF A n xs ∈ fs) (hN_xs : A = none → c = 0) (hF : full xs ≤ 20000) (h3 : (gT, #[.int .i64 M, .slice A n c], 24) ∈ gs) (h_a : bF A1 n1 a ∈ fs) (hN_a : A1 = none → c1 = 0) (h_b : bF A2 n2 b ∈ fs) (hN_b : A2 = none → c2 = 0) (hla : a.length ≤ 4000) (hlb : b.length ≤ 4000) (hna : n1 ≤ 4000) (hnb : n2 ≤ 4000) (HV : BK M most xs (a ++ b) E nl L G N nt X) (hR : ∀ (gX : Nat) (LL TT : Option Addr) (cl tc : Nat) (u88 u90 u92 : Value) (w : World), EnvF w (fF LL nl L :: fF TT nt X :: fs) ((gX, #[.slice LL nl cl, .bool G, .int .i64 N, .slice TT nt tc], 29) :: (gs)) → (LL = none → cl = 0) → (TT = none → tc = 0) → Below w0.heap.size w0 w → KK { tmps := #[v0, .int .i64 most, v2, v3, v4, .pointer (some ⟨gT, 0, none⟩), v6, v7, v8, v9, v10, .slice A1 n1 c1, v12, .slice A2 n2 c2, v14, v15, .pointer (some ⟨gX, 0, none⟩), .int .i64 E, v18, v19, v20, v21, v22, v23, v24, v25, v26, v27, v28, v29, v30, v31, v32, v33, v34, v35, v36, v37, v38, v39, v40, v41, v42, v43, v44, v45, v46, v47, v48, v49, v50, v51, v52, v53, v54, v55, v56, v57, v58, v59, v60, v61, v62, v63, v64, v65, v66, v67, v68, v69, v70, v71, v72, v73, v74, v75, v76, v77, v78, v79, v80, v81, v82, v83, v84, .tuple #[.agg #[.slice LL nl cl, .bool G, .int .i64 N, .slice TT nt tc], .int .i64 E], .agg #[.int .i64 M, .slice A n c], .int .i64 most, u88, .slice A1 n1 c1, u90, .slice A2 n2 c2, u92, .tuple #[.agg #[.slice LL nl cl, .bool G, .int .i64 N, .slice TT nt tc], .int .i64 E], .agg #[.slice LL nl cl, .bool G, .int .i64 N, .slice TT nt tc], .int .i64 E, v96, v97, v98, v99, v100, v101, v102, v103, v104, v105, v106, v107, v108, v109, v110, v111, v112, v113, v114, v115, v116, v117, v118, v119, v120, v121, v122, v123, v124, v125, v126, v127, v128, v129, v130, v131, v132, v133, v134, v135, v136, v137, v138, v139, v140, v141, v142, v143, v144, v145, v146, v147, v148, v149, v150, v151, v152], defers := [] } w)
include hST hRW hMV h_xs hN_xs hF h3 h_a hN_a h_b hN_b hla hlb hna hnb HV hR
set_option maxRecDepth 100000 in
set_option maxHeartbeats 4000000 in
theorem s10_41 {gX : Nat} {LL TT : Option Addr} {cl tc : Nat}  (leX : w0.heap.size ≤ gX) (hcl : LL = none → cl = 0) (htc : TT = none → tc = 0) {w : World} (ls : Array Bool) (hl : ls = #[true, true, true, true, true, true, true, true, true, true, true, true, false, false]) (K : EnvF w (fF LL nl L :: fF TT nt X :: fs) ((gX, #[.slice none 0 0, .bool false, .int .i64 0, .slice none 0 0], 29) :: (gs))) (B : Below w0.heap.size w0 w) :
    wpAnyH Tryd.prog .any s10ops.toArray (Exit.then KK fun _ _ _ => False) (fun W' => W'.cell? ⟨gT, 0, none⟩ = some (.int .i64 M) ∧ W'.cell? ⟨gT, 1, none⟩ = some (.slice A n c)) 2 ls { tmps := #[v0, .int .i64 most, v2, v3, v4, .pointer (some ⟨gT, 0, none⟩), v6, v7, v8, v9, v10, .slice A1 n1 c1, v12, .slice A2 n2 c2, v14, v15, .pointer (some ⟨gX, 0, none⟩), v17, v18, v19, v20, v21, v22, v23, v24, v25, v26, v27, v28, v29, v30, v31, v32, v33, v34, v35, v36, v37, v38, v39, v40, v41, v42, v43, v44, v45, v46, v47, v48, v49, v50, v51, v52, v53, v54, v55, v56, v57, v58, v59, v60, v61, v62, v63, v64, v65, v66, v67, v68, v69, v70, v71, v72, v73, v74, v75, v76, v77, v78, v79, v80, v81, v82, v83, v84, .tuple #[.agg #[.slice LL nl cl, .bool G, .int .i64 N, .slice TT nt tc], .int .i64 E], .agg #[.int .i64 M, .slice A n c], .int .i64 most, v88, .slice A1 n1 c1, v90, .slice A2 n2 c2, v92, .tuple #[.agg #[.slice LL nl cl, .bool G, .int .i64 N, .slice TT nt tc], .int .i64 E], .agg #[.slice LL nl cl, .bool G, .int .i64 N, .slice TT nt tc], .int .i64 E, v96, v97, v98, v99, v100, v101, v102, v103, v104, v105, v106, v107, v108, v109, v110, v111, v112, v113, v114, v115, v116, v117, v118, v119, v120, v121, v122, v123, v124, v125, v126, v127, v128, v129, v130, v131, v132, v133, v134, v135, v136, v137, v138, v139, v140, v141, v142, v143, v144, v145, v146, v147, v148, v149, v150, v151, v152], defers := [] } w := by
  subst hl
  refine readyD (i := 12) rfl (by as_aux_lemma => kernel_rfl) (fun K' hK => ?_)
  refine step_put (by rfl) 29 (.tmp 16) (.tmp 94) (by rfl) gX 0 (.agg #[.slice LL nl cl, .bool G, .int .i64 N, .slice TT nt tc]) (by rfl) (by rfl) 29 #[.slice none 0 0, .bool false, .int .i64 0, .slice none 0 0] #[.slice LL nl cl, .bool G, .int .i64 N, .slice TT nt tc] (K.row 0 rfl) (by simp [Value.cells]) (by kernel_rfl) infoc_U (by kernel_rfl) ?_
  intro w1 c1' c2' c3' c4'
  have K1 := K.turn 0 rfl c1' c2' c3'
  have B1 := c4' _ _ leX B
  refine hK.out _ _ (cells2_row (K1.g _ (List.mem_cons_of_mem _ (h3)))) (fun hH => ?_)
  clear hK K'
  try simp only [Act.put, List.setIfInBounds_toArray, List.set_cons_zero, List.set_cons_succ]
  refine takeD (i := 13) (v := ?_) rfl (by as_aux_lemma => kernel_rfl) (by as_aux_lemma => kernel_rfl) (by as_aux_lemma => kernel_rfl) (fun _ _ _ h => h) (Or.inl ⟨by rfl, ?_⟩) hH ?_
  rotate_left
  · intro w hSw; (try dsimp only at hSw); go_simp <;> with_reducible rfl
  try simp only [Act.put, List.setIfInBounds_toArray, List.set_cons_zero, List.set_cons_succ]
  refine wpAnyH_done (by as_aux_lemma => kernel_rfl) ?_ _
  exact hR _ _ _ _ _ _ _ _ _ K1 hcl htc B1
set_option maxRecDepth 100000 in
set_option maxHeartbeats 4000000 in
theorem s10_40 {LL TT : Option Addr} {cl tc : Nat}  (hcl : LL = none → cl = 0) (htc : TT = none → tc = 0) {w : World} (ls : Array Bool) (hl : ls = #[true, true, true, true, true, true, true, true, true, true, true, false, false, false]) (K : EnvF w (fF LL nl L :: fF TT nt X :: fs) (gs)) (B : Below w0.heap.size w0 w) :
    wpAnyH Tryd.prog .any s10ops.toArray (Exit.then KK fun _ _ _ => False) (fun W' => W'.cell? ⟨gT, 0, none⟩ = some (.int .i64 M) ∧ W'.cell? ⟨gT, 1, none⟩ = some (.slice A n c)) 3 ls { tmps := #[v0, .int .i64 most, v2, v3, v4, .pointer (some ⟨gT, 0, none⟩), v6, v7, v8, v9, v10, .slice A1 n1 c1, v12, .slice A2 n2 c2, v14, v15, v16, v17, v18, v19, v20, v21, v22, v23, v24, v25, v26, v27, v28, v29, v30, v31, v32, v33, v34, v35, v36, v37, v38, v39, v40, v41, v42, v43, v44, v45, v46, v47, v48, v49, v50, v51, v52, v53, v54, v55, v56, v57, v58, v59, v60, v61, v62, v63, v64, v65, v66, v67, v68, v69, v70, v71, v72, v73, v74, v75, v76, v77, v78, v79, v80, v81, v82, v83, v84, .tuple #[.agg #[.slice LL nl cl, .bool G, .int .i64 N, .slice TT nt tc], .int .i64 E], .agg #[.int .i64 M, .slice A n c], .int .i64 most, v88, .slice A1 n1 c1, v90, .slice A2 n2 c2, v92, .tuple #[.agg #[.slice LL nl cl, .bool G, .int .i64 N, .slice TT nt tc], .int .i64 E], .agg #[.slice LL nl cl, .bool G, .int .i64 N, .slice TT nt tc], .int .i64 E, v96, v97, v98, v99, v100, v101, v102, v103, v104, v105, v106, v107, v108, v109, v110, v111, v112, v113, v114, v115, v116, v117, v118, v119, v120, v121, v122, v123, v124, v125, v126, v127, v128, v129, v130, v131, v132, v133, v134, v135, v136, v137, v138, v139, v140, v141, v142, v143, v144, v145, v146, v147, v148, v149, v150, v151, v152], defers := [] } w := by
  subst hl
  refine wpAnyH_ready (rs := [11]) (by as_aux_lemma => kernel_rfl) (by simp) ?_
  refine AllReadyH.cons (getOf (i := 11) rfl) (fun K' hK => ?_) ?_
  ·
    go_simp
    have K2 := K.boxg 29 #[.slice none 0 0, .bool false, .int .i64 0, .slice none 0 0] w.heap.size rfl
    have B2 := B.alloc B.size (.cells #[.slice none 0 0, .bool false, .int .i64 0, .slice none 0 0] 29)
    have leX := B.size
    refine hK.out _ _ (cells2_row (K2.g _ (List.mem_cons_of_mem _ (h3)))) (fun hH => ?_)
    clear hK K'
    try simp only [Act.put, List.setIfInBounds_toArray, List.set_cons_zero, List.set_cons_succ]
    exact s10_41 hST hRW hMV h_xs hN_xs hF h3 h_a hN_a h_b hN_b hla hlb hna hnb HV hR leX hcl htc _ (by kernel_rfl) K2 B2
  exact AllReadyH.nil
set_option maxRecDepth 100000 in
set_option maxHeartbeats 4000000 in
theorem s10_31 {gX : Nat} {V : Value} {lb : List Bx}  (leX : w0.heap.size ≤ gX) (hl1 : BBox w0.heap.size V (a ++ b) lb) {w : World} (ls : Array Bool) (hl : ls = #[true, true, true, true, true, true, true, false, false, false, false, true, false, false]) (K : EnvF w fs ((gX, #[.slice none 0 0, .bool false, .int .i64 0, .slice none 0 0], 29) :: (gs ++ lb))) (B : Below w0.heap.size w0 w) :
    wpAnyH Tryd.prog .any s10ops.toArray (Exit.then KK fun _ _ _ => False) (fun W' => W'.cell? ⟨gT, 0, none⟩ = some (.int .i64 M) ∧ W'.cell? ⟨gT, 1, none⟩ = some (.slice A n c)) 6 ls { tmps := #[v0, .int .i64 most, v2, v3, v4, .pointer (some ⟨gT, 0, none⟩), v6, v7, v8, v9, v10, .slice A1 n1 c1, v12, .slice A2 n2 c2, v14, v15, .pointer (some ⟨gX, 0, none⟩), v17, v18, v19, v20, v21, v22, v23, v24, v25, v26, v27, v28, v29, v30, v31, v32, v33, v34, v35, v36, v37, v38, v39, v40, v41, v42, v43, v44, v45, v46, v47, v48, v49, v50, v51, v52, v53, v54, v55, v56, v57, v58, v59, v60, v61, v62, v63, v64, v65, v66, v67, v68, v69, v70, v71, v72, v73, v74, v75, v76, v77, v78, v79, v80, v81, v82, v83, v84, v85, .agg #[.int .i64 M, .slice A n c], .int .i64 most, v88, .slice A1 n1 c1, v90, .slice A2 n2 c2, V, v93, v94, v95, v96, v97, v98, v99, v100, v101, v102, v103, v104, v105, v106, v107, v108, v109, v110, v111, v112, v113, v114, v115, v116, v117, v118, v119, v120, v121, v122, v123, v124, v125, v126, v127, v128, v129, v130, v131, v132, v133, v134, v135, v136, v137, v138, v139, v140, v141, v142, v143, v144, v145, v146, v147, v148, v149, v150, v151, v152], defers := [] } w := by
  subst hl
  refine wpAnyH_ready (rs := [7]) (by as_aux_lemma => kernel_rfl) (by simp) ?_
  refine AllReadyH.cons (getOf (i := 7) rfl) (fun K' hK => ?_) ?_
  ·
    obtain ⟨A3, n3, c3, rfl, hn3, h31, h32⟩ := hl1.form2 (gs := ((gX, #[.slice none 0 0, .bool false, .int .i64 0, .slice none 0 0], 29) :: (gs))) K
    have K1 := bbox_fact (gs := ((gX, #[.slice none 0 0, .bool false, .int .i64 0, .slice none 0 0], 29) :: (gs))) K hl1 hn3
    have hn3' : n3 ≤ 10000 := by rw [← hn3]; rw [List.length_append]; omega
    clear hn3
    go_simp
    go_at_call 9
    refine (b_call w HV K1 (List.mem_cons_self ..) h31 h32 (List.mem_cons_of_mem _ h_xs) hN_xs (List.mem_cons_of_mem _ hST) (List.mem_cons_of_mem _ hRW) (List.mem_cons_of_mem _ hMV) hF hn3').mono ?_
    rintro e w2 ⟨LL, cl, TT, tc, rfl, hb, hE, hcl, htc⟩
    have K2 := Up.EnvF.drop3 hE
    have B2 := below_step B hb
    refine hK.out _ _ (cells2_row (K2.g _ (List.mem_cons_of_mem _ (h3)))) (fun hH => ?_)
    clear hK K'
    try simp only [Act.put, List.setIfInBounds_toArray, List.set_cons_zero, List.set_cons_succ]
    refine takeD (i := 8) (v := ?_) rfl (by as_aux_lemma => kernel_rfl) (by as_aux_lemma => kernel_rfl) (by as_aux_lemma => kernel_rfl) (fun _ _ _ h => h) (Or.inl ⟨by rfl, ?_⟩) hH ?_
    rotate_left
    · intro w hSw; (try dsimp only at hSw); go_simp <;> with_reducible rfl
    try simp only [Act.put, List.setIfInBounds_toArray, List.set_cons_zero, List.set_cons_succ]
    refine takeD (i := 9) (v := ?_) rfl (by as_aux_lemma => kernel_rfl) (by as_aux_lemma => kernel_rfl) (by as_aux_lemma => kernel_rfl) (fun _ _ _ h => h) (Or.inl ⟨by rfl, ?_⟩) hH ?_
    rotate_left
    · intro w hSw; (try dsimp only at hSw); go_simp <;> with_reducible rfl
    try simp only [Act.put, List.setIfInBounds_toArray, List.set_cons_zero, List.set_cons_succ]
    refine takeD (i := 10) (v := ?_) rfl (by as_aux_lemma => kernel_rfl) (by as_aux_lemma => kernel_rfl) (by as_aux_lemma => kernel_rfl) (fun _ _ _ h => h) (Or.inl ⟨by rfl, ?_⟩) hH ?_
    rotate_left
    · intro w hSw; (try dsimp only at hSw); go_simp <;> with_reducible rfl
    try simp only [Act.put, List.setIfInBounds_toArray, List.set_cons_zero, List.set_cons_succ]
    exact s10_41 hST hRW hMV h_xs hN_xs hF h3 h_a hN_a h_b hN_b hla hlb hna hnb HV hR leX hcl htc _ (by kernel_rfl) K2 B2
  exact AllReadyH.nil
set_option maxRecDepth 100000 in
set_option maxHeartbeats 4000000 in
theorem s10_30 {V : Value} {lb : List Bx}  (hl1 : BBox w0.heap.size V (a ++ b) lb) {w : World} (ls : Array Bool) (hl : ls = #[true, true, true, true, true, true, true, false, false, false, false, false, false, false]) (K : EnvF w fs (gs ++ lb)) (B : Below w0.heap.size w0 w) :
    wpAnyH Tryd.prog .any s10ops.toArray (Exit.then KK fun _ _ _ => False) (fun W' => W'.cell? ⟨gT, 0, none⟩ = some (.int .i64 M) ∧ W'.cell? ⟨gT, 1, none⟩ = some (.slice A n c)) 7 ls { tmps := #[v0, .int .i64 most, v2, v3, v4, .pointer (some ⟨gT, 0, none⟩), v6, v7, v8, v9, v10, .slice A1 n1 c1, v12, .slice A2 n2 c2, v14, v15, v16, v17, v18, v19, v20, v21, v22, v23, v24, v25, v26, v27, v28, v29, v30, v31, v32, v33, v34, v35, v36, v37, v38, v39, v40, v41, v42, v43, v44, v45, v46, v47, v48, v49, v50, v51, v52, v53, v54, v55, v56, v57, v58, v59, v60, v61, v62, v63, v64, v65, v66, v67, v68, v69, v70, v71, v72, v73, v74, v75, v76, v77, v78, v79, v80, v81, v82, v83, v84, v85, .agg #[.int .i64 M, .slice A n c], .int .i64 most, v88, .slice A1 n1 c1, v90, .slice A2 n2 c2, V, v93, v94, v95, v96, v97, v98, v99, v100, v101, v102, v103, v104, v105, v106, v107, v108, v109, v110, v111, v112, v113, v114, v115, v116, v117, v118, v119, v120, v121, v122, v123, v124, v125, v126, v127, v128, v129, v130, v131, v132, v133, v134, v135, v136, v137, v138, v139, v140, v141, v142, v143, v144, v145, v146, v147, v148, v149, v150, v151, v152], defers := [] } w := by
  subst hl
  refine wpAnyH_ready (rs := [7, 11]) (by as_aux_lemma => kernel_rfl) (by simp) ?_
  refine AllReadyH.cons (getOf (i := 7) rfl) (fun K' hK => ?_) ?_
  ·
    obtain ⟨A3, n3, c3, rfl, hn3, h31, h32⟩ := hl1.form2 (gs := (gs)) K
    have K1 := bbox_fact (gs := (gs)) K hl1 hn3
    have hn3' : n3 ≤ 10000 := by rw [← hn3]; rw [List.length_append]; omega
    clear hn3
    go_simp
    go_at_call 9
    refine (b_call w HV K1 (List.mem_cons_self ..) h31 h32 (List.mem_cons_of_mem _ h_xs) hN_xs (List.mem_cons_of_mem _ hST) (List.mem_cons_of_mem _ hRW) (List.mem_cons_of_mem _ hMV) hF hn3').mono ?_
    rintro e w2 ⟨LL, cl, TT, tc, rfl, hb, hE, hcl, htc⟩
    have K2 := Up.EnvF.drop3 hE
    have B2 := below_step B hb
    refine hK.out _ _ (cells2_row (K2.g _ (h3))) (fun hH => ?_)
    clear hK K'
    try simp only [Act.put, List.setIfInBounds_toArray, List.set_cons_zero, List.set_cons_succ]
    refine takeD (i := 8) (v := ?_) rfl (by as_aux_lemma => kernel_rfl) (by as_aux_lemma => kernel_rfl) (by as_aux_lemma => kernel_rfl) (fun _ _ _ h => h) (Or.inl ⟨by rfl, ?_⟩) hH ?_
    rotate_left
    · intro w hSw; (try dsimp only at hSw); go_simp <;> with_reducible rfl
    try simp only [Act.put, List.setIfInBounds_toArray, List.set_cons_zero, List.set_cons_succ]
    refine takeD (i := 9) (v := ?_) rfl (by as_aux_lemma => kernel_rfl) (by as_aux_lemma => kernel_rfl) (by as_aux_lemma => kernel_rfl) (fun _ _ _ h => h) (Or.inl ⟨by rfl, ?_⟩) hH ?_
    rotate_left
    · intro w hSw; (try dsimp only at hSw); go_simp <;> with_reducible rfl
    try simp only [Act.put, List.setIfInBounds_toArray, List.set_cons_zero, List.set_cons_succ]
    refine takeD (i := 10) (v := ?_) rfl (by as_aux_lemma => kernel_rfl) (by as_aux_lemma => kernel_rfl) (by as_aux_lemma => kernel_rfl) (fun _ _ _ h => h) (Or.inl ⟨by rfl, ?_⟩) hH ?_
    rotate_left
    · intro w hSw; (try dsimp only at hSw); go_simp <;> with_reducible rfl
    try simp only [Act.put, List.setIfInBounds_toArray, List.set_cons_zero, List.set_cons_succ]
    exact s10_40 hST hRW hMV h_xs hN_xs hF h3 h_a hN_a h_b hN_b hla hlb hna hnb HV hR hcl htc _ (by kernel_rfl) K2 B2
  refine AllReadyH.cons (getOf (i := 11) rfl) (fun K' hK => ?_) ?_
  ·
    go_simp
    have K2 := K.boxg 29 #[.slice none 0 0, .bool false, .int .i64 0, .slice none 0 0] w.heap.size rfl
    have B2 := B.alloc B.size (.cells #[.slice none 0 0, .bool false, .int .i64 0, .slice none 0 0] 29)
    have leX := B.size
    refine hK.out _ _ (cells2_row (K2.g _ (List.mem_cons_of_mem _ (List.mem_append_left _ h3)))) (fun hH => ?_)
    clear hK K'
    try simp only [Act.put, List.setIfInBounds_toArray, List.set_cons_zero, List.set_cons_succ]
    exact s10_31 hST hRW hMV h_xs hN_xs hF h3 h_a hN_a h_b hN_b hla hlb hna hnb HV hR leX hl1 _ (by kernel_rfl) K2 B2
  exact AllReadyH.nil
set_option maxRecDepth 100000 in
set_option maxHeartbeats 4000000 in
theorem s10_21 {gX : Nat} {V : Value} {lb : List Bx}  (leX : w0.heap.size ≤ gX) (hl1 : BBox w0.heap.size V a lb) {w : World} (ls : Array Bool) (hl : ls = #[true, true, true, true, true, true, false, false, false, false, false, true, false, false]) (K : EnvF w fs ((gX, #[.slice none 0 0, .bool false, .int .i64 0, .slice none 0 0], 29) :: (gs ++ lb))) (B : Below w0.heap.size w0 w) :
    wpAnyH Tryd.prog .any s10ops.toArray (Exit.then KK fun _ _ _ => False) (fun W' => W'.cell? ⟨gT, 0, none⟩ = some (.int .i64 M) ∧ W'.cell? ⟨gT, 1, none⟩ = some (.slice A n c)) 7 ls { tmps := #[v0, .int .i64 most, v2, v3, v4, .pointer (some ⟨gT, 0, none⟩), v6, v7, v8, v9, v10, .slice A1 n1 c1, v12, .slice A2 n2 c2, v14, v15, .pointer (some ⟨gX, 0, none⟩), v17, v18, v19, v20, v21, v22, v23, v24, v25, v26, v27, v28, v29, v30, v31, v32, v33, v34, v35, v36, v37, v38, v39, v40, v41, v42, v43, v44, v45, v46, v47, v48, v49, v50, v51, v52, v53, v54, v55, v56, v57, v58, v59, v60, v61, v62, v63, v64, v65, v66, v67, v68, v69, v70, v71, v72, v73, v74, v75, v76, v77, v78, v79, v80, v81, v82, v83, v84, v85, .agg #[.int .i64 M, .slice A n c], .int .i64 most, v88, .slice A1 n1 c1, V, .slice A2 n2 c2, v92, v93, v94, v95, v96, v97, v98, v99, v100, v101, v102, v103, v104, v105, v106, v107, v108, v109, v110, v111, v112, v113, v114, v115, v116, v117, v118, v119, v120, v121, v122, v123, v124, v125, v126, v127, v128, v129, v130, v131, v132, v133, v134, v135, v136, v137, v138, v139, v140, v141, v142, v143, v144, v145, v146, v147, v148, v149, v150, v151, v152], defers := [] } w := by
  subst hl
  refine wpAnyH_ready (rs := [6]) (by as_aux_lemma => kernel_rfl) (by simp) ?_
  refine AllReadyH.cons (getOf (i := 6) rfl) (fun K' hK => ?_) ?_
  ·
    obtain ⟨i0, hi, hz0, hz1, hz2⟩ := info_parts info_tu8
    refine step_append_full _ (by rfl) (.tmp 90) (.tmp 91) 25 (by rfl) w0.heap.size 5 i0 Tryd.underlying25 hi hz0 hz1 hz2 V a (by rfl) (hl1.own (gs := ((gX, #[.slice none 0 0, .bool false, .int .i64 0, .slice none 0 0], 29) :: (gs)) ++ lb) K (fun y hy => List.mem_append_right _ hy)) _ A2 n2 c2 b (by rfl) (K.bs h_b) hN_b (by omega) B.size ?_
    intro V2 w2 ho hb hg hv _
    obtain ⟨lb2, hl2, K2⟩ := bbox_append (gs := ((gX, #[.slice none 0 0, .bool false, .int .i64 0, .slice none 0 0], 29) :: (gs))) (lb := lb) K hl1 ho hg hv
    have B2 := B.trans hb
    clear hl1 K B
    have hl1 := hl2
    refine hK.out _ _ (cells2_row (K2.g _ (List.mem_cons_of_mem _ (List.mem_append_left _ h3)))) (fun hH => ?_)
    clear hK K'
    try simp only [Act.put, List.setIfInBounds_toArray, List.set_cons_zero, List.set_cons_succ]
    exact s10_31 hST hRW hMV h_xs hN_xs hF h3 h_a hN_a h_b hN_b hla hlb hna hnb HV hR leX hl1 _ (by kernel_rfl) K2 B2
  exact AllReadyH.nil
set_option maxRecDepth 100000 in
set_option maxHeartbeats 4000000 in
theorem s10_20 {V : Value} {lb : List Bx}  (hl1 : BBox w0.heap.size V a lb) {w : World} (ls : Array Bool) (hl : ls = #[true, true, true, true, true, true, false, false, false, false, false, false, false, false]) (K : EnvF w fs (gs ++ lb)) (B : Below w0.heap.size w0 w) :
    wpAnyH Tryd.prog .any s10ops.toArray (Exit.then KK fun _ _ _ => False) (fun W' => W'.cell? ⟨gT, 0, none⟩ = some (.int .i64 M) ∧ W'.cell? ⟨gT, 1, none⟩ = some (.slice A n c)) 8 ls { tmps := #[v0, .int .i64 most, v2, v3, v4, .pointer (some ⟨gT, 0, none⟩), v6, v7, v8, v9, v10, .slice A1 n1 c1, v12, .slice A2 n2 c2, v14, v15, v16, v17, v18, v19, v20, v21, v22, v23, v24, v25, v26, v27, v28, v29, v30, v31, v32, v33, v34, v35, v36, v37, v38, v39, v40, v41, v42, v43, v44, v45, v46, v47, v48, v49, v50, v51, v52, v53, v54, v55, v56, v57, v58, v59, v60, v61, v62, v63, v64, v65, v66, v67, v68, v69, v70, v71, v72, v73, v74, v75, v76, v77, v78, v79, v80, v81, v82, v83, v84, v85, .agg #[.int .i64 M, .slice A n c], .int .i64 most, v88, .slice A1 n1 c1, V, .slice A2 n2 c2, v92, v93, v94, v95, v96, v97, v98, v99, v100, v101, v102, v103, v104, v105, v106, v107, v108, v109, v110, v111, v112, v113, v114, v115, v116, v117, v118, v119, v120, v121, v122, v123, v124, v125, v126, v127, v128, v129, v130, v131, v132, v133, v134, v135, v136, v137, v138, v139, v140, v141, v142, v143, v144, v145, v146, v147, v148, v149, v150, v151, v152], defers := [] } w := by
  subst hl
  refine wpAnyH_ready (rs := [6, 11]) (by as_aux_lemma => kernel_rfl) (by simp) ?_
  refine AllReadyH.cons (getOf (i := 6) rfl) (fun K' hK => ?_) ?_
  ·
    obtain ⟨i0, hi, hz0, hz1, hz2⟩ := info_parts info_tu8
    refine step_append_full _ (by rfl) (.tmp 90) (.tmp 91) 25 (by rfl) w0.heap.size 5 i0 Tryd.underlying25 hi hz0 hz1 hz2 V a (by rfl) (hl1.own (gs := (gs) ++ lb) K (fun y hy => List.mem_append_right _ hy)) _ A2 n2 c2 b (by rfl) (K.bs h_b) hN_b (by omega) B.size ?_
    intro V2 w2 ho hb hg hv _
    obtain ⟨lb2, hl2, K2⟩ := bbox_append (gs := (gs)) (lb := lb) K hl1 ho hg hv
    have B2 := B.trans hb
    clear hl1 K B
    have hl1 := hl2
    refine hK.out _ _ (cells2_row (K2.g _ (List.mem_append_left _ h3))) (fun hH => ?_)
    clear hK K'
    try simp only [Act.put, List.setIfInBounds_toArray, List.set_cons_zero, List.set_cons_succ]
    exact s10_30 hST hRW hMV h_xs hN_xs hF h3 h_a hN_a h_b hN_b hla hlb hna hnb HV hR hl1 _ (by kernel_rfl) K2 B2
  refine AllReadyH.cons (getOf (i := 11) rfl) (fun K' hK => ?_) ?_
  ·
    go_simp
    have K2 := K.boxg 29 #[.slice none 0 0, .bool false, .int .i64 0, .slice none 0 0] w.heap.size rfl
    have B2 := B.alloc B.size (.cells #[.slice none 0 0, .bool false, .int .i64 0, .slice none 0 0] 29)
    have leX := B.size
    refine hK.out _ _ (cells2_row (K2.g _ (List.mem_cons_of_mem _ (List.mem_append_left _ h3)))) (fun hH => ?_)
    clear hK K'
    try simp only [Act.put, List.setIfInBounds_toArray, List.set_cons_zero, List.set_cons_succ]
    exact s10_21 hST hRW hMV h_xs hN_xs hF h3 h_a hN_a h_b hN_b hla hlb hna hnb HV hR leX hl1 _ (by kernel_rfl) K2 B2
  exact AllReadyH.nil
set_option maxRecDepth 100000 in
set_option maxHeartbeats 4000000 in
theorem s10_11 {gX : Nat} {V : Value} {lb : List Bx}  (leX : w0.heap.size ≤ gX) (hl1 : BBox w0.heap.size V [] lb) {w : World} (ls : Array Bool) (hl : ls = #[true, true, true, true, false, true, false, false, false, false, false, true, false, false]) (K : EnvF w fs ((gX, #[.slice none 0 0, .bool false, .int .i64 0, .slice none 0 0], 29) :: (gs ++ lb))) (B : Below w0.heap.size w0 w) :
    wpAnyH Tryd.prog .any s10ops.toArray (Exit.then KK fun _ _ _ => False) (fun W' => W'.cell? ⟨gT, 0, none⟩ = some (.int .i64 M) ∧ W'.cell? ⟨gT, 1, none⟩ = some (.slice A n c)) 8 ls { tmps := #[v0, .int .i64 most, v2, v3, v4, .pointer (some ⟨gT, 0, none⟩), v6, v7, v8, v9, v10, .slice A1 n1 c1, v12, .slice A2 n2 c2, v14, v15, .pointer (some ⟨gX, 0, none⟩), v17, v18, v19, v20, v21, v22, v23, v24, v25, v26, v27, v28, v29, v30, v31, v32, v33, v34, v35, v36, v37, v38, v39, v40, v41, v42, v43, v44, v45, v46, v47, v48, v49, v50, v51, v52, v53, v54, v55, v56, v57, v58, v59, v60, v61, v62, v63, v64, v65, v66, v67, v68, v69, v70, v71, v72, v73, v74, v75, v76, v77, v78, v79, v80, v81, v82, v83, v84, v85, .agg #[.int .i64 M, .slice A n c], .int .i64 most, V, .slice A1 n1 c1, v90, .slice A2 n2 c2, v92, v93, v94, v95, v96, v97, v98, v99, v100, v101, v102, v103, v104, v105, v106, v107, v108, v109, v110, v111, v112, v113, v114, v115, v116, v117, v118, v119, v120, v121, v122, v123, v124, v125, v126, v127, v128, v129, v130, v131, v132, v133, v134, v135, v136, v137, v138, v139, v140, v141, v142, v143, v144, v145, v146, v147, v148, v149, v150, v151, v152], defers := [] } w := by
  subst hl
  refine wpAnyH_ready (rs := [4]) (by as_aux_lemma => kernel_rfl) (by simp) ?_
  refine AllReadyH.cons (getOf (i := 4) rfl) (fun K' hK => ?_) ?_
  ·
    obtain ⟨i0, hi, hz0, hz1, hz2⟩ := info_parts info_tu8
    refine step_append_full _ (by rfl) (.tmp 88) (.tmp 89) 25 (by rfl) w0.heap.size 5 i0 Tryd.underlying25 hi hz0 hz1 hz2 V [] (by rfl) (hl1.own (gs := ((gX, #[.slice none 0 0, .bool false, .int .i64 0, .slice none 0 0], 29) :: (gs)) ++ lb) K (fun y hy => List.mem_append_right _ hy)) _ A1 n1 c1 a (by rfl) (K.bs h_a) hN_a (by simp only [List.length_nil]; omega) B.size ?_
    intro V2 w2 ho hb hg hv _
    obtain ⟨lb2, hl2, K2⟩ := bbox_append (gs := ((gX, #[.slice none 0 0, .bool false, .int .i64 0, .slice none 0 0], 29) :: (gs))) (lb := lb) K hl1 ho hg hv
    have B2 := B.trans hb
    clear hl1 K B
    rw [List.nil_append] at hl2
    have hl1 := hl2
    refine hK.out _ _ (cells2_row (K2.g _ (List.mem_cons_of_mem _ (List.mem_append_left _ h3)))) (fun hH => ?_)
    clear hK K'
    try simp only [Act.put, List.setIfInBounds_toArray, List.set_cons_zero, List.set_cons_succ]
    exact s10_21 hST hRW hMV h_xs hN_xs hF h3 h_a hN_a h_b hN_b hla hlb hna hnb HV hR leX hl1 _ (by kernel_rfl) K2 B2
  exact AllReadyH.nil
set_option maxRecDepth 100000 in
set_option maxHeartbeats 4000000 in
theorem s10_10 {V : Value} {lb : List Bx}  (hl1 : BBox w0.heap.size V [] lb) {w : World} (ls : Array Bool) (hl : ls = #[true, true, true, true, false, true, false, false, false, false, false, false, false, false]) (K : EnvF w fs (gs ++ lb)) (B : Below w0.heap.size w0 w) :
    wpAnyH Tryd.prog .any s10ops.toArray (Exit.then KK fun _ _ _ => False) (fun W' => W'.cell? ⟨gT, 0, none⟩ = some (.int .i64 M) ∧ W'.cell? ⟨gT, 1, none⟩ = some (.slice A n c)) 9 ls { tmps := #[v0, .int .i64 most, v2, v3, v4, .pointer (some ⟨gT, 0, none⟩), v6, v7, v8, v9, v10, .slice A1 n1 c1, v12, .slice A2 n2 c2, v14, v15, v16, v17, v18, v19, v20, v21, v22, v23, v24, v25, v26, v27, v28, v29, v30, v31, v32, v33, v34, v35, v36, v37, v38, v39, v40, v41, v42, v43, v44, v45, v46, v47, v48, v49, v50, v51, v52, v53, v54, v55, v56, v57, v58, v59, v60, v61, v62, v63, v64, v65, v66, v67, v68, v69, v70, v71, v72, v73, v74, v75, v76, v77, v78, v79, v80, v81, v82, v83, v84, v85, .agg #[.int .i64 M, .slice A n c], .int .i64 most, V, .slice A1 n1 c1, v90, .slice A2 n2 c2, v92, v93, v94, v95, v96, v97, v98, v99, v100, v101, v102, v103, v104, v105, v106, v107, v108, v109, v110, v111, v112, v113, v114, v115, v116, v117, v118, v119, v120, v121, v122, v123, v124, v125, v126, v127, v128, v129, v130, v131, v132, v133, v134, v135, v136, v137, v138, v139, v140, v141, v142, v143, v144, v145, v146, v147, v148, v149, v150, v151, v152], defers := [] } w := by
  subst hl
  refine wpAnyH_ready (rs := [4, 11]) (by as_aux_lemma => kernel_rfl) (by simp) ?_
  refine AllReadyH.cons (getOf (i := 4) rfl) (fun K' hK => ?_) ?_
  ·
    obtain ⟨i0, hi, hz0, hz1, hz2⟩ := info_parts info_tu8
    refine step_append_full _ (by rfl) (.tmp 88) (.tmp 89) 25 (by rfl) w0.heap.size 5 i0 Tryd.underlying25 hi hz0 hz1 hz2 V [] (by rfl) (hl1.own (gs := (gs) ++ lb) K (fun y hy => List.mem_append_right _ hy)) _ A1 n1 c1 a (by rfl) (K.bs h_a) hN_a (by simp only [List.length_nil]; omega) B.size ?_
    intro V2 w2 ho hb hg hv _
    obtain ⟨lb2, hl2, K2⟩ := bbox_append (gs := (gs)) (lb := lb) K hl1 ho hg hv
    have B2 := B.trans hb
    clear hl1 K B
    rw [List.nil_append] at hl2
    have hl1 := hl2
    refine hK.out _ _ (cells2_row (K2.g _ (List.mem_append_left _ h3))) (fun hH => ?_)
    clear hK K'
    try simp only [Act.put, List.setIfInBounds_toArray, List.set_cons_zero, List.set_cons_succ]
    exact s10_20 hST hRW hMV h_xs hN_xs hF h3 h_a hN_a h_b hN_b hla hlb hna hnb HV hR hl1 _ (by kernel_rfl) K2 B2
  refine AllReadyH.cons (getOf (i := 11) rfl) (fun K' hK => ?_) ?_
  ·
    go_simp
    have K2 := K.boxg 29 #[.slice none 0 0, .bool false, .int .i64 0, .slice none 0 0] w.heap.size rfl
    have B2 := B.alloc B.size (.cells #[.slice none 0 0, .bool false, .int .i64 0, .slice none 0 0] 29)
    have leX := B.size
    refine hK.out _ _ (cells2_row (K2.g _ (List.mem_cons_of_mem _ (List.mem_append_left _ h3)))) (fun hH => ?_)
    clear hK K'
    try simp only [Act.put, List.setIfInBounds_toArray, List.set_cons_zero, List.set_cons_succ]
    exact s10_11 hST hRW hMV h_xs hN_xs hF h3 h_a hN_a h_b hN_b hla hlb hna hnb HV hR leX hl1 _ (by kernel_rfl) K2 B2
  exact AllReadyH.nil
set_option maxRecDepth 100000 in
set_option maxHeartbeats 4000000 in
theorem s10_01 {gX : Nat}  (leX : w0.heap.size ≤ gX) {w : World} (ls : Array Bool) (hl : ls = #[true, true, false, true, false, true, false, false, false, false, false, true, false, false]) (K : EnvF w fs ((gX, #[.slice none 0 0, .bool false, .int .i64 0, .slice none 0 0], 29) :: (gs))) (B : Below w0.heap.size w0 w) :
    wpAnyH Tryd.prog .any s10ops.toArray (Exit.then KK fun _ _ _ => False) (fun W' => W'.cell? ⟨gT, 0, none⟩ = some (.int .i64 M) ∧ W'.cell? ⟨gT, 1, none⟩ = some (.slice A n c)) 9 ls { tmps := #[v0, .int .i64 most, v2, v3, v4, .pointer (some ⟨gT, 0, none⟩), v6, v7, v8, v9, v10, .slice A1 n1 c1, v12, .slice A2 n2 c2, v14, v15, .pointer (some ⟨gX, 0, none⟩), v17, v18, v19, v20, v21, v22, v23, v24, v25, v26, v27, v28, v29, v30, v31, v32, v33, v34, v35, v36, v37, v38, v39, v40, v41, v42, v43, v44, v45, v46, v47, v48, v49, v50, v51, v52, v53, v54, v55, v56, v57, v58, v59, v60, v61, v62, v63, v64, v65, v66, v67, v68, v69, v70, v71, v72, v73, v74, v75, v76, v77, v78, v79, v80, v81, v82, v83, v84, v85, .agg #[.int .i64 M, .slice A n c], .int .i64 most, v88, .slice A1 n1 c1, v90, .slice A2 n2 c2, v92, v93, v94, v95, v96, v97, v98, v99, v100, v101, v102, v103, v104, v105, v106, v107, v108, v109, v110, v111, v112, v113, v114, v115, v116, v117, v118, v119, v120, v121, v122, v123, v124, v125, v126, v127, v128, v129, v130, v131, v132, v133, v134, v135, v136, v137, v138, v139, v140, v141, v142, v143, v144, v145, v146, v147, v148, v149, v150, v151, v152], defers := [] } w := by
  subst hl
  refine wpAnyH_ready (rs := [2]) (by as_aux_lemma => kernel_rfl) (by simp) ?_
  refine AllReadyH.cons (getOf (i := 2) rfl) (fun K' hK => ?_) ?_
  ·
    obtain ⟨lb, hl1, K2⟩ := bbox_lit (gs := ((gX, #[.slice none 0 0, .bool false, .int .i64 0, .slice none 0 0], 29) :: (gs))) K B.size
    have B2 := B.alloc B.size (.cells #[] 5)
    go_simp
    refine hK.out _ _ (cells2_row (K2.g _ (List.mem_cons_of_mem _ (List.mem_append_left _ h3)))) (fun hH => ?_)
    clear hK K'
    try simp only [Act.put, List.setIfInBounds_toArray, List.set_cons_zero, List.set_cons_succ]
    exact s10_11 hST hRW hMV h_xs hN_xs hF h3 h_a hN_a h_b hN_b hla hlb hna hnb HV hR leX hl1 _ (by kernel_rfl) K2 B2
  exact AllReadyH.nil
set_option maxRecDepth 100000 in
set_option maxHeartbeats 4000000 in
theorem s10_00  {w : World} (ls : Array Bool) (hl : ls = #[true, true, false, true, false, true, false, false, false, false, false, false, false, false]) (K : EnvF w fs (gs)) (B : Below w0.heap.size w0 w) :
    wpAnyH Tryd.prog .any s10ops.toArray (Exit.then KK fun _ _ _ => False) (fun W' => W'.cell? ⟨gT, 0, none⟩ = some (.int .i64 M) ∧ W'.cell? ⟨gT, 1, none⟩ = some (.slice A n c)) 10 ls { tmps := #[v0, .int .i64 most, v2, v3, v4, .pointer (some ⟨gT, 0, none⟩), v6, v7, v8, v9, v10, .slice A1 n1 c1, v12, .slice A2 n2 c2, v14, v15, v16, v17, v18, v19, v20, v21, v22, v23, v24, v25, v26, v27, v28, v29, v30, v31, v32, v33, v34, v35, v36, v37, v38, v39, v40, v41, v42, v43, v44, v45, v46, v47, v48, v49, v50, v51, v52, v53, v54, v55, v56, v57, v58, v59, v60, v61, v62, v63, v64, v65, v66, v67, v68, v69, v70, v71, v72, v73, v74, v75, v76, v77, v78, v79, v80, v81, v82, v83, v84, v85, .agg #[.int .i64 M, .slice A n c], .int .i64 most, v88, .slice A1 n1 c1, v90, .slice A2 n2 c2, v92, v93, v94, v95, v96, v97, v98, v99, v100, v101, v102, v103, v104, v105, v106, v107, v108, v109, v110, v111, v112, v113, v114, v115, v116, v117, v118, v119, v120, v121, v122, v123, v124, v125, v126, v127, v128, v129, v130, v131, v132, v133, v134, v135, v136, v137, v138, v139, v140, v141, v142, v143, v144, v145, v146, v147, v148, v149, v150, v151, v152], defers := [] } w := by
  subst hl
  refine wpAnyH_ready (rs := [2, 11]) (by as_aux_lemma => kernel_rfl) (by simp) ?_
  refine AllReadyH.cons (getOf (i := 2) rfl) (fun K' hK => ?_) ?_
  ·
    obtain ⟨lb, hl1, K2⟩ := bbox_lit (gs := (gs)) K B.size
    have B2 := B.alloc B.size (.cells #[] 5)
    go_simp
    refine hK.out _ _ (cells2_row (K2.g _ (List.mem_append_left _ h3))) (fun hH => ?_)
    clear hK K'
    try simp only [Act.put, List.setIfInBounds_toArray, List.set_cons_zero, List.set_cons_succ]
    exact s10_10 hST hRW hMV h_xs hN_xs hF h3 h_a hN_a h_b hN_b hla hlb hna hnb HV hR hl1 _ (by kernel_rfl) K2 B2
  refine AllReadyH.cons (getOf (i := 11) rfl) (fun K' hK => ?_) ?_
  ·
    go_simp
    have K2 := K.boxg 29 #[.slice none 0 0, .bool false, .int .i64 0, .slice none 0 0] w.heap.size rfl
    have B2 := B.alloc B.size (.cells #[.slice none 0 0, .bool false, .int .i64 0, .slice none 0 0] 29)
    have leX := B.size
    refine hK.out _ _ (cells2_row (K2.g _ (List.mem_cons_of_mem _ (h3)))) (fun hH => ?_)
    clear hK K'
    try simp only [Act.put, List.setIfInBounds_toArray, List.set_cons_zero, List.set_cons_succ]
    exact s10_01 hST hRW hMV h_xs hN_xs hF h3 h_a hN_a h_b hN_b hla hlb hna hnb HV hR leX _ (by kernel_rfl) K2 B2
  exact AllReadyH.nil
end
set_option maxRecDepth 100000 in
set_option maxHeartbeats 4000000 in
theorem s10_region {w : World} {fs : List Fact} {gs : List Bx} {M most : Int} {A A1 A2 : Option Addr} {n c n1 c1 n2 c2 gT : Nat} {xs : List Fd} {a b : List UInt8} {E : Int} {nl : Nat} {L : List Fd} {G : Bool} {N : Int} {nt : Nat} {X : List Fd} {v0 v2 v3 v4 v6 v7 v8 v9 v10 v12 v14 v15 v16 v17 v18 v19 v20 v21 v22 v23 v24 v25 v26 v27 v28 v29 v30 v31 v32 v33 v34 v35 v36 v37 v38 v39 v40 v41 v42 v43 v44 v45 v46 v47 v48 v49 v50 v51 v52 v53 v54 v55 v56 v57 v58 v59 v60 v61 v62 v63 v64 v65 v66 v67 v68 v69 v70 v71 v72 v73 v74 v75 v76 v77 v78 v79 v80 v81 v82 v83 v84 v85 v86 v87 v88 v89 v90 v91 v92 v93 v94 v95 v96 v97 v98 v99 v100 v101 v102 v103 v104 v105 v106 v107 v108 v109 v110 v111 v112 v113 v114 v115 v116 v117 v118 v119 v120 v121 v122 v123 v124 v125 v126 v127 v128 v129 v130 v131 v132 v133 v134 v135 v136 v137 v138 v139 v140 v141 v142 v143 v144 v145 v146 v147 v148 v149 v150 v151 v152 : Value} {KK : Act → World → Prop} {Q : Exit → Act → World → Prop} (hST : stF ∈ fs) (hRW : rwF ∈ fs) (hMV : mvF ∈ fs) (h_xs : fF A n xs ∈ fs) (hN_xs : A = none → c = 0) (hF : full xs ≤ 20000) (h3 : (gT, #[.int .i64 M, .slice A n c], 24) ∈ gs) (h_a : bF A1 n1 a ∈ fs) (hN_a : A1 = none → c1 = 0) (h_b : bF A2 n2 b ∈ fs) (hN_b : A2 = none → c2 = 0) (hla : a.length ≤ 4000) (hlb : b.length ≤ 4000) (hna : n1 ≤ 4000) (hnb : n2 ≤ 4000) (HV : BK M most xs (a ++ b) E nl L G N nt X) (hR : ∀ (gX : Nat) (LL TT : Option Addr) (cl tc : Nat) (u88 u90 u92 : Value) (w' : World), EnvF w' (fF LL nl L :: fF TT nt X :: fs) ((gX, #[.slice LL nl cl, .bool G, .int .i64 N, .slice TT nt tc], 29) :: (gs)) → (LL = none → cl = 0) → (TT = none → tc = 0) → Below w.drew.heap.size w.drew w' → KK { tmps := #[v0, .int .i64 most, v2, v3, v4, .pointer (some ⟨gT, 0, none⟩), v6, v7, v8, v9, v10, .slice A1 n1 c1, v12, .slice A2 n2 c2, v14, v15, .pointer (some ⟨gX, 0, none⟩), .int .i64 E, v18, v19, v20, v21, v22, v23, v24, v25, v26, v27, v28, v29, v30, v31, v32, v33, v34, v35, v36, v37, v38, v39, v40, v41, v42, v43, v44, v45, v46, v47, v48, v49, v50, v51, v52, v53, v54, v55, v56, v57, v58, v59, v60, v61, v62, v63, v64, v65, v66, v67, v68, v69, v70, v71, v72, v73, v74, v75, v76, v77, v78, v79, v80, v81, v82, v83, v84, .tuple #[.agg #[.slice LL nl cl, .bool G, .int .i64 N, .slice TT nt tc], .int .i64 E], .agg #[.int .i64 M, .slice A n c], .int .i64 most, u88, .slice A1 n1 c1, u90, .slice A2 n2 c2, u92, .tuple #[.agg #[.slice LL nl cl, .bool G, .int .i64 N, .slice TT nt tc], .int .i64 E], .agg #[.slice LL nl cl, .bool G, .int .i64 N, .slice TT nt tc], .int .i64 E, v96, v97, v98, v99, v100, v101, v102, v103, v104, v105, v106, v107, v108, v109, v110, v111, v112, v113, v114, v115, v116, v117, v118, v119, v120, v121, v122, v123, v124, v125, v126, v127, v128, v129, v130, v131, v132, v133, v134, v135, v136, v137, v138, v139, v140, v141, v142, v143, v144, v145, v146, v147, v148, v149, v150, v151, v152], defers := [] } w') (K : EnvF w fs gs) :
    (Code.region 10 s10ops.toArray true).wp Tryd.prog (Exit.then KK Q) { tmps := #[v0, .int .i64 most, v2, v3, v4, .pointer (some ⟨gT, 0, none⟩), v6, v7, v8, v9, v10, .slice A1 n1 c1, v12, .slice A2 n2 c2, v14, v15, v16, v17, v18, v19, v20, v21, v22, v23, v24, v25, v26, v27, v28, v29, v30, v31, v32, v33, v34, v35, v36, v37, v38, v39, v40, v41, v42, v43, v44, v45, v46, v47, v48, v49, v50, v51, v52, v53, v54, v55, v56, v57, v58, v59, v60, v61, v62, v63, v64, v65, v66, v67, v68, v69, v70, v71, v72, v73, v74, v75, v76, v77, v78, v79, v80, v81, v82, v83, v84, v85, v86, v87, v88, v89, v90, v91, v92, v93, v94, v95, v96, v97, v98, v99, v100, v101, v102, v103, v104, v105, v106, v107, v108, v109, v110, v111, v112, v113, v114, v115, v116, v117, v118, v119, v120, v121, v122, v123, v124, v125, v126, v127, v128, v129, v130, v131, v132, v133, v134, v135, v136, v137, v138, v139, v140, v141, v142, v143, v144, v145, v146, v147, v148, v149, v150, v151, v152], defers := [] } w := by
  refine Code.wp_mono (Q := Exit.then KK fun _ _ _ => False) (fun e a w h => by cases e <;> first | exact h | exact h.elim) ?_
  refine wp_region_held_drew (S := (fun W' => W'.cell? ⟨gT, 0, none⟩ = some (.int .i64 M) ∧ W'.cell? ⟨gT, 1, none⟩ = some (.slice A n c))) (by kernel_rfl) (cells2_row (K.drew.g _ (h3))) (fun hH => ?_)
  refine takeD (i := 0) (v := ?_) rfl (by as_aux_lemma => kernel_rfl) (by as_aux_lemma => kernel_rfl) (by as_aux_lemma => kernel_rfl) (fun _ _ _ h => h) (Or.inl ⟨by rfl, ?_⟩) hH ?_
  rotate_left
  · intro w hSw; (try dsimp only at hSw); go_simp <;> with_reducible rfl
  try simp only [Act.put, List.setIfInBounds_toArray, List.set_cons_zero, List.set_cons_succ]
  refine takeD (i := 1) (v := ?_) rfl (by as_aux_lemma => kernel_rfl) (by as_aux_lemma => kernel_rfl) (by as_aux_lemma => kernel_rfl) (fun _ _ _ h => h) (Or.inl ⟨by rfl, ?_⟩) hH ?_
  rotate_left
  · intro w hSw; (try dsimp only at hSw); go_simp <;> with_reducible rfl
  try simp only [Act.put, List.setIfInBounds_toArray, List.set_cons_zero, List.set_cons_succ]
  refine takeD (i := 3) (v := ?_) rfl (by as_aux_lemma => kernel_rfl) (by as_aux_lemma => kernel_rfl) (by as_aux_lemma => kernel_rfl) (fun _ _ _ h => h) (Or.inl ⟨by rfl, ?_⟩) hH ?_
  rotate_left
  · intro w hSw; (try dsimp only at hSw); go_simp <;> with_reducible rfl
  try simp only [Act.put, List.setIfInBounds_toArray, List.set_cons_zero, List.set_cons_succ]
  refine takeD (i := 5) (v := ?_) rfl (by as_aux_lemma => kernel_rfl) (by as_aux_lemma => kernel_rfl) (by as_aux_lemma => kernel_rfl) (fun _ _ _ h => h) (Or.inl ⟨by rfl, ?_⟩) hH ?_
  rotate_left
  · intro w hSw; (try dsimp only at hSw); go_simp <;> with_reducible rfl
  try simp only [Act.put, List.setIfInBounds_toArray, List.set_cons_zero, List.set_cons_succ]
  exact s10_00 hST hRW hMV h_xs hN_xs hF h3 h_a hN_a h_b hN_b hla hlb hna hnb HV hR _ (by kernel_rfl) K.drew (Below.refl _ _)
noncomputable def s11ops : List Oper := opsOf 11 (Tryd.f5.body.getD .skip)
section
variable {w0 : World} {fs : List Fact} {gs : List Bx} {M most : Int} {A A1 : Option Addr} {n c n1 c1 gT gF : Nat} {xs : List Fd} {a fa fb : List UInt8} {E : Int} {nl : Nat} {L : List Fd} {G : Bool} {N : Int} {nt : Nat} {X : List Fd} {v0 v2 v3 v4 v6 v7 v8 v10 v12 v13 v14 v15 v16 v17 v18 v19 v20 v21 v22 v23 v24 v25 v26 v27 v28 v29 v30 v31 v32 v33 v34 v35 v36 v37 v38 v39 v40 v41 v42 v43 v44 v45 v46 v47 v48 v49 v50 v51 v52 v53 v54 v55 v56 v57 v58 v59 v60 v61 v62 v63 v64 v65 v66 v67 v68 v69 v70 v71 v72 v73 v74 v75 v76 v77 v78 v79 v80 v81 v82 v83 v84 v85 v86 v87 v88 v89 v90 v91 v92 v93 v94 v95 v96 v100 v102 v103 v104 v105 v106 v107 v108 v109 v110 v111 v112 v113 v114 v115 v116 v117 v118 v119 v120 v121 v122 v123 v124 v125 v126 v127 v128 v129 v130 v131 v132 v133 v134 v135 v136 v137 v138 v139 v140 v141 v142 v143 v144 v145 v146 v147 v148 v149 v150 v151 v152 : Value} {KK : Act → World → Prop} (hST : stF ∈ fs) (hRW : rwF ∈ fs) (hMV : mvF ∈ fs) (h_xs : fF A n xs ∈ fs) (hN_xs : A = none → c = 0) (hF : full xs ≤ 20000) (h3 : (gT, #[.int .i64 M, .slice A n c], 24) ∈ gs) (h4 : (gF, #[.string ⟨fa.toArray⟩, .string ⟨fb.toArray⟩], 38) ∈ gs) (h_a : bF A1 n1 a ∈ fs) (hN_a : A1 = none → c1 = 0) (hla : a.length ≤ 4000) (hna : n1 ≤ 4000) (hfa : fa.length ≤ 10000) (hfb : fb.length ≤ 10000) (hlf : (fldL fa fb 0).length ≤ 6000) (HV : BK M most xs (fldL fa fb 0 ++ a) E nl L G N nt X) (hR : ∀ (gX : Nat) (LL TT : Option Addr) (cl tc : Nat) (u100 u102 : Value) (w : World), EnvF w (fF LL nl L :: fF TT nt X :: fs) ((gX, #[.slice LL nl cl, .bool G, .int .i64 N, .slice TT nt tc], 29) :: (gs)) → (LL = none → cl = 0) → (TT = none → tc = 0) → Below w0.heap.size w0 w → KK { tmps := #[v0, .int .i64 most, v2, v3, v4, .pointer (some ⟨gT, 0, none⟩), v6, v7, v8, .pointer (some ⟨gF, 0, none⟩), v10, .slice A1 n1 c1, v12, v13, v14, v15, v16, v17, .pointer (some ⟨gX, 0, none⟩), .int .i64 E, v20, v21, v22, v23, v24, v25, v26, v27, v28, v29, v30, v31, v32, v33, v34, v35, v36, v37, v38, v39, v40, v41, v42, v43, v44, v45, v46, v47, v48, v49, v50, v51, v52, v53, v54, v55, v56, v57, v58, v59, v60, v61, v62, v63, v64, v65, v66, v67, v68, v69, v70, v71, v72, v73, v74, v75, v76, v77, v78, v79, v80, v81, v82, v83, v84, v85, v86, v87, v88, v89, v90, v91, v92, v93, v94, v95, .tuple #[.agg #[.slice LL nl cl, .bool G, .int .i64 N, .slice TT nt tc], .int .i64 E], .agg #[.int .i64 M, .slice A n c], .int .i64 most, .agg #[.string ⟨fa.toArray⟩, .string ⟨fb.toArray⟩], u100, .slice A1 n1 c1, u102, .tuple #[.agg #[.slice LL nl cl, .bool G, .int .i64 N, .slice TT nt tc], .int .i64 E], .agg #[.slice LL nl cl, .bool G, .int .i64 N, .slice TT nt tc], .int .i64 E, v106, v107, v108, v109, v110, v111, v112, v113, v114, v115, v116, v117, v118, v119, v120, v121, v122, v123, v124, v125, v126, v127, v128, v129, v130, v131, v132, v133, v134, v135, v136, v137, v138, v139, v140, v141, v142, v143, v144, v145, v146, v147, v148, v149, v150, v151, v152], defers := [] } w)
include hST hRW hMV h_xs hN_xs hF h3 h4 h_a hN_a hla hna hfa hfb hlf HV hR
set_option maxRecDepth 100000 in
set_option maxHeartbeats 4000000 in
theorem s11_31 {gX : Nat} {LL TT : Option Addr} {cl tc : Nat}  (leX : w0.heap.size ≤ gX) (hcl : LL = none → cl = 0) (htc : TT = none → tc = 0) {w : World} (ls : Array Bool) (hl : ls = #[true, true, true, true, true, true, true, true, true, true, true, false, false]) (K : EnvF w (fF LL nl L :: fF TT nt X :: fs) ((gX, #[.slice none 0 0, .bool false, .int .i64 0, .slice none 0 0], 29) :: (gs))) (B : Below w0.heap.size w0 w) :
    wpAnyH Tryd.prog .any s11ops.toArray (Exit.then KK fun _ _ _ => False) (fun W' => W'.cell? ⟨gT, 0, none⟩ = some (.int .i64 M) ∧ W'.cell? ⟨gT, 1, none⟩ = some (.slice A n c) ∧ W'.cell? ⟨gF, 0, none⟩ = some (.string ⟨fa.toArray⟩) ∧ W'.cell? ⟨gF, 1, none⟩ = some (.string ⟨fb.toArray⟩)) 2 ls { tmps := #[v0, .int .i64 most, v2, v3, v4, .pointer (some ⟨gT, 0, none⟩), v6, v7, v8, .pointer (some ⟨gF, 0, none⟩), v10, .slice A1 n1 c1, v12, v13, v14, v15, v16, v17, .pointer (some ⟨gX, 0, none⟩), v19, v20, v21, v22, v23, v24, v25, v26, v27, v28, v29, v30, v31, v32, v33, v34, v35, v36, v37, v38, v39, v40, v41, v42, v43, v44, v45, v46, v47, v48, v49, v50, v51, v52, v53, v54, v55, v56, v57, v58, v59, v60, v61, v62, v63, v64, v65, v66, v67, v68, v69, v70, v71, v72, v73, v74, v75, v76, v77, v78, v79, v80, v81, v82, v83, v84, v85, v86, v87, v88, v89, v90, v91, v92, v93, v94, v95, .tuple #[.agg #[.slice LL nl cl, .bool G, .int .i64 N, .slice TT nt tc], .int .i64 E], .agg #[.int .i64 M, .slice A n c], .int .i64 most, .agg #[.string ⟨fa.toArray⟩, .string ⟨fb.toArray⟩], v100, .slice A1 n1 c1, v102, .tuple #[.agg #[.slice LL nl cl, .bool G, .int .i64 N, .slice TT nt tc], .int .i64 E], .agg #[.slice LL nl cl, .bool G, .int .i64 N, .slice TT nt tc], .int .i64 E, v106, v107, v108, v109, v110, v111, v112, v113, v114, v115, v116, v117, v118, v119, v120, v121, v122, v123, v124, v125, v126, v127, v128, v129, v130, v131, v132, v133, v134, v135, v136, v137, v138, v139, v140, v141, v142, v143, v144, v145, v146, v147, v148, v149, v150, v151, v152], defers := [] } w := by
  subst hl
  refine readyD (i := 11) rfl (by as_aux_lemma => kernel_rfl) (fun K' hK => ?_)
  refine step_put (by rfl) 29 (.tmp 18) (.tmp 104) (by rfl) gX 0 (.agg #[.slice LL nl cl, .bool G, .int .i64 N, .slice TT nt tc]) (by rfl) (by rfl) 29 #[.slice none 0 0, .bool false, .int .i64 0, .slice none 0 0] #[.slice LL nl cl, .bool G, .int .i64 N, .slice TT nt tc] (K.row 0 rfl) (by simp [Value.cells]) (by kernel_rfl) infoc_U (by kernel_rfl) ?_
  intro w1 c1' c2' c3' c4'
  have K1 := K.turn 0 rfl c1' c2' c3'
  have B1 := c4' _ _ leX B
  refine hK.out _ _ (and_assoc.1 ⟨cells2_row (K1.g _ (List.mem_cons_of_mem _ (h3))), cells2_row (K1.g _ (List.mem_cons_of_mem _ (h4)))⟩) (fun hH => ?_)
  clear hK K'
  try simp only [Act.put, List.setIfInBounds_toArray, List.set_cons_zero, List.set_cons_succ]
  refine takeD (i := 12) (v := ?_) rfl (by as_aux_lemma => kernel_rfl) (by as_aux_lemma => kernel_rfl) (by as_aux_lemma => kernel_rfl) (fun _ _ _ h => h) (Or.inl ⟨by rfl, ?_⟩) hH ?_
  rotate_left
  · intro w hSw; (try dsimp only at hSw); go_simp <;> with_reducible rfl
  try simp only [Act.put, List.setIfInBounds_toArray, List.set_cons_zero, List.set_cons_succ]
  refine wpAnyH_done (by as_aux_lemma => kernel_rfl) ?_ _
  exact hR _ _ _ _ _ _ _ _ K1 hcl htc B1
set_option maxRecDepth 100000 in
set_option maxHeartbeats 4000000 in
theorem s11_30 {LL TT : Option Addr} {cl tc : Nat}  (hcl : LL = none → cl = 0) (htc : TT = none → tc = 0) {w : World} (ls : Array Bool) (hl : ls = #[true, true, true, true, true, true, true, true, true, true, false, false, false]) (K : EnvF w (fF LL nl L :: fF TT nt X :: fs) (gs)) (B : Below w0.heap.size w0 w) :
    wpAnyH Tryd.prog .any s11ops.toArray (Exit.then KK fun _ _ _ => False) (fun W' => W'.cell? ⟨gT, 0, none⟩ = some (.int .i64 M) ∧ W'.cell? ⟨gT, 1, none⟩ = some (.slice A n c) ∧ W'.cell? ⟨gF, 0, none⟩ = some (.string ⟨fa.toArray⟩) ∧ W'.cell? ⟨gF, 1, none⟩ = some (.string ⟨fb.toArray⟩)) 3 ls { tmps := #[v0, .int .i64 most, v2, v3, v4, .pointer (some ⟨gT, 0, none⟩), v6, v7, v8, .pointer (some ⟨gF, 0, none⟩), v10, .slice A1 n1 c1, v12, v13, v14, v15, v16, v17, v18, v19, v20, v21, v22, v23, v24, v25, v26, v27, v28, v29, v30, v31, v32, v33, v34, v35, v36, v37, v38, v39, v40, v41, v42, v43, v44, v45, v46, v47, v48, v49, v50, v51, v52, v53, v54, v55, v56, v57, v58, v59, v60, v61, v62, v63, v64, v65, v66, v67, v68, v69, v70, v71, v72, v73, v74, v75, v76, v77, v78, v79, v80, v81, v82, v83, v84, v85, v86, v87, v88, v89, v90, v91, v92, v93, v94, v95, .tuple #[.agg #[.slice LL nl cl, .bool G, .int .i64 N, .slice TT nt tc], .int .i64 E], .agg #[.int .i64 M, .slice A n c], .int .i64 most, .agg #[.string ⟨fa.toArray⟩, .string ⟨fb.toArray⟩], v100, .slice A1 n1 c1, v102, .tuple #[.agg #[.slice LL nl cl, .bool G, .int .i64 N, .slice TT nt tc], .int .i64 E], .agg #[.slice LL nl cl, .bool G, .int .i64 N, .slice TT nt tc], .int .i64 E, v106, v107, v108, v109, v110, v111, v112, v113, v114, v115, v116, v117, v118, v119, v120, v121, v122, v123, v124, v125, v126, v127, v128, v129, v130, v131, v132, v133, v134, v135, v136, v137, v138, v139, v140, v141, v142, v143, v144, v145, v146, v147, v148, v149, v150, v151, v152], defers := [] } w := by
  subst hl
  refine wpAnyH_ready (rs := [10]) (by as_aux_lemma => kernel_rfl) (by simp) ?_
  refine AllReadyH.cons (getOf (i := 10) rfl) (fun K' hK => ?_) ?_
  ·
    go_simp
    have K2 := K.boxg 29 #[.slice none 0 0, .bool false, .int .i64 0, .slice none 0 0] w.heap.size rfl
    have B2 := B.alloc B.size (.cells #[.slice none 0 0, .bool false, .int .i64 0, .slice none 0 0] 29)
    have leX := B.size
    refine hK.out _ _ (and_assoc.1 ⟨cells2_row (K2.g _ (List.mem_cons_of_mem _ (h3))), cells2_row (K2.g _ (List.mem_cons_of_mem _ (h4)))⟩) (fun hH => ?_)
    clear hK K'
    try simp only [Act.put, List.setIfInBounds_toArray, List.set_cons_zero, List.set_cons_succ]
    exact s11_31 hST hRW hMV h_xs hN_xs hF h3 h4 h_a hN_a hla hna hfa hfb hlf HV hR leX hcl htc _ (by kernel_rfl) K2 B2
  exact AllReadyH.nil
set_option maxRecDepth 100000 in
set_option maxHeartbeats 4000000 in
theorem s11_21 {gX : Nat} {V : Value} {lb : List Bx}  (leX : w0.heap.size ≤ gX) (hl1 : BBox w0.heap.size V (fldL fa fb 0 ++ a) lb) {w : World} (ls : Array Bool) (hl : ls = #[true, true, true, true, true, true, false, false, false, false, true, false, false]) (K : EnvF w fs ((gX, #[.slice none 0 0, .bool false, .int .i64 0, .slice none 0 0], 29) :: (gs ++ lb))) (B : Below w0.heap.size w0 w) :
    wpAnyH Tryd.prog .any s11ops.toArray (Exit.then KK fun _ _ _ => False) (fun W' => W'.cell? ⟨gT, 0, none⟩ = some (.int .i64 M) ∧ W'.cell? ⟨gT, 1, none⟩ = some (.slice A n c) ∧ W'.cell? ⟨gF, 0, none⟩ = some (.string ⟨fa.toArray⟩) ∧ W'.cell? ⟨gF, 1, none⟩ = some (.string ⟨fb.toArray⟩)) 6 ls { tmps := #[v0, .int .i64 most, v2, v3, v4, .pointer (some ⟨gT, 0, none⟩), v6, v7, v8, .pointer (some ⟨gF, 0, none⟩), v10, .slice A1 n1 c1, v12, v13, v14, v15, v16, v17, .pointer (some ⟨gX, 0, none⟩), v19, v20, v21, v22, v23, v24, v25, v26, v27, v28, v29, v30, v31, v32, v33, v34, v35, v36, v37, v38, v39, v40, v41, v42, v43, v44, v45, v46, v47, v48, v49, v50, v51, v52, v53, v54, v55, v56, v57, v58, v59, v60, v61, v62, v63, v64, v65, v66, v67, v68, v69, v70, v71, v72, v73, v74, v75, v76, v77, v78, v79, v80, v81, v82, v83, v84, v85, v86, v87, v88, v89, v90, v91, v92, v93, v94, v95, v96, .agg #[.int .i64 M, .slice A n c], .int .i64 most, .agg #[.string ⟨fa.toArray⟩, .string ⟨fb.toArray⟩], v100, .slice A1 n1 c1, V, v103, v104, v105, v106, v107, v108, v109, v110, v111, v112, v113, v114, v115, v116, v117, v118, v119, v120, v121, v122, v123, v124, v125, v126, v127, v128, v129, v130, v131, v132, v133, v134, v135, v136, v137, v138, v139, v140, v141, v142, v143, v144, v145, v146, v147, v148, v149, v150, v151, v152], defers := [] } w := by
  subst hl
  refine wpAnyH_ready (rs := [6]) (by as_aux_lemma => kernel_rfl) (by simp) ?_
  refine AllReadyH.cons (getOf (i := 6) rfl) (fun K' hK => ?_) ?_
  ·
    obtain ⟨A3, n3, c3, rfl, hn3, h31, h32⟩ := hl1.form2 (gs := ((gX, #[.slice none 0 0, .bool false, .int .i64 0, .slice none 0 0], 29) :: (gs))) K
    have K1 := bbox_fact (gs := ((gX, #[.slice none 0 0, .bool false, .int .i64 0, .slice none 0 0], 29) :: (gs))) K hl1 hn3
    have hn3' : n3 ≤ 10000 := by rw [← hn3]; rw [List.length_append]; omega
    clear hn3
    go_simp
    go_at_call 9
    refine (b_call w HV K1 (List.mem_cons_self ..) h31 h32 (List.mem_cons_of_mem _ h_xs) hN_xs (List.mem_cons_of_mem _ hST) (List.mem_cons_of_mem _ hRW) (List.mem_cons_of_mem _ hMV) hF hn3').mono ?_
    rintro e w2 ⟨LL, cl, TT, tc, rfl, hb, hE, hcl, htc⟩
    have K2 := Up.EnvF.drop3 hE
    have B2 := below_step B hb
    refine hK.out _ _ (and_assoc.1 ⟨cells2_row (K2.g _ (List.mem_cons_of_mem _ (h3))), cells2_row (K2.g _ (List.mem_cons_of_mem _ (h4)))⟩) (fun hH => ?_)
    clear hK K'
    try simp only [Act.put, List.setIfInBounds_toArray, List.set_cons_zero, List.set_cons_succ]
    refine takeD (i := 7) (v := ?_) rfl (by as_aux_lemma => kernel_rfl) (by as_aux_lemma => kernel_rfl) (by as_aux_lemma => kernel_rfl) (fun _ _ _ h => h) (Or.inl ⟨by rfl, ?_⟩) hH ?_
    rotate_left
    · intro w hSw; (try dsimp only at hSw); go_simp <;> with_reducible rfl
    try simp only [Act.put, List.setIfInBounds_toArray, List.set_cons_zero, List.set_cons_succ]
    refine takeD (i := 8) (v := ?_) rfl (by as_aux_lemma => kernel_rfl) (by as_aux_lemma => kernel_rfl) (by as_aux_lemma => kernel_rfl) (fun _ _ _ h => h) (Or.inl ⟨by rfl, ?_⟩) hH ?_
    rotate_left
    · intro w hSw; (try dsimp only at hSw); go_simp <;> with_reducible rfl
    try simp only [Act.put, List.setIfInBounds_toArray, List.set_cons_zero, List.set_cons_succ]
    refine takeD (i := 9) (v := ?_) rfl (by as_aux_lemma => kernel_rfl) (by as_aux_lemma => kernel_rfl) (by as_aux_lemma => kernel_rfl) (fun _ _ _ h => h) (Or.inl ⟨by rfl, ?_⟩) hH ?_
    rotate_left
    · intro w hSw; (try dsimp only at hSw); go_simp <;> with_reducible rfl
    try simp only [Act.put, List.setIfInBounds_toArray, List.set_cons_zero, List.set_cons_succ]
    exact s11_31 hST hRW hMV h_xs hN_xs hF h3 h4 h_a hN_a hla hna hfa hfb hlf HV hR leX hcl htc _ (by kernel_rfl) K2 B2
  exact AllReadyH.nil
set_option maxRecDepth 100000 in
set_option maxHeartbeats 4000000 in
theorem s11_20 {V : Value} {lb : List Bx}  (hl1 : BBox w0.heap.size V (fldL fa fb 0 ++ a) lb) {w : World} (ls : Array Bool) (hl : ls = #[true, true, true, true, true, true, false, false, false, false, false, false, false]) (K : EnvF w fs (gs ++ lb)) (B : Below w0.heap.size w0 w) :
    wpAnyH Tryd.prog .any s11ops.toArray (Exit.then KK fun _ _ _ => False) (fun W' => W'.cell? ⟨gT, 0, none⟩ = some (.int .i64 M) ∧ W'.cell? ⟨gT, 1, none⟩ = some (.slice A n c) ∧ W'.cell? ⟨gF, 0, none⟩ = some (.string ⟨fa.toArray⟩) ∧ W'.cell? ⟨gF, 1, none⟩ = some (.string ⟨fb.toArray⟩)) 7 ls { tmps := #[v0, .int .i64 most, v2, v3, v4, .pointer (some ⟨gT, 0, none⟩), v6, v7, v8, .pointer (some ⟨gF, 0, none⟩), v10, .slice A1 n1 c1, v12, v13, v14, v15, v16, v17, v18, v19, v20, v21, v22, v23, v24, v25, v26, v27, v28, v29, v30, v31, v32, v33, v34, v35, v36, v37, v38, v39, v40, v41, v42, v43, v44, v45, v46, v47, v48, v49, v50, v51, v52, v53, v54, v55, v56, v57, v58, v59, v60, v61, v62, v63, v64, v65, v66, v67, v68, v69, v70, v71, v72, v73, v74, v75, v76, v77, v78, v79, v80, v81, v82, v83, v84, v85, v86, v87, v88, v89, v90, v91, v92, v93, v94, v95, v96, .agg #[.int .i64 M, .slice A n c], .int .i64 most, .agg #[.string ⟨fa.toArray⟩, .string ⟨fb.toArray⟩], v100, .slice A1 n1 c1, V, v103, v104, v105, v106, v107, v108, v109, v110, v111, v112, v113, v114, v115, v116, v117, v118, v119, v120, v121, v122, v123, v124, v125, v126, v127, v128, v129, v130, v131, v132, v133, v134, v135, v136, v137, v138, v139, v140, v141, v142, v143, v144, v145, v146, v147, v148, v149, v150, v151, v152], defers := [] } w := by
  subst hl
  refine wpAnyH_ready (rs := [6, 10]) (by as_aux_lemma => kernel_rfl) (by simp) ?_
  refine AllReadyH.cons (getOf (i := 6) rfl) (fun K' hK => ?_) ?_
  ·
    obtain ⟨A3, n3, c3, rfl, hn3, h31, h32⟩ := hl1.form2 (gs := (gs)) K
    have K1 := bbox_fact (gs := (gs)) K hl1 hn3
    have hn3' : n3 ≤ 10000 := by rw [← hn3]; rw [List.length_append]; omega
    clear hn3
    go_simp
    go_at_call 9
    refine (b_call w HV K1 (List.mem_cons_self ..) h31 h32 (List.mem_cons_of_mem _ h_xs) hN_xs (List.mem_cons_of_mem _ hST) (List.mem_cons_of_mem _ hRW) (List.mem_cons_of_mem _ hMV) hF hn3').mono ?_
    rintro e w2 ⟨LL, cl, TT, tc, rfl, hb, hE, hcl, htc⟩
    have K2 := Up.EnvF.drop3 hE
    have B2 := below_step B hb
    refine hK.out _ _ (and_assoc.1 ⟨cells2_row (K2.g _ (h3)), cells2_row (K2.g _ (h4))⟩) (fun hH => ?_)
    clear hK K'
    try simp only [Act.put, List.setIfInBounds_toArray, List.set_cons_zero, List.set_cons_succ]
    refine takeD (i := 7) (v := ?_) rfl (by as_aux_lemma => kernel_rfl) (by as_aux_lemma => kernel_rfl) (by as_aux_lemma => kernel_rfl) (fun _ _ _ h => h) (Or.inl ⟨by rfl, ?_⟩) hH ?_
    rotate_left
    · intro w hSw; (try dsimp only at hSw); go_simp <;> with_reducible rfl
    try simp only [Act.put, List.setIfInBounds_toArray, List.set_cons_zero, List.set_cons_succ]
    refine takeD (i := 8) (v := ?_) rfl (by as_aux_lemma => kernel_rfl) (by as_aux_lemma => kernel_rfl) (by as_aux_lemma => kernel_rfl) (fun _ _ _ h => h) (Or.inl ⟨by rfl, ?_⟩) hH ?_
    rotate_left
    · intro w hSw; (try dsimp only at hSw); go_simp <;> with_reducible rfl
    try simp only [Act.put, List.setIfInBounds_toArray, List.set_cons_zero, List.set_cons_succ]
    refine takeD (i := 9) (v := ?_) rfl (by as_aux_lemma => kernel_rfl) (by as_aux_lemma => kernel_rfl) (by as_aux_lemma => kernel_rfl) (fun _ _ _ h => h) (Or.inl ⟨by rfl, ?_⟩) hH ?_
    rotate_left
    · intro w hSw; (try dsimp only at hSw); go_simp <;> with_reducible rfl
    try simp only [Act.put, List.setIfInBounds_toArray, List.set_cons_zero, List.set_cons_succ]
    exact s11_30 hST hRW hMV h_xs hN_xs hF h3 h4 h_a hN_a hla hna hfa hfb hlf HV hR hcl htc _ (by kernel_rfl) K2 B2
  refine AllReadyH.cons (getOf (i := 10) rfl) (fun K' hK => ?_) ?_
  ·
    go_simp
    have K2 := K.boxg 29 #[.slice none 0 0, .bool false, .int .i64 0, .slice none 0 0] w.heap.size rfl
    have B2 := B.alloc B.size (.cells #[.slice none 0 0, .bool false, .int .i64 0, .slice none 0 0] 29)
    have leX := B.size
    refine hK.out _ _ (and_assoc.1 ⟨cells2_row (K2.g _ (List.mem_cons_of_mem _ (List.mem_append_left _ h3))), cells2_row (K2.g _ (List.mem_cons_of_mem _ (List.mem_append_left _ h4)))⟩) (fun hH => ?_)
    clear hK K'
    try simp only [Act.put, List.setIfInBounds_toArray, List.set_cons_zero, List.set_cons_succ]
    exact s11_21 hST hRW hMV h_xs hN_xs hF h3 h4 h_a hN_a hla hna hfa hfb hlf HV hR leX hl1 _ (by kernel_rfl) K2 B2
  exact AllReadyH.nil
set_option maxRecDepth 100000 in
set_option maxHeartbeats 4000000 in
theorem s11_11 {gX : Nat} {V : Value} {lb : List Bx}  (leX : w0.heap.size ≤ gX) (hl1 : BBox w0.heap.size V (fldL fa fb 0) lb) {w : World} (ls : Array Bool) (hl : ls = #[true, true, true, true, true, false, false, false, false, false, true, false, false]) (K : EnvF w fs ((gX, #[.slice none 0 0, .bool false, .int .i64 0, .slice none 0 0], 29) :: (gs ++ lb))) (B : Below w0.heap.size w0 w) :
    wpAnyH Tryd.prog .any s11ops.toArray (Exit.then KK fun _ _ _ => False) (fun W' => W'.cell? ⟨gT, 0, none⟩ = some (.int .i64 M) ∧ W'.cell? ⟨gT, 1, none⟩ = some (.slice A n c) ∧ W'.cell? ⟨gF, 0, none⟩ = some (.string ⟨fa.toArray⟩) ∧ W'.cell? ⟨gF, 1, none⟩ = some (.string ⟨fb.toArray⟩)) 7 ls { tmps := #[v0, .int .i64 most, v2, v3, v4, .pointer (some ⟨gT, 0, none⟩), v6, v7, v8, .pointer (some ⟨gF, 0, none⟩), v10, .slice A1 n1 c1, v12, v13, v14, v15, v16, v17, .pointer (some ⟨gX, 0, none⟩), v19, v20, v21, v22, v23, v24, v25, v26, v27, v28, v29, v30, v31, v32, v33, v34, v35, v36, v37, v38, v39, v40, v41, v42, v43, v44, v45, v46, v47, v48, v49, v50, v51, v52, v53, v54, v55, v56, v57, v58, v59, v60, v61, v62, v63, v64, v65, v66, v67, v68, v69, v70, v71, v72, v73, v74, v75, v76, v77, v78, v79, v80, v81, v82, v83, v84, v85, v86, v87, v88, v89, v90, v91, v92, v93, v94, v95, v96, .agg #[.int .i64 M, .slice A n c], .int .i64 most, .agg #[.string ⟨fa.toArray⟩, .string ⟨fb.toArray⟩], V, .slice A1 n1 c1, v102, v103, v104, v105, v106, v107, v108, v109, v110, v111, v112, v113, v114, v115, v116, v117, v118, v119, v120, v121, v122, v123, v124, v125, v126, v127, v128, v129, v130, v131, v132, v133, v134, v135, v136, v137, v138, v139, v140, v141, v142, v143, v144, v145, v146, v147, v148, v149, v150, v151, v152], defers := [] } w := by
  subst hl
  refine wpAnyH_ready (rs := [5]) (by as_aux_lemma => kernel_rfl) (by simp) ?_
  refine AllReadyH.cons (getOf (i := 5) rfl) (fun K' hK => ?_) ?_
  ·
    obtain ⟨i0, hi, hz0, hz1, hz2⟩ := info_parts info_tu8
    refine step_append_full _ (by rfl) (.tmp 100) (.tmp 101) 25 (by rfl) w0.heap.size 5 i0 Tryd.underlying25 hi hz0 hz1 hz2 V (fldL fa fb 0) (by rfl) (hl1.own (gs := ((gX, #[.slice none 0 0, .bool false, .int .i64 0, .slice none 0 0], 29) :: (gs)) ++ lb) K (fun y hy => List.mem_append_right _ hy)) _ A1 n1 c1 a (by rfl) (K.bs h_a) hN_a (by omega) B.size ?_
    intro V2 w2 ho hb hg hv _
    obtain ⟨lb2, hl2, K2⟩ := bbox_append (gs := ((gX, #[.slice none 0 0, .bool false, .int .i64 0, .slice none 0 0], 29) :: (gs))) (lb := lb) K hl1 ho hg hv
    have B2 := B.trans hb
    clear hl1 K B
    have hl1 := hl2
    refine hK.out _ _ (and_assoc.1 ⟨cells2_row (K2.g _ (List.mem_cons_of_mem _ (List.mem_append_left _ h3))), cells2_row (K2.g _ (List.mem_cons_of_mem _ (List.mem_append_left _ h4)))⟩) (fun hH => ?_)
    clear hK K'
    try simp only [Act.put, List.setIfInBounds_toArray, List.set_cons_zero, List.set_cons_succ]
    exact s11_21 hST hRW hMV h_xs hN_xs hF h3 h4 h_a hN_a hla hna hfa hfb hlf HV hR leX hl1 _ (by kernel_rfl) K2 B2
  exact AllReadyH.nil
set_option maxRecDepth 100000 in
set_option maxHeartbeats 4000000 in
theorem s11_10 {V : Value} {lb : List Bx}  (hl1 : BBox w0.heap.size V (fldL fa fb 0) lb) {w : World} (ls : Array Bool) (hl : ls = #[true, true, true, true, true, false, false, false, false, false, false, false, false]) (K : EnvF w fs (gs ++ lb)) (B : Below w0.heap.size w0 w) :
    wpAnyH Tryd.prog .any s11ops.toArray (Exit.then KK fun _ _ _ => False) (fun W' => W'.cell? ⟨gT, 0, none⟩ = some (.int .i64 M) ∧ W'.cell? ⟨gT, 1, none⟩ = some (.slice A n c) ∧ W'.cell? ⟨gF, 0, none⟩ = some (.string ⟨fa.toArray⟩) ∧ W'.cell? ⟨gF, 1, none⟩ = some (.string ⟨fb.toArray⟩)) 8 ls { tmps := #[v0, .int .i64 most, v2, v3, v4, .pointer (some ⟨gT, 0, none⟩), v6, v7, v8, .pointer (some ⟨gF, 0, none⟩), v10, .slice A1 n1 c1, v12, v13, v14, v15, v16, v17, v18, v19, v20, v21, v22, v23, v24, v25, v26, v27, v28, v29, v30, v31, v32, v33, v34, v35, v36, v37, v38, v39, v40, v41, v42, v43, v44, v45, v46, v47, v48, v49, v50, v51, v52, v53, v54, v55, v56, v57, v58, v59, v60, v61, v62, v63, v64, v65, v66, v67, v68, v69, v70, v71, v72, v73, v74, v75, v76, v77, v78, v79, v80, v81, v82, v83, v84, v85, v86, v87, v88, v89, v90, v91, v92, v93, v94, v95, v96, .agg #[.int .i64 M, .slice A n c], .int .i64 most, .agg #[.string ⟨fa.toArray⟩, .string ⟨fb.toArray⟩], V, .slice A1 n1 c1, v102, v103, v104, v105, v106, v107, v108, v109, v110, v111, v112, v113, v114, v115, v116, v117, v118, v119, v120, v121, v122, v123, v124, v125, v126, v127, v128, v129, v130, v131, v132, v133, v134, v135, v136, v137, v138, v139, v140, v141, v142, v143, v144, v145, v146, v147, v148, v149, v150, v151, v152], defers := [] } w := by
  subst hl
  refine wpAnyH_ready (rs := [5, 10]) (by as_aux_lemma => kernel_rfl) (by simp) ?_
  refine AllReadyH.cons (getOf (i := 5) rfl) (fun K' hK => ?_) ?_
  ·
    obtain ⟨i0, hi, hz0, hz1, hz2⟩ := info_parts info_tu8
    refine step_append_full _ (by rfl) (.tmp 100) (.tmp 101) 25 (by rfl) w0.heap.size 5 i0 Tryd.underlying25 hi hz0 hz1 hz2 V (fldL fa fb 0) (by rfl) (hl1.own (gs := (gs) ++ lb) K (fun y hy => List.mem_append_right _ hy)) _ A1 n1 c1 a (by rfl) (K.bs h_a) hN_a (by omega) B.size ?_
    intro V2 w2 ho hb hg hv _
    obtain ⟨lb2, hl2, K2⟩ := bbox_append (gs := (gs)) (lb := lb) K hl1 ho hg hv
    have B2 := B.trans hb
    clear hl1 K B
    have hl1 := hl2
    refine hK.out _ _ (and_assoc.1 ⟨cells2_row (K2.g _ (List.mem_append_left _ h3)), cells2_row (K2.g _ (List.mem_append_left _ h4))⟩) (fun hH => ?_)
    clear hK K'
    try simp only [Act.put, List.setIfInBounds_toArray, List.set_cons_zero, List.set_cons_succ]
    exact s11_20 hST hRW hMV h_xs hN_xs hF h3 h4 h_a hN_a hla hna hfa hfb hlf HV hR hl1 _ (by kernel_rfl) K2 B2
  refine AllReadyH.cons (getOf (i := 10) rfl) (fun K' hK => ?_) ?_
  ·
    go_simp
    have K2 := K.boxg 29 #[.slice none 0 0, .bool false, .int .i64 0, .slice none 0 0] w.heap.size rfl
    have B2 := B.alloc B.size (.cells #[.slice none 0 0, .bool false, .int .i64 0, .slice none 0 0] 29)
    have leX := B.size
    refine hK.out _ _ (and_assoc.1 ⟨cells2_row (K2.g _ (List.mem_cons_of_mem _ (List.mem_append_left _ h3))), cells2_row (K2.g _ (List.mem_cons_of_mem _ (List.mem_append_left _ h4)))⟩) (fun hH => ?_)
    clear hK K'
    try simp only [Act.put, List.setIfInBounds_toArray, List.set_cons_zero, List.set_cons_succ]
    exact s11_11 hST hRW hMV h_xs hN_xs hF h3 h4 h_a hN_a hla hna hfa hfb hlf HV hR leX hl1 _ (by kernel_rfl) K2 B2
  exact AllReadyH.nil
set_option maxRecDepth 100000 in
set_option maxHeartbeats 4000000 in
theorem s11_01 {gX : Nat}  (leX : w0.heap.size ≤ gX) {w : World} (ls : Array Bool) (hl : ls = #[true, true, true, false, true, false, false, false, false, false, true, false, false]) (K : EnvF w fs ((gX, #[.slice none 0 0, .bool false, .int .i64 0, .slice none 0 0], 29) :: (gs))) (B : Below w0.heap.size w0 w) :
    wpAnyH Tryd.prog .any s11ops.toArray (Exit.then KK fun _ _ _ => False) (fun W' => W'.cell? ⟨gT, 0, none⟩ = some (.int .i64 M) ∧ W'.cell? ⟨gT, 1, none⟩ = some (.slice A n c) ∧ W'.cell? ⟨gF, 0, none⟩ = some (.string ⟨fa.toArray⟩) ∧ W'.cell? ⟨gF, 1, none⟩ = some (.string ⟨fb.toArray⟩)) 8 ls { tmps := #[v0, .int .i64 most, v2, v3, v4, .pointer (some ⟨gT, 0, none⟩), v6, v7, v8, .pointer (some ⟨gF, 0, none⟩), v10, .slice A1 n1 c1, v12, v13, v14, v15, v16, v17, .pointer (some ⟨gX, 0, none⟩), v19, v20, v21, v22, v23, v24, v25, v26, v27, v28, v29, v30, v31, v32, v33, v34, v35, v36, v37, v38, v39, v40, v41, v42, v43, v44, v45, v46, v47, v48, v49, v50, v51, v52, v53, v54, v55, v56, v57, v58, v59, v60, v61, v62, v63, v64, v65, v66, v67, v68, v69, v70, v71, v72, v73, v74, v75, v76, v77, v78, v79, v80, v81, v82, v83, v84, v85, v86, v87, v88, v89, v90, v91, v92, v93, v94, v95, v96, .agg #[.int .i64 M, .slice A n c], .int .i64 most, .agg #[.string ⟨fa.toArray⟩, .string ⟨fb.toArray⟩], v100, .slice A1 n1 c1, v102, v103, v104, v105, v106, v107, v108, v109, v110, v111, v112, v113, v114, v115, v116, v117, v118, v119, v120, v121, v122, v123, v124, v125, v126, v127, v128, v129, v130, v131, v132, v133, v134, v135, v136, v137, v138, v139, v140, v141, v142, v143, v144, v145, v146, v147, v148, v149, v150, v151, v152], defers := [] } w := by
  subst hl
  refine wpAnyH_ready (rs := [3]) (by as_aux_lemma => kernel_rfl) (by simp) ?_
  refine AllReadyH.cons (getOf (i := 3) rfl) (fun K' hK => ?_) ?_
  ·
    go_simp
    go_at_call 13
    refine (u_Field fa fb 0 w K hRW hMV hfa hfb).mono ?_
    rintro e w2 ⟨A0, c0, rfl, ho, hb⟩
    obtain ⟨lb, hl1, K2⟩ := bbox_hand (gs := ((gX, #[.slice none 0 0, .bool false, .int .i64 0, .slice none 0 0], 29) :: (gs))) K hb ho B.size
    have B2 := below_step B hb
    refine hK.out _ _ (and_assoc.1 ⟨cells2_row (K2.g _ (List.mem_cons_of_mem _ (List.mem_append_left _ h3))), cells2_row (K2.g _ (List.mem_cons_of_mem _ (List.mem_append_left _ h4)))⟩) (fun hH => ?_)
    clear hK K'
    try simp only [Act.put, List.setIfInBounds_toArray, List.set_cons_zero, List.set_cons_succ]
    exact s11_11 hST hRW hMV h_xs hN_xs hF h3 h4 h_a hN_a hla hna hfa hfb hlf HV hR leX hl1 _ (by kernel_rfl) K2 B2
  exact AllReadyH.nil
set_option maxRecDepth 100000 in
set_option maxHeartbeats 4000000 in
theorem s11_00  {w : World} (ls : Array Bool) (hl : ls = #[true, true, true, false, true, false, false, false, false, false, false, false, false]) (K : EnvF w fs (gs)) (B : Below w0.heap.size w0 w) :
    wpAnyH Tryd.prog .any s11ops.toArray (Exit.then KK fun _ _ _ => False) (fun W' => W'.cell? ⟨gT, 0, none⟩ = some (.int .i64 M) ∧ W'.cell? ⟨gT, 1, none⟩ = some (.slice A n c) ∧ W'.cell? ⟨gF, 0, none⟩ = some (.string ⟨fa.toArray⟩) ∧ W'.cell? ⟨gF, 1, none⟩ = some (.string ⟨fb.toArray⟩)) 9 ls { tmps := #[v0, .int .i64 most, v2, v3, v4, .pointer (some ⟨gT, 0, none⟩), v6, v7, v8, .pointer (some ⟨gF, 0, none⟩), v10, .slice A1 n1 c1, v12, v13, v14, v15, v16, v17, v18, v19, v20, v21, v22, v23, v24, v25, v26, v27, v28, v29, v30, v31, v32, v33, v34, v35, v36, v37, v38, v39, v40, v41, v42, v43, v44, v45, v46, v47, v48, v49, v50, v51, v52, v53, v54, v55, v56, v57, v58, v59, v60, v61, v62, v63, v64, v65, v66, v67, v68, v69, v70, v71, v72, v73, v74, v75, v76, v77, v78, v79, v80, v81, v82, v83, v84, v85, v86, v87, v88, v89, v90, v91, v92, v93, v94, v95, v96, .agg #[.int .i64 M, .slice A n c], .int .i64 most, .agg #[.string ⟨fa.toArray⟩, .string ⟨fb.toArray⟩], v100, .slice A1 n1 c1, v102, v103, v104, v105, v106, v107, v108, v109, v110, v111, v112, v113, v114, v115, v116, v117, v118, v119, v120, v121, v122, v123, v124, v125, v126, v127, v128, v129, v130, v131, v132, v133, v134, v135, v136, v137, v138, v139, v140, v141, v142, v143, v144, v145, v146, v147, v148, v149, v150, v151, v152], defers := [] } w := by
  subst hl
  refine wpAnyH_ready (rs := [3, 10]) (by as_aux_lemma => kernel_rfl) (by simp) ?_
  refine AllReadyH.cons (getOf (i := 3) rfl) (fun K' hK => ?_) ?_
  ·
    go_simp
    go_at_call 13
    refine (u_Field fa fb 0 w K hRW hMV hfa hfb).mono ?_
    rintro e w2 ⟨A0, c0, rfl, ho, hb⟩
    obtain ⟨lb, hl1, K2⟩ := bbox_hand (gs := (gs)) K hb ho B.size
    have B2 := below_step B hb
    refine hK.out _ _ (and_assoc.1 ⟨cells2_row (K2.g _ (List.mem_append_left _ h3)), cells2_row (K2.g _ (List.mem_append_left _ h4))⟩) (fun hH => ?_)
    clear hK K'
    try simp only [Act.put, List.setIfInBounds_toArray, List.set_cons_zero, List.set_cons_succ]
    exact s11_10 hST hRW hMV h_xs hN_xs hF h3 h4 h_a hN_a hla hna hfa hfb hlf HV hR hl1 _ (by kernel_rfl) K2 B2
  refine AllReadyH.cons (getOf (i := 10) rfl) (fun K' hK => ?_) ?_
  ·
    go_simp
    have K2 := K.boxg 29 #[.slice none 0 0, .bool false, .int .i64 0, .slice none 0 0] w.heap.size rfl
    have B2 := B.alloc B.size (.cells #[.slice none 0 0, .bool false, .int .i64 0, .slice none 0 0] 29)
    have leX := B.size
    refine hK.out _ _ (and_assoc.1 ⟨cells2_row (K2.g _ (List.mem_cons_of_mem _ (h3))), cells2_row (K2.g _ (List.mem_cons_of_mem _ (h4)))⟩) (fun hH => ?_)
    clear hK K'
    try simp only [Act.put, List.setIfInBounds_toArray, List.set_cons_zero, List.set_cons_succ]
    exact s11_01 hST hRW hMV h_xs hN_xs hF h3 h4 h_a hN_a hla hna hfa hfb hlf HV hR leX _ (by kernel_rfl) K2 B2
  exact AllReadyH.nil
end
set_option maxRecDepth 100000 in
set_option maxHeartbeats 4000000 in
theorem s11_region {w : World} {fs : List Fact} {gs : List Bx} {M most : Int} {A A1 : Option Addr} {n c n1 c1 gT gF : Nat} {xs : List Fd} {a fa fb : List UInt8} {E : Int} {nl : Nat} {L : List Fd} {G : Bool} {N : Int} {nt : Nat} {X : List Fd} {v0 v2 v3 v4 v6 v7 v8 v10 v12 v13 v14 v15 v16 v17 v18 v19 v20 v21 v22 v23 v24 v25 v26 v27 v28 v29 v30 v31 v32 v33 v34 v35 v36 v37 v38 v39 v40 v41 v42 v43 v44 v45 v46 v47 v48 v49 v50 v51 v52 v53 v54 v55 v56 v57 v58 v59 v60 v61 v62 v63 v64 v65 v66 v67 v68 v69 v70 v71 v72 v73 v74 v75 v76 v77 v78 v79 v80 v81 v82 v83 v84 v85 v86 v87 v88 v89 v90 v91 v92 v93 v94 v95 v96 v97 v98 v99 v100 v101 v102 v103 v104 v105 v106 v107 v108 v109 v110 v111 v112 v113 v114 v115 v116 v117 v118 v119 v120 v121 v122 v123 v124 v125 v126 v127 v128 v129 v130 v131 v132 v133 v134 v135 v136 v137 v138 v139 v140 v141 v142 v143 v144 v145 v146 v147 v148 v149 v150 v151 v152 : Value} {KK : Act → World → Prop} {Q : Exit → Act → World → Prop} (hST : stF ∈ fs) (hRW : rwF ∈ fs) (hMV : mvF ∈ fs) (h_xs : fF A n xs ∈ fs) (hN_xs : A = none → c = 0) (hF : full xs ≤ 20000) (h3 : (gT, #[.int .i64 M, .slice A n c], 24) ∈ gs) (h4 : (gF, #[.string ⟨fa.toArray⟩, .string ⟨fb.toArray⟩], 38) ∈ gs) (h_a : bF A1 n1 a ∈ fs) (hN_a : A1 = none → c1 = 0) (hla : a.length ≤ 4000) (hna : n1 ≤ 4000) (hfa : fa.length ≤ 10000) (hfb : fb.length ≤ 10000) (hlf : (fldL fa fb 0).length ≤ 6000) (HV : BK M most xs (fldL fa fb 0 ++ a) E nl L G N nt X) (hR : ∀ (gX : Nat) (LL TT : Option Addr) (cl tc : Nat) (u100 u102 : Value) (w' : World), EnvF w' (fF LL nl L :: fF TT nt X :: fs) ((gX, #[.slice LL nl cl, .bool G, .int .i64 N, .slice TT nt tc], 29) :: (gs)) → (LL = none → cl = 0) → (TT = none → tc = 0) → Below w.drew.heap.size w.drew w' → KK { tmps := #[v0, .int .i64 most, v2, v3, v4, .pointer (some ⟨gT, 0, none⟩), v6, v7, v8, .pointer (some ⟨gF, 0, none⟩), v10, .slice A1 n1 c1, v12, v13, v14, v15, v16, v17, .pointer (some ⟨gX, 0, none⟩), .int .i64 E, v20, v21, v22, v23, v24, v25, v26, v27, v28, v29, v30, v31, v32, v33, v34, v35, v36, v37, v38, v39, v40, v41, v42, v43, v44, v45, v46, v47, v48, v49, v50, v51, v52, v53, v54, v55, v56, v57, v58, v59, v60, v61, v62, v63, v64, v65, v66, v67, v68, v69, v70, v71, v72, v73, v74, v75, v76, v77, v78, v79, v80, v81, v82, v83, v84, v85, v86, v87, v88, v89, v90, v91, v92, v93, v94, v95, .tuple #[.agg #[.slice LL nl cl, .bool G, .int .i64 N, .slice TT nt tc], .int .i64 E], .agg #[.int .i64 M, .slice A n c], .int .i64 most, .agg #[.string ⟨fa.toArray⟩, .string ⟨fb.toArray⟩], u100, .slice A1 n1 c1, u102, .tuple #[.agg #[.slice LL nl cl, .bool G, .int .i64 N, .slice TT nt tc], .int .i64 E], .agg #[.slice LL nl cl, .bool G, .int .i64 N, .slice TT nt tc], .int .i64 E, v106, v107, v108, v109, v110, v111, v112, v113, v114, v115, v116, v117, v118, v119, v120, v121, v122, v123, v124, v125, v126, v127, v128, v129, v130, v131, v132, v133, v134, v135, v136, v137, v138, v139, v140, v141, v142, v143, v144, v145, v146, v147, v148, v149, v150, v151, v152], defers := [] } w') (K : EnvF w fs gs) :
    (Code.region 11 s11ops.toArray true).wp Tryd.prog (Exit.then KK Q) { tmps := #[v0, .int .i64 most, v2, v3, v4, .pointer (some ⟨gT, 0, none⟩), v6, v7, v8, .pointer (some ⟨gF, 0, none⟩), v10, .slice A1 n1 c1, v12, v13, v14, v15, v16, v17, v18, v19, v20, v21, v22, v23, v24, v25, v26, v27, v28, v29, v30, v31, v32, v33, v34, v35, v36, v37, v38, v39, v40, v41, v42, v43, v44, v45, v46, v47, v48, v49, v50, v51, v52, v53, v54, v55, v56, v57, v58, v59, v60, v61, v62, v63, v64, v65, v66, v67, v68, v69, v70, v71, v72, v73, v74, v75, v76, v77, v78, v79, v80, v81, v82, v83, v84, v85, v86, v87, v88, v89, v90, v91, v92, v93, v94, v95, v96, v97, v98, v99, v100, v101, v102, v103, v104, v105, v106, v107, v108, v109, v110, v111, v112, v113, v114, v115, v116, v117, v118, v119, v120, v121, v122, v123, v124, v125, v126, v127, v128, v129, v130, v131, v132, v133, v134, v135, v136, v137, v138, v139, v140, v141, v142, v143, v144, v145, v146, v147, v148, v149, v150, v151, v152], defers := [] } w := by
  refine Code.wp_mono (Q := Exit.then KK fun _ _ _ => False) (fun e a w h => by cases e <;> first | exact h | exact h.elim) ?_
  refine wp_region_held_drew (S := (fun W' => W'.cell? ⟨gT, 0, none⟩ = some (.int .i64 M) ∧ W'.cell? ⟨gT, 1, none⟩ = some (.slice A n c) ∧ W'.cell? ⟨gF, 0, none⟩ = some (.string ⟨fa.toArray⟩) ∧ W'.cell? ⟨gF, 1, none⟩ = some (.string ⟨fb.toArray⟩))) (by kernel_rfl) (and_assoc.1 ⟨cells2_row (K.drew.g _ (h3)), cells2_row (K.drew.g _ (h4))⟩) (fun hH => ?_)
  refine takeD (i := 0) (v := ?_) rfl (by as_aux_lemma => kernel_rfl) (by as_aux_lemma => kernel_rfl) (by as_aux_lemma => kernel_rfl) (fun _ _ _ h => h) (Or.inl ⟨by rfl, ?_⟩) hH ?_
  rotate_left
  · intro w hSw; (try dsimp only at hSw); go_simp <;> with_reducible rfl
  try simp only [Act.put, List.setIfInBounds_toArray, List.set_cons_zero, List.set_cons_succ]
  refine takeD (i := 1) (v := ?_) rfl (by as_aux_lemma => kernel_rfl) (by as_aux_lemma => kernel_rfl) (by as_aux_lemma => kernel_rfl) (fun _ _ _ h => h) (Or.inl ⟨by rfl, ?_⟩) hH ?_
  rotate_left
  · intro w hSw; (try dsimp only at hSw); go_simp <;> with_reducible rfl
  try simp only [Act.put, List.setIfInBounds_toArray, List.set_cons_zero, List.set_cons_succ]
  refine takeD (i := 2) (v := ?_) rfl (by as_aux_lemma => kernel_rfl) (by as_aux_lemma => kernel_rfl) (by as_aux_lemma => kernel_rfl) (fun _ _ _ h => h) (Or.inl ⟨by rfl, ?_⟩) hH ?_
  rotate_left
  · intro w hSw; (try dsimp only at hSw); go_simp <;> with_reducible rfl
  try simp only [Act.put, List.setIfInBounds_toArray, List.set_cons_zero, List.set_cons_succ]
  refine takeD (i := 4) (v := ?_) rfl (by as_aux_lemma => kernel_rfl) (by as_aux_lemma => kernel_rfl) (by as_aux_lemma => kernel_rfl) (fun _ _ _ h => h) (Or.inl ⟨by rfl, ?_⟩) hH ?_
  rotate_left
  · intro w hSw; (try dsimp only at hSw); go_simp <;> with_reducible rfl
  try simp only [Act.put, List.setIfInBounds_toArray, List.set_cons_zero, List.set_cons_succ]
  exact s11_00 hST hRW hMV h_xs hN_xs hF h3 h4 h_a hN_a hla hna hfa hfb hlf HV hR _ (by kernel_rfl) K.drew (Below.refl _ _)
end Go.Proofs.YtfejohfplnbdkaaDoor
