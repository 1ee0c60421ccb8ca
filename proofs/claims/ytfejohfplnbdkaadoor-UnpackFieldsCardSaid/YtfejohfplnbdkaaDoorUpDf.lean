/- The laws of layer 10: their regions that draw their order. -/
import Derived.Test.YtfejohfplnbdkaaDoorUpBx
namespace Go.Proofs.YtfejohfplnbdkaaDoor
open Go.RowKit Go.Shelf Px Tx Tb Up GD
set_option linter.unusedVariables false
set_option linter.unusedSimpArgs false
set_option linter.unusedSectionVars false
noncomputable def f3ops : List Oper := opsOf 3 (Tryd.f4.body.getD .skip)
section
variable {w0 : World} {fs : List Fact} {gs : List Bx} {M way : Int} {A : Option Addr} {n c gT gF : Nat} {xs : List Fd} {fa fb : List UInt8} {E : Int} {nl : Nat} {L : List Fd} {G : Bool} {N : Int} {nt : Nat} {X : List Fd} {v0 v1 v3 v6 v7 v8 v9 v10 v11 v12 v13 v14 v15 v16 v17 v18 v19 v20 v21 v22 v23 v24 v25 v26 v27 v28 v29 v30 v31 v32 v33 v34 v35 v36 v37 v38 v39 v40 v41 v42 v43 v49 v50 v51 v52 v53 v54 v55 v56 v57 v58 v59 v60 v61 v62 v63 v64 v65 v66 v67 v68 v69 v70 v71 v72 v73 v74 v75 v76 v77 v78 v79 v80 v81 v82 v83 v84 v85 v86 v87 v88 v89 v90 v91 v92 v93 v94 v95 v96 v97 v98 v99 v100 v101 v102 v103 v104 v105 v106 v107 v108 v109 v110 v111 v112 v113 v114 v115 v116 v117 v118 v119 v120 v121 v122 v123 v124 v125 v126 v127 v128 v129 v130 v131 v132 v133 v134 v135 v136 v137 v138 v139 v140 v141 v142 v143 v144 v145 v146 v147 v148 v149 v150 v151 v152 v153 v154 v155 v156 v157 v158 v159 v160 v161 v162 v163 v164 v165 v166 v167 v168 v169 v170 v171 v172 v173 v174 v175 v176 v177 v178 v179 v180 v181 v182 v183 v184 v185 v186 v187 v188 v189 v190 v191 v192 : Value} {KK : Act → World → Prop} (hST : stF ∈ fs) (hRW : rwF ∈ fs) (hMV : mvF ∈ fs) (h_xs : fF A n xs ∈ fs) (hN_xs : A = none → c = 0) (hF : full xs ≤ 20000) (h3 : (gT, #[.int .i64 M, .slice A n c], 24) ∈ gs) (h4 : (gF, #[.string ⟨fa.toArray⟩, .string ⟨fb.toArray⟩], 38) ∈ gs) (hfa : fa.length ≤ 10000) (hfb : fb.length ≤ 10000) (hlf : (fldL fa fb way).length ≤ 6000) (HV : BK M M xs (fldL fa fb way) E nl L G N nt X) (hR : ∀ (gX : Nat) (LL TT : Option Addr) (cl tc : Nat) (u49 : Value) (w : World), EnvF w (fF LL nl L :: fF TT nt X :: fs) ((gX, #[.slice LL nl cl, .bool G, .int .i64 N, .slice TT nt tc], 29) :: (gs)) → (LL = none → cl = 0) → (TT = none → tc = 0) → Below w0.heap.size w0 w → KK { tmps := #[v0, v1, .int .i64 way, v3, .pointer (some ⟨gT, 0, none⟩), .pointer (some ⟨gF, 0, none⟩), v6, v7, v8, .pointer (some ⟨gX, 0, none⟩), .int .i64 E, v11, v12, v13, v14, v15, v16, v17, v18, v19, v20, v21, v22, v23, v24, v25, v26, v27, v28, v29, v30, v31, v32, v33, v34, v35, v36, v37, v38, v39, v40, v41, v42, .tuple #[.agg #[.slice LL nl cl, .bool G, .int .i64 N, .slice TT nt tc], .int .i64 E], .agg #[.int .i64 M, .slice A n c], .pointer (some ⟨gT, 0, none⟩), .int .i64 M, .agg #[.string ⟨fa.toArray⟩, .string ⟨fb.toArray⟩], .int .i64 way, u49, .tuple #[.agg #[.slice LL nl cl, .bool G, .int .i64 N, .slice TT nt tc], .int .i64 E], .agg #[.slice LL nl cl, .bool G, .int .i64 N, .slice TT nt tc], .int .i64 E, v53, v54, v55, v56, v57, v58, v59, v60, v61, v62, v63, v64, v65, v66, v67, v68, v69, v70, v71, v72, v73, v74, v75, v76, v77, v78, v79, v80, v81, v82, v83, v84, v85, v86, v87, v88, v89, v90, v91, v92, v93, v94, v95, v96, v97, v98, v99, v100, v101, v102, v103, v104, v105, v106, v107, v108, v109, v110, v111, v112, v113, v114, v115, v116, v117, v118, v119, v120, v121, v122, v123, v124, v125, v126, v127, v128, v129, v130, v131, v132, v133, v134, v135, v136, v137, v138, v139, v140, v141, v142, v143, v144, v145, v146, v147, v148, v149, v150, v151, v152, v153, v154, v155, v156, v157, v158, v159, v160, v161, v162, v163, v164, v165, v166, v167, v168, v169, v170, v171, v172, v173, v174, v175, v176, v177, v178, v179, v180, v181, v182, v183, v184, v185, v186, v187, v188, v189, v190, v191, v192], defers := [] } w)
include hST hRW hMV h_xs hN_xs hF h3 h4 hfa hfb hlf HV hR
set_option maxRecDepth 100000 in
set_option maxHeartbeats 4000000 in
theorem f3_21 {gX : Nat} {LL TT : Option Addr} {cl tc : Nat}  (leX : w0.heap.size ≤ gX) (hcl : LL = none → cl = 0) (htc : TT = none → tc = 0) {w : World} (ls : Array Bool) (hl : ls = #[true, true, true, true, true, true, true, true, true, true, true, false, false]) (K : EnvF w (fF LL nl L :: fF TT nt X :: fs) ((gX, #[.slice none 0 0, .bool false, .int .i64 0, .slice none 0 0], 29) :: (gs))) (B : Below w0.heap.size w0 w) :
    wpAnyH Tryd.prog .any f3ops.toArray (Exit.then KK fun _ _ _ => False) (fun W' => W'.cell? ⟨gT, 0, none⟩ = some (.int .i64 M) ∧ W'.cell? ⟨gT, 1, none⟩ = some (.slice A n c) ∧ W'.cell? ⟨gF, 0, none⟩ = some (.string ⟨fa.toArray⟩) ∧ W'.cell? ⟨gF, 1, none⟩ = some (.string ⟨fb.toArray⟩)) 2 ls { tmps := #[v0, v1, .int .i64 way, v3, .pointer (some ⟨gT, 0, none⟩), .pointer (some ⟨gF, 0, none⟩), v6, v7, v8, .pointer (some ⟨gX, 0, none⟩), v10, v11, v12, v13, v14, v15, v16, v17, v18, v19, v20, v21, v22, v23, v24, v25, v26, v27, v28, v29, v30, v31, v32, v33, v34, v35, v36, v37, v38, v39, v40, v41, v42, .tuple #[.agg #[.slice LL nl cl, .bool G, .int .i64 N, .slice TT nt tc], .int .i64 E], .agg #[.int .i64 M, .slice A n c], .pointer (some ⟨gT, 0, none⟩), .int .i64 M, .agg #[.string ⟨fa.toArray⟩, .string ⟨fb.toArray⟩], .int .i64 way, v49, .tuple #[.agg #[.slice LL nl cl, .bool G, .int .i64 N, .slice TT nt tc], .int .i64 E], .agg #[.slice LL nl cl, .bool G, .int .i64 N, .slice TT nt tc], .int .i64 E, v53, v54, v55, v56, v57, v58, v59, v60, v61, v62, v63, v64, v65, v66, v67, v68, v69, v70, v71, v72, v73, v74, v75, v76, v77, v78, v79, v80, v81, v82, v83, v84, v85, v86, v87, v88, v89, v90, v91, v92, v93, v94, v95, v96, v97, v98, v99, v100, v101, v102, v103, v104, v105, v106, v107, v108, v109, v110, v111, v112, v113, v114, v115, v116, v117, v118, v119, v120, v121, v122, v123, v124, v125, v126, v127, v128, v129, v130, v131, v132, v133, v134, v135, v136, v137, v138, v139, v140, v141, v142, v143, v144, v145, v146, v147, v148, v149, v150, v151, v152, v153, v154, v155, v156, v157, v158, v159, v160, v161, v162, v163, v164, v165, v166, v167, v168, v169, v170, v171, v172, v173, v174, v175, v176, v177, v178, v179, v180, v181, v182, v183, v184, v185, v186, v187, v188, v189, v190, v191, v192], defers := [] } w := by
  subst hl
  refine readyD (i := 11) rfl (by as_aux_lemma => kernel_rfl) (fun K' hK => ?_)
  refine step_put (by rfl) 29 (.tmp 9) (.tmp 51) (by rfl) gX 0 (.agg #[.slice LL nl cl, .bool G, .int .i64 N, .slice TT nt tc]) (by rfl) (by rfl) 29 #[.slice none 0 0, .bool false, .int .i64 0, .slice none 0 0] #[.slice LL nl cl, .bool G, .int .i64 N, .slice TT nt tc] (K.row 0 rfl) (by simp [Value.cells]) (by kernel_rfl) infoc_U (by kernel_rfl) ?_
  intro w1 c1' c2' c3' c4'
  have K1 := K.turn 0 rfl c1' c2' c3'
  have B1 := c4' _ _ leX B
  refine hK.out _ _ (and_assoc.1 ⟨cells2_row (K1.g _ (List.mem_cons_of_mem _ (h3))), cells2_row (K1.g _ (List.mem_cons_of_mem _ (h4)))⟩) (fun hH => ?_)
  clear hK K'
  try simp only [Act.put, List.setIfInBounds_toArray, List.set_cons_zero, List.set_cons_succ]
  refine takeD (i := 12) (v := ?_) rfl (by as_aux_lemma => kernel_rfl) (by as_aux_lemma => kernel_rfl) (by as_aux_lemma => kernel_rfl) (fun _ _ _ h => h) (Or.inl ⟨by rfl, ?_⟩) hH ?_
  rotate_left
  · intro w hSw; (try dsimp only at hSw); go_simp <;> with_reducible rfl
  try simp only [Act.put, List.setIfInBounds_toArray, List.set_cons_zero, List.set_cons_succ]
  refine wpAnyH_done (by as_aux_lemma => kernel_rfl) ?_ _
  exact hR _ _ _ _ _ _ _ K1 hcl htc B1
set_option maxRecDepth 100000 in
set_option maxHeartbeats 4000000 in
theorem f3_20 {LL TT : Option Addr} {cl tc : Nat}  (hcl : LL = none → cl = 0) (htc : TT = none → tc = 0) {w : World} (ls : Array Bool) (hl : ls = #[true, true, true, true, true, true, true, true, true, true, false, false, false]) (K : EnvF w (fF LL nl L :: fF TT nt X :: fs) (gs)) (B : Below w0.heap.size w0 w) :
    wpAnyH Tryd.prog .any f3ops.toArray (Exit.then KK fun _ _ _ => False) (fun W' => W'.cell? ⟨gT, 0, none⟩ = some (.int .i64 M) ∧ W'.cell? ⟨gT, 1, none⟩ = some (.slice A n c) ∧ W'.cell? ⟨gF, 0, none⟩ = some (.string ⟨fa.toArray⟩) ∧ W'.cell? ⟨gF, 1, none⟩ = some (.string ⟨fb.toArray⟩)) 3 ls { tmps := #[v0, v1, .int .i64 way, v3, .pointer (some ⟨gT, 0, none⟩), .pointer (some ⟨gF, 0, none⟩), v6, v7, v8, v9, v10, v11, v12, v13, v14, v15, v16, v17, v18, v19, v20, v21, v22, v23, v24, v25, v26, v27, v28, v29, v30, v31, v32, v33, v34, v35, v36, v37, v38, v39, v40, v41, v42, .tuple #[.agg #[.slice LL nl cl, .bool G, .int .i64 N, .slice TT nt tc], .int .i64 E], .agg #[.int .i64 M, .slice A n c], .pointer (some ⟨gT, 0, none⟩), .int .i64 M, .agg #[.string ⟨fa.toArray⟩, .string ⟨fb.toArray⟩], .int .i64 way, v49, .tuple #[.agg #[.slice LL nl cl, .bool G, .int .i64 N, .slice TT nt tc], .int .i64 E], .agg #[.slice LL nl cl, .bool G, .int .i64 N, .slice TT nt tc], .int .i64 E, v53, v54, v55, v56, v57, v58, v59, v60, v61, v62, v63, v64, v65, v66, v67, v68, v69, v70, v71, v72, v73, v74, v75, v76, v77, v78, v79, v80, v81, v82, v83, v84, v85, v86, v87, v88, v89, v90, v91, v92, v93, v94, v95, v96, v97, v98, v99, v100, v101, v102, v103, v104, v105, v106, v107, v108, v109, v110, v111, v112, v113, v114, v115, v116, v117, v118, v119, v120, v121, v122, v123, v124, v125, v126, v127, v128, v129, v130, v131, v132, v133, v134, v135, v136, v137, v138, v139, v140, v141, v142, v143, v144, v145, v146, v147, v148, v149, v150, v151, v152, v153, v154, v155, v156, v157, v158, v159, v160, v161, v162, v163, v164, v165, v166, v167, v168, v169, v170, v171, v172, v173, v174, v175, v176, v177, v178, v179, v180, v181, v182, v183, v184, v185, v186, v187, v188, v189, v190, v191, v192], defers := [] } w := by
  subst hl
  refine wpAnyH_ready (rs := [10]) (by as_aux_lemma => kernel_rfl) (by simp) ?_
  refine AllReadyH.cons (getOf (i := 10) rfl) (fun K' hK => ?_) ?_
  ·
    go_simp
    have K2 := K.boxg 29 #[.slice none 0 0, .bool false, .int .i64 0, .slice none 0 0] w.heap.size rfl
    have B2 := B.alloc B.size (.cells #[.slice none 0 0, .bool false, .int .i64 0, .slice none 0 0] 29)
    have leX := B.size
    refine hK.out _ _ (and_assoc.1 ⟨cells2_row (K2.g _ (List.mem_cons_of_mem _ (h3))), cells2_row (K2.g _ (List.mem_cons_of_mem _ (h4)))⟩) (fun hH => ?_)
    clear hK K'
    try simp only [Act.put, List.setIfInBounds_toArray, List.set_cons_zero, List.set_cons_succ]
    exact f3_21 hST hRW hMV h_xs hN_xs hF h3 h4 hfa hfb hlf HV hR leX hcl htc _ (by kernel_rfl) K2 B2
  exact AllReadyH.nil
set_option maxRecDepth 100000 in
set_option maxHeartbeats 4000000 in
theorem f3_11 {gX : Nat} {V : Value} {lb : List Bx}  (leX : w0.heap.size ≤ gX) (hl1 : BBox w0.heap.size V (fldL fa fb way) lb) {w : World} (ls : Array Bool) (hl : ls = #[true, true, true, true, true, true, false, false, false, false, true, false, false]) (K : EnvF w fs ((gX, #[.slice none 0 0, .bool false, .int .i64 0, .slice none 0 0], 29) :: (gs ++ lb))) (B : Below w0.heap.size w0 w) :
    wpAnyH Tryd.prog .any f3ops.toArray (Exit.then KK fun _ _ _ => False) (fun W' => W'.cell? ⟨gT, 0, none⟩ = some (.int .i64 M) ∧ W'.cell? ⟨gT, 1, none⟩ = some (.slice A n c) ∧ W'.cell? ⟨gF, 0, none⟩ = some (.string ⟨fa.toArray⟩) ∧ W'.cell? ⟨gF, 1, none⟩ = some (.string ⟨fb.toArray⟩)) 6 ls { tmps := #[v0, v1, .int .i64 way, v3, .pointer (some ⟨gT, 0, none⟩), .pointer (some ⟨gF, 0, none⟩), v6, v7, v8, .pointer (some ⟨gX, 0, none⟩), v10, v11, v12, v13, v14, v15, v16, v17, v18, v19, v20, v21, v22, v23, v24, v25, v26, v27, v28, v29, v30, v31, v32, v33, v34, v35, v36, v37, v38, v39, v40, v41, v42, v43, .agg #[.int .i64 M, .slice A n c], .pointer (some ⟨gT, 0, none⟩), .int .i64 M, .agg #[.string ⟨fa.toArray⟩, .string ⟨fb.toArray⟩], .int .i64 way, V, v50, v51, v52, v53, v54, v55, v56, v57, v58, v59, v60, v61, v62, v63, v64, v65, v66, v67, v68, v69, v70, v71, v72, v73, v74, v75, v76, v77, v78, v79, v80, v81, v82, v83, v84, v85, v86, v87, v88, v89, v90, v91, v92, v93, v94, v95, v96, v97, v98, v99, v100, v101, v102, v103, v104, v105, v106, v107, v108, v109, v110, v111, v112, v113, v114, v115, v116, v117, v118, v119, v120, v121, v122, v123, v124, v125, v126, v127, v128, v129, v130, v131, v132, v133, v134, v135, v136, v137, v138, v139, v140, v141, v142, v143, v144, v145, v146, v147, v148, v149, v150, v151, v152, v153, v154, v155, v156, v157, v158, v159, v160, v161, v162, v163, v164, v165, v166, v167, v168, v169, v170, v171, v172, v173, v174, v175, v176, v177, v178, v179, v180, v181, v182, v183, v184, v185, v186, v187, v188, v189, v190, v191, v192], defers := [] } w := by
  subst hl
  refine wpAnyH_ready (rs := [6]) (by as_aux_lemma => kernel_rfl) (by simp) ?_
  refine AllReadyH.cons (getOf (i := 6) rfl) (fun K' hK => ?_) ?_
  ·
    obtain ⟨A3, n3, c3, rfl, hn3, h31, h32⟩ := hl1.form2 (gs := ((gX, #[.slice none 0 0, .bool false, .int .i64 0, .slice none 0 0], 29) :: (gs))) K
    have K1 := bbox_fact (gs := ((gX, #[.slice none 0 0, .bool false, .int .i64 0, .slice none 0 0], 29) :: (gs))) K hl1 hn3
    have hn3' : n3 ≤ 10000 := by rw [← hn3]; omega
    clear hn3
    go_simp
    go_at_call 9
    refine (b_call w HV K1 (List.mem_cons_self ..) h31 h32 (List.mem_cons_of_mem _ h_xs) hN_xs (List.mem_cons_of_mem _ hST) (List.mem_cons_of_mem _ hRW) (List.mem_cons_of_mem _ hMV) hF hn3').mono ?_
    rintro e w2 ⟨LL, cl, TT, tc, rfl, hb, hE, hcl, htc⟩
    have K2 := Up.EnvF.drop3 hE
    have B2 := below_step B hb
    refine hK.out _ _ (and_assoc.1 ⟨cells2_row (K2.g _ (List.mem_cons_of_mem _ (h3))), cells2_row (K2.g _ (List.mem_cons_of_mem _ (h4)))⟩) (fun hH => ?_)
    clear hK K'
    try simp only [Act.put, List.setIfInBounds_toArray, List.set_cons_zero, List.set_cons_succ]
    refine takeD (i := 7) (v := ?_) rfl (by as_aux_lemma => kernel_rfl) (by as_aux_lemma => kernel_rfl) (by as_aux_lemma => kernel_rfl) (fun _ _ _ h => h) (Or.inl ⟨by rfl, ?_⟩) hH ?_
    rotate_left
    · intro w hSw; (try dsimp only at hSw); go_simp <;> with_reducible rfl
    try simp only [Act.put, List.setIfInBounds_toArray, List.set_cons_zero, List.set_cons_succ]
    refine takeD (i := 8) (v := ?_) rfl (by as_aux_lemma => kernel_rfl) (by as_aux_lemma => kernel_rfl) (by as_aux_lemma => kernel_rfl) (fun _ _ _ h => h) (Or.inl ⟨by rfl, ?_⟩) hH ?_
    rotate_left
    · intro w hSw; (try dsimp only at hSw); go_simp <;> with_reducible rfl
    try simp only [Act.put, List.setIfInBounds_toArray, List.set_cons_zero, List.set_cons_succ]
    refine takeD (i := 9) (v := ?_) rfl (by as_aux_lemma => kernel_rfl) (by as_aux_lemma => kernel_rfl) (by as_aux_lemma => kernel_rfl) (fun _ _ _ h => h) (Or.inl ⟨by rfl, ?_⟩) hH ?_
    rotate_left
    · intro w hSw; (try dsimp only at hSw); go_simp <;> with_reducible rfl
    try simp only [Act.put, List.setIfInBounds_toArray, List.set_cons_zero, List.set_cons_succ]
    exact f3_21 hST hRW hMV h_xs hN_xs hF h3 h4 hfa hfb hlf HV hR leX hcl htc _ (by kernel_rfl) K2 B2
  exact AllReadyH.nil
set_option maxRecDepth 100000 in
set_option maxHeartbeats 4000000 in
theorem f3_10 {V : Value} {lb : List Bx}  (hl1 : BBox w0.heap.size V (fldL fa fb way) lb) {w : World} (ls : Array Bool) (hl : ls = #[true, true, true, true, true, true, false, false, false, false, false, false, false]) (K : EnvF w fs (gs ++ lb)) (B : Below w0.heap.size w0 w) :
    wpAnyH Tryd.prog .any f3ops.toArray (Exit.then KK fun _ _ _ => False) (fun W' => W'.cell? ⟨gT, 0, none⟩ = some (.int .i64 M) ∧ W'.cell? ⟨gT, 1, none⟩ = some (.slice A n c) ∧ W'.cell? ⟨gF, 0, none⟩ = some (.string ⟨fa.toArray⟩) ∧ W'.cell? ⟨gF, 1, none⟩ = some (.string ⟨fb.toArray⟩)) 7 ls { tmps := #[v0, v1, .int .i64 way, v3, .pointer (some ⟨gT, 0, none⟩), .pointer (some ⟨gF, 0, none⟩), v6, v7, v8, v9, v10, v11, v12, v13, v14, v15, v16, v17, v18, v19, v20, v21, v22, v23, v24, v25, v26, v27, v28, v29, v30, v31, v32, v33, v34, v35, v36, v37, v38, v39, v40, v41, v42, v43, .agg #[.int .i64 M, .slice A n c], .pointer (some ⟨gT, 0, none⟩), .int .i64 M, .agg #[.string ⟨fa.toArray⟩, .string ⟨fb.toArray⟩], .int .i64 way, V, v50, v51, v52, v53, v54, v55, v56, v57, v58, v59, v60, v61, v62, v63, v64, v65, v66, v67, v68, v69, v70, v71, v72, v73, v74, v75, v76, v77, v78, v79, v80, v81, v82, v83, v84, v85, v86, v87, v88, v89, v90, v91, v92, v93, v94, v95, v96, v97, v98, v99, v100, v101, v102, v103, v104, v105, v106, v107, v108, v109, v110, v111, v112, v113, v114, v115, v116, v117, v118, v119, v120, v121, v122, v123, v124, v125, v126, v127, v128, v129, v130, v131, v132, v133, v134, v135, v136, v137, v138, v139, v140, v141, v142, v143, v144, v145, v146, v147, v148, v149, v150, v151, v152, v153, v154, v155, v156, v157, v158, v159, v160, v161, v162, v163, v164, v165, v166, v167, v168, v169, v170, v171, v172, v173, v174, v175, v176, v177, v178, v179, v180, v181, v182, v183, v184, v185, v186, v187, v188, v189, v190, v191, v192], defers := [] } w := by
  subst hl
  refine wpAnyH_ready (rs := [6, 10]) (by as_aux_lemma => kernel_rfl) (by simp) ?_
  refine AllReadyH.cons (getOf (i := 6) rfl) (fun K' hK => ?_) ?_
  ·
    obtain ⟨A3, n3, c3, rfl, hn3, h31, h32⟩ := hl1.form2 (gs := (gs)) K
    have K1 := bbox_fact (gs := (gs)) K hl1 hn3
    have hn3' : n3 ≤ 10000 := by rw [← hn3]; omega
    clear hn3
    go_simp
    go_at_call 9
    refine (b_call w HV K1 (List.mem_cons_self ..) h31 h32 (List.mem_cons_of_mem _ h_xs) hN_xs (List.mem_cons_of_mem _ hST) (List.mem_cons_of_mem _ hRW) (List.mem_cons_of_mem _ hMV) hF hn3').mono ?_
    rintro e w2 ⟨LL, cl, TT, tc, rfl, hb, hE, hcl, htc⟩
    have K2 := Up.EnvF.drop3 hE
    have B2 := below_step B hb
    refine hK.out _ _ (and_assoc.1 ⟨cells2_row (K2.g _ (h3)), cells2_row (K2.g _ (h4))⟩) (fun hH => ?_)
    clear hK K'
    try simp only [Act.put, List.setIfInBounds_toArray, List.set_cons_zero, List.set_cons_succ]
    refine takeD (i := 7) (v := ?_) rfl (by as_aux_lemma => kernel_rfl) (by as_aux_lemma => kernel_rfl) (by as_aux_lemma => kernel_rfl) (fun _ _ _ h => h) (Or.inl ⟨by rfl, ?_⟩) hH ?_
    rotate_left
    · intro w hSw; (try dsimp only at hSw); go_simp <;> with_reducible rfl
    try simp only [Act.put, List.setIfInBounds_toArray, List.set_cons_zero, List.set_cons_succ]
    refine takeD (i := 8) (v := ?_) rfl (by as_aux_lemma => kernel_rfl) (by as_aux_lemma => kernel_rfl) (by as_aux_lemma => kernel_rfl) (fun _ _ _ h => h) (Or.inl ⟨by rfl, ?_⟩) hH ?_
    rotate_left
    · intro w hSw; (try dsimp only at hSw); go_simp <;> with_reducible rfl
    try simp only [Act.put, List.setIfInBounds_toArray, List.set_cons_zero, List.set_cons_succ]
    refine takeD (i := 9) (v := ?_) rfl (by as_aux_lemma => kernel_rfl) (by as_aux_lemma => kernel_rfl) (by as_aux_lemma => kernel_rfl) (fun _ _ _ h => h) (Or.inl ⟨by rfl, ?_⟩) hH ?_
    rotate_left
    · intro w hSw; (try dsimp only at hSw); go_simp <;> with_reducible rfl
    try simp only [Act.put, List.setIfInBounds_toArray, List.set_cons_zero, List.set_cons_succ]
    exact f3_20 hST hRW hMV h_xs hN_xs hF h3 h4 hfa hfb hlf HV hR hcl htc _ (by kernel_rfl) K2 B2
  refine AllReadyH.cons (getOf (i := 10) rfl) (fun K' hK => ?_) ?_
  ·
    go_simp
    have K2 := K.boxg 29 #[.slice none 0 0, .bool false, .int .i64 0, .slice none 0 0] w.heap.size rfl
    have B2 := B.alloc B.size (.cells #[.slice none 0 0, .bool false, .int .i64 0, .slice none 0 0] 29)
    have leX := B.size
    refine hK.out _ _ (and_assoc.1 ⟨cells2_row (K2.g _ (List.mem_cons_of_mem _ (List.mem_append_left _ h3))), cells2_row (K2.g _ (List.mem_cons_of_mem _ (List.mem_append_left _ h4)))⟩) (fun hH => ?_)
    clear hK K'
    try simp only [Act.put, List.setIfInBounds_toArray, List.set_cons_zero, List.set_cons_succ]
    exact f3_11 hST hRW hMV h_xs hN_xs hF h3 h4 hfa hfb hlf HV hR leX hl1 _ (by kernel_rfl) K2 B2
  exact AllReadyH.nil
set_option maxRecDepth 100000 in
set_option maxHeartbeats 4000000 in
theorem f3_01 {gX : Nat}  (leX : w0.heap.size ≤ gX) {w : World} (ls : Array Bool) (hl : ls = #[true, true, true, true, true, false, false, false, false, false, true, false, false]) (K : EnvF w fs ((gX, #[.slice none 0 0, .bool false, .int .i64 0, .slice none 0 0], 29) :: (gs))) (B : Below w0.heap.size w0 w) :
    wpAnyH Tryd.prog .any f3ops.toArray (Exit.then KK fun _ _ _ => False) (fun W' => W'.cell? ⟨gT, 0, none⟩ = some (.int .i64 M) ∧ W'.cell? ⟨gT, 1, none⟩ = some (.slice A n c) ∧ W'.cell? ⟨gF, 0, none⟩ = some (.string ⟨fa.toArray⟩) ∧ W'.cell? ⟨gF, 1, none⟩ = some (.string ⟨fb.toArray⟩)) 7 ls { tmps := #[v0, v1, .int .i64 way, v3, .pointer (some ⟨gT, 0, none⟩), .pointer (some ⟨gF, 0, none⟩), v6, v7, v8, .pointer (some ⟨gX, 0, none⟩), v10, v11, v12, v13, v14, v15, v16, v17, v18, v19, v20, v21, v22, v23, v24, v25, v26, v27, v28, v29, v30, v31, v32, v33, v34, v35, v36, v37, v38, v39, v40, v41, v42, v43, .agg #[.int .i64 M, .slice A n c], .pointer (some ⟨gT, 0, none⟩), .int .i64 M, .agg #[.string ⟨fa.toArray⟩, .string ⟨fb.toArray⟩], .int .i64 way, v49, v50, v51, v52, v53, v54, v55, v56, v57, v58, v59, v60, v61, v62, v63, v64, v65, v66, v67, v68, v69, v70, v71, v72, v73, v74, v75, v76, v77, v78, v79, v80, v81, v82, v83, v84, v85, v86, v87, v88, v89, v90, v91, v92, v93, v94, v95, v96, v97, v98, v99, v100, v101, v102, v103, v104, v105, v106, v107, v108, v109, v110, v111, v112, v113, v114, v115, v116, v117, v118, v119, v120, v121, v122, v123, v124, v125, v126, v127, v128, v129, v130, v131, v132, v133, v134, v135, v136, v137, v138, v139, v140, v141, v142, v143, v144, v145, v146, v147, v148, v149, v150, v151, v152, v153, v154, v155, v156, v157, v158, v159, v160, v161, v162, v163, v164, v165, v166, v167, v168, v169, v170, v171, v172, v173, v174, v175, v176, v177, v178, v179, v180, v181, v182, v183, v184, v185, v186, v187, v188, v189, v190, v191, v192], defers := [] } w := by
  subst hl
  refine wpAnyH_ready (rs := [5]) (by as_aux_lemma => kernel_rfl) (by simp) ?_
  refine AllReadyH.cons (getOf (i := 5) rfl) (fun K' hK => ?_) ?_
  ·
    go_simp
    go_at_call 13
    refine (u_Field fa fb way w K hRW hMV hfa hfb).mono ?_
    rintro e w2 ⟨A0, c0, rfl, ho, hb⟩
    obtain ⟨lb, hl1, K2⟩ := bbox_hand (gs := ((gX, #[.slice none 0 0, .bool false, .int .i64 0, .slice none 0 0], 29) :: (gs))) K hb ho B.size
    have B2 := below_step B hb
    refine hK.out _ _ (and_assoc.1 ⟨cells2_row (K2.g _ (List.mem_cons_of_mem _ (List.mem_append_left _ h3))), cells2_row (K2.g _ (List.mem_cons_of_mem _ (List.mem_append_left _ h4)))⟩) (fun hH => ?_)
    clear hK K'
    try simp only [Act.put, List.setIfInBounds_toArray, List.set_cons_zero, List.set_cons_succ]
    exact f3_11 hST hRW hMV h_xs hN_xs hF h3 h4 hfa hfb hlf HV hR leX hl1 _ (by kernel_rfl) K2 B2
  exact AllReadyH.nil
set_option maxRecDepth 100000 in
set_option maxHeartbeats 4000000 in
theorem f3_00  {w : World} (ls : Array Bool) (hl : ls = #[true, true, true, true, true, false, false, false, false, false, false, false, false]) (K : EnvF w fs (gs)) (B : Below w0.heap.size w0 w) :
    wpAnyH Tryd.prog .any f3ops.toArray (Exit.then KK fun _ _ _ => False) (fun W' => W'.cell? ⟨gT, 0, none⟩ = some (.int .i64 M) ∧ W'.cell? ⟨gT, 1, none⟩ = some (.slice A n c) ∧ W'.cell? ⟨gF, 0, none⟩ = some (.string ⟨fa.toArray⟩) ∧ W'.cell? ⟨gF, 1, none⟩ = some (.string ⟨fb.toArray⟩)) 8 ls { tmps := #[v0, v1, .int .i64 way, v3, .pointer (some ⟨gT, 0, none⟩), .pointer (some ⟨gF, 0, none⟩), v6, v7, v8, v9, v10, v11, v12, v13, v14, v15, v16, v17, v18, v19, v20, v21, v22, v23, v24, v25, v26, v27, v28, v29, v30, v31, v32, v33, v34, v35, v36, v37, v38, v39, v40, v41, v42, v43, .agg #[.int .i64 M, .slice A n c], .pointer (some ⟨gT, 0, none⟩), .int .i64 M, .agg #[.string ⟨fa.toArray⟩, .string ⟨fb.toArray⟩], .int .i64 way, v49, v50, v51, v52, v53, v54, v55, v56, v57, v58, v59, v60, v61, v62, v63, v64, v65, v66, v67, v68, v69, v70, v71, v72, v73, v74, v75, v76, v77, v78, v79, v80, v81, v82, v83, v84, v85, v86, v87, v88, v89, v90, v91, v92, v93, v94, v95, v96, v97, v98, v99, v100, v101, v102, v103, v104, v105, v106, v107, v108, v109, v110, v111, v112, v113, v114, v115, v116, v117, v118, v119, v120, v121, v122, v123, v124, v125, v126, v127, v128, v129, v130, v131, v132, v133, v134, v135, v136, v137, v138, v139, v140, v141, v142, v143, v144, v145, v146, v147, v148, v149, v150, v151, v152, v153, v154, v155, v156, v157, v158, v159, v160, v161, v162, v163, v164, v165, v166, v167, v168, v169, v170, v171, v172, v173, v174, v175, v176, v177, v178, v179, v180, v181, v182, v183, v184, v185, v186, v187, v188, v189, v190, v191, v192], defers := [] } w := by
  subst hl
  refine wpAnyH_ready (rs := [5, 10]) (by as_aux_lemma => kernel_rfl) (by simp) ?_
  refine AllReadyH.cons (getOf (i := 5) rfl) (fun K' hK => ?_) ?_
  ·
    go_simp
    go_at_call 13
    refine (u_Field fa fb way w K hRW hMV hfa hfb).mono ?_
    rintro e w2 ⟨A0, c0, rfl, ho, hb⟩
    obtain ⟨lb, hl1, K2⟩ := bbox_hand (gs := (gs)) K hb ho B.size
    have B2 := below_step B hb
    refine hK.out _ _ (and_assoc.1 ⟨cells2_row (K2.g _ (List.mem_append_left _ h3)), cells2_row (K2.g _ (List.mem_append_left _ h4))⟩) (fun hH => ?_)
    clear hK K'
    try simp only [Act.put, List.setIfInBounds_toArray, List.set_cons_zero, List.set_cons_succ]
    exact f3_10 hST hRW hMV h_xs hN_xs hF h3 h4 hfa hfb hlf HV hR hl1 _ (by kernel_rfl) K2 B2
  refine AllReadyH.cons (getOf (i := 10) rfl) (fun K' hK => ?_) ?_
  ·
    go_simp
    have K2 := K.boxg 29 #[.slice none 0 0, .bool false, .int .i64 0, .slice none 0 0] w.heap.size rfl
    have B2 := B.alloc B.size (.cells #[.slice none 0 0, .bool false, .int .i64 0, .slice none 0 0] 29)
    have leX := B.size
    refine hK.out _ _ (and_assoc.1 ⟨cells2_row (K2.g _ (List.mem_cons_of_mem _ (h3))), cells2_row (K2.g _ (List.mem_cons_of_mem _ (h4)))⟩) (fun hH => ?_)
    clear hK K'
    try simp only [Act.put, List.setIfInBounds_toArray, List.set_cons_zero, List.set_cons_succ]
    exact f3_01 hST hRW hMV h_xs hN_xs hF h3 h4 hfa hfb hlf HV hR leX _ (by kernel_rfl) K2 B2
  exact AllReadyH.nil
end
set_option maxRecDepth 100000 in
set_option maxHeartbeats 4000000 in
theorem f3_region {w : World} {fs : List Fact} {gs : List Bx} {M way : Int} {A : Option Addr} {n c gT gF : Nat} {xs : List Fd} {fa fb : List UInt8} {E : Int} {nl : Nat} {L : List Fd} {G : Bool} {N : Int} {nt : Nat} {X : List Fd} {v0 v1 v3 v6 v7 v8 v9 v10 v11 v12 v13 v14 v15 v16 v17 v18 v19 v20 v21 v22 v23 v24 v25 v26 v27 v28 v29 v30 v31 v32 v33 v34 v35 v36 v37 v38 v39 v40 v41 v42 v43 v44 v45 v46 v47 v48 v49 v50 v51 v52 v53 v54 v55 v56 v57 v58 v59 v60 v61 v62 v63 v64 v65 v66 v67 v68 v69 v70 v71 v72 v73 v74 v75 v76 v77 v78 v79 v80 v81 v82 v83 v84 v85 v86 v87 v88 v89 v90 v91 v92 v93 v94 v95 v96 v97 v98 v99 v100 v101 v102 v103 v104 v105 v106 v107 v108 v109 v110 v111 v112 v113 v114 v115 v116 v117 v118 v119 v120 v121 v122 v123 v124 v125 v126 v127 v128 v129 v130 v131 v132 v133 v134 v135 v136 v137 v138 v139 v140 v141 v142 v143 v144 v145 v146 v147 v148 v149 v150 v151 v152 v153 v154 v155 v156 v157 v158 v159 v160 v161 v162 v163 v164 v165 v166 v167 v168 v169 v170 v171 v172 v173 v174 v175 v176 v177 v178 v179 v180 v181 v182 v183 v184 v185 v186 v187 v188 v189 v190 v191 v192 : Value} {KK : Act → World → Prop} {Q : Exit → Act → World → Prop} (hST : stF ∈ fs) (hRW : rwF ∈ fs) (hMV : mvF ∈ fs) (h_xs : fF A n xs ∈ fs) (hN_xs : A = none → c = 0) (hF : full xs ≤ 20000) (h3 : (gT, #[.int .i64 M, .slice A n c], 24) ∈ gs) (h4 : (gF, #[.string ⟨fa.toArray⟩, .string ⟨fb.toArray⟩], 38) ∈ gs) (hfa : fa.length ≤ 10000) (hfb : fb.length ≤ 10000) (hlf : (fldL fa fb way).length ≤ 6000) (HV : BK M M xs (fldL fa fb way) E nl L G N nt X) (hR : ∀ (gX : Nat) (LL TT : Option Addr) (cl tc : Nat) (u49 : Value) (w' : World), EnvF w' (fF LL nl L :: fF TT nt X :: fs) ((gX, #[.slice LL nl cl, .bool G, .int .i64 N, .slice TT nt tc], 29) :: (gs)) → (LL = none → cl = 0) → (TT = none → tc = 0) → Below w.drew.heap.size w.drew w' → KK { tmps := #[v0, v1, .int .i64 way, v3, .pointer (some ⟨gT, 0, none⟩), .pointer (some ⟨gF, 0, none⟩), v6, v7, v8, .pointer (some ⟨gX, 0, none⟩), .int .i64 E, v11, v12, v13, v14, v15, v16, v17, v18, v19, v20, v21, v22, v23, v24, v25, v26, v27, v28, v29, v30, v31, v32, v33, v34, v35, v36, v37, v38, v39, v40, v41, v42, .tuple #[.agg #[.slice LL nl cl, .bool G, .int .i64 N, .slice TT nt tc], .int .i64 E], .agg #[.int .i64 M, .slice A n c], .pointer (some ⟨gT, 0, none⟩), .int .i64 M, .agg #[.string ⟨fa.toArray⟩, .string ⟨fb.toArray⟩], .int .i64 way, u49, .tuple #[.agg #[.slice LL nl cl, .bool G, .int .i64 N, .slice TT nt tc], .int .i64 E], .agg #[.slice LL nl cl, .bool G, .int .i64 N, .slice TT nt tc], .int .i64 E, v53, v54, v55, v56, v57, v58, v59, v60, v61, v62, v63, v64, v65, v66, v67, v68, v69, v70, v71, v72, v73, v74, v75, v76, v77, v78, v79, v80, v81, v82, v83, v84, v85, v86, v87, v88, v89, v90, v91, v92, v93, v94, v95, v96, v97, v98, v99, v100, v101, v102, v103, v104, v105, v106, v107, v108, v109, v110, v111, v112, v113, v114, v115, v116, v117, v118, v119, v120, v121, v122, v123, v124, v125, v126, v127, v128, v129, v130, v131, v132, v133, v134, v135, v136, v137, v138, v139, v140, v141, v142, v143, v144, v145, v146, v147, v148, v149, v150, v151, v152, v153, v154, v155, v156, v157, v158, v159, v160, v161, v162, v163, v164, v165, v166, v167, v168, v169, v170, v171, v172, v173, v174, v175, v176, v177, v178, v179, v180, v181, v182, v183, v184, v185, v186, v187, v188, v189, v190, v191, v192], defers := [] } w') (K : EnvF w fs gs) :
    (Code.region 3 f3ops.toArray true).wp Tryd.prog (Exit.then KK Q) { tmps := #[v0, v1, .int .i64 way, v3, .pointer (some ⟨gT, 0, none⟩), .pointer (some ⟨gF, 0, none⟩), v6, v7, v8, v9, v10, v11, v12, v13, v14, v15, v16, v17, v18, v19, v20, v21, v22, v23, v24, v25, v26, v27, v28, v29, v30, v31, v32, v33, v34, v35, v36, v37, v38, v39, v40, v41, v42, v43, v44, v45, v46, v47, v48, v49, v50, v51, v52, v53, v54, v55, v56, v57, v58, v59, v60, v61, v62, v63, v64, v65, v66, v67, v68, v69, v70, v71, v72, v73, v74, v75, v76, v77, v78, v79, v80, v81, v82, v83, v84, v85, v86, v87, v88, v89, v90, v91, v92, v93, v94, v95, v96, v97, v98, v99, v100, v101, v102, v103, v104, v105, v106, v107, v108, v109, v110, v111, v112, v113, v114, v115, v116, v117, v118, v119, v120, v121, v122, v123, v124, v125, v126, v127, v128, v129, v130, v131, v132, v133, v134, v135, v136, v137, v138, v139, v140, v141, v142, v143, v144, v145, v146, v147, v148, v149, v150, v151, v152, v153, v154, v155, v156, v157, v158, v159, v160, v161, v162, v163, v164, v165, v166, v167, v168, v169, v170, v171, v172, v173, v174, v175, v176, v177, v178, v179, v180, v181, v182, v183, v184, v185, v186, v187, v188, v189, v190, v191, v192], defers := [] } w := by
  refine Code.wp_mono (Q := Exit.then KK fun _ _ _ => False) (fun e a w h => by cases e <;> first | exact h | exact h.elim) ?_
  refine wp_region_held_drew (S := (fun W' => W'.cell? ⟨gT, 0, none⟩ = some (.int .i64 M) ∧ W'.cell? ⟨gT, 1, none⟩ = some (.slice A n c) ∧ W'.cell? ⟨gF, 0, none⟩ = some (.string ⟨fa.toArray⟩) ∧ W'.cell? ⟨gF, 1, none⟩ = some (.string ⟨fb.toArray⟩))) (by kernel_rfl) (and_assoc.1 ⟨cells2_row (K.drew.g _ (h3)), cells2_row (K.drew.g _ (h4))⟩) (fun hH => ?_)
  refine takeD (i := 0) (v := ?_) rfl (by as_aux_lemma => kernel_rfl) (by as_aux_lemma => kernel_rfl) (by as_aux_lemma => kernel_rfl) (fun _ _ _ h => h) (Or.inl ⟨by rfl, ?_⟩) hH ?_
  rotate_left
  · intro w hSw; (try dsimp only at hSw); go_simp <;> with_reducible rfl
  try simp only [Act.put, List.setIfInBounds_toArray, List.set_cons_zero, List.set_cons_succ]
  refine takeD (i := 1) (v := ?_) rfl (by as_aux_lemma => kernel_rfl) (by as_aux_lemma => kernel_rfl) (by as_aux_lemma => kernel_rfl) (fun _ _ _ h => h) (Or.inl ⟨by rfl, ?_⟩) hH ?_
  rotate_left
  · intro w hSw; (try dsimp only at hSw); go_simp <;> with_reducible rfl
  try simp only [Act.put, List.setIfInBounds_toArray, List.set_cons_zero, List.set_cons_succ]
  refine takeD (i := 2) (v := ?_) rfl (by as_aux_lemma => kernel_rfl) (by as_aux_lemma => kernel_rfl) (by as_aux_lemma => kernel_rfl) (fun _ _ _ h => h) (Or.inl ⟨by rfl, ?_⟩) hH ?_
  rotate_left
  · intro w hSw; (try dsimp only at hSw); go_simp <;> with_reducible rfl
  try simp only [Act.put, List.setIfInBounds_toArray, List.set_cons_zero, List.set_cons_succ]
  refine takeD (i := 3) (v := ?_) rfl (by as_aux_lemma => kernel_rfl) (by as_aux_lemma => kernel_rfl) (by as_aux_lemma => kernel_rfl) (fun _ _ _ h => h) (Or.inl ⟨by rfl, ?_⟩) hH ?_
  rotate_left
  · intro w hSw; (try dsimp only at hSw); go_simp <;> with_reducible rfl
  try simp only [Act.put, List.setIfInBounds_toArray, List.set_cons_zero, List.set_cons_succ]
  refine takeD (i := 4) (v := ?_) rfl (by as_aux_lemma => kernel_rfl) (by as_aux_lemma => kernel_rfl) (by as_aux_lemma => kernel_rfl) (fun _ _ _ h => h) (Or.inl ⟨by rfl, ?_⟩) hH ?_
  rotate_left
  · intro w hSw; (try dsimp only at hSw); go_simp <;> with_reducible rfl
  try simp only [Act.put, List.setIfInBounds_toArray, List.set_cons_zero, List.set_cons_succ]
  exact f3_00 hST hRW hMV h_xs hN_xs hF h3 h4 hfa hfb hlf HV hR _ (by kernel_rfl) K.drew (Below.refl _ _)
end Go.Proofs.YtfejohfplnbdkaaDoor
