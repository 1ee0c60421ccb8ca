/- FrameOrder: region 4, which draws its order. -/
import Derived.Test.YtmbjmpijilmbkaaFoD
namespace Go.Proofs.Ytmbjmpijilmbkaa
open Go.RowKit Oct Fi Fm
set_option linter.unusedVariables false
set_option linter.unusedSimpArgs false
set_option linter.unusedSectionVars false
noncomputable def foops : List Oper := GD.opsOf 4 (Try.f3.body.getD .skip)
section
variable {w0 : World} {fs : List Fact} {gs : List Bx} {kv fv sv xs xc : Int} {n g2 : Nat} {xb : Bool} {v0 v3 v4 v5 v6 v7 v8 v9 v10 v11 v12 v13 v14 v15 v16 v17 v18 v19 v20 v21 v22 v25 v26 v27 v28 v29 v30 v31 v32 v33 v34 v35 v36 v37 v38 v39 v40 v41 v42 v43 v44 v45 v46 v47 v48 v49 v50 v51 v52 v53 v54 v55 v56 v57 v58 v59 v60 v61 v62 v63 v64 v65 v66 v67 v68 v69 v70 v71 v72 v73 v74 v75 v76 v77 v78 v79 v80 v81 v82 v83 v84 v85 v86 v87 v88 v89 v90 v91 v92 v93 v94 v95 v96 v97 v98 v99 v100 v101 v102 v103 v104 v105 v106 v107 v108 v109 v110 v111 v112 v113 v114 v115 v116 v117 v118 v119 v120 v121 v122 v123 v124 v125 v126 v127 v128 v129 v130 v131 v132 v133 v134 v135 v136 v137 v138 v139 v140 v141 v142 v143 v144 v145 v146 v147 v148 v149 v150 v151 v152 v153 v154 v155 v156 v157 v158 v159 v160 v161 v162 v163 v164 v165 v166 v167 v168 v169 v170 v171 v172 v173 v174 v175 v176 v177 v178 v179 v180 v181 v182 v183 v184 v185 v186 v187 v188 v189 v190 v191 v192 v193 v194 v195 v196 v197 v198 : Value} {KK : Act → World → Prop} (HPA : Hid (ParseTo kv fv sv n xb xs xc)) (h2 : (g2, #[.int .i64 0, .int .u8 kv, .int .u8 fv, .int .i64 sv], 23) ∈ gs) (hn : n ≤ 1000000) (hR : ∀ (g5 g6 gm : Nat) (d : Fr) (A7 : Option Addr) (n7 c7 : Nat) (A8 : Option Addr) (n8 c8 : Nat) (w : World), EnvF w (bF (some ⟨gm, 0, none⟩) n (List.replicate n 0) :: fs) ((g6, #[.bool xb, .int .i64 xs, .int .u32 xc], 34) :: (g5, #[.int .u8 (d.kd.toNat : Int), .int .u8 (d.fl.toNat : Int), .int .i64 d.st, .slice A7 n7 c7, .int .i64 d.pd, .int .i64 d.la, .int .i64 d.ic, .int .u32 (d.co.toNat : Int), .slice A8 n8 c8, .bool d.rk, .bool d.al, .int .i64 d.dp, .int .u8 (d.wt.toNat : Int)], 32) :: gs) → w0.heap.size ≤ g5 → w0.heap.size ≤ g6 → Below w0.heap.size w0 w → KK { tmps := #[v0, .int .i64 (n : Int), .pointer (some ⟨g2, 0, none⟩), v3, v4, .pointer (some ⟨g5, 0, none⟩), .pointer (some ⟨g6, 0, none⟩), v7, v8, v9, v10, v11, v12, v13, v14, v15, v16, v17, v18, v19, v20, v21, .tuple #[.agg #[.int .u8 (d.kd.toNat : Int), .int .u8 (d.fl.toNat : Int), .int .i64 d.st, .slice A7 n7 c7, .int .i64 d.pd, .int .i64 d.la, .int .i64 d.ic, .int .u32 (d.co.toNat : Int), .slice A8 n8 c8, .bool d.rk, .bool d.al, .int .i64 d.dp, .int .u8 (d.wt.toNat : Int)], .agg #[.bool xb, .int .i64 xs, .int .u32 xc]], .agg #[.int .i64 0, .int .u8 kv, .int .u8 fv, .int .i64 sv], .int .i64 (n : Int), .slice (some ⟨gm, 0, none⟩) n n, .tuple #[.agg #[.int .u8 (d.kd.toNat : Int), .int .u8 (d.fl.toNat : Int), .int .i64 d.st, .slice A7 n7 c7, .int .i64 d.pd, .int .i64 d.la, .int .i64 d.ic, .int .u32 (d.co.toNat : Int), .slice A8 n8 c8, .bool d.rk, .bool d.al, .int .i64 d.dp, .int .u8 (d.wt.toNat : Int)], .agg #[.bool xb, .int .i64 xs, .int .u32 xc]], .agg #[.int .u8 (d.kd.toNat : Int), .int .u8 (d.fl.toNat : Int), .int .i64 d.st, .slice A7 n7 c7, .int .i64 d.pd, .int .i64 d.la, .int .i64 d.ic, .int .u32 (d.co.toNat : Int), .slice A8 n8 c8, .bool d.rk, .bool d.al, .int .i64 d.dp, .int .u8 (d.wt.toNat : Int)], .agg #[.bool xb, .int .i64 xs, .int .u32 xc], v29, v30, v31, v32, v33, v34, v35, v36, v37, v38, v39, v40, v41, v42, v43, v44, v45, v46, v47, v48, v49, v50, v51, v52, v53, v54, v55, v56, v57, v58, v59, v60, v61, v62, v63, v64, v65, v66, v67, v68, v69, v70, v71, v72, v73, v74, v75, v76, v77, v78, v79, v80, v81, v82, v83, v84, v85, v86, v87, v88, v89, v90, v91, v92, v93, v94, v95, v96, v97, v98, v99, v100, v101, v102, v103, v104, v105, v106, v107, v108, v109, v110, v111, v112, v113, v114, v115, v116, v117, v118, v119, v120, v121, v122, v123, v124, v125, v126, v127, v128, v129, v130, v131, v132, v133, v134, v135, v136, v137, v138, v139, v140, v141, v142, v143, v144, v145, v146, v147, v148, v149, v150, v151, v152, v153, v154, v155, v156, v157, v158, v159, v160, v161, v162, v163, v164, v165, v166, v167, v168, v169, v170, v171, v172, v173, v174, v175, v176, v177, v178, v179, v180, v181, v182, v183, v184, v185, v186, v187, v188, v189, v190, v191, v192, v193, v194, v195, v196, v197, v198], defers := [] } w)
include HPA h2 hn hR
set_option maxRecDepth 100000 in
set_option maxHeartbeats 4000000 in
theorem fo_mcab {gm : Nat} {g5 : Nat} {g6 : Nat} {d : Fr} {A7 : Option Addr} {n7 c7 : Nat} {A8 : Option Addr} {n8 c8 : Nat}  (le5 : w0.heap.size ≤ g5) (le6 : w0.heap.size ≤ g6) {w : World} (ls : Array Bool) (hl : ls = #[true, true, true, true, true, true, true, true, true, false, false]) (K : EnvF w (bF (some ⟨gm, 0, none⟩) n (List.replicate n 0) :: fs) ((g6, #[.bool false, .int .i64 0, .int .u32 0], 34) :: (g5, #[.int .u8 0, .int .u8 0, .int .i64 0, .slice none 0 0, .int .i64 0, .int .i64 0, .int .i64 0, .int .u32 0, .slice none 0 0, .bool false, .bool false, .int .i64 0, .int .u8 0], 32) :: gs)) (B : Below w0.heap.size w0 w) :
    wpAnyH Try.prog .any foops.toArray (Exit.then KK fun _ _ _ => False) (fun W' => W'.cell? ⟨g2, 0, none⟩ = some (.int .i64 0) ∧ W'.cell? ⟨g2, 1, none⟩ = some (.int .u8 kv) ∧ W'.cell? ⟨g2, 2, none⟩ = some (.int .u8 fv) ∧ W'.cell? ⟨g2, 3, none⟩ = some (.int .i64 sv)) 2 ls { tmps := #[v0, .int .i64 (n : Int), .pointer (some ⟨g2, 0, none⟩), v3, v4, .pointer (some ⟨g5, 0, none⟩), .pointer (some ⟨g6, 0, none⟩), v7, v8, v9, v10, v11, v12, v13, v14, v15, v16, v17, v18, v19, v20, v21, .tuple #[.agg #[.int .u8 (d.kd.toNat : Int), .int .u8 (d.fl.toNat : Int), .int .i64 d.st, .slice A7 n7 c7, .int .i64 d.pd, .int .i64 d.la, .int .i64 d.ic, .int .u32 (d.co.toNat : Int), .slice A8 n8 c8, .bool d.rk, .bool d.al, .int .i64 d.dp, .int .u8 (d.wt.toNat : Int)], .agg #[.bool xb, .int .i64 xs, .int .u32 xc]], .agg #[.int .i64 0, .int .u8 kv, .int .u8 fv, .int .i64 sv], .int .i64 (n : Int), .slice (some ⟨gm, 0, none⟩) n n, .tuple #[.agg #[.int .u8 (d.kd.toNat : Int), .int .u8 (d.fl.toNat : Int), .int .i64 d.st, .slice A7 n7 c7, .int .i64 d.pd, .int .i64 d.la, .int .i64 d.ic, .int .u32 (d.co.toNat : Int), .slice A8 n8 c8, .bool d.rk, .bool d.al, .int .i64 d.dp, .int .u8 (d.wt.toNat : Int)], .agg #[.bool xb, .int .i64 xs, .int .u32 xc]], .agg #[.int .u8 (d.kd.toNat : Int), .int .u8 (d.fl.toNat : Int), .int .i64 d.st, .slice A7 n7 c7, .int .i64 d.pd, .int .i64 d.la, .int .i64 d.ic, .int .u32 (d.co.toNat : Int), .slice A8 n8 c8, .bool d.rk, .bool d.al, .int .i64 d.dp, .int .u8 (d.wt.toNat : Int)], .agg #[.bool xb, .int .i64 xs, .int .u32 xc], v29, v30, v31, v32, v33, v34, v35, v36, v37, v38, v39, v40, v41, v42, v43, v44, v45, v46, v47, v48, v49, v50, v51, v52, v53, v54, v55, v56, v57, v58, v59, v60, v61, v62, v63, v64, v65, v66, v67, v68, v69, v70, v71, v72, v73, v74, v75, v76, v77, v78, v79, v80, v81, v82, v83, v84, v85, v86, v87, v88, v89, v90, v91, v92, v93, v94, v95, v96, v97, v98, v99, v100, v101, v102, v103, v104, v105, v106, v107, v108, v109, v110, v111, v112, v113, v114, v115, v116, v117, v118, v119, v120, v121, v122, v123, v124, v125, v126, v127, v128, v129, v130, v131, v132, v133, v134, v135, v136, v137, v138, v139, v140, v141, v142, v143, v144, v145, v146, v147, v148, v149, v150, v151, v152, v153, v154, v155, v156, v157, v158, v159, v160, v161, v162, v163, v164, v165, v166, v167, v168, v169, v170, v171, v172, v173, v174, v175, v176, v177, v178, v179, v180, v181, v182, v183, v184, v185, v186, v187, v188, v189, v190, v191, v192, v193, v194, v195, v196, v197, v198], defers := [] } w := by
  subst hl
  have K1 := K
  have B1 := B
  refine GD.readyD (i := 9) rfl (by as_aux_lemma => kernel_rfl) (fun K' hK => ?_)
  refine step_put (by rfl) 32 (.tmp 5) (.tmp 27) (by rfl) g5 0 (.agg #[.int .u8 (d.kd.toNat : Int), .int .u8 (d.fl.toNat : Int), .int .i64 d.st, .slice A7 n7 c7, .int .i64 d.pd, .int .i64 d.la, .int .i64 d.ic, .int .u32 (d.co.toNat : Int), .slice A8 n8 c8, .bool d.rk, .bool d.al, .int .i64 d.dp, .int .u8 (d.wt.toNat : Int)]) (by rfl) (by rfl) 32 #[.int .u8 0, .int .u8 0, .int .i64 0, .slice none 0 0, .int .i64 0, .int .i64 0, .int .i64 0, .int .u32 0, .slice none 0 0, .bool false, .bool false, .int .i64 0, .int .u8 0] #[.int .u8 (d.kd.toNat : Int), .int .u8 (d.fl.toNat : Int), .int .i64 d.st, .slice A7 n7 c7, .int .i64 d.pd, .int .i64 d.la, .int .i64 d.ic, .int .u32 (d.co.toNat : Int), .slice A8 n8 c8, .bool d.rk, .bool d.al, .int .i64 d.dp, .int .u8 (d.wt.toNat : Int)] (K1.row 1 rfl) (by simp [Value.cells]) (by kernel_rfl) info_F (by kernel_rfl) ?_
  intro w2 c1' c2' c3' c4'
  have K2 := K1.turn 1 rfl c1' c2' c3'
  have B2 := c4' _ _ le5 B1
  refine hK.out _ _ (cells4_row (K2.g _ (List.Mem.tail _ (List.Mem.tail _ (h2))))) (fun hH => ?_)
  clear hK K'
  try simp only [Act.put, List.setIfInBounds_toArray, List.set_cons_zero, List.set_cons_succ]
  refine GD.readyD (i := 10) rfl (by as_aux_lemma => kernel_rfl) (fun K' hK => ?_)
  refine step_put (by rfl) 34 (.tmp 6) (.tmp 28) (by rfl) g6 0 (.agg #[.bool xb, .int .i64 xs, .int .u32 xc]) (by rfl) (by rfl) 34 #[.bool false, .int .i64 0, .int .u32 0] #[.bool xb, .int .i64 xs, .int .u32 xc] (K2.row 0 rfl) (by simp [Value.cells]) (by kernel_rfl) info_X (by kernel_rfl) ?_
  intro w3 c1' c2' c3' c4'
  have K3 := K2.turn 0 rfl c1' c2' c3'
  have B3 := c4' _ _ le6 B2
  refine hK.out _ _ (cells4_row (K3.g _ (List.Mem.tail _ (List.Mem.tail _ (h2))))) (fun hH => ?_)
  clear hK K'
  try simp only [Act.put, List.setIfInBounds_toArray, List.set_cons_zero, List.set_cons_succ]
  refine wpAnyH_done (by as_aux_lemma => kernel_rfl) ?_ _
  exact hR _ _ _ _ _ _ _ _ _ _ _ K3 le5 le6 B3
set_option maxRecDepth 100000 in
set_option maxHeartbeats 4000000 in
theorem fo_mab {gm : Nat} {g5 : Nat} {g6 : Nat}  (le5 : w0.heap.size ≤ g5) (le6 : w0.heap.size ≤ g6) {w : World} (ls : Array Bool) (hl : ls = #[true, true, true, false, false, false, false, true, true, false, false]) (K : EnvF w (bF (some ⟨gm, 0, none⟩) n (List.replicate n 0) :: fs) ((g6, #[.bool false, .int .i64 0, .int .u32 0], 34) :: (g5, #[.int .u8 0, .int .u8 0, .int .i64 0, .slice none 0 0, .int .i64 0, .int .i64 0, .int .i64 0, .int .u32 0, .slice none 0 0, .bool false, .bool false, .int .i64 0, .int .u8 0], 32) :: gs)) (B : Below w0.heap.size w0 w) :
    wpAnyH Try.prog .any foops.toArray (Exit.then KK fun _ _ _ => False) (fun W' => W'.cell? ⟨g2, 0, none⟩ = some (.int .i64 0) ∧ W'.cell? ⟨g2, 1, none⟩ = some (.int .u8 kv) ∧ W'.cell? ⟨g2, 2, none⟩ = some (.int .u8 fv) ∧ W'.cell? ⟨g2, 3, none⟩ = some (.int .i64 sv)) 6 ls { tmps := #[v0, .int .i64 (n : Int), .pointer (some ⟨g2, 0, none⟩), v3, v4, .pointer (some ⟨g5, 0, none⟩), .pointer (some ⟨g6, 0, none⟩), v7, v8, v9, v10, v11, v12, v13, v14, v15, v16, v17, v18, v19, v20, v21, v22, .agg #[.int .i64 0, .int .u8 kv, .int .u8 fv, .int .i64 sv], .int .i64 (n : Int), .slice (some ⟨gm, 0, none⟩) n n, v26, v27, v28, v29, v30, v31, v32, v33, v34, v35, v36, v37, v38, v39, v40, v41, v42, v43, v44, v45, v46, v47, v48, v49, v50, v51, v52, v53, v54, v55, v56, v57, v58, v59, v60, v61, v62, v63, v64, v65, v66, v67, v68, v69, v70, v71, v72, v73, v74, v75, v76, v77, v78, v79, v80, v81, v82, v83, v84, v85, v86, v87, v88, v89, v90, v91, v92, v93, v94, v95, v96, v97, v98, v99, v100, v101, v102, v103, v104, v105, v106, v107, v108, v109, v110, v111, v112, v113, v114, v115, v116, v117, v118, v119, v120, v121, v122, v123, v124, v125, v126, v127, v128, v129, v130, v131, v132, v133, v134, v135, v136, v137, v138, v139, v140, v141, v142, v143, v144, v145, v146, v147, v148, v149, v150, v151, v152, v153, v154, v155, v156, v157, v158, v159, v160, v161, v162, v163, v164, v165, v166, v167, v168, v169, v170, v171, v172, v173, v174, v175, v176, v177, v178, v179, v180, v181, v182, v183, v184, v185, v186, v187, v188, v189, v190, v191, v192, v193, v194, v195, v196, v197, v198], defers := [] } w := by
  subst hl
  refine wpAnyH_ready (rs := [3]) (by as_aux_lemma => kernel_rfl) (by simp) ?_
  refine AllReadyH.cons (GD.getOf (i := 3) rfl) (fun K' hK => ?_) ?_
  ·
    go_simp
    go_at_call 7
    refine (HPA.out (some ⟨gm, 0, none⟩) n w (K.bs (List.Mem.head _)) (fun h => by cases h) (Nat.le_refl _)).mono ?_
    rintro e w2 ⟨d, A7, n7, c7, A8, n8, c8, rfl, hb⟩
    have K2 := K.on hb
    have B2 := below_step B hb
    refine hK.out _ _ (cells4_row (K2.g _ (List.Mem.tail _ (List.Mem.tail _ (h2))))) (fun hH => ?_)
    clear hK K'
    try simp only [Act.put, List.setIfInBounds_toArray, List.set_cons_zero, List.set_cons_succ]
    refine GD.takeD (i := 4) (v := ?_) rfl (by as_aux_lemma => kernel_rfl) (by as_aux_lemma => kernel_rfl) (by as_aux_lemma => kernel_rfl) (fun _ _ _ h => h) (Or.inl ⟨by rfl, ?_⟩) hH ?_
    rotate_left
    · intro w hSw; (try dsimp only at hSw); go_simp <;> with_reducible rfl
    try simp only [Act.put, List.setIfInBounds_toArray, List.set_cons_zero, List.set_cons_succ]
    refine GD.takeD (i := 5) (v := ?_) rfl (by as_aux_lemma => kernel_rfl) (by as_aux_lemma => kernel_rfl) (by as_aux_lemma => kernel_rfl) (fun _ _ _ h => h) (Or.inl ⟨by rfl, ?_⟩) hH ?_
    rotate_left
    · intro w hSw; (try dsimp only at hSw); go_simp <;> with_reducible rfl
    try simp only [Act.put, List.setIfInBounds_toArray, List.set_cons_zero, List.set_cons_succ]
    refine GD.takeD (i := 6) (v := ?_) rfl (by as_aux_lemma => kernel_rfl) (by as_aux_lemma => kernel_rfl) (by as_aux_lemma => kernel_rfl) (fun _ _ _ h => h) (Or.inl ⟨by rfl, ?_⟩) hH ?_
    rotate_left
    · intro w hSw; (try dsimp only at hSw); go_simp <;> with_reducible rfl
    try simp only [Act.put, List.setIfInBounds_toArray, List.set_cons_zero, List.set_cons_succ]
    exact fo_mcab HPA h2 hn hR le5 le6 _ (by kernel_rfl) K2 B2
  exact AllReadyH.nil
set_option maxRecDepth 100000 in
set_option maxHeartbeats 4000000 in
theorem fo_mcb {gm : Nat} {g6 : Nat} {d : Fr} {A7 : Option Addr} {n7 c7 : Nat} {A8 : Option Addr} {n8 c8 : Nat}  (le6 : w0.heap.size ≤ g6) {w : World} (ls : Array Bool) (hl : ls = #[true, true, true, true, true, true, true, false, true, false, false]) (K : EnvF w (bF (some ⟨gm, 0, none⟩) n (List.replicate n 0) :: fs) ((g6, #[.bool false, .int .i64 0, .int .u32 0], 34) :: gs)) (B : Below w0.heap.size w0 w) :
    wpAnyH Try.prog .any foops.toArray (Exit.then KK fun _ _ _ => False) (fun W' => W'.cell? ⟨g2, 0, none⟩ = some (.int .i64 0) ∧ W'.cell? ⟨g2, 1, none⟩ = some (.int .u8 kv) ∧ W'.cell? ⟨g2, 2, none⟩ = some (.int .u8 fv) ∧ W'.cell? ⟨g2, 3, none⟩ = some (.int .i64 sv)) 3 ls { tmps := #[v0, .int .i64 (n : Int), .pointer (some ⟨g2, 0, none⟩), v3, v4, v5, .pointer (some ⟨g6, 0, none⟩), v7, v8, v9, v10, v11, v12, v13, v14, v15, v16, v17, v18, v19, v20, v21, .tuple #[.agg #[.int .u8 (d.kd.toNat : Int), .int .u8 (d.fl.toNat : Int), .int .i64 d.st, .slice A7 n7 c7, .int .i64 d.pd, .int .i64 d.la, .int .i64 d.ic, .int .u32 (d.co.toNat : Int), .slice A8 n8 c8, .bool d.rk, .bool d.al, .int .i64 d.dp, .int .u8 (d.wt.toNat : Int)], .agg #[.bool xb, .int .i64 xs, .int .u32 xc]], .agg #[.int .i64 0, .int .u8 kv, .int .u8 fv, .int .i64 sv], .int .i64 (n : Int), .slice (some ⟨gm, 0, none⟩) n n, .tuple #[.agg #[.int .u8 (d.kd.toNat : Int), .int .u8 (d.fl.toNat : Int), .int .i64 d.st, .slice A7 n7 c7, .int .i64 d.pd, .int .i64 d.la, .int .i64 d.ic, .int .u32 (d.co.toNat : Int), .slice A8 n8 c8, .bool d.rk, .bool d.al, .int .i64 d.dp, .int .u8 (d.wt.toNat : Int)], .agg #[.bool xb, .int .i64 xs, .int .u32 xc]], .agg #[.int .u8 (d.kd.toNat : Int), .int .u8 (d.fl.toNat : Int), .int .i64 d.st, .slice A7 n7 c7, .int .i64 d.pd, .int .i64 d.la, .int .i64 d.ic, .int .u32 (d.co.toNat : Int), .slice A8 n8 c8, .bool d.rk, .bool d.al, .int .i64 d.dp, .int .u8 (d.wt.toNat : Int)], .agg #[.bool xb, .int .i64 xs, .int .u32 xc], v29, v30, v31, v32, v33, v34, v35, v36, v37, v38, v39, v40, v41, v42, v43, v44, v45, v46, v47, v48, v49, v50, v51, v52, v53, v54, v55, v56, v57, v58, v59, v60, v61, v62, v63, v64, v65, v66, v67, v68, v69, v70, v71, v72, v73, v74, v75, v76, v77, v78, v79, v80, v81, v82, v83, v84, v85, v86, v87, v88, v89, v90, v91, v92, v93, v94, v95, v96, v97, v98, v99, v100, v101, v102, v103, v104, v105, v106, v107, v108, v109, v110, v111, v112, v113, v114, v115, v116, v117, v118, v119, v120, v121, v122, v123, v124, v125, v126, v127, v128, v129, v130, v131, v132, v133, v134, v135, v136, v137, v138, v139, v140, v141, v142, v143, v144, v145, v146, v147, v148, v149, v150, v151, v152, v153, v154, v155, v156, v157, v158, v159, v160, v161, v162, v163, v164, v165, v166, v167, v168, v169, v170, v171, v172, v173, v174, v175, v176, v177, v178, v179, v180, v181, v182, v183, v184, v185, v186, v187, v188, v189, v190, v191, v192, v193, v194, v195, v196, v197, v198], defers := [] } w := by
  subst hl
  refine wpAnyH_ready (rs := [7]) (by as_aux_lemma => kernel_rfl) (by simp) ?_
  refine AllReadyH.cons (GD.getOf (i := 7) rfl) (fun K' hK => ?_) ?_
  ·
    go_simp
    have K2 := (GD.swapE (K.boxg 32 #[.int .u8 0, .int .u8 0, .int .i64 0, .slice none 0 0, .int .i64 0, .int .i64 0, .int .i64 0, .int .u32 0, .slice none 0 0, .bool false, .bool false, .int .i64 0, .int .u8 0] w.heap.size rfl))
    have B2 := B.alloc B.size (.cells #[.int .u8 0, .int .u8 0, .int .i64 0, .slice none 0 0, .int .i64 0, .int .i64 0, .int .i64 0, .int .u32 0, .slice none 0 0, .bool false, .bool false, .int .i64 0, .int .u8 0] 32)
    have le5 := B.size
    refine hK.out _ _ (cells4_row (K2.g _ (List.Mem.tail _ (List.Mem.tail _ (h2))))) (fun hH => ?_)
    clear hK K'
    try simp only [Act.put, List.setIfInBounds_toArray, List.set_cons_zero, List.set_cons_succ]
    exact fo_mcab HPA h2 hn hR le5 le6 _ (by kernel_rfl) K2 B2
  exact AllReadyH.nil
set_option maxRecDepth 100000 in
set_option maxHeartbeats 4000000 in
theorem fo_mca {gm : Nat} {g5 : Nat} {d : Fr} {A7 : Option Addr} {n7 c7 : Nat} {A8 : Option Addr} {n8 c8 : Nat}  (le5 : w0.heap.size ≤ g5) {w : World} (ls : Array Bool) (hl : ls = #[true, true, true, true, true, true, true, true, false, false, false]) (K : EnvF w (bF (some ⟨gm, 0, none⟩) n (List.replicate n 0) :: fs) ((g5, #[.int .u8 0, .int .u8 0, .int .i64 0, .slice none 0 0, .int .i64 0, .int .i64 0, .int .i64 0, .int .u32 0, .slice none 0 0, .bool false, .bool false, .int .i64 0, .int .u8 0], 32) :: gs)) (B : Below w0.heap.size w0 w) :
    wpAnyH Try.prog .any foops.toArray (Exit.then KK fun _ _ _ => False) (fun W' => W'.cell? ⟨g2, 0, none⟩ = some (.int .i64 0) ∧ W'.cell? ⟨g2, 1, none⟩ = some (.int .u8 kv) ∧ W'.cell? ⟨g2, 2, none⟩ = some (.int .u8 fv) ∧ W'.cell? ⟨g2, 3, none⟩ = some (.int .i64 sv)) 3 ls { tmps := #[v0, .int .i64 (n : Int), .pointer (some ⟨g2, 0, none⟩), v3, v4, .pointer (some ⟨g5, 0, none⟩), v6, v7, v8, v9, v10, v11, v12, v13, v14, v15, v16, v17, v18, v19, v20, v21, .tuple #[.agg #[.int .u8 (d.kd.toNat : Int), .int .u8 (d.fl.toNat : Int), .int .i64 d.st, .slice A7 n7 c7, .int .i64 d.pd, .int .i64 d.la, .int .i64 d.ic, .int .u32 (d.co.toNat : Int), .slice A8 n8 c8, .bool d.rk, .bool d.al, .int .i64 d.dp, .int .u8 (d.wt.toNat : Int)], .agg #[.bool xb, .int .i64 xs, .int .u32 xc]], .agg #[.int .i64 0, .int .u8 kv, .int .u8 fv, .int .i64 sv], .int .i64 (n : Int), .slice (some ⟨gm, 0, none⟩) n n, .tuple #[.agg #[.int .u8 (d.kd.toNat : Int), .int .u8 (d.fl.toNat : Int), .int .i64 d.st, .slice A7 n7 c7, .int .i64 d.pd, .int .i64 d.la, .int .i64 d.ic, .int .u32 (d.co.toNat : Int), .slice A8 n8 c8, .bool d.rk, .bool d.al, .int .i64 d.dp, .int .u8 (d.wt.toNat : Int)], .agg #[.bool xb, .int .i64 xs, .int .u32 xc]], .agg #[.int .u8 (d.kd.toNat : Int), .int .u8 (d.fl.toNat : Int), .int .i64 d.st, .slice A7 n7 c7, .int .i64 d.pd, .int .i64 d.la, .int .i64 d.ic, .int .u32 (d.co.toNat : Int), .slice A8 n8 c8, .bool d.rk, .bool d.al, .int .i64 d.dp, .int .u8 (d.wt.toNat : Int)], .agg #[.bool xb, .int .i64 xs, .int .u32 xc], v29, v30, v31, v32, v33, v34, v35, v36, v37, v38, v39, v40, v41, v42, v43, v44, v45, v46, v47, v48, v49, v50, v51, v52, v53, v54, v55, v56, v57, v58, v59, v60, v61, v62, v63, v64, v65, v66, v67, v68, v69, v70, v71, v72, v73, v74, v75, v76, v77, v78, v79, v80, v81, v82, v83, v84, v85, v86, v87, v88, v89, v90, v91, v92, v93, v94, v95, v96, v97, v98, v99, v100, v101, v102, v103, v104, v105, v106, v107, v108, v109, v110, v111, v112, v113, v114, v115, v116, v117, v118, v119, v120, v121, v122, v123, v124, v125, v126, v127, v128, v129, v130, v131, v132, v133, v134, v135, v136, v137, v138, v139, v140, v141, v142, v143, v144, v145, v146, v147, v148, v149, v150, v151, v152, v153, v154, v155, v156, v157, v158, v159, v160, v161, v162, v163, v164, v165, v166, v167, v168, v169, v170, v171, v172, v173, v174, v175, v176, v177, v178, v179, v180, v181, v182, v183, v184, v185, v186, v187, v188, v189, v190, v191, v192, v193, v194, v195, v196, v197, v198], defers := [] } w := by
  subst hl
  refine wpAnyH_ready (rs := [8]) (by as_aux_lemma => kernel_rfl) (by simp) ?_
  refine AllReadyH.cons (GD.getOf (i := 8) rfl) (fun K' hK => ?_) ?_
  ·
    go_simp
    have K2 := (K.boxg 34 #[.bool false, .int .i64 0, .int .u32 0] w.heap.size rfl)
    have B2 := B.alloc B.size (.cells #[.bool false, .int .i64 0, .int .u32 0] 34)
    have le6 := B.size
    refine hK.out _ _ (cells4_row (K2.g _ (List.Mem.tail _ (List.Mem.tail _ (h2))))) (fun hH => ?_)
    clear hK K'
    try simp only [Act.put, List.setIfInBounds_toArray, List.set_cons_zero, List.set_cons_succ]
    exact fo_mcab HPA h2 hn hR le5 le6 _ (by kernel_rfl) K2 B2
  exact AllReadyH.nil
set_option maxRecDepth 100000 in
set_option maxHeartbeats 4000000 in
theorem fo_ab {g5 : Nat} {g6 : Nat}  (le5 : w0.heap.size ≤ g5) (le6 : w0.heap.size ≤ g6) {w : World} (ls : Array Bool) (hl : ls = #[true, true, false, false, false, false, false, true, true, false, false]) (K : EnvF w fs ((g6, #[.bool false, .int .i64 0, .int .u32 0], 34) :: (g5, #[.int .u8 0, .int .u8 0, .int .i64 0, .slice none 0 0, .int .i64 0, .int .i64 0, .int .i64 0, .int .u32 0, .slice none 0 0, .bool false, .bool false, .int .i64 0, .int .u8 0], 32) :: gs)) (B : Below w0.heap.size w0 w) :
    wpAnyH Try.prog .any foops.toArray (Exit.then KK fun _ _ _ => False) (fun W' => W'.cell? ⟨g2, 0, none⟩ = some (.int .i64 0) ∧ W'.cell? ⟨g2, 1, none⟩ = some (.int .u8 kv) ∧ W'.cell? ⟨g2, 2, none⟩ = some (.int .u8 fv) ∧ W'.cell? ⟨g2, 3, none⟩ = some (.int .i64 sv)) 7 ls { tmps := #[v0, .int .i64 (n : Int), .pointer (some ⟨g2, 0, none⟩), v3, v4, .pointer (some ⟨g5, 0, none⟩), .pointer (some ⟨g6, 0, none⟩), v7, v8, v9, v10, v11, v12, v13, v14, v15, v16, v17, v18, v19, v20, v21, v22, .agg #[.int .i64 0, .int .u8 kv, .int .u8 fv, .int .i64 sv], .int .i64 (n : Int), v25, v26, v27, v28, v29, v30, v31, v32, v33, v34, v35, v36, v37, v38, v39, v40, v41, v42, v43, v44, v45, v46, v47, v48, v49, v50, v51, v52, v53, v54, v55, v56, v57, v58, v59, v60, v61, v62, v63, v64, v65, v66, v67, v68, v69, v70, v71, v72, v73, v74, v75, v76, v77, v78, v79, v80, v81, v82, v83, v84, v85, v86, v87, v88, v89, v90, v91, v92, v93, v94, v95, v96, v97, v98, v99, v100, v101, v102, v103, v104, v105, v106, v107, v108, v109, v110, v111, v112, v113, v114, v115, v116, v117, v118, v119, v120, v121, v122, v123, v124, v125, v126, v127, v128, v129, v130, v131, v132, v133, v134, v135, v136, v137, v138, v139, v140, v141, v142, v143, v144, v145, v146, v147, v148, v149, v150, v151, v152, v153, v154, v155, v156, v157, v158, v159, v160, v161, v162, v163, v164, v165, v166, v167, v168, v169, v170, v171, v172, v173, v174, v175, v176, v177, v178, v179, v180, v181, v182, v183, v184, v185, v186, v187, v188, v189, v190, v191, v192, v193, v194, v195, v196, v197, v198], defers := [] } w := by
  subst hl
  refine wpAnyH_ready (rs := [2]) (by as_aux_lemma => kernel_rfl) (by simp) ?_
  refine AllReadyH.cons (GD.getOf (i := 2) rfl) (fun K' hK => ?_) ?_
  ·
    refine GD.step_make (by rfl) (.tmp 24) (.tmp 24) (by rfl) n hn (by rfl) (by rfl) ?_
    have K2 := K.litg 5 (List.replicate n 0) _ (GD.madeB n) n (by simp) w.heap.size rfl
    have B2 := B.alloc B.size (.cells (madeCells #[.int .u8 0] n) 5)
    refine hK.out _ _ (cells4_row (K2.g _ (List.Mem.tail _ (List.Mem.tail _ (h2))))) (fun hH => ?_)
    clear hK K'
    try simp only [Act.put, List.setIfInBounds_toArray, List.set_cons_zero, List.set_cons_succ]
    exact fo_mab HPA h2 hn hR le5 le6 _ (by kernel_rfl) K2 B2
  exact AllReadyH.nil
set_option maxRecDepth 100000 in
set_option maxHeartbeats 4000000 in
theorem fo_mb {gm : Nat} {g6 : Nat}  (le6 : w0.heap.size ≤ g6) {w : World} (ls : Array Bool) (hl : ls = #[true, true, true, false, false, false, false, false, true, false, false]) (K : EnvF w (bF (some ⟨gm, 0, none⟩) n (List.replicate n 0) :: fs) ((g6, #[.bool false, .int .i64 0, .int .u32 0], 34) :: gs)) (B : Below w0.heap.size w0 w) :
    wpAnyH Try.prog .any foops.toArray (Exit.then KK fun _ _ _ => False) (fun W' => W'.cell? ⟨g2, 0, none⟩ = some (.int .i64 0) ∧ W'.cell? ⟨g2, 1, none⟩ = some (.int .u8 kv) ∧ W'.cell? ⟨g2, 2, none⟩ = some (.int .u8 fv) ∧ W'.cell? ⟨g2, 3, none⟩ = some (.int .i64 sv)) 7 ls { tmps := #[v0, .int .i64 (n : Int), .pointer (some ⟨g2, 0, none⟩), v3, v4, v5, .pointer (some ⟨g6, 0, none⟩), v7, v8, v9, v10, v11, v12, v13, v14, v15, v16, v17, v18, v19, v20, v21, v22, .agg #[.int .i64 0, .int .u8 kv, .int .u8 fv, .int .i64 sv], .int .i64 (n : Int), .slice (some ⟨gm, 0, none⟩) n n, v26, v27, v28, v29, v30, v31, v32, v33, v34, v35, v36, v37, v38, v39, v40, v41, v42, v43, v44, v45, v46, v47, v48, v49, v50, v51, v52, v53, v54, v55, v56, v57, v58, v59, v60, v61, v62, v63, v64, v65, v66, v67, v68, v69, v70, v71, v72, v73, v74, v75, v76, v77, v78, v79, v80, v81, v82, v83, v84, v85, v86, v87, v88, v89, v90, v91, v92, v93, v94, v95, v96, v97, v98, v99, v100, v101, v102, v103, v104, v105, v106, v107, v108, v109, v110, v111, v112, v113, v114, v115, v116, v117, v118, v119, v120, v121, v122, v123, v124, v125, v126, v127, v128, v129, v130, v131, v132, v133, v134, v135, v136, v137, v138, v139, v140, v141, v142, v143, v144, v145, v146, v147, v148, v149, v150, v151, v152, v153, v154, v155, v156, v157, v158, v159, v160, v161, v162, v163, v164, v165, v166, v167, v168, v169, v170, v171, v172, v173, v174, v175, v176, v177, v178, v179, v180, v181, v182, v183, v184, v185, v186, v187, v188, v189, v190, v191, v192, v193, v194, v195, v196, v197, v198], defers := [] } w := by
  subst hl
  refine wpAnyH_ready (rs := [3, 7]) (by as_aux_lemma => kernel_rfl) (by simp) ?_
  refine AllReadyH.cons (GD.getOf (i := 3) rfl) (fun K' hK => ?_) ?_
  ·
    go_simp
    go_at_call 7
    refine (HPA.out (some ⟨gm, 0, none⟩) n w (K.bs (List.Mem.head _)) (fun h => by cases h) (Nat.le_refl _)).mono ?_
    rintro e w2 ⟨d, A7, n7, c7, A8, n8, c8, rfl, hb⟩
    have K2 := K.on hb
    have B2 := below_step B hb
    refine hK.out _ _ (cells4_row (K2.g _ (List.Mem.tail _ (h2)))) (fun hH => ?_)
    clear hK K'
    try simp only [Act.put, List.setIfInBounds_toArray, List.set_cons_zero, List.set_cons_succ]
    refine GD.takeD (i := 4) (v := ?_) rfl (by as_aux_lemma => kernel_rfl) (by as_aux_lemma => kernel_rfl) (by as_aux_lemma => kernel_rfl) (fun _ _ _ h => h) (Or.inl ⟨by rfl, ?_⟩) hH ?_
    rotate_left
    · intro w hSw; (try dsimp only at hSw); go_simp <;> with_reducible rfl
    try simp only [Act.put, List.setIfInBounds_toArray, List.set_cons_zero, List.set_cons_succ]
    refine GD.takeD (i := 5) (v := ?_) rfl (by as_aux_lemma => kernel_rfl) (by as_aux_lemma => kernel_rfl) (by as_aux_lemma => kernel_rfl) (fun _ _ _ h => h) (Or.inl ⟨by rfl, ?_⟩) hH ?_
    rotate_left
    · intro w hSw; (try dsimp only at hSw); go_simp <;> with_reducible rfl
    try simp only [Act.put, List.setIfInBounds_toArray, List.set_cons_zero, List.set_cons_succ]
    refine GD.takeD (i := 6) (v := ?_) rfl (by as_aux_lemma => kernel_rfl) (by as_aux_lemma => kernel_rfl) (by as_aux_lemma => kernel_rfl) (fun _ _ _ h => h) (Or.inl ⟨by rfl, ?_⟩) hH ?_
    rotate_left
    · intro w hSw; (try dsimp only at hSw); go_simp <;> with_reducible rfl
    try simp only [Act.put, List.setIfInBounds_toArray, List.set_cons_zero, List.set_cons_succ]
    exact fo_mcb HPA h2 hn hR le6 _ (by kernel_rfl) K2 B2
  refine AllReadyH.cons (GD.getOf (i := 7) rfl) (fun K' hK => ?_) ?_
  ·
    go_simp
    have K2 := (GD.swapE (K.boxg 32 #[.int .u8 0, .int .u8 0, .int .i64 0, .slice none 0 0, .int .i64 0, .int .i64 0, .int .i64 0, .int .u32 0, .slice none 0 0, .bool false, .bool false, .int .i64 0, .int .u8 0] w.heap.size rfl))
    have B2 := B.alloc B.size (.cells #[.int .u8 0, .int .u8 0, .int .i64 0, .slice none 0 0, .int .i64 0, .int .i64 0, .int .i64 0, .int .u32 0, .slice none 0 0, .bool false, .bool false, .int .i64 0, .int .u8 0] 32)
    have le5 := B.size
    refine hK.out _ _ (cells4_row (K2.g _ (List.Mem.tail _ (List.Mem.tail _ (h2))))) (fun hH => ?_)
    clear hK K'
    try simp only [Act.put, List.setIfInBounds_toArray, List.set_cons_zero, List.set_cons_succ]
    exact fo_mab HPA h2 hn hR le5 le6 _ (by kernel_rfl) K2 B2
  exact AllReadyH.nil
set_option maxRecDepth 100000 in
set_option maxHeartbeats 4000000 in
theorem fo_ma {gm : Nat} {g5 : Nat}  (le5 : w0.heap.size ≤ g5) {w : World} (ls : Array Bool) (hl : ls = #[true, true, true, false, false, false, false, true, false, false, false]) (K : EnvF w (bF (some ⟨gm, 0, none⟩) n (List.replicate n 0) :: fs) ((g5, #[.int .u8 0, .int .u8 0, .int .i64 0, .slice none 0 0, .int .i64 0, .int .i64 0, .int .i64 0, .int .u32 0, .slice none 0 0, .bool false, .bool false, .int .i64 0, .int .u8 0], 32) :: gs)) (B : Below w0.heap.size w0 w) :
    wpAnyH Try.prog .any foops.toArray (Exit.then KK fun _ _ _ => False) (fun W' => W'.cell? ⟨g2, 0, none⟩ = some (.int .i64 0) ∧ W'.cell? ⟨g2, 1, none⟩ = some (.int .u8 kv) ∧ W'.cell? ⟨g2, 2, none⟩ = some (.int .u8 fv) ∧ W'.cell? ⟨g2, 3, none⟩ = some (.int .i64 sv)) 7 ls { tmps := #[v0, .int .i64 (n : Int), .pointer (some ⟨g2, 0, none⟩), v3, v4, .pointer (some ⟨g5, 0, none⟩), v6, v7, v8, v9, v10, v11, v12, v13, v14, v15, v16, v17, v18, v19, v20, v21, v22, .agg #[.int .i64 0, .int .u8 kv, .int .u8 fv, .int .i64 sv], .int .i64 (n : Int), .slice (some ⟨gm, 0, none⟩) n n, v26, v27, v28, v29, v30, v31, v32, v33, v34, v35, v36, v37, v38, v39, v40, v41, v42, v43, v44, v45, v46, v47, v48, v49, v50, v51, v52, v53, v54, v55, v56, v57, v58, v59, v60, v61, v62, v63, v64, v65, v66, v67, v68, v69, v70, v71, v72, v73, v74, v75, v76, v77, v78, v79, v80, v81, v82, v83, v84, v85, v86, v87, v88, v89, v90, v91, v92, v93, v94, v95, v96, v97, v98, v99, v100, v101, v102, v103, v104, v105, v106, v107, v108, v109, v110, v111, v112, v113, v114, v115, v116, v117, v118, v119, v120, v121, v122, v123, v124, v125, v126, v127, v128, v129, v130, v131, v132, v133, v134, v135, v136, v137, v138, v139, v140, v141, v142, v143, v144, v145, v146, v147, v148, v149, v150, v151, v152, v153, v154, v155, v156, v157, v158, v159, v160, v161, v162, v163, v164, v165, v166, v167, v168, v169, v170, v171, v172, v173, v174, v175, v176, v177, v178, v179, v180, v181, v182, v183, v184, v185, v186, v187, v188, v189, v190, v191, v192, v193, v194, v195, v196, v197, v198], defers := [] } w := by
  subst hl
  refine wpAnyH_ready (rs := [3, 8]) (by as_aux_lemma => kernel_rfl) (by simp) ?_
  refine AllReadyH.cons (GD.getOf (i := 3) rfl) (fun K' hK => ?_) ?_
  ·
    go_simp
    go_at_call 7
    refine (HPA.out (some ⟨gm, 0, none⟩) n w (K.bs (List.Mem.head _)) (fun h => by cases h) (Nat.le_refl _)).mono ?_
    rintro e w2 ⟨d, A7, n7, c7, A8, n8, c8, rfl, hb⟩
    have K2 := K.on hb
    have B2 := below_step B hb
    refine hK.out _ _ (cells4_row (K2.g _ (List.Mem.tail _ (h2)))) (fun hH => ?_)
    clear hK K'
    try simp only [Act.put, List.setIfInBounds_toArray, List.set_cons_zero, List.set_cons_succ]
    refine GD.takeD (i := 4) (v := ?_) rfl (by as_aux_lemma => kernel_rfl) (by as_aux_lemma => kernel_rfl) (by as_aux_lemma => kernel_rfl) (fun _ _ _ h => h) (Or.inl ⟨by rfl, ?_⟩) hH ?_
    rotate_left
    · intro w hSw; (try dsimp only at hSw); go_simp <;> with_reducible rfl
    try simp only [Act.put, List.setIfInBounds_toArray, List.set_cons_zero, List.set_cons_succ]
    refine GD.takeD (i := 5) (v := ?_) rfl (by as_aux_lemma => kernel_rfl) (by as_aux_lemma => kernel_rfl) (by as_aux_lemma => kernel_rfl) (fun _ _ _ h => h) (Or.inl ⟨by rfl, ?_⟩) hH ?_
    rotate_left
    · intro w hSw; (try dsimp only at hSw); go_simp <;> with_reducible rfl
    try simp only [Act.put, List.setIfInBounds_toArray, List.set_cons_zero, List.set_cons_succ]
    refine GD.takeD (i := 6) (v := ?_) rfl (by as_aux_lemma => kernel_rfl) (by as_aux_lemma => kernel_rfl) (by as_aux_lemma => kernel_rfl) (fun _ _ _ h => h) (Or.inl ⟨by rfl, ?_⟩) hH ?_
    rotate_left
    · intro w hSw; (try dsimp only at hSw); go_simp <;> with_reducible rfl
    try simp only [Act.put, List.setIfInBounds_toArray, List.set_cons_zero, List.set_cons_succ]
    exact fo_mca HPA h2 hn hR le5 _ (by kernel_rfl) K2 B2
  refine AllReadyH.cons (GD.getOf (i := 8) rfl) (fun K' hK => ?_) ?_
  ·
    go_simp
    have K2 := (K.boxg 34 #[.bool false, .int .i64 0, .int .u32 0] w.heap.size rfl)
    have B2 := B.alloc B.size (.cells #[.bool false, .int .i64 0, .int .u32 0] 34)
    have le6 := B.size
    refine hK.out _ _ (cells4_row (K2.g _ (List.Mem.tail _ (List.Mem.tail _ (h2))))) (fun hH => ?_)
    clear hK K'
    try simp only [Act.put, List.setIfInBounds_toArray, List.set_cons_zero, List.set_cons_succ]
    exact fo_mab HPA h2 hn hR le5 le6 _ (by kernel_rfl) K2 B2
  exact AllReadyH.nil
set_option maxRecDepth 100000 in
set_option maxHeartbeats 4000000 in
theorem fo_mc {gm : Nat} {d : Fr} {A7 : Option Addr} {n7 c7 : Nat} {A8 : Option Addr} {n8 c8 : Nat}  {w : World} (ls : Array Bool) (hl : ls = #[true, true, true, true, true, true, true, false, false, false, false]) (K : EnvF w (bF (some ⟨gm, 0, none⟩) n (List.replicate n 0) :: fs) (gs)) (B : Below w0.heap.size w0 w) :
    wpAnyH Try.prog .any foops.toArray (Exit.then KK fun _ _ _ => False) (fun W' => W'.cell? ⟨g2, 0, none⟩ = some (.int .i64 0) ∧ W'.cell? ⟨g2, 1, none⟩ = some (.int .u8 kv) ∧ W'.cell? ⟨g2, 2, none⟩ = some (.int .u8 fv) ∧ W'.cell? ⟨g2, 3, none⟩ = some (.int .i64 sv)) 4 ls { tmps := #[v0, .int .i64 (n : Int), .pointer (some ⟨g2, 0, none⟩), v3, v4, v5, v6, v7, v8, v9, v10, v11, v12, v13, v14, v15, v16, v17, v18, v19, v20, v21, .tuple #[.agg #[.int .u8 (d.kd.toNat : Int), .int .u8 (d.fl.toNat : Int), .int .i64 d.st, .slice A7 n7 c7, .int .i64 d.pd, .int .i64 d.la, .int .i64 d.ic, .int .u32 (d.co.toNat : Int), .slice A8 n8 c8, .bool d.rk, .bool d.al, .int .i64 d.dp, .int .u8 (d.wt.toNat : Int)], .agg #[.bool xb, .int .i64 xs, .int .u32 xc]], .agg #[.int .i64 0, .int .u8 kv, .int .u8 fv, .int .i64 sv], .int .i64 (n : Int), .slice (some ⟨gm, 0, none⟩) n n, .tuple #[.agg #[.int .u8 (d.kd.toNat : Int), .int .u8 (d.fl.toNat : Int), .int .i64 d.st, .slice A7 n7 c7, .int .i64 d.pd, .int .i64 d.la, .int .i64 d.ic, .int .u32 (d.co.toNat : Int), .slice A8 n8 c8, .bool d.rk, .bool d.al, .int .i64 d.dp, .int .u8 (d.wt.toNat : Int)], .agg #[.bool xb, .int .i64 xs, .int .u32 xc]], .agg #[.int .u8 (d.kd.toNat : Int), .int .u8 (d.fl.toNat : Int), .int .i64 d.st, .slice A7 n7 c7, .int .i64 d.pd, .int .i64 d.la, .int .i64 d.ic, .int .u32 (d.co.toNat : Int), .slice A8 n8 c8, .bool d.rk, .bool d.al, .int .i64 d.dp, .int .u8 (d.wt.toNat : Int)], .agg #[.bool xb, .int .i64 xs, .int .u32 xc], v29, v30, v31, v32, v33, v34, v35, v36, v37, v38, v39, v40, v41, v42, v43, v44, v45, v46, v47, v48, v49, v50, v51, v52, v53, v54, v55, v56, v57, v58, v59, v60, v61, v62, v63, v64, v65, v66, v67, v68, v69, v70, v71, v72, v73, v74, v75, v76, v77, v78, v79, v80, v81, v82, v83, v84, v85, v86, v87, v88, v89, v90, v91, v92, v93, v94, v95, v96, v97, v98, v99, v100, v101, v102, v103, v104, v105, v106, v107, v108, v109, v110, v111, v112, v113, v114, v115, v116, v117, v118, v119, v120, v121, v122, v123, v124, v125, v126, v127, v128, v129, v130, v131, v132, v133, v134, v135, v136, v137, v138, v139, v140, v141, v142, v143, v144, v145, v146, v147, v148, v149, v150, v151, v152, v153, v154, v155, v156, v157, v158, v159, v160, v161, v162, v163, v164, v165, v166, v167, v168, v169, v170, v171, v172, v173, v174, v175, v176, v177, v178, v179, v180, v181, v182, v183, v184, v185, v186, v187, v188, v189, v190, v191, v192, v193, v194, v195, v196, v197, v198], defers := [] } w := by
  subst hl
  refine wpAnyH_ready (rs := [7, 8]) (by as_aux_lemma => kernel_rfl) (by simp) ?_
  refine AllReadyH.cons (GD.getOf (i := 7) rfl) (fun K' hK => ?_) ?_
  ·
    go_simp
    have K2 := (K.boxg 32 #[.int .u8 0, .int .u8 0, .int .i64 0, .slice none 0 0, .int .i64 0, .int .i64 0, .int .i64 0, .int .u32 0, .slice none 0 0, .bool false, .bool false, .int .i64 0, .int .u8 0] w.heap.size rfl)
    have B2 := B.alloc B.size (.cells #[.int .u8 0, .int .u8 0, .int .i64 0, .slice none 0 0, .int .i64 0, .int .i64 0, .int .i64 0, .int .u32 0, .slice none 0 0, .bool false, .bool false, .int .i64 0, .int .u8 0] 32)
    have le5 := B.size
    refine hK.out _ _ (cells4_row (K2.g _ (List.Mem.tail _ (h2)))) (fun hH => ?_)
    clear hK K'
    try simp only [Act.put, List.setIfInBounds_toArray, List.set_cons_zero, List.set_cons_succ]
    exact fo_mca HPA h2 hn hR le5 _ (by kernel_rfl) K2 B2
  refine AllReadyH.cons (GD.getOf (i := 8) rfl) (fun K' hK => ?_) ?_
  ·
    go_simp
    have K2 := (K.boxg 34 #[.bool false, .int .i64 0, .int .u32 0] w.heap.size rfl)
    have B2 := B.alloc B.size (.cells #[.bool false, .int .i64 0, .int .u32 0] 34)
    have le6 := B.size
    refine hK.out _ _ (cells4_row (K2.g _ (List.Mem.tail _ (h2)))) (fun hH => ?_)
    clear hK K'
    try simp only [Act.put, List.setIfInBounds_toArray, List.set_cons_zero, List.set_cons_succ]
    exact fo_mcb HPA h2 hn hR le6 _ (by kernel_rfl) K2 B2
  exact AllReadyH.nil
set_option maxRecDepth 100000 in
set_option maxHeartbeats 4000000 in
theorem fo_b {g6 : Nat}  (le6 : w0.heap.size ≤ g6) {w : World} (ls : Array Bool) (hl : ls = #[true, true, false, false, false, false, false, false, true, false, false]) (K : EnvF w fs ((g6, #[.bool false, .int .i64 0, .int .u32 0], 34) :: gs)) (B : Below w0.heap.size w0 w) :
    wpAnyH Try.prog .any foops.toArray (Exit.then KK fun _ _ _ => False) (fun W' => W'.cell? ⟨g2, 0, none⟩ = some (.int .i64 0) ∧ W'.cell? ⟨g2, 1, none⟩ = some (.int .u8 kv) ∧ W'.cell? ⟨g2, 2, none⟩ = some (.int .u8 fv) ∧ W'.cell? ⟨g2, 3, none⟩ = some (.int .i64 sv)) 8 ls { tmps := #[v0, .int .i64 (n : Int), .pointer (some ⟨g2, 0, none⟩), v3, v4, v5, .pointer (some ⟨g6, 0, none⟩), v7, v8, v9, v10, v11, v12, v13, v14, v15, v16, v17, v18, v19, v20, v21, v22, .agg #[.int .i64 0, .int .u8 kv, .int .u8 fv, .int .i64 sv], .int .i64 (n : Int), v25, v26, v27, v28, v29, v30, v31, v32, v33, v34, v35, v36, v37, v38, v39, v40, v41, v42, v43, v44, v45, v46, v47, v48, v49, v50, v51, v52, v53, v54, v55, v56, v57, v58, v59, v60, v61, v62, v63, v64, v65, v66, v67, v68, v69, v70, v71, v72, v73, v74, v75, v76, v77, v78, v79, v80, v81, v82, v83, v84, v85, v86, v87, v88, v89, v90, v91, v92, v93, v94, v95, v96, v97, v98, v99, v100, v101, v102, v103, v104, v105, v106, v107, v108, v109, v110, v111, v112, v113, v114, v115, v116, v117, v118, v119, v120, v121, v122, v123, v124, v125, v126, v127, v128, v129, v130, v131, v132, v133, v134, v135, v136, v137, v138, v139, v140, v141, v142, v143, v144, v145, v146, v147, v148, v149, v150, v151, v152, v153, v154, v155, v156, v157, v158, v159, v160, v161, v162, v163, v164, v165, v166, v167, v168, v169, v170, v171, v172, v173, v174, v175, v176, v177, v178, v179, v180, v181, v182, v183, v184, v185, v186, v187, v188, v189, v190, v191, v192, v193, v194, v195, v196, v197, v198], defers := [] } w := by
  subst hl
  refine wpAnyH_ready (rs := [2, 7]) (by as_aux_lemma => kernel_rfl) (by simp) ?_
  refine AllReadyH.cons (GD.getOf (i := 2) rfl) (fun K' hK => ?_) ?_
  ·
    refine GD.step_make (by rfl) (.tmp 24) (.tmp 24) (by rfl) n hn (by rfl) (by rfl) ?_
    have K2 := K.litg 5 (List.replicate n 0) _ (GD.madeB n) n (by simp) w.heap.size rfl
    have B2 := B.alloc B.size (.cells (madeCells #[.int .u8 0] n) 5)
    refine hK.out _ _ (cells4_row (K2.g _ (List.Mem.tail _ (h2)))) (fun hH => ?_)
    clear hK K'
    try simp only [Act.put, List.setIfInBounds_toArray, List.set_cons_zero, List.set_cons_succ]
    exact fo_mb HPA h2 hn hR le6 _ (by kernel_rfl) K2 B2
  refine AllReadyH.cons (GD.getOf (i := 7) rfl) (fun K' hK => ?_) ?_
  ·
    go_simp
    have K2 := (GD.swapE (K.boxg 32 #[.int .u8 0, .int .u8 0, .int .i64 0, .slice none 0 0, .int .i64 0, .int .i64 0, .int .i64 0, .int .u32 0, .slice none 0 0, .bool false, .bool false, .int .i64 0, .int .u8 0] w.heap.size rfl))
    have B2 := B.alloc B.size (.cells #[.int .u8 0, .int .u8 0, .int .i64 0, .slice none 0 0, .int .i64 0, .int .i64 0, .int .i64 0, .int .u32 0, .slice none 0 0, .bool false, .bool false, .int .i64 0, .int .u8 0] 32)
    have le5 := B.size
    refine hK.out _ _ (cells4_row (K2.g _ (List.Mem.tail _ (List.Mem.tail _ (h2))))) (fun hH => ?_)
    clear hK K'
    try simp only [Act.put, List.setIfInBounds_toArray, List.set_cons_zero, List.set_cons_succ]
    exact fo_ab HPA h2 hn hR le5 le6 _ (by kernel_rfl) K2 B2
  exact AllReadyH.nil
set_option maxRecDepth 100000 in
set_option maxHeartbeats 4000000 in
theorem fo_a {g5 : Nat}  (le5 : w0.heap.size ≤ g5) {w : World} (ls : Array Bool) (hl : ls = #[true, true, false, false, false, false, false, true, false, false, false]) (K : EnvF w fs ((g5, #[.int .u8 0, .int .u8 0, .int .i64 0, .slice none 0 0, .int .i64 0, .int .i64 0, .int .i64 0, .int .u32 0, .slice none 0 0, .bool false, .bool false, .int .i64 0, .int .u8 0], 32) :: gs)) (B : Below w0.heap.size w0 w) :
    wpAnyH Try.prog .any foops.toArray (Exit.then KK fun _ _ _ => False) (fun W' => W'.cell? ⟨g2, 0, none⟩ = some (.int .i64 0) ∧ W'.cell? ⟨g2, 1, none⟩ = some (.int .u8 kv) ∧ W'.cell? ⟨g2, 2, none⟩ = some (.int .u8 fv) ∧ W'.cell? ⟨g2, 3, none⟩ = some (.int .i64 sv)) 8 ls { tmps := #[v0, .int .i64 (n : Int), .pointer (some ⟨g2, 0, none⟩), v3, v4, .pointer (some ⟨g5, 0, none⟩), v6, v7, v8, v9, v10, v11, v12, v13, v14, v15, v16, v17, v18, v19, v20, v21, v22, .agg #[.int .i64 0, .int .u8 kv, .int .u8 fv, .int .i64 sv], .int .i64 (n : Int), v25, v26, v27, v28, v29, v30, v31, v32, v33, v34, v35, v36, v37, v38, v39, v40, v41, v42, v43, v44, v45, v46, v47, v48, v49, v50, v51, v52, v53, v54, v55, v56, v57, v58, v59, v60, v61, v62, v63, v64, v65, v66, v67, v68, v69, v70, v71, v72, v73, v74, v75, v76, v77, v78, v79, v80, v81, v82, v83, v84, v85, v86, v87, v88, v89, v90, v91, v92, v93, v94, v95, v96, v97, v98, v99, v100, v101, v102, v103, v104, v105, v106, v107, v108, v109, v110, v111, v112, v113, v114, v115, v116, v117, v118, v119, v120, v121, v122, v123, v124, v125, v126, v127, v128, v129, v130, v131, v132, v133, v134, v135, v136, v137, v138, v139, v140, v141, v142, v143, v144, v145, v146, v147, v148, v149, v150, v151, v152, v153, v154, v155, v156, v157, v158, v159, v160, v161, v162, v163, v164, v165, v166, v167, v168, v169, v170, v171, v172, v173, v174, v175, v176, v177, v178, v179, v180, v181, v182, v183, v184, v185, v186, v187, v188, v189, v190, v191, v192, v193, v194, v195, v196, v197, v198], defers := [] } w := by
  subst hl
  refine wpAnyH_ready (rs := [2, 8]) (by as_aux_lemma => kernel_rfl) (by simp) ?_
  refine AllReadyH.cons (GD.getOf (i := 2) rfl) (fun K' hK => ?_) ?_
  ·
    refine GD.step_make (by rfl) (.tmp 24) (.tmp 24) (by rfl) n hn (by rfl) (by rfl) ?_
    have K2 := K.litg 5 (List.replicate n 0) _ (GD.madeB n) n (by simp) w.heap.size rfl
    have B2 := B.alloc B.size (.cells (madeCells #[.int .u8 0] n) 5)
    refine hK.out _ _ (cells4_row (K2.g _ (List.Mem.tail _ (h2)))) (fun hH => ?_)
    clear hK K'
    try simp only [Act.put, List.setIfInBounds_toArray, List.set_cons_zero, List.set_cons_succ]
    exact fo_ma HPA h2 hn hR le5 _ (by kernel_rfl) K2 B2
  refine AllReadyH.cons (GD.getOf (i := 8) rfl) (fun K' hK => ?_) ?_
  ·
    go_simp
    have K2 := (K.boxg 34 #[.bool false, .int .i64 0, .int .u32 0] w.heap.size rfl)
    have B2 := B.alloc B.size (.cells #[.bool false, .int .i64 0, .int .u32 0] 34)
    have le6 := B.size
    refine hK.out _ _ (cells4_row (K2.g _ (List.Mem.tail _ (List.Mem.tail _ (h2))))) (fun hH => ?_)
    clear hK K'
    try simp only [Act.put, List.setIfInBounds_toArray, List.set_cons_zero, List.set_cons_succ]
    exact fo_ab HPA h2 hn hR le5 le6 _ (by kernel_rfl) K2 B2
  exact AllReadyH.nil
set_option maxRecDepth 100000 in
set_option maxHeartbeats 4000000 in
theorem fo_m {gm : Nat}  {w : World} (ls : Array Bool) (hl : ls = #[true, true, true, false, false, false, false, false, false, false, false]) (K : EnvF w (bF (some ⟨gm, 0, none⟩) n (List.replicate n 0) :: fs) (gs)) (B : Below w0.heap.size w0 w) :
    wpAnyH Try.prog .any foops.toArray (Exit.then KK fun _ _ _ => False) (fun W' => W'.cell? ⟨g2, 0, none⟩ = some (.int .i64 0) ∧ W'.cell? ⟨g2, 1, none⟩ = some (.int .u8 kv) ∧ W'.cell? ⟨g2, 2, none⟩ = some (.int .u8 fv) ∧ W'.cell? ⟨g2, 3, none⟩ = some (.int .i64 sv)) 8 ls { tmps := #[v0, .int .i64 (n : Int), .pointer (some ⟨g2, 0, none⟩), v3, v4, v5, v6, v7, v8, v9, v10, v11, v12, v13, v14, v15, v16, v17, v18, v19, v20, v21, v22, .agg #[.int .i64 0, .int .u8 kv, .int .u8 fv, .int .i64 sv], .int .i64 (n : Int), .slice (some ⟨gm, 0, none⟩) n n, v26, v27, v28, v29, v30, v31, v32, v33, v34, v35, v36, v37, v38, v39, v40, v41, v42, v43, v44, v45, v46, v47, v48, v49, v50, v51, v52, v53, v54, v55, v56, v57, v58, v59, v60, v61, v62, v63, v64, v65, v66, v67, v68, v69, v70, v71, v72, v73, v74, v75, v76, v77, v78, v79, v80, v81, v82, v83, v84, v85, v86, v87, v88, v89, v90, v91, v92, v93, v94, v95, v96, v97, v98, v99, v100, v101, v102, v103, v104, v105, v106, v107, v108, v109, v110, v111, v112, v113, v114, v115, v116, v117, v118, v119, v120, v121, v122, v123, v124, v125, v126, v127, v128, v129, v130, v131, v132, v133, v134, v135, v136, v137, v138, v139, v140, v141, v142, v143, v144, v145, v146, v147, v148, v149, v150, v151, v152, v153, v154, v155, v156, v157, v158, v159, v160, v161, v162, v163, v164, v165, v166, v167, v168, v169, v170, v171, v172, v173, v174, v175, v176, v177, v178, v179, v180, v181, v182, v183, v184, v185, v186, v187, v188, v189, v190, v191, v192, v193, v194, v195, v196, v197, v198], defers := [] } w := by
  subst hl
  refine wpAnyH_ready (rs := [3, 7, 8]) (by as_aux_lemma => kernel_rfl) (by simp) ?_
  refine AllReadyH.cons (GD.getOf (i := 3) rfl) (fun K' hK => ?_) ?_
  ·
    go_simp
    go_at_call 7
    refine (HPA.out (some ⟨gm, 0, none⟩) n w (K.bs (List.Mem.head _)) (fun h => by cases h) (Nat.le_refl _)).mono ?_
    rintro e w2 ⟨d, A7, n7, c7, A8, n8, c8, rfl, hb⟩
    have K2 := K.on hb
    have B2 := below_step B hb
    refine hK.out _ _ (cells4_row (K2.g _ (h2))) (fun hH => ?_)
    clear hK K'
    try simp only [Act.put, List.setIfInBounds_toArray, List.set_cons_zero, List.set_cons_succ]
    refine GD.takeD (i := 4) (v := ?_) rfl (by as_aux_lemma => kernel_rfl) (by as_aux_lemma => kernel_rfl) (by as_aux_lemma => kernel_rfl) (fun _ _ _ h => h) (Or.inl ⟨by rfl, ?_⟩) hH ?_
    rotate_left
    · intro w hSw; (try dsimp only at hSw); go_simp <;> with_reducible rfl
    try simp only [Act.put, List.setIfInBounds_toArray, List.set_cons_zero, List.set_cons_succ]
    refine GD.takeD (i := 5) (v := ?_) rfl (by as_aux_lemma => kernel_rfl) (by as_aux_lemma => kernel_rfl) (by as_aux_lemma => kernel_rfl) (fun _ _ _ h => h) (Or.inl ⟨by rfl, ?_⟩) hH ?_
    rotate_left
    · intro w hSw; (try dsimp only at hSw); go_simp <;> with_reducible rfl
    try simp only [Act.put, List.setIfInBounds_toArray, List.set_cons_zero, List.set_cons_succ]
    refine GD.takeD (i := 6) (v := ?_) rfl (by as_aux_lemma => kernel_rfl) (by as_aux_lemma => kernel_rfl) (by as_aux_lemma => kernel_rfl) (fun _ _ _ h => h) (Or.inl ⟨by rfl, ?_⟩) hH ?_
    rotate_left
    · intro w hSw; (try dsimp only at hSw); go_simp <;> with_reducible rfl
    try simp only [Act.put, List.setIfInBounds_toArray, List.set_cons_zero, List.set_cons_succ]
    exact fo_mc HPA h2 hn hR _ (by kernel_rfl) K2 B2
  refine AllReadyH.cons (GD.getOf (i := 7) rfl) (fun K' hK => ?_) ?_
  ·
    go_simp
    have K2 := (K.boxg 32 #[.int .u8 0, .int .u8 0, .int .i64 0, .slice none 0 0, .int .i64 0, .int .i64 0, .int .i64 0, .int .u32 0, .slice none 0 0, .bool false, .bool false, .int .i64 0, .int .u8 0] w.heap.size rfl)
    have B2 := B.alloc B.size (.cells #[.int .u8 0, .int .u8 0, .int .i64 0, .slice none 0 0, .int .i64 0, .int .i64 0, .int .i64 0, .int .u32 0, .slice none 0 0, .bool false, .bool false, .int .i64 0, .int .u8 0] 32)
    have le5 := B.size
    refine hK.out _ _ (cells4_row (K2.g _ (List.Mem.tail _ (h2)))) (fun hH => ?_)
    clear hK K'
    try simp only [Act.put, List.setIfInBounds_toArray, List.set_cons_zero, List.set_cons_succ]
    exact fo_ma HPA h2 hn hR le5 _ (by kernel_rfl) K2 B2
  refine AllReadyH.cons (GD.getOf (i := 8) rfl) (fun K' hK => ?_) ?_
  ·
    go_simp
    have K2 := (K.boxg 34 #[.bool false, .int .i64 0, .int .u32 0] w.heap.size rfl)
    have B2 := B.alloc B.size (.cells #[.bool false, .int .i64 0, .int .u32 0] 34)
    have le6 := B.size
    refine hK.out _ _ (cells4_row (K2.g _ (List.Mem.tail _ (h2)))) (fun hH => ?_)
    clear hK K'
    try simp only [Act.put, List.setIfInBounds_toArray, List.set_cons_zero, List.set_cons_succ]
    exact fo_mb HPA h2 hn hR le6 _ (by kernel_rfl) K2 B2
  exact AllReadyH.nil
set_option maxRecDepth 100000 in
set_option maxHeartbeats 4000000 in
theorem fo_0  {w : World} (ls : Array Bool) (hl : ls = #[true, true, false, false, false, false, false, false, false, false, false]) (K : EnvF w fs (gs)) (B : Below w0.heap.size w0 w) :
    wpAnyH Try.prog .any foops.toArray (Exit.then KK fun _ _ _ => False) (fun W' => W'.cell? ⟨g2, 0, none⟩ = some (.int .i64 0) ∧ W'.cell? ⟨g2, 1, none⟩ = some (.int .u8 kv) ∧ W'.cell? ⟨g2, 2, none⟩ = some (.int .u8 fv) ∧ W'.cell? ⟨g2, 3, none⟩ = some (.int .i64 sv)) 9 ls { tmps := #[v0, .int .i64 (n : Int), .pointer (some ⟨g2, 0, none⟩), v3, v4, v5, v6, v7, v8, v9, v10, v11, v12, v13, v14, v15, v16, v17, v18, v19, v20, v21, v22, .agg #[.int .i64 0, .int .u8 kv, .int .u8 fv, .int .i64 sv], .int .i64 (n : Int), v25, v26, v27, v28, v29, v30, v31, v32, v33, v34, v35, v36, v37, v38, v39, v40, v41, v42, v43, v44, v45, v46, v47, v48, v49, v50, v51, v52, v53, v54, v55, v56, v57, v58, v59, v60, v61, v62, v63, v64, v65, v66, v67, v68, v69, v70, v71, v72, v73, v74, v75, v76, v77, v78, v79, v80, v81, v82, v83, v84, v85, v86, v87, v88, v89, v90, v91, v92, v93, v94, v95, v96, v97, v98, v99, v100, v101, v102, v103, v104, v105, v106, v107, v108, v109, v110, v111, v112, v113, v114, v115, v116, v117, v118, v119, v120, v121, v122, v123, v124, v125, v126, v127, v128, v129, v130, v131, v132, v133, v134, v135, v136, v137, v138, v139, v140, v141, v142, v143, v144, v145, v146, v147, v148, v149, v150, v151, v152, v153, v154, v155, v156, v157, v158, v159, v160, v161, v162, v163, v164, v165, v166, v167, v168, v169, v170, v171, v172, v173, v174, v175, v176, v177, v178, v179, v180, v181, v182, v183, v184, v185, v186, v187, v188, v189, v190, v191, v192, v193, v194, v195, v196, v197, v198], defers := [] } w := by
  subst hl
  refine wpAnyH_ready (rs := [2, 7, 8]) (by as_aux_lemma => kernel_rfl) (by simp) ?_
  refine AllReadyH.cons (GD.getOf (i := 2) rfl) (fun K' hK => ?_) ?_
  ·
    refine GD.step_make (by rfl) (.tmp 24) (.tmp 24) (by rfl) n hn (by rfl) (by rfl) ?_
    have K2 := K.litg 5 (List.replicate n 0) _ (GD.madeB n) n (by simp) w.heap.size rfl
    have B2 := B.alloc B.size (.cells (madeCells #[.int .u8 0] n) 5)
    refine hK.out _ _ (cells4_row (K2.g _ (h2))) (fun hH => ?_)
    clear hK K'
    try simp only [Act.put, List.setIfInBounds_toArray, List.set_cons_zero, List.set_cons_succ]
    exact fo_m HPA h2 hn hR _ (by kernel_rfl) K2 B2
  refine AllReadyH.cons (GD.getOf (i := 7) rfl) (fun K' hK => ?_) ?_
  ·
    go_simp
    have K2 := (K.boxg 32 #[.int .u8 0, .int .u8 0, .int .i64 0, .slice none 0 0, .int .i64 0, .int .i64 0, .int .i64 0, .int .u32 0, .slice none 0 0, .bool false, .bool false, .int .i64 0, .int .u8 0] w.heap.size rfl)
    have B2 := B.alloc B.size (.cells #[.int .u8 0, .int .u8 0, .int .i64 0, .slice none 0 0, .int .i64 0, .int .i64 0, .int .i64 0, .int .u32 0, .slice none 0 0, .bool false, .bool false, .int .i64 0, .int .u8 0] 32)
    have le5 := B.size
    refine hK.out _ _ (cells4_row (K2.g _ (List.Mem.tail _ (h2)))) (fun hH => ?_)
    clear hK K'
    try simp only [Act.put, List.setIfInBounds_toArray, List.set_cons_zero, List.set_cons_succ]
    exact fo_a HPA h2 hn hR le5 _ (by kernel_rfl) K2 B2
  refine AllReadyH.cons (GD.getOf (i := 8) rfl) (fun K' hK => ?_) ?_
  ·
    go_simp
    have K2 := (K.boxg 34 #[.bool false, .int .i64 0, .int .u32 0] w.heap.size rfl)
    have B2 := B.alloc B.size (.cells #[.bool false, .int .i64 0, .int .u32 0] 34)
    have le6 := B.size
    refine hK.out _ _ (cells4_row (K2.g _ (List.Mem.tail _ (h2)))) (fun hH => ?_)
    clear hK K'
    try simp only [Act.put, List.setIfInBounds_toArray, List.set_cons_zero, List.set_cons_succ]
    exact fo_b HPA h2 hn hR le6 _ (by kernel_rfl) K2 B2
  exact AllReadyH.nil
end
set_option maxRecDepth 100000 in
set_option maxHeartbeats 4000000 in
theorem fo_region {w : World} {fs : List Fact} {gs : List Bx} {kv fv sv xs xc : Int} {n g2 : Nat} {xb : Bool} {v0 v3 v4 v5 v6 v7 v8 v9 v10 v11 v12 v13 v14 v15 v16 v17 v18 v19 v20 v21 v22 v23 v24 v25 v26 v27 v28 v29 v30 v31 v32 v33 v34 v35 v36 v37 v38 v39 v40 v41 v42 v43 v44 v45 v46 v47 v48 v49 v50 v51 v52 v53 v54 v55 v56 v57 v58 v59 v60 v61 v62 v63 v64 v65 v66 v67 v68 v69 v70 v71 v72 v73 v74 v75 v76 v77 v78 v79 v80 v81 v82 v83 v84 v85 v86 v87 v88 v89 v90 v91 v92 v93 v94 v95 v96 v97 v98 v99 v100 v101 v102 v103 v104 v105 v106 v107 v108 v109 v110 v111 v112 v113 v114 v115 v116 v117 v118 v119 v120 v121 v122 v123 v124 v125 v126 v127 v128 v129 v130 v131 v132 v133 v134 v135 v136 v137 v138 v139 v140 v141 v142 v143 v144 v145 v146 v147 v148 v149 v150 v151 v152 v153 v154 v155 v156 v157 v158 v159 v160 v161 v162 v163 v164 v165 v166 v167 v168 v169 v170 v171 v172 v173 v174 v175 v176 v177 v178 v179 v180 v181 v182 v183 v184 v185 v186 v187 v188 v189 v190 v191 v192 v193 v194 v195 v196 v197 v198 : Value} {KK : Act → World → Prop} {Q : Exit → Act → World → Prop} (HPA : Hid (ParseTo kv fv sv n xb xs xc)) (h2 : (g2, #[.int .i64 0, .int .u8 kv, .int .u8 fv, .int .i64 sv], 23) ∈ gs) (hn : n ≤ 1000000) (hR : ∀ (g5 g6 gm : Nat) (d : Fr) (A7 : Option Addr) (n7 c7 : Nat) (A8 : Option Addr) (n8 c8 : Nat) (w' : World), EnvF w' (bF (some ⟨gm, 0, none⟩) n (List.replicate n 0) :: fs) ((g6, #[.bool xb, .int .i64 xs, .int .u32 xc], 34) :: (g5, #[.int .u8 (d.kd.toNat : Int), .int .u8 (d.fl.toNat : Int), .int .i64 d.st, .slice A7 n7 c7, .int .i64 d.pd, .int .i64 d.la, .int .i64 d.ic, .int .u32 (d.co.toNat : Int), .slice A8 n8 c8, .bool d.rk, .bool d.al, .int .i64 d.dp, .int .u8 (d.wt.toNat : Int)], 32) :: gs) → w.drew.heap.size ≤ g5 → w.drew.heap.size ≤ g6 → Below w.drew.heap.size w.drew w' → KK { tmps := #[v0, .int .i64 (n : Int), .pointer (some ⟨g2, 0, none⟩), v3, v4, .pointer (some ⟨g5, 0, none⟩), .pointer (some ⟨g6, 0, none⟩), v7, v8, v9, v10, v11, v12, v13, v14, v15, v16, v17, v18, v19, v20, v21, .tuple #[.agg #[.int .u8 (d.kd.toNat : Int), .int .u8 (d.fl.toNat : Int), .int .i64 d.st, .slice A7 n7 c7, .int .i64 d.pd, .int .i64 d.la, .int .i64 d.ic, .int .u32 (d.co.toNat : Int), .slice A8 n8 c8, .bool d.rk, .bool d.al, .int .i64 d.dp, .int .u8 (d.wt.toNat : Int)], .agg #[.bool xb, .int .i64 xs, .int .u32 xc]], .agg #[.int .i64 0, .int .u8 kv, .int .u8 fv, .int .i64 sv], .int .i64 (n : Int), .slice (some ⟨gm, 0, none⟩) n n, .tuple #[.agg #[.int .u8 (d.kd.toNat : Int), .int .u8 (d.fl.toNat : Int), .int .i64 d.st, .slice A7 n7 c7, .int .i64 d.pd, .int .i64 d.la, .int .i64 d.ic, .int .u32 (d.co.toNat : Int), .slice A8 n8 c8, .bool d.rk, .bool d.al, .int .i64 d.dp, .int .u8 (d.wt.toNat : Int)], .agg #[.bool xb, .int .i64 xs, .int .u32 xc]], .agg #[.int .u8 (d.kd.toNat : Int), .int .u8 (d.fl.toNat : Int), .int .i64 d.st, .slice A7 n7 c7, .int .i64 d.pd, .int .i64 d.la, .int .i64 d.ic, .int .u32 (d.co.toNat : Int), .slice A8 n8 c8, .bool d.rk, .bool d.al, .int .i64 d.dp, .int .u8 (d.wt.toNat : Int)], .agg #[.bool xb, .int .i64 xs, .int .u32 xc], v29, v30, v31, v32, v33, v34, v35, v36, v37, v38, v39, v40, v41, v42, v43, v44, v45, v46, v47, v48, v49, v50, v51, v52, v53, v54, v55, v56, v57, v58, v59, v60, v61, v62, v63, v64, v65, v66, v67, v68, v69, v70, v71, v72, v73, v74, v75, v76, v77, v78, v79, v80, v81, v82, v83, v84, v85, v86, v87, v88, v89, v90, v91, v92, v93, v94, v95, v96, v97, v98, v99, v100, v101, v102, v103, v104, v105, v106, v107, v108, v109, v110, v111, v112, v113, v114, v115, v116, v117, v118, v119, v120, v121, v122, v123, v124, v125, v126, v127, v128, v129, v130, v131, v132, v133, v134, v135, v136, v137, v138, v139, v140, v141, v142, v143, v144, v145, v146, v147, v148, v149, v150, v151, v152, v153, v154, v155, v156, v157, v158, v159, v160, v161, v162, v163, v164, v165, v166, v167, v168, v169, v170, v171, v172, v173, v174, v175, v176, v177, v178, v179, v180, v181, v182, v183, v184, v185, v186, v187, v188, v189, v190, v191, v192, v193, v194, v195, v196, v197, v198], defers := [] } w') (K : EnvF w fs gs) :
    (Code.region 4 foops.toArray true).wp Try.prog (Exit.then KK Q) { tmps := #[v0, .int .i64 (n : Int), .pointer (some ⟨g2, 0, none⟩), v3, v4, v5, v6, v7, v8, v9, v10, v11, v12, v13, v14, v15, v16, v17, v18, v19, v20, v21, v22, v23, v24, v25, v26, v27, v28, v29, v30, v31, v32, v33, v34, v35, v36, v37, v38, v39, v40, v41, v42, v43, v44, v45, v46, v47, v48, v49, v50, v51, v52, v53, v54, v55, v56, v57, v58, v59, v60, v61, v62, v63, v64, v65, v66, v67, v68, v69, v70, v71, v72, v73, v74, v75, v76, v77, v78, v79, v80, v81, v82, v83, v84, v85, v86, v87, v88, v89, v90, v91, v92, v93, v94, v95, v96, v97, v98, v99, v100, v101, v102, v103, v104, v105, v106, v107, v108, v109, v110, v111, v112, v113, v114, v115, v116, v117, v118, v119, v120, v121, v122, v123, v124, v125, v126, v127, v128, v129, v130, v131, v132, v133, v134, v135, v136, v137, v138, v139, v140, v141, v142, v143, v144, v145, v146, v147, v148, v149, v150, v151, v152, v153, v154, v155, v156, v157, v158, v159, v160, v161, v162, v163, v164, v165, v166, v167, v168, v169, v170, v171, v172, v173, v174, v175, v176, v177, v178, v179, v180, v181, v182, v183, v184, v185, v186, v187, v188, v189, v190, v191, v192, v193, v194, v195, v196, v197, v198], defers := [] } w := by
  refine Code.wp_mono (Q := Exit.then KK fun _ _ _ => False) (fun e a w h => by cases e <;> first | exact h | exact h.elim) ?_
  refine wp_region_held_drew (S := (fun W' => W'.cell? ⟨g2, 0, none⟩ = some (.int .i64 0) ∧ W'.cell? ⟨g2, 1, none⟩ = some (.int .u8 kv) ∧ W'.cell? ⟨g2, 2, none⟩ = some (.int .u8 fv) ∧ W'.cell? ⟨g2, 3, none⟩ = some (.int .i64 sv))) (by kernel_rfl) (cells4_row (K.drew.g _ h2)) (fun hH => ?_)
  refine GD.takeD (i := 0) (v := ?_) rfl (by as_aux_lemma => kernel_rfl) (by as_aux_lemma => kernel_rfl) (by as_aux_lemma => kernel_rfl) (fun _ _ _ h => h) (Or.inl ⟨by rfl, ?_⟩) hH ?_
  rotate_left
  · intro w hSw; (try dsimp only at hSw); go_simp <;> with_reducible rfl
  try simp only [Act.put, List.setIfInBounds_toArray, List.set_cons_zero, List.set_cons_succ]
  refine GD.takeD (i := 1) (v := ?_) rfl (by as_aux_lemma => kernel_rfl) (by as_aux_lemma => kernel_rfl) (by as_aux_lemma => kernel_rfl) (fun _ _ _ h => h) (Or.inl ⟨by rfl, ?_⟩) hH ?_
  rotate_left
  · intro w hSw; (try dsimp only at hSw); go_simp <;> with_reducible rfl
  try simp only [Act.put, List.setIfInBounds_toArray, List.set_cons_zero, List.set_cons_succ]
  exact fo_0 HPA h2 hn hR _ (by kernel_rfl) K.drew (Below.refl _ _)
end Go.Proofs.Ytmbjmpijilmbkaa
