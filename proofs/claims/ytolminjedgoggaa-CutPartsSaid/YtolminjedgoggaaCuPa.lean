/- CutParts: region 5, which draws its order. -/
import Derived.Test.YtolminjedgoggaaCuWm
import Derived.Test.YtolminjedgoggaaCuP
namespace Go.Proofs.Ytolminjedgoggaa
open Go.RowKit Oct Cu Go.Shelf
set_option linter.unusedVariables false
set_option linter.unusedSimpArgs false
noncomputable def q5ops : List Oper := opsOf 5 (Try.f4.body.getD .skip)
set_option maxRecDepth 100000 in
set_option maxHeartbeats 4000000 in
theorem q5_cab {w0 : World} {fs : List Fact} {gs : List Bx} {p : Int} {A A' Ac : Option Addr} {rn c nc cc mm n' c' P RN X LN g3 : Nat} {r cs R : List UInt8} {xb : Bool} {L : List (List UInt8)} {v0 v4 v5 v6 v7 v8 v9 v10 v12 v14 v15 v16 v17 v18 v19 v20 v21 v22 v23 v24 v25 v26 v27 v28 v29 v30 v31 v32 v33 v34 v35 v36 v37 v38 v39 v40 v41 v42 v43 v44 v55 v56 v57 v58 v59 v60 v61 v62 v63 v64 v65 v66 v67 v68 v69 v70 v71 v72 v73 v74 v75 v76 v77 v78 v79 v80 v81 v82 v83 v84 v85 v86 v87 v88 v89 v90 v91 v92 v93 v94 v95 v96 v97 v98 v99 v100 v101 v102 v103 v104 v105 v106 v107 v108 v109 v110 v111 v112 v113 v114 v115 v116 v117 v118 : Value} {KK : Act → World → Prop} {g11 : Nat} {g13 : Nat} {A1 : Option Addr} {c1 : Nat} {A2 : Option Addr} {c2 : Nat} {qs : List Pq} (HFD : Hid (FeedTo p r rn cs n' P R RN X xb L LN)) (h3 : (g3, #[.int .i64 p, .slice A rn c], 40) ∈ gs) (hr : bF A rn r ∈ fs) (hc1 : bF A' n' cs ∈ fs) (hN : A = none → c = 0) (hrc : rn ≤ c) (hN' : A' = none → c' = 0) (hmc : n' ≤ c') (hR : ∀ (g11 g13 : Nat) (A1 : Option Addr) (c1 : Nat) (A2 : Option Addr) (c2 : Nat) (qs : List Pq) (w : World), EnvF w (qF A2 LN qs :: bF A1 RN R :: fs) ((g13, #[.bool xb, .int .i64 0, .int .u32 (X : Int)], 34) :: (g11, #[.int .i64 (P : Int), .slice A1 RN c1], 40) :: gs) → qs.map (·.f) = L → (RN ≤ c1 ∧ (A1 = none → c1 = 0)) → (LN ≤ c2 ∧ (A2 = none → c2 = 0)) → w0.heap.size ≤ g11 → w0.heap.size ≤ g13 → Below w0.heap.size w0 w → KK { tmps := #[v0, .slice Ac nc cc, .int .i64 (mm : Int), .pointer (some ⟨g3, 0, none⟩), v4, v5, v6, v7, v8, v9, v10, .pointer (some ⟨g11, 0, none⟩), .slice A2 LN c2, .pointer (some ⟨g13, 0, none⟩), .int .i64 0, v15, v16, v17, v18, v19, v20, v21, v22, v23, v24, v25, v26, v27, v28, v29, v30, v31, v32, v33, v34, v35, v36, v37, v38, v39, v40, v41, v42, v43, v44, .tuple #[.agg #[.int .i64 (P : Int), .slice A1 RN c1], .slice A2 LN c2, .agg #[.bool xb, .int .i64 0, .int .u32 (X : Int)], .int .i64 0], .agg #[.int .i64 p, .slice A rn c], .slice Ac nc cc, .int .i64 (mm : Int), .slice A' n' c', .tuple #[.agg #[.int .i64 (P : Int), .slice A1 RN c1], .slice A2 LN c2, .agg #[.bool xb, .int .i64 0, .int .u32 (X : Int)], .int .i64 0], .agg #[.int .i64 (P : Int), .slice A1 RN c1], .slice A2 LN c2, .agg #[.bool xb, .int .i64 0, .int .u32 (X : Int)], .int .i64 0, v55, v56, v57, v58, v59, v60, v61, v62, v63, v64, v65, v66, v67, v68, v69, v70, v71, v72, v73, v74, v75, v76, v77, v78, v79, v80, v81, v82, v83, v84, v85, v86, v87, v88, v89, v90, v91, v92, v93, v94, v95, v96, v97, v98, v99, v100, v101, v102, v103, v104, v105, v106, v107, v108, v109, v110, v111, v112, v113, v114, v115, v116, v117, v118], defers := [] } w) (hm : qs.map (·.f) = L) (hh1 : RN ≤ c1 ∧ (A1 = none → c1 = 0)) (hh2 : LN ≤ c2 ∧ (A2 = none → c2 = 0)) (le11 : w0.heap.size ≤ g11) (le13 : w0.heap.size ≤ g13) {w : World} (ls : Array Bool) (hl : ls = #[true, true, true, true, true, true, true, true, true, true, true, true, false, false, false, false]) (K : EnvF w (qF A2 LN qs :: bF A1 RN R :: fs) ((g13, #[.bool false, .int .i64 0, .int .u32 0], 34) :: (g11, #[.int .i64 0, .slice none 0 0], 40) :: gs)) (B : Below w0.heap.size w0 w) :
    wpAnyH Try.prog .any q5ops.toArray (Exit.then KK fun _ _ _ => False) (fun W' => W'.cell? ⟨g3, 0, none⟩ = some (.int .i64 p) ∧ W'.cell? ⟨g3, 1, none⟩ = some (.slice A rn c)) 4 ls { tmps := #[v0, .slice Ac nc cc, .int .i64 (mm : Int), .pointer (some ⟨g3, 0, none⟩), v4, v5, v6, v7, v8, v9, v10, .pointer (some ⟨g11, 0, none⟩), v12, .pointer (some ⟨g13, 0, none⟩), v14, v15, v16, v17, v18, v19, v20, v21, v22, v23, v24, v25, v26, v27, v28, v29, v30, v31, v32, v33, v34, v35, v36, v37, v38, v39, v40, v41, v42, v43, v44, .tuple #[.agg #[.int .i64 (P : Int), .slice A1 RN c1], .slice A2 LN c2, .agg #[.bool xb, .int .i64 0, .int .u32 (X : Int)], .int .i64 0], .agg #[.int .i64 p, .slice A rn c], .slice Ac nc cc, .int .i64 (mm : Int), .slice A' n' c', .tuple #[.agg #[.int .i64 (P : Int), .slice A1 RN c1], .slice A2 LN c2, .agg #[.bool xb, .int .i64 0, .int .u32 (X : Int)], .int .i64 0], .agg #[.int .i64 (P : Int), .slice A1 RN c1], .slice A2 LN c2, .agg #[.bool xb, .int .i64 0, .int .u32 (X : Int)], .int .i64 0, v55, v56, v57, v58, v59, v60, v61, v62, v63, v64, v65, v66, v67, v68, v69, v70, v71, v72, v73, v74, v75, v76, v77, v78, v79, v80, v81, v82, v83, v84, v85, v86, v87, v88, v89, v90, v91, v92, v93, v94, v95, v96, v97, v98, v99, v100, v101, v102, v103, v104, v105, v106, v107, v108, v109, v110, v111, v112, v113, v114, v115, v116, v117, v118], defers := [] } w := by
  subst hl
  have K1 := K
  have B1 := B
  refine readyD (i := 12) rfl (by as_aux_lemma => kernel_rfl) (fun K' hK => ?_)
  refine step_put (by rfl) 40 (.tmp 11) (.tmp 51) (by rfl) g11 0 (.agg #[.int .i64 (P : Int), .slice A1 RN c1]) (by rfl) (by rfl) 40 #[.int .i64 0, .slice none 0 0] #[.int .i64 (P : Int), .slice A1 RN c1] (K1.row 1 rfl) (by simp [Value.cells]) (by kernel_rfl) infoc_R (by kernel_rfl) ?_
  intro w2 c1' c2' c3' c4'
  have K2 := K1.turn 1 rfl c1' c2' c3'
  have B2 := c4' _ _ le11 B1
  refine hK.out _ _ (cells2_row (K2.g _ (List.Mem.tail _ (List.Mem.tail _ (h3))))) (fun hH => ?_)
  clear hK K'
  try simp only [Act.put, List.setIfInBounds_toArray, List.set_cons_zero, List.set_cons_succ]
  refine takeD (i := 13) (v := ?_) rfl (by as_aux_lemma => kernel_rfl) (by as_aux_lemma => kernel_rfl) (by as_aux_lemma => kernel_rfl) (fun _ _ _ h => h) (Or.inl ⟨by rfl, ?_⟩) hH ?_
  rotate_left
  · intro w hSw; (try dsimp only at hSw); go_simp <;> with_reducible rfl
  try simp only [Act.put, List.setIfInBounds_toArray, List.set_cons_zero, List.set_cons_succ]
  refine readyD (i := 14) rfl (by as_aux_lemma => kernel_rfl) (fun K' hK => ?_)
  refine step_put (by rfl) 34 (.tmp 13) (.tmp 53) (by rfl) g13 0 (.agg #[.bool xb, .int .i64 0, .int .u32 (X : Int)]) (by rfl) (by rfl) 34 #[.bool false, .int .i64 0, .int .u32 0] #[.bool xb, .int .i64 0, .int .u32 (X : Int)] (K2.row 0 rfl) (by simp [Value.cells]) (by kernel_rfl) infoc_X (by kernel_rfl) ?_
  intro w3 c1' c2' c3' c4'
  have K3 := K2.turn 0 rfl c1' c2' c3'
  have B3 := c4' _ _ le13 B2
  refine hK.out _ _ (cells2_row (K3.g _ (List.Mem.tail _ (List.Mem.tail _ (h3))))) (fun hH => ?_)
  clear hK K'
  try simp only [Act.put, List.setIfInBounds_toArray, List.set_cons_zero, List.set_cons_succ]
  refine takeD (i := 15) (v := ?_) rfl (by as_aux_lemma => kernel_rfl) (by as_aux_lemma => kernel_rfl) (by as_aux_lemma => kernel_rfl) (fun _ _ _ h => h) (Or.inl ⟨by rfl, ?_⟩) hH ?_
  rotate_left
  · intro w hSw; (try dsimp only at hSw); go_simp <;> with_reducible rfl
  try simp only [Act.put, List.setIfInBounds_toArray, List.set_cons_zero, List.set_cons_succ]
  refine wpAnyH_done (by as_aux_lemma => kernel_rfl) ?_ _
  exact hR _ _ _ _ _ _ _ _ K3 hm hh1 hh2 le11 le13 B3
set_option maxRecDepth 100000 in
set_option maxHeartbeats 4000000 in
theorem q5_cb {w0 : World} {fs : List Fact} {gs : List Bx} {p : Int} {A A' Ac : Option Addr} {rn c nc cc mm n' c' P RN X LN g3 : Nat} {r cs R : List UInt8} {xb : Bool} {L : List (List UInt8)} {v0 v4 v5 v6 v7 v8 v9 v10 v11 v12 v14 v15 v16 v17 v18 v19 v20 v21 v22 v23 v24 v25 v26 v27 v28 v29 v30 v31 v32 v33 v34 v35 v36 v37 v38 v39 v40 v41 v42 v43 v44 v55 v56 v57 v58 v59 v60 v61 v62 v63 v64 v65 v66 v67 v68 v69 v70 v71 v72 v73 v74 v75 v76 v77 v78 v79 v80 v81 v82 v83 v84 v85 v86 v87 v88 v89 v90 v91 v92 v93 v94 v95 v96 v97 v98 v99 v100 v101 v102 v103 v104 v105 v106 v107 v108 v109 v110 v111 v112 v113 v114 v115 v116 v117 v118 : Value} {KK : Act → World → Prop} {g13 : Nat} {A1 : Option Addr} {c1 : Nat} {A2 : Option Addr} {c2 : Nat} {qs : List Pq} (HFD : Hid (FeedTo p r rn cs n' P R RN X xb L LN)) (h3 : (g3, #[.int .i64 p, .slice A rn c], 40) ∈ gs) (hr : bF A rn r ∈ fs) (hc1 : bF A' n' cs ∈ fs) (hN : A = none → c = 0) (hrc : rn ≤ c) (hN' : A' = none → c' = 0) (hmc : n' ≤ c') (hR : ∀ (g11 g13 : Nat) (A1 : Option Addr) (c1 : Nat) (A2 : Option Addr) (c2 : Nat) (qs : List Pq) (w : World), EnvF w (qF A2 LN qs :: bF A1 RN R :: fs) ((g13, #[.bool xb, .int .i64 0, .int .u32 (X : Int)], 34) :: (g11, #[.int .i64 (P : Int), .slice A1 RN c1], 40) :: gs) → qs.map (·.f) = L → (RN ≤ c1 ∧ (A1 = none → c1 = 0)) → (LN ≤ c2 ∧ (A2 = none → c2 = 0)) → w0.heap.size ≤ g11 → w0.heap.size ≤ g13 → Below w0.heap.size w0 w → KK { tmps := #[v0, .slice Ac nc cc, .int .i64 (mm : Int), .pointer (some ⟨g3, 0, none⟩), v4, v5, v6, v7, v8, v9, v10, .pointer (some ⟨g11, 0, none⟩), .slice A2 LN c2, .pointer (some ⟨g13, 0, none⟩), .int .i64 0, v15, v16, v17, v18, v19, v20, v21, v22, v23, v24, v25, v26, v27, v28, v29, v30, v31, v32, v33, v34, v35, v36, v37, v38, v39, v40, v41, v42, v43, v44, .tuple #[.agg #[.int .i64 (P : Int), .slice A1 RN c1], .slice A2 LN c2, .agg #[.bool xb, .int .i64 0, .int .u32 (X : Int)], .int .i64 0], .agg #[.int .i64 p, .slice A rn c], .slice Ac nc cc, .int .i64 (mm : Int), .slice A' n' c', .tuple #[.agg #[.int .i64 (P : Int), .slice A1 RN c1], .slice A2 LN c2, .agg #[.bool xb, .int .i64 0, .int .u32 (X : Int)], .int .i64 0], .agg #[.int .i64 (P : Int), .slice A1 RN c1], .slice A2 LN c2, .agg #[.bool xb, .int .i64 0, .int .u32 (X : Int)], .int .i64 0, v55, v56, v57, v58, v59, v60, v61, v62, v63, v64, v65, v66, v67, v68, v69, v70, v71, v72, v73, v74, v75, v76, v77, v78, v79, v80, v81, v82, v83, v84, v85, v86, v87, v88, v89, v90, v91, v92, v93, v94, v95, v96, v97, v98, v99, v100, v101, v102, v103, v104, v105, v106, v107, v108, v109, v110, v111, v112, v113, v114, v115, v116, v117, v118], defers := [] } w) (hm : qs.map (·.f) = L) (hh1 : RN ≤ c1 ∧ (A1 = none → c1 = 0)) (hh2 : LN ≤ c2 ∧ (A2 = none → c2 = 0)) (le13 : w0.heap.size ≤ g13) {w : World} (ls : Array Bool) (hl : ls = #[true, true, true, true, true, true, true, true, true, true, false, true, false, false, false, false]) (K : EnvF w (qF A2 LN qs :: bF A1 RN R :: fs) ((g13, #[.bool false, .int .i64 0, .int .u32 0], 34) :: gs)) (B : Below w0.heap.size w0 w) :
    wpAnyH Try.prog .any q5ops.toArray (Exit.then KK fun _ _ _ => False) (fun W' => W'.cell? ⟨g3, 0, none⟩ = some (.int .i64 p) ∧ W'.cell? ⟨g3, 1, none⟩ = some (.slice A rn c)) 5 ls { tmps := #[v0, .slice Ac nc cc, .int .i64 (mm : Int), .pointer (some ⟨g3, 0, none⟩), v4, v5, v6, v7, v8, v9, v10, v11, v12, .pointer (some ⟨g13, 0, none⟩), v14, v15, v16, v17, v18, v19, v20, v21, v22, v23, v24, v25, v26, v27, v28, v29, v30, v31, v32, v33, v34, v35, v36, v37, v38, v39, v40, v41, v42, v43, v44, .tuple #[.agg #[.int .i64 (P : Int), .slice A1 RN c1], .slice A2 LN c2, .agg #[.bool xb, .int .i64 0, .int .u32 (X : Int)], .int .i64 0], .agg #[.int .i64 p, .slice A rn c], .slice Ac nc cc, .int .i64 (mm : Int), .slice A' n' c', .tuple #[.agg #[.int .i64 (P : Int), .slice A1 RN c1], .slice A2 LN c2, .agg #[.bool xb, .int .i64 0, .int .u32 (X : Int)], .int .i64 0], .agg #[.int .i64 (P : Int), .slice A1 RN c1], .slice A2 LN c2, .agg #[.bool xb, .int .i64 0, .int .u32 (X : Int)], .int .i64 0, v55, v56, v57, v58, v59, v60, v61, v62, v63, v64, v65, v66, v67, v68, v69, v70, v71, v72, v73, v74, v75, v76, v77, v78, v79, v80, v81, v82, v83, v84, v85, v86, v87, v88, v89, v90, v91, v92, v93, v94, v95, v96, v97, v98, v99, v100, v101, v102, v103, v104, v105, v106, v107, v108, v109, v110, v111, v112, v113, v114, v115, v116, v117, v118], defers := [] } w := by
  subst hl
  refine wpAnyH_ready (rs := [10]) (by as_aux_lemma => kernel_rfl) (by simp) ?_
  refine AllReadyH.cons (getOf (i := 10) rfl) (fun K' hK => ?_) ?_
  ·
    go_simp
    have K2 := (K.boxg 40 #[.int .i64 0, .slice none 0 0] w.heap.size rfl).swap
    have B2 := B.alloc B.size (.cells #[.int .i64 0, .slice none 0 0] 40)
    have le11 := B.size
    refine hK.out _ _ (cells2_row (K2.g _ (List.Mem.tail _ (List.Mem.tail _ (h3))))) (fun hH => ?_)
    clear hK K'
    try simp only [Act.put, List.setIfInBounds_toArray, List.set_cons_zero, List.set_cons_succ]
    exact q5_cab HFD h3 hr hc1 hN hrc hN' hmc hR hm hh1 hh2 le11 le13 _ (by kernel_rfl) K2 B2
  exact AllReadyH.nil
set_option maxRecDepth 100000 in
set_option maxHeartbeats 4000000 in
theorem q5_ca {w0 : World} {fs : List Fact} {gs : List Bx} {p : Int} {A A' Ac : Option Addr} {rn c nc cc mm n' c' P RN X LN g3 : Nat} {r cs R : List UInt8} {xb : Bool} {L : List (List UInt8)} {v0 v4 v5 v6 v7 v8 v9 v10 v12 v13 v14 v15 v16 v17 v18 v19 v20 v21 v22 v23 v24 v25 v26 v27 v28 v29 v30 v31 v32 v33 v34 v35 v36 v37 v38 v39 v40 v41 v42 v43 v44 v55 v56 v57 v58 v59 v60 v61 v62 v63 v64 v65 v66 v67 v68 v69 v70 v71 v72 v73 v74 v75 v76 v77 v78 v79 v80 v81 v82 v83 v84 v85 v86 v87 v88 v89 v90 v91 v92 v93 v94 v95 v96 v97 v98 v99 v100 v101 v102 v103 v104 v105 v106 v107 v108 v109 v110 v111 v112 v113 v114 v115 v116 v117 v118 : Value} {KK : Act → World → Prop} {g11 : Nat} {A1 : Option Addr} {c1 : Nat} {A2 : Option Addr} {c2 : Nat} {qs : List Pq} (HFD : Hid (FeedTo p r rn cs n' P R RN X xb L LN)) (h3 : (g3, #[.int .i64 p, .slice A rn c], 40) ∈ gs) (hr : bF A rn r ∈ fs) (hc1 : bF A' n' cs ∈ fs) (hN : A = none → c = 0) (hrc : rn ≤ c) (hN' : A' = none → c' = 0) (hmc : n' ≤ c') (hR : ∀ (g11 g13 : Nat) (A1 : Option Addr) (c1 : Nat) (A2 : Option Addr) (c2 : Nat) (qs : List Pq) (w : World), EnvF w (qF A2 LN qs :: bF A1 RN R :: fs) ((g13, #[.bool xb, .int .i64 0, .int .u32 (X : Int)], 34) :: (g11, #[.int .i64 (P : Int), .slice A1 RN c1], 40) :: gs) → qs.map (·.f) = L → (RN ≤ c1 ∧ (A1 = none → c1 = 0)) → (LN ≤ c2 ∧ (A2 = none → c2 = 0)) → w0.heap.size ≤ g11 → w0.heap.size ≤ g13 → Below w0.heap.size w0 w → KK { tmps := #[v0, .slice Ac nc cc, .int .i64 (mm : Int), .pointer (some ⟨g3, 0, none⟩), v4, v5, v6, v7, v8, v9, v10, .pointer (some ⟨g11, 0, none⟩), .slice A2 LN c2, .pointer (some ⟨g13, 0, none⟩), .int .i64 0, v15, v16, v17, v18, v19, v20, v21, v22, v23, v24, v25, v26, v27, v28, v29, v30, v31, v32, v33, v34, v35, v36, v37, v38, v39, v40, v41, v42, v43, v44, .tuple #[.agg #[.int .i64 (P : Int), .slice A1 RN c1], .slice A2 LN c2, .agg #[.bool xb, .int .i64 0, .int .u32 (X : Int)], .int .i64 0], .agg #[.int .i64 p, .slice A rn c], .slice Ac nc cc, .int .i64 (mm : Int), .slice A' n' c', .tuple #[.agg #[.int .i64 (P : Int), .slice A1 RN c1], .slice A2 LN c2, .agg #[.bool xb, .int .i64 0, .int .u32 (X : Int)], .int .i64 0], .agg #[.int .i64 (P : Int), .slice A1 RN c1], .slice A2 LN c2, .agg #[.bool xb, .int .i64 0, .int .u32 (X : Int)], .int .i64 0, v55, v56, v57, v58, v59, v60, v61, v62, v63, v64, v65, v66, v67, v68, v69, v70, v71, v72, v73, v74, v75, v76, v77, v78, v79, v80, v81, v82, v83, v84, v85, v86, v87, v88, v89, v90, v91, v92, v93, v94, v95, v96, v97, v98, v99, v100, v101, v102, v103, v104, v105, v106, v107, v108, v109, v110, v111, v112, v113, v114, v115, v116, v117, v118], defers := [] } w) (hm : qs.map (·.f) = L) (hh1 : RN ≤ c1 ∧ (A1 = none → c1 = 0)) (hh2 : LN ≤ c2 ∧ (A2 = none → c2 = 0)) (le11 : w0.heap.size ≤ g11) {w : World} (ls : Array Bool) (hl : ls = #[true, true, true, true, true, true, true, true, true, true, true, false, false, false, false, false]) (K : EnvF w (qF A2 LN qs :: bF A1 RN R :: fs) ((g11, #[.int .i64 0, .slice none 0 0], 40) :: gs)) (B : Below w0.heap.size w0 w) :
    wpAnyH Try.prog .any q5ops.toArray (Exit.then KK fun _ _ _ => False) (fun W' => W'.cell? ⟨g3, 0, none⟩ = some (.int .i64 p) ∧ W'.cell? ⟨g3, 1, none⟩ = some (.slice A rn c)) 5 ls { tmps := #[v0, .slice Ac nc cc, .int .i64 (mm : Int), .pointer (some ⟨g3, 0, none⟩), v4, v5, v6, v7, v8, v9, v10, .pointer (some ⟨g11, 0, none⟩), v12, v13, v14, v15, v16, v17, v18, v19, v20, v21, v22, v23, v24, v25, v26, v27, v28, v29, v30, v31, v32, v33, v34, v35, v36, v37, v38, v39, v40, v41, v42, v43, v44, .tuple #[.agg #[.int .i64 (P : Int), .slice A1 RN c1], .slice A2 LN c2, .agg #[.bool xb, .int .i64 0, .int .u32 (X : Int)], .int .i64 0], .agg #[.int .i64 p, .slice A rn c], .slice Ac nc cc, .int .i64 (mm : Int), .slice A' n' c', .tuple #[.agg #[.int .i64 (P : Int), .slice A1 RN c1], .slice A2 LN c2, .agg #[.bool xb, .int .i64 0, .int .u32 (X : Int)], .int .i64 0], .agg #[.int .i64 (P : Int), .slice A1 RN c1], .slice A2 LN c2, .agg #[.bool xb, .int .i64 0, .int .u32 (X : Int)], .int .i64 0, v55, v56, v57, v58, v59, v60, v61, v62, v63, v64, v65, v66, v67, v68, v69, v70, v71, v72, v73, v74, v75, v76, v77, v78, v79, v80, v81, v82, v83, v84, v85, v86, v87, v88, v89, v90, v91, v92, v93, v94, v95, v96, v97, v98, v99, v100, v101, v102, v103, v104, v105, v106, v107, v108, v109, v110, v111, v112, v113, v114, v115, v116, v117, v118], defers := [] } w := by
  subst hl
  refine wpAnyH_ready (rs := [11]) (by as_aux_lemma => kernel_rfl) (by simp) ?_
  refine AllReadyH.cons (getOf (i := 11) rfl) (fun K' hK => ?_) ?_
  ·
    go_simp
    have K2 := (K.boxg 34 #[.bool false, .int .i64 0, .int .u32 0] w.heap.size rfl)
    have B2 := B.alloc B.size (.cells #[.bool false, .int .i64 0, .int .u32 0] 34)
    have le13 := B.size
    refine hK.out _ _ (cells2_row (K2.g _ (List.Mem.tail _ (List.Mem.tail _ (h3))))) (fun hH => ?_)
    clear hK K'
    try simp only [Act.put, List.setIfInBounds_toArray, List.set_cons_zero, List.set_cons_succ]
    exact q5_cab HFD h3 hr hc1 hN hrc hN' hmc hR hm hh1 hh2 le11 le13 _ (by kernel_rfl) K2 B2
  exact AllReadyH.nil
set_option maxRecDepth 100000 in
set_option maxHeartbeats 4000000 in
theorem q5_c {w0 : World} {fs : List Fact} {gs : List Bx} {p : Int} {A A' Ac : Option Addr} {rn c nc cc mm n' c' P RN X LN g3 : Nat} {r cs R : List UInt8} {xb : Bool} {L : List (List UInt8)} {v0 v4 v5 v6 v7 v8 v9 v10 v11 v12 v13 v14 v15 v16 v17 v18 v19 v20 v21 v22 v23 v24 v25 v26 v27 v28 v29 v30 v31 v32 v33 v34 v35 v36 v37 v38 v39 v40 v41 v42 v43 v44 v55 v56 v57 v58 v59 v60 v61 v62 v63 v64 v65 v66 v67 v68 v69 v70 v71 v72 v73 v74 v75 v76 v77 v78 v79 v80 v81 v82 v83 v84 v85 v86 v87 v88 v89 v90 v91 v92 v93 v94 v95 v96 v97 v98 v99 v100 v101 v102 v103 v104 v105 v106 v107 v108 v109 v110 v111 v112 v113 v114 v115 v116 v117 v118 : Value} {KK : Act → World → Prop} {A1 : Option Addr} {c1 : Nat} {A2 : Option Addr} {c2 : Nat} {qs : List Pq} (HFD : Hid (FeedTo p r rn cs n' P R RN X xb L LN)) (h3 : (g3, #[.int .i64 p, .slice A rn c], 40) ∈ gs) (hr : bF A rn r ∈ fs) (hc1 : bF A' n' cs ∈ fs) (hN : A = none → c = 0) (hrc : rn ≤ c) (hN' : A' = none → c' = 0) (hmc : n' ≤ c') (hR : ∀ (g11 g13 : Nat) (A1 : Option Addr) (c1 : Nat) (A2 : Option Addr) (c2 : Nat) (qs : List Pq) (w : World), EnvF w (qF A2 LN qs :: bF A1 RN R :: fs) ((g13, #[.bool xb, .int .i64 0, .int .u32 (X : Int)], 34) :: (g11, #[.int .i64 (P : Int), .slice A1 RN c1], 40) :: gs) → qs.map (·.f) = L → (RN ≤ c1 ∧ (A1 = none → c1 = 0)) → (LN ≤ c2 ∧ (A2 = none → c2 = 0)) → w0.heap.size ≤ g11 → w0.heap.size ≤ g13 → Below w0.heap.size w0 w → KK { tmps := #[v0, .slice Ac nc cc, .int .i64 (mm : Int), .pointer (some ⟨g3, 0, none⟩), v4, v5, v6, v7, v8, v9, v10, .pointer (some ⟨g11, 0, none⟩), .slice A2 LN c2, .pointer (some ⟨g13, 0, none⟩), .int .i64 0, v15, v16, v17, v18, v19, v20, v21, v22, v23, v24, v25, v26, v27, v28, v29, v30, v31, v32, v33, v34, v35, v36, v37, v38, v39, v40, v41, v42, v43, v44, .tuple #[.agg #[.int .i64 (P : Int), .slice A1 RN c1], .slice A2 LN c2, .agg #[.bool xb, .int .i64 0, .int .u32 (X : Int)], .int .i64 0], .agg #[.int .i64 p, .slice A rn c], .slice Ac nc cc, .int .i64 (mm : Int), .slice A' n' c', .tuple #[.agg #[.int .i64 (P : Int), .slice A1 RN c1], .slice A2 LN c2, .agg #[.bool xb, .int .i64 0, .int .u32 (X : Int)], .int .i64 0], .agg #[.int .i64 (P : Int), .slice A1 RN c1], .slice A2 LN c2, .agg #[.bool xb, .int .i64 0, .int .u32 (X : Int)], .int .i64 0, v55, v56, v57, v58, v59, v60, v61, v62, v63, v64, v65, v66, v67, v68, v69, v70, v71, v72, v73, v74, v75, v76, v77, v78, v79, v80, v81, v82, v83, v84, v85, v86, v87, v88, v89, v90, v91, v92, v93, v94, v95, v96, v97, v98, v99, v100, v101, v102, v103, v104, v105, v106, v107, v108, v109, v110, v111, v112, v113, v114, v115, v116, v117, v118], defers := [] } w) (hm : qs.map (·.f) = L) (hh1 : RN ≤ c1 ∧ (A1 = none → c1 = 0)) (hh2 : LN ≤ c2 ∧ (A2 = none → c2 = 0)) {w : World} (ls : Array Bool) (hl : ls = #[true, true, true, true, true, true, true, true, true, true, false, false, false, false, false, false]) (K : EnvF w (qF A2 LN qs :: bF A1 RN R :: fs) (gs)) (B : Below w0.heap.size w0 w) :
    wpAnyH Try.prog .any q5ops.toArray (Exit.then KK fun _ _ _ => False) (fun W' => W'.cell? ⟨g3, 0, none⟩ = some (.int .i64 p) ∧ W'.cell? ⟨g3, 1, none⟩ = some (.slice A rn c)) 6 ls { tmps := #[v0, .slice Ac nc cc, .int .i64 (mm : Int), .pointer (some ⟨g3, 0, none⟩), v4, v5, v6, v7, v8, v9, v10, v11, v12, v13, v14, v15, v16, v17, v18, v19, v20, v21, v22, v23, v24, v25, v26, v27, v28, v29, v30, v31, v32, v33, v34, v35, v36, v37, v38, v39, v40, v41, v42, v43, v44, .tuple #[.agg #[.int .i64 (P : Int), .slice A1 RN c1], .slice A2 LN c2, .agg #[.bool xb, .int .i64 0, .int .u32 (X : Int)], .int .i64 0], .agg #[.int .i64 p, .slice A rn c], .slice Ac nc cc, .int .i64 (mm : Int), .slice A' n' c', .tuple #[.agg #[.int .i64 (P : Int), .slice A1 RN c1], .slice A2 LN c2, .agg #[.bool xb, .int .i64 0, .int .u32 (X : Int)], .int .i64 0], .agg #[.int .i64 (P : Int), .slice A1 RN c1], .slice A2 LN c2, .agg #[.bool xb, .int .i64 0, .int .u32 (X : Int)], .int .i64 0, v55, v56, v57, v58, v59, v60, v61, v62, v63, v64, v65, v66, v67, v68, v69, v70, v71, v72, v73, v74, v75, v76, v77, v78, v79, v80, v81, v82, v83, v84, v85, v86, v87, v88, v89, v90, v91, v92, v93, v94, v95, v96, v97, v98, v99, v100, v101, v102, v103, v104, v105, v106, v107, v108, v109, v110, v111, v112, v113, v114, v115, v116, v117, v118], defers := [] } w := by
  subst hl
  refine wpAnyH_ready (rs := [10, 11]) (by as_aux_lemma => kernel_rfl) (by simp) ?_
  refine AllReadyH.cons (getOf (i := 10) rfl) (fun K' hK => ?_) ?_
  ·
    go_simp
    have K2 := (K.boxg 40 #[.int .i64 0, .slice none 0 0] w.heap.size rfl)
    have B2 := B.alloc B.size (.cells #[.int .i64 0, .slice none 0 0] 40)
    have le11 := B.size
    refine hK.out _ _ (cells2_row (K2.g _ (List.Mem.tail _ (h3)))) (fun hH => ?_)
    clear hK K'
    try simp only [Act.put, List.setIfInBounds_toArray, List.set_cons_zero, List.set_cons_succ]
    exact q5_ca HFD h3 hr hc1 hN hrc hN' hmc hR hm hh1 hh2 le11 _ (by kernel_rfl) K2 B2
  refine AllReadyH.cons (getOf (i := 11) rfl) (fun K' hK => ?_) ?_
  ·
    go_simp
    have K2 := (K.boxg 34 #[.bool false, .int .i64 0, .int .u32 0] w.heap.size rfl)
    have B2 := B.alloc B.size (.cells #[.bool false, .int .i64 0, .int .u32 0] 34)
    have le13 := B.size
    refine hK.out _ _ (cells2_row (K2.g _ (List.Mem.tail _ (h3)))) (fun hH => ?_)
    clear hK K'
    try simp only [Act.put, List.setIfInBounds_toArray, List.set_cons_zero, List.set_cons_succ]
    exact q5_cb HFD h3 hr hc1 hN hrc hN' hmc hR hm hh1 hh2 le13 _ (by kernel_rfl) K2 B2
  exact AllReadyH.nil
set_option maxRecDepth 100000 in
set_option maxHeartbeats 4000000 in
theorem q5_ab {w0 : World} {fs : List Fact} {gs : List Bx} {p : Int} {A A' Ac : Option Addr} {rn c nc cc mm n' c' P RN X LN g3 : Nat} {r cs R : List UInt8} {xb : Bool} {L : List (List UInt8)} {v0 v4 v5 v6 v7 v8 v9 v10 v12 v14 v15 v16 v17 v18 v19 v20 v21 v22 v23 v24 v25 v26 v27 v28 v29 v30 v31 v32 v33 v34 v35 v36 v37 v38 v39 v40 v41 v42 v43 v44 v45 v50 v51 v52 v53 v54 v55 v56 v57 v58 v59 v60 v61 v62 v63 v64 v65 v66 v67 v68 v69 v70 v71 v72 v73 v74 v75 v76 v77 v78 v79 v80 v81 v82 v83 v84 v85 v86 v87 v88 v89 v90 v91 v92 v93 v94 v95 v96 v97 v98 v99 v100 v101 v102 v103 v104 v105 v106 v107 v108 v109 v110 v111 v112 v113 v114 v115 v116 v117 v118 : Value} {KK : Act → World → Prop} {g11 : Nat} {g13 : Nat} (HFD : Hid (FeedTo p r rn cs n' P R RN X xb L LN)) (h3 : (g3, #[.int .i64 p, .slice A rn c], 40) ∈ gs) (hr : bF A rn r ∈ fs) (hc1 : bF A' n' cs ∈ fs) (hN : A = none → c = 0) (hrc : rn ≤ c) (hN' : A' = none → c' = 0) (hmc : n' ≤ c') (hR : ∀ (g11 g13 : Nat) (A1 : Option Addr) (c1 : Nat) (A2 : Option Addr) (c2 : Nat) (qs : List Pq) (w : World), EnvF w (qF A2 LN qs :: bF A1 RN R :: fs) ((g13, #[.bool xb, .int .i64 0, .int .u32 (X : Int)], 34) :: (g11, #[.int .i64 (P : Int), .slice A1 RN c1], 40) :: gs) → qs.map (·.f) = L → (RN ≤ c1 ∧ (A1 = none → c1 = 0)) → (LN ≤ c2 ∧ (A2 = none → c2 = 0)) → w0.heap.size ≤ g11 → w0.heap.size ≤ g13 → Below w0.heap.size w0 w → KK { tmps := #[v0, .slice Ac nc cc, .int .i64 (mm : Int), .pointer (some ⟨g3, 0, none⟩), v4, v5, v6, v7, v8, v9, v10, .pointer (some ⟨g11, 0, none⟩), .slice A2 LN c2, .pointer (some ⟨g13, 0, none⟩), .int .i64 0, v15, v16, v17, v18, v19, v20, v21, v22, v23, v24, v25, v26, v27, v28, v29, v30, v31, v32, v33, v34, v35, v36, v37, v38, v39, v40, v41, v42, v43, v44, .tuple #[.agg #[.int .i64 (P : Int), .slice A1 RN c1], .slice A2 LN c2, .agg #[.bool xb, .int .i64 0, .int .u32 (X : Int)], .int .i64 0], .agg #[.int .i64 p, .slice A rn c], .slice Ac nc cc, .int .i64 (mm : Int), .slice A' n' c', .tuple #[.agg #[.int .i64 (P : Int), .slice A1 RN c1], .slice A2 LN c2, .agg #[.bool xb, .int .i64 0, .int .u32 (X : Int)], .int .i64 0], .agg #[.int .i64 (P : Int), .slice A1 RN c1], .slice A2 LN c2, .agg #[.bool xb, .int .i64 0, .int .u32 (X : Int)], .int .i64 0, v55, v56, v57, v58, v59, v60, v61, v62, v63, v64, v65, v66, v67, v68, v69, v70, v71, v72, v73, v74, v75, v76, v77, v78, v79, v80, v81, v82, v83, v84, v85, v86, v87, v88, v89, v90, v91, v92, v93, v94, v95, v96, v97, v98, v99, v100, v101, v102, v103, v104, v105, v106, v107, v108, v109, v110, v111, v112, v113, v114, v115, v116, v117, v118], defers := [] } w) (le11 : w0.heap.size ≤ g11) (le13 : w0.heap.size ≤ g13) {w : World} (ls : Array Bool) (hl : ls = #[true, true, true, true, false, false, false, false, false, false, true, true, false, false, false, false]) (K : EnvF w fs ((g13, #[.bool false, .int .i64 0, .int .u32 0], 34) :: (g11, #[.int .i64 0, .slice none 0 0], 40) :: gs)) (B : Below w0.heap.size w0 w) :
    wpAnyH Try.prog .any q5ops.toArray (Exit.then KK fun _ _ _ => False) (fun W' => W'.cell? ⟨g3, 0, none⟩ = some (.int .i64 p) ∧ W'.cell? ⟨g3, 1, none⟩ = some (.slice A rn c)) 10 ls { tmps := #[v0, .slice Ac nc cc, .int .i64 (mm : Int), .pointer (some ⟨g3, 0, none⟩), v4, v5, v6, v7, v8, v9, v10, .pointer (some ⟨g11, 0, none⟩), v12, .pointer (some ⟨g13, 0, none⟩), v14, v15, v16, v17, v18, v19, v20, v21, v22, v23, v24, v25, v26, v27, v28, v29, v30, v31, v32, v33, v34, v35, v36, v37, v38, v39, v40, v41, v42, v43, v44, v45, .agg #[.int .i64 p, .slice A rn c], .slice Ac nc cc, .int .i64 (mm : Int), .slice A' n' c', v50, v51, v52, v53, v54, v55, v56, v57, v58, v59, v60, v61, v62, v63, v64, v65, v66, v67, v68, v69, v70, v71, v72, v73, v74, v75, v76, v77, v78, v79, v80, v81, v82, v83, v84, v85, v86, v87, v88, v89, v90, v91, v92, v93, v94, v95, v96, v97, v98, v99, v100, v101, v102, v103, v104, v105, v106, v107, v108, v109, v110, v111, v112, v113, v114, v115, v116, v117, v118], defers := [] } w := by
  subst hl
  refine wpAnyH_ready (rs := [4]) (by as_aux_lemma => kernel_rfl) (by simp) ?_
  refine AllReadyH.cons (getOf (i := 4) rfl) (fun K' hK => ?_) ?_
  ·
    go_simp
    go_at_call 14
    refine (HFD.out A A' c c' w (K.bs hr) hN hrc (K.bs hc1) hN' hmc).mono ?_
    rintro e w2 ⟨A1, c1, A2, c2, qs, rfl, hh, hq, hm, hb⟩
    have K2 := (K.handS hb hh).hand2 K hb (x := qF A2 LN qs) ⟨hq.1, fun k hk => ⟨hq.2.1 k hk, hq.1.lt hk⟩⟩
    have B2 := below_step B hb
    have hh1 := hh.2.2
    have hh2 := hq.2.2
    refine hK.out _ _ (cells2_row (K2.g _ (List.Mem.tail _ (List.Mem.tail _ (h3))))) (fun hH => ?_)
    clear hK K'
    try simp only [Act.put, List.setIfInBounds_toArray, List.set_cons_zero, List.set_cons_succ]
    refine takeD (i := 5) (v := ?_) rfl (by as_aux_lemma => kernel_rfl) (by as_aux_lemma => kernel_rfl) (by as_aux_lemma => kernel_rfl) (fun _ _ _ h => h) (Or.inl ⟨by rfl, ?_⟩) hH ?_
    rotate_left
    · intro w hSw; (try dsimp only at hSw); go_simp <;> with_reducible rfl
    try simp only [Act.put, List.setIfInBounds_toArray, List.set_cons_zero, List.set_cons_succ]
    refine takeD (i := 6) (v := ?_) rfl (by as_aux_lemma => kernel_rfl) (by as_aux_lemma => kernel_rfl) (by as_aux_lemma => kernel_rfl) (fun _ _ _ h => h) (Or.inl ⟨by rfl, ?_⟩) hH ?_
    rotate_left
    · intro w hSw; (try dsimp only at hSw); go_simp <;> with_reducible rfl
    try simp only [Act.put, List.setIfInBounds_toArray, List.set_cons_zero, List.set_cons_succ]
    refine takeD (i := 7) (v := ?_) rfl (by as_aux_lemma => kernel_rfl) (by as_aux_lemma => kernel_rfl) (by as_aux_lemma => kernel_rfl) (fun _ _ _ h => h) (Or.inl ⟨by rfl, ?_⟩) hH ?_
    rotate_left
    · intro w hSw; (try dsimp only at hSw); go_simp <;> with_reducible rfl
    try simp only [Act.put, List.setIfInBounds_toArray, List.set_cons_zero, List.set_cons_succ]
    refine takeD (i := 8) (v := ?_) rfl (by as_aux_lemma => kernel_rfl) (by as_aux_lemma => kernel_rfl) (by as_aux_lemma => kernel_rfl) (fun _ _ _ h => h) (Or.inl ⟨by rfl, ?_⟩) hH ?_
    rotate_left
    · intro w hSw; (try dsimp only at hSw); go_simp <;> with_reducible rfl
    try simp only [Act.put, List.setIfInBounds_toArray, List.set_cons_zero, List.set_cons_succ]
    refine takeD (i := 9) (v := ?_) rfl (by as_aux_lemma => kernel_rfl) (by as_aux_lemma => kernel_rfl) (by as_aux_lemma => kernel_rfl) (fun _ _ _ h => h) (Or.inl ⟨by rfl, ?_⟩) hH ?_
    rotate_left
    · intro w hSw; (try dsimp only at hSw); go_simp <;> with_reducible rfl
    try simp only [Act.put, List.setIfInBounds_toArray, List.set_cons_zero, List.set_cons_succ]
    exact q5_cab HFD h3 hr hc1 hN hrc hN' hmc hR hm hh1 hh2 le11 le13 _ (by kernel_rfl) K2 B2
  exact AllReadyH.nil
set_option maxRecDepth 100000 in
set_option maxHeartbeats 4000000 in
theorem q5_b {w0 : World} {fs : List Fact} {gs : List Bx} {p : Int} {A A' Ac : Option Addr} {rn c nc cc mm n' c' P RN X LN g3 : Nat} {r cs R : List UInt8} {xb : Bool} {L : List (List UInt8)} {v0 v4 v5 v6 v7 v8 v9 v10 v11 v12 v14 v15 v16 v17 v18 v19 v20 v21 v22 v23 v24 v25 v26 v27 v28 v29 v30 v31 v32 v33 v34 v35 v36 v37 v38 v39 v40 v41 v42 v43 v44 v45 v50 v51 v52 v53 v54 v55 v56 v57 v58 v59 v60 v61 v62 v63 v64 v65 v66 v67 v68 v69 v70 v71 v72 v73 v74 v75 v76 v77 v78 v79 v80 v81 v82 v83 v84 v85 v86 v87 v88 v89 v90 v91 v92 v93 v94 v95 v96 v97 v98 v99 v100 v101 v102 v103 v104 v105 v106 v107 v108 v109 v110 v111 v112 v113 v114 v115 v116 v117 v118 : Value} {KK : Act → World → Prop} {g13 : Nat} (HFD : Hid (FeedTo p r rn cs n' P R RN X xb L LN)) (h3 : (g3, #[.int .i64 p, .slice A rn c], 40) ∈ gs) (hr : bF A rn r ∈ fs) (hc1 : bF A' n' cs ∈ fs) (hN : A = none → c = 0) (hrc : rn ≤ c) (hN' : A' = none → c' = 0) (hmc : n' ≤ c') (hR : ∀ (g11 g13 : Nat) (A1 : Option Addr) (c1 : Nat) (A2 : Option Addr) (c2 : Nat) (qs : List Pq) (w : World), EnvF w (qF A2 LN qs :: bF A1 RN R :: fs) ((g13, #[.bool xb, .int .i64 0, .int .u32 (X : Int)], 34) :: (g11, #[.int .i64 (P : Int), .slice A1 RN c1], 40) :: gs) → qs.map (·.f) = L → (RN ≤ c1 ∧ (A1 = none → c1 = 0)) → (LN ≤ c2 ∧ (A2 = none → c2 = 0)) → w0.heap.size ≤ g11 → w0.heap.size ≤ g13 → Below w0.heap.size w0 w → KK { tmps := #[v0, .slice Ac nc cc, .int .i64 (mm : Int), .pointer (some ⟨g3, 0, none⟩), v4, v5, v6, v7, v8, v9, v10, .pointer (some ⟨g11, 0, none⟩), .slice A2 LN c2, .pointer (some ⟨g13, 0, none⟩), .int .i64 0, v15, v16, v17, v18, v19, v20, v21, v22, v23, v24, v25, v26, v27, v28, v29, v30, v31, v32, v33, v34, v35, v36, v37, v38, v39, v40, v41, v42, v43, v44, .tuple #[.agg #[.int .i64 (P : Int), .slice A1 RN c1], .slice A2 LN c2, .agg #[.bool xb, .int .i64 0, .int .u32 (X : Int)], .int .i64 0], .agg #[.int .i64 p, .slice A rn c], .slice Ac nc cc, .int .i64 (mm : Int), .slice A' n' c', .tuple #[.agg #[.int .i64 (P : Int), .slice A1 RN c1], .slice A2 LN c2, .agg #[.bool xb, .int .i64 0, .int .u32 (X : Int)], .int .i64 0], .agg #[.int .i64 (P : Int), .slice A1 RN c1], .slice A2 LN c2, .agg #[.bool xb, .int .i64 0, .int .u32 (X : Int)], .int .i64 0, v55, v56, v57, v58, v59, v60, v61, v62, v63, v64, v65, v66, v67, v68, v69, v70, v71, v72, v73, v74, v75, v76, v77, v78, v79, v80, v81, v82, v83, v84, v85, v86, v87, v88, v89, v90, v91, v92, v93, v94, v95, v96, v97, v98, v99, v100, v101, v102, v103, v104, v105, v106, v107, v108, v109, v110, v111, v112, v113, v114, v115, v116, v117, v118], defers := [] } w) (le13 : w0.heap.size ≤ g13) {w : World} (ls : Array Bool) (hl : ls = #[true, true, true, true, false, false, false, false, false, false, false, true, false, false, false, false]) (K : EnvF w fs ((g13, #[.bool false, .int .i64 0, .int .u32 0], 34) :: gs)) (B : Below w0.heap.size w0 w) :
    wpAnyH Try.prog .any q5ops.toArray (Exit.then KK fun _ _ _ => False) (fun W' => W'.cell? ⟨g3, 0, none⟩ = some (.int .i64 p) ∧ W'.cell? ⟨g3, 1, none⟩ = some (.slice A rn c)) 11 ls { tmps := #[v0, .slice Ac nc cc, .int .i64 (mm : Int), .pointer (some ⟨g3, 0, none⟩), v4, v5, v6, v7, v8, v9, v10, v11, v12, .pointer (some ⟨g13, 0, none⟩), v14, v15, v16, v17, v18, v19, v20, v21, v22, v23, v24, v25, v26, v27, v28, v29, v30, v31, v32, v33, v34, v35, v36, v37, v38, v39, v40, v41, v42, v43, v44, v45, .agg #[.int .i64 p, .slice A rn c], .slice Ac nc cc, .int .i64 (mm : Int), .slice A' n' c', v50, v51, v52, v53, v54, v55, v56, v57, v58, v59, v60, v61, v62, v63, v64, v65, v66, v67, v68, v69, v70, v71, v72, v73, v74, v75, v76, v77, v78, v79, v80, v81, v82, v83, v84, v85, v86, v87, v88, v89, v90, v91, v92, v93, v94, v95, v96, v97, v98, v99, v100, v101, v102, v103, v104, v105, v106, v107, v108, v109, v110, v111, v112, v113, v114, v115, v116, v117, v118], defers := [] } w := by
  subst hl
  refine wpAnyH_ready (rs := [4, 10]) (by as_aux_lemma => kernel_rfl) (by simp) ?_
  refine AllReadyH.cons (getOf (i := 4) rfl) (fun K' hK => ?_) ?_
  ·
    go_simp
    go_at_call 14
    refine (HFD.out A A' c c' w (K.bs hr) hN hrc (K.bs hc1) hN' hmc).mono ?_
    rintro e w2 ⟨A1, c1, A2, c2, qs, rfl, hh, hq, hm, hb⟩
    have K2 := (K.handS hb hh).hand2 K hb (x := qF A2 LN qs) ⟨hq.1, fun k hk => ⟨hq.2.1 k hk, hq.1.lt hk⟩⟩
    have B2 := below_step B hb
    have hh1 := hh.2.2
    have hh2 := hq.2.2
    refine hK.out _ _ (cells2_row (K2.g _ (List.Mem.tail _ (h3)))) (fun hH => ?_)
    clear hK K'
    try simp only [Act.put, List.setIfInBounds_toArray, List.set_cons_zero, List.set_cons_succ]
    refine takeD (i := 5) (v := ?_) rfl (by as_aux_lemma => kernel_rfl) (by as_aux_lemma => kernel_rfl) (by as_aux_lemma => kernel_rfl) (fun _ _ _ h => h) (Or.inl ⟨by rfl, ?_⟩) hH ?_
    rotate_left
    · intro w hSw; (try dsimp only at hSw); go_simp <;> with_reducible rfl
    try simp only [Act.put, List.setIfInBounds_toArray, List.set_cons_zero, List.set_cons_succ]
    refine takeD (i := 6) (v := ?_) rfl (by as_aux_lemma => kernel_rfl) (by as_aux_lemma => kernel_rfl) (by as_aux_lemma => kernel_rfl) (fun _ _ _ h => h) (Or.inl ⟨by rfl, ?_⟩) hH ?_
    rotate_left
    · intro w hSw; (try dsimp only at hSw); go_simp <;> with_reducible rfl
    try simp only [Act.put, List.setIfInBounds_toArray, List.set_cons_zero, List.set_cons_succ]
    refine takeD (i := 7) (v := ?_) rfl (by as_aux_lemma => kernel_rfl) (by as_aux_lemma => kernel_rfl) (by as_aux_lemma => kernel_rfl) (fun _ _ _ h => h) (Or.inl ⟨by rfl, ?_⟩) hH ?_
    rotate_left
    · intro w hSw; (try dsimp only at hSw); go_simp <;> with_reducible rfl
    try simp only [Act.put, List.setIfInBounds_toArray, List.set_cons_zero, List.set_cons_succ]
    refine takeD (i := 8) (v := ?_) rfl (by as_aux_lemma => kernel_rfl) (by as_aux_lemma => kernel_rfl) (by as_aux_lemma => kernel_rfl) (fun _ _ _ h => h) (Or.inl ⟨by rfl, ?_⟩) hH ?_
    rotate_left
    · intro w hSw; (try dsimp only at hSw); go_simp <;> with_reducible rfl
    try simp only [Act.put, List.setIfInBounds_toArray, List.set_cons_zero, List.set_cons_succ]
    refine takeD (i := 9) (v := ?_) rfl (by as_aux_lemma => kernel_rfl) (by as_aux_lemma => kernel_rfl) (by as_aux_lemma => kernel_rfl) (fun _ _ _ h => h) (Or.inl ⟨by rfl, ?_⟩) hH ?_
    rotate_left
    · intro w hSw; (try dsimp only at hSw); go_simp <;> with_reducible rfl
    try simp only [Act.put, List.setIfInBounds_toArray, List.set_cons_zero, List.set_cons_succ]
    exact q5_cb HFD h3 hr hc1 hN hrc hN' hmc hR hm hh1 hh2 le13 _ (by kernel_rfl) K2 B2
  refine AllReadyH.cons (getOf (i := 10) rfl) (fun K' hK => ?_) ?_
  ·
    go_simp
    have K2 := (K.boxg 40 #[.int .i64 0, .slice none 0 0] w.heap.size rfl).swap
    have B2 := B.alloc B.size (.cells #[.int .i64 0, .slice none 0 0] 40)
    have le11 := B.size
    refine hK.out _ _ (cells2_row (K2.g _ (List.Mem.tail _ (List.Mem.tail _ (h3))))) (fun hH => ?_)
    clear hK K'
    try simp only [Act.put, List.setIfInBounds_toArray, List.set_cons_zero, List.set_cons_succ]
    exact q5_ab HFD h3 hr hc1 hN hrc hN' hmc hR le11 le13 _ (by kernel_rfl) K2 B2
  exact AllReadyH.nil
set_option maxRecDepth 100000 in
set_option maxHeartbeats 4000000 in
theorem q5_a {w0 : World} {fs : List Fact} {gs : List Bx} {p : Int} {A A' Ac : Option Addr} {rn c nc cc mm n' c' P RN X LN g3 : Nat} {r cs R : List UInt8} {xb : Bool} {L : List (List UInt8)} {v0 v4 v5 v6 v7 v8 v9 v10 v12 v13 v14 v15 v16 v17 v18 v19 v20 v21 v22 v23 v24 v25 v26 v27 v28 v29 v30 v31 v32 v33 v34 v35 v36 v37 v38 v39 v40 v41 v42 v43 v44 v45 v50 v51 v52 v53 v54 v55 v56 v57 v58 v59 v60 v61 v62 v63 v64 v65 v66 v67 v68 v69 v70 v71 v72 v73 v74 v75 v76 v77 v78 v79 v80 v81 v82 v83 v84 v85 v86 v87 v88 v89 v90 v91 v92 v93 v94 v95 v96 v97 v98 v99 v100 v101 v102 v103 v104 v105 v106 v107 v108 v109 v110 v111 v112 v113 v114 v115 v116 v117 v118 : Value} {KK : Act → World → Prop} {g11 : Nat} (HFD : Hid (FeedTo p r rn cs n' P R RN X xb L LN)) (h3 : (g3, #[.int .i64 p, .slice A rn c], 40) ∈ gs) (hr : bF A rn r ∈ fs) (hc1 : bF A' n' cs ∈ fs) (hN : A = none → c = 0) (hrc : rn ≤ c) (hN' : A' = none → c' = 0) (hmc : n' ≤ c') (hR : ∀ (g11 g13 : Nat) (A1 : Option Addr) (c1 : Nat) (A2 : Option Addr) (c2 : Nat) (qs : List Pq) (w : World), EnvF w (qF A2 LN qs :: bF A1 RN R :: fs) ((g13, #[.bool xb, .int .i64 0, .int .u32 (X : Int)], 34) :: (g11, #[.int .i64 (P : Int), .slice A1 RN c1], 40) :: gs) → qs.map (·.f) = L → (RN ≤ c1 ∧ (A1 = none → c1 = 0)) → (LN ≤ c2 ∧ (A2 = none → c2 = 0)) → w0.heap.size ≤ g11 → w0.heap.size ≤ g13 → Below w0.heap.size w0 w → KK { tmps := #[v0, .slice Ac nc cc, .int .i64 (mm : Int), .pointer (some ⟨g3, 0, none⟩), v4, v5, v6, v7, v8, v9, v10, .pointer (some ⟨g11, 0, none⟩), .slice A2 LN c2, .pointer (some ⟨g13, 0, none⟩), .int .i64 0, v15, v16, v17, v18, v19, v20, v21, v22, v23, v24, v25, v26, v27, v28, v29, v30, v31, v32, v33, v34, v35, v36, v37, v38, v39, v40, v41, v42, v43, v44, .tuple #[.agg #[.int .i64 (P : Int), .slice A1 RN c1], .slice A2 LN c2, .agg #[.bool xb, .int .i64 0, .int .u32 (X : Int)], .int .i64 0], .agg #[.int .i64 p, .slice A rn c], .slice Ac nc cc, .int .i64 (mm : Int), .slice A' n' c', .tuple #[.agg #[.int .i64 (P : Int), .slice A1 RN c1], .slice A2 LN c2, .agg #[.bool xb, .int .i64 0, .int .u32 (X : Int)], .int .i64 0], .agg #[.int .i64 (P : Int), .slice A1 RN c1], .slice A2 LN c2, .agg #[.bool xb, .int .i64 0, .int .u32 (X : Int)], .int .i64 0, v55, v56, v57, v58, v59, v60, v61, v62, v63, v64, v65, v66, v67, v68, v69, v70, v71, v72, v73, v74, v75, v76, v77, v78, v79, v80, v81, v82, v83, v84, v85, v86, v87, v88, v89, v90, v91, v92, v93, v94, v95, v96, v97, v98, v99, v100, v101, v102, v103, v104, v105, v106, v107, v108, v109, v110, v111, v112, v113, v114, v115, v116, v117, v118], defers := [] } w) (le11 : w0.heap.size ≤ g11) {w : World} (ls : Array Bool) (hl : ls = #[true, true, true, true, false, false, false, false, false, false, true, false, false, false, false, false]) (K : EnvF w fs ((g11, #[.int .i64 0, .slice none 0 0], 40) :: gs)) (B : Below w0.heap.size w0 w) :
    wpAnyH Try.prog .any q5ops.toArray (Exit.then KK fun _ _ _ => False) (fun W' => W'.cell? ⟨g3, 0, none⟩ = some (.int .i64 p) ∧ W'.cell? ⟨g3, 1, none⟩ = some (.slice A rn c)) 11 ls { tmps := #[v0, .slice Ac nc cc, .int .i64 (mm : Int), .pointer (some ⟨g3, 0, none⟩), v4, v5, v6, v7, v8, v9, v10, .pointer (some ⟨g11, 0, none⟩), v12, v13, v14, v15, v16, v17, v18, v19, v20, v21, v22, v23, v24, v25, v26, v27, v28, v29, v30, v31, v32, v33, v34, v35, v36, v37, v38, v39, v40, v41, v42, v43, v44, v45, .agg #[.int .i64 p, .slice A rn c], .slice Ac nc cc, .int .i64 (mm : Int), .slice A' n' c', v50, v51, v52, v53, v54, v55, v56, v57, v58, v59, v60, v61, v62, v63, v64, v65, v66, v67, v68, v69, v70, v71, v72, v73, v74, v75, v76, v77, v78, v79, v80, v81, v82, v83, v84, v85, v86, v87, v88, v89, v90, v91, v92, v93, v94, v95, v96, v97, v98, v99, v100, v101, v102, v103, v104, v105, v106, v107, v108, v109, v110, v111, v112, v113, v114, v115, v116, v117, v118], defers := [] } w := by
  subst hl
  refine wpAnyH_ready (rs := [4, 11]) (by as_aux_lemma => kernel_rfl) (by simp) ?_
  refine AllReadyH.cons (getOf (i := 4) rfl) (fun K' hK => ?_) ?_
  ·
    go_simp
    go_at_call 14
    refine (HFD.out A A' c c' w (K.bs hr) hN hrc (K.bs hc1) hN' hmc).mono ?_
    rintro e w2 ⟨A1, c1, A2, c2, qs, rfl, hh, hq, hm, hb⟩
    have K2 := (K.handS hb hh).hand2 K hb (x := qF A2 LN qs) ⟨hq.1, fun k hk => ⟨hq.2.1 k hk, hq.1.lt hk⟩⟩
    have B2 := below_step B hb
    have hh1 := hh.2.2
    have hh2 := hq.2.2
    refine hK.out _ _ (cells2_row (K2.g _ (List.Mem.tail _ (h3)))) (fun hH => ?_)
    clear hK K'
    try simp only [Act.put, List.setIfInBounds_toArray, List.set_cons_zero, List.set_cons_succ]
    refine takeD (i := 5) (v := ?_) rfl (by as_aux_lemma => kernel_rfl) (by as_aux_lemma => kernel_rfl) (by as_aux_lemma => kernel_rfl) (fun _ _ _ h => h) (Or.inl ⟨by rfl, ?_⟩) hH ?_
    rotate_left
    · intro w hSw; (try dsimp only at hSw); go_simp <;> with_reducible rfl
    try simp only [Act.put, List.setIfInBounds_toArray, List.set_cons_zero, List.set_cons_succ]
    refine takeD (i := 6) (v := ?_) rfl (by as_aux_lemma => kernel_rfl) (by as_aux_lemma => kernel_rfl) (by as_aux_lemma => kernel_rfl) (fun _ _ _ h => h) (Or.inl ⟨by rfl, ?_⟩) hH ?_
    rotate_left
    · intro w hSw; (try dsimp only at hSw); go_simp <;> with_reducible rfl
    try simp only [Act.put, List.setIfInBounds_toArray, List.set_cons_zero, List.set_cons_succ]
    refine takeD (i := 7) (v := ?_) rfl (by as_aux_lemma => kernel_rfl) (by as_aux_lemma => kernel_rfl) (by as_aux_lemma => kernel_rfl) (fun _ _ _ h => h) (Or.inl ⟨by rfl, ?_⟩) hH ?_
    rotate_left
    · intro w hSw; (try dsimp only at hSw); go_simp <;> with_reducible rfl
    try simp only [Act.put, List.setIfInBounds_toArray, List.set_cons_zero, List.set_cons_succ]
    refine takeD (i := 8) (v := ?_) rfl (by as_aux_lemma => kernel_rfl) (by as_aux_lemma => kernel_rfl) (by as_aux_lemma => kernel_rfl) (fun _ _ _ h => h) (Or.inl ⟨by rfl, ?_⟩) hH ?_
    rotate_left
    · intro w hSw; (try dsimp only at hSw); go_simp <;> with_reducible rfl
    try simp only [Act.put, List.setIfInBounds_toArray, List.set_cons_zero, List.set_cons_succ]
    refine takeD (i := 9) (v := ?_) rfl (by as_aux_lemma => kernel_rfl) (by as_aux_lemma => kernel_rfl) (by as_aux_lemma => kernel_rfl) (fun _ _ _ h => h) (Or.inl ⟨by rfl, ?_⟩) hH ?_
    rotate_left
    · intro w hSw; (try dsimp only at hSw); go_simp <;> with_reducible rfl
    try simp only [Act.put, List.setIfInBounds_toArray, List.set_cons_zero, List.set_cons_succ]
    exact q5_ca HFD h3 hr hc1 hN hrc hN' hmc hR hm hh1 hh2 le11 _ (by kernel_rfl) K2 B2
  refine AllReadyH.cons (getOf (i := 11) rfl) (fun K' hK => ?_) ?_
  ·
    go_simp
    have K2 := (K.boxg 34 #[.bool false, .int .i64 0, .int .u32 0] w.heap.size rfl)
    have B2 := B.alloc B.size (.cells #[.bool false, .int .i64 0, .int .u32 0] 34)
    have le13 := B.size
    refine hK.out _ _ (cells2_row (K2.g _ (List.Mem.tail _ (List.Mem.tail _ (h3))))) (fun hH => ?_)
    clear hK K'
    try simp only [Act.put, List.setIfInBounds_toArray, List.set_cons_zero, List.set_cons_succ]
    exact q5_ab HFD h3 hr hc1 hN hrc hN' hmc hR le11 le13 _ (by kernel_rfl) K2 B2
  exact AllReadyH.nil
set_option maxRecDepth 100000 in
set_option maxHeartbeats 4000000 in
theorem q5_0 {w0 : World} {fs : List Fact} {gs : List Bx} {p : Int} {A A' Ac : Option Addr} {rn c nc cc mm n' c' P RN X LN g3 : Nat} {r cs R : List UInt8} {xb : Bool} {L : List (List UInt8)} {v0 v4 v5 v6 v7 v8 v9 v10 v11 v12 v13 v14 v15 v16 v17 v18 v19 v20 v21 v22 v23 v24 v25 v26 v27 v28 v29 v30 v31 v32 v33 v34 v35 v36 v37 v38 v39 v40 v41 v42 v43 v44 v45 v50 v51 v52 v53 v54 v55 v56 v57 v58 v59 v60 v61 v62 v63 v64 v65 v66 v67 v68 v69 v70 v71 v72 v73 v74 v75 v76 v77 v78 v79 v80 v81 v82 v83 v84 v85 v86 v87 v88 v89 v90 v91 v92 v93 v94 v95 v96 v97 v98 v99 v100 v101 v102 v103 v104 v105 v106 v107 v108 v109 v110 v111 v112 v113 v114 v115 v116 v117 v118 : Value} {KK : Act → World → Prop} (HFD : Hid (FeedTo p r rn cs n' P R RN X xb L LN)) (h3 : (g3, #[.int .i64 p, .slice A rn c], 40) ∈ gs) (hr : bF A rn r ∈ fs) (hc1 : bF A' n' cs ∈ fs) (hN : A = none → c = 0) (hrc : rn ≤ c) (hN' : A' = none → c' = 0) (hmc : n' ≤ c') (hR : ∀ (g11 g13 : Nat) (A1 : Option Addr) (c1 : Nat) (A2 : Option Addr) (c2 : Nat) (qs : List Pq) (w : World), EnvF w (qF A2 LN qs :: bF A1 RN R :: fs) ((g13, #[.bool xb, .int .i64 0, .int .u32 (X : Int)], 34) :: (g11, #[.int .i64 (P : Int), .slice A1 RN c1], 40) :: gs) → qs.map (·.f) = L → (RN ≤ c1 ∧ (A1 = none → c1 = 0)) → (LN ≤ c2 ∧ (A2 = none → c2 = 0)) → w0.heap.size ≤ g11 → w0.heap.size ≤ g13 → Below w0.heap.size w0 w → KK { tmps := #[v0, .slice Ac nc cc, .int .i64 (mm : Int), .pointer (some ⟨g3, 0, none⟩), v4, v5, v6, v7, v8, v9, v10, .pointer (some ⟨g11, 0, none⟩), .slice A2 LN c2, .pointer (some ⟨g13, 0, none⟩), .int .i64 0, v15, v16, v17, v18, v19, v20, v21, v22, v23, v24, v25, v26, v27, v28, v29, v30, v31, v32, v33, v34, v35, v36, v37, v38, v39, v40, v41, v42, v43, v44, .tuple #[.agg #[.int .i64 (P : Int), .slice A1 RN c1], .slice A2 LN c2, .agg #[.bool xb, .int .i64 0, .int .u32 (X : Int)], .int .i64 0], .agg #[.int .i64 p, .slice A rn c], .slice Ac nc cc, .int .i64 (mm : Int), .slice A' n' c', .tuple #[.agg #[.int .i64 (P : Int), .slice A1 RN c1], .slice A2 LN c2, .agg #[.bool xb, .int .i64 0, .int .u32 (X : Int)], .int .i64 0], .agg #[.int .i64 (P : Int), .slice A1 RN c1], .slice A2 LN c2, .agg #[.bool xb, .int .i64 0, .int .u32 (X : Int)], .int .i64 0, v55, v56, v57, v58, v59, v60, v61, v62, v63, v64, v65, v66, v67, v68, v69, v70, v71, v72, v73, v74, v75, v76, v77, v78, v79, v80, v81, v82, v83, v84, v85, v86, v87, v88, v89, v90, v91, v92, v93, v94, v95, v96, v97, v98, v99, v100, v101, v102, v103, v104, v105, v106, v107, v108, v109, v110, v111, v112, v113, v114, v115, v116, v117, v118], defers := [] } w) {w : World} (ls : Array Bool) (hl : ls = #[true, true, true, true, false, false, false, false, false, false, false, false, false, false, false, false]) (K : EnvF w fs (gs)) (B : Below w0.heap.size w0 w) :
    wpAnyH Try.prog .any q5ops.toArray (Exit.then KK fun _ _ _ => False) (fun W' => W'.cell? ⟨g3, 0, none⟩ = some (.int .i64 p) ∧ W'.cell? ⟨g3, 1, none⟩ = some (.slice A rn c)) 12 ls { tmps := #[v0, .slice Ac nc cc, .int .i64 (mm : Int), .pointer (some ⟨g3, 0, none⟩), v4, v5, v6, v7, v8, v9, v10, v11, v12, v13, v14, v15, v16, v17, v18, v19, v20, v21, v22, v23, v24, v25, v26, v27, v28, v29, v30, v31, v32, v33, v34, v35, v36, v37, v38, v39, v40, v41, v42, v43, v44, v45, .agg #[.int .i64 p, .slice A rn c], .slice Ac nc cc, .int .i64 (mm : Int), .slice A' n' c', v50, v51, v52, v53, v54, v55, v56, v57, v58, v59, v60, v61, v62, v63, v64, v65, v66, v67, v68, v69, v70, v71, v72, v73, v74, v75, v76, v77, v78, v79, v80, v81, v82, v83, v84, v85, v86, v87, v88, v89, v90, v91, v92, v93, v94, v95, v96, v97, v98, v99, v100, v101, v102, v103, v104, v105, v106, v107, v108, v109, v110, v111, v112, v113, v114, v115, v116, v117, v118], defers := [] } w := by
  subst hl
  refine wpAnyH_ready (rs := [4, 10, 11]) (by as_aux_lemma => kernel_rfl) (by simp) ?_
  refine AllReadyH.cons (getOf (i := 4) rfl) (fun K' hK => ?_) ?_
  ·
    go_simp
    go_at_call 14
    refine (HFD.out A A' c c' w (K.bs hr) hN hrc (K.bs hc1) hN' hmc).mono ?_
    rintro e w2 ⟨A1, c1, A2, c2, qs, rfl, hh, hq, hm, hb⟩
    have K2 := (K.handS hb hh).hand2 K hb (x := qF A2 LN qs) ⟨hq.1, fun k hk => ⟨hq.2.1 k hk, hq.1.lt hk⟩⟩
    have B2 := below_step B hb
    have hh1 := hh.2.2
    have hh2 := hq.2.2
    refine hK.out _ _ (cells2_row (K2.g _ (h3))) (fun hH => ?_)
    clear hK K'
    try simp only [Act.put, List.setIfInBounds_toArray, List.set_cons_zero, List.set_cons_succ]
    refine takeD (i := 5) (v := ?_) rfl (by as_aux_lemma => kernel_rfl) (by as_aux_lemma => kernel_rfl) (by as_aux_lemma => kernel_rfl) (fun _ _ _ h => h) (Or.inl ⟨by rfl, ?_⟩) hH ?_
    rotate_left
    · intro w hSw; (try dsimp only at hSw); go_simp <;> with_reducible rfl
    try simp only [Act.put, List.setIfInBounds_toArray, List.set_cons_zero, List.set_cons_succ]
    refine takeD (i := 6) (v := ?_) rfl (by as_aux_lemma => kernel_rfl) (by as_aux_lemma => kernel_rfl) (by as_aux_lemma => kernel_rfl) (fun _ _ _ h => h) (Or.inl ⟨by rfl, ?_⟩) hH ?_
    rotate_left
    · intro w hSw; (try dsimp only at hSw); go_simp <;> with_reducible rfl
    try simp only [Act.put, List.setIfInBounds_toArray, List.set_cons_zero, List.set_cons_succ]
    refine takeD (i := 7) (v := ?_) rfl (by as_aux_lemma => kernel_rfl) (by as_aux_lemma => kernel_rfl) (by as_aux_lemma => kernel_rfl) (fun _ _ _ h => h) (Or.inl ⟨by rfl, ?_⟩) hH ?_
    rotate_left
    · intro w hSw; (try dsimp only at hSw); go_simp <;> with_reducible rfl
    try simp only [Act.put, List.setIfInBounds_toArray, List.set_cons_zero, List.set_cons_succ]
    refine takeD (i := 8) (v := ?_) rfl (by as_aux_lemma => kernel_rfl) (by as_aux_lemma => kernel_rfl) (by as_aux_lemma => kernel_rfl) (fun _ _ _ h => h) (Or.inl ⟨by rfl, ?_⟩) hH ?_
    rotate_left
    · intro w hSw; (try dsimp only at hSw); go_simp <;> with_reducible rfl
    try simp only [Act.put, List.setIfInBounds_toArray, List.set_cons_zero, List.set_cons_succ]
    refine takeD (i := 9) (v := ?_) rfl (by as_aux_lemma => kernel_rfl) (by as_aux_lemma => kernel_rfl) (by as_aux_lemma => kernel_rfl) (fun _ _ _ h => h) (Or.inl ⟨by rfl, ?_⟩) hH ?_
    rotate_left
    · intro w hSw; (try dsimp only at hSw); go_simp <;> with_reducible rfl
    try simp only [Act.put, List.setIfInBounds_toArray, List.set_cons_zero, List.set_cons_succ]
    exact q5_c HFD h3 hr hc1 hN hrc hN' hmc hR hm hh1 hh2 _ (by kernel_rfl) K2 B2
  refine AllReadyH.cons (getOf (i := 10) rfl) (fun K' hK => ?_) ?_
  ·
    go_simp
    have K2 := (K.boxg 40 #[.int .i64 0, .slice none 0 0] w.heap.size rfl)
    have B2 := B.alloc B.size (.cells #[.int .i64 0, .slice none 0 0] 40)
    have le11 := B.size
    refine hK.out _ _ (cells2_row (K2.g _ (List.Mem.tail _ (h3)))) (fun hH => ?_)
    clear hK K'
    try simp only [Act.put, List.setIfInBounds_toArray, List.set_cons_zero, List.set_cons_succ]
    exact q5_a HFD h3 hr hc1 hN hrc hN' hmc hR le11 _ (by kernel_rfl) K2 B2
  refine AllReadyH.cons (getOf (i := 11) rfl) (fun K' hK => ?_) ?_
  ·
    go_simp
    have K2 := (K.boxg 34 #[.bool false, .int .i64 0, .int .u32 0] w.heap.size rfl)
    have B2 := B.alloc B.size (.cells #[.bool false, .int .i64 0, .int .u32 0] 34)
    have le13 := B.size
    refine hK.out _ _ (cells2_row (K2.g _ (List.Mem.tail _ (h3)))) (fun hH => ?_)
    clear hK K'
    try simp only [Act.put, List.setIfInBounds_toArray, List.set_cons_zero, List.set_cons_succ]
    exact q5_b HFD h3 hr hc1 hN hrc hN' hmc hR le13 _ (by kernel_rfl) K2 B2
  exact AllReadyH.nil
set_option maxRecDepth 100000 in
set_option maxHeartbeats 4000000 in
theorem q5_region {w : World} {fs : List Fact} {gs : List Bx} {p : Int} {A Ac : Option Addr} {rn c nc cc mm P RN X LN g3 : Nat} {r cs R : List UInt8} {xb : Bool} {L : List (List UInt8)} {v0 v4 v5 v6 v7 v8 v9 v10 v11 v12 v13 v14 v15 v16 v17 v18 v19 v20 v21 v22 v23 v24 v25 v26 v27 v28 v29 v30 v31 v32 v33 v34 v35 v36 v37 v38 v39 v40 v41 v42 v43 v44 v45 v46 v47 v48 v49 v50 v51 v52 v53 v54 v55 v56 v57 v58 v59 v60 v61 v62 v63 v64 v65 v66 v67 v68 v69 v70 v71 v72 v73 v74 v75 v76 v77 v78 v79 v80 v81 v82 v83 v84 v85 v86 v87 v88 v89 v90 v91 v92 v93 v94 v95 v96 v97 v98 v99 v100 v101 v102 v103 v104 v105 v106 v107 v108 v109 v110 v111 v112 v113 v114 v115 v116 v117 v118 : Value} {KK : Act → World → Prop} {Q : Exit → Act → World → Prop} (HFD : Hid (FeedTo p r rn cs mm P R RN X xb L LN)) (h3 : (g3, #[.int .i64 p, .slice A rn c], 40) ∈ gs) (hr : bF A rn r ∈ fs) (hc1 : bF Ac mm cs ∈ fs) (hN : A = none → c = 0) (hrc : rn ≤ c) (hN' : Ac = none → cc = 0) (hmm : mm ≤ nc) (hcc : nc ≤ cc) (hbig : nc ≤ 100000) (hR : ∀ (g11 g13 : Nat) (A1 : Option Addr) (c1 : Nat) (A2 : Option Addr) (c2 : Nat) (qs : List Pq) (w' : World), EnvF w' (qF A2 LN qs :: bF A1 RN R :: fs) ((g13, #[.bool xb, .int .i64 0, .int .u32 (X : Int)], 34) :: (g11, #[.int .i64 (P : Int), .slice A1 RN c1], 40) :: gs) → qs.map (·.f) = L → (RN ≤ c1 ∧ (A1 = none → c1 = 0)) → (LN ≤ c2 ∧ (A2 = none → c2 = 0)) → w.drew.heap.size ≤ g11 → w.drew.heap.size ≤ g13 → Below w.drew.heap.size w.drew w' → KK { tmps := #[v0, .slice Ac nc cc, .int .i64 (mm : Int), .pointer (some ⟨g3, 0, none⟩), v4, v5, v6, v7, v8, v9, v10, .pointer (some ⟨g11, 0, none⟩), .slice A2 LN c2, .pointer (some ⟨g13, 0, none⟩), .int .i64 0, v15, v16, v17, v18, v19, v20, v21, v22, v23, v24, v25, v26, v27, v28, v29, v30, v31, v32, v33, v34, v35, v36, v37, v38, v39, v40, v41, v42, v43, v44, .tuple #[.agg #[.int .i64 (P : Int), .slice A1 RN c1], .slice A2 LN c2, .agg #[.bool xb, .int .i64 0, .int .u32 (X : Int)], .int .i64 0], .agg #[.int .i64 p, .slice A rn c], .slice Ac nc cc, .int .i64 (mm : Int), .slice Ac mm cc, .tuple #[.agg #[.int .i64 (P : Int), .slice A1 RN c1], .slice A2 LN c2, .agg #[.bool xb, .int .i64 0, .int .u32 (X : Int)], .int .i64 0], .agg #[.int .i64 (P : Int), .slice A1 RN c1], .slice A2 LN c2, .agg #[.bool xb, .int .i64 0, .int .u32 (X : Int)], .int .i64 0, v55, v56, v57, v58, v59, v60, v61, v62, v63, v64, v65, v66, v67, v68, v69, v70, v71, v72, v73, v74, v75, v76, v77, v78, v79, v80, v81, v82, v83, v84, v85, v86, v87, v88, v89, v90, v91, v92, v93, v94, v95, v96, v97, v98, v99, v100, v101, v102, v103, v104, v105, v106, v107, v108, v109, v110, v111, v112, v113, v114, v115, v116, v117, v118], defers := [] } w') (K : EnvF w fs gs) :
    (Code.region 5 q5ops.toArray true).wp Try.prog (Exit.then KK Q) { tmps := #[v0, .slice Ac nc cc, .int .i64 (mm : Int), .pointer (some ⟨g3, 0, none⟩), v4, v5, v6, v7, v8, v9, v10, v11, v12, v13, v14, v15, v16, v17, v18, v19, v20, v21, v22, v23, v24, v25, v26, v27, v28, v29, v30, v31, v32, v33, v34, v35, v36, v37, v38, v39, v40, v41, v42, v43, v44, v45, v46, v47, v48, v49, v50, v51, v52, v53, v54, v55, v56, v57, v58, v59, v60, v61, v62, v63, v64, v65, v66, v67, v68, v69, v70, v71, v72, v73, v74, v75, v76, v77, v78, v79, v80, v81, v82, v83, v84, v85, v86, v87, v88, v89, v90, v91, v92, v93, v94, v95, v96, v97, v98, v99, v100, v101, v102, v103, v104, v105, v106, v107, v108, v109, v110, v111, v112, v113, v114, v115, v116, v117, v118], defers := [] } w := by
  have hle := Nat.le_trans hmm hcc
  refine Code.wp_mono (Q := Exit.then KK fun _ _ _ => False) (fun e a w h => by cases e <;> first | exact h | exact h.elim) ?_
  refine wp_region_held_drew (S := (fun W' => W'.cell? ⟨g3, 0, none⟩ = some (.int .i64 p) ∧ W'.cell? ⟨g3, 1, none⟩ = some (.slice A rn c))) (by kernel_rfl) (cells2_row (K.drew.g _ h3)) (fun hH => ?_)
  refine takeD (i := 0) (v := ?_) rfl (by as_aux_lemma => kernel_rfl) (by as_aux_lemma => kernel_rfl) (by as_aux_lemma => kernel_rfl) (fun _ _ _ h => h) (Or.inl ⟨by rfl, ?_⟩) hH ?_
  rotate_left
  · intro w hSw; (try dsimp only at hSw); go_simp <;> with_reducible rfl
  try simp only [Act.put, List.setIfInBounds_toArray, List.set_cons_zero, List.set_cons_succ]
  refine takeD (i := 1) (v := ?_) rfl (by as_aux_lemma => kernel_rfl) (by as_aux_lemma => kernel_rfl) (by as_aux_lemma => kernel_rfl) (fun _ _ _ h => h) (Or.inl ⟨by rfl, ?_⟩) hH ?_
  rotate_left
  · intro w hSw; (try dsimp only at hSw); go_simp <;> with_reducible rfl
  try simp only [Act.put, List.setIfInBounds_toArray, List.set_cons_zero, List.set_cons_succ]
  refine takeD (i := 2) (v := ?_) rfl (by as_aux_lemma => kernel_rfl) (by as_aux_lemma => kernel_rfl) (by as_aux_lemma => kernel_rfl) (fun _ _ _ h => h) (Or.inl ⟨by rfl, ?_⟩) hH ?_
  rotate_left
  · intro w hSw; (try dsimp only at hSw); go_simp <;> with_reducible rfl
  try simp only [Act.put, List.setIfInBounds_toArray, List.set_cons_zero, List.set_cons_succ]
  refine takeD (i := 3) (v := ?_) rfl (by as_aux_lemma => kernel_rfl) (by as_aux_lemma => kernel_rfl) (by as_aux_lemma => kernel_rfl) (fun _ _ _ h => h) (Or.inl ⟨by rfl, ?_⟩) hH ?_
  rotate_left
  · intro w hSw; (try dsimp only at hSw); go_simp <;> with_reducible rfl
  try simp only [Act.put, List.setIfInBounds_toArray, List.set_cons_zero, List.set_cons_succ]
  exact q5_0 HFD h3 hr hc1 hN hrc hN' (by omega) hR _ (by kernel_rfl) K.drew (Below.refl _ _)
end Go.Proofs.Ytolminjedgoggaa
