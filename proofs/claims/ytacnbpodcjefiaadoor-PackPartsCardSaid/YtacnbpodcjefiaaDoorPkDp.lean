/- PackParts: its regions that draw their order. -/
import Derived.Test.YtacnbpodcjefiaaDoorPkZ
namespace Go.Proofs.YtacnbpodcjefiaaDoor
open Go.RowKit Go.Shelf Px Tx Tb Up Pk GD
set_option linter.unusedVariables false
set_option linter.unusedSimpArgs false
set_option linter.unusedSectionVars false
attribute [local go_sem] Oper.semAt_some
noncomputable def pp5ops : List Oper := opsOf 5 (Tryd.f4.body.getD .skip)
section
variable {w0 : World} {fs : List Fact} {gs : List Bx} {M : Int} {A LA : Option Addr} {n c ln lc k gT k1 q : Nat} {xs l3 Y : List Fd} {L : List UInt8}  {v0 v4 v5 v6 v7 v8 v9 v10 v11 v12 v13 v14 v15 v16 v17 v18 v19 v20 v21 v22 v23 v24 v25 v26 v27 v28 v29 v30 v31 v32 v33 v34 v35 v36 v37 v42 v43 v44 v45 v46 v47 v48 v49 v50 v51 v52 v53 v54 v55 v56 v57 v58 v59 v60 v61 v62 v63 v64 v65 v66 v67 v68 v69 v70 v71 v72 v73 v74 v75 v76 v77 v78 v79 v80 v81 : Value} {KK : Act → World → Prop} (hST : stF ∈ fs) (hRW : rwF ∈ fs) (hMV : mvF ∈ fs) (h_xs : fF A n xs ∈ fs) (hN_xs : A = none → c = 0) (h3 : (gT, #[.int .i64 M, .slice A n c], 24) ∈ gs) (hk0 : (0 : Int) ≤ (k : Int)) (hk1' : (k : Int) ≤ (lc : Int)) (hk2 : k ≤ lc) (hk3 : (k : Int) ≤ (ln : Int)) (hk4 : k ≤ ln) (h_l : fF LA k l3 ∈ fs) (hr : rightB M xs = true) (hz : full l3 ≤ 7000) (hB : kB M xs l3 = L) (hY : kX M xs l3 = Y) (hk : L.length = k1) (hq : Y.length = q) (hR : ∀ (gX : Nat) (A1 A2 : Option Addr) (c1 c2 : Nat) (w : World), EnvF w (bF A1 k1 L :: fF A2 q Y :: fs) ((gX, #[.int .i64 M, .slice A2 q c2], 24) :: (gs)) → (A1 = none → c1 = 0) → (A2 = none → c2 = 0) → Below w0.heap.size w0 w → KK { tmps := #[v0, .slice LA ln lc, .int .i64 (k : Int), .pointer (some ⟨gT, 0, none⟩), v4, v5, v6, v7, v8, v9, .slice A1 k1 c1, .pointer (some ⟨gX, 0, none⟩), .int .i64 0, v13, v14, v15, v16, v17, v18, v19, v20, v21, v22, v23, v24, v25, v26, v27, v28, v29, v30, v31, v32, v33, v34, v35, v36, .tuple #[.slice A1 k1 c1, .agg #[.int .i64 M, .slice A2 q c2], .int .i64 0], .agg #[.int .i64 M, .slice A n c], .slice LA ln lc, .int .i64 (k : Int), .slice LA k lc, .tuple #[.slice A1 k1 c1, .agg #[.int .i64 M, .slice A2 q c2], .int .i64 0], .slice A1 k1 c1, .agg #[.int .i64 M, .slice A2 q c2], .int .i64 0, v46, v47, v48, v49, v50, v51, v52, v53, v54, v55, v56, v57, v58, v59, v60, v61, v62, v63, v64, v65, v66, v67, v68, v69, v70, v71, v72, v73, v74, v75, v76, v77, v78, v79, v80, v81], defers := [] } w)
include hST hRW hMV h_xs hN_xs h3 hk0 hk1' hk2 hk3 hk4 h_l hr hz hB hY hk hq hR
set_option maxRecDepth 100000 in
set_option maxHeartbeats 4000000 in
theorem pp5_11 {gX : Nat} {A1 A2 : Option Addr} {c1 c2 : Nat}  (leX : w0.heap.size ≤ gX) (h5 : A1 = none → c1 = 0) (h6 : A2 = none → c2 = 0) {w : World} (ls : Array Bool) (hl : ls = #[true, true, true, true, true, true, true, true, true, true, false, false, false]) (K : EnvF w (bF A1 k1 L :: fF A2 q Y :: fs) ((gX, #[.int .i64 0, .slice none 0 0], 24) :: (gs))) (B : Below w0.heap.size w0 w) :
    wpAnyH Tryd.prog .any pp5ops.toArray (Exit.then KK fun _ _ _ => False) (fun W' => W'.cell? ⟨gT, 0, none⟩ = some (.int .i64 M) ∧ W'.cell? ⟨gT, 1, none⟩ = some (.slice A n c)) 3 ls { tmps := #[v0, .slice LA ln lc, .int .i64 (k : Int), .pointer (some ⟨gT, 0, none⟩), v4, v5, v6, v7, v8, v9, v10, .pointer (some ⟨gX, 0, none⟩), v12, v13, v14, v15, v16, v17, v18, v19, v20, v21, v22, v23, v24, v25, v26, v27, v28, v29, v30, v31, v32, v33, v34, v35, v36, .tuple #[.slice A1 k1 c1, .agg #[.int .i64 M, .slice A2 q c2], .int .i64 0], .agg #[.int .i64 M, .slice A n c], .slice LA ln lc, .int .i64 (k : Int), .slice LA k lc, .tuple #[.slice A1 k1 c1, .agg #[.int .i64 M, .slice A2 q c2], .int .i64 0], .slice A1 k1 c1, .agg #[.int .i64 M, .slice A2 q c2], .int .i64 0, v46, v47, v48, v49, v50, v51, v52, v53, v54, v55, v56, v57, v58, v59, v60, v61, v62, v63, v64, v65, v66, v67, v68, v69, v70, v71, v72, v73, v74, v75, v76, v77, v78, v79, v80, v81], defers := [] } w := by
  subst hl
  have hH : (fun W' => W'.cell? ⟨gT, 0, none⟩ = some (.int .i64 M) ∧ W'.cell? ⟨gT, 1, none⟩ = some (.slice A n c)) w := (cells2_row (K.g _ (List.mem_cons_of_mem _ (h3))))
  refine takeD (i := 10) (v := ?_) rfl (by as_aux_lemma => kernel_rfl) (by as_aux_lemma => kernel_rfl) (by as_aux_lemma => kernel_rfl) (fun _ _ _ h => h) (Or.inl ⟨by rfl, ?_⟩) hH ?_
  rotate_left
  · intro w hSw; (try dsimp only at hSw); go_simp <;> with_reducible rfl
  try simp only [Act.put, List.setIfInBounds_toArray, List.set_cons_zero, List.set_cons_succ]
  clear hH
  refine readyD (i := 11) rfl (by as_aux_lemma => kernel_rfl) (fun K' hK => ?_)
  refine step_put (by rfl) 24 (.tmp 11) (.tmp 44) (by rfl) gX 0 (.agg #[.int .i64 M, .slice A2 q c2]) (by rfl) (by rfl) 24 #[.int .i64 0, .slice none 0 0] #[.int .i64 M, .slice A2 q c2] (K.row 0 rfl) (by simp [Value.cells]) (by kernel_rfl) infoc_T (by kernel_rfl) ?_
  intro w1 c1' c2' c3' c4'
  have K1 := K.turn 0 rfl c1' c2' c3'
  have B1 := c4' _ _ leX B
  refine hK.out _ _ (cells2_row (K1.g _ (List.mem_cons_of_mem _ (h3)))) (fun hH => ?_)
  clear hK K'
  try simp only [Act.put, List.setIfInBounds_toArray, List.set_cons_zero, List.set_cons_succ]
  refine takeD (i := 12) (v := ?_) rfl (by as_aux_lemma => kernel_rfl) (by as_aux_lemma => kernel_rfl) (by as_aux_lemma => kernel_rfl) (fun _ _ _ h => h) (Or.inl ⟨by rfl, ?_⟩) hH ?_
  rotate_left
  · intro w hSw; (try dsimp only at hSw); go_simp <;> with_reducible rfl
  try simp only [Act.put, List.setIfInBounds_toArray, List.set_cons_zero, List.set_cons_succ]
  refine wpAnyH_done (by as_aux_lemma => kernel_rfl) ?_ _
  exact hR _ _ _ _ _  _ K1 h5 h6 B1
set_option maxRecDepth 100000 in
set_option maxHeartbeats 4000000 in
theorem pp5_10 {A1 A2 : Option Addr} {c1 c2 : Nat}  (h5 : A1 = none → c1 = 0) (h6 : A2 = none → c2 = 0) {w : World} (ls : Array Bool) (hl : ls = #[true, true, true, true, true, true, true, true, true, false, false, false, false]) (K : EnvF w (bF A1 k1 L :: fF A2 q Y :: fs) (gs)) (B : Below w0.heap.size w0 w) :
    wpAnyH Tryd.prog .any pp5ops.toArray (Exit.then KK fun _ _ _ => False) (fun W' => W'.cell? ⟨gT, 0, none⟩ = some (.int .i64 M) ∧ W'.cell? ⟨gT, 1, none⟩ = some (.slice A n c)) 4 ls { tmps := #[v0, .slice LA ln lc, .int .i64 (k : Int), .pointer (some ⟨gT, 0, none⟩), v4, v5, v6, v7, v8, v9, v10, v11, v12, v13, v14, v15, v16, v17, v18, v19, v20, v21, v22, v23, v24, v25, v26, v27, v28, v29, v30, v31, v32, v33, v34, v35, v36, .tuple #[.slice A1 k1 c1, .agg #[.int .i64 M, .slice A2 q c2], .int .i64 0], .agg #[.int .i64 M, .slice A n c], .slice LA ln lc, .int .i64 (k : Int), .slice LA k lc, .tuple #[.slice A1 k1 c1, .agg #[.int .i64 M, .slice A2 q c2], .int .i64 0], .slice A1 k1 c1, .agg #[.int .i64 M, .slice A2 q c2], .int .i64 0, v46, v47, v48, v49, v50, v51, v52, v53, v54, v55, v56, v57, v58, v59, v60, v61, v62, v63, v64, v65, v66, v67, v68, v69, v70, v71, v72, v73, v74, v75, v76, v77, v78, v79, v80, v81], defers := [] } w := by
  subst hl
  refine wpAnyH_ready (rs := [9]) (by as_aux_lemma => kernel_rfl) (by simp) ?_
  refine AllReadyH.cons (getOf (i := 9) rfl) (fun K' hK => ?_) ?_
  ·
    go_simp
    have K2 := K.boxg 24 #[.int .i64 0, .slice none 0 0] w.heap.size rfl
    have B2 := B.alloc B.size (.cells #[.int .i64 0, .slice none 0 0] 24)
    have leX := B.size
    refine hK.out _ _ (cells2_row (K2.g _ (List.mem_cons_of_mem _ (h3)))) (fun hH => ?_)
    clear hK K'
    try simp only [Act.put, List.setIfInBounds_toArray, List.set_cons_zero, List.set_cons_succ]
    exact pp5_11 hST hRW hMV h_xs hN_xs h3 hk0 hk1' hk2 hk3 hk4 h_l hr hz hB hY hk hq hR leX h5 h6 _ (by kernel_rfl) K2 B2
  exact AllReadyH.nil
set_option maxRecDepth 100000 in
set_option maxHeartbeats 4000000 in
theorem pp5_01 {gX : Nat}  (leX : w0.heap.size ≤ gX) {w : World} (ls : Array Bool) (hl : ls = #[true, true, true, true, false, false, false, false, false, true, false, false, false]) (K : EnvF w fs ((gX, #[.int .i64 0, .slice none 0 0], 24) :: (gs))) (B : Below w0.heap.size w0 w) :
    wpAnyH Tryd.prog .any pp5ops.toArray (Exit.then KK fun _ _ _ => False) (fun W' => W'.cell? ⟨gT, 0, none⟩ = some (.int .i64 M) ∧ W'.cell? ⟨gT, 1, none⟩ = some (.slice A n c)) 8 ls { tmps := #[v0, .slice LA ln lc, .int .i64 (k : Int), .pointer (some ⟨gT, 0, none⟩), v4, v5, v6, v7, v8, v9, v10, .pointer (some ⟨gX, 0, none⟩), v12, v13, v14, v15, v16, v17, v18, v19, v20, v21, v22, v23, v24, v25, v26, v27, v28, v29, v30, v31, v32, v33, v34, v35, v36, v37, .agg #[.int .i64 M, .slice A n c], .slice LA ln lc, .int .i64 (k : Int), .slice LA k lc, v42, v43, v44, v45, v46, v47, v48, v49, v50, v51, v52, v53, v54, v55, v56, v57, v58, v59, v60, v61, v62, v63, v64, v65, v66, v67, v68, v69, v70, v71, v72, v73, v74, v75, v76, v77, v78, v79, v80, v81], defers := [] } w := by
  subst hl
  refine wpAnyH_ready (rs := [4]) (by as_aux_lemma => kernel_rfl) (by simp) ?_
  refine AllReadyH.cons (getOf (i := 4) rfl) (fun K' hK => ?_) ?_
  ·
    go_simp
    go_at_call 9
    refine (p_Block (ls := l3) _ _ _ w K h_xs hN_xs hST hRW hMV h_l hr hz hB hY hk hq).mono ?_
    rintro e w2 ⟨A1, c1, A2, c2, rfl, hb, hE, ⟨_, h5⟩, h6⟩
    have K2 := hE.sub (fs' := bF A1 k1 L :: fF A2 q Y :: fs) (fun y hy => by simp only [List.mem_cons] at hy ⊢; rcases hy with rfl | rfl | hy <;> simp [*]) (List.Sublist.refl _)
    have B2 := below_step B hb
    refine hK.out _ _ (cells2_row (K2.g _ (List.mem_cons_of_mem _ (h3)))) (fun hH => ?_)
    clear hK K'
    try simp only [Act.put, List.setIfInBounds_toArray, List.set_cons_zero, List.set_cons_succ]
    refine takeD (i := 5) (v := ?_) rfl (by as_aux_lemma => kernel_rfl) (by as_aux_lemma => kernel_rfl) (by as_aux_lemma => kernel_rfl) (fun _ _ _ h => h) (Or.inl ⟨by rfl, ?_⟩) hH ?_
    rotate_left
    · intro w hSw; (try dsimp only at hSw); go_simp <;> with_reducible rfl
    try simp only [Act.put, List.setIfInBounds_toArray, List.set_cons_zero, List.set_cons_succ]
    refine takeD (i := 6) (v := ?_) rfl (by as_aux_lemma => kernel_rfl) (by as_aux_lemma => kernel_rfl) (by as_aux_lemma => kernel_rfl) (fun _ _ _ h => h) (Or.inl ⟨by rfl, ?_⟩) hH ?_
    rotate_left
    · intro w hSw; (try dsimp only at hSw); go_simp <;> with_reducible rfl
    try simp only [Act.put, List.setIfInBounds_toArray, List.set_cons_zero, List.set_cons_succ]
    refine takeD (i := 7) (v := ?_) rfl (by as_aux_lemma => kernel_rfl) (by as_aux_lemma => kernel_rfl) (by as_aux_lemma => kernel_rfl) (fun _ _ _ h => h) (Or.inl ⟨by rfl, ?_⟩) hH ?_
    rotate_left
    · intro w hSw; (try dsimp only at hSw); go_simp <;> with_reducible rfl
    try simp only [Act.put, List.setIfInBounds_toArray, List.set_cons_zero, List.set_cons_succ]
    refine takeD (i := 8) (v := ?_) rfl (by as_aux_lemma => kernel_rfl) (by as_aux_lemma => kernel_rfl) (by as_aux_lemma => kernel_rfl) (fun _ _ _ h => h) (Or.inl ⟨by rfl, ?_⟩) hH ?_
    rotate_left
    · intro w hSw; (try dsimp only at hSw); go_simp <;> with_reducible rfl
    try simp only [Act.put, List.setIfInBounds_toArray, List.set_cons_zero, List.set_cons_succ]
    exact pp5_11 hST hRW hMV h_xs hN_xs h3 hk0 hk1' hk2 hk3 hk4 h_l hr hz hB hY hk hq hR leX h5 h6 _ (by kernel_rfl) K2 B2
  exact AllReadyH.nil
set_option maxRecDepth 100000 in
set_option maxHeartbeats 4000000 in
theorem pp5_00  {w : World} (ls : Array Bool) (hl : ls = #[true, true, true, true, false, false, false, false, false, false, false, false, false]) (K : EnvF w fs (gs)) (B : Below w0.heap.size w0 w) :
    wpAnyH Tryd.prog .any pp5ops.toArray (Exit.then KK fun _ _ _ => False) (fun W' => W'.cell? ⟨gT, 0, none⟩ = some (.int .i64 M) ∧ W'.cell? ⟨gT, 1, none⟩ = some (.slice A n c)) 9 ls { tmps := #[v0, .slice LA ln lc, .int .i64 (k : Int), .pointer (some ⟨gT, 0, none⟩), v4, v5, v6, v7, v8, v9, v10, v11, v12, v13, v14, v15, v16, v17, v18, v19, v20, v21, v22, v23, v24, v25, v26, v27, v28, v29, v30, v31, v32, v33, v34, v35, v36, v37, .agg #[.int .i64 M, .slice A n c], .slice LA ln lc, .int .i64 (k : Int), .slice LA k lc, v42, v43, v44, v45, v46, v47, v48, v49, v50, v51, v52, v53, v54, v55, v56, v57, v58, v59, v60, v61, v62, v63, v64, v65, v66, v67, v68, v69, v70, v71, v72, v73, v74, v75, v76, v77, v78, v79, v80, v81], defers := [] } w := by
  subst hl
  refine wpAnyH_ready (rs := [4, 9]) (by as_aux_lemma => kernel_rfl) (by simp) ?_
  refine AllReadyH.cons (getOf (i := 4) rfl) (fun K' hK => ?_) ?_
  ·
    go_simp
    go_at_call 9
    refine (p_Block (ls := l3) _ _ _ w K h_xs hN_xs hST hRW hMV h_l hr hz hB hY hk hq).mono ?_
    rintro e w2 ⟨A1, c1, A2, c2, rfl, hb, hE, ⟨_, h5⟩, h6⟩
    have K2 := hE.sub (fs' := bF A1 k1 L :: fF A2 q Y :: fs) (fun y hy => by simp only [List.mem_cons] at hy ⊢; rcases hy with rfl | rfl | hy <;> simp [*]) (List.Sublist.refl _)
    have B2 := below_step B hb
    refine hK.out _ _ (cells2_row (K2.g _ (h3))) (fun hH => ?_)
    clear hK K'
    try simp only [Act.put, List.setIfInBounds_toArray, List.set_cons_zero, List.set_cons_succ]
    refine takeD (i := 5) (v := ?_) rfl (by as_aux_lemma => kernel_rfl) (by as_aux_lemma => kernel_rfl) (by as_aux_lemma => kernel_rfl) (fun _ _ _ h => h) (Or.inl ⟨by rfl, ?_⟩) hH ?_
    rotate_left
    · intro w hSw; (try dsimp only at hSw); go_simp <;> with_reducible rfl
    try simp only [Act.put, List.setIfInBounds_toArray, List.set_cons_zero, List.set_cons_succ]
    refine takeD (i := 6) (v := ?_) rfl (by as_aux_lemma => kernel_rfl) (by as_aux_lemma => kernel_rfl) (by as_aux_lemma => kernel_rfl) (fun _ _ _ h => h) (Or.inl ⟨by rfl, ?_⟩) hH ?_
    rotate_left
    · intro w hSw; (try dsimp only at hSw); go_simp <;> with_reducible rfl
    try simp only [Act.put, List.setIfInBounds_toArray, List.set_cons_zero, List.set_cons_succ]
    refine takeD (i := 7) (v := ?_) rfl (by as_aux_lemma => kernel_rfl) (by as_aux_lemma => kernel_rfl) (by as_aux_lemma => kernel_rfl) (fun _ _ _ h => h) (Or.inl ⟨by rfl, ?_⟩) hH ?_
    rotate_left
    · intro w hSw; (try dsimp only at hSw); go_simp <;> with_reducible rfl
    try simp only [Act.put, List.setIfInBounds_toArray, List.set_cons_zero, List.set_cons_succ]
    refine takeD (i := 8) (v := ?_) rfl (by as_aux_lemma => kernel_rfl) (by as_aux_lemma => kernel_rfl) (by as_aux_lemma => kernel_rfl) (fun _ _ _ h => h) (Or.inl ⟨by rfl, ?_⟩) hH ?_
    rotate_left
    · intro w hSw; (try dsimp only at hSw); go_simp <;> with_reducible rfl
    try simp only [Act.put, List.setIfInBounds_toArray, List.set_cons_zero, List.set_cons_succ]
    exact pp5_10 hST hRW hMV h_xs hN_xs h3 hk0 hk1' hk2 hk3 hk4 h_l hr hz hB hY hk hq hR h5 h6 _ (by kernel_rfl) K2 B2
  refine AllReadyH.cons (getOf (i := 9) rfl) (fun K' hK => ?_) ?_
  ·
    go_simp
    have K2 := K.boxg 24 #[.int .i64 0, .slice none 0 0] w.heap.size rfl
    have B2 := B.alloc B.size (.cells #[.int .i64 0, .slice none 0 0] 24)
    have leX := B.size
    refine hK.out _ _ (cells2_row (K2.g _ (List.mem_cons_of_mem _ (h3)))) (fun hH => ?_)
    clear hK K'
    try simp only [Act.put, List.setIfInBounds_toArray, List.set_cons_zero, List.set_cons_succ]
    exact pp5_01 hST hRW hMV h_xs hN_xs h3 hk0 hk1' hk2 hk3 hk4 h_l hr hz hB hY hk hq hR leX _ (by kernel_rfl) K2 B2
  exact AllReadyH.nil
end
set_option maxRecDepth 100000 in
set_option maxHeartbeats 4000000 in
theorem pp5_region {w : World} {fs : List Fact} {gs : List Bx} {M : Int} {A LA : Option Addr} {n c ln lc k gT k1 q : Nat} {xs l3 Y : List Fd} {L : List UInt8}  {v0 v4 v5 v6 v7 v8 v9 v10 v11 v12 v13 v14 v15 v16 v17 v18 v19 v20 v21 v22 v23 v24 v25 v26 v27 v28 v29 v30 v31 v32 v33 v34 v35 v36 v37 v38 v39 v40 v41 v42 v43 v44 v45 v46 v47 v48 v49 v50 v51 v52 v53 v54 v55 v56 v57 v58 v59 v60 v61 v62 v63 v64 v65 v66 v67 v68 v69 v70 v71 v72 v73 v74 v75 v76 v77 v78 v79 v80 v81 : Value} {KK : Act → World → Prop} {Q : Exit → Act → World → Prop} (hST : stF ∈ fs) (hRW : rwF ∈ fs) (hMV : mvF ∈ fs) (h_xs : fF A n xs ∈ fs) (hN_xs : A = none → c = 0) (h3 : (gT, #[.int .i64 M, .slice A n c], 24) ∈ gs) (hk0 : (0 : Int) ≤ (k : Int)) (hk1' : (k : Int) ≤ (lc : Int)) (hk2 : k ≤ lc) (hk3 : (k : Int) ≤ (ln : Int)) (hk4 : k ≤ ln) (h_l : fF LA k l3 ∈ fs) (hr : rightB M xs = true) (hz : full l3 ≤ 7000) (hB : kB M xs l3 = L) (hY : kX M xs l3 = Y) (hk : L.length = k1) (hq : Y.length = q) (hR : ∀ (gX : Nat) (A1 A2 : Option Addr) (c1 c2 : Nat) (w' : World), EnvF w' (bF A1 k1 L :: fF A2 q Y :: fs) ((gX, #[.int .i64 M, .slice A2 q c2], 24) :: (gs)) → (A1 = none → c1 = 0) → (A2 = none → c2 = 0) → Below w.drew.heap.size w.drew w' → KK { tmps := #[v0, .slice LA ln lc, .int .i64 (k : Int), .pointer (some ⟨gT, 0, none⟩), v4, v5, v6, v7, v8, v9, .slice A1 k1 c1, .pointer (some ⟨gX, 0, none⟩), .int .i64 0, v13, v14, v15, v16, v17, v18, v19, v20, v21, v22, v23, v24, v25, v26, v27, v28, v29, v30, v31, v32, v33, v34, v35, v36, .tuple #[.slice A1 k1 c1, .agg #[.int .i64 M, .slice A2 q c2], .int .i64 0], .agg #[.int .i64 M, .slice A n c], .slice LA ln lc, .int .i64 (k : Int), .slice LA k lc, .tuple #[.slice A1 k1 c1, .agg #[.int .i64 M, .slice A2 q c2], .int .i64 0], .slice A1 k1 c1, .agg #[.int .i64 M, .slice A2 q c2], .int .i64 0, v46, v47, v48, v49, v50, v51, v52, v53, v54, v55, v56, v57, v58, v59, v60, v61, v62, v63, v64, v65, v66, v67, v68, v69, v70, v71, v72, v73, v74, v75, v76, v77, v78, v79, v80, v81], defers := [] } w') (K : EnvF w fs gs) :
    (Code.region 5 pp5ops.toArray true).wp Tryd.prog (Exit.then KK Q) { tmps := #[v0, .slice LA ln lc, .int .i64 (k : Int), .pointer (some ⟨gT, 0, none⟩), v4, v5, v6, v7, v8, v9, v10, v11, v12, v13, v14, v15, v16, v17, v18, v19, v20, v21, v22, v23, v24, v25, v26, v27, v28, v29, v30, v31, v32, v33, v34, v35, v36, v37, v38, v39, v40, v41, v42, v43, v44, v45, v46, v47, v48, v49, v50, v51, v52, v53, v54, v55, v56, v57, v58, v59, v60, v61, v62, v63, v64, v65, v66, v67, v68, v69, v70, v71, v72, v73, v74, v75, v76, v77, v78, v79, v80, v81], defers := [] } w := by
  refine Code.wp_mono (Q := Exit.then KK fun _ _ _ => False) (fun e a w h => by cases e <;> first | exact h | exact h.elim) ?_
  refine wp_region_held_drew (S := (fun W' => W'.cell? ⟨gT, 0, none⟩ = some (.int .i64 M) ∧ W'.cell? ⟨gT, 1, none⟩ = some (.slice A n c))) (by kernel_rfl) (cells2_row (K.drew.g _ (h3))) (fun hH => ?_)
  refine takeD (i := 0) (v := ?_) rfl (by as_aux_lemma => kernel_rfl) (by as_aux_lemma => kernel_rfl) (by as_aux_lemma => kernel_rfl) (fun _ _ _ h => h) (Or.inl ⟨by rfl, ?_⟩) hH ?_
  rotate_left
  · intro w hSw; (try dsimp only at hSw); go_simp <;> with_reducible rfl
  try simp only [Act.put, List.setIfInBounds_toArray, List.set_cons_zero, List.set_cons_succ]
  refine takeD (i := 1) (v := ?_) rfl (by as_aux_lemma => kernel_rfl) (by as_aux_lemma => kernel_rfl) (by as_aux_lemma => kernel_rfl) (fun _ _ _ h => h) (Or.inl ⟨by rfl, ?_⟩) hH ?_
  rotate_left
  · intro w hSw; (try dsimp only at hSw); go_simp <;> with_reducible rfl
  try simp only [Act.put, List.setIfInBounds_toArray, List.set_cons_zero, List.set_cons_succ]
  refine takeD (i := 2) (v := ?_) rfl (by as_aux_lemma => kernel_rfl) (by as_aux_lemma => kernel_rfl) (by as_aux_lemma => kernel_rfl) (fun _ _ _ h => h) (Or.inl ⟨by rfl, ?_⟩) hH ?_
  rotate_left
  · intro w hSw; (try dsimp only at hSw); go_simp <;> with_reducible rfl
  try simp only [Act.put, List.setIfInBounds_toArray, List.set_cons_zero, List.set_cons_succ]
  refine takeD (i := 3) (v := ?_) rfl (by as_aux_lemma => kernel_rfl) (by as_aux_lemma => kernel_rfl) (by as_aux_lemma => kernel_rfl) (fun _ _ _ h => h) (Or.inl ⟨by rfl, ?_⟩) hH ?_
  rotate_left
  · intro w hSw; (try dsimp only at hSw); go_simp <;> with_reducible rfl
  try simp only [Act.put, List.setIfInBounds_toArray, List.set_cons_zero, List.set_cons_succ]
  exact pp5_00 hST hRW hMV h_xs hN_xs h3 hk0 hk1' hk2 hk3 hk4 h_l hr hz hB hY hk hq hR _ (by kernel_rfl) K.drew (Below.refl _ _)
noncomputable def pp6ops : List Oper := opsOf 6 (Tryd.f4.body.getD .skip)
section
variable {w0 : World} {fs : List Fact} {gs : List Bx} {M : Int} {A LA : Option Addr} {n c ln lc k gT k1 q : Nat} {xs l3 Y : List Fd} {L : List UInt8} {A3 : Option Addr}  {v0 v3 v4 v5 v6 v7 v8 v9 v10 v12 v13 v14 v15 v16 v17 v18 v19 v20 v21 v22 v23 v24 v25 v26 v27 v28 v29 v30 v31 v32 v33 v34 v35 v36 v37 v38 v39 v40 v41 v42 v43 v44 v45 v46 v51 v52 v53 v54 v55 v56 v57 v58 v59 v60 v61 v62 v63 v64 v65 v66 v67 v68 v69 v70 v71 v72 v73 v74 v75 v76 v77 v78 v79 v80 v81 : Value} {KK : Act → World → Prop} (hST : stF ∈ fs) (hRW : rwF ∈ fs) (hMV : mvF ∈ fs) (h_xs : fF A n xs ∈ fs) (hN_xs : A = none → c = 0) (h3 : (gT, #[.int .i64 M, .slice A n c], 24) ∈ gs) (hk0 : (0 : Int) ≤ (k : Int)) (hk1' : (k : Int) ≤ (lc : Int)) (hk2 : k ≤ lc) (hk3 : (k : Int) ≤ (ln : Int)) (hk4 : k ≤ ln) (hA3 : (if lc = k then LA else LA.map fun x => x.add (k * 2)) = A3) (h_l : fF A3 (ln - k) l3 ∈ fs) (hr : rightB M xs = true) (hz : full l3 ≤ 7000) (hB : kB M xs l3 = L) (hY : kX M xs l3 = Y) (hk : L.length = k1) (hq : Y.length = q) (hR : ∀ (gX : Nat) (A1 A2 : Option Addr) (c1 c2 : Nat) (w : World), EnvF w (bF A1 k1 L :: fF A2 q Y :: fs) ((gX, #[.int .i64 M, .slice A2 q c2], 24) :: (gs)) → (A1 = none → c1 = 0) → (A2 = none → c2 = 0) → Below w0.heap.size w0 w → KK { tmps := #[v0, .slice LA ln lc, .int .i64 (k : Int), v3, v4, v5, v6, v7, v8, v9, v10, .pointer (some ⟨gT, 0, none⟩), v12, .slice A1 k1 c1, .pointer (some ⟨gX, 0, none⟩), .int .i64 0, v16, v17, v18, v19, v20, v21, v22, v23, v24, v25, v26, v27, v28, v29, v30, v31, v32, v33, v34, v35, v36, v37, v38, v39, v40, v41, v42, v43, v44, v45, .tuple #[.slice A1 k1 c1, .agg #[.int .i64 M, .slice A2 q c2], .int .i64 0], .agg #[.int .i64 M, .slice A n c], .slice LA ln lc, .int .i64 (k : Int), .slice A3 (ln - k) (lc - k), .tuple #[.slice A1 k1 c1, .agg #[.int .i64 M, .slice A2 q c2], .int .i64 0], .slice A1 k1 c1, .agg #[.int .i64 M, .slice A2 q c2], .int .i64 0, v55, v56, v57, v58, v59, v60, v61, v62, v63, v64, v65, v66, v67, v68, v69, v70, v71, v72, v73, v74, v75, v76, v77, v78, v79, v80, v81], defers := [] } w)
include hST hRW hMV h_xs hN_xs h3 hk0 hk1' hk2 hk3 hk4 hA3 h_l hr hz hB hY hk hq hR
set_option maxRecDepth 100000 in
set_option maxHeartbeats 4000000 in
theorem pp6_11 {gX : Nat} {A1 A2 : Option Addr} {c1 c2 : Nat}  (leX : w0.heap.size ≤ gX) (h5 : A1 = none → c1 = 0) (h6 : A2 = none → c2 = 0) {w : World} (ls : Array Bool) (hl : ls = #[true, true, true, true, true, true, true, true, true, true, false, false, false]) (K : EnvF w (bF A1 k1 L :: fF A2 q Y :: fs) ((gX, #[.int .i64 0, .slice none 0 0], 24) :: (gs))) (B : Below w0.heap.size w0 w) :
    wpAnyH Tryd.prog .any pp6ops.toArray (Exit.then KK fun _ _ _ => False) (fun W' => W'.cell? ⟨gT, 0, none⟩ = some (.int .i64 M) ∧ W'.cell? ⟨gT, 1, none⟩ = some (.slice A n c)) 3 ls { tmps := #[v0, .slice LA ln lc, .int .i64 (k : Int), v3, v4, v5, v6, v7, v8, v9, v10, .pointer (some ⟨gT, 0, none⟩), v12, v13, .pointer (some ⟨gX, 0, none⟩), v15, v16, v17, v18, v19, v20, v21, v22, v23, v24, v25, v26, v27, v28, v29, v30, v31, v32, v33, v34, v35, v36, v37, v38, v39, v40, v41, v42, v43, v44, v45, .tuple #[.slice A1 k1 c1, .agg #[.int .i64 M, .slice A2 q c2], .int .i64 0], .agg #[.int .i64 M, .slice A n c], .slice LA ln lc, .int .i64 (k : Int), .slice A3 (ln - k) (lc - k), .tuple #[.slice A1 k1 c1, .agg #[.int .i64 M, .slice A2 q c2], .int .i64 0], .slice A1 k1 c1, .agg #[.int .i64 M, .slice A2 q c2], .int .i64 0, v55, v56, v57, v58, v59, v60, v61, v62, v63, v64, v65, v66, v67, v68, v69, v70, v71, v72, v73, v74, v75, v76, v77, v78, v79, v80, v81], defers := [] } w := by
  subst hl
  have hH : (fun W' => W'.cell? ⟨gT, 0, none⟩ = some (.int .i64 M) ∧ W'.cell? ⟨gT, 1, none⟩ = some (.slice A n c)) w := (cells2_row (K.g _ (List.mem_cons_of_mem _ (h3))))
  refine takeD (i := 10) (v := ?_) rfl (by as_aux_lemma => kernel_rfl) (by as_aux_lemma => kernel_rfl) (by as_aux_lemma => kernel_rfl) (fun _ _ _ h => h) (Or.inl ⟨by rfl, ?_⟩) hH ?_
  rotate_left
  · intro w hSw; (try dsimp only at hSw); go_simp <;> with_reducible rfl
  try simp only [Act.put, List.setIfInBounds_toArray, List.set_cons_zero, List.set_cons_succ]
  clear hH
  refine readyD (i := 11) rfl (by as_aux_lemma => kernel_rfl) (fun K' hK => ?_)
  refine step_put (by rfl) 24 (.tmp 14) (.tmp 53) (by rfl) gX 0 (.agg #[.int .i64 M, .slice A2 q c2]) (by rfl) (by rfl) 24 #[.int .i64 0, .slice none 0 0] #[.int .i64 M, .slice A2 q c2] (K.row 0 rfl) (by simp [Value.cells]) (by kernel_rfl) infoc_T (by kernel_rfl) ?_
  intro w1 c1' c2' c3' c4'
  have K1 := K.turn 0 rfl c1' c2' c3'
  have B1 := c4' _ _ leX B
  refine hK.out _ _ (cells2_row (K1.g _ (List.mem_cons_of_mem _ (h3)))) (fun hH => ?_)
  clear hK K'
  try simp only [Act.put, List.setIfInBounds_toArray, List.set_cons_zero, List.set_cons_succ]
  refine takeD (i := 12) (v := ?_) rfl (by as_aux_lemma => kernel_rfl) (by as_aux_lemma => kernel_rfl) (by as_aux_lemma => kernel_rfl) (fun _ _ _ h => h) (Or.inl ⟨by rfl, ?_⟩) hH ?_
  rotate_left
  · intro w hSw; (try dsimp only at hSw); go_simp <;> with_reducible rfl
  try simp only [Act.put, List.setIfInBounds_toArray, List.set_cons_zero, List.set_cons_succ]
  refine wpAnyH_done (by as_aux_lemma => kernel_rfl) ?_ _
  exact hR _ _ _ _ _  _ K1 h5 h6 B1
set_option maxRecDepth 100000 in
set_option maxHeartbeats 4000000 in
theorem pp6_10 {A1 A2 : Option Addr} {c1 c2 : Nat}  (h5 : A1 = none → c1 = 0) (h6 : A2 = none → c2 = 0) {w : World} (ls : Array Bool) (hl : ls = #[true, true, true, true, true, true, true, true, true, false, false, false, false]) (K : EnvF w (bF A1 k1 L :: fF A2 q Y :: fs) (gs)) (B : Below w0.heap.size w0 w) :
    wpAnyH Tryd.prog .any pp6ops.toArray (Exit.then KK fun _ _ _ => False) (fun W' => W'.cell? ⟨gT, 0, none⟩ = some (.int .i64 M) ∧ W'.cell? ⟨gT, 1, none⟩ = some (.slice A n c)) 4 ls { tmps := #[v0, .slice LA ln lc, .int .i64 (k : Int), v3, v4, v5, v6, v7, v8, v9, v10, .pointer (some ⟨gT, 0, none⟩), v12, v13, v14, v15, v16, v17, v18, v19, v20, v21, v22, v23, v24, v25, v26, v27, v28, v29, v30, v31, v32, v33, v34, v35, v36, v37, v38, v39, v40, v41, v42, v43, v44, v45, .tuple #[.slice A1 k1 c1, .agg #[.int .i64 M, .slice A2 q c2], .int .i64 0], .agg #[.int .i64 M, .slice A n c], .slice LA ln lc, .int .i64 (k : Int), .slice A3 (ln - k) (lc - k), .tuple #[.slice A1 k1 c1, .agg #[.int .i64 M, .slice A2 q c2], .int .i64 0], .slice A1 k1 c1, .agg #[.int .i64 M, .slice A2 q c2], .int .i64 0, v55, v56, v57, v58, v59, v60, v61, v62, v63, v64, v65, v66, v67, v68, v69, v70, v71, v72, v73, v74, v75, v76, v77, v78, v79, v80, v81], defers := [] } w := by
  subst hl
  refine wpAnyH_ready (rs := [9]) (by as_aux_lemma => kernel_rfl) (by simp) ?_
  refine AllReadyH.cons (getOf (i := 9) rfl) (fun K' hK => ?_) ?_
  ·
    go_simp
    have K2 := K.boxg 24 #[.int .i64 0, .slice none 0 0] w.heap.size rfl
    have B2 := B.alloc B.size (.cells #[.int .i64 0, .slice none 0 0] 24)
    have leX := B.size
    refine hK.out _ _ (cells2_row (K2.g _ (List.mem_cons_of_mem _ (h3)))) (fun hH => ?_)
    clear hK K'
    try simp only [Act.put, List.setIfInBounds_toArray, List.set_cons_zero, List.set_cons_succ]
    exact pp6_11 hST hRW hMV h_xs hN_xs h3 hk0 hk1' hk2 hk3 hk4 hA3 h_l hr hz hB hY hk hq hR leX h5 h6 _ (by kernel_rfl) K2 B2
  exact AllReadyH.nil
set_option maxRecDepth 100000 in
set_option maxHeartbeats 4000000 in
theorem pp6_01 {gX : Nat}  (leX : w0.heap.size ≤ gX) {w : World} (ls : Array Bool) (hl : ls = #[true, true, true, true, false, false, false, false, false, true, false, false, false]) (K : EnvF w fs ((gX, #[.int .i64 0, .slice none 0 0], 24) :: (gs))) (B : Below w0.heap.size w0 w) :
    wpAnyH Tryd.prog .any pp6ops.toArray (Exit.then KK fun _ _ _ => False) (fun W' => W'.cell? ⟨gT, 0, none⟩ = some (.int .i64 M) ∧ W'.cell? ⟨gT, 1, none⟩ = some (.slice A n c)) 8 ls { tmps := #[v0, .slice LA ln lc, .int .i64 (k : Int), v3, v4, v5, v6, v7, v8, v9, v10, .pointer (some ⟨gT, 0, none⟩), v12, v13, .pointer (some ⟨gX, 0, none⟩), v15, v16, v17, v18, v19, v20, v21, v22, v23, v24, v25, v26, v27, v28, v29, v30, v31, v32, v33, v34, v35, v36, v37, v38, v39, v40, v41, v42, v43, v44, v45, v46, .agg #[.int .i64 M, .slice A n c], .slice LA ln lc, .int .i64 (k : Int), .slice A3 (ln - k) (lc - k), v51, v52, v53, v54, v55, v56, v57, v58, v59, v60, v61, v62, v63, v64, v65, v66, v67, v68, v69, v70, v71, v72, v73, v74, v75, v76, v77, v78, v79, v80, v81], defers := [] } w := by
  subst hl
  refine wpAnyH_ready (rs := [4]) (by as_aux_lemma => kernel_rfl) (by simp) ?_
  refine AllReadyH.cons (getOf (i := 4) rfl) (fun K' hK => ?_) ?_
  ·
    go_simp
    go_at_call 9
    refine (p_Block (ls := l3) _ _ _ w K h_xs hN_xs hST hRW hMV h_l hr hz hB hY hk hq).mono ?_
    rintro e w2 ⟨A1, c1, A2, c2, rfl, hb, hE, ⟨_, h5⟩, h6⟩
    have K2 := hE.sub (fs' := bF A1 k1 L :: fF A2 q Y :: fs) (fun y hy => by simp only [List.mem_cons] at hy ⊢; rcases hy with rfl | rfl | hy <;> simp [*]) (List.Sublist.refl _)
    have B2 := below_step B hb
    refine hK.out _ _ (cells2_row (K2.g _ (List.mem_cons_of_mem _ (h3)))) (fun hH => ?_)
    clear hK K'
    try simp only [Act.put, List.setIfInBounds_toArray, List.set_cons_zero, List.set_cons_succ]
    refine takeD (i := 5) (v := ?_) rfl (by as_aux_lemma => kernel_rfl) (by as_aux_lemma => kernel_rfl) (by as_aux_lemma => kernel_rfl) (fun _ _ _ h => h) (Or.inl ⟨by rfl, ?_⟩) hH ?_
    rotate_left
    · intro w hSw; (try dsimp only at hSw); go_simp <;> with_reducible rfl
    try simp only [Act.put, List.setIfInBounds_toArray, List.set_cons_zero, List.set_cons_succ]
    refine takeD (i := 6) (v := ?_) rfl (by as_aux_lemma => kernel_rfl) (by as_aux_lemma => kernel_rfl) (by as_aux_lemma => kernel_rfl) (fun _ _ _ h => h) (Or.inl ⟨by rfl, ?_⟩) hH ?_
    rotate_left
    · intro w hSw; (try dsimp only at hSw); go_simp <;> with_reducible rfl
    try simp only [Act.put, List.setIfInBounds_toArray, List.set_cons_zero, List.set_cons_succ]
    refine takeD (i := 7) (v := ?_) rfl (by as_aux_lemma => kernel_rfl) (by as_aux_lemma => kernel_rfl) (by as_aux_lemma => kernel_rfl) (fun _ _ _ h => h) (Or.inl ⟨by rfl, ?_⟩) hH ?_
    rotate_left
    · intro w hSw; (try dsimp only at hSw); go_simp <;> with_reducible rfl
    try simp only [Act.put, List.setIfInBounds_toArray, List.set_cons_zero, List.set_cons_succ]
    refine takeD (i := 8) (v := ?_) rfl (by as_aux_lemma => kernel_rfl) (by as_aux_lemma => kernel_rfl) (by as_aux_lemma => kernel_rfl) (fun _ _ _ h => h) (Or.inl ⟨by rfl, ?_⟩) hH ?_
    rotate_left
    · intro w hSw; (try dsimp only at hSw); go_simp <;> with_reducible rfl
    try simp only [Act.put, List.setIfInBounds_toArray, List.set_cons_zero, List.set_cons_succ]
    exact pp6_11 hST hRW hMV h_xs hN_xs h3 hk0 hk1' hk2 hk3 hk4 hA3 h_l hr hz hB hY hk hq hR leX h5 h6 _ (by kernel_rfl) K2 B2
  exact AllReadyH.nil
set_option maxRecDepth 100000 in
set_option maxHeartbeats 4000000 in
theorem pp6_00  {w : World} (ls : Array Bool) (hl : ls = #[true, true, true, true, false, false, false, false, false, false, false, false, false]) (K : EnvF w fs (gs)) (B : Below w0.heap.size w0 w) :
    wpAnyH Tryd.prog .any pp6ops.toArray (Exit.then KK fun _ _ _ => False) (fun W' => W'.cell? ⟨gT, 0, none⟩ = some (.int .i64 M) ∧ W'.cell? ⟨gT, 1, none⟩ = some (.slice A n c)) 9 ls { tmps := #[v0, .slice LA ln lc, .int .i64 (k : Int), v3, v4, v5, v6, v7, v8, v9, v10, .pointer (some ⟨gT, 0, none⟩), v12, v13, v14, v15, v16, v17, v18, v19, v20, v21, v22, v23, v24, v25, v26, v27, v28, v29, v30, v31, v32, v33, v34, v35, v36, v37, v38, v39, v40, v41, v42, v43, v44, v45, v46, .agg #[.int .i64 M, .slice A n c], .slice LA ln lc, .int .i64 (k : Int), .slice A3 (ln - k) (lc - k), v51, v52, v53, v54, v55, v56, v57, v58, v59, v60, v61, v62, v63, v64, v65, v66, v67, v68, v69, v70, v71, v72, v73, v74, v75, v76, v77, v78, v79, v80, v81], defers := [] } w := by
  subst hl
  refine wpAnyH_ready (rs := [4, 9]) (by as_aux_lemma => kernel_rfl) (by simp) ?_
  refine AllReadyH.cons (getOf (i := 4) rfl) (fun K' hK => ?_) ?_
  ·
    go_simp
    go_at_call 9
    refine (p_Block (ls := l3) _ _ _ w K h_xs hN_xs hST hRW hMV h_l hr hz hB hY hk hq).mono ?_
    rintro e w2 ⟨A1, c1, A2, c2, rfl, hb, hE, ⟨_, h5⟩, h6⟩
    have K2 := hE.sub (fs' := bF A1 k1 L :: fF A2 q Y :: fs) (fun y hy => by simp only [List.mem_cons] at hy ⊢; rcases hy with rfl | rfl | hy <;> simp [*]) (List.Sublist.refl _)
    have B2 := below_step B hb
    refine hK.out _ _ (cells2_row (K2.g _ (h3))) (fun hH => ?_)
    clear hK K'
    try simp only [Act.put, List.setIfInBounds_toArray, List.set_cons_zero, List.set_cons_succ]
    refine takeD (i := 5) (v := ?_) rfl (by as_aux_lemma => kernel_rfl) (by as_aux_lemma => kernel_rfl) (by as_aux_lemma => kernel_rfl) (fun _ _ _ h => h) (Or.inl ⟨by rfl, ?_⟩) hH ?_
    rotate_left
    · intro w hSw; (try dsimp only at hSw); go_simp <;> with_reducible rfl
    try simp only [Act.put, List.setIfInBounds_toArray, List.set_cons_zero, List.set_cons_succ]
    refine takeD (i := 6) (v := ?_) rfl (by as_aux_lemma => kernel_rfl) (by as_aux_lemma => kernel_rfl) (by as_aux_lemma => kernel_rfl) (fun _ _ _ h => h) (Or.inl ⟨by rfl, ?_⟩) hH ?_
    rotate_left
    · intro w hSw; (try dsimp only at hSw); go_simp <;> with_reducible rfl
    try simp only [Act.put, List.setIfInBounds_toArray, List.set_cons_zero, List.set_cons_succ]
    refine takeD (i := 7) (v := ?_) rfl (by as_aux_lemma => kernel_rfl) (by as_aux_lemma => kernel_rfl) (by as_aux_lemma => kernel_rfl) (fun _ _ _ h => h) (Or.inl ⟨by rfl, ?_⟩) hH ?_
    rotate_left
    · intro w hSw; (try dsimp only at hSw); go_simp <;> with_reducible rfl
    try simp only [Act.put, List.setIfInBounds_toArray, List.set_cons_zero, List.set_cons_succ]
    refine takeD (i := 8) (v := ?_) rfl (by as_aux_lemma => kernel_rfl) (by as_aux_lemma => kernel_rfl) (by as_aux_lemma => kernel_rfl) (fun _ _ _ h => h) (Or.inl ⟨by rfl, ?_⟩) hH ?_
    rotate_left
    · intro w hSw; (try dsimp only at hSw); go_simp <;> with_reducible rfl
    try simp only [Act.put, List.setIfInBounds_toArray, List.set_cons_zero, List.set_cons_succ]
    exact pp6_10 hST hRW hMV h_xs hN_xs h3 hk0 hk1' hk2 hk3 hk4 hA3 h_l hr hz hB hY hk hq hR h5 h6 _ (by kernel_rfl) K2 B2
  refine AllReadyH.cons (getOf (i := 9) rfl) (fun K' hK => ?_) ?_
  ·
    go_simp
    have K2 := K.boxg 24 #[.int .i64 0, .slice none 0 0] w.heap.size rfl
    have B2 := B.alloc B.size (.cells #[.int .i64 0, .slice none 0 0] 24)
    have leX := B.size
    refine hK.out _ _ (cells2_row (K2.g _ (List.mem_cons_of_mem _ (h3)))) (fun hH => ?_)
    clear hK K'
    try simp only [Act.put, List.setIfInBounds_toArray, List.set_cons_zero, List.set_cons_succ]
    exact pp6_01 hST hRW hMV h_xs hN_xs h3 hk0 hk1' hk2 hk3 hk4 hA3 h_l hr hz hB hY hk hq hR leX _ (by kernel_rfl) K2 B2
  exact AllReadyH.nil
end
set_option maxRecDepth 100000 in
set_option maxHeartbeats 4000000 in
theorem pp6_region {w : World} {fs : List Fact} {gs : List Bx} {M : Int} {A LA : Option Addr} {n c ln lc k gT k1 q : Nat} {xs l3 Y : List Fd} {L : List UInt8} {A3 : Option Addr}  {v0 v3 v4 v5 v6 v7 v8 v9 v10 v12 v13 v14 v15 v16 v17 v18 v19 v20 v21 v22 v23 v24 v25 v26 v27 v28 v29 v30 v31 v32 v33 v34 v35 v36 v37 v38 v39 v40 v41 v42 v43 v44 v45 v46 v47 v48 v49 v50 v51 v52 v53 v54 v55 v56 v57 v58 v59 v60 v61 v62 v63 v64 v65 v66 v67 v68 v69 v70 v71 v72 v73 v74 v75 v76 v77 v78 v79 v80 v81 : Value} {KK : Act → World → Prop} {Q : Exit → Act → World → Prop} (hST : stF ∈ fs) (hRW : rwF ∈ fs) (hMV : mvF ∈ fs) (h_xs : fF A n xs ∈ fs) (hN_xs : A = none → c = 0) (h3 : (gT, #[.int .i64 M, .slice A n c], 24) ∈ gs) (hk0 : (0 : Int) ≤ (k : Int)) (hk1' : (k : Int) ≤ (lc : Int)) (hk2 : k ≤ lc) (hk3 : (k : Int) ≤ (ln : Int)) (hk4 : k ≤ ln) (hA3 : (if lc = k then LA else LA.map fun x => x.add (k * 2)) = A3) (h_l : fF A3 (ln - k) l3 ∈ fs) (hr : rightB M xs = true) (hz : full l3 ≤ 7000) (hB : kB M xs l3 = L) (hY : kX M xs l3 = Y) (hk : L.length = k1) (hq : Y.length = q) (hR : ∀ (gX : Nat) (A1 A2 : Option Addr) (c1 c2 : Nat) (w' : World), EnvF w' (bF A1 k1 L :: fF A2 q Y :: fs) ((gX, #[.int .i64 M, .slice A2 q c2], 24) :: (gs)) → (A1 = none → c1 = 0) → (A2 = none → c2 = 0) → Below w.drew.heap.size w.drew w' → KK { tmps := #[v0, .slice LA ln lc, .int .i64 (k : Int), v3, v4, v5, v6, v7, v8, v9, v10, .pointer (some ⟨gT, 0, none⟩), v12, .slice A1 k1 c1, .pointer (some ⟨gX, 0, none⟩), .int .i64 0, v16, v17, v18, v19, v20, v21, v22, v23, v24, v25, v26, v27, v28, v29, v30, v31, v32, v33, v34, v35, v36, v37, v38, v39, v40, v41, v42, v43, v44, v45, .tuple #[.slice A1 k1 c1, .agg #[.int .i64 M, .slice A2 q c2], .int .i64 0], .agg #[.int .i64 M, .slice A n c], .slice LA ln lc, .int .i64 (k : Int), .slice A3 (ln - k) (lc - k), .tuple #[.slice A1 k1 c1, .agg #[.int .i64 M, .slice A2 q c2], .int .i64 0], .slice A1 k1 c1, .agg #[.int .i64 M, .slice A2 q c2], .int .i64 0, v55, v56, v57, v58, v59, v60, v61, v62, v63, v64, v65, v66, v67, v68, v69, v70, v71, v72, v73, v74, v75, v76, v77, v78, v79, v80, v81], defers := [] } w') (K : EnvF w fs gs) :
    (Code.region 6 pp6ops.toArray true).wp Tryd.prog (Exit.then KK Q) { tmps := #[v0, .slice LA ln lc, .int .i64 (k : Int), v3, v4, v5, v6, v7, v8, v9, v10, .pointer (some ⟨gT, 0, none⟩), v12, v13, v14, v15, v16, v17, v18, v19, v20, v21, v22, v23, v24, v25, v26, v27, v28, v29, v30, v31, v32, v33, v34, v35, v36, v37, v38, v39, v40, v41, v42, v43, v44, v45, v46, v47, v48, v49, v50, v51, v52, v53, v54, v55, v56, v57, v58, v59, v60, v61, v62, v63, v64, v65, v66, v67, v68, v69, v70, v71, v72, v73, v74, v75, v76, v77, v78, v79, v80, v81], defers := [] } w := by
  refine Code.wp_mono (Q := Exit.then KK fun _ _ _ => False) (fun e a w h => by cases e <;> first | exact h | exact h.elim) ?_
  refine wp_region_held_drew (S := (fun W' => W'.cell? ⟨gT, 0, none⟩ = some (.int .i64 M) ∧ W'.cell? ⟨gT, 1, none⟩ = some (.slice A n c))) (by kernel_rfl) (cells2_row (K.drew.g _ (h3))) (fun hH => ?_)
  refine takeD (i := 0) (v := ?_) rfl (by as_aux_lemma => kernel_rfl) (by as_aux_lemma => kernel_rfl) (by as_aux_lemma => kernel_rfl) (fun _ _ _ h => h) (Or.inl ⟨by rfl, ?_⟩) hH ?_
  rotate_left
  · intro w hSw; (try dsimp only at hSw); go_simp <;> with_reducible rfl
  try simp only [Act.put, List.setIfInBounds_toArray, List.set_cons_zero, List.set_cons_succ]
  refine takeD (i := 1) (v := ?_) rfl (by as_aux_lemma => kernel_rfl) (by as_aux_lemma => kernel_rfl) (by as_aux_lemma => kernel_rfl) (fun _ _ _ h => h) (Or.inl ⟨by rfl, ?_⟩) hH ?_
  rotate_left
  · intro w hSw; (try dsimp only at hSw); go_simp <;> with_reducible rfl
  try simp only [Act.put, List.setIfInBounds_toArray, List.set_cons_zero, List.set_cons_succ]
  refine takeD (i := 2) (v := ?_) rfl (by as_aux_lemma => kernel_rfl) (by as_aux_lemma => kernel_rfl) (by as_aux_lemma => kernel_rfl) (fun _ _ _ h => h) (Or.inl ⟨by rfl, ?_⟩) hH ?_
  rotate_left
  · intro w hSw; (try dsimp only at hSw); go_simp <;> with_reducible rfl
  try simp only [Act.put, List.setIfInBounds_toArray, List.set_cons_zero, List.set_cons_succ]
  refine takeD (i := 3) (v := ?_) rfl (by as_aux_lemma => kernel_rfl) (by as_aux_lemma => kernel_rfl) (by as_aux_lemma => kernel_rfl) (fun _ _ _ h => h) (Or.inl ⟨by rfl, ?_⟩) hH ?_
  rotate_left
  · intro w hSw; (try dsimp only at hSw); go_simp <;> with_reducible rfl
  try simp only [Act.put, List.setIfInBounds_toArray, List.set_cons_zero, List.set_cons_succ]
  exact pp6_00 hST hRW hMV h_xs hN_xs h3 hk0 hk1' hk2 hk3 hk4 hA3 h_l hr hz hB hY hk hq hR _ (by kernel_rfl) K.drew (Below.refl _ _)
end Go.Proofs.YtacnbpodcjefiaaDoor
