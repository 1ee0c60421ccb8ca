/- PackSecret: its regions that draw their order. -/
import Derived.Test.YtacnbpodcjefiaaDoorPkZ
namespace Go.Proofs.YtacnbpodcjefiaaDoor
open Go.RowKit Go.Shelf Px Tx Tb Up Pk GD
set_option linter.unusedVariables false
set_option linter.unusedSimpArgs false
set_option linter.unusedSectionVars false
attribute [local go_sem] Oper.semAt_some
theorem p_rfind {fs : List Fact} {gs : List Bx} {A : Option Addr} {n c : Nat} {xs : List Fd} {M : Int} {a b : ByteArray} {i : Nat} {B : Bool} (w : World) (hV : EnvF w fs gs) (hA : fF A n xs ∈ fs) (hn : n ≤ 1000000) (h1 : findI xs (a, b) = i) (h2 : findB xs (a, b) = B) :
    Calls Tryd.prog 11 #[.agg #[.int .i64 M, .slice A n c], .agg #[.string a, .string b]] w fun e w' => e = .returned (.tuple #[.int .i64 (i : Int), .bool B]) ∧ Below w.heap.size w w' := by
  subst h1 h2
  exact r_find M A n c xs (a, b) w (hV.fs hA) hn
namespace Pk
theorem s4 {a b c d : Prop} (h : a ∧ b) (k : c ∧ d) : a ∧ b ∧ c ∧ d := ⟨h.1, h.2, k.1, k.2⟩
theorem cell_of {w : World} {B ln b o j : Nat} {ls : List Fd} {x : Fd} (h : Fs w B (some ⟨b, o, none⟩) ln ls) (hx : ls[j]? = some x) : w.cell? ⟨b, o + j * 2, none⟩ = some (.string x.1) ∧ w.cell? ⟨b, o + j * 2 + 1, none⟩ = some (.string x.2) := by
  have hj : j < ln := by rw [← h.1]; exact (List.getElem?_eq_some_iff.1 hx).1
  obtain ⟨b', o', e, _, hc⟩ := h.2 (by omega)
  cases e
  have h1 := hc j hj
  rw [hx] at h1
  exact h1
end Pk
noncomputable def ps18ops : List Oper := opsOf 18 (Tryd.f3.body.getD .skip)
section
variable {w0 : World} {fs : List Fact} {gs : List Bx} {M : Int} {A : Option Addr} {n c ln lc gT b o j : Nat} {xs ls : List Fd} {fa fb : ByteArray} {i : Nat} {B1 : Bool}  {v0 v3 v4 v5 v6 v7 v8 v9 v10 v11 v13 v14 v15 v16 v17 v18 v19 v20 v21 v22 v23 v24 v25 v26 v27 v28 v29 v30 v31 v32 v33 v34 v35 v36 v37 v38 v39 v40 v41 v42 v43 v44 v45 v46 v47 v48 v49 v50 v51 v52 v53 v54 v55 v56 v57 v58 v59 v60 v61 v62 v63 v64 v65 v66 v67 v68 v69 v70 v71 v72 v73 v74 v75 v76 v77 v78 v79 v85 v86 v87 v88 v89 v90 v91 v92 v93 v94 v95 v96 v97 v98 v99 v100 v101 v102 v103 v104 v105 v106 v107 v108 v109 v110 v111 v112 v113 v114 v115 v116 v117 v118 v119 v120 : Value} {KK : Act → World → Prop} (hST : stF ∈ fs) (hRW : rwF ∈ fs) (hMV : mvF ∈ fs) (h_xs : fF A n xs ∈ fs) (hN_xs : A = none → c = 0) (h3 : (gT, #[.int .i64 M, .slice A n c], 24) ∈ gs) (h_ls : fF (some ⟨b, o, none⟩) ln ls ∈ fs) (hx : ls[j]? = some (fa, fb)) (hj0 : (0 : Int) ≤ (j : Int)) (hj1 : (j : Int) < (ln : Int)) (hj2 : j < ln) (hr : rightB M xs = true) (hz : sz ((fa, fb) : Fd) ≤ 7000) (hi : findI xs (fa, fb) = i) (hb1 : findB xs (fa, fb) = B1) (hn : n ≤ 1000000) (hF : full xs ≤ 1000000) (hR : ∀  (w : World), EnvF w fs (gs) → Below w0.heap.size w0 w → KK { tmps := #[v0, .slice (some ⟨b, o, none⟩) ln lc, .pointer (some ⟨gT, 0, none⟩), v3, v4, v5, v6, v7, v8, v9, v10, v11, .int .i64 (j : Int), .int .i64 (i : Int), .bool B1, v15, v16, v17, v18, v19, v20, v21, v22, v23, v24, v25, v26, v27, v28, v29, v30, v31, v32, v33, v34, v35, v36, v37, v38, v39, v40, v41, v42, v43, v44, v45, v46, v47, v48, v49, v50, v51, v52, v53, v54, v55, v56, v57, v58, v59, v60, v61, v62, v63, v64, v65, v66, v67, v68, v69, v70, v71, v72, v73, v74, v75, v76, v77, v78, .tuple #[.int .i64 (i : Int), .bool B1], .agg #[.int .i64 M, .slice A n c], .slice (some ⟨b, o, none⟩) ln lc, .int .i64 (j : Int), .pointer (some ⟨b, o + j * 2, none⟩), .agg #[.string fa, .string fb], .tuple #[.int .i64 (i : Int), .bool B1], .int .i64 (i : Int), .bool B1, v88, v89, v90, v91, v92, v93, v94, v95, v96, v97, v98, v99, v100, v101, v102, v103, v104, v105, v106, v107, v108, v109, v110, v111, v112, v113, v114, v115, v116, v117, v118, v119, v120], defers := [] } w)
include hST hRW hMV h_xs hN_xs h3 h_ls hx hj0 hj1 hj2 hr hz hi hb1 hn hF hR
set_option maxRecDepth 100000 in
set_option maxHeartbeats 4000000 in
theorem ps18_10  {w : World} (ls : Array Bool) (hl : ls = #[true, true, true, true, true, true, true, true, true, true, true]) (K : EnvF w fs (gs)) (B : Below w0.heap.size w0 w) :
    wpAnyH Tryd.prog .any ps18ops.toArray (Exit.then KK fun _ _ _ => False) (fun W' => W'.cell? ⟨gT, 0, none⟩ = some (.int .i64 M) ∧ W'.cell? ⟨gT, 1, none⟩ = some (.slice A n c) ∧ W'.cell? ⟨b, o + j * 2, none⟩ = some (.string fa) ∧ W'.cell? ⟨b, o + j * 2 + 1, none⟩ = some (.string fb)) 0 ls { tmps := #[v0, .slice (some ⟨b, o, none⟩) ln lc, .pointer (some ⟨gT, 0, none⟩), v3, v4, v5, v6, v7, v8, v9, v10, v11, .int .i64 (j : Int), .int .i64 (i : Int), .bool B1, v15, v16, v17, v18, v19, v20, v21, v22, v23, v24, v25, v26, v27, v28, v29, v30, v31, v32, v33, v34, v35, v36, v37, v38, v39, v40, v41, v42, v43, v44, v45, v46, v47, v48, v49, v50, v51, v52, v53, v54, v55, v56, v57, v58, v59, v60, v61, v62, v63, v64, v65, v66, v67, v68, v69, v70, v71, v72, v73, v74, v75, v76, v77, v78, .tuple #[.int .i64 (i : Int), .bool B1], .agg #[.int .i64 M, .slice A n c], .slice (some ⟨b, o, none⟩) ln lc, .int .i64 (j : Int), .pointer (some ⟨b, o + j * 2, none⟩), .agg #[.string fa, .string fb], .tuple #[.int .i64 (i : Int), .bool B1], .int .i64 (i : Int), .bool B1, v88, v89, v90, v91, v92, v93, v94, v95, v96, v97, v98, v99, v100, v101, v102, v103, v104, v105, v106, v107, v108, v109, v110, v111, v112, v113, v114, v115, v116, v117, v118, v119, v120], defers := [] } w := by
  subst hl
  have hH : (fun W' => W'.cell? ⟨gT, 0, none⟩ = some (.int .i64 M) ∧ W'.cell? ⟨gT, 1, none⟩ = some (.slice A n c) ∧ W'.cell? ⟨b, o + j * 2, none⟩ = some (.string fa) ∧ W'.cell? ⟨b, o + j * 2 + 1, none⟩ = some (.string fb)) w := (Pk.s4 (cells2_row (K.g _ (h3))) (Pk.cell_of (K.fs (A := some ⟨b, o, none⟩) (n := ln) (xs := ls) (h_ls)) hx))
  refine wpAnyH_done (by as_aux_lemma => kernel_rfl) ?_ _
  exact hR   _ K B
set_option maxRecDepth 100000 in
set_option maxHeartbeats 4000000 in
theorem ps18_00  {w : World} (ls : Array Bool) (hl : ls = #[true, true, true, true, true, false, false, false, false, false, false]) (K : EnvF w fs (gs)) (B : Below w0.heap.size w0 w) :
    wpAnyH Tryd.prog .any ps18ops.toArray (Exit.then KK fun _ _ _ => False) (fun W' => W'.cell? ⟨gT, 0, none⟩ = some (.int .i64 M) ∧ W'.cell? ⟨gT, 1, none⟩ = some (.slice A n c) ∧ W'.cell? ⟨b, o + j * 2, none⟩ = some (.string fa) ∧ W'.cell? ⟨b, o + j * 2 + 1, none⟩ = some (.string fb)) 6 ls { tmps := #[v0, .slice (some ⟨b, o, none⟩) ln lc, .pointer (some ⟨gT, 0, none⟩), v3, v4, v5, v6, v7, v8, v9, v10, v11, .int .i64 (j : Int), v13, v14, v15, v16, v17, v18, v19, v20, v21, v22, v23, v24, v25, v26, v27, v28, v29, v30, v31, v32, v33, v34, v35, v36, v37, v38, v39, v40, v41, v42, v43, v44, v45, v46, v47, v48, v49, v50, v51, v52, v53, v54, v55, v56, v57, v58, v59, v60, v61, v62, v63, v64, v65, v66, v67, v68, v69, v70, v71, v72, v73, v74, v75, v76, v77, v78, v79, .agg #[.int .i64 M, .slice A n c], .slice (some ⟨b, o, none⟩) ln lc, .int .i64 (j : Int), .pointer (some ⟨b, o + j * 2, none⟩), .agg #[.string fa, .string fb], v85, v86, v87, v88, v89, v90, v91, v92, v93, v94, v95, v96, v97, v98, v99, v100, v101, v102, v103, v104, v105, v106, v107, v108, v109, v110, v111, v112, v113, v114, v115, v116, v117, v118, v119, v120], defers := [] } w := by
  subst hl
  refine wpAnyH_ready (rs := [5]) (by as_aux_lemma => kernel_rfl) (by simp) ?_
  refine AllReadyH.cons (getOf (i := 5) rfl) (fun K' hK => ?_) ?_
  ·
    go_simp
    go_at_call 11
    refine (p_rfind w K h_xs hn hi hb1).mono ?_
    rintro e w2 ⟨rfl, hb⟩
    have K2 := K.on hb
    have B2 := below_step B hb
    refine hK.out _ _ (Pk.s4 (cells2_row (K2.g _ (h3))) (Pk.cell_of (K2.fs (A := some ⟨b, o, none⟩) (n := ln) (xs := ls) (h_ls)) hx)) (fun hH => ?_)
    clear hK K'
    try simp only [Act.put, List.setIfInBounds_toArray, List.set_cons_zero, List.set_cons_succ]
    refine takeD (i := 6) (v := ?_) rfl (by as_aux_lemma => kernel_rfl) (by as_aux_lemma => kernel_rfl) (by as_aux_lemma => kernel_rfl) (fun _ _ _ h => h) (Or.inl ⟨by rfl, ?_⟩) hH ?_
    rotate_left
    · intro w hSw; (try dsimp only at hSw); go_simp <;> with_reducible rfl
    try simp only [Act.put, List.setIfInBounds_toArray, List.set_cons_zero, List.set_cons_succ]
    refine takeD (i := 7) (v := ?_) rfl (by as_aux_lemma => kernel_rfl) (by as_aux_lemma => kernel_rfl) (by as_aux_lemma => kernel_rfl) (fun _ _ _ h => h) (Or.inl ⟨by rfl, ?_⟩) hH ?_
    rotate_left
    · intro w hSw; (try dsimp only at hSw); go_simp <;> with_reducible rfl
    try simp only [Act.put, List.setIfInBounds_toArray, List.set_cons_zero, List.set_cons_succ]
    refine takeD (i := 8) (v := ?_) rfl (by as_aux_lemma => kernel_rfl) (by as_aux_lemma => kernel_rfl) (by as_aux_lemma => kernel_rfl) (fun _ _ _ h => h) (Or.inl ⟨by rfl, ?_⟩) hH ?_
    rotate_left
    · intro w hSw; (try dsimp only at hSw); go_simp <;> with_reducible rfl
    try simp only [Act.put, List.setIfInBounds_toArray, List.set_cons_zero, List.set_cons_succ]
    refine takeD (i := 9) (v := ?_) rfl (by as_aux_lemma => kernel_rfl) (by as_aux_lemma => kernel_rfl) (by as_aux_lemma => kernel_rfl) (fun _ _ _ h => h) (Or.inl ⟨by rfl, ?_⟩) hH ?_
    rotate_left
    · intro w hSw; (try dsimp only at hSw); go_simp <;> with_reducible rfl
    try simp only [Act.put, List.setIfInBounds_toArray, List.set_cons_zero, List.set_cons_succ]
    refine takeD (i := 10) (v := ?_) rfl (by as_aux_lemma => kernel_rfl) (by as_aux_lemma => kernel_rfl) (by as_aux_lemma => kernel_rfl) (fun _ _ _ h => h) (Or.inl ⟨by rfl, ?_⟩) hH ?_
    rotate_left
    · intro w hSw; (try dsimp only at hSw); go_simp <;> with_reducible rfl
    try simp only [Act.put, List.setIfInBounds_toArray, List.set_cons_zero, List.set_cons_succ]
    exact ps18_10 hST hRW hMV h_xs hN_xs h3 h_ls hx hj0 hj1 hj2 hr hz hi hb1 hn hF hR _ (by kernel_rfl) K2 B2
  exact AllReadyH.nil
end
set_option maxRecDepth 100000 in
set_option maxHeartbeats 4000000 in
theorem ps18_region {w : World} {fs : List Fact} {gs : List Bx} {M : Int} {A : Option Addr} {n c ln lc gT b o j : Nat} {xs ls : List Fd} {fa fb : ByteArray} {i : Nat} {B1 : Bool}  {v0 v3 v4 v5 v6 v7 v8 v9 v10 v11 v13 v14 v15 v16 v17 v18 v19 v20 v21 v22 v23 v24 v25 v26 v27 v28 v29 v30 v31 v32 v33 v34 v35 v36 v37 v38 v39 v40 v41 v42 v43 v44 v45 v46 v47 v48 v49 v50 v51 v52 v53 v54 v55 v56 v57 v58 v59 v60 v61 v62 v63 v64 v65 v66 v67 v68 v69 v70 v71 v72 v73 v74 v75 v76 v77 v78 v79 v80 v81 v82 v83 v84 v85 v86 v87 v88 v89 v90 v91 v92 v93 v94 v95 v96 v97 v98 v99 v100 v101 v102 v103 v104 v105 v106 v107 v108 v109 v110 v111 v112 v113 v114 v115 v116 v117 v118 v119 v120 : Value} {KK : Act → World → Prop} {Q : Exit → Act → World → Prop} (hST : stF ∈ fs) (hRW : rwF ∈ fs) (hMV : mvF ∈ fs) (h_xs : fF A n xs ∈ fs) (hN_xs : A = none → c = 0) (h3 : (gT, #[.int .i64 M, .slice A n c], 24) ∈ gs) (h_ls : fF (some ⟨b, o, none⟩) ln ls ∈ fs) (hx : ls[j]? = some (fa, fb)) (hj0 : (0 : Int) ≤ (j : Int)) (hj1 : (j : Int) < (ln : Int)) (hj2 : j < ln) (hr : rightB M xs = true) (hz : sz ((fa, fb) : Fd) ≤ 7000) (hi : findI xs (fa, fb) = i) (hb1 : findB xs (fa, fb) = B1) (hn : n ≤ 1000000) (hF : full xs ≤ 1000000) (hR : ∀  (w' : World), EnvF w' fs (gs) → Below w.drew.heap.size w.drew w' → KK { tmps := #[v0, .slice (some ⟨b, o, none⟩) ln lc, .pointer (some ⟨gT, 0, none⟩), v3, v4, v5, v6, v7, v8, v9, v10, v11, .int .i64 (j : Int), .int .i64 (i : Int), .bool B1, v15, v16, v17, v18, v19, v20, v21, v22, v23, v24, v25, v26, v27, v28, v29, v30, v31, v32, v33, v34, v35, v36, v37, v38, v39, v40, v41, v42, v43, v44, v45, v46, v47, v48, v49, v50, v51, v52, v53, v54, v55, v56, v57, v58, v59, v60, v61, v62, v63, v64, v65, v66, v67, v68, v69, v70, v71, v72, v73, v74, v75, v76, v77, v78, .tuple #[.int .i64 (i : Int), .bool B1], .agg #[.int .i64 M, .slice A n c], .slice (some ⟨b, o, none⟩) ln lc, .int .i64 (j : Int), .pointer (some ⟨b, o + j * 2, none⟩), .agg #[.string fa, .string fb], .tuple #[.int .i64 (i : Int), .bool B1], .int .i64 (i : Int), .bool B1, v88, v89, v90, v91, v92, v93, v94, v95, v96, v97, v98, v99, v100, v101, v102, v103, v104, v105, v106, v107, v108, v109, v110, v111, v112, v113, v114, v115, v116, v117, v118, v119, v120], defers := [] } w') (K : EnvF w fs gs) :
    (Code.region 18 ps18ops.toArray true).wp Tryd.prog (Exit.then KK Q) { tmps := #[v0, .slice (some ⟨b, o, none⟩) ln lc, .pointer (some ⟨gT, 0, none⟩), v3, v4, v5, v6, v7, v8, v9, v10, v11, .int .i64 (j : Int), v13, v14, v15, v16, v17, v18, v19, v20, v21, v22, v23, v24, v25, v26, v27, v28, v29, v30, v31, v32, v33, v34, v35, v36, v37, v38, v39, v40, v41, v42, v43, v44, v45, v46, v47, v48, v49, v50, v51, v52, v53, v54, v55, v56, v57, v58, v59, v60, v61, v62, v63, v64, v65, v66, v67, v68, v69, v70, v71, v72, v73, v74, v75, v76, v77, v78, v79, v80, v81, v82, v83, v84, v85, v86, v87, v88, v89, v90, v91, v92, v93, v94, v95, v96, v97, v98, v99, v100, v101, v102, v103, v104, v105, v106, v107, v108, v109, v110, v111, v112, v113, v114, v115, v116, v117, v118, v119, v120], defers := [] } w := by
  refine Code.wp_mono (Q := Exit.then KK fun _ _ _ => False) (fun e a w h => by cases e <;> first | exact h | exact h.elim) ?_
  refine wp_region_held_drew (S := (fun W' => W'.cell? ⟨gT, 0, none⟩ = some (.int .i64 M) ∧ W'.cell? ⟨gT, 1, none⟩ = some (.slice A n c) ∧ W'.cell? ⟨b, o + j * 2, none⟩ = some (.string fa) ∧ W'.cell? ⟨b, o + j * 2 + 1, none⟩ = some (.string fb))) (by kernel_rfl) (Pk.s4 (cells2_row (K.drew.g _ (h3))) (Pk.cell_of (K.drew.fs (A := some ⟨b, o, none⟩) (n := ln) (xs := ls) (h_ls)) hx)) (fun hH => ?_)
  refine takeD (i := 0) (v := ?_) rfl (by as_aux_lemma => kernel_rfl) (by as_aux_lemma => kernel_rfl) (by as_aux_lemma => kernel_rfl) (fun _ _ _ h => h) (Or.inl ⟨by rfl, ?_⟩) hH ?_
  rotate_left
  · intro w hSw; (try dsimp only at hSw); go_simp <;> with_reducible rfl
  try simp only [Act.put, List.setIfInBounds_toArray, List.set_cons_zero, List.set_cons_succ]
  refine takeD (i := 1) (v := ?_) rfl (by as_aux_lemma => kernel_rfl) (by as_aux_lemma => kernel_rfl) (by as_aux_lemma => kernel_rfl) (fun _ _ _ h => h) (Or.inl ⟨by rfl, ?_⟩) hH ?_
  rotate_left
  · intro w hSw; (try dsimp only at hSw); go_simp <;> with_reducible rfl
  try simp only [Act.put, List.setIfInBounds_toArray, List.set_cons_zero, List.set_cons_succ]
  refine takeD (i := 2) (v := ?_) rfl (by as_aux_lemma => kernel_rfl) (by as_aux_lemma => kernel_rfl) (by as_aux_lemma => kernel_rfl) (fun _ _ _ h => h) (Or.inl ⟨by rfl, ?_⟩) hH ?_
  rotate_left
  · intro w hSw; (try dsimp only at hSw); go_simp <;> with_reducible rfl
  try simp only [Act.put, List.setIfInBounds_toArray, List.set_cons_zero, List.set_cons_succ]
  refine takeD (i := 3) (v := ?_) rfl (by as_aux_lemma => kernel_rfl) (by as_aux_lemma => kernel_rfl) (by as_aux_lemma => kernel_rfl) (fun _ _ _ h => h) (Or.inl ⟨by rfl, ?_⟩) hH ?_
  rotate_left
  · intro w hSw; (try dsimp only at hSw); go_simp <;> with_reducible rfl
  try simp only [Act.put, List.setIfInBounds_toArray, List.set_cons_zero, List.set_cons_succ]
  refine takeD (i := 4) (v := ?_) rfl (by as_aux_lemma => kernel_rfl) (by as_aux_lemma => kernel_rfl) (by as_aux_lemma => kernel_rfl) (fun _ _ _ h => h) (Or.inl ⟨by rfl, ?_⟩) hH ?_
  rotate_left
  · intro w hSw; (try dsimp only at hSw); go_simp <;> with_reducible rfl
  try simp only [Act.put, List.setIfInBounds_toArray, List.set_cons_zero, List.set_cons_succ]
  exact ps18_00 hST hRW hMV h_xs hN_xs h3 h_ls hx hj0 hj1 hj2 hr hz hi hb1 hn hF hR _ (by kernel_rfl) K.drew (Below.refl _ _)
noncomputable def ps19ops : List Oper := opsOf 19 (Tryd.f3.body.getD .skip)
section
variable {w0 : World} {fs : List Fact} {gs : List Bx} {M : Int} {A : Option Addr} {n c ln lc gT b o j : Nat} {xs ls : List Fd} {fa fb : ByteArray} {k1 q : Nat} {L : List UInt8} {Y : List Fd}  {v0 v3 v4 v5 v6 v7 v8 v9 v10 v11 v13 v14 v15 v16 v17 v18 v19 v20 v21 v22 v23 v24 v25 v26 v27 v28 v29 v30 v31 v32 v33 v34 v35 v36 v37 v38 v39 v40 v41 v42 v43 v44 v45 v46 v47 v48 v49 v50 v51 v52 v53 v54 v55 v56 v57 v58 v59 v60 v61 v62 v63 v64 v65 v66 v67 v68 v69 v70 v71 v72 v73 v74 v75 v76 v77 v78 v79 v80 v81 v82 v83 v84 v85 v86 v87 v88 v94 v95 v96 v97 v98 v99 v100 v101 v102 v103 v104 v105 v106 v107 v108 v109 v110 v111 v112 v113 v114 v115 v116 v117 v118 v119 v120 : Value} {KK : Act → World → Prop} (hST : stF ∈ fs) (hRW : rwF ∈ fs) (hMV : mvF ∈ fs) (h_xs : fF A n xs ∈ fs) (hN_xs : A = none → c = 0) (h3 : (gT, #[.int .i64 M, .slice A n c], 24) ∈ gs) (h_ls : fF (some ⟨b, o, none⟩) ln ls ∈ fs) (hx : ls[j]? = some (fa, fb)) (hj0 : (0 : Int) ≤ (j : Int)) (hj1 : (j : Int) < (ln : Int)) (hj2 : j < ln) (hr : rightB M xs = true) (hz : sz ((fa, fb) : Fd) ≤ 7000) (hB : fB M xs (fa, fb) = L) (hY : fX M xs (fa, fb) = Y) (hk : L.length = k1) (hq : Y.length = q) (hR : ∀ (gX : Nat) (A1 A2 : Option Addr) (c1 c2 : Nat) (w : World), EnvF w (bF A1 k1 L :: fF A2 q Y :: fs) ((gX, #[.int .i64 M, .slice A2 q c2], 24) :: (gs)) → (A2 = none → c2 = 0) → Below w0.heap.size w0 w → KK { tmps := #[v0, .slice (some ⟨b, o, none⟩) ln lc, .pointer (some ⟨gT, 0, none⟩), v3, v4, v5, v6, v7, v8, v9, v10, v11, .int .i64 (j : Int), v13, v14, .slice A1 k1 c1, .pointer (some ⟨gX, 0, none⟩), .int .i64 0, v18, v19, v20, v21, v22, v23, v24, v25, v26, v27, v28, v29, v30, v31, v32, v33, v34, v35, v36, v37, v38, v39, v40, v41, v42, v43, v44, v45, v46, v47, v48, v49, v50, v51, v52, v53, v54, v55, v56, v57, v58, v59, v60, v61, v62, v63, v64, v65, v66, v67, v68, v69, v70, v71, v72, v73, v74, v75, v76, v77, v78, v79, v80, v81, v82, v83, v84, v85, v86, v87, .tuple #[.slice A1 k1 c1, .agg #[.int .i64 M, .slice A2 q c2], .int .i64 0], .agg #[.int .i64 M, .slice A n c], .slice (some ⟨b, o, none⟩) ln lc, .int .i64 (j : Int), .pointer (some ⟨b, o + j * 2, none⟩), .agg #[.string fa, .string fb], .tuple #[.slice A1 k1 c1, .agg #[.int .i64 M, .slice A2 q c2], .int .i64 0], .slice A1 k1 c1, .agg #[.int .i64 M, .slice A2 q c2], .int .i64 0, v98, v99, v100, v101, v102, v103, v104, v105, v106, v107, v108, v109, v110, v111, v112, v113, v114, v115, v116, v117, v118, v119, v120], defers := [] } w)
include hST hRW hMV h_xs hN_xs h3 h_ls hx hj0 hj1 hj2 hr hz hB hY hk hq hR
set_option maxRecDepth 100000 in
set_option maxHeartbeats 4000000 in
theorem ps19_11 {gX : Nat} {A1 A2 : Option Addr} {c1 c2 : Nat}  (leX : w0.heap.size ≤ gX) (h6 : A2 = none → c2 = 0) {w : World} (ls : Array Bool) (hl : ls = #[true, true, true, true, true, true, true, true, true, true, true, false, false, false]) (K : EnvF w (bF A1 k1 L :: fF A2 q Y :: fs) ((gX, #[.int .i64 0, .slice none 0 0], 24) :: (gs))) (B : Below w0.heap.size w0 w) :
    wpAnyH Tryd.prog .any ps19ops.toArray (Exit.then KK fun _ _ _ => False) (fun W' => W'.cell? ⟨gT, 0, none⟩ = some (.int .i64 M) ∧ W'.cell? ⟨gT, 1, none⟩ = some (.slice A n c) ∧ W'.cell? ⟨b, o + j * 2, none⟩ = some (.string fa) ∧ W'.cell? ⟨b, o + j * 2 + 1, none⟩ = some (.string fb)) 3 ls { tmps := #[v0, .slice (some ⟨b, o, none⟩) ln lc, .pointer (some ⟨gT, 0, none⟩), v3, v4, v5, v6, v7, v8, v9, v10, v11, .int .i64 (j : Int), v13, v14, v15, .pointer (some ⟨gX, 0, none⟩), v17, v18, v19, v20, v21, v22, v23, v24, v25, v26, v27, v28, v29, v30, v31, v32, v33, v34, v35, v36, v37, v38, v39, v40, v41, v42, v43, v44, v45, v46, v47, v48, v49, v50, v51, v52, v53, v54, v55, v56, v57, v58, v59, v60, v61, v62, v63, v64, v65, v66, v67, v68, v69, v70, v71, v72, v73, v74, v75, v76, v77, v78, v79, v80, v81, v82, v83, v84, v85, v86, v87, .tuple #[.slice A1 k1 c1, .agg #[.int .i64 M, .slice A2 q c2], .int .i64 0], .agg #[.int .i64 M, .slice A n c], .slice (some ⟨b, o, none⟩) ln lc, .int .i64 (j : Int), .pointer (some ⟨b, o + j * 2, none⟩), .agg #[.string fa, .string fb], .tuple #[.slice A1 k1 c1, .agg #[.int .i64 M, .slice A2 q c2], .int .i64 0], .slice A1 k1 c1, .agg #[.int .i64 M, .slice A2 q c2], .int .i64 0, v98, v99, v100, v101, v102, v103, v104, v105, v106, v107, v108, v109, v110, v111, v112, v113, v114, v115, v116, v117, v118, v119, v120], defers := [] } w := by
  subst hl
  have hH : (fun W' => W'.cell? ⟨gT, 0, none⟩ = some (.int .i64 M) ∧ W'.cell? ⟨gT, 1, none⟩ = some (.slice A n c) ∧ W'.cell? ⟨b, o + j * 2, none⟩ = some (.string fa) ∧ W'.cell? ⟨b, o + j * 2 + 1, none⟩ = some (.string fb)) w := (Pk.s4 (cells2_row (K.g _ (List.mem_cons_of_mem _ (h3)))) (Pk.cell_of (K.fs (A := some ⟨b, o, none⟩) (n := ln) (xs := ls) (List.mem_cons_of_mem _ (List.mem_cons_of_mem _ h_ls))) hx))
  refine takeD (i := 11) (v := ?_) rfl (by as_aux_lemma => kernel_rfl) (by as_aux_lemma => kernel_rfl) (by as_aux_lemma => kernel_rfl) (fun _ _ _ h => h) (Or.inl ⟨by rfl, ?_⟩) hH ?_
  rotate_left
  · intro w hSw; (try dsimp only at hSw); go_simp <;> with_reducible rfl
  try simp only [Act.put, List.setIfInBounds_toArray, List.set_cons_zero, List.set_cons_succ]
  clear hH
  refine readyD (i := 12) rfl (by as_aux_lemma => kernel_rfl) (fun K' hK => ?_)
  refine step_put (by rfl) 24 (.tmp 16) (.tmp 96) (by rfl) gX 0 (.agg #[.int .i64 M, .slice A2 q c2]) (by rfl) (by rfl) 24 #[.int .i64 0, .slice none 0 0] #[.int .i64 M, .slice A2 q c2] (K.row 0 rfl) (by simp [Value.cells]) (by kernel_rfl) infoc_T (by kernel_rfl) ?_
  intro w1 c1' c2' c3' c4'
  have K1 := K.turn 0 rfl c1' c2' c3'
  have B1 := c4' _ _ leX B
  refine hK.out _ _ (Pk.s4 (cells2_row (K1.g _ (List.mem_cons_of_mem _ (h3)))) (Pk.cell_of (K1.fs (A := some ⟨b, o, none⟩) (n := ln) (xs := ls) (List.mem_cons_of_mem _ (List.mem_cons_of_mem _ h_ls))) hx)) (fun hH => ?_)
  clear hK K'
  try simp only [Act.put, List.setIfInBounds_toArray, List.set_cons_zero, List.set_cons_succ]
  refine takeD (i := 13) (v := ?_) rfl (by as_aux_lemma => kernel_rfl) (by as_aux_lemma => kernel_rfl) (by as_aux_lemma => kernel_rfl) (fun _ _ _ h => h) (Or.inl ⟨by rfl, ?_⟩) hH ?_
  rotate_left
  · intro w hSw; (try dsimp only at hSw); go_simp <;> with_reducible rfl
  try simp only [Act.put, List.setIfInBounds_toArray, List.set_cons_zero, List.set_cons_succ]
  refine wpAnyH_done (by as_aux_lemma => kernel_rfl) ?_ _
  exact hR _ _ _ _ _  _ K1 h6 B1
set_option maxRecDepth 100000 in
set_option maxHeartbeats 4000000 in
theorem ps19_10 {A1 A2 : Option Addr} {c1 c2 : Nat}  (h6 : A2 = none → c2 = 0) {w : World} (ls : Array Bool) (hl : ls = #[true, true, true, true, true, true, true, true, true, true, false, false, false, false]) (K : EnvF w (bF A1 k1 L :: fF A2 q Y :: fs) (gs)) (B : Below w0.heap.size w0 w) :
    wpAnyH Tryd.prog .any ps19ops.toArray (Exit.then KK fun _ _ _ => False) (fun W' => W'.cell? ⟨gT, 0, none⟩ = some (.int .i64 M) ∧ W'.cell? ⟨gT, 1, none⟩ = some (.slice A n c) ∧ W'.cell? ⟨b, o + j * 2, none⟩ = some (.string fa) ∧ W'.cell? ⟨b, o + j * 2 + 1, none⟩ = some (.string fb)) 4 ls { tmps := #[v0, .slice (some ⟨b, o, none⟩) ln lc, .pointer (some ⟨gT, 0, none⟩), v3, v4, v5, v6, v7, v8, v9, v10, v11, .int .i64 (j : Int), v13, v14, v15, v16, v17, v18, v19, v20, v21, v22, v23, v24, v25, v26, v27, v28, v29, v30, v31, v32, v33, v34, v35, v36, v37, v38, v39, v40, v41, v42, v43, v44, v45, v46, v47, v48, v49, v50, v51, v52, v53, v54, v55, v56, v57, v58, v59, v60, v61, v62, v63, v64, v65, v66, v67, v68, v69, v70, v71, v72, v73, v74, v75, v76, v77, v78, v79, v80, v81, v82, v83, v84, v85, v86, v87, .tuple #[.slice A1 k1 c1, .agg #[.int .i64 M, .slice A2 q c2], .int .i64 0], .agg #[.int .i64 M, .slice A n c], .slice (some ⟨b, o, none⟩) ln lc, .int .i64 (j : Int), .pointer (some ⟨b, o + j * 2, none⟩), .agg #[.string fa, .string fb], .tuple #[.slice A1 k1 c1, .agg #[.int .i64 M, .slice A2 q c2], .int .i64 0], .slice A1 k1 c1, .agg #[.int .i64 M, .slice A2 q c2], .int .i64 0, v98, v99, v100, v101, v102, v103, v104, v105, v106, v107, v108, v109, v110, v111, v112, v113, v114, v115, v116, v117, v118, v119, v120], defers := [] } w := by
  subst hl
  refine wpAnyH_ready (rs := [10]) (by as_aux_lemma => kernel_rfl) (by simp) ?_
  refine AllReadyH.cons (getOf (i := 10) rfl) (fun K' hK => ?_) ?_
  ·
    go_simp
    have K2 := K.boxg 24 #[.int .i64 0, .slice none 0 0] w.heap.size rfl
    have B2 := B.alloc B.size (.cells #[.int .i64 0, .slice none 0 0] 24)
    have leX := B.size
    refine hK.out _ _ (Pk.s4 (cells2_row (K2.g _ (List.mem_cons_of_mem _ (h3)))) (Pk.cell_of (K2.fs (A := some ⟨b, o, none⟩) (n := ln) (xs := ls) (List.mem_cons_of_mem _ (List.mem_cons_of_mem _ h_ls))) hx)) (fun hH => ?_)
    clear hK K'
    try simp only [Act.put, List.setIfInBounds_toArray, List.set_cons_zero, List.set_cons_succ]
    exact ps19_11 hST hRW hMV h_xs hN_xs h3 h_ls hx hj0 hj1 hj2 hr hz hB hY hk hq hR leX h6 _ (by kernel_rfl) K2 B2
  exact AllReadyH.nil
set_option maxRecDepth 100000 in
set_option maxHeartbeats 4000000 in
theorem ps19_01 {gX : Nat}  (leX : w0.heap.size ≤ gX) {w : World} (ls : Array Bool) (hl : ls = #[true, true, true, true, true, false, false, false, false, false, true, false, false, false]) (K : EnvF w fs ((gX, #[.int .i64 0, .slice none 0 0], 24) :: (gs))) (B : Below w0.heap.size w0 w) :
    wpAnyH Tryd.prog .any ps19ops.toArray (Exit.then KK fun _ _ _ => False) (fun W' => W'.cell? ⟨gT, 0, none⟩ = some (.int .i64 M) ∧ W'.cell? ⟨gT, 1, none⟩ = some (.slice A n c) ∧ W'.cell? ⟨b, o + j * 2, none⟩ = some (.string fa) ∧ W'.cell? ⟨b, o + j * 2 + 1, none⟩ = some (.string fb)) 8 ls { tmps := #[v0, .slice (some ⟨b, o, none⟩) ln lc, .pointer (some ⟨gT, 0, none⟩), v3, v4, v5, v6, v7, v8, v9, v10, v11, .int .i64 (j : Int), v13, v14, v15, .pointer (some ⟨gX, 0, none⟩), v17, v18, v19, v20, v21, v22, v23, v24, v25, v26, v27, v28, v29, v30, v31, v32, v33, v34, v35, v36, v37, v38, v39, v40, v41, v42, v43, v44, v45, v46, v47, v48, v49, v50, v51, v52, v53, v54, v55, v56, v57, v58, v59, v60, v61, v62, v63, v64, v65, v66, v67, v68, v69, v70, v71, v72, v73, v74, v75, v76, v77, v78, v79, v80, v81, v82, v83, v84, v85, v86, v87, v88, .agg #[.int .i64 M, .slice A n c], .slice (some ⟨b, o, none⟩) ln lc, .int .i64 (j : Int), .pointer (some ⟨b, o + j * 2, none⟩), .agg #[.string fa, .string fb], v94, v95, v96, v97, v98, v99, v100, v101, v102, v103, v104, v105, v106, v107, v108, v109, v110, v111, v112, v113, v114, v115, v116, v117, v118, v119, v120], defers := [] } w := by
  subst hl
  refine wpAnyH_ready (rs := [5]) (by as_aux_lemma => kernel_rfl) (by simp) ?_
  refine AllReadyH.cons (getOf (i := 5) rfl) (fun K' hK => ?_) ?_
  ·
    go_simp
    go_at_call 12
    refine (p_Field _ _ w K h_xs hN_xs hST hRW hMV hr hz hB hY hk hq).mono ?_
    rintro e w2 ⟨A1, c1, A2, c2, rfl, hb, hE, _, h6⟩
    have K2 := hE.sub (fs' := bF A1 k1 L :: fF A2 q Y :: fs) (fun y hy => by simp only [List.mem_cons] at hy ⊢; rcases hy with rfl | rfl | hy <;> simp [*]) (List.Sublist.refl _)
    have B2 := below_step B hb
    refine hK.out _ _ (Pk.s4 (cells2_row (K2.g _ (List.mem_cons_of_mem _ (h3)))) (Pk.cell_of (K2.fs (A := some ⟨b, o, none⟩) (n := ln) (xs := ls) (List.mem_cons_of_mem _ (List.mem_cons_of_mem _ h_ls))) hx)) (fun hH => ?_)
    clear hK K'
    try simp only [Act.put, List.setIfInBounds_toArray, List.set_cons_zero, List.set_cons_succ]
    refine takeD (i := 6) (v := ?_) rfl (by as_aux_lemma => kernel_rfl) (by as_aux_lemma => kernel_rfl) (by as_aux_lemma => kernel_rfl) (fun _ _ _ h => h) (Or.inl ⟨by rfl, ?_⟩) hH ?_
    rotate_left
    · intro w hSw; (try dsimp only at hSw); go_simp <;> with_reducible rfl
    try simp only [Act.put, List.setIfInBounds_toArray, List.set_cons_zero, List.set_cons_succ]
    refine takeD (i := 7) (v := ?_) rfl (by as_aux_lemma => kernel_rfl) (by as_aux_lemma => kernel_rfl) (by as_aux_lemma => kernel_rfl) (fun _ _ _ h => h) (Or.inl ⟨by rfl, ?_⟩) hH ?_
    rotate_left
    · intro w hSw; (try dsimp only at hSw); go_simp <;> with_reducible rfl
    try simp only [Act.put, List.setIfInBounds_toArray, List.set_cons_zero, List.set_cons_succ]
    refine takeD (i := 8) (v := ?_) rfl (by as_aux_lemma => kernel_rfl) (by as_aux_lemma => kernel_rfl) (by as_aux_lemma => kernel_rfl) (fun _ _ _ h => h) (Or.inl ⟨by rfl, ?_⟩) hH ?_
    rotate_left
    · intro w hSw; (try dsimp only at hSw); go_simp <;> with_reducible rfl
    try simp only [Act.put, List.setIfInBounds_toArray, List.set_cons_zero, List.set_cons_succ]
    refine takeD (i := 9) (v := ?_) rfl (by as_aux_lemma => kernel_rfl) (by as_aux_lemma => kernel_rfl) (by as_aux_lemma => kernel_rfl) (fun _ _ _ h => h) (Or.inl ⟨by rfl, ?_⟩) hH ?_
    rotate_left
    · intro w hSw; (try dsimp only at hSw); go_simp <;> with_reducible rfl
    try simp only [Act.put, List.setIfInBounds_toArray, List.set_cons_zero, List.set_cons_succ]
    exact ps19_11 hST hRW hMV h_xs hN_xs h3 h_ls hx hj0 hj1 hj2 hr hz hB hY hk hq hR leX h6 _ (by kernel_rfl) K2 B2
  exact AllReadyH.nil
set_option maxRecDepth 100000 in
set_option maxHeartbeats 4000000 in
theorem ps19_00  {w : World} (ls : Array Bool) (hl : ls = #[true, true, true, true, true, false, false, false, false, false, false, false, false, false]) (K : EnvF w fs (gs)) (B : Below w0.heap.size w0 w) :
    wpAnyH Tryd.prog .any ps19ops.toArray (Exit.then KK fun _ _ _ => False) (fun W' => W'.cell? ⟨gT, 0, none⟩ = some (.int .i64 M) ∧ W'.cell? ⟨gT, 1, none⟩ = some (.slice A n c) ∧ W'.cell? ⟨b, o + j * 2, none⟩ = some (.string fa) ∧ W'.cell? ⟨b, o + j * 2 + 1, none⟩ = some (.string fb)) 9 ls { tmps := #[v0, .slice (some ⟨b, o, none⟩) ln lc, .pointer (some ⟨gT, 0, none⟩), v3, v4, v5, v6, v7, v8, v9, v10, v11, .int .i64 (j : Int), v13, v14, v15, v16, v17, v18, v19, v20, v21, v22, v23, v24, v25, v26, v27, v28, v29, v30, v31, v32, v33, v34, v35, v36, v37, v38, v39, v40, v41, v42, v43, v44, v45, v46, v47, v48, v49, v50, v51, v52, v53, v54, v55, v56, v57, v58, v59, v60, v61, v62, v63, v64, v65, v66, v67, v68, v69, v70, v71, v72, v73, v74, v75, v76, v77, v78, v79, v80, v81, v82, v83, v84, v85, v86, v87, v88, .agg #[.int .i64 M, .slice A n c], .slice (some ⟨b, o, none⟩) ln lc, .int .i64 (j : Int), .pointer (some ⟨b, o + j * 2, none⟩), .agg #[.string fa, .string fb], v94, v95, v96, v97, v98, v99, v100, v101, v102, v103, v104, v105, v106, v107, v108, v109, v110, v111, v112, v113, v114, v115, v116, v117, v118, v119, v120], defers := [] } w := by
  subst hl
  refine wpAnyH_ready (rs := [5, 10]) (by as_aux_lemma => kernel_rfl) (by simp) ?_
  refine AllReadyH.cons (getOf (i := 5) rfl) (fun K' hK => ?_) ?_
  ·
    go_simp
    go_at_call 12
    refine (p_Field _ _ w K h_xs hN_xs hST hRW hMV hr hz hB hY hk hq).mono ?_
    rintro e w2 ⟨A1, c1, A2, c2, rfl, hb, hE, _, h6⟩
    have K2 := hE.sub (fs' := bF A1 k1 L :: fF A2 q Y :: fs) (fun y hy => by simp only [List.mem_cons] at hy ⊢; rcases hy with rfl | rfl | hy <;> simp [*]) (List.Sublist.refl _)
    have B2 := below_step B hb
    refine hK.out _ _ (Pk.s4 (cells2_row (K2.g _ (h3))) (Pk.cell_of (K2.fs (A := some ⟨b, o, none⟩) (n := ln) (xs := ls) (List.mem_cons_of_mem _ (List.mem_cons_of_mem _ h_ls))) hx)) (fun hH => ?_)
    clear hK K'
    try simp only [Act.put, List.setIfInBounds_toArray, List.set_cons_zero, List.set_cons_succ]
    refine takeD (i := 6) (v := ?_) rfl (by as_aux_lemma => kernel_rfl) (by as_aux_lemma => kernel_rfl) (by as_aux_lemma => kernel_rfl) (fun _ _ _ h => h) (Or.inl ⟨by rfl, ?_⟩) hH ?_
    rotate_left
    · intro w hSw; (try dsimp only at hSw); go_simp <;> with_reducible rfl
    try simp only [Act.put, List.setIfInBounds_toArray, List.set_cons_zero, List.set_cons_succ]
    refine takeD (i := 7) (v := ?_) rfl (by as_aux_lemma => kernel_rfl) (by as_aux_lemma => kernel_rfl) (by as_aux_lemma => kernel_rfl) (fun _ _ _ h => h) (Or.inl ⟨by rfl, ?_⟩) hH ?_
    rotate_left
    · intro w hSw; (try dsimp only at hSw); go_simp <;> with_reducible rfl
    try simp only [Act.put, List.setIfInBounds_toArray, List.set_cons_zero, List.set_cons_succ]
    refine takeD (i := 8) (v := ?_) rfl (by as_aux_lemma => kernel_rfl) (by as_aux_lemma => kernel_rfl) (by as_aux_lemma => kernel_rfl) (fun _ _ _ h => h) (Or.inl ⟨by rfl, ?_⟩) hH ?_
    rotate_left
    · intro w hSw; (try dsimp only at hSw); go_simp <;> with_reducible rfl
    try simp only [Act.put, List.setIfInBounds_toArray, List.set_cons_zero, List.set_cons_succ]
    refine takeD (i := 9) (v := ?_) rfl (by as_aux_lemma => kernel_rfl) (by as_aux_lemma => kernel_rfl) (by as_aux_lemma => kernel_rfl) (fun _ _ _ h => h) (Or.inl ⟨by rfl, ?_⟩) hH ?_
    rotate_left
    · intro w hSw; (try dsimp only at hSw); go_simp <;> with_reducible rfl
    try simp only [Act.put, List.setIfInBounds_toArray, List.set_cons_zero, List.set_cons_succ]
    exact ps19_10 hST hRW hMV h_xs hN_xs h3 h_ls hx hj0 hj1 hj2 hr hz hB hY hk hq hR h6 _ (by kernel_rfl) K2 B2
  refine AllReadyH.cons (getOf (i := 10) rfl) (fun K' hK => ?_) ?_
  ·
    go_simp
    have K2 := K.boxg 24 #[.int .i64 0, .slice none 0 0] w.heap.size rfl
    have B2 := B.alloc B.size (.cells #[.int .i64 0, .slice none 0 0] 24)
    have leX := B.size
    refine hK.out _ _ (Pk.s4 (cells2_row (K2.g _ (List.mem_cons_of_mem _ (h3)))) (Pk.cell_of (K2.fs (A := some ⟨b, o, none⟩) (n := ln) (xs := ls) (h_ls)) hx)) (fun hH => ?_)
    clear hK K'
    try simp only [Act.put, List.setIfInBounds_toArray, List.set_cons_zero, List.set_cons_succ]
    exact ps19_01 hST hRW hMV h_xs hN_xs h3 h_ls hx hj0 hj1 hj2 hr hz hB hY hk hq hR leX _ (by kernel_rfl) K2 B2
  exact AllReadyH.nil
end
set_option maxRecDepth 100000 in
set_option maxHeartbeats 4000000 in
theorem ps19_region {w : World} {fs : List Fact} {gs : List Bx} {M : Int} {A : Option Addr} {n c ln lc gT b o j : Nat} {xs ls : List Fd} {fa fb : ByteArray} {k1 q : Nat} {L : List UInt8} {Y : List Fd}  {v0 v3 v4 v5 v6 v7 v8 v9 v10 v11 v13 v14 v15 v16 v17 v18 v19 v20 v21 v22 v23 v24 v25 v26 v27 v28 v29 v30 v31 v32 v33 v34 v35 v36 v37 v38 v39 v40 v41 v42 v43 v44 v45 v46 v47 v48 v49 v50 v51 v52 v53 v54 v55 v56 v57 v58 v59 v60 v61 v62 v63 v64 v65 v66 v67 v68 v69 v70 v71 v72 v73 v74 v75 v76 v77 v78 v79 v80 v81 v82 v83 v84 v85 v86 v87 v88 v89 v90 v91 v92 v93 v94 v95 v96 v97 v98 v99 v100 v101 v102 v103 v104 v105 v106 v107 v108 v109 v110 v111 v112 v113 v114 v115 v116 v117 v118 v119 v120 : Value} {KK : Act → World → Prop} {Q : Exit → Act → World → Prop} (hST : stF ∈ fs) (hRW : rwF ∈ fs) (hMV : mvF ∈ fs) (h_xs : fF A n xs ∈ fs) (hN_xs : A = none → c = 0) (h3 : (gT, #[.int .i64 M, .slice A n c], 24) ∈ gs) (h_ls : fF (some ⟨b, o, none⟩) ln ls ∈ fs) (hx : ls[j]? = some (fa, fb)) (hj0 : (0 : Int) ≤ (j : Int)) (hj1 : (j : Int) < (ln : Int)) (hj2 : j < ln) (hr : rightB M xs = true) (hz : sz ((fa, fb) : Fd) ≤ 7000) (hB : fB M xs (fa, fb) = L) (hY : fX M xs (fa, fb) = Y) (hk : L.length = k1) (hq : Y.length = q) (hR : ∀ (gX : Nat) (A1 A2 : Option Addr) (c1 c2 : Nat) (w' : World), EnvF w' (bF A1 k1 L :: fF A2 q Y :: fs) ((gX, #[.int .i64 M, .slice A2 q c2], 24) :: (gs)) → (A2 = none → c2 = 0) → Below w.drew.heap.size w.drew w' → KK { tmps := #[v0, .slice (some ⟨b, o, none⟩) ln lc, .pointer (some ⟨gT, 0, none⟩), v3, v4, v5, v6, v7, v8, v9, v10, v11, .int .i64 (j : Int), v13, v14, .slice A1 k1 c1, .pointer (some ⟨gX, 0, none⟩), .int .i64 0, v18, v19, v20, v21, v22, v23, v24, v25, v26, v27, v28, v29, v30, v31, v32, v33, v34, v35, v36, v37, v38, v39, v40, v41, v42, v43, v44, v45, v46, v47, v48, v49, v50, v51, v52, v53, v54, v55, v56, v57, v58, v59, v60, v61, v62, v63, v64, v65, v66, v67, v68, v69, v70, v71, v72, v73, v74, v75, v76, v77, v78, v79, v80, v81, v82, v83, v84, v85, v86, v87, .tuple #[.slice A1 k1 c1, .agg #[.int .i64 M, .slice A2 q c2], .int .i64 0], .agg #[.int .i64 M, .slice A n c], .slice (some ⟨b, o, none⟩) ln lc, .int .i64 (j : Int), .pointer (some ⟨b, o + j * 2, none⟩), .agg #[.string fa, .string fb], .tuple #[.slice A1 k1 c1, .agg #[.int .i64 M, .slice A2 q c2], .int .i64 0], .slice A1 k1 c1, .agg #[.int .i64 M, .slice A2 q c2], .int .i64 0, v98, v99, v100, v101, v102, v103, v104, v105, v106, v107, v108, v109, v110, v111, v112, v113, v114, v115, v116, v117, v118, v119, v120], defers := [] } w') (K : EnvF w fs gs) :
    (Code.region 19 ps19ops.toArray true).wp Tryd.prog (Exit.then KK Q) { tmps := #[v0, .slice (some ⟨b, o, none⟩) ln lc, .pointer (some ⟨gT, 0, none⟩), v3, v4, v5, v6, v7, v8, v9, v10, v11, .int .i64 (j : Int), v13, v14, v15, v16, v17, v18, v19, v20, v21, v22, v23, v24, v25, v26, v27, v28, v29, v30, v31, v32, v33, v34, v35, v36, v37, v38, v39, v40, v41, v42, v43, v44, v45, v46, v47, v48, v49, v50, v51, v52, v53, v54, v55, v56, v57, v58, v59, v60, v61, v62, v63, v64, v65, v66, v67, v68, v69, v70, v71, v72, v73, v74, v75, v76, v77, v78, v79, v80, v81, v82, v83, v84, v85, v86, v87, v88, v89, v90, v91, v92, v93, v94, v95, v96, v97, v98, v99, v100, v101, v102, v103, v104, v105, v106, v107, v108, v109, v110, v111, v112, v113, v114, v115, v116, v117, v118, v119, v120], defers := [] } w := by
  refine Code.wp_mono (Q := Exit.then KK fun _ _ _ => False) (fun e a w h => by cases e <;> first | exact h | exact h.elim) ?_
  refine wp_region_held_drew (S := (fun W' => W'.cell? ⟨gT, 0, none⟩ = some (.int .i64 M) ∧ W'.cell? ⟨gT, 1, none⟩ = some (.slice A n c) ∧ W'.cell? ⟨b, o + j * 2, none⟩ = some (.string fa) ∧ W'.cell? ⟨b, o + j * 2 + 1, none⟩ = some (.string fb))) (by kernel_rfl) (Pk.s4 (cells2_row (K.drew.g _ (h3))) (Pk.cell_of (K.drew.fs (A := some ⟨b, o, none⟩) (n := ln) (xs := ls) (h_ls)) hx)) (fun hH => ?_)
  refine takeD (i := 0) (v := ?_) rfl (by as_aux_lemma => kernel_rfl) (by as_aux_lemma => kernel_rfl) (by as_aux_lemma => kernel_rfl) (fun _ _ _ h => h) (Or.inl ⟨by rfl, ?_⟩) hH ?_
  rotate_left
  · intro w hSw; (try dsimp only at hSw); go_simp <;> with_reducible rfl
  try simp only [Act.put, List.setIfInBounds_toArray, List.set_cons_zero, List.set_cons_succ]
  refine takeD (i := 1) (v := ?_) rfl (by as_aux_lemma => kernel_rfl) (by as_aux_lemma => kernel_rfl) (by as_aux_lemma => kernel_rfl) (fun _ _ _ h => h) (Or.inl ⟨by rfl, ?_⟩) hH ?_
  rotate_left
  · intro w hSw; (try dsimp only at hSw); go_simp <;> with_reducible rfl
  try simp only [Act.put, List.setIfInBounds_toArray, List.set_cons_zero, List.set_cons_succ]
  refine takeD (i := 2) (v := ?_) rfl (by as_aux_lemma => kernel_rfl) (by as_aux_lemma => kernel_rfl) (by as_aux_lemma => kernel_rfl) (fun _ _ _ h => h) (Or.inl ⟨by rfl, ?_⟩) hH ?_
  rotate_left
  · intro w hSw; (try dsimp only at hSw); go_simp <;> with_reducible rfl
  try simp only [Act.put, List.setIfInBounds_toArray, List.set_cons_zero, List.set_cons_succ]
  refine takeD (i := 3) (v := ?_) rfl (by as_aux_lemma => kernel_rfl) (by as_aux_lemma => kernel_rfl) (by as_aux_lemma => kernel_rfl) (fun _ _ _ h => h) (Or.inl ⟨by rfl, ?_⟩) hH ?_
  rotate_left
  · intro w hSw; (try dsimp only at hSw); go_simp <;> with_reducible rfl
  try simp only [Act.put, List.setIfInBounds_toArray, List.set_cons_zero, List.set_cons_succ]
  refine takeD (i := 4) (v := ?_) rfl (by as_aux_lemma => kernel_rfl) (by as_aux_lemma => kernel_rfl) (by as_aux_lemma => kernel_rfl) (fun _ _ _ h => h) (Or.inl ⟨by rfl, ?_⟩) hH ?_
  rotate_left
  · intro w hSw; (try dsimp only at hSw); go_simp <;> with_reducible rfl
  try simp only [Act.put, List.setIfInBounds_toArray, List.set_cons_zero, List.set_cons_succ]
  exact ps19_00 hST hRW hMV h_xs hN_xs h3 h_ls hx hj0 hj1 hj2 hr hz hB hY hk hq hR _ (by kernel_rfl) K.drew (Below.refl _ _)
end Go.Proofs.YtacnbpodcjefiaaDoor
