import Derived.Test.YtahiajeggbpogaaGreatDoorPkRb
set_option maxRecDepth 100000
set_option maxHeartbeats 8000000
namespace Go.Proofs.YtahiajeggbpogaaGreatDoor
open Go.RowKit Go.Shelf Px Tx Tb Up Pk GD
set_option linter.unusedVariables false
set_option linter.unusedSimpArgs false
set_option linter.unusedSectionVars false
attribute [local go_sem] Oper.semAt_some
namespace Pk
theorem s4{a b c d:Prop}(h:a∧b)(k:c∧d):a∧b∧c∧d:=⟨h.1,h.2,k.1,k.2⟩
theorem cell_of{w:World}{B ln b o j:Nat}{ls:List Fd}{x:Fd}(h:Fs w B (some ⟨b,o,none⟩) ln ls)(hx:ls[j]? = some x):w.cell? ⟨b,o+j*2,none⟩=some (.string x.1)∧w.cell? ⟨b,o+j*2+1,none⟩=some (.string x.2):=by
 have hj:j<ln:=by rw[←h.1];exact(List.getElem?_eq_some_iff.1 hx).1
 obtain⟨b',o',e,_,hc⟩:=h.2 (by omega)
 cases e
 have h1:=hc j hj
 rw[hx] at h1
 exact h1
end Pk
noncomputable def qb11ops:List Oper:=opsOf 11 (Tryz.f31.body.getD .skip)
theorem qb11{w0 w:World}{fs:List Fact}{gs:List Bx}{V1:Value}{gS gR iS iR B0 m c2:Nat}{M:Int}{A2:Option Addr}{v0 v1 v2 v3 v4 v6 v8 v10 v11 v12 v13 v14 v15 v16 v17 v18 v19 v20 v21 v22 v23 v24 v25 v26 v27 v28 v29 v30 v31 v32 v33 v34 v35 v36 v37 v38 v39 v40 v41 v42 v43 v44 v45 v46:Value}{KK:Act→World→Prop}{Q:Exit→Act→World→Prop}(hS:gs[iS]? = some (gS,#[.int .i64 M,.slice A2 m c2],24))(hZ:gs[iR]? = some (gR,#[.int .i64 0,.slice none 0 0],24))(hne:iR≠iS)(hB0:B0≤gR)(B:Below B0 w0 w)(hR : ∀(w':World),EnvF w' fs (gs.set iR (gR,#[.int .i64 M,.slice A2 m c2],24))→Below B0 w0 w'→KK { tmps:=#[v0,v1,v2,v3,V1,.pointer (some ⟨gR,0,none⟩),.int .i64 0,.pointer (some ⟨gS,0,none⟩),v8,V1,v10,v11,v12,v13,v14,v15,v16,v17,v18,v19,v20,v21,v22,v23,v24,v25,v26,v27,v28,v29,v30,v31,v32,v33,v34,v35,v36,v37,v38,v39,v40,v41,v42,v43,v44,V1,.agg #[.int .i64 M,.slice A2 m c2]],defers:=[] } w')(K:EnvF w fs gs) :
  (Code.region 11 qb11ops.toArray true).wp Tryz.prog (Exit.then KK Q) { tmps:=#[v0,v1,v2,v3,v4,.pointer (some ⟨gR,0,none⟩),v6,.pointer (some ⟨gS,0,none⟩),v8,V1,v10,v11,v12,v13,v14,v15,v16,v17,v18,v19,v20,v21,v22,v23,v24,v25,v26,v27,v28,v29,v30,v31,v32,v33,v34,v35,v36,v37,v38,v39,v40,v41,v42,v43,v44,v45,v46],defers:=[] } w:=by
 refine Code.wp_mono (Q:=Exit.then KK fun _ _ _=>False) (fun e a w h=>by cases e<;>first | exact h | exact h.elim) ?_
 refine wp_region_held_drew (S:=(fun W'=>W'.cell? ⟨gS,0,none⟩=some (.int .i64 M)∧W'.cell? ⟨gS,1,none⟩=some (.slice A2 m c2))) (by kernel_rfl) (cells2_row (K.drew.row iS hS)) (fun hH=>?_)
 refine takeD (i:=0) (v:=?_) rfl (by as_aux_lemma=>kernel_rfl) (by as_aux_lemma=>kernel_rfl) (by as_aux_lemma=>kernel_rfl) (fun _ _ _ h=>h) (Or.inl ⟨by rfl,?_⟩) hH ?_
 rotate_left
 ·intro w hSw;(try dsimp only at hSw);go_simp<;>with_reducible rfl
 try simp only[Act.put,List.setIfInBounds_toArray,List.set_cons_zero,List.set_cons_succ]
 refine takeD (i:=1) (v:=?_) rfl (by as_aux_lemma=>kernel_rfl) (by as_aux_lemma=>kernel_rfl) (by as_aux_lemma=>kernel_rfl) (fun _ _ _ h=>h) (Or.inl ⟨by rfl,?_⟩) hH ?_
 rotate_left
 ·intro w hSw;(try dsimp only at hSw);go_simp<;>with_reducible rfl
 try simp only[Act.put,List.setIfInBounds_toArray,List.set_cons_zero,List.set_cons_succ]
 refine takeD (i:=2) (v:=?_) rfl (by as_aux_lemma=>kernel_rfl) (by as_aux_lemma=>kernel_rfl) (by as_aux_lemma=>kernel_rfl) (fun _ _ _ h=>h) (Or.inl ⟨by rfl,?_⟩) hH ?_
 rotate_left
 ·intro w hSw;(try dsimp only at hSw);go_simp<;>with_reducible rfl
 try simp only[Act.put,List.setIfInBounds_toArray,List.set_cons_zero,List.set_cons_succ]
 refine readyD (i:=3) rfl (by as_aux_lemma=>kernel_rfl) (fun K' hK=>?_)
 refine step_put (by rfl) 24 (.tmp 5) (.tmp 46) (by rfl) gR 0 (.agg #[.int .i64 M,.slice A2 m c2]) (by rfl) (by rfl) 24 #[.int .i64 0,.slice none 0 0] #[.int .i64 M,.slice A2 m c2] (K.drew.row iR hZ) (by simp[Value.cells]) (by kernel_rfl) infoc_T (by kernel_rfl) ?_
 intro w1 c1' c2' c3' c4'
 have K1:=K.drew.turn iR hZ c1' c2' c3'
 have B1:=c4' _ _ hB0 B.drew
 refine hK.out _ _ (cells2_row (K1.row iS (by rw[List.getElem?_set_ne hne];exact hS))) (fun hH=>?_)
 clear hK K'
 try simp only[Act.put,List.setIfInBounds_toArray,List.set_cons_zero,List.set_cons_succ]
 refine takeD (i:=4) (v:=?_) rfl (by as_aux_lemma=>kernel_rfl) (by as_aux_lemma=>kernel_rfl) (by as_aux_lemma=>kernel_rfl) (fun _ _ _ h=>h) (Or.inl ⟨by rfl,?_⟩) hH ?_
 rotate_left
 ·intro w hSw;(try dsimp only at hSw);go_simp<;>with_reducible rfl
 try simp only[Act.put,List.setIfInBounds_toArray,List.set_cons_zero,List.set_cons_succ]
 refine wpAnyH_done (by as_aux_lemma=>kernel_rfl) ?_ _
 exact hR _ K1 B1
noncomputable def qb8ops:List Oper:=opsOf 8 (Tryz.f31.body.getD .skip)
section
variable {w0:World}{fs:List Fact}{gs:List Bx}{M:Int}{A:Option Addr}{n c ln lc gT b o j:Nat}{xs ls:List Fd}{fa fb:ByteArray}{k1 q:Nat}{L:List UInt8}{Y:List Fd}{v0 v2 v3 v4 v5 v6 v8 v9 v11 v12 v13 v14 v15 v16 v17 v18 v19 v20 v21 v22 v23 v24 v25 v26 v27 v28 v29 v30 v31 v37 v38 v39 v40 v41 v42 v43 v44 v45 v46:Value}{KK:Act→World→Prop}(h_xs:fF A n xs∈fs)(hN_xs:A=none→c=0)(h3:(gT,#[.int .i64 M,.slice A n c],24)∈gs)(h_ls:fF (some ⟨b,o,none⟩) ln ls∈fs)(hx:ls[j]? = some (fa,fb))(hj0:(0:Int)≤(j:Int))(hj1:(j:Int)<(ln:Int))(hj2:j<ln)(hr:rightB M xs=true)(hz:sz ((fa,fb):Fd)≤7000)(hB:fB M xs (fa,fb)=L)(hY:fX M xs (fa,fb)=Y)(hk:L.length=k1)(hq:Y.length=q)(hR : ∀(gX:Nat) (A1 A2:Option Addr) (c1 c2:Nat) (w:World),EnvF w (bF A1 k1 L::fF A2 q Y::fs) ((gX,#[.int .i64 M,.slice A2 q c2],24)::(gs))→(k1≤c1∧(A1=none→c1=0))→(A2=none→c2=0)→Below w0.heap.size w0 w→KK { tmps:=#[v0,.slice (some ⟨b,o,none⟩) ln lc,v2,v3,v4,v5,v6,.pointer (some ⟨gT,0,none⟩),v8,v9,.int .i64 (j:Int),.slice A1 k1 c1,.pointer (some ⟨gX,0,none⟩),.int .i64 0,v14,v15,v16,v17,v18,v19,v20,v21,v22,v23,v24,v25,v26,v27,v28,v29,v30,.tuple #[.slice A1 k1 c1,.agg #[.int .i64 M,.slice A2 q c2],.int .i64 0],.agg #[.int .i64 M,.slice A n c],.slice (some ⟨b,o,none⟩) ln lc,.int .i64 (j:Int),.pointer (some ⟨b,o+j*2,none⟩),.agg #[.string fa,.string fb],.tuple #[.slice A1 k1 c1,.agg #[.int .i64 M,.slice A2 q c2],.int .i64 0],.slice A1 k1 c1,.agg #[.int .i64 M,.slice A2 q c2],.int .i64 0,v41,v42,v43,v44,v45,v46],defers:=[] } w)
include h_xs hN_xs h3 h_ls hx hj0 hj1 hj2 hr hz hB hY hk hq hR
theorem qb8_11{gX:Nat}{A1 A2:Option Addr}{c1 c2:Nat}(leX:w0.heap.size≤gX)(h5:k1≤c1∧(A1=none→c1=0))(h6:A2=none→c2=0){w:World}(ls:Array Bool)(hl:ls=#[true,true,true,true,true,true,true,true,true,true,true,false,false,false])(K:EnvF w (bF A1 k1 L::fF A2 q Y::fs) ((gX,#[.int .i64 0,.slice none 0 0],24)::(gs)))(B:Below w0.heap.size w0 w) :
  wpAnyH Tryz.prog .any qb8ops.toArray (Exit.then KK fun _ _ _=>False) (fun W'=>W'.cell? ⟨gT,0,none⟩=some (.int .i64 M)∧W'.cell? ⟨gT,1,none⟩=some (.slice A n c)∧W'.cell? ⟨b,o+j*2,none⟩=some (.string fa)∧W'.cell? ⟨b,o+j*2+1,none⟩=some (.string fb)) 3 ls { tmps:=#[v0,.slice (some ⟨b,o,none⟩) ln lc,v2,v3,v4,v5,v6,.pointer (some ⟨gT,0,none⟩),v8,v9,.int .i64 (j:Int),v11,.pointer (some ⟨gX,0,none⟩),v13,v14,v15,v16,v17,v18,v19,v20,v21,v22,v23,v24,v25,v26,v27,v28,v29,v30,.tuple #[.slice A1 k1 c1,.agg #[.int .i64 M,.slice A2 q c2],.int .i64 0],.agg #[.int .i64 M,.slice A n c],.slice (some ⟨b,o,none⟩) ln lc,.int .i64 (j:Int),.pointer (some ⟨b,o+j*2,none⟩),.agg #[.string fa,.string fb],.tuple #[.slice A1 k1 c1,.agg #[.int .i64 M,.slice A2 q c2],.int .i64 0],.slice A1 k1 c1,.agg #[.int .i64 M,.slice A2 q c2],.int .i64 0,v41,v42,v43,v44,v45,v46],defers:=[] } w:=by
 subst hl
 have hH:(fun W'=>W'.cell? ⟨gT,0,none⟩=some (.int .i64 M)∧W'.cell? ⟨gT,1,none⟩=some (.slice A n c)∧W'.cell? ⟨b,o+j*2,none⟩=some (.string fa)∧W'.cell? ⟨b,o+j*2+1,none⟩=some (.string fb)) w:=(Pk.s4 (cells2_row (K.g _ (List.mem_cons_of_mem _ (h3)))) (Pk.cell_of (K.fs (A:=some ⟨b,o,none⟩) (n:=ln) (xs:=ls) (List.mem_cons_of_mem _ (List.mem_cons_of_mem _ h_ls))) hx))
 refine takeD (i:=11) (v:=?_) rfl (by as_aux_lemma=>kernel_rfl) (by as_aux_lemma=>kernel_rfl) (by as_aux_lemma=>kernel_rfl) (fun _ _ _ h=>h) (Or.inl ⟨by rfl,?_⟩) hH ?_
 rotate_left
 ·intro w hSw;(try dsimp only at hSw);go_simp<;>with_reducible rfl
 try simp only[Act.put,List.setIfInBounds_toArray,List.set_cons_zero,List.set_cons_succ]
 clear hH
 refine readyD (i:=12) rfl (by as_aux_lemma=>kernel_rfl) (fun K' hK=>?_)
 refine step_put (by rfl) 24 (.tmp 12) (.tmp 39) (by rfl) gX 0 (.agg #[.int .i64 M,.slice A2 q c2]) (by rfl) (by rfl) 24 #[.int .i64 0,.slice none 0 0] #[.int .i64 M,.slice A2 q c2] (K.row 0 rfl) (by simp[Value.cells]) (by kernel_rfl) infoc_T (by kernel_rfl) ?_
 intro w1 c1' c2' c3' c4'
 have K1:=K.turn 0 rfl c1' c2' c3'
 have B1:=c4' _ _ leX B
 refine hK.out _ _ (Pk.s4 (cells2_row (K1.g _ (List.mem_cons_of_mem _ (h3)))) (Pk.cell_of (K1.fs (A:=some ⟨b,o,none⟩) (n:=ln) (xs:=ls) (List.mem_cons_of_mem _ (List.mem_cons_of_mem _ h_ls))) hx)) (fun hH=>?_)
 clear hK K'
 try simp only[Act.put,List.setIfInBounds_toArray,List.set_cons_zero,List.set_cons_succ]
 refine takeD (i:=13) (v:=?_) rfl (by as_aux_lemma=>kernel_rfl) (by as_aux_lemma=>kernel_rfl) (by as_aux_lemma=>kernel_rfl) (fun _ _ _ h=>h) (Or.inl ⟨by rfl,?_⟩) hH ?_
 rotate_left
 ·intro w hSw;(try dsimp only at hSw);go_simp<;>with_reducible rfl
 try simp only[Act.put,List.setIfInBounds_toArray,List.set_cons_zero,List.set_cons_succ]
 refine wpAnyH_done (by as_aux_lemma=>kernel_rfl) ?_ _
 exact hR _ _ _ _ _ _ K1 h5 h6 B1
theorem qb8_10{A1 A2:Option Addr}{c1 c2:Nat}(h5:k1≤c1∧(A1=none→c1=0))(h6:A2=none→c2=0){w:World}(ls:Array Bool)(hl:ls=#[true,true,true,true,true,true,true,true,true,true,false,false,false,false])(K:EnvF w (bF A1 k1 L::fF A2 q Y::fs) (gs))(B:Below w0.heap.size w0 w) :
  wpAnyH Tryz.prog .any qb8ops.toArray (Exit.then KK fun _ _ _=>False) (fun W'=>W'.cell? ⟨gT,0,none⟩=some (.int .i64 M)∧W'.cell? ⟨gT,1,none⟩=some (.slice A n c)∧W'.cell? ⟨b,o+j*2,none⟩=some (.string fa)∧W'.cell? ⟨b,o+j*2+1,none⟩=some (.string fb)) 4 ls { tmps:=#[v0,.slice (some ⟨b,o,none⟩) ln lc,v2,v3,v4,v5,v6,.pointer (some ⟨gT,0,none⟩),v8,v9,.int .i64 (j:Int),v11,v12,v13,v14,v15,v16,v17,v18,v19,v20,v21,v22,v23,v24,v25,v26,v27,v28,v29,v30,.tuple #[.slice A1 k1 c1,.agg #[.int .i64 M,.slice A2 q c2],.int .i64 0],.agg #[.int .i64 M,.slice A n c],.slice (some ⟨b,o,none⟩) ln lc,.int .i64 (j:Int),.pointer (some ⟨b,o+j*2,none⟩),.agg #[.string fa,.string fb],.tuple #[.slice A1 k1 c1,.agg #[.int .i64 M,.slice A2 q c2],.int .i64 0],.slice A1 k1 c1,.agg #[.int .i64 M,.slice A2 q c2],.int .i64 0,v41,v42,v43,v44,v45,v46],defers:=[] } w:=by
 subst hl
 refine wpAnyH_ready (rs:=[10]) (by as_aux_lemma=>kernel_rfl) (by simp) ?_
 refine AllReadyH.cons (getOf (i:=10) rfl) (fun K' hK=>?_) ?_
 ·
  go_simp
  have K2:=K.boxg 24 #[.int .i64 0,.slice none 0 0] w.heap.size rfl
  have B2:=B.alloc B.size (.cells #[.int .i64 0,.slice none 0 0] 24)
  have leX:=B.size
  refine hK.out _ _ (Pk.s4 (cells2_row (K2.g _ (List.mem_cons_of_mem _ (h3)))) (Pk.cell_of (K2.fs (A:=some ⟨b,o,none⟩) (n:=ln) (xs:=ls) (List.mem_cons_of_mem _ (List.mem_cons_of_mem _ h_ls))) hx)) (fun hH=>?_)
  clear hK K'
  try simp only[Act.put,List.setIfInBounds_toArray,List.set_cons_zero,List.set_cons_succ]
  exact qb8_11 h_xs hN_xs h3 h_ls hx hj0 hj1 hj2 hr hz hB hY hk hq hR leX h5 h6 _ (by kernel_rfl) K2 B2
 exact AllReadyH.nil
theorem qb8_01{gX:Nat}(leX:w0.heap.size≤gX){w:World}(ls:Array Bool)(hl:ls=#[true,true,true,true,true,false,false,false,false,false,true,false,false,false])(K:EnvF w fs ((gX,#[.int .i64 0,.slice none 0 0],24)::(gs)))(B:Below w0.heap.size w0 w) :
  wpAnyH Tryz.prog .any qb8ops.toArray (Exit.then KK fun _ _ _=>False) (fun W'=>W'.cell? ⟨gT,0,none⟩=some (.int .i64 M)∧W'.cell? ⟨gT,1,none⟩=some (.slice A n c)∧W'.cell? ⟨b,o+j*2,none⟩=some (.string fa)∧W'.cell? ⟨b,o+j*2+1,none⟩=some (.string fb)) 8 ls { tmps:=#[v0,.slice (some ⟨b,o,none⟩) ln lc,v2,v3,v4,v5,v6,.pointer (some ⟨gT,0,none⟩),v8,v9,.int .i64 (j:Int),v11,.pointer (some ⟨gX,0,none⟩),v13,v14,v15,v16,v17,v18,v19,v20,v21,v22,v23,v24,v25,v26,v27,v28,v29,v30,v31,.agg #[.int .i64 M,.slice A n c],.slice (some ⟨b,o,none⟩) ln lc,.int .i64 (j:Int),.pointer (some ⟨b,o+j*2,none⟩),.agg #[.string fa,.string fb],v37,v38,v39,v40,v41,v42,v43,v44,v45,v46],defers:=[] } w:=by
 subst hl
 refine wpAnyH_ready (rs:=[5]) (by as_aux_lemma=>kernel_rfl) (by simp) ?_
 refine AllReadyH.cons (getOf (i:=5) rfl) (fun K' hK=>?_) ?_
 ·
  go_simp
  go_at_call 27
  refine(q_Field _ _ w K h_xs hN_xs hr hz hB hY hk hq).mono ?_
  rintro e w2 ⟨A1,c1,A2,c2,rfl,hb,hE,h5,h6⟩
  have K2:=hE
  have B2:=below_step B hb
  refine hK.out _ _ (Pk.s4 (cells2_row (K2.g _ (List.mem_cons_of_mem _ (h3)))) (Pk.cell_of (K2.fs (A:=some ⟨b,o,none⟩) (n:=ln) (xs:=ls) (List.mem_cons_of_mem _ (List.mem_cons_of_mem _ h_ls))) hx)) (fun hH=>?_)
  clear hK K'
  try simp only[Act.put,List.setIfInBounds_toArray,List.set_cons_zero,List.set_cons_succ]
  refine takeD (i:=6) (v:=?_) rfl (by as_aux_lemma=>kernel_rfl) (by as_aux_lemma=>kernel_rfl) (by as_aux_lemma=>kernel_rfl) (fun _ _ _ h=>h) (Or.inl ⟨by rfl,?_⟩) hH ?_
  rotate_left
  ·intro w hSw;(try dsimp only at hSw);go_simp<;>with_reducible rfl
  try simp only[Act.put,List.setIfInBounds_toArray,List.set_cons_zero,List.set_cons_succ]
  refine takeD (i:=7) (v:=?_) rfl (by as_aux_lemma=>kernel_rfl) (by as_aux_lemma=>kernel_rfl) (by as_aux_lemma=>kernel_rfl) (fun _ _ _ h=>h) (Or.inl ⟨by rfl,?_⟩) hH ?_
  rotate_left
  ·intro w hSw;(try dsimp only at hSw);go_simp<;>with_reducible rfl
  try simp only[Act.put,List.setIfInBounds_toArray,List.set_cons_zero,List.set_cons_succ]
  refine takeD (i:=8) (v:=?_) rfl (by as_aux_lemma=>kernel_rfl) (by as_aux_lemma=>kernel_rfl) (by as_aux_lemma=>kernel_rfl) (fun _ _ _ h=>h) (Or.inl ⟨by rfl,?_⟩) hH ?_
  rotate_left
  ·intro w hSw;(try dsimp only at hSw);go_simp<;>with_reducible rfl
  try simp only[Act.put,List.setIfInBounds_toArray,List.set_cons_zero,List.set_cons_succ]
  refine takeD (i:=9) (v:=?_) rfl (by as_aux_lemma=>kernel_rfl) (by as_aux_lemma=>kernel_rfl) (by as_aux_lemma=>kernel_rfl) (fun _ _ _ h=>h) (Or.inl ⟨by rfl,?_⟩) hH ?_
  rotate_left
  ·intro w hSw;(try dsimp only at hSw);go_simp<;>with_reducible rfl
  try simp only[Act.put,List.setIfInBounds_toArray,List.set_cons_zero,List.set_cons_succ]
  exact qb8_11 h_xs hN_xs h3 h_ls hx hj0 hj1 hj2 hr hz hB hY hk hq hR leX h5 h6 _ (by kernel_rfl) K2 B2
 exact AllReadyH.nil
theorem qb8_00{w:World}(ls:Array Bool)(hl:ls=#[true,true,true,true,true,false,false,false,false,false,false,false,false,false])(K:EnvF w fs (gs))(B:Below w0.heap.size w0 w) :
  wpAnyH Tryz.prog .any qb8ops.toArray (Exit.then KK fun _ _ _=>False) (fun W'=>W'.cell? ⟨gT,0,none⟩=some (.int .i64 M)∧W'.cell? ⟨gT,1,none⟩=some (.slice A n c)∧W'.cell? ⟨b,o+j*2,none⟩=some (.string fa)∧W'.cell? ⟨b,o+j*2+1,none⟩=some (.string fb)) 9 ls { tmps:=#[v0,.slice (some ⟨b,o,none⟩) ln lc,v2,v3,v4,v5,v6,.pointer (some ⟨gT,0,none⟩),v8,v9,.int .i64 (j:Int),v11,v12,v13,v14,v15,v16,v17,v18,v19,v20,v21,v22,v23,v24,v25,v26,v27,v28,v29,v30,v31,.agg #[.int .i64 M,.slice A n c],.slice (some ⟨b,o,none⟩) ln lc,.int .i64 (j:Int),.pointer (some ⟨b,o+j*2,none⟩),.agg #[.string fa,.string fb],v37,v38,v39,v40,v41,v42,v43,v44,v45,v46],defers:=[] } w:=by
 subst hl
 refine wpAnyH_ready (rs:=[5,10]) (by as_aux_lemma=>kernel_rfl) (by simp) ?_
 refine AllReadyH.cons (getOf (i:=5) rfl) (fun K' hK=>?_) ?_
 ·
  go_simp
  go_at_call 27
  refine(q_Field _ _ w K h_xs hN_xs hr hz hB hY hk hq).mono ?_
  rintro e w2 ⟨A1,c1,A2,c2,rfl,hb,hE,h5,h6⟩
  have K2:=hE
  have B2:=below_step B hb
  refine hK.out _ _ (Pk.s4 (cells2_row (K2.g _ (h3))) (Pk.cell_of (K2.fs (A:=some ⟨b,o,none⟩) (n:=ln) (xs:=ls) (List.mem_cons_of_mem _ (List.mem_cons_of_mem _ h_ls))) hx)) (fun hH=>?_)
  clear hK K'
  try simp only[Act.put,List.setIfInBounds_toArray,List.set_cons_zero,List.set_cons_succ]
  refine takeD (i:=6) (v:=?_) rfl (by as_aux_lemma=>kernel_rfl) (by as_aux_lemma=>kernel_rfl) (by as_aux_lemma=>kernel_rfl) (fun _ _ _ h=>h) (Or.inl ⟨by rfl,?_⟩) hH ?_
  rotate_left
  ·intro w hSw;(try dsimp only at hSw);go_simp<;>with_reducible rfl
  try simp only[Act.put,List.setIfInBounds_toArray,List.set_cons_zero,List.set_cons_succ]
  refine takeD (i:=7) (v:=?_) rfl (by as_aux_lemma=>kernel_rfl) (by as_aux_lemma=>kernel_rfl) (by as_aux_lemma=>kernel_rfl) (fun _ _ _ h=>h) (Or.inl ⟨by rfl,?_⟩) hH ?_
  rotate_left
  ·intro w hSw;(try dsimp only at hSw);go_simp<;>with_reducible rfl
  try simp only[Act.put,List.setIfInBounds_toArray,List.set_cons_zero,List.set_cons_succ]
  refine takeD (i:=8) (v:=?_) rfl (by as_aux_lemma=>kernel_rfl) (by as_aux_lemma=>kernel_rfl) (by as_aux_lemma=>kernel_rfl) (fun _ _ _ h=>h) (Or.inl ⟨by rfl,?_⟩) hH ?_
  rotate_left
  ·intro w hSw;(try dsimp only at hSw);go_simp<;>with_reducible rfl
  try simp only[Act.put,List.setIfInBounds_toArray,List.set_cons_zero,List.set_cons_succ]
  refine takeD (i:=9) (v:=?_) rfl (by as_aux_lemma=>kernel_rfl) (by as_aux_lemma=>kernel_rfl) (by as_aux_lemma=>kernel_rfl) (fun _ _ _ h=>h) (Or.inl ⟨by rfl,?_⟩) hH ?_
  rotate_left
  ·intro w hSw;(try dsimp only at hSw);go_simp<;>with_reducible rfl
  try simp only[Act.put,List.setIfInBounds_toArray,List.set_cons_zero,List.set_cons_succ]
  exact qb8_10 h_xs hN_xs h3 h_ls hx hj0 hj1 hj2 hr hz hB hY hk hq hR h5 h6 _ (by kernel_rfl) K2 B2
 refine AllReadyH.cons (getOf (i:=10) rfl) (fun K' hK=>?_) ?_
 ·
  go_simp
  have K2:=K.boxg 24 #[.int .i64 0,.slice none 0 0] w.heap.size rfl
  have B2:=B.alloc B.size (.cells #[.int .i64 0,.slice none 0 0] 24)
  have leX:=B.size
  refine hK.out _ _ (Pk.s4 (cells2_row (K2.g _ (List.mem_cons_of_mem _ (h3)))) (Pk.cell_of (K2.fs (A:=some ⟨b,o,none⟩) (n:=ln) (xs:=ls) (h_ls)) hx)) (fun hH=>?_)
  clear hK K'
  try simp only[Act.put,List.setIfInBounds_toArray,List.set_cons_zero,List.set_cons_succ]
  exact qb8_01 h_xs hN_xs h3 h_ls hx hj0 hj1 hj2 hr hz hB hY hk hq hR leX _ (by kernel_rfl) K2 B2
 exact AllReadyH.nil
end
theorem qb8_region{w:World}{fs:List Fact}{gs:List Bx}{M:Int}{A:Option Addr}{n c ln lc gT b o j:Nat}{xs ls:List Fd}{fa fb:ByteArray}{k1 q:Nat}{L:List UInt8}{Y:List Fd}{v0 v2 v3 v4 v5 v6 v8 v9 v11 v12 v13 v14 v15 v16 v17 v18 v19 v20 v21 v22 v23 v24 v25 v26 v27 v28 v29 v30 v31 v32 v33 v34 v35 v36 v37 v38 v39 v40 v41 v42 v43 v44 v45 v46:Value}{KK:Act→World→Prop}{Q:Exit→Act→World→Prop}(h_xs:fF A n xs∈fs)(hN_xs:A=none→c=0)(h3:(gT,#[.int .i64 M,.slice A n c],24)∈gs)(h_ls:fF (some ⟨b,o,none⟩) ln ls∈fs)(hx:ls[j]? = some (fa,fb))(hj0:(0:Int)≤(j:Int))(hj1:(j:Int)<(ln:Int))(hj2:j<ln)(hr:rightB M xs=true)(hz:sz ((fa,fb):Fd)≤7000)(hB:fB M xs (fa,fb)=L)(hY:fX M xs (fa,fb)=Y)(hk:L.length=k1)(hq:Y.length=q)(hR : ∀(gX:Nat) (A1 A2:Option Addr) (c1 c2:Nat) (w':World),EnvF w' (bF A1 k1 L::fF A2 q Y::fs) ((gX,#[.int .i64 M,.slice A2 q c2],24)::(gs))→(k1≤c1∧(A1=none→c1=0))→(A2=none→c2=0)→Below w.drew.heap.size w.drew w'→KK { tmps:=#[v0,.slice (some ⟨b,o,none⟩) ln lc,v2,v3,v4,v5,v6,.pointer (some ⟨gT,0,none⟩),v8,v9,.int .i64 (j:Int),.slice A1 k1 c1,.pointer (some ⟨gX,0,none⟩),.int .i64 0,v14,v15,v16,v17,v18,v19,v20,v21,v22,v23,v24,v25,v26,v27,v28,v29,v30,.tuple #[.slice A1 k1 c1,.agg #[.int .i64 M,.slice A2 q c2],.int .i64 0],.agg #[.int .i64 M,.slice A n c],.slice (some ⟨b,o,none⟩) ln lc,.int .i64 (j:Int),.pointer (some ⟨b,o+j*2,none⟩),.agg #[.string fa,.string fb],.tuple #[.slice A1 k1 c1,.agg #[.int .i64 M,.slice A2 q c2],.int .i64 0],.slice A1 k1 c1,.agg #[.int .i64 M,.slice A2 q c2],.int .i64 0,v41,v42,v43,v44,v45,v46],defers:=[] } w')(K:EnvF w fs gs) :
  (Code.region 8 qb8ops.toArray true).wp Tryz.prog (Exit.then KK Q) { tmps:=#[v0,.slice (some ⟨b,o,none⟩) ln lc,v2,v3,v4,v5,v6,.pointer (some ⟨gT,0,none⟩),v8,v9,.int .i64 (j:Int),v11,v12,v13,v14,v15,v16,v17,v18,v19,v20,v21,v22,v23,v24,v25,v26,v27,v28,v29,v30,v31,v32,v33,v34,v35,v36,v37,v38,v39,v40,v41,v42,v43,v44,v45,v46],defers:=[] } w:=by
 refine Code.wp_mono (Q:=Exit.then KK fun _ _ _=>False) (fun e a w h=>by cases e<;>first | exact h | exact h.elim) ?_
 refine wp_region_held_drew (S:=(fun W'=>W'.cell? ⟨gT,0,none⟩=some (.int .i64 M)∧W'.cell? ⟨gT,1,none⟩=some (.slice A n c)∧W'.cell? ⟨b,o+j*2,none⟩=some (.string fa)∧W'.cell? ⟨b,o+j*2+1,none⟩=some (.string fb))) (by kernel_rfl) (Pk.s4 (cells2_row (K.drew.g _ (h3))) (Pk.cell_of (K.drew.fs (A:=some ⟨b,o,none⟩) (n:=ln) (xs:=ls) (h_ls)) hx)) (fun hH=>?_)
 refine takeD (i:=0) (v:=?_) rfl (by as_aux_lemma=>kernel_rfl) (by as_aux_lemma=>kernel_rfl) (by as_aux_lemma=>kernel_rfl) (fun _ _ _ h=>h) (Or.inl ⟨by rfl,?_⟩) hH ?_
 rotate_left
 ·intro w hSw;(try dsimp only at hSw);go_simp<;>with_reducible rfl
 try simp only[Act.put,List.setIfInBounds_toArray,List.set_cons_zero,List.set_cons_succ]
 refine takeD (i:=1) (v:=?_) rfl (by as_aux_lemma=>kernel_rfl) (by as_aux_lemma=>kernel_rfl) (by as_aux_lemma=>kernel_rfl) (fun _ _ _ h=>h) (Or.inl ⟨by rfl,?_⟩) hH ?_
 rotate_left
 ·intro w hSw;(try dsimp only at hSw);go_simp<;>with_reducible rfl
 try simp only[Act.put,List.setIfInBounds_toArray,List.set_cons_zero,List.set_cons_succ]
 refine takeD (i:=2) (v:=?_) rfl (by as_aux_lemma=>kernel_rfl) (by as_aux_lemma=>kernel_rfl) (by as_aux_lemma=>kernel_rfl) (fun _ _ _ h=>h) (Or.inl ⟨by rfl,?_⟩) hH ?_
 rotate_left
 ·intro w hSw;(try dsimp only at hSw);go_simp<;>with_reducible rfl
 try simp only[Act.put,List.setIfInBounds_toArray,List.set_cons_zero,List.set_cons_succ]
 refine takeD (i:=3) (v:=?_) rfl (by as_aux_lemma=>kernel_rfl) (by as_aux_lemma=>kernel_rfl) (by as_aux_lemma=>kernel_rfl) (fun _ _ _ h=>h) (Or.inl ⟨by rfl,?_⟩) hH ?_
 rotate_left
 ·intro w hSw;(try dsimp only at hSw);go_simp<;>with_reducible rfl
 try simp only[Act.put,List.setIfInBounds_toArray,List.set_cons_zero,List.set_cons_succ]
 refine takeD (i:=4) (v:=?_) rfl (by as_aux_lemma=>kernel_rfl) (by as_aux_lemma=>kernel_rfl) (by as_aux_lemma=>kernel_rfl) (fun _ _ _ h=>h) (Or.inl ⟨by rfl,?_⟩) hH ?_
 rotate_left
 ·intro w hSw;(try dsimp only at hSw);go_simp<;>with_reducible rfl
 try simp only[Act.put,List.setIfInBounds_toArray,List.set_cons_zero,List.set_cons_succ]
 exact qb8_00 h_xs hN_xs h3 h_ls hx hj0 hj1 hj2 hr hz hB hY hk hq hR _ (by kernel_rfl) K.drew (Below.refl _ _)
theorem q_Block_n{fs:List Fact}{gs:List Bx}{M:Int}{A:Option Addr}{n c:Nat}{xs:List Fd}(LA:Option Addr)(ln lc:Nat)(w:World)(hV:EnvF w fs gs)(HA:Hid (fF A n xs∈fs))(HF1:Hid (full xs≤1000000))(hr:Hid (rightB M xs=false)) :
  Calls Tryz.prog 31 #[.agg #[.int .i64 M,.slice A n c],.slice LA ln lc] w fun e w'=>e = .returned (.tuple #[.slice none 0 0,.agg #[.int .i64 0,.slice none 0 0],.int .i64 2])∧Below w.heap.size w w':=by
 have K0:=Lib.hid (((hV).boxg 24 #[.int .i64 M,.slice A n c] w.heap.size rfl).boxg 24 #[.int .i64 0,.slice none 0 0] (w.heap.size+1) (by simp))
 have G0:=Lib.hid (((Below.refl w.heap.size w).alloc (Nat.le_refl _) (.cells #[.int .i64 M,.slice A n c] 24)).alloc (by simp;try omega) (.cells #[.int .i64 0,.slice none 0 0] 24))
 clear hV
 go_enter Tryz.func31,Tryz.ntmps31
 go_wp2_with (first
  | go_skip
  | (refine at_load 24 (.tmp 2) (by rfl) ?_;refine wpListG_row (by rfl) 24 (.tmp 2) (by rfl) w.heap.size (by rfl) 24 #[.int .i64 M,.slice A n c] _ (K0.out.row 1 rfl) Tryz.underlying24 (by rfl) infoc_T ?_)
  | (go_at_call 36;(with_reducible refine(q_right (A:=A) (n:=n) (xs:=xs) _ K0.out (by simp[HA.out]) HF1.out hr.out).mono ?_);rintro e w1 ⟨rfl,hb⟩;have K1:=Lib.hid (K0.out.on hb);have G1:=Lib.hid (below_step G0.out hb);clear hb K0 G0)
  | (refine at_store 24 (.tmp 5) (.tmp 17) (by rfl) ?_;refine wpList_put (by rfl) 24 (.tmp 5) (.tmp 17) (by rfl) (w.heap.size+1) 0 (.agg #[.int .i64 0,.slice none 0 0]) (by rfl) (by rfl) 24 #[.int .i64 0,.slice none 0 0] #[.int .i64 0,.slice none 0 0] (K1.out.row 0 rfl) (by simp[Value.cells]) (by kernel_rfl) infoc_T (by kernel_rfl) ?_;intro w2 hrow hoth hz hbl;have K2:=Lib.hid (K1.out.turn 0 rfl hrow hoth hz);have G2:=Lib.hid (hbl _ _ (by omega) G1.out);clear hrow hoth hz hbl K1 G1))
 have KE:=K2.out
 exact bodyPost_ret (res_tct rfl _ _ _ _ _ _ rfl (KE.row 0 rfl) Tryz.underlying24 rfl infoc_T) rfl ⟨rfl,G2.out⟩
theorem q_Block_y{fs:List Fact}{gs:List Bx}{L:List UInt8}{k m:Nat}{X:List Fd}{M:Int}{A:Option Addr}{n c:Nat}{xs ls:List Fd}(LA:Option Addr)(ln lc:Nat)(w:World)(hV:EnvF w fs gs)(HA:Hid (fF A n xs∈fs))(HL:Hid (fF LA ln ls∈fs))(HN:Hid (A=none→c=0))(HF1:Hid (full xs≤1000000))(HF:Hid (full xs≤100000))(hr:Hid (rightB M xs=true))(hres:Hid (resM M xs M=M∧resE M xs M=0∧resL M xs M=xs))(Hxn:Hid (xs.length=n))(Hln1:Hid (ln≤1000))(hz:Hid (full ls≤7000))(hB:Hid (kB M xs ls=L))(hY:Hid (kX M xs ls=X))(hk:Hid ((kB M xs ls).length=k))(hq:Hid ((kX M xs ls).length=m)) :
  Calls Tryz.prog 31 #[.agg #[.int .i64 M,.slice A n c],.slice LA ln lc] w fun e w'=>∃A1 c1 A2 c2,e = .returned (.tuple #[.slice A1 k c1,.agg #[.int .i64 M,.slice A2 m c2],.int .i64 0])∧Below w.heap.size w w'∧EnvF w' (bF A1 k L::fF A2 m X::fs) gs∧(k≤c1∧(A1=none→c1=0))∧(A2=none→c2=0):=by
 have K0:=Lib.hid (((hV).boxg 24 #[.int .i64 M,.slice A n c] w.heap.size rfl).boxg 24 #[.int .i64 0,.slice none 0 0] (w.heap.size+1) (by simp))
 have G0:=Lib.hid (((Below.refl w.heap.size w).alloc (Nat.le_refl _) (.cells #[.int .i64 M,.slice A n c] 24)).alloc (by simp;try omega) (.cells #[.int .i64 0,.slice none 0 0] 24))
 have hfw : ∀x∈fs,∀k,x.on k→k<w.heap.size:=fun x hx k hk=>((hV.f x hx).2 k hk).1
 obtain⟨i0,hi,hz0,hz1,hz2⟩:=info_parts info_tu8
 have hinf:=Lib.hid (And.intro hi (And.intro hz0 (And.intro hz1 hz2)))
 have HLL:=Lib.hid (hV.fs HL.out).1
 clear hi hz0 hz1 hz2 hfw
 clear hV
 go_enter Tryz.func31,Tryz.ntmps31
 go_wp2_with (first
  | go_skip
  | (refine at_load 24 (.tmp 2) (by rfl) ?_;refine wpListG_row (by rfl) 24 (.tmp 2) (by rfl) w.heap.size (by rfl) 24 #[.int .i64 M,.slice A n c] _ (K0.out.row 1 rfl) Tryz.underlying24 (by rfl) infoc_T ?_)
  | (go_at_call 36;(with_reducible refine(q_right (A:=A) (n:=n) (xs:=xs) _ K0.out (by simp[HA.out]) HF1.out hr.out).mono ?_);rintro e w1 ⟨rfl,hb⟩;have K1:=Lib.hid (K0.out.on hb);have G1:=Lib.hid (below_step G0.out hb);clear hb K0 G0)
  | (refine at_load 24 (.tmp 2) (by rfl) ?_;refine wpListG_row (by rfl) 24 (.tmp 2) (by rfl) w.heap.size (by rfl) 24 #[.int .i64 M,.slice A n c] _ (K1.out.row 1 rfl) Tryz.underlying24 (by rfl) infoc_T ?_)
  | (refine at_load 3 (.tmp 20) (by rfl) ?_;refine wpListG_get (by rfl) 3 (.tmp 20) (by rfl) w.heap.size 0 (by rfl) 24 #[.int .i64 M,.slice A n c] (.int .i64 M) _ (K1.out.row 1 rfl) (by rfl) Tryz.underlying3 (by rfl) ?_)
  | (go_at_call 43;(with_reducible refine(q_resize (A:=A) (n:=n) (c:=c) (xs:=xs) _ K1.out (by simp[HA.out]) HN.out HF.out hres.out.1 hres.out.2.1 hres.out.2.2 Hxn.out).mono ?_);rintro e w2 ⟨A2,c2,rfl,hb,hE,HA20⟩;have K2:=Lib.hid hE;have HA2:=Lib.hid HA20;have G2:=Lib.hid (below_step G1.out hb);clear hb hE HA20 K1 G1;have K2b:=Lib.hid (K2.out.boxg 24 #[.int .i64 0,.slice none 0 0] w2.heap.size rfl);have hz2:w.heap.size≤w2.heap.size:=G2.out.size;have G2b:=Lib.hid (G2.out.alloc hz2 (.cells #[.int .i64 0,.slice none 0 0] 24));clear K2 G2)
  | (refine at_store 24 (.tmp 7) (.tmp 23) (by rfl) ?_;refine wpList_put (by rfl) 24 (.tmp 7) (.tmp 23) (by rfl) w2.heap.size 0 (.agg #[.int .i64 M,.slice A2 n c2]) (by rfl) (by rfl) 24 #[.int .i64 0,.slice none 0 0] #[.int .i64 M,.slice A2 n c2] (K2b.out.row 0 rfl) (by simp[Value.cells]) (by kernel_rfl) infoc_T (by kernel_rfl) ?_;intro w3 hrow hoth hz hbl;have K3:=Lib.hid (K2b.out.turn 0 rfl hrow hoth hz);have G3:=Lib.hid (hbl _ _ (by omega) G2b.out);clear hrow hoth hz hbl K2b G2b))
 go_loopw [9,10] (fun u v wr=>∃j:Nat,j≤ln∧v = .int .i64 (j:Int)∧(∃(A4:Option Addr) (c4:Nat) (lb:List Bx),BX w.heap.size u (kB M xs (ls.take j)) lb∧(A4=none→c4=0)∧EnvF wr (fF A4 (kX M xs (ls.take j)).length (kX M xs (ls.take j))::fs) (((w2.heap.size,#[.int .i64 M,.slice A4 (kX M xs (ls.take j)).length c4],24)::(w.heap.size+1,#[.int .i64 0,.slice none 0 0],24)::(w.heap.size,#[.int .i64 M,.slice A n c],24)::gs)++lb))∧Below w.heap.size w wr) (fun _ v _=>ln-(intOf v).toNat)
 case atStart=>
  refine⟨0,Nat.zero_le _,rfl,⟨A2,c2,[],.inl ⟨rfl,rfl,rfl⟩,HA2.out,?_⟩,G3.out⟩
  rw[List.append_nil]
  show EnvF _ (fF A2 xs.length xs::fs) ((w2.heap.size,#[.int .i64 M,.slice A2 xs.length c2],24)::_)
  rw[Hxn.out]
  exact K3.out
 case round=>
  obtain⟨j,hj,rfl,⟨A4,c4,lb,hbx,hA4,hk0⟩,hbel⟩:=hrel
  have HBX:=Lib.hid hbx
  have HA4:=Lib.hid hA4
  have HK0:=Lib.hid hk0
  have GR:=Lib.hid hbel
  have hN1:=Hln1.out
  have hzt:=G3.out.size
  clear hbx hA4 hk0 hbel K3 G3
  by_cases hlt:j<ln
  ·obtain⟨b,o,hAe,hb,hcc⟩:=fs_cell (HK0.out.fs (A:=LA) (n:=ln) (xs:=ls) (by simp[HL.out])) (by omega)
   obtain⟨⟨fa,fb⟩,hx,h1,h2⟩:=hcc j hlt
   subst hAe
   have hsn:=take_snoc hx
   have hrk:=kX_right hr.out (ls.take j)
   have hzx:sz ((fa,fb):Fd)≤7000:=Nat.le_trans (sz_le hx) hz.out
   have hkX:kX M xs (ls.take (j+1))=fX M (kX M xs (ls.take j)) (fa,fb):=by rw[←hsn,kX_snoc]
   have hkB:kB M xs (ls.take (j+1))=kB M xs (ls.take j)++fB M (kX M xs (ls.take j)) (fa,fb):=by rw[←hsn,kB_snoc]
   have hlB:(kB M xs (ls.take j)).length≤7000:=by have a1:=kB_len M (ls.take j) xs (by have:=full_take ls j;have:=hz.out;omega);have a2:=full_take ls j;have a3:=hz.out;omega
   have hlf:(fB M (kX M xs (ls.take j)) (fa,fb)).length≤7000:=by have a1:=fB_len M (kX M xs (ls.take j)) (f:=(fa,fb)) (by omega);omega
   obtain⟨Xk,hXk⟩ : ∃Xk,kX M xs (ls.take j)=Xk:=⟨_,rfl⟩
   obtain⟨Bk,hBk⟩ : ∃Bk,kB M xs (ls.take j)=Bk:=⟨_,rfl⟩
   rw[hXk] at hkX hkB hrk hlf HK0
   rw[hBk] at hkB hlB HBX
   obtain⟨nk,hnk⟩ : ∃nk,Xk.length=nk:=⟨_,rfl⟩
   rw[hnk] at HK0
   obtain⟨Lf,hLf⟩ : ∃Lf,fB M Xk (fa,fb)=Lf:=⟨_,rfl⟩
   obtain⟨Xf,hXf⟩ : ∃Xf,fX M Xk (fa,fb)=Xf:=⟨_,rfl⟩
   rw[hLf] at hkB hlf
   rw[hXf] at hkX
   obtain⟨nf,hnf⟩ : ∃nf,Xf.length=nf:=⟨_,rfl⟩
   obtain⟨kf,hkf⟩ : ∃kf,Lf.length=kf:=⟨_,rfl⟩
   have HLEN:Hid (Bk.length+kf≤1000000):=Lib.hid (by omega)
   obtain⟨n4,hn4⟩ : ∃n4,(Bk++Lf).length=n4:=⟨_,rfl⟩
   have HN4:=Lib.hid hn4
   have HP1:=Lib.hid (And.intro hkX (And.intro hkB (And.intro hnf hkf)))
   have HKX:=Lib.hid (And.intro hXk hBk)
   clear hcc h1 h2 hsn hlB hlf hn4 hkX hkB hXk hBk
   go_wp2
   refine qb8_region (A:=A4) (n:=nk) (c:=c4) (xs:=Xk) (ls:=ls) (b:=b) (o:=o) (j:=j) (L:=Lf) (Y:=Xf) (by simp) HA4.out (List.mem_of_getElem? (i:=0) rfl) (by simp[HL.out]) hx (by omega) (by omega) hlt hrk hzx hLf hXf hkf hnf (fun gX A5 A6 c5 c6 w30 K30' h5 h6 hb=>?_) HK0.out
   have K30:=Lib.hid K30'
   have G30:=Lib.hid (below_step GR.out.drew hb)
   have H5:=Lib.hid h5
   have H6:=Lib.hid h6
   clear K30' hb h5 h6 HK0 GR hrk hzx hLf hXf hkf hnf hx
   have HOW:=Lib.hid (HBX.out.own K30.out (fun y hy=>List.mem_cons_of_mem _ (List.mem_append_right _ hy)))
   go_wp2_with (first
    | go_skip
    | (at_builtin;refine wpList_append_full _ rfl (.tmp 41) (.tmp 42) 25 rfl w.heap.size 5 i0 Tryz.underlying25 hinf.out.1 hinf.out.2.1 hinf.out.2.2.1 hinf.out.2.2.2 _ Bk rfl HOW.out _ A5 kf c5 Lf rfl (K30.out.bs (A:=A5) (n:=kf) (xs:=Lf) (by simp)) H5.out.2 HLEN.out G30.out.size ?_;intro v4 w31 ho hb hg hv _;obtain⟨A7,c7,rfl,_⟩:=ho.handS (n:=n4) HN4.out;obtain⟨lb4,hl4,hE4⟩:=bx_append (gs:=(gX,#[.int .i64 M,.slice A6 nf c6],24)::(w2.heap.size,#[.int .i64 M,.slice A4 nk c4],24)::(w.heap.size+1,#[.int .i64 0,.slice none 0 0],24)::(w.heap.size,#[.int .i64 M,.slice A n c],24)::gs) K30.out HBX.out ho hg hv;have HL4:=Lib.hid hl4;have K31:=Lib.hid hE4;have G31:=Lib.hid (G30.out.trans hb);clear ho hb hg hv hl4 hE4 K30 G30 HOW)
    | (refine at_load 24 (.tmp 12) (by rfl) ?_;refine wpListG_row (by rfl) 24 (.tmp 12) (by rfl) gX (by rfl) 24 #[.int .i64 M,.slice A6 nf c6] _ (K31.out.row 0 rfl) Tryz.underlying24 (by rfl) infoc_T ?_)
    | (refine at_store 24 (.tmp 7) (.tmp 44) (by rfl) ?_;refine wpList_put (by rfl) 24 (.tmp 7) (.tmp 44) (by rfl) w2.heap.size 0 (.agg #[.int .i64 M,.slice A6 nf c6]) (by rfl) (by rfl) 24 #[.int .i64 M,.slice A4 nk c4] #[.int .i64 M,.slice A6 nf c6] (K31.out.row 1 rfl) (by simp[Value.cells]) (by kernel_rfl) infoc_T (by kernel_rfl) ?_;intro w32 hrow hoth hz hbl;have K32:=Lib.hid (K31.out.turn 1 rfl hrow hoth hz);have G32:=Lib.hid (hbl _ _ (by omega) G31.out);clear hrow hoth hz hbl K31 G31))
   go_roundw
   case rel=>
    refine⟨j+1,by omega,by go_num,⟨A6,c6,lb4,?_,H6.out,?_⟩,G32.out⟩
    ·rw[HP1.out.2.1]
     exact HL4.out
    ·rw[HP1.out.1,HP1.out.2.2.1]
     exact K32.out.sub (fun y hy=>by simp only[List.mem_cons] at hy ⊢;rcases hy with rfl | hy<;>simp[*]) (List.sublist_cons_self _ _)
   case measure=>simp[intOf];omega
  ·obtain rfl:ln=j:=by omega
   have e0:ls.take ln=ls:=List.take_of_length_le (by rw[HLL.out];exact Nat.le_refl _)
   rw[e0] at HBX HK0
   obtain⟨Xk,hXk⟩ : ∃Xk,kX M xs ls=Xk:=⟨_,rfl⟩
   obtain⟨Bk,hBk⟩ : ∃Bk,kB M xs ls=Bk:=⟨_,rfl⟩
   have e3:Xk.length=m:=by rw[←hXk];exact hq.out
   have e4:Bk.length=k:=by rw[←hBk];exact hk.out
   rw[hXk,e3] at HK0
   rw[hBk] at HBX
   have e5:Xk=X:=by rw[←hXk];exact hY.out
   have e6:Bk=L:=by rw[←hBk];exact hB.out
   subst e5 e6
   obtain⟨A9,c9,hv9,h91,h92⟩:=HBX.out.form HK0.out
   rw[e4] at hv9 h91
   subst hv9
   have KX:=Lib.hid (bx_fact HK0.out HBX.out e4)
   have GX:=GR
   have H9:=Lib.hid (And.intro h91 h92)
   clear HK0 GR e0 e3 e4 h91 h92 hXk hBk
   go_wp2
   refine qb11 (V1:=.slice A9 k c9) (A2:=A4) (m:=m) (c2:=c4) (M:=M) (iS:=0) (iR:=1) (B0:=w.heap.size) rfl rfl (by decide) (by omega) GX.out (fun w' hE9 hB9=>?_) KX.out
   have KE:=Lib.hid hE9
   have BE:=Lib.hid hB9
   clear hE9 hB9 KX GX
   go_wp2
   have KS:=Lib.hid (KE.out.sub (fs':=bF A9 k Bk::fF A4 m Xk::fs) (gs':=gs) (fun y hy=>hy) (List.Sublist.cons _ (List.Sublist.cons _ (List.Sublist.cons _ (List.Sublist.refl _)))))
   exact bodyPost_ret (res_tct rfl _ _ _ _ _ _ rfl (KE.out.row 1 rfl) Tryz.underlying24 rfl infoc_T) rfl ⟨A9,c9,A4,c4,rfl,BE.out,KS.out,H9.out,HA4.out⟩
theorem q_Block{fs:List Fact}{gs:List Bx}{L:List UInt8}{k m:Nat}{X:List Fd}{M:Int}{A:Option Addr}{n c:Nat}{xs ls:List Fd}(LA:Option Addr)(ln lc:Nat)(w:World)(hV:EnvF w fs gs)(hA:fF A n xs∈fs)(hL:fF LA ln ls∈fs)(hN:A=none→c=0)(hr:rightB M xs=true)(hz:full ls≤7000)(hB:kB M xs ls=L)(hY:kX M xs ls=X)(hk:L.length=k)(hm:X.length=m) :
  Calls Tryz.prog 31 #[.agg #[.int .i64 M,.slice A n c],.slice LA ln lc] w fun e w'=>∃A1 c1 A2 c2,e = .returned (.tuple #[.slice A1 k c1,.agg #[.int .i64 M,.slice A2 m c2],.int .i64 0])∧Below w.heap.size w w'∧EnvF w' (bF A1 k L::fF A2 m X::fs) gs∧(k≤c1∧(A1=none→c1=0))∧(A2=none→c2=0):=by
 have h:=okB_of hr
 have e1:=(hV.fs hA).1
 have e2:=(hV.fs hL).1
 have e3:=full_len ls
 exact q_Block_y LA ln lc w hV (Lib.hid hA) (Lib.hid hL) (Lib.hid hN) (Lib.hid (by omega)) (Lib.hid (by omega)) (Lib.hid hr) (Lib.hid (res_same hr)) (Lib.hid e1) (Lib.hid (by omega)) (Lib.hid hz) (Lib.hid hB) (Lib.hid hY) (Lib.hid (by rw[hB];exact hk)) (Lib.hid (by rw[hY];exact hm))
end Go.Proofs.YtahiajeggbpogaaGreatDoor
