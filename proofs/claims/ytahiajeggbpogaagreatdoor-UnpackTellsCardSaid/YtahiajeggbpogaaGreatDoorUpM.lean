import Derived.Test.YtahiajeggbpogaaGreatDoorUpN
set_option maxRecDepth 100000
set_option maxHeartbeats 4000000
namespace Go.Proofs.YtahiajeggbpogaaGreatDoor
open Go.RowKit Go.Shelf Px Tx Tb Up
set_option linter.unusedVariables false
set_option linter.unusedSimpArgs false
attribute [local go_sem] Oper.semAt_some
theorem infoc_U:(Tryz.prog.info? 31).map (·.size)=some 4:=by kernel_rfl
theorem infoc_E:(Tryz.prog.info? 32).map (·.size)=some 1:=by kernel_rfl
theorem u_Block_no{M most:Int}{A:Option Addr}{n c:Nat}{xs:List Fd}(LA:Option Addr)(ln lc:Nat)(w:World)(hA:Fs w w.heap.size A n xs)(hN:A=none→c=0)(hF:full xs≤100000)(h:okA M most xs=false) :
  Calls Tryz.prog 8 #[.agg #[.int .i64 M,.slice A n c],.int .i64 most,.slice LA ln lc] w fun e w'=>e = .returned (.tuple #[.agg #[.slice none 0 0,.bool false,.int .i64 0,.slice none 0 0],.int .i64 2])∧Below w.heap.size w w':=by
 have K0:=Lib.hid ((((((EnvF.nil w).addF hA).boxg 24 #[.int .i64 M,.slice A n c] w.heap.size rfl).boxg 31 #[.slice none 0 0,.bool false,.int .i64 0,.slice none 0 0] (w.heap.size+1) (by simp)).boxg 31 #[.slice none 0 0,.bool false,.int .i64 0,.slice none 0 0] (w.heap.size+1+1) (by simp)).boxg 3 #[.int .i64 0] (w.heap.size+1+1+1) (by simp))
 have G0:=Lib.hid ((((((Below.refl w.heap.size w)).alloc (Nat.le_refl _) (.cells #[.int .i64 M,.slice A n c] 24)).alloc (by simp) (.cells #[.slice none 0 0,.bool false,.int .i64 0,.slice none 0 0] 31)).alloc (by simp;omega) (.cells #[.slice none 0 0,.bool false,.int .i64 0,.slice none 0 0] 31)).alloc (by simp;omega) (.cells #[.int .i64 0] 3))
 have HN:=Lib.hid hN
 have h3:((2:Int) != 0)=true:=rfl
 clear hA hN
 go_enter Tryz.func8,Tryz.ntmps8
 go_wp2
 refine wp_scope_forward 0 rfl ?_
 go_wp2_with (first
  | go_skip
  | (refine at_store 3 (.tmp 9) (.const (.int .i64 0)) (by rfl) ?_;refine wpList_put (by rfl) 3 (.tmp 9) (.const (.int .i64 0)) (by rfl) (w.heap.size+1+1+1) 0 (.int .i64 0) (by rfl) (by rfl) 3 #[.int .i64 0] #[.int .i64 0] (K0.out.row 0 rfl) (by simp[Value.cells]) (by kernel_rfl) infoc_i (by kernel_rfl) ?_;intro w1 hrow hoth hz hbl;have K1:=Lib.hid (K0.out.turn 0 rfl hrow hoth hz);have G1:Hid (Below w.heap.size w w1):=Lib.hid (hbl _ _ (by omega) G0.out);clear hrow hoth hz hbl K0 G0)
  | (refine at_load 24 (.tmp 3) (by rfl) ?_;refine wpListG_row (by rfl) 24 (.tmp 3) (by rfl) w.heap.size (by rfl) 24 #[.int .i64 M,.slice A n c] _ (K1.out.row 3 rfl) Tryz.underlying24 (by rfl) infoc_T ?_)
  | (go_at_call 39;(with_reducible refine(u_start_no LA ln lc _ (K1.out.fs (A:=A) (n:=n) (xs:=xs) (by simp)) HN.out hF h).mono ?_);rintro e w2 ⟨rfl,hb⟩;have K2:=Lib.hid (K1.out.on hb);have G2:Hid (Below w.heap.size w w2):=Lib.hid (below_step G1.out hb);clear hb K1 G1;have K2b:=Lib.hid (K2.out.boxg 32 #[.int .i64 0] w2.heap.size rfl);have hz2:w.heap.size≤w2.heap.size:=G2.out.size;have G2b:=Lib.hid (G2.out.alloc hz2 (.cells #[.int .i64 0] 32));clear K2 G2)
  | (refine at_store 32 (.tmp 11) (.tmp 20) (by rfl) ?_;refine wpList_put (by rfl) 32 (.tmp 11) (.tmp 20) (by rfl) w2.heap.size 0 (.int .i64 2) (by rfl) (by rfl) 32 #[.int .i64 0] #[.int .i64 2] (K2b.out.row 0 rfl) (by simp[Value.cells]) (by kernel_rfl) infoc_E (by kernel_rfl) ?_;intro w3 hrow hoth hz hbl;have K3:=Lib.hid (K2b.out.turn 0 rfl hrow hoth hz);have G3:Hid (Below w.heap.size w w3):=Lib.hid (hbl _ _ (by omega) G2b.out);clear hrow hoth hz hbl K2b G2b)
  | (refine at_load 32 (.tmp 11) (by rfl) ?_;refine wpListG_get (by rfl) 32 (.tmp 11) (by rfl) w2.heap.size 0 (by rfl) 32 #[.int .i64 2] (.int .i64 2) _ (K3.out.row 0 rfl) (by rfl) Tryz.underlying32 (by rfl) ?_))
 go_step3
 refine⟨rfl,?_⟩
 have ce:=cells1_row (K3.out.row 0 rfl)
 obtain⟨cu0,cu1,cu2,cu3⟩:=cells4_row (K3.out.row 3 rfl)
 have zu0:=frozen_of_row w3 (w.heap.size+1) 0 _ _ (K3.out.row 3 rfl)
 have zu1:=frozen_of_row w3 (w.heap.size+1) 1 _ _ (K3.out.row 3 rfl)
 have zu2:=frozen_of_row w3 (w.heap.size+1) 2 _ _ (K3.out.row 3 rfl)
 have zu3:=frozen_of_row w3 (w.heap.size+1) 3 _ _ (K3.out.row 3 rfl)
 have hne1:w2.heap.size≠(w.heap.size+1):=K3.out.ne 0 3 rfl rfl (by omega)
 have hne2:(w.heap.size+1)≠w2.heap.size:=fun h=>hne1 h.symm
 go_wp2
 refine wp_to (fun a w'=>∃(v0 v1 v2 v3 v4 v5 v8 v9 v10 v11 v12 v13 v14 v15 v16 v17 v18 v19 v20 v21 v22 v23 v24 v25 v26 v27 v28 v29 v30 v31 v32 v33 v34 v35 v36 v37 v38 v39 v40 v41 v42 v43 v44 v45 v46 v47 v48 v49 v50 v51 v52 v53 v54 v55 v56 v57:Value),a={ tmps:=#[v0,v1,v2,v3,v4,v5,.pointer (some ⟨(w.heap.size+1),0,none⟩),.int .i64 2,v8,v9,v10,v11,v12,v13,v14,v15,v16,v17,v18,v19,v20,v21,v22,v23,v24,v25,v26,v27,v28,v29,v30,v31,v32,v33,v34,v35,v36,v37,v38,v39,v40,v41,v42,v43,v44,v45,v46,v47,v48,v49,v50,v51,v52,v53,v54,v55,v56,v57],defers:=[] }∧w'=(w3.setCells (w.heap.size+1) 0 [.slice none 0 0,.bool false,.int .i64 0,.slice none 0 0]).drew) ?_ ?_
 ·go_region
  all_goals exact⟨_,_,_,_,_,_,_,_,_,_,_,_,_,_,_,_,_,_,_,_,_,_,_,_,_,_,_,_,_,_,_,_,_,_,_,_,_,_,_,_,_,_,_,_,_,_,_,_,_,_,_,_,_,_,_,_,rfl,rfl⟩
 rintro a w' ⟨v0,v1,v2,v3,v4,v5,v8,v9,v10,v11,v12,v13,v14,v15,v16,v17,v18,v19,v20,v21,v22,v23,v24,v25,v26,v27,v28,v29,v30,v31,v32,v33,v34,v35,v36,v37,v38,v39,v40,v41,v42,v43,v44,v45,v46,v47,v48,v49,v50,v51,v52,v53,v54,v55,v56,v57,rfl,rfl⟩
 go_wp2
 exact bodyPost_ret (res_cell_tmp rfl _ _ _ _ _ _ rfl ((K3.out.setCells 3 rfl [.slice none 0 0,.bool false,.int .i64 0,.slice none 0 0] rfl).drew.row 3 rfl) Tryz.underlying31 rfl infoc_U) rfl ⟨rfl,(setCells_below (by omega) _ _ _ _ G3.out).drew⟩
theorem u_Block_sz{fs:List Fact}{gs:List Bx}{M most:Int}{A:Option Addr}{n c:Nat}{xs:List Fd}{LA:Option Addr}{ln lc:Nat}{ls:List UInt8}(w:World)(hV:EnvF w fs gs)(hL:bF LA ln ls∈fs)(hlc:ln≤lc)(hLN:LA=none→lc=0)(hA:fF A n xs∈fs)(hN:A=none→c=0)(hS:stF∈fs)(hR:rwF∈fs)(hM:mvF∈fs)(hF:full xs≤20000)(hn:ln≤10000)(h:okA M most xs=true)(hz:(bZ most ⟨M,xs,ls⟩).1≠0) :
  Calls Tryz.prog 8 #[.agg #[.int .i64 M,.slice A n c],.int .i64 most,.slice LA ln lc] w fun e w'=>e = .returned (.tuple #[.agg #[.slice none 0 0,.bool false,.int .i64 0,.slice none 0 0],.int .i64 (bZ most ⟨M,xs,ls⟩).1])∧Below w.heap.size w w':=by
 have K0:=Lib.hid (((((hV).boxg 24 #[.int .i64 M,.slice A n c] w.heap.size rfl).boxg 31 #[.slice none 0 0,.bool false,.int .i64 0,.slice none 0 0] (w.heap.size+1) (by simp)).boxg 31 #[.slice none 0 0,.bool false,.int .i64 0,.slice none 0 0] (w.heap.size+1+1) (by simp)).boxg 3 #[.int .i64 0] (w.heap.size+1+1+1) (by simp))
 have G0:=Lib.hid ((((((Below.refl w.heap.size w)).alloc (Nat.le_refl _) (.cells #[.int .i64 M,.slice A n c] 24)).alloc (by simp) (.cells #[.slice none 0 0,.bool false,.int .i64 0,.slice none 0 0] 31)).alloc (by simp;omega) (.cells #[.slice none 0 0,.bool false,.int .i64 0,.slice none 0 0] 31)).alloc (by simp;omega) (.cells #[.int .i64 0] 3))
 have HN:=Lib.hid hN
 have HA:=Lib.hid hA
 have HL:=Lib.hid hL
 have HM:=Lib.hid hM
 have HS:=Lib.hid hS
 have HR:=Lib.hid hR
 have HLC:=Lib.hid hlc
 have HLN:=Lib.hid hLN
 have h3:((bZ most ⟨M,xs,ls⟩).1 != 0)=true:=by rw[bne_iff_ne];exact hz
 clear hV hL hlc hLN hA hN hS hR hM
 go_enter Tryz.func8,Tryz.ntmps8
 go_wp2
 refine wp_scope_forward 0 rfl ?_
 go_wp2_with (first
  | go_skip
  | (refine at_store 3 (.tmp 9) (.const (.int .i64 0)) (by rfl) ?_;refine wpList_put (by rfl) 3 (.tmp 9) (.const (.int .i64 0)) (by rfl) (w.heap.size+1+1+1) 0 (.int .i64 0) (by rfl) (by rfl) 3 #[.int .i64 0] #[.int .i64 0] (K0.out.row 0 rfl) (by simp[Value.cells]) (by kernel_rfl) infoc_i (by kernel_rfl) ?_;intro w1 hrow hoth hz hbl;have K1:=Lib.hid (K0.out.turn 0 rfl hrow hoth hz);have G1:Hid (Below w.heap.size w w1):=Lib.hid (hbl _ _ (by omega) G0.out);clear hrow hoth hz hbl K0 G0)
  | (refine at_load 24 (.tmp 3) (by rfl) ?_;refine wpListG_row (by rfl) 24 (.tmp 3) (by rfl) w.heap.size (by rfl) 24 #[.int .i64 M,.slice A n c] _ (K1.out.row 3 rfl) Tryz.underlying24 (by rfl) infoc_T ?_)
  | (go_at_call 39;(with_reducible refine(u_start_yes LA ln lc _ K1.out HA.out HM.out HN.out (by omega) h).mono ?_);rintro e w2 ⟨g,K,A1,c1,rfl,hb,hE,hA1,hg⟩;have hgw:w.heap.size≤g:=Nat.le_trans G1.out.size hg;have K2:=Lib.hid hE;have HA1:=Lib.hid hA1;have G2:Hid (Below w.heap.size w w2):=Lib.hid (below_step G1.out hb);clear hb hE hA1 hg K1 G1;have K2b:=Lib.hid (K2.out.boxg 32 #[.int .i64 0] w2.heap.size rfl);have hz2:w.heap.size≤w2.heap.size:=G2.out.size;have G2b:=Lib.hid (G2.out.alloc hz2 (.cells #[.int .i64 0] 32));clear K2 G2)
  | (refine at_store 32 (.tmp 11) (.tmp 20) (by rfl) ?_;refine wpList_put (by rfl) 32 (.tmp 11) (.tmp 20) (by rfl) w2.heap.size 0 (.int .i64 0) (by rfl) (by rfl) 32 #[.int .i64 0] #[.int .i64 0] (K2b.out.row 0 rfl) (by simp[Value.cells]) (by kernel_rfl) infoc_E (by kernel_rfl) ?_;intro w3 hrow hoth hz hbl;have K3:=Lib.hid (K2b.out.turn 0 rfl hrow hoth hz);have G3:Hid (Below w.heap.size w w3):=Lib.hid (hbl _ _ (by omega) G2b.out);clear hrow hoth hz hbl K2b G2b)
  | (refine at_load 32 (.tmp 11) (by rfl) ?_;refine wpListG_get (by rfl) 32 (.tmp 11) (by rfl) w2.heap.size 0 (by rfl) 32 #[.int .i64 0] (.int .i64 0) _ (K3.out.row 0 rfl) (by rfl) Tryz.underlying32 (by rfl) ?_)
  | (go_at_call 40;(with_reducible refine(u_sizes (s:=⟨M,xs,ls⟩) (i:=1) _ ⟨K3.out,rfl,List.Mem.tail _ (List.mem_cons_self ..),by simp[HL.out],HLC.out,HLN.out,HA1.out⟩ (List.mem_cons_self ..) hn (by simp only;omega)).mono ?_);rintro e w4 ⟨rfl,hg,A2,n2,c2,LA2,ln2,lc2,hk⟩;have KO:=Lib.hid hk;have K4:=Lib.hid hk.e;have G4:Hid (Below w.heap.size w w4):=Lib.hid (below_gb G3.out hg hgw G3.out.size);clear hg hk K3 G3)
  | (refine at_store 32 (.tmp 11) (.tmp 24) (by rfl) ?_;refine wpList_put (by rfl) 32 (.tmp 11) (.tmp 24) (by rfl) w2.heap.size 0 (.int .i64 (bZ most ⟨M,xs,ls⟩).1) (by rfl) (by rfl) 32 #[.int .i64 0] #[.int .i64 (bZ most ⟨M,xs,ls⟩).1] (K4.out.row 0 rfl) (by simp[Value.cells]) (by kernel_rfl) infoc_E (by kernel_rfl) ?_;intro w5 hrow hoth hz hbl;have K5:=Lib.hid (K4.out.turn 0 rfl hrow hoth hz);have G5:Hid (Below w.heap.size w w5):=Lib.hid (hbl _ _ (by omega) G4.out);clear hrow hoth hz hbl K4 G4)
  | (refine at_load 32 (.tmp 11) (by rfl) ?_;refine wpListG_get (by rfl) 32 (.tmp 11) (by rfl) w2.heap.size 0 (by rfl) 32 #[.int .i64 (bZ most ⟨M,xs,ls⟩).1] (.int .i64 (bZ most ⟨M,xs,ls⟩).1) _ (K5.out.row 0 rfl) (by rfl) Tryz.underlying32 (by rfl) ?_))
 go_step3
 refine⟨rfl,?_⟩
 have ce:=cells1_row (K5.out.row 0 rfl)
 obtain⟨cu0,cu1,cu2,cu3⟩:=cells4_row (K5.out.row 4 rfl)
 have zu0:=frozen_of_row w5 (w.heap.size+1) 0 _ _ (K5.out.row 4 rfl)
 have zu1:=frozen_of_row w5 (w.heap.size+1) 1 _ _ (K5.out.row 4 rfl)
 have zu2:=frozen_of_row w5 (w.heap.size+1) 2 _ _ (K5.out.row 4 rfl)
 have zu3:=frozen_of_row w5 (w.heap.size+1) 3 _ _ (K5.out.row 4 rfl)
 have hne1:w2.heap.size≠(w.heap.size+1):=K5.out.ne 0 4 rfl rfl (by omega)
 have hne2:(w.heap.size+1)≠w2.heap.size:=fun h=>hne1 h.symm
 go_wp2
 refine wp_to (fun a w'=>∃(v0 v1 v2 v3 v4 v5 v8 v9 v10 v11 v12 v13 v14 v15 v16 v17 v18 v19 v20 v21 v22 v23 v24 v25 v26 v27 v28 v29 v30 v31 v32 v33 v34 v35 v36 v37 v38 v39 v40 v41 v42 v43 v44 v45 v46 v47 v48 v49 v50 v51 v52 v53 v54 v55 v56 v57:Value),a={ tmps:=#[v0,v1,v2,v3,v4,v5,.pointer (some ⟨(w.heap.size+1),0,none⟩),.int .i64 (bZ most ⟨M,xs,ls⟩).1,v8,v9,v10,v11,v12,v13,v14,v15,v16,v17,v18,v19,v20,v21,v22,v23,v24,v25,v26,v27,v28,v29,v30,v31,v32,v33,v34,v35,v36,v37,v38,v39,v40,v41,v42,v43,v44,v45,v46,v47,v48,v49,v50,v51,v52,v53,v54,v55,v56,v57],defers:=[] }∧w'=(w5.setCells (w.heap.size+1) 0 [.slice none 0 0,.bool false,.int .i64 0,.slice none 0 0]).drew) ?_ ?_
 ·go_region
  all_goals exact⟨_,_,_,_,_,_,_,_,_,_,_,_,_,_,_,_,_,_,_,_,_,_,_,_,_,_,_,_,_,_,_,_,_,_,_,_,_,_,_,_,_,_,_,_,_,_,_,_,_,_,_,_,_,_,_,_,rfl,rfl⟩
 rintro a w' ⟨v0,v1,v2,v3,v4,v5,v8,v9,v10,v11,v12,v13,v14,v15,v16,v17,v18,v19,v20,v21,v22,v23,v24,v25,v26,v27,v28,v29,v30,v31,v32,v33,v34,v35,v36,v37,v38,v39,v40,v41,v42,v43,v44,v45,v46,v47,v48,v49,v50,v51,v52,v53,v54,v55,v56,v57,rfl,rfl⟩
 go_wp2
 exact bodyPost_ret (res_cell_tmp rfl _ _ _ _ _ _ rfl ((K5.out.setCells 4 rfl [.slice none 0 0,.bool false,.int .i64 0,.slice none 0 0] rfl).drew.row 4 rfl) Tryz.underlying31 rfl infoc_U) rfl ⟨rfl,(setCells_below (by omega) _ _ _ _ G5.out).drew⟩
end Go.Proofs.YtahiajeggbpogaaGreatDoor
