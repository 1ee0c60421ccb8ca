import Derived.Test.YtahiajeggbpogaaGreatDoorPkT
set_option maxRecDepth 100000
set_option maxHeartbeats 4000000
namespace Go.Proofs.YtahiajeggbpogaaGreatDoor
open Go.RowKit Go.Shelf Px Tx Tb Up Pk GD
set_option linter.unusedVariables false
set_option linter.unusedSimpArgs false
attribute [local go_sem] Oper.semAt_some
theorem q_sized{i:Int}{L:List UInt8}{E:Int}{k:Nat}(w:World)(h1:putL i (5:Nat) 32=L)(h2:putE i (5:Nat)=E)(h3:L.length=k) :
  Calls Tryz.prog 14 #[.int .i64 i] w fun e w'=>∃A c,e = .returned (.tuple #[.slice A k c,.int .i64 E])∧OwnB w' w.heap.size 5 (.slice A k c) L∧Below w.heap.size w w':=by
 subst h1 h2 h3
 exact d_Sized i w
theorem app_get{α:Type}{l m:List α}{i:Nat}{x:α}(h:l[i]? = some x):(l++m)[i]? = some x:=by
 rw[List.getElem?_append_left (List.getElem?_eq_some_iff.1 h).1];exact h
theorem app_set{α:Type}{l m:List α}{i:Nat}{x y:α}(h:l[i]? = some x):(l++m).set i y=l.set i y++m:=
 List.set_append_left _ _ (List.getElem?_eq_some_iff.1 h).1
noncomputable def qs6ops:List Oper:=opsOf 6 (Tryz.f33.body.getD .skip)
theorem qs6{w0 w:World}{fs:List Fact}{gs lb:List Bx}{V1:Value}{P L1:List UInt8}{gS gR iS iR B0 m c2 k5 c5:Nat}{M:Int}{A2 A5:Option Addr}{v0 v1 v2 v3 v4 v5 v6 v8 v10 v12 v14 v15 v16 v17 v18 v19 v20 v21 v22 v23 v24 v25 v26 v27 v28 v29 v30 v31 v32 v33 v34 v35 v36 v37 v38 v39:Value}{KK:Act→World→Prop}{Q:Exit→Act→World→Prop}(hS:gs[iS]? = some (gS,#[.int .i64 M,.slice A2 m c2],24))(hZ:gs[iR]? = some (gR,#[.int .i64 0,.slice none 0 0],24))(hne:iR≠iS)(hB0:B0≤gR)(hl:BX B0 V1 P lb)(h5:bF A5 k5 L1∈fs)(hN5:A5=none→c5=0)(hlen:P.length+k5≤1000000)(B:Below B0 w0 w)(hBw:B0≤w.heap.size)(hR : ∀(w':World) (V2:Value) (lb2:List Bx),BX B0 V2 (P++L1) lb2→EnvF w' fs (gs.set iR (gR,#[.int .i64 M,.slice A2 m c2],24)++lb2)→Below B0 w0 w'→KK { tmps:=#[v0,v1,v2,v3,v4,v5,V2,.pointer (some ⟨gR,0,none⟩),.int .i64 0,.pointer (some ⟨gS,0,none⟩),v10,V1,v12,.slice A5 k5 c5,v14,v15,v16,v17,v18,v19,v20,v21,v22,v23,v24,v25,v26,v27,v28,v29,v30,v31,v32,v33,v34,v35,V1,.slice A5 k5 c5,V2,.agg #[.int .i64 M,.slice A2 m c2]],defers:=[] } w')(K:EnvF w fs (gs++lb)) :
  (Code.region 6 qs6ops.toArray true).wp Tryz.prog (Exit.then KK Q) { tmps:=#[v0,v1,v2,v3,v4,v5,v6,.pointer (some ⟨gR,0,none⟩),v8,.pointer (some ⟨gS,0,none⟩),v10,V1,v12,.slice A5 k5 c5,v14,v15,v16,v17,v18,v19,v20,v21,v22,v23,v24,v25,v26,v27,v28,v29,v30,v31,v32,v33,v34,v35,v36,v37,v38,v39],defers:=[] } w:=by
 obtain⟨i0,hi,hz0,hz1,hz2⟩:=info_parts info_tu8
 refine Code.wp_mono (Q:=Exit.then KK fun _ _ _=>False) (fun e a w h=>by cases e<;>first | exact h | exact h.elim) ?_
 refine wp_region_held_drew (S:=(fun W'=>W'.cell? ⟨gS,0,none⟩=some (.int .i64 M)∧W'.cell? ⟨gS,1,none⟩=some (.slice A2 m c2))) (by kernel_rfl) (cells2_row (K.drew.row iS (app_get hS))) (fun hH=>?_)
 refine takeD (i:=0) (v:=?_) rfl (by as_aux_lemma=>kernel_rfl) (by as_aux_lemma=>kernel_rfl) (by as_aux_lemma=>kernel_rfl) (fun _ _ _ h=>h) (Or.inl ⟨by rfl,?_⟩) hH ?_
 rotate_left
 ·intro w hSw;(try dsimp only at hSw);go_simp<;>with_reducible rfl
 try simp only[Act.put,List.setIfInBounds_toArray,List.set_cons_zero,List.set_cons_succ]
 refine takeD (i:=1) (v:=?_) rfl (by as_aux_lemma=>kernel_rfl) (by as_aux_lemma=>kernel_rfl) (by as_aux_lemma=>kernel_rfl) (fun _ _ _ h=>h) (Or.inl ⟨by rfl,?_⟩) hH ?_
 rotate_left
 ·intro w hSw;(try dsimp only at hSw);go_simp<;>with_reducible rfl
 try simp only[Act.put,List.setIfInBounds_toArray,List.set_cons_zero,List.set_cons_succ]
 refine takeD (i:=3) (v:=?_) rfl (by as_aux_lemma=>kernel_rfl) (by as_aux_lemma=>kernel_rfl) (by as_aux_lemma=>kernel_rfl) (fun _ _ _ h=>h) (Or.inl ⟨by rfl,?_⟩) hH ?_
 rotate_left
 ·intro w hSw;(try dsimp only at hSw);go_simp<;>with_reducible rfl
 try simp only[Act.put,List.setIfInBounds_toArray,List.set_cons_zero,List.set_cons_succ]
 refine readyD (i:=2) rfl (by as_aux_lemma=>kernel_rfl) (fun K' hK=>?_)
 refine step_append_full _ (by rfl) (.tmp 36) (.tmp 37) 25 (by rfl) B0 5 i0 Tryz.underlying25 hi hz0 hz1 hz2 V1 P (by rfl) (hl.own (gs:=gs++lb) K.drew (fun y hy=>List.mem_append_right _ hy)) _ A5 k5 c5 L1 (by rfl) (K.drew.bs h5) hN5 hlen hBw ?_
 intro V2 w2 ho hb hg hv _
 obtain⟨lb2,hl2,K2⟩:=bx_append (gs:=gs) (lb:=lb) K.drew hl ho hg hv
 have B2:=B.drew.trans hb
 refine hK.out _ _ (cells2_row (K2.row iS (app_get hS))) (fun hH=>?_)
 clear hK K'
 try simp only[Act.put,List.setIfInBounds_toArray,List.set_cons_zero,List.set_cons_succ]
 refine takeD (i:=4) (v:=?_) rfl (by as_aux_lemma=>kernel_rfl) (by as_aux_lemma=>kernel_rfl) (by as_aux_lemma=>kernel_rfl) (fun _ _ _ h=>h) (Or.inl ⟨by rfl,?_⟩) hH ?_
 rotate_left
 ·intro w hSw;(try dsimp only at hSw);go_simp<;>with_reducible rfl
 try simp only[Act.put,List.setIfInBounds_toArray,List.set_cons_zero,List.set_cons_succ]
 refine readyD (i:=5) rfl (by as_aux_lemma=>kernel_rfl) (fun K' hK=>?_)
 refine step_put (by rfl) 24 (.tmp 7) (.tmp 39) (by rfl) gR 0 (.agg #[.int .i64 M,.slice A2 m c2]) (by rfl) (by rfl) 24 #[.int .i64 0,.slice none 0 0] #[.int .i64 M,.slice A2 m c2] (K2.row iR (app_get hZ)) (by simp[Value.cells]) (by kernel_rfl) infoc_T (by kernel_rfl) ?_
 intro w1 c1' c2' c3' c4'
 have K1:=K2.turn iR (app_get hZ) c1' c2' c3'
 rw[app_set hZ] at K1
 have B1:=c4' _ _ hB0 B2
 refine hK.out _ _ (cells2_row (K1.row iS (app_get (by rw[List.getElem?_set_ne hne];exact hS)))) (fun hH=>?_)
 clear hK K'
 try simp only[Act.put,List.setIfInBounds_toArray,List.set_cons_zero,List.set_cons_succ]
 refine takeD (i:=6) (v:=?_) rfl (by as_aux_lemma=>kernel_rfl) (by as_aux_lemma=>kernel_rfl) (by as_aux_lemma=>kernel_rfl) (fun _ _ _ h=>h) (Or.inl ⟨by rfl,?_⟩) hH ?_
 rotate_left
 ·intro w hSw;(try dsimp only at hSw);go_simp<;>with_reducible rfl
 try simp only[Act.put,List.setIfInBounds_toArray,List.set_cons_zero,List.set_cons_succ]
 refine wpAnyH_done (by as_aux_lemma=>kernel_rfl) ?_ _
 exact hR _ _ _ hl2 K1 B1
theorem q_Sized_n{fs:List Fact}{gs:List Bx}{M most N:Int}{A:Option Addr}{n c n2:Nat}{xs X2:List Fd}(LA:Option Addr)(ln lc:Nat)(w:World)(hV:EnvF w fs gs)(HA:Hid (fF A n xs∈fs))(HN:Hid (A=none→c=0))(HF:Hid (full xs≤100000))(h1:Hid (resM M xs most=N))(h2:Hid (resE M xs most=2))(h3:Hid (resL M xs most=X2))(h4:Hid (X2.length=n2)) :
  Calls Tryz.prog 33 #[.agg #[.int .i64 M,.slice A n c],.int .i64 most,.slice LA ln lc] w fun e w'=>e = .returned (.tuple #[.slice none 0 0,.agg #[.int .i64 0,.slice none 0 0],.int .i64 2])∧Below w.heap.size w w':=by
 have K0:=Lib.hid (((hV).boxg 24 #[.int .i64 M,.slice A n c] w.heap.size rfl).boxg 24 #[.int .i64 0,.slice none 0 0] (w.heap.size+1) (by simp))
 have G0:=Lib.hid (((Below.refl w.heap.size w).alloc (Nat.le_refl _) (.cells #[.int .i64 M,.slice A n c] 24)).alloc (by simp;try omega) (.cells #[.int .i64 0,.slice none 0 0] 24))
 have h22:((2:Int) != 0)=true:=rfl
 clear hV
 go_enter Tryz.func33,Tryz.ntmps33
 go_wp2_with (first
  | go_skip
  | (refine at_load 24 (.tmp 3) (by rfl) ?_;refine wpListG_row (by rfl) 24 (.tmp 3) (by rfl) w.heap.size (by rfl) 24 #[.int .i64 M,.slice A n c] _ (K0.out.row 1 rfl) Tryz.underlying24 (by rfl) infoc_T ?_)
  | (go_at_call 43;(with_reducible refine(q_resize (A:=A) (n:=n) (c:=c) (xs:=xs) _ K0.out (by simp[HA.out]) HN.out HF.out h1.out h2.out h3.out h4.out).mono ?_);rintro e w1 ⟨A2,c2,rfl,hb,hE,HA20⟩;have K1:=Lib.hid hE;have HA2:=Lib.hid HA20;have G1:=Lib.hid (below_step G0.out hb);clear hb hE HA20 K0 G0;have K1b:=Lib.hid (K1.out.boxg 24 #[.int .i64 0,.slice none 0 0] w1.heap.size rfl);have hz1:w.heap.size≤w1.heap.size:=G1.out.size;have G1b:=Lib.hid (G1.out.alloc hz1 (.cells #[.int .i64 0,.slice none 0 0] 24));clear K1 G1)
  | (refine at_store 24 (.tmp 9) (.tmp 19) (by rfl) ?_;refine wpList_put (by rfl) 24 (.tmp 9) (.tmp 19) (by rfl) w1.heap.size 0 (.agg #[.int .i64 N,.slice A2 n2 c2]) (by rfl) (by rfl) 24 #[.int .i64 0,.slice none 0 0] #[.int .i64 N,.slice A2 n2 c2] (K1b.out.row 0 rfl) (by simp[Value.cells]) (by kernel_rfl) infoc_T (by kernel_rfl) ?_;intro w2 hrow hoth hz hbl;have K2:=Lib.hid (K1b.out.turn 0 rfl hrow hoth hz);have G2:=Lib.hid (hbl _ _ (by omega) G1b.out);clear hrow hoth hz hbl K1b G1b)
  | (refine at_store 24 (.tmp 7) (.tmp 23) (by rfl) ?_;refine wpList_put (by rfl) 24 (.tmp 7) (.tmp 23) (by rfl) (w.heap.size+1) 0 (.agg #[.int .i64 0,.slice none 0 0]) (by rfl) (by rfl) 24 #[.int .i64 0,.slice none 0 0] #[.int .i64 0,.slice none 0 0] (K2.out.row 1 rfl) (by simp[Value.cells]) (by kernel_rfl) infoc_T (by kernel_rfl) ?_;intro w3 hrow hoth hz hbl;have K3:=Lib.hid (K2.out.turn 1 rfl hrow hoth hz);have G3:=Lib.hid (hbl _ _ (by omega) G2.out);clear hrow hoth hz hbl K2 G2))
 have KE:=K3.out
 exact bodyPost_ret (res_tct rfl _ _ _ _ _ _ rfl (KE.row 1 rfl) Tryz.underlying24 rfl infoc_T) rfl ⟨rfl,G3.out⟩
theorem q_Sized_y{fs:List Fact}{gs:List Bx}{M most N:Int}{A:Option Addr}{n c n2:Nat}{xs X2:List Fd}{L L1 P:List UInt8}{k k1 j m:Nat}{X ls:List Fd}(LA:Option Addr)(ln lc:Nat)(w:World)(hV:EnvF w fs gs)(HA:Hid (fF A n xs∈fs))(HN:Hid (A=none→c=0))(HF:Hid (full xs≤100000))(HL:Hid (fF LA ln ls∈fs))(h1:Hid (resM M xs most=most))(h2:Hid (resE M xs most=0))(h3:Hid (resL M xs most=X2))(h4:Hid (X2.length=n2))(hP:Hid (putL most (5:Nat) 32=P))(hE:Hid (putE most (5:Nat)=N))(hj:Hid (P.length=j))(hr:Hid (rightB most X2=true))(hz:Hid (full ls≤7000))(hB:Hid (kB most X2 ls=L1))(hY:Hid (kX most X2 ls=X))(hk:Hid (L1.length=k1))(hm:Hid (X.length=m))(hlen:Hid (P.length+k1≤1000000))(hL:Hid (P++L1=L))(hk2:Hid (L.length=k)) :
  Calls Tryz.prog 33 #[.agg #[.int .i64 M,.slice A n c],.int .i64 most,.slice LA ln lc] w fun e w'=>∃A1 c1 A2 c2,e = .returned (.tuple #[.slice A1 k c1,.agg #[.int .i64 most,.slice A2 m c2],.int .i64 0])∧Below w.heap.size w w'∧EnvF w' (bF A1 k L::fF A2 m X::fs) gs∧(k≤c1∧(A1=none→c1=0))∧(A2=none→c2=0):=by
 have K0:=Lib.hid (((hV).boxg 24 #[.int .i64 M,.slice A n c] w.heap.size rfl).boxg 24 #[.int .i64 0,.slice none 0 0] (w.heap.size+1) (by simp))
 have G0:=Lib.hid (((Below.refl w.heap.size w).alloc (Nat.le_refl _) (.cells #[.int .i64 M,.slice A n c] 24)).alloc (by simp;try omega) (.cells #[.int .i64 0,.slice none 0 0] 24))
 have h22:((0:Int) != 0)=false:=rfl
 clear hV
 go_enter Tryz.func33,Tryz.ntmps33
 go_wp2_with (first
  | go_skip
  | (refine at_load 24 (.tmp 3) (by rfl) ?_;refine wpListG_row (by rfl) 24 (.tmp 3) (by rfl) w.heap.size (by rfl) 24 #[.int .i64 M,.slice A n c] _ (K0.out.row 1 rfl) Tryz.underlying24 (by rfl) infoc_T ?_)
  | (go_at_call 43;(with_reducible refine(q_resize (A:=A) (n:=n) (c:=c) (xs:=xs) _ K0.out (by simp[HA.out]) HN.out HF.out h1.out h2.out h3.out h4.out).mono ?_);rintro e w1 ⟨A2,c2,rfl,hb,hE,HA20⟩;have K1:=Lib.hid hE;have HA2:=Lib.hid HA20;have G1:=Lib.hid (below_step G0.out hb);clear hb hE HA20 K0 G0;have K1b:=Lib.hid (K1.out.boxg 24 #[.int .i64 0,.slice none 0 0] w1.heap.size rfl);have hz1:w.heap.size≤w1.heap.size:=G1.out.size;have G1b:=Lib.hid (G1.out.alloc hz1 (.cells #[.int .i64 0,.slice none 0 0] 24));clear K1 G1)
  | (refine at_store 24 (.tmp 9) (.tmp 19) (by rfl) ?_;refine wpList_put (by rfl) 24 (.tmp 9) (.tmp 19) (by rfl) w1.heap.size 0 (.agg #[.int .i64 most,.slice A2 n2 c2]) (by rfl) (by rfl) 24 #[.int .i64 0,.slice none 0 0] #[.int .i64 most,.slice A2 n2 c2] (K1b.out.row 0 rfl) (by simp[Value.cells]) (by kernel_rfl) infoc_T (by kernel_rfl) ?_;intro w2 hrow hoth hz hbl;have K2:=Lib.hid (K1b.out.turn 0 rfl hrow hoth hz);have G2:=Lib.hid (hbl _ _ (by omega) G1b.out);clear hrow hoth hz hbl K1b G1b)
  | (go_at_call 14;(with_reducible refine(q_sized _ hP.out hE.out hj.out).mono ?_);rintro e w3 ⟨A1,c1,rfl,ho,hb⟩;obtain⟨lb1,hl1,hE1⟩:=bx_hand (gs:=(w1.heap.size,#[.int .i64 most,.slice A2 n2 c2],24)::(w.heap.size+1,#[.int .i64 0,.slice none 0 0],24)::(w.heap.size,#[.int .i64 M,.slice A n c],24)::gs) (B:=w.heap.size) K2.out hb ho G2.out.size;have K3:=Lib.hid hE1;have HL1:=Lib.hid hl1;have G3:=Lib.hid (below_step G2.out hb);have hzt:=G2.out.size;clear ho hb hl1 hE1 K2 G2)
  | (refine at_load 24 (.tmp 9) (by rfl) ?_;refine wpListG_row (by rfl) 24 (.tmp 9) (by rfl) w1.heap.size (by rfl) 24 #[.int .i64 most,.slice A2 n2 c2] _ (K3.out.row 0 rfl) Tryz.underlying24 (by rfl) infoc_T ?_)
  | (go_at_call 31;(with_reducible refine(q_Block (gs:=((w1.heap.size,#[.int .i64 most,.slice A2 n2 c2],24)::(w.heap.size+1,#[.int .i64 0,.slice none 0 0],24)::(w.heap.size,#[.int .i64 M,.slice A n c],24)::gs)++lb1) (A:=A2) (n:=n2) (c:=c2) (xs:=X2) (ls:=ls) LA ln lc _ K3.out (by simp) (by simp[HL.out]) HA2.out hr.out hz.out hB.out hY.out hk.out hm.out).mono ?_);rintro e w4 ⟨A3,c3,A4,c4,rfl,hb,hE,HA30⟩;have K4:=Lib.hid hE;have HA3:=Lib.hid HA30;have G4:=Lib.hid (below_step G3.out hb);clear hb hE HA30 K3 G3)
  | (refine at_store 24 (.tmp 9) (.tmp 34) (by rfl) ?_;refine wpList_put (by rfl) 24 (.tmp 9) (.tmp 34) (by rfl) w1.heap.size 0 (.agg #[.int .i64 most,.slice A4 m c4]) (by rfl) (by rfl) 24 #[.int .i64 most,.slice A2 n2 c2] #[.int .i64 most,.slice A4 m c4] (K4.out.row 0 rfl) (by simp[Value.cells]) (by kernel_rfl) infoc_T (by kernel_rfl) ?_;intro w5 hrow hoth hz hbl;have K5:=Lib.hid (K4.out.turn 0 rfl hrow hoth hz);have G5:=Lib.hid (hbl _ _ (by omega) G4.out);clear hrow hoth hz hbl K4 G4))
 have KQ:EnvF w5 (bF A3 k1 L1::fF A4 m X::fF A2 n2 X2::fs) (((w1.heap.size,#[.int .i64 most,.slice A4 m c4],24)::(w.heap.size+1,#[.int .i64 0,.slice none 0 0],24)::(w.heap.size,#[.int .i64 M,.slice A n c],24)::gs)++lb1):=K5.out
 refine qs6 (V1:=.slice A1 j c1) (A5:=A3) (k5:=k1) (c5:=c3) (L1:=L1) (A2:=A4) (m:=m) (c2:=c4) (M:=most) (iS:=0) (iR:=1) (B0:=w.heap.size) rfl rfl (by decide) (by omega) HL1.out (List.mem_cons_self ..) HA3.out.1.2 hlen.out G5.out G5.out.size (fun w' V2 lb2 hl2 hE9 hB9=>?_) KQ
 have KE:=Lib.hid hE9
 have BE:=Lib.hid hB9
 have HL2:=Lib.hid hl2
 clear hE9 hB9 hl2 KQ K5 G5 HL1
 obtain⟨A9,c9,hv9,h91,h92⟩:=HL2.out.form KE.out
 rw[hL.out,hk2.out] at hv9
 rw[hL.out,hk2.out] at h91
 subst hv9
 have HL3:=Lib.hid (hL.out ▸ HL2.out)
 clear HL2
 have KX:=Lib.hid (bx_fact KE.out HL3.out hk2.out)
 have H9:=Lib.hid (And.intro h91 h92)
 clear h91 h92 KE HL3
 go_wp2
 have KS:=Lib.hid (KX.out.sub (fs':=bF A9 k L::fF A4 m X::fs) (gs':=gs) (fun y hy=>by simp only[List.mem_cons] at hy ⊢;rcases hy with rfl | rfl | hy<;>simp[*]) (List.Sublist.cons _ (List.Sublist.cons _ (List.Sublist.cons _ (List.Sublist.refl _)))))
 exact bodyPost_ret (res_tct rfl _ _ _ _ _ _ rfl (KX.out.row 1 rfl) Tryz.underlying24 rfl infoc_T) rfl ⟨A9,c9,A4,c4,rfl,BE.out,KS.out,H9.out,HA3.out.2⟩
end Go.Proofs.YtahiajeggbpogaaGreatDoor
