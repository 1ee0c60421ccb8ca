import Derived.Test.YtahiajeggbpogaaGreatDoorUpOl
import Derived.Test.YtahiajeggbpogaaGreatDoorUpOr
import Derived.Test.YtahiajeggbpogaaGreatDoorUpLb
set_option maxRecDepth 100000
set_option maxHeartbeats 4000000
namespace Go.Proofs.YtahiajeggbpogaaGreatDoor
open Go.RowKit Go.Shelf Px Tx Tb Up GD
set_option linter.unusedVariables false
set_option linter.unusedSimpArgs false
set_option linter.unusedSectionVars false
attribute [local go_sem] Oper.semAt_some
noncomputable def fo2ops:List Oper:=opsOf 2 (Tryz.f19.body.getD .skip)
section
variable {w0:World}{fs:List Fact}{gs lb:List Bx}{P0:Option Addr}{n0 c0 n1 n2 gF k B:Nat}{fa fb:ByteArray}{pl la lz:List UInt8}{v0 v1 v3 v4 v6 v7 v8 v9 x0 x1 x4 x5 x6 x8 x9 y0:Value}{KK:Act→World→Prop}(hf:gs[k]? = some (gF,#[.string fa,.string fb],27))(hlb:BBox B (.slice P0 n0 c0) pl lb)(hBw:B≤w0.heap.size)(HB1:Hid (∀W:World,Calls Tryz.prog 51 #[.string fa] W fun e w'=>∃A c,e = .returned (.slice A n1 c)∧HandS w' W.heap.size A n1 c la∧Below W.heap.size W w'))(HB2:Hid (∀W:World,Calls Tryz.prog 51 #[.string fb] W fun e w'=>∃A c,e = .returned (.slice A n2 c)∧HandS w' W.heap.size A n2 c lz∧Below W.heap.size W w'))(hpl:pl.length≤10)(hla:la.length≤20000)(hn1:n1≤20000)(hn2:n2≤20000)(hR : ∀(A1 A2:Option Addr) (c1 c2:Nat) (V1 V2:Value) (lb2:List Bx) (w:World),EnvF w (bF A2 n2 lz::bF A1 n1 la::fs) (gs++lb2)→BBox B V2 (pl++la++lz) lb2→Below B w0 w→KK { tmps:=#[v0,v1,.pointer (some ⟨gF,0,none⟩),v3,V2,.slice P0 n0 c0,v6,v7,v8,v9,x0,x1,.slice P0 n0 c0,.pointer (some ⟨gF,0,none⟩),.string fa,.slice A1 n1 c1,V1,.pointer (some ⟨gF,1,none⟩),.string fb,.slice A2 n2 c2,V2],defers:=[] } w)
include hf hlb hBw HB1 HB2 hpl hla hn1 hn2 hR
theorem fo2_abcdlm{A1:Option Addr}{c1:Nat}{V1:Value}{lb1:List Bx}{A2:Option Addr}{c2:Nat}{V2:Value}{lb2:List Bx}(hN1:A1=none→c1=0)(hl1:BBox B V1 (pl++la) lb1)(hN2:A2=none→c2=0)(hl2:BBox B V2 (pl++la++lz) lb2){w:World}(ls:Array Bool)(hl:ls=#[true,true,true,true,true,true,true,true,true,true])(K:EnvF w (bF A2 n2 lz::bF A1 n1 la::fs) (gs++lb2))(Bl:Below B w0 w) :
  wpAnyH Tryz.prog .any fo2ops.toArray (Exit.then KK fun _ _ _=>False) (fun _=>True) 0 ls { tmps:=#[v0,v1,.pointer (some ⟨gF,0,none⟩),v3,V2,.slice P0 n0 c0,v6,v7,v8,v9,x0,x1,.slice P0 n0 c0,.pointer (some ⟨gF,0,none⟩),.string fa,.slice A1 n1 c1,V1,.pointer (some ⟨gF,1,none⟩),.string fb,.slice A2 n2 c2,V2],defers:=[] } w:=by
 subst hl
 refine wpAnyH_done (by as_aux_lemma=>kernel_rfl) ?_ _
 exact hR _ _ _ _ _ _ _ _ K hl2 Bl
theorem fo2_abclm{A1:Option Addr}{c1:Nat}{V1:Value}{lb1:List Bx}{A2:Option Addr}{c2:Nat}(hN1:A1=none→c1=0)(hl1:BBox B V1 (pl++la) lb1)(hN2:A2=none→c2=0){w:World}(ls:Array Bool)(hl:ls=#[true,true,true,true,true,true,true,true,false,false])(K:EnvF w (bF A2 n2 lz::bF A1 n1 la::fs) (gs++lb1))(Bl:Below B w0 w) :
  wpAnyH Tryz.prog .any fo2ops.toArray (Exit.then KK fun _ _ _=>False) (fun _=>True) 2 ls { tmps:=#[v0,v1,.pointer (some ⟨gF,0,none⟩),v3,v4,.slice P0 n0 c0,v6,v7,v8,v9,x0,x1,.slice P0 n0 c0,.pointer (some ⟨gF,0,none⟩),.string fa,.slice A1 n1 c1,V1,.pointer (some ⟨gF,1,none⟩),.string fb,.slice A2 n2 c2,y0],defers:=[] } w:=by
 subst hl
 refine wpAnyH_ready (rs:=[8]) (by as_aux_lemma=>kernel_rfl) (by simp) ?_
 refine AllReadyH.cons (getOf (i:=8) rfl) (fun K' hK=>?_) ?_
 ·
  obtain⟨i0,hi,hz0,hz1,hz2⟩:=info_parts info_tu8
  refine step_append_full _ (by rfl) (.tmp 16) (.tmp 19) 25 (by rfl) B 5 i0 Tryz.underlying25 hi hz0 hz1 hz2 (V1) (pl++la) (by rfl) (hl1.own (gs:=gs++lb1) K (fun y hy=>List.mem_append_right _ hy)) _ A2 n2 c2 lz (by rfl) (K.bs (A:=A2) (n:=n2) (xs:=lz) (by simp)) hN2 (by first | omega | (simp only[List.length_append];omega)) (Nat.le_trans hBw Bl.size) ?_
  intro V2 w2 ho hb hg hv _
  obtain⟨lb2,hl2,K2⟩:=bbox_append (gs:=gs) (lb:=lb1) K hl1 ho hg hv
  have B2:=Bl.trans hb
  refine hK.out _ _ trivial (fun hH=>?_)
  clear hK K'
  try simp only[Act.put,List.setIfInBounds_toArray,List.set_cons_zero,List.set_cons_succ]
  refine takeD (i:=9) (v:=?_) rfl (by as_aux_lemma=>kernel_rfl) (by as_aux_lemma=>kernel_rfl) (by as_aux_lemma=>kernel_rfl) (fun _ _ _ h=>h) (Or.inl ⟨by rfl,?_⟩) hH ?_
  rotate_left
  ·intro w hSw;(try dsimp only at hSw);go_simp<;>with_reducible rfl
  try simp only[Act.put,List.setIfInBounds_toArray,List.set_cons_zero,List.set_cons_succ]
  exact fo2_abcdlm hf hlb hBw HB1 HB2 hpl hla hn1 hn2 hR hN1 hl1 hN2 hl2 _ (by kernel_rfl) K2 B2
 exact AllReadyH.nil
theorem fo2_ablm{A1:Option Addr}{c1:Nat}{V1:Value}{lb1:List Bx}(hN1:A1=none→c1=0)(hl1:BBox B V1 (pl++la) lb1){w:World}(ls:Array Bool)(hl:ls=#[true,true,true,true,true,true,true,false,false,false])(K:EnvF w (bF A1 n1 la::fs) (gs++lb1))(Bl:Below B w0 w) :
  wpAnyH Tryz.prog .any fo2ops.toArray (Exit.then KK fun _ _ _=>False) (fun _=>True) 3 ls { tmps:=#[v0,v1,.pointer (some ⟨gF,0,none⟩),v3,v4,.slice P0 n0 c0,v6,v7,v8,v9,x0,x1,.slice P0 n0 c0,.pointer (some ⟨gF,0,none⟩),.string fa,.slice A1 n1 c1,V1,.pointer (some ⟨gF,1,none⟩),.string fb,x9,y0],defers:=[] } w:=by
 subst hl
 refine wpAnyH_ready (rs:=[7]) (by as_aux_lemma=>kernel_rfl) (by simp) ?_
 refine AllReadyH.cons (getOf (i:=7) rfl) (fun K' hK=>?_) ?_
 ·
  go_simp
  go_at_call 51
  refine(HB2.out w).mono ?_
  rintro e w2 ⟨A2,c2,rfl,hh,hb⟩
  have K2:=K.handS hb hh
  have hN2:=hh.2.2.2
  have B2:=Bl.trans (hb.mono (Nat.le_trans hBw Bl.size))
  refine hK.out _ _ trivial (fun hH=>?_)
  clear hK K'
  try simp only[Act.put,List.setIfInBounds_toArray,List.set_cons_zero,List.set_cons_succ]
  exact fo2_abclm hf hlb hBw HB1 HB2 hpl hla hn1 hn2 hR hN1 hl1 hN2 _ (by kernel_rfl) K2 B2
 exact AllReadyH.nil
theorem fo2_abl{A1:Option Addr}{c1:Nat}{V1:Value}{lb1:List Bx}(hN1:A1=none→c1=0)(hl1:BBox B V1 (pl++la) lb1){w:World}(ls:Array Bool)(hl:ls=#[true,true,true,true,true,true,false,false,false,false])(K:EnvF w (bF A1 n1 la::fs) (gs++lb1))(Bl:Below B w0 w) :
  wpAnyH Tryz.prog .any fo2ops.toArray (Exit.then KK fun _ _ _=>False) (fun _=>True) 4 ls { tmps:=#[v0,v1,.pointer (some ⟨gF,0,none⟩),v3,v4,.slice P0 n0 c0,v6,v7,v8,v9,x0,x1,.slice P0 n0 c0,.pointer (some ⟨gF,0,none⟩),.string fa,.slice A1 n1 c1,V1,.pointer (some ⟨gF,1,none⟩),x8,x9,y0],defers:=[] } w:=by
 subst hl
 refine wpAnyH_ready (rs:=[6]) (by as_aux_lemma=>kernel_rfl) (by simp) ?_
 refine AllReadyH.cons (getOf (i:=6) rfl) (fun K' hK=>?_) ?_
 ·
  refine step_get (by rfl) 9 (.tmp 17) (by rfl) gF 1 (by rfl) 27 #[.string fa,.string fb] (.string fb) _ (K.row k (ixl hf)) (by rfl) Tryz.underlying9 (by rfl) ?_
  refine hK.out _ _ trivial (fun hH=>?_)
  clear hK K'
  try simp only[Act.put,List.setIfInBounds_toArray,List.set_cons_zero,List.set_cons_succ]
  exact fo2_ablm hf hlb hBw HB1 HB2 hpl hla hn1 hn2 hR hN1 hl1 _ (by kernel_rfl) K Bl
 exact AllReadyH.nil
theorem fo2_alm{A1:Option Addr}{c1:Nat}(hN1:A1=none→c1=0){w:World}(ls:Array Bool)(hl:ls=#[true,true,true,true,false,true,true,false,false,false])(K:EnvF w (bF A1 n1 la::fs) (gs++lb))(Bl:Below B w0 w) :
  wpAnyH Tryz.prog .any fo2ops.toArray (Exit.then KK fun _ _ _=>False) (fun _=>True) 4 ls { tmps:=#[v0,v1,.pointer (some ⟨gF,0,none⟩),v3,v4,.slice P0 n0 c0,v6,v7,v8,v9,x0,x1,.slice P0 n0 c0,.pointer (some ⟨gF,0,none⟩),.string fa,.slice A1 n1 c1,x6,.pointer (some ⟨gF,1,none⟩),.string fb,x9,y0],defers:=[] } w:=by
 subst hl
 refine wpAnyH_ready (rs:=[4]) (by as_aux_lemma=>kernel_rfl) (by simp) ?_
 refine AllReadyH.cons (getOf (i:=4) rfl) (fun K' hK=>?_) ?_
 ·
  obtain⟨i0,hi,hz0,hz1,hz2⟩:=info_parts info_tu8
  refine step_append_full _ (by rfl) (.tmp 12) (.tmp 15) 25 (by rfl) B 5 i0 Tryz.underlying25 hi hz0 hz1 hz2 (.slice P0 n0 c0) (pl) (by rfl) (hlb.own (gs:=gs++lb) K (fun y hy=>List.mem_append_right _ hy)) _ A1 n1 c1 la (by rfl) (K.bs (A:=A1) (n:=n1) (xs:=la) (by simp)) hN1 (by first | omega | (simp only[List.length_append];omega)) (Nat.le_trans hBw Bl.size) ?_
  intro V1 w2 ho hb hg hv _
  obtain⟨lb1,hl1,K2⟩:=bbox_append (gs:=gs) (lb:=lb) K hlb ho hg hv
  have B2:=Bl.trans hb
  refine hK.out _ _ trivial (fun hH=>?_)
  clear hK K'
  try simp only[Act.put,List.setIfInBounds_toArray,List.set_cons_zero,List.set_cons_succ]
  exact fo2_ablm hf hlb hBw HB1 HB2 hpl hla hn1 hn2 hR hN1 hl1 _ (by kernel_rfl) K2 B2
 exact AllReadyH.nil
theorem fo2_al{A1:Option Addr}{c1:Nat}(hN1:A1=none→c1=0){w:World}(ls:Array Bool)(hl:ls=#[true,true,true,true,false,true,false,false,false,false])(K:EnvF w (bF A1 n1 la::fs) (gs++lb))(Bl:Below B w0 w) :
  wpAnyH Tryz.prog .any fo2ops.toArray (Exit.then KK fun _ _ _=>False) (fun _=>True) 5 ls { tmps:=#[v0,v1,.pointer (some ⟨gF,0,none⟩),v3,v4,.slice P0 n0 c0,v6,v7,v8,v9,x0,x1,.slice P0 n0 c0,.pointer (some ⟨gF,0,none⟩),.string fa,.slice A1 n1 c1,x6,.pointer (some ⟨gF,1,none⟩),x8,x9,y0],defers:=[] } w:=by
 subst hl
 refine wpAnyH_ready (rs:=[4,6]) (by as_aux_lemma=>kernel_rfl) (by simp) ?_
 refine AllReadyH.cons (getOf (i:=4) rfl) (fun K' hK=>?_) ?_
 ·
  obtain⟨i0,hi,hz0,hz1,hz2⟩:=info_parts info_tu8
  refine step_append_full _ (by rfl) (.tmp 12) (.tmp 15) 25 (by rfl) B 5 i0 Tryz.underlying25 hi hz0 hz1 hz2 (.slice P0 n0 c0) (pl) (by rfl) (hlb.own (gs:=gs++lb) K (fun y hy=>List.mem_append_right _ hy)) _ A1 n1 c1 la (by rfl) (K.bs (A:=A1) (n:=n1) (xs:=la) (by simp)) hN1 (by first | omega | (simp only[List.length_append];omega)) (Nat.le_trans hBw Bl.size) ?_
  intro V1 w2 ho hb hg hv _
  obtain⟨lb1,hl1,K2⟩:=bbox_append (gs:=gs) (lb:=lb) K hlb ho hg hv
  have B2:=Bl.trans hb
  refine hK.out _ _ trivial (fun hH=>?_)
  clear hK K'
  try simp only[Act.put,List.setIfInBounds_toArray,List.set_cons_zero,List.set_cons_succ]
  exact fo2_abl hf hlb hBw HB1 HB2 hpl hla hn1 hn2 hR hN1 hl1 _ (by kernel_rfl) K2 B2
 refine AllReadyH.cons (getOf (i:=6) rfl) (fun K' hK=>?_) ?_
 ·
  refine step_get (by rfl) 9 (.tmp 17) (by rfl) gF 1 (by rfl) 27 #[.string fa,.string fb] (.string fb) _ (K.row k (ixl hf)) (by rfl) Tryz.underlying9 (by rfl) ?_
  refine hK.out _ _ trivial (fun hH=>?_)
  clear hK K'
  try simp only[Act.put,List.setIfInBounds_toArray,List.set_cons_zero,List.set_cons_succ]
  exact fo2_alm hf hlb hBw HB1 HB2 hpl hla hn1 hn2 hR hN1 _ (by kernel_rfl) K Bl
 exact AllReadyH.nil
theorem fo2_lm{w:World}(ls:Array Bool)(hl:ls=#[true,true,true,false,false,true,true,false,false,false])(K:EnvF w (fs) (gs++lb))(Bl:Below B w0 w) :
  wpAnyH Tryz.prog .any fo2ops.toArray (Exit.then KK fun _ _ _=>False) (fun _=>True) 5 ls { tmps:=#[v0,v1,.pointer (some ⟨gF,0,none⟩),v3,v4,.slice P0 n0 c0,v6,v7,v8,v9,x0,x1,.slice P0 n0 c0,.pointer (some ⟨gF,0,none⟩),.string fa,x5,x6,.pointer (some ⟨gF,1,none⟩),.string fb,x9,y0],defers:=[] } w:=by
 subst hl
 refine wpAnyH_ready (rs:=[3]) (by as_aux_lemma=>kernel_rfl) (by simp) ?_
 refine AllReadyH.cons (getOf (i:=3) rfl) (fun K' hK=>?_) ?_
 ·
  go_simp
  go_at_call 51
  refine(HB1.out w).mono ?_
  rintro e w2 ⟨A1,c1,rfl,hh,hb⟩
  have K2:=K.handS hb hh
  have hN1:=hh.2.2.2
  have B2:=Bl.trans (hb.mono (Nat.le_trans hBw Bl.size))
  refine hK.out _ _ trivial (fun hH=>?_)
  clear hK K'
  try simp only[Act.put,List.setIfInBounds_toArray,List.set_cons_zero,List.set_cons_succ]
  exact fo2_alm hf hlb hBw HB1 HB2 hpl hla hn1 hn2 hR hN1 _ (by kernel_rfl) K2 B2
 exact AllReadyH.nil
theorem fo2_l{w:World}(ls:Array Bool)(hl:ls=#[true,true,true,false,false,true,false,false,false,false])(K:EnvF w (fs) (gs++lb))(Bl:Below B w0 w) :
  wpAnyH Tryz.prog .any fo2ops.toArray (Exit.then KK fun _ _ _=>False) (fun _=>True) 6 ls { tmps:=#[v0,v1,.pointer (some ⟨gF,0,none⟩),v3,v4,.slice P0 n0 c0,v6,v7,v8,v9,x0,x1,.slice P0 n0 c0,.pointer (some ⟨gF,0,none⟩),.string fa,x5,x6,.pointer (some ⟨gF,1,none⟩),x8,x9,y0],defers:=[] } w:=by
 subst hl
 refine wpAnyH_ready (rs:=[3,6]) (by as_aux_lemma=>kernel_rfl) (by simp) ?_
 refine AllReadyH.cons (getOf (i:=3) rfl) (fun K' hK=>?_) ?_
 ·
  go_simp
  go_at_call 51
  refine(HB1.out w).mono ?_
  rintro e w2 ⟨A1,c1,rfl,hh,hb⟩
  have K2:=K.handS hb hh
  have hN1:=hh.2.2.2
  have B2:=Bl.trans (hb.mono (Nat.le_trans hBw Bl.size))
  refine hK.out _ _ trivial (fun hH=>?_)
  clear hK K'
  try simp only[Act.put,List.setIfInBounds_toArray,List.set_cons_zero,List.set_cons_succ]
  exact fo2_al hf hlb hBw HB1 HB2 hpl hla hn1 hn2 hR hN1 _ (by kernel_rfl) K2 B2
 refine AllReadyH.cons (getOf (i:=6) rfl) (fun K' hK=>?_) ?_
 ·
  refine step_get (by rfl) 9 (.tmp 17) (by rfl) gF 1 (by rfl) 27 #[.string fa,.string fb] (.string fb) _ (K.row k (ixl hf)) (by rfl) Tryz.underlying9 (by rfl) ?_
  refine hK.out _ _ trivial (fun hH=>?_)
  clear hK K'
  try simp only[Act.put,List.setIfInBounds_toArray,List.set_cons_zero,List.set_cons_succ]
  exact fo2_lm hf hlb hBw HB1 HB2 hpl hla hn1 hn2 hR _ (by kernel_rfl) K Bl
 exact AllReadyH.nil
theorem fo2_m{w:World}(ls:Array Bool)(hl:ls=#[true,true,false,false,false,true,true,false,false,false])(K:EnvF w (fs) (gs++lb))(Bl:Below B w0 w) :
  wpAnyH Tryz.prog .any fo2ops.toArray (Exit.then KK fun _ _ _=>False) (fun _=>True) 6 ls { tmps:=#[v0,v1,.pointer (some ⟨gF,0,none⟩),v3,v4,.slice P0 n0 c0,v6,v7,v8,v9,x0,x1,.slice P0 n0 c0,.pointer (some ⟨gF,0,none⟩),x4,x5,x6,.pointer (some ⟨gF,1,none⟩),.string fb,x9,y0],defers:=[] } w:=by
 subst hl
 refine wpAnyH_ready (rs:=[2]) (by as_aux_lemma=>kernel_rfl) (by simp) ?_
 refine AllReadyH.cons (getOf (i:=2) rfl) (fun K' hK=>?_) ?_
 ·
  refine step_get (by rfl) 9 (.tmp 13) (by rfl) gF 0 (by rfl) 27 #[.string fa,.string fb] (.string fa) _ (K.row k (ixl hf)) (by rfl) Tryz.underlying9 (by rfl) ?_
  refine hK.out _ _ trivial (fun hH=>?_)
  clear hK K'
  try simp only[Act.put,List.setIfInBounds_toArray,List.set_cons_zero,List.set_cons_succ]
  exact fo2_lm hf hlb hBw HB1 HB2 hpl hla hn1 hn2 hR _ (by kernel_rfl) K Bl
 exact AllReadyH.nil
theorem fo2_0{w:World}(ls:Array Bool)(hl:ls=#[true,true,false,false,false,true,false,false,false,false])(K:EnvF w (fs) (gs++lb))(Bl:Below B w0 w) :
  wpAnyH Tryz.prog .any fo2ops.toArray (Exit.then KK fun _ _ _=>False) (fun _=>True) 7 ls { tmps:=#[v0,v1,.pointer (some ⟨gF,0,none⟩),v3,v4,.slice P0 n0 c0,v6,v7,v8,v9,x0,x1,.slice P0 n0 c0,.pointer (some ⟨gF,0,none⟩),x4,x5,x6,.pointer (some ⟨gF,1,none⟩),x8,x9,y0],defers:=[] } w:=by
 subst hl
 refine wpAnyH_ready (rs:=[2,6]) (by as_aux_lemma=>kernel_rfl) (by simp) ?_
 refine AllReadyH.cons (getOf (i:=2) rfl) (fun K' hK=>?_) ?_
 ·
  refine step_get (by rfl) 9 (.tmp 13) (by rfl) gF 0 (by rfl) 27 #[.string fa,.string fb] (.string fa) _ (K.row k (ixl hf)) (by rfl) Tryz.underlying9 (by rfl) ?_
  refine hK.out _ _ trivial (fun hH=>?_)
  clear hK K'
  try simp only[Act.put,List.setIfInBounds_toArray,List.set_cons_zero,List.set_cons_succ]
  exact fo2_l hf hlb hBw HB1 HB2 hpl hla hn1 hn2 hR _ (by kernel_rfl) K Bl
 refine AllReadyH.cons (getOf (i:=6) rfl) (fun K' hK=>?_) ?_
 ·
  refine step_get (by rfl) 9 (.tmp 17) (by rfl) gF 1 (by rfl) 27 #[.string fa,.string fb] (.string fb) _ (K.row k (ixl hf)) (by rfl) Tryz.underlying9 (by rfl) ?_
  refine hK.out _ _ trivial (fun hH=>?_)
  clear hK K'
  try simp only[Act.put,List.setIfInBounds_toArray,List.set_cons_zero,List.set_cons_succ]
  exact fo2_m hf hlb hBw HB1 HB2 hpl hla hn1 hn2 hR _ (by kernel_rfl) K Bl
 exact AllReadyH.nil
end
theorem fo2_region{w w0:World}{fs:List Fact}{gs lb:List Bx}{P0:Option Addr}{n0 c0 n1 n2 gF k B:Nat}{fa fb:ByteArray}{pl la lz:List UInt8}{v0 v1 v3 v4 v6 v7 v8 v9 x0 x1 x2 x3 x4 x5 x6 x7 x8 x9 y0:Value}{KK:Act→World→Prop}{Q:Exit→Act→World→Prop}(hf:gs[k]? = some (gF,#[.string fa,.string fb],27))(hlb:BBox B (.slice P0 n0 c0) pl lb)(hBw:B≤w0.heap.size)(HB1:Hid (∀W:World,Calls Tryz.prog 51 #[.string fa] W fun e w'=>∃A c,e = .returned (.slice A n1 c)∧HandS w' W.heap.size A n1 c la∧Below W.heap.size W w'))(HB2:Hid (∀W:World,Calls Tryz.prog 51 #[.string fb] W fun e w'=>∃A c,e = .returned (.slice A n2 c)∧HandS w' W.heap.size A n2 c lz∧Below W.heap.size W w'))(hpl:pl.length≤10)(hla:la.length≤20000)(hn1:n1≤20000)(hn2:n2≤20000)(hR : ∀(A1 A2:Option Addr) (c1 c2:Nat) (V1 V2:Value) (lb2:List Bx) (w:World),EnvF w (bF A2 n2 lz::bF A1 n1 la::fs) (gs++lb2)→BBox B V2 (pl++la++lz) lb2→Below B w0 w→KK { tmps:=#[v0,v1,.pointer (some ⟨gF,0,none⟩),v3,V2,.slice P0 n0 c0,v6,v7,v8,v9,x0,x1,.slice P0 n0 c0,.pointer (some ⟨gF,0,none⟩),.string fa,.slice A1 n1 c1,V1,.pointer (some ⟨gF,1,none⟩),.string fb,.slice A2 n2 c2,V2],defers:=[] } w)(K:EnvF w (fs) (gs++lb))(Bl:Below B w0 w) :
  (Code.region 2 fo2ops.toArray true).wp Tryz.prog (Exit.then KK Q) { tmps:=#[v0,v1,.pointer (some ⟨gF,0,none⟩),v3,v4,.slice P0 n0 c0,v6,v7,v8,v9,x0,x1,x2,x3,x4,x5,x6,x7,x8,x9,y0],defers:=[] } w:=by
 refine Code.wp_mono (Q:=Exit.then KK fun _ _ _=>False) (fun e a w h=>by cases e<;>first | exact h | exact h.elim) ?_
 refine wp_region_held_drew (S:=(fun _=>True)) (by kernel_rfl) trivial (fun hH=>?_)
 refine takeD (i:=0) (v:=?_) rfl (by as_aux_lemma=>kernel_rfl) (by as_aux_lemma=>kernel_rfl) (by as_aux_lemma=>kernel_rfl) (fun _ _ _ h=>h) (Or.inl ⟨by rfl,?_⟩) hH ?_
 rotate_left
 ·intro w hSw;(try dsimp only at hSw);go_simp<;>with_reducible rfl
 try simp only[Act.put,List.setIfInBounds_toArray,List.set_cons_zero,List.set_cons_succ]
 refine takeD (i:=1) (v:=?_) rfl (by as_aux_lemma=>kernel_rfl) (by as_aux_lemma=>kernel_rfl) (by as_aux_lemma=>kernel_rfl) (fun _ _ _ h=>h) (Or.inl ⟨by rfl,?_⟩) hH ?_
 rotate_left
 ·intro w hSw;(try dsimp only at hSw);go_simp<;>with_reducible rfl
 try simp only[Act.put,List.setIfInBounds_toArray,List.set_cons_zero,List.set_cons_succ]
 refine takeD (i:=5) (v:=?_) rfl (by as_aux_lemma=>kernel_rfl) (by as_aux_lemma=>kernel_rfl) (by as_aux_lemma=>kernel_rfl) (fun _ _ _ h=>h) (Or.inl ⟨by rfl,?_⟩) hH ?_
 rotate_left
 ·intro w hSw;(try dsimp only at hSw);go_simp<;>with_reducible rfl
 try simp only[Act.put,List.setIfInBounds_toArray,List.set_cons_zero,List.set_cons_succ]
 exact fo2_0 hf hlb hBw HB1 HB2 hpl hla hn1 hn2 hR _ (by kernel_rfl) K.drew Bl.drew
end Go.Proofs.YtahiajeggbpogaaGreatDoor
