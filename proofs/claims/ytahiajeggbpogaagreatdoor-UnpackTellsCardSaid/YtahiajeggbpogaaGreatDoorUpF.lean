import Derived.Test.YtahiajeggbpogaaGreatDoorUpE
set_option maxRecDepth 100000
set_option maxHeartbeats 40000000
namespace Go.Proofs.YtahiajeggbpogaaGreatDoor
open Go.RowKit Go.ChangeMaps Px Tx Tb Up
set_option linter.unusedVariables false
set_option linter.unusedSimpArgs false
set_option linter.unusedSectionVars false
theorem EnvF.grow{w w':World}{fs:List Fact}{gs:List Bx}{row:Option Nat}(h:EnvF w fs gs)(hg:w.grownBy w' row)(hr : ∀r,row=some r→w.heap.size≤r):EnvF w' fs gs:=
 h.on ⟨hg.os,hg.tape,hg.output,hg.size,fun k hk=>hg.block k hk (fun e=>by have:=hr k e.symm;omega)⟩
theorem below_of_grown{w w':World}{r:Nat}(hg:w.grownBy w' (some r))(hr:w.heap.size≤r):Below w.heap.size w w':=
 ⟨hg.os,hg.tape,hg.output,hg.size,fun k hk=>hg.block k hk (fun e=>by cases e;omega)⟩
theorem step_ins{ops:Array Oper}{w w2:World}{o:Oper}{a:Act}{K:Act→World→Prop}{Q:Exit→Act→World→Prop}{E:Prop}{b:Nat}{S:Nat→Bool}(j:Nat)(hj:j<5)(hS:S j=false)(hgd:o.guard=none)(m x v:Operand)
  (ho:o.op = .insert 62 m x v) (hM:MapS w b S) (hG:w2.grownBy w (some b)) (hm:a.eval m = .map (some b)) (hx:a.eval x=(ent j).1) (hv:a.eval v=(ent j).2)
  (h : ∀w',MapS w' b (fun x=>x==j||S x)→w2.grownBy w' (some b)→K (a.put o.dst undef) w'):if Region.wanted o (yielded ops a.tmps)=true then Oper.wp Tryz.prog o a w K Q else E:=by
 obtain⟨w',h1,h2,h3⟩:=hM.update j hj hS
 exact step_insert_run hgd _ m x v ho _ _ _ h1 hm hx hv (h w' h2 (gb_trans hG h3))
theorem wp_to{P:Program}{c:Code}{K:Act→World→Prop}{Q:Exit→Act→World→Prop}{a:Act}{w:World}(R:Act→World→Prop)(h:c.wp P (Exit.then R fun _ _ _=>False) a w)(k : ∀a w,R a w→K a w):c.wp P (Exit.then K Q) a w:=
 Code.wp_mono (fun e a w h=>by
  cases e with
  | normal=>exact k _ _ h
  | _=>exact h.elim) h
namespace Up
theorem MapS.ext{w:World}{b:Nat}{S S':Nat→Bool}(h:MapS w b S)(e : ∀j,j<5→S j=S' j):MapS w b S':=by
 obtain⟨l,hm,hl⟩:=h
 refine⟨l,hm,fun p=>(hl p).trans ?_⟩
 constructor
 ·rintro ⟨j,hj,h1,h2⟩;exact⟨j,hj,(e j hj) ▸ h1,h2⟩
 ·rintro ⟨j,hj,h1,h2⟩;exact⟨j,hj,(e j hj).symm ▸ h1,h2⟩
noncomputable def usops:List Oper:=GD.opsOf 4 (Tryz.f39.body.getD .skip)
def usF0(M most:Int)(A:Option Addr)(n c:Nat)(LA:Option Addr)(ln lc g3 g8:Nat)(A1:Option Addr)(c1 b:Nat):Act:={ tmps:=#[.agg #[.int .i64 M,.slice A n c],.int .i64 most,.slice LA ln lc,.pointer (some ⟨g3,0,none⟩),undef,undef,.pointer none,.int .i64 0,.pointer (some ⟨g8,0,none⟩),.int .i64 0,.tuple #[.agg #[.int .i64 M,.slice A1 n c1],.int .i64 0],.agg #[.int .i64 M,.slice A n c],.pointer (some ⟨g3,0,none⟩),.int .i64 M,.tuple #[.agg #[.int .i64 M,.slice A1 n c1],.int .i64 0],.agg #[.int .i64 M,.slice A1 n c1],.int .i64 0,.int .i64 0,.bool false,.bool false,.int .i64 most,.bool false,.bool false,.bool false,.int .i64 most,.bool false,.bool false,undef,undef,undef,undef,undef,undef,undef,undef,undef,undef,undef,undef],defers:=[] }
def usF1(M most:Int)(A:Option Addr)(n c:Nat)(LA:Option Addr)(ln lc g3 g8:Nat)(A1:Option Addr)(c1 b:Nat):Act:={ tmps:=#[.agg #[.int .i64 M,.slice A n c],.int .i64 most,.slice LA ln lc,.pointer (some ⟨g3,0,none⟩),undef,undef,.pointer none,.int .i64 0,.pointer (some ⟨g8,0,none⟩),.int .i64 0,.tuple #[.agg #[.int .i64 M,.slice A1 n c1],.int .i64 0],.agg #[.int .i64 M,.slice A n c],.pointer (some ⟨g3,0,none⟩),.int .i64 M,.tuple #[.agg #[.int .i64 M,.slice A1 n c1],.int .i64 0],.agg #[.int .i64 M,.slice A1 n c1],.int .i64 0,.int .i64 0,.bool false,.bool false,.int .i64 most,.bool false,.bool false,.bool false,.int .i64 most,.bool false,.bool false,.map (some b),.agg #[.int .u8 1,.int .u8 1],.agg #[.int .u8 2,.int .u8 1],.agg #[.int .u8 3,.int .u8 1],.agg #[.int .u8 4,.int .u8 1],.agg #[.int .u8 4,.int .u8 0],undef,.int .i64 most,.agg #[.int .i64 M,.slice A1 n c1],.slice LA ln lc,undef,undef],defers:=[] }
def usF2(M most:Int)(A:Option Addr)(n c:Nat)(LA:Option Addr)(ln lc g3 g8:Nat)(A1:Option Addr)(c1 b:Nat)(g:Nat):Act:={ tmps:=#[.agg #[.int .i64 M,.slice A n c],.int .i64 most,.slice LA ln lc,.pointer (some ⟨g3,0,none⟩),undef,undef,.pointer (some ⟨g,0,none⟩),.int .i64 0,.pointer (some ⟨g8,0,none⟩),.int .i64 0,.tuple #[.agg #[.int .i64 M,.slice A1 n c1],.int .i64 0],.agg #[.int .i64 M,.slice A n c],.pointer (some ⟨g3,0,none⟩),.int .i64 M,.tuple #[.agg #[.int .i64 M,.slice A1 n c1],.int .i64 0],.agg #[.int .i64 M,.slice A1 n c1],.int .i64 0,.int .i64 0,.bool false,.bool false,.int .i64 most,.bool false,.bool false,.bool false,.int .i64 most,.bool false,.bool false,.map (some b),.agg #[.int .u8 1,.int .u8 1],.agg #[.int .u8 2,.int .u8 1],.agg #[.int .u8 3,.int .u8 1],.agg #[.int .u8 4,.int .u8 1],.agg #[.int .u8 4,.int .u8 0],.map (some b),.int .i64 most,.agg #[.int .i64 M,.slice A1 n c1],.slice LA ln lc,.agg (rdc b most M A1 n c1 LA ln lc),.pointer (some ⟨g,0,none⟩)],defers:=[] }
end Up
section
variable {w0:World}{M most:Int}{A:Option Addr}{n c:Nat}{LA:Option Addr}{ln lc g3 g8:Nat}{A1:Option Addr}{c1 b:Nat}{KK:Act→World→Prop}(hR : ∀wz,Knd wz b→w0.grownBy wz (some b)→KK (usF2 M most A n c LA ln lc g3 g8 A1 c1 b wz.heap.size) (wz.alloc (.cells (rdc b most M A1 n c1 LA ln lc) 64)))
include hR
theorem us_01234{w:World}(ls:Array Bool)(hl:ls=#[true,true,true,true,true,true,true,true,true,true,true,false,true,true,true,false,false,false,false])(hM:MapS w b (fun x=>x==0||x==1||x==2||x==3||x==4||false))(hG:w0.grownBy w (some b)) :
  wpAnyH Tryz.prog .any usops.toArray (Exit.then KK fun _ _ _=>False) (fun W'=>w0.grownBy W' (some b)) 5 ls (usF1 M most A n c LA ln lc g3 g8 A1 c1 b) w:=by
 subst hl
 have hH:=hG
 unfold usF1
 refine GD.takeD (i:=11) (v:=?_) rfl (by as_aux_lemma=>kernel_rfl) (by as_aux_lemma=>kernel_rfl) (by as_aux_lemma=>kernel_rfl) (fun _ _ _ h=>h) (Or.inl ⟨by rfl,?_⟩) hH ?_
 rotate_left
 ·intro w hSw;(try dsimp only at hSw);go_simp<;>with_reducible rfl
 try simp only[Act.put,List.setIfInBounds_toArray,List.set_cons_zero,List.set_cons_succ]
 refine GD.takeD (i:=15) (v:=?_) rfl (by as_aux_lemma=>kernel_rfl) (by as_aux_lemma=>kernel_rfl) (by as_aux_lemma=>kernel_rfl) (fun _ _ _ h=>h) (Or.inl ⟨by rfl,?_⟩) hH ?_
 rotate_left
 ·intro w hSw;(try dsimp only at hSw);go_simp<;>with_reducible rfl
 try simp only[Act.put,List.setIfInBounds_toArray,List.set_cons_zero,List.set_cons_succ]
 refine GD.readyD (i:=16) rfl (by as_aux_lemma=>kernel_rfl) (fun K' hK=>?_)
 go_simp
 refine hK.out _ _ (gb_alloc hG _) (fun hH=>?_)
 clear hK K'
 try simp only[Act.put,List.setIfInBounds_toArray,List.set_cons_zero,List.set_cons_succ]
 refine GD.takeD (i:=17) (v:=?_) rfl (by as_aux_lemma=>kernel_rfl) (by as_aux_lemma=>kernel_rfl) (by as_aux_lemma=>kernel_rfl) (fun _ _ _ h=>h) (Or.inl ⟨by rfl,?_⟩) hH ?_
 rotate_left
 ·intro w hSw;(try dsimp only at hSw);go_simp<;>with_reducible rfl
 try simp only[Act.put,List.setIfInBounds_toArray,List.set_cons_zero,List.set_cons_succ]
 refine GD.takeD (i:=18) (v:=?_) rfl (by as_aux_lemma=>kernel_rfl) (by as_aux_lemma=>kernel_rfl) (by as_aux_lemma=>kernel_rfl) (fun _ _ _ h=>h) (Or.inl ⟨by rfl,?_⟩) hH ?_
 rotate_left
 ·intro w hSw;(try dsimp only at hSw);go_simp<;>with_reducible rfl
 try simp only[Act.put,List.setIfInBounds_toArray,List.set_cons_zero,List.set_cons_succ]
 refine wpAnyH_done (by as_aux_lemma=>kernel_rfl) ?_ _
 exact hR w (hM.all (by decide)) hG
theorem us_0123{w:World}(ls:Array Bool)(hl:ls=#[true,true,true,true,true,true,true,true,true,true,false,false,true,true,true,false,false,false,false])(hM:MapS w b (fun x=>x==0||x==1||x==2||x==3||false))(hG:w0.grownBy w (some b)) :
  wpAnyH Tryz.prog .any usops.toArray (Exit.then KK fun _ _ _=>False) (fun W'=>w0.grownBy W' (some b)) 6 ls (usF1 M most A n c LA ln lc g3 g8 A1 c1 b) w:=by
 subst hl
 refine wpAnyH_ready (rs:=[10]) (by as_aux_lemma=>kernel_rfl) (by simp) ?_
 refine AllReadyH.cons (GD.getOf (i:=10) rfl) (fun K' hK=>?_) ?_
 ·refine step_ins 4 (by omega) (by rfl) (by rfl) (.tmp 27) (.tmp 32) (.const (.int .u8 4)) (by rfl) hM hG (by rfl) (by rfl) (by rfl) ?_
  intro W' hM' hG'
  exact hK.out _ _ hG' (fun _=>us_01234 hR _ (by kernel_rfl) (hM'.ext (by decide)) hG')
 exact AllReadyH.nil
theorem us_0124{w:World}(ls:Array Bool)(hl:ls=#[true,true,true,true,true,true,true,true,false,true,true,false,true,true,true,false,false,false,false])(hM:MapS w b (fun x=>x==0||x==1||x==2||x==4||false))(hG:w0.grownBy w (some b)) :
  wpAnyH Tryz.prog .any usops.toArray (Exit.then KK fun _ _ _=>False) (fun W'=>w0.grownBy W' (some b)) 6 ls (usF1 M most A n c LA ln lc g3 g8 A1 c1 b) w:=by
 subst hl
 refine wpAnyH_ready (rs:=[8]) (by as_aux_lemma=>kernel_rfl) (by simp) ?_
 refine AllReadyH.cons (GD.getOf (i:=8) rfl) (fun K' hK=>?_) ?_
 ·refine step_ins 3 (by omega) (by rfl) (by rfl) (.tmp 27) (.tmp 31) (.const (.int .u8 4)) (by rfl) hM hG (by rfl) (by rfl) (by rfl) ?_
  intro W' hM' hG'
  exact hK.out _ _ hG' (fun _=>us_01234 hR _ (by kernel_rfl) (hM'.ext (by decide)) hG')
 exact AllReadyH.nil
theorem us_0134{w:World}(ls:Array Bool)(hl:ls=#[true,true,true,true,true,true,false,true,true,true,true,false,true,true,true,false,false,false,false])(hM:MapS w b (fun x=>x==0||x==1||x==3||x==4||false))(hG:w0.grownBy w (some b)) :
  wpAnyH Tryz.prog .any usops.toArray (Exit.then KK fun _ _ _=>False) (fun W'=>w0.grownBy W' (some b)) 6 ls (usF1 M most A n c LA ln lc g3 g8 A1 c1 b) w:=by
 subst hl
 refine wpAnyH_ready (rs:=[6]) (by as_aux_lemma=>kernel_rfl) (by simp) ?_
 refine AllReadyH.cons (GD.getOf (i:=6) rfl) (fun K' hK=>?_) ?_
 ·refine step_ins 2 (by omega) (by rfl) (by rfl) (.tmp 27) (.tmp 30) (.const (.int .u8 3)) (by rfl) hM hG (by rfl) (by rfl) (by rfl) ?_
  intro W' hM' hG'
  exact hK.out _ _ hG' (fun _=>us_01234 hR _ (by kernel_rfl) (hM'.ext (by decide)) hG')
 exact AllReadyH.nil
theorem us_0234{w:World}(ls:Array Bool)(hl:ls=#[true,true,true,true,false,true,true,true,true,true,true,false,true,true,true,false,false,false,false])(hM:MapS w b (fun x=>x==0||x==2||x==3||x==4||false))(hG:w0.grownBy w (some b)) :
  wpAnyH Tryz.prog .any usops.toArray (Exit.then KK fun _ _ _=>False) (fun W'=>w0.grownBy W' (some b)) 6 ls (usF1 M most A n c LA ln lc g3 g8 A1 c1 b) w:=by
 subst hl
 refine wpAnyH_ready (rs:=[4]) (by as_aux_lemma=>kernel_rfl) (by simp) ?_
 refine AllReadyH.cons (GD.getOf (i:=4) rfl) (fun K' hK=>?_) ?_
 ·refine step_ins 1 (by omega) (by rfl) (by rfl) (.tmp 27) (.tmp 29) (.const (.int .u8 2)) (by rfl) hM hG (by rfl) (by rfl) (by rfl) ?_
  intro W' hM' hG'
  exact hK.out _ _ hG' (fun _=>us_01234 hR _ (by kernel_rfl) (hM'.ext (by decide)) hG')
 exact AllReadyH.nil
theorem us_1234{w:World}(ls:Array Bool)(hl:ls=#[true,true,false,true,true,true,true,true,true,true,true,false,true,true,true,false,false,false,false])(hM:MapS w b (fun x=>x==1||x==2||x==3||x==4||false))(hG:w0.grownBy w (some b)) :
  wpAnyH Tryz.prog .any usops.toArray (Exit.then KK fun _ _ _=>False) (fun W'=>w0.grownBy W' (some b)) 6 ls (usF1 M most A n c LA ln lc g3 g8 A1 c1 b) w:=by
 subst hl
 refine wpAnyH_ready (rs:=[2]) (by as_aux_lemma=>kernel_rfl) (by simp) ?_
 refine AllReadyH.cons (GD.getOf (i:=2) rfl) (fun K' hK=>?_) ?_
 ·refine step_ins 0 (by omega) (by rfl) (by rfl) (.tmp 27) (.tmp 28) (.const (.int .u8 1)) (by rfl) hM hG (by rfl) (by rfl) (by rfl) ?_
  intro W' hM' hG'
  exact hK.out _ _ hG' (fun _=>us_01234 hR _ (by kernel_rfl) (hM'.ext (by decide)) hG')
 exact AllReadyH.nil
theorem us_012{w:World}(ls:Array Bool)(hl:ls=#[true,true,true,true,true,true,true,true,false,true,false,false,true,true,true,false,false,false,false])(hM:MapS w b (fun x=>x==0||x==1||x==2||false))(hG:w0.grownBy w (some b)) :
  wpAnyH Tryz.prog .any usops.toArray (Exit.then KK fun _ _ _=>False) (fun W'=>w0.grownBy W' (some b)) 7 ls (usF1 M most A n c LA ln lc g3 g8 A1 c1 b) w:=by
 subst hl
 refine wpAnyH_ready (rs:=[8,10]) (by as_aux_lemma=>kernel_rfl) (by simp) ?_
 refine AllReadyH.cons (GD.getOf (i:=8) rfl) (fun K' hK=>?_) ?_
 ·refine step_ins 3 (by omega) (by rfl) (by rfl) (.tmp 27) (.tmp 31) (.const (.int .u8 4)) (by rfl) hM hG (by rfl) (by rfl) (by rfl) ?_
  intro W' hM' hG'
  exact hK.out _ _ hG' (fun _=>us_0123 hR _ (by kernel_rfl) (hM'.ext (by decide)) hG')
 refine AllReadyH.cons (GD.getOf (i:=10) rfl) (fun K' hK=>?_) ?_
 ·refine step_ins 4 (by omega) (by rfl) (by rfl) (.tmp 27) (.tmp 32) (.const (.int .u8 4)) (by rfl) hM hG (by rfl) (by rfl) (by rfl) ?_
  intro W' hM' hG'
  exact hK.out _ _ hG' (fun _=>us_0124 hR _ (by kernel_rfl) (hM'.ext (by decide)) hG')
 exact AllReadyH.nil
theorem us_013{w:World}(ls:Array Bool)(hl:ls=#[true,true,true,true,true,true,false,true,true,true,false,false,true,true,true,false,false,false,false])(hM:MapS w b (fun x=>x==0||x==1||x==3||false))(hG:w0.grownBy w (some b)) :
  wpAnyH Tryz.prog .any usops.toArray (Exit.then KK fun _ _ _=>False) (fun W'=>w0.grownBy W' (some b)) 7 ls (usF1 M most A n c LA ln lc g3 g8 A1 c1 b) w:=by
 subst hl
 refine wpAnyH_ready (rs:=[6,10]) (by as_aux_lemma=>kernel_rfl) (by simp) ?_
 refine AllReadyH.cons (GD.getOf (i:=6) rfl) (fun K' hK=>?_) ?_
 ·refine step_ins 2 (by omega) (by rfl) (by rfl) (.tmp 27) (.tmp 30) (.const (.int .u8 3)) (by rfl) hM hG (by rfl) (by rfl) (by rfl) ?_
  intro W' hM' hG'
  exact hK.out _ _ hG' (fun _=>us_0123 hR _ (by kernel_rfl) (hM'.ext (by decide)) hG')
 refine AllReadyH.cons (GD.getOf (i:=10) rfl) (fun K' hK=>?_) ?_
 ·refine step_ins 4 (by omega) (by rfl) (by rfl) (.tmp 27) (.tmp 32) (.const (.int .u8 4)) (by rfl) hM hG (by rfl) (by rfl) (by rfl) ?_
  intro W' hM' hG'
  exact hK.out _ _ hG' (fun _=>us_0134 hR _ (by kernel_rfl) (hM'.ext (by decide)) hG')
 exact AllReadyH.nil
theorem us_014{w:World}(ls:Array Bool)(hl:ls=#[true,true,true,true,true,true,false,true,false,true,true,false,true,true,true,false,false,false,false])(hM:MapS w b (fun x=>x==0||x==1||x==4||false))(hG:w0.grownBy w (some b)) :
  wpAnyH Tryz.prog .any usops.toArray (Exit.then KK fun _ _ _=>False) (fun W'=>w0.grownBy W' (some b)) 7 ls (usF1 M most A n c LA ln lc g3 g8 A1 c1 b) w:=by
 subst hl
 refine wpAnyH_ready (rs:=[6,8]) (by as_aux_lemma=>kernel_rfl) (by simp) ?_
 refine AllReadyH.cons (GD.getOf (i:=6) rfl) (fun K' hK=>?_) ?_
 ·refine step_ins 2 (by omega) (by rfl) (by rfl) (.tmp 27) (.tmp 30) (.const (.int .u8 3)) (by rfl) hM hG (by rfl) (by rfl) (by rfl) ?_
  intro W' hM' hG'
  exact hK.out _ _ hG' (fun _=>us_0124 hR _ (by kernel_rfl) (hM'.ext (by decide)) hG')
 refine AllReadyH.cons (GD.getOf (i:=8) rfl) (fun K' hK=>?_) ?_
 ·refine step_ins 3 (by omega) (by rfl) (by rfl) (.tmp 27) (.tmp 31) (.const (.int .u8 4)) (by rfl) hM hG (by rfl) (by rfl) (by rfl) ?_
  intro W' hM' hG'
  exact hK.out _ _ hG' (fun _=>us_0134 hR _ (by kernel_rfl) (hM'.ext (by decide)) hG')
 exact AllReadyH.nil
theorem us_023{w:World}(ls:Array Bool)(hl:ls=#[true,true,true,true,false,true,true,true,true,true,false,false,true,true,true,false,false,false,false])(hM:MapS w b (fun x=>x==0||x==2||x==3||false))(hG:w0.grownBy w (some b)) :
  wpAnyH Tryz.prog .any usops.toArray (Exit.then KK fun _ _ _=>False) (fun W'=>w0.grownBy W' (some b)) 7 ls (usF1 M most A n c LA ln lc g3 g8 A1 c1 b) w:=by
 subst hl
 refine wpAnyH_ready (rs:=[4,10]) (by as_aux_lemma=>kernel_rfl) (by simp) ?_
 refine AllReadyH.cons (GD.getOf (i:=4) rfl) (fun K' hK=>?_) ?_
 ·refine step_ins 1 (by omega) (by rfl) (by rfl) (.tmp 27) (.tmp 29) (.const (.int .u8 2)) (by rfl) hM hG (by rfl) (by rfl) (by rfl) ?_
  intro W' hM' hG'
  exact hK.out _ _ hG' (fun _=>us_0123 hR _ (by kernel_rfl) (hM'.ext (by decide)) hG')
 refine AllReadyH.cons (GD.getOf (i:=10) rfl) (fun K' hK=>?_) ?_
 ·refine step_ins 4 (by omega) (by rfl) (by rfl) (.tmp 27) (.tmp 32) (.const (.int .u8 4)) (by rfl) hM hG (by rfl) (by rfl) (by rfl) ?_
  intro W' hM' hG'
  exact hK.out _ _ hG' (fun _=>us_0234 hR _ (by kernel_rfl) (hM'.ext (by decide)) hG')
 exact AllReadyH.nil
theorem us_024{w:World}(ls:Array Bool)(hl:ls=#[true,true,true,true,false,true,true,true,false,true,true,false,true,true,true,false,false,false,false])(hM:MapS w b (fun x=>x==0||x==2||x==4||false))(hG:w0.grownBy w (some b)) :
  wpAnyH Tryz.prog .any usops.toArray (Exit.then KK fun _ _ _=>False) (fun W'=>w0.grownBy W' (some b)) 7 ls (usF1 M most A n c LA ln lc g3 g8 A1 c1 b) w:=by
 subst hl
 refine wpAnyH_ready (rs:=[4,8]) (by as_aux_lemma=>kernel_rfl) (by simp) ?_
 refine AllReadyH.cons (GD.getOf (i:=4) rfl) (fun K' hK=>?_) ?_
 ·refine step_ins 1 (by omega) (by rfl) (by rfl) (.tmp 27) (.tmp 29) (.const (.int .u8 2)) (by rfl) hM hG (by rfl) (by rfl) (by rfl) ?_
  intro W' hM' hG'
  exact hK.out _ _ hG' (fun _=>us_0124 hR _ (by kernel_rfl) (hM'.ext (by decide)) hG')
 refine AllReadyH.cons (GD.getOf (i:=8) rfl) (fun K' hK=>?_) ?_
 ·refine step_ins 3 (by omega) (by rfl) (by rfl) (.tmp 27) (.tmp 31) (.const (.int .u8 4)) (by rfl) hM hG (by rfl) (by rfl) (by rfl) ?_
  intro W' hM' hG'
  exact hK.out _ _ hG' (fun _=>us_0234 hR _ (by kernel_rfl) (hM'.ext (by decide)) hG')
 exact AllReadyH.nil
theorem us_034{w:World}(ls:Array Bool)(hl:ls=#[true,true,true,true,false,true,false,true,true,true,true,false,true,true,true,false,false,false,false])(hM:MapS w b (fun x=>x==0||x==3||x==4||false))(hG:w0.grownBy w (some b)) :
  wpAnyH Tryz.prog .any usops.toArray (Exit.then KK fun _ _ _=>False) (fun W'=>w0.grownBy W' (some b)) 7 ls (usF1 M most A n c LA ln lc g3 g8 A1 c1 b) w:=by
 subst hl
 refine wpAnyH_ready (rs:=[4,6]) (by as_aux_lemma=>kernel_rfl) (by simp) ?_
 refine AllReadyH.cons (GD.getOf (i:=4) rfl) (fun K' hK=>?_) ?_
 ·refine step_ins 1 (by omega) (by rfl) (by rfl) (.tmp 27) (.tmp 29) (.const (.int .u8 2)) (by rfl) hM hG (by rfl) (by rfl) (by rfl) ?_
  intro W' hM' hG'
  exact hK.out _ _ hG' (fun _=>us_0134 hR _ (by kernel_rfl) (hM'.ext (by decide)) hG')
 refine AllReadyH.cons (GD.getOf (i:=6) rfl) (fun K' hK=>?_) ?_
 ·refine step_ins 2 (by omega) (by rfl) (by rfl) (.tmp 27) (.tmp 30) (.const (.int .u8 3)) (by rfl) hM hG (by rfl) (by rfl) (by rfl) ?_
  intro W' hM' hG'
  exact hK.out _ _ hG' (fun _=>us_0234 hR _ (by kernel_rfl) (hM'.ext (by decide)) hG')
 exact AllReadyH.nil
theorem us_123{w:World}(ls:Array Bool)(hl:ls=#[true,true,false,true,true,true,true,true,true,true,false,false,true,true,true,false,false,false,false])(hM:MapS w b (fun x=>x==1||x==2||x==3||false))(hG:w0.grownBy w (some b)) :
  wpAnyH Tryz.prog .any usops.toArray (Exit.then KK fun _ _ _=>False) (fun W'=>w0.grownBy W' (some b)) 7 ls (usF1 M most A n c LA ln lc g3 g8 A1 c1 b) w:=by
 subst hl
 refine wpAnyH_ready (rs:=[2,10]) (by as_aux_lemma=>kernel_rfl) (by simp) ?_
 refine AllReadyH.cons (GD.getOf (i:=2) rfl) (fun K' hK=>?_) ?_
 ·refine step_ins 0 (by omega) (by rfl) (by rfl) (.tmp 27) (.tmp 28) (.const (.int .u8 1)) (by rfl) hM hG (by rfl) (by rfl) (by rfl) ?_
  intro W' hM' hG'
  exact hK.out _ _ hG' (fun _=>us_0123 hR _ (by kernel_rfl) (hM'.ext (by decide)) hG')
 refine AllReadyH.cons (GD.getOf (i:=10) rfl) (fun K' hK=>?_) ?_
 ·refine step_ins 4 (by omega) (by rfl) (by rfl) (.tmp 27) (.tmp 32) (.const (.int .u8 4)) (by rfl) hM hG (by rfl) (by rfl) (by rfl) ?_
  intro W' hM' hG'
  exact hK.out _ _ hG' (fun _=>us_1234 hR _ (by kernel_rfl) (hM'.ext (by decide)) hG')
 exact AllReadyH.nil
theorem us_124{w:World}(ls:Array Bool)(hl:ls=#[true,true,false,true,true,true,true,true,false,true,true,false,true,true,true,false,false,false,false])(hM:MapS w b (fun x=>x==1||x==2||x==4||false))(hG:w0.grownBy w (some b)) :
  wpAnyH Tryz.prog .any usops.toArray (Exit.then KK fun _ _ _=>False) (fun W'=>w0.grownBy W' (some b)) 7 ls (usF1 M most A n c LA ln lc g3 g8 A1 c1 b) w:=by
 subst hl
 refine wpAnyH_ready (rs:=[2,8]) (by as_aux_lemma=>kernel_rfl) (by simp) ?_
 refine AllReadyH.cons (GD.getOf (i:=2) rfl) (fun K' hK=>?_) ?_
 ·refine step_ins 0 (by omega) (by rfl) (by rfl) (.tmp 27) (.tmp 28) (.const (.int .u8 1)) (by rfl) hM hG (by rfl) (by rfl) (by rfl) ?_
  intro W' hM' hG'
  exact hK.out _ _ hG' (fun _=>us_0124 hR _ (by kernel_rfl) (hM'.ext (by decide)) hG')
 refine AllReadyH.cons (GD.getOf (i:=8) rfl) (fun K' hK=>?_) ?_
 ·refine step_ins 3 (by omega) (by rfl) (by rfl) (.tmp 27) (.tmp 31) (.const (.int .u8 4)) (by rfl) hM hG (by rfl) (by rfl) (by rfl) ?_
  intro W' hM' hG'
  exact hK.out _ _ hG' (fun _=>us_1234 hR _ (by kernel_rfl) (hM'.ext (by decide)) hG')
 exact AllReadyH.nil
theorem us_134{w:World}(ls:Array Bool)(hl:ls=#[true,true,false,true,true,true,false,true,true,true,true,false,true,true,true,false,false,false,false])(hM:MapS w b (fun x=>x==1||x==3||x==4||false))(hG:w0.grownBy w (some b)) :
  wpAnyH Tryz.prog .any usops.toArray (Exit.then KK fun _ _ _=>False) (fun W'=>w0.grownBy W' (some b)) 7 ls (usF1 M most A n c LA ln lc g3 g8 A1 c1 b) w:=by
 subst hl
 refine wpAnyH_ready (rs:=[2,6]) (by as_aux_lemma=>kernel_rfl) (by simp) ?_
 refine AllReadyH.cons (GD.getOf (i:=2) rfl) (fun K' hK=>?_) ?_
 ·refine step_ins 0 (by omega) (by rfl) (by rfl) (.tmp 27) (.tmp 28) (.const (.int .u8 1)) (by rfl) hM hG (by rfl) (by rfl) (by rfl) ?_
  intro W' hM' hG'
  exact hK.out _ _ hG' (fun _=>us_0134 hR _ (by kernel_rfl) (hM'.ext (by decide)) hG')
 refine AllReadyH.cons (GD.getOf (i:=6) rfl) (fun K' hK=>?_) ?_
 ·refine step_ins 2 (by omega) (by rfl) (by rfl) (.tmp 27) (.tmp 30) (.const (.int .u8 3)) (by rfl) hM hG (by rfl) (by rfl) (by rfl) ?_
  intro W' hM' hG'
  exact hK.out _ _ hG' (fun _=>us_1234 hR _ (by kernel_rfl) (hM'.ext (by decide)) hG')
 exact AllReadyH.nil
theorem us_234{w:World}(ls:Array Bool)(hl:ls=#[true,true,false,true,false,true,true,true,true,true,true,false,true,true,true,false,false,false,false])(hM:MapS w b (fun x=>x==2||x==3||x==4||false))(hG:w0.grownBy w (some b)) :
  wpAnyH Tryz.prog .any usops.toArray (Exit.then KK fun _ _ _=>False) (fun W'=>w0.grownBy W' (some b)) 7 ls (usF1 M most A n c LA ln lc g3 g8 A1 c1 b) w:=by
 subst hl
 refine wpAnyH_ready (rs:=[2,4]) (by as_aux_lemma=>kernel_rfl) (by simp) ?_
 refine AllReadyH.cons (GD.getOf (i:=2) rfl) (fun K' hK=>?_) ?_
 ·refine step_ins 0 (by omega) (by rfl) (by rfl) (.tmp 27) (.tmp 28) (.const (.int .u8 1)) (by rfl) hM hG (by rfl) (by rfl) (by rfl) ?_
  intro W' hM' hG'
  exact hK.out _ _ hG' (fun _=>us_0234 hR _ (by kernel_rfl) (hM'.ext (by decide)) hG')
 refine AllReadyH.cons (GD.getOf (i:=4) rfl) (fun K' hK=>?_) ?_
 ·refine step_ins 1 (by omega) (by rfl) (by rfl) (.tmp 27) (.tmp 29) (.const (.int .u8 2)) (by rfl) hM hG (by rfl) (by rfl) (by rfl) ?_
  intro W' hM' hG'
  exact hK.out _ _ hG' (fun _=>us_1234 hR _ (by kernel_rfl) (hM'.ext (by decide)) hG')
 exact AllReadyH.nil
theorem us_01{w:World}(ls:Array Bool)(hl:ls=#[true,true,true,true,true,true,false,true,false,true,false,false,true,true,true,false,false,false,false])(hM:MapS w b (fun x=>x==0||x==1||false))(hG:w0.grownBy w (some b)) :
  wpAnyH Tryz.prog .any usops.toArray (Exit.then KK fun _ _ _=>False) (fun W'=>w0.grownBy W' (some b)) 8 ls (usF1 M most A n c LA ln lc g3 g8 A1 c1 b) w:=by
 subst hl
 refine wpAnyH_ready (rs:=[6,8,10]) (by as_aux_lemma=>kernel_rfl) (by simp) ?_
 refine AllReadyH.cons (GD.getOf (i:=6) rfl) (fun K' hK=>?_) ?_
 ·refine step_ins 2 (by omega) (by rfl) (by rfl) (.tmp 27) (.tmp 30) (.const (.int .u8 3)) (by rfl) hM hG (by rfl) (by rfl) (by rfl) ?_
  intro W' hM' hG'
  exact hK.out _ _ hG' (fun _=>us_012 hR _ (by kernel_rfl) (hM'.ext (by decide)) hG')
 refine AllReadyH.cons (GD.getOf (i:=8) rfl) (fun K' hK=>?_) ?_
 ·refine step_ins 3 (by omega) (by rfl) (by rfl) (.tmp 27) (.tmp 31) (.const (.int .u8 4)) (by rfl) hM hG (by rfl) (by rfl) (by rfl) ?_
  intro W' hM' hG'
  exact hK.out _ _ hG' (fun _=>us_013 hR _ (by kernel_rfl) (hM'.ext (by decide)) hG')
 refine AllReadyH.cons (GD.getOf (i:=10) rfl) (fun K' hK=>?_) ?_
 ·refine step_ins 4 (by omega) (by rfl) (by rfl) (.tmp 27) (.tmp 32) (.const (.int .u8 4)) (by rfl) hM hG (by rfl) (by rfl) (by rfl) ?_
  intro W' hM' hG'
  exact hK.out _ _ hG' (fun _=>us_014 hR _ (by kernel_rfl) (hM'.ext (by decide)) hG')
 exact AllReadyH.nil
theorem us_02{w:World}(ls:Array Bool)(hl:ls=#[true,true,true,true,false,true,true,true,false,true,false,false,true,true,true,false,false,false,false])(hM:MapS w b (fun x=>x==0||x==2||false))(hG:w0.grownBy w (some b)) :
  wpAnyH Tryz.prog .any usops.toArray (Exit.then KK fun _ _ _=>False) (fun W'=>w0.grownBy W' (some b)) 8 ls (usF1 M most A n c LA ln lc g3 g8 A1 c1 b) w:=by
 subst hl
 refine wpAnyH_ready (rs:=[4,8,10]) (by as_aux_lemma=>kernel_rfl) (by simp) ?_
 refine AllReadyH.cons (GD.getOf (i:=4) rfl) (fun K' hK=>?_) ?_
 ·refine step_ins 1 (by omega) (by rfl) (by rfl) (.tmp 27) (.tmp 29) (.const (.int .u8 2)) (by rfl) hM hG (by rfl) (by rfl) (by rfl) ?_
  intro W' hM' hG'
  exact hK.out _ _ hG' (fun _=>us_012 hR _ (by kernel_rfl) (hM'.ext (by decide)) hG')
 refine AllReadyH.cons (GD.getOf (i:=8) rfl) (fun K' hK=>?_) ?_
 ·refine step_ins 3 (by omega) (by rfl) (by rfl) (.tmp 27) (.tmp 31) (.const (.int .u8 4)) (by rfl) hM hG (by rfl) (by rfl) (by rfl) ?_
  intro W' hM' hG'
  exact hK.out _ _ hG' (fun _=>us_023 hR _ (by kernel_rfl) (hM'.ext (by decide)) hG')
 refine AllReadyH.cons (GD.getOf (i:=10) rfl) (fun K' hK=>?_) ?_
 ·refine step_ins 4 (by omega) (by rfl) (by rfl) (.tmp 27) (.tmp 32) (.const (.int .u8 4)) (by rfl) hM hG (by rfl) (by rfl) (by rfl) ?_
  intro W' hM' hG'
  exact hK.out _ _ hG' (fun _=>us_024 hR _ (by kernel_rfl) (hM'.ext (by decide)) hG')
 exact AllReadyH.nil
theorem us_03{w:World}(ls:Array Bool)(hl:ls=#[true,true,true,true,false,true,false,true,true,true,false,false,true,true,true,false,false,false,false])(hM:MapS w b (fun x=>x==0||x==3||false))(hG:w0.grownBy w (some b)) :
  wpAnyH Tryz.prog .any usops.toArray (Exit.then KK fun _ _ _=>False) (fun W'=>w0.grownBy W' (some b)) 8 ls (usF1 M most A n c LA ln lc g3 g8 A1 c1 b) w:=by
 subst hl
 refine wpAnyH_ready (rs:=[4,6,10]) (by as_aux_lemma=>kernel_rfl) (by simp) ?_
 refine AllReadyH.cons (GD.getOf (i:=4) rfl) (fun K' hK=>?_) ?_
 ·refine step_ins 1 (by omega) (by rfl) (by rfl) (.tmp 27) (.tmp 29) (.const (.int .u8 2)) (by rfl) hM hG (by rfl) (by rfl) (by rfl) ?_
  intro W' hM' hG'
  exact hK.out _ _ hG' (fun _=>us_013 hR _ (by kernel_rfl) (hM'.ext (by decide)) hG')
 refine AllReadyH.cons (GD.getOf (i:=6) rfl) (fun K' hK=>?_) ?_
 ·refine step_ins 2 (by omega) (by rfl) (by rfl) (.tmp 27) (.tmp 30) (.const (.int .u8 3)) (by rfl) hM hG (by rfl) (by rfl) (by rfl) ?_
  intro W' hM' hG'
  exact hK.out _ _ hG' (fun _=>us_023 hR _ (by kernel_rfl) (hM'.ext (by decide)) hG')
 refine AllReadyH.cons (GD.getOf (i:=10) rfl) (fun K' hK=>?_) ?_
 ·refine step_ins 4 (by omega) (by rfl) (by rfl) (.tmp 27) (.tmp 32) (.const (.int .u8 4)) (by rfl) hM hG (by rfl) (by rfl) (by rfl) ?_
  intro W' hM' hG'
  exact hK.out _ _ hG' (fun _=>us_034 hR _ (by kernel_rfl) (hM'.ext (by decide)) hG')
 exact AllReadyH.nil
theorem us_04{w:World}(ls:Array Bool)(hl:ls=#[true,true,true,true,false,true,false,true,false,true,true,false,true,true,true,false,false,false,false])(hM:MapS w b (fun x=>x==0||x==4||false))(hG:w0.grownBy w (some b)) :
  wpAnyH Tryz.prog .any usops.toArray (Exit.then KK fun _ _ _=>False) (fun W'=>w0.grownBy W' (some b)) 8 ls (usF1 M most A n c LA ln lc g3 g8 A1 c1 b) w:=by
 subst hl
 refine wpAnyH_ready (rs:=[4,6,8]) (by as_aux_lemma=>kernel_rfl) (by simp) ?_
 refine AllReadyH.cons (GD.getOf (i:=4) rfl) (fun K' hK=>?_) ?_
 ·refine step_ins 1 (by omega) (by rfl) (by rfl) (.tmp 27) (.tmp 29) (.const (.int .u8 2)) (by rfl) hM hG (by rfl) (by rfl) (by rfl) ?_
  intro W' hM' hG'
  exact hK.out _ _ hG' (fun _=>us_014 hR _ (by kernel_rfl) (hM'.ext (by decide)) hG')
 refine AllReadyH.cons (GD.getOf (i:=6) rfl) (fun K' hK=>?_) ?_
 ·refine step_ins 2 (by omega) (by rfl) (by rfl) (.tmp 27) (.tmp 30) (.const (.int .u8 3)) (by rfl) hM hG (by rfl) (by rfl) (by rfl) ?_
  intro W' hM' hG'
  exact hK.out _ _ hG' (fun _=>us_024 hR _ (by kernel_rfl) (hM'.ext (by decide)) hG')
 refine AllReadyH.cons (GD.getOf (i:=8) rfl) (fun K' hK=>?_) ?_
 ·refine step_ins 3 (by omega) (by rfl) (by rfl) (.tmp 27) (.tmp 31) (.const (.int .u8 4)) (by rfl) hM hG (by rfl) (by rfl) (by rfl) ?_
  intro W' hM' hG'
  exact hK.out _ _ hG' (fun _=>us_034 hR _ (by kernel_rfl) (hM'.ext (by decide)) hG')
 exact AllReadyH.nil
theorem us_12{w:World}(ls:Array Bool)(hl:ls=#[true,true,false,true,true,true,true,true,false,true,false,false,true,true,true,false,false,false,false])(hM:MapS w b (fun x=>x==1||x==2||false))(hG:w0.grownBy w (some b)) :
  wpAnyH Tryz.prog .any usops.toArray (Exit.then KK fun _ _ _=>False) (fun W'=>w0.grownBy W' (some b)) 8 ls (usF1 M most A n c LA ln lc g3 g8 A1 c1 b) w:=by
 subst hl
 refine wpAnyH_ready (rs:=[2,8,10]) (by as_aux_lemma=>kernel_rfl) (by simp) ?_
 refine AllReadyH.cons (GD.getOf (i:=2) rfl) (fun K' hK=>?_) ?_
 ·refine step_ins 0 (by omega) (by rfl) (by rfl) (.tmp 27) (.tmp 28) (.const (.int .u8 1)) (by rfl) hM hG (by rfl) (by rfl) (by rfl) ?_
  intro W' hM' hG'
  exact hK.out _ _ hG' (fun _=>us_012 hR _ (by kernel_rfl) (hM'.ext (by decide)) hG')
 refine AllReadyH.cons (GD.getOf (i:=8) rfl) (fun K' hK=>?_) ?_
 ·refine step_ins 3 (by omega) (by rfl) (by rfl) (.tmp 27) (.tmp 31) (.const (.int .u8 4)) (by rfl) hM hG (by rfl) (by rfl) (by rfl) ?_
  intro W' hM' hG'
  exact hK.out _ _ hG' (fun _=>us_123 hR _ (by kernel_rfl) (hM'.ext (by decide)) hG')
 refine AllReadyH.cons (GD.getOf (i:=10) rfl) (fun K' hK=>?_) ?_
 ·refine step_ins 4 (by omega) (by rfl) (by rfl) (.tmp 27) (.tmp 32) (.const (.int .u8 4)) (by rfl) hM hG (by rfl) (by rfl) (by rfl) ?_
  intro W' hM' hG'
  exact hK.out _ _ hG' (fun _=>us_124 hR _ (by kernel_rfl) (hM'.ext (by decide)) hG')
 exact AllReadyH.nil
theorem us_13{w:World}(ls:Array Bool)(hl:ls=#[true,true,false,true,true,true,false,true,true,true,false,false,true,true,true,false,false,false,false])(hM:MapS w b (fun x=>x==1||x==3||false))(hG:w0.grownBy w (some b)) :
  wpAnyH Tryz.prog .any usops.toArray (Exit.then KK fun _ _ _=>False) (fun W'=>w0.grownBy W' (some b)) 8 ls (usF1 M most A n c LA ln lc g3 g8 A1 c1 b) w:=by
 subst hl
 refine wpAnyH_ready (rs:=[2,6,10]) (by as_aux_lemma=>kernel_rfl) (by simp) ?_
 refine AllReadyH.cons (GD.getOf (i:=2) rfl) (fun K' hK=>?_) ?_
 ·refine step_ins 0 (by omega) (by rfl) (by rfl) (.tmp 27) (.tmp 28) (.const (.int .u8 1)) (by rfl) hM hG (by rfl) (by rfl) (by rfl) ?_
  intro W' hM' hG'
  exact hK.out _ _ hG' (fun _=>us_013 hR _ (by kernel_rfl) (hM'.ext (by decide)) hG')
 refine AllReadyH.cons (GD.getOf (i:=6) rfl) (fun K' hK=>?_) ?_
 ·refine step_ins 2 (by omega) (by rfl) (by rfl) (.tmp 27) (.tmp 30) (.const (.int .u8 3)) (by rfl) hM hG (by rfl) (by rfl) (by rfl) ?_
  intro W' hM' hG'
  exact hK.out _ _ hG' (fun _=>us_123 hR _ (by kernel_rfl) (hM'.ext (by decide)) hG')
 refine AllReadyH.cons (GD.getOf (i:=10) rfl) (fun K' hK=>?_) ?_
 ·refine step_ins 4 (by omega) (by rfl) (by rfl) (.tmp 27) (.tmp 32) (.const (.int .u8 4)) (by rfl) hM hG (by rfl) (by rfl) (by rfl) ?_
  intro W' hM' hG'
  exact hK.out _ _ hG' (fun _=>us_134 hR _ (by kernel_rfl) (hM'.ext (by decide)) hG')
 exact AllReadyH.nil
theorem us_14{w:World}(ls:Array Bool)(hl:ls=#[true,true,false,true,true,true,false,true,false,true,true,false,true,true,true,false,false,false,false])(hM:MapS w b (fun x=>x==1||x==4||false))(hG:w0.grownBy w (some b)) :
  wpAnyH Tryz.prog .any usops.toArray (Exit.then KK fun _ _ _=>False) (fun W'=>w0.grownBy W' (some b)) 8 ls (usF1 M most A n c LA ln lc g3 g8 A1 c1 b) w:=by
 subst hl
 refine wpAnyH_ready (rs:=[2,6,8]) (by as_aux_lemma=>kernel_rfl) (by simp) ?_
 refine AllReadyH.cons (GD.getOf (i:=2) rfl) (fun K' hK=>?_) ?_
 ·refine step_ins 0 (by omega) (by rfl) (by rfl) (.tmp 27) (.tmp 28) (.const (.int .u8 1)) (by rfl) hM hG (by rfl) (by rfl) (by rfl) ?_
  intro W' hM' hG'
  exact hK.out _ _ hG' (fun _=>us_014 hR _ (by kernel_rfl) (hM'.ext (by decide)) hG')
 refine AllReadyH.cons (GD.getOf (i:=6) rfl) (fun K' hK=>?_) ?_
 ·refine step_ins 2 (by omega) (by rfl) (by rfl) (.tmp 27) (.tmp 30) (.const (.int .u8 3)) (by rfl) hM hG (by rfl) (by rfl) (by rfl) ?_
  intro W' hM' hG'
  exact hK.out _ _ hG' (fun _=>us_124 hR _ (by kernel_rfl) (hM'.ext (by decide)) hG')
 refine AllReadyH.cons (GD.getOf (i:=8) rfl) (fun K' hK=>?_) ?_
 ·refine step_ins 3 (by omega) (by rfl) (by rfl) (.tmp 27) (.tmp 31) (.const (.int .u8 4)) (by rfl) hM hG (by rfl) (by rfl) (by rfl) ?_
  intro W' hM' hG'
  exact hK.out _ _ hG' (fun _=>us_134 hR _ (by kernel_rfl) (hM'.ext (by decide)) hG')
 exact AllReadyH.nil
theorem us_23{w:World}(ls:Array Bool)(hl:ls=#[true,true,false,true,false,true,true,true,true,true,false,false,true,true,true,false,false,false,false])(hM:MapS w b (fun x=>x==2||x==3||false))(hG:w0.grownBy w (some b)) :
  wpAnyH Tryz.prog .any usops.toArray (Exit.then KK fun _ _ _=>False) (fun W'=>w0.grownBy W' (some b)) 8 ls (usF1 M most A n c LA ln lc g3 g8 A1 c1 b) w:=by
 subst hl
 refine wpAnyH_ready (rs:=[2,4,10]) (by as_aux_lemma=>kernel_rfl) (by simp) ?_
 refine AllReadyH.cons (GD.getOf (i:=2) rfl) (fun K' hK=>?_) ?_
 ·refine step_ins 0 (by omega) (by rfl) (by rfl) (.tmp 27) (.tmp 28) (.const (.int .u8 1)) (by rfl) hM hG (by rfl) (by rfl) (by rfl) ?_
  intro W' hM' hG'
  exact hK.out _ _ hG' (fun _=>us_023 hR _ (by kernel_rfl) (hM'.ext (by decide)) hG')
 refine AllReadyH.cons (GD.getOf (i:=4) rfl) (fun K' hK=>?_) ?_
 ·refine step_ins 1 (by omega) (by rfl) (by rfl) (.tmp 27) (.tmp 29) (.const (.int .u8 2)) (by rfl) hM hG (by rfl) (by rfl) (by rfl) ?_
  intro W' hM' hG'
  exact hK.out _ _ hG' (fun _=>us_123 hR _ (by kernel_rfl) (hM'.ext (by decide)) hG')
 refine AllReadyH.cons (GD.getOf (i:=10) rfl) (fun K' hK=>?_) ?_
 ·refine step_ins 4 (by omega) (by rfl) (by rfl) (.tmp 27) (.tmp 32) (.const (.int .u8 4)) (by rfl) hM hG (by rfl) (by rfl) (by rfl) ?_
  intro W' hM' hG'
  exact hK.out _ _ hG' (fun _=>us_234 hR _ (by kernel_rfl) (hM'.ext (by decide)) hG')
 exact AllReadyH.nil
theorem us_24{w:World}(ls:Array Bool)(hl:ls=#[true,true,false,true,false,true,true,true,false,true,true,false,true,true,true,false,false,false,false])(hM:MapS w b (fun x=>x==2||x==4||false))(hG:w0.grownBy w (some b)) :
  wpAnyH Tryz.prog .any usops.toArray (Exit.then KK fun _ _ _=>False) (fun W'=>w0.grownBy W' (some b)) 8 ls (usF1 M most A n c LA ln lc g3 g8 A1 c1 b) w:=by
 subst hl
 refine wpAnyH_ready (rs:=[2,4,8]) (by as_aux_lemma=>kernel_rfl) (by simp) ?_
 refine AllReadyH.cons (GD.getOf (i:=2) rfl) (fun K' hK=>?_) ?_
 ·refine step_ins 0 (by omega) (by rfl) (by rfl) (.tmp 27) (.tmp 28) (.const (.int .u8 1)) (by rfl) hM hG (by rfl) (by rfl) (by rfl) ?_
  intro W' hM' hG'
  exact hK.out _ _ hG' (fun _=>us_024 hR _ (by kernel_rfl) (hM'.ext (by decide)) hG')
 refine AllReadyH.cons (GD.getOf (i:=4) rfl) (fun K' hK=>?_) ?_
 ·refine step_ins 1 (by omega) (by rfl) (by rfl) (.tmp 27) (.tmp 29) (.const (.int .u8 2)) (by rfl) hM hG (by rfl) (by rfl) (by rfl) ?_
  intro W' hM' hG'
  exact hK.out _ _ hG' (fun _=>us_124 hR _ (by kernel_rfl) (hM'.ext (by decide)) hG')
 refine AllReadyH.cons (GD.getOf (i:=8) rfl) (fun K' hK=>?_) ?_
 ·refine step_ins 3 (by omega) (by rfl) (by rfl) (.tmp 27) (.tmp 31) (.const (.int .u8 4)) (by rfl) hM hG (by rfl) (by rfl) (by rfl) ?_
  intro W' hM' hG'
  exact hK.out _ _ hG' (fun _=>us_234 hR _ (by kernel_rfl) (hM'.ext (by decide)) hG')
 exact AllReadyH.nil
theorem us_34{w:World}(ls:Array Bool)(hl:ls=#[true,true,false,true,false,true,false,true,true,true,true,false,true,true,true,false,false,false,false])(hM:MapS w b (fun x=>x==3||x==4||false))(hG:w0.grownBy w (some b)) :
  wpAnyH Tryz.prog .any usops.toArray (Exit.then KK fun _ _ _=>False) (fun W'=>w0.grownBy W' (some b)) 8 ls (usF1 M most A n c LA ln lc g3 g8 A1 c1 b) w:=by
 subst hl
 refine wpAnyH_ready (rs:=[2,4,6]) (by as_aux_lemma=>kernel_rfl) (by simp) ?_
 refine AllReadyH.cons (GD.getOf (i:=2) rfl) (fun K' hK=>?_) ?_
 ·refine step_ins 0 (by omega) (by rfl) (by rfl) (.tmp 27) (.tmp 28) (.const (.int .u8 1)) (by rfl) hM hG (by rfl) (by rfl) (by rfl) ?_
  intro W' hM' hG'
  exact hK.out _ _ hG' (fun _=>us_034 hR _ (by kernel_rfl) (hM'.ext (by decide)) hG')
 refine AllReadyH.cons (GD.getOf (i:=4) rfl) (fun K' hK=>?_) ?_
 ·refine step_ins 1 (by omega) (by rfl) (by rfl) (.tmp 27) (.tmp 29) (.const (.int .u8 2)) (by rfl) hM hG (by rfl) (by rfl) (by rfl) ?_
  intro W' hM' hG'
  exact hK.out _ _ hG' (fun _=>us_134 hR _ (by kernel_rfl) (hM'.ext (by decide)) hG')
 refine AllReadyH.cons (GD.getOf (i:=6) rfl) (fun K' hK=>?_) ?_
 ·refine step_ins 2 (by omega) (by rfl) (by rfl) (.tmp 27) (.tmp 30) (.const (.int .u8 3)) (by rfl) hM hG (by rfl) (by rfl) (by rfl) ?_
  intro W' hM' hG'
  exact hK.out _ _ hG' (fun _=>us_234 hR _ (by kernel_rfl) (hM'.ext (by decide)) hG')
 exact AllReadyH.nil
theorem us_0{w:World}(ls:Array Bool)(hl:ls=#[true,true,true,true,false,true,false,true,false,true,false,false,true,true,true,false,false,false,false])(hM:MapS w b (fun x=>x==0||false))(hG:w0.grownBy w (some b)) :
  wpAnyH Tryz.prog .any usops.toArray (Exit.then KK fun _ _ _=>False) (fun W'=>w0.grownBy W' (some b)) 9 ls (usF1 M most A n c LA ln lc g3 g8 A1 c1 b) w:=by
 subst hl
 refine wpAnyH_ready (rs:=[4,6,8,10]) (by as_aux_lemma=>kernel_rfl) (by simp) ?_
 refine AllReadyH.cons (GD.getOf (i:=4) rfl) (fun K' hK=>?_) ?_
 ·refine step_ins 1 (by omega) (by rfl) (by rfl) (.tmp 27) (.tmp 29) (.const (.int .u8 2)) (by rfl) hM hG (by rfl) (by rfl) (by rfl) ?_
  intro W' hM' hG'
  exact hK.out _ _ hG' (fun _=>us_01 hR _ (by kernel_rfl) (hM'.ext (by decide)) hG')
 refine AllReadyH.cons (GD.getOf (i:=6) rfl) (fun K' hK=>?_) ?_
 ·refine step_ins 2 (by omega) (by rfl) (by rfl) (.tmp 27) (.tmp 30) (.const (.int .u8 3)) (by rfl) hM hG (by rfl) (by rfl) (by rfl) ?_
  intro W' hM' hG'
  exact hK.out _ _ hG' (fun _=>us_02 hR _ (by kernel_rfl) (hM'.ext (by decide)) hG')
 refine AllReadyH.cons (GD.getOf (i:=8) rfl) (fun K' hK=>?_) ?_
 ·refine step_ins 3 (by omega) (by rfl) (by rfl) (.tmp 27) (.tmp 31) (.const (.int .u8 4)) (by rfl) hM hG (by rfl) (by rfl) (by rfl) ?_
  intro W' hM' hG'
  exact hK.out _ _ hG' (fun _=>us_03 hR _ (by kernel_rfl) (hM'.ext (by decide)) hG')
 refine AllReadyH.cons (GD.getOf (i:=10) rfl) (fun K' hK=>?_) ?_
 ·refine step_ins 4 (by omega) (by rfl) (by rfl) (.tmp 27) (.tmp 32) (.const (.int .u8 4)) (by rfl) hM hG (by rfl) (by rfl) (by rfl) ?_
  intro W' hM' hG'
  exact hK.out _ _ hG' (fun _=>us_04 hR _ (by kernel_rfl) (hM'.ext (by decide)) hG')
 exact AllReadyH.nil
theorem us_1{w:World}(ls:Array Bool)(hl:ls=#[true,true,false,true,true,true,false,true,false,true,false,false,true,true,true,false,false,false,false])(hM:MapS w b (fun x=>x==1||false))(hG:w0.grownBy w (some b)) :
  wpAnyH Tryz.prog .any usops.toArray (Exit.then KK fun _ _ _=>False) (fun W'=>w0.grownBy W' (some b)) 9 ls (usF1 M most A n c LA ln lc g3 g8 A1 c1 b) w:=by
 subst hl
 refine wpAnyH_ready (rs:=[2,6,8,10]) (by as_aux_lemma=>kernel_rfl) (by simp) ?_
 refine AllReadyH.cons (GD.getOf (i:=2) rfl) (fun K' hK=>?_) ?_
 ·refine step_ins 0 (by omega) (by rfl) (by rfl) (.tmp 27) (.tmp 28) (.const (.int .u8 1)) (by rfl) hM hG (by rfl) (by rfl) (by rfl) ?_
  intro W' hM' hG'
  exact hK.out _ _ hG' (fun _=>us_01 hR _ (by kernel_rfl) (hM'.ext (by decide)) hG')
 refine AllReadyH.cons (GD.getOf (i:=6) rfl) (fun K' hK=>?_) ?_
 ·refine step_ins 2 (by omega) (by rfl) (by rfl) (.tmp 27) (.tmp 30) (.const (.int .u8 3)) (by rfl) hM hG (by rfl) (by rfl) (by rfl) ?_
  intro W' hM' hG'
  exact hK.out _ _ hG' (fun _=>us_12 hR _ (by kernel_rfl) (hM'.ext (by decide)) hG')
 refine AllReadyH.cons (GD.getOf (i:=8) rfl) (fun K' hK=>?_) ?_
 ·refine step_ins 3 (by omega) (by rfl) (by rfl) (.tmp 27) (.tmp 31) (.const (.int .u8 4)) (by rfl) hM hG (by rfl) (by rfl) (by rfl) ?_
  intro W' hM' hG'
  exact hK.out _ _ hG' (fun _=>us_13 hR _ (by kernel_rfl) (hM'.ext (by decide)) hG')
 refine AllReadyH.cons (GD.getOf (i:=10) rfl) (fun K' hK=>?_) ?_
 ·refine step_ins 4 (by omega) (by rfl) (by rfl) (.tmp 27) (.tmp 32) (.const (.int .u8 4)) (by rfl) hM hG (by rfl) (by rfl) (by rfl) ?_
  intro W' hM' hG'
  exact hK.out _ _ hG' (fun _=>us_14 hR _ (by kernel_rfl) (hM'.ext (by decide)) hG')
 exact AllReadyH.nil
theorem us_2{w:World}(ls:Array Bool)(hl:ls=#[true,true,false,true,false,true,true,true,false,true,false,false,true,true,true,false,false,false,false])(hM:MapS w b (fun x=>x==2||false))(hG:w0.grownBy w (some b)) :
  wpAnyH Tryz.prog .any usops.toArray (Exit.then KK fun _ _ _=>False) (fun W'=>w0.grownBy W' (some b)) 9 ls (usF1 M most A n c LA ln lc g3 g8 A1 c1 b) w:=by
 subst hl
 refine wpAnyH_ready (rs:=[2,4,8,10]) (by as_aux_lemma=>kernel_rfl) (by simp) ?_
 refine AllReadyH.cons (GD.getOf (i:=2) rfl) (fun K' hK=>?_) ?_
 ·refine step_ins 0 (by omega) (by rfl) (by rfl) (.tmp 27) (.tmp 28) (.const (.int .u8 1)) (by rfl) hM hG (by rfl) (by rfl) (by rfl) ?_
  intro W' hM' hG'
  exact hK.out _ _ hG' (fun _=>us_02 hR _ (by kernel_rfl) (hM'.ext (by decide)) hG')
 refine AllReadyH.cons (GD.getOf (i:=4) rfl) (fun K' hK=>?_) ?_
 ·refine step_ins 1 (by omega) (by rfl) (by rfl) (.tmp 27) (.tmp 29) (.const (.int .u8 2)) (by rfl) hM hG (by rfl) (by rfl) (by rfl) ?_
  intro W' hM' hG'
  exact hK.out _ _ hG' (fun _=>us_12 hR _ (by kernel_rfl) (hM'.ext (by decide)) hG')
 refine AllReadyH.cons (GD.getOf (i:=8) rfl) (fun K' hK=>?_) ?_
 ·refine step_ins 3 (by omega) (by rfl) (by rfl) (.tmp 27) (.tmp 31) (.const (.int .u8 4)) (by rfl) hM hG (by rfl) (by rfl) (by rfl) ?_
  intro W' hM' hG'
  exact hK.out _ _ hG' (fun _=>us_23 hR _ (by kernel_rfl) (hM'.ext (by decide)) hG')
 refine AllReadyH.cons (GD.getOf (i:=10) rfl) (fun K' hK=>?_) ?_
 ·refine step_ins 4 (by omega) (by rfl) (by rfl) (.tmp 27) (.tmp 32) (.const (.int .u8 4)) (by rfl) hM hG (by rfl) (by rfl) (by rfl) ?_
  intro W' hM' hG'
  exact hK.out _ _ hG' (fun _=>us_24 hR _ (by kernel_rfl) (hM'.ext (by decide)) hG')
 exact AllReadyH.nil
theorem us_3{w:World}(ls:Array Bool)(hl:ls=#[true,true,false,true,false,true,false,true,true,true,false,false,true,true,true,false,false,false,false])(hM:MapS w b (fun x=>x==3||false))(hG:w0.grownBy w (some b)) :
  wpAnyH Tryz.prog .any usops.toArray (Exit.then KK fun _ _ _=>False) (fun W'=>w0.grownBy W' (some b)) 9 ls (usF1 M most A n c LA ln lc g3 g8 A1 c1 b) w:=by
 subst hl
 refine wpAnyH_ready (rs:=[2,4,6,10]) (by as_aux_lemma=>kernel_rfl) (by simp) ?_
 refine AllReadyH.cons (GD.getOf (i:=2) rfl) (fun K' hK=>?_) ?_
 ·refine step_ins 0 (by omega) (by rfl) (by rfl) (.tmp 27) (.tmp 28) (.const (.int .u8 1)) (by rfl) hM hG (by rfl) (by rfl) (by rfl) ?_
  intro W' hM' hG'
  exact hK.out _ _ hG' (fun _=>us_03 hR _ (by kernel_rfl) (hM'.ext (by decide)) hG')
 refine AllReadyH.cons (GD.getOf (i:=4) rfl) (fun K' hK=>?_) ?_
 ·refine step_ins 1 (by omega) (by rfl) (by rfl) (.tmp 27) (.tmp 29) (.const (.int .u8 2)) (by rfl) hM hG (by rfl) (by rfl) (by rfl) ?_
  intro W' hM' hG'
  exact hK.out _ _ hG' (fun _=>us_13 hR _ (by kernel_rfl) (hM'.ext (by decide)) hG')
 refine AllReadyH.cons (GD.getOf (i:=6) rfl) (fun K' hK=>?_) ?_
 ·refine step_ins 2 (by omega) (by rfl) (by rfl) (.tmp 27) (.tmp 30) (.const (.int .u8 3)) (by rfl) hM hG (by rfl) (by rfl) (by rfl) ?_
  intro W' hM' hG'
  exact hK.out _ _ hG' (fun _=>us_23 hR _ (by kernel_rfl) (hM'.ext (by decide)) hG')
 refine AllReadyH.cons (GD.getOf (i:=10) rfl) (fun K' hK=>?_) ?_
 ·refine step_ins 4 (by omega) (by rfl) (by rfl) (.tmp 27) (.tmp 32) (.const (.int .u8 4)) (by rfl) hM hG (by rfl) (by rfl) (by rfl) ?_
  intro W' hM' hG'
  exact hK.out _ _ hG' (fun _=>us_34 hR _ (by kernel_rfl) (hM'.ext (by decide)) hG')
 exact AllReadyH.nil
theorem us_4{w:World}(ls:Array Bool)(hl:ls=#[true,true,false,true,false,true,false,true,false,true,true,false,true,true,true,false,false,false,false])(hM:MapS w b (fun x=>x==4||false))(hG:w0.grownBy w (some b)) :
  wpAnyH Tryz.prog .any usops.toArray (Exit.then KK fun _ _ _=>False) (fun W'=>w0.grownBy W' (some b)) 9 ls (usF1 M most A n c LA ln lc g3 g8 A1 c1 b) w:=by
 subst hl
 refine wpAnyH_ready (rs:=[2,4,6,8]) (by as_aux_lemma=>kernel_rfl) (by simp) ?_
 refine AllReadyH.cons (GD.getOf (i:=2) rfl) (fun K' hK=>?_) ?_
 ·refine step_ins 0 (by omega) (by rfl) (by rfl) (.tmp 27) (.tmp 28) (.const (.int .u8 1)) (by rfl) hM hG (by rfl) (by rfl) (by rfl) ?_
  intro W' hM' hG'
  exact hK.out _ _ hG' (fun _=>us_04 hR _ (by kernel_rfl) (hM'.ext (by decide)) hG')
 refine AllReadyH.cons (GD.getOf (i:=4) rfl) (fun K' hK=>?_) ?_
 ·refine step_ins 1 (by omega) (by rfl) (by rfl) (.tmp 27) (.tmp 29) (.const (.int .u8 2)) (by rfl) hM hG (by rfl) (by rfl) (by rfl) ?_
  intro W' hM' hG'
  exact hK.out _ _ hG' (fun _=>us_14 hR _ (by kernel_rfl) (hM'.ext (by decide)) hG')
 refine AllReadyH.cons (GD.getOf (i:=6) rfl) (fun K' hK=>?_) ?_
 ·refine step_ins 2 (by omega) (by rfl) (by rfl) (.tmp 27) (.tmp 30) (.const (.int .u8 3)) (by rfl) hM hG (by rfl) (by rfl) (by rfl) ?_
  intro W' hM' hG'
  exact hK.out _ _ hG' (fun _=>us_24 hR _ (by kernel_rfl) (hM'.ext (by decide)) hG')
 refine AllReadyH.cons (GD.getOf (i:=8) rfl) (fun K' hK=>?_) ?_
 ·refine step_ins 3 (by omega) (by rfl) (by rfl) (.tmp 27) (.tmp 31) (.const (.int .u8 4)) (by rfl) hM hG (by rfl) (by rfl) (by rfl) ?_
  intro W' hM' hG'
  exact hK.out _ _ hG' (fun _=>us_34 hR _ (by kernel_rfl) (hM'.ext (by decide)) hG')
 exact AllReadyH.nil
theorem us_n{w:World}(ls:Array Bool)(hl:ls=#[true,true,false,true,false,true,false,true,false,true,false,false,true,true,true,false,false,false,false])(hM:MapS w b (fun x=>false))(hG:w0.grownBy w (some b)) :
  wpAnyH Tryz.prog .any usops.toArray (Exit.then KK fun _ _ _=>False) (fun W'=>w0.grownBy W' (some b)) 10 ls (usF1 M most A n c LA ln lc g3 g8 A1 c1 b) w:=by
 subst hl
 refine wpAnyH_ready (rs:=[2,4,6,8,10]) (by as_aux_lemma=>kernel_rfl) (by simp) ?_
 refine AllReadyH.cons (GD.getOf (i:=2) rfl) (fun K' hK=>?_) ?_
 ·refine step_ins 0 (by omega) (by rfl) (by rfl) (.tmp 27) (.tmp 28) (.const (.int .u8 1)) (by rfl) hM hG (by rfl) (by rfl) (by rfl) ?_
  intro W' hM' hG'
  exact hK.out _ _ hG' (fun _=>us_0 hR _ (by kernel_rfl) (hM'.ext (by decide)) hG')
 refine AllReadyH.cons (GD.getOf (i:=4) rfl) (fun K' hK=>?_) ?_
 ·refine step_ins 1 (by omega) (by rfl) (by rfl) (.tmp 27) (.tmp 29) (.const (.int .u8 2)) (by rfl) hM hG (by rfl) (by rfl) (by rfl) ?_
  intro W' hM' hG'
  exact hK.out _ _ hG' (fun _=>us_1 hR _ (by kernel_rfl) (hM'.ext (by decide)) hG')
 refine AllReadyH.cons (GD.getOf (i:=6) rfl) (fun K' hK=>?_) ?_
 ·refine step_ins 2 (by omega) (by rfl) (by rfl) (.tmp 27) (.tmp 30) (.const (.int .u8 3)) (by rfl) hM hG (by rfl) (by rfl) (by rfl) ?_
  intro W' hM' hG'
  exact hK.out _ _ hG' (fun _=>us_2 hR _ (by kernel_rfl) (hM'.ext (by decide)) hG')
 refine AllReadyH.cons (GD.getOf (i:=8) rfl) (fun K' hK=>?_) ?_
 ·refine step_ins 3 (by omega) (by rfl) (by rfl) (.tmp 27) (.tmp 31) (.const (.int .u8 4)) (by rfl) hM hG (by rfl) (by rfl) (by rfl) ?_
  intro W' hM' hG'
  exact hK.out _ _ hG' (fun _=>us_3 hR _ (by kernel_rfl) (hM'.ext (by decide)) hG')
 refine AllReadyH.cons (GD.getOf (i:=10) rfl) (fun K' hK=>?_) ?_
 ·refine step_ins 4 (by omega) (by rfl) (by rfl) (.tmp 27) (.tmp 32) (.const (.int .u8 4)) (by rfl) hM hG (by rfl) (by rfl) (by rfl) ?_
  intro W' hM' hG'
  exact hK.out _ _ hG' (fun _=>us_4 hR _ (by kernel_rfl) (hM'.ext (by decide)) hG')
 exact AllReadyH.nil
end
theorem us_region{w:World}{M most:Int}{A:Option Addr}{n c:Nat}{LA:Option Addr}{ln lc g3 g8:Nat}{A1:Option Addr}{c1:Nat}{KK:Act→World→Prop}{Q:Exit→Act→World→Prop}(hR : ∀wz,Knd wz w.heap.size→w.grownBy wz (some w.heap.size)→KK (usF2 M most A n c LA ln lc g3 g8 A1 c1 w.heap.size wz.heap.size) (wz.alloc (.cells (rdc w.heap.size most M A1 n c1 LA ln lc) 64)))(hC : ∀W',w.grownBy W' (some w.heap.size)→W'.cell? ⟨0,0,none⟩=some (.int .u8 1)∧W'.cell? ⟨0,1,none⟩=some (.int .u8 1)∧W'.cell? ⟨2,0,none⟩=some (.int .u8 2)∧W'.cell? ⟨2,1,none⟩=some (.int .u8 1)∧W'.cell? ⟨1,0,none⟩=some (.int .u8 3)∧W'.cell? ⟨1,1,none⟩=some (.int .u8 1)∧W'.cell? ⟨3,0,none⟩=some (.int .u8 4)∧W'.cell? ⟨3,1,none⟩=some (.int .u8 1)∧W'.cell? ⟨4,0,none⟩=some (.int .u8 4)∧W'.cell? ⟨4,1,none⟩=some (.int .u8 0)∧W'.cell? ⟨g8,0,none⟩=some (.int .i64 M)∧W'.cell? ⟨g8,1,none⟩=some (.slice A1 n c1)) :
  (Code.region 4 usops.toArray true).wp Tryz.prog (Exit.then KK Q) (usF0 M most A n c LA ln lc g3 g8 A1 c1 w.heap.size) w:=by
 refine Code.wp_mono (Q:=Exit.then KK fun _ _ _=>False) (fun e a w h=>by cases e<;>first | exact h | exact h.elim) ?_
 unfold usF0
 refine wp_region_held_drew (S:=(fun W'=>w.grownBy W' (some w.heap.size))) (by kernel_rfl) (gb_new (Below.refl _ w).drew) (fun hH=>?_)
 refine GD.takeD (i:=1) (v:=?_) rfl (by as_aux_lemma=>kernel_rfl) (by as_aux_lemma=>kernel_rfl) (by as_aux_lemma=>kernel_rfl) (fun _ _ _ h=>h) (Or.inl ⟨by rfl,?_⟩) hH ?_
 rotate_left
 ·intro w hSw;(try dsimp only at hSw);obtain⟨q0,q1,q2,q3,q4,q5,q6,q7,q8,q9,t0,t1⟩:=hC _ hSw;go_simp<;>with_reducible rfl
 try simp only[Act.put,List.setIfInBounds_toArray,List.set_cons_zero,List.set_cons_succ]
 refine GD.takeD (i:=3) (v:=?_) rfl (by as_aux_lemma=>kernel_rfl) (by as_aux_lemma=>kernel_rfl) (by as_aux_lemma=>kernel_rfl) (fun _ _ _ h=>h) (Or.inl ⟨by rfl,?_⟩) hH ?_
 rotate_left
 ·intro w hSw;(try dsimp only at hSw);obtain⟨q0,q1,q2,q3,q4,q5,q6,q7,q8,q9,t0,t1⟩:=hC _ hSw;go_simp<;>with_reducible rfl
 try simp only[Act.put,List.setIfInBounds_toArray,List.set_cons_zero,List.set_cons_succ]
 refine GD.takeD (i:=5) (v:=?_) rfl (by as_aux_lemma=>kernel_rfl) (by as_aux_lemma=>kernel_rfl) (by as_aux_lemma=>kernel_rfl) (fun _ _ _ h=>h) (Or.inl ⟨by rfl,?_⟩) hH ?_
 rotate_left
 ·intro w hSw;(try dsimp only at hSw);obtain⟨q0,q1,q2,q3,q4,q5,q6,q7,q8,q9,t0,t1⟩:=hC _ hSw;go_simp<;>with_reducible rfl
 try simp only[Act.put,List.setIfInBounds_toArray,List.set_cons_zero,List.set_cons_succ]
 refine GD.takeD (i:=7) (v:=?_) rfl (by as_aux_lemma=>kernel_rfl) (by as_aux_lemma=>kernel_rfl) (by as_aux_lemma=>kernel_rfl) (fun _ _ _ h=>h) (Or.inl ⟨by rfl,?_⟩) hH ?_
 rotate_left
 ·intro w hSw;(try dsimp only at hSw);obtain⟨q0,q1,q2,q3,q4,q5,q6,q7,q8,q9,t0,t1⟩:=hC _ hSw;go_simp<;>with_reducible rfl
 try simp only[Act.put,List.setIfInBounds_toArray,List.set_cons_zero,List.set_cons_succ]
 refine GD.takeD (i:=9) (v:=?_) rfl (by as_aux_lemma=>kernel_rfl) (by as_aux_lemma=>kernel_rfl) (by as_aux_lemma=>kernel_rfl) (fun _ _ _ h=>h) (Or.inl ⟨by rfl,?_⟩) hH ?_
 rotate_left
 ·intro w hSw;(try dsimp only at hSw);obtain⟨q0,q1,q2,q3,q4,q5,q6,q7,q8,q9,t0,t1⟩:=hC _ hSw;go_simp<;>with_reducible rfl
 try simp only[Act.put,List.setIfInBounds_toArray,List.set_cons_zero,List.set_cons_succ]
 refine GD.takeD (i:=12) (v:=?_) rfl (by as_aux_lemma=>kernel_rfl) (by as_aux_lemma=>kernel_rfl) (by as_aux_lemma=>kernel_rfl) (fun _ _ _ h=>h) (Or.inl ⟨by rfl,?_⟩) hH ?_
 rotate_left
 ·intro w hSw;(try dsimp only at hSw);go_simp<;>with_reducible rfl
 try simp only[Act.put,List.setIfInBounds_toArray,List.set_cons_zero,List.set_cons_succ]
 refine GD.takeD (i:=13) (v:=?_) rfl (by as_aux_lemma=>kernel_rfl) (by as_aux_lemma=>kernel_rfl) (by as_aux_lemma=>kernel_rfl) (fun _ _ _ h=>h) (Or.inl ⟨by rfl,?_⟩) hH ?_
 rotate_left
 ·intro w hSw;(try dsimp only at hSw);obtain⟨q0,q1,q2,q3,q4,q5,q6,q7,q8,q9,t0,t1⟩:=hC _ hSw;go_simp<;>with_reducible rfl
 try simp only[Act.put,List.setIfInBounds_toArray,List.set_cons_zero,List.set_cons_succ]
 refine GD.takeD (i:=14) (v:=?_) rfl (by as_aux_lemma=>kernel_rfl) (by as_aux_lemma=>kernel_rfl) (by as_aux_lemma=>kernel_rfl) (fun _ _ _ h=>h) (Or.inl ⟨by rfl,?_⟩) hH ?_
 rotate_left
 ·intro w hSw;(try dsimp only at hSw);go_simp<;>with_reducible rfl
 try simp only[Act.put,List.setIfInBounds_toArray,List.set_cons_zero,List.set_cons_succ]
 refine GD.readyD (i:=0) rfl (by as_aux_lemma=>kernel_rfl) (fun K' hK=>?_)
 have hmk : ∀W:World,(Instr.makeMap 62 none).run Tryz.prog W = .ok (.map (some W.heap.size)) (W.alloc (.map #[] 0)):=fun W=>by rfl
 go_simp
 refine hK.out _ _ (gb_new ((Below.refl _ w).alloc (Nat.le_refl _) _).drew) (fun hH=>?_)
 clear hK K'
 try simp only[Act.put,List.setIfInBounds_toArray,List.set_cons_zero,List.set_cons_succ]
 exact us_n hR _ (by kernel_rfl) (MapS.made w) hH
theorem u_start_yes{fs:List Fact}{gs:List Bx}{M most:Int}{A:Option Addr}{n c:Nat}{xs:List Fd}(LA:Option Addr)(ln lc:Nat)(w:World)(hV:EnvF w fs gs)(hF0:fF A n xs∈fs)(hv:mvF∈fs)(hN:A=none→c=0)(hF:full xs≤100000)(h:okA M most xs=true) :
  Calls Tryz.prog 39 #[.agg #[.int .i64 M,.slice A n c],.int .i64 most,.slice LA ln lc] w fun e w'=>∃g K A' c',e = .returned (.tuple #[.pointer (some ⟨g,0,none⟩),.int .i64 0])∧Below w.heap.size w w'∧
   EnvF w' (kF K::fF A' n xs::fs) ((g,rdc K most M A' n c' LA ln lc,64)::gs)∧(A'=none→c'=0)∧w.heap.size≤g:=by
 unfold okA okB at h
 simp only[Bool.and_eq_true,decide_eq_true_eq] at h
 obtain⟨hr,hm1,hm2⟩:=h
 obtain⟨hK,hL,hE⟩:=res_yes hr
 have hA:=hV.fs hF0
 have HZ:Hid (∀w0,Fs w0 w0.heap.size A n xs→Calls Tryz.prog 59 #[.agg #[.int .i64 M,.slice A n c],.int .i64 M] w0 fun e w'=>∃v,e = .returned (.tuple #[.agg #[.int .i64 M,v],.int .i64 0])∧OwnF w' w0.heap.size 27 v xs∧Below w0.heap.size w0 w'):=Lib.hid (fun w0 h0=>by
  have:=t_resize M A n c xs M w0 h0 hN hF
  rwa [hK,hL,hE] at this)
 have HL:=Lib.hid hA.1
 have d1:decide (most<0)=false:=decide_eq_false (by omega)
 have d2:decide (4096<most)=false:=decide_eq_false (by omega)
 have K0:=Lib.hid (hV.boxg 24 #[.int .i64 M,.slice A n c] (w.heap.size) rfl)
 have B0:Hid (Below w.heap.size w (w.alloc (.cells #[.int .i64 M,.slice A n c] 24))):=Lib.hid ((Below.refl _ w).alloc (Nat.le_refl _) (.cells #[.int .i64 M,.slice A n c] 24))
 have HF0:=Lib.hid hF0
 have HV:=Lib.hid hv
 clear hK hL hE hr hA hV hF0 hv hm1 hm2
 go_enter Tryz.func39,Tryz.ntmps39
 go_wp2_with (first
  | go_skip
  | (refine at_load 24 (.tmp 3) (by rfl) ?_;refine wpList_load_row (by rfl) 24 (.tmp 3) (by rfl) (w.heap.size) (by rfl) 24 #[.int .i64 M,.slice A n c] (0,0) _ (K0.out.row 0 rfl) Tryz.underlying24 (by rfl) infoc_T ?_)
  | (refine at_load 3 (.tmp 12) (by rfl) ?_;refine wpList_get (by rfl) 3 (.tmp 12) (by rfl) (w.heap.size) 0 (by rfl) 24 #[.int .i64 M,.slice A n c] (.int .i64 M) _ (K0.out.row 0 rfl) (by rfl) Tryz.underlying3 (by rfl) ?_)
  | (go_at_call 59;(have hc:=(HZ.out _ (K0.out.fs HF0.out)));(with_reducible refine hc.mono ?_);clear hc;rintro e w1 ⟨v,rfl,ho,hb⟩;obtain⟨A1,c1,rfl,hc1,hn1,_,_⟩:=ho.form2 HL.out;have K1:=Lib.hid ((K0.out.hand hb ho.handF).boxg 24 #[.int .i64 0,.slice none 0 0] w1.heap.size (by simp));have B1:Hid (Below w.heap.size w (w1.alloc (.cells #[.int .i64 0,.slice none 0 0] 24))):=Lib.hid ((below_step B0.out hb).alloc (below_step B0.out hb).size _);have hz1:=(below_step B0.out hb).size;clear hb ho K0 B0)
  | (refine at_store 24 (.tmp 8) (.tmp 15) (by rfl) ?_;refine wpList_put (by rfl) 24 (.tmp 8) (.tmp 15) (by rfl) (w1.heap.size) 0 (.agg #[.int .i64 (M),.slice A1 n c1]) (by rfl) (by rfl) 24 #[.int .i64 0,.slice none 0 0] #[.int .i64 (M),.slice A1 n c1] (K1.out.row 0 rfl) (by simp[Value.cells]) (by kernel_rfl) infoc_T (by kernel_rfl) ?_;intro w2 hrow hoth hz hbl;have K2:=Lib.hid (K1.out.turn 0 rfl hrow hoth hz);have B2:Hid (Below w.heap.size w w2):=Lib.hid (hbl _ _ hz1 B1.out);clear hrow hoth hz hbl K1 B1))
 have hb2:w1.heap.size<w2.heap.size:=(Array.getElem?_eq_some_iff.1 (K2.out.row 0 rfl)).1
 have HSW:Hid (∀W',w2.grownBy W' (some w2.heap.size)→W'.cell? ⟨0,0,none⟩=some (.int .u8 1)∧W'.cell? ⟨0,1,none⟩=some (.int .u8 1)∧W'.cell? ⟨2,0,none⟩=some (.int .u8 2)∧W'.cell? ⟨2,1,none⟩=some (.int .u8 1)∧W'.cell? ⟨1,0,none⟩=some (.int .u8 3)∧W'.cell? ⟨1,1,none⟩=some (.int .u8 1)∧W'.cell? ⟨3,0,none⟩=some (.int .u8 4)∧W'.cell? ⟨3,1,none⟩=some (.int .u8 1)∧W'.cell? ⟨4,0,none⟩=some (.int .u8 4)∧W'.cell? ⟨4,1,none⟩=some (.int .u8 0)∧W'.cell? ⟨w1.heap.size,0,none⟩=some (.int .i64 M)∧W'.cell? ⟨w1.heap.size,1,none⟩=some (.slice A1 n c1)):=Lib.hid (fun W' hg=>by
  have hb:=below_of_grown hg (Nat.le_refl _)
  have m:=EnvF.mks (K2.out.on hb) (by simp[HV.out])
  have t0:=cells2_row ((K2.out.on hb).row 0 rfl)
  exact⟨m.1.1,m.1.2,m.2.1.1,m.2.1.2,m.2.2.1.1,m.2.2.1.2,m.2.2.2.1.1,m.2.2.2.1.2,m.2.2.2.2.1,m.2.2.2.2.2,t0.1,t0.2⟩)
 refine us_region (fun wz hk hg=>?_) HSW.out
 unfold usF2
 go_wp2
 have hbz:=below_of_grown hg (Nat.le_refl _)
 have E1:=(((K2.out.on hbz).boxg 64 (rdc w2.heap.size most M A1 n c1 LA ln lc) wz.heap.size rfl))
 have hz:=hbz.size
 have hkl:=hk.lt
 have hbb:=B2.out.size
 have E2:=E1.fact (x:=kF w2.heap.size) (by
  obtain⟨l,hm,hl⟩:=hk
  exact⟨l,hm.below ((Below.refl _ wz).alloc (Nat.le_refl _) _),hl⟩) (fun k hk=>by
  cases hk
  refine⟨by rw[World.size_alloc];omega,fun y hy=>?_⟩
  rcases List.mem_cons.1 hy with rfl | hy
  ·simp only;omega
  ·have:=K2.out.lt hy;omega)
 go_ret2
 refine⟨wz.heap.size,rfl,(B2.out.trans (hbz.mono (by omega))).alloc (by omega) _,w2.heap.size,A1,c1,E2.sub (fun x hx=>?_) ?_,hn1,by omega⟩
 ·simp only[List.mem_cons] at hx ⊢
  rcases hx with rfl | rfl | hx<;>simp[*]
 ·simp only[List.set_cons_succ,List.set_cons_zero]
  exact List.Sublist.cons_cons _ ((List.sublist_cons_self _ _).trans (List.sublist_cons_self _ _))
end Go.Proofs.YtahiajeggbpogaaGreatDoor
