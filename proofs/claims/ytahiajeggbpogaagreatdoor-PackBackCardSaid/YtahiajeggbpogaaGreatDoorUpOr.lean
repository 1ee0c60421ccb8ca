import Derived.Test.YtahiajeggbpogaaGreatDoorUpOa
set_option maxRecDepth 100000
set_option maxHeartbeats 4000000
namespace Go.Proofs.YtahiajeggbpogaaGreatDoor
open Go.RowKit Go.Shelf Px Tx Tb Up GD
set_option linter.unusedVariables false
set_option linter.unusedSimpArgs false
set_option linter.unusedSectionVars false
theorem step_get{P:Program}{ops:Array Oper}{o:Oper}{a:Act}{w:World}{K:Act→World→Prop}{Q:Exit→Act→World→Prop}{E:Prop}(hgd:o.guard=none)(ty:TypeId)(x:Operand)(ho:o.op = .load ty x)
  (g k:Nat) (hx:a.eval x = .pointer (some ⟨g,k,none⟩)) (t:TypeId) (cs:Array Value) (v:Value) (d:TypeDesc) (hg:w.heap[g]? = some (.cells cs t)) (hv:cs[k]? = some v)
  (hu:P.underlying ty=some d) (hd:(match d with | .struct _ | .array _ _=>true | _=>false)=false)
  (h:K (a.put o.dst v) w):if Region.wanted o (yielded ops a.tmps)=true then Oper.wp P o a w K Q else E:=by
 have hw:Region.wanted o (yielded ops a.tmps)=true:=by simp[Region.wanted,hgd]
 rw[if_pos hw]
 exact wp_get ty x ho g k hx t cs v d hg hv hu hd h
namespace Up
theorem ixl{gs lb:List Bx}{i:Nat}{y:Bx}(h:gs[i]? = some y):(gs++lb)[i]? = some y:=by
 rw[List.getElem?_append_left (List.getElem?_eq_some_iff.1 h).1];exact h
theorem lt_ix{gs:List Bx}{i:Nat}{y:Bx}(h:gs[i]? = some y):i<gs.length:=(List.getElem?_eq_some_iff.1 h).1
theorem set_left{gs lb:List Bx}{i:Nat}{y:Bx}(h:i<gs.length):(gs++lb).set i y=gs.set i y++lb:=List.set_append_left i y h
section
variable {B:Nat}{V:Value}{L:List Fd}{lb:List Bx}{LA:Option Addr}{ln lc:Nat}{ov:Value}{G:Bool}{M:Int}{A:Option Addr}{n c S:Nat}{Y:Bool}
theorem lbox_one(h:LBox B V L lb) : ∃a l k,V = .slice a l k:=by
 obtain⟨LL,cl,e,_⟩:=h.form
 exact⟨_,_,_,e⟩
theorem lbox_put1(h:LBox B V L lb):1+V.cells.size≤(opc LA ln lc ov G M A n c S Y).size:=by
 obtain⟨a,l,k,rfl⟩:=lbox_one h
 simp[Value.cells,opc]
theorem lbox_put2(h:LBox B V L lb):upd (opc LA ln lc ov G M A n c S Y) 1 V.cells.toList=opc LA ln lc V G M A n c S Y:=by
 obtain⟨a,l,k,rfl⟩:=lbox_one h
 rfl
theorem lbox_put3(h:LBox B V L lb){i:Option Nat}(hi:i=some 1):i=some V.cells.size:=by
 obtain⟨a,l,k,rfl⟩:=lbox_one h
 rw[hi];rfl
theorem lbox_put4(h:LBox B V L lb):V.cells.toList.all (·.oneCell')=true:=by
 obtain⟨a,l,k,rfl⟩:=lbox_one h
 rfl
end
end Up
noncomputable def t2ops:List Oper:=opsOf 2 (Tryz.f67.body.getD .skip)
section
variable {w0:World}{fs:List Fact}{LA:Option Addr}{ln lc:Nat}{ov:Value}{G:Bool}{M:Int}{A:Option Addr}{n c S:Nat}{Y:Bool}{i g B gb:Nat}{f0 f1:ByteArray}{gl:List Bx}{s k:Nat}{v1 v2 v4 v5 v6 x1 x2 x3 x4 x5 x6 x7 x8 x9 y0 y1 y2 y3 y4 y5 y6 y7 y8 y9 z0 z1 z2 z3 z4 z5 z6 z7 z8 z9 j0 j1 j2 j3:Value}{KK:Act→World→Prop}(ho:gl[i]? = some (g,(opc LA ln lc ov G M A n c S Y),67))(hf:gl[k]? = some (gb,#[.string f0,.string f1],27))(hB:B≤g)(hBw:B≤w0.heap.size)(HS:Hid (∀W:World,Calls Tryz.prog 37 #[.agg #[.string f0,.string f1]] W fun e w'=>e = .returned (.int .i64 (s:Int))∧Below W.heap.size W w'))(hw1:IntKind.i64.wrap ((S:Int)+(s:Int))=((S+s:Nat):Int))(hR : ∀(w:World),EnvF w fs (gl.set i (g,(opc LA ln lc ov G M A n c (S+s) Y),67))→Below B w0 w→KK { tmps:=#[.pointer (some ⟨g,0,none⟩),v1,v2,.pointer (some ⟨gb,0,none⟩),v4,v5,v6,.pointer (some ⟨g,0,none⟩),.pointer (some ⟨g,0,none⟩),.pointer (some ⟨g,0,none⟩),.pointer (some ⟨g,5,none⟩),.int .i64 (S:Int),.agg #[.string f0,.string f1],.int .i64 (s:Int),.int .i64 ((S+s:Nat):Int),.pointer (some ⟨g,0,none⟩),.pointer (some ⟨g,5,none⟩),x7,x8,x9,y0,y1,y2,y3,y4,y5,y6,y7,y8,y9,z0,z1,z2,z3,z4,z5,z6,z7,z8,z9,j0,j1,j2,j3],defers:=[] } w)
include ho hf hB hBw HS hw1 hR
theorem t2_abc{w:World}(ls:Array Bool)(hl:ls=#[true,true,true,true,true,true,true,true,true,true,false])(K:EnvF w fs gl)(Bl:Below B w0 w) :
  wpAnyH Tryz.prog .any t2ops.toArray (Exit.then KK fun _ _ _=>False) (fun _=>True) 1 ls { tmps:=#[.pointer (some ⟨g,0,none⟩),v1,v2,.pointer (some ⟨gb,0,none⟩),v4,v5,v6,.pointer (some ⟨g,0,none⟩),.pointer (some ⟨g,0,none⟩),.pointer (some ⟨g,0,none⟩),.pointer (some ⟨g,5,none⟩),.int .i64 (S:Int),.agg #[.string f0,.string f1],.int .i64 (s:Int),.int .i64 ((S+s:Nat):Int),.pointer (some ⟨g,0,none⟩),.pointer (some ⟨g,5,none⟩),x7,x8,x9,y0,y1,y2,y3,y4,y5,y6,y7,y8,y9,z0,z1,z2,z3,z4,z5,z6,z7,z8,z9,j0,j1,j2,j3],defers:=[] } w:=by
 subst hl
 refine readyD (i:=10) rfl (by as_aux_lemma=>kernel_rfl) (fun K' hK=>?_)
 refine step_put (by rfl) 3 (.tmp 16) (.tmp 14) (by rfl) g 5 (.int .i64 ((S+s:Nat):Int)) (by rfl) (by rfl) 67 (opc LA ln lc ov G M A n c S Y) (opc LA ln lc ov G M A n c (S+s) Y) (K.row i ho) (by simp[Value.cells,opc]) (by kernel_rfl) infoc_i (by kernel_rfl) ?_
 intro w1 c1' c2' c3' c4'
 have K1:=K.turn i ho c1' c2' c3'
 have B1:=c4' _ _ hB Bl
 refine hK.out _ _ trivial (fun hH=>?_)
 clear hK K'
 try simp only[Act.put,List.setIfInBounds_toArray,List.set_cons_zero,List.set_cons_succ]
 refine wpAnyH_done (by as_aux_lemma=>kernel_rfl) ?_ _
 exact hR _ K1 B1
theorem t2_ab{w:World}(ls:Array Bool)(hl:ls=#[true,true,true,true,true,true,false,false,false,false,false])(K:EnvF w fs gl)(Bl:Below B w0 w) :
  wpAnyH Tryz.prog .any t2ops.toArray (Exit.then KK fun _ _ _=>False) (fun _=>True) 5 ls { tmps:=#[.pointer (some ⟨g,0,none⟩),v1,v2,.pointer (some ⟨gb,0,none⟩),v4,v5,v6,.pointer (some ⟨g,0,none⟩),.pointer (some ⟨g,0,none⟩),.pointer (some ⟨g,0,none⟩),.pointer (some ⟨g,5,none⟩),.int .i64 (S:Int),.agg #[.string f0,.string f1],x3,x4,x5,x6,x7,x8,x9,y0,y1,y2,y3,y4,y5,y6,y7,y8,y9,z0,z1,z2,z3,z4,z5,z6,z7,z8,z9,j0,j1,j2,j3],defers:=[] } w:=by
 subst hl
 refine wpAnyH_ready (rs:=[6]) (by as_aux_lemma=>kernel_rfl) (by simp) ?_
 refine AllReadyH.cons (getOf (i:=6) rfl) (fun K' hK=>?_) ?_
 ·
  go_simp
  go_at_call 37
  refine(HS.out w).mono ?_
  rintro e w2 ⟨rfl,hb⟩
  have K2:=K.on hb
  have B2:=Bl.trans (hb.mono (Nat.le_trans hBw Bl.size))
  refine hK.out _ _ trivial (fun hH=>?_)
  clear hK K'
  try simp only[Act.put,List.setIfInBounds_toArray,List.set_cons_zero,List.set_cons_succ]
  refine takeD (i:=7) (v:=?_) rfl (by as_aux_lemma=>kernel_rfl) (by as_aux_lemma=>kernel_rfl) (by as_aux_lemma=>kernel_rfl) (fun _ _ _ h=>h) (Or.inl ⟨by rfl,?_⟩) hH ?_
  rotate_left
  ·intro w hSw;(try dsimp only at hSw);go_simp;(first | rfl | (rw[hw1]) | simp[hw1])
  try simp only[Act.put,List.setIfInBounds_toArray,List.set_cons_zero,List.set_cons_succ]
  refine takeD (i:=8) (v:=?_) rfl (by as_aux_lemma=>kernel_rfl) (by as_aux_lemma=>kernel_rfl) (by as_aux_lemma=>kernel_rfl) (fun _ _ _ h=>h) (Or.inl ⟨by rfl,?_⟩) hH ?_
  rotate_left
  ·intro w hSw;(try dsimp only at hSw);go_simp<;>with_reducible rfl
  try simp only[Act.put,List.setIfInBounds_toArray,List.set_cons_zero,List.set_cons_succ]
  refine takeD (i:=9) (v:=?_) rfl (by as_aux_lemma=>kernel_rfl) (by as_aux_lemma=>kernel_rfl) (by as_aux_lemma=>kernel_rfl) (fun _ _ _ h=>h) (Or.inl ⟨by rfl,?_⟩) hH ?_
  rotate_left
  ·intro w hSw;(try dsimp only at hSw);go_simp<;>with_reducible rfl
  try simp only[Act.put,List.setIfInBounds_toArray,List.set_cons_zero,List.set_cons_succ]
  exact t2_abc ho hf hB hBw HS hw1 hR _ (by kernel_rfl) K2 B2
 exact AllReadyH.nil
theorem t2_bc{w:World}(ls:Array Bool)(hl:ls=#[true,true,true,true,false,true,true,false,false,false,false])(K:EnvF w fs gl)(Bl:Below B w0 w) :
  wpAnyH Tryz.prog .any t2ops.toArray (Exit.then KK fun _ _ _=>False) (fun _=>True) 5 ls { tmps:=#[.pointer (some ⟨g,0,none⟩),v1,v2,.pointer (some ⟨gb,0,none⟩),v4,v5,v6,.pointer (some ⟨g,0,none⟩),.pointer (some ⟨g,0,none⟩),.pointer (some ⟨g,0,none⟩),.pointer (some ⟨g,5,none⟩),x1,.agg #[.string f0,.string f1],.int .i64 (s:Int),x4,x5,x6,x7,x8,x9,y0,y1,y2,y3,y4,y5,y6,y7,y8,y9,z0,z1,z2,z3,z4,z5,z6,z7,z8,z9,j0,j1,j2,j3],defers:=[] } w:=by
 subst hl
 refine wpAnyH_ready (rs:=[4]) (by as_aux_lemma=>kernel_rfl) (by simp) ?_
 refine AllReadyH.cons (getOf (i:=4) rfl) (fun K' hK=>?_) ?_
 ·
  refine step_get (by rfl) 3 (.tmp 10) (by rfl) g 5 (by rfl) 67 (opc LA ln lc ov G M A n c S Y) (.int .i64 (S:Int)) _ (K.row i ho) (by rfl) Tryz.underlying3 (by rfl) ?_
  refine hK.out _ _ trivial (fun hH=>?_)
  clear hK K'
  try simp only[Act.put,List.setIfInBounds_toArray,List.set_cons_zero,List.set_cons_succ]
  refine takeD (i:=7) (v:=?_) rfl (by as_aux_lemma=>kernel_rfl) (by as_aux_lemma=>kernel_rfl) (by as_aux_lemma=>kernel_rfl) (fun _ _ _ h=>h) (Or.inl ⟨by rfl,?_⟩) hH ?_
  rotate_left
  ·intro w hSw;(try dsimp only at hSw);go_simp;(first | rfl | (rw[hw1]) | simp[hw1])
  try simp only[Act.put,List.setIfInBounds_toArray,List.set_cons_zero,List.set_cons_succ]
  refine takeD (i:=8) (v:=?_) rfl (by as_aux_lemma=>kernel_rfl) (by as_aux_lemma=>kernel_rfl) (by as_aux_lemma=>kernel_rfl) (fun _ _ _ h=>h) (Or.inl ⟨by rfl,?_⟩) hH ?_
  rotate_left
  ·intro w hSw;(try dsimp only at hSw);go_simp<;>with_reducible rfl
  try simp only[Act.put,List.setIfInBounds_toArray,List.set_cons_zero,List.set_cons_succ]
  refine takeD (i:=9) (v:=?_) rfl (by as_aux_lemma=>kernel_rfl) (by as_aux_lemma=>kernel_rfl) (by as_aux_lemma=>kernel_rfl) (fun _ _ _ h=>h) (Or.inl ⟨by rfl,?_⟩) hH ?_
  rotate_left
  ·intro w hSw;(try dsimp only at hSw);go_simp<;>with_reducible rfl
  try simp only[Act.put,List.setIfInBounds_toArray,List.set_cons_zero,List.set_cons_succ]
  exact t2_abc ho hf hB hBw HS hw1 hR _ (by kernel_rfl) K Bl
 exact AllReadyH.nil
theorem t2_a{w:World}(ls:Array Bool)(hl:ls=#[true,true,true,true,true,false,false,false,false,false,false])(K:EnvF w fs gl)(Bl:Below B w0 w) :
  wpAnyH Tryz.prog .any t2ops.toArray (Exit.then KK fun _ _ _=>False) (fun _=>True) 6 ls { tmps:=#[.pointer (some ⟨g,0,none⟩),v1,v2,.pointer (some ⟨gb,0,none⟩),v4,v5,v6,.pointer (some ⟨g,0,none⟩),.pointer (some ⟨g,0,none⟩),.pointer (some ⟨g,0,none⟩),.pointer (some ⟨g,5,none⟩),.int .i64 (S:Int),x2,x3,x4,x5,x6,x7,x8,x9,y0,y1,y2,y3,y4,y5,y6,y7,y8,y9,z0,z1,z2,z3,z4,z5,z6,z7,z8,z9,j0,j1,j2,j3],defers:=[] } w:=by
 subst hl
 refine wpAnyH_ready (rs:=[5]) (by as_aux_lemma=>kernel_rfl) (by simp) ?_
 refine AllReadyH.cons (getOf (i:=5) rfl) (fun K' hK=>?_) ?_
 ·
  refine step_load_row (by rfl) 27 (.tmp 3) (by rfl) gb (by rfl) 27 #[.string f0,.string f1] _ (K.row k hf) Tryz.underlying27 (by rfl) infoc_D ?_
  refine hK.out _ _ trivial (fun hH=>?_)
  clear hK K'
  try simp only[Act.put,List.setIfInBounds_toArray,List.set_cons_zero,List.set_cons_succ]
  exact t2_ab ho hf hB hBw HS hw1 hR _ (by kernel_rfl) K Bl
 exact AllReadyH.nil
theorem t2_b{w:World}(ls:Array Bool)(hl:ls=#[true,true,true,true,false,true,false,false,false,false,false])(K:EnvF w fs gl)(Bl:Below B w0 w) :
  wpAnyH Tryz.prog .any t2ops.toArray (Exit.then KK fun _ _ _=>False) (fun _=>True) 6 ls { tmps:=#[.pointer (some ⟨g,0,none⟩),v1,v2,.pointer (some ⟨gb,0,none⟩),v4,v5,v6,.pointer (some ⟨g,0,none⟩),.pointer (some ⟨g,0,none⟩),.pointer (some ⟨g,0,none⟩),.pointer (some ⟨g,5,none⟩),x1,.agg #[.string f0,.string f1],x3,x4,x5,x6,x7,x8,x9,y0,y1,y2,y3,y4,y5,y6,y7,y8,y9,z0,z1,z2,z3,z4,z5,z6,z7,z8,z9,j0,j1,j2,j3],defers:=[] } w:=by
 subst hl
 refine wpAnyH_ready (rs:=[4,6]) (by as_aux_lemma=>kernel_rfl) (by simp) ?_
 refine AllReadyH.cons (getOf (i:=4) rfl) (fun K' hK=>?_) ?_
 ·
  refine step_get (by rfl) 3 (.tmp 10) (by rfl) g 5 (by rfl) 67 (opc LA ln lc ov G M A n c S Y) (.int .i64 (S:Int)) _ (K.row i ho) (by rfl) Tryz.underlying3 (by rfl) ?_
  refine hK.out _ _ trivial (fun hH=>?_)
  clear hK K'
  try simp only[Act.put,List.setIfInBounds_toArray,List.set_cons_zero,List.set_cons_succ]
  exact t2_ab ho hf hB hBw HS hw1 hR _ (by kernel_rfl) K Bl
 refine AllReadyH.cons (getOf (i:=6) rfl) (fun K' hK=>?_) ?_
 ·
  go_simp
  go_at_call 37
  refine(HS.out w).mono ?_
  rintro e w2 ⟨rfl,hb⟩
  have K2:=K.on hb
  have B2:=Bl.trans (hb.mono (Nat.le_trans hBw Bl.size))
  refine hK.out _ _ trivial (fun hH=>?_)
  clear hK K'
  try simp only[Act.put,List.setIfInBounds_toArray,List.set_cons_zero,List.set_cons_succ]
  exact t2_bc ho hf hB hBw HS hw1 hR _ (by kernel_rfl) K2 B2
 exact AllReadyH.nil
theorem t2_0{w:World}(ls:Array Bool)(hl:ls=#[true,true,true,true,false,false,false,false,false,false,false])(K:EnvF w fs gl)(Bl:Below B w0 w) :
  wpAnyH Tryz.prog .any t2ops.toArray (Exit.then KK fun _ _ _=>False) (fun _=>True) 7 ls { tmps:=#[.pointer (some ⟨g,0,none⟩),v1,v2,.pointer (some ⟨gb,0,none⟩),v4,v5,v6,.pointer (some ⟨g,0,none⟩),.pointer (some ⟨g,0,none⟩),.pointer (some ⟨g,0,none⟩),.pointer (some ⟨g,5,none⟩),x1,x2,x3,x4,x5,x6,x7,x8,x9,y0,y1,y2,y3,y4,y5,y6,y7,y8,y9,z0,z1,z2,z3,z4,z5,z6,z7,z8,z9,j0,j1,j2,j3],defers:=[] } w:=by
 subst hl
 refine wpAnyH_ready (rs:=[4,5]) (by as_aux_lemma=>kernel_rfl) (by simp) ?_
 refine AllReadyH.cons (getOf (i:=4) rfl) (fun K' hK=>?_) ?_
 ·
  refine step_get (by rfl) 3 (.tmp 10) (by rfl) g 5 (by rfl) 67 (opc LA ln lc ov G M A n c S Y) (.int .i64 (S:Int)) _ (K.row i ho) (by rfl) Tryz.underlying3 (by rfl) ?_
  refine hK.out _ _ trivial (fun hH=>?_)
  clear hK K'
  try simp only[Act.put,List.setIfInBounds_toArray,List.set_cons_zero,List.set_cons_succ]
  exact t2_a ho hf hB hBw HS hw1 hR _ (by kernel_rfl) K Bl
 refine AllReadyH.cons (getOf (i:=5) rfl) (fun K' hK=>?_) ?_
 ·
  refine step_load_row (by rfl) 27 (.tmp 3) (by rfl) gb (by rfl) 27 #[.string f0,.string f1] _ (K.row k hf) Tryz.underlying27 (by rfl) infoc_D ?_
  refine hK.out _ _ trivial (fun hH=>?_)
  clear hK K'
  try simp only[Act.put,List.setIfInBounds_toArray,List.set_cons_zero,List.set_cons_succ]
  exact t2_b ho hf hB hBw HS hw1 hR _ (by kernel_rfl) K Bl
 exact AllReadyH.nil
end
theorem t2_region{w w0:World}{fs:List Fact}{LA:Option Addr}{ln lc:Nat}{ov:Value}{G:Bool}{M:Int}{A:Option Addr}{n c S:Nat}{Y:Bool}{i g B gb:Nat}{f0 f1:ByteArray}{gl:List Bx}{s k:Nat}{v1 v2 v4 v5 v6 v7 v8 v9 x0 x1 x2 x3 x4 x5 x6 x7 x8 x9 y0 y1 y2 y3 y4 y5 y6 y7 y8 y9 z0 z1 z2 z3 z4 z5 z6 z7 z8 z9 j0 j1 j2 j3:Value}{KK:Act→World→Prop}{Q:Exit→Act→World→Prop}(ho:gl[i]? = some (g,(opc LA ln lc ov G M A n c S Y),67))(hf:gl[k]? = some (gb,#[.string f0,.string f1],27))(hB:B≤g)(hBw:B≤w0.heap.size)(HS:Hid (∀W:World,Calls Tryz.prog 37 #[.agg #[.string f0,.string f1]] W fun e w'=>e = .returned (.int .i64 (s:Int))∧Below W.heap.size W w'))(hw1:IntKind.i64.wrap ((S:Int)+(s:Int))=((S+s:Nat):Int))(hR : ∀(w:World),EnvF w fs (gl.set i (g,(opc LA ln lc ov G M A n c (S+s) Y),67))→Below B w0 w→KK { tmps:=#[.pointer (some ⟨g,0,none⟩),v1,v2,.pointer (some ⟨gb,0,none⟩),v4,v5,v6,.pointer (some ⟨g,0,none⟩),.pointer (some ⟨g,0,none⟩),.pointer (some ⟨g,0,none⟩),.pointer (some ⟨g,5,none⟩),.int .i64 (S:Int),.agg #[.string f0,.string f1],.int .i64 (s:Int),.int .i64 ((S+s:Nat):Int),.pointer (some ⟨g,0,none⟩),.pointer (some ⟨g,5,none⟩),x7,x8,x9,y0,y1,y2,y3,y4,y5,y6,y7,y8,y9,z0,z1,z2,z3,z4,z5,z6,z7,z8,z9,j0,j1,j2,j3],defers:=[] } w)(K:EnvF w fs gl)(Bl:Below B w0 w) :
  (Code.region 2 t2ops.toArray true).wp Tryz.prog (Exit.then KK Q) { tmps:=#[.pointer (some ⟨g,0,none⟩),v1,v2,.pointer (some ⟨gb,0,none⟩),v4,v5,v6,v7,v8,v9,x0,x1,x2,x3,x4,x5,x6,x7,x8,x9,y0,y1,y2,y3,y4,y5,y6,y7,y8,y9,z0,z1,z2,z3,z4,z5,z6,z7,z8,z9,j0,j1,j2,j3],defers:=[] } w:=by
 refine Code.wp_mono (Q:=Exit.then KK fun _ _ _=>False) (fun e a w h=>by cases e<;>first | exact h | exact h.elim) ?_
 refine wp_region_held_drew (S:=(fun _=>True)) (by kernel_rfl) trivial (fun hH=>?_)
 refine takeD (i:=0) (v:=?_) rfl (by as_aux_lemma=>kernel_rfl) (by as_aux_lemma=>kernel_rfl) (by as_aux_lemma=>kernel_rfl) (fun _ _ _ h=>h) (Or.inl ⟨by rfl,?_⟩) hH ?_
 rotate_left
 ·intro w hSw;(try dsimp only at hSw);go_simp<;>with_reducible rfl
 try simp only[Act.put,List.setIfInBounds_toArray,List.set_cons_zero,List.set_cons_succ]
 refine takeD (i:=1) (v:=?_) rfl (by as_aux_lemma=>kernel_rfl) (by as_aux_lemma=>kernel_rfl) (by as_aux_lemma=>kernel_rfl) (fun _ _ _ h=>h) (Or.inl ⟨by rfl,?_⟩) hH ?_
 rotate_left
 ·intro w hSw;(try dsimp only at hSw);go_simp<;>with_reducible rfl
 try simp only[Act.put,List.setIfInBounds_toArray,List.set_cons_zero,List.set_cons_succ]
 refine takeD (i:=2) (v:=?_) rfl (by as_aux_lemma=>kernel_rfl) (by as_aux_lemma=>kernel_rfl) (by as_aux_lemma=>kernel_rfl) (fun _ _ _ h=>h) (Or.inl ⟨by rfl,?_⟩) hH ?_
 rotate_left
 ·intro w hSw;(try dsimp only at hSw);go_simp<;>with_reducible rfl
 try simp only[Act.put,List.setIfInBounds_toArray,List.set_cons_zero,List.set_cons_succ]
 refine takeD (i:=3) (v:=?_) rfl (by as_aux_lemma=>kernel_rfl) (by as_aux_lemma=>kernel_rfl) (by as_aux_lemma=>kernel_rfl) (fun _ _ _ h=>h) (Or.inl ⟨by rfl,?_⟩) hH ?_
 rotate_left
 ·intro w hSw;(try dsimp only at hSw);go_simp<;>with_reducible rfl
 try simp only[Act.put,List.setIfInBounds_toArray,List.set_cons_zero,List.set_cons_succ]
 exact t2_0 ho hf hB hBw HS hw1 hR _ (by kernel_rfl) K.drew Bl.drew
noncomputable def l15ops:List Oper:=opsOf 15 (Tryz.f68.body.getD .skip)
section
variable {w0:World}{fs:List Fact}{LA:Option Addr}{ln lc:Nat}{ov:Value}{G:Bool}{M:Int}{A:Option Addr}{n c S:Nat}{Y:Bool}{i g B gb:Nat}{f0 f1:ByteArray}{gl:List Bx}{k n2:Nat}{N E:Int}{xs ys:List Fd}{v1 v2 v3 v4 v5 v6 v7 v8 x0 x1 x2 x3 x4 x5 x6 x7 x8 x9 y0 y1 y2 y3 y4 y5 y6 y7 y8 y9 z0 z1 z2 z3 z4 z5 z6 z7 z8 z9 j0 j1 j2 j3 j4 j5 j6 j7 j8 j9 r0 r1 r2 r3 r9 q0 q1 q2 q3 q4 q5 q6:Value}{KK:Act→World→Prop}(ho:gl[i]? = some (g,(opc LA ln lc ov G M A n c S Y),67))(hf:gl[k]? = some (gb,#[.string f0,.string f1],27))(hx:fF A n xs∈fs)(hB:B≤g)(hBw:B≤w0.heap.size)(HAD:Hid (∀W:World,Fs W W.heap.size A n xs→Calls Tryz.prog 56 #[.agg #[.int .i64 M,.slice A n c],.agg #[.string f0,.string f1]] W fun e w'=>∃A2 c2,e = .returned (.tuple #[.agg #[.int .i64 N,.slice A2 n2 c2],.int .i64 E])∧HandF w' W.heap.size (fF A2 n2 ys)∧(A2=none→c2=0)∧Below W.heap.size W w'))(hR : ∀(A2:Option Addr) (c2:Nat) (w:World),EnvF w (fF A2 n2 ys::fs) (gl.set i (g,(opc LA ln lc ov G N A2 n2 c2 S Y),67))→(A2=none→c2=0)→Below B w0 w→KK { tmps:=#[.pointer (some ⟨g,0,none⟩),v1,v2,v3,v4,v5,v6,v7,v8,.pointer (some ⟨gb,0,none⟩),x0,x1,x2,x3,x4,x5,x6,x7,x8,x9,y0,y1,y2,y3,y4,y5,y6,y7,y8,y9,z0,z1,z2,z3,z4,z5,z6,z7,z8,z9,j0,j1,j2,j3,j4,j5,j6,j7,j8,j9,r0,r1,r2,.tuple #[.agg #[.int .i64 N,.slice A2 n2 c2],.int .i64 E],.pointer (some ⟨g,0,none⟩),.pointer (some ⟨g,0,none⟩),.pointer (some ⟨g,0,none⟩),.pointer (some ⟨g,1,none⟩),.pointer (some ⟨g,3,none⟩),.agg #[.int .i64 M,.slice A n c],.agg #[.string f0,.string f1],.tuple #[.agg #[.int .i64 N,.slice A2 n2 c2],.int .i64 E],.agg #[.int .i64 N,.slice A2 n2 c2],.int .i64 E,.pointer (some ⟨g,0,none⟩),.pointer (some ⟨g,1,none⟩),.pointer (some ⟨g,3,none⟩)],defers:=[] } w)
include ho hf hx hB hBw HAD hR
theorem l15_abc{A2:Option Addr}{c2:Nat}(hc2:A2=none→c2=0){w:World}(ls:Array Bool)(hl:ls=#[true,true,true,true,true,true,true,true,true,true,true,true,true,true,false])(K:EnvF w (fF A2 n2 ys::fs) gl)(Bl:Below B w0 w) :
  wpAnyH Tryz.prog .any l15ops.toArray (Exit.then KK fun _ _ _=>False) (fun _=>True) 1 ls { tmps:=#[.pointer (some ⟨g,0,none⟩),v1,v2,v3,v4,v5,v6,v7,v8,.pointer (some ⟨gb,0,none⟩),x0,x1,x2,x3,x4,x5,x6,x7,x8,x9,y0,y1,y2,y3,y4,y5,y6,y7,y8,y9,z0,z1,z2,z3,z4,z5,z6,z7,z8,z9,j0,j1,j2,j3,j4,j5,j6,j7,j8,j9,r0,r1,r2,.tuple #[.agg #[.int .i64 N,.slice A2 n2 c2],.int .i64 E],.pointer (some ⟨g,0,none⟩),.pointer (some ⟨g,0,none⟩),.pointer (some ⟨g,0,none⟩),.pointer (some ⟨g,1,none⟩),.pointer (some ⟨g,3,none⟩),.agg #[.int .i64 M,.slice A n c],.agg #[.string f0,.string f1],.tuple #[.agg #[.int .i64 N,.slice A2 n2 c2],.int .i64 E],.agg #[.int .i64 N,.slice A2 n2 c2],.int .i64 E,.pointer (some ⟨g,0,none⟩),.pointer (some ⟨g,1,none⟩),.pointer (some ⟨g,3,none⟩)],defers:=[] } w:=by
 subst hl
 refine readyD (i:=14) rfl (by as_aux_lemma=>kernel_rfl) (fun K' hK=>?_)
 refine step_put (by rfl) 24 (.tmp 66) (.tmp 62) (by rfl) g 3 (.agg #[.int .i64 N,.slice A2 n2 c2]) (by rfl) (by rfl) 67 (opc LA ln lc ov G M A n c S Y) (opc LA ln lc ov G N A2 n2 c2 S Y) (K.row i ho) (by simp[Value.cells,opc]) (by kernel_rfl) infoc_T (by kernel_rfl) ?_
 intro w1 c1' c2' c3' c4'
 have K1:=K.turn i ho c1' c2' c3'
 have B1:=c4' _ _ hB Bl
 refine hK.out _ _ trivial (fun hH=>?_)
 clear hK K'
 try simp only[Act.put,List.setIfInBounds_toArray,List.set_cons_zero,List.set_cons_succ]
 refine wpAnyH_done (by as_aux_lemma=>kernel_rfl) ?_ _
 exact hR _ _ _ K1 hc2 B1
theorem l15_ab{w:World}(ls:Array Bool)(hl:ls=#[true,true,true,true,true,true,true,false,false,false,false,false,false,false,false])(K:EnvF w fs gl)(Bl:Below B w0 w) :
  wpAnyH Tryz.prog .any l15ops.toArray (Exit.then KK fun _ _ _=>False) (fun _=>True) 8 ls { tmps:=#[.pointer (some ⟨g,0,none⟩),v1,v2,v3,v4,v5,v6,v7,v8,.pointer (some ⟨gb,0,none⟩),x0,x1,x2,x3,x4,x5,x6,x7,x8,x9,y0,y1,y2,y3,y4,y5,y6,y7,y8,y9,z0,z1,z2,z3,z4,z5,z6,z7,z8,z9,j0,j1,j2,j3,j4,j5,j6,j7,j8,j9,r0,r1,r2,r3,.pointer (some ⟨g,0,none⟩),.pointer (some ⟨g,0,none⟩),.pointer (some ⟨g,0,none⟩),.pointer (some ⟨g,1,none⟩),.pointer (some ⟨g,3,none⟩),.agg #[.int .i64 M,.slice A n c],.agg #[.string f0,.string f1],q1,q2,q3,q4,q5,q6],defers:=[] } w:=by
 subst hl
 refine wpAnyH_ready (rs:=[7]) (by as_aux_lemma=>kernel_rfl) (by simp) ?_
 refine AllReadyH.cons (getOf (i:=7) rfl) (fun K' hK=>?_) ?_
 ·
  go_simp
  go_at_call 56
  refine(HAD.out w (K.fs hx)).mono ?_
  rintro e w2 ⟨A2,c2,rfl,hh,hc2,hb⟩
  have K2:=K.hand hb hh
  have B2:=Bl.trans (hb.mono (Nat.le_trans hBw Bl.size))
  refine hK.out _ _ trivial (fun hH=>?_)
  clear hK K'
  try simp only[Act.put,List.setIfInBounds_toArray,List.set_cons_zero,List.set_cons_succ]
  refine takeD (i:=8) (v:=?_) rfl (by as_aux_lemma=>kernel_rfl) (by as_aux_lemma=>kernel_rfl) (by as_aux_lemma=>kernel_rfl) (fun _ _ _ h=>h) (Or.inl ⟨by rfl,?_⟩) hH ?_
  rotate_left
  ·intro w hSw;(try dsimp only at hSw);go_simp<;>with_reducible rfl
  try simp only[Act.put,List.setIfInBounds_toArray,List.set_cons_zero,List.set_cons_succ]
  refine takeD (i:=9) (v:=?_) rfl (by as_aux_lemma=>kernel_rfl) (by as_aux_lemma=>kernel_rfl) (by as_aux_lemma=>kernel_rfl) (fun _ _ _ h=>h) (Or.inl ⟨by rfl,?_⟩) hH ?_
  rotate_left
  ·intro w hSw;(try dsimp only at hSw);go_simp<;>with_reducible rfl
  try simp only[Act.put,List.setIfInBounds_toArray,List.set_cons_zero,List.set_cons_succ]
  refine takeD (i:=10) (v:=?_) rfl (by as_aux_lemma=>kernel_rfl) (by as_aux_lemma=>kernel_rfl) (by as_aux_lemma=>kernel_rfl) (fun _ _ _ h=>h) (Or.inl ⟨by rfl,?_⟩) hH ?_
  rotate_left
  ·intro w hSw;(try dsimp only at hSw);go_simp<;>with_reducible rfl
  try simp only[Act.put,List.setIfInBounds_toArray,List.set_cons_zero,List.set_cons_succ]
  refine takeD (i:=11) (v:=?_) rfl (by as_aux_lemma=>kernel_rfl) (by as_aux_lemma=>kernel_rfl) (by as_aux_lemma=>kernel_rfl) (fun _ _ _ h=>h) (Or.inl ⟨by rfl,?_⟩) hH ?_
  rotate_left
  ·intro w hSw;(try dsimp only at hSw);go_simp<;>with_reducible rfl
  try simp only[Act.put,List.setIfInBounds_toArray,List.set_cons_zero,List.set_cons_succ]
  refine takeD (i:=12) (v:=?_) rfl (by as_aux_lemma=>kernel_rfl) (by as_aux_lemma=>kernel_rfl) (by as_aux_lemma=>kernel_rfl) (fun _ _ _ h=>h) (Or.inl ⟨by rfl,?_⟩) hH ?_
  rotate_left
  ·intro w hSw;(try dsimp only at hSw);go_simp<;>with_reducible rfl
  try simp only[Act.put,List.setIfInBounds_toArray,List.set_cons_zero,List.set_cons_succ]
  refine takeD (i:=13) (v:=?_) rfl (by as_aux_lemma=>kernel_rfl) (by as_aux_lemma=>kernel_rfl) (by as_aux_lemma=>kernel_rfl) (fun _ _ _ h=>h) (Or.inl ⟨by rfl,?_⟩) hH ?_
  rotate_left
  ·intro w hSw;(try dsimp only at hSw);go_simp<;>with_reducible rfl
  try simp only[Act.put,List.setIfInBounds_toArray,List.set_cons_zero,List.set_cons_succ]
  exact l15_abc ho hf hx hB hBw HAD hR hc2 _ (by kernel_rfl) K2 B2
 exact AllReadyH.nil
theorem l15_a{w:World}(ls:Array Bool)(hl:ls=#[true,true,true,true,true,true,false,false,false,false,false,false,false,false,false])(K:EnvF w fs gl)(Bl:Below B w0 w) :
  wpAnyH Tryz.prog .any l15ops.toArray (Exit.then KK fun _ _ _=>False) (fun _=>True) 9 ls { tmps:=#[.pointer (some ⟨g,0,none⟩),v1,v2,v3,v4,v5,v6,v7,v8,.pointer (some ⟨gb,0,none⟩),x0,x1,x2,x3,x4,x5,x6,x7,x8,x9,y0,y1,y2,y3,y4,y5,y6,y7,y8,y9,z0,z1,z2,z3,z4,z5,z6,z7,z8,z9,j0,j1,j2,j3,j4,j5,j6,j7,j8,j9,r0,r1,r2,r3,.pointer (some ⟨g,0,none⟩),.pointer (some ⟨g,0,none⟩),.pointer (some ⟨g,0,none⟩),.pointer (some ⟨g,1,none⟩),.pointer (some ⟨g,3,none⟩),.agg #[.int .i64 M,.slice A n c],q0,q1,q2,q3,q4,q5,q6],defers:=[] } w:=by
 subst hl
 refine wpAnyH_ready (rs:=[6]) (by as_aux_lemma=>kernel_rfl) (by simp) ?_
 refine AllReadyH.cons (getOf (i:=6) rfl) (fun K' hK=>?_) ?_
 ·
  refine step_load_row (by rfl) 27 (.tmp 9) (by rfl) gb (by rfl) 27 #[.string f0,.string f1] _ (K.row k hf) Tryz.underlying27 (by rfl) infoc_D ?_
  refine hK.out _ _ trivial (fun hH=>?_)
  clear hK K'
  try simp only[Act.put,List.setIfInBounds_toArray,List.set_cons_zero,List.set_cons_succ]
  exact l15_ab ho hf hx hB hBw HAD hR _ (by kernel_rfl) K Bl
 exact AllReadyH.nil
theorem l15_b{w:World}(ls:Array Bool)(hl:ls=#[true,true,true,true,true,false,true,false,false,false,false,false,false,false,false])(K:EnvF w fs gl)(Bl:Below B w0 w) :
  wpAnyH Tryz.prog .any l15ops.toArray (Exit.then KK fun _ _ _=>False) (fun _=>True) 9 ls { tmps:=#[.pointer (some ⟨g,0,none⟩),v1,v2,v3,v4,v5,v6,v7,v8,.pointer (some ⟨gb,0,none⟩),x0,x1,x2,x3,x4,x5,x6,x7,x8,x9,y0,y1,y2,y3,y4,y5,y6,y7,y8,y9,z0,z1,z2,z3,z4,z5,z6,z7,z8,z9,j0,j1,j2,j3,j4,j5,j6,j7,j8,j9,r0,r1,r2,r3,.pointer (some ⟨g,0,none⟩),.pointer (some ⟨g,0,none⟩),.pointer (some ⟨g,0,none⟩),.pointer (some ⟨g,1,none⟩),.pointer (some ⟨g,3,none⟩),r9,.agg #[.string f0,.string f1],q1,q2,q3,q4,q5,q6],defers:=[] } w:=by
 subst hl
 refine wpAnyH_ready (rs:=[5]) (by as_aux_lemma=>kernel_rfl) (by simp) ?_
 refine AllReadyH.cons (getOf (i:=5) rfl) (fun K' hK=>?_) ?_
 ·
  refine step_part (by rfl) 24 (.tmp 58) (by rfl) g 3 (by rfl) 67 (opc LA ln lc ov G M A n c S Y) #[.int .i64 M,.slice A n c] _ (K.row i ho) (part2 (by rfl) (by rfl)) Tryz.underlying24 (by rfl) infoc_T ?_
  refine hK.out _ _ trivial (fun hH=>?_)
  clear hK K'
  try simp only[Act.put,List.setIfInBounds_toArray,List.set_cons_zero,List.set_cons_succ]
  exact l15_ab ho hf hx hB hBw HAD hR _ (by kernel_rfl) K Bl
 exact AllReadyH.nil
theorem l15_0{w:World}(ls:Array Bool)(hl:ls=#[true,true,true,true,true,false,false,false,false,false,false,false,false,false,false])(K:EnvF w fs gl)(Bl:Below B w0 w) :
  wpAnyH Tryz.prog .any l15ops.toArray (Exit.then KK fun _ _ _=>False) (fun _=>True) 10 ls { tmps:=#[.pointer (some ⟨g,0,none⟩),v1,v2,v3,v4,v5,v6,v7,v8,.pointer (some ⟨gb,0,none⟩),x0,x1,x2,x3,x4,x5,x6,x7,x8,x9,y0,y1,y2,y3,y4,y5,y6,y7,y8,y9,z0,z1,z2,z3,z4,z5,z6,z7,z8,z9,j0,j1,j2,j3,j4,j5,j6,j7,j8,j9,r0,r1,r2,r3,.pointer (some ⟨g,0,none⟩),.pointer (some ⟨g,0,none⟩),.pointer (some ⟨g,0,none⟩),.pointer (some ⟨g,1,none⟩),.pointer (some ⟨g,3,none⟩),r9,q0,q1,q2,q3,q4,q5,q6],defers:=[] } w:=by
 subst hl
 refine wpAnyH_ready (rs:=[5,6]) (by as_aux_lemma=>kernel_rfl) (by simp) ?_
 refine AllReadyH.cons (getOf (i:=5) rfl) (fun K' hK=>?_) ?_
 ·
  refine step_part (by rfl) 24 (.tmp 58) (by rfl) g 3 (by rfl) 67 (opc LA ln lc ov G M A n c S Y) #[.int .i64 M,.slice A n c] _ (K.row i ho) (part2 (by rfl) (by rfl)) Tryz.underlying24 (by rfl) infoc_T ?_
  refine hK.out _ _ trivial (fun hH=>?_)
  clear hK K'
  try simp only[Act.put,List.setIfInBounds_toArray,List.set_cons_zero,List.set_cons_succ]
  exact l15_a ho hf hx hB hBw HAD hR _ (by kernel_rfl) K Bl
 refine AllReadyH.cons (getOf (i:=6) rfl) (fun K' hK=>?_) ?_
 ·
  refine step_load_row (by rfl) 27 (.tmp 9) (by rfl) gb (by rfl) 27 #[.string f0,.string f1] _ (K.row k hf) Tryz.underlying27 (by rfl) infoc_D ?_
  refine hK.out _ _ trivial (fun hH=>?_)
  clear hK K'
  try simp only[Act.put,List.setIfInBounds_toArray,List.set_cons_zero,List.set_cons_succ]
  exact l15_b ho hf hx hB hBw HAD hR _ (by kernel_rfl) K Bl
 exact AllReadyH.nil
end
theorem l15_region{w w0:World}{fs:List Fact}{LA:Option Addr}{ln lc:Nat}{ov:Value}{G:Bool}{M:Int}{A:Option Addr}{n c S:Nat}{Y:Bool}{i g B gb:Nat}{f0 f1:ByteArray}{gl:List Bx}{k n2:Nat}{N E:Int}{xs ys:List Fd}{v1 v2 v3 v4 v5 v6 v7 v8 x0 x1 x2 x3 x4 x5 x6 x7 x8 x9 y0 y1 y2 y3 y4 y5 y6 y7 y8 y9 z0 z1 z2 z3 z4 z5 z6 z7 z8 z9 j0 j1 j2 j3 j4 j5 j6 j7 j8 j9 r0 r1 r2 r3 r4 r5 r6 r7 r8 r9 q0 q1 q2 q3 q4 q5 q6:Value}{KK:Act→World→Prop}{Q:Exit→Act→World→Prop}(ho:gl[i]? = some (g,(opc LA ln lc ov G M A n c S Y),67))(hf:gl[k]? = some (gb,#[.string f0,.string f1],27))(hx:fF A n xs∈fs)(hB:B≤g)(hBw:B≤w0.heap.size)(HAD:Hid (∀W:World,Fs W W.heap.size A n xs→Calls Tryz.prog 56 #[.agg #[.int .i64 M,.slice A n c],.agg #[.string f0,.string f1]] W fun e w'=>∃A2 c2,e = .returned (.tuple #[.agg #[.int .i64 N,.slice A2 n2 c2],.int .i64 E])∧HandF w' W.heap.size (fF A2 n2 ys)∧(A2=none→c2=0)∧Below W.heap.size W w'))(hR : ∀(A2:Option Addr) (c2:Nat) (w:World),EnvF w (fF A2 n2 ys::fs) (gl.set i (g,(opc LA ln lc ov G N A2 n2 c2 S Y),67))→(A2=none→c2=0)→Below B w0 w→KK { tmps:=#[.pointer (some ⟨g,0,none⟩),v1,v2,v3,v4,v5,v6,v7,v8,.pointer (some ⟨gb,0,none⟩),x0,x1,x2,x3,x4,x5,x6,x7,x8,x9,y0,y1,y2,y3,y4,y5,y6,y7,y8,y9,z0,z1,z2,z3,z4,z5,z6,z7,z8,z9,j0,j1,j2,j3,j4,j5,j6,j7,j8,j9,r0,r1,r2,.tuple #[.agg #[.int .i64 N,.slice A2 n2 c2],.int .i64 E],.pointer (some ⟨g,0,none⟩),.pointer (some ⟨g,0,none⟩),.pointer (some ⟨g,0,none⟩),.pointer (some ⟨g,1,none⟩),.pointer (some ⟨g,3,none⟩),.agg #[.int .i64 M,.slice A n c],.agg #[.string f0,.string f1],.tuple #[.agg #[.int .i64 N,.slice A2 n2 c2],.int .i64 E],.agg #[.int .i64 N,.slice A2 n2 c2],.int .i64 E,.pointer (some ⟨g,0,none⟩),.pointer (some ⟨g,1,none⟩),.pointer (some ⟨g,3,none⟩)],defers:=[] } w)(K:EnvF w fs gl)(Bl:Below B w0 w) :
  (Code.region 15 l15ops.toArray true).wp Tryz.prog (Exit.then KK Q) { tmps:=#[.pointer (some ⟨g,0,none⟩),v1,v2,v3,v4,v5,v6,v7,v8,.pointer (some ⟨gb,0,none⟩),x0,x1,x2,x3,x4,x5,x6,x7,x8,x9,y0,y1,y2,y3,y4,y5,y6,y7,y8,y9,z0,z1,z2,z3,z4,z5,z6,z7,z8,z9,j0,j1,j2,j3,j4,j5,j6,j7,j8,j9,r0,r1,r2,r3,r4,r5,r6,r7,r8,r9,q0,q1,q2,q3,q4,q5,q6],defers:=[] } w:=by
 refine Code.wp_mono (Q:=Exit.then KK fun _ _ _=>False) (fun e a w h=>by cases e<;>first | exact h | exact h.elim) ?_
 refine wp_region_held_drew (S:=(fun _=>True)) (by kernel_rfl) trivial (fun hH=>?_)
 refine takeD (i:=0) (v:=?_) rfl (by as_aux_lemma=>kernel_rfl) (by as_aux_lemma=>kernel_rfl) (by as_aux_lemma=>kernel_rfl) (fun _ _ _ h=>h) (Or.inl ⟨by rfl,?_⟩) hH ?_
 rotate_left
 ·intro w hSw;(try dsimp only at hSw);go_simp<;>with_reducible rfl
 try simp only[Act.put,List.setIfInBounds_toArray,List.set_cons_zero,List.set_cons_succ]
 refine takeD (i:=1) (v:=?_) rfl (by as_aux_lemma=>kernel_rfl) (by as_aux_lemma=>kernel_rfl) (by as_aux_lemma=>kernel_rfl) (fun _ _ _ h=>h) (Or.inl ⟨by rfl,?_⟩) hH ?_
 rotate_left
 ·intro w hSw;(try dsimp only at hSw);go_simp<;>with_reducible rfl
 try simp only[Act.put,List.setIfInBounds_toArray,List.set_cons_zero,List.set_cons_succ]
 refine takeD (i:=2) (v:=?_) rfl (by as_aux_lemma=>kernel_rfl) (by as_aux_lemma=>kernel_rfl) (by as_aux_lemma=>kernel_rfl) (fun _ _ _ h=>h) (Or.inl ⟨by rfl,?_⟩) hH ?_
 rotate_left
 ·intro w hSw;(try dsimp only at hSw);go_simp<;>with_reducible rfl
 try simp only[Act.put,List.setIfInBounds_toArray,List.set_cons_zero,List.set_cons_succ]
 refine takeD (i:=3) (v:=?_) rfl (by as_aux_lemma=>kernel_rfl) (by as_aux_lemma=>kernel_rfl) (by as_aux_lemma=>kernel_rfl) (fun _ _ _ h=>h) (Or.inl ⟨by rfl,?_⟩) hH ?_
 rotate_left
 ·intro w hSw;(try dsimp only at hSw);go_simp<;>with_reducible rfl
 try simp only[Act.put,List.setIfInBounds_toArray,List.set_cons_zero,List.set_cons_succ]
 refine takeD (i:=4) (v:=?_) rfl (by as_aux_lemma=>kernel_rfl) (by as_aux_lemma=>kernel_rfl) (by as_aux_lemma=>kernel_rfl) (fun _ _ _ h=>h) (Or.inl ⟨by rfl,?_⟩) hH ?_
 rotate_left
 ·intro w hSw;(try dsimp only at hSw);go_simp<;>with_reducible rfl
 try simp only[Act.put,List.setIfInBounds_toArray,List.set_cons_zero,List.set_cons_succ]
 exact l15_0 ho hf hx hB hBw HAD hR _ (by kernel_rfl) K.drew Bl.drew
noncomputable def t6ops:List Oper:=opsOf 6 (Tryz.f67.body.getD .skip)
section
variable {w0:World}{fs:List Fact}{LA:Option Addr}{ln lc:Nat}{ov:Value}{G:Bool}{M:Int}{A:Option Addr}{n c S:Nat}{Y:Bool}{i g B gb:Nat}{f0 f1:ByteArray}{gs lb:List Bx}{k:Nat}{L:List Fd}{v1 v2 v4 v5 v6 v7 v8 v9 x0 x1 x2 x3 x4 x5 x6 x7 x8 x9 y0 y1 y2 y3 y4 y5 y6 y7 y8 y9 z0 z1 z7 z8 z9 j0 j1 j2 j3:Value}{KK:Act→World→Prop}(ho:gs[i]? = some (g,(opc LA ln lc ov G M A n c S Y),67))(hf:gs[k]? = some (gb,#[.string f0,.string f1],27))(hlb:LBox B ov L lb)(hlen:L.length≤100000)(hB:B≤g)(hBw:B≤w0.heap.size)(hR : ∀(V:Value) (lc2:List Bx) (gc:Nat) (w:World),LBox B V (L++[(f0,f1)]) lc2→EnvF w fs (gs.set i (g,(opc LA ln lc V G M A n c S Y),67)++lc2)→Below B w0 w→KK { tmps:=#[.pointer (some ⟨g,0,none⟩),v1,v2,.pointer (some ⟨gb,0,none⟩),v4,v5,v6,v7,v8,v9,x0,x1,x2,x3,x4,x5,x6,x7,x8,x9,y0,y1,y2,y3,y4,y5,y6,y7,y8,y9,z0,z1,.pointer (some ⟨g,0,none⟩),.pointer (some ⟨g,0,none⟩),.pointer (some ⟨g,0,none⟩),.pointer (some ⟨g,1,none⟩),.pointer (some ⟨g,1,none⟩),ov,.agg #[.string f0,.string f1],.slice (some ⟨gc,0,none⟩) 1 1,V,.pointer (some ⟨g,0,none⟩),.pointer (some ⟨g,1,none⟩),.pointer (some ⟨g,1,none⟩)],defers:=[] } w)
include ho hf hlb hlen hB hBw hR
theorem t6_abcd{gc:Nat}{V:Value}{lc2:List Bx}(hl2:LBox B V (L++[(f0,f1)]) lc2){w:World}(ls:Array Bool)(hl:ls=#[true,true,true,true,true,true,true,true,true,true,true,true,false])(K:EnvF w (fF (some ⟨gc,0,none⟩) 1 [(f0,f1)]::fs) (gs++lc2))(Bl:Below B w0 w) :
  wpAnyH Tryz.prog .any t6ops.toArray (Exit.then KK fun _ _ _=>False) (fun _=>True) 1 ls { tmps:=#[.pointer (some ⟨g,0,none⟩),v1,v2,.pointer (some ⟨gb,0,none⟩),v4,v5,v6,v7,v8,v9,x0,x1,x2,x3,x4,x5,x6,x7,x8,x9,y0,y1,y2,y3,y4,y5,y6,y7,y8,y9,z0,z1,.pointer (some ⟨g,0,none⟩),.pointer (some ⟨g,0,none⟩),.pointer (some ⟨g,0,none⟩),.pointer (some ⟨g,1,none⟩),.pointer (some ⟨g,1,none⟩),ov,.agg #[.string f0,.string f1],.slice (some ⟨gc,0,none⟩) 1 1,V,.pointer (some ⟨g,0,none⟩),.pointer (some ⟨g,1,none⟩),.pointer (some ⟨g,1,none⟩)],defers:=[] } w:=by
 subst hl
 refine readyD (i:=12) rfl (by as_aux_lemma=>kernel_rfl) (fun K' hK=>?_)
 refine step_put (by rfl) 22 (.tmp 43) (.tmp 40) (by rfl) g 1 V (by rfl) (by rfl) 67 (opc LA ln lc ov G M A n c S Y) (opc LA ln lc V G M A n c S Y) (K.row i (ixl ho)) (lbox_put1 hl2) (lbox_put2 hl2) (lbox_put3 hl2 infoc_L) (lbox_put4 hl2) ?_
 intro w1 c1' c2' c3' c4'
 have K1:=K.turn i (ixl ho) c1' c2' c3'
 rw[set_left (lt_ix ho)] at K1
 have B1:=c4' _ _ hB Bl
 refine hK.out _ _ trivial (fun hH=>?_)
 clear hK K'
 try simp only[Act.put,List.setIfInBounds_toArray,List.set_cons_zero,List.set_cons_succ]
 refine wpAnyH_done (by as_aux_lemma=>kernel_rfl) ?_ _
 exact hR _ _ _ _ hl2 (K1.sub (fun x hx=>List.mem_cons_of_mem _ hx) (List.Sublist.refl _)) B1
theorem t6_abc{gc:Nat}{w:World}(ls:Array Bool)(hl:ls=#[true,true,true,true,true,true,true,true,false,false,false,false,false])(K:EnvF w (fF (some ⟨gc,0,none⟩) 1 [(f0,f1)]::fs) (gs++lb))(Bl:Below B w0 w) :
  wpAnyH Tryz.prog .any t6ops.toArray (Exit.then KK fun _ _ _=>False) (fun _=>True) 5 ls { tmps:=#[.pointer (some ⟨g,0,none⟩),v1,v2,.pointer (some ⟨gb,0,none⟩),v4,v5,v6,v7,v8,v9,x0,x1,x2,x3,x4,x5,x6,x7,x8,x9,y0,y1,y2,y3,y4,y5,y6,y7,y8,y9,z0,z1,.pointer (some ⟨g,0,none⟩),.pointer (some ⟨g,0,none⟩),.pointer (some ⟨g,0,none⟩),.pointer (some ⟨g,1,none⟩),.pointer (some ⟨g,1,none⟩),ov,.agg #[.string f0,.string f1],.slice (some ⟨gc,0,none⟩) 1 1,j0,j1,j2,j3],defers:=[] } w:=by
 subst hl
 refine wpAnyH_ready (rs:=[8]) (by as_aux_lemma=>kernel_rfl) (by simp) ?_
 refine AllReadyH.cons (getOf (i:=8) rfl) (fun K' hK=>?_) ?_
 ·
  obtain⟨i0,hi,hz0,hz1,hz2⟩:=info_parts info_fld
  refine step_append_flds _ (by rfl) (.tmp 37) (.tmp 39) 22 (by rfl) B 27 i0 Tryz.underlying22 hi hz0 hz1 hz2 ov L (by rfl) (hlb.own K (fun y hy=>List.mem_append_right _ hy)) _ (some ⟨gc,0,none⟩) 1 1 [(f0,f1)] (by rfl) (K.fs (A:=some ⟨gc,0,none⟩) (n:=1) (xs:=[(f0,f1)]) (List.mem_cons_self ..)) (fun h=>by cases h) (by omega) (Nat.le_trans hBw Bl.size) ?_
  intro V w2 ho2 hb hg hv
  obtain⟨lc2,hl2,K2⟩:=lbox_append (gs:=gs) (lb:=lb) K hlb ho2 hg hv
  have B2:=Bl.trans hb
  refine hK.out _ _ trivial (fun hH=>?_)
  clear hK K'
  try simp only[Act.put,List.setIfInBounds_toArray,List.set_cons_zero,List.set_cons_succ]
  refine takeD (i:=9) (v:=?_) rfl (by as_aux_lemma=>kernel_rfl) (by as_aux_lemma=>kernel_rfl) (by as_aux_lemma=>kernel_rfl) (fun _ _ _ h=>h) (Or.inl ⟨by rfl,?_⟩) hH ?_
  rotate_left
  ·intro w hSw;(try dsimp only at hSw);go_simp<;>with_reducible rfl
  try simp only[Act.put,List.setIfInBounds_toArray,List.set_cons_zero,List.set_cons_succ]
  refine takeD (i:=10) (v:=?_) rfl (by as_aux_lemma=>kernel_rfl) (by as_aux_lemma=>kernel_rfl) (by as_aux_lemma=>kernel_rfl) (fun _ _ _ h=>h) (Or.inl ⟨by rfl,?_⟩) hH ?_
  rotate_left
  ·intro w hSw;(try dsimp only at hSw);go_simp<;>with_reducible rfl
  try simp only[Act.put,List.setIfInBounds_toArray,List.set_cons_zero,List.set_cons_succ]
  refine takeD (i:=11) (v:=?_) rfl (by as_aux_lemma=>kernel_rfl) (by as_aux_lemma=>kernel_rfl) (by as_aux_lemma=>kernel_rfl) (fun _ _ _ h=>h) (Or.inl ⟨by rfl,?_⟩) hH ?_
  rotate_left
  ·intro w hSw;(try dsimp only at hSw);go_simp<;>with_reducible rfl
  try simp only[Act.put,List.setIfInBounds_toArray,List.set_cons_zero,List.set_cons_succ]
  exact t6_abcd ho hf hlb hlen hB hBw hR hl2 _ (by kernel_rfl) K2 B2
 exact AllReadyH.nil
theorem t6_ab{w:World}(ls:Array Bool)(hl:ls=#[true,true,true,true,true,true,true,false,false,false,false,false,false])(K:EnvF w fs (gs++lb))(Bl:Below B w0 w) :
  wpAnyH Tryz.prog .any t6ops.toArray (Exit.then KK fun _ _ _=>False) (fun _=>True) 6 ls { tmps:=#[.pointer (some ⟨g,0,none⟩),v1,v2,.pointer (some ⟨gb,0,none⟩),v4,v5,v6,v7,v8,v9,x0,x1,x2,x3,x4,x5,x6,x7,x8,x9,y0,y1,y2,y3,y4,y5,y6,y7,y8,y9,z0,z1,.pointer (some ⟨g,0,none⟩),.pointer (some ⟨g,0,none⟩),.pointer (some ⟨g,0,none⟩),.pointer (some ⟨g,1,none⟩),.pointer (some ⟨g,1,none⟩),ov,.agg #[.string f0,.string f1],z9,j0,j1,j2,j3],defers:=[] } w:=by
 subst hl
 refine wpAnyH_ready (rs:=[7]) (by as_aux_lemma=>kernel_rfl) (by simp) ?_
 refine AllReadyH.cons (getOf (i:=7) rfl) (fun K' hK=>?_) ?_
 ·
  go_simp
  have K2:=K.litf 27 [(f0,f1)] #[.string f0,.string f1] (by simp[fdc]) 1 rfl w.heap.size rfl
  have B2:=Bl.alloc (Nat.le_trans hBw Bl.size) (.cells #[.string f0,.string f1] 27)
  refine hK.out _ _ trivial (fun hH=>?_)
  clear hK K'
  try simp only[Act.put,List.setIfInBounds_toArray,List.set_cons_zero,List.set_cons_succ]
  exact t6_abc ho hf hlb hlen hB hBw hR _ (by kernel_rfl) K2 B2
 exact AllReadyH.nil
theorem t6_bc{gc:Nat}{w:World}(ls:Array Bool)(hl:ls=#[true,true,true,true,true,false,true,true,false,false,false,false,false])(K:EnvF w (fF (some ⟨gc,0,none⟩) 1 [(f0,f1)]::fs) (gs++lb))(Bl:Below B w0 w) :
  wpAnyH Tryz.prog .any t6ops.toArray (Exit.then KK fun _ _ _=>False) (fun _=>True) 6 ls { tmps:=#[.pointer (some ⟨g,0,none⟩),v1,v2,.pointer (some ⟨gb,0,none⟩),v4,v5,v6,v7,v8,v9,x0,x1,x2,x3,x4,x5,x6,x7,x8,x9,y0,y1,y2,y3,y4,y5,y6,y7,y8,y9,z0,z1,.pointer (some ⟨g,0,none⟩),.pointer (some ⟨g,0,none⟩),.pointer (some ⟨g,0,none⟩),.pointer (some ⟨g,1,none⟩),.pointer (some ⟨g,1,none⟩),z7,.agg #[.string f0,.string f1],.slice (some ⟨gc,0,none⟩) 1 1,j0,j1,j2,j3],defers:=[] } w:=by
 subst hl
 refine wpAnyH_ready (rs:=[5]) (by as_aux_lemma=>kernel_rfl) (by simp) ?_
 refine AllReadyH.cons (getOf (i:=5) rfl) (fun K' hK=>?_) ?_
 ·
  refine step_get (by rfl) 22 (.tmp 36) (by rfl) g 1 (by rfl) 67 (opc LA ln lc ov G M A n c S Y) ov _ (K.row i (ixl ho)) (by rfl) Tryz.underlying22 (by rfl) ?_
  refine hK.out _ _ trivial (fun hH=>?_)
  clear hK K'
  try simp only[Act.put,List.setIfInBounds_toArray,List.set_cons_zero,List.set_cons_succ]
  exact t6_abc ho hf hlb hlen hB hBw hR _ (by kernel_rfl) K Bl
 exact AllReadyH.nil
theorem t6_a{w:World}(ls:Array Bool)(hl:ls=#[true,true,true,true,true,true,false,false,false,false,false,false,false])(K:EnvF w fs (gs++lb))(Bl:Below B w0 w) :
  wpAnyH Tryz.prog .any t6ops.toArray (Exit.then KK fun _ _ _=>False) (fun _=>True) 7 ls { tmps:=#[.pointer (some ⟨g,0,none⟩),v1,v2,.pointer (some ⟨gb,0,none⟩),v4,v5,v6,v7,v8,v9,x0,x1,x2,x3,x4,x5,x6,x7,x8,x9,y0,y1,y2,y3,y4,y5,y6,y7,y8,y9,z0,z1,.pointer (some ⟨g,0,none⟩),.pointer (some ⟨g,0,none⟩),.pointer (some ⟨g,0,none⟩),.pointer (some ⟨g,1,none⟩),.pointer (some ⟨g,1,none⟩),ov,z8,z9,j0,j1,j2,j3],defers:=[] } w:=by
 subst hl
 refine wpAnyH_ready (rs:=[6]) (by as_aux_lemma=>kernel_rfl) (by simp) ?_
 refine AllReadyH.cons (getOf (i:=6) rfl) (fun K' hK=>?_) ?_
 ·
  refine step_load_row (by rfl) 27 (.tmp 3) (by rfl) gb (by rfl) 27 #[.string f0,.string f1] _ (K.row k (ixl hf)) Tryz.underlying27 (by rfl) infoc_D ?_
  refine hK.out _ _ trivial (fun hH=>?_)
  clear hK K'
  try simp only[Act.put,List.setIfInBounds_toArray,List.set_cons_zero,List.set_cons_succ]
  exact t6_ab ho hf hlb hlen hB hBw hR _ (by kernel_rfl) K Bl
 exact AllReadyH.nil
theorem t6_b{w:World}(ls:Array Bool)(hl:ls=#[true,true,true,true,true,false,true,false,false,false,false,false,false])(K:EnvF w fs (gs++lb))(Bl:Below B w0 w) :
  wpAnyH Tryz.prog .any t6ops.toArray (Exit.then KK fun _ _ _=>False) (fun _=>True) 7 ls { tmps:=#[.pointer (some ⟨g,0,none⟩),v1,v2,.pointer (some ⟨gb,0,none⟩),v4,v5,v6,v7,v8,v9,x0,x1,x2,x3,x4,x5,x6,x7,x8,x9,y0,y1,y2,y3,y4,y5,y6,y7,y8,y9,z0,z1,.pointer (some ⟨g,0,none⟩),.pointer (some ⟨g,0,none⟩),.pointer (some ⟨g,0,none⟩),.pointer (some ⟨g,1,none⟩),.pointer (some ⟨g,1,none⟩),z7,.agg #[.string f0,.string f1],z9,j0,j1,j2,j3],defers:=[] } w:=by
 subst hl
 refine wpAnyH_ready (rs:=[5,7]) (by as_aux_lemma=>kernel_rfl) (by simp) ?_
 refine AllReadyH.cons (getOf (i:=5) rfl) (fun K' hK=>?_) ?_
 ·
  refine step_get (by rfl) 22 (.tmp 36) (by rfl) g 1 (by rfl) 67 (opc LA ln lc ov G M A n c S Y) ov _ (K.row i (ixl ho)) (by rfl) Tryz.underlying22 (by rfl) ?_
  refine hK.out _ _ trivial (fun hH=>?_)
  clear hK K'
  try simp only[Act.put,List.setIfInBounds_toArray,List.set_cons_zero,List.set_cons_succ]
  exact t6_ab ho hf hlb hlen hB hBw hR _ (by kernel_rfl) K Bl
 refine AllReadyH.cons (getOf (i:=7) rfl) (fun K' hK=>?_) ?_
 ·
  go_simp
  have K2:=K.litf 27 [(f0,f1)] #[.string f0,.string f1] (by simp[fdc]) 1 rfl w.heap.size rfl
  have B2:=Bl.alloc (Nat.le_trans hBw Bl.size) (.cells #[.string f0,.string f1] 27)
  refine hK.out _ _ trivial (fun hH=>?_)
  clear hK K'
  try simp only[Act.put,List.setIfInBounds_toArray,List.set_cons_zero,List.set_cons_succ]
  exact t6_bc ho hf hlb hlen hB hBw hR _ (by kernel_rfl) K2 B2
 exact AllReadyH.nil
theorem t6_0{w:World}(ls:Array Bool)(hl:ls=#[true,true,true,true,true,false,false,false,false,false,false,false,false])(K:EnvF w fs (gs++lb))(Bl:Below B w0 w) :
  wpAnyH Tryz.prog .any t6ops.toArray (Exit.then KK fun _ _ _=>False) (fun _=>True) 8 ls { tmps:=#[.pointer (some ⟨g,0,none⟩),v1,v2,.pointer (some ⟨gb,0,none⟩),v4,v5,v6,v7,v8,v9,x0,x1,x2,x3,x4,x5,x6,x7,x8,x9,y0,y1,y2,y3,y4,y5,y6,y7,y8,y9,z0,z1,.pointer (some ⟨g,0,none⟩),.pointer (some ⟨g,0,none⟩),.pointer (some ⟨g,0,none⟩),.pointer (some ⟨g,1,none⟩),.pointer (some ⟨g,1,none⟩),z7,z8,z9,j0,j1,j2,j3],defers:=[] } w:=by
 subst hl
 refine wpAnyH_ready (rs:=[5,6]) (by as_aux_lemma=>kernel_rfl) (by simp) ?_
 refine AllReadyH.cons (getOf (i:=5) rfl) (fun K' hK=>?_) ?_
 ·
  refine step_get (by rfl) 22 (.tmp 36) (by rfl) g 1 (by rfl) 67 (opc LA ln lc ov G M A n c S Y) ov _ (K.row i (ixl ho)) (by rfl) Tryz.underlying22 (by rfl) ?_
  refine hK.out _ _ trivial (fun hH=>?_)
  clear hK K'
  try simp only[Act.put,List.setIfInBounds_toArray,List.set_cons_zero,List.set_cons_succ]
  exact t6_a ho hf hlb hlen hB hBw hR _ (by kernel_rfl) K Bl
 refine AllReadyH.cons (getOf (i:=6) rfl) (fun K' hK=>?_) ?_
 ·
  refine step_load_row (by rfl) 27 (.tmp 3) (by rfl) gb (by rfl) 27 #[.string f0,.string f1] _ (K.row k (ixl hf)) Tryz.underlying27 (by rfl) infoc_D ?_
  refine hK.out _ _ trivial (fun hH=>?_)
  clear hK K'
  try simp only[Act.put,List.setIfInBounds_toArray,List.set_cons_zero,List.set_cons_succ]
  exact t6_b ho hf hlb hlen hB hBw hR _ (by kernel_rfl) K Bl
 exact AllReadyH.nil
end
theorem t6_region{w w0:World}{fs:List Fact}{LA:Option Addr}{ln lc:Nat}{ov:Value}{G:Bool}{M:Int}{A:Option Addr}{n c S:Nat}{Y:Bool}{i g B gb:Nat}{f0 f1:ByteArray}{gs lb:List Bx}{k:Nat}{L:List Fd}{v1 v2 v4 v5 v6 v7 v8 v9 x0 x1 x2 x3 x4 x5 x6 x7 x8 x9 y0 y1 y2 y3 y4 y5 y6 y7 y8 y9 z0 z1 z2 z3 z4 z5 z6 z7 z8 z9 j0 j1 j2 j3:Value}{KK:Act→World→Prop}{Q:Exit→Act→World→Prop}(ho:gs[i]? = some (g,(opc LA ln lc ov G M A n c S Y),67))(hf:gs[k]? = some (gb,#[.string f0,.string f1],27))(hlb:LBox B ov L lb)(hlen:L.length≤100000)(hB:B≤g)(hBw:B≤w0.heap.size)(hR : ∀(V:Value) (lc2:List Bx) (gc:Nat) (w:World),LBox B V (L++[(f0,f1)]) lc2→EnvF w fs (gs.set i (g,(opc LA ln lc V G M A n c S Y),67)++lc2)→Below B w0 w→KK { tmps:=#[.pointer (some ⟨g,0,none⟩),v1,v2,.pointer (some ⟨gb,0,none⟩),v4,v5,v6,v7,v8,v9,x0,x1,x2,x3,x4,x5,x6,x7,x8,x9,y0,y1,y2,y3,y4,y5,y6,y7,y8,y9,z0,z1,.pointer (some ⟨g,0,none⟩),.pointer (some ⟨g,0,none⟩),.pointer (some ⟨g,0,none⟩),.pointer (some ⟨g,1,none⟩),.pointer (some ⟨g,1,none⟩),ov,.agg #[.string f0,.string f1],.slice (some ⟨gc,0,none⟩) 1 1,V,.pointer (some ⟨g,0,none⟩),.pointer (some ⟨g,1,none⟩),.pointer (some ⟨g,1,none⟩)],defers:=[] } w)(K:EnvF w fs (gs++lb))(Bl:Below B w0 w) :
  (Code.region 6 t6ops.toArray true).wp Tryz.prog (Exit.then KK Q) { tmps:=#[.pointer (some ⟨g,0,none⟩),v1,v2,.pointer (some ⟨gb,0,none⟩),v4,v5,v6,v7,v8,v9,x0,x1,x2,x3,x4,x5,x6,x7,x8,x9,y0,y1,y2,y3,y4,y5,y6,y7,y8,y9,z0,z1,z2,z3,z4,z5,z6,z7,z8,z9,j0,j1,j2,j3],defers:=[] } w:=by
 refine Code.wp_mono (Q:=Exit.then KK fun _ _ _=>False) (fun e a w h=>by cases e<;>first | exact h | exact h.elim) ?_
 refine wp_region_held_drew (S:=(fun _=>True)) (by kernel_rfl) trivial (fun hH=>?_)
 refine takeD (i:=0) (v:=?_) rfl (by as_aux_lemma=>kernel_rfl) (by as_aux_lemma=>kernel_rfl) (by as_aux_lemma=>kernel_rfl) (fun _ _ _ h=>h) (Or.inl ⟨by rfl,?_⟩) hH ?_
 rotate_left
 ·intro w hSw;(try dsimp only at hSw);go_simp<;>with_reducible rfl
 try simp only[Act.put,List.setIfInBounds_toArray,List.set_cons_zero,List.set_cons_succ]
 refine takeD (i:=1) (v:=?_) rfl (by as_aux_lemma=>kernel_rfl) (by as_aux_lemma=>kernel_rfl) (by as_aux_lemma=>kernel_rfl) (fun _ _ _ h=>h) (Or.inl ⟨by rfl,?_⟩) hH ?_
 rotate_left
 ·intro w hSw;(try dsimp only at hSw);go_simp<;>with_reducible rfl
 try simp only[Act.put,List.setIfInBounds_toArray,List.set_cons_zero,List.set_cons_succ]
 refine takeD (i:=2) (v:=?_) rfl (by as_aux_lemma=>kernel_rfl) (by as_aux_lemma=>kernel_rfl) (by as_aux_lemma=>kernel_rfl) (fun _ _ _ h=>h) (Or.inl ⟨by rfl,?_⟩) hH ?_
 rotate_left
 ·intro w hSw;(try dsimp only at hSw);go_simp<;>with_reducible rfl
 try simp only[Act.put,List.setIfInBounds_toArray,List.set_cons_zero,List.set_cons_succ]
 refine takeD (i:=3) (v:=?_) rfl (by as_aux_lemma=>kernel_rfl) (by as_aux_lemma=>kernel_rfl) (by as_aux_lemma=>kernel_rfl) (fun _ _ _ h=>h) (Or.inl ⟨by rfl,?_⟩) hH ?_
 rotate_left
 ·intro w hSw;(try dsimp only at hSw);go_simp<;>with_reducible rfl
 try simp only[Act.put,List.setIfInBounds_toArray,List.set_cons_zero,List.set_cons_succ]
 refine takeD (i:=4) (v:=?_) rfl (by as_aux_lemma=>kernel_rfl) (by as_aux_lemma=>kernel_rfl) (by as_aux_lemma=>kernel_rfl) (fun _ _ _ h=>h) (Or.inl ⟨by rfl,?_⟩) hH ?_
 rotate_left
 ·intro w hSw;(try dsimp only at hSw);go_simp<;>with_reducible rfl
 try simp only[Act.put,List.setIfInBounds_toArray,List.set_cons_zero,List.set_cons_succ]
 exact t6_0 ho hf hlb hlen hB hBw hR _ (by kernel_rfl) K.drew Bl.drew
end Go.Proofs.YtahiajeggbpogaaGreatDoor
