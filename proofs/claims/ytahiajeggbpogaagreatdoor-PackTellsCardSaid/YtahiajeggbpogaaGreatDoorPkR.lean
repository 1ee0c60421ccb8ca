import Derived.Test.YtahiajeggbpogaaGreatDoorPkL
import Derived.Test.YtahiajeggbpogaaGreatDoorUpOk
import Derived.Test.YtahiajeggbpogaaGreatDoorUpOl
import Derived.Test.YtahiajeggbpogaaGreatDoorUpOo
set_option maxRecDepth 100000
set_option maxHeartbeats 4000000
namespace Go.Proofs.YtahiajeggbpogaaGreatDoor
open Go.RowKit Go.Shelf Px Tx Tb Up Pk GD
set_option linter.unusedVariables false
set_option linter.unusedSimpArgs false
attribute [local go_sem] Oper.semAt_some
theorem r_Secret(a b:ByteArray)(w:World) :
  Calls Tryz.prog 35 #[.agg #[.string a,.string b]] w fun e w'=>e = .returned (.bool (secB (a,b)))∧Below w.heap.size w w':=by
 have K0:=Lib.hid ((EnvF.nil w).boxg 27 #[.string a,.string b] w.heap.size (by simp))
 have G0:=Lib.hid ((Below.refl w.heap.size w).alloc (by simp) (.cells #[.string a,.string b] 27))
 unfold secB cook
 go_enter Tryz.func35,Tryz.ntmps35
 go_wp2_with (first
  | go_skip
  | (refine at_load 9 (.tmp 3) (by rfl) ?_;refine wpListG_get (by rfl) 9 (.tmp 3) (by rfl) w.heap.size 0 (by rfl) 27 #[.string a,.string b] (.string a) _ (K0.out.row 0 rfl) (by rfl) Tryz.underlying9 (by rfl) ?_))
 go_ret
 exact⟨rfl,G0.out⟩
theorem r_way_s(M:Int)(A:Option Addr)(n c:Nat)(a b:ByteArray)(w:World)(HS:Hid (∀W:World,Calls Tryz.prog 35 #[.agg #[.string a,.string b]] W fun e w'=>e = .returned (.bool true)∧Below W.heap.size W w')) :
  Calls Tryz.prog 55 #[.agg #[.int .i64 M,.slice A n c],.agg #[.string a,.string b]] w fun e w'=>e = .returned (.int .i64 2)∧Below w.heap.size w w':=by
 have K0:=Lib.hid (((EnvF.nil w).boxg 24 #[.int .i64 M,.slice A n c] w.heap.size (by simp)).boxg 27 #[.string a,.string b] (w.heap.size+1) (by simp))
 have G0:=Lib.hid (((Below.refl w.heap.size w).alloc (by simp) (.cells #[.int .i64 M,.slice A n c] 24)).alloc (by simp) (.cells #[.string a,.string b] 27))
 go_enter Tryz.func55,Tryz.ntmps55
 go_wp2_with (first
  | go_skip
  | (refine at_load 27 (.tmp 3) (by rfl) ?_;refine wpListG_row (by rfl) 27 (.tmp 3) (by rfl) (w.heap.size+1) (by rfl) 27 #[.string a,.string b] _ (K0.out.row 0 rfl) Tryz.underlying27 (by rfl) infoc_D ?_)
  | (go_at_call 35;(with_reducible refine(HS.out _).mono ?_);rintro e w1 ⟨rfl,hb⟩;have K1:=Lib.hid (K0.out.on hb);have G1:=Lib.hid (below_step G0.out hb);clear hb K0 G0))
 go_ret
 exact⟨rfl,G1.out⟩
theorem r_way_y(M:Int)(A:Option Addr)(n c:Nat)(a b:ByteArray)(w:World)(HS:Hid (∀W:World,Calls Tryz.prog 35 #[.agg #[.string a,.string b]] W fun e w'=>e = .returned (.bool false)∧Below W.heap.size W w'))(s:Nat)(HZ:Hid (∀W:World,Calls Tryz.prog 37 #[.agg #[.string a,.string b]] W fun e w'=>e = .returned (.int .i64 (s:Int))∧Below W.heap.size W w'))(hd:decide ((s:Int)≤M)=true) :
  Calls Tryz.prog 55 #[.agg #[.int .i64 M,.slice A n c],.agg #[.string a,.string b]] w fun e w'=>e = .returned (.int .i64 1)∧Below w.heap.size w w':=by
 have K0:=Lib.hid (((EnvF.nil w).boxg 24 #[.int .i64 M,.slice A n c] w.heap.size (by simp)).boxg 27 #[.string a,.string b] (w.heap.size+1) (by simp))
 have G0:=Lib.hid (((Below.refl w.heap.size w).alloc (by simp) (.cells #[.int .i64 M,.slice A n c] 24)).alloc (by simp) (.cells #[.string a,.string b] 27))
 go_enter Tryz.func55,Tryz.ntmps55
 go_wp2_with (first
  | go_skip
  | (refine at_load 27 (.tmp 3) (by rfl) ?_;refine wpListG_row (by rfl) 27 (.tmp 3) (by rfl) (w.heap.size+1) (by rfl) 27 #[.string a,.string b] _ (K0.out.row 0 rfl) Tryz.underlying27 (by rfl) infoc_D ?_)
  | (go_at_call 35;(with_reducible refine(HS.out _).mono ?_);rintro e w1 ⟨rfl,hb⟩;have K1:=Lib.hid (K0.out.on hb);have G1:=Lib.hid (below_step G0.out hb);clear hb K0 G0))
 refine q_start (fun W=>EnvF W [] [(w.heap.size+1,#[.string a,.string b],27),(w.heap.size,#[.int .i64 M,.slice A n c],24)]∧Below w.heap.size w W) (by kernel_rfl) (by kernel_rfl) ⟨K1.out.drew,G1.out.drew⟩ ?_
 refine q_row (by rfl) 27 (.tmp 3) (by rfl) (w.heap.size+1) (by rfl) 27 #[.string a,.string b] _ (fun W hW=>hW.1.row 0 rfl) Tryz.underlying27 (by rfl) infoc_D ?_
 first | (refine q_norm ?_;dsimp only[List.set_cons_succ,List.set_cons_zero]) | refine q_norm0 ?_
 refine q_call (by rfl) 37 #[.agg #[.string a,.string b]] (.int .i64 (s:Int)) (fun w=>by go_simp) (fun W hW=>(HZ.out W).mono fun e w' h=>⟨h.1,hW.1.on h.2,below_step hW.2 h.2⟩) ?_
 first | (refine q_norm ?_;dsimp only[List.set_cons_succ,List.set_cons_zero]) | refine q_norm0 ?_
 refine q_val (v:=.pointer (some ⟨w.heap.size,0,none⟩)) (by rfl) (fun w=>by go_simp) ?_
 first | (refine q_norm ?_;dsimp only[List.set_cons_succ,List.set_cons_zero]) | refine q_norm0 ?_
 refine q_get (by rfl) 3 (.tmp 9) (by rfl) w.heap.size 0 (by rfl) 24 #[.int .i64 M,.slice A n c] (.int .i64 M) _ (fun W hW=>hW.1.row 1 rfl) (by rfl) Tryz.underlying3 (by rfl) ?_
 first | (refine q_norm ?_;dsimp only[List.set_cons_succ,List.set_cons_zero]) | refine q_norm0 ?_
 refine q_val (v:=.bool true) (by rfl) (fun w=>by go_simp) ?_
 first | (refine q_norm ?_;dsimp only[List.set_cons_succ,List.set_cons_zero]) | refine q_norm0 ?_
 rintro W ⟨hE,hB⟩
 have KQ:=Lib.hid hE
 have GQ:=Lib.hid hB
 clear hE hB K1 G1
 go_wp2
 go_ret
 exact⟨rfl,GQ.out⟩
theorem r_way_n(M:Int)(A:Option Addr)(n c:Nat)(a b:ByteArray)(w:World)(HS:Hid (∀W:World,Calls Tryz.prog 35 #[.agg #[.string a,.string b]] W fun e w'=>e = .returned (.bool false)∧Below W.heap.size W w'))(s:Nat)(HZ:Hid (∀W:World,Calls Tryz.prog 37 #[.agg #[.string a,.string b]] W fun e w'=>e = .returned (.int .i64 (s:Int))∧Below W.heap.size W w'))(hd:decide ((s:Int)≤M)=false) :
  Calls Tryz.prog 55 #[.agg #[.int .i64 M,.slice A n c],.agg #[.string a,.string b]] w fun e w'=>e = .returned (.int .i64 3)∧Below w.heap.size w w':=by
 have K0:=Lib.hid (((EnvF.nil w).boxg 24 #[.int .i64 M,.slice A n c] w.heap.size (by simp)).boxg 27 #[.string a,.string b] (w.heap.size+1) (by simp))
 have G0:=Lib.hid (((Below.refl w.heap.size w).alloc (by simp) (.cells #[.int .i64 M,.slice A n c] 24)).alloc (by simp) (.cells #[.string a,.string b] 27))
 go_enter Tryz.func55,Tryz.ntmps55
 go_wp2_with (first
  | go_skip
  | (refine at_load 27 (.tmp 3) (by rfl) ?_;refine wpListG_row (by rfl) 27 (.tmp 3) (by rfl) (w.heap.size+1) (by rfl) 27 #[.string a,.string b] _ (K0.out.row 0 rfl) Tryz.underlying27 (by rfl) infoc_D ?_)
  | (go_at_call 35;(with_reducible refine(HS.out _).mono ?_);rintro e w1 ⟨rfl,hb⟩;have K1:=Lib.hid (K0.out.on hb);have G1:=Lib.hid (below_step G0.out hb);clear hb K0 G0))
 refine q_start (fun W=>EnvF W [] [(w.heap.size+1,#[.string a,.string b],27),(w.heap.size,#[.int .i64 M,.slice A n c],24)]∧Below w.heap.size w W) (by kernel_rfl) (by kernel_rfl) ⟨K1.out.drew,G1.out.drew⟩ ?_
 refine q_row (by rfl) 27 (.tmp 3) (by rfl) (w.heap.size+1) (by rfl) 27 #[.string a,.string b] _ (fun W hW=>hW.1.row 0 rfl) Tryz.underlying27 (by rfl) infoc_D ?_
 first | (refine q_norm ?_;dsimp only[List.set_cons_succ,List.set_cons_zero]) | refine q_norm0 ?_
 refine q_call (by rfl) 37 #[.agg #[.string a,.string b]] (.int .i64 (s:Int)) (fun w=>by go_simp) (fun W hW=>(HZ.out W).mono fun e w' h=>⟨h.1,hW.1.on h.2,below_step hW.2 h.2⟩) ?_
 first | (refine q_norm ?_;dsimp only[List.set_cons_succ,List.set_cons_zero]) | refine q_norm0 ?_
 refine q_val (v:=.pointer (some ⟨w.heap.size,0,none⟩)) (by rfl) (fun w=>by go_simp) ?_
 first | (refine q_norm ?_;dsimp only[List.set_cons_succ,List.set_cons_zero]) | refine q_norm0 ?_
 refine q_get (by rfl) 3 (.tmp 9) (by rfl) w.heap.size 0 (by rfl) 24 #[.int .i64 M,.slice A n c] (.int .i64 M) _ (fun W hW=>hW.1.row 1 rfl) (by rfl) Tryz.underlying3 (by rfl) ?_
 first | (refine q_norm ?_;dsimp only[List.set_cons_succ,List.set_cons_zero]) | refine q_norm0 ?_
 refine q_val (v:=.bool false) (by rfl) (fun w=>by go_simp) ?_
 first | (refine q_norm ?_;dsimp only[List.set_cons_succ,List.set_cons_zero]) | refine q_norm0 ?_
 rintro W ⟨hE,hB⟩
 have KQ:=Lib.hid hE
 have GQ:=Lib.hid hB
 clear hE hB K1 G1
 go_wp2
 go_ret
 exact⟨rfl,GQ.out⟩
theorem q_way{V:Int}(M:Int)(A:Option Addr)(n c:Nat)(a b:ByteArray)(w:World)(hs:sz ((a,b):Fd)≤100000)(hV:wy M (a,b)=V) :
  Calls Tryz.prog 55 #[.agg #[.int .i64 M,.slice A n c],.agg #[.string a,.string b]] w fun e w'=>e = .returned (.int .i64 V)∧Below w.heap.size w w':=by
 subst hV
 have HZ:Hid (∀W:World,Calls Tryz.prog 37 #[.agg #[.string a,.string b]] W fun e w'=>e = .returned (.int .i64 (sz ((a,b):Fd):Int))∧Below W.heap.size W w'):=Lib.hid fun W=>r_size (a,b) W (by omega)
 have HS:Hid (∀W:World,Calls Tryz.prog 35 #[.agg #[.string a,.string b]] W fun e w'=>e = .returned (.bool (secB (a,b)))∧Below W.heap.size W w'):=Lib.hid fun W=>r_Secret a b W
 unfold wy
 cases h:secB (a,b) with
 | true=>rw[h] at HS;exact r_way_s M A n c a b w HS
 | false=>
  rw[h] at HS
  by_cases g:(sz ((a,b):Fd):Int)≤M
  ·simp only[Bool.false_eq_true,if_false,if_pos g]
   exact r_way_y M A n c a b w HS _ HZ (decide_eq_true g)
  ·simp only[Bool.false_eq_true,if_false,if_neg g]
   exact r_way_n M A n c a b w HS _ HZ (decide_eq_false g)
section
variable {fs:List Fact}{gs:List Bx}
theorem q_resize{A:Option Addr}{n c:Nat}{xs:List Fd}{M m N E:Int}{k:Nat}{L:List Fd}(w:World)(hV:EnvF w fs gs)(hA:fF A n xs∈fs)(hN:A=none→c=0)(hF:full xs≤100000)(h1:resM M xs m=N)(h2:resE M xs m=E)(h3:resL M xs m=L)(h4:L.length=k) :
  Calls Tryz.prog 43 #[.agg #[.int .i64 M,.slice A n c],.int .i64 m] w fun e w'=>∃A3 c3,e = .returned (.tuple #[.agg #[.int .i64 N,.slice A3 k c3],.int .i64 E])∧Below w.heap.size w w'∧EnvF w' (fF A3 k L::fs) gs∧(A3=none→c3=0):=by
 subst h1 h2 h3 h4
 refine(r_resize M A n c xs m w (hV.fs hA) hN hF).mono ?_
 rintro e w' ⟨v,rfl,ho,hb⟩
 obtain⟨A3,c3,rfl,_,h5,h6,_⟩:=ho.form
 exact⟨A3,c3,rfl,hb,hV.hand hb ho.handF,h5⟩
theorem q_add{A:Option Addr}{n c:Nat}{xs:List Fd}{M N E:Int}{k:Nat}{L:List Fd}{a b:ByteArray}(w:World)(hV:EnvF w fs gs)(hA:fF A n xs∈fs)(hN:A=none→c=0)(hF:full xs≤100000)(hf:sz ((a,b):Fd)≤100000)(h1:addM M xs=N)(h2:addE M xs=E)(h3:addL M xs (a,b)=L)(h4:L.length=k) :
  Calls Tryz.prog 56 #[.agg #[.int .i64 M,.slice A n c],.agg #[.string a,.string b]] w fun e w'=>∃A3 c3,e = .returned (.tuple #[.agg #[.int .i64 N,.slice A3 k c3],.int .i64 E])∧Below w.heap.size w w'∧EnvF w' (fF A3 k L::fs) gs∧(A3=none→c3=0):=by
 subst h1 h2 h3 h4
 refine(r_add M A n c xs (a,b) w (hV.fs hA) hN hF hf).mono ?_
 rintro e w' ⟨v,rfl,ho,hb⟩
 obtain⟨A3,c3,rfl,_,h5,h6,_⟩:=ho.form
 exact⟨A3,c3,rfl,hb,hV.hand hb ho.handF,h5⟩
theorem q_find{A:Option Addr}{n c:Nat}{xs:List Fd}{M:Int}{a b:ByteArray}{i:Nat}{B:Bool}(w:World)(hV:EnvF w fs gs)(hA:fF A n xs∈fs)(hn:n≤1000000)(h1:findI xs (a,b)=i)(h2:findB xs (a,b)=B) :
  Calls Tryz.prog 54 #[.agg #[.int .i64 M,.slice A n c],.agg #[.string a,.string b]] w fun e w'=>e = .returned (.tuple #[.int .i64 (i:Int),.bool B])∧Below w.heap.size w w':=by
 subst h1 h2
 exact r_find M A n c xs (a,b) w (hV.fs hA) hn
theorem q_right{A:Option Addr}{n c:Nat}{xs:List Fd}{M:Int}{b:Bool}(w:World)(hV:EnvF w fs gs)(hA:fF A n xs∈fs)(hF:full xs≤1000000)(h:rightB M xs=b) :
  Calls Tryz.prog 36 #[.agg #[.int .i64 M,.slice A n c]] w fun e w'=>e = .returned (.bool b)∧Below w.heap.size w w':=h ▸ r_right M A n c xs w (hV.fs hA) hF
theorem q_field{way:Int}{a b L:List UInt8}{k:Nat}(w:World)(hV:EnvF w fs gs)(ha:a.length≤10000)(hb:b.length≤10000)(h1:fldL a b way=L)(h3:L.length=k) :
  Calls Tryz.prog 19 #[.agg #[.string ⟨a.toArray⟩,.string ⟨b.toArray⟩],.int .i64 way] w fun e w'=>∃A c,e = .returned (.slice A k c)∧Below w.heap.size w w'∧EnvF w' (bF A k L::fs) gs∧(k≤c∧(A=none→c=0)):=by
 subst h1 h3
 refine(d_Field a b way w ha hb).mono ?_
 rintro e w' ⟨A,c,rfl,ho,hb⟩
 obtain⟨A',c',e,hh⟩:=ho.handS (n:=(fldL a b way).length) rfl
 cases e
 exact⟨A,c,rfl,hb,hV.handS hb hh,hh.2.2⟩
theorem q_named{i way:Int}{b:List UInt8}{L:List UInt8}{E:Int}{k:Nat}(w:World)(hV:EnvF w fs gs)(hb:b.length≤10000)(h1:nmL i b way=L)(h2:nmE i way=E)(h3:L.length=k) :
  Calls Tryz.prog 16 #[.int .i64 i,.string ⟨b.toArray⟩,.int .i64 way] w fun e w'=>∃A c,e = .returned (.tuple #[.slice A k c,.int .i64 E])∧Below w.heap.size w w'∧EnvF w' (bF A k L::fs) gs∧(k≤c∧(A=none→c=0)):=by
 subst h1 h2 h3
 refine(d_Named i b way w hb).mono ?_
 rintro e w' ⟨A,c,rfl,hh,hb⟩
 exact⟨A,c,rfl,hb,hV.handS hb hh,hh.2.2⟩
end
noncomputable def qf7ops:List Oper:=opsOf 7 (Tryz.f27.body.getD .skip)
theorem qf7{w0 w:World}{fs:List Fact}{gs:List Bx}{V1:Value}{gS gR iS iR B0 m c2:Nat}{M:Int}{A2:Option Addr}{v0 v1 v2 v3 v4 v6 v7 v8 v10 v12 v13 v14 v15 v16 v17 v18 v19 v20 v21 v22 v23 v24 v25 v26 v27 v28 v29 v30 v31 v32 v33 v34 v35 v36 v37 v38 v39 v40 v41 v42 v43 v44 v45 v46 v47 v48 v49 v50 v51 v52 v53 v54 v55 v56 v57 v58 v59 v60 v61 v62 v63 v64 v65 v66 v67 v68 v69 v70 v71 v72 v73 v74:Value}{KK:Act→World→Prop}{Q:Exit→Act→World→Prop}(hS:gs[iS]? = some (gS,#[.int .i64 M,.slice A2 m c2],24))(hZ:gs[iR]? = some (gR,#[.int .i64 0,.slice none 0 0],24))(hne:iR≠iS)(hB0:B0≤gR)(B:Below B0 w0 w)(hR : ∀(w':World),EnvF w' fs (gs.set iR (gR,#[.int .i64 M,.slice A2 m c2],24))→Below B0 w0 w'→KK { tmps:=#[v0,v1,v2,v3,V1,.pointer (some ⟨gR,0,none⟩),.int .i64 0,v7,v8,V1,v10,.pointer (some ⟨gS,0,none⟩),v12,v13,v14,v15,v16,v17,v18,v19,v20,v21,v22,v23,v24,v25,v26,v27,v28,v29,v30,v31,v32,v33,v34,v35,v36,v37,v38,v39,V1,.agg #[.int .i64 M,.slice A2 m c2],v42,v43,v44,v45,v46,v47,v48,v49,v50,v51,v52,v53,v54,v55,v56,v57,v58,v59,v60,v61,v62,v63,v64,v65,v66,v67,v68,v69,v70,v71,v72,v73,v74],defers:=[] } w')(K:EnvF w fs gs) :
  (Code.region 7 qf7ops.toArray true).wp Tryz.prog (Exit.then KK Q) { tmps:=#[v0,v1,v2,v3,v4,.pointer (some ⟨gR,0,none⟩),v6,v7,v8,V1,v10,.pointer (some ⟨gS,0,none⟩),v12,v13,v14,v15,v16,v17,v18,v19,v20,v21,v22,v23,v24,v25,v26,v27,v28,v29,v30,v31,v32,v33,v34,v35,v36,v37,v38,v39,v40,v41,v42,v43,v44,v45,v46,v47,v48,v49,v50,v51,v52,v53,v54,v55,v56,v57,v58,v59,v60,v61,v62,v63,v64,v65,v66,v67,v68,v69,v70,v71,v72,v73,v74],defers:=[] } w:=by
 refine Code.wp_mono (Q:=Exit.then KK fun _ _ _=>False) (fun e a w h=>by cases e<;>first | exact h | exact h.elim) ?_
 refine wp_region_held_drew (S:=(fun W'=>W'.cell? ⟨gS,0,none⟩=some (.int .i64 M)∧W'.cell? ⟨gS,1,none⟩=some (.slice A2 m c2))) (by kernel_rfl) (cells2_row (K.drew.row iS hS)) (fun hH=>?_)
 refine takeD (i:=0) (v:=?_) rfl (by as_aux_lemma=>kernel_rfl) (by as_aux_lemma=>kernel_rfl) (by as_aux_lemma=>kernel_rfl) (fun _ _ _ h=>h) (Or.inl ⟨by rfl,?_⟩) hH ?_
 rotate_left
 ·intro w hSw;(try dsimp only at hSw);go_simp<;>with_reducible rfl
 try simp only[Act.put,List.setIfInBounds_toArray,List.set_cons_zero,List.set_cons_succ]
 refine takeD (i:=1) (v:=?_) rfl (by as_aux_lemma=>kernel_rfl) (by as_aux_lemma=>kernel_rfl) (by as_aux_lemma=>kernel_rfl) (fun _ _ _ h=>h) (Or.inl ⟨by rfl,?_⟩) hH ?_
 rotate_left
 ·intro w hSw;(try dsimp only at hSw);go_simp<;>with_reducible rfl
 try simp only[Act.put,List.setIfInBounds_toArray,List.set_cons_zero,List.set_cons_succ]
 refine takeD (i:=2) (v:=?_) rfl (by as_aux_lemma=>kernel_rfl) (by as_aux_lemma=>kernel_rfl) (by as_aux_lemma=>kernel_rfl) (fun _ _ _ h=>h) (Or.inl ⟨by rfl,?_⟩) hH ?_
 rotate_left
 ·intro w hSw;(try dsimp only at hSw);go_simp<;>with_reducible rfl
 try simp only[Act.put,List.setIfInBounds_toArray,List.set_cons_zero,List.set_cons_succ]
 refine readyD (i:=3) rfl (by as_aux_lemma=>kernel_rfl) (fun K' hK=>?_)
 refine step_put (by rfl) 24 (.tmp 5) (.tmp 41) (by rfl) gR 0 (.agg #[.int .i64 M,.slice A2 m c2]) (by rfl) (by rfl) 24 #[.int .i64 0,.slice none 0 0] #[.int .i64 M,.slice A2 m c2] (K.drew.row iR hZ) (by simp[Value.cells]) (by kernel_rfl) infoc_T (by kernel_rfl) ?_
 intro w1 c1' c2' c3' c4'
 have K1:=K.drew.turn iR hZ c1' c2' c3'
 have B1:=c4' _ _ hB0 B.drew
 refine hK.out _ _ (cells2_row (K1.row iS (by rw[List.getElem?_set_ne hne];exact hS))) (fun hH=>?_)
 clear hK K'
 try simp only[Act.put,List.setIfInBounds_toArray,List.set_cons_zero,List.set_cons_succ]
 refine takeD (i:=4) (v:=?_) rfl (by as_aux_lemma=>kernel_rfl) (by as_aux_lemma=>kernel_rfl) (by as_aux_lemma=>kernel_rfl) (fun _ _ _ h=>h) (Or.inl ⟨by rfl,?_⟩) hH ?_
 rotate_left
 ·intro w hSw;(try dsimp only at hSw);go_simp<;>with_reducible rfl
 try simp only[Act.put,List.setIfInBounds_toArray,List.set_cons_zero,List.set_cons_succ]
 refine wpAnyH_done (by as_aux_lemma=>kernel_rfl) ?_ _
 exact hR _ K1 B1
noncomputable def qf15ops:List Oper:=opsOf 15 (Tryz.f27.body.getD .skip)
theorem qf15{w0 w:World}{fs:List Fact}{gs:List Bx}{V1:Value}{gS gR iS iR B0 m c2:Nat}{M:Int}{A2:Option Addr}{v0 v1 v2 v3 v4 v6 v7 v8 v9 v10 v11 v12 v13 v16 v17 v18 v19 v20 v21 v22 v23 v24 v25 v26 v27 v28 v29 v30 v31 v32 v33 v34 v35 v36 v37 v38 v39 v40 v41 v42 v43 v44 v45 v46 v47 v48 v49 v50 v51 v52 v53 v54 v55 v56 v57 v58 v59 v60 v61 v62 v63 v64 v65 v66 v67 v68 v69 v70 v71 v72 v73 v74:Value}{KK:Act→World→Prop}{Q:Exit→Act→World→Prop}(hS:gs[iS]? = some (gS,#[.int .i64 M,.slice A2 m c2],24))(hZ:gs[iR]? = some (gR,#[.int .i64 0,.slice none 0 0],24))(hne:iR≠iS)(hB0:B0≤gR)(B:Below B0 w0 w)(hR : ∀(w':World),EnvF w' fs (gs.set iR (gR,#[.int .i64 M,.slice A2 m c2],24))→Below B0 w0 w'→KK { tmps:=#[v0,v1,v2,v3,V1,.pointer (some ⟨gR,0,none⟩),.int .i64 0,v7,v8,v9,v10,v11,v12,v13,V1,.pointer (some ⟨gS,0,none⟩),v16,v17,v18,v19,v20,v21,v22,v23,v24,v25,v26,v27,v28,v29,v30,v31,v32,v33,v34,v35,v36,v37,v38,v39,v40,v41,v42,v43,v44,v45,v46,v47,v48,v49,v50,v51,v52,v53,v54,v55,v56,v57,v58,v59,v60,v61,v62,v63,v64,v65,v66,v67,v68,v69,v70,v71,v72,V1,.agg #[.int .i64 M,.slice A2 m c2]],defers:=[] } w')(K:EnvF w fs gs) :
  (Code.region 15 qf15ops.toArray true).wp Tryz.prog (Exit.then KK Q) { tmps:=#[v0,v1,v2,v3,v4,.pointer (some ⟨gR,0,none⟩),v6,v7,v8,v9,v10,v11,v12,v13,V1,.pointer (some ⟨gS,0,none⟩),v16,v17,v18,v19,v20,v21,v22,v23,v24,v25,v26,v27,v28,v29,v30,v31,v32,v33,v34,v35,v36,v37,v38,v39,v40,v41,v42,v43,v44,v45,v46,v47,v48,v49,v50,v51,v52,v53,v54,v55,v56,v57,v58,v59,v60,v61,v62,v63,v64,v65,v66,v67,v68,v69,v70,v71,v72,v73,v74],defers:=[] } w:=by
 refine Code.wp_mono (Q:=Exit.then KK fun _ _ _=>False) (fun e a w h=>by cases e<;>first | exact h | exact h.elim) ?_
 refine wp_region_held_drew (S:=(fun W'=>W'.cell? ⟨gS,0,none⟩=some (.int .i64 M)∧W'.cell? ⟨gS,1,none⟩=some (.slice A2 m c2))) (by kernel_rfl) (cells2_row (K.drew.row iS hS)) (fun hH=>?_)
 refine takeD (i:=0) (v:=?_) rfl (by as_aux_lemma=>kernel_rfl) (by as_aux_lemma=>kernel_rfl) (by as_aux_lemma=>kernel_rfl) (fun _ _ _ h=>h) (Or.inl ⟨by rfl,?_⟩) hH ?_
 rotate_left
 ·intro w hSw;(try dsimp only at hSw);go_simp<;>with_reducible rfl
 try simp only[Act.put,List.setIfInBounds_toArray,List.set_cons_zero,List.set_cons_succ]
 refine takeD (i:=1) (v:=?_) rfl (by as_aux_lemma=>kernel_rfl) (by as_aux_lemma=>kernel_rfl) (by as_aux_lemma=>kernel_rfl) (fun _ _ _ h=>h) (Or.inl ⟨by rfl,?_⟩) hH ?_
 rotate_left
 ·intro w hSw;(try dsimp only at hSw);go_simp<;>with_reducible rfl
 try simp only[Act.put,List.setIfInBounds_toArray,List.set_cons_zero,List.set_cons_succ]
 refine takeD (i:=2) (v:=?_) rfl (by as_aux_lemma=>kernel_rfl) (by as_aux_lemma=>kernel_rfl) (by as_aux_lemma=>kernel_rfl) (fun _ _ _ h=>h) (Or.inl ⟨by rfl,?_⟩) hH ?_
 rotate_left
 ·intro w hSw;(try dsimp only at hSw);go_simp<;>with_reducible rfl
 try simp only[Act.put,List.setIfInBounds_toArray,List.set_cons_zero,List.set_cons_succ]
 refine readyD (i:=3) rfl (by as_aux_lemma=>kernel_rfl) (fun K' hK=>?_)
 refine step_put (by rfl) 24 (.tmp 5) (.tmp 74) (by rfl) gR 0 (.agg #[.int .i64 M,.slice A2 m c2]) (by rfl) (by rfl) 24 #[.int .i64 0,.slice none 0 0] #[.int .i64 M,.slice A2 m c2] (K.drew.row iR hZ) (by simp[Value.cells]) (by kernel_rfl) infoc_T (by kernel_rfl) ?_
 intro w1 c1' c2' c3' c4'
 have K1:=K.drew.turn iR hZ c1' c2' c3'
 have B1:=c4' _ _ hB0 B.drew
 refine hK.out _ _ (cells2_row (K1.row iS (by rw[List.getElem?_set_ne hne];exact hS))) (fun hH=>?_)
 clear hK K'
 try simp only[Act.put,List.setIfInBounds_toArray,List.set_cons_zero,List.set_cons_succ]
 refine takeD (i:=4) (v:=?_) rfl (by as_aux_lemma=>kernel_rfl) (by as_aux_lemma=>kernel_rfl) (by as_aux_lemma=>kernel_rfl) (fun _ _ _ h=>h) (Or.inl ⟨by rfl,?_⟩) hH ?_
 rotate_left
 ·intro w hSw;(try dsimp only at hSw);go_simp<;>with_reducible rfl
 try simp only[Act.put,List.setIfInBounds_toArray,List.set_cons_zero,List.set_cons_succ]
 refine wpAnyH_done (by as_aux_lemma=>kernel_rfl) ?_ _
 exact hR _ K1 B1
theorem q_Field_n{fs:List Fact}{gs:List Bx}(M:Int)(A:Option Addr)(n c:Nat)(xs:List Fd)(fa fb:List UInt8)(w:World)(hV:EnvF w fs gs)(HA:Hid (fF A n xs∈fs))(HN:Hid (A=none→c=0))(HF1:Hid (full xs≤1000000))(hr:Hid (rightB M xs=false)) :
  Calls Tryz.prog 27 #[.agg #[.int .i64 M,.slice A n c],.agg #[.string ⟨fa.toArray⟩,.string ⟨fb.toArray⟩]] w fun e w'=>e = .returned (.tuple #[.slice none 0 0,.agg #[.int .i64 0,.slice none 0 0],.int .i64 2])∧Below w.heap.size w w':=by
 have K0:=Lib.hid ((((hV).boxg 24 #[.int .i64 M,.slice A n c] w.heap.size rfl).boxg 27 #[.string ⟨fa.toArray⟩,.string ⟨fb.toArray⟩] (w.heap.size+1) (by simp)).boxg 24 #[.int .i64 0,.slice none 0 0] (w.heap.size+1+1) (by simp))
 have G0:=Lib.hid ((((Below.refl w.heap.size w).alloc (Nat.le_refl _) (.cells #[.int .i64 M,.slice A n c] 24)).alloc (by simp;try omega) (.cells #[.string ⟨fa.toArray⟩,.string ⟨fb.toArray⟩] 27)).alloc (by simp;try omega) (.cells #[.int .i64 0,.slice none 0 0] 24))
 clear hV
 go_enter Tryz.func27,Tryz.ntmps27
 go_wp2_with (first
  | go_skip
  | (refine at_load 24 (.tmp 2) (by rfl) ?_;refine wpListG_row (by rfl) 24 (.tmp 2) (by rfl) w.heap.size (by rfl) 24 #[.int .i64 M,.slice A n c] _ (K0.out.row 2 rfl) Tryz.underlying24 (by rfl) infoc_T ?_)
  | (go_at_call 36;(with_reducible refine(q_right (A:=A) (n:=n) (xs:=xs) _ K0.out (by simp[HA.out]) HF1.out hr.out).mono ?_);rintro e w1 ⟨rfl,hb⟩;have K1:=Lib.hid (K0.out.on hb);have G1:=Lib.hid (below_step G0.out hb);clear hb K0 G0)
  | (refine at_store 24 (.tmp 5) (.tmp 20) (by rfl) ?_;refine wpList_put (by rfl) 24 (.tmp 5) (.tmp 20) (by rfl) (w.heap.size+1+1) 0 (.agg #[.int .i64 0,.slice none 0 0]) (by rfl) (by rfl) 24 #[.int .i64 0,.slice none 0 0] #[.int .i64 0,.slice none 0 0] (K1.out.row 0 rfl) (by simp[Value.cells]) (by kernel_rfl) infoc_T (by kernel_rfl) ?_;intro w2 hrow hoth hz hbl;have K2:=Lib.hid (K1.out.turn 0 rfl hrow hoth hz);have G2:=Lib.hid (hbl _ _ (by omega) G1.out);clear hrow hoth hz hbl K1 G1))
 have KE:=K2.out
 exact bodyPost_ret (res_tct rfl _ _ _ _ _ _ rfl (KE.row 0 rfl) Tryz.underlying24 rfl infoc_T) rfl ⟨rfl,G2.out⟩
theorem q_Field_w{fs:List Fact}{gs:List Bx}{L:List UInt8}{k m:Nat}{X:List Fd}(M:Int)(A:Option Addr)(n c:Nat)(xs:List Fd)(fa fb:List UInt8)(w:World)(hV:EnvF w fs gs)(HA:Hid (fF A n xs∈fs))(HN:Hid (A=none→c=0))(HF1:Hid (full xs≤1000000))(hr:Hid (rightB M xs=true))(hres:Hid (resM M xs M=M∧resE M xs M=0∧resL M xs M=xs))(HF:Hid (full xs≤100000))(Hn:Hid (n≤1000000))(Hxn:Hid (xs.length=n))(Ha:Hid (fa.length≤10000))(Hb:Hid (fb.length≤10000))(HK:Hid (L.length=k))(i:Nat)(HI:Hid (findI xs ((⟨fa.toArray⟩,⟨fb.toArray⟩):Fd)=i))(HB:Hid (findB xs ((⟨fa.toArray⟩,⟨fb.toArray⟩):Fd)=true))(HL:Hid (putL (i:Int) (7:Nat) 128=L))(HE:Hid (putE (i:Int) (7:Nat)=0))(hm:n=m)(hX:xs=X) :
  Calls Tryz.prog 27 #[.agg #[.int .i64 M,.slice A n c],.agg #[.string ⟨fa.toArray⟩,.string ⟨fb.toArray⟩]] w fun e w'=>∃A1 c1 A2 c2,e = .returned (.tuple #[.slice A1 k c1,.agg #[.int .i64 M,.slice A2 m c2],.int .i64 0])∧Below w.heap.size w w'∧EnvF w' (bF A1 k L::fF A2 m X::fs) gs∧(k≤c1∧(A1=none→c1=0))∧(A2=none→c2=0):=by
 subst hm hX
 have K0:=Lib.hid ((((hV).boxg 24 #[.int .i64 M,.slice A n c] w.heap.size rfl).boxg 27 #[.string ⟨fa.toArray⟩,.string ⟨fb.toArray⟩] (w.heap.size+1) (by simp)).boxg 24 #[.int .i64 0,.slice none 0 0] (w.heap.size+1+1) (by simp))
 have G0:=Lib.hid ((((Below.refl w.heap.size w).alloc (Nat.le_refl _) (.cells #[.int .i64 M,.slice A n c] 24)).alloc (by simp;try omega) (.cells #[.string ⟨fa.toArray⟩,.string ⟨fb.toArray⟩] 27)).alloc (by simp;try omega) (.cells #[.int .i64 0,.slice none 0 0] 24))
 clear hV
 go_enter Tryz.func27,Tryz.ntmps27
 go_wp2_with (first
  | go_skip
  | (refine at_load 24 (.tmp 2) (by rfl) ?_;refine wpListG_row (by rfl) 24 (.tmp 2) (by rfl) w.heap.size (by rfl) 24 #[.int .i64 M,.slice A n c] _ (K0.out.row 2 rfl) Tryz.underlying24 (by rfl) infoc_T ?_)
  | (go_at_call 36;(with_reducible refine(q_right (A:=A) (n:=n) (xs:=xs) _ K0.out (by simp[HA.out]) HF1.out hr.out).mono ?_);rintro e w1 ⟨rfl,hb⟩;have K1:=Lib.hid (K0.out.on hb);have G1:=Lib.hid (below_step G0.out hb);clear hb K0 G0)
  | (refine at_load 24 (.tmp 2) (by rfl) ?_;refine wpListG_row (by rfl) 24 (.tmp 2) (by rfl) w.heap.size (by rfl) 24 #[.int .i64 M,.slice A n c] _ (K1.out.row 2 rfl) Tryz.underlying24 (by rfl) infoc_T ?_)
  | (refine at_load 27 (.tmp 3) (by rfl) ?_;refine wpListG_row (by rfl) 27 (.tmp 3) (by rfl) (w.heap.size+1) (by rfl) 27 #[.string ⟨fa.toArray⟩,.string ⟨fb.toArray⟩] _ (K1.out.row 1 rfl) Tryz.underlying27 (by rfl) infoc_D ?_)
  | (go_at_call 54;(with_reducible refine(q_find (A:=A) (n:=n) (xs:=xs) _ K1.out (by simp[HA.out]) Hn.out HI.out HB.out).mono ?_);rintro e w2 ⟨rfl,hb⟩;have K2:=Lib.hid (K1.out.on hb);have G2:=Lib.hid (below_step G1.out hb);clear hb K1 G1)
  | (go_at_call 12;(with_reducible refine(p_put _ K2.out (d_Indexed (i:Int) _) HL.out HE.out HK.out).mono ?_);rintro e w3 ⟨A1,c1,rfl,hb,hE,HA10⟩;have K3:=Lib.hid hE;have HA1:=Lib.hid HA10;have G3:=Lib.hid (below_step G2.out hb);clear hb hE HA10 K2 G2)
  | (refine at_load 24 (.tmp 2) (by rfl) ?_;refine wpListG_row (by rfl) 24 (.tmp 2) (by rfl) w.heap.size (by rfl) 24 #[.int .i64 M,.slice A n c] _ (K3.out.row 2 rfl) Tryz.underlying24 (by rfl) infoc_T ?_)
  | (refine at_load 3 (.tmp 35) (by rfl) ?_;refine wpListG_get (by rfl) 3 (.tmp 35) (by rfl) w.heap.size 0 (by rfl) 24 #[.int .i64 M,.slice A n c] (.int .i64 M) _ (K3.out.row 2 rfl) (by rfl) Tryz.underlying3 (by rfl) ?_)
  | (go_at_call 43;(with_reducible refine(q_resize (A:=A) (n:=n) (c:=c) (xs:=xs) _ K3.out (by simp[HA.out]) HN.out HF.out hres.out.1 hres.out.2.1 hres.out.2.2 Hxn.out).mono ?_);rintro e w4 ⟨A2,c2,rfl,hb,hE,HA20⟩;have K4:=Lib.hid hE;have HA2:=Lib.hid HA20;have G4:=Lib.hid (below_step G3.out hb);clear hb hE HA20 K3 G3;have K4b:=Lib.hid (K4.out.boxg 24 #[.int .i64 0,.slice none 0 0] w4.heap.size rfl);have hz4:w.heap.size≤w4.heap.size:=G4.out.size;have G4b:=Lib.hid (G4.out.alloc hz4 (.cells #[.int .i64 0,.slice none 0 0] 24));clear K4 G4)
  | (refine at_store 24 (.tmp 11) (.tmp 38) (by rfl) ?_;refine wpList_put (by rfl) 24 (.tmp 11) (.tmp 38) (by rfl) w4.heap.size 0 (.agg #[.int .i64 M,.slice A2 n c2]) (by rfl) (by rfl) 24 #[.int .i64 0,.slice none 0 0] #[.int .i64 M,.slice A2 n c2] (K4b.out.row 0 rfl) (by simp[Value.cells]) (by kernel_rfl) infoc_T (by kernel_rfl) ?_;intro w5 hrow hoth hz hbl;have K5:=Lib.hid (K4b.out.turn 0 rfl hrow hoth hz);have G5:=Lib.hid (hbl _ _ (by omega) G4b.out);clear hrow hoth hz hbl K4b G4b))
 refine qf7 (V1:=.slice A1 k c1) (A2:=A2) (m:=n) (c2:=c2) (M:=M) (iS:=0) (iR:=1) (B0:=w.heap.size) rfl rfl (by decide) (by omega) G5.out (fun w' hE9 hB9=>?_) K5.out
 have KE:=Lib.hid hE9
 have BE:=Lib.hid hB9
 clear hE9 hB9 K5 G5
 go_wp2
 have KS:=Lib.hid (KE.out.sub (fs':=bF A1 k L::fF A2 n xs::fs) (gs':=gs) (fun y hy=>by
  rcases List.mem_cons.1 hy with rfl | hy
  ·exact List.mem_cons_of_mem _ (List.mem_cons_self ..)
  rcases List.mem_cons.1 hy with rfl | hy
  ·exact List.mem_cons_self ..
  ·exact List.mem_cons_of_mem _ (List.mem_cons_of_mem _ (hy))) (List.Sublist.cons _ (List.Sublist.cons _ (List.Sublist.cons _ (List.Sublist.cons _ (List.Sublist.refl _))))))
 exact bodyPost_ret (res_tct rfl _ _ _ _ _ _ rfl (KE.out.row 1 rfl) Tryz.underlying24 rfl infoc_T) rfl ⟨A1,c1,A2,c2,rfl,BE.out,KS.out,HA1.out,HA2.out⟩
theorem q_Field_00{fs:List Fact}{gs:List Bx}{L:List UInt8}{k m:Nat}{X:List Fd}(M:Int)(A:Option Addr)(n c:Nat)(xs:List Fd)(fa fb:List UInt8)(w:World)(hV:EnvF w fs gs)(HA:Hid (fF A n xs∈fs))(HN:Hid (A=none→c=0))(HF1:Hid (full xs≤1000000))(hr:Hid (rightB M xs=true))(hres:Hid (resM M xs M=M∧resE M xs M=0∧resL M xs M=xs))(HF:Hid (full xs≤100000))(Hn:Hid (n≤1000000))(Hxn:Hid (xs.length=n))(Ha:Hid (fa.length≤10000))(Hb:Hid (fb.length≤10000))(HK:Hid (L.length=k))(i:Nat)(HI:Hid (findI xs ((⟨fa.toArray⟩,⟨fb.toArray⟩):Fd)=i))(HB:Hid (findB xs ((⟨fa.toArray⟩,⟨fb.toArray⟩):Fd)=false))(Hz:Hid (sz ((⟨fa.toArray⟩,⟨fb.toArray⟩):Fd)≤100000)){V:Int}(HW:Hid (wy M (⟨fa.toArray⟩,⟨fb.toArray⟩)=V))(HL:Hid (fldL fa fb V=L))(hi1:decide ((0:Int)<(i:Int))=false)(hi2:decide (0<i)=false)(hV1:((V:Int)==1)=false)(hm:n=m)(hX:xs=X) :
  Calls Tryz.prog 27 #[.agg #[.int .i64 M,.slice A n c],.agg #[.string ⟨fa.toArray⟩,.string ⟨fb.toArray⟩]] w fun e w'=>∃A1 c1 A2 c2,e = .returned (.tuple #[.slice A1 k c1,.agg #[.int .i64 M,.slice A2 m c2],.int .i64 0])∧Below w.heap.size w w'∧EnvF w' (bF A1 k L::fF A2 m X::fs) gs∧(k≤c1∧(A1=none→c1=0))∧(A2=none→c2=0):=by
 subst hm hX
 have K0:=Lib.hid ((((hV).boxg 24 #[.int .i64 M,.slice A n c] w.heap.size rfl).boxg 27 #[.string ⟨fa.toArray⟩,.string ⟨fb.toArray⟩] (w.heap.size+1) (by simp)).boxg 24 #[.int .i64 0,.slice none 0 0] (w.heap.size+1+1) (by simp))
 have G0:=Lib.hid ((((Below.refl w.heap.size w).alloc (Nat.le_refl _) (.cells #[.int .i64 M,.slice A n c] 24)).alloc (by simp;try omega) (.cells #[.string ⟨fa.toArray⟩,.string ⟨fb.toArray⟩] 27)).alloc (by simp;try omega) (.cells #[.int .i64 0,.slice none 0 0] 24))
 clear hV
 go_enter Tryz.func27,Tryz.ntmps27
 go_wp2_with (first
  | go_skip
  | (refine at_load 24 (.tmp 2) (by rfl) ?_;refine wpListG_row (by rfl) 24 (.tmp 2) (by rfl) w.heap.size (by rfl) 24 #[.int .i64 M,.slice A n c] _ (K0.out.row 2 rfl) Tryz.underlying24 (by rfl) infoc_T ?_)
  | (go_at_call 36;(with_reducible refine(q_right (A:=A) (n:=n) (xs:=xs) _ K0.out (by simp[HA.out]) HF1.out hr.out).mono ?_);rintro e w1 ⟨rfl,hb⟩;have K1:=Lib.hid (K0.out.on hb);have G1:=Lib.hid (below_step G0.out hb);clear hb K0 G0)
  | (refine at_load 24 (.tmp 2) (by rfl) ?_;refine wpListG_row (by rfl) 24 (.tmp 2) (by rfl) w.heap.size (by rfl) 24 #[.int .i64 M,.slice A n c] _ (K1.out.row 2 rfl) Tryz.underlying24 (by rfl) infoc_T ?_)
  | (refine at_load 27 (.tmp 3) (by rfl) ?_;refine wpListG_row (by rfl) 27 (.tmp 3) (by rfl) (w.heap.size+1) (by rfl) 27 #[.string ⟨fa.toArray⟩,.string ⟨fb.toArray⟩] _ (K1.out.row 1 rfl) Tryz.underlying27 (by rfl) infoc_D ?_)
  | (go_at_call 54;(with_reducible refine(q_find (A:=A) (n:=n) (xs:=xs) _ K1.out (by simp[HA.out]) Hn.out HI.out HB.out).mono ?_);rintro e w2 ⟨rfl,hb⟩;have K2:=Lib.hid (K1.out.on hb);have G2:=Lib.hid (below_step G1.out hb);clear hb K1 G1)
  | (refine at_load 24 (.tmp 2) (by rfl) ?_;refine wpListG_row (by rfl) 24 (.tmp 2) (by rfl) w.heap.size (by rfl) 24 #[.int .i64 M,.slice A n c] _ (K2.out.row 2 rfl) Tryz.underlying24 (by rfl) infoc_T ?_)
  | (refine at_load 27 (.tmp 3) (by rfl) ?_;refine wpListG_row (by rfl) 27 (.tmp 3) (by rfl) (w.heap.size+1) (by rfl) 27 #[.string ⟨fa.toArray⟩,.string ⟨fb.toArray⟩] _ (K2.out.row 1 rfl) Tryz.underlying27 (by rfl) infoc_D ?_)
  | (go_at_call 55;(with_reducible refine(q_way M A n c ⟨fa.toArray⟩ ⟨fb.toArray⟩ _ Hz.out HW.out).mono ?_);rintro e w3 ⟨rfl,hb⟩;have K3:=Lib.hid (K2.out.on hb);have G3:=Lib.hid (below_step G2.out hb);clear hb K2 G2)
  | (refine at_load 27 (.tmp 3) (by rfl) ?_;refine wpListG_row (by rfl) 27 (.tmp 3) (by rfl) (w.heap.size+1) (by rfl) 27 #[.string ⟨fa.toArray⟩,.string ⟨fb.toArray⟩] _ (K3.out.row 1 rfl) Tryz.underlying27 (by rfl) infoc_D ?_)
  | (go_at_call 19;(with_reducible refine(q_field _ K3.out Ha.out Hb.out HL.out HK.out).mono ?_);rintro e w4 ⟨A1,c1,rfl,hb,hE,HA10⟩;have K4:=Lib.hid hE;have HA1:=Lib.hid HA10;have G4:=Lib.hid (below_step G3.out hb);clear hb hE HA10 K3 G3)
  | (refine at_load 24 (.tmp 2) (by rfl) ?_;refine wpListG_row (by rfl) 24 (.tmp 2) (by rfl) w.heap.size (by rfl) 24 #[.int .i64 M,.slice A n c] _ (K4.out.row 2 rfl) Tryz.underlying24 (by rfl) infoc_T ?_)
  | (refine at_load 3 (.tmp 60) (by rfl) ?_;refine wpListG_get (by rfl) 3 (.tmp 60) (by rfl) w.heap.size 0 (by rfl) 24 #[.int .i64 M,.slice A n c] (.int .i64 M) _ (K4.out.row 2 rfl) (by rfl) Tryz.underlying3 (by rfl) ?_)
  | (go_at_call 43;(with_reducible refine(q_resize (A:=A) (n:=n) (c:=c) (xs:=xs) _ K4.out (by simp[HA.out]) HN.out HF.out hres.out.1 hres.out.2.1 hres.out.2.2 Hxn.out).mono ?_);rintro e w5 ⟨A2,c2,rfl,hb,hE,HA20⟩;have K5:=Lib.hid hE;have HA2:=Lib.hid HA20;have G5:=Lib.hid (below_step G4.out hb);clear hb hE HA20 K4 G4;have K5b:=Lib.hid (K5.out.boxg 24 #[.int .i64 0,.slice none 0 0] w5.heap.size rfl);have hz5:w.heap.size≤w5.heap.size:=G5.out.size;have G5b:=Lib.hid (G5.out.alloc hz5 (.cells #[.int .i64 0,.slice none 0 0] 24));clear K5 G5)
  | (refine at_store 24 (.tmp 15) (.tmp 63) (by rfl) ?_;refine wpList_put (by rfl) 24 (.tmp 15) (.tmp 63) (by rfl) w5.heap.size 0 (.agg #[.int .i64 M,.slice A2 n c2]) (by rfl) (by rfl) 24 #[.int .i64 0,.slice none 0 0] #[.int .i64 M,.slice A2 n c2] (K5b.out.row 0 rfl) (by simp[Value.cells]) (by kernel_rfl) infoc_T (by kernel_rfl) ?_;intro w6 hrow hoth hz hbl;have K6:=Lib.hid (K5b.out.turn 0 rfl hrow hoth hz);have G6:=Lib.hid (hbl _ _ (by omega) G5b.out);clear hrow hoth hz hbl K5b G5b))
 refine qf15 (V1:=.slice A1 k c1) (A2:=A2) (m:=n) (c2:=c2) (M:=M) (iS:=0) (iR:=1) (B0:=w.heap.size) rfl rfl (by decide) (by omega) G6.out (fun w' hE9 hB9=>?_) K6.out
 have KE:=Lib.hid hE9
 have BE:=Lib.hid hB9
 clear hE9 hB9 K6 G6
 go_wp2
 have KS:=Lib.hid (KE.out.sub (fs':=bF A1 k L::fF A2 n xs::fs) (gs':=gs) (fun y hy=>by
  rcases List.mem_cons.1 hy with rfl | hy
  ·exact List.mem_cons_of_mem _ (List.mem_cons_self ..)
  rcases List.mem_cons.1 hy with rfl | hy
  ·exact List.mem_cons_self ..
  ·exact List.mem_cons_of_mem _ (List.mem_cons_of_mem _ (hy))) (List.Sublist.cons _ (List.Sublist.cons _ (List.Sublist.cons _ (List.Sublist.cons _ (List.Sublist.refl _))))))
 exact bodyPost_ret (res_tct rfl _ _ _ _ _ _ rfl (KE.out.row 1 rfl) Tryz.underlying24 rfl infoc_T) rfl ⟨A1,c1,A2,c2,rfl,BE.out,KS.out,HA1.out,HA2.out⟩
theorem q_Field_01{fs:List Fact}{gs:List Bx}{L:List UInt8}{k m:Nat}{X:List Fd}(M:Int)(A:Option Addr)(n c:Nat)(xs:List Fd)(fa fb:List UInt8)(w:World)(hV:EnvF w fs gs)(HA:Hid (fF A n xs∈fs))(HN:Hid (A=none→c=0))(HF1:Hid (full xs≤1000000))(hr:Hid (rightB M xs=true))(hres:Hid (resM M xs M=M∧resE M xs M=0∧resL M xs M=xs))(HF:Hid (full xs≤100000))(Hn:Hid (n≤1000000))(Hxn:Hid (xs.length=n))(Ha:Hid (fa.length≤10000))(Hb:Hid (fb.length≤10000))(HK:Hid (L.length=k))(i:Nat)(HI:Hid (findI xs ((⟨fa.toArray⟩,⟨fb.toArray⟩):Fd)=i))(HB:Hid (findB xs ((⟨fa.toArray⟩,⟨fb.toArray⟩):Fd)=false))(Hz:Hid (sz ((⟨fa.toArray⟩,⟨fb.toArray⟩):Fd)≤100000))(HW:Hid (wy M (⟨fa.toArray⟩,⟨fb.toArray⟩)=1))(HL:Hid (fldL fa fb 1=L))(hi1:decide ((0:Int)<(i:Int))=false)(hi2:decide (0<i)=false)(H1:Hid (addM M xs=M))(H2:Hid (addE M xs=0))(H3:Hid (addL M xs (⟨fa.toArray⟩,⟨fb.toArray⟩)=X))(H4:Hid (X.length=m)) :
  Calls Tryz.prog 27 #[.agg #[.int .i64 M,.slice A n c],.agg #[.string ⟨fa.toArray⟩,.string ⟨fb.toArray⟩]] w fun e w'=>∃A1 c1 A2 c2,e = .returned (.tuple #[.slice A1 k c1,.agg #[.int .i64 M,.slice A2 m c2],.int .i64 0])∧Below w.heap.size w w'∧EnvF w' (bF A1 k L::fF A2 m X::fs) gs∧(k≤c1∧(A1=none→c1=0))∧(A2=none→c2=0):=by
 have K0:=Lib.hid ((((hV).boxg 24 #[.int .i64 M,.slice A n c] w.heap.size rfl).boxg 27 #[.string ⟨fa.toArray⟩,.string ⟨fb.toArray⟩] (w.heap.size+1) (by simp)).boxg 24 #[.int .i64 0,.slice none 0 0] (w.heap.size+1+1) (by simp))
 have G0:=Lib.hid ((((Below.refl w.heap.size w).alloc (Nat.le_refl _) (.cells #[.int .i64 M,.slice A n c] 24)).alloc (by simp;try omega) (.cells #[.string ⟨fa.toArray⟩,.string ⟨fb.toArray⟩] 27)).alloc (by simp;try omega) (.cells #[.int .i64 0,.slice none 0 0] 24))
 clear hV
 go_enter Tryz.func27,Tryz.ntmps27
 go_wp2_with (first
  | go_skip
  | (refine at_load 24 (.tmp 2) (by rfl) ?_;refine wpListG_row (by rfl) 24 (.tmp 2) (by rfl) w.heap.size (by rfl) 24 #[.int .i64 M,.slice A n c] _ (K0.out.row 2 rfl) Tryz.underlying24 (by rfl) infoc_T ?_)
  | (go_at_call 36;(with_reducible refine(q_right (A:=A) (n:=n) (xs:=xs) _ K0.out (by simp[HA.out]) HF1.out hr.out).mono ?_);rintro e w1 ⟨rfl,hb⟩;have K1:=Lib.hid (K0.out.on hb);have G1:=Lib.hid (below_step G0.out hb);clear hb K0 G0)
  | (refine at_load 24 (.tmp 2) (by rfl) ?_;refine wpListG_row (by rfl) 24 (.tmp 2) (by rfl) w.heap.size (by rfl) 24 #[.int .i64 M,.slice A n c] _ (K1.out.row 2 rfl) Tryz.underlying24 (by rfl) infoc_T ?_)
  | (refine at_load 27 (.tmp 3) (by rfl) ?_;refine wpListG_row (by rfl) 27 (.tmp 3) (by rfl) (w.heap.size+1) (by rfl) 27 #[.string ⟨fa.toArray⟩,.string ⟨fb.toArray⟩] _ (K1.out.row 1 rfl) Tryz.underlying27 (by rfl) infoc_D ?_)
  | (go_at_call 54;(with_reducible refine(q_find (A:=A) (n:=n) (xs:=xs) _ K1.out (by simp[HA.out]) Hn.out HI.out HB.out).mono ?_);rintro e w2 ⟨rfl,hb⟩;have K2:=Lib.hid (K1.out.on hb);have G2:=Lib.hid (below_step G1.out hb);clear hb K1 G1)
  | (refine at_load 24 (.tmp 2) (by rfl) ?_;refine wpListG_row (by rfl) 24 (.tmp 2) (by rfl) w.heap.size (by rfl) 24 #[.int .i64 M,.slice A n c] _ (K2.out.row 2 rfl) Tryz.underlying24 (by rfl) infoc_T ?_)
  | (refine at_load 27 (.tmp 3) (by rfl) ?_;refine wpListG_row (by rfl) 27 (.tmp 3) (by rfl) (w.heap.size+1) (by rfl) 27 #[.string ⟨fa.toArray⟩,.string ⟨fb.toArray⟩] _ (K2.out.row 1 rfl) Tryz.underlying27 (by rfl) infoc_D ?_)
  | (go_at_call 55;(with_reducible refine(q_way M A n c ⟨fa.toArray⟩ ⟨fb.toArray⟩ _ Hz.out HW.out).mono ?_);rintro e w3 ⟨rfl,hb⟩;have K3:=Lib.hid (K2.out.on hb);have G3:=Lib.hid (below_step G2.out hb);clear hb K2 G2)
  | (refine at_load 27 (.tmp 3) (by rfl) ?_;refine wpListG_row (by rfl) 27 (.tmp 3) (by rfl) (w.heap.size+1) (by rfl) 27 #[.string ⟨fa.toArray⟩,.string ⟨fb.toArray⟩] _ (K3.out.row 1 rfl) Tryz.underlying27 (by rfl) infoc_D ?_)
  | (go_at_call 19;(with_reducible refine(q_field _ K3.out Ha.out Hb.out HL.out HK.out).mono ?_);rintro e w4 ⟨A1,c1,rfl,hb,hE,HA10⟩;have K4:=Lib.hid hE;have HA1:=Lib.hid HA10;have G4:=Lib.hid (below_step G3.out hb);clear hb hE HA10 K3 G3)
  | (refine at_load 24 (.tmp 2) (by rfl) ?_;refine wpListG_row (by rfl) 24 (.tmp 2) (by rfl) w.heap.size (by rfl) 24 #[.int .i64 M,.slice A n c] _ (K4.out.row 2 rfl) Tryz.underlying24 (by rfl) infoc_T ?_)
  | (refine at_load 3 (.tmp 60) (by rfl) ?_;refine wpListG_get (by rfl) 3 (.tmp 60) (by rfl) w.heap.size 0 (by rfl) 24 #[.int .i64 M,.slice A n c] (.int .i64 M) _ (K4.out.row 2 rfl) (by rfl) Tryz.underlying3 (by rfl) ?_)
  | (go_at_call 43;(with_reducible refine(q_resize (A:=A) (n:=n) (c:=c) (xs:=xs) _ K4.out (by simp[HA.out]) HN.out HF.out hres.out.1 hres.out.2.1 hres.out.2.2 Hxn.out).mono ?_);rintro e w5 ⟨A2,c2,rfl,hb,hE,HA20⟩;have K5:=Lib.hid hE;have HA2:=Lib.hid HA20;have G5:=Lib.hid (below_step G4.out hb);clear hb hE HA20 K4 G4;have K5b:=Lib.hid (K5.out.boxg 24 #[.int .i64 0,.slice none 0 0] w5.heap.size rfl);have hz5:w.heap.size≤w5.heap.size:=G5.out.size;have G5b:=Lib.hid (G5.out.alloc hz5 (.cells #[.int .i64 0,.slice none 0 0] 24));clear K5 G5)
  | (refine at_store 24 (.tmp 15) (.tmp 63) (by rfl) ?_;refine wpList_put (by rfl) 24 (.tmp 15) (.tmp 63) (by rfl) w5.heap.size 0 (.agg #[.int .i64 M,.slice A2 n c2]) (by rfl) (by rfl) 24 #[.int .i64 0,.slice none 0 0] #[.int .i64 M,.slice A2 n c2] (K5b.out.row 0 rfl) (by simp[Value.cells]) (by kernel_rfl) infoc_T (by kernel_rfl) ?_;intro w6 hrow hoth hz hbl;have K6:=Lib.hid (K5b.out.turn 0 rfl hrow hoth hz);have G6:=Lib.hid (hbl _ _ (by omega) G5b.out);clear hrow hoth hz hbl K5b G5b)
  | (refine at_load 24 (.tmp 2) (by rfl) ?_;refine wpListG_row (by rfl) 24 (.tmp 2) (by rfl) w.heap.size (by rfl) 24 #[.int .i64 M,.slice A n c] _ (K6.out.row 3 rfl) Tryz.underlying24 (by rfl) infoc_T ?_)
  | (refine at_load 27 (.tmp 3) (by rfl) ?_;refine wpListG_row (by rfl) 27 (.tmp 3) (by rfl) (w.heap.size+1) (by rfl) 27 #[.string ⟨fa.toArray⟩,.string ⟨fb.toArray⟩] _ (K6.out.row 2 rfl) Tryz.underlying27 (by rfl) infoc_D ?_)
  | (go_at_call 56;(with_reducible refine(q_add (A:=A) (n:=n) (c:=c) (xs:=xs) _ K6.out (by simp[HA.out]) HN.out HF.out Hz.out H1.out H2.out H3.out H4.out).mono ?_);rintro e w7 ⟨A3,c3,rfl,hb,hE,HA30⟩;have K7:=Lib.hid hE;have HA3:=Lib.hid HA30;have G7:=Lib.hid (below_step G6.out hb);clear hb hE HA30 K6 G6)
  | (refine at_store 24 (.tmp 15) (.tmp 71) (by rfl) ?_;refine wpList_put (by rfl) 24 (.tmp 15) (.tmp 71) (by rfl) w5.heap.size 0 (.agg #[.int .i64 M,.slice A3 m c3]) (by rfl) (by rfl) 24 #[.int .i64 M,.slice A2 n c2] #[.int .i64 M,.slice A3 m c3] (K7.out.row 0 rfl) (by simp[Value.cells]) (by kernel_rfl) infoc_T (by kernel_rfl) ?_;intro w8 hrow hoth hz hbl;have K8:=Lib.hid (K7.out.turn 0 rfl hrow hoth hz);have G8:=Lib.hid (hbl _ _ (by omega) G7.out);clear hrow hoth hz hbl K7 G7))
 refine qf15 (V1:=.slice A1 k c1) (A2:=A3) (m:=m) (c2:=c3) (M:=M) (iS:=0) (iR:=1) (B0:=w.heap.size) rfl rfl (by decide) (by omega) G8.out (fun w' hE9 hB9=>?_) K8.out
 have KE:=Lib.hid hE9
 have BE:=Lib.hid hB9
 clear hE9 hB9 K8 G8
 go_wp2
 have KS:=Lib.hid (KE.out.sub (fs':=bF A1 k L::fF A3 m X::fs) (gs':=gs) (fun y hy=>by
  rcases List.mem_cons.1 hy with rfl | hy
  ·exact List.mem_cons_of_mem _ (List.mem_cons_of_mem _ (List.mem_cons_self ..))
  rcases List.mem_cons.1 hy with rfl | hy
  ·exact List.mem_cons_self ..
  ·exact List.mem_cons_of_mem _ (List.mem_cons_of_mem _ (List.mem_cons_of_mem _ (hy)))) (List.Sublist.cons _ (List.Sublist.cons _ (List.Sublist.cons _ (List.Sublist.cons _ (List.Sublist.refl _))))))
 exact bodyPost_ret (res_tct rfl _ _ _ _ _ _ rfl (KE.out.row 1 rfl) Tryz.underlying24 rfl infoc_T) rfl ⟨A1,c1,A3,c3,rfl,BE.out,KS.out,HA1.out,HA3.out⟩
end Go.Proofs.YtahiajeggbpogaaGreatDoor
