import Derived.Test.YtahiajeggbpogaaGreatDoorUpB
import Derived.Test.YtahiajeggbpogaaGreatDoorGPart
set_option maxRecDepth 100000
set_option maxHeartbeats 4000000
namespace Go.Proofs.YtahiajeggbpogaaGreatDoor
open Go.RowKit Px Tx Tb Up
set_option linter.unusedVariables false
set_option linter.unusedSimpArgs false
theorem infoc_s:(Tryz.prog.info? 9).map (·.size)=some 1:=by kernel_rfl
theorem gb_alloc{w w1:World}{g:Nat}(h:w.grownBy w1 (some g))(o:Obj):w.grownBy (w1.alloc o) (some g):=gb_below h ((Below.refl _ w1).alloc (Nat.le_refl _) o)
theorem i64_wf{n:Int}(h1 : -9223372036854775808≤n)(h2:n≤9223372036854775807):(Lit.int .i64 n).wf=true:=by
 simp only[Lit.wf,Bool.and_eq_true,decide_eq_true_eq]
 exact⟨h1,h2⟩
namespace Up
section
variable {w w':World}{fs fs':List Fact}{gs gs':List Bx}{i i' g K:Nat}{most:Int}{A:Option Addr}{n c:Nat}{LA:Option Addr}{ln lc:Nat}{s:Sta}
theorem Opn.boxg(h:Opn w fs gs i g K most A n c LA ln lc s)(t:TypeId)(cs:Array Value)(b:Nat)(hb:w.heap.size=b):Opn (w.alloc (.cells cs t)) fs ((b,cs,t)::gs) (i+1) g K most A n c LA ln lc s:=
 ⟨h.e.boxg t cs b hb,h.i,h.f,h.l,h.hl,h.hN,h.hA⟩
theorem Opn.turn(h:Opn w fs gs i g K most A n c LA ln lc s)(j:Nat){b:Nat}{old cs:Array Value}{t:TypeId}(hj:gs[j]? = some (b,old,t))(hne:j≠i)(hrow:w'.heap[b]? = some (.cells cs t))(hoth : ∀k,k≠b→w'.heap[k]? = w.heap[k]?)(hz:w'.heap.size=w.heap.size) :
  Opn w' fs (gs.set j (b,cs,t)) i g K most A n c LA ln lc s:=
 ⟨h.e.turn j hj hrow hoth hz,by rw[List.getElem?_set_ne hne];exact h.i,h.f,h.l,h.hl,h.hN,h.hA⟩
theorem set_same{x:Bx}(h:gs[i]? = some x):gs.set i x=gs:=by
 apply List.ext_getElem?
 intro j
 rw[List.getElem?_set]
 split
 ·rename_i e
  subst e
  have hl:=(List.getElem?_eq_some_iff.1 h).1
  rw[if_pos hl,h]
 ·rfl
theorem Opn.shut(h:Opn w' fs' gs' i' g K most A n c LA ln lc s)(hf : ∀x∈fs,x∈fs'){y:Bx}(hi:gs[i]? = some y)(hg:List.Sublist (gs.set i (g,rdc K most s.M A n c LA ln lc,64)) gs'):Cls w' fs gs i g K most s:=by
 refine⟨A,n,c,LA,ln,lc,h.e.sub (fun x hx=>?_) hg,set_ix hi,List.mem_cons_self ..,List.mem_cons_of_mem _ (List.mem_cons_self ..),h.hl,h.hN,h.hA⟩
 simp only[List.mem_cons] at hx
 rcases hx with rfl | rfl | hx
 ·exact h.f
 ·exact h.l
 ·exact hf x hx
end
end Up
theorem u_own_a{fs:List Fact}{gs:List Bx}{i g K:Nat}{most:Int}{A:Option Addr}{n c:Nat}{LA:Option Addr}{ln lc:Nat}{s:Sta}(w:World)(hO:Opn w fs gs i g K most A n c LA ln lc s)(hR:rwF∈fs)(hn:ln≤10000)(hE:tE s.ls≠0) :
  Calls Tryz.prog 87 #[.pointer (some ⟨g,0,none⟩),.int .i64 0] w fun e w'=>e = .returned (.tuple #[.agg #[.string (st (tS s.ls)),.string ⟨#[]⟩],.int .i64 (tE s.ls)])∧w.grownBy w' (some g)∧Cls w' fs gs i g K most ⟨s.M,s.xs,tRs s.ls⟩:=by
 obtain⟨M,xs,ls⟩:=s
 have HI:=Lib.hid hO.i
 simp only at *
 have K0:=Lib.hid ((hO).boxg 27 #[.string ⟨#[]⟩,.string ⟨#[]⟩] w.heap.size (by simp))
 have G0:Hid (w.grownBy _ (some g)):=Lib.hid (gb_alloc (gb_refl w g) (.cells #[.string ⟨#[]⟩,.string ⟨#[]⟩] 27))
 have HR:=Lib.hid hR
 have HL:=Lib.hid hO.len
 have hb:(tE ls==0)=false:=by simpa using hE
 clear hO
 go_enter Tryz.func87,Tryz.ntmps87
 go_wp2_with (first
  | go_skip
  | (go_at_call 106;(with_reducible refine(u_text _ K0.out HR.out hn).mono ?_);rintro e w1 ⟨rfl,hg,A1,n1,c1,LA1,ln1,lc1,hk⟩;have K1:=Lib.hid hk;have G1:Hid (w.grownBy w1 (some g)):=Lib.hid (gb_trans G0.out hg);clear hg hk K0 G0)
  | (refine at_store 9 (.tmp 13) (.tmp 11) (by rfl) ?_;refine wpList_put (by rfl) 9 (.tmp 13) (.tmp 11) (by rfl) w.heap.size 0 (.string (st (tS ls))) (by rfl) (by rfl) 27 #[.string ⟨#[]⟩,.string ⟨#[]⟩] #[.string (st (tS ls)),.string ⟨#[]⟩] (K1.out.e.row 0 rfl) (by simp[Value.cells]) (by kernel_rfl) infoc_s (by kernel_rfl) ?_;intro w2 hrow hoth hz hbl;have K2:=Lib.hid (K1.out.turn 0 rfl (by omega) hrow hoth hz);have G2:Hid (w.grownBy w2 (some g)):=Lib.hid (gb_put G1.out hoth hz hbl (.inr (by omega)));clear hrow hoth hz hbl K1 G1)
  | (refine at_load 27 (.tmp 4) (by rfl) ?_;refine wpList_load_row (by rfl) 27 (.tmp 4) (by rfl) w.heap.size (by rfl) 27 #[.string (st (tS ls)),.string ⟨#[]⟩] (0,0) _ (K2.out.e.row 0 rfl) Tryz.underlying27 (by rfl) infoc_D ?_)
  | (refine at_store 27 (.tmp 4) (.tmp 31) (by rfl) ?_;refine wpList_put (by rfl) 27 (.tmp 4) (.tmp 31) (by rfl) w.heap.size 0 (.agg #[.string (st (tS ls)),.string ⟨#[]⟩]) (by rfl) (by rfl) 27 #[.string (st (tS ls)),.string ⟨#[]⟩] #[.string (st (tS ls)),.string ⟨#[]⟩] (K2.out.e.row 0 rfl) (by simp[Value.cells]) (by kernel_rfl) infoc_D (by kernel_rfl) ?_;intro w3 hrow hoth hz hbl;have K3:=Lib.hid (K2.out.turn 0 rfl (by omega) hrow hoth hz);have G3:Hid (w.grownBy w3 (some g)):=Lib.hid (gb_put G2.out hoth hz hbl (.inr (by omega)));clear hrow hoth hz hbl K2 G2))
 exact bodyPost_ret (res_cell_tmp rfl _ _ _ _ _ _ rfl (K3.out.e.row 0 rfl) Tryz.underlying27 rfl infoc_D) rfl ⟨rfl,G3.out,K3.out.shut (fun x hx=>by simp[hx]) HI.out (by simp only[List.set_cons_succ,List.set_cons_zero,List.set_set];(try rw[set_same HI.out]);exact List.sublist_cons_self _ _)⟩
theorem u_own_b{fs:List Fact}{gs:List Bx}{i g K:Nat}{most:Int}{A:Option Addr}{n c:Nat}{LA:Option Addr}{ln lc:Nat}{s:Sta}(w:World)(hO:Opn w fs gs i g K most A n c LA ln lc s)(hR:rwF∈fs)(hn:ln≤10000)(hE:tE s.ls=0) :
  Calls Tryz.prog 87 #[.pointer (some ⟨g,0,none⟩),.int .i64 0] w fun e w'=>e = .returned (.tuple #[.agg #[.string (st (tS s.ls)),.string (st (tS (tRs s.ls)))],.int .i64 (tE (tRs s.ls))])∧w.grownBy w' (some g)∧Cls w' fs gs i g K most ⟨s.M,s.xs,tRs (tRs s.ls)⟩:=by
 obtain⟨M,xs,ls⟩:=s
 have HI:=Lib.hid hO.i
 simp only at *
 have K0:=Lib.hid ((hO).boxg 27 #[.string ⟨#[]⟩,.string ⟨#[]⟩] w.heap.size (by simp))
 have G0:Hid (w.grownBy _ (some g)):=Lib.hid (gb_alloc (gb_refl w g) (.cells #[.string ⟨#[]⟩,.string ⟨#[]⟩] 27))
 have HR:=Lib.hid hR
 have HL:=Lib.hid hO.len
 have hb:(tE ls==0)=true:=by simpa using hE
 clear hO
 go_enter Tryz.func87,Tryz.ntmps87
 go_wp2_with (first
  | go_skip
  | (go_at_call 106;(with_reducible refine(u_text _ K0.out HR.out hn).mono ?_);rintro e w1 ⟨rfl,hg,A1,n1,c1,LA1,ln1,lc1,hk⟩;have K1:=Lib.hid hk;have G1:Hid (w.grownBy w1 (some g)):=Lib.hid (gb_trans G0.out hg);clear hg hk K0 G0;have hn1:ln1≤10000:=(by have h1:=K1.out.len;have h2:=t_le ls;have h3:=HL.out;simp only at h1 h3;omega))
  | (refine at_store 9 (.tmp 13) (.tmp 11) (by rfl) ?_;refine wpList_put (by rfl) 9 (.tmp 13) (.tmp 11) (by rfl) w.heap.size 0 (.string (st (tS ls))) (by rfl) (by rfl) 27 #[.string ⟨#[]⟩,.string ⟨#[]⟩] #[.string (st (tS ls)),.string ⟨#[]⟩] (K1.out.e.row 0 rfl) (by simp[Value.cells]) (by kernel_rfl) infoc_s (by kernel_rfl) ?_;intro w2 hrow hoth hz hbl;have K2:=Lib.hid (K1.out.turn 0 rfl (by omega) hrow hoth hz);have G2:Hid (w.grownBy w2 (some g)):=Lib.hid (gb_put G1.out hoth hz hbl (.inr (by omega)));clear hrow hoth hz hbl K1 G1)
  | (go_at_call 106;(with_reducible refine(u_text _ K2.out (by simp[HR.out]) hn1).mono ?_);rintro e w3 ⟨rfl,hg,A3,n3,c3,LA3,ln3,lc3,hk⟩;have K3:=Lib.hid hk;have G3:Hid (w.grownBy w3 (some g)):=Lib.hid (gb_trans G2.out hg);clear hg hk K2 G2)
  | (refine at_store 9 (.tmp 30) (.tmp 28) (by rfl) ?_;refine wpList_put (by rfl) 9 (.tmp 30) (.tmp 28) (by rfl) w.heap.size 1 (.string (st (tS (tRs ls)))) (by rfl) (by rfl) 27 #[.string (st (tS ls)),.string ⟨#[]⟩] #[.string (st (tS ls)),.string (st (tS (tRs ls)))] (K3.out.e.row 0 rfl) (by simp[Value.cells]) (by kernel_rfl) infoc_s (by kernel_rfl) ?_;intro w4 hrow hoth hz hbl;have K4:=Lib.hid (K3.out.turn 0 rfl (by omega) hrow hoth hz);have G4:Hid (w.grownBy w4 (some g)):=Lib.hid (gb_put G3.out hoth hz hbl (.inr (by omega)));clear hrow hoth hz hbl K3 G3)
  | (refine at_load 27 (.tmp 4) (by rfl) ?_;refine wpList_load_row (by rfl) 27 (.tmp 4) (by rfl) w.heap.size (by rfl) 27 #[.string (st (tS ls)),.string (st (tS (tRs ls)))] (0,0) _ (K4.out.e.row 0 rfl) Tryz.underlying27 (by rfl) infoc_D ?_)
  | (refine at_store 27 (.tmp 4) (.tmp 31) (by rfl) ?_;refine wpList_put (by rfl) 27 (.tmp 4) (.tmp 31) (by rfl) w.heap.size 0 (.agg #[.string (st (tS ls)),.string (st (tS (tRs ls)))]) (by rfl) (by rfl) 27 #[.string (st (tS ls)),.string (st (tS (tRs ls)))] #[.string (st (tS ls)),.string (st (tS (tRs ls)))] (K4.out.e.row 0 rfl) (by simp[Value.cells]) (by kernel_rfl) infoc_D (by kernel_rfl) ?_;intro w5 hrow hoth hz hbl;have K5:=Lib.hid (K4.out.turn 0 rfl (by omega) hrow hoth hz);have G5:Hid (w.grownBy w5 (some g)):=Lib.hid (gb_put G4.out hoth hz hbl (.inr (by omega)));clear hrow hoth hz hbl K4 G4))
 exact bodyPost_ret (res_cell_tmp rfl _ _ _ _ _ _ rfl (K5.out.e.row 0 rfl) Tryz.underlying27 rfl infoc_D) rfl ⟨rfl,G5.out,K5.out.shut (fun x hx=>by simp[hx]) HI.out (by simp only[List.set_cons_succ,List.set_cons_zero,List.set_set];(try rw[set_same HI.out]);exact List.sublist_cons_self _ _)⟩
theorem u_own_c{fs:List Fact}{gs:List Bx}{i g K:Nat}{most:Int}{A:Option Addr}{n c:Nat}{LA:Option Addr}{ln lc:Nat}{s:Sta}(w:World)(hO:Opn w fs gs i g K most A n c LA ln lc s)(v:Nat)(hR:rwF∈fs)(hS:stF∈fs)(hn:ln≤10000)(hX:full s.xs≤100000)(hv:v≠0)(hv2:v<2147483648)(hE:atE s.xs (v:Int)=0) :
  Calls Tryz.prog 87 #[.pointer (some ⟨g,0,none⟩),.int .i64 (v:Int)] w fun e w'=>e = .returned (.tuple #[.agg #[.string (atV s.xs (v:Int)).1,.string (st (tS s.ls))],.int .i64 (tE s.ls)])∧w.grownBy w' (some g)∧Cls w' fs gs i g K most ⟨s.M,s.xs,tRs s.ls⟩:=by
 obtain⟨M,xs,ls⟩:=s
 have HI:=Lib.hid hO.i
 simp only at *
 have K0:=Lib.hid ((hO).boxg 27 #[.string ⟨#[]⟩,.string ⟨#[]⟩] w.heap.size (by simp))
 have G0:Hid (w.grownBy _ (some g)):=Lib.hid (gb_alloc (gb_refl w g) (.cells #[.string ⟨#[]⟩,.string ⟨#[]⟩] 27))
 have HR:=Lib.hid hR
 have HL:=Lib.hid hO.len
 have HS:=Lib.hid hS
 have hnm:n≤1000000:=by have h1:=hO.fld.1;have h2:=full_len xs;simp only at h1;omega
 have hwf:(Lit.int .i64 (v:Int)).wf=true:=i64_wf (by omega) (by omega)
 have hv0:((v:Int)==0)=false:=by rw[beq_eq_false_iff_ne];omega
 have hb:(atE xs (v:Int)==0)=true:=by simpa using hE
 clear hO
 go_enter Tryz.func87,Tryz.ntmps87
 go_wp2_with (first
  | go_skip
  | (refine at_load 24 (.tmp 17) (by rfl) ?_;refine wpList_part (by rfl) 24 (.tmp 17) (by rfl) g 2 (by rfl) 64 (rdc K most M A n c LA ln lc) #[.int .i64 M,.slice A n c] _ (K0.out.row) (part2 (by rfl) (by rfl)) Tryz.underlying24 (by rfl) infoc_T ?_)
  | (go_at_call 86;have hc:=(t_at M A n c xs (v:Int) _ (Tb.EnvF.stv K0.out.e HS.out) K0.out.fld hnm hwf);unfold fdv at hc;(with_reducible refine hc.mono ?_);clear hc;rintro e w1 ⟨rfl,hb⟩;have K1:=Lib.hid (K0.out.on hb);have G1:Hid (w.grownBy w1 (some g)):=Lib.hid (gb_below G0.out hb);clear hb K0 G0)
  | (refine at_store 27 (.tmp 4) (.tmp 21) (by rfl) ?_;refine wpList_put (by rfl) 27 (.tmp 4) (.tmp 21) (by rfl) w.heap.size 0 (.agg #[.string (atV xs (v:Int)).1,.string (atV xs (v:Int)).2]) (by rfl) (by rfl) 27 #[.string ⟨#[]⟩,.string ⟨#[]⟩] #[.string (atV xs (v:Int)).1,.string (atV xs (v:Int)).2] (K1.out.e.row 0 rfl) (by simp[Value.cells]) (by kernel_rfl) infoc_D (by kernel_rfl) ?_;intro w2 hrow hoth hz hbl;have K2:=Lib.hid (K1.out.turn 0 rfl (by omega) hrow hoth hz);have G2:Hid (w.grownBy w2 (some g)):=Lib.hid (gb_put G1.out hoth hz hbl (.inr (by omega)));clear hrow hoth hz hbl K1 G1)
  | (go_at_call 106;(with_reducible refine(u_text _ K2.out HR.out hn).mono ?_);rintro e w3 ⟨rfl,hg,A3,n3,c3,LA3,ln3,lc3,hk⟩;have K3:=Lib.hid hk;have G3:Hid (w.grownBy w3 (some g)):=Lib.hid (gb_trans G2.out hg);clear hg hk K2 G2)
  | (refine at_store 9 (.tmp 30) (.tmp 28) (by rfl) ?_;refine wpList_put (by rfl) 9 (.tmp 30) (.tmp 28) (by rfl) w.heap.size 1 (.string (st (tS ls))) (by rfl) (by rfl) 27 #[.string (atV xs (v:Int)).1,.string (atV xs (v:Int)).2] #[.string (atV xs (v:Int)).1,.string (st (tS ls))] (K3.out.e.row 0 rfl) (by simp[Value.cells]) (by kernel_rfl) infoc_s (by kernel_rfl) ?_;intro w4 hrow hoth hz hbl;have K4:=Lib.hid (K3.out.turn 0 rfl (by omega) hrow hoth hz);have G4:Hid (w.grownBy w4 (some g)):=Lib.hid (gb_put G3.out hoth hz hbl (.inr (by omega)));clear hrow hoth hz hbl K3 G3)
  | (refine at_load 27 (.tmp 4) (by rfl) ?_;refine wpList_load_row (by rfl) 27 (.tmp 4) (by rfl) w.heap.size (by rfl) 27 #[.string (atV xs (v:Int)).1,.string (st (tS ls))] (0,0) _ (K4.out.e.row 0 rfl) Tryz.underlying27 (by rfl) infoc_D ?_)
  | (refine at_store 27 (.tmp 4) (.tmp 31) (by rfl) ?_;refine wpList_put (by rfl) 27 (.tmp 4) (.tmp 31) (by rfl) w.heap.size 0 (.agg #[.string (atV xs (v:Int)).1,.string (st (tS ls))]) (by rfl) (by rfl) 27 #[.string (atV xs (v:Int)).1,.string (st (tS ls))] #[.string (atV xs (v:Int)).1,.string (st (tS ls))] (K4.out.e.row 0 rfl) (by simp[Value.cells]) (by kernel_rfl) infoc_D (by kernel_rfl) ?_;intro w5 hrow hoth hz hbl;have K5:=Lib.hid (K4.out.turn 0 rfl (by omega) hrow hoth hz);have G5:Hid (w.grownBy w5 (some g)):=Lib.hid (gb_put G4.out hoth hz hbl (.inr (by omega)));clear hrow hoth hz hbl K4 G4))
 exact bodyPost_ret (res_cell_tmp rfl _ _ _ _ _ _ rfl (K5.out.e.row 0 rfl) Tryz.underlying27 rfl infoc_D) rfl ⟨rfl,G5.out,K5.out.shut (fun x hx=>by simp[hx]) HI.out (by simp only[List.set_cons_succ,List.set_cons_zero,List.set_set];(try rw[set_same HI.out]);exact List.sublist_cons_self _ _)⟩
theorem u_own_d{fs:List Fact}{gs:List Bx}{i g K:Nat}{most:Int}{A:Option Addr}{n c:Nat}{LA:Option Addr}{ln lc:Nat}{s:Sta}(w:World)(hO:Opn w fs gs i g K most A n c LA ln lc s)(v:Nat)(hR:rwF∈fs)(hS:stF∈fs)(hn:ln≤10000)(hX:full s.xs≤100000)(hv:v≠0)(hv2:v<2147483648)(hE:atE s.xs (v:Int)≠0) :
  Calls Tryz.prog 87 #[.pointer (some ⟨g,0,none⟩),.int .i64 (v:Int)] w fun e w'=>e = .returned (.tuple #[.agg #[.string (atV s.xs (v:Int)).1,.string (atV s.xs (v:Int)).2],.int .i64 (atE s.xs (v:Int))])∧w.grownBy w' (some g)∧Cls w' fs gs i g K most s:=by
 obtain⟨M,xs,ls⟩:=s
 have HI:=Lib.hid hO.i
 simp only at *
 have K0:=Lib.hid ((hO).boxg 27 #[.string ⟨#[]⟩,.string ⟨#[]⟩] w.heap.size (by simp))
 have G0:Hid (w.grownBy _ (some g)):=Lib.hid (gb_alloc (gb_refl w g) (.cells #[.string ⟨#[]⟩,.string ⟨#[]⟩] 27))
 have HR:=Lib.hid hR
 have HL:=Lib.hid hO.len
 have HS:=Lib.hid hS
 have hnm:n≤1000000:=by have h1:=hO.fld.1;have h2:=full_len xs;simp only at h1;omega
 have hwf:(Lit.int .i64 (v:Int)).wf=true:=i64_wf (by omega) (by omega)
 have hv0:((v:Int)==0)=false:=by rw[beq_eq_false_iff_ne];omega
 have hb:(atE xs (v:Int)==0)=false:=by simpa using hE
 clear hO
 go_enter Tryz.func87,Tryz.ntmps87
 go_wp2_with (first
  | go_skip
  | (refine at_load 24 (.tmp 17) (by rfl) ?_;refine wpList_part (by rfl) 24 (.tmp 17) (by rfl) g 2 (by rfl) 64 (rdc K most M A n c LA ln lc) #[.int .i64 M,.slice A n c] _ (K0.out.row) (part2 (by rfl) (by rfl)) Tryz.underlying24 (by rfl) infoc_T ?_)
  | (go_at_call 86;have hc:=(t_at M A n c xs (v:Int) _ (Tb.EnvF.stv K0.out.e HS.out) K0.out.fld hnm hwf);unfold fdv at hc;(with_reducible refine hc.mono ?_);clear hc;rintro e w1 ⟨rfl,hb⟩;have K1:=Lib.hid (K0.out.on hb);have G1:Hid (w.grownBy w1 (some g)):=Lib.hid (gb_below G0.out hb);clear hb K0 G0)
  | (refine at_store 27 (.tmp 4) (.tmp 21) (by rfl) ?_;refine wpList_put (by rfl) 27 (.tmp 4) (.tmp 21) (by rfl) w.heap.size 0 (.agg #[.string (atV xs (v:Int)).1,.string (atV xs (v:Int)).2]) (by rfl) (by rfl) 27 #[.string ⟨#[]⟩,.string ⟨#[]⟩] #[.string (atV xs (v:Int)).1,.string (atV xs (v:Int)).2] (K1.out.e.row 0 rfl) (by simp[Value.cells]) (by kernel_rfl) infoc_D (by kernel_rfl) ?_;intro w2 hrow hoth hz hbl;have K2:=Lib.hid (K1.out.turn 0 rfl (by omega) hrow hoth hz);have G2:Hid (w.grownBy w2 (some g)):=Lib.hid (gb_put G1.out hoth hz hbl (.inr (by omega)));clear hrow hoth hz hbl K1 G1)
  | (refine at_load 27 (.tmp 4) (by rfl) ?_;refine wpList_load_row (by rfl) 27 (.tmp 4) (by rfl) w.heap.size (by rfl) 27 #[.string (atV xs (v:Int)).1,.string (atV xs (v:Int)).2] (0,0) _ (K2.out.e.row 0 rfl) Tryz.underlying27 (by rfl) infoc_D ?_)
  | (refine at_store 27 (.tmp 4) (.tmp 31) (by rfl) ?_;refine wpList_put (by rfl) 27 (.tmp 4) (.tmp 31) (by rfl) w.heap.size 0 (.agg #[.string (atV xs (v:Int)).1,.string (atV xs (v:Int)).2]) (by rfl) (by rfl) 27 #[.string (atV xs (v:Int)).1,.string (atV xs (v:Int)).2] #[.string (atV xs (v:Int)).1,.string (atV xs (v:Int)).2] (K2.out.e.row 0 rfl) (by simp[Value.cells]) (by kernel_rfl) infoc_D (by kernel_rfl) ?_;intro w3 hrow hoth hz hbl;have K3:=Lib.hid (K2.out.turn 0 rfl (by omega) hrow hoth hz);have G3:Hid (w.grownBy w3 (some g)):=Lib.hid (gb_put G2.out hoth hz hbl (.inr (by omega)));clear hrow hoth hz hbl K2 G2))
 exact bodyPost_ret (res_cell_tmp rfl _ _ _ _ _ _ rfl (K3.out.e.row 0 rfl) Tryz.underlying27 rfl infoc_D) rfl ⟨rfl,G3.out,K3.out.shut (fun x hx=>by simp[hx]) HI.out (by simp only[List.set_cons_succ,List.set_cons_zero,List.set_set];(try rw[set_same HI.out]);exact List.sublist_cons_self _ _)⟩
theorem u_own{fs:List Fact}{gs:List Bx}{i g K:Nat}{most:Int}{A:Option Addr}{n c:Nat}{LA:Option Addr}{ln lc:Nat}{s:Sta}(w:World)(hO:Opn w fs gs i g K most A n c LA ln lc s)(v:Nat)(hR:rwF∈fs)(hS:stF∈fs)(hn:ln≤10000)(hX:full s.xs≤100000)(hv2:v<2147483648) :
  Calls Tryz.prog 87 #[.pointer (some ⟨g,0,none⟩),.int .i64 (v:Int)] w fun e w'=>e = .returned (.tuple #[fdv (owF s.xs s.ls v),.int .i64 (owE s.xs s.ls v)])∧w.grownBy w' (some g)∧Cls w' fs gs i g K most ⟨s.M,s.xs,owR s.xs s.ls v⟩:=by
 unfold owF owE owR fdv
 by_cases hv:v=0
 ·subst hv
  simp only[if_true]
  by_cases hE:tE s.ls=0
  ·simp only[hE,if_true]
   exact u_own_b w hO hR hn hE
  ·simp only[hE,if_false]
   exact u_own_a w hO hR hn hE
 ·simp only[hv,if_false]
  by_cases hE:atE s.xs (v:Int)=0
  ·simp only[hE,if_true]
   exact u_own_c w hO v hR hS hn hX hv hv2 hE
  ·simp only[hE,if_false]
   exact u_own_d w hO v hR hS hn hX hv hv2 hE
end Go.Proofs.YtahiajeggbpogaaGreatDoor
