import Derived.Test.YtahiajeggbpogaaGreatDoorPkF
set_option maxRecDepth 100000
set_option maxHeartbeats 4000000
namespace Go.Proofs.YtahiajeggbpogaaGreatDoor
open Go.RowKit Go.Shelf Px Tx Tb Up Pk
set_option linter.unusedVariables false
set_option linter.unusedSimpArgs false
attribute [local go_sem] Oper.semAt_some
theorem p_sized{i:Int}{L:List UInt8}{E:Int}{k:Nat}(w:World)(hM:Mks w)(h1:putL i (5:Nat) 32=L)(h2:putE i (5:Nat)=E)(h3:L.length=k) :
  Calls Tryz.prog 13 #[.int .i64 i] w fun e w'=>∃A c,e = .returned (.tuple #[.slice A k c,.int .i64 E])∧OwnB w' w.heap.size 5 (.slice A k c) L∧Below w.heap.size w w':=by
 subst h1 h2 h3
 exact u_Sized i w hM
theorem c_Sized_y{fs:List Fact}{gs:List Bx}{A:Option Addr}{n c:Nat}{xs:List Fd}{M most E:Int}{P:List UInt8}{j:Nat}{L:List UInt8}{ls X Y:List Fd}{k q:Nat}(LA:Option Addr)(ln lc:Nat)(w:World)(hV:EnvF w fs gs)(HA:Hid (fF A n xs∈fs))(HN:Hid (A=none→c=0))(HF:Hid (full xs≤100000))(HM:Hid (mvF∈fs))(hP:Hid (putL most (5:Nat) 32=P))(hj:Hid (P.length=j))(HS:Hid (stF∈fs))(HR:Hid (rwF∈fs))(HL:Hid (fF LA ln ls∈fs))(hE:Hid (putE most (5:Nat)=0))(hp0:Hid (P.length≤100))(hr:Hid (rightB most X=true))(hres:Hid (resM M xs most=most∧resE M xs most=0∧resL M xs most=X))(hz:Hid (full ls≤7000))(hB:Hid (P++kB most X ls=L))(hY:Hid (kX most X ls=Y))(hk:Hid (L.length=k))(hq:Hid (Y.length=q)) :
  Calls Tryz.prog 32 #[.agg #[.int .i64 M,.slice A n c],.int .i64 most,.slice LA ln lc] w fun e w'=>∃A1 c1 A2 c2,e = .returned (.tuple #[.slice A1 k c1,.agg #[.int .i64 most,.slice A2 q c2],.int .i64 0])∧Below w.heap.size w w'∧EnvF w' (bF A1 k L::oF w.heap.size 27 (.slice A2 q c2) Y::fF A2 q Y::fs) gs∧(k≤c1∧(A1=none→c1=0))∧(A2=none→c2=0):=by
 have K0:=Lib.hid (((hV).boxg 24 #[.int .i64 M,.slice A n c] w.heap.size rfl).boxg 24 #[.int .i64 0,.slice none 0 0] (w.heap.size+1) (by simp))
 have G0:=Lib.hid (((Below.refl w.heap.size w).alloc (Nat.le_refl _) (.cells #[.int .i64 M,.slice A n c] 24)).alloc (by simp;try omega) (.cells #[.int .i64 0,.slice none 0 0] 24))
 obtain⟨W0,hW0⟩ : ∃W0,((w.alloc (.cells #[.int .i64 M,.slice A n c] 24)).alloc (.cells #[.int .i64 0,.slice none 0 0] 24))=W0:=⟨_,rfl⟩
 have hW1:W0.heap.size=w.heap.size+1+1:=by rw[←hW0];simp
 rw[hW0] at K0 G0
 have h22:((0:Int) != 0)=false:=rfl
 clear hV
 go_enter Tryz.func32,Tryz.ntmps32
 go_wp2_with (first
  | go_skip
  | (go_at_call 13;(try rw[hW0]);(with_reducible refine(p_sized _ (Up.EnvF.mks K0.out HM.out) hP.out hE.out hj.out).mono ?_);rintro e w1 ⟨A1,c1,rfl,ho,hb⟩;obtain⟨lb1,hl1,hE1⟩:=bx_hand (gs:=(w.heap.size+1,#[.int .i64 0,.slice none 0 0],24)::(w.heap.size,#[.int .i64 M,.slice A n c],24)::gs) (B:=w.heap.size) K0.out hb ho G0.out.size;have K1:=Lib.hid hE1;have HL1:=Lib.hid hl1;have G1:=Lib.hid (below_step G0.out hb);clear ho hb hl1 hE1 K0 G0)
  | (refine at_load 24 (.tmp 3) (by rfl) ?_;refine wpListG_row (by rfl) 24 (.tmp 3) (by rfl) w.heap.size (by rfl) 24 #[.int .i64 M,.slice A n c] _ (K1.out.row 1 rfl) Tryz.underlying24 (by rfl) infoc_T ?_)
  | (go_at_call 57;(with_reducible refine(p_blockP (B1:=w.heap.size) (gs:=(w.heap.size+1,#[.int .i64 0,.slice none 0 0],24)::(w.heap.size,#[.int .i64 M,.slice A n c],24)::gs) (lb:=lb1) (L0:=P) (A:=A) (n:=n) (c:=c) (xs:=xs) (X:=X) A1 j c1 LA ln lc _ K1.out HL1.out (Nat.le_trans G1.out.size (Nat.le_refl _)) G1.out.size (by simp[HA.out]) (by simp[HL.out]) HN.out HF.out (by simp[HS.out]) (by simp[HR.out]) (by simp[HM.out]) hr.out hres.out.1 hres.out.2.1 hres.out.2.2 hz.out hp0.out hB.out hY.out hk.out hq.out).mono ?_);rintro e w2 ⟨A3,c3,A2,c2,rfl,hb,hE2,HA10⟩;have K2:=Lib.hid hE2;have HA1:=Lib.hid HA10;have HZ0:Hid (w.heap.size≤w1.heap.size):=Lib.hid G1.out.size;have G2:=Lib.hid (G1.out.trans hb);clear hb hE2 HA10 K1 G1 HL1)
  | (refine at_store 24 (.tmp 7) (.tmp 26) (by rfl) ?_;refine wpList_put (by rfl) 24 (.tmp 7) (.tmp 26) (by rfl) (w.heap.size+1) 0 (.agg #[.int .i64 most,.slice A2 q c2]) (by rfl) (by rfl) 24 #[.int .i64 0,.slice none 0 0] #[.int .i64 most,.slice A2 q c2] (K2.out.row 0 rfl) (by simp[Value.cells]) (by kernel_rfl) infoc_T (by kernel_rfl) ?_;intro w3 hrow hoth hz hbl;have K3:=Lib.hid (K2.out.turn 0 rfl hrow hoth hz);have G3:=Lib.hid (hbl _ _ (by omega) G2.out);clear hrow hoth hz hbl K2 G2))
 have KE:=K3.out
 exact bodyPost_ret (res_tct rfl _ _ _ _ _ _ rfl (KE.row 0 rfl) Tryz.underlying24 rfl infoc_T) rfl ⟨A3,c3,A2,c2,rfl,G3.out,KE.sub (fun y hy=>by simp only[List.mem_cons] at hy ⊢;rcases hy with rfl | rfl | rfl | hy<;>simp[*]) (by simp only[List.set_cons_succ,List.set_cons_zero];repeat (first | exact List.Sublist.refl _ | apply List.Sublist.cons)),HA1.out.1,HA1.out.2⟩
theorem p_Sized{fs:List Fact}{gs:List Bx}{A:Option Addr}{n c:Nat}{xs ls Y:List Fd}{M most:Int}{L:List UInt8}{k q:Nat}(LA:Option Addr)(ln lc:Nat)(w:World)(hV:EnvF w fs gs)(hA:fF A n xs∈fs)(hN:A=none→c=0)(hS:stF∈fs)(hR:rwF∈fs)(hM:mvF∈fs)(hL:fF LA ln ls∈fs)(hr:rightB M xs=true)(h0:0≤most)(h1:most≤4096)(hz:full ls≤7000)(hB:putL most (5:Nat) 32++kB most (keep most xs) ls=L)(hY:kX most (keep most xs) ls=Y)(hk:L.length=k)(hq:Y.length=q) :
  Calls Tryz.prog 32 #[.agg #[.int .i64 M,.slice A n c],.int .i64 most,.slice LA ln lc] w fun e w'=>∃A1 c1 A2 c2,e = .returned (.tuple #[.slice A1 k c1,.agg #[.int .i64 most,.slice A2 q c2],.int .i64 0])∧Below w.heap.size w w'∧EnvF w' (bF A1 k L::oF w.heap.size 27 (.slice A2 q c2) Y::fF A2 q Y::fs) gs∧(k≤c1∧(A1=none→c1=0))∧(A2=none→c2=0):=by
 obtain⟨g0,g1,g2⟩:=okB_of hr
 have hb:resB M xs most=true:=by
  unfold resB okB
  rw[hr]
  simp only[Bool.true_and,Bool.and_eq_true,decide_eq_true_eq]
  exact⟨h0,h1⟩
 obtain⟨mn,hmn⟩ : ∃mn:Nat,most=mn:=⟨most.toNat,by omega⟩
 refine c_Sized_y (E:=0) (P:=putL most (5:Nat) 32) (X:=keep most xs) LA ln lc w hV (Lib.hid hA) (Lib.hid hN) (Lib.hid (by omega)) (Lib.hid hM) (Lib.hid rfl) (Lib.hid rfl) (Lib.hid hS) (Lib.hid hR) (Lib.hid hL) (Lib.hid ?_) (Lib.hid (Nat.le_trans (putL_len _ _ _) (by omega))) (Lib.hid (right_of h0 h1 (keep_full _ h0))) (Lib.hid ⟨if_pos hb,if_pos hb,if_pos hb⟩) (Lib.hid hz) (Lib.hid hB) (Lib.hid hY) (Lib.hid hk) (Lib.hid hq)
 rw[hmn]
 exact putE_small (by omega) (by omega)
end Go.Proofs.YtahiajeggbpogaaGreatDoor
