import Derived.Test.YtahiajeggbpogaaGreatDoorPkC
import Derived.Test.YtahiajeggbpogaaGreatDoorPkG
set_option maxRecDepth 100000
set_option maxHeartbeats 4000000
namespace Go.Proofs.YtahiajeggbpogaaGreatDoor
open Go.RowKit Go.Shelf Px Tx Tb Up Pk
set_option linter.unusedVariables false
set_option linter.unusedSimpArgs false
attribute [local go_sem] Oper.semAt_some
theorem infoc_er:(Tryz.prog.info? 32).map (·.size)=some 1:=by kernel_rfl
theorem c_block_no{M m:Int}{A:Option Addr}{n c:Nat}{xs:List Fd}(b0:Option Addr)(k0 d0:Nat)(LA:Option Addr)(ln lc:Nat)(w:World)(hA:Fs w w.heap.size A n xs)(hN:A=none→c=0)(hF:full xs≤100000)(h:resB M xs m=false) :
  Calls Tryz.prog 57 #[.slice b0 k0 d0,.agg #[.int .i64 M,.slice A n c],.int .i64 m,.slice LA ln lc] w fun e w'=>e = .returned (.tuple #[.slice none 0 0,.agg #[.int .i64 0,.slice none 0 0],.int .i64 2])∧Below w.heap.size w w':=by
 have K0:=Lib.hid (((((((EnvF.nil w).addF hA).boxg 25 #[.slice b0 k0 d0] w.heap.size rfl).boxg 24 #[.int .i64 M,.slice A n c] (w.heap.size+1) (by simp)).boxg 25 #[.slice none 0 0] (w.heap.size+1+1) (by simp)).boxg 24 #[.int .i64 0,.slice none 0 0] (w.heap.size+1+1+1) (by simp)).boxg 32 #[.int .i64 0] (w.heap.size+1+1+1+1) (by simp))
 have G0:=Lib.hid ((((((Below.refl w.heap.size w).alloc (Nat.le_refl _) (.cells #[.slice b0 k0 d0] 25)).alloc (by simp;try omega) (.cells #[.int .i64 M,.slice A n c] 24)).alloc (by simp;try omega) (.cells #[.slice none 0 0] 25)).alloc (by simp;try omega) (.cells #[.int .i64 0,.slice none 0 0] 24)).alloc (by simp;try omega) (.cells #[.int .i64 0] 32))
 have HN:=Lib.hid hN
 have h3:((2:Int) != 0)=true:=rfl
 have H1:Hid (resM M xs m=0):=Lib.hid (by unfold resM;rw[h];rfl)
 have H2:Hid (resE M xs m=2):=Lib.hid (by unfold resE;rw[h];rfl)
 have H3:Hid (resL M xs m=[]):=Lib.hid (by unfold resL;rw[h];rfl)
 clear hA hN
 go_enter Tryz.func57,Tryz.ntmps57
 go_wp2_with (first
  | go_skip
  | (refine at_load 24 (.tmp 5) (by rfl) ?_;refine wpListG_row (by rfl) 24 (.tmp 5) (by rfl) (w.heap.size+1) (by rfl) 24 #[.int .i64 M,.slice A n c] _ (K0.out.row 3 rfl) Tryz.underlying24 (by rfl) infoc_T ?_)
  | (go_at_call 59;(with_reducible refine(p_resize (B:=0) (A:=A) (n:=n) (xs:=xs) _ K0.out (Nat.zero_le _) (by simp) HN.out hF H1.out H2.out H3.out (k:=0) rfl).mono ?_);rintro e w1 ⟨A1,c1,rfl,hb,hE,HA10⟩;have K1:=Lib.hid hE;have HA1:=Lib.hid HA10;have G1:=Lib.hid (below_step G0.out hb);clear hb hE HA10 K0 G0;have K1b:=Lib.hid (K1.out.boxg 24 #[.int .i64 0,.slice none 0 0] w1.heap.size rfl);have hz1:w.heap.size≤w1.heap.size:=G1.out.size;have G1b:=Lib.hid (G1.out.alloc hz1 (.cells #[.int .i64 0,.slice none 0 0] 24));clear K1 G1;have K1bb:=Lib.hid (K1b.out.boxg 32 #[.int .i64 0] (w1.heap.size+1) (by simp));have G1bb:=Lib.hid (G1b.out.alloc (by simp;omega) (.cells #[.int .i64 0] 32));clear K1b G1b)
  | (refine at_store 24 (.tmp 11) (.tmp 19) (by rfl) ?_;refine wpList_put (by rfl) 24 (.tmp 11) (.tmp 19) (by rfl) w1.heap.size 0 (.agg #[.int .i64 0,.slice A1 0 c1]) (by rfl) (by rfl) 24 #[.int .i64 0,.slice none 0 0] #[.int .i64 0,.slice A1 0 c1] (K1bb.out.row 1 rfl) (by simp[Value.cells]) (by kernel_rfl) infoc_T (by kernel_rfl) ?_;intro w2 hrow hoth hz hbl;have K2:=Lib.hid (K1bb.out.turn 1 rfl hrow hoth hz);have G2:=Lib.hid (hbl _ _ (by omega) G1bb.out);clear hrow hoth hz hbl K1bb G1bb)
  | (refine at_store 32 (.tmp 12) (.tmp 20) (by rfl) ?_;refine wpList_put (by rfl) 32 (.tmp 12) (.tmp 20) (by rfl) (w1.heap.size+1) 0 (.int .i64 2) (by rfl) (by rfl) 32 #[.int .i64 0] #[.int .i64 2] (K2.out.row 0 rfl) (by simp[Value.cells]) (by kernel_rfl) infoc_er (by kernel_rfl) ?_;intro w3 hrow hoth hz hbl;have K3:=Lib.hid (K2.out.turn 0 rfl hrow hoth hz);have G3:=Lib.hid (hbl _ _ (by omega) G2.out);clear hrow hoth hz hbl K2 G2)
  | (refine at_load 32 (.tmp 12) (by rfl) ?_;refine wpListG_get (by rfl) 32 (.tmp 12) (by rfl) (w1.heap.size+1) 0 (by rfl) 32 #[.int .i64 2] (.int .i64 2) _ (K3.out.row 0 rfl) (by rfl) Tryz.underlying32 (by rfl) ?_))
 have cc0:=cells1_row (K3.out.row 0 rfl)
 have cc2:=cells1_row (K3.out.row 2 rfl)
 obtain⟨cc3a,cc3b⟩:=cells2_row (K3.out.row 3 rfl)
 have cc4:=cells1_row (K3.out.row 4 rfl)
 have zz4_0:=frozen_of_row w3 ((w.heap.size+1+1)) 0 _ _ (K3.out.row 4 rfl)
 have zz3_0:=frozen_of_row w3 ((w.heap.size+1+1+1)) 0 _ _ (K3.out.row 3 rfl)
 have zz3_1:=frozen_of_row w3 ((w.heap.size+1+1+1)) 1 _ _ (K3.out.row 3 rfl)
 have zz2_0:=frozen_of_row w3 ((w.heap.size+1+1+1+1)) 0 _ _ (K3.out.row 2 rfl)
 have ne0_4:(w1.heap.size+1)≠(w.heap.size+1+1):=K3.out.ne 0 4 rfl rfl (by omega)
 have ne4_0:(w.heap.size+1+1)≠(w1.heap.size+1):=K3.out.ne 4 0 rfl rfl (by omega)
 have ne0_3:(w1.heap.size+1)≠(w.heap.size+1+1+1):=K3.out.ne 0 3 rfl rfl (by omega)
 have ne3_0:(w.heap.size+1+1+1)≠(w1.heap.size+1):=K3.out.ne 3 0 rfl rfl (by omega)
 have ne0_2:(w1.heap.size+1)≠(w.heap.size+1+1+1+1):=K3.out.ne 0 2 rfl rfl (by omega)
 have ne2_0:(w.heap.size+1+1+1+1)≠(w1.heap.size+1):=K3.out.ne 2 0 rfl rfl (by omega)
 have ne2_4:(w.heap.size+1+1+1+1)≠(w.heap.size+1+1):=K3.out.ne 2 4 rfl rfl (by omega)
 have ne2_3:(w.heap.size+1+1+1+1)≠(w.heap.size+1+1+1):=K3.out.ne 2 3 rfl rfl (by omega)
 have ne3_4:(w.heap.size+1+1+1)≠(w.heap.size+1+1):=K3.out.ne 3 4 rfl rfl (by omega)
 have ne3_2:(w.heap.size+1+1+1)≠(w.heap.size+1+1+1+1):=K3.out.ne 3 2 rfl rfl (by omega)
 have ne4_3:(w.heap.size+1+1)≠(w.heap.size+1+1+1):=K3.out.ne 4 3 rfl rfl (by omega)
 have ne4_2:(w.heap.size+1+1)≠(w.heap.size+1+1+1+1):=K3.out.ne 4 2 rfl rfl (by omega)
 refine pk_to (fun a w'=>∃(v0 v1 v2 v3 v4 v5 v6 v7 v11 v12 v13 v14 v15 v16 v17 v18 v19 v20 v21 v22 v23 v24 v25 v26 v27 v28 v29 v30 v31 v32 v33 v34 v35 v36 v37 v38 v39 v40 v41 v42 v43:Value),a={ tmps:=#[v0,v1,v2,v3,v4,v5,v6,v7,.pointer (some ⟨(w.heap.size+1+1),0,none⟩),.pointer (some ⟨(w.heap.size+1+1+1),0,none⟩),.pointer (some ⟨(w.heap.size+1+1+1+1),0,none⟩),v11,v12,v13,v14,v15,v16,v17,v18,v19,v20,v21,v22,v23,v24,v25,v26,v27,v28,v29,v30,v31,v32,v33,v34,v35,v36,v37,v38,v39,v40,v41,v42,v43],defers:=[] }∧EnvF w' [oF 0 27 (.slice A1 0 c1) [],fF A1 0 [],fF A n xs] (((w1.heap.size+1),#[.int .i64 2],32)::(w1.heap.size,#[.int .i64 0,.slice A1 0 c1],24)::((w.heap.size+1+1+1+1),#[.int .i64 2],32)::((w.heap.size+1+1+1),#[.int .i64 0,.slice none 0 0],24)::((w.heap.size+1+1),#[.slice none 0 0],25)::((w.heap.size+1),#[.int .i64 M,.slice A n c],24)::(w.heap.size,#[.slice b0 k0 d0],25)::[])∧Below w.heap.size w w') ?_ ?_
 ·go_region
  all_goals first
   | exact⟨_,_,_,_,_,_,_,_,_,_,_,_,_,_,_,_,_,_,_,_,_,_,_,_,_,_,_,_,_,_,_,_,_,_,_,_,_,_,_,_,_,rfl,((Pk.envsetCell1 (j:=0) (((Pk.envsetCell1 (j:=0) K3.out 4 rfl (.slice none 0 0) (cs:=#[.slice none 0 0]) rfl)).setCells 3 rfl [.int .i64 0,.slice none 0 0] rfl) 2 rfl (.int .i64 2) (cs:=#[.int .i64 2]) rfl)).drew,((((setCells_below (g:=(w.heap.size+1+1+1)) (by omega) [.int .i64 0,.slice none 0 0] 0 _ _ (((G3.out).setCell (p:=⟨(w.heap.size+1+1),0,none⟩) (by simp only;omega) _)))).setCell (p:=⟨(w.heap.size+1+1+1+1),0,none⟩) (by simp only;omega) _)).drew⟩
 rintro a w' ⟨v0,v1,v2,v3,v4,v5,v6,v7,v11,v12,v13,v14,v15,v16,v17,v18,v19,v20,v21,v22,v23,v24,v25,v26,v27,v28,v29,v30,v31,v32,v33,v34,v35,v36,v37,v38,v39,v40,v41,v42,v43,rfl,hE9,hB9⟩
 have KE:=Lib.hid hE9
 have BE:=Lib.hid hB9
 clear hE9 hB9 K3 G3
 go_wp2
 exact bodyPost_ret (res_ccc rfl _ _ _ _ _ _ _ _ _ _ _ _ _ _ rfl (KE.out.row 4 rfl) rfl (KE.out.row 3 rfl) rfl (KE.out.row 2 rfl) Tryz.underlying24 rfl infoc_T Tryz.underlying25 rfl Tryz.underlying32 rfl) rfl ⟨rfl,BE.out⟩
end Go.Proofs.YtahiajeggbpogaaGreatDoor
