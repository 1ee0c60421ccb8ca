import Derived.Test.YtahiajeggbpogaaGreatDoorUpOn
set_option maxRecDepth 100000
set_option maxHeartbeats 4000000
namespace Go.Proofs.YtahiajeggbpogaaGreatDoor
open Go.RowKit Go.Shelf Px Tx Tb Up GD
set_option linter.unusedVariables false
set_option linter.unusedSimpArgs false
attribute [local go_sem] Oper.semAt_some
theorem d_Field(a b:List UInt8)(way:Int)(w:World)(ha:a.length≤10000)(hb:b.length≤10000) :
  Calls Tryz.prog 19 #[.agg #[.string ⟨a.toArray⟩,.string ⟨b.toArray⟩],.int .i64 way] w fun e w'=>∃A c,e = .returned (.slice A (fldL a b way).length c)∧OwnB w' w.heap.size 5 (.slice A (fldL a b way).length c) (fldL a b way)∧Below w.heap.size w w':=by
 have hla:=be_len ha
 have hlb:=be_len hb
 have hlp:=putL_len 0 (wR way) (wU way)
 obtain⟨n0,e0⟩ : ∃n,(putL 0 (wR way) (wU way)).length=n:=⟨_,rfl⟩
 obtain⟨n1,e1⟩ : ∃n,(beB a).length=n:=⟨_,rfl⟩
 obtain⟨n2,e2⟩ : ∃n,(beB b).length=n:=⟨_,rfl⟩
 have HB1:=Lib.hid (fun W=>y_Best a W ha)
 have HB2:=Lib.hid (fun W=>y_Best b W hb)
 have HP:=Lib.hid (fun W=>d_first 0 way W)
 unfold fldL
 unfold PutD at HP
 simp only[e0] at HP
 simp only[e1] at HB1
 simp only[e2] at HB2
 have K0:Hid (EnvF (w.alloc (.cells #[.string ⟨a.toArray⟩,.string ⟨b.toArray⟩] 27)) [] [(w.heap.size,#[.string ⟨a.toArray⟩,.string ⟨b.toArray⟩],27)]):=Lib.hid ((EnvF.nil w).boxg 27 #[.string ⟨a.toArray⟩,.string ⟨b.toArray⟩] w.heap.size rfl)
 have G0:Hid (Below w.heap.size w (w.alloc (.cells #[.string ⟨a.toArray⟩,.string ⟨b.toArray⟩] 27))):=Lib.hid ((Below.refl w.heap.size w).alloc (Nat.le_refl _) _)
 generalize beB a=la at *
 generalize beB b=lz at *
 generalize putL 0 (wR way) (wU way)=pl at *
 generalize putE 0 (wR way)=pe at *
 clear ha hb
 go_enter Tryz.func19,Tryz.ntmps19
 go_wp2_with (first
  | (go_at_call 50;(with_reducible refine(HP.out _).mono ?_);rintro e w1 ⟨P0,c0,rfl,ho,hb⟩;obtain⟨lb,hlb2,K1'⟩:=bbox_hand (gs:=[(w.heap.size,#[.string ⟨a.toArray⟩,.string ⟨b.toArray⟩],27)]) K0.out hb ho (Nat.le_refl _);have K1:=Lib.hid K1';have HLB:=Lib.hid hlb2;have B1:=Lib.hid hb;clear hb ho hlb2 K1')
  | go_skip)
 refine fo2_region (k:=0) rfl HLB.out B1.out.size HB1 HB2 (by omega) (by omega) (by omega) (by omega) (fun A1 A2 c1 c2 V1 V2 lb2 w2 K2 hl2 B2=>?_) K1.out (Below.refl _ _)
 obtain⟨A,c,rfl,h3⟩:=hl2.form K2
 have KK2:=Lib.hid K2
 have HL2:=Lib.hid hl2
 have BB2:=Lib.hid B2
 clear K2 hl2 B2
 go_wp2
 go_ret
 exact⟨A,c,rfl,(HL2.out.own KK2.out (fun y hy=>List.mem_append_right _ hy)).less (by simp),G0.out.trans ((B1.out.trans BB2.out).mono (by simp))⟩
end Go.Proofs.YtahiajeggbpogaaGreatDoor
