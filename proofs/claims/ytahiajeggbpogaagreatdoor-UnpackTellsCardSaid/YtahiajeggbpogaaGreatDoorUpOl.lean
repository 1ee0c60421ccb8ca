import Derived.Test.YtahiajeggbpogaaGreatDoorUpOk
import Derived.Test.YtahiajeggbpogaaGreatDoorUpR
import Derived.Test.YtahiajeggbpogaaGreatDoorTxG
set_option maxRecDepth 100000
set_option maxHeartbeats 4000000
namespace Go.Proofs.YtahiajeggbpogaaGreatDoor
open Go.RowKit Go.Shelf Px Tx Tb Up
set_option linter.unusedVariables false
set_option linter.unusedSimpArgs false
attribute [local go_sem] Oper.semAt_some
theorem d_Named(i:Int)(b:List UInt8)(way:Int)(w:World)(hb:b.length≤10000) :
  Calls Tryz.prog 16 #[.int .i64 i,.string ⟨b.toArray⟩,.int .i64 way] w fun e w'=>∃A c,e = .returned (.tuple #[.slice A (nmL i b way).length c,.int .i64 (nmE i way)])∧HandS w' w.heap.size A (nmL i b way).length c (nmL i b way)∧Below w.heap.size w w':=by
 obtain⟨i0,hi,hz0,hz1,hz2⟩:=info_parts info_tu8
 have hinf:=Lib.hid (And.intro hi (And.intro hz0 (And.intro hz1 hz2)))
 have HBB:=Lib.hid (fun W=>y_Best b W hb)
 have hlb:=be_len hb
 have hlp:=putL_len i (wR way) (wU way)
 have HPW:=Lib.hid (d_first i way w)
 have hE2:putE i (wR way)=0∨putE i (wR way)=2:=by
  by_cases h:MayN i (wR way)
  ·exact .inl (putE_yes h)
  ·exact .inr (putE_no h)
 unfold nmL nmE
 unfold PutD at HPW
 generalize beB b=lb at *
 generalize putL i (wR way) (wU way)=pl at *
 generalize putE i (wR way)=pe at *
 clear hb hi hz0 hz1 hz2
 by_cases h1:i<1
 ·have d1:decide (i<1)=true:=decide_eq_true h1
  rw[if_pos h1,if_pos h1]
  clear h1
  rcases hE2 with rfl | rfl
  all_goals
   go_enter Tryz.func16,Tryz.ntmps16
   go_wp2_with (first
    | (go_at_call 50;(with_reducible refine HPW.out.mono ?_);rintro e w2 ⟨A2,c2,rfl,ho,hb⟩;have HO2:=Lib.hid ho;have D2:Hid (Below w.heap.size w w2):=Lib.hid hb;have hz2:w.heap.size≤w2.heap.size:=hb.size;clear hb ho)
    | go_skip)
   go_ret2
   exact⟨none,0,rfl,HandS.nil_ _ _,D2.out⟩
 have d1:decide (i<1)=false:=decide_eq_false h1
 rw[if_neg h1,if_neg h1]
 clear h1
 rcases hE2 with rfl | rfl
 ·rw[if_pos rfl]
  go_enter Tryz.func16,Tryz.ntmps16
  go_wp2_with (first
   | (go_at_call 50;(with_reducible refine HPW.out.mono ?_);rintro e w2 ⟨A2,c2,rfl,ho,hb⟩;have HO2:=Lib.hid ho;have D2:Hid (Below w.heap.size w w2):=Lib.hid hb;have hz2:w.heap.size≤w2.heap.size:=hb.size;clear hb ho)
   | (go_at_call 51;(with_reducible refine(HBB.out _).mono ?_);rintro e w5 ⟨A5,c5,rfl,hh,hb⟩;have HH5:=Lib.hid hh;have HO5:=Lib.hid (HO2.out.kept hb);have D5:Hid (Below w.heap.size w w5):=Lib.hid (below_step D2.out hb);have hz5:w.heap.size≤w5.heap.size:=Nat.le_trans hz2 hb.size;clear hb hh HO2)
   | (at_builtin;refine wpList_append_bytes _ rfl (.tmp 22) (.tmp 24) 25 rfl w.heap.size 5 i0 Tryz.underlying25 hinf.out.1 hinf.out.2.1 hinf.out.2.2.1 hinf.out.2.2.2 _ (pl) rfl HO5.out _ A5 (lb).length c5 (lb) rfl HH5.out.1 HH5.out.2.2.2 (by first | omega | (simp only[List.length_append];omega)) hz5 ?_;intro v6 w6 ho hb;obtain⟨A6,c6,rfl,hh6⟩:=ho.handS (n:=(pl++lb).length) rfl;have HH6:=Lib.hid hh6;have D6:Hid (Below w.heap.size w w6):=Lib.hid (D5.out.trans hb);clear hb ho hh6)
   | go_skip)
  go_ret2
  refine⟨A6,c6,by simp,?_,D6.out⟩
  exact HH6.out
 ·rw[if_neg (by omega)]
  go_enter Tryz.func16,Tryz.ntmps16
  go_wp2_with (first
   | (go_at_call 50;(with_reducible refine HPW.out.mono ?_);rintro e w2 ⟨A2,c2,rfl,ho,hb⟩;have HO2:=Lib.hid ho;have D2:Hid (Below w.heap.size w w2):=Lib.hid hb;have hz2:w.heap.size≤w2.heap.size:=hb.size;clear hb ho)
   | go_skip)
  go_ret2
  exact⟨none,0,rfl,HandS.nil_ _ _,D2.out⟩
end Go.Proofs.YtahiajeggbpogaaGreatDoor
