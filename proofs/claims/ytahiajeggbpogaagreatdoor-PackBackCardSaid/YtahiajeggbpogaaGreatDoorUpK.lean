import Derived.Test.YtahiajeggbpogaaGreatDoorUpD
set_option maxRecDepth 100000
set_option maxHeartbeats 4000000
namespace Go.Proofs.YtahiajeggbpogaaGreatDoor
open Go.RowKit Go.ChangeMaps Px Tx Tb Up
set_option linter.unusedVariables false
set_option linter.unusedSimpArgs false
namespace Up
def Mks(w:World):Prop:=(w.cell? ⟨0,0,none⟩=some (.int .u8 1)∧w.cell? ⟨0,1,none⟩=some (.int .u8 1))∧(w.cell? ⟨2,0,none⟩=some (.int .u8 2)∧w.cell? ⟨2,1,none⟩=some (.int .u8 1))∧(w.cell? ⟨1,0,none⟩=some (.int .u8 3)∧w.cell? ⟨1,1,none⟩=some (.int .u8 1))∧(w.cell? ⟨3,0,none⟩=some (.int .u8 4)∧w.cell? ⟨3,1,none⟩=some (.int .u8 1))∧(w.cell? ⟨4,0,none⟩=some (.int .u8 4)∧w.cell? ⟨4,1,none⟩=some (.int .u8 0))
def mvF:Fact where
 on k:=k=0∨k=2∨k=1∨k=3∨k=4
 is w:=Mks w
 dep w w' h hz hk:=by
  have c : ∀k j,(k=0∨k=2∨k=1∨k=3∨k=4)→w'.cell? ⟨k,j,none⟩=w.cell? ⟨k,j,none⟩:=fun k j h=>World.cell?_of_block (a:=⟨k,j,none⟩) (hk k h)
  unfold Mks at *
  rw[c _ 0 (.inl rfl),c _ 1 (.inl rfl),c _ 0 (.inr (.inl rfl)),c _ 1 (.inr (.inl rfl)),c _ 0 (.inr (.inr (.inl rfl))),c _ 1 (.inr (.inr (.inl rfl))),c _ 0 (.inr (.inr (.inr (.inl rfl)))),c _ 1 (.inr (.inr (.inr (.inl rfl)))),c _ 0 (.inr (.inr (.inr (.inr rfl)))),c _ 1 (.inr (.inr (.inr (.inr rfl))))]
  exact h
theorem EnvF.mks{w:World}{fs:List Fact}{gs:List Bx}(h:EnvF w fs gs)(hm:mvF∈fs):Mks w:=(h.f _ hm).1
end Up
end Go.Proofs.YtahiajeggbpogaaGreatDoor
set_option maxRecDepth 100000
set_option maxHeartbeats 40000000
namespace Go.Proofs.YtahiajeggbpogaaGreatDoor
open Go.RowKit Go.ChangeMaps Px Tx Tb Up
set_option linter.unusedVariables false
set_option linter.unusedSimpArgs false
set_option linter.unusedSectionVars false
theorem EnvF.grow{w w':World}{fs:List Fact}{gs:List Bx}{row:Option Nat}(h:EnvF w fs gs)(hg:w.grownBy w' row)(hr : ∀r,row=some r→w.heap.size≤r):EnvF w' fs gs:=
 h.on ⟨hg.os,hg.tape,hg.output,hg.size,fun k hk=>hg.block k hk (fun e=>by have:=hr k e.symm;omega)⟩
namespace Up
theorem MapS.ext{w:World}{b:Nat}{S S':Nat→Bool}(h:MapS w b S)(e : ∀j,j<5→S j=S' j):MapS w b S':=by
 obtain⟨l,hm,hl⟩:=h
 refine⟨l,hm,fun p=>(hl p).trans ?_⟩
 constructor
 ·rintro ⟨j,hj,h1,h2⟩;exact⟨j,hj,(e j hj) ▸ h1,h2⟩
 ·rintro ⟨j,hj,h1,h2⟩;exact⟨j,hj,(e j hj).symm ▸ h1,h2⟩
def usF2(M most:Int)(A:Option Addr)(n c:Nat)(LA:Option Addr)(ln lc g3 g8:Nat)(A1:Option Addr)(c1 b:Nat)(g:Nat):Act:={ tmps:=#[.agg #[.int .i64 M,.slice A n c],.int .i64 most,.slice LA ln lc,.pointer (some ⟨g3,0,none⟩),undef,undef,.pointer (some ⟨g,0,none⟩),.int .i64 0,.pointer (some ⟨g8,0,none⟩),.int .i64 0,.tuple #[.agg #[.int .i64 M,.slice A1 n c1],.int .i64 0],.agg #[.int .i64 M,.slice A n c],.pointer (some ⟨g3,0,none⟩),.int .i64 M,.tuple #[.agg #[.int .i64 M,.slice A1 n c1],.int .i64 0],.agg #[.int .i64 M,.slice A1 n c1],.int .i64 0,.int .i64 0,.bool false,.bool false,.int .i64 most,.bool false,.bool false,.bool false,.int .i64 most,.bool false,.bool false,.map (some b),.agg #[.int .u8 1,.int .u8 1],.agg #[.int .u8 2,.int .u8 1],.agg #[.int .u8 3,.int .u8 1],.agg #[.int .u8 4,.int .u8 1],.agg #[.int .u8 4,.int .u8 0],.map (some b),.int .i64 most,.agg #[.int .i64 M,.slice A1 n c1],.slice LA ln lc,.agg (rdc b most M A1 n c1 LA ln lc),.pointer (some ⟨g,0,none⟩)],defers:=[] }
end Up
end Go.Proofs.YtahiajeggbpogaaGreatDoor
set_option maxRecDepth 100000
set_option maxHeartbeats 4000000
namespace Go.Proofs.YtahiajeggbpogaaGreatDoor
open Go.RowKit Px Tx Tb Up
set_option linter.unusedVariables false
set_option linter.unusedSimpArgs false
theorem Up.n_le(ls:List UInt8)(k:Nat):(nR ls k).length≤ls.length:=by unfold nR;rw[List.length_drop];omega
end Go.Proofs.YtahiajeggbpogaaGreatDoor
set_option maxRecDepth 100000
set_option maxHeartbeats 4000000
namespace Go.Proofs.YtahiajeggbpogaaGreatDoor
open Go.RowKit Px Tx Tb Up
set_option linter.unusedVariables false
set_option linter.unusedSimpArgs false
namespace Up
def lenAt(w:World)(g:Nat):Nat:=match w.cell? ⟨g,4,none⟩ with
 | some (.slice _ n _)=>n
 | _=>0
theorem Opn.lenAt{w:World}{fs:List Fact}{gs:List Bx}{i g K:Nat}{most:Int}{A:Option Addr}{n c:Nat}{LA:Option Addr}{ln lc:Nat}{s:Sta}(h:Opn w fs gs i g K most A n c LA ln lc s):lenAt w g=ln:=by
 have:w.cell? ⟨g,4,none⟩=some (.slice LA ln lc):=by rw[cell_of_row w g 4 _ _ (0,0) h.row];rfl
 unfold Up.lenAt
 rw[this]
theorem nR_less{ls:List UInt8}{k:Nat}(hk:k≤8)(h:ls≠[]):(nR ls k).length<ls.length:=by
 have h0:0<ls.length:=List.length_pos_iff.2 h
 by_cases hc:nC ls k=0
 ·exact n_less hk hc
 ·unfold nR nU
  rw[if_neg hc,List.length_drop]
  omega
theorem zS_less{most:Int}{s:Sta}(h:s.ls≠[]):(zS most s).ls.length<s.ls.length:=by
 have:=nR_less (k:=kb (hd s.ls)) (by have:=kb_bd (hd s.ls);omega) h
 unfold zS qR
 split
 ·exact this
 ·split<;>exact this
end Up
end Go.Proofs.YtahiajeggbpogaaGreatDoor
