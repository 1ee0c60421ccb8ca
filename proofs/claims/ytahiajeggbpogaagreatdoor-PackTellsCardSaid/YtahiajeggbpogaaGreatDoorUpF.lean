import Derived.Test.YtahiajeggbpogaaGreatDoorUpE
set_option maxRecDepth 100000
set_option maxHeartbeats 40000000
namespace Go.Proofs.YtahiajeggbpogaaGreatDoor
open Go.RowKit Go.ChangeMaps Px Tx Tb Up
set_option linter.unusedVariables false
set_option linter.unusedSimpArgs false
set_option linter.unusedSectionVars false
theorem EnvF.grow{w w':World}{fs:List Fact}{gs:List Bx}{row:Option Nat}(h:EnvF w fs gs)(hg:w.grownBy w' row)(hr : ∀r,row=some r→w.heap.size≤r):EnvF w' fs gs:=
 h.on ⟨hg.os,hg.tape,hg.output,hg.size,fun k hk=>hg.block k hk (fun e=>by have:=hr k e.symm;omega)⟩
namespace Up
theorem MapS.ext{w:World}{b:Nat}{S S':Nat→Bool}(h:MapS w b S)(e : ∀j,j<5→S j=S' j):MapS w b S':=by
 obtain⟨l,hm,hl⟩:=h
 refine⟨l,hm,fun p=>(hl p).trans ?_⟩
 constructor
 ·rintro ⟨j,hj,h1,h2⟩;exact⟨j,hj,(e j hj) ▸ h1,h2⟩
 ·rintro ⟨j,hj,h1,h2⟩;exact⟨j,hj,(e j hj).symm ▸ h1,h2⟩
def usF2(M most:Int)(A:Option Addr)(n c:Nat)(LA:Option Addr)(ln lc g3 g8:Nat)(A1:Option Addr)(c1 b:Nat)(g:Nat):Act:={ tmps:=#[.agg #[.int .i64 M,.slice A n c],.int .i64 most,.slice LA ln lc,.pointer (some ⟨g3,0,none⟩),undef,undef,.pointer (some ⟨g,0,none⟩),.int .i64 0,.pointer (some ⟨g8,0,none⟩),.int .i64 0,.tuple #[.agg #[.int .i64 M,.slice A1 n c1],.int .i64 0],.agg #[.int .i64 M,.slice A n c],.pointer (some ⟨g3,0,none⟩),.int .i64 M,.tuple #[.agg #[.int .i64 M,.slice A1 n c1],.int .i64 0],.agg #[.int .i64 M,.slice A1 n c1],.int .i64 0,.int .i64 0,.bool false,.bool false,.int .i64 most,.bool false,.bool false,.bool false,.int .i64 most,.bool false,.bool false,.map (some b),.agg #[.int .u8 1,.int .u8 1],.agg #[.int .u8 2,.int .u8 1],.agg #[.int .u8 3,.int .u8 1],.agg #[.int .u8 4,.int .u8 1],.agg #[.int .u8 4,.int .u8 0],.map (some b),.int .i64 most,.agg #[.int .i64 M,.slice A1 n c1],.slice LA ln lc,.agg (rdc b most M A1 n c1 LA ln lc),.pointer (some ⟨g,0,none⟩)],defers:=[] }
end Up
end Go.Proofs.YtahiajeggbpogaaGreatDoor
