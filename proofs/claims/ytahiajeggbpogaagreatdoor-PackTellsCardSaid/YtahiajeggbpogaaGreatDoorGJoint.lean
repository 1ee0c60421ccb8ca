import Derived.Test.YtahiajeggbpogaaGreatDoorGRd
namespace Go.Proofs.YtahiajeggbpogaaGreatDoor
open Go.RowKit
set_option linter.unusedVariables false
def Mv(A B:World):Prop:=∀(l:Nat) (o:Obj),A.heap[l]? = some o→o.isCells=false→B.heap[l]? = some o
theorem Mv.refl(A:World):Mv A A:=fun _ _ h _=>h
theorem Mv.trans{A B C:World}(h:Mv A B)(k:Mv B C):Mv A C:=fun l o h1 h2=>k l o (h l o h1 h2) h2
theorem Mv.below{A B:World}(h:Below A.heap.size A B):Mv A B:=fun l o h1 _=>(h.block l (Array.getElem?_eq_some_iff.1 h1).1).trans h1
theorem Mv.gb{A B:World}{g:Nat}(h:A.grownBy B (some g)){cs:Array Value}{t:TypeId}(hg:A.heap[g]? = some (.cells cs t)):Mv A B:=fun l o h1 h2=>
 (h.block l (Array.getElem?_eq_some_iff.1 h1).1 (fun e=>by cases e;rw[hg] at h1;cases h1;cases h2)).trans h1
end Go.Proofs.YtahiajeggbpogaaGreatDoor
