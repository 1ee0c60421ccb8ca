import Derived.Test.YtahiajeggbpogaaGreatDoorUpOa
set_option maxRecDepth 100000
set_option maxHeartbeats 4000000
namespace Go.Proofs.YtahiajeggbpogaaGreatDoor
open Go.RowKit Go.Shelf Px Tx Tb Up GD
set_option linter.unusedVariables false
set_option linter.unusedSimpArgs false
set_option linter.unusedSectionVars false
theorem step_get{P:Program}{ops:Array Oper}{o:Oper}{a:Act}{w:World}{K:Act→World→Prop}{Q:Exit→Act→World→Prop}{E:Prop}(hgd:o.guard=none)(ty:TypeId)(x:Operand)(ho:o.op = .load ty x)
  (g k:Nat) (hx:a.eval x = .pointer (some ⟨g,k,none⟩)) (t:TypeId) (cs:Array Value) (v:Value) (d:TypeDesc) (hg:w.heap[g]? = some (.cells cs t)) (hv:cs[k]? = some v)
  (hu:P.underlying ty=some d) (hd:(match d with | .struct _ | .array _ _=>true | _=>false)=false)
  (h:K (a.put o.dst v) w):if Region.wanted o (yielded ops a.tmps)=true then Oper.wp P o a w K Q else E:=by
 have hw:Region.wanted o (yielded ops a.tmps)=true:=by simp[Region.wanted,hgd]
 rw[if_pos hw]
 exact wp_get ty x ho g k hx t cs v d hg hv hu hd h
namespace Up
theorem ixl{gs lb:List Bx}{i:Nat}{y:Bx}(h:gs[i]? = some y):(gs++lb)[i]? = some y:=by
 rw[List.getElem?_append_left (List.getElem?_eq_some_iff.1 h).1];exact h
end Up
end Go.Proofs.YtahiajeggbpogaaGreatDoor
