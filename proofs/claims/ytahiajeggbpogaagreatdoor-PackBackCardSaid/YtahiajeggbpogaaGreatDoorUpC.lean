import Derived.Test.YtahiajeggbpogaaGreatDoorUpA
namespace Go.Proofs.YtahiajeggbpogaaGreatDoor
open Go.RowKit
set_option linter.unusedVariables false
section
variable {P:Program}
theorem run_loadPart(w:World)(g k:Nat)(t ty:TypeId)(cs vs:Array Value)(d:TypeDesc)(hg:w.heap[g]? = some (.cells cs t))(hv : ∀(j:Nat) (v:Value),vs.toList[j]? = some v→cs[k+j]? = some v)
  (hu:P.underlying ty=some d) (hd:(match d with | .struct _ | .array _ _=>true | _=>false)=true) (hi:(P.info? ty).map (·.size)=some vs.size) :
  (loadVar ty ⟨g,k,none⟩).run P w = .ok (.agg vs) w:=by
 have hl:(loadCells ⟨g,k,none⟩ vs.toList.length).run P w = .ok vs.toList.toArray w:=
  run_loadCells_list (P:=P) w ⟨g,k,none⟩ vs.toList (fun j v h=>by
   rw[Addr.add_lit,cell_of_row w g (k+j) cs t (0,0) hg]
   exact hv j v h)
 cases hq:P.info? ty with
 | none=>simp[hq] at hi
 | some i=>
  have hs:i.size=vs.size:=by simpa [hq] using hi
  have hagg:(isAgg ty).run P w = .ok true w:=by
   unfold isAgg
   rw[Sem.run_bind,run_underlying hu w]
   cases d<;>simp_all
  simp only[Array.length_toList,Array.toArray_toList] at hl
  simp[loadVar,Sem.run_bind,hagg,sizeOf,typeInfo,hq,hs,hl]
theorem wp_part{o:Oper}{a:Act}{w:World}{K:Act→World→Prop}{Q:Exit→Act→World→Prop}(ty:TypeId)(x:Operand)(ho:o.op = .load ty x)
  (g k:Nat) (hx:a.eval x = .pointer (some ⟨g,k,none⟩)) (t:TypeId) (cs vs:Array Value) (d:TypeDesc) (hg:w.heap[g]? = some (.cells cs t)) (hv : ∀(j:Nat) (v:Value),vs.toList[j]? = some v→cs[k+j]? = some v)
  (hu:P.underlying ty=some d) (hd:(match d with | .struct _ | .array _ _=>true | _=>false)=true) (hi:(P.info? ty).map (·.size)=some vs.size)
  (h:K (a.put o.dst (.agg vs)) w):Oper.wp P o a w K Q:=by
 unfold Oper.wp execOp
 simp only[ho,hx,Instr.loadAt,Instr.sureAddr,Sem.run_bind,Sem.run_pure,Result.andThen_ok,run_loadPart w g k t ty cs vs d hg hv hu hd hi]
 exact h
theorem wpList_part{ops:Array Oper}{rest:List Oper}{o:Oper}{a:Act}{w:World}{Q:Exit→Act→World→Prop}(hw:Region.wanted o (yielded ops a.tmps)=true)(ty:TypeId)(x:Operand)(ho:o.op = .load ty x)
  (g k:Nat) (hx:a.eval x = .pointer (some ⟨g,k,none⟩)) (t:TypeId) (cs vs:Array Value) (d:TypeDesc) (hg:w.heap[g]? = some (.cells cs t)) (hv : ∀(j:Nat) (v:Value),vs.toList[j]? = some v→cs[k+j]? = some v)
  (hu:P.underlying ty=some d) (hd:(match d with | .struct _ | .array _ _=>true | _=>false)=true) (hi:(P.info? ty).map (·.size)=some vs.size)
  (h:wpList P ops Q rest (a.put o.dst (.agg vs)) w):wpList P ops Q (o::rest) a w:=
 wpList_step fun _ hK=>by rw[if_pos hw];exact wp_part ty x ho g k hx t cs vs d hg hv hu hd hi (hK _ _ h)
theorem step_part{ops:Array Oper}{o:Oper}{a:Act}{w:World}{K:Act→World→Prop}{Q:Exit→Act→World→Prop}{E:Prop}(hgd:o.guard=none)(ty:TypeId)(x:Operand)(ho:o.op = .load ty x)
  (g k:Nat) (hx:a.eval x = .pointer (some ⟨g,k,none⟩)) (t:TypeId) (cs vs:Array Value) (d:TypeDesc) (hg:w.heap[g]? = some (.cells cs t)) (hv : ∀(j:Nat) (v:Value),vs.toList[j]? = some v→cs[k+j]? = some v)
  (hu:P.underlying ty=some d) (hd:(match d with | .struct _ | .array _ _=>true | _=>false)=true) (hi:(P.info? ty).map (·.size)=some vs.size)
  (h:K (a.put o.dst (.agg vs)) w):if Region.wanted o (yielded ops a.tmps)=true then Oper.wp P o a w K Q else E:=by
 have hw:Region.wanted o (yielded ops a.tmps)=true:=by simp[Region.wanted,hgd]
 rw[if_pos hw]
 exact wp_part ty x ho g k hx t cs vs d hg hv hu hd hi h
theorem part2{cs:Array Value}{k:Nat}{a b:Value}(h0:cs[k]? = some a)(h1:cs[k+1]? = some b) : ∀(j:Nat) (v:Value),(#[a,b]:Array Value).toList[j]? = some v→cs[k+j]? = some v:=fun j v h=>by
 rcases j with _ | _ | j
 ·simpa using h ▸ h0
 ·simpa using h ▸ h1
 ·simp at h
end
end Go.Proofs.YtahiajeggbpogaaGreatDoor
set_option maxRecDepth 100000
set_option maxHeartbeats 4000000
namespace Go.Proofs.YtahiajeggbpogaaGreatDoor
open Go.RowKit Px Tx Tb Up
set_option linter.unusedVariables false
set_option linter.unusedSimpArgs false
theorem i64_wf{n:Int}(h1 : -9223372036854775808≤n)(h2:n≤9223372036854775807):(Lit.int .i64 n).wf=true:=by
 simp only[Lit.wf,Bool.and_eq_true,decide_eq_true_eq]
 exact⟨h1,h2⟩
namespace Up
section
variable {w w':World}{fs fs':List Fact}{gs gs':List Bx}{i i' g K:Nat}{most:Int}{A:Option Addr}{n c:Nat}{LA:Option Addr}{ln lc:Nat}{s:Sta}
theorem Opn.boxg(h:Opn w fs gs i g K most A n c LA ln lc s)(t:TypeId)(cs:Array Value)(b:Nat)(hb:w.heap.size=b):Opn (w.alloc (.cells cs t)) fs ((b,cs,t)::gs) (i+1) g K most A n c LA ln lc s:=
 ⟨h.e.boxg t cs b hb,h.i,h.f,h.l,h.hl,h.hN,h.hA⟩
theorem Opn.turn(h:Opn w fs gs i g K most A n c LA ln lc s)(j:Nat){b:Nat}{old cs:Array Value}{t:TypeId}(hj:gs[j]? = some (b,old,t))(hne:j≠i)(hrow:w'.heap[b]? = some (.cells cs t))(hoth : ∀k,k≠b→w'.heap[k]? = w.heap[k]?)(hz:w'.heap.size=w.heap.size) :
  Opn w' fs (gs.set j (b,cs,t)) i g K most A n c LA ln lc s:=
 ⟨h.e.turn j hj hrow hoth hz,by rw[List.getElem?_set_ne hne];exact h.i,h.f,h.l,h.hl,h.hN,h.hA⟩
end
end Up
end Go.Proofs.YtahiajeggbpogaaGreatDoor
