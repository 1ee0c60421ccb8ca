import Derived.Test.YtahiajeggbpogaaGreatDoorUpM
namespace Go.Proofs.YtahiajeggbpogaaGreatDoor
open Go.RowKit
set_option linter.unusedVariables false
def SeqK{α σ:Type}(F:Fence)(n:Nat)(P:Program)(g:Nat)(lb:Array Value)(encs:α→Array Value)(I:List α→σ→World→Prop)(V:List α→σ→α→σ→World→Prop)(S:List α→σ→Prop)(Sp:List α→Prop)(s0:σ)(w:World):Prop:=
 ∀(l:Nat) (J:List α→σ→World→Prop) (X:List α→World→Prop) (W:World),(∀pre s A,J pre s A→I pre s A)→(∀pre s s' A B,J pre s A→Mv A B→I pre s' B→J pre s' B)→
  (∀pre s x s' W1,J pre s' W1→V pre s x s' W1→YieldAt F (n-1) P l (encs x) W1 fun e W'=>(e = .returned (.bool true)∧J (pre++[x]) s' W')∨(e = .returned (.bool false)∧X (pre++[x]) W'))→
  J [] s0 W→CallsIn F n P g (#[.func (.yield l) #[] #[]]++lb) W fun e W'=>(∃v,e = .returned v)∧((∃xs s,S xs s∧J xs s W')∨(∃xs,Sp xs∧X xs W'))
theorem wpIn_rangeFunc_jointW{F:Fence}{n:Nat}{P:Program}{α σ:Type}{g:Operand}{ps:Array Tmp}{assign body:Code}{Q:Exit→Act→World→Prop}{a:Act}{w:World}
  (hro:F.round=none) (h1:1≤n) {gf:Nat} {lb:Array Value} (hg:a.eval g = .func (.func gf) #[] lb) (hFg:F.fn gf) (eg : ∀args w,(callFunc gf args).run P w = .ok (.enter gf args) w)
  {encs:α→Array Value} {V:List α→σ→α→σ→World→Prop} {S:List α→σ→Prop} {Sp:List α→Prop} {s0:σ}
  (I:List α→σ→World→Prop) (Ix:Code→List α→World→Prop) (hseq:SeqK F (n-1) P gf lb encs I V S Sp s0 w) (hps : ∀x,(encs x).size=ps.size)
  (hI:OwnFrom w.heap.size (fun(q:List α×σ) W=>I q.1 q.2 W)) (hIx : ∀c,OwnFrom w.heap.size (Ix c)) (h0:I [] s0 w) (Ax:List α→σ→α→Act→World→Prop) (hAx : ∀pre s x a',OwnFrom w.heap.size (fun(_:Unit) W=>Ax pre s x a' W))
  (hassign : ∀(l:Nat) (pre:List α) (s:σ) (x:α) (s':σ) (W:World) (K:Act→World→Prop),I pre s' W→V pre s x s' W→(∀a' W',KeepsFrom w.heap.size W W'→Ax pre s' x a' W'→K a' W')→
   assign.wpIn (F.inRound l) (n-1-1) P (Exit.then K (fun _ _ _=>False)) { tmps:=(ps.zip (encs x)).foldl (fun t (p,v)=>t.setIfInBounds p v) a.tmps,defers:=[] } W)
  (hbody : ∀(l:Nat) (pre:List α) (s':σ) (x:α) (a':Act) (W:World),w.heap.size≤l→Ax pre s' x a' W→
   body.wpIn (F.inRound l) (n-1-1) P (ownPostG w.heap.size (fun _ _=>True) (fun q W=>I q s' W) Ix (pre++[x]) W) a' W)
  (hdone : ∀(D:Nat) (xs:List α) (s:σ) (W:World),w.heap.size≤D→S xs s→I xs s W→W.heap[D]? = some (.deferred (some []))→Q .normal { a with defers:={ target:=.collected D,args:=#[] }::a.defers } W)
  (hstop : ∀(D:Nat) (c:Code) (pre:List α) (W:World),w.heap.size≤D→Sp pre→Ix c pre W→W.heap[D]? = some (.deferred (some []))→c.wpIn F n P Q { a with defers:={ target:=.collected D,args:=#[] }::a.defers } W) :
  (Code.rangeFunc g ps assign body).wpIn F n P Q a w:=by
 refine wpIn_rangeFunc fun fn hfn=>?_
 rw[hro]
 let R:LoopState→Option Code→Loop:=fun st pe=>{ state:=st,pending:=pe,fn,tmps:=a.tmps,params:=ps,assign,body,defers:=w.heap.size }
 have hW : ∃W0,(w.alloc (.deferred (some []))).alloc (.loop (R .ready none))=W0:=⟨_,rfl⟩
 obtain⟨W0,eW⟩:=hW
 have L0:W0.heap[w.heap.size+1]? = some (.loop (R .ready none)):=by
  have h:=World.alloc_heap_new (w.alloc (.deferred (some []))) (.loop (R .ready none))
  rw[World.size_alloc,eW] at h
  exact h
 have D0:W0.heap[w.heap.size]? = some (.deferred (some [])):=by
  rw[←eW]
  exact(Below.heap_alloc _ _ _ (by simp)).trans (World.alloc_heap_new w _)
 have I0:I [] s0 W0:=by rw[←eW];exact hI.alloc (s:=([],s0)) _ (hI.alloc (s:=([],s0)) _ h0)
 let J:List α→σ→World→Prop:=fun pre s W=>I pre s W∧W.heap[w.heap.size+1]? = some (.loop (R .ready none))∧W.heap[w.heap.size]? = some (.deferred (some []))
 let X:List α→World→Prop:=fun pre W=>∃c,Ix c pre W∧W.heap[w.heap.size+1]? = some (.loop (R .done (some c)))∧W.heap[w.heap.size]? = some (.deferred (some []))
 refine⟨w.heap.size+1,[{ target:=.collected w.heap.size,args:=#[] }],W0,{ target:=.fn (.func gf) lb,args:=#[.func (.yield (w.heap.size+1)) #[] #[]] },W0,gf,
  #[.func (.yield (w.heap.size+1)) #[] #[]]++lb,W0,?_,?_,?_,?_,fun _=>h1,?_⟩
 ·rw[←eW];exact run_enterLoop_outer _ _ _ _ _
 ·simp only[resolve,hg]
  simp[go_sem]
 ·intro f' hf';simp[Target.leads] at hf';subst hf';exact hFg
 ·simp[invoke,go_sem,eg]
 ·refine(hseq (w.heap.size+1) J X W0 (fun pre s A h=>h.1) (fun pre s s' A B h hm hi=>⟨hi,hm _ _ h.2.1 rfl,hm _ _ h.2.2 rfl⟩) ?_ ⟨I0,L0,D0⟩).mono ?_
  ·intro pre s x s' W hs hv
   obtain⟨hi,hl,hk⟩:=hs
   have hy:=run_yield (P:=P) (args:=encs x) hl (hps x)
   refine⟨fn,_,assign,body,hy,roundIn_of_wpIn hfn (hassign _ pre s x s' W _ hi hv ?_)⟩
   intro a' Wa hka hax
   have hla:=hka.same _ _ (by omega) hl rfl
   have hda:=hka.same _ _ (Nat.le_refl _) hk rfl
   have lt1:w.heap.size+1<Wa.heap.size:=(Array.getElem?_eq_some_iff.1 hla).1
   refine⟨_,run_beginRound hla rfl,?_⟩
   have hlb:(Wa.putObj (w.heap.size+1) (.loop (R .busy none))).heap[w.heap.size+1]? = some (.loop (R .busy none)):=World.putObj_heap_same lt1
   have hdb:(Wa.putObj (w.heap.size+1) (.loop (R .busy none))).heap[w.heap.size]? = some (.deferred (some [])):=(World.putObj_heap_other (by omega)).trans hda
   refine wpIn_mono (hbody _ pre s' x a' _ (by omega) ((hAx pre s' x a').putObj (s:=()) _ hax (by omega) hla rfl)) ?_
   have fin : ∀(jump:Option Code) (W3:World),KeepsFrom w.heap.size (Wa.putObj (w.heap.size+1) (.loop (R .busy none))) W3→
     (Instr.endRound (w.heap.size+1) jump).run P W3 = .ok (.bool jump.isNone) (W3.putObj (w.heap.size+1) (.loop (R (if jump.isNone then .ready else .done) jump)))∧
     W3.heap[w.heap.size+1]? = some (.loop (R .busy none))∧
     (W3.putObj (w.heap.size+1) (.loop (R (if jump.isNone then .ready else .done) jump))).heap[w.heap.size+1]? = some (.loop (R (if jump.isNone then .ready else .done) jump))∧
     (W3.putObj (w.heap.size+1) (.loop (R (if jump.isNone then .ready else .done) jump))).heap[w.heap.size]? = some (.deferred (some [])):=fun jump W3 hk3=>by
    have hl3:=hk3.same _ _ (by omega) hlb rfl
    exact⟨run_endRound (P:=P) jump hl3,hl3,World.putObj_heap_same (Array.getElem?_eq_some_iff.1 hl3).1,(World.putObj_heap_other (by omega)).trans (hk3.same _ _ (Nat.le_refl _) hdb rfl)⟩
   rintro e a3 W3 hp
   cases e with
   | normal=>
    obtain⟨h3,_,hi3⟩:=hp
    obtain⟨hr,hl3,hl4,hk4⟩:=fin none W3 h3
    exact⟨_,_,hr,.inl ⟨rfl,⟨hI.putObj (s:=(pre++[x],s')) _ hi3 (by omega) hl3 rfl,hl4,hk4⟩⟩⟩
   | ret=>
    obtain⟨h3,hi3⟩:=hp
    obtain⟨hr,hl3,hl4,hk4⟩:=fin (some .ret) W3 h3
    exact⟨_,_,hr,.inr ⟨rfl,.ret,(hIx _).putObj _ hi3 (by omega) hl3 rfl,hl4,hk4⟩⟩
   | exit id=>
    obtain⟨h3,hi3⟩:=hp
    obtain⟨hr,hl3,hl4,hk4⟩:=fin (some (.exit id)) W3 h3
    exact⟨_,_,hr,.inr ⟨rfl,.exit id,(hIx _).putObj _ hi3 (by omega) hl3 rfl,hl4,hk4⟩⟩
   | goto t=>
    obtain⟨h3,hi3⟩:=hp
    obtain⟨hr,hl3,hl4,hk4⟩:=fin (some (.goto t)) W3 h3
    exact⟨_,_,hr,.inr ⟨rfl,.goto t,(hIx _).putObj _ hi3 (by omega) hl3 rfl,hl4,hk4⟩⟩
   | panic ch=>exact hp.elim
   | outgrown=>exact hp.elim
  ·rintro e W2 ⟨⟨v,rfl⟩,(⟨xs,s,hS,hi,hl,hk⟩ | ⟨xs,hS,c,hi,hl,hk⟩)⟩
   ·exact⟨none,_,run_endLoop (P:=P) hl (by simp[R]),hdone _ xs s _ (Nat.le_refl _) hS (hI.putObj (s:=(xs,s)) _ hi (by omega) hl rfl) ((World.putObj_heap_other (by omega)).trans hk)⟩
   ·exact⟨some c,_,run_endLoop (P:=P) hl (by simp[R]),hstop _ c xs _ (Nat.le_refl _) hS ((hIx c).putObj _ hi (by omega) hl rfl) ((World.putObj_heap_other (by omega)).trans hk)⟩
end Go.Proofs.YtahiajeggbpogaaGreatDoor
