import Derived.Test.YtahiajeggbpogaaGreatDoorMGa
namespace Go.Proofs.YtahiajeggbpogaaGreatDoor
open Go.RowKit
set_option linter.unusedVariables false
section
variable {w w1 w2 w':World}{g:Nat}{fs:List Fact}{gs:List Bx}
theorem gb_refl(w:World)(g:Nat):w.grownBy w (some g):=World.grownBy.refl w _
theorem gb_below(h:w.grownBy w1 (some g))(hb:Below w1.heap.size w1 w2):w.grownBy w2 (some g):=
 ⟨hb.os.trans h.os,hb.tape.trans h.tape,hb.output.trans h.output,Nat.le_trans h.size hb.size,fun k hk hn=>(hb.block k (Nat.lt_of_lt_of_le hk h.size)).trans (h.block k hk hn)⟩
theorem gb_new(hb:Below w.heap.size w w'):w.grownBy w' (some g):=gb_below (gb_refl w g) hb
theorem gb_trans(h:w.grownBy w1 (some g))(k:w1.grownBy w2 (some g)):w.grownBy w2 (some g):=
 ⟨k.os.trans h.os,k.tape.trans h.tape,k.output.trans h.output,Nat.le_trans h.size k.size,fun j hj hn=>(k.block j (Nat.lt_of_lt_of_le hj h.size) hn).trans (h.block j hj hn)⟩
theorem gb_put(h:w.grownBy w1 (some g)){b:Nat}(hoth : ∀k,k≠b→w2.heap[k]? = w1.heap[k]?)(hz:w2.heap.size=w1.heap.size)(hbl : ∀B w0,B≤b→Below B w0 w1→Below B w0 w2)(hb:b=g∨w.heap.size≤b):w.grownBy w2 (some g):=by
 have h0:=hbl 0 w1 (Nat.zero_le _) (Below.refl _ _)
 refine⟨h0.os.trans h.os,h0.tape.trans h.tape,h0.output.trans h.output,by have:=h.size;omega,fun k hk hn=>?_⟩
 refine(hoth k ?_).trans (h.block k hk hn)
 rcases hb with rfl | hb
 ·exact fun e=>hn (by rw[e])
 ·omega
theorem below_gb{B:Nat}{w0:World}(h:Below B w0 w1)(k:w1.grownBy w2 (some g))(hB:B≤g)(hB1:B≤w1.heap.size):Below B w0 w2:=
 ⟨k.os.trans h.os,k.tape.trans h.tape,k.output.trans h.output,Nat.le_trans h.size k.size,fun j hj=>(k.block j (by omega) (fun e=>by cases e;omega)).trans (h.block j hj)⟩
theorem EnvF.rd(h:EnvF w fs gs)(i:Nat){old cs:Array Value}{t:TypeId}(hi:gs[i]? = some (g,old,t))(hg:w.grownBy w' (some g))(hrow:w'.heap[g]? = some (.cells cs t)):EnvF w' fs (gs.set i (g,cs,t)):=by
 have hmem:(g,old,t)∈gs:=List.mem_of_getElem? hi
 have hfst:=fst_set gs i (cs:=cs) hi
 have hsub : ∀y∈gs.set i (g,cs,t),y.1∈gs.map Prod.fst:=fun y hy=>by rw[←hfst];exact List.mem_map_of_mem hy
 have hoth : ∀k,k<w.heap.size→k≠g→w'.heap[k]? = w.heap[k]?:=fun k hk hn=>hg.block k hk (fun e=>hn (by cases e;rfl))
 refine⟨fun x hx=>⟨x.dep w w' (h.f x hx).1 hg.size fun k hk=>hoth k ((h.f x hx).2 k hk).1 (((h.f x hx).2 k hk).2 _ hmem),fun k hk=>⟨Nat.lt_of_lt_of_le ((h.f x hx).2 k hk).1 hg.size,fun y hy=>?_⟩⟩,fun y hy=>?_,by rw[hfst];exact h.d⟩
 ·obtain⟨z,hz2,ez⟩:=List.mem_map.1 (hsub y hy)
  rw[←ez]
  exact((h.f x hx).2 k hk).2 z hz2
 ·obtain⟨k,hk,ek⟩:=List.mem_iff_getElem.1 hy
  rw[List.getElem_set] at ek
  split at ek
  ·subst ek
   exact hrow
  ·rename_i hne
   have hk':k<gs.length:=by simpa using hk
   have hy2:y∈gs:=ek ▸ List.getElem_mem hk'
   have hne2:y.1≠g:=fun e=>by
    have n1:(gs.map Prod.fst)[k]? = some g:=by rw[List.getElem?_map,List.getElem?_eq_getElem hk',ek];simp[e]
    have n2:(gs.map Prod.fst)[i]? = some g:=by rw[List.getElem?_map,hi];rfl
    have hi':i<(gs.map Prod.fst).length:=(List.getElem?_eq_some_iff.1 n2).1
    exact hne ((List.getElem?_inj hi' h.d).1 (n2.trans n1.symm))
   exact(hoth _ (h.lt hy2) hne2).trans (h.g y hy2)
theorem EnvF.fact(h:EnvF w fs gs){x:Fact}(hx:x.is w)(ho : ∀k,x.on k→k<w.heap.size∧∀y∈gs,k≠y.1):EnvF w (x::fs) gs:=
 ⟨fun y hy=>by
  rcases List.mem_cons.1 hy with rfl | hy
  ·exact⟨hx,ho⟩
  ·exact h.f y hy,h.g,h.d⟩
end
structure EvI (w:World) (fs:List Fact) (gs:List Bx) (N:Nat) (W:World):Prop where
 e:EnvF W fs gs
 b:Below w.heap.size w W
 z:N≤W.heap.size
 n:w.heap.size≤N
 hf : ∀x∈fs,∀k,x.on k→k<N
 hg : ∀y∈gs,y.1<N
section
variable {w W W':World}{fs fs':List Fact}{gs gs':List Bx}{N:Nat}
theorem EvI.start(e:EnvF W fs gs)(b:Below w.heap.size w W):EvI w fs gs W.heap.size W:=⟨e,b,Nat.le_refl _,b.size,fun x hx k hk=>((e.f x hx).2 k hk).1,fun y hy=>e.lt hy⟩
theorem EvI.grow(h:EvI w fs gs N W){row:Option Nat}(hg:W.grownBy W' row)(hr : ∀r,row=some r→N≤r):EvI w fs gs N W':=by
 have hne : ∀k,k<N→k<W.heap.size→W'.heap[k]? = W.heap[k]?:=fun k hk hz=>hg.block k hz (fun e=>by have:=hr k e.symm;omega)
 refine⟨⟨fun x hx=>⟨x.dep W W' (h.e.f x hx).1 hg.size fun k hk=>hne k (h.hf x hx k hk) ((h.e.f x hx).2 k hk).1,fun k hk=>⟨Nat.lt_of_lt_of_le ((h.e.f x hx).2 k hk).1 hg.size,((h.e.f x hx).2 k hk).2⟩⟩,fun y hy=>(hne _ (h.hg y hy) (h.e.lt hy)).trans (h.e.g y hy),h.e.d⟩,?_,Nat.le_trans h.z hg.size,h.n,h.hf,h.hg⟩
 exact⟨hg.os.trans h.b.os,hg.tape.trans h.b.tape,hg.output.trans h.b.output,Nat.le_trans h.b.size hg.size,fun k hk=>(hne k (by have:=h.n;omega) (Nat.lt_of_lt_of_le hk h.b.size)).trans (h.b.block k hk)⟩
theorem EvI.on(h:EvI w fs gs N W)(hb:Below W.heap.size W W'):EvI w fs gs N W':=⟨h.e.on hb,below_step h.b hb,Nat.le_trans h.z hb.size,h.n,h.hf,h.hg⟩
theorem EvI.drew(h:EvI w fs gs N W):EvI w fs gs N W.drew:=h.on (Below.refl _ W).drew
theorem EvI.setCells(h:EvI w fs gs N W)(i:Nat){g:Nat}{old cs:Array Value}{t:TypeId}(hi:gs[i]? = some (g,old,t))(vs:List Value)(hcs:upd old 0 vs=cs)(hB:w.heap.size≤g):EvI w fs (gs.set i (g,cs,t)) N (W.setCells g 0 vs):=by
 subst hcs
 have hz:=setCells_size g vs 0 W
 refine⟨h.e.setCells i hi vs rfl,?_,by rw[hz];exact h.z,h.n,h.hf,fun y hy=>?_⟩
 ·have hb : ∀(vs:List Value) (j:Nat) (X:World),Below w.heap.size w X→Below w.heap.size w (X.setCells g j vs):=by
   intro vs
   induction vs with
   | nil=>intro j X hX;exact hX
   | cons v vs ih=>intro j X hX;exact ih _ _ (hX.setCell (p:=⟨g,j,none⟩) hB v)
  exact hb vs 0 W h.b
 ·rcases List.mem_or_eq_of_mem_set hy with hy | rfl
  ·exact h.hg y hy
  ·exact h.hg (g,old,t) (List.mem_of_getElem? hi)
theorem keepsFrom_setCells{g:Nat}{old:Array Value}{t:TypeId}(hg:W.heap[g]? = some (.cells old t))(vs:List Value)(B:Nat):KeepsFrom B W (W.setCells g 0 vs):=
 ⟨by rw[setCells_size];exact Nat.le_refl _,fun k o _ hk ho=>by
  have hne:k≠g:=fun e=>by subst e;rw[hg] at hk;cases hk;cases ho
  exact(setCells_other g vs 0 W k hne).trans hk⟩
theorem keepC_setCells{g:Nat}{p:Nat→Prop}(vs:List Value)(hp : ¬p g):KeepC p W (W.setCells g 0 vs):=fun k o hk h _=>
 (setCells_other g vs 0 W k (fun e=>hp (e ▸ hk))).trans h
theorem keepsFrom_below(hb:Below W.heap.size W W')(B:Nat):KeepsFrom B W W':=⟨hb.size,fun k o _ hk _=>(hb.block k (Array.getElem?_eq_some_iff.1 hk).1).trans hk⟩
end
def SeqX{α:Type}(F:Fence)(n:Nat)(P:Program)(g:Nat)(lb:Array Value)(encs:α→Array Value)(Kp St:World→World→Prop)(V:List α→α→World→Prop)(S Sp:List α→Prop)(N:Nat)(w:World):Prop:=
 ∀(l:Nat) (J X:List α→World→Prop) (W:World),Below w.heap.size w W→AbidesFrom W.heap.size J→(∀(pre:List α) (A B:World),J pre A→St A B→J pre B)→
  (∀pre x W1,J pre W1→V pre x W1→pre.length<N→YieldAt F (n-1) P l (encs x) W1 fun e W'=>(e = .returned (.bool true)∧J (pre++[x]) W'∧Kp W1 W')∨(e = .returned (.bool false)∧X (pre++[x]) W'))→
  J [] W→CallsIn F n P g (#[.func (.yield l) #[] #[]]++lb) W fun e W'=>(∃v,e = .returned v)∧((∃xs,S xs∧J xs W')∨(∃xs,Sp xs∧X xs W'))
theorem wpIn_rangeFunc_stateX{F:Fence}{n:Nat}{P:Program}{α:Type}{g:Operand}{ps:Array Tmp}{assign body:Code}{Q:Exit→Act→World→Prop}{a:Act}{w:World}
  (hro:F.round=none) (h1:1≤n) {gf:Nat} {lb:Array Value} (hg:a.eval g = .func (.func gf) #[] lb) (hFg:F.fn gf) (eg : ∀args w,(callFunc gf args).run P w = .ok (.enter gf args) w)
  {encs:α→Array Value} {Kp St:World→World→Prop} {V:List α→α→World→Prop} {S Sp:List α→Prop} {N:Nat} (hseq:SeqX F (n-1) P gf lb encs Kp St V S Sp N w)
  (hKt : ∀{A B C:World},Kp A B→Kp B C→Kp A C) (hKb : ∀(W:World) (l:Nat) (o o':Obj),w.heap.size≤l→W.heap[l]? = some o→o.isCells=false→o.isWalk=false→Kp W (W.putObj l o')) (hps : ∀x,(encs x).size=ps.size)
  (hSt : ∀(A B:World) (l:Nat) (o:Obj),St A B→A.heap[l]? = some o→o.isCells=false→B.heap[l]? = some o)
  (I:List α→World→Prop) (Ix:Code→List α→World→Prop) (hI:OwnFrom w.heap.size I) (hIx : ∀c,OwnFrom w.heap.size (Ix c)) (hIs : ∀(pre:List α) (A B:World),I pre A→St A B→I pre B) (h0:I [] w) (Ax:List α→α→Act→World→Prop) (hAx : ∀pre x a',OwnFrom w.heap.size (fun(_:Unit) W=>Ax pre x a' W))
  (hassign : ∀(l:Nat) (pre:List α) (x:α) (W:World) (K:Act→World→Prop),I pre W→V pre x W→(∀a' W',KeepsFrom w.heap.size W W'→Kp W W'→I pre W'→Ax pre x a' W'→K a' W')→
   assign.wpIn (F.inRound l) (n-1-1) P (Exit.then K (fun _ _ _=>False)) { tmps:=(ps.zip (encs x)).foldl (fun t (p,v)=>t.setIfInBounds p v) a.tmps,defers:=[] } W)
  (hbody : ∀(l:Nat) (pre:List α) (x:α) (a':Act) (W:World),w.heap.size≤l→I pre W→Ax pre x a' W→pre.length<N→
   body.wpIn (F.inRound l) (n-1-1) P (ownPostG w.heap.size Kp I Ix (pre++[x]) W) a' W)
  (hdone : ∀(D:Nat) (xs:List α) (W:World),w.heap.size≤D→S xs→I xs W→W.heap[D]? = some (.deferred (some []))→Q .normal { a with defers:={ target:=.collected D,args:=#[] }::a.defers } W)
  (hstop : ∀(D:Nat) (c:Code) (pre:List α) (W:World),w.heap.size≤D→Sp pre→Ix c pre W→W.heap[D]? = some (.deferred (some []))→c.wpIn F n P Q { a with defers:={ target:=.collected D,args:=#[] }::a.defers } W) :
  (Code.rangeFunc g ps assign body).wpIn F n P Q a w:=by
 refine wpIn_rangeFunc fun fn hfn=>?_
 rw[hro]
 let R:LoopState→Option Code→Loop:=fun st pe=>{ state:=st,pending:=pe,fn,tmps:=a.tmps,params:=ps,assign,body,defers:=w.heap.size }
 have hW : ∃W0,(w.alloc (.deferred (some []))).alloc (.loop (R .ready none))=W0:=⟨_,rfl⟩
 obtain⟨W0,eW⟩:=hW
 have L0:W0.heap[w.heap.size+1]? = some (.loop (R .ready none)):=by
  have h:=World.alloc_heap_new (w.alloc (.deferred (some []))) (.loop (R .ready none))
  rw[World.size_alloc,eW] at h
  exact h
 have D0:W0.heap[w.heap.size]? = some (.deferred (some [])):=by
  rw[←eW]
  exact(Below.heap_alloc _ _ _ (by simp)).trans (World.alloc_heap_new w _)
 have I0:I [] W0:=by rw[←eW];exact hI.alloc _ (hI.alloc _ h0)
 have B0:Below w.heap.size w W0:=by rw[←eW];exact((Below.refl _ w).alloc (Nat.le_refl _) _).alloc (by simp) _
 have z0:W0.heap.size=w.heap.size+2:=by rw[←eW];simp
 let J:List α→World→Prop:=fun pre W=>I pre W∧W.heap[w.heap.size+1]? = some (.loop (R .ready none))∧W.heap[w.heap.size]? = some (.deferred (some []))
 let X:List α→World→Prop:=fun pre W=>∃c,Ix c pre W∧W.heap[w.heap.size+1]? = some (.loop (R .done (some c)))∧W.heap[w.heap.size]? = some (.deferred (some []))
 refine⟨w.heap.size+1,[{ target:=.collected w.heap.size,args:=#[] }],W0,{ target:=.fn (.func gf) lb,args:=#[.func (.yield (w.heap.size+1)) #[] #[]] },W0,gf,
  #[.func (.yield (w.heap.size+1)) #[] #[]]++lb,W0,?_,?_,?_,?_,fun _=>h1,?_⟩
 ·rw[←eW];exact run_enterLoop_outer _ _ _ _ _
 ·simp only[resolve,hg]
  simp[go_sem]
 ·intro f' hf';simp[Target.leads] at hf';subst hf';exact hFg
 ·simp[invoke,go_sem,eg]
 ·refine(hseq (w.heap.size+1) J X W0 B0 ?_ ?_ ?_ ⟨I0,L0,D0⟩).mono ?_
  ·intro s A B row hs hg' hr
   have hr1 : ∀r,row=some r→w.heap.size≤r∧∃o:Obj,A.heap[r]? = some o∧o.isCells=false:=fun r e=>by
    obtain⟨hB,o,ho,hw⟩:=hr r e
    exact⟨by omega,o,ho,Obj.not_cells_of_walk hw⟩
   exact⟨hI s A B row hs.1 hg' hr1,(grownBy_keeps hg' (fun r e=>(hr r e).2) hs.2.1 rfl).trans hs.2.1,(grownBy_keeps hg' (fun r e=>(hr r e).2) hs.2.2 rfl).trans hs.2.2⟩
  ·intro pre A B hs hst
   exact⟨hIs pre A B hs.1 hst,hSt _ _ _ _ hst hs.2.1 rfl,hSt _ _ _ _ hst hs.2.2 rfl⟩
  ·intro pre x W hs hv hlen
   obtain⟨hi,hl,hk⟩:=hs
   have hy:=run_yield (P:=P) (args:=encs x) hl (hps x)
   refine⟨fn,_,assign,body,hy,roundIn_of_wpIn hfn (hassign _ pre x W _ hi hv ?_)⟩
   intro a' Wa hka hpa hia hax
   have hla:=hka.same _ _ (by omega) hl rfl
   have hda:=hka.same _ _ (Nat.le_refl _) hk rfl
   have lt1:w.heap.size+1<Wa.heap.size:=(Array.getElem?_eq_some_iff.1 hla).1
   refine⟨_,run_beginRound hla rfl,?_⟩
   have hlb:(Wa.putObj (w.heap.size+1) (.loop (R .busy none))).heap[w.heap.size+1]? = some (.loop (R .busy none)):=World.putObj_heap_same lt1
   have hdb:(Wa.putObj (w.heap.size+1) (.loop (R .busy none))).heap[w.heap.size]? = some (.deferred (some [])):=(World.putObj_heap_other (by omega)).trans hda
   have hkb:Kp Wa (Wa.putObj (w.heap.size+1) (.loop (R .busy none))):=hKb _ _ _ _ (by omega) hla rfl rfl
   refine wpIn_mono (hbody _ pre x a' _ (by omega) (hI.putObj _ hia (by omega) hla rfl) ((hAx pre x a').putObj (s:=()) _ hax (by omega) hla rfl) hlen) ?_
   have fin : ∀(jump:Option Code) (W3:World),KeepsFrom w.heap.size (Wa.putObj (w.heap.size+1) (.loop (R .busy none))) W3→
     (Instr.endRound (w.heap.size+1) jump).run P W3 = .ok (.bool jump.isNone) (W3.putObj (w.heap.size+1) (.loop (R (if jump.isNone then .ready else .done) jump)))∧
     W3.heap[w.heap.size+1]? = some (.loop (R .busy none))∧
     (W3.putObj (w.heap.size+1) (.loop (R (if jump.isNone then .ready else .done) jump))).heap[w.heap.size+1]? = some (.loop (R (if jump.isNone then .ready else .done) jump))∧
     (W3.putObj (w.heap.size+1) (.loop (R (if jump.isNone then .ready else .done) jump))).heap[w.heap.size]? = some (.deferred (some [])):=fun jump W3 hk3=>by
    have hl3:=hk3.same _ _ (by omega) hlb rfl
    exact⟨run_endRound (P:=P) jump hl3,hl3,World.putObj_heap_same (Array.getElem?_eq_some_iff.1 hl3).1,(World.putObj_heap_other (by omega)).trans (hk3.same _ _ (Nat.le_refl _) hdb rfl)⟩
   rintro e a3 W3 hp
   cases e with
   | normal=>
    obtain⟨h3,hp3,hi3⟩:=hp
    obtain⟨hr,hl3,hl4,hk4⟩:=fin none W3 h3
    exact⟨_,_,hr,.inl ⟨rfl,⟨hI.putObj _ hi3 (by omega) hl3 rfl,hl4,hk4⟩,hKt hpa (hKt (hKt hkb hp3) (hKb _ _ _ _ (by omega) hl3 rfl rfl))⟩⟩
   | ret=>
    obtain⟨h3,hi3⟩:=hp
    obtain⟨hr,hl3,hl4,hk4⟩:=fin (some .ret) W3 h3
    exact⟨_,_,hr,.inr ⟨rfl,.ret,(hIx _).putObj _ hi3 (by omega) hl3 rfl,hl4,hk4⟩⟩
   | exit id=>
    obtain⟨h3,hi3⟩:=hp
    obtain⟨hr,hl3,hl4,hk4⟩:=fin (some (.exit id)) W3 h3
    exact⟨_,_,hr,.inr ⟨rfl,.exit id,(hIx _).putObj _ hi3 (by omega) hl3 rfl,hl4,hk4⟩⟩
   | goto t=>
    obtain⟨h3,hi3⟩:=hp
    obtain⟨hr,hl3,hl4,hk4⟩:=fin (some (.goto t)) W3 h3
    exact⟨_,_,hr,.inr ⟨rfl,.goto t,(hIx _).putObj _ hi3 (by omega) hl3 rfl,hl4,hk4⟩⟩
   | panic ch=>exact hp.elim
   | outgrown=>exact hp.elim
  ·rintro e W2 ⟨⟨v,rfl⟩,(⟨xs,hS,hi,hl,hk⟩ | ⟨xs,hS,c,hi,hl,hk⟩)⟩
   ·exact⟨none,_,run_endLoop (P:=P) hl (by simp[R]),hdone _ xs _ (Nat.le_refl _) hS (hI.putObj _ hi (by omega) hl rfl) ((World.putObj_heap_other (by omega)).trans hk)⟩
   ·exact⟨some c,_,run_endLoop (P:=P) hl (by simp[R]),hstop _ c xs _ (Nat.le_refl _) hS ((hIx c).putObj _ hi (by omega) hl rfl) ((World.putObj_heap_other (by omega)).trans hk)⟩
end Go.Proofs.YtahiajeggbpogaaGreatDoor
