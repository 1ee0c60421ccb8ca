import Derived.Test.YtahiajeggbpogaaGreatDoorUpOb
namespace Go.Proofs.YtahiajeggbpogaaGreatDoor
open Go.RowKit Go.Shelf Px Tx Tb Up GD
set_option linter.unusedVariables false
set_option linter.unusedSimpArgs false
namespace Up
def nQ(ls:List UInt8)(k:Nat):List UInt8:=if nC ls k=0 then nR ls k else ls
def tQ(ls:List UInt8):List UInt8:=if tE ls=0 then tRs ls else ls
def OpR(w:World)(fs:List Fact)(gs:List Bx)(i g B:Nat)(s:Sta)(T:List Fd):Prop:=
 B≤g∧i<gs.length∧∃LA ln lc A n c v lb,LBox B v (keep 2000 T) lb∧ln≤lc∧(LA=none→lc=0)∧(A=none→c=0)∧
  EnvF w (fF A n s.xs::bF LA ln s.ls::fs) (gs.set i (g,opc LA ln lc v (decide (2000<full T)) s.M A n c (full T) (!T.isEmpty),67)++lb)
section
variable {w w':World}{fs:List Fact}{gs:List Bx}{i g B:Nat}{s:Sta}{T:List Fd}
theorem OpR.on(h:OpR w fs gs i g B s T)(hb:Below w.heap.size w w'):OpR w' fs gs i g B s T:=by
 obtain⟨h1,h2,LA,ln,lc,A,n,c,v,lb,h3,h4,h5,h6,h7⟩:=h
 exact⟨h1,h2,LA,ln,lc,A,n,c,v,lb,h3,h4,h5,h6,h7.on hb⟩
theorem OpR.lt(h:OpR w fs gs i g B s T):g<w.heap.size:=by
 obtain⟨h1,h2,LA,ln,lc,A,n,c,v,lb,h3,h4,h5,h6,h7⟩:=h
 exact h7.lt (List.mem_append_left _ (List.mem_of_getElem? (List.getElem?_set_self h2)))
theorem OpR.bz(h:OpR w fs gs i g B s T):B≤w.heap.size:=by have:=h.lt;have:=h.1;omega
theorem OpR.len(h:OpR w fs gs i g B s T) : ∃ln,s.ls.length=ln:=⟨_,rfl⟩
theorem OpR.box(h:OpR w fs gs i g B s T)(cs:Array Value)(t:TypeId):OpR (w.alloc (.cells cs t)) fs ((w.heap.size,cs,t)::gs) (i+1) g B s T:=by
 obtain⟨h1,h2,LA,ln,lc,A,n,c,v,lb,h3,h4,h5,h6,h7⟩:=h
 exact⟨h1,by simp;omega,LA,ln,lc,A,n,c,v,lb,h3,h4,h5,h6,h7.boxg t cs _ rfl⟩
theorem OpR.drop{x:Bx}(h:OpR w fs (x::gs) (i+1) g B s T):OpR w fs gs i g B s T:=by
 obtain⟨h1,h2,LA,ln,lc,A,n,c,v,lb,h3,h4,h5,h6,h7⟩:=h
 exact⟨h1,by simpa using h2,LA,ln,lc,A,n,c,v,lb,h3,h4,h5,h6,h7.sub (fun y hy=>hy) (List.sublist_cons_self _ _)⟩
theorem OpR.row0{b:Nat}{cs:Array Value}{t:TypeId}(h:OpR w fs ((b,cs,t)::gs) (i+1) g B s T):w.heap[b]? = some (.cells cs t):=by
 obtain⟨h1,h2,LA,ln,lc,A,n,c,v,lb,h3,h4,h5,h6,h7⟩:=h
 exact h7.row 0 rfl
theorem OpR.turn0{b:Nat}{old cs:Array Value}{t:TypeId}(h:OpR w fs ((b,old,t)::gs) (i+1) g B s T)(hrow:w'.heap[b]? = some (.cells cs t))(hoth : ∀k,k≠b→w'.heap[k]? = w.heap[k]?)(hz:w'.heap.size=w.heap.size):OpR w' fs ((b,cs,t)::gs) (i+1) g B s T:=by
 obtain⟨h1,h2,LA,ln,lc,A,n,c,v,lb,h3,h4,h5,h6,h7⟩:=h
 exact⟨h1,by simpa using h2,LA,ln,lc,A,n,c,v,lb,h3,h4,h5,h6,h7.turn 0 rfl hrow hoth hz⟩
theorem OpR.cells(h:OpR w fs gs i g B s T) : ∃cs A n c,w.heap[g]? = some (.cells cs 67)∧cs[3]? = some (.int .i64 s.M)∧cs[3+1]? = some (.slice A n c)∧cs[6]? = some (.bool (!T.isEmpty))∧Fs w w.heap.size A n s.xs∧(A=none→c=0):=by
 obtain⟨h1,h2,LA,ln,lc,A,n,c,v,lb,h3,h4,h5,h6,h7⟩:=h
 exact⟨_,A,n,c,h7.row i (ixl (List.getElem?_set_self h2)),rfl,rfl,rfl,h7.fs (List.mem_cons_self ..),h6⟩
theorem OpR.left(h:OpR w fs gs i g B s T) : ∃cs LA ln lc,w.heap[g]? = some (.cells cs 67)∧cs[0]? = some (.slice LA ln lc)∧Bs w w.heap.size LA ln s.ls∧ln≤lc:=by
 obtain⟨h1,h2,LA,ln,lc,A,n,c,v,lb,h3,h4,h5,h6,h7⟩:=h
 exact⟨_,LA,ln,lc,h7.row i (ixl (List.getElem?_set_self h2)),rfl,h7.bs (by simp),h4⟩
end
end Up
section
variable {w:World}{fs:List Fact}{gs:List Bx}{i g B:Nat}{s:Sta}{T:List Fd}
theorem d_num(k:Nat)(hO:OpR w fs gs i g B s T)(h1:1≤k)(h8:k≤8)(hn:s.ls.length≤100000) :
  Calls Tryz.prog 65 #[.pointer (some ⟨g,0,none⟩),.int .i64 (k:Int)] w fun e w'=>e = .returned (.tuple #[.int .i64 (nV s.ls k:Int),.int .i64 (nC s.ls k:Int)])∧Below B w w'∧OpR w' fs gs i g B ⟨s.M,s.xs,nQ s.ls k⟩ T:=by
 have hO0:=hO
 have hbz:=hO.bz
 obtain⟨q1,q2,LA,ln,lc,A,n,c,v,lb,q3,q4,q5,q6,q7⟩:=hO
 have hi:=ixl (lb:=lb) (List.getElem?_set_self (a:=(g,opc LA ln lc v (decide (2000<full T)) s.M A n c (full T) (!T.isEmpty),67)) q2)
 have hl:=(q7.bs (A:=LA) (n:=ln) (xs:=s.ls) (by simp)).1
 have hO2:OpL w _ _ i g LA ln lc v (decide (2000<full T)) s.M A n c (full T) (!T.isEmpty) s.xs s.ls:=⟨q7,hi,by simp,by simp,q4,q5,q6⟩
 by_cases h:nC s.ls k=0
 ·refine(d_number_yes (B:=B) k w hO2 h1 h8 (by omega) q1 h).mono ?_
  rintro e w' ⟨rfl,hb,LA',ln',lc',hc⟩
  rw[h]
  unfold nQ
  rw[if_pos h]
  refine⟨rfl,hb,q1,q2,LA',ln',lc',A,n,c,v,lb,q3,hc.hl,hc.hN,hc.hA,?_⟩
  have e1:=hc.e
  rw[set_left (by simpa using q2),List.set_set] at e1
  exact e1.sub (fun x hx=>by simp only[List.mem_cons] at hx ⊢;rcases hx with rfl | rfl | hx<;>simp[*]) (List.Sublist.refl _)
 ·refine(d_number_no k w hO2 h1 h8 (by omega) h).mono ?_
  rintro e w' ⟨rfl,hb⟩
  unfold nQ
  rw[if_neg h]
  exact⟨rfl,hb.mono hbz,hO0.on hb⟩
theorem d_txt(hO:OpR w fs gs i g B s T)(hn:s.ls.length≤10000) :
  Calls Tryz.prog 91 #[.pointer (some ⟨g,0,none⟩)] w fun e w'=>e = .returned (.tuple #[.string (st (tS s.ls)),.int .i64 (tE s.ls)])∧Below B w w'∧OpR w' fs gs i g B ⟨s.M,s.xs,tQ s.ls⟩ T:=by
 have hO0:=hO
 have hbz:=hO.bz
 obtain⟨q1,q2,LA,ln,lc,A,n,c,v,lb,q3,q4,q5,q6,q7⟩:=hO
 have hi:=ixl (lb:=lb) (List.getElem?_set_self (a:=(g,opc LA ln lc v (decide (2000<full T)) s.M A n c (full T) (!T.isEmpty),67)) q2)
 have hl:=(q7.bs (A:=LA) (n:=ln) (xs:=s.ls) (by simp)).1
 have hO2:OpL w _ _ i g LA ln lc v (decide (2000<full T)) s.M A n c (full T) (!T.isEmpty) s.xs s.ls:=⟨q7,hi,by simp,by simp,q4,q5,q6⟩
 by_cases h:tE s.ls=0
 ·refine(d_text_yes (B:=B) w hO2 (by omega) q1 h).mono ?_
  rintro e w' ⟨rfl,hb,LA',ln',lc',hc⟩
  rw[h]
  unfold tQ
  rw[if_pos h]
  refine⟨rfl,hb,q1,q2,LA',ln',lc',A,n,c,v,lb,q3,hc.hl,hc.hN,hc.hA,?_⟩
  have e1:=hc.e
  rw[set_left (by simpa using q2),List.set_set] at e1
  exact e1.sub (fun x hx=>by simp only[List.mem_cons] at hx ⊢;rcases hx with rfl | rfl | hx<;>simp[*]) (List.Sublist.refl _)
 ·refine(d_text_no w hO2 (by omega) h).mono ?_
  rintro e w' ⟨rfl,hb⟩
  unfold tQ
  rw[if_neg h]
  exact⟨rfl,hb.mono hbz,hO0.on hb⟩
theorem d_tel(f0 f1:ByteArray)(hO:OpR w fs gs i g B s T)(hs:sz (f0,f1)≤1000000000)(hT:full T≤900000000) :
  Calls Tryz.prog 67 #[.pointer (some ⟨g,0,none⟩),.agg #[.string f0,.string f1]] w fun e w'=>e = .returned (.tuple #[])∧Below B w w'∧OpR w' fs gs i g B s (T++[(f0,f1)]):=by
 obtain⟨q1,q2,LA,ln,lc,A,n,c,v,lb,q3,q4,q5,q6,q7⟩:=hO
 have hi0:=List.getElem?_set_self (a:=(g,opc LA ln lc v (decide (2000<full T)) s.M A n c (full T) (!T.isEmpty),67)) q2
 have hfa:full (T++[(f0,f1)])=full T+sz (f0,f1):=by rw[full_append];rfl
 have hem:(T++[(f0,f1)]).isEmpty=false:=by cases T<;>rfl
 by_cases h:2000<full T+sz (f0,f1)
 ·refine(d_tell_a (B:=B) f0 f1 w q7 (ixl hi0) q1 rfl hs (by omega) h).mono ?_
  rintro e w' ⟨rfl,hb,hE⟩
  refine⟨rfl,hb,q1,q2,LA,ln,lc,A,n,c,v,lb,?_,q4,q5,q6,?_⟩
  ·have hks:keep (2000:Int) (T++[(f0,f1)])=if 2000<full (T++[(f0,f1)]) then keep 2000 T else T++[(f0,f1)]:=keep_snoc (M:=2000) (L:=T) (x:=(f0,f1))
   rw[hks,if_pos (by rw[hfa];exact h)]
   exact q3
  ·rw[set_left (by simpa using q2),List.set_set] at hE
   rw[hfa,hem,decide_eq_true h]
   exact hE
 ·have hl:=full_len T
  have hk:keep 2000 T=T:=keep_all (by omega)
  have hk2:keep 2000 (T++[(f0,f1)])=T++[(f0,f1)]:=keep_all (by rw[hfa];omega)
  rw[hk] at q3
  refine(d_tell_b (B:=B) f0 f1 w q7 q3 (by omega) (decide_eq_false (by omega)) hi0 q1 rfl hs (by omega) (by omega)).mono ?_
  rintro e w' ⟨rfl,hb,V,lb',hl',hE⟩
  refine⟨rfl,hb,q1,q2,LA,ln,lc,A,n,c,V,lb',?_,q4,q5,q6,?_⟩
  ·rw[hk2];exact hl'
  ·rw[List.set_set] at hE
   rw[hfa,hem,decide_eq_false h]
   exact hE
end
end Go.Proofs.YtahiajeggbpogaaGreatDoor
