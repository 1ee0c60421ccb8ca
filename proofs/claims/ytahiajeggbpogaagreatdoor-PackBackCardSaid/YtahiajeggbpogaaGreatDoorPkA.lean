import Derived.Test.YtahiajeggbpogaaGreatDoorUpR
import Derived.Test.YtahiajeggbpogaaGreatDoorMTc
set_option maxRecDepth 100000
set_option maxHeartbeats 4000000
namespace Go.Proofs.YtahiajeggbpogaaGreatDoor
open Go.RowKit Go.Shelf Px Tx Tb Up
set_option linter.unusedVariables false
set_option linter.unusedSimpArgs false
attribute [local go_sem] Oper.semAt_some
theorem res_tct{P:Program}{fn:Func}{p q r:Tmp}{ty:TypeId}(h:fn.results=#[.tmp r,.cell p ty,.tmp q])(tmps:Array Value)(w:World)(g:Nat)(t:TypeId)(cs:Array Value)(d:TypeDesc)
  (hp:tmps.getD p undef = .pointer (some ⟨g,0,none⟩)) (hg:w.heap[g]? = some (.cells cs t))
  (hu:P.underlying ty=some d) (hd:(match d with | .struct _ | .array _ _=>true | _=>false)=true) (hi:(P.info? ty).map (·.size)=some cs.size) :
  (results fn tmps).run P w = .ok (.tuple #[tmps.getD r undef,.agg cs,tmps.getD q undef]) w:=by
 have hp':tmps[p]?.getD undef = .pointer (some ⟨g,0,none⟩):=by simpa using hp
 simp[results,h,hp',asAddr,run_loadVar_row w g t ty cs _ d hg hu hd hi]
theorem res_ccc{P:Program}{fn:Func}{p q r:Tmp}{ty tz tx:TypeId}(h:fn.results=#[.cell r tx,.cell p ty,.cell q tz])(tmps:Array Value)(w:World)(g j k:Nat)(t s s':TypeId)(u v:Value)(cs:Array Value)(d d' d'':TypeDesc)
  (hr:tmps.getD r undef = .pointer (some ⟨j,0,none⟩)) (hj:w.heap[j]? = some (.cells #[u] s)) (hp:tmps.getD p undef = .pointer (some ⟨g,0,none⟩)) (hg:w.heap[g]? = some (.cells cs t)) (hq:tmps.getD q undef = .pointer (some ⟨k,0,none⟩)) (hk:w.heap[k]? = some (.cells #[v] s'))
  (hu:P.underlying ty=some d) (hd:(match d with | .struct _ | .array _ _=>true | _=>false)=true) (hi:(P.info? ty).map (·.size)=some cs.size)
  (hu':P.underlying tx=some d') (hd':(match d' with | .struct _ | .array _ _=>true | _=>false)=false) (hu'':P.underlying tz=some d'') (hd'':(match d'' with | .struct _ | .array _ _=>true | _=>false)=false) :
  (results fn tmps).run P w = .ok (.tuple #[u,.agg cs,v]) w:=by
 have hp':tmps[p]?.getD undef = .pointer (some ⟨g,0,none⟩):=by simpa using hp
 have hq':tmps[q]?.getD undef = .pointer (some ⟨k,0,none⟩):=by simpa using hq
 have hr':tmps[r]?.getD undef = .pointer (some ⟨j,0,none⟩):=by simpa using hr
 simp[results,h,hp',hq',hr',asAddr,run_loadVar_row w g t ty cs _ d hg hu hd hi,run_get w j 0 tx s #[u] u d' hj rfl hu' hd',run_get w k 0 tz s' #[v] v d'' hk rfl hu'' hd'']
theorem pk_to{P:Program}{c:Code}{K:Act→World→Prop}{Q:Exit→Act→World→Prop}{a:Act}{w:World}(R:Act→World→Prop)(h:c.wp P (Exit.then R fun _ _ _=>False) a w)(k : ∀a w,R a w→K a w):c.wp P (Exit.then K Q) a w:=
 Code.wp_mono (fun e a w h=>by
  cases e with
  | normal=>exact k _ _ h
  | _=>exact h.elim) h
namespace Pk
def cook:List UInt8:=[99,111,111,107,105,101]
def secB(f:Fd):Bool:=f.1.toList==cook
def wy(M:Int)(f:Fd):Int:=if secB f then 2 else if (sz f:Int)≤M then 1 else 3
def la(f:Fd):List UInt8:=f.1.data.toList
def lb(f:Fd):List UInt8:=f.2.data.toList
theorem la_of(a b:List UInt8):la ((⟨a.toArray⟩,⟨b.toArray⟩):Fd)=a:=by simp[la]
theorem lb_of(a b:List UInt8):lb ((⟨a.toArray⟩,⟨b.toArray⟩):Fd)=b:=by simp[lb]
theorem fd_form(f:Fd) : ∃a b:List UInt8,f=(⟨a.toArray⟩,⟨b.toArray⟩):=⟨f.1.data.toList,f.2.data.toList,by obtain⟨⟨a⟩,⟨b⟩⟩:=f;simp⟩
noncomputable def oL(i:Nat)(f:Fd)(way:Int):List UInt8:=if i=0 then fldL (la f) (lb f) way else nmL i (lb f) way
noncomputable def fB(M:Int)(xs:List Fd)(f:Fd):List UInt8:=if findB xs f then putL (findI xs f) (7:Nat) 128 else oL (findI xs f) f (wy M f)
def fX(M:Int)(xs:List Fd)(f:Fd):List Fd:=if findB xs f then xs else if wy M f=1 then keep M (f::xs) else xs
noncomputable def kB(M:Int)(xs:List Fd):List Fd→List UInt8
 | []=>[]
 | f::l=>fB M xs f++kB M (fX M xs f) l
def kX(M:Int)(xs:List Fd):List Fd→List Fd
 | []=>xs
 | f::l=>kX M (fX M xs f) l
theorem kX_app(M:Int)(l r:List Fd) : ∀xs,kX M xs (l++r)=kX M (kX M xs l) r:=by
 induction l with
 | nil=>intro xs;rfl
 | cons f l ih=>intro xs;exact ih _
theorem kB_app(M:Int)(l r:List Fd) : ∀xs,kB M xs (l++r)=kB M xs l++kB M (kX M xs l) r:=by
 induction l with
 | nil=>intro xs;rfl
 | cons f l ih=>intro xs;show fB M xs f++kB M _ (l++r)=(fB M xs f++kB M _ l)++_;rw[ih,List.append_assoc];rfl
theorem kX_snoc(M:Int)(xs l:List Fd)(f:Fd):kX M xs (l++[f])=fX M (kX M xs l) f:=kX_app M l [f] xs
theorem kB_snoc(M:Int)(xs l:List Fd)(f:Fd):kB M xs (l++[f])=kB M xs l++fB M (kX M xs l) f:=by
 rw[kB_app]
 show _++(fB M (kX M xs l) f++[])=_
 rw[List.append_nil]
theorem okB_of{M:Int}{xs:List Fd}(h:rightB M xs=true):0≤M∧M≤4096∧(full xs:Int)≤M:=by
 unfold rightB okB at h
 simp only[Bool.and_eq_true,decide_eq_true_eq] at h
 exact⟨h.1.1,h.1.2,h.2⟩
theorem right_of{M:Int}{xs:List Fd}(h0:0≤M)(h1:M≤4096)(h2:(full xs:Int)≤M):rightB M xs=true:=by
 unfold rightB okB
 simp only[Bool.and_eq_true,decide_eq_true_eq]
 exact⟨⟨h0,h1⟩,h2⟩
theorem fX_right{M:Int}{xs:List Fd}(h:rightB M xs=true)(f:Fd):rightB M (fX M xs f)=true:=by
 obtain⟨h0,h1,h2⟩:=okB_of h
 unfold fX
 split
 ·exact h
 ·split
  ·exact right_of h0 h1 (keep_full _ h0)
  ·exact h
theorem kX_right{M:Int} : ∀{xs:List Fd},rightB M xs=true→∀l,rightB M (kX M xs l)=true:=by
 intro xs h l
 induction l generalizing xs with
 | nil=>exact h
 | cons f l ih=>exact ih (fX_right h f)
theorem beB_len{s:List UInt8}(hs:s.length≤100000):(beB s).length≤s.length+6:=by
 have h1:=(be_le s).1
 have h2:=pl_len s
 have h3:=numB_len (n:=s.length) (k:=7) (by omega)
 omega
theorem la_sz(f:Fd):(la f).length+(lb f).length+32=sz f:=by
 obtain⟨⟨a⟩,⟨b⟩⟩:=f
 simp[la,lb,sz,ByteArray.size]
theorem fldL_len{a b:List UInt8}(way:Int)(ha:a.length≤100000)(hb:b.length≤100000):(fldL a b way).length≤a.length+b.length+18:=by
 have h1:=beB_len ha
 have h2:=beB_len hb
 have h3:=putL_len 0 (wR way) (wU way)
 unfold fldL
 simp only[List.length_append]
 omega
theorem nmL_len{i:Int}{b:List UInt8}(way:Int)(hb:b.length≤100000):(nmL i b way).length≤b.length+12:=by
 have h2:=beB_len hb
 have h3:=putL_len i (wR way) (wU way)
 unfold nmL
 split
 ·simp
 ·split
  ·simp only[List.length_append];omega
  ·simp
theorem fB_len(M:Int)(xs:List Fd){f:Fd}(h:sz f≤100000):(fB M xs f).length≤sz f:=by
 have hz:=la_sz f
 unfold fB oL
 split
 ·have:=putL_len (findI xs f:Int) 7 128
  omega
 ·split
  ·have:=fldL_len (a:=la f) (b:=lb f) (wy M f) (by omega) (by omega)
   omega
  ·have:=nmL_len (i:=(findI xs f:Int)) (b:=lb f) (wy M f) (by omega)
   omega
theorem kB_len(M:Int) : ∀(l xs:List Fd),full l≤100000→(kB M xs l).length≤full l:=by
 intro l
 induction l with
 | nil=>intro xs _;exact Nat.le_refl _
 | cons f l ih=>
  intro xs h
  have h':sz f+full l≤100000:=h
  have h1:=fB_len M xs (f:=f) (by omega)
  have h2:=ih (fX M xs f) (by omega)
  show(fB M xs f++kB M (fX M xs f) l).length≤sz f+full l
  rw[List.length_append]
  omega
theorem env_less{W:World}{fs:List Fact}{gs:List Bx}{B B1:Nat}{t:TypeId}{v:Value}{xs:List Fd}(h:EnvF W (oF B t v xs::fs) gs)(hB:B1≤B):EnvF W (oF B1 t v xs::fs) gs:=
 ⟨fun x hx=>by
  rcases List.mem_cons.1 hx with rfl | hx
  ·have h1:=h.f _ (List.mem_cons_self ..)
   exact⟨OwnF.less h1.1 hB,h1.2⟩
  ·exact h.f x (List.mem_cons_of_mem _ hx),h.g,h.d⟩
end Pk
open Pk
theorem findI_le(xs:List Fd)(f:Fd):findI xs f≤20+xs.length:=by
 have h : ∀p:Fd→Bool,ixOf p (stat++xs)≤20+xs.length:=fun p=>by
  unfold ixOf
  split
  ·rename_i i hi
   have:=(List.findIdx?_eq_some_iff_getElem.1 hi).1
   rw[List.length_append,stat_len] at this
   omega
  ·omega
 unfold findI
 split<;>exact h _
theorem putE_small{n k:Nat}(hk:1≤k∧k≤8)(hn:n<2147483648):putE (n:Int) (k:Int)=0:=putE_yes ⟨⟨by omega,by omega⟩,by omega,by omega⟩
theorem nmE_small{n:Nat}{way:Int}(h0:n≠0)(hn:n<2147483648):nmE (n:Int) way=0:=by
 unfold nmE
 rw[if_neg (by omega)]
 exact putE_small (by unfold wR;split<;>omega) hn
theorem putL_pos{n k u:Nat}(hk:1≤k∧k≤8)(hn:n<2147483648):0<(putL (n:Int) (k:Int) u).length:=by
 rw[putL_yes ⟨⟨by omega,by omega⟩,by omega,by omega⟩,numB_len_putN]
 exact numB_pos _ _
theorem wR_bd(way:Int):1≤wR way∧wR way≤8:=by unfold wR;split<;>omega
theorem fB_pos(M:Int){xs:List Fd}{f:Fd}(h:rightB M xs=true):0<(fB M xs f).length:=by
 obtain⟨h0,h1,h2⟩:=okB_of h
 have hln:=full_len xs
 have hi:=findI_le xs f
 unfold fB oL
 split
 ·exact putL_pos (k:=7) (by omega) (by omega)
 ·split
  ·have:=putL_pos (n:=0) (u:=wU (wy M f)) (wR_bd (wy M f)) (by omega)
   unfold fldL
   simp only[List.length_append]
   have e:((0:Nat):Int)=0:=rfl
   rw[e] at this
   omega
  ·rename_i hne
   unfold nmL
   rw[if_neg (by omega),if_pos (putE_small (wR_bd _) (by omega)),List.length_append]
   have:=putL_pos (n:=findI xs f) (u:=wU (wy M f)) (wR_bd (wy M f)) (by omega)
   omega
section
variable {fs:List Fact}{gs:List Bx}
theorem p_put{i:Int}{r u:Nat}{L:List UInt8}{E:Int}{k:Nat}{f:FuncId}{args:Array Value}(w:World)(hV:EnvF w fs gs)(hc:Calls Tryz.prog f args w (PutD i r u w))(h1:putL i r u=L)(h2:putE i r=E)(h3:L.length=k) :
  Calls Tryz.prog f args w fun e w'=>∃A c,e = .returned (.tuple #[.slice A k c,.int .i64 E])∧Below w.heap.size w w'∧EnvF w' (bF A k L::fs) gs∧(k≤c∧(A=none→c=0)):=by
 subst h1 h2 h3
 refine hc.mono ?_
 rintro e w' ⟨A,c,rfl,ho,hb⟩
 obtain⟨A',c',e,hh⟩:=ho.handS (n:=(putL i r u).length) rfl
 cases e
 exact⟨A,c,rfl,hb,hV.handS hb hh,hh.2.2⟩
theorem p_named{i way:Int}{b:List UInt8}{L:List UInt8}{E:Int}{k:Nat}(w:World)(hV:EnvF w fs gs)(hR:rwF∈fs)(hM:mvF∈fs)(hb:b.length≤10000)(h1:nmL i b way=L)(h2:nmE i way=E)(h3:L.length=k) :
  Calls Tryz.prog 15 #[.int .i64 i,.string ⟨b.toArray⟩,.int .i64 way] w fun e w'=>∃A c,e = .returned (.tuple #[.slice A k c,.int .i64 E])∧Below w.heap.size w w'∧EnvF w' (bF A k L::fs) gs∧(k≤c∧(A=none→c=0)):=by
 subst h1 h2 h3
 refine(u_Named i b way w hV hR hM hb).mono ?_
 rintro e w' ⟨A,c,rfl,hh,hb⟩
 exact⟨A,c,rfl,hb,hV.handS hb hh,hh.2.2⟩
theorem p_field{way:Int}{a b L:List UInt8}{k:Nat}(w:World)(hV:EnvF w fs gs)(hR:rwF∈fs)(hM:mvF∈fs)(ha:a.length≤10000)(hb:b.length≤10000)(h1:fldL a b way=L)(h3:L.length=k) :
  Calls Tryz.prog 18 #[.agg #[.string ⟨a.toArray⟩,.string ⟨b.toArray⟩],.int .i64 way] w fun e w'=>∃A c,e = .returned (.slice A k c)∧Below w.heap.size w w'∧EnvF w' (bF A k L::fs) gs∧(k≤c∧(A=none→c=0)):=by
 subst h1 h3
 refine(u_Field a b way w hV hR hM ha hb).mono ?_
 rintro e w' ⟨A,c,rfl,ho,hb⟩
 obtain⟨A',c',e,hh⟩:=ho.handS (n:=(fldL a b way).length) rfl
 cases e
 exact⟨A,c,rfl,hb,hV.handS hb hh,hh.2.2⟩
theorem p_resize{B:Nat}{A:Option Addr}{n c:Nat}{xs:List Fd}{M m N E:Int}{k:Nat}{L:List Fd}(w:World)(hV:EnvF w fs gs)(hBz:B≤w.heap.size)(hA:fF A n xs∈fs)(hN:A=none→c=0)(hF:full xs≤100000)(h1:resM M xs m=N)(h2:resE M xs m=E)(h3:resL M xs m=L)(h4:L.length=k) :
  Calls Tryz.prog 59 #[.agg #[.int .i64 M,.slice A n c],.int .i64 m] w fun e w'=>∃A3 c3,e = .returned (.tuple #[.agg #[.int .i64 N,.slice A3 k c3],.int .i64 E])∧Below w.heap.size w w'∧EnvF w' (oF B 27 (.slice A3 k c3) L::fF A3 k L::fs) gs∧(A3=none→c3=0):=by
 subst h1 h2 h3 h4
 refine(t_resize M A n c xs m w (hV.fs hA) hN hF).mono ?_
 rintro e w' ⟨v,rfl,ho,hb⟩
 obtain⟨A3,c3,rfl,_,h5,h6,_⟩:=ho.form
 exact⟨A3,c3,rfl,hb,hV.handO hb ho hBz,h5⟩
theorem p_add{B:Nat}{A:Option Addr}{n c:Nat}{xs:List Fd}{M N E:Int}{k:Nat}{L:List Fd}{a b:ByteArray}(w:World)(hV:EnvF w fs gs)(hBz:B≤w.heap.size)(hA:fF A n xs∈fs)(hN:A=none→c=0)(hF:full xs≤100000)(hf:sz ((a,b):Fd)≤100000)(h1:addM M xs=N)(h2:addE M xs=E)(h3:addL M xs (a,b)=L)(h4:L.length=k) :
  Calls Tryz.prog 88 #[.agg #[.int .i64 M,.slice A n c],.agg #[.string a,.string b]] w fun e w'=>∃A3 c3,e = .returned (.tuple #[.agg #[.int .i64 N,.slice A3 k c3],.int .i64 E])∧Below w.heap.size w w'∧EnvF w' (oF B 27 (.slice A3 k c3) L::fF A3 k L::fs) gs∧(A3=none→c3=0):=by
 subst h1 h2 h3 h4
 refine(t_add M A n c xs (a,b) w (hV.fs hA) hN hF hf).mono ?_
 rintro e w' ⟨v,rfl,ho,hb⟩
 obtain⟨A3,c3,rfl,_,h5,h6,_⟩:=ho.form
 exact⟨A3,c3,rfl,hb,hV.handO hb ho hBz,h5⟩
theorem EnvF.stv'{w:World}(h:EnvF w fs gs)(hm:stF∈fs):Stv w:=(h.f _ hm).1
theorem p_find{A:Option Addr}{n c:Nat}{xs:List Fd}{M:Int}{a b:ByteArray}{i:Nat}{B:Bool}(w:World)(hV:EnvF w fs gs)(hS:stF∈fs)(hA:fF A n xs∈fs)(hn:n≤1000000)(hF:full xs≤1000000)(hf:sz ((a,b):Fd)≤1000000)(h1:findI xs (a,b)=i)(h2:findB xs (a,b)=B) :
  Calls Tryz.prog 121 #[.agg #[.int .i64 M,.slice A n c],.agg #[.string a,.string b]] w fun e w'=>e = .returned (.tuple #[.int .i64 (i:Int),.bool B])∧Below w.heap.size w w':=by
 subst h1 h2
 exact t_find M A n c xs (a,b) w (EnvF.stv' hV hS) (hV.fs hA) hn hF hf
end
theorem c_Secret(a b:ByteArray)(w:World) :
  Calls Tryz.prog 34 #[.agg #[.string a,.string b]] w fun e w'=>e = .returned (.bool (secB (a,b)))∧Below w.heap.size w w':=by
 have K0:=Lib.hid ((EnvF.nil w).boxg 27 #[.string a,.string b] w.heap.size (by simp))
 have G0:=Lib.hid ((Below.refl w.heap.size w).alloc (by simp) (.cells #[.string a,.string b] 27))
 unfold secB cook
 go_enter Tryz.func34,Tryz.ntmps34
 go_wp2_with (first
  | go_skip
  | (refine at_load 9 (.tmp 3) (by rfl) ?_;refine wpListG_get (by rfl) 9 (.tmp 3) (by rfl) w.heap.size 0 (by rfl) 27 #[.string a,.string b] (.string a) _ (K0.out.row 0 rfl) (by rfl) Tryz.underlying9 (by rfl) ?_))
 go_ret
 exact⟨rfl,G0.out⟩
theorem c_way_s(M:Int)(A:Option Addr)(n c:Nat)(a b:ByteArray)(w:World)(HS:Hid (∀W:World,Calls Tryz.prog 34 #[.agg #[.string a,.string b]] W fun e w'=>e = .returned (.bool true)∧Below W.heap.size W w')) :
  Calls Tryz.prog 122 #[.agg #[.int .i64 M,.slice A n c],.agg #[.string a,.string b]] w fun e w'=>e = .returned (.int .i64 2)∧Below w.heap.size w w':=by
 have K0:=Lib.hid (((EnvF.nil w).boxg 24 #[.int .i64 M,.slice A n c] w.heap.size (by simp)).boxg 27 #[.string a,.string b] (w.heap.size+1) (by simp))
 have G0:=Lib.hid (((Below.refl w.heap.size w).alloc (by simp) (.cells #[.int .i64 M,.slice A n c] 24)).alloc (by simp) (.cells #[.string a,.string b] 27))
 go_enter Tryz.func122,Tryz.ntmps122
 go_wp2_with (first
  | go_skip
  | (refine at_load 27 (.tmp 3) (by rfl) ?_;refine wpListG_row (by rfl) 27 (.tmp 3) (by rfl) (w.heap.size+1) (by rfl) 27 #[.string a,.string b] _ (K0.out.row 0 rfl) Tryz.underlying27 (by rfl) infoc_D ?_)
  | (go_at_call 34;(with_reducible refine(HS.out _).mono ?_);rintro e w1 ⟨rfl,hb⟩;have K1:=Lib.hid (K0.out.on hb);have G1:=Lib.hid (below_step G0.out hb);clear hb K0 G0))
 go_ret
 exact⟨rfl,G1.out⟩
theorem c_way_y(M:Int)(A:Option Addr)(n c:Nat)(a b:ByteArray)(w:World)(HS:Hid (∀W:World,Calls Tryz.prog 34 #[.agg #[.string a,.string b]] W fun e w'=>e = .returned (.bool false)∧Below W.heap.size W w'))(s:Nat)(HZ:Hid (∀W:World,Calls Tryz.prog 42 #[.agg #[.string a,.string b]] W fun e w'=>e = .returned (.int .i64 (s:Int))∧Below W.heap.size W w'))(hd:decide ((s:Int)≤M)=true) :
  Calls Tryz.prog 122 #[.agg #[.int .i64 M,.slice A n c],.agg #[.string a,.string b]] w fun e w'=>e = .returned (.int .i64 1)∧Below w.heap.size w w':=by
 have K0:=Lib.hid (((EnvF.nil w).boxg 24 #[.int .i64 M,.slice A n c] w.heap.size (by simp)).boxg 27 #[.string a,.string b] (w.heap.size+1) (by simp))
 have G0:=Lib.hid (((Below.refl w.heap.size w).alloc (by simp) (.cells #[.int .i64 M,.slice A n c] 24)).alloc (by simp) (.cells #[.string a,.string b] 27))
 go_enter Tryz.func122,Tryz.ntmps122
 go_wp2_with (first
  | go_skip
  | (refine at_load 27 (.tmp 3) (by rfl) ?_;refine wpListG_row (by rfl) 27 (.tmp 3) (by rfl) (w.heap.size+1) (by rfl) 27 #[.string a,.string b] _ (K0.out.row 0 rfl) Tryz.underlying27 (by rfl) infoc_D ?_)
  | (go_at_call 34;(with_reducible refine(HS.out _).mono ?_);rintro e w1 ⟨rfl,hb⟩;have K1:=Lib.hid (K0.out.on hb);have G1:=Lib.hid (below_step G0.out hb);clear hb K0 G0))
 refine q_start (fun W=>EnvF W [] [(w.heap.size+1,#[.string a,.string b],27),(w.heap.size,#[.int .i64 M,.slice A n c],24)]∧Below w.heap.size w W) (by kernel_rfl) (by kernel_rfl) ⟨K1.out.drew,G1.out.drew⟩ ?_
 refine q_row (by rfl) 27 (.tmp 3) (by rfl) (w.heap.size+1) (by rfl) 27 #[.string a,.string b] _ (fun W hW=>hW.1.row 0 rfl) Tryz.underlying27 (by rfl) infoc_D ?_
 first | (refine q_norm ?_;dsimp only[List.set_cons_succ,List.set_cons_zero]) | refine q_norm0 ?_
 refine q_call (by rfl) 42 #[.agg #[.string a,.string b]] (.int .i64 (s:Int)) (fun w=>by go_simp) (fun W hW=>(HZ.out W).mono fun e w' h=>⟨h.1,hW.1.on h.2,below_step hW.2 h.2⟩) ?_
 first | (refine q_norm ?_;dsimp only[List.set_cons_succ,List.set_cons_zero]) | refine q_norm0 ?_
 refine q_val (v:=.pointer (some ⟨w.heap.size,0,none⟩)) (by rfl) (fun w=>by go_simp) ?_
 first | (refine q_norm ?_;dsimp only[List.set_cons_succ,List.set_cons_zero]) | refine q_norm0 ?_
 refine q_get (by rfl) 3 (.tmp 11) (by rfl) w.heap.size 0 (by rfl) 24 #[.int .i64 M,.slice A n c] (.int .i64 M) _ (fun W hW=>hW.1.row 1 rfl) (by rfl) Tryz.underlying3 (by rfl) ?_
 first | (refine q_norm ?_;dsimp only[List.set_cons_succ,List.set_cons_zero]) | refine q_norm0 ?_
 refine q_val (v:=.bool true) (by rfl) (fun w=>by go_simp) ?_
 first | (refine q_norm ?_;dsimp only[List.set_cons_succ,List.set_cons_zero]) | refine q_norm0 ?_
 refine q_val (v:=.bool true) (by rfl) (fun w=>by go_simp) ?_
 first | (refine q_norm ?_;dsimp only[List.set_cons_succ,List.set_cons_zero]) | refine q_norm0 ?_
 rintro W ⟨hE,hB⟩
 have KQ:=Lib.hid hE
 have GQ:=Lib.hid hB
 clear hE hB K1 G1
 go_wp2
 go_ret
 exact⟨rfl,GQ.out⟩
theorem c_way_n(M:Int)(A:Option Addr)(n c:Nat)(a b:ByteArray)(w:World)(HS:Hid (∀W:World,Calls Tryz.prog 34 #[.agg #[.string a,.string b]] W fun e w'=>e = .returned (.bool false)∧Below W.heap.size W w'))(s:Nat)(HZ:Hid (∀W:World,Calls Tryz.prog 42 #[.agg #[.string a,.string b]] W fun e w'=>e = .returned (.int .i64 (s:Int))∧Below W.heap.size W w'))(hd:decide ((s:Int)≤M)=false) :
  Calls Tryz.prog 122 #[.agg #[.int .i64 M,.slice A n c],.agg #[.string a,.string b]] w fun e w'=>e = .returned (.int .i64 3)∧Below w.heap.size w w':=by
 have K0:=Lib.hid (((EnvF.nil w).boxg 24 #[.int .i64 M,.slice A n c] w.heap.size (by simp)).boxg 27 #[.string a,.string b] (w.heap.size+1) (by simp))
 have G0:=Lib.hid (((Below.refl w.heap.size w).alloc (by simp) (.cells #[.int .i64 M,.slice A n c] 24)).alloc (by simp) (.cells #[.string a,.string b] 27))
 go_enter Tryz.func122,Tryz.ntmps122
 go_wp2_with (first
  | go_skip
  | (refine at_load 27 (.tmp 3) (by rfl) ?_;refine wpListG_row (by rfl) 27 (.tmp 3) (by rfl) (w.heap.size+1) (by rfl) 27 #[.string a,.string b] _ (K0.out.row 0 rfl) Tryz.underlying27 (by rfl) infoc_D ?_)
  | (go_at_call 34;(with_reducible refine(HS.out _).mono ?_);rintro e w1 ⟨rfl,hb⟩;have K1:=Lib.hid (K0.out.on hb);have G1:=Lib.hid (below_step G0.out hb);clear hb K0 G0))
 refine q_start (fun W=>EnvF W [] [(w.heap.size+1,#[.string a,.string b],27),(w.heap.size,#[.int .i64 M,.slice A n c],24)]∧Below w.heap.size w W) (by kernel_rfl) (by kernel_rfl) ⟨K1.out.drew,G1.out.drew⟩ ?_
 refine q_row (by rfl) 27 (.tmp 3) (by rfl) (w.heap.size+1) (by rfl) 27 #[.string a,.string b] _ (fun W hW=>hW.1.row 0 rfl) Tryz.underlying27 (by rfl) infoc_D ?_
 first | (refine q_norm ?_;dsimp only[List.set_cons_succ,List.set_cons_zero]) | refine q_norm0 ?_
 refine q_call (by rfl) 42 #[.agg #[.string a,.string b]] (.int .i64 (s:Int)) (fun w=>by go_simp) (fun W hW=>(HZ.out W).mono fun e w' h=>⟨h.1,hW.1.on h.2,below_step hW.2 h.2⟩) ?_
 first | (refine q_norm ?_;dsimp only[List.set_cons_succ,List.set_cons_zero]) | refine q_norm0 ?_
 refine q_val (v:=.pointer (some ⟨w.heap.size,0,none⟩)) (by rfl) (fun w=>by go_simp) ?_
 first | (refine q_norm ?_;dsimp only[List.set_cons_succ,List.set_cons_zero]) | refine q_norm0 ?_
 refine q_get (by rfl) 3 (.tmp 11) (by rfl) w.heap.size 0 (by rfl) 24 #[.int .i64 M,.slice A n c] (.int .i64 M) _ (fun W hW=>hW.1.row 1 rfl) (by rfl) Tryz.underlying3 (by rfl) ?_
 first | (refine q_norm ?_;dsimp only[List.set_cons_succ,List.set_cons_zero]) | refine q_norm0 ?_
 refine q_val (v:=.bool false) (by rfl) (fun w=>by go_simp) ?_
 first | (refine q_norm ?_;dsimp only[List.set_cons_succ,List.set_cons_zero]) | refine q_norm0 ?_
 refine q_val (v:=.bool false) (by rfl) (fun w=>by go_simp) ?_
 first | (refine q_norm ?_;dsimp only[List.set_cons_succ,List.set_cons_zero]) | refine q_norm0 ?_
 rintro W ⟨hE,hB⟩
 have KQ:=Lib.hid hE
 have GQ:=Lib.hid hB
 clear hE hB K1 G1
 go_wp2
 go_ret
 exact⟨rfl,GQ.out⟩
theorem p_way{V:Int}(M:Int)(A:Option Addr)(n c:Nat)(a b:ByteArray)(w:World)(hs:sz ((a,b):Fd)≤100000)(hV:wy M (a,b)=V) :
  Calls Tryz.prog 122 #[.agg #[.int .i64 M,.slice A n c],.agg #[.string a,.string b]] w fun e w'=>e = .returned (.int .i64 V)∧Below w.heap.size w w':=by
 subst hV
 have HZ:Hid (∀W:World,Calls Tryz.prog 42 #[.agg #[.string a,.string b]] W fun e w'=>e = .returned (.int .i64 (sz ((a,b):Fd):Int))∧Below W.heap.size W w'):=Lib.hid fun W=>t_size (a,b) W (by omega)
 have HS:Hid (∀W:World,Calls Tryz.prog 34 #[.agg #[.string a,.string b]] W fun e w'=>e = .returned (.bool (secB (a,b)))∧Below W.heap.size W w'):=Lib.hid fun W=>c_Secret a b W
 unfold wy
 cases h:secB (a,b) with
 | true=>rw[h] at HS;exact c_way_s M A n c a b w HS
 | false=>
  rw[h] at HS
  by_cases g:(sz ((a,b):Fd):Int)≤M
  ·simp only[Bool.false_eq_true,if_false,if_pos g]
   exact c_way_y M A n c a b w HS _ HZ (decide_eq_true g)
  ·simp only[Bool.false_eq_true,if_false,if_neg g]
   exact c_way_n M A n c a b w HS _ HZ (decide_eq_false g)
theorem c_own_f{fs:List Fact}{gs:List Bx}{L:List UInt8}{k:Nat}(i:Nat)(way:Int)(fa fb:List UInt8)(w:World)(hV:EnvF w fs gs)(HR:Hid (rwF∈fs))(HM:Hid (mvF∈fs))(Ha:Hid (fa.length≤10000))(Hb:Hid (fb.length≤10000))(HK:Hid (L.length=k))(HL:Hid (fldL fa fb way=L))(h0:i=0) :
  Calls Tryz.prog 123 #[.int .i64 (i:Int),.agg #[.string ⟨fa.toArray⟩,.string ⟨fb.toArray⟩],.int .i64 way] w fun e w'=>∃A c,e = .returned (.tuple #[.slice A k c,.int .i64 0])∧Below w.heap.size w w'∧EnvF w' (bF A k L::fs) gs∧(k≤c∧(A=none→c=0)):=by
 subst h0
 have K0:=Lib.hid ((hV).boxg 27 #[.string ⟨fa.toArray⟩,.string ⟨fb.toArray⟩] w.heap.size (by simp))
 have G0:=Lib.hid ((Below.refl w.heap.size w).alloc (by simp) (.cells #[.string ⟨fa.toArray⟩,.string ⟨fb.toArray⟩] 27))
 clear hV
 go_enter Tryz.func123,Tryz.ntmps123
 go_wp2_with (first
  | go_skip
  | (refine at_load 27 (.tmp 4) (by rfl) ?_;refine wpListG_row (by rfl) 27 (.tmp 4) (by rfl) w.heap.size (by rfl) 27 #[.string ⟨fa.toArray⟩,.string ⟨fb.toArray⟩] _ (K0.out.row 0 rfl) Tryz.underlying27 (by rfl) infoc_D ?_)
  | (go_at_call 18;(with_reducible refine(p_field _ K0.out HR.out HM.out Ha.out Hb.out HL.out HK.out).mono ?_);rintro e w1 ⟨A1,c1,rfl,hb,hE,HA10⟩;have K1:=Lib.hid hE;have HA1:=Lib.hid HA10;have G1:=Lib.hid (below_step G0.out hb);clear hb hE HA10 K0 G0))
 go_ret2
 exact⟨A1,c1,rfl,G1.out,K1.out.sub (fun y hy=>hy) (by first | exact List.sublist_cons_self _ _ | exact(List.sublist_cons_self _ _).trans (List.sublist_cons_self _ _)),HA1.out⟩
theorem c_own_n{fs:List Fact}{gs:List Bx}{L:List UInt8}{k:Nat}(i:Nat)(way:Int)(fa fb:List UInt8)(w:World)(hV:EnvF w fs gs)(HR:Hid (rwF∈fs))(HM:Hid (mvF∈fs))(Ha:Hid (fa.length≤10000))(Hb:Hid (fb.length≤10000))(HK:Hid (L.length=k))(HL:Hid (nmL i fb way=L))(HE:Hid (nmE i way=0))(h0:((i:Int)==0)=false) :
  Calls Tryz.prog 123 #[.int .i64 (i:Int),.agg #[.string ⟨fa.toArray⟩,.string ⟨fb.toArray⟩],.int .i64 way] w fun e w'=>∃A c,e = .returned (.tuple #[.slice A k c,.int .i64 0])∧Below w.heap.size w w'∧EnvF w' (bF A k L::fs) gs∧(k≤c∧(A=none→c=0)):=by
 have K0:=Lib.hid ((hV).boxg 27 #[.string ⟨fa.toArray⟩,.string ⟨fb.toArray⟩] w.heap.size (by simp))
 have G0:=Lib.hid ((Below.refl w.heap.size w).alloc (by simp) (.cells #[.string ⟨fa.toArray⟩,.string ⟨fb.toArray⟩] 27))
 clear hV
 go_enter Tryz.func123,Tryz.ntmps123
 go_wp2_with (first
  | go_skip
  | (refine at_load 9 (.tmp 14) (by rfl) ?_;refine wpListG_get (by rfl) 9 (.tmp 14) (by rfl) w.heap.size 1 (by rfl) 27 #[.string ⟨fa.toArray⟩,.string ⟨fb.toArray⟩] (.string ⟨fb.toArray⟩) _ (K0.out.row 0 rfl) (by rfl) Tryz.underlying9 (by rfl) ?_)
  | (go_at_call 15;(with_reducible refine(p_named _ K0.out HR.out HM.out Hb.out HL.out HE.out HK.out).mono ?_);rintro e w1 ⟨A1,c1,rfl,hb,hE,HA10⟩;have K1:=Lib.hid hE;have HA1:=Lib.hid HA10;have G1:=Lib.hid (below_step G0.out hb);clear hb hE HA10 K0 G0))
 go_ret2
 exact⟨A1,c1,rfl,G1.out,K1.out.sub (fun y hy=>hy) (by first | exact List.sublist_cons_self _ _ | exact(List.sublist_cons_self _ _).trans (List.sublist_cons_self _ _)),HA1.out⟩
theorem p_own{fs:List Fact}{gs:List Bx}{L:List UInt8}{k:Nat}(i:Nat)(way:Int)(fa fb:List UInt8)(w:World)(hV:EnvF w fs gs)(hR:rwF∈fs)(hM:mvF∈fs)(ha:fa.length≤10000)(hb:fb.length≤10000)(hi:i<2147483648)(hL:oL i ((⟨fa.toArray⟩,⟨fb.toArray⟩):Fd) way=L)(hK:L.length=k) :
  Calls Tryz.prog 123 #[.int .i64 (i:Int),.agg #[.string ⟨fa.toArray⟩,.string ⟨fb.toArray⟩],.int .i64 way] w fun e w'=>∃A c,e = .returned (.tuple #[.slice A k c,.int .i64 0])∧Below w.heap.size w w'∧EnvF w' (bF A k L::fs) gs∧(k≤c∧(A=none→c=0)):=by
 unfold oL at hL
 rw[la_of,lb_of] at hL
 by_cases h:i=0
 ·rw[if_pos h] at hL
  exact c_own_f i way fa fb w hV (Lib.hid hR) (Lib.hid hM) (Lib.hid ha) (Lib.hid hb) (Lib.hid hK) (Lib.hid hL) h
 ·rw[if_neg h] at hL
  exact c_own_n i way fa fb w hV (Lib.hid hR) (Lib.hid hM) (Lib.hid ha) (Lib.hid hb) (Lib.hid hK) (Lib.hid hL) (Lib.hid (nmE_small h hi)) (by rw[beq_eq_false_iff_ne];omega)
end Go.Proofs.YtahiajeggbpogaaGreatDoor
