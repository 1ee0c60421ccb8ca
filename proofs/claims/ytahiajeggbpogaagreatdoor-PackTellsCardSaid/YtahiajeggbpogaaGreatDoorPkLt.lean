import Derived.Test.YtahiajeggbpogaaGreatDoorPkU
import Derived.Test.YtahiajeggbpogaaGreatDoorPkZ
set_option maxRecDepth 100000
set_option maxHeartbeats 4000000
namespace Go.Proofs.YtahiajeggbpogaaGreatDoor
open Go.RowKit Go.Shelf Px Tx Tb Up Pk
set_option linter.unusedVariables false
set_option linter.unusedSimpArgs false
attribute [local go_sem] Oper.semAt_some
namespace Pk
noncomputable def bfB(M:Int)(xs:List Fd)(f:Fd):List UInt8:=if rightB M xs then fB M xs f else []
def bfX(M:Int)(xs:List Fd)(f:Fd):List Fd:=if rightB M xs then fX M xs f else []
noncomputable def bsB(M most:Int)(xs ls:List Fd):List UInt8:=if resB M xs most then putL most (5:Nat) 32++kB most (keep most xs) ls else []
def bsX(M most:Int)(xs ls:List Fd):List Fd:=if resB M xs most then kX most (keep most xs) ls else []
def bsM(M most:Int)(xs:List Fd):Int:=if resB M xs most then most else 0
def bsE(M most:Int)(xs:List Fd):Int:=if resB M xs most then 0 else 2
def TP(fs:List Fact)(gs:List Bx)(L:List UInt8)(k:Nat)(Y:List Fd)(q:Nat)(N E:Int)(w:World)(e:Ending)(w':World):Prop:=
 ∃A1 c1 A2 c2,e = .returned (.tuple #[.slice A1 k c1,.agg #[.int .i64 N,.slice A2 q c2],.int .i64 E])∧Below w.heap.size w w'∧EnvF w' (bF A1 k L::fF A2 q Y::fs) gs∧True
theorem tl_no{fs:List Fact}{gs:List Bx}{L:List UInt8}{k:Nat}{Y:List Fd}{q:Nat}{w:World}{e:Ending}{w':World}(hV:EnvF w fs gs)(hL:[]=L)(hk:L.length=k)(hY:[]=Y)(hq:Y.length=q)(h:e = .returned (.tuple #[.slice none 0 0,.agg #[.int .i64 0,.slice none 0 0],.int .i64 2])∧Below w.heap.size w w'):TP fs gs L k Y q 0 2 w e w':=by
 subst hL hk hY hq
 obtain⟨rfl,hb⟩:=h
 exact⟨none,0,none,0,rfl,hb,((hV.on hb).fact (x:=fF none 0 []) Fs.none_ (fun k hk=>absurd hk.1 (by omega))).fact (x:=bF none 0 []) Bs.none_ (fun k hk=>absurd hk.1 (by omega)),trivial⟩
theorem tl_p{fs:List Fact}{gs:List Bx}{L:List UInt8}{k:Nat}{Y:List Fd}{q B:Nat}{N E:Int}{w:World}{e:Ending}{w':World}{t:TypeId}(h : ∃A1 c1 A2 c2,e = .returned (.tuple #[.slice A1 k c1,.agg #[.int .i64 N,.slice A2 q c2],.int .i64 E])∧Below w.heap.size w w'∧EnvF w' (bF A1 k L::oF B t (.slice A2 q c2) Y::fF A2 q Y::fs) gs∧(k≤c1∧(A1=none→c1=0))∧(A2=none→c2=0)):TP fs gs L k Y q N E w e w':=by
 obtain⟨A1,c1,A2,c2,h1,h2,h3,_⟩:=h
 exact⟨A1,c1,A2,c2,h1,h2,h3.sub (fun y hy=>by simp only[List.mem_cons] at hy ⊢;rcases hy with rfl | rfl | hy<;>simp[*]) (List.Sublist.refl _),trivial⟩
theorem tl_q{fs:List Fact}{gs:List Bx}{L:List UInt8}{k:Nat}{Y:List Fd}{q:Nat}{N E:Int}{w:World}{e:Ending}{w':World}(h : ∃A1 c1 A2 c2,e = .returned (.tuple #[.slice A1 k c1,.agg #[.int .i64 N,.slice A2 q c2],.int .i64 E])∧Below w.heap.size w w'∧EnvF w' (bF A1 k L::fF A2 q Y::fs) gs∧(k≤c1∧(A1=none→c1=0))∧(A2=none→c2=0)):TP fs gs L k Y q N E w e w':=by
 obtain⟨A1,c1,A2,c2,h1,h2,h3,_⟩:=h
 exact⟨A1,c1,A2,c2,h1,h2,h3,trivial⟩
theorem resB_of{M most:Int}{xs:List Fd}(h:resB M xs most=true):rightB M xs=true∧0≤most∧most≤4096:=by
 unfold resB okB at h
 simp only[Bool.and_eq_true,decide_eq_true_eq] at h
 exact⟨h.1,h.2.1,h.2.2⟩
end Pk
section
variable {fs:List Fact}{gs:List Bx}{A:Option Addr}{n c:Nat}{xs ls Y:List Fd}{M most N E:Int}{L:List UInt8}{k q:Nat}
theorem lp_Field(a b:ByteArray)(w:World)(hV:EnvF w fs gs)(hA:fF A n xs∈fs)(hN:A=none→c=0)(hF:full xs≤100000)(hS:stF∈fs)(hR:rwF∈fs)(hM:mvF∈fs)(hz:sz ((a,b):Fd)≤7000)(hB:bfB M xs (a,b)=L)(hY:bfX M xs (a,b)=Y)(hM':bkM M xs=N)(hE:bkE M xs=E)(hk:L.length=k)(hq:Y.length=q) :
  Calls Tryz.prog 26 #[.agg #[.int .i64 M,.slice A n c],.agg #[.string a,.string b]] w fun e w'=>TP fs gs L k Y q N E w e w':=by
 subst hM' hE
 unfold bkM bkE
 unfold bfB at hB
 unfold bfX at hY
 cases hr:rightB M xs with
 | true=>
  rw[hr] at hB hY
  exact Calls.mono (p_Field a b w hV hA hN hS hR hM hr hz hB hY hk hq) fun e w' h=>tl_p h
 | false=>
  rw[hr] at hB hY
  simp only[Bool.false_eq_true,if_false] at hB hY
  exact Calls.mono (p_Field_no a b w hV hA hN hF hr) fun e w' h=>tl_no hV hB hk hY hq h
theorem lq_Field(a b:ByteArray)(w:World)(hV:EnvF w fs gs)(hA:fF A n xs∈fs)(hN:A=none→c=0)(hF:full xs≤100000)(hz:sz ((a,b):Fd)≤7000)(hB:bfB M xs (a,b)=L)(hY:bfX M xs (a,b)=Y)(hM':bkM M xs=N)(hE:bkE M xs=E)(hk:L.length=k)(hq:Y.length=q) :
  Calls Tryz.prog 27 #[.agg #[.int .i64 M,.slice A n c],.agg #[.string a,.string b]] w fun e w'=>TP fs gs L k Y q N E w e w':=by
 subst hM' hE
 unfold bkM bkE
 unfold bfB at hB
 unfold bfX at hY
 cases hr:rightB M xs with
 | true=>
  rw[hr] at hB hY
  exact Calls.mono (q_Field a b w hV hA hN hr hz hB hY hk hq) fun e w' h=>tl_q h
 | false=>
  rw[hr] at hB hY
  simp only[Bool.false_eq_true,if_false] at hB hY
  exact Calls.mono (by
   obtain⟨fa,fb,e⟩:=fd_form (a,b)
   cases e
   exact q_Field_n M A n c xs fa fb w hV (Lib.hid hA) (Lib.hid hN) (Lib.hid (by omega)) (Lib.hid hr)) fun e w' h=>tl_no hV hB hk hY hq h
theorem lp_Block(LA:Option Addr)(ln lc:Nat)(w:World)(hV:EnvF w fs gs)(hA:fF A n xs∈fs)(hN:A=none→c=0)(hF:full xs≤100000)(hS:stF∈fs)(hR:rwF∈fs)(hM:mvF∈fs)(hL:fF LA ln ls∈fs)(hz:full ls≤7000)(hB:bkB M xs ls=L)(hY:bkX M xs ls=Y)(hM':bkM M xs=N)(hE:bkE M xs=E)(hk:L.length=k)(hq:Y.length=q) :
  Calls Tryz.prog 30 #[.agg #[.int .i64 M,.slice A n c],.slice LA ln lc] w fun e w'=>TP fs gs L k Y q N E w e w':=by
 subst hM' hE
 unfold bkM bkE
 unfold bkB at hB
 unfold bkX at hY
 cases hr:rightB M xs with
 | true=>
  rw[hr] at hB hY
  exact Calls.mono (p_Block LA ln lc w hV hA hN hS hR hM hL hr hz hB hY hk hq) fun e w' h=>tl_p h
 | false=>
  rw[hr] at hB hY
  simp only[Bool.false_eq_true,if_false] at hB hY
  exact Calls.mono (p_Block_no LA ln lc w hV hA hN hF hr) fun e w' h=>tl_no hV hB hk hY hq h
theorem lq_Block(LA:Option Addr)(ln lc:Nat)(w:World)(hV:EnvF w fs gs)(hA:fF A n xs∈fs)(hN:A=none→c=0)(hF:full xs≤100000)(hL:fF LA ln ls∈fs)(hz:full ls≤7000)(hB:bkB M xs ls=L)(hY:bkX M xs ls=Y)(hM':bkM M xs=N)(hE:bkE M xs=E)(hk:L.length=k)(hq:Y.length=q) :
  Calls Tryz.prog 31 #[.agg #[.int .i64 M,.slice A n c],.slice LA ln lc] w fun e w'=>TP fs gs L k Y q N E w e w':=by
 subst hM' hE
 unfold bkM bkE
 unfold bkB at hB
 unfold bkX at hY
 cases hr:rightB M xs with
 | true=>
  rw[hr] at hB hY
  exact Calls.mono (q_Block LA ln lc w hV hA hL hN hr hz hB hY hk hq) fun e w' h=>tl_q h
 | false=>
  rw[hr] at hB hY
  simp only[Bool.false_eq_true,if_false] at hB hY
  exact Calls.mono (q_Block_n LA ln lc w hV (Lib.hid hA) (Lib.hid (by omega)) (Lib.hid hr)) fun e w' h=>tl_no hV hB hk hY hq h
theorem lp_Sized(LA:Option Addr)(ln lc:Nat)(w:World)(hV:EnvF w fs gs)(hA:fF A n xs∈fs)(hN:A=none→c=0)(hF:full xs≤100000)(hS:stF∈fs)(hR:rwF∈fs)(hM:mvF∈fs)(hL:fF LA ln ls∈fs)(hz:full ls≤7000)(hB:bsB M most xs ls=L)(hY:bsX M most xs ls=Y)(hM':bsM M most xs=N)(hE:bsE M most xs=E)(hk:L.length=k)(hq:Y.length=q) :
  Calls Tryz.prog 32 #[.agg #[.int .i64 M,.slice A n c],.int .i64 most,.slice LA ln lc] w fun e w'=>TP fs gs L k Y q N E w e w':=by
 subst hM' hE
 unfold bsM bsE
 unfold bsB at hB
 unfold bsX at hY
 cases hr:resB M xs most with
 | true=>
  rw[hr] at hB hY
  obtain⟨r1,r2,r3⟩:=resB_of hr
  exact Calls.mono (p_Sized LA ln lc w hV hA hN hS hR hM hL r1 r2 r3 hz hB hY hk hq) fun e w' h=>tl_p h
 | false=>
  rw[hr] at hB hY
  simp only[Bool.false_eq_true,if_false] at hB hY
  exact Calls.mono (p_Sized_no LA ln lc w hV hA hN hM hF hr) fun e w' h=>tl_no hV hB hk hY hq h
theorem lq_Sized(LA:Option Addr)(ln lc:Nat)(w:World)(hV:EnvF w fs gs)(hA:fF A n xs∈fs)(hN:A=none→c=0)(hF:full xs≤100000)(hL:fF LA ln ls∈fs)(hz:full ls≤7000)(hB:bsB M most xs ls=L)(hY:bsX M most xs ls=Y)(hM':bsM M most xs=N)(hE:bsE M most xs=E)(hk:L.length=k)(hq:Y.length=q) :
  Calls Tryz.prog 33 #[.agg #[.int .i64 M,.slice A n c],.int .i64 most,.slice LA ln lc] w fun e w'=>TP fs gs L k Y q N E w e w':=by
 subst hM' hE
 unfold bsM bsE
 unfold bsB at hB
 unfold bsX at hY
 cases hr:resB M xs most with
 | true=>
  rw[hr] at hB hY
  obtain⟨r1,r2,r3⟩:=resB_of hr
  obtain⟨mn,hmn⟩ : ∃mn:Nat,most=mn:=⟨most.toNat,by omega⟩
  have g1:=kB_len most ls (keep most xs) (by omega)
  have g2:=putL_len most (5:Nat) 32
  exact Calls.mono (q_Sized_y (N:=0) (P:=putL most (5:Nat) 32) (X2:=keep most xs) (L1:=kB most (keep most xs) ls) LA ln lc w hV (Lib.hid hA) (Lib.hid hN) (Lib.hid hF) (Lib.hid hL) (Lib.hid (if_pos hr)) (Lib.hid (if_pos hr)) (Lib.hid (if_pos hr)) (Lib.hid rfl) (Lib.hid rfl) (Lib.hid (by rw[hmn];exact putE_small (by omega) (by omega))) (Lib.hid rfl) (Lib.hid (right_of r2 r3 (keep_full _ r2))) (Lib.hid hz) (Lib.hid rfl) (Lib.hid hY) (Lib.hid rfl) (Lib.hid hq) (Lib.hid (by omega)) (Lib.hid hB) (Lib.hid hk)) fun e w' h=>tl_q h
 | false=>
  rw[hr] at hB hY
  simp only[Bool.false_eq_true,if_false] at hB hY
  exact Calls.mono (q_Sized_n LA ln lc w hV (Lib.hid hA) (Lib.hid hN) (Lib.hid hF) (Lib.hid (show resM M xs most=_ from rfl)) (Lib.hid (by unfold resE;rw[hr];rfl)) (Lib.hid rfl) (Lib.hid rfl)) fun e w' h=>tl_no hV hB hk hY hq h
theorem lp_Secret(a b:ByteArray)(w:World) :
  Calls Tryz.prog 34 #[.agg #[.string a,.string b]] w fun e w'=>e = .returned (.bool (secB (a,b)))∧Below w.heap.size w w':=c_Secret a b w
end
theorem pt_g(M most:Int)(A:Option Addr)(n c:Nat)(xs:List Fd)(fa fb:List UInt8)(LA:Option Addr)(ln lc:Nat)(ls:List Fd)(w:World)(hV:EnvF w [fF LA ln ls,fF A n xs,stF,rwF,mvF] [])(HG:Hid (∀w0:World,Fs w0 w0.heap.size A n xs→Fs w0 w0.heap.size LA ln ls→Calls Tryz.prog 23 #[.agg #[.int .i64 M,.slice A n c],.slice LA ln lc] w0 fun e w'=>e = .returned (.bool true)∧Below w0.heap.size w0 w')) :
  Calls Tryz.prog 4 #[.agg #[.int .i64 M,.slice A n c],.agg #[.string ⟨fa.toArray⟩,.string ⟨fb.toArray⟩],.int .i64 most,.slice LA ln lc] w fun e w'=>e = .returned (.bool true)∧Below w.heap.size w w':=by
 have K0:=Lib.hid (((hV).boxg 24 #[.int .i64 M,.slice A n c] w.heap.size (by simp)).boxg 27 #[.string ⟨fa.toArray⟩,.string ⟨fb.toArray⟩] (w.heap.size+1) (by simp))
 have G0:=Lib.hid (((Below.refl w.heap.size w).alloc (by simp) (.cells #[.int .i64 M,.slice A n c] 24)).alloc (by simp) (.cells #[.string ⟨fa.toArray⟩,.string ⟨fb.toArray⟩] 27))
 clear hV
 go_enter Tryz.func4,Tryz.ntmps4
 go_wp2_with (first
  | go_skip
  | (refine at_load 24 (.tmp 4) (by rfl) ?_;refine wpListG_row (by rfl) 24 (.tmp 4) (by rfl) w.heap.size (by rfl) 24 #[.int .i64 M,.slice A n c] _ (K0.out.row 1 rfl) Tryz.underlying24 (by rfl) infoc_T ?_)
  | (go_at_call 23;(with_reducible refine(HG.out _ (K0.out.fs (A:=A) (n:=n) (xs:=xs) (by simp)) (K0.out.fs (A:=LA) (n:=ln) (xs:=ls) (by simp))).mono ?_);rintro e w1 ⟨rfl,hb⟩;have K1:=Lib.hid (K0.out.on hb);have G1:=Lib.hid (below_step G0.out hb);clear hb K0 G0)
  | (go_at_call 25;(with_reducible refine(wakes11 _ K1.out (by simp) (by simp) (by simp)).mono ?_);rintro e w2 ⟨rfl,hb⟩;have K2:=Lib.hid (K1.out.on hb);have G2:=Lib.hid (below_step G1.out hb);clear hb K1 G1))
 go_ret
 exact⟨rfl,G2.out⟩
theorem pt_f(M most:Int)(A:Option Addr)(n c:Nat)(xs:List Fd)(fa fb:List UInt8)(LA:Option Addr)(ln lc:Nat)(ls:List Fd)(w:World)(hV:EnvF w [fF LA ln ls,fF A n xs,stF,rwF,mvF] [])(HG:Hid (∀w0:World,Fs w0 w0.heap.size A n xs→Fs w0 w0.heap.size LA ln ls→Calls Tryz.prog 23 #[.agg #[.int .i64 M,.slice A n c],.slice LA ln lc] w0 fun e w'=>e = .returned (.bool false)∧Below w0.heap.size w0 w'))(HG2:Hid (∀(A0:Option Addr) (w0:World),Fs w0 w0.heap.size A0 1 [((⟨fa.toArray⟩,⟨fb.toArray⟩):Fd)]→Calls Tryz.prog 24 #[.slice A0 1 1] w0 fun e w'=>e = .returned (.bool true)∧Below w0.heap.size w0 w')) :
  Calls Tryz.prog 4 #[.agg #[.int .i64 M,.slice A n c],.agg #[.string ⟨fa.toArray⟩,.string ⟨fb.toArray⟩],.int .i64 most,.slice LA ln lc] w fun e w'=>e = .returned (.bool true)∧Below w.heap.size w w':=by
 have K0:=Lib.hid (((hV).boxg 24 #[.int .i64 M,.slice A n c] w.heap.size (by simp)).boxg 27 #[.string ⟨fa.toArray⟩,.string ⟨fb.toArray⟩] (w.heap.size+1) (by simp))
 have G0:=Lib.hid (((Below.refl w.heap.size w).alloc (by simp) (.cells #[.int .i64 M,.slice A n c] 24)).alloc (by simp) (.cells #[.string ⟨fa.toArray⟩,.string ⟨fb.toArray⟩] 27))
 clear hV
 go_enter Tryz.func4,Tryz.ntmps4
 go_wp2_with (first
  | go_skip
  | (refine at_load 24 (.tmp 4) (by rfl) ?_;refine wpListG_row (by rfl) 24 (.tmp 4) (by rfl) w.heap.size (by rfl) 24 #[.int .i64 M,.slice A n c] _ (K0.out.row 1 rfl) Tryz.underlying24 (by rfl) infoc_T ?_)
  | (go_at_call 23;(with_reducible refine(HG.out _ (K0.out.fs (A:=A) (n:=n) (xs:=xs) (by simp)) (K0.out.fs (A:=LA) (n:=ln) (xs:=ls) (by simp))).mono ?_);rintro e w1 ⟨rfl,hb⟩;have K1:=Lib.hid (K0.out.on hb);have G1:=Lib.hid (below_step G0.out hb);clear hb K0 G0)
  | (refine at_load 27 (.tmp 5) (by rfl) ?_;refine wpListG_row (by rfl) 27 (.tmp 5) (by rfl) (w.heap.size+1) (by rfl) 27 #[.string ⟨fa.toArray⟩,.string ⟨fb.toArray⟩] _ (K1.out.row 0 rfl) Tryz.underlying27 (by rfl) infoc_D ?_)
  | (go_at_call 24;have K1l:=Lib.hid (K1.out.litf 27 [((⟨fa.toArray⟩,⟨fb.toArray⟩):Fd)] #[.string ⟨fa.toArray⟩,.string ⟨fb.toArray⟩] (by simp[fdc]) 1 rfl w1.heap.size rfl);have G1l:=Lib.hid (G1.out.alloc G1.out.size (.cells #[.string ⟨fa.toArray⟩,.string ⟨fb.toArray⟩] 27));(with_reducible refine(HG2.out (some ⟨w1.heap.size,0,none⟩) _ (K1l.out.fs (A:=(some ⟨w1.heap.size,0,none⟩)) (n:=1) (xs:=[((⟨fa.toArray⟩,⟨fb.toArray⟩):Fd)]) (by simp))).mono ?_);rintro e w2 ⟨rfl,hb⟩;have K2:=Lib.hid (K1l.out.on hb);have G2:=Lib.hid (below_step G1l.out hb);clear hb K1 G1 K1l G1l)
  | (go_at_call 25;(with_reducible refine(wakes11 _ K2.out (by simp) (by simp) (by simp)).mono ?_);rintro e w3 ⟨rfl,hb⟩;have K3:=Lib.hid (K2.out.on hb);have G3:=Lib.hid (below_step G2.out hb);clear hb K2 G2))
 go_ret
 exact⟨rfl,G3.out⟩
theorem pt_main(M most:Int)(A:Option Addr)(n c:Nat)(xs:List Fd)(fa fb:List UInt8)(LA:Option Addr)(ln lc:Nat)(ls:List Fd)(w:World)(hV:EnvF w [fF LA ln ls,fF A n xs,stF,rwF,mvF] [])(HG:Hid (∀w0:World,Fs w0 w0.heap.size A n xs→Fs w0 w0.heap.size LA ln ls→Calls Tryz.prog 23 #[.agg #[.int .i64 M,.slice A n c],.slice LA ln lc] w0 fun e w'=>e = .returned (.bool false)∧Below w0.heap.size w0 w'))(HG2:Hid (∀(A0:Option Addr) (w0:World),Fs w0 w0.heap.size A0 1 [((⟨fa.toArray⟩,⟨fb.toArray⟩):Fd)]→Calls Tryz.prog 24 #[.slice A0 1 1] w0 fun e w'=>e = .returned (.bool false)∧Below w0.heap.size w0 w')){L1 L2 L3:List UInt8}{Y1 Y2 Y3:List Fd}{N1 N2 N3 E1 E2 E3:Int}{k1 k2 k3 q1 q2 q3:Nat}(HN:Hid (A=none→c=0))(HF:Hid (full xs≤100000))(Hz:Hid (sz ((⟨fa.toArray⟩,⟨fb.toArray⟩):Fd)≤7000))(Hlz:Hid (full ls≤7000))(h1:Hid (bfB M xs (⟨fa.toArray⟩,⟨fb.toArray⟩)=L1∧bfX M xs (⟨fa.toArray⟩,⟨fb.toArray⟩)=Y1∧bkM M xs=N1∧bkE M xs=E1∧L1.length=k1∧Y1.length=q1))(hbq1:Hid (q1≤1000000))(hsq1:Hid (sameB N1 Y1 N1 Y1=true))(h2:Hid (bkB M xs ls=L2∧bkX M xs ls=Y2∧bkM M xs=N2∧bkE M xs=E2∧L2.length=k2∧Y2.length=q2))(hbq2:Hid (q2≤1000000))(hsq2:Hid (sameB N2 Y2 N2 Y2=true))(h3:Hid (bsB M most xs ls=L3∧bsX M most xs ls=Y3∧bsM M most xs=N3∧bsE M most xs=E3∧L3.length=k3∧Y3.length=q3))(hbq3:Hid (q3≤1000000))(hsq3:Hid (sameB N3 Y3 N3 Y3=true)) :
  Calls Tryz.prog 4 #[.agg #[.int .i64 M,.slice A n c],.agg #[.string ⟨fa.toArray⟩,.string ⟨fb.toArray⟩],.int .i64 most,.slice LA ln lc] w fun e w'=>e = .returned (.bool true)∧Below w.heap.size w w':=by
 have K0:=Lib.hid (((hV).boxg 24 #[.int .i64 M,.slice A n c] w.heap.size (by simp)).boxg 27 #[.string ⟨fa.toArray⟩,.string ⟨fb.toArray⟩] (w.heap.size+1) (by simp))
 have G0:=Lib.hid (((Below.refl w.heap.size w).alloc (by simp) (.cells #[.int .i64 M,.slice A n c] 24)).alloc (by simp) (.cells #[.string ⟨fa.toArray⟩,.string ⟨fb.toArray⟩] 27))
 clear hV
 go_enter Tryz.func4,Tryz.ntmps4
 go_wp2_with (first
  | go_skip
  | (refine at_load 24 (.tmp 4) (by rfl) ?_;refine wpListG_row (by rfl) 24 (.tmp 4) (by rfl) w.heap.size (by rfl) 24 #[.int .i64 M,.slice A n c] _ (K0.out.row 1 rfl) Tryz.underlying24 (by rfl) infoc_T ?_)
  | (go_at_call 23;(with_reducible refine(HG.out _ (K0.out.fs (A:=A) (n:=n) (xs:=xs) (by simp)) (K0.out.fs (A:=LA) (n:=ln) (xs:=ls) (by simp))).mono ?_);rintro e w1 ⟨rfl,hb⟩;have K1:=Lib.hid (K0.out.on hb);have G1:=Lib.hid (below_step G0.out hb);clear hb K0 G0)
  | (refine at_load 27 (.tmp 5) (by rfl) ?_;refine wpListG_row (by rfl) 27 (.tmp 5) (by rfl) (w.heap.size+1) (by rfl) 27 #[.string ⟨fa.toArray⟩,.string ⟨fb.toArray⟩] _ (K1.out.row 0 rfl) Tryz.underlying27 (by rfl) infoc_D ?_)
  | (go_at_call 24;have K1l:=Lib.hid (K1.out.litf 27 [((⟨fa.toArray⟩,⟨fb.toArray⟩):Fd)] #[.string ⟨fa.toArray⟩,.string ⟨fb.toArray⟩] (by simp[fdc]) 1 rfl w1.heap.size rfl);have G1l:=Lib.hid (G1.out.alloc G1.out.size (.cells #[.string ⟨fa.toArray⟩,.string ⟨fb.toArray⟩] 27));(with_reducible refine(HG2.out (some ⟨w1.heap.size,0,none⟩) _ (K1l.out.fs (A:=(some ⟨w1.heap.size,0,none⟩)) (n:=1) (xs:=[((⟨fa.toArray⟩,⟨fb.toArray⟩):Fd)]) (by simp))).mono ?_);rintro e w2 ⟨rfl,hb⟩;have K2:=Lib.hid (K1l.out.on hb);have G2:=Lib.hid (below_step G1l.out hb);clear hb K1 G1 K1l G1l)
  | (refine at_load 24 (.tmp 4) (by rfl) ?_;refine wpListG_row (by rfl) 24 (.tmp 4) (by rfl) w.heap.size (by rfl) 24 #[.int .i64 M,.slice A n c] _ (K2.out.row 1 rfl) Tryz.underlying24 (by rfl) infoc_T ?_)
  | (refine at_load 27 (.tmp 5) (by rfl) ?_;refine wpListG_row (by rfl) 27 (.tmp 5) (by rfl) (w.heap.size+1) (by rfl) 27 #[.string ⟨fa.toArray⟩,.string ⟨fb.toArray⟩] _ (K2.out.row 0 rfl) Tryz.underlying27 (by rfl) infoc_D ?_)
  | (go_at_call 26;(with_reducible refine(lp_Field (A:=A) (n:=n) (c:=c) (xs:=xs) _ _ _ K2.out (by simp) HN.out HF.out (by simp) (by simp) (by simp) Hz.out h1.out.1 h1.out.2.1 h1.out.2.2.1 h1.out.2.2.2.1 h1.out.2.2.2.2.1 h1.out.2.2.2.2.2).mono ?_);rintro e w3 ⟨A1,c1,B1,d1,rfl,hb,hE,HA10⟩;have K3:=Lib.hid hE;have HA1:=Lib.hid HA10;have G3:=Lib.hid (below_step G2.out hb);clear hb hE HA10 K2 G2;have K3b:=Lib.hid (K3.out.boxg 24 #[.int .i64 0,.slice none 0 0] w3.heap.size rfl);have hz3:w.heap.size≤w3.heap.size:=G3.out.size;have G3b:=Lib.hid (G3.out.alloc hz3 (.cells #[.int .i64 0,.slice none 0 0] 24));clear K3 G3)
  | (refine at_store 24 (.tmp 10) (.tmp 29) (by rfl) ?_;refine wpList_put (by rfl) 24 (.tmp 10) (.tmp 29) (by rfl) w3.heap.size 0 (.agg #[.int .i64 N1,.slice B1 q1 d1]) (by rfl) (by rfl) 24 #[.int .i64 0,.slice none 0 0] #[.int .i64 N1,.slice B1 q1 d1] (K3b.out.row 0 rfl) (by simp[Value.cells]) (by kernel_rfl) infoc_T (by kernel_rfl) ?_;intro w4 hrow hoth hz hbl;have K4:=Lib.hid (K3b.out.turn 0 rfl hrow hoth hz);have G4:=Lib.hid (hbl _ _ (by omega) G3b.out);clear hrow hoth hz hbl K3b G3b)
  | (refine at_load 24 (.tmp 4) (by rfl) ?_;refine wpListG_row (by rfl) 24 (.tmp 4) (by rfl) w.heap.size (by rfl) 24 #[.int .i64 M,.slice A n c] _ (K4.out.row 2 rfl) Tryz.underlying24 (by rfl) infoc_T ?_)
  | (refine at_load 27 (.tmp 5) (by rfl) ?_;refine wpListG_row (by rfl) 27 (.tmp 5) (by rfl) (w.heap.size+1) (by rfl) 27 #[.string ⟨fa.toArray⟩,.string ⟨fb.toArray⟩] _ (K4.out.row 1 rfl) Tryz.underlying27 (by rfl) infoc_D ?_)
  | (go_at_call 27;(with_reducible refine(lq_Field (A:=A) (n:=n) (c:=c) (xs:=xs) _ _ _ K4.out (by simp) HN.out HF.out Hz.out h1.out.1 h1.out.2.1 h1.out.2.2.1 h1.out.2.2.2.1 h1.out.2.2.2.2.1 h1.out.2.2.2.2.2).mono ?_);rintro e w5 ⟨A2,c2,B2,d2,rfl,hb,hE,HA20⟩;have K5:=Lib.hid hE;have HA2:=Lib.hid HA20;have G5:=Lib.hid (below_step G4.out hb);clear hb hE HA20 K4 G4;have K5b:=Lib.hid (K5.out.boxg 24 #[.int .i64 0,.slice none 0 0] w5.heap.size rfl);have hz5:w.heap.size≤w5.heap.size:=G5.out.size;have G5b:=Lib.hid (G5.out.alloc hz5 (.cells #[.int .i64 0,.slice none 0 0] 24));clear K5 G5)
  | (refine at_store 24 (.tmp 13) (.tmp 36) (by rfl) ?_;refine wpList_put (by rfl) 24 (.tmp 13) (.tmp 36) (by rfl) w5.heap.size 0 (.agg #[.int .i64 N1,.slice B2 q1 d2]) (by rfl) (by rfl) 24 #[.int .i64 0,.slice none 0 0] #[.int .i64 N1,.slice B2 q1 d2] (K5b.out.row 0 rfl) (by simp[Value.cells]) (by kernel_rfl) infoc_T (by kernel_rfl) ?_;intro w6 hrow hoth hz hbl;have K6:=Lib.hid (K5b.out.turn 0 rfl hrow hoth hz);have G6:=Lib.hid (hbl _ _ (by omega) G5b.out);clear hrow hoth hz hbl K5b G5b)
  | (go_at_call 28;(with_reducible refine(p_bsame (A:=A1) (A':=A2) (n:=k1) (n':=k1) (xs:=L1) (ys:=L1) (b:=true) _ K6.out (by simp) (by simp) (by simp)).mono ?_);rintro e w7 ⟨rfl,hb⟩;have K7:=Lib.hid (K6.out.on hb);have G7:=Lib.hid (below_step G6.out hb);clear hb K6 G6)
  | (refine at_load 24 (.tmp 10) (by rfl) ?_;refine wpListG_row (by rfl) 24 (.tmp 10) (by rfl) w3.heap.size (by rfl) 24 #[.int .i64 N1,.slice B1 q1 d1] _ (K7.out.row 1 rfl) Tryz.underlying24 (by rfl) infoc_T ?_)
  | (refine at_load 24 (.tmp 13) (by rfl) ?_;refine wpListG_row (by rfl) 24 (.tmp 13) (by rfl) w5.heap.size (by rfl) 24 #[.int .i64 N1,.slice B2 q1 d2] _ (K7.out.row 0 rfl) Tryz.underlying24 (by rfl) infoc_T ?_)
  | (go_at_call 29;(with_reducible refine(p_tsame (A:=B1) (A':=B2) (n:=q1) (n':=q1) (xs:=Y1) (ys:=Y1) (b:=true) _ K7.out (by simp) (by simp) hbq1.out hsq1.out).mono ?_);rintro e w8 ⟨rfl,hb⟩;have K8:=Lib.hid (K7.out.on hb);have G8:=Lib.hid (below_step G7.out hb);clear hb K7 G7)
  | (refine at_load 24 (.tmp 4) (by rfl) ?_;refine wpListG_row (by rfl) 24 (.tmp 4) (by rfl) w.heap.size (by rfl) 24 #[.int .i64 M,.slice A n c] _ (K8.out.row 3 rfl) Tryz.underlying24 (by rfl) infoc_T ?_)
  | (go_at_call 30;(with_reducible refine(lp_Block (A:=A) (n:=n) (c:=c) (xs:=xs) (ls:=ls) LA ln lc _ K8.out (by simp) HN.out HF.out (by simp) (by simp) (by simp) (by simp) Hlz.out h2.out.1 h2.out.2.1 h2.out.2.2.1 h2.out.2.2.2.1 h2.out.2.2.2.2.1 h2.out.2.2.2.2.2).mono ?_);rintro e w9 ⟨A3,c3,B3,d3,rfl,hb,hE,HA30⟩;have K9:=Lib.hid hE;have HA3:=Lib.hid HA30;have G9:=Lib.hid (below_step G8.out hb);clear hb hE HA30 K8 G8)
  | (refine at_store 24 (.tmp 10) (.tmp 58) (by rfl) ?_;refine wpList_put (by rfl) 24 (.tmp 10) (.tmp 58) (by rfl) w3.heap.size 0 (.agg #[.int .i64 N2,.slice B3 q2 d3]) (by rfl) (by rfl) 24 #[.int .i64 N1,.slice B1 q1 d1] #[.int .i64 N2,.slice B3 q2 d3] (K9.out.row 1 rfl) (by simp[Value.cells]) (by kernel_rfl) infoc_T (by kernel_rfl) ?_;intro w10 hrow hoth hz hbl;have K10:=Lib.hid (K9.out.turn 1 rfl hrow hoth hz);have G10:=Lib.hid (hbl _ _ (by omega) G9.out);clear hrow hoth hz hbl K9 G9)
  | (refine at_load 24 (.tmp 4) (by rfl) ?_;refine wpListG_row (by rfl) 24 (.tmp 4) (by rfl) w.heap.size (by rfl) 24 #[.int .i64 M,.slice A n c] _ (K10.out.row 3 rfl) Tryz.underlying24 (by rfl) infoc_T ?_)
  | (go_at_call 31;(with_reducible refine(lq_Block (A:=A) (n:=n) (c:=c) (xs:=xs) (ls:=ls) LA ln lc _ K10.out (by simp) HN.out HF.out (by simp) Hlz.out h2.out.1 h2.out.2.1 h2.out.2.2.1 h2.out.2.2.2.1 h2.out.2.2.2.2.1 h2.out.2.2.2.2.2).mono ?_);rintro e w11 ⟨A4,c4,B4,d4,rfl,hb,hE,HA40⟩;have K11:=Lib.hid hE;have HA4:=Lib.hid HA40;have G11:=Lib.hid (below_step G10.out hb);clear hb hE HA40 K10 G10)
  | (refine at_store 24 (.tmp 13) (.tmp 65) (by rfl) ?_;refine wpList_put (by rfl) 24 (.tmp 13) (.tmp 65) (by rfl) w5.heap.size 0 (.agg #[.int .i64 N2,.slice B4 q2 d4]) (by rfl) (by rfl) 24 #[.int .i64 N1,.slice B2 q1 d2] #[.int .i64 N2,.slice B4 q2 d4] (K11.out.row 0 rfl) (by simp[Value.cells]) (by kernel_rfl) infoc_T (by kernel_rfl) ?_;intro w12 hrow hoth hz hbl;have K12:=Lib.hid (K11.out.turn 0 rfl hrow hoth hz);have G12:=Lib.hid (hbl _ _ (by omega) G11.out);clear hrow hoth hz hbl K11 G11)
  | (go_at_call 28;(with_reducible refine(p_bsame (A:=A3) (A':=A4) (n:=k2) (n':=k2) (xs:=L2) (ys:=L2) (b:=true) _ K12.out (by simp) (by simp) (by simp)).mono ?_);rintro e w13 ⟨rfl,hb⟩;have K13:=Lib.hid (K12.out.on hb);have G13:=Lib.hid (below_step G12.out hb);clear hb K12 G12)
  | (refine at_load 24 (.tmp 10) (by rfl) ?_;refine wpListG_row (by rfl) 24 (.tmp 10) (by rfl) w3.heap.size (by rfl) 24 #[.int .i64 N2,.slice B3 q2 d3] _ (K13.out.row 1 rfl) Tryz.underlying24 (by rfl) infoc_T ?_)
  | (refine at_load 24 (.tmp 13) (by rfl) ?_;refine wpListG_row (by rfl) 24 (.tmp 13) (by rfl) w5.heap.size (by rfl) 24 #[.int .i64 N2,.slice B4 q2 d4] _ (K13.out.row 0 rfl) Tryz.underlying24 (by rfl) infoc_T ?_)
  | (go_at_call 29;(with_reducible refine(p_tsame (A:=B3) (A':=B4) (n:=q2) (n':=q2) (xs:=Y2) (ys:=Y2) (b:=true) _ K13.out (by simp) (by simp) hbq2.out hsq2.out).mono ?_);rintro e w14 ⟨rfl,hb⟩;have K14:=Lib.hid (K13.out.on hb);have G14:=Lib.hid (below_step G13.out hb);clear hb K13 G13)
  | (refine at_load 24 (.tmp 4) (by rfl) ?_;refine wpListG_row (by rfl) 24 (.tmp 4) (by rfl) w.heap.size (by rfl) 24 #[.int .i64 M,.slice A n c] _ (K14.out.row 3 rfl) Tryz.underlying24 (by rfl) infoc_T ?_)
  | (go_at_call 32;(with_reducible refine(lp_Sized (A:=A) (n:=n) (c:=c) (xs:=xs) (ls:=ls) LA ln lc _ K14.out (by simp) HN.out HF.out (by simp) (by simp) (by simp) (by simp) Hlz.out h3.out.1 h3.out.2.1 h3.out.2.2.1 h3.out.2.2.2.1 h3.out.2.2.2.2.1 h3.out.2.2.2.2.2).mono ?_);rintro e w15 ⟨A5,c5,B5,d5,rfl,hb,hE,HA50⟩;have K15:=Lib.hid hE;have HA5:=Lib.hid HA50;have G15:=Lib.hid (below_step G14.out hb);clear hb hE HA50 K14 G14)
  | (refine at_store 24 (.tmp 10) (.tmp 88) (by rfl) ?_;refine wpList_put (by rfl) 24 (.tmp 10) (.tmp 88) (by rfl) w3.heap.size 0 (.agg #[.int .i64 N3,.slice B5 q3 d5]) (by rfl) (by rfl) 24 #[.int .i64 N2,.slice B3 q2 d3] #[.int .i64 N3,.slice B5 q3 d5] (K15.out.row 1 rfl) (by simp[Value.cells]) (by kernel_rfl) infoc_T (by kernel_rfl) ?_;intro w16 hrow hoth hz hbl;have K16:=Lib.hid (K15.out.turn 1 rfl hrow hoth hz);have G16:=Lib.hid (hbl _ _ (by omega) G15.out);clear hrow hoth hz hbl K15 G15)
  | (refine at_load 24 (.tmp 4) (by rfl) ?_;refine wpListG_row (by rfl) 24 (.tmp 4) (by rfl) w.heap.size (by rfl) 24 #[.int .i64 M,.slice A n c] _ (K16.out.row 3 rfl) Tryz.underlying24 (by rfl) infoc_T ?_)
  | (go_at_call 33;(with_reducible refine(lq_Sized (A:=A) (n:=n) (c:=c) (xs:=xs) (ls:=ls) LA ln lc _ K16.out (by simp) HN.out HF.out (by simp) Hlz.out h3.out.1 h3.out.2.1 h3.out.2.2.1 h3.out.2.2.2.1 h3.out.2.2.2.2.1 h3.out.2.2.2.2.2).mono ?_);rintro e w17 ⟨A6,c6,B6,d6,rfl,hb,hE,HA60⟩;have K17:=Lib.hid hE;have HA6:=Lib.hid HA60;have G17:=Lib.hid (below_step G16.out hb);clear hb hE HA60 K16 G16)
  | (refine at_store 24 (.tmp 13) (.tmp 96) (by rfl) ?_;refine wpList_put (by rfl) 24 (.tmp 13) (.tmp 96) (by rfl) w5.heap.size 0 (.agg #[.int .i64 N3,.slice B6 q3 d6]) (by rfl) (by rfl) 24 #[.int .i64 N2,.slice B4 q2 d4] #[.int .i64 N3,.slice B6 q3 d6] (K17.out.row 0 rfl) (by simp[Value.cells]) (by kernel_rfl) infoc_T (by kernel_rfl) ?_;intro w18 hrow hoth hz hbl;have K18:=Lib.hid (K17.out.turn 0 rfl hrow hoth hz);have G18:=Lib.hid (hbl _ _ (by omega) G17.out);clear hrow hoth hz hbl K17 G17))
 have HC:=Lib.hid K18.out.drew
 have BL:=Lib.hid G18.out.drew
 have SH0:Hid ((w18.cell? ⟨w5.heap.size,0,none⟩=some (.int .i64 N3)∧w18.cell? ⟨w5.heap.size,1,none⟩=some (.slice B6 q3 d6))∧(w18.cell? ⟨w3.heap.size,0,none⟩=some (.int .i64 N3)∧w18.cell? ⟨w3.heap.size,1,none⟩=some (.slice B5 q3 d5))∧(w18.cell? ⟨(w.heap.size+1),0,none⟩=some (.string ⟨fa.toArray⟩)∧w18.cell? ⟨(w.heap.size+1),1,none⟩=some (.string ⟨fb.toArray⟩))):=Lib.hid ⟨cells2_row (K18.out.row 0 rfl),cells2_row (K18.out.row 1 rfl),cells2_row (K18.out.row 2 rfl)⟩
 have SH:Hid ((w18.drew.cell? ⟨w5.heap.size,0,none⟩=some (.int .i64 N3)∧w18.drew.cell? ⟨w5.heap.size,1,none⟩=some (.slice B6 q3 d6))∧(w18.drew.cell? ⟨w3.heap.size,0,none⟩=some (.int .i64 N3)∧w18.drew.cell? ⟨w3.heap.size,1,none⟩=some (.slice B5 q3 d5))∧(w18.drew.cell? ⟨(w.heap.size+1),0,none⟩=some (.string ⟨fa.toArray⟩)∧w18.drew.cell? ⟨(w.heap.size+1),1,none⟩=some (.string ⟨fb.toArray⟩))):=SH0
 clear K18 G18
 go_region_held3 (fun W'=>(W'.cell? ⟨w5.heap.size,0,none⟩=some (.int .i64 N3)∧W'.cell? ⟨w5.heap.size,1,none⟩=some (.slice B6 q3 d6))∧(W'.cell? ⟨w3.heap.size,0,none⟩=some (.int .i64 N3)∧W'.cell? ⟨w3.heap.size,1,none⟩=some (.slice B5 q3 d5))∧(W'.cell? ⟨(w.heap.size+1),0,none⟩=some (.string ⟨fa.toArray⟩)∧W'.cell? ⟨(w.heap.size+1),1,none⟩=some (.string ⟨fb.toArray⟩))) (first | with_reducible exact SH.out | with_reducible exact SH0.out)
  (first
   | (go_at_call 28;(with_reducible refine(p_bsame (A:=A5) (A':=A6) (n:=k3) (n':=k3) (xs:=L3) (ys:=L3) (b:=true) _ HC.out (by simp) (by simp) (by simp)).mono ?_);rintro e1 w99 ⟨rfl,hb⟩;replace BL:=Lib.hid (below_step BL.out hb);replace HC:=Lib.hid (HC.out.on hb);replace SH:Hid ((w99.cell? ⟨w5.heap.size,0,none⟩=some (.int .i64 N3)∧w99.cell? ⟨w5.heap.size,1,none⟩=some (.slice B6 q3 d6))∧(w99.cell? ⟨w3.heap.size,0,none⟩=some (.int .i64 N3)∧w99.cell? ⟨w3.heap.size,1,none⟩=some (.slice B5 q3 d5))∧(w99.cell? ⟨(w.heap.size+1),0,none⟩=some (.string ⟨fa.toArray⟩)∧w99.cell? ⟨(w.heap.size+1),1,none⟩=some (.string ⟨fb.toArray⟩))):=Lib.hid ⟨cells2_row (HC.out.row 0 rfl),cells2_row (HC.out.row 1 rfl),cells2_row (HC.out.row 2 rfl)⟩;clear hb)
   | (go_at_call 29;(with_reducible refine(p_tsame (A:=B5) (A':=B6) (n:=q3) (n':=q3) (xs:=Y3) (ys:=Y3) (b:=true) _ HC.out (by simp) (by simp) hbq3.out hsq3.out).mono ?_);rintro e1 w99 ⟨rfl,hb⟩;replace BL:=Lib.hid (below_step BL.out hb);replace HC:=Lib.hid (HC.out.on hb);replace SH:Hid ((w99.cell? ⟨w5.heap.size,0,none⟩=some (.int .i64 N3)∧w99.cell? ⟨w5.heap.size,1,none⟩=some (.slice B6 q3 d6))∧(w99.cell? ⟨w3.heap.size,0,none⟩=some (.int .i64 N3)∧w99.cell? ⟨w3.heap.size,1,none⟩=some (.slice B5 q3 d5))∧(w99.cell? ⟨(w.heap.size+1),0,none⟩=some (.string ⟨fa.toArray⟩)∧w99.cell? ⟨(w.heap.size+1),1,none⟩=some (.string ⟨fb.toArray⟩))):=Lib.hid ⟨cells2_row (HC.out.row 0 rfl),cells2_row (HC.out.row 1 rfl),cells2_row (HC.out.row 2 rfl)⟩;clear hb)
   | (go_at_call 34;(with_reducible refine(lp_Secret _ _ _).mono ?_);rintro e1 w99 ⟨rfl,hb⟩;replace BL:=Lib.hid (below_step BL.out hb);replace HC:=Lib.hid (HC.out.on hb);replace SH:Hid ((w99.cell? ⟨w5.heap.size,0,none⟩=some (.int .i64 N3)∧w99.cell? ⟨w5.heap.size,1,none⟩=some (.slice B6 q3 d6))∧(w99.cell? ⟨w3.heap.size,0,none⟩=some (.int .i64 N3)∧w99.cell? ⟨w3.heap.size,1,none⟩=some (.slice B5 q3 d5))∧(w99.cell? ⟨(w.heap.size+1),0,none⟩=some (.string ⟨fa.toArray⟩)∧w99.cell? ⟨(w.heap.size+1),1,none⟩=some (.string ⟨fb.toArray⟩))):=Lib.hid ⟨cells2_row (HC.out.row 0 rfl),cells2_row (HC.out.row 1 rfl),cells2_row (HC.out.row 2 rfl)⟩;clear hb)
   | (go_at_call 35;(with_reducible refine(r_Secret _ _ _).mono ?_);rintro e1 w99 ⟨rfl,hb⟩;replace BL:=Lib.hid (below_step BL.out hb);replace HC:=Lib.hid (HC.out.on hb);replace SH:Hid ((w99.cell? ⟨w5.heap.size,0,none⟩=some (.int .i64 N3)∧w99.cell? ⟨w5.heap.size,1,none⟩=some (.slice B6 q3 d6))∧(w99.cell? ⟨w3.heap.size,0,none⟩=some (.int .i64 N3)∧w99.cell? ⟨w3.heap.size,1,none⟩=some (.slice B5 q3 d5))∧(w99.cell? ⟨(w.heap.size+1),0,none⟩=some (.string ⟨fa.toArray⟩)∧w99.cell? ⟨(w.heap.size+1),1,none⟩=some (.string ⟨fb.toArray⟩))):=Lib.hid ⟨cells2_row (HC.out.row 0 rfl),cells2_row (HC.out.row 1 rfl),cells2_row (HC.out.row 2 rfl)⟩;clear hb)
   | (go_at_call 25;(with_reducible refine(wakes11 _ HC.out (by simp) (by simp) (by simp)).mono ?_);rintro e1 w99 ⟨rfl,hb⟩;replace BL:=Lib.hid (below_step BL.out hb);replace HC:=Lib.hid (HC.out.on hb);replace SH:Hid ((w99.cell? ⟨w5.heap.size,0,none⟩=some (.int .i64 N3)∧w99.cell? ⟨w5.heap.size,1,none⟩=some (.slice B6 q3 d6))∧(w99.cell? ⟨w3.heap.size,0,none⟩=some (.int .i64 N3)∧w99.cell? ⟨w3.heap.size,1,none⟩=some (.slice B5 q3 d5))∧(w99.cell? ⟨(w.heap.size+1),0,none⟩=some (.string ⟨fa.toArray⟩)∧w99.cell? ⟨(w.heap.size+1),1,none⟩=some (.string ⟨fb.toArray⟩))):=Lib.hid ⟨cells2_row (HC.out.row 0 rfl),cells2_row (HC.out.row 1 rfl),cells2_row (HC.out.row 2 rfl)⟩;clear hb))
 all_goals
  go_wp2
  go_ret
  exact⟨rfl,BL.out⟩
theorem pt_all(M:Int)(A:Option Addr)(n c:Nat)(a b:ByteArray)(most:Int)(LA:Option Addr)(ln lc:Nat)(w:World)(hR:Up.Vars w)(hI:IsFlds w A n c)(hJ:IsFlds w LA ln lc)(ha:a.size≤140737488355328)(hb:b.size≤140737488355328) :
  Calls Tryz.prog 4 #[.agg #[.int .i64 M,.slice A n c],.agg #[.string a,.string b],.int .i64 most,.slice LA ln lc] w fun e w'=>e = .returned (.bool true)∧Below w.heap.size w w':=by
 obtain⟨xs,hA,hS,hnc,hcm,hN⟩:=rowFlds hI
 obtain⟨ls,hL,hT,hnl,hlm,hLN⟩:=rowFlds hJ
 obtain⟨fa,rfl⟩ : ∃l:List UInt8,a=⟨l.toArray⟩:=⟨a.data.toList,by simp⟩
 obtain⟨fb,rfl⟩ : ∃l:List UInt8,b=⟨l.toArray⟩:=⟨b.data.toList,by simp⟩
 have hV:EnvF w [fF LA ln ls,fF A n xs,stF,rwF,mvF] []:=(Pk.start11 hR hA).addF hL
 have HG:=great_call (M:=M) hA hnc hcm hS hL hnl hlm hT
 cases hg:gB xs ls with
 | true=>rw[hg] at HG;exact pt_g M most A n c xs fa fb LA ln lc ls w hV HG
 | false=>
  rw[hg] at HG
  obtain⟨g1,g2,g3,g4⟩:=g_bd hg
  have HG2:Hid (∀(A0:Option Addr) (w0:World),Fs w0 w0.heap.size A0 1 [((⟨fa.toArray⟩,⟨fb.toArray⟩):Fd)]→Calls Tryz.prog 24 #[.slice A0 1 1] w0 fun e w'=>e = .returned (.bool (greatB [((⟨fa.toArray⟩,⟨fb.toArray⟩):Fd)]))∧Below w0.heap.size w0 w'):=
   Lib.hid fun A0 w0 h=>r_great A0 1 1 _ w0 h (Nat.le_refl _) (by decide) (fun x hx=>by rw[List.mem_singleton.1 hx];exact⟨ha,hb⟩)
  cases hg2:greatB [((⟨fa.toArray⟩,⟨fb.toArray⟩):Fd)] with
  | true=>rw[hg2] at HG2;exact pt_f M most A n c xs fa fb LA ln lc ls w hV HG HG2
  | false=>
   rw[hg2] at HG2
   have hz:sz ((⟨fa.toArray⟩,⟨fb.toArray⟩):Fd)≤7000:=by
    have h1:=(great_sz hg2).2
    have h2:full [((⟨fa.toArray⟩,⟨fb.toArray⟩):Fd)]=sz ((⟨fa.toArray⟩,⟨fb.toArray⟩):Fd)+0:=rfl
    simp only[List.length_singleton] at h1
    omega
   have b1:(bfX M xs ((⟨fa.toArray⟩,⟨fb.toArray⟩):Fd)).length≤1000000:=by
    unfold bfX
    split
    ·rename_i hr
     have h1:=okB_of (fX_right hr ((⟨fa.toArray⟩,⟨fb.toArray⟩):Fd))
     have h2:=full_len (fX M xs ((⟨fa.toArray⟩,⟨fb.toArray⟩):Fd))
     omega
    ·simp
   have b2:(bkX M xs ls).length≤1000000:=by
    unfold bkX
    split
    ·rename_i hr
     have h1:=okB_of (kX_right hr ls)
     have h2:=full_len (kX M xs ls)
     omega
    ·simp
   have b3:(bsX M most xs ls).length≤1000000:=by
    unfold bsX
    split
    ·rename_i hr
     obtain⟨r1,r2,r3⟩:=resB_of hr
     have h1:=okB_of (kX_right (right_of r2 r3 (keep_full xs r2)) ls)
     have h2:=full_len (kX most (keep most xs) ls)
     omega
    ·simp
   have hs : ∀(N:Int) (Y:List Fd),sameB N Y N Y=true:=fun N Y=>by unfold sameB;simp
   exact pt_main M most A n c xs fa fb LA ln lc ls w hV HG HG2 (Lib.hid hN) (Lib.hid (by omega)) (Lib.hid hz) (Lib.hid g3) (Lib.hid ⟨rfl,rfl,rfl,rfl,rfl,rfl⟩) (Lib.hid b1) (Lib.hid (hs _ _)) (Lib.hid ⟨rfl,rfl,rfl,rfl,rfl,rfl⟩) (Lib.hid b2) (Lib.hid (hs _ _)) (Lib.hid ⟨rfl,rfl,rfl,rfl,rfl,rfl⟩) (Lib.hid b3) (Lib.hid (hs _ _))
end Go.Proofs.YtahiajeggbpogaaGreatDoor
