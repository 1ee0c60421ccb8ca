import Derived.Test.YtahiajeggbpogaaGreatDoorUpLb
import Derived.Test.YtahiajeggbpogaaGreatDoorUpV
import Derived.Test.YtahiajeggbpogaaGreatDoorGTopL
set_option maxRecDepth 100000
set_option maxHeartbeats 8000000
namespace Go.Proofs.YtahiajeggbpogaaGreatDoor
open Go.RowKit Go.Shelf Px Tx Tb Up GD
set_option linter.unusedVariables false
set_option linter.unusedSimpArgs false
attribute [local go_sem] Oper.semAt_some
section
variable {fs:List Fact}{gs:List Bx}
theorem l_vsame{A A':Option Addr}{n n' c c':Nat}{xs ys:List UInt8}{b:Bool}(w:World)(hV:EnvF w fs gs)(hA:bF A n xs∈fs)(hA':bF A' n' ys∈fs)(h:(xs==ys)=b) :
  Calls Tryz.prog 17 #[.slice A n c,.slice A' n' c'] w fun e w'=>e = .returned (.bool b)∧Below w.heap.size w w':=by
 refine(v_same A A' n n' c c' _ _ xs ys w (hV.bs hA) (hV.bs hA')).mono ?_
 rintro e w' ⟨he,rfl⟩
 exact⟨he.trans (by rw[h]),Below.refl _ _⟩
theorem l_usame{LA LB TA TB:Option Addr}{ln lc lm ld tn tc tm td:Nat}{g h:Bool}{M N:Int}{xs ys xs' ys':List Fd}{b:Bool}(w:World)(hV:EnvF w fs gs)(h1:fF LA ln xs∈fs)(h2:fF LB lm ys∈fs)(h3:fF TA tn xs'∈fs)(h4:fF TB tm ys'∈fs)(n1:ln≤1000000)(n2:tn≤1000000)(hb:sameU xs g M xs' ys h N ys'=b) :
  Calls Tryz.prog 22 #[.agg #[.slice LA ln lc,.bool g,.int .i64 M,.slice TA tn tc],.agg #[.slice LB lm ld,.bool h,.int .i64 N,.slice TB tm td]] w fun e w'=>e = .returned (.bool b)∧Below w.heap.size w w':=
 hb ▸ u_Same LA LB TA TB ln lc lm ld tn tc tm td g h M N xs ys xs' ys' w (hV.fs h1) (hV.fs h2) (hV.fs h3) (hV.fs h4) n1 n2
theorem l_dsame{LA LB TA TB:Option Addr}{ln lc lm ld tn tc tm td:Nat}{g h:Bool}{M N:Int}{xs ys xs' ys':List Fd}{b:Bool}(w:World)(hV:EnvF w fs gs)(h1:fF LA ln xs∈fs)(h2:fF LB lm ys∈fs)(h3:fF TA tn xs'∈fs)(h4:fF TB tm ys'∈fs)(n1:ln≤1000000)(n2:tn≤1000000)(hb:sameU xs g M xs' ys h N ys'=b) :
  Calls Tryz.prog 10 #[.agg #[.slice LA ln lc,.bool g,.int .i64 M,.slice TA tn tc],.agg #[.slice LB lm ld,.bool h,.int .i64 N,.slice TB tm td]] w fun e w'=>e = .returned (.bool b)∧Below w.heap.size w w':=
 hb ▸ d_Same LA LB TA TB ln lc lm ld tn tc tm td g h M N xs ys xs' ys' w (hV.fs h1) (hV.fs h2) (hV.fs h3) (hV.fs h4) n1 n2
theorem l_dnamed{i way:Int}{b:List UInt8}{L:List UInt8}{E:Int}{k:Nat}(w:World)(hV:EnvF w fs gs)(hb:b.length≤10000)(h1:nmL i b way=L)(h2:nmE i way=E)(h3:L.length=k) :
  Calls Tryz.prog 16 #[.int .i64 i,.string ⟨b.toArray⟩,.int .i64 way] w fun e w'=>∃A c,e = .returned (.tuple #[.slice A k c,.int .i64 E])∧Below w.heap.size w w'∧EnvF w' (bF A k L::fs) gs∧(k≤c∧(A=none→c=0)):=by
 subst h1 h2 h3
 refine(d_Named i b way w hb).mono ?_
 rintro e w' ⟨A,c,rfl,hh,hb⟩
 exact⟨A,c,rfl,hb,hV.handS hb hh,hh.2.2⟩
theorem l_ufield{way:Int}{a b L:List UInt8}{k:Nat}(w:World)(hV:EnvF w fs gs)(hR:rwF∈fs)(hM:mvF∈fs)(ha:a.length≤10000)(hb:b.length≤10000)(h1:fldL a b way=L)(h3:L.length=k) :
  Calls Tryz.prog 18 #[.agg #[.string ⟨a.toArray⟩,.string ⟨b.toArray⟩],.int .i64 way] w fun e w'=>∃A c,e = .returned (.slice A k c)∧Below w.heap.size w w'∧EnvF w' (bF A k L::fs) gs:=by
 subst h1 h3
 refine(u_Field a b way w hV hR hM ha hb).mono ?_
 rintro e w' ⟨A,c,rfl,ho,hb⟩
 obtain⟨A',c',e,hh⟩:=ho.handS (n:=(fldL a b way).length) rfl
 cases e
 exact⟨A,c,rfl,hb,hV.handS hb hh⟩
theorem l_dfield{way:Int}{a b L:List UInt8}{k:Nat}(w:World)(hV:EnvF w fs gs)(ha:a.length≤10000)(hb:b.length≤10000)(h1:fldL a b way=L)(h3:L.length=k) :
  Calls Tryz.prog 19 #[.agg #[.string ⟨a.toArray⟩,.string ⟨b.toArray⟩],.int .i64 way] w fun e w'=>∃A c,e = .returned (.slice A k c)∧Below w.heap.size w w'∧EnvF w' (bF A k L::fs) gs:=by
 subst h1 h3
 refine(d_Field a b way w ha hb).mono ?_
 rintro e w' ⟨A,c,rfl,ho,hb⟩
 obtain⟨A',c',e,hh⟩:=ho.handS (n:=(fldL a b way).length) rfl
 cases e
 exact⟨A,c,rfl,hb,hV.handS hb hh⟩
end
theorem ut_g(M most:Int)(A:Option Addr)(n c:Nat)(xs:List Fd)(B:Option Addr)(nb bc:Nat)(bs:List UInt8)(fa fb:List UInt8)(LA:Option Addr)(nl lc:Nat)(lx:List Fd)(i way:Int)(w:World)(hV:EnvF w [fF LA nl lx,bF B nb bs,fF A n xs,stF,rwF,mvF] [])(HG:Hid (∀w0:World,Fs w0 w0.heap.size A n xs→Calls Tryz.prog 6 #[.agg #[.int .i64 M,.slice A n c]] w0 fun e w'=>e = .returned (.bool true)∧Below w0.heap.size w0 w')) :
  Calls Tryz.prog 3 #[.agg #[.int .i64 M,.slice A n c],.int .i64 most,.slice B nb bc,.agg #[.string ⟨fa.toArray⟩,.string ⟨fb.toArray⟩],.slice LA nl lc,.int .i64 i,.int .i64 way] w fun e w'=>e = .returned (.bool true)∧Below w.heap.size w w':=by
 have K0:=Lib.hid (((hV).boxg 24 #[.int .i64 M,.slice A n c] w.heap.size (by simp)).boxg 27 #[.string ⟨fa.toArray⟩,.string ⟨fb.toArray⟩] (w.heap.size+1) (by simp))
 have G0:=Lib.hid (((Below.refl w.heap.size w).alloc (by simp) (.cells #[.int .i64 M,.slice A n c] 24)).alloc (by simp) (.cells #[.string ⟨fa.toArray⟩,.string ⟨fb.toArray⟩] 27))
 clear hV
 go_enter Tryz.func3,Tryz.ntmps3
 go_wp2_with (first
  | go_skip
  | (refine at_load 24 (.tmp 7) (by rfl) ?_;refine wpListG_row (by rfl) 24 (.tmp 7) (by rfl) w.heap.size (by rfl) 24 #[.int .i64 M,.slice A n c] _ (K0.out.row 1 rfl) Tryz.underlying24 (by rfl) infoc_T ?_)
  | (go_at_call 6;(with_reducible refine(HG.out _ (K0.out.fs (A:=A) (n:=n) (xs:=xs) (by simp))).mono ?_);rintro e w1 ⟨rfl,hb⟩;have K1:=Lib.hid (K0.out.on hb);have G1:=Lib.hid (below_step G0.out hb);clear hb K0 G0)
  | (go_at_call 7;(with_reducible refine(l_wakes _ K1.out (by simp) (by simp) (by simp)).mono ?_);rintro e w2 ⟨rfl,hb⟩;have K2:=Lib.hid (K1.out.on hb);have G2:=Lib.hid (below_step G1.out hb);clear hb K1 G1))
 go_ret
 exact⟨rfl,G2.out⟩
theorem ut_x0(M most:Int)(A:Option Addr)(n c:Nat)(xs:List Fd)(B:Option Addr)(nb bc:Nat)(bs:List UInt8)(fa fb:List UInt8)(LA:Option Addr)(nl lc:Nat)(lx:List Fd)(i way:Int)(w:World)(hV:EnvF w [fF LA nl lx,bF B nb bs,fF A n xs,stF,rwF,mvF] [])(HG:Hid (∀w0:World,Fs w0 w0.heap.size A n xs→Calls Tryz.prog 6 #[.agg #[.int .i64 M,.slice A n c]] w0 fun e w'=>e = .returned (.bool false)∧Below w0.heap.size w0 w'))(hfa:fa.length≤140737488355328)(hfb:fb.length≤140737488355328)(g:2000<nb) :
  Calls Tryz.prog 3 #[.agg #[.int .i64 M,.slice A n c],.int .i64 most,.slice B nb bc,.agg #[.string ⟨fa.toArray⟩,.string ⟨fb.toArray⟩],.slice LA nl lc,.int .i64 i,.int .i64 way] w fun e w'=>e = .returned (.bool true)∧Below w.heap.size w w':=by
 have K0:=Lib.hid (((hV).boxg 24 #[.int .i64 M,.slice A n c] w.heap.size (by simp)).boxg 27 #[.string ⟨fa.toArray⟩,.string ⟨fb.toArray⟩] (w.heap.size+1) (by simp))
 have G0:=Lib.hid (((Below.refl w.heap.size w).alloc (by simp) (.cells #[.int .i64 M,.slice A n c] 24)).alloc (by simp) (.cells #[.string ⟨fa.toArray⟩,.string ⟨fb.toArray⟩] 27))
 have dd0:decide ((2000:Int)<(nb:Int))=true:=decide_eq_true (by omega)
 clear hV
 go_enter Tryz.func3,Tryz.ntmps3
 go_wp2_with (first
  | go_skip
  | (refine at_load 24 (.tmp 7) (by rfl) ?_;refine wpListG_row (by rfl) 24 (.tmp 7) (by rfl) w.heap.size (by rfl) 24 #[.int .i64 M,.slice A n c] _ (K0.out.row 1 rfl) Tryz.underlying24 (by rfl) infoc_T ?_)
  | (go_at_call 6;(with_reducible refine(HG.out _ (K0.out.fs (A:=A) (n:=n) (xs:=xs) (by simp))).mono ?_);rintro e w1 ⟨rfl,hb⟩;have K1:=Lib.hid (K0.out.on hb);have G1:=Lib.hid (below_step G0.out hb);clear hb K0 G0)
  | (refine at_load 9 (.tmp 39) (by rfl) ?_;refine wpListG_get (by rfl) 9 (.tmp 39) (by rfl) (w.heap.size+1) 0 (by rfl) 27 #[.string ⟨fa.toArray⟩,.string ⟨fb.toArray⟩] (.string ⟨fa.toArray⟩) _ (K1.out.row 0 rfl) (by rfl) Tryz.underlying9 (by rfl) ?_)
  | (refine at_load 9 (.tmp 45) (by rfl) ?_;refine wpListG_get (by rfl) 9 (.tmp 45) (by rfl) (w.heap.size+1) 1 (by rfl) 27 #[.string ⟨fa.toArray⟩,.string ⟨fb.toArray⟩] (.string ⟨fb.toArray⟩) _ (K1.out.row 0 rfl) (by rfl) Tryz.underlying9 (by rfl) ?_)
  | (go_at_call 7;(with_reducible refine(l_wakes _ K1.out (by simp) (by simp) (by simp)).mono ?_);rintro e w2 ⟨rfl,hb⟩;have K2:=Lib.hid (K1.out.on hb);have G2:=Lib.hid (below_step G1.out hb);clear hb K1 G1))
 go_ret
 exact⟨rfl,G2.out⟩
theorem ut_x1(M most:Int)(A:Option Addr)(n c:Nat)(xs:List Fd)(B:Option Addr)(nb bc:Nat)(bs:List UInt8)(fa fb:List UInt8)(LA:Option Addr)(nl lc:Nat)(lx:List Fd)(i way:Int)(w:World)(hV:EnvF w [fF LA nl lx,bF B nb bs,fF A n xs,stF,rwF,mvF] [])(HG:Hid (∀w0:World,Fs w0 w0.heap.size A n xs→Calls Tryz.prog 6 #[.agg #[.int .i64 M,.slice A n c]] w0 fun e w'=>e = .returned (.bool false)∧Below w0.heap.size w0 w'))(hfa:fa.length≤140737488355328)(hfb:fb.length≤140737488355328)(g0:nb≤2000)(g:2000<fa.length) :
  Calls Tryz.prog 3 #[.agg #[.int .i64 M,.slice A n c],.int .i64 most,.slice B nb bc,.agg #[.string ⟨fa.toArray⟩,.string ⟨fb.toArray⟩],.slice LA nl lc,.int .i64 i,.int .i64 way] w fun e w'=>e = .returned (.bool true)∧Below w.heap.size w w':=by
 have K0:=Lib.hid (((hV).boxg 24 #[.int .i64 M,.slice A n c] w.heap.size (by simp)).boxg 27 #[.string ⟨fa.toArray⟩,.string ⟨fb.toArray⟩] (w.heap.size+1) (by simp))
 have G0:=Lib.hid (((Below.refl w.heap.size w).alloc (by simp) (.cells #[.int .i64 M,.slice A n c] 24)).alloc (by simp) (.cells #[.string ⟨fa.toArray⟩,.string ⟨fb.toArray⟩] 27))
 have dd0:decide ((2000:Int)<(nb:Int))=false:=decide_eq_false (by omega)
 have dd1:decide ((2000:Int)<(fa.length:Int))=true:=decide_eq_true (by omega)
 clear hV
 go_enter Tryz.func3,Tryz.ntmps3
 go_wp2_with (first
  | go_skip
  | (refine at_load 24 (.tmp 7) (by rfl) ?_;refine wpListG_row (by rfl) 24 (.tmp 7) (by rfl) w.heap.size (by rfl) 24 #[.int .i64 M,.slice A n c] _ (K0.out.row 1 rfl) Tryz.underlying24 (by rfl) infoc_T ?_)
  | (go_at_call 6;(with_reducible refine(HG.out _ (K0.out.fs (A:=A) (n:=n) (xs:=xs) (by simp))).mono ?_);rintro e w1 ⟨rfl,hb⟩;have K1:=Lib.hid (K0.out.on hb);have G1:=Lib.hid (below_step G0.out hb);clear hb K0 G0)
  | (refine at_load 9 (.tmp 39) (by rfl) ?_;refine wpListG_get (by rfl) 9 (.tmp 39) (by rfl) (w.heap.size+1) 0 (by rfl) 27 #[.string ⟨fa.toArray⟩,.string ⟨fb.toArray⟩] (.string ⟨fa.toArray⟩) _ (K1.out.row 0 rfl) (by rfl) Tryz.underlying9 (by rfl) ?_)
  | (refine at_load 9 (.tmp 45) (by rfl) ?_;refine wpListG_get (by rfl) 9 (.tmp 45) (by rfl) (w.heap.size+1) 1 (by rfl) 27 #[.string ⟨fa.toArray⟩,.string ⟨fb.toArray⟩] (.string ⟨fb.toArray⟩) _ (K1.out.row 0 rfl) (by rfl) Tryz.underlying9 (by rfl) ?_)
  | (go_at_call 7;(with_reducible refine(l_wakes _ K1.out (by simp) (by simp) (by simp)).mono ?_);rintro e w2 ⟨rfl,hb⟩;have K2:=Lib.hid (K1.out.on hb);have G2:=Lib.hid (below_step G1.out hb);clear hb K1 G1))
 go_ret
 exact⟨rfl,G2.out⟩
theorem ut_x2(M most:Int)(A:Option Addr)(n c:Nat)(xs:List Fd)(B:Option Addr)(nb bc:Nat)(bs:List UInt8)(fa fb:List UInt8)(LA:Option Addr)(nl lc:Nat)(lx:List Fd)(i way:Int)(w:World)(hV:EnvF w [fF LA nl lx,bF B nb bs,fF A n xs,stF,rwF,mvF] [])(HG:Hid (∀w0:World,Fs w0 w0.heap.size A n xs→Calls Tryz.prog 6 #[.agg #[.int .i64 M,.slice A n c]] w0 fun e w'=>e = .returned (.bool false)∧Below w0.heap.size w0 w'))(hfa:fa.length≤140737488355328)(hfb:fb.length≤140737488355328)(g0:nb≤2000)(g1:fa.length≤2000)(g:2000<fb.length) :
  Calls Tryz.prog 3 #[.agg #[.int .i64 M,.slice A n c],.int .i64 most,.slice B nb bc,.agg #[.string ⟨fa.toArray⟩,.string ⟨fb.toArray⟩],.slice LA nl lc,.int .i64 i,.int .i64 way] w fun e w'=>e = .returned (.bool true)∧Below w.heap.size w w':=by
 have K0:=Lib.hid (((hV).boxg 24 #[.int .i64 M,.slice A n c] w.heap.size (by simp)).boxg 27 #[.string ⟨fa.toArray⟩,.string ⟨fb.toArray⟩] (w.heap.size+1) (by simp))
 have G0:=Lib.hid (((Below.refl w.heap.size w).alloc (by simp) (.cells #[.int .i64 M,.slice A n c] 24)).alloc (by simp) (.cells #[.string ⟨fa.toArray⟩,.string ⟨fb.toArray⟩] 27))
 have dd0:decide ((2000:Int)<(nb:Int))=false:=decide_eq_false (by omega)
 have dd1:decide ((2000:Int)<(fa.length:Int))=false:=decide_eq_false (by omega)
 have dd2:decide ((2000:Int)<(fb.length:Int))=true:=decide_eq_true (by omega)
 clear hV
 go_enter Tryz.func3,Tryz.ntmps3
 go_wp2_with (first
  | go_skip
  | (refine at_load 24 (.tmp 7) (by rfl) ?_;refine wpListG_row (by rfl) 24 (.tmp 7) (by rfl) w.heap.size (by rfl) 24 #[.int .i64 M,.slice A n c] _ (K0.out.row 1 rfl) Tryz.underlying24 (by rfl) infoc_T ?_)
  | (go_at_call 6;(with_reducible refine(HG.out _ (K0.out.fs (A:=A) (n:=n) (xs:=xs) (by simp))).mono ?_);rintro e w1 ⟨rfl,hb⟩;have K1:=Lib.hid (K0.out.on hb);have G1:=Lib.hid (below_step G0.out hb);clear hb K0 G0)
  | (refine at_load 9 (.tmp 39) (by rfl) ?_;refine wpListG_get (by rfl) 9 (.tmp 39) (by rfl) (w.heap.size+1) 0 (by rfl) 27 #[.string ⟨fa.toArray⟩,.string ⟨fb.toArray⟩] (.string ⟨fa.toArray⟩) _ (K1.out.row 0 rfl) (by rfl) Tryz.underlying9 (by rfl) ?_)
  | (refine at_load 9 (.tmp 45) (by rfl) ?_;refine wpListG_get (by rfl) 9 (.tmp 45) (by rfl) (w.heap.size+1) 1 (by rfl) 27 #[.string ⟨fa.toArray⟩,.string ⟨fb.toArray⟩] (.string ⟨fb.toArray⟩) _ (K1.out.row 0 rfl) (by rfl) Tryz.underlying9 (by rfl) ?_)
  | (go_at_call 7;(with_reducible refine(l_wakes _ K1.out (by simp) (by simp) (by simp)).mono ?_);rintro e w2 ⟨rfl,hb⟩;have K2:=Lib.hid (K1.out.on hb);have G2:=Lib.hid (below_step G1.out hb);clear hb K1 G1))
 go_ret
 exact⟨rfl,G2.out⟩
theorem ut_x3(M most:Int)(A:Option Addr)(n c:Nat)(xs:List Fd)(B:Option Addr)(nb bc:Nat)(bs:List UInt8)(fa fb:List UInt8)(LA:Option Addr)(nl lc:Nat)(lx:List Fd)(i way:Int)(w:World)(hV:EnvF w [fF LA nl lx,bF B nb bs,fF A n xs,stF,rwF,mvF] [])(HG:Hid (∀w0:World,Fs w0 w0.heap.size A n xs→Calls Tryz.prog 6 #[.agg #[.int .i64 M,.slice A n c]] w0 fun e w'=>e = .returned (.bool false)∧Below w0.heap.size w0 w'))(hfa:fa.length≤140737488355328)(hfb:fb.length≤140737488355328)(g0:nb≤2000)(g1:fa.length≤2000)(g2:fb.length≤2000)(g:60<nl) :
  Calls Tryz.prog 3 #[.agg #[.int .i64 M,.slice A n c],.int .i64 most,.slice B nb bc,.agg #[.string ⟨fa.toArray⟩,.string ⟨fb.toArray⟩],.slice LA nl lc,.int .i64 i,.int .i64 way] w fun e w'=>e = .returned (.bool true)∧Below w.heap.size w w':=by
 have K0:=Lib.hid (((hV).boxg 24 #[.int .i64 M,.slice A n c] w.heap.size (by simp)).boxg 27 #[.string ⟨fa.toArray⟩,.string ⟨fb.toArray⟩] (w.heap.size+1) (by simp))
 have G0:=Lib.hid (((Below.refl w.heap.size w).alloc (by simp) (.cells #[.int .i64 M,.slice A n c] 24)).alloc (by simp) (.cells #[.string ⟨fa.toArray⟩,.string ⟨fb.toArray⟩] 27))
 have dd0:decide ((2000:Int)<(nb:Int))=false:=decide_eq_false (by omega)
 have dd1:decide ((2000:Int)<(fa.length:Int))=false:=decide_eq_false (by omega)
 have dd2:decide ((2000:Int)<(fb.length:Int))=false:=decide_eq_false (by omega)
 have dd3:decide ((60:Int)<(nl:Int))=true:=decide_eq_true (by omega)
 clear hV
 go_enter Tryz.func3,Tryz.ntmps3
 go_wp2_with (first
  | go_skip
  | (refine at_load 24 (.tmp 7) (by rfl) ?_;refine wpListG_row (by rfl) 24 (.tmp 7) (by rfl) w.heap.size (by rfl) 24 #[.int .i64 M,.slice A n c] _ (K0.out.row 1 rfl) Tryz.underlying24 (by rfl) infoc_T ?_)
  | (go_at_call 6;(with_reducible refine(HG.out _ (K0.out.fs (A:=A) (n:=n) (xs:=xs) (by simp))).mono ?_);rintro e w1 ⟨rfl,hb⟩;have K1:=Lib.hid (K0.out.on hb);have G1:=Lib.hid (below_step G0.out hb);clear hb K0 G0)
  | (refine at_load 9 (.tmp 39) (by rfl) ?_;refine wpListG_get (by rfl) 9 (.tmp 39) (by rfl) (w.heap.size+1) 0 (by rfl) 27 #[.string ⟨fa.toArray⟩,.string ⟨fb.toArray⟩] (.string ⟨fa.toArray⟩) _ (K1.out.row 0 rfl) (by rfl) Tryz.underlying9 (by rfl) ?_)
  | (refine at_load 9 (.tmp 45) (by rfl) ?_;refine wpListG_get (by rfl) 9 (.tmp 45) (by rfl) (w.heap.size+1) 1 (by rfl) 27 #[.string ⟨fa.toArray⟩,.string ⟨fb.toArray⟩] (.string ⟨fb.toArray⟩) _ (K1.out.row 0 rfl) (by rfl) Tryz.underlying9 (by rfl) ?_)
  | (go_at_call 7;(with_reducible refine(l_wakes _ K1.out (by simp) (by simp) (by simp)).mono ?_);rintro e w2 ⟨rfl,hb⟩;have K2:=Lib.hid (K1.out.on hb);have G2:=Lib.hid (below_step G1.out hb);clear hb K1 G1))
 go_ret
 exact⟨rfl,G2.out⟩
theorem ut_main(M most:Int)(A:Option Addr)(n c:Nat)(xs:List Fd)(B:Option Addr)(nb bc:Nat)(bs:List UInt8)(fa fb:List UInt8)(LA:Option Addr)(nl lc:Nat)(lx:List Fd)(i way:Int)(w:World)(hV:EnvF w [fF LA nl lx,bF B nb bs,fF A n xs,stF,rwF,mvF] [])(HG:Hid (∀w0:World,Fs w0 w0.heap.size A n xs→Calls Tryz.prog 6 #[.agg #[.int .i64 M,.slice A n c]] w0 fun e w'=>e = .returned (.bool false)∧Below w0.heap.size w0 w'))(hfa:fa.length≤140737488355328)(hfb:fb.length≤140737488355328)(g0:nb≤2000)(g1:fa.length≤2000)(g2:fb.length≤2000)(g3:nl≤60){E N:Int}{G b3:Bool}{L X:List Fd}{kl kt s:Nat}{P1 P2 P3 P4:List UInt8}{E1 E2 E3:Int}{k1 k2 k3 k4:Nat}(HV:Hid (BK M most xs bs E kl L G N kt X))(hbc:nb≤bc)(hNb:B=none→bc=0)(hN:A=none→c=0)(hF:full xs≤20000)(hkl:Hid (kl≤1000000))(hkt:Hid (kt≤1000000))(HSM:Hid (sameU L G N X L G N X=true))(HS3:Hid (sameU L G N X lx G N X=b3))(hfl:Hid (full lx≤4000000000000000000))(hsl:Hid (full lx=s))(hp1:Hid (putL i (7:Nat) 128=P1))(he1:Hid (putE i (7:Nat)=E1))(hk1:Hid (P1.length=k1))(hp2:Hid (putL i (5:Nat) 32=P2))(he2:Hid (putE i (5:Nat)=E2))(hk2:Hid (P2.length=k2))(hp3:Hid (nmL i fb way=P3))(he3:Hid (nmE i way=E3))(hk3:Hid (P3.length=k3))(hp4:Hid (fldL fa fb way=P4))(hk4:Hid (P4.length=k4)) :
  Calls Tryz.prog 3 #[.agg #[.int .i64 M,.slice A n c],.int .i64 most,.slice B nb bc,.agg #[.string ⟨fa.toArray⟩,.string ⟨fb.toArray⟩],.slice LA nl lc,.int .i64 i,.int .i64 way] w fun e w'=>e = .returned (.bool true)∧Below w.heap.size w w':=by
 have K0:=Lib.hid (((hV).boxg 24 #[.int .i64 M,.slice A n c] w.heap.size (by simp)).boxg 27 #[.string ⟨fa.toArray⟩,.string ⟨fb.toArray⟩] (w.heap.size+1) (by simp))
 have G0:=Lib.hid (((Below.refl w.heap.size w).alloc (by simp) (.cells #[.int .i64 M,.slice A n c] 24)).alloc (by simp) (.cells #[.string ⟨fa.toArray⟩,.string ⟨fb.toArray⟩] 27))
 have dd0:decide ((2000:Int)<(nb:Int))=false:=decide_eq_false (by omega)
 have dd1:decide ((2000:Int)<(fa.length:Int))=false:=decide_eq_false (by omega)
 have dd2:decide ((2000:Int)<(fb.length:Int))=false:=decide_eq_false (by omega)
 have dd3:decide ((60:Int)<(nl:Int))=false:=decide_eq_false (by omega)
 have hF':=Lib.hid hF
 have hN':=Lib.hid hN
 have HB:=Lib.hid (And.intro hbc hNb)
 have hfb':Hid (fb.length≤10000):=Lib.hid (by omega)
 have hfa':Hid (fa.length≤10000):=Lib.hid (by omega)
 clear hF hN hbc hNb
 clear hV
 go_enter Tryz.func3,Tryz.ntmps3
 go_wp2_with (first
  | go_skip
  | (refine at_load 24 (.tmp 7) (by rfl) ?_;refine wpListG_row (by rfl) 24 (.tmp 7) (by rfl) w.heap.size (by rfl) 24 #[.int .i64 M,.slice A n c] _ (K0.out.row 1 rfl) Tryz.underlying24 (by rfl) infoc_T ?_)
  | (go_at_call 6;(with_reducible refine(HG.out _ (K0.out.fs (A:=A) (n:=n) (xs:=xs) (by simp))).mono ?_);rintro e w1 ⟨rfl,hb⟩;have K1:=Lib.hid (K0.out.on hb);have G1:=Lib.hid (below_step G0.out hb);clear hb K0 G0)
  | (refine at_load 9 (.tmp 39) (by rfl) ?_;refine wpListG_get (by rfl) 9 (.tmp 39) (by rfl) (w.heap.size+1) 0 (by rfl) 27 #[.string ⟨fa.toArray⟩,.string ⟨fb.toArray⟩] (.string ⟨fa.toArray⟩) _ (K1.out.row 0 rfl) (by rfl) Tryz.underlying9 (by rfl) ?_)
  | (refine at_load 9 (.tmp 45) (by rfl) ?_;refine wpListG_get (by rfl) 9 (.tmp 45) (by rfl) (w.heap.size+1) 1 (by rfl) 27 #[.string ⟨fa.toArray⟩,.string ⟨fb.toArray⟩] (.string ⟨fb.toArray⟩) _ (K1.out.row 0 rfl) (by rfl) Tryz.underlying9 (by rfl) ?_)
  | (refine at_load 24 (.tmp 7) (by rfl) ?_;refine wpListG_row (by rfl) 24 (.tmp 7) (by rfl) w.heap.size (by rfl) 24 #[.int .i64 M,.slice A n c] _ (K1.out.row 1 rfl) Tryz.underlying24 (by rfl) infoc_T ?_)
  | (go_at_call 8;(with_reducible refine(b_call (A:=A) (n:=n) (c:=c) (LA:=B) (ln:=nb) (lc:=bc) _ HV.out K1.out (by simp) HB.out.1 HB.out.2 (by simp) hN'.out (by simp) (by simp) (by simp) hF'.out (by omega)).mono ?_);rintro e w2 ⟨L1,cl1,T1,tc1,rfl,hb,hE,hc0,HT10⟩;have K2:=Lib.hid hE;have HT1:=Lib.hid HT10;have G2:=Lib.hid (below_step G1.out hb);clear hb hE hc0 HT10 K1 G1;have K2b:=Lib.hid (K2.out.boxg 31 #[.slice none 0 0,.bool false,.int .i64 0,.slice none 0 0] w2.heap.size rfl);have hz2:w.heap.size≤w2.heap.size:=G2.out.size;have G2b:=Lib.hid (G2.out.alloc hz2 (.cells #[.slice none 0 0,.bool false,.int .i64 0,.slice none 0 0] 31));clear K2 G2)
  | (refine at_store 31 (.tmp 15) (.tmp 61) (by rfl) ?_;refine wpList_put (by rfl) 31 (.tmp 15) (.tmp 61) (by rfl) w2.heap.size 0 (.agg #[.slice L1 kl cl1,.bool G,.int .i64 N,.slice T1 kt tc1]) (by rfl) (by rfl) 31 #[.slice none 0 0,.bool false,.int .i64 0,.slice none 0 0] #[.slice L1 kl cl1,.bool G,.int .i64 N,.slice T1 kt tc1] (K2b.out.row 0 rfl) (by simp[Value.cells]) (by kernel_rfl) infoc_U (by kernel_rfl) ?_;intro w3 hrow hoth hz hbl;have K3:=Lib.hid (K2b.out.turn 0 rfl hrow hoth hz);have G3:=Lib.hid (hbl _ _ (by omega) G2b.out);clear hrow hoth hz hbl K2b G2b)
  | (refine at_load 24 (.tmp 7) (by rfl) ?_;refine wpListG_row (by rfl) 24 (.tmp 7) (by rfl) w.heap.size (by rfl) 24 #[.int .i64 M,.slice A n c] _ (K3.out.row 2 rfl) Tryz.underlying24 (by rfl) infoc_T ?_)
  | (go_at_call 9;(with_reducible refine(d_call (A:=A) (n:=n) (c:=c) (LA:=B) (ln:=nb) (lc:=bc) _ HV.out K3.out (by simp) HB.out.2 (by simp) hN'.out hF'.out (by omega)).mono ?_);rintro e w4 ⟨L2,cl2,T2,tc2,rfl,hb,hE,hc0,HT20⟩;have K4:=Lib.hid hE;have HT2:=Lib.hid HT20;have G4:=Lib.hid (below_step G3.out hb);clear hb hE hc0 HT20 K3 G3;have K4b:=Lib.hid (K4.out.boxg 31 #[.slice none 0 0,.bool false,.int .i64 0,.slice none 0 0] w4.heap.size rfl);have hz4:w.heap.size≤w4.heap.size:=G4.out.size;have G4b:=Lib.hid (G4.out.alloc hz4 (.cells #[.slice none 0 0,.bool false,.int .i64 0,.slice none 0 0] 31));clear K4 G4)
  | (refine at_store 31 (.tmp 17) (.tmp 68) (by rfl) ?_;refine wpList_put (by rfl) 31 (.tmp 17) (.tmp 68) (by rfl) w4.heap.size 0 (.agg #[.slice L2 kl cl2,.bool G,.int .i64 N,.slice T2 kt tc2]) (by rfl) (by rfl) 31 #[.slice none 0 0,.bool false,.int .i64 0,.slice none 0 0] #[.slice L2 kl cl2,.bool G,.int .i64 N,.slice T2 kt tc2] (K4b.out.row 0 rfl) (by simp[Value.cells]) (by kernel_rfl) infoc_U (by kernel_rfl) ?_;intro w5 hrow hoth hz hbl;have K5:=Lib.hid (K4b.out.turn 0 rfl hrow hoth hz);have G5:=Lib.hid (hbl _ _ (by omega) G4b.out);clear hrow hoth hz hbl K4b G4b)
  | (refine at_load 31 (.tmp 15) (by rfl) ?_;refine wpListG_row (by rfl) 31 (.tmp 15) (by rfl) w2.heap.size (by rfl) 31 #[.slice L1 kl cl1,.bool G,.int .i64 N,.slice T1 kt tc1] _ (K5.out.row 1 rfl) Tryz.underlying31 (by rfl) infoc_U ?_)
  | (refine at_load 31 (.tmp 17) (by rfl) ?_;refine wpListG_row (by rfl) 31 (.tmp 17) (by rfl) w4.heap.size (by rfl) 31 #[.slice L2 kl cl2,.bool G,.int .i64 N,.slice T2 kt tc2] _ (K5.out.row 0 rfl) Tryz.underlying31 (by rfl) infoc_U ?_)
  | (go_at_call 10;(with_reducible refine(l_dsame (LA:=L1) (LB:=L2) (TA:=T1) (TB:=T2) (ln:=kl) (lm:=kl) (tn:=kt) (tm:=kt) (xs:=L) (ys:=L) (xs':=X) (ys':=X) _ K5.out (by simp) (by simp) (by simp) (by simp) hkl.out hkt.out HSM.out).mono ?_);rintro e w6 ⟨rfl,hb⟩;have K6:=Lib.hid (K5.out.on hb);have G6:=Lib.hid (below_step G5.out hb);clear hb K5 G5)
  | (go_at_call 11;(with_reducible refine(l_put _ K6.out (u_Indexed i _ (Up.EnvF.mks K6.out (by simp))) hp1.out he1.out hk1.out).mono ?_);rintro e w7 ⟨A1,c1,rfl,hb,hE,HA10⟩;have K7:=Lib.hid hE;have HA1:=Lib.hid HA10;have G7:=Lib.hid (below_step G6.out hb);clear hb hE HA10 K6 G6)
  | (go_at_call 12;(with_reducible refine(l_put _ K7.out (d_Indexed i _) hp1.out he1.out hk1.out).mono ?_);rintro e w8 ⟨A2,c2,rfl,hb,hE,HA20⟩;have K8:=Lib.hid hE;have HA2:=Lib.hid HA20;have G8:=Lib.hid (below_step G7.out hb);clear hb hE HA20 K7 G7)
  | (go_at_call 13;(with_reducible refine(l_put _ K8.out (u_Sized i _ (Up.EnvF.mks K8.out (by simp))) hp2.out he2.out hk2.out).mono ?_);rintro e w9 ⟨A3,c3,rfl,hb,hE,HA30⟩;have K9:=Lib.hid hE;have HA3:=Lib.hid HA30;have G9:=Lib.hid (below_step G8.out hb);clear hb hE HA30 K8 G8)
  | (go_at_call 14;(with_reducible refine(l_put _ K9.out (d_Sized i _) hp2.out he2.out hk2.out).mono ?_);rintro e w10 ⟨A4,c4,rfl,hb,hE,HA40⟩;have K10:=Lib.hid hE;have HA4:=Lib.hid HA40;have G10:=Lib.hid (below_step G9.out hb);clear hb hE HA40 K9 G9)
  | (refine at_load 9 (.tmp 101) (by rfl) ?_;refine wpListG_get (by rfl) 9 (.tmp 101) (by rfl) (w.heap.size+1) 1 (by rfl) 27 #[.string ⟨fa.toArray⟩,.string ⟨fb.toArray⟩] (.string ⟨fb.toArray⟩) _ (K10.out.row 2 rfl) (by rfl) Tryz.underlying9 (by rfl) ?_)
  | (go_at_call 15;(with_reducible refine(l_named _ K10.out (by simp) (by simp) hfb'.out hp3.out he3.out hk3.out).mono ?_);rintro e w11 ⟨A5,c5,rfl,hb,hE,HA50⟩;have K11:=Lib.hid hE;have HA5:=Lib.hid HA50;have G11:=Lib.hid (below_step G10.out hb);clear hb hE HA50 K10 G10)
  | (refine at_load 9 (.tmp 109) (by rfl) ?_;refine wpListG_get (by rfl) 9 (.tmp 109) (by rfl) (w.heap.size+1) 1 (by rfl) 27 #[.string ⟨fa.toArray⟩,.string ⟨fb.toArray⟩] (.string ⟨fb.toArray⟩) _ (K11.out.row 2 rfl) (by rfl) Tryz.underlying9 (by rfl) ?_)
  | (go_at_call 16;(with_reducible refine(l_dnamed _ K11.out hfb'.out hp3.out he3.out hk3.out).mono ?_);rintro e w12 ⟨A6,c6,rfl,hb,hE,HA60⟩;have K12:=Lib.hid hE;have HA6:=Lib.hid HA60;have G12:=Lib.hid (below_step G11.out hb);clear hb hE HA60 K11 G11))
 have hgy0:Hid (w.heap.size≤w4.heap.size):=Lib.hid (by omega)
 have HC:=Lib.hid K12.out.drew
 have BL:=Lib.hid G12.out.drew
 have SH0:Hid (w12.cell? ⟨w.heap.size+1,0,none⟩=some (.string ⟨fa.toArray⟩)∧w12.cell? ⟨w.heap.size+1,1,none⟩=some (.string ⟨fb.toArray⟩)):=Lib.hid (cells2_row (K12.out.row 2 rfl))
 have SH:Hid (w12.drew.cell? ⟨w.heap.size+1,0,none⟩=some (.string ⟨fa.toArray⟩)∧w12.drew.cell? ⟨w.heap.size+1,1,none⟩=some (.string ⟨fb.toArray⟩)):=SH0
 clear K12 G12
 go_region_held3 (fun W'=>W'.cell? ⟨w.heap.size+1,0,none⟩=some (.string ⟨fa.toArray⟩)∧W'.cell? ⟨w.heap.size+1,1,none⟩=some (.string ⟨fb.toArray⟩)) (first | with_reducible exact SH.out | with_reducible exact SH0.out)
  (first
   | (go_at_call 17;(with_reducible refine(l_vsame (A:=A1) (A':=A2) (n:=k1) (n':=k1) (xs:=P1) (ys:=P1) (b:=true) _ HC.out (by simp) (by simp) (by simp)).mono ?_);rintro e1 w99 ⟨rfl,hb⟩;replace BL:=Lib.hid (below_step BL.out hb);replace HC:=Lib.hid (HC.out.on hb);replace SH:Hid (w99.cell? ⟨w.heap.size+1,0,none⟩=some (.string ⟨fa.toArray⟩)∧w99.cell? ⟨w.heap.size+1,1,none⟩=some (.string ⟨fb.toArray⟩)):=Lib.hid (cells2_row (HC.out.row 2 rfl));clear hb)
   | (go_at_call 17;(with_reducible refine(l_vsame (A:=A3) (A':=A4) (n:=k2) (n':=k2) (xs:=P2) (ys:=P2) (b:=true) _ HC.out (by simp) (by simp) (by simp)).mono ?_);rintro e1 w99 ⟨rfl,hb⟩;replace BL:=Lib.hid (below_step BL.out hb);replace HC:=Lib.hid (HC.out.on hb);replace SH:Hid (w99.cell? ⟨w.heap.size+1,0,none⟩=some (.string ⟨fa.toArray⟩)∧w99.cell? ⟨w.heap.size+1,1,none⟩=some (.string ⟨fb.toArray⟩)):=Lib.hid (cells2_row (HC.out.row 2 rfl));clear hb)
   | (go_at_call 17;(with_reducible refine(l_vsame (A:=A5) (A':=A6) (n:=k3) (n':=k3) (xs:=P3) (ys:=P3) (b:=true) _ HC.out (by simp) (by simp) (by simp)).mono ?_);rintro e1 w99 ⟨rfl,hb⟩;replace BL:=Lib.hid (below_step BL.out hb);replace HC:=Lib.hid (HC.out.on hb);replace SH:Hid (w99.cell? ⟨w.heap.size+1,0,none⟩=some (.string ⟨fa.toArray⟩)∧w99.cell? ⟨w.heap.size+1,1,none⟩=some (.string ⟨fb.toArray⟩)):=Lib.hid (cells2_row (HC.out.row 2 rfl));clear hb)
   | (go_at_call 17;(with_reducible refine(l_vsame (A:=A7) (A':=A8) (n:=k4) (n':=k4) (xs:=P4) (ys:=P4) (b:=true) _ HC.out (by simp) (by simp) (by simp)).mono ?_);rintro e1 w99 ⟨rfl,hb⟩;replace BL:=Lib.hid (below_step BL.out hb);replace HC:=Lib.hid (HC.out.on hb);replace SH:Hid (w99.cell? ⟨w.heap.size+1,0,none⟩=some (.string ⟨fa.toArray⟩)∧w99.cell? ⟨w.heap.size+1,1,none⟩=some (.string ⟨fb.toArray⟩)):=Lib.hid (cells2_row (HC.out.row 2 rfl));clear hb)
   | (go_at_call 18;(with_reducible refine(l_ufield _ HC.out (by simp) (by simp) hfa'.out hfb'.out hp4.out hk4.out).mono ?_);rintro e1 w99 ⟨A7,c7,rfl,hb,hE⟩;replace BL:=Lib.hid (below_step BL.out hb);replace HC:=Lib.hid (hE);replace SH:Hid (w99.cell? ⟨w.heap.size+1,0,none⟩=some (.string ⟨fa.toArray⟩)∧w99.cell? ⟨w.heap.size+1,1,none⟩=some (.string ⟨fb.toArray⟩)):=Lib.hid (cells2_row (HC.out.row 2 rfl));clear hb hE)
   | (go_at_call 19;(with_reducible refine(l_dfield _ HC.out hfa'.out hfb'.out hp4.out hk4.out).mono ?_);rintro e1 w99 ⟨A8,c8,rfl,hb,hE⟩;replace BL:=Lib.hid (below_step BL.out hb);replace HC:=Lib.hid (hE);replace SH:Hid (w99.cell? ⟨w.heap.size+1,0,none⟩=some (.string ⟨fa.toArray⟩)∧w99.cell? ⟨w.heap.size+1,1,none⟩=some (.string ⟨fb.toArray⟩)):=Lib.hid (cells2_row (HC.out.row 2 rfl));clear hb hE))
 all_goals
  have hgy:w.heap.size≤w4.heap.size:=hgy0.out
  go_wp2_with (first
   | go_skip
   | (refine at_store 22 (.tmp 157) (.tmp 156) (by rfl) ?_;refine wpList_put (by rfl) 22 (.tmp 157) (.tmp 156) (by rfl) w4.heap.size 0 (.slice LA nl lc) (by rfl) (by rfl) 31 #[.slice L2 kl cl2,.bool G,.int .i64 N,.slice T2 kt tc2] #[.slice LA nl lc,.bool G,.int .i64 N,.slice T2 kt tc2] (HC.out.row 0 rfl) (by simp[Value.cells]) (by kernel_rfl) infoc_L (by kernel_rfl) ?_;intro w98 hrow hoth hz hbl;have HD:=Lib.hid (HC.out.turn 0 rfl hrow hoth hz);have BD:=Lib.hid (hbl _ _ (by omega) BL.out);clear hrow hoth hz hbl HC BL SH SH0))
  have HC:=Lib.hid HD.out.drew
  have BL:=Lib.hid BD.out.drew
  have SH0:Hid ((w98.cell? ⟨w2.heap.size,0,none⟩=some (.slice L1 kl cl1)∧w98.cell? ⟨w2.heap.size,1,none⟩=some (.bool G)∧w98.cell? ⟨w2.heap.size,2,none⟩=some (.int .i64 N)∧w98.cell? ⟨w2.heap.size,3,none⟩=some (.slice T1 kt tc1))∧(w98.cell? ⟨w4.heap.size,0,none⟩=some (.slice LA nl lc)∧w98.cell? ⟨w4.heap.size,1,none⟩=some (.bool G)∧w98.cell? ⟨w4.heap.size,2,none⟩=some (.int .i64 N)∧w98.cell? ⟨w4.heap.size,3,none⟩=some (.slice T2 kt tc2))):=Lib.hid ⟨cells4_row (HD.out.row 1 rfl),cells4_row (HD.out.row 0 rfl)⟩
  have SH:Hid ((w98.drew.cell? ⟨w2.heap.size,0,none⟩=some (.slice L1 kl cl1)∧w98.drew.cell? ⟨w2.heap.size,1,none⟩=some (.bool G)∧w98.drew.cell? ⟨w2.heap.size,2,none⟩=some (.int .i64 N)∧w98.drew.cell? ⟨w2.heap.size,3,none⟩=some (.slice T1 kt tc1))∧(w98.drew.cell? ⟨w4.heap.size,0,none⟩=some (.slice LA nl lc)∧w98.drew.cell? ⟨w4.heap.size,1,none⟩=some (.bool G)∧w98.drew.cell? ⟨w4.heap.size,2,none⟩=some (.int .i64 N)∧w98.drew.cell? ⟨w4.heap.size,3,none⟩=some (.slice T2 kt tc2))):=SH0
  clear HD BD
  go_region_held3 (fun W'=>(W'.cell? ⟨w2.heap.size,0,none⟩=some (.slice L1 kl cl1)∧W'.cell? ⟨w2.heap.size,1,none⟩=some (.bool G)∧W'.cell? ⟨w2.heap.size,2,none⟩=some (.int .i64 N)∧W'.cell? ⟨w2.heap.size,3,none⟩=some (.slice T1 kt tc1))∧(W'.cell? ⟨w4.heap.size,0,none⟩=some (.slice LA nl lc)∧W'.cell? ⟨w4.heap.size,1,none⟩=some (.bool G)∧W'.cell? ⟨w4.heap.size,2,none⟩=some (.int .i64 N)∧W'.cell? ⟨w4.heap.size,3,none⟩=some (.slice T2 kt tc2))) (first | with_reducible exact SH.out | with_reducible exact SH0.out)
   (first
    | (go_at_call 20;(with_reducible refine(l_usize (A:=LA) (n:=nl) (xs:=lx) _ HC.out (by simp) hfl.out hsl.out).mono ?_);rintro e1 w99 ⟨rfl,hb⟩;replace BL:=Lib.hid (below_step BL.out hb);replace HC:=Lib.hid (HC.out.on hb);replace SH:Hid ((w99.cell? ⟨w2.heap.size,0,none⟩=some (.slice L1 kl cl1)∧w99.cell? ⟨w2.heap.size,1,none⟩=some (.bool G)∧w99.cell? ⟨w2.heap.size,2,none⟩=some (.int .i64 N)∧w99.cell? ⟨w2.heap.size,3,none⟩=some (.slice T1 kt tc1))∧(w99.cell? ⟨w4.heap.size,0,none⟩=some (.slice LA nl lc)∧w99.cell? ⟨w4.heap.size,1,none⟩=some (.bool G)∧w99.cell? ⟨w4.heap.size,2,none⟩=some (.int .i64 N)∧w99.cell? ⟨w4.heap.size,3,none⟩=some (.slice T2 kt tc2))):=Lib.hid (⟨cells4_row (HC.out.row 1 rfl),cells4_row (HC.out.row 0 rfl)⟩);clear hb)
    | (go_at_call 21;(with_reducible refine(l_dsize (A:=LA) (n:=nl) (xs:=lx) _ HC.out (by simp) hfl.out hsl.out).mono ?_);rintro e1 w99 ⟨rfl,hb⟩;replace BL:=Lib.hid (below_step BL.out hb);replace HC:=Lib.hid (HC.out.on hb);replace SH:Hid ((w99.cell? ⟨w2.heap.size,0,none⟩=some (.slice L1 kl cl1)∧w99.cell? ⟨w2.heap.size,1,none⟩=some (.bool G)∧w99.cell? ⟨w2.heap.size,2,none⟩=some (.int .i64 N)∧w99.cell? ⟨w2.heap.size,3,none⟩=some (.slice T1 kt tc1))∧(w99.cell? ⟨w4.heap.size,0,none⟩=some (.slice LA nl lc)∧w99.cell? ⟨w4.heap.size,1,none⟩=some (.bool G)∧w99.cell? ⟨w4.heap.size,2,none⟩=some (.int .i64 N)∧w99.cell? ⟨w4.heap.size,3,none⟩=some (.slice T2 kt tc2))):=Lib.hid (⟨cells4_row (HC.out.row 1 rfl),cells4_row (HC.out.row 0 rfl)⟩);clear hb)
    | (go_at_call 22;(with_reducible refine(l_usame (LA:=L1) (LB:=LA) (TA:=T1) (TB:=T2) (ln:=kl) (lm:=nl) (tn:=kt) (tm:=kt) (xs:=L) (ys:=lx) (xs':=X) (ys':=X) (b:=b3) _ HC.out (by simp) (by simp) (by simp) (by simp) hkl.out hkt.out HS3.out).mono ?_);rintro e1 w99 ⟨rfl,hb⟩;replace BL:=Lib.hid (below_step BL.out hb);replace HC:=Lib.hid (HC.out.on hb);replace SH:Hid ((w99.cell? ⟨w2.heap.size,0,none⟩=some (.slice L1 kl cl1)∧w99.cell? ⟨w2.heap.size,1,none⟩=some (.bool G)∧w99.cell? ⟨w2.heap.size,2,none⟩=some (.int .i64 N)∧w99.cell? ⟨w2.heap.size,3,none⟩=some (.slice T1 kt tc1))∧(w99.cell? ⟨w4.heap.size,0,none⟩=some (.slice LA nl lc)∧w99.cell? ⟨w4.heap.size,1,none⟩=some (.bool G)∧w99.cell? ⟨w4.heap.size,2,none⟩=some (.int .i64 N)∧w99.cell? ⟨w4.heap.size,3,none⟩=some (.slice T2 kt tc2))):=Lib.hid (⟨cells4_row (HC.out.row 1 rfl),cells4_row (HC.out.row 0 rfl)⟩);clear hb)
    | (go_at_call 10;(with_reducible refine(l_dsame (LA:=L1) (LB:=LA) (TA:=T1) (TB:=T2) (ln:=kl) (lm:=nl) (tn:=kt) (tm:=kt) (xs:=L) (ys:=lx) (xs':=X) (ys':=X) (b:=b3) _ HC.out (by simp) (by simp) (by simp) (by simp) hkl.out hkt.out HS3.out).mono ?_);rintro e1 w99 ⟨rfl,hb⟩;replace BL:=Lib.hid (below_step BL.out hb);replace HC:=Lib.hid (HC.out.on hb);replace SH:Hid ((w99.cell? ⟨w2.heap.size,0,none⟩=some (.slice L1 kl cl1)∧w99.cell? ⟨w2.heap.size,1,none⟩=some (.bool G)∧w99.cell? ⟨w2.heap.size,2,none⟩=some (.int .i64 N)∧w99.cell? ⟨w2.heap.size,3,none⟩=some (.slice T1 kt tc1))∧(w99.cell? ⟨w4.heap.size,0,none⟩=some (.slice LA nl lc)∧w99.cell? ⟨w4.heap.size,1,none⟩=some (.bool G)∧w99.cell? ⟨w4.heap.size,2,none⟩=some (.int .i64 N)∧w99.cell? ⟨w4.heap.size,3,none⟩=some (.slice T2 kt tc2))):=Lib.hid (⟨cells4_row (HC.out.row 1 rfl),cells4_row (HC.out.row 0 rfl)⟩);clear hb)
    | (go_at_call 7;(with_reducible refine(l_wakes _ HC.out (by simp) (by simp) (by simp)).mono ?_);rintro e1 w99 ⟨rfl,hb⟩;replace BL:=Lib.hid (below_step BL.out hb);replace HC:=Lib.hid (HC.out.on hb);replace SH:Hid ((w99.cell? ⟨w2.heap.size,0,none⟩=some (.slice L1 kl cl1)∧w99.cell? ⟨w2.heap.size,1,none⟩=some (.bool G)∧w99.cell? ⟨w2.heap.size,2,none⟩=some (.int .i64 N)∧w99.cell? ⟨w2.heap.size,3,none⟩=some (.slice T1 kt tc1))∧(w99.cell? ⟨w4.heap.size,0,none⟩=some (.slice LA nl lc)∧w99.cell? ⟨w4.heap.size,1,none⟩=some (.bool G)∧w99.cell? ⟨w4.heap.size,2,none⟩=some (.int .i64 N)∧w99.cell? ⟨w4.heap.size,3,none⟩=some (.slice T2 kt tc2))):=Lib.hid (⟨cells4_row (HC.out.row 1 rfl),cells4_row (HC.out.row 0 rfl)⟩);clear hb))
  all_goals
   go_wp2
   go_ret
   exact⟨rfl,BL.out⟩
theorem ut_all(M:Int)(A:Option Addr)(n c:Nat)(most:Int)(B:Option Addr)(nb bc:Nat)(bs:List UInt8)(s u:ByteArray)(LA:Option Addr)(nl lc:Nat)(i way:Int)(w:World)(hR:Up.Vars w)(hI:IsFlds w A n c)(hB:Bs w w.heap.size B nb bs)(hbc:nb≤bc)(hNb:B=none→bc=0)(hJ:IsFlds w LA nl lc)(hs:s.size≤140737488355328)(hu:u.size≤140737488355328) :
  Calls Tryz.prog 3 #[.agg #[.int .i64 M,.slice A n c],.int .i64 most,.slice B nb bc,.agg #[.string s,.string u],.slice LA nl lc,.int .i64 i,.int .i64 way] w fun e w'=>e = .returned (.bool true)∧Below w.heap.size w w':=by
 obtain⟨xs,hA,hS,hnc,hcm,hN⟩:=rowFlds hI
 obtain⟨lx,hL,hT,_,_,_⟩:=rowFlds hJ
 obtain⟨fa,rfl⟩ : ∃l:List UInt8,s=⟨l.toArray⟩:=⟨s.data.toList,by simp⟩
 obtain⟨fb,rfl⟩ : ∃l:List UInt8,u=⟨l.toArray⟩:=⟨u.data.toList,by simp⟩
 have hfa:fa.length≤140737488355328:=hs
 have hfb:fb.length≤140737488355328:=hu
 have hV:EnvF w [fF LA nl lx,bF B nb bs,fF A n xs,stF,rwF,mvF] []:=((start_env hR hA).addB hB).addF hL
 cases hg:grB xs with
 | true=>exact ut_g M most A n c xs B nb bc bs fa fb LA nl lc lx i way w hV (great_call hnc hcm hS hg)
 | false=>
  have HG:=great_call (M:=M) (A:=A) hnc hcm hS hg
  obtain⟨hl,hF⟩:=gr_full hg
  by_cases g0:2000<nb
  ·exact ut_x0 M most A n c xs B nb bc bs fa fb LA nl lc lx i way w hV HG hfa hfb g0
  by_cases g1:2000<fa.length
  ·exact ut_x1 M most A n c xs B nb bc bs fa fb LA nl lc lx i way w hV HG hfa hfb (by omega) g1
  by_cases g2:2000<fb.length
  ·exact ut_x2 M most A n c xs B nb bc bs fa fb LA nl lc lx i way w hV HG hfa hfb (by omega) (by omega) g2
  by_cases g3:60<nl
  ·exact ut_x3 M most A n c xs B nb bc bs fa fb LA nl lc lx i way w hV HG hfa hfb (by omega) (by omega) (by omega) g3
  have hll:lx.length=nl:=hL.1
  have hfl:full lx≤60*281474976710688:=full_many (by omega) (fun x hx=>by have:=hT x hx;unfold sz;omega)
  have e1:full (bL M most xs bs)≤2000:=bL_full
  have e2:=full_len (bL M most xs bs)
  have e3:full (bX M most xs bs)≤4096:=by
   by_cases h:bE M most xs bs=0
   ·have:=rt_bd (s:=⟨bM M most xs bs,bX M most xs bs,[]⟩) (b_right h);simp only at this;omega
   ·rw[(b_none h).2.2.2];exact Nat.zero_le _
  have e4:=full_len (bX M most xs bs)
  exact ut_main M most A n c xs B nb bc bs fa fb LA nl lc lx i way w hV HG hfa hfb (by omega) (by omega) (by omega) (by omega) (Lib.hid (bk_of M most xs bs)) hbc hNb hN (by omega) (Lib.hid (by omega)) (Lib.hid (by omega)) (Lib.hid (by unfold sameU sameB;simp)) (Lib.hid rfl) (Lib.hid (by omega)) (Lib.hid rfl) (Lib.hid rfl) (Lib.hid rfl) (Lib.hid rfl) (Lib.hid rfl) (Lib.hid rfl) (Lib.hid rfl) (Lib.hid rfl) (Lib.hid rfl) (Lib.hid rfl) (Lib.hid rfl) (Lib.hid rfl)
end Go.Proofs.YtahiajeggbpogaaGreatDoor
