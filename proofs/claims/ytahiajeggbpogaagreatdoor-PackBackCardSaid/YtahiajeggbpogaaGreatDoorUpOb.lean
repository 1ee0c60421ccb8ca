import Derived.Test.YtahiajeggbpogaaGreatDoorUpOr
set_option maxRecDepth 100000
set_option maxHeartbeats 4000000
namespace Go.Proofs.YtahiajeggbpogaaGreatDoor
open Go.RowKit Go.Shelf Px Tx Tb Up GD
set_option linter.unusedVariables false
set_option linter.unusedSimpArgs false
attribute [local go_sem] Oper.semAt_some
theorem infoc_Ob:(Tryz.prog.info? 4).map (·.size)=some 1:=by kernel_rfl
theorem Up.wp_last{P:Program}{c:Code}{Q:Exit→Act→World→Prop}{a:Act}{w:World}(h:c.wp P (Exit.then (fun a w=>Q .normal a w) (fun _ _ _=>False)) a w):c.wp P Q a w:=
 Code.wp_mono (fun e a w h=>by cases e<;>first | exact h | exact h.elim) h
theorem Up.set_twice{gl:List Bx}{i:Nat}{x y z:Bx}:((x::gl).set (i+1) y).set (i+1) z=x::gl.set i z:=by
 rw[List.set_set];rfl
theorem Up.EnvF.tail1{w:World}{fs:List Fact}{gl:List Bx}{x:Bx}(h:EnvF w fs (x::gl)):EnvF w fs gl:=h.sub (fun y hy=>hy) (List.sublist_cons_self _ _)
theorem Up.size_hid{f0 f1:ByteArray}{s:Nat}(hs:sz (f0,f1)=s)(hb:s≤1000000000):Hid (∀W:World,Calls Tryz.prog 37 #[.agg #[.string f0,.string f1]] W fun e w'=>e = .returned (.int .i64 (s:Int))∧Below W.heap.size W w'):=
 Lib.hid fun W=>hs ▸ r_size (f0,f1) W (by omega)
theorem d_tell_a{fs:List Fact}{gl:List Bx}{i g B:Nat}{LA:Option Addr}{ln lc:Nat}{v:Value}{G:Bool}{M:Int}{A:Option Addr}{n c S s:Nat}{Y:Bool}(f0 f1:ByteArray)(w:World)(hE:EnvF w fs gl)(hi:gl[i]? = some (g,opc LA ln lc v G M A n c S Y,67))(hB:B≤g)(hs:sz (f0,f1)=s)(hb1:s≤1000000000)(hb2:S≤1000000000)(h:2000<S+s) :
  Calls Tryz.prog 67 #[.pointer (some ⟨g,0,none⟩),.agg #[.string f0,.string f1]] w fun e w'=>e = .returned (.tuple #[])∧Below B w w'∧EnvF w' fs (gl.set i (g,opc LA ln lc v true M A n c (S+s) true,67)):=by
 have hg:g<w.heap.size:=(Array.getElem?_eq_some_iff.1 (hE.row i hi)).1
 have hBw:B≤w.heap.size:=by omega
 have K0:=Lib.hid (hE.boxg 27 #[.string f0,.string f1] w.heap.size rfl)
 have B0:=Lib.hid ((Below.refl B w).alloc (by omega) (.cells #[.string f0,.string f1] 27))
 have HS:=size_hid hs hb1
 have hi0:((w.heap.size,#[.string f0,.string f1],27)::gl)[i+1]? = some (g,opc LA ln lc v G M A n c S Y,67):=hi
 have hw1:IntKind.i64.wrap ((S:Int)+(s:Int))=((S+s:Nat):Int):=by rw[IntWalk.i64_in _ (by omega)];omega
 have HW1:=Lib.hid hw1
 obtain⟨S2,hS2⟩ : ∃q,S+s=q:=⟨_,rfl⟩
 have HS2:=Lib.hid hS2
 have hgt:decide ((2000:Int)<(S2:Int))=true:=decide_eq_true (by omega)
 clear hE hs hw1 hS2
 go_enter Tryz.func67,Tryz.ntmps67
 go_wp2_with (first
  | go_skip
  | (refine at_store 4 (.tmp 6) (.const (.bool true)) (by rfl) ?_;refine wpList_put (by rfl) 4 (.tmp 6) (.const (.bool true)) (by rfl) g 6 (.bool true) (by rfl) (by rfl) 67 (opc LA ln lc v G M A n c S Y) (opc LA ln lc v G M A n c S true) (K0.out.row (i+1) hi0) (by simp[Value.cells,opc]) (by kernel_rfl) infoc_Ob (by kernel_rfl) ?_;intro w1 hrow hoth hz hbl;have K1:=Lib.hid (K0.out.turn (i+1) hi0 hrow hoth hz);have B1:=Lib.hid (hbl _ _ hB B0.out);clear hrow hoth hz hbl K0 B0))
 refine t2_region (k:=0) (set_ix hi0) rfl hB (Nat.le_trans hBw B1.out.size) HS HW1.out (fun w2 K2' hb2'=>?_) K1.out (Below.refl B _)
 rw[set_twice,HS2.out] at K2'
 have K2:=Lib.hid K2'
 have B2:=Lib.hid (B1.out.trans hb2')
 have hi2:=Lib.hid (show((w.heap.size,#[.string f0,.string f1],27)::gl.set i (g,opc LA ln lc v G M A n c S2 true,67))[i+1]? = some (g,opc LA ln lc v G M A n c S2 true,67) from set_ix hi)
 clear K2' hb2' K1 B1
 rw[HS2.out]
 go_wp2_with (first
  | go_skip
  | (refine at_load 3 (.tmp 19) (by rfl) ?_;refine wpList_get (by rfl) 3 (.tmp 19) (by rfl) g 5 (by rfl) 67 (opc LA ln lc v G M A n c S2 true) (.int .i64 (S2:Int)) _ (K2.out.row (i+1) hi2.out) (by rfl) Tryz.underlying3 (by rfl) ?_)
  | (refine at_store 4 (.tmp 25) (.const (.bool true)) (by rfl) ?_;refine wpList_put (by rfl) 4 (.tmp 25) (.const (.bool true)) (by rfl) g 2 (.bool true) (by rfl) (by rfl) 67 (opc LA ln lc v G M A n c S2 true) (opc LA ln lc v true M A n c S2 true) (K2.out.row (i+1) hi2.out) (by simp[Value.cells,opc]) (by kernel_rfl) infoc_Ob (by kernel_rfl) ?_;intro w3 hrow hoth hz hbl;have K3:=Lib.hid (K2.out.turn (i+1) hi2.out hrow hoth hz);have B3:=Lib.hid (hbl _ _ hB B2.out);clear hrow hoth hz hbl)
  | (refine at_load 4 (.tmp 29) (by rfl) ?_;refine wpList_get (by rfl) 4 (.tmp 29) (by rfl) g 2 (by rfl) 67 (opc LA ln lc v true M A n c S2 true) (.bool true) _ (K3.out.row (i+1) (set_ix hi2.out)) (by rfl) Tryz.underlying4 (by rfl) ?_))
 have KF:=K3.out
 rw[List.set_cons_succ,List.set_set,←HS2.out] at KF
 exact bodyPost_end (v:=.tuple #[]) (by unfold results;rw[show Tryz.f67.results=#[] from rfl];simp) rfl ⟨rfl,B3.out,Up.EnvF.tail1 KF⟩
theorem d_tell_b{fs:List Fact}{gs lb:List Bx}{L:List Fd}{i g B:Nat}{LA:Option Addr}{ln lc:Nat}{v:Value}{G:Bool}{M:Int}{A:Option Addr}{n c S s:Nat}{Y:Bool}(f0 f1:ByteArray)(w:World)(hE:EnvF w fs (gs++lb))(hlb:LBox B v L lb)(hlen:L.length≤100000)(hG:G=false)(hi:gs[i]? = some (g,opc LA ln lc v G M A n c S Y,67))(hB:B≤g)(hs:sz (f0,f1)=s)(hb1:s≤1000000000)(hb2:S≤1000000000)(h:S+s≤2000) :
  Calls Tryz.prog 67 #[.pointer (some ⟨g,0,none⟩),.agg #[.string f0,.string f1]] w fun e w'=>e = .returned (.tuple #[])∧Below B w w'∧∃V lb',LBox B V (L++[(f0,f1)]) lb'∧EnvF w' fs (gs.set i (g,opc LA ln lc V false M A n c (S+s) true,67)++lb'):=by
 subst hG
 have hig:=hi
 replace hi:=ixl (lb:=lb) hi
 have hg:g<w.heap.size:=(Array.getElem?_eq_some_iff.1 (hE.row i hi)).1
 have hBw:B≤w.heap.size:=by omega
 have K0:=Lib.hid (hE.boxg 27 #[.string f0,.string f1] w.heap.size rfl)
 have B0:=Lib.hid ((Below.refl B w).alloc (by omega) (.cells #[.string f0,.string f1] 27))
 have HS:=size_hid hs hb1
 have hi0:((w.heap.size,#[.string f0,.string f1],27)::(gs++lb))[i+1]? = some (g,opc LA ln lc v false M A n c S Y,67):=hi
 have hw1:IntKind.i64.wrap ((S:Int)+(s:Int))=((S+s:Nat):Int):=by rw[IntWalk.i64_in _ (by omega)];omega
 have HW1:=Lib.hid hw1
 obtain⟨S2,hS2⟩ : ∃q,S+s=q:=⟨_,rfl⟩
 have HS2:=Lib.hid hS2
 have hgt:decide ((2000:Int)<(S2:Int))=false:=decide_eq_false (by omega)
 clear hE hs hw1 hS2
 go_enter Tryz.func67,Tryz.ntmps67
 go_wp2_with (first
  | go_skip
  | (refine at_store 4 (.tmp 6) (.const (.bool true)) (by rfl) ?_;refine wpList_put (by rfl) 4 (.tmp 6) (.const (.bool true)) (by rfl) g 6 (.bool true) (by rfl) (by rfl) 67 (opc LA ln lc v false M A n c S Y) (opc LA ln lc v false M A n c S true) (K0.out.row (i+1) hi0) (by simp[Value.cells,opc]) (by kernel_rfl) infoc_Ob (by kernel_rfl) ?_;intro w1 hrow hoth hz hbl;have K1:=Lib.hid (K0.out.turn (i+1) hi0 hrow hoth hz);have B1:=Lib.hid (hbl _ _ hB B0.out);clear hrow hoth hz hbl K0 B0))
 refine t2_region (k:=0) (set_ix hi0) rfl hB (Nat.le_trans hBw B1.out.size) HS HW1.out (fun w2 K2' hb2'=>?_) K1.out (Below.refl B _)
 rw[set_twice,HS2.out] at K2'
 have K2:=Lib.hid K2'
 have B2:=Lib.hid (B1.out.trans hb2')
 have hi2:=Lib.hid (show((w.heap.size,#[.string f0,.string f1],27)::(gs++lb).set i (g,opc LA ln lc v false M A n c S2 true,67))[i+1]? = some (g,opc LA ln lc v false M A n c S2 true,67) from set_ix hi)
 clear K2' hb2' K1 B1
 rw[HS2.out]
 go_wp2_with (first
  | go_skip
  | (refine at_load 3 (.tmp 19) (by rfl) ?_;refine wpList_get (by rfl) 3 (.tmp 19) (by rfl) g 5 (by rfl) 67 (opc LA ln lc v false M A n c S2 true) (.int .i64 (S2:Int)) _ (K2.out.row (i+1) hi2.out) (by rfl) Tryz.underlying3 (by rfl) ?_)
  | (refine at_load 4 (.tmp 29) (by rfl) ?_;refine wpList_get (by rfl) 4 (.tmp 29) (by rfl) g 2 (by rfl) 67 (opc LA ln lc v false M A n c S2 true) (.bool false) _ (K2.out.row (i+1) hi2.out) (by rfl) Tryz.underlying4 (by rfl) ?_))
 have K4:=K2.out
 rw[set_left (lt_ix hig)] at K4
 have K5:EnvF w2 fs (((w.heap.size,#[.string f0,.string f1],27)::gs.set i (g,opc LA ln lc v false M A n c S2 true,67))++lb):=K4
 refine Up.wp_last ?_
 refine t6_region (L:=L) (gs:=(w.heap.size,#[.string f0,.string f1],27)::gs.set i (g,opc LA ln lc v false M A n c S2 true,67)) (i:=i+1) (k:=0) (set_ix hig) rfl hlb hlen hB (Nat.le_trans hBw B2.out.size) (fun V lc2 gc w3 hl3 K6 hb3=>?_) K5 (Below.refl B _)
 have B3:=Lib.hid (B2.out.trans hb3)
 have K7:EnvF w3 fs ((w.heap.size,#[.string f0,.string f1],27)::(gs.set i (g,opc LA ln lc V false M A n c S2 true,67)++lc2)):=by
  rw[List.set_cons_succ,List.set_set] at K6
  exact K6
 rw[←HS2.out] at K7
 exact bodyPost_end (v:=.tuple #[]) (by unfold results;rw[show Tryz.f67.results=#[] from rfl];simp) rfl ⟨rfl,B3.out,V,lc2,hl3,Up.EnvF.tail1 K7⟩
end Go.Proofs.YtahiajeggbpogaaGreatDoor
