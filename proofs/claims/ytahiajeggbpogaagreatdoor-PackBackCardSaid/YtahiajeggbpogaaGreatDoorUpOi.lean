import Derived.Test.YtahiajeggbpogaaGreatDoorUpOh
import Derived.Test.YtahiajeggbpogaaGreatDoorUpLa
set_option maxRecDepth 100000
set_option maxHeartbeats 8000000
namespace Go.Proofs.YtahiajeggbpogaaGreatDoor
open Go.RowKit Go.Shelf Px Tx Tb Up GD
set_option linter.unusedVariables false
set_option linter.unusedSimpArgs false
attribute [local go_sem] Oper.semAt_some
theorem Up.part4{cs:Array Value}{k:Nat}{a b c d:Value}(h0:cs[k]? = some a)(h1:cs[k+1]? = some b)(h2:cs[k+2]? = some c)(h3:cs[k+3]? = some d) : ∀(j:Nat) (v:Value),(#[a,b,c,d]:Array Value).toList[j]? = some v→cs[k+j]? = some v:=fun j v h=>by
 rcases j with _ | _ | _ | _ | j
 ·simpa using h ▸ h0
 ·simpa using h ▸ h1
 ·simpa using h ▸ h2
 ·simpa using h ▸ h3
 ·simp at h
def Up.len0(w:World)(g:Nat):Nat:=match w.cell? ⟨g,0,none⟩ with
 | some (.slice _ n _)=>n
 | _=>0
theorem Up.OpR.len0{w:World}{fs:List Fact}{gs:List Bx}{i g B:Nat}{s:Sta}{T:List Fd}(h:OpR w fs gs i g B s T):Up.len0 w g=s.ls.length:=by
 obtain⟨cs,LA,ln,lc,h1,h2,h3,h4⟩:=h.left
 have:w.cell? ⟨g,0,none⟩=some (.slice LA ln lc):=by rw[cell_of_row w g 0 _ _ (0,0) h1];exact h2
 unfold Up.len0
 rw[this]
 exact h3.1.symm
theorem oS_less(most:Int){s:Sta}(T:List Fd)(h:s.ls≠[]):(oS most s T).ls.length<s.ls.length:=by
 unfold oS
 split
 ·exact zS_less h
 ·exact qS_less h
theorem oS_rt(most:Int){s:Sta}(T:List Fd)(h:rt s)(h1:most≤4096):rt (oS most s T):=by
 unfold oS
 split
 ·exact zS_rt h1 h
 ·exact qS_rt h
theorem oL_full{s:Sta}(T:List Fd)(h:rt s)(hl:s.ls.length≤10000):full (oL s T)≤full T+100000:=by
 unfold oL
 split
 ·omega
 ·rw[full_append]
  have:=qF_sz h hl
  simp only[full]
  omega
theorem d_blk_r{fs:List Fact}{gs:List Bx}(M most:Int)(A:Option Addr)(n c:Nat)(xs:List Fd)(LA:Option Addr)(ln lc:Nat)(ls:List UInt8)(w:World)(hV:EnvF w fs gs)(hA:fF A n xs∈fs)(HRT:Hid (∀w0:World,Fs w0 w0.heap.size A n xs→Calls Tryz.prog 36 #[.agg #[.int .i64 M,.slice A n c]] w0 fun e w'=>e = .returned (.bool false)∧Below w0.heap.size w0 w')) :
  Calls Tryz.prog 9 #[.agg #[.int .i64 M,.slice A n c],.int .i64 most,.slice LA ln lc] w fun e w'=>e = .returned (.tuple #[.agg #[.slice none 0 0,.bool false,.int .i64 0,.slice none 0 0],.int .i64 2])∧Below w.heap.size w w':=by
 have K0:=Lib.hid (((hV).boxg 24 #[.int .i64 M,.slice A n c] w.heap.size (by simp)).boxg 31 #[.slice none 0 0,.bool false,.int .i64 0,.slice none 0 0] (w.heap.size+1) (by simp))
 have G0:=Lib.hid (((Below.refl w.heap.size w).alloc (by simp) (.cells #[.int .i64 M,.slice A n c] 24)).alloc (by simp) (.cells #[.slice none 0 0,.bool false,.int .i64 0,.slice none 0 0] 31))
 clear hV
 go_enter Tryz.func9,Tryz.ntmps9
 go_wp2_with (first
  | go_skip
  | (refine at_load 24 (.tmp 3) (by rfl) ?_;refine wpListG_row (by rfl) 24 (.tmp 3) (by rfl) w.heap.size (by rfl) 24 #[.int .i64 M,.slice A n c] _ (K0.out.row 1 rfl) Tryz.underlying24 (by rfl) infoc_T ?_)
  | (go_at_call 36;(with_reducible refine(HRT.out _ (K0.out.fs hA)).mono ?_);rintro e w1 ⟨rfl,hb⟩;have K1:=Lib.hid (K0.out.on hb);have G1:=Lib.hid (below_step G0.out hb);clear hb K0 G0)
  | (refine at_dst 21 (by rfl) ?_;refine wpList_val (by rfl) (.agg #[.slice none 0 0,.bool false,.int .i64 0,.slice none 0 0]) (by kernel_rfl) ?_)
  | (refine at_store 31 (.tmp 6) (.tmp 21) (by rfl) ?_;refine wpList_put (by rfl) 31 (.tmp 6) (.tmp 21) (by rfl) (w.heap.size+1) 0 (.agg #[.slice none 0 0,.bool false,.int .i64 0,.slice none 0 0]) (by rfl) (by rfl) 31 #[.slice none 0 0,.bool false,.int .i64 0,.slice none 0 0] #[.slice none 0 0,.bool false,.int .i64 0,.slice none 0 0] (K1.out.row 0 rfl) (by simp[Value.cells]) (by kernel_rfl) infoc_U (by kernel_rfl) ?_;intro w2 hrow hoth hz hbl;have K2:=Lib.hid (K1.out.turn 0 rfl hrow hoth hz);have G2:=Lib.hid (hbl _ _ (by omega) G1.out);clear hrow hoth hz hbl K1 G1))
 exact bodyPost_ret (res_cell_tmp rfl _ _ _ _ _ _ rfl (K2.out.row 0 rfl) Tryz.underlying31 rfl infoc_U) rfl ⟨rfl,G2.out⟩
theorem d_blk_m0{fs:List Fact}{gs:List Bx}(M most:Int)(A:Option Addr)(n c:Nat)(xs:List Fd)(LA:Option Addr)(ln lc:Nat)(ls:List UInt8)(w:World)(hV:EnvF w fs gs)(hA:fF A n xs∈fs)(HRT:Hid (∀w0:World,Fs w0 w0.heap.size A n xs→Calls Tryz.prog 36 #[.agg #[.int .i64 M,.slice A n c]] w0 fun e w'=>e = .returned (.bool true)∧Below w0.heap.size w0 w'))(h:most<0) :
  Calls Tryz.prog 9 #[.agg #[.int .i64 M,.slice A n c],.int .i64 most,.slice LA ln lc] w fun e w'=>e = .returned (.tuple #[.agg #[.slice none 0 0,.bool false,.int .i64 0,.slice none 0 0],.int .i64 2])∧Below w.heap.size w w':=by
 have K0:=Lib.hid (((hV).boxg 24 #[.int .i64 M,.slice A n c] w.heap.size (by simp)).boxg 31 #[.slice none 0 0,.bool false,.int .i64 0,.slice none 0 0] (w.heap.size+1) (by simp))
 have G0:=Lib.hid (((Below.refl w.heap.size w).alloc (by simp) (.cells #[.int .i64 M,.slice A n c] 24)).alloc (by simp) (.cells #[.slice none 0 0,.bool false,.int .i64 0,.slice none 0 0] 31))
 have dd0:decide (most<0)=true:=decide_eq_true (by omega)
 clear hV
 go_enter Tryz.func9,Tryz.ntmps9
 go_wp2_with (first
  | go_skip
  | (refine at_load 24 (.tmp 3) (by rfl) ?_;refine wpListG_row (by rfl) 24 (.tmp 3) (by rfl) w.heap.size (by rfl) 24 #[.int .i64 M,.slice A n c] _ (K0.out.row 1 rfl) Tryz.underlying24 (by rfl) infoc_T ?_)
  | (go_at_call 36;(with_reducible refine(HRT.out _ (K0.out.fs hA)).mono ?_);rintro e w1 ⟨rfl,hb⟩;have K1:=Lib.hid (K0.out.on hb);have G1:=Lib.hid (below_step G0.out hb);clear hb K0 G0)
  | (refine at_dst 21 (by rfl) ?_;refine wpList_val (by rfl) (.agg #[.slice none 0 0,.bool false,.int .i64 0,.slice none 0 0]) (by kernel_rfl) ?_)
  | (refine at_store 31 (.tmp 6) (.tmp 21) (by rfl) ?_;refine wpList_put (by rfl) 31 (.tmp 6) (.tmp 21) (by rfl) (w.heap.size+1) 0 (.agg #[.slice none 0 0,.bool false,.int .i64 0,.slice none 0 0]) (by rfl) (by rfl) 31 #[.slice none 0 0,.bool false,.int .i64 0,.slice none 0 0] #[.slice none 0 0,.bool false,.int .i64 0,.slice none 0 0] (K1.out.row 0 rfl) (by simp[Value.cells]) (by kernel_rfl) infoc_U (by kernel_rfl) ?_;intro w2 hrow hoth hz hbl;have K2:=Lib.hid (K1.out.turn 0 rfl hrow hoth hz);have G2:=Lib.hid (hbl _ _ (by omega) G1.out);clear hrow hoth hz hbl K1 G1))
 exact bodyPost_ret (res_cell_tmp rfl _ _ _ _ _ _ rfl (K2.out.row 0 rfl) Tryz.underlying31 rfl infoc_U) rfl ⟨rfl,G2.out⟩
theorem d_blk_m1{fs:List Fact}{gs:List Bx}(M most:Int)(A:Option Addr)(n c:Nat)(xs:List Fd)(LA:Option Addr)(ln lc:Nat)(ls:List UInt8)(w:World)(hV:EnvF w fs gs)(hA:fF A n xs∈fs)(HRT:Hid (∀w0:World,Fs w0 w0.heap.size A n xs→Calls Tryz.prog 36 #[.agg #[.int .i64 M,.slice A n c]] w0 fun e w'=>e = .returned (.bool true)∧Below w0.heap.size w0 w'))(h0:0≤most)(h:4096<most) :
  Calls Tryz.prog 9 #[.agg #[.int .i64 M,.slice A n c],.int .i64 most,.slice LA ln lc] w fun e w'=>e = .returned (.tuple #[.agg #[.slice none 0 0,.bool false,.int .i64 0,.slice none 0 0],.int .i64 2])∧Below w.heap.size w w':=by
 have K0:=Lib.hid (((hV).boxg 24 #[.int .i64 M,.slice A n c] w.heap.size (by simp)).boxg 31 #[.slice none 0 0,.bool false,.int .i64 0,.slice none 0 0] (w.heap.size+1) (by simp))
 have G0:=Lib.hid (((Below.refl w.heap.size w).alloc (by simp) (.cells #[.int .i64 M,.slice A n c] 24)).alloc (by simp) (.cells #[.slice none 0 0,.bool false,.int .i64 0,.slice none 0 0] 31))
 have dd0:decide (most<0)=false:=decide_eq_false (by omega)
 have dd1:decide (4096<most)=true:=decide_eq_true (by omega)
 clear hV
 go_enter Tryz.func9,Tryz.ntmps9
 go_wp2_with (first
  | go_skip
  | (refine at_load 24 (.tmp 3) (by rfl) ?_;refine wpListG_row (by rfl) 24 (.tmp 3) (by rfl) w.heap.size (by rfl) 24 #[.int .i64 M,.slice A n c] _ (K0.out.row 1 rfl) Tryz.underlying24 (by rfl) infoc_T ?_)
  | (go_at_call 36;(with_reducible refine(HRT.out _ (K0.out.fs hA)).mono ?_);rintro e w1 ⟨rfl,hb⟩;have K1:=Lib.hid (K0.out.on hb);have G1:=Lib.hid (below_step G0.out hb);clear hb K0 G0)
  | (refine at_dst 21 (by rfl) ?_;refine wpList_val (by rfl) (.agg #[.slice none 0 0,.bool false,.int .i64 0,.slice none 0 0]) (by kernel_rfl) ?_)
  | (refine at_store 31 (.tmp 6) (.tmp 21) (by rfl) ?_;refine wpList_put (by rfl) 31 (.tmp 6) (.tmp 21) (by rfl) (w.heap.size+1) 0 (.agg #[.slice none 0 0,.bool false,.int .i64 0,.slice none 0 0]) (by rfl) (by rfl) 31 #[.slice none 0 0,.bool false,.int .i64 0,.slice none 0 0] #[.slice none 0 0,.bool false,.int .i64 0,.slice none 0 0] (K1.out.row 0 rfl) (by simp[Value.cells]) (by kernel_rfl) infoc_U (by kernel_rfl) ?_;intro w2 hrow hoth hz hbl;have K2:=Lib.hid (K1.out.turn 0 rfl hrow hoth hz);have G2:=Lib.hid (hbl _ _ (by omega) G1.out);clear hrow hoth hz hbl K1 G1))
 exact bodyPost_ret (res_cell_tmp rfl _ _ _ _ _ _ rfl (K2.out.row 0 rfl) Tryz.underlying31 rfl infoc_U) rfl ⟨rfl,G2.out⟩
theorem d_blk_go{fs:List Fact}{gs:List Bx}(M most:Int)(A:Option Addr)(n c:Nat)(xs:List Fd)(LA:Option Addr)(ln lc:Nat)(ls:List UInt8)(w:World)(hV:EnvF w fs gs)(hA:fF A n xs∈fs)(HRT:Hid (∀w0:World,Fs w0 w0.heap.size A n xs→Calls Tryz.prog 36 #[.agg #[.int .i64 M,.slice A n c]] w0 fun e w'=>e = .returned (.bool true)∧Below w0.heap.size w0 w'))(hL:bF LA ln ls∈fs)(hLN:LA=none→lc=0)(hN0:A=none→c=0)(hF:full xs≤20000)(hnl:ln≤8000)(hrt:rightB M xs=true)(h0:0≤most)(h1:most≤4096)(E0:Int)(T0:List Fd)(s0:Sta)(hdn:dn most ls.length ⟨M,xs,ls⟩ []=(E0,T0,s0)) :
  Calls Tryz.prog 9 #[.agg #[.int .i64 M,.slice A n c],.int .i64 most,.slice LA ln lc] w fun e w'=>(E0≠0∧e = .returned (.tuple #[.agg #[.slice none 0 0,.bool false,.int .i64 0,.slice none 0 0],.int .i64 E0])∧Below w.heap.size w w')∨(E0=0∧∃LL cl TT tc,e = .returned (.tuple #[.agg #[.slice LL (keep 2000 T0).length cl,.bool (decide (2000<full T0)),.int .i64 s0.M,.slice TT s0.xs.length tc],.int .i64 0])∧Below w.heap.size w w'∧EnvF w' (fF LL (keep 2000 T0).length (keep 2000 T0)::fF TT s0.xs.length s0.xs::fs) gs∧(LL=none→cl=0)∧(TT=none→tc=0)):=by
 obtain⟨i0,hi,hz0,hz1,hz2⟩:=info_parts info_tu8
 have hinf:=Lib.hid (And.intro hi (And.intro hz0 (And.intro hz1 hz2)))
 have hlen:=Lib.hid (hV.bs hL).1
 have hxn:=Lib.hid (hV.fs hA).1
 have HL:=Lib.hid hL
 have hN:=Lib.hid hN0
 have hdn':=Lib.hid hdn
 have hrt':=Lib.hid hrt
 have hr:Hid (resM M xs M=M∧resE M xs M=0∧resL M xs M=xs∧xs.length=n):=Lib.hid (by
  have hbd:=rt_bd (s:=⟨M,xs,ls⟩) hrt
  obtain⟨a1,a2,a3,a4⟩:=res_ok (m:=M) hrt hbd.1 hbd.2.1
  exact⟨a2,a1,a3.trans (keep_all hbd.2.2),hxn.out⟩)
 clear hi hz0 hz1 hz2 hL hN0 hdn hrt
 have K0:=Lib.hid (((hV).boxg 24 #[.int .i64 M,.slice A n c] w.heap.size (by simp)).boxg 31 #[.slice none 0 0,.bool false,.int .i64 0,.slice none 0 0] (w.heap.size+1) (by simp))
 have G0:=Lib.hid (((Below.refl w.heap.size w).alloc (by simp) (.cells #[.int .i64 M,.slice A n c] 24)).alloc (by simp) (.cells #[.slice none 0 0,.bool false,.int .i64 0,.slice none 0 0] 31))
 have dd0:decide (most<0)=false:=decide_eq_false (by omega)
 have dd1:decide (4096<most)=false:=decide_eq_false (by omega)
 clear hV
 go_enter Tryz.func9,Tryz.ntmps9
 go_wp2_with (first
  | go_skip
  | (refine at_load 24 (.tmp 3) (by rfl) ?_;refine wpListG_row (by rfl) 24 (.tmp 3) (by rfl) w.heap.size (by rfl) 24 #[.int .i64 M,.slice A n c] _ (K0.out.row 1 rfl) Tryz.underlying24 (by rfl) infoc_T ?_)
  | (go_at_call 36;(with_reducible refine(HRT.out _ (K0.out.fs hA)).mono ?_);rintro e w1 ⟨rfl,hb⟩;have K1:=Lib.hid (K0.out.on hb);have G1:=Lib.hid (below_step G0.out hb);clear hb K0 G0)
  | (at_builtin;refine wpList_append_bytes _ rfl (.tmp 22) (.tmp 23) 25 rfl w1.heap.size 5 i0 Tryz.underlying25 hinf.out.1 hinf.out.2.1 hinf.out.2.2.1 hinf.out.2.2.2 _ [] rfl (OwnB.lit w1 _ _ (Nat.le_refl _)) _ LA ln lc ls rfl ((K1.out.al _).bs HL.out) hLN (by simp only[List.length_nil];omega) (by simp) ?_;intro v5 w5 ho hb;obtain⟨A2,c2,rfl,hh⟩:=ho.handS (n:=ln) (by simp;exact hlen.out);have hb5:=((Below.refl w1.heap.size w1).alloc (Nat.le_refl _) (.cells #[] 5)).trans hb;have K5:=Lib.hid (K1.out.handS hb5 hh);have HC:=Lib.hid hh.2.2;have G5:=Lib.hid (below_step G1.out hb5);clear ho hb hh hb5 K1 G1)
  | (refine at_dst 25 (by rfl) ?_;refine wpList_val (by rfl) (.agg #[.slice A2 ln c2,.slice none 0 0,.bool false,.int .i64 0,.slice none 0 0,.int .i64 0,.bool false]) (by kernel_rfl) ?_;have K5b:=Lib.hid (K5.out.boxg 67 #[.slice A2 ln c2,.slice none 0 0,.bool false,.int .i64 0,.slice none 0 0,.int .i64 0,.bool false] w5.heap.size rfl);have B5b:=Lib.hid ((Below.refl w5.heap.size w5).alloc (Nat.le_refl _) (.cells #[.slice A2 ln c2,.slice none 0 0,.bool false,.int .i64 0,.slice none 0 0,.int .i64 0,.bool false] 67)))
  | (refine at_load 24 (.tmp 3) (by rfl) ?_;refine wpListG_row (by rfl) 24 (.tmp 3) (by rfl) w.heap.size (by rfl) 24 #[.int .i64 M,.slice A n c] _ (K5b.out.row 2 rfl) Tryz.underlying24 (by rfl) infoc_T ?_)
  | (refine at_load 3 (.tmp 30) (by rfl) ?_;refine wpListG_get (by rfl) 3 (.tmp 30) (by rfl) w.heap.size 0 (by rfl) 24 #[.int .i64 M,.slice A n c] (.int .i64 M) _ (K5b.out.row 2 rfl) (by rfl) Tryz.underlying3 (by rfl) ?_)
  | (go_at_call 43;(with_reducible refine(l_resize (A:=A) (n:=n) (xs:=xs) _ K5b.out (List.mem_cons_of_mem _ hA) hN.out (by omega) hr.out.1 hr.out.2.1 hr.out.2.2.1 hr.out.2.2.2).mono ?_);rintro e w6 ⟨A3,c3,rfl,hb,hE,h30⟩;have K6:=Lib.hid hE;have H3:=Lib.hid h30;have B6:=Lib.hid (B5b.out.trans (hb.mono (by simp)));clear hb hE h30 K5b B5b)
  | (refine at_store 24 (.tmp 37) (.tmp 33) (by rfl) ?_;refine wpList_put (by rfl) 24 (.tmp 37) (.tmp 33) (by rfl) w5.heap.size 3 (.agg #[.int .i64 M,.slice A3 n c3]) (by rfl) (by rfl) 67 #[.slice A2 ln c2,.slice none 0 0,.bool false,.int .i64 0,.slice none 0 0,.int .i64 0,.bool false] #[.slice A2 ln c2,.slice none 0 0,.bool false,.int .i64 M,.slice A3 n c3,.int .i64 0,.bool false] (K6.out.row 0 rfl) (by simp[Value.cells]) (by kernel_rfl) infoc_T (by kernel_rfl) ?_;intro w7 hrow hoth hz hbl;have K7:=Lib.hid (K6.out.turn 0 rfl hrow hoth hz);have B7:=Lib.hid (hbl _ _ (Nat.le_refl _) B6.out);clear hrow hoth hz hbl K6 B6;refine Hid.out ?_))
 refine Lib.hid ?_
 have KR:OpR w7 (bF A2 ln ([]++ls)::fs) ((w5.heap.size,#[.slice A2 ln c2,.slice none 0 0,.bool false,.int .i64 0,.slice none 0 0,.int .i64 0,.bool false],67)::(w.heap.size+1,#[.slice none 0 0,.bool false,.int .i64 0,.slice none 0 0],31)::(w.heap.size,#[.int .i64 M,.slice A n c],24)::gs) 0 w5.heap.size w5.heap.size ⟨M,xs,[]++ls⟩ []:=⟨Nat.le_refl _,by simp,A2,ln,c2,A3,n,c3,_,[],.inl ⟨rfl,rfl,rfl⟩,HC.out.1,HC.out.2,H3.out,by
  have k:=K7.out
  rw[List.append_nil]
  rw[List.nil_append] at k ⊢
  exact k.sub (fun x hx=>by
   simp only[List.mem_cons] at hx ⊢
   rcases hx with rfl | rfl | hx
   ·exact .inl rfl
   ·exact .inr (.inl rfl)
   ·exact .inr hx) (List.Sublist.refl _)⟩
 rw[List.nil_append] at KR
 have KRH:=Lib.hid KR
 have K5e:=Lib.hid (K5.out.sub (fs':=bF A2 ln ([]++ls)::fs) (fun x hx=>hx) (List.Sublist.refl _))
 rw[List.nil_append] at K5e
 have B7e:=Lib.hid B7.out
 have G5e:=Lib.hid G5.out
 clear KR K7 B7 K5 G5
 go_wp2
 go_loopw [9] (fun _ wr=>∃(f:Nat) (s:Sta) (T:List Fd),s.ls.length≤f∧dn most f s T=(E0,T0,s0)∧OpR wr (bF A2 ln ls::fs) ((w5.heap.size,#[.slice A2 ln c2,.slice none 0 0,.bool false,.int .i64 0,.slice none 0 0,.int .i64 0,.bool false],67)::(w.heap.size+1,#[.slice none 0 0,.bool false,.int .i64 0,.slice none 0 0],31)::(w.heap.size,#[.int .i64 M,.slice A n c],24)::gs) 0 w5.heap.size w5.heap.size s T∧rt s∧full T≤100000*(ln-s.ls.length)∧s.ls.length≤ln∧Below w5.heap.size w5 wr) (fun _ wr=>Up.len0 wr w5.heap.size)
 case atStart=>exact⟨ls.length,⟨M,xs,ls⟩,[],Nat.le_refl _,hdn'.out,KRH.out,hrt'.out,by simp[full],Nat.le_of_eq hlen.out,B7e.out⟩
 case round=>
  obtain⟨f,s,T,hf,hd',ho,hrt2,hft,hsl,hbl⟩:=hrel
  have HO:=Lib.hid ho
  have HBL:=Lib.hid hbl
  have HDN:=Lib.hid hd'
  have HRT2:=Lib.hid hrt2
  have hm0:Hid (Up.len0 wr w5.heap.size=s.ls.length):=Lib.hid ho.len0
  obtain⟨k1,k2,LA',ln',lc',A',n',c',v,lb,hlb,k4,k5,k6,hk⟩:=ho
  obtain⟨LL,cl,rfl,hnn⟩:=hlb.form
  obtain⟨nk,hnk⟩ : ∃k,(keep 2000 T).length=k:=⟨_,rfl⟩
  rw[hnk] at hk hlb
  have HNN:=Lib.hid hnn
  have HK:=Lib.hid hk
  have HLB:=Lib.hid hlb
  have HN6:=Lib.hid k6
  have hl':ln'=s.ls.length:=(hk.bs (A:=LA') (n:=ln') (xs:=s.ls) (by simp)).1.symm
  have hx':s.xs.length=n':=(hk.fs (A:=A') (n:=n') (xs:=s.xs) (by simp)).1
  have G8:=Lib.hid (below_step G5e.out hbl)
  clear k1 k2 k4 k5 k6 hk hlb hnn hbl hd' hrt2 KRH B7e
  by_cases hne:s.ls=[]
  ·have z:ln'=0:=by rw[hl',hne];rfl
   have hp0:decide (0<ln')=false:=decide_eq_false (by omega)
   have hp:decide ((0:Int)<(ln':Int))=false:=decide_eq_false (by omega)
   have hdd:(0,T,s)=(E0,T0,s0):=by
    rw[←HDN.out]
    cases f with
    | zero=>rfl
    | succ f=>unfold dn;rw[if_pos hne]
   obtain⟨rfl,e2⟩:=Prod.mk.inj hdd
   obtain⟨rfl,rfl⟩:=Prod.mk.inj e2
   clear hdd e2
   have K8:=Lib.hid HK.out
   go_wp2_with (first
    | go_skip
    | (refine at_load 25 (.tmp 40) (by rfl) ?_;refine wpListG_get (by rfl) 25 (.tmp 40) (by rfl) w5.heap.size 0 (by rfl) 67 (opc LA' ln' lc' (.slice LL nk cl) (decide (2000<full T)) s.M A' n' c' (full T) (!T.isEmpty)) (.slice LA' ln' lc') _ (HK.out.row 0 rfl) (by rfl) Tryz.underlying25 (by rfl) ?_)
    | (refine at_load 31 (.tmp 53) (by rfl) ?_;refine wpList_part (by rfl) 31 (.tmp 53) (by rfl) w5.heap.size 1 (by rfl) 67 (opc LA' ln' lc' (.slice LL nk cl) (decide (2000<full T)) s.M A' n' c' (full T) (!T.isEmpty)) #[.slice LL nk cl,.bool (decide (2000<full T)),.int .i64 s.M,(.slice A' n' c')] _ (HK.out.row 0 rfl) (Up.part4 (by rfl) (by rfl) (by rfl) (by rfl)) Tryz.underlying31 (by rfl) infoc_U ?_)
    | (refine at_store 31 (.tmp 6) (.tmp 54) (by rfl) ?_;refine wpList_put (by rfl) 31 (.tmp 6) (.tmp 54) (by rfl) (w.heap.size+1) 0 (.agg #[.slice LL nk cl,.bool (decide (2000<full T)),.int .i64 s.M,(.slice A' n' c')]) (by rfl) (by rfl) 31 #[.slice none 0 0,.bool false,.int .i64 0,.slice none 0 0] #[.slice LL nk cl,.bool (decide (2000<full T)),.int .i64 s.M,(.slice A' n' c')] (K8.out.row 1 rfl) (by simp[Value.cells]) (by kernel_rfl) infoc_U (by kernel_rfl) ?_;intro w9 hrow hoth hz hbl;have K9:=Lib.hid (K8.out.turn 1 rfl hrow hoth hz);have G9:=Lib.hid (hbl _ _ (by omega) G8.out);clear hrow hoth hz hbl K8 G8))
   refine bodyPost_ret (res_cell_tmp rfl _ _ _ _ _ _ rfl (K9.out.row 1 rfl) Tryz.underlying31 rfl infoc_U) rfl ⟨LL,cl,A',c',?_,G9.out,?_,HNN.out,HN6.out⟩
   ·first | rfl | (rw[hnk];rfl) | (rw[hx'];rfl) | (rw[hnk,hx'];rfl)
   ·(try rw[hnk]);(try rw[hx'])
    have KF:=K9.out.sub (fs':=fF A' n' s.xs::fs) (gs':=gs++lb) (fun y hy=>by simp only[List.mem_cons] at hy ⊢;rcases hy with rfl | hy<;>simp[*]) ((((List.Sublist.refl _).cons _).cons _).cons _)
    exact lbox_fact KF HLB.out hnk
  ·have z:0<ln':=by rw[hl'];exact List.length_pos_iff.2 hne
   have hp0:decide (0<ln')=true:=decide_eq_true (by omega)
   have hp:decide ((0:Int)<(ln':Int))=true:=decide_eq_true (by omega)
   obtain⟨f',rfl⟩ : ∃f',f=f'+1:=⟨f-1,by omega⟩
   have hC:Hid (Calls Tryz.prog 44 #[.pointer (some ⟨w5.heap.size,0,none⟩),.int .i64 most] wr fun e w'=>∃E,e = .returned (.int .i64 E)∧Below w5.heap.size wr w'∧(E=oE most s T∧(E=0→OpR w' (bF A2 ln ls::fs) ((w5.heap.size,#[.slice A2 ln c2,.slice none 0 0,.bool false,.int .i64 0,.slice none 0 0,.int .i64 0,.bool false],67)::(w.heap.size+1,#[.slice none 0 0,.bool false,.int .i64 0,.slice none 0 0],31)::(w.heap.size,#[.int .i64 M,.slice A n c],24)::gs) 0 w5.heap.size w5.heap.size (oS most s T) (oL s T)))):=Lib.hid (d_one most HO.out hne (by omega) HRT2.out h0 h1 (by omega))
   have hdn2:Hid ((if oE most s T≠0 then (oE most s T,[],s) else dn most f' (oS most s T) (oL s T))=(E0,T0,s0)):=Lib.hid (by
    rw[←HDN.out]
    conv=>rhs;unfold dn
    rw[if_neg hne])
   obtain⟨Eq,hEq⟩ : ∃E,oE most s T=E:=⟨_,rfl⟩
   by_cases hz:Eq=0
   ·subst hz
    have hEQ:=Lib.hid hEq
    clear hEq
    go_wp2_with (first
     | go_skip
     | (refine at_load 25 (.tmp 40) (by rfl) ?_;refine wpListG_get (by rfl) 25 (.tmp 40) (by rfl) w5.heap.size 0 (by rfl) 67 (opc LA' ln' lc' (.slice LL nk cl) (decide (2000<full T)) s.M A' n' c' (full T) (!T.isEmpty)) (.slice LA' ln' lc') _ (HK.out.row 0 rfl) (by rfl) Tryz.underlying25 (by rfl) ?_)
     | (go_at_call 44;(with_reducible refine hC.out.mono ?_);rintro e w9 ⟨E,rfl,hb,hE,hk⟩;obtain rfl:E=0:=hE.trans hEQ.out;have HK9:=Lib.hid (hk rfl);have HB9:=Lib.hid hb;clear hE;clear hb hk))
    go_roundw
    case rel=>
     have h:=hdn2.out
     have hl9:=oS_less most T hne
     rw[if_neg (fun g=>g hEQ.out)] at h
     refine⟨f',oS most s T,oL s T,by omega,h,HK9.out,oS_rt most T HRT2.out h1,?_,by omega,HBL.out.trans HB9.out⟩
     have:=oL_full T HRT2.out (by omega)
     omega
    case measure=>rw[HK9.out.len0,hm0.out];exact oS_less most T hne
   ·have hb1:(Eq != 0)=true:=by rw[bne_iff_ne];exact hz
    have hE0:Eq=E0:=by
     have h:=hdn2.out
     rw[if_pos (by rw[hEq];exact hz),hEq] at h
     exact(Prod.mk.inj h).1
    have hEQ:=Lib.hid hEq
    have hEZ:=Lib.hid hE0
    have hZZ:=Lib.hid hz
    clear hEq hE0 hz
    go_wp2_with (first
     | go_skip
     | (refine at_load 25 (.tmp 40) (by rfl) ?_;refine wpListG_get (by rfl) 25 (.tmp 40) (by rfl) w5.heap.size 0 (by rfl) 67 (opc LA' ln' lc' (.slice LL nk cl) (decide (2000<full T)) s.M A' n' c' (full T) (!T.isEmpty)) (.slice LA' ln' lc') _ (HK.out.row 0 rfl) (by rfl) Tryz.underlying25 (by rfl) ?_)
     | (go_at_call 44;(with_reducible refine hC.out.mono ?_);rintro e w9 ⟨E,rfl,hb,hE,hk⟩;obtain rfl:E=Eq:=hE.trans hEQ.out;have K9:=Lib.hid (K5e.out.on (HBL.out.trans hb));have G9:=Lib.hid (below_step G5e.out (HBL.out.trans hb));clear hE;clear hb hk)
     | (refine at_dst 49 (by rfl) ?_;refine wpList_val (by rfl) (.agg #[.slice none 0 0,.bool false,.int .i64 0,.slice none 0 0]) (by kernel_rfl) ?_)
     | (refine at_store 31 (.tmp 6) (.tmp 49) (by rfl) ?_;refine wpList_put (by rfl) 31 (.tmp 6) (.tmp 49) (by rfl) (w.heap.size+1) 0 (.agg #[.slice none 0 0,.bool false,.int .i64 0,.slice none 0 0]) (by rfl) (by rfl) 31 #[.slice none 0 0,.bool false,.int .i64 0,.slice none 0 0] #[.slice none 0 0,.bool false,.int .i64 0,.slice none 0 0] (K9.out.row 0 rfl) (by simp[Value.cells]) (by kernel_rfl) infoc_U (by kernel_rfl) ?_;intro w10 hrow hoth hz hbl;have K10:=Lib.hid (K9.out.turn 0 rfl hrow hoth hz);have G10:=Lib.hid (hbl _ _ (by omega) G9.out);clear hrow hoth hz hbl K9 G9))
    exact bodyPost_ret (res_cell_tmp rfl _ _ _ _ _ _ rfl (K10.out.row 0 rfl) Tryz.underlying31 rfl infoc_U) rfl (.inl ⟨hEZ.out ▸ hZZ.out,by rw[hEZ.out];rfl,G10.out⟩)
end Go.Proofs.YtahiajeggbpogaaGreatDoor
