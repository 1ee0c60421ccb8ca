import Derived.Test.YtahiajeggbpogaaGreatDoorUpJ
set_option maxRecDepth 100000
set_option maxHeartbeats 4000000
namespace Go.Proofs.YtahiajeggbpogaaGreatDoor
open Go.RowKit Px Tx Tb Up
set_option linter.unusedVariables false
set_option linter.unusedSimpArgs false
namespace Up
def lenAt(w:World)(g:Nat):Nat:=match w.cell? ⟨g,4,none⟩ with
 | some (.slice _ n _)=>n
 | _=>0
theorem Opn.lenAt{w:World}{fs:List Fact}{gs:List Bx}{i g K:Nat}{most:Int}{A:Option Addr}{n c:Nat}{LA:Option Addr}{ln lc:Nat}{s:Sta}(h:Opn w fs gs i g K most A n c LA ln lc s):lenAt w g=ln:=by
 have:w.cell? ⟨g,4,none⟩=some (.slice LA ln lc):=by rw[cell_of_row w g 4 _ _ (0,0) h.row];rfl
 unfold Up.lenAt
 rw[this]
theorem nR_less{ls:List UInt8}{k:Nat}(hk:k≤8)(h:ls≠[]):(nR ls k).length<ls.length:=by
 have h0:0<ls.length:=List.length_pos_iff.2 h
 by_cases hc:nC ls k=0
 ·exact n_less hk hc
 ·unfold nR nU
  rw[if_neg hc,List.length_drop]
  omega
theorem zS_less{most:Int}{s:Sta}(h:s.ls≠[]):(zS most s).ls.length<s.ls.length:=by
 have:=nR_less (k:=kb (hd s.ls)) (by have:=kb_bd (hd s.ls);omega) h
 unfold zS qR
 split
 ·exact this
 ·split<;>exact this
theorem zS_full{most:Int}{s:Sta}:full (zS most s).xs≤full s.xs:=by
 unfold zS
 split
 ·exact Nat.le_refl _
 ·split
  ·exact Nat.le_refl _
  ·simp only
   unfold resL
   split
   ·exact keep_sub _ _
   ·simp[full]
theorem zs_more {most : Int} : ∀ (f k : Nat) (s : Sta), s.ls.length ≤ k → k ≤ f → zs most f s = zs most k s
  | 0, k, s, h1, h2 => by obtain rfl : k = 0 := by omega
                          rfl
  | f + 1, 0, s, h1, h2 => by
    have e : s.ls = [] := List.eq_nil_of_length_eq_zero (by omega)
    unfold zs
    rw [if_pos (.inl e)]
  | f + 1, k + 1, s, h1, h2 => by
    unfold zs
    by_cases g : s.ls = [] ∨ kk (hd s.ls) ≠ 3
    · rw [if_pos g, if_pos g]
    · rw [if_neg g, if_neg g]
      have hl := zS_less (most := most) (s := s) (fun h => g (.inl h))
      rw [zs_more f k (zS most s) (by omega) (by omega)]
theorem bZ_stop{most:Int}{s:Sta}(h:s.ls=[]∨kk (hd s.ls)≠3):bZ most s=(0,s):=by
 unfold bZ
 cases hl:s.ls.length with
 | zero=>rfl
 | succ k=>unfold zs;rw[if_pos h]
theorem bZ_go{most:Int}{s:Sta}(h:s.ls≠[])(h3:kk (hd s.ls)=3):bZ most s=if zE most s≠0 then (zE most s,zS most s) else bZ most (zS most s):=by
 unfold bZ
 have hl:=zS_less (most:=most) h
 cases hn:s.ls.length with
 | zero=>omega
 | succ k=>
  rw[zs,if_neg (by rintro (g | g);exact h g;exact g h3)]
  rw[zs_more k (zS most s).ls.length (zS most s) (Nat.le_refl _) (by omega)]
end Up
theorem u_sizes{fs:List Fact}{gs:List Bx}{i g K:Nat}{most:Int}{A:Option Addr}{n c:Nat}{LA:Option Addr}{ln lc:Nat}{s:Sta}(w:World)(hO:Opn w fs gs i g K most A n c LA ln lc s)(hK:kF K∈fs)(hn:ln≤10000)(hX:full s.xs≤100000) :
  Calls Tryz.prog 40 #[.pointer (some ⟨g,0,none⟩)] w fun e w'=>e = .returned (.int .i64 (bZ most s).1)∧w.grownBy w' (some g)∧Cls w' fs gs i g K most (bZ most s).2:=by
 have HI:=Lib.hid hO.i
 have HKF:=Lib.hid hK
 have HX:=Lib.hid hX
 have h0 : ∃(E:Int) (st:Sta) (A1:Option Addr) (n1 c1:Nat) (LA1:Option Addr) (ln1 lc1:Nat),Value.int .i64 0 = .int .i64 E∧Opn w (fF A1 n1 st.xs::bF LA1 ln1 st.ls::fs) (gs.set i (g,rdc K most st.M A1 n1 c1 LA1 ln1 lc1,64)) i g K most A1 n1 c1 LA1 ln1 lc1 st∧w.grownBy w (some g)∧((E=0∧bZ most st=bZ most s)∨(E≠0∧bZ most s=(E,st)))∧full st.xs≤full s.xs:=by
  obtain⟨A1,n1,c1,LA1,ln1,lc1,h⟩:=hO.stay
  exact⟨0,s,A1,n1,c1,LA1,ln1,lc1,rfl,h,gb_refl _ _,.inl ⟨rfl,rfl⟩,Nat.le_refl _⟩
 have H0:=Lib.hid h0
 clear h0 hO hK hX
 go_enter Tryz.func40,Tryz.ntmps40
 go_wp2
 go_loopw [2,3,4] (fun t _ _ wr=>∃(E:Int) (st:Sta) (A1:Option Addr) (n1 c1:Nat) (LA1:Option Addr) (ln1 lc1:Nat),t = .int .i64 E∧Opn wr (fF A1 n1 st.xs::bF LA1 ln1 st.ls::fs) (gs.set i (g,rdc K most st.M A1 n1 c1 LA1 ln1 lc1,64)) i g K most A1 n1 c1 LA1 ln1 lc1 st∧w.grownBy wr (some g)∧((E=0∧bZ most st=bZ most s)∨(E≠0∧bZ most s=(E,st)))∧full st.xs≤full s.xs) (fun _ _ _ wr=>lenAt wr g)
 case atStart=>exact H0.out
 case round=>
  obtain⟨E,st,A1,n1,c1,LA1,ln1,lc1,rfl,hO,hG,hcase,hX⟩:=hrel
  have hlen:=hO.len
  have hm:=hO.lenAt
  have KX:=Lib.hid hO
  have GX:=Lib.hid hG
  have HM:=Lib.hid hm
  clear hO hG hm H0
  rcases hcase with ⟨rfl,hz⟩ | ⟨hE,hz⟩
  ·by_cases hl:st.ls=[]
   ·have hl0:ln1=0:=by rw[hl] at hlen;exact hlen.symm
    have hd1:decide (0<ln1)=false:=decide_eq_false (by omega)
    have HZ:=Lib.hid (hz.symm.trans (bZ_stop (.inl hl)))
    clear hl hl0 hz hlen hX
    go_wp2_with (first
     | (refine at_load 25 (.tmp 10) (by rfl) ?_;refine wpListG_get (by rfl) 25 (.tmp 10) (by rfl) g 4 (by rfl) 64 (rdc K most st.M A1 n1 c1 LA1 ln1 lc1) (.slice LA1 ln1 lc1) _ (KX.out.row) (by rfl) Tryz.underlying25 (by rfl) ?_))
    go_ret
    rw[HZ.out]
    exact⟨rfl,GX.out,KX.out.shut (fun x hx=>by simp[hx]) HI.out (List.Sublist.refl _)⟩
   ·obtain⟨Y,hY⟩ : ∃Y,(hd st.ls).toNat / 2 ^ kb (hd st.ls)=Y:=⟨_,rfl⟩
    have HBX:Hid (HBg g K most st (kb (hd st.ls)) Y (kk (hd st.ls))):=Lib.hid (fun h hk=>by
     have:=u_begun _ h hk hl
     rwa [hY] at this)
    clear hY
    have hpos:0<st.ls.length:=List.length_pos_iff.2 hl
    have hd1:decide (0<ln1)=true:=decide_eq_true (by omega)
    by_cases h3:kk (hd st.ls)=3
    ·have HZ:=Lib.hid (hz.symm.trans (bZ_go hl h3))
     have hk3:((kk (hd st.ls):Int) != 3)=false:=by rw[h3];rfl
     have hless:=zS_less (most:=most) hl
     have hfull:=zS_full (most:=most) (s:=st)
     have HX1:=HX.out
     clear hl hz hpos
     go_wp2_with (first
      | (refine at_load 25 (.tmp 10) (by rfl) ?_;refine wpListG_get (by rfl) 25 (.tmp 10) (by rfl) g 4 (by rfl) 64 (rdc K most st.M A1 n1 c1 LA1 ln1 lc1) (.slice LA1 ln1 lc1) _ (KX.out.row) (by rfl) Tryz.underlying25 (by rfl) ?_)
      | (go_at_call 60;(with_reducible refine(HBX.out KX.out (by simp[HKF.out])).mono ?_);rintro e w1 ⟨rfl,hb⟩;have K1:=Lib.hid ((KX.out.on hb).boxg 72 #[.int .u8 0,.int .u8 0] w1.heap.size rfl);have G1:=Lib.hid (gb_alloc (gb_below GX.out hb) (.cells #[.int .u8 0,.int .u8 0] 72));have hz1:w.heap.size≤w1.heap.size:=(gb_below GX.out hb).size;clear hb)
      | (refine at_store 72 (.tmp 3) (.tmp 18) (by rfl) ?_;refine wpList_put (by rfl) 72 (.tmp 3) (.tmp 18) (by rfl) w1.heap.size 0 (.agg #[.int .u8 ((8-kb (hd st.ls):Nat):Int),.int .u8 (Y:Int)]) (by rfl) (by rfl) 72 #[.int .u8 0,.int .u8 0] #[.int .u8 ((8-kb (hd st.ls):Nat):Int),.int .u8 (Y:Int)] (K1.out.e.row 0 rfl) (by simp[Value.cells]) (by kernel_rfl) infoc_m (by kernel_rfl) ?_;intro w2 hrow hoth hz hbl;have K2:=Lib.hid (K1.out.turn 0 rfl (by omega) hrow hoth hz);have G2:Hid (w.grownBy w2 (some g)):=Lib.hid (gb_put G1.out hoth hz hbl (.inr (by omega)));clear hrow hoth hz hbl K1 G1)
      | (refine at_load 72 (.tmp 3) (by rfl) ?_;refine wpList_load_row (by rfl) 72 (.tmp 3) (by rfl) w1.heap.size (by rfl) 72 #[.int .u8 ((8-kb (hd st.ls):Nat):Int),.int .u8 (Y:Int)] (0,0) _ (K2.out.e.row 0 rfl) Tryz.underlying72 (by rfl) infoc_m ?_)
      | (go_at_call 61;(with_reducible refine(u_size _ K2.out (by omega) Y).mono ?_);rintro e w3 ⟨rfl,hg,hk⟩;have K3:=Lib.hid hk;have G3:Hid (w.grownBy w3 (some g)):=Lib.hid (gb_trans G2.out hg);clear hg hk))
     obtain⟨A2,n2,c2,LA2,ln2,lc2,hO2⟩:=K3.out
     obtain⟨A3,n3,c3,LA3,ln3,lc3,hO3⟩:=hO2.shut (fs:=fs) (gs:=gs) (i:=i) (fun x hx=>by simp[hx]) HI.out (by simp only[List.set_cons_succ,List.set_cons_zero,List.set_set];exact List.sublist_cons_self _ _)
     have hm3:=hO3.lenAt
     have hl3:=hO3.len
     (try simp only at hl3)
     have hmx:=HM.out
     go_roundw
     case rel=>
      refine⟨_,zS most st,A3,n3,c3,LA3,ln3,lc3,rfl,hO3,G3.out,?_,by omega⟩
      by_cases he:zE most st=0
      ·left
       refine⟨he,?_⟩
       rw[HZ.out,if_neg (by omega)]
      ·right
       refine⟨he,?_⟩
       rw[HZ.out,if_pos he]
     case measure=>omega
    ·have HZ:=Lib.hid (hz.symm.trans (bZ_stop (.inr h3)))
     have hk3:((kk (hd st.ls):Int) != 3)=true:=by rw[bne_iff_ne];omega
     clear hl hz hpos h3 hX
     go_wp2_with (first
      | (refine at_load 25 (.tmp 10) (by rfl) ?_;refine wpListG_get (by rfl) 25 (.tmp 10) (by rfl) g 4 (by rfl) 64 (rdc K most st.M A1 n1 c1 LA1 ln1 lc1) (.slice LA1 ln1 lc1) _ (KX.out.row) (by rfl) Tryz.underlying25 (by rfl) ?_)
      | (go_at_call 60;(with_reducible refine(HBX.out KX.out (by simp[HKF.out])).mono ?_);rintro e w1 ⟨rfl,hb⟩;have K1:=Lib.hid ((KX.out.on hb).boxg 72 #[.int .u8 0,.int .u8 0] w1.heap.size rfl);have G1:=Lib.hid (gb_alloc (gb_below GX.out hb) (.cells #[.int .u8 0,.int .u8 0] 72));have hz1:w.heap.size≤w1.heap.size:=(gb_below GX.out hb).size;clear hb)
      | (refine at_store 72 (.tmp 3) (.tmp 18) (by rfl) ?_;refine wpList_put (by rfl) 72 (.tmp 3) (.tmp 18) (by rfl) w1.heap.size 0 (.agg #[.int .u8 ((8-kb (hd st.ls):Nat):Int),.int .u8 (Y:Int)]) (by rfl) (by rfl) 72 #[.int .u8 0,.int .u8 0] #[.int .u8 ((8-kb (hd st.ls):Nat):Int),.int .u8 (Y:Int)] (K1.out.e.row 0 rfl) (by simp[Value.cells]) (by kernel_rfl) infoc_m (by kernel_rfl) ?_;intro w2 hrow hoth hz hbl;have K2:=Lib.hid (K1.out.turn 0 rfl (by omega) hrow hoth hz);have G2:Hid (w.grownBy w2 (some g)):=Lib.hid (gb_put G1.out hoth hz hbl (.inr (by omega)));clear hrow hoth hz hbl K1 G1))
     go_ret
     rw[HZ.out]
     exact⟨rfl,G2.out,K2.out.shut (fun x hx=>by simp[hx]) HI.out (by simp only[List.set_cons_zero];exact List.sublist_cons_self _ _)⟩
  ·have hE1:(E==0)=false:=by rw[beq_eq_false_iff_ne];exact hE
   have HZ:=Lib.hid hz
   clear hz hE hX
   go_wp2
   go_ret
   rw[HZ.out]
   exact⟨rfl,GX.out,KX.out.shut (fun x hx=>by simp[hx]) HI.out (List.Sublist.refl _)⟩
end Go.Proofs.YtahiajeggbpogaaGreatDoor
