import Derived.Test.YtahiajeggbpogaaGreatDoorMTx
import Derived.Test.YtahiajeggbpogaaGreatDoorMHb
set_option maxRecDepth 100000
set_option maxHeartbeats 1000000
namespace Go.Proofs.YtahiajeggbpogaaGreatDoor
open Go.RowKit Hf Oct Tx Go.Shelf
set_option linter.unusedVariables false
set_option linter.unusedSimpArgs false
theorem y_put7(n:Nat)(u:UInt8)(w:World)(hn:n<2147483648) :
  Calls Tryz.prog 47 #[.int .i64 (n:Int),.int .i64 7,.int .u8 (u.toNat:Int)] w fun e w'=>∃A c,e = .returned (.tuple #[.slice A (Px.numB n 7).length c,.int .i64 0])∧OwnB w' w.heap.size 5 (.slice A (Px.numB n 7).length c) (Px.putN n 7 u.toNat)∧Below w.heap.size w w':=o_put_yes n 7 u w (by omega) (by omega) hn
theorem y_put0(n:Nat)(w:World)(hn:n<2147483648) :
  Calls Tryz.prog 47 #[.int .i64 (n:Int),.int .i64 7,.int .u8 0] w fun e w'=>∃A c,e = .returned (.tuple #[.slice A (Px.numB n 7).length c,.int .i64 0])∧OwnB w' w.heap.size 5 (.slice A (Px.numB n 7).length c) (Px.putN n 7 0)∧Below w.heap.size w w':=y_put7 n 0 w hn
theorem y_put128(n:Nat)(w:World)(hn:n<2147483648) :
  Calls Tryz.prog 47 #[.int .i64 (n:Int),.int .i64 7,.int .u8 128] w fun e w'=>∃A c,e = .returned (.tuple #[.slice A (Px.numB n 7).length c,.int .i64 0])∧OwnB w' w.heap.size 5 (.slice A (Px.numB n 7).length c) (Px.putN n 7 128)∧Below w.heap.size w w':=y_put7 n 128 w hn
theorem y_take7(A:Option Addr)(n c:Nat)(xs:List UInt8)(w:World)(hA:Bs w w.heap.size A n xs)(hnc:n≤c)(hn:n≤1000000) :
  Calls Tryz.prog 89 #[.slice A n c,.int .i64 7] w fun e w'=>∃A' c',e = .returned (.tuple #[.int .i64 (nT xs:Int),.slice A' (rT xs).length c',.int .i64 (cT xs:Int)])∧HandS w' w.heap.size A' (rT xs).length c' (rT xs)∧Below w.heap.size w w':=by
 have h:=Y_Take A n c xs 7 w hA hnc hn
 unfold nT cT rT
 rw[takC7] at h
 exact h
theorem y_Plain(s:List UInt8)(w:World)(hn:s.length≤10000) :
  Calls Tryz.prog 79 #[.string ⟨s.toArray⟩] w fun e w'=>∃A c,e = .returned (.slice A (plB s).length c)∧HandS w' w.heap.size A (plB s).length c (plB s)∧Below w.heap.size w w':=by
 obtain⟨i0,hi,hz0,hz1,hz2⟩:=info_parts info_tu8
 have hinf:=Lib.hid (And.intro hi (And.intro hz0 (And.intro hz1 hz2)))
 have hnl:=Px.numB_len (n:=s.length) (k:=7) (by omega)
 have HPL:=Lib.hid (pl_len s)
 have HNL:Hid ((Px.putN s.length 7 0).length+s.length≤1000000):=Lib.hid (by rw[Px.numB_len_putN];omega)
 have HP:=Lib.hid (y_put0 s.length w (by omega))
 clear hi hz0 hz1 hz2 hnl hn
 go_enter Tryz.func79,Tryz.ntmps79
 go_wp2_with (first
  | (go_at_call 47;(with_reducible refine HP.out.mono ?_);rintro e w1 ⟨A1,c1,rfl,hown,hb⟩;have HO1:=Lib.hid hown;have HB1:=Lib.hid hb;clear hown hb)
  | (at_builtin;refine wpList_append_str rfl (.tmp 11) (.tmp 12) 25 9 rfl w.heap.size 5 i0 Tryz.underlying25 Tryz.underlying9 hinf.out.1 hinf.out.2.1 hinf.out.2.2.1 hinf.out.2.2.2 _ (Px.putN s.length 7 0) rfl HO1.out s rfl HNL.out HB1.out.size ?_;intro v2 w2 ho2 hb2;obtain⟨A2,c2,rfl,hh⟩:=ho2.handS (n:=(plB s).length) rfl;have HH:=Lib.hid hh;have HB2:=Lib.hid (HB1.out.trans hb2);clear ho2 hb2 hh))
 go_ret
 exact⟨A2,c2,rfl,HH.out,HB2.out⟩
theorem y_Bits(s:List UInt8)(w:World)(hn:s.length≤10000) :
  Calls Tryz.prog 78 #[.string ⟨s.toArray⟩] w fun e w'=>∃A c,e = .returned (.slice A (biB s).length c)∧HandS w' w.heap.size A (biB s).length c (biB s)∧Below w.heap.size w w':=by
 obtain⟨i0,hi,hz0,hz1,hz2⟩:=info_parts info_tu8
 have hinf:=Lib.hid (And.intro hi (And.intro hz0 (And.intro hz1 hz2)))
 obtain⟨c0,w0,hr,hh0,hb0⟩:=Tx.conv_str w s
 have HP:=Lib.hid (r_put (some ⟨w.heap.size,0,none⟩) s.length c0 s w0 hh0.1 hn)
 have HB0:=Lib.hid hb0
 have hol:=hO_le s
 have hnl:=Px.numB_len (n:=(hO s).length) (k:=7) (by omega)
 have HNL:Hid ((Px.putN (hO s).length 7 128).length+(hO s).length≤1000000):=Lib.hid (by rw[Px.numB_len_putN];omega)
 have HQ:Hid (∀w,Calls Tryz.prog 47 #[.int .i64 ((hO s).length:Int),.int .i64 7,.int .u8 128] w fun e w'=>∃A c,e = .returned (.tuple #[.slice A (Px.numB (hO s).length 7).length c,.int .i64 0])∧OwnB w' w.heap.size 5 (.slice A (Px.numB (hO s).length 7).length c) (Px.putN (hO s).length 7 128)∧Below w.heap.size w w'):=Lib.hid (fun w=>y_put128 _ w (by omega))
 clear hi hz0 hz1 hz2 hnl hn hh0 hb0 hol
 go_enter Tryz.func78,Tryz.ntmps78
 go_wp2_with (first
  | (go_at_call 100;(with_reducible refine HP.out.mono ?_);rintro e w1 ⟨A1,m1,c1,ys,rfl,hput,hh,hb⟩;obtain rfl:=hO_eq hput;obtain rfl:=hh.1.1;have HH1:=Lib.hid hh;have HB1:=Lib.hid (below_step HB0.out hb);clear hput hh hb)
  | (go_at_call 47;(with_reducible refine(HQ.out w1).mono ?_);rintro e w2 ⟨A2,c2,rfl,hown,hb⟩;have HO2:=Lib.hid hown;have HH2:=Lib.hid (HH1.out.1.on hb);have hz2:=hb.size;have HB2:=Lib.hid (below_step HB1.out hb);clear hown hb)
  | (at_builtin;refine wpList_append_bytes _ rfl (.tmp 15) (.tmp 16) 25 rfl w1.heap.size 5 i0 Tryz.underlying25 hinf.out.1 hinf.out.2.1 hinf.out.2.2.1 hinf.out.2.2.2 _ (Px.putN (hO s).length 7 128) rfl HO2.out _ A1 (hO s).length c1 (hO s) rfl HH2.out HH1.out.2.2.2 HNL.out hz2 ?_;intro v3 w3 ho3 hb3;obtain⟨A3,c3,rfl,hh⟩:=ho3.handS (n:=(biB s).length) rfl;have HH:=Lib.hid (show HandS w3 w.heap.size A3 (biB s).length c3 (biB s) from⟨hh.1,FreshS.less hh.2.1 HB1.out.size,hh.2.2⟩);have HB3:=Lib.hid (HB2.out.trans (hb3.mono HB1.out.size));clear ho3 hb3 hh))
 go_ret
 exact⟨A3,c3,rfl,HH.out,HB3.out⟩
theorem y_Best(s:List UInt8)(w:World)(hn:s.length≤10000) :
  Calls Tryz.prog 51 #[.string ⟨s.toArray⟩] w fun e w'=>∃A c,e = .returned (.slice A (beB s).length c)∧HandS w' w.heap.size A (beB s).length c (beB s)∧Below w.heap.size w w':=by
 obtain⟨c0,w0,hr,hh,hb⟩:=Tx.conv_str w s
 have hS:=r_shorter (some ⟨w.heap.size,0,none⟩) _ s.length c0 s w0 hh.1 hn
 have HN:=Lib.hid hn
 have HB0:=Lib.hid hb
 clear hn hh hb
 by_cases h:((bl s).length+7) / 8<s.length
 ·rw[decide_eq_true h] at hS
  have HS:=Lib.hid hS
  rw[show beB s=biB s from if_pos h]
  clear hS h
  go_enter Tryz.func51,Tryz.ntmps51
  go_wp2_with (first
   | (go_at_call 77;(with_reducible refine HS.out.mono ?_);rintro e w1 ⟨rfl,rfl⟩)
   | (go_at_call 78;(have hc:=(y_Bits s w0 HN.out);(with_reducible refine hc.mono ?_);clear hc);rintro e w2 ⟨A2,c2,rfl,hh,hb⟩;have B2:=Lib.hid (below_step HB0.out hb);have H2:Hid (HandS w2 w.heap.size A2 (biB s).length c2 (biB s)):=Lib.hid ⟨hh.1,FreshS.less hh.2.1 HB0.out.size,hh.2.2⟩;clear hb hh))
  go_ret
  exact⟨A2,c2,rfl,H2.out,B2.out⟩
 ·rw[decide_eq_false h] at hS
  have HS:=Lib.hid hS
  rw[show beB s=plB s from if_neg h]
  clear hS h
  go_enter Tryz.func51,Tryz.ntmps51
  go_wp2_with (first
   | (go_at_call 77;(with_reducible refine HS.out.mono ?_);rintro e w1 ⟨rfl,rfl⟩)
   | (go_at_call 79;(have hc:=(y_Plain s w0 HN.out);(with_reducible refine hc.mono ?_);clear hc);rintro e w2 ⟨A2,c2,rfl,hh,hb⟩;have B2:=Lib.hid (below_step HB0.out hb);have H2:Hid (HandS w2 w.heap.size A2 (plB s).length c2 (plB s)):=Lib.hid ⟨hh.1,FreshS.less hh.2.1 HB0.out.size,hh.2.2⟩;clear hb hh))
  go_ret
  exact⟨A2,c2,rfl,H2.out,B2.out⟩
theorem y_Take_num(A:Option Addr)(n c:Nat)(xs:List UInt8)(w:World)(hA:Bs w w.heap.size A n xs)(hnc:n≤c)(hn:n≤100000)(h:cT xs≠0) :
  Calls Tryz.prog 107 #[.slice A n c] w fun e w'=>∃A' c',e = .returned (.tuple #[.string ⟨(tS xs).toArray⟩,.slice A' (tR xs).length c',.int .i64 (tE xs)])∧HandS w' w.heap.size A' (tR xs).length c' (tR xs)∧Below w.heap.size w w':=by
 have H1:=Lib.hid (y_take7 A n c xs w hA hnc (by omega))
 obtain⟨e1,e2,e3⟩:=t_num h
 rw[e1,e2,e3]
 obtain⟨C,hC⟩ : ∃C:Nat,cT xs=C:=⟨_,rfl⟩
 rw[hC] at h H1 ⊢
 have hC2:((C:Int) != 0)=true:=by simp;omega
 clear e1 e2 e3 hA hC
 go_enter Tryz.func107,Tryz.ntmps107
 go_wp2_with (go_at_call 89;(with_reducible refine H1.out.mono ?_);rintro e w1 ⟨A1,c1,rfl,hh1,hb1⟩;have HH1:=Lib.hid hh1;have HB1:=Lib.hid hb1;clear hh1 hb1)
 go_ret3
 exact⟨none,0,rfl,HandS.nil_ _ _,HB1.out⟩
theorem y_Take_short(A:Option Addr)(n c:Nat)(xs:List UInt8)(w:World)(hA:Bs w w.heap.size A n xs)(hnc:n≤c)(hn:n≤100000)(h:cT xs=0)(h2:(rT xs).length<nT xs) :
  Calls Tryz.prog 107 #[.slice A n c] w fun e w'=>∃A' c',e = .returned (.tuple #[.string ⟨(tS xs).toArray⟩,.slice A' (tR xs).length c',.int .i64 (tE xs)])∧HandS w' w.heap.size A' (tR xs).length c' (tR xs)∧Below w.heap.size w w':=by
 have H1:=Lib.hid (y_take7 A n c xs w hA hnc (by omega))
 obtain⟨e1,e2,e3⟩:=t_short h h2
 rw[e1,e2,e3]
 rw[h] at H1
 obtain⟨N,hN⟩ : ∃N:Nat,nT xs=N:=⟨_,rfl⟩
 obtain⟨R,hR2⟩ : ∃R:Nat,(rT xs).length=R:=⟨_,rfl⟩
 rw[hN] at h2 H1
 rw[hR2] at h2 H1
 have hlt:decide ((R:Int)<(N:Int))=true:=decide_eq_true (by omega)
 have hlt2:decide (R<N)=true:=decide_eq_true (by omega)
 clear e1 e2 e3 hA hN h hR2 h2
 go_enter Tryz.func107,Tryz.ntmps107
 go_wp2_with (go_at_call 89;(with_reducible refine H1.out.mono ?_);rintro e w1 ⟨A1,c1,rfl,hh1,hb1⟩;have HH1:=Lib.hid hh1;have HB1:=Lib.hid hb1;clear hh1 hb1)
 go_ret3
 exact⟨none,0,rfl,HandS.nil_ _ _,HB1.out⟩
theorem y_Take_plain(A:Option Addr)(n c:Nat)(xs:List UInt8)(w:World)(hA:Bs w w.heap.size A n xs)(hnc:n≤c)(hn:n≤100000)(h:cT xs=0)(h2:nT xs≤(rT xs).length)(h3:wT xs=false) :
  Calls Tryz.prog 107 #[.slice A n c] w fun e w'=>∃A' c',e = .returned (.tuple #[.string ⟨(tS xs).toArray⟩,.slice A' (tR xs).length c',.int .i64 (tE xs)])∧HandS w' w.heap.size A' (tR xs).length c' (tR xs)∧Below w.heap.size w w':=by
 have H1:=Lib.hid (y_take7 A n c xs w hA hnc (by omega))
 obtain⟨e1,e2,e3⟩:=t_plain h h2 h3
 rw[e1,e2,e3]
 rw[h] at H1
 obtain⟨x,ys,rfl⟩:=Tx.rT_pos h
 have hle:=Tx.rT_le (x::ys)
 have hl:=hA.1
 clear e1 e2 e3
 obtain⟨N,hN⟩ : ∃N:Nat,nT (x::ys)=N:=⟨_,rfl⟩
 obtain⟨L,hL⟩ : ∃L:List UInt8,rT (x::ys)=L:=⟨_,rfl⟩
 rw[hN,hL] at h2 H1
 try rw[hN,hL]
 rw[hL] at hle
 obtain⟨R,hR2⟩ : ∃R:Nat,L.length=R:=⟨_,rfl⟩
 rw[hR2] at h2 H1 hle
 have HRL:=Lib.hid hR2
 have hRn:R≤1000000:=by omega
 have HL:=Lib.hid hl
 have hge:decide ((R:Int)<(N:Int))=false:=decide_eq_false (by omega)
 have hge2:decide (R<N)=false:=decide_eq_false (by omega)
 have hxl:decide ((x.toNat:Int)<128)=true:=decide_eq_true (by have h4 : ¬128≤x.toNat:=(by simpa [wT] using h3);omega)
 obtain⟨i0,hi,hz0,hz1,hz2⟩:=info_parts info_tu8
 have hinf:=Lib.hid (And.intro hi (And.intro hz0 (And.intro hz1 hz2)))
 rw[List.length_cons] at hl
 have hn0:0<n:=by omega
 obtain⟨b,o,rfl,hb,hcc⟩:=bs_cell hA (by omega)
 obtain⟨x',hx',c0⟩:=hcc 0 (by omega)
 simp only[List.getElem?_cons_zero,Option.some.injEq] at hx'
 subst hx'
 rw[Nat.add_zero] at c0
 have HC0:=Lib.hid c0
 have HBB:=Lib.hid hb
 clear hA hN h hR2 hL hl hle h3 hi hz0 hz1 hz2 hb hcc c0
 have hdl:(L.drop N).length=R-N:=by rw[List.length_drop,HRL.out]
 have HDL:=Lib.hid hdl
 clear hdl
 go_enter Tryz.func107,Tryz.ntmps107
 go_wp2_with (go_at_call 89;(with_reducible refine H1.out.mono ?_);rintro e w1 ⟨A1,c1,rfl,hh1,hb1⟩;have hcap:=hh1.2.2.1;have hNc:N≤c1:=(by omega);have hNc2:(N:Int)≤(c1:Int):=(by omega);have hNR:(N:Int)≤(R:Int):=(by omega);have hRc:(R:Int)≤(c1:Int):=(by omega);obtain⟨A2,hA2⟩ : ∃A2,(if c1=N then A1 else A1.map fun x=>x.add N)=A2:=⟨_,rfl⟩;have HA2:=Lib.hid hA2;have HH1:=Lib.hid hh1;have HB1:=Lib.hid hb1;clear hh1 hb1)
 have HT1:=Lib.hid (HH1.out.1.take h2)
 have HCU:=Lib.hid (HA2.out ▸ Tx.cutO HH1.out.1 h2 hcap:Bs w1 w1.heap.size A2 (R-N) (L.drop N))
 go_region_held3 (fun W'=>True) (exact trivial)
  (first
   | (refine step_append_bytes _ (by rfl) (.tmp 28) (.tmp 31) 25 (by rfl) w1.heap.size 5 i0 Tryz.underlying25 hinf.out.1 hinf.out.2.1 hinf.out.2.2.1 hinf.out.2.2.2 _ [] (by rfl) (OwnB.lit _ _ _ (Nat.le_refl _)) _ A2 (R-N) (c1-N) (L.drop N) (by rfl) ((HCU.out.drew).alloc (by simp) _) (Tx.cut_none HA2.out HH1.out.2.2.2) (by simp;omega) (by simp) ?_;intro v2 w2 ho2 hb2;obtain⟨A3,c3,rfl,hh3⟩:=ho2.handS (n:=R-N) (by simpa using HDL.out);have HH3:=Lib.hid hh3;have HB2:=Lib.hid hb2;clear ho2 hb2 hh3))
 have BB:Below w1.heap.size w1 w2:=(((Below.refl _ w1).drew).alloc (by simp) _).trans HB2.out
 have B2:=Lib.hid (below_step HB1.out BB)
 have hT2:=HT1.out.on BB
 have hh3:=HH3.out
 rw[List.nil_append] at hh3
 have HF3:Hid (HandS w2 w.heap.size A3 (R-N) c3 (L.drop N)):=Lib.hid ⟨hh3.1,FreshS.less hh3.2.1 HB1.out.size,hh3.2.2⟩
 have hc2:w2.cell? ⟨b,o,none⟩=some (.int .u8 (x.toNat:Int)):=(B2.out.cell (p:=⟨b,o,none⟩) HBB.out).trans HC0.out
 have h5:=conv_bytes (c:=c1) hT2
 clear hT2 hh3 BB hA2
 go_wp2
 go_ret3
 rw[HDL.out]
 exact⟨A3,c3,rfl,HF3.out,B2.out⟩
theorem y_Take_bitsok(A:Option Addr)(n c:Nat)(xs:List UInt8)(w:World)(hA:Bs w w.heap.size A n xs)(hnc:n≤c)(hn:n≤100000)(h:cT xs=0)(h2:nT xs≤(rT xs).length)(h3:wT xs=true)(hq:nT xs≤10000)(hE:takeE ((rT xs).take (nT xs))=0) :
  Calls Tryz.prog 107 #[.slice A n c] w fun e w'=>∃A' c',e = .returned (.tuple #[.string ⟨(tS xs).toArray⟩,.slice A' (tR xs).length c',.int .i64 (tE xs)])∧HandS w' w.heap.size A' (tR xs).length c' (tR xs)∧Below w.heap.size w w':=by
 have H1:=Lib.hid (y_take7 A n c xs w hA hnc (by omega))
 obtain⟨e1,e2,e3⟩:=t_bits h h2 h3
 rw[hE] at e1
 rw[if_pos hE] at e3
 rw[e1,e2,e3]
 rw[h] at H1
 obtain⟨x,ys,rfl⟩:=Tx.rT_pos h
 have hle:=Tx.rT_le (x::ys)
 have hl:=hA.1
 clear e1 e2 e3
 obtain⟨N,hN⟩ : ∃N:Nat,nT (x::ys)=N:=⟨_,rfl⟩
 obtain⟨L,hL⟩ : ∃L:List UInt8,rT (x::ys)=L:=⟨_,rfl⟩
 rw[hN,hL] at h2 H1 hE
 try rw[hN,hL]
 rw[hL] at hle
 rw[hN] at hq
 obtain⟨R,hR2⟩ : ∃R:Nat,L.length=R:=⟨_,rfl⟩
 rw[hR2] at h2 H1 hle
 have HRL:=Lib.hid hR2
 have hRn:R≤1000000:=by omega
 have HL:=Lib.hid hl
 have hge:decide ((R:Int)<(N:Int))=false:=decide_eq_false (by omega)
 have hge2:decide (R<N)=false:=decide_eq_false (by omega)
 have hxl:decide ((x.toNat:Int)<128)=false:=decide_eq_false (by have h4:128≤x.toNat:=(by simpa [wT] using h3);omega)
 obtain⟨i0,hi,hz0,hz1,hz2⟩:=info_parts info_tu8
 have hinf:=Lib.hid (And.intro hi (And.intro hz0 (And.intro hz1 hz2)))
 rw[List.length_cons] at hl
 have hn0:0<n:=by omega
 obtain⟨b,o,rfl,hb,hcc⟩:=bs_cell hA (by omega)
 obtain⟨x',hx',c0⟩:=hcc 0 (by omega)
 simp only[List.getElem?_cons_zero,Option.some.injEq] at hx'
 subst hx'
 rw[Nat.add_zero] at c0
 have HC0:=Lib.hid c0
 have HBB:=Lib.hid hb
 have HE:=Lib.hid hE
 clear hE
 clear hA hN h hR2 hL hl hle h3 hi hz0 hz1 hz2 hb hcc c0
 have hdl:(L.drop N).length=R-N:=by rw[List.length_drop,HRL.out]
 have HDL:=Lib.hid hdl
 clear hdl
 go_enter Tryz.func107,Tryz.ntmps107
 go_wp2_with (go_at_call 89;(with_reducible refine H1.out.mono ?_);rintro e w1 ⟨A1,c1,rfl,hh1,hb1⟩;have hcap:=hh1.2.2.1;have hNc:N≤c1:=(by omega);have hNc2:(N:Int)≤(c1:Int):=(by omega);have hNR:(N:Int)≤(R:Int):=(by omega);have hRc:(R:Int)≤(c1:Int):=(by omega);obtain⟨A2,hA2⟩ : ∃A2,(if c1=N then A1 else A1.map fun x=>x.add N)=A2:=⟨_,rfl⟩;have HA2:=Lib.hid hA2;have HH1:=Lib.hid hh1;have HB1:=Lib.hid hb1;clear hh1 hb1)
 have HT1:=Lib.hid (HH1.out.1.take h2)
 have HCU:=Lib.hid (HA2.out ▸ Tx.cutO HH1.out.1 h2 hcap:Bs w1 w1.heap.size A2 (R-N) (L.drop N))
 go_region_held3 (fun W'=>True) (exact trivial)
  (first
   | (refine step_append_bytes _ (by rfl) (.tmp 28) (.tmp 31) 25 (by rfl) w1.heap.size 5 i0 Tryz.underlying25 hinf.out.1 hinf.out.2.1 hinf.out.2.2.1 hinf.out.2.2.2 _ [] (by rfl) (OwnB.lit _ _ _ (Nat.le_refl _)) _ A2 (R-N) (c1-N) (L.drop N) (by rfl) ((HCU.out.drew).alloc (by simp) _) (Tx.cut_none HA2.out HH1.out.2.2.2) (by simp;omega) (by simp) ?_;intro v2 w2 ho2 hb2;obtain⟨A3,c3,rfl,hh3⟩:=ho2.handS (n:=R-N) (by simpa using HDL.out);have HH3:=Lib.hid hh3;have HB2:=Lib.hid hb2;clear ho2 hb2 hh3))
 have BB:Below w1.heap.size w1 w2:=(((Below.refl _ w1).drew).alloc (by simp) _).trans HB2.out
 have B2:=Lib.hid (below_step HB1.out BB)
 have hT2:=HT1.out.on BB
 have hh3:=HH3.out
 rw[List.nil_append] at hh3
 have HF3:Hid (HandS w2 w.heap.size A3 (R-N) c3 (L.drop N)):=Lib.hid ⟨hh3.1,FreshS.less hh3.2.1 HB1.out.size,hh3.2.2⟩
 have hc2:w2.cell? ⟨b,o,none⟩=some (.int .u8 (x.toNat:Int)):=(B2.out.cell (p:=⟨b,o,none⟩) HBB.out).trans HC0.out
 have hTK:=r_take A1 N c1 (L.take N) w2 hT2 hq
 rw[HE.out] at hTK
 have HTK:=Lib.hid hTK
 clear hT2 hh3 BB hA2 hTK
 go_wp2_with (go_at_call 126;(with_reducible refine HTK.out.mono ?_);rintro e w3 ⟨A5,m5,c5,rfl,hh5,hb5⟩;have h6:=conv_bytes (c:=c5) hh5.1;have B3:=Lib.hid (below_step B2.out hb5);have HF4:Hid (HandS w3 w.heap.size A3 (R-N) c3 (L.drop N)):=Lib.hid ⟨HF3.out.1.on hb5,HF3.out.2⟩;clear hh5 hb5)
 go_ret3
 rw[HDL.out]
 exact⟨A3,c3,rfl,HF4.out,B3.out⟩
theorem y_Take_bitsno(A:Option Addr)(n c:Nat)(xs:List UInt8)(w:World)(hA:Bs w w.heap.size A n xs)(hnc:n≤c)(hn:n≤100000)(h:cT xs=0)(h2:nT xs≤(rT xs).length)(h3:wT xs=true)(hq:nT xs≤10000)(hE:takeE ((rT xs).take (nT xs))=70) :
  Calls Tryz.prog 107 #[.slice A n c] w fun e w'=>∃A' c',e = .returned (.tuple #[.string ⟨(tS xs).toArray⟩,.slice A' (tR xs).length c',.int .i64 (tE xs)])∧HandS w' w.heap.size A' (tR xs).length c' (tR xs)∧Below w.heap.size w w':=by
 have H1:=Lib.hid (y_take7 A n c xs w hA hnc (by omega))
 obtain⟨e1,e2,e3⟩:=t_bits h h2 h3
 have hL0:takeL ((rT xs).take (nT xs))=[]:=by rcases takeE_or ((rT xs).take (nT xs)) with g | ⟨_,g⟩<;>first | exact g | omega
 rw[hE] at e1
 rw[if_neg (by omega)] at e3
 rw[hL0] at e2
 rw[e1,e2,e3]
 rw[h] at H1
 obtain⟨x,ys,rfl⟩:=Tx.rT_pos h
 have hle:=Tx.rT_le (x::ys)
 have hl:=hA.1
 clear e1 e2 e3
 obtain⟨N,hN⟩ : ∃N:Nat,nT (x::ys)=N:=⟨_,rfl⟩
 obtain⟨L,hL⟩ : ∃L:List UInt8,rT (x::ys)=L:=⟨_,rfl⟩
 rw[hN,hL] at h2 H1 hE hL0
 try rw[hN,hL]
 rw[hL] at hle
 rw[hN] at hq
 obtain⟨R,hR2⟩ : ∃R:Nat,L.length=R:=⟨_,rfl⟩
 rw[hR2] at h2 H1 hle
 have HRL:=Lib.hid hR2
 have hRn:R≤1000000:=by omega
 have HL:=Lib.hid hl
 have hge:decide ((R:Int)<(N:Int))=false:=decide_eq_false (by omega)
 have hge2:decide (R<N)=false:=decide_eq_false (by omega)
 have hxl:decide ((x.toNat:Int)<128)=false:=decide_eq_false (by have h4:128≤x.toNat:=(by simpa [wT] using h3);omega)
 obtain⟨i0,hi,hz0,hz1,hz2⟩:=info_parts info_tu8
 have hinf:=Lib.hid (And.intro hi (And.intro hz0 (And.intro hz1 hz2)))
 rw[List.length_cons] at hl
 have hn0:0<n:=by omega
 obtain⟨b,o,rfl,hb,hcc⟩:=bs_cell hA (by omega)
 obtain⟨x',hx',c0⟩:=hcc 0 (by omega)
 simp only[List.getElem?_cons_zero,Option.some.injEq] at hx'
 subst hx'
 rw[Nat.add_zero] at c0
 have HC0:=Lib.hid c0
 have HBB:=Lib.hid hb
 have HE:=Lib.hid hE
 have HE2:=Lib.hid hL0
 clear hE hL0
 clear hA hN h hR2 hL hl hle h3 hi hz0 hz1 hz2 hb hcc c0
 have hdl:(L.drop N).length=R-N:=by rw[List.length_drop,HRL.out]
 have HDL:=Lib.hid hdl
 clear hdl
 go_enter Tryz.func107,Tryz.ntmps107
 go_wp2_with (go_at_call 89;(with_reducible refine H1.out.mono ?_);rintro e w1 ⟨A1,c1,rfl,hh1,hb1⟩;have hcap:=hh1.2.2.1;have hNc:N≤c1:=(by omega);have hNc2:(N:Int)≤(c1:Int):=(by omega);have hNR:(N:Int)≤(R:Int):=(by omega);have hRc:(R:Int)≤(c1:Int):=(by omega);obtain⟨A2,hA2⟩ : ∃A2,(if c1=N then A1 else A1.map fun x=>x.add N)=A2:=⟨_,rfl⟩;have HA2:=Lib.hid hA2;have HH1:=Lib.hid hh1;have HB1:=Lib.hid hb1;clear hh1 hb1)
 have HT1:=Lib.hid (HH1.out.1.take h2)
 have HCU:=Lib.hid (HA2.out ▸ Tx.cutO HH1.out.1 h2 hcap:Bs w1 w1.heap.size A2 (R-N) (L.drop N))
 go_region_held3 (fun W'=>True) (exact trivial)
  (first
   | (refine step_append_bytes _ (by rfl) (.tmp 28) (.tmp 31) 25 (by rfl) w1.heap.size 5 i0 Tryz.underlying25 hinf.out.1 hinf.out.2.1 hinf.out.2.2.1 hinf.out.2.2.2 _ [] (by rfl) (OwnB.lit _ _ _ (Nat.le_refl _)) _ A2 (R-N) (c1-N) (L.drop N) (by rfl) ((HCU.out.drew).alloc (by simp) _) (Tx.cut_none HA2.out HH1.out.2.2.2) (by simp;omega) (by simp) ?_;intro v2 w2 ho2 hb2;obtain⟨A3,c3,rfl,hh3⟩:=ho2.handS (n:=R-N) (by simpa using HDL.out);have HH3:=Lib.hid hh3;have HB2:=Lib.hid hb2;clear ho2 hb2 hh3))
 have BB:Below w1.heap.size w1 w2:=(((Below.refl _ w1).drew).alloc (by simp) _).trans HB2.out
 have B2:=Lib.hid (below_step HB1.out BB)
 have hT2:=HT1.out.on BB
 have hh3:=HH3.out
 rw[List.nil_append] at hh3
 have HF3:Hid (HandS w2 w.heap.size A3 (R-N) c3 (L.drop N)):=Lib.hid ⟨hh3.1,FreshS.less hh3.2.1 HB1.out.size,hh3.2.2⟩
 have hc2:w2.cell? ⟨b,o,none⟩=some (.int .u8 (x.toNat:Int)):=(B2.out.cell (p:=⟨b,o,none⟩) HBB.out).trans HC0.out
 have hTK:=r_take A1 N c1 (L.take N) w2 hT2 hq
 rw[HE.out,HE2.out] at hTK
 have HTK:=Lib.hid hTK
 clear hT2 hh3 BB hA2 hTK
 go_wp2_with (go_at_call 126;(with_reducible refine HTK.out.mono ?_);rintro e w3 ⟨A5,m5,c5,rfl,hh5,hb5⟩;have h6:=conv_bytes (c:=c5) hh5.1;have B3:=Lib.hid (below_step B2.out hb5);have HF4:Hid (HandS w3 w.heap.size A3 (R-N) c3 (L.drop N)):=Lib.hid ⟨HF3.out.1.on hb5,HF3.out.2⟩;clear hh5 hb5)
 go_ret3
 exact⟨none,0,rfl,HandS.nil_ _ _,B3.out⟩
theorem y_Take(A:Option Addr)(n c:Nat)(xs:List UInt8)(w:World)(hA:Bs w w.heap.size A n xs)(hnc:n≤c)(hn:n≤100000)(hq:n≤10000∨nT xs≤10000) :
  Calls Tryz.prog 107 #[.slice A n c] w fun e w'=>∃A' c',e = .returned (.tuple #[.string ⟨(tS xs).toArray⟩,.slice A' (tR xs).length c',.int .i64 (tE xs)])∧HandS w' w.heap.size A' (tR xs).length c' (tR xs)∧Below w.heap.size w w':=by
 by_cases h:cT xs=0
 ·rcases Nat.lt_or_ge (rT xs).length (nT xs) with h2 | h2
  ·exact y_Take_short A n c xs w hA hnc hn h h2
  ·cases h3:wT xs with
   | false=>exact y_Take_plain A n c xs w hA hnc hn h h2 h3
   | true=>
    have hl:=hA.1
    have hle:=Tx.rT_le xs
    have hq2:nT xs≤10000:=by omega
    rcases takeE_or ((rT xs).take (nT xs)) with g | ⟨g,_⟩
    ·exact y_Take_bitsok A n c xs w hA hnc hn h h2 h3 hq2 g
    ·exact y_Take_bitsno A n c xs w hA hnc hn h h2 h3 hq2 g
 ·exact y_Take_num A n c xs w hA hnc hn h
end Go.Proofs.YtahiajeggbpogaaGreatDoor
