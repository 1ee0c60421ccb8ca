import Derived.Test.YtahiajeggbpogaaGreatDoorMTx
import Derived.Test.YtahiajeggbpogaaGreatDoorMHb
set_option maxRecDepth 100000
set_option maxHeartbeats 1000000
namespace Go.Proofs.YtahiajeggbpogaaGreatDoor
open Go.RowKit Hf Oct Tx Go.Shelf
set_option linter.unusedVariables false
set_option linter.unusedSimpArgs false
theorem y_put7(n:Nat)(u:UInt8)(w:World)(hn:n<2147483648) :
  Calls Tryz.prog 47 #[.int .i64 (n:Int),.int .i64 7,.int .u8 (u.toNat:Int)] w fun e w'=>∃A c,e = .returned (.tuple #[.slice A (Px.numB n 7).length c,.int .i64 0])∧OwnB w' w.heap.size 5 (.slice A (Px.numB n 7).length c) (Px.putN n 7 u.toNat)∧Below w.heap.size w w':=o_put_yes n 7 u w (by omega) (by omega) hn
theorem y_put0(n:Nat)(w:World)(hn:n<2147483648) :
  Calls Tryz.prog 47 #[.int .i64 (n:Int),.int .i64 7,.int .u8 0] w fun e w'=>∃A c,e = .returned (.tuple #[.slice A (Px.numB n 7).length c,.int .i64 0])∧OwnB w' w.heap.size 5 (.slice A (Px.numB n 7).length c) (Px.putN n 7 0)∧Below w.heap.size w w':=y_put7 n 0 w hn
theorem y_put128(n:Nat)(w:World)(hn:n<2147483648) :
  Calls Tryz.prog 47 #[.int .i64 (n:Int),.int .i64 7,.int .u8 128] w fun e w'=>∃A c,e = .returned (.tuple #[.slice A (Px.numB n 7).length c,.int .i64 0])∧OwnB w' w.heap.size 5 (.slice A (Px.numB n 7).length c) (Px.putN n 7 128)∧Below w.heap.size w w':=y_put7 n 128 w hn
theorem y_Plain(s:List UInt8)(w:World)(hn:s.length≤10000) :
  Calls Tryz.prog 79 #[.string ⟨s.toArray⟩] w fun e w'=>∃A c,e = .returned (.slice A (plB s).length c)∧HandS w' w.heap.size A (plB s).length c (plB s)∧Below w.heap.size w w':=by
 obtain⟨i0,hi,hz0,hz1,hz2⟩:=info_parts info_tu8
 have hinf:=Lib.hid (And.intro hi (And.intro hz0 (And.intro hz1 hz2)))
 have hnl:=Px.numB_len (n:=s.length) (k:=7) (by omega)
 have HPL:=Lib.hid (pl_len s)
 have HNL:Hid ((Px.putN s.length 7 0).length+s.length≤1000000):=Lib.hid (by rw[Px.numB_len_putN];omega)
 have HP:=Lib.hid (y_put0 s.length w (by omega))
 clear hi hz0 hz1 hz2 hnl hn
 go_enter Tryz.func79,Tryz.ntmps79
 go_wp2_with (first
  | (go_at_call 47;(with_reducible refine HP.out.mono ?_);rintro e w1 ⟨A1,c1,rfl,hown,hb⟩;have HO1:=Lib.hid hown;have HB1:=Lib.hid hb;clear hown hb)
  | (at_builtin;refine wpList_append_str rfl (.tmp 11) (.tmp 12) 25 9 rfl w.heap.size 5 i0 Tryz.underlying25 Tryz.underlying9 hinf.out.1 hinf.out.2.1 hinf.out.2.2.1 hinf.out.2.2.2 _ (Px.putN s.length 7 0) rfl HO1.out s rfl HNL.out HB1.out.size ?_;intro v2 w2 ho2 hb2;obtain⟨A2,c2,rfl,hh⟩:=ho2.handS (n:=(plB s).length) rfl;have HH:=Lib.hid hh;have HB2:=Lib.hid (HB1.out.trans hb2);clear ho2 hb2 hh))
 go_ret
 exact⟨A2,c2,rfl,HH.out,HB2.out⟩
theorem y_Bits(s:List UInt8)(w:World)(hn:s.length≤10000) :
  Calls Tryz.prog 78 #[.string ⟨s.toArray⟩] w fun e w'=>∃A c,e = .returned (.slice A (biB s).length c)∧HandS w' w.heap.size A (biB s).length c (biB s)∧Below w.heap.size w w':=by
 obtain⟨i0,hi,hz0,hz1,hz2⟩:=info_parts info_tu8
 have hinf:=Lib.hid (And.intro hi (And.intro hz0 (And.intro hz1 hz2)))
 obtain⟨c0,w0,hr,hh0,hb0⟩:=Tx.conv_str w s
 have HP:=Lib.hid (r_put (some ⟨w.heap.size,0,none⟩) s.length c0 s w0 hh0.1 hn)
 have HB0:=Lib.hid hb0
 have hol:=hO_le s
 have hnl:=Px.numB_len (n:=(hO s).length) (k:=7) (by omega)
 have HNL:Hid ((Px.putN (hO s).length 7 128).length+(hO s).length≤1000000):=Lib.hid (by rw[Px.numB_len_putN];omega)
 have HQ:Hid (∀w,Calls Tryz.prog 47 #[.int .i64 ((hO s).length:Int),.int .i64 7,.int .u8 128] w fun e w'=>∃A c,e = .returned (.tuple #[.slice A (Px.numB (hO s).length 7).length c,.int .i64 0])∧OwnB w' w.heap.size 5 (.slice A (Px.numB (hO s).length 7).length c) (Px.putN (hO s).length 7 128)∧Below w.heap.size w w'):=Lib.hid (fun w=>y_put128 _ w (by omega))
 clear hi hz0 hz1 hz2 hnl hn hh0 hb0 hol
 go_enter Tryz.func78,Tryz.ntmps78
 go_wp2_with (first
  | (go_at_call 100;(with_reducible refine HP.out.mono ?_);rintro e w1 ⟨A1,m1,c1,ys,rfl,hput,hh,hb⟩;obtain rfl:=hO_eq hput;obtain rfl:=hh.1.1;have HH1:=Lib.hid hh;have HB1:=Lib.hid (below_step HB0.out hb);clear hput hh hb)
  | (go_at_call 47;(with_reducible refine(HQ.out w1).mono ?_);rintro e w2 ⟨A2,c2,rfl,hown,hb⟩;have HO2:=Lib.hid hown;have HH2:=Lib.hid (HH1.out.1.on hb);have hz2:=hb.size;have HB2:=Lib.hid (below_step HB1.out hb);clear hown hb)
  | (at_builtin;refine wpList_append_bytes _ rfl (.tmp 15) (.tmp 16) 25 rfl w1.heap.size 5 i0 Tryz.underlying25 hinf.out.1 hinf.out.2.1 hinf.out.2.2.1 hinf.out.2.2.2 _ (Px.putN (hO s).length 7 128) rfl HO2.out _ A1 (hO s).length c1 (hO s) rfl HH2.out HH1.out.2.2.2 HNL.out hz2 ?_;intro v3 w3 ho3 hb3;obtain⟨A3,c3,rfl,hh⟩:=ho3.handS (n:=(biB s).length) rfl;have HH:=Lib.hid (show HandS w3 w.heap.size A3 (biB s).length c3 (biB s) from⟨hh.1,FreshS.less hh.2.1 HB1.out.size,hh.2.2⟩);have HB3:=Lib.hid (HB2.out.trans (hb3.mono HB1.out.size));clear ho3 hb3 hh))
 go_ret
 exact⟨A3,c3,rfl,HH.out,HB3.out⟩
theorem y_Best(s:List UInt8)(w:World)(hn:s.length≤10000) :
  Calls Tryz.prog 51 #[.string ⟨s.toArray⟩] w fun e w'=>∃A c,e = .returned (.slice A (beB s).length c)∧HandS w' w.heap.size A (beB s).length c (beB s)∧Below w.heap.size w w':=by
 obtain⟨c0,w0,hr,hh,hb⟩:=Tx.conv_str w s
 have hS:=r_shorter (some ⟨w.heap.size,0,none⟩) _ s.length c0 s w0 hh.1 hn
 have HN:=Lib.hid hn
 have HB0:=Lib.hid hb
 clear hn hh hb
 by_cases h:((bl s).length+7) / 8<s.length
 ·rw[decide_eq_true h] at hS
  have HS:=Lib.hid hS
  rw[show beB s=biB s from if_pos h]
  clear hS h
  go_enter Tryz.func51,Tryz.ntmps51
  go_wp2_with (first
   | (go_at_call 77;(with_reducible refine HS.out.mono ?_);rintro e w1 ⟨rfl,rfl⟩)
   | (go_at_call 78;(have hc:=(y_Bits s w0 HN.out);(with_reducible refine hc.mono ?_);clear hc);rintro e w2 ⟨A2,c2,rfl,hh,hb⟩;have B2:=Lib.hid (below_step HB0.out hb);have H2:Hid (HandS w2 w.heap.size A2 (biB s).length c2 (biB s)):=Lib.hid ⟨hh.1,FreshS.less hh.2.1 HB0.out.size,hh.2.2⟩;clear hb hh))
  go_ret
  exact⟨A2,c2,rfl,H2.out,B2.out⟩
 ·rw[decide_eq_false h] at hS
  have HS:=Lib.hid hS
  rw[show beB s=plB s from if_neg h]
  clear hS h
  go_enter Tryz.func51,Tryz.ntmps51
  go_wp2_with (first
   | (go_at_call 77;(with_reducible refine HS.out.mono ?_);rintro e w1 ⟨rfl,rfl⟩)
   | (go_at_call 79;(have hc:=(y_Plain s w0 HN.out);(with_reducible refine hc.mono ?_);clear hc);rintro e w2 ⟨A2,c2,rfl,hh,hb⟩;have B2:=Lib.hid (below_step HB0.out hb);have H2:Hid (HandS w2 w.heap.size A2 (plB s).length c2 (plB s)):=Lib.hid ⟨hh.1,FreshS.less hh.2.1 HB0.out.size,hh.2.2⟩;clear hb hh))
  go_ret
  exact⟨A2,c2,rfl,H2.out,B2.out⟩
end Go.Proofs.YtahiajeggbpogaaGreatDoor
