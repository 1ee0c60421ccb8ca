import Derived.Test.YtahiajeggbpogaaGreatDoorUpK
import Derived.Test.YtahiajeggbpogaaGreatDoorUpC
set_option maxRecDepth 100000
set_option maxHeartbeats 1000000
namespace Go.Proofs.YtahiajeggbpogaaGreatDoor
open Go.RowKit Go.Shelf Px
set_option linter.unusedVariables false
set_option linter.unusedSimpArgs false
attribute [local go_sem] Oper.semAt_some
theorem OwnB.set0{w:World}{B:Nat}{t:TypeId}{g n c:Nat}{x y:UInt8}{xs:List UInt8}(h:OwnB w B t (.slice (some ⟨g,0,none⟩) n c) (x::xs)):OwnB (w.setCell ⟨g,0,none⟩ (bv y)) B t (.slice (some ⟨g,0,none⟩) n c) (y::xs):=by
 rcases h.2 with ⟨e,_⟩ | ⟨g2,cap,cur,e,hB,hh,hle,hmax,hs,htake⟩
 ·cases e
 ·cases e
  have hcur : ∃a l,cur.toList=a::l:=by
   cases hl:cur.toList with
   | nil=>rw[hl] at htake;simp at htake
   | cons a l=>exact⟨a,l,rfl⟩
  obtain⟨a,l,hl⟩:=hcur
  have hc2:cur=(a::l).toArray:=by rw[←hl]
  refine⟨by simp,.inr ⟨g,c,cur.setIfInBounds 0 (bv y),rfl,hB,Go.heap_setCell_same w g 0 cur t _ hh,hle,hmax,by simpa using hs,?_⟩⟩
  subst hc2
  simp only[List.length_cons,Nat.mul_one,List.map_cons] at htake ⊢
  rw[List.take_succ_cons] at htake
  injection htake with h1 h2
  simp[h2]
theorem OwnB.putD{w:World}{B:Nat}{t:TypeId}{v:Value}{xs:List UInt8}(h:OwnB w B t v xs){D:Nat}{l:Option (List Deferred)}(hD:w.heap[D]? = some (.deferred l)):OwnB (w.putObj D (.deferred none)) B t v xs:=
 h.other (grownBy_putObj' w D (.deferred none)) (fun k e=>by cases e;exact⟨_,hD,rfl⟩)
theorem x_put_own(n k:Nat)(u:UInt8)(w:World)(h1:1≤k)(h8:k≤8)(hn:n<2147483648) :
  Calls Tryz.prog 70 #[.int .i64 (n:Int),.int .i64 (k:Int),.int .u8 (u.toNat:Int)] w fun e w'=>∃A c,e = .returned (.tuple #[.slice A (numB n k).length c,.int .i64 0])∧OwnB w' w.heap.size 5 (.slice A (numB n k).length c) (putN n k u.toNat)∧Below w.heap.size w w':=by
 have hd:decide (MayN (n:Int) (k:Int))=true:=decide_eq_true ⟨⟨by omega,by omega⟩,by omega,by omega⟩
 refine(callsIn_wide (n:=6)).1 (callsIn_of_wp_marks Tryz.func70 rfl trivial ?_ rfl)
 refine wpIn_wide.2 ?_
 simp only[Tryz.ntmps70,List.size_toArray,List.length_cons,List.length_nil,Nat.reduceAdd,Nat.reduceSub,Array.replicate_succ,Array.replicate_zero,List.push_toArray,List.append_toArray,List.nil_append,List.cons_append]
 go_wp2
 refine wp_scope_forward 0 rfl ?_
 go_wp2_with (first | (go_at_call 92;(with_reducible refine(x_fits _ _ _).mono ?_);rintro e w' ⟨rfl,rfl⟩;rw[hd]) | (go_at_call 93;refine(x_octets _ _ _).mono ?_;rintro e w' ⟨rfl,rfl⟩))
 have hb0:Below w.heap.size w (((w.alloc (.cells #[.slice none 0 0] 25)).alloc (.cells #[.int .i64 (n:Int)] 3)).alloc (.cells #[.int .i64 (k:Int)] 3)):=(((Below.refl _ w).alloc (Nat.le_refl _) _).alloc (by simp) _).alloc (by simp only[World.size_alloc];omega) _
 have hr0:(((w.alloc (.cells #[.slice none 0 0] 25)).alloc (.cells #[.int .i64 (n:Int)] 3)).alloc (.cells #[.int .i64 (k:Int)] 3)).heap[w.heap.size]? = some (.cells #[.slice none 0 0] 25):=
  (Below.heap_alloc _ _ _ (by simp;omega)).trans ((Below.heap_alloc _ _ _ (by simp)).trans (World.alloc_heap_new _ _))
 have hr1:(((w.alloc (.cells #[.slice none 0 0] 25)).alloc (.cells #[.int .i64 (n:Int)] 3)).alloc (.cells #[.int .i64 (k:Int)] 3)).heap[w.heap.size+1]? = some (.cells #[.int .i64 (n:Int)] 3):=
  (Below.heap_alloc _ _ _ (by simp)).trans (by have h:=World.alloc_heap_new (w.alloc (.cells #[.slice none 0 0] 25)) (.cells #[.int .i64 (n:Int)] 3);rwa [World.size_alloc] at h)
 have hr2:(((w.alloc (.cells #[.slice none 0 0] 25)).alloc (.cells #[.int .i64 (n:Int)] 3)).alloc (.cells #[.int .i64 (k:Int)] 3)).heap[w.heap.size+1+1]? = some (.cells #[.int .i64 (k:Int)] 3):=by
  have h:=World.alloc_heap_new ((w.alloc (.cells #[.slice none 0 0] 25)).alloc (.cells #[.int .i64 (n:Int)] 3)) (.cells #[.int .i64 (k:Int)] 3);rwa [World.size_alloc,World.size_alloc] at h
 have hz:(((w.alloc (.cells #[.slice none 0 0] 25)).alloc (.cells #[.int .i64 (n:Int)] 3)).alloc (.cells #[.int .i64 (k:Int)] 3)).heap.size=w.heap.size+3:=by simp
 generalize ((w.alloc (.cells #[.slice none 0 0] 25)).alloc (.cells #[.int .i64 (n:Int)] 3)).alloc (.cells #[.int .i64 (k:Int)] 3)=W0 at *
 have hlen:=numB_len (n:=n) (k:=k) (by omega)
 have hul:=u.toNat_lt
 obtain⟨i0,hi,hz0,hz1,hz2⟩:=info_parts info_u8
 have hinf:=Lib.hid (And.intro hi (And.intro hz0 (And.intro hz1 hz2)))
 clear hi hz0 hz1 hz2
 refine(wpIn_wide (n:=6)).1 ?_
 refine wpIn_rangeFunc_state rfl (by omega) (gf:=109) (lb:=#[.pointer (some ⟨w.heap.size+1+1,0,none⟩),.pointer (some ⟨w.heap.size+1,0,none⟩)]) rfl trivial (enters_of Tryz.func109 (by kernel_rfl) rfl)
  (octets_stops 5 (by omega) (w.heap.size+1+1) (w.heap.size+1) k n (fun j=>j=w.heap.size+1+1∨j=w.heap.size+1) W0 (.inl rfl) (.inr rfl) (by omega) h1 h8 hn hr2 hr1)
  (fun h k=>keepZ_trans h k) (fun W l o o' _ h hc _=>keepZ_put W l o o' h hc) (fun _=>rfl) (fun A B l o hs h hc=>stB_keep A B l o hs h hc)
  (GatherB w w.heap.size W0.heap.size 25 5) (gatherB_own (by omega)) (fun pre A B h hs=>by obtain⟨v,rfl⟩:=hs;exact gatherB_set (by omega) (by omega) (by omega) pre A v h) ⟨⟨_,hr0,OwnB.nil_ _ _ _⟩,hb0,Nat.le_refl _⟩
  (fun pre x a' W=>a'={ tmps:=#[.int .i64 (n:Int),.int .i64 (k:Int),.int .u8 (u.toNat:Int),undef,undef,undef,.slice none 0 0,.int .i64 0,.pointer (some ⟨w.heap.size,0,none⟩),.int .u8 (x.toNat:Int),.int .i64 (n:Int),.int .i64 (k:Int),.bool true,.bool false,.int .i64 (n:Int),.int .i64 (k:Int),.func (.func 109) #[] #[.pointer (some ⟨w.heap.size+1+1,0,none⟩),.pointer (some ⟨w.heap.size+1,0,none⟩)],.int .u8 (x.toNat:Int),undef,undef,undef,undef,undef,undef,undef,undef,undef,undef,undef,undef,undef,undef],defers:=[] }) (fun pre x a' _ _ _ _ h _ _=>h)
  ?assign ?body ?done
 case assign=>
  intro l pre x W K hI hV hK
  have HK:=Lib.hid hK
  have HI:=Lib.hid hI
  clear hK hI hV
  gi_wp2
  exact HK.out _ _ (KeepsFrom.refl _ _) ⟨KeepC.refl _ _,Nat.le_refl _⟩ HI.out rfl
 case body=>
  rintro l pre x a' W hl0 hI rfl hlen2
  obtain⟨⟨v,hrow,hown⟩,hbel,hsz⟩:=hI
  have c0:=cells1_row hrow
  have HROW:=Lib.hid hrow
  have HOWN:=Lib.hid hown
  have HOWN2:=Lib.hid (hown.alloc (.cells #[.int .u8 (x.toNat:Int)] 5))
  have hlW : ∀j u,([x].map bv)[j]? = some u→(W.alloc (.cells #[.int .u8 (x.toNat:Int)] 5)).cell? ((⟨W.heap.size,0,none⟩:Addr).add j)=some u:=by
   intro j y hy
   have hj:j=0:=by
    have:=(List.getElem?_eq_some_iff.1 hy).1
    simp at this
    omega
   subst hj
   simp only[List.map_cons,List.map_nil,List.getElem?_cons_zero,Option.some.injEq] at hy
   subst hy
   simp[go_sem,bv]
  have HLW:=Lib.hid hlW
  have HBEL:=Lib.hid hbel
  clear hrow hown hlW hbel hr0 hr1 hr2 hb0
  gi_wp2_with (gi_at_builtin;refine wpListIn_append_full _ rfl (.tmp 18) (.tmp 20) 25 rfl W0.heap.size 5 i0 Tryz.underlying25 hinf.out.1 hinf.out.2.1 hinf.out.2.2.1 hinf.out.2.2.2 v pre rfl HOWN2.out ⟨W.heap.size,0,none⟩ 1 1 [x] rfl HLW.out rfl (by omega) (by simp;omega) ?_;intro v4 w4 hown4 hb4 hg4 hv4;obtain⟨A6,c6,rfl,hh6⟩:=hown4.handS (n:=pre.length+1) (by simp);have HO4:=Lib.hid hown4;have HB4:=Lib.hid hb4;have HG4:=Lib.hid hg4;have hr4:=(hb4.block w.heap.size (by omega)).trans ((Below.heap_alloc _ _ _ (by omega)).trans HROW.out);have c4:=cells1_row hr4;have f4:=frozen_of_row w4 _ 0 _ _ hr4;clear hown4 hb4 hg4 hv4 hr4 hh6)
  exact gatherB_round (KeepZ _) (fun j=>j=w.heap.size+1+1∨j=w.heap.size+1) (fun A B h h2=>⟨h,h2⟩) (Nat.le_refl _) (by omega) hsz (fun j hj=>by omega) HROW.out HOWN.out HBEL.out HB4.out HG4.out HO4.out
 case done=>
  rintro D ys W hD rfl hI hK
  obtain⟨⟨v,hrow,hown⟩,hbel,hsz⟩:=hI
  obtain⟨m,rest,hm,hnum,hput⟩:=put_first n k u.toNat
  have HOR:=Lib.hid (or_first m u.toNat k hul h8 hm)
  generalize UInt8.ofNat m=x0 at *
  rw[hnum] at hown
  obtain⟨A,c,rfl,hAc,_⟩:=hown.form
  obtain⟨g,rfl,hlr,hrc,hBg,hgl,hfz,hcg,hset⟩:=hown.first
  have c0:=cells1_row hrow
  have HCF:=Lib.hid (show W.cell? ⟨g,0,none⟩=some (.int .u8 (x0.toNat:Int)) from hcg)
  have c1:=HCF.out
  have HSET:=Lib.hid hset
  have HBEL:=Lib.hid hbel
  have HNUM:=Lib.hid hnum
  have HPUT:=Lib.hid hput
  have hgD:D≠g:=fun e=>by
   obtain⟨o1,ho1,hc1⟩:=cells_of_cell hcg
   subst e
   have:=ho1.symm.trans hK
   cases this
   cases hc1
  have hD2:((W.setCell ⟨g,0,none⟩ (.int .u8 ((UInt8.ofNat (u.toNat / 2 ^ k*2 ^ k+m)).toNat:Int))).drew).heap[D]? = some (.deferred (some [])):=(Below.heap_setCell W _ _ _ (by simpa using hgD)).trans hK
  have HD2:=Lib.hid hD2
  have HFIN:=Lib.hid (OwnB.putD (B:=w.heap.size) (t:=5) (v:=.slice (some ⟨g,0,none⟩) (numB n k).length c) (xs:=putN n k u.toNat) (by
   have h:=hown.set0 (y:=UInt8.ofNat (u.toNat / 2 ^ k*2 ^ k+m))
   rw[hput,hnum]
   have hle:w.heap.size≤W0.heap.size:=by omega
   exact OwnB.less (OwnB.drew h) hle) hD2)
  have HBF:=Lib.hid (((hbel.setCell (p:=⟨g,0,none⟩) (by simp only;omega) (.int .u8 ((UInt8.ofNat (u.toNat / 2 ^ k*2 ^ k+m)).toNat:Int))).drew).trans (belowK_b (w:=w) (Nat.le_refl _) _ D _ (.deferred none) (by omega) hD2 rfl rfl))
  clear hr0 hr1 hr2 hb0 hset hbel hown hrow hcg hnum hput hgD hD2
  go_wp2
  refine wp_then_only ?_
  go_region_with (go_at_call 94;(with_reducible refine(x_full k _ h1 h8).mono ?_);rintro e w' ⟨rfl,rfl⟩)
  all_goals
   rw[HOR.out]
   go_wp2
   rw[jump_ret]
   exact⟨by simp,.inl ⟨_,_,rfl,run_takeDeferred HD2.out,⟨_,results_tmp2 rfl _ _ _,some ⟨g,0,none⟩,c,by rw[HNUM.out];rfl,HFIN.out,HBF.out⟩⟩⟩
end Go.Proofs.YtahiajeggbpogaaGreatDoor
