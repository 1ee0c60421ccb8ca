import Derived.Test.YtahiajeggbpogaaGreatDoorPkW
import Derived.Test.YtahiajeggbpogaaGreatDoorGTopL
set_option maxRecDepth 100000
set_option maxHeartbeats 4000000
namespace Go.Proofs.YtahiajeggbpogaaGreatDoor
open Go.RowKit Go.Shelf Px Tx Tb Up Pk
set_option linter.unusedVariables false
set_option linter.unusedSimpArgs false
attribute [local go_sem] Oper.semAt_some
namespace Pk
def gB(xs ls:List Fd):Bool:=greatB xs||greatB ls||decide (40<ls.length)
theorem great_sz{xs:List Fd}(h:greatB xs=false):xs.length≤140∧full xs≤5000+xs.length*32:=by
 unfold greatB at h
 simp only[Bool.or_eq_false_iff,decide_eq_false_iff_not] at h
 have h1:xs.length≤140:=by omega
 rw[List.take_of_length_le (by omega)] at h
 refine⟨h1,?_⟩
 have:=h.2
 unfold byts at this
 omega
theorem g_bd{xs ls:List Fd}(h:gB xs ls=false):full xs≤9480∧xs.length≤140∧full ls≤7000∧ls.length≤40:=by
 unfold gB at h
 simp only[Bool.or_eq_false_iff,decide_eq_false_iff_not] at h
 obtain⟨⟨h1,h2⟩,h3⟩:=h
 have a:=great_sz h1
 have b:=great_sz h2
 omega
end Pk
section
variable {fs:List Fact}{gs:List Bx}
theorem p_fields{A A':Option Addr}{n n' c c':Nat}{xs ys:List Fd}{b:Bool}(w:World)(hV:EnvF w fs gs)(hA:fF A n xs∈fs)(hA':fF A' n' ys∈fs)(hn:n≤1000000)(h:decide (xs=ys)=b) :
  Calls Tryz.prog 38 #[.slice A n c,.slice A' n' c'] w fun e w'=>e = .returned (.bool b)∧Below w.heap.size w w':=
 h ▸ r_fields A A' n n' c c' xs ys w (hV.fs hA) (hV.fs hA') hn
end
theorem c_great_1(M:Int)(A:Option Addr)(n c:Nat)(xs:List Fd)(LA:Option Addr)(ln lc:Nat)(ls:List Fd)(w:World)(hA:Fs w w.heap.size A n xs)(hL:Fs w w.heap.size LA ln ls)(HG1:Hid (∀w0:World,Fs w0 w0.heap.size A n xs→Calls Tryz.prog 24 #[.slice A n c] w0 fun e w'=>e = .returned (.bool true)∧Below w0.heap.size w0 w')) :
  Calls Tryz.prog 23 #[.agg #[.int .i64 M,.slice A n c],.slice LA ln lc] w fun e w'=>e = .returned (.bool true)∧Below w.heap.size w w':=by
 have K0:=Lib.hid ((((EnvF.nil w).addF hA).addF hL).boxg 24 #[.int .i64 M,.slice A n c] w.heap.size rfl)
 have G0:=Lib.hid ((Below.refl w.heap.size w).alloc (Nat.le_refl _) (.cells #[.int .i64 M,.slice A n c] 24))
 clear hA hL
 go_enter Tryz.func23,Tryz.ntmps23
 go_wp2_with (first
  | go_skip
  | (refine at_load 22 (.tmp 5) (by rfl) ?_;refine wpListG_get (by rfl) 22 (.tmp 5) (by rfl) w.heap.size 1 (by rfl) 24 #[.int .i64 M,.slice A n c] (.slice A n c) _ (K0.out.row 0 rfl) (by rfl) Tryz.underlying22 (by rfl) ?_)
  | (go_at_call 24;(with_reducible refine(HG1.out _ (K0.out.fs (A:=A) (n:=n) (xs:=xs) (by simp))).mono ?_);rintro e w1 ⟨rfl,hb⟩;have K1:=Lib.hid (K0.out.on hb);have G1:=Lib.hid (below_step G0.out hb);clear hb K0 G0))
 go_ret
 exact⟨rfl,G1.out⟩
theorem c_great_2(M:Int)(A:Option Addr)(n c:Nat)(xs:List Fd)(LA:Option Addr)(ln lc:Nat)(ls:List Fd)(w:World)(hA:Fs w w.heap.size A n xs)(hL:Fs w w.heap.size LA ln ls)(HG1:Hid (∀w0:World,Fs w0 w0.heap.size A n xs→Calls Tryz.prog 24 #[.slice A n c] w0 fun e w'=>e = .returned (.bool false)∧Below w0.heap.size w0 w'))(HG2:Hid (∀w0:World,Fs w0 w0.heap.size LA ln ls→Calls Tryz.prog 24 #[.slice LA ln lc] w0 fun e w'=>e = .returned (.bool true)∧Below w0.heap.size w0 w')) :
  Calls Tryz.prog 23 #[.agg #[.int .i64 M,.slice A n c],.slice LA ln lc] w fun e w'=>e = .returned (.bool true)∧Below w.heap.size w w':=by
 have K0:=Lib.hid ((((EnvF.nil w).addF hA).addF hL).boxg 24 #[.int .i64 M,.slice A n c] w.heap.size rfl)
 have G0:=Lib.hid ((Below.refl w.heap.size w).alloc (Nat.le_refl _) (.cells #[.int .i64 M,.slice A n c] 24))
 clear hA hL
 go_enter Tryz.func23,Tryz.ntmps23
 go_wp2_with (first
  | go_skip
  | (refine at_load 22 (.tmp 5) (by rfl) ?_;refine wpListG_get (by rfl) 22 (.tmp 5) (by rfl) w.heap.size 1 (by rfl) 24 #[.int .i64 M,.slice A n c] (.slice A n c) _ (K0.out.row 0 rfl) (by rfl) Tryz.underlying22 (by rfl) ?_)
  | (go_at_call 24;(with_reducible refine(HG1.out _ (K0.out.fs (A:=A) (n:=n) (xs:=xs) (by simp))).mono ?_);rintro e w1 ⟨rfl,hb⟩;have K1:=Lib.hid (K0.out.on hb);have G1:=Lib.hid (below_step G0.out hb);clear hb K0 G0)
  | (go_at_call 24;(with_reducible refine(HG2.out _ (K1.out.fs (A:=LA) (n:=ln) (xs:=ls) (by simp))).mono ?_);rintro e w2 ⟨rfl,hb⟩;have K2:=Lib.hid (K1.out.on hb);have G2:=Lib.hid (below_step G1.out hb);clear hb K1 G1))
 go_ret
 exact⟨rfl,G2.out⟩
theorem c_great_3(M:Int)(A:Option Addr)(n c:Nat)(xs:List Fd)(LA:Option Addr)(ln lc:Nat)(ls:List Fd)(w:World)(hA:Fs w w.heap.size A n xs)(hL:Fs w w.heap.size LA ln ls)(HG1:Hid (∀w0:World,Fs w0 w0.heap.size A n xs→Calls Tryz.prog 24 #[.slice A n c] w0 fun e w'=>e = .returned (.bool false)∧Below w0.heap.size w0 w'))(HG2:Hid (∀w0:World,Fs w0 w0.heap.size LA ln ls→Calls Tryz.prog 24 #[.slice LA ln lc] w0 fun e w'=>e = .returned (.bool false)∧Below w0.heap.size w0 w'))(hd:decide ((40:Int)<(ln:Int))=true) :
  Calls Tryz.prog 23 #[.agg #[.int .i64 M,.slice A n c],.slice LA ln lc] w fun e w'=>e = .returned (.bool true)∧Below w.heap.size w w':=by
 have K0:=Lib.hid ((((EnvF.nil w).addF hA).addF hL).boxg 24 #[.int .i64 M,.slice A n c] w.heap.size rfl)
 have G0:=Lib.hid ((Below.refl w.heap.size w).alloc (Nat.le_refl _) (.cells #[.int .i64 M,.slice A n c] 24))
 clear hA hL
 go_enter Tryz.func23,Tryz.ntmps23
 go_wp2_with (first
  | go_skip
  | (refine at_load 22 (.tmp 5) (by rfl) ?_;refine wpListG_get (by rfl) 22 (.tmp 5) (by rfl) w.heap.size 1 (by rfl) 24 #[.int .i64 M,.slice A n c] (.slice A n c) _ (K0.out.row 0 rfl) (by rfl) Tryz.underlying22 (by rfl) ?_)
  | (go_at_call 24;(with_reducible refine(HG1.out _ (K0.out.fs (A:=A) (n:=n) (xs:=xs) (by simp))).mono ?_);rintro e w1 ⟨rfl,hb⟩;have K1:=Lib.hid (K0.out.on hb);have G1:=Lib.hid (below_step G0.out hb);clear hb K0 G0)
  | (go_at_call 24;(with_reducible refine(HG2.out _ (K1.out.fs (A:=LA) (n:=ln) (xs:=ls) (by simp))).mono ?_);rintro e w2 ⟨rfl,hb⟩;have K2:=Lib.hid (K1.out.on hb);have G2:=Lib.hid (below_step G1.out hb);clear hb K1 G1))
 go_ret
 exact⟨rfl,G2.out⟩
theorem c_great_4(M:Int)(A:Option Addr)(n c:Nat)(xs:List Fd)(LA:Option Addr)(ln lc:Nat)(ls:List Fd)(w:World)(hA:Fs w w.heap.size A n xs)(hL:Fs w w.heap.size LA ln ls)(HG1:Hid (∀w0:World,Fs w0 w0.heap.size A n xs→Calls Tryz.prog 24 #[.slice A n c] w0 fun e w'=>e = .returned (.bool false)∧Below w0.heap.size w0 w'))(HG2:Hid (∀w0:World,Fs w0 w0.heap.size LA ln ls→Calls Tryz.prog 24 #[.slice LA ln lc] w0 fun e w'=>e = .returned (.bool false)∧Below w0.heap.size w0 w'))(hd:decide ((40:Int)<(ln:Int))=false) :
  Calls Tryz.prog 23 #[.agg #[.int .i64 M,.slice A n c],.slice LA ln lc] w fun e w'=>e = .returned (.bool false)∧Below w.heap.size w w':=by
 have K0:=Lib.hid ((((EnvF.nil w).addF hA).addF hL).boxg 24 #[.int .i64 M,.slice A n c] w.heap.size rfl)
 have G0:=Lib.hid ((Below.refl w.heap.size w).alloc (Nat.le_refl _) (.cells #[.int .i64 M,.slice A n c] 24))
 clear hA hL
 go_enter Tryz.func23,Tryz.ntmps23
 go_wp2_with (first
  | go_skip
  | (refine at_load 22 (.tmp 5) (by rfl) ?_;refine wpListG_get (by rfl) 22 (.tmp 5) (by rfl) w.heap.size 1 (by rfl) 24 #[.int .i64 M,.slice A n c] (.slice A n c) _ (K0.out.row 0 rfl) (by rfl) Tryz.underlying22 (by rfl) ?_)
  | (go_at_call 24;(with_reducible refine(HG1.out _ (K0.out.fs (A:=A) (n:=n) (xs:=xs) (by simp))).mono ?_);rintro e w1 ⟨rfl,hb⟩;have K1:=Lib.hid (K0.out.on hb);have G1:=Lib.hid (below_step G0.out hb);clear hb K0 G0)
  | (go_at_call 24;(with_reducible refine(HG2.out _ (K1.out.fs (A:=LA) (n:=ln) (xs:=ls) (by simp))).mono ?_);rintro e w2 ⟨rfl,hb⟩;have K2:=Lib.hid (K1.out.on hb);have G2:=Lib.hid (below_step G1.out hb);clear hb K1 G1))
 go_ret
 exact⟨rfl,G2.out⟩
theorem great_call{w:World}{M:Int}{A:Option Addr}{n c:Nat}{LA:Option Addr}{ln lc:Nat}{xs ls:List Fd}(hA:Fs w w.heap.size A n xs)(hnc:n≤c)(hcm:c≤maxLen)(hS : ∀x∈xs,x.1.size≤140737488355328∧x.2.size≤140737488355328)(hL:Fs w w.heap.size LA ln ls)(hnl:ln≤lc)(hlm:lc≤maxLen)(hT : ∀x∈ls,x.1.size≤140737488355328∧x.2.size≤140737488355328) :
  Hid (∀w0:World,Fs w0 w0.heap.size A n xs→Fs w0 w0.heap.size LA ln ls→Calls Tryz.prog 23 #[.agg #[.int .i64 M,.slice A n c],.slice LA ln lc] w0 fun e w'=>e = .returned (.bool (gB xs ls))∧Below w0.heap.size w0 w'):=Lib.hid fun w0 h1 h2=>by
 have e2:=h2.1
 have HG1:Hid (∀w0:World,Fs w0 w0.heap.size A n xs→Calls Tryz.prog 24 #[.slice A n c] w0 fun e w'=>e = .returned (.bool (greatB xs))∧Below w0.heap.size w0 w'):=Lib.hid fun w0 h=>r_great A n c xs w0 h hnc hcm hS
 have HG2:Hid (∀w0:World,Fs w0 w0.heap.size LA ln ls→Calls Tryz.prog 24 #[.slice LA ln lc] w0 fun e w'=>e = .returned (.bool (greatB ls))∧Below w0.heap.size w0 w'):=Lib.hid fun w0 h=>r_great LA ln lc ls w0 h hnl hlm hT
 unfold gB
 cases g1:greatB xs with
 | true=>rw[g1] at HG1;exact c_great_1 M A n c xs LA ln lc ls w0 h1 h2 HG1
 | false=>
  rw[g1] at HG1
  cases g2:greatB ls with
  | true=>rw[g2] at HG2;exact c_great_2 M A n c xs LA ln lc ls w0 h1 h2 HG1 HG2
  | false=>
   rw[g2] at HG2
   by_cases h:40<ls.length
   ·rw[decide_eq_true h]
    exact c_great_3 M A n c xs LA ln lc ls w0 h1 h2 HG1 HG2 (decide_eq_true (by omega))
   ·rw[decide_eq_false h]
    exact c_great_4 M A n c xs LA ln lc ls w0 h1 h2 HG1 HG2 (decide_eq_false (by omega))
theorem right_call{M:Int}{A:Option Addr}{n c:Nat}{xs:List Fd}(hF:full xs≤1000000){b:Bool}(hb:rightB M xs=b) :
  Hid (∀w0:World,Fs w0 w0.heap.size A n xs→Calls Tryz.prog 36 #[.agg #[.int .i64 M,.slice A n c]] w0 fun e w'=>e = .returned (.bool b)∧Below w0.heap.size w0 w'):=
 Lib.hid fun w0 h=>hb ▸ r_right M A n c xs w0 h hF
end Go.Proofs.YtahiajeggbpogaaGreatDoor
