/- HdR, HdW, HdO, HdP, PrR. -/
import Derived.Test.YtbflhphjnmhjhaaGreatHdA
import Derived.Test.YtbflhphjnmhjhaaGreatGFour
import Derived.Deep.RegionLaw
import Derived.Deep.RegionWith
import Derived.BigRegion
import Derived.Deep.RegionHeld3
import Derived.Test.YtbflhphjnmhjhaaGreatGKeep
import Derived.Laws.EntriesVeiled
import Derived.Maps.AppendAt
import Derived.Test.YtbflhphjnmhjhaaGreatMf
/- head.read: the head of the first nine bytes. -/
namespace Go.Proofs.YtbflhphjnmhjhaaGreat
open Go.RowKit Oct

def hL (xs : List UInt8) : Nat := takeB (xs.take 3)
def hK (xs : List UInt8) : Nat := (xs[3]?.getD 0).toNat
def hF (xs : List UInt8) : Nat := (xs[4]?.getD 0).toNat
def hS (xs : List UInt8) : Nat := takeB ((xs.drop 5).take 4) % 2147483648
theorem hL_lt (xs : List UInt8) : hL xs < 16777216 := by
  have h1 := takeB_lt (xs.take 3)
  have h2 : (xs.take 3).length ≤ 3 := List.length_take_le _ _
  have h3 : 256 ^ (xs.take 3).length ≤ 256 ^ 3 := Nat.pow_le_pow_right (by decide) h2
  unfold hL
  omega
theorem hS_lt (xs : List UInt8) : hS xs < 2147483648 := Nat.mod_lt _ (by decide)
theorem hL_eq (xs : List UInt8) : takeB (List.take (3 : Int).toNat (List.drop (0 : Int).toNat xs)) = hL xs := rfl
theorem hS_eq (xs : List UInt8) : takeB (List.take 4 (List.drop (5 : Int).toNat xs)) % 2147483648 = hS xs := rfl

end Go.Proofs.YtbflhphjnmhjhaaGreat
/- head.Whole: the first frame's head, its payload, what stands behind it. -/
namespace Go.Proofs.YtbflhphjnmhjhaaGreat
open Go.RowKit Oct

namespace Oct
/-- The four numbers of the head that the first nine bytes tell, if there are nine; else noughts. -/
def tL (xs : List UInt8) (n : Nat) : Nat := if 9 ≤ n then hL xs else 0
def tK (xs : List UInt8) (n : Nat) : Nat := if 9 ≤ n then hK xs else 0
def tF (xs : List UInt8) (n : Nat) : Nat := if 9 ≤ n then hF xs else 0
def tS (xs : List UInt8) (n : Nat) : Nat := if 9 ≤ n then hS xs else 0
def tE (n : Nat) : Int := if 9 ≤ n then 0 else 10
def WholeIn (xs : List UInt8) (n : Nat) : Prop := 9 ≤ n ∧ 9 + hL xs ≤ n
instance (xs : List UInt8) (n : Nat) : Decidable (WholeIn xs n) := by unfold WholeIn; infer_instance
def wE (xs : List UInt8) (n : Nat) : Int := if WholeIn xs n then 0 else 10
def wP (xs : List UInt8) (n : Nat) : List UInt8 := if WholeIn xs n then (xs.drop 9).take (hL xs) else []
def wR (xs : List UInt8) (n : Nat) : List UInt8 := if WholeIn xs n then xs.drop (9 + hL xs) else []
end Oct
def headV (xs : List UInt8) (n : Nat) : Value := .agg #[.int .i64 (tL xs n), .int .u8 (tK xs n), .int .u8 (tF xs n), .int .i64 (tS xs n)]
theorem headV_yes {xs : List UInt8} {n : Nat} (h : 9 ≤ n) : headV xs n = .agg #[.int .i64 (hL xs), .int .u8 (hK xs), .int .u8 (hF xs), .int .i64 (hS xs)] := by
  unfold headV tL tK tF tS; simp only [if_pos h]
theorem headV_no {xs : List UInt8} {n : Nat} (h : ¬ 9 ≤ n) : headV xs n = .agg #[.int .i64 0, .int .u8 0, .int .u8 0, .int .i64 0] := by
  unfold headV tL tK tF tS; simp only [if_neg h]; rfl
end Go.Proofs.YtbflhphjnmhjhaaGreat
/- head.octets: the iterator of a head's nine bytes. -/
namespace Go.Proofs.YtbflhphjnmhjhaaGreat
open Go.RowKit Oct Go.Shelf
attribute [local go_sem] Oper.semAt_some

/-- A head's nine bytes. -/
def hdBytes (L : Nat) (K F : UInt8) (S : Nat) : List UInt8 := putB L 3 ++ ([K, F] ++ putB S 4)
theorem hdBytes_length (L : Nat) (K F : UInt8) (S : Nat) : (hdBytes L K F S).length = 9 := by simp [hdBytes, putB_length]

def hdPart (L : Nat) (K F : UInt8) (S : Nat) : Nat → List UInt8
  | 0 => putB L 3
  | 1 => [K, F]
  | _ => putB S 4
def hdPre (L : Nat) (K F : UInt8) (S : Nat) : Nat → List UInt8
  | 0 => []
  | i + 1 => hdPre L K F S i ++ hdPart L K F S i
theorem hdPre_all (L : Nat) (K F : UInt8) (S : Nat) : hdPre L K F S 3 = hdBytes L K F S := by simp [hdPre, hdPart, hdBytes]
theorem hdPre_len (L : Nat) (K F : UInt8) (S i : Nat) (h : i < 3) : (hdPre L K F S i).length + (hdPart L K F S i).length ≤ 9 ∧ (hdPart L K F S i).length ≤ 4 := by
  have : i = 0 ∨ i = 1 ∨ i = 2 := by omega
  rcases this with rfl | rfl | rfl <;> simp [hdPre, hdPart, putB_length]
theorem take_one {xs : List UInt8} {m : Nat} (pre : List UInt8) (h : m < xs.length) : pre ++ xs.take m ++ [xs[m]] = pre ++ xs.take (m + 1) := by
  rw [List.append_assoc, List.take_append_getElem h]
theorem put3 (L : Nat) (w : World) (h : L < 16777216) :
    Calls Tryz.prog 82 #[.int .i64 L, .int .i64 3] w fun e w' => ∃ v, e = .returned (.tuple #[v, .int .i64 0]) ∧ OwnB w' w.heap.size 5 v (putB L 3) ∧ Below w.heap.size w w' :=
  put_ok L 3 w (by omega) (by omega) (by omega) (by have e : (256 : Int) ^ (3 : Int).toNat = 16777216 := by decide
                                                    rw [e]; omega)
theorem put4 (L : Nat) (w : World) (h : L < 2147483648) :
    Calls Tryz.prog 82 #[.int .i64 L, .int .i64 4] w fun e w' => ∃ v, e = .returned (.tuple #[v, .int .i64 0]) ∧ OwnB w' w.heap.size 5 v (putB L 4) ∧ Below w.heap.size w w' :=
  put_ok L 4 w (by omega) (by omega) (by omega) (by have e : (256 : Int) ^ (4 : Int).toNat = 4294967296 := by decide
                                                    rw [e]; omega)
set_option maxRecDepth 100000 in
set_option maxHeartbeats 1000000 in
theorem octets1_in (n : Nat) (hn : 1 ≤ n) (l B1 L S : Nat) (K F : UInt8) (p : Nat → Prop) (J Jx : List UInt8 → World → Prop) (W : World)
    (hJ : AbidesFrom W.heap.size J) (hB1 : B1 < W.heap.size) (hp : ∀ j, W.heap.size ≤ j → p j) (hL : L < 16777216) (hS : S < 2147483648)
    (hY : ∀ pre (x : UInt8) W1, J pre W1 → pre.length < 9 → YieldAt Fence.wide (n - 1) Tryz.prog l #[.int .u8 x.toNat] W1 fun e W' =>
      (e = .returned (.bool true) ∧ J (pre ++ [x]) W' ∧ KeepC p W1 W') ∨ (e = .returned (.bool false) ∧ Jx (pre ++ [x]) W'))
    (hc : Four W B1 (.int .i64 L) (.int .u8 K.toNat) (.int .u8 F.toNat) (.int .i64 S)) (h0 : J [] W) :
    CallsIn Fence.wide n Tryz.prog 81 #[.func (.yield l) #[] #[], .pointer (some ⟨B1, 0, none⟩)] W fun e W' => (∃ v, e = .returned v) ∧
      ((∃ ys, ys = hdBytes L K F S ∧ J ys W') ∨ (∃ pre, True ∧ Jx pre W')) := by
  have HY := Lib.hid hY
  have HJ := Lib.hid hJ
  have HP := Lib.hid hp
  have HC := Lib.hid hc
  clear hY hJ hp
  obtain ⟨c0, c1, c2, c3⟩ := hc
  refine callsIn_of_wp Tryz.func81 rfl trivial ?_ rfl
  simp only [Tryz.ntmps81, List.size_toArray, List.length_cons, List.length_nil, Nat.reduceAdd, Nat.reduceSub, Array.replicate_succ, Array.replicate_zero, List.push_toArray, List.append_toArray, List.nil_append, List.cons_append]
  gi_wp2_with (first
    | (refine ⟨trivial, ?_⟩; gi_at_call 82; (with_reducible refine (callsIn_wide.2 (put3 L _ hL)).mono ?_); rintro e W1 ⟨v1, rfl, ho1, hb1⟩; obtain ⟨A1, k1, rfl, hk1, hn1, hr1⟩ := ho1.form2 (putB_length _ _); have HR1 := Lib.hid hr1; have HO1 := Lib.hid ho1; clear ho1 hr1; have hF1 := HC.out.below hb1 hB1; have HF1 := Lib.hid hF1; obtain ⟨c0, c1, c2, c3⟩ := hF1)
    | (refine ⟨trivial, ?_⟩; gi_at_call 82; (with_reducible refine (callsIn_wide.2 (put4 S _ hS)).mono ?_); rintro e W2 ⟨v2, rfl, ho2, hb2⟩; obtain ⟨A2, k2, rfl, hk2, hn2, hr2⟩ := ho2.form2 (putB_length _ _); have HR2 := Lib.hid hr2; have HO2 := Lib.hid ho2; clear ho2 hr2; have hF2 := HF1.out.below hb2 (Nat.lt_of_lt_of_le hB1 hb1.size); have HF2 := Lib.hid hF2; obtain ⟨c0, c1, c2, c3⟩ := hF2))
  generalize hW3 : ((W2.alloc (.cells #[.int .u8 K.toNat, .int .u8 F.toNat] 5)).alloc (.cells #[.slice A1 3 k1, .slice (some ⟨W2.heap.size, 0, none⟩) 2 2, .slice A2 4 k2] 24)) = W3
  have hz1 := hb1.size
  have hz2 := hb2.size
  have hb3 : Below W2.heap.size W2 W3 := by rw [← hW3]; exact ((Below.refl _ W2).alloc (Nat.le_refl _) _).alloc (by simp) _
  have hz3 := hb3.size
  have hJ3 : J [] W3 := AbidesFrom.below HJ.out (AbidesFrom.below HJ.out (AbidesFrom.below HJ.out h0 hb1) hb2) hb3
  have hq : ∀ i, i < 3 → ∃ A m c xs, W3.cell? ⟨W2.heap.size + 1, i, none⟩ = some (.slice A m c) ∧ Bs W3 W3.heap.size A m xs ∧ (∀ b o, A = some ⟨b, o, none⟩ → p b) ∧ xs = hdPart L K F S i := by
    have hg1 : ∀ b o, A1 = some ⟨b, o, none⟩ → p b := fun b o e => by
      obtain ⟨_, _, e1, _, _, h4, _⟩ := HO1.out.form
      cases e1
      obtain ⟨g, e2, h5, _⟩ := h4 _ e
      cases e2
      exact HP.out _ h5
    have hg2 : ∀ b o, A2 = some ⟨b, o, none⟩ → p b := fun b o e => by
      obtain ⟨_, _, e1, _, _, h4, _⟩ := HO2.out.form
      cases e1
      obtain ⟨g, e2, h5, _⟩ := h4 _ e
      cases e2
      exact HP.out _ (by omega)
    have hq2 : Bs W3 W3.heap.size (some ⟨W2.heap.size, 0, none⟩) 2 [K, F] := by
      have h := bs_lit W2 5 [K, F] #[.int .u8 K.toNat, .int .u8 F.toNat] W2.heap.size rfl (by simp [bv])
      rw [← hW3]
      exact (h.alloc (by simp) _).more (by simp)
    intro i hi
    have h3 : i = 0 ∨ i = 1 ∨ i = 2 := by omega
    rcases h3 with rfl | rfl | rfl
    · exact ⟨A1, 3, k1, _, by rw [← hW3]; simp [go_sem], ((HR1.out.below hb2).below (hb3.mono hz2)).more (by omega), hg1, rfl⟩
    · exact ⟨_, 2, 2, _, by rw [← hW3]; simp [go_sem], hq2, fun b o e => by cases e; exact HP.out _ (by omega), rfl⟩
    · exact ⟨A2, 4, k2, _, by rw [← hW3]; simp [go_sem], (HR2.out.below hb3).more (by omega), hg2, rfl⟩
  have hpq : p (W2.heap.size + 1) := HP.out _ (by omega)
  have HQ := Lib.hid hq
  clear hq hW3 HO1 HO2 HR1 HR2 HF1 HF2 c0 c1 c2 c3 h0 hb1 hb2
  have HJ3 := Lib.hid hJ3
  clear hJ3
  gi_loopw [32] (fun t wr => ∃ i : Nat, i ≤ 3 ∧ t = .int .i64 i ∧ KeepC p W3 wr ∧ J (hdPre L K F S i) wr) (fun t _ => 3 - (intOf t).toNat)
  case atStart => exact ⟨0, Nat.zero_le _, rfl, KeepC.refl _ _, HJ3.out⟩
  case round =>
    obtain ⟨i, hi, rfl, hkp, hJi⟩ := hrel
    by_cases hlt : i < 3
    · obtain ⟨A, m, c, xs, hcell, hbs, hpb, hxs⟩ := HQ.out i hlt
      have hcq := hkp.cell (a := ⟨W2.heap.size + 1, i, none⟩) hpq hcell
      have hlen := hdPre_len L K F S i hlt
      rw [← hxs] at hlen
      have HXS := Lib.hid hxs
      have HBS := Lib.hid hbs
      have hm : xs.length = m := hbs.1
      have HM := Lib.hid hm
      have hm4 : m ≤ 4 := by omega
      have hm9 : (hdPre L K F S i).length + m ≤ 9 := by omega
      have HPB := Lib.hid hpb
      clear hcell hbs hpb hxs hm hlen
      have hd3 : decide ((i : Int) < 3) = true := by simp; omega
      gi_wp2
      gi_loopw [38] (fun t wr => ∃ j : Nat, j ≤ m ∧ t = .int .i64 j ∧ KeepC p W3 wr ∧ J (hdPre L K F S i ++ xs.take j) wr) (fun t _ => m - (intOf t).toNat)
      case atStart => exact ⟨0, Nat.zero_le _, rfl, hkp, by simpa using hJi⟩
      case round =>
        obtain ⟨j, hj, rfl, hkp2, hJj⟩ := hrel
        by_cases hlt2 : j < m
        · obtain ⟨b, o, rfl, _, hcells⟩ := bs_cell HBS.out (by omega)
          obtain ⟨x, hx, hcx⟩ := hcells j hlt2
          have hcx2 := hkp2.cell (a := ⟨b, o + j, none⟩) (HPB.out b o rfl) hcx
          have hxj : j < xs.length := by have := HM.out; omega
          have hstep : hdPre L K F S i ++ xs.take j ++ [x] = hdPre L K F S i ++ xs.take (j + 1) := by
            rw [List.getElem?_eq_getElem hxj] at hx
            cases hx
            exact take_one _ hxj
          have HST := Lib.hid hstep
          clear hcells hx hcx hstep
          obtain ⟨fn, tmps, assign, body, hy, hR⟩ := HY.out _ x wr hJj (by rw [List.length_append, List.length_take]; have := HM.out; omega)
          rw [HST.out] at hR
          gi_wp2
          refine hR.mono ?_
          rintro e W4 (⟨rfl, hJ4, hk4⟩ | ⟨rfl, hJx4⟩)
          · gi_wp2
            go_roundw
            case rel => exact ⟨j + 1, by omega, by go_num, hkp2.trans hk4, hJ4⟩
            case measure => simp [intOf]; omega
          · gi_wp2
            refine bodyPost_ret (results_none rfl _ _ _) rfl ?_
            exact ⟨⟨_, rfl⟩, .inr ⟨_, trivial, hJx4⟩⟩
        · obtain rfl : j = m := by omega
          have hJm : J (hdPre L K F S (i + 1)) wr := by
            show J (hdPre L K F S i ++ hdPart L K F S i) wr
            rw [← HXS.out]
            rw [List.take_of_length_le (by rw [HM.out]; exact Nat.le_refl _)] at hJj
            exact hJj
          have HJm := Lib.hid hJm
          clear hJm hJj
          gi_wp2
          go_roundw
          case rel => exact ⟨i + 1, by omega, by go_num, hkp2, HJm.out⟩
          case measure => simp [intOf]; omega
    · obtain rfl : i = 3 := by omega
      gi_wp2
      go_end0
      exact ⟨⟨_, rfl⟩, .inl ⟨_, (hdPre_all L K F S).symm ▸ rfl, hJi⟩⟩
/-- The nine bytes, as an iterator's word. -/
theorem octets_stops (n : Nat) (hn : 1 ≤ n) (B1 L S : Nat) (K F : UInt8) (p : Nat → Prop) (w : World) (hB1 : B1 < w.heap.size) (hp : ∀ j, w.heap.size ≤ j → p j) (hL : L < 16777216) (hS : S < 2147483648)
    (hc : Four w B1 (.int .i64 L) (.int .u8 K.toNat) (.int .u8 F.toNat) (.int .i64 S)) :
    SeqStopsK Fence.wide n Tryz.prog 81 #[.pointer (some ⟨B1, 0, none⟩)] (fun x : UInt8 => #[Value.int .u8 x.toNat]) (KeepC p)
      (fun ys => ys = hdBytes L K F S) (fun _ => True) 9 w := fun l J Jx W hW hJ _ hY h0 =>
  octets1_in n hn l B1 L S K F p J Jx W hJ (Nat.lt_of_lt_of_le hB1 hW.size) (fun j hj => hp j (Nat.le_trans hW.size hj)) hL hS hY (hc.below hW hB1) h0
theorem octets_any (L K F S : Int) (w : World) :
    Calls Tryz.prog 49 #[.agg #[.int .i64 L, .int .u8 K, .int .u8 F, .int .i64 S]] w fun e w' =>
      e = .returned (.func (.func 81) #[] #[.pointer (some ⟨w.heap.size, 0, none⟩)]) ∧ w.alloc (.cells #[.int .i64 L, .int .u8 K, .int .u8 F, .int .i64 S] 23) = w' := by
  go_enter Tryz.func49, Tryz.ntmps49
  go_wp2
  go_ret
  exact ⟨rfl, rfl⟩
end Go.Proofs.YtbflhphjnmhjhaaGreat
/- head.Put: a head's nine bytes, in memory of the call's own. -/
namespace Go.Proofs.YtbflhphjnmhjhaaGreat
open Go.RowKit Oct Go.Shelf
attribute [local go_sem] Oper.semAt_some

theorem put_box {w w1 w2 : World} {u0 u1 u2 u3 : Value} {t s : TypeId} (hb1 : Below ((w.alloc (.cells #[u0, u1, u2, u3] t)).alloc (.cells #[.slice none 0 0] s)).heap.size ((w.alloc (.cells #[u0, u1, u2, u3] t)).alloc (.cells #[.slice none 0 0] s)) w1) (hb2 : Below w1.heap.size w1 w2) :
    w2.cell? ⟨w.heap.size + 1, 0, none⟩ = some (.slice none 0 0) ∧ w2.frozen? ⟨w.heap.size + 1, 0, none⟩ = false ∧ Four w2 w.heap.size u0 u1 u2 u3 := by
  have hb := hb1.trans (hb2.mono hb1.size)
  refine ⟨?_, ?_, ?_⟩
  · rw [hb.cell (p := ⟨w.heap.size + 1, 0, none⟩) (by simp)]; simp [go_sem]
  · rw [hb.frozen (p := ⟨w.heap.size + 1, 0, none⟩) (by simp)]; simp [go_sem]
  · exact Four.below (B := ((w.alloc (.cells #[u0, u1, u2, u3] t)).alloc (.cells #[.slice none 0 0] s)).heap.size) ((Four.new w t u0 u1 u2 u3).below ((Below.refl (w.alloc (.cells #[u0, u1, u2, u3] t)).heap.size _).alloc (Nat.le_refl _) _) (by simp)) hb (by simp; omega)
/-- What holds between two rounds. -/
structure PutI (w : World) (r : Nat) (pre : List UInt8) (W : World) : Prop where
  cell : W.cell? ⟨w.heap.size + 1, 0, none⟩ = some (.slice (some ⟨r, 0, none⟩) pre.length 9)
  free : W.frozen? ⟨w.heap.size + 1, 0, none⟩ = false
  own : OwnB W w.heap.size 5 (.slice (some ⟨r, 0, none⟩) pre.length 9) pre
  below : Below w.heap.size w W
theorem ownB_grown {W W' : World} {B : Nat} {t : TypeId} {r n c : Nat} {xs : List UInt8} {row : Option Nat} (h : OwnB W B t (.slice (some ⟨r, 0, none⟩) n c) xs) (hg : W.grownBy W' row) (hr : ∀ k, row = some k → ∃ o : Obj, W.heap[k]? = some o ∧ o.isCells = false) : OwnB W' B t (.slice (some ⟨r, 0, none⟩) n c) xs := by
  refine ⟨h.1, ?_⟩
  rcases h.2 with ⟨h2, _⟩ | ⟨g, cap, cur, e, hB, hh, rest⟩
  · cases h2
  · refine .inr ⟨g, cap, cur, e, hB, ?_, rest⟩
    rw [hg.block g (Array.getElem?_eq_some_iff.1 hh).1 (fun e2 => by obtain ⟨o, ho, hc⟩ := hr g e2.symm; rw [hh] at ho; cases ho; cases hc)]
    exact hh
theorem putI_own {w : World} {r B : Nat} (hB : w.heap.size ≤ B) : OwnFrom B (PutI w r) := by
  intro s W W' row hs hg hr
  have hr' : ∀ k, row = some k → ∃ o : Obj, W.heap[k]? = some o ∧ o.isCells = false := fun k e => (hr k e).2
  exact ⟨cell_kept hs.cell hg hr', (frozen_kept hs.cell hg hr').trans hs.free, ownB_grown hs.own hg hr', hs.below.grown hg hs.below.size (fun k e => Nat.le_trans hB (hr k e).1)⟩
theorem ownB_lt {W : World} {B : Nat} {t : TypeId} {r n c : Nat} {xs : List UInt8} (h : OwnB W B t (.slice (some ⟨r, 0, none⟩) n c) xs) : r < W.heap.size ∧ B ≤ r := by
  rcases h.2 with ⟨h2, _⟩ | ⟨g, cap, cur, e, hB, hh, rest⟩
  · cases h2
  · cases e
    exact ⟨(Array.getElem?_eq_some_iff.1 hh).1, hB⟩
theorem put_box2 {w W W2 : World} {r : Nat} {pre : List UInt8} {o : Obj} (hI : PutI w r pre W) (hr : w.heap.size + 1 ≠ r) (hg : (W.alloc o).grownBy W2 (some r)) :
    W2.cell? ⟨w.heap.size + 1, 0, none⟩ = some (.slice (some ⟨r, 0, none⟩) pre.length 9) ∧ W2.frozen? ⟨w.heap.size + 1, 0, none⟩ = false := by
  obtain ⟨o1, ho1, hcell⟩ := cells_of_cell hI.cell
  have hlt : w.heap.size + 1 < W.heap.size := (Array.getElem?_eq_some_iff.1 ho1).1
  have hb : W2.heap[w.heap.size + 1]? = W.heap[w.heap.size + 1]? := (hg.block _ (by simp; omega) (fun e => hr (by cases e; rfl))).trans (Below.heap_alloc _ _ _ hlt)
  refine ⟨(World.cell?_of_block (a := ⟨w.heap.size + 1, 0, none⟩) hb).trans hI.cell, ?_⟩
  have hf := hI.free
  unfold World.frozen? at hf ⊢
  simp only [hb]
  exact hf
theorem put_round {w W0 W W2 : World} {r : Nat} {pre : List UInt8} {x : UInt8} {o : Obj} {a : Act} (hI : PutI w r pre W) (hr : w.heap.size + 1 < r) (hg : (W.alloc o).grownBy W2 (some r))
    (ho : W2.ownsRow w.heap.size 5 1 (.slice (some ⟨r, 0, none⟩) (pre.length + 1) 9) (pre.length + 1) (pre.map bv ++ [.int .u8 x.toNat])) :
    ownPostG W0.heap.size (KeepC fun j => j ≠ w.heap.size + 1 ∧ j ≠ r) (PutI w r) (fun _ _ _ => False) (pre ++ [x]) W Exit.normal a (W2.setCell ⟨w.heap.size + 1, 0, none⟩ (.slice (some ⟨r, 0, none⟩) (pre.length + 1) 9)) := by
  obtain ⟨hc2, hf2⟩ := put_box2 hI (by omega) hg
  have hlr := ownB_lt hI.own
  have hz : W.heap.size ≤ W2.heap.size := Nat.le_trans (by simp) hg.size
  have hblk : ∀ k, k < W.heap.size → k ≠ r → W2.heap[k]? = W.heap[k]? := fun k hk hne => (hg.block k (by simp; omega) (fun e => hne (by cases e; rfl))).trans (Below.heap_alloc _ _ _ hk)
  have hset : ∀ k, k ≠ w.heap.size + 1 → (W2.setCell ⟨w.heap.size + 1, 0, none⟩ (.slice (some ⟨r, 0, none⟩) (pre.length + 1) 9)).heap[k]? = W2.heap[k]? := fun k hk => Below.heap_setCell _ _ _ _ (by simpa using hk)
  obtain ⟨o1, ho1, hcell1⟩ := cells_of_cell hI.cell
  have hown2 : OwnB W2 w.heap.size 5 (.slice (some ⟨r, 0, none⟩) (pre ++ [x]).length 9) (pre ++ [x]) := by
    unfold OwnB
    rw [List.length_append, List.length_singleton, List.map_append]
    exact ho
  refine ⟨⟨by simpa using hz, fun k o2 _ hk ho2 => ?_⟩, fun j o2 hp hj _ => ?_, ⟨?_, ?_, ?_, ?_⟩⟩
  · have hkl := (Array.getElem?_eq_some_iff.1 hk).1
    have h1 : k ≠ w.heap.size + 1 := fun e => by
      subst e
      have : some o2 = some o1 := hk.symm.trans ho1
      cases this
      rw [hcell1] at ho2; cases ho2
    have h2 : k ≠ r := fun e => by
      subst e
      rcases hI.own.2 with ⟨h3, _⟩ | ⟨g, cap, cur, e, _, hh, _⟩
      · cases h3
      · cases e
        rw [hk] at hh; cases hh; cases ho2
    rw [hset k h1, hblk k hkl h2]; exact hk
  · rw [hset j hp.1, hblk j (Array.getElem?_eq_some_iff.1 hj).1 hp.2]; exact hj
  · rw [List.length_append, List.length_singleton]
    exact World.cell?_setCell_same' _ _ _ (by rw [hc2]; rfl)
  · rw [World.frozen?_setCell]; exact hf2
  · refine OwnB.less (B := r) (OwnB.above (w := W2) ?_ (fun k hk => hset k (by omega))) hlr.2
    refine ⟨hown2.1, ?_⟩
    rcases hown2.2 with ⟨h2, _⟩ | ⟨g, cap, cur, e, hB, rest⟩
    · cases h2
    · cases e
      exact .inr ⟨_, _, cur, rfl, Nat.le_refl _, rest⟩
  · exact (hI.below.alloc hI.below.size o |>.grown hg (by have := hI.below.size; simp; omega) (fun k e => by cases e; exact hlr.2)).setCell (p := ⟨w.heap.size + 1, 0, none⟩) (by simp) _
theorem put_start {w w1 w2 : World} (t : TypeId) {v0 v1 v2 v3 : Value} {t' s : TypeId} (u0 u1 u2 u3 : Value) (hb1 : Below ((w.alloc (.cells #[v0, v1, v2, v3] t')).alloc (.cells #[.slice none 0 0] s)).heap.size ((w.alloc (.cells #[v0, v1, v2, v3] t')).alloc (.cells #[.slice none 0 0] s)) w1) (hb2 : Below w1.heap.size w1 w2)
    (ho : w2.ownsRow w.heap.size 5 1 (.slice (some ⟨w1.heap.size, 0, none⟩) 0 9) 0 []) :
    Four ((w2.setCell ⟨w.heap.size + 1, 0, none⟩ (.slice (some ⟨w1.heap.size, 0, none⟩) 0 9)).alloc (.cells #[u0, u1, u2, u3] t)) w2.heap.size u0 u1 u2 u3 ∧
      PutI w w1.heap.size [] ((w2.setCell ⟨w.heap.size + 1, 0, none⟩ (.slice (some ⟨w1.heap.size, 0, none⟩) 0 9)).alloc (.cells #[u0, u1, u2, u3] t)) ∧
      ((w2.setCell ⟨w.heap.size + 1, 0, none⟩ (.slice (some ⟨w1.heap.size, 0, none⟩) 0 9)).alloc (.cells #[u0, u1, u2, u3] t)).heap.size = w2.heap.size + 1 := by
  obtain ⟨hc2, hf2, _⟩ := put_box hb1 hb2
  have hz1 := hb1.size
  have hz2 := hb2.size
  simp only [World.size_alloc] at hz1
  have hbw : Below w.heap.size w w2 := (((Below.refl _ w).alloc (Nat.le_refl _) _).alloc (by simp) _).trans ((hb1.trans (hb2.mono hb1.size)).mono (by simp; omega))
  refine ⟨?_, ⟨?_, ?_, ?_, ?_⟩, by simp⟩
  · have h := Four.new (w2.setCell ⟨w.heap.size + 1, 0, none⟩ (.slice (some ⟨w1.heap.size, 0, none⟩) 0 9)) t u0 u1 u2 u3
    rwa [World.size_setCell] at h
  · rw [World.cell?_alloc_lt _ _ _ (by simp; omega)]
    exact World.cell?_setCell_same' _ _ _ (by rw [hc2]; rfl)
  · rw [World.frozen?_alloc_old _ _ _ (by simp; omega), World.frozen?_setCell]; exact hf2
  · have h1 : OwnB (w2.setCell ⟨w.heap.size + 1, 0, none⟩ (.slice (some ⟨w1.heap.size, 0, none⟩) 0 9)) w1.heap.size 5 (.slice (some ⟨w1.heap.size, 0, none⟩) 0 9) [] := by
      refine OwnB.above (w := w2) ?_ (fun k hk => Below.heap_setCell _ _ _ _ (by simp only; omega))
      refine ⟨rfl, ?_⟩
      rcases ho.2 with ⟨h2, _⟩ | ⟨g, cap, cur, e, hB, rest⟩
      · cases h2
      · cases e
        exact .inr ⟨_, _, cur, rfl, Nat.le_refl _, rest⟩
    exact ownB_grown (h1.less (by omega)) (World.grownBy_alloc _ _ none) (fun k h => by cases h)
  · exact (hbw.setCell (p := ⟨w.heap.size + 1, 0, none⟩) (by simp) _).alloc (by simp; omega) _
set_option maxRecDepth 100000 in
set_option maxHeartbeats 1000000 in
theorem hput_yes (L S : Nat) (K F : UInt8) (w : World) (hL : L < 16777216) (hS : S < 2147483648) :
    Calls Tryz.prog 28 #[.agg #[.int .i64 L, .int .u8 K.toNat, .int .u8 F.toNat, .int .i64 S]] w fun e w' => ∃ v, e = .returned (.tuple #[v, .int .i64 0]) ∧ OwnB w' w.heap.size 5 v (hdBytes L K F S) ∧ Below w.heap.size w w' := by
  obtain ⟨i0, hi, hz0, hz1, hz2⟩ := info_parts info_u8
  have hinf := Lib.hid (And.intro hi (And.intro hz0 (And.intro hz1 hz2)))
  clear hi hz0 hz1 hz2
  refine (callsIn_wide (n := 6)).1 (callsIn_of_wp_marks Tryz.func28 rfl trivial ?_ rfl)
  refine wpIn_wide.2 ?_
  simp only [Tryz.ntmps28, List.size_toArray, List.length_cons, List.length_nil, Nat.reduceAdd, Nat.reduceSub, Array.replicate_succ, Array.replicate_zero, List.push_toArray, List.append_toArray, List.nil_append, List.cons_append]
  go_wp2
  refine wp_scope_forward 0 rfl ?_
  go_wp2_with (first
    | (go_at_call 40; refine (right_yes _ _ _ _ _ ⟨by omega, by omega, by omega, by omega⟩).mono ?_; rintro e w1 ⟨rfl, hb1⟩; obtain ⟨hcc, hff⟩ := bcell hb1)
    | (go_at_call 49; refine (octets_any _ _ _ _ _).mono ?_; rintro e w3 ⟨rfl, rfl⟩)
    | (at_make; refine wpList_make_own _ rfl (.const (.int .i64 0)) (.const (.int .i64 9)) 24 rfl w.heap.size 5 i0 (.int .u8 0) 1 Tryz.underlying24 hinf.out.1 hinf.out.2.1 hinf.out.2.2.1 .i64 .i64 _ 9 rfl rfl rfl (by rw [hinf.out.2.2.2]; omega) (by unfold maxLen; omega) (by have := hb1.size; simp at this; omega) ?_; intro w2 hown2 hgrow2; have HG2 := Lib.hid hgrow2; have HO2 := Lib.hid hown2; have hb2 : Below w1.heap.size w1 w2 := (Below.refl _ w1).grown hgrow2 (Nat.le_refl _) (fun k h => by cases h); clear hown2 hgrow2; obtain ⟨hc2, hf2, hF2⟩ := put_box hb1 hb2; have HF2 := Lib.hid hF2; obtain ⟨c0, c1, c2, c3⟩ := hF2))
  have hW := put_start 23 (.int .i64 L) (.int .u8 K.toNat) (.int .u8 F.toNat) (.int .i64 S) hb1 hb2 HO2.out
  have hlt := ownB_lt (t := 5) (xs := []) HO2.out
  have hz12 := hb2.size
  have hz01 : w.heap.size + 2 ≤ w1.heap.size := by have := hb1.size; simp at this; omega
  generalize hW0 : (w2.setCell ⟨w.heap.size + 1, 0, none⟩ (.slice (some ⟨w1.heap.size, 0, none⟩) 0 9)).alloc (.cells #[.int .i64 L, .int .u8 K.toNat, .int .u8 F.toNat, .int .i64 S] 23) = W0 at *
  obtain ⟨hF4, hI0, hz0⟩ := hW
  clear hW0 hcc hff hc2 hf2 c0 c1 c2 c3 HF2 HG2
  have HZ := Lib.hid hz0
  clear hz0
  refine (wpIn_wide (n := 6)).1 ?_
  refine wpIn_rangeFunc_ownG rfl (by omega) (gf := 81) (lb := #[.pointer (some ⟨w2.heap.size, 0, none⟩)]) rfl trivial (enters_of Tryz.func81 (by kernel_rfl) rfl)
    (octets_stops 5 (by omega) w2.heap.size L S K F (fun j => j ≠ w.heap.size + 1 ∧ j ≠ w1.heap.size) W0 (by rw [HZ.out]; omega) (fun j hj => by rw [HZ.out] at hj; omega) hL hS hF4)
    (fun h k => h.trans k) (fun W l o o' _ h hc _ => KeepC.put W l o o' h hc) (Below.refl _ _) (fun _ => rfl)
    (PutI w w1.heap.size)
    (fun _ _ _ => False)
    (putI_own (by rw [HZ.out]; omega))
    (fun _ _ _ _ _ hs _ _ => hs)
    hI0
    (fun x => { tmps := #[.agg #[.int .i64 L, .int .u8 K.toNat, .int .u8 F.toNat, .int .i64 S], .pointer (some ⟨w.heap.size, 0, none⟩), .slice none 0 0, .int .i64 0, .pointer (some ⟨w.heap.size + 1, 0, none⟩), .int .u8 x.toNat, .agg #[.int .i64 L, .int .u8 K.toNat, .int .u8 F.toNat, .int .i64 S], .bool true, .bool false, .slice (some ⟨w1.heap.size, 0, none⟩) 0 9, .agg #[.int .i64 L, .int .u8 K.toNat, .int .u8 F.toNat, .int .i64 S], .func (.func 81) #[] #[.pointer (some ⟨w2.heap.size, 0, none⟩)], .int .u8 x.toNat, undef, undef, undef, undef, undef], defers := [] }) ?assign ?body ?done ?stop
  case assign =>
    intro l x W K hK
    gi_wp2
    exact hK
  case body =>
    rintro l pre x W hI hlen
    have HI := Lib.hid hI
    have hne : w.heap.size + 1 ≠ w1.heap.size := by omega
    have hlt1 : w.heap.size + 1 < w1.heap.size := by omega
    have hc5 := hI.cell
    have HO := Lib.hid hI.own
    clear hI
    gi_wp2_with (gi_at_builtin; refine wpListIn_append_fits _ rfl (.tmp 13) (.tmp 15) 24 rfl w.heap.size 5 i0 1 Tryz.underlying24 hinf.out.1 hinf.out.2.2.1 _ pre.length 9 _ rfl (HO.out.alloc _) ⟨W.heap.size, 0, none⟩ 1 1 [.int .u8 x.toNat] rfl rfl (cell_one_new _ _ _) (by simp [Value.oneCell']) (by omega) ?_; intro W4 hown4 hgrow4; obtain ⟨hc4, hf4⟩ := put_box2 HI.out hne hgrow4; have HO4 := Lib.hid hown4; have HG4 := Lib.hid hgrow4; clear hown4 hgrow4)
    exact put_round HI.out hlt1 HG4.out HO4.out
  case done =>
    rintro D ys W hD rfl hI hK
    have HI := Lib.hid hI
    have hc5 := hI.cell
    clear hI
    rw [hdBytes_length] at hc5
    go_wp2
    rw [jump_ret]
    have hbl : Below w.heap.size w (W.putObj D (.deferred none)) := HI.out.below.trans (belowK_b (w := w) (Nat.le_refl _) W D _ _ (by rw [HZ.out] at hD; omega) hK rfl rfl)
    have hown : OwnB (W.putObj D (.deferred none)) w.heap.size 5 (.slice (some ⟨w1.heap.size, 0, none⟩) 9 9) (hdBytes L K F S) := by
      have h := ownB_grown HI.out.own (grownBy_putObj' _ D (.deferred none)) (fun k e => by cases e; exact ⟨_, hK, rfl⟩)
      rwa [hdBytes_length] at h
    exact ⟨by simp, .inl ⟨_, _, rfl, run_takeDeferred hK, ⟨_, results_tmp2 rfl _ _ _, _, rfl, hown, hbl⟩⟩⟩
  case stop =>
    rintro D c pre W _ _ h _
    exact h.elim
theorem hput_no (L K F S : Int) (w : World) (h : ¬ HeadIn L S) :
    Calls Tryz.prog 28 #[.agg #[.int .i64 L, .int .u8 K, .int .u8 F, .int .i64 S]] w fun e w' => e = .returned (.tuple #[.slice none 0 0, .int .i64 2]) ∧ Below w.heap.size w w' := by
  go_enter Tryz.func28, Tryz.ntmps28
  go_wp2
  refine wp_scope_forward 0 rfl ?_
  go_wp2_with (go_at_call 40; refine (right_no _ _ _ _ _ h).mono ?_; rintro e w1 ⟨rfl, hb1⟩)
  go_step3
  refine ⟨rfl, ?_⟩
  go_wp2
  rw [jump_ret]
  go_ret2
  exact ⟨rfl, (((Below.refl _ _).alloc (Nat.le_refl _) _).alloc (by simp) _).trans (hb1.mono (by simp; omega))⟩
namespace Oct
def hpE (L S : Int) : Int := if HeadIn L S then 0 else 2
def hpV (L : Int) (K F : UInt8) (S : Int) : List UInt8 := if HeadIn L S then hdBytes L.toNat K F S.toNat else []
end Oct
theorem hput_tot (L S : Int) (K F : UInt8) (w : World) :
    Calls Tryz.prog 28 #[.agg #[.int .i64 L, .int .u8 K.toNat, .int .u8 F.toNat, .int .i64 S]] w fun e w' => ∃ v, e = .returned (.tuple #[v, .int .i64 (hpE L S)]) ∧ OwnB w' w.heap.size 5 v (hpV L K F S) ∧ Below w.heap.size w w' := by
  unfold hpE hpV
  by_cases h : HeadIn L S
  · simp only [if_pos h]
    obtain ⟨h1, h2, h3, h4⟩ := h
    obtain ⟨L, rfl⟩ := Int.eq_ofNat_of_zero_le h1
    obtain ⟨S, rfl⟩ := Int.eq_ofNat_of_zero_le h3
    exact hput_yes L S K F w (by omega) (by omega)
  · simp only [if_neg h]
    refine (hput_no _ _ _ _ w h).mono ?_
    rintro e w' ⟨rfl, hb⟩
    exact ⟨_, rfl, OwnB.nil_ _ _ _, hb⟩
end Go.Proofs.YtbflhphjnmhjhaaGreat
/- The program's Right, Put and Own of frames. -/
namespace Go.Proofs.YtbflhphjnmhjhaaGreat
open Go.RowKit Oct Fi Fm
set_option linter.unusedVariables false
set_option linter.unusedSimpArgs false
namespace Fm
def standB (f : Fr) : Bool := decide ((layR f).2 = 0 ∧ parseR f.kd f.fl f.st (layR f).1 = (f, fine))
def putR (f : Fr) : List UInt8 := if standB f = true then hpV (layR f).1.length f.kd f.fl f.st ++ (layR f).1 else []
def putRE (f : Fr) : Int := if standB f = true then 0 else 2
end Fm
theorem padF_len (f : Fr) (xs : List UInt8) : (padF f xs).1.length ≤ xs.length + 256 := by
  unfold padF padV
  split
  · split
    · rename_i h
      obtain ⟨h1, h2⟩ := h
      simp
      omega
    · simp
  · simp
theorem nuV_len (l : List Int) (xs : List UInt8) : (nuV l xs).length ≤ 4 * l.length + xs.length := by
  unfold nuV
  split
  · rw [List.length_append, nu_len]
    omega
  · simp
theorem layR_len (f : Fr) (h1 : f.da.length ≤ 8900) (h2 : f.ps.length ≤ 10000) : (layR f).1.length ≤ 100000 := by
  have e1 := padF_len f f.da
  have e2 := padF_len f (prV f.al f.dp f.wt ++ f.da)
  have e3 := prV_5 f.al f.dp f.wt
  have e4 := ppV_len f.ps
  have e5 := nuV_len [(f.co.toNat : Int)] []
  have e6 := nuV_len [f.la, (f.co.toNat : Int)] f.da
  have e7 := nuV_len [f.ic] []
  have e8 := nuV_len [f.la] f.da
  rw [List.length_append] at e2
  simp only [List.length_cons, List.length_nil] at e5 e6 e7 e8
  unfold layR rkF
  repeat' split
  all_goals first | omega | (simp only [List.length_nil]; omega) | (simp only; omega)
theorem values_ways (f : Fr) : (valuesX f).1 = true ∨ ((valuesX f).1 = false ∧ (valuesX f).2.2 ≠ 0) ∨ valuesX f = fine := by
  unfold valuesX valuesI
  rcases pairsX_ways f.ps with h | h
  · rw [h]
    repeat' split
    all_goals simp_all [whole, fine]
  · rw [if_pos (by intro e; rw [e] at h; cases h)]
    exact .inl h
theorem tkR_ways (K F : UInt8) (S : Int) (xs : List UInt8) : (tkR K F S xs).2.1 = true ∨ ((tkR K F S xs).2.1 = false ∧ (tkR K F S xs).2.2.2 ≠ 0) ∨ (tkR K F S xs).2 = fine := by
  unfold tkR
  split
  · split
    · exact .inr (.inl ⟨rfl, by simp⟩)
    · exact .inl rfl
  · have hp : (parseX (innerR K F S xs)).1 = true ∨ ((parseX (innerR K F S xs)).1 = false ∧ (parseX (innerR K F S xs)).2.2 ≠ 0) ∨ parseX (innerR K F S xs) = fine := by
      unfold parseX
      split
      · exact values_ways _
      · exact .inl rfl
    split
    · rename_i h
      exact .inl h
    · exact hp
theorem parseR_ways (K F : UInt8) (S : Int) (xs : List UInt8) : (parseR K F S xs).2.1 = true ∨ ((parseR K F S xs).2.1 = false ∧ (parseR K F S xs).2.2.2 ≠ 0) ∨ (parseR K F S xs).2 = fine := by
  rw [parseR_eq]
  split
  · exact .inl rfl
  · split
    · exact .inl rfl
    · split
      · exact .inl rfl
      · split
        · rename_i h
          exact .inl h
        · exact tkR_ways K F S xs
theorem parseR_ps (K F : UInt8) (S : Int) (xs : List UInt8) : (parseR K F S xs).1.ps.length ≤ xs.length := by
  unfold parseR
  repeat' split
  all_goals first | (simp [frZ]; done) | exact inner_ps_len K F S xs
theorem hpV_le (L : Int) (K F : UInt8) (S : Int) : (hpV L K F S).length ≤ 9 := by
  unfold hpV
  split
  · rw [hdBytes_length]
    omega
  · simp
theorem stand_any (f : Fr) (A D : Option Addr) (n c m e : Nat) (w : World) (hA : Bs w w.heap.size A n f.da) (hN : A = none → c = 0) (hnc : n ≤ c) (hn : n ≤ 8900) (hD : Ps w w.heap.size D m f.ps) (hm : m ≤ 10000) :
    Calls Tryz.prog 27 #[frv f (.slice A n c) (.slice D m e)] w fun e' w' => ∃ A' n' c', e' = .returned (.tuple #[.slice A' n' c', .bool (standB f)]) ∧ (standB f = true → HandS w' w.heap.size A' n' c' (layR f).1 ∨ A' = A ∧ n' = n ∧ c' = c ∧ (layR f).1 = f.da) ∧ (standB f = false → A' = none ∧ n' = 0 ∧ c' = 0) ∧ Below w.heap.size w w' := by
  have hl := layR_len f (by rw [hA.1]; omega) (by rw [hD.1]; omega)
  have no : standB f = false → (Calls Tryz.prog 27 #[frv f (.slice A n c) (.slice D m e)] w fun e' w' => e' = .returned (.tuple #[.slice none 0 0, .bool false]) ∧ Below w.heap.size w w') → Calls Tryz.prog 27 #[frv f (.slice A n c) (.slice D m e)] w fun e' w' => ∃ A' n' c', e' = .returned (.tuple #[.slice A' n' c', .bool (standB f)]) ∧ (standB f = true → HandS w' w.heap.size A' n' c' (layR f).1 ∨ A' = A ∧ n' = n ∧ c' = c ∧ (layR f).1 = f.da) ∧ (standB f = false → A' = none ∧ n' = 0 ∧ c' = 0) ∧ Below w.heap.size w w' := fun h hc => hc.mono fun e' w' ⟨h1, h2⟩ => ⟨none, 0, 0, by rw [h]; exact h1, (fun h' => by rw [h] at h'; cases h'), fun _ => ⟨rfl, rfl, rfl⟩, h2⟩
  by_cases h0 : (layR f).2 = 0
  · have he : ((layR f).2 != 0) = false := by simpa using h0
    have hp := fun (A' : Option Addr) (n' c' : Nat) (w0 : World) (h1 : Bs w0 w0.heap.size A' n' (layR f).1) (h2 : A' = none → c' = 0) (h3 : n' ≤ c') => p_parse (n' : Int) f.st f.kd f.fl A' n' c' (layR f).1 w0 h1 h2 (by rw [← h1.1]; exact hl) h3
    have hps := parseR_ps f.kd f.fl f.st (layR f).1
    have hw := parseR_ways f.kd f.fl f.st (layR f).1
    have hst : standB f = decide (parseR f.kd f.fl f.st (layR f).1 = (f, fine)) := by unfold standB; simp [h0]
    generalize parseR f.kd f.fl f.st (layR f).1 = r at *
    obtain ⟨d, x0, x1, x2⟩ := r
    simp only at hps hw
    unfold fv at hp
    simp only at hp
    rcases hw with h | ⟨h, h'⟩ | h
    · subst h
      refine no (by rw [hst]; exact decide_eq_false (fun e => by cases e)) ?_
      exact stand_W f A D n c m e w hA hN hnc hn hD hm he hl d x1 x2 (Lib.hid hp)
    · subst h
      refine no (by rw [hst]; exact decide_eq_false (fun e => by cases e; exact h' rfl)) ?_
      exact stand_F f A D n c m e w hA hN hnc hn hD hm he hl d x1 (x2 : Int) (Lib.hid hp) (by simpa using h')
    · cases h
      by_cases hd : d = f
      · have hs : standB f = true := by rw [hst, hd]; exact decide_eq_true rfl
        refine (stand_Y f A D n c m e w hA hN hnc hn hD hm he hl d 0 0 (Lib.hid hp) (by omega) _ rfl (decide_eq_true hd)).mono ?_
        rintro e' w' ⟨A', n', c', rfl, ho, hb⟩
        exact ⟨A', n', c', by rw [hs], fun _ => ho, (fun h => by rw [hs] at h; cases h), hb⟩
      · refine no (by rw [hst]; exact decide_eq_false (fun e => hd (by cases e; rfl))) ?_
        exact stand_N f A D n c m e w hA hN hnc hn hD hm he hl d 0 0 (Lib.hid hp) (by omega) _ rfl (decide_eq_false hd)
  · refine no (by unfold standB; exact decide_eq_false (fun h => h0 h.1)) ?_
    exact stand_E f A D n c m e w hA hN hnc hn hD hm (by simpa using h0)
set_option maxRecDepth 100000 in
set_option maxHeartbeats 4000000 in
theorem p_right (f : Fr) (A D : Option Addr) (n c m e : Nat) (w : World) (hA : Bs w w.heap.size A n f.da) (hN : A = none → c = 0) (hnc : n ≤ c) (hn : n ≤ 8900) (hD : Ps w w.heap.size D m f.ps) (hm : m ≤ 10000) :
    Calls Tryz.prog 12 #[frv f (.slice A n c) (.slice D m e)] w fun e' w' => e' = .returned (.bool (standB f)) ∧ Below w.heap.size w w' := by
  have HST : Hid (∀ w0, Bs w0 w0.heap.size A n f.da → Ps w0 w0.heap.size D m f.ps → Calls Tryz.prog 27 #[.agg (fra f A n c D m e)] w0 fun e' w' => ∃ A' n' c', e' = .returned (.tuple #[.slice A' n' c', .bool (standB f)]) ∧ (standB f = true → HandS w' w0.heap.size A' n' c' (layR f).1 ∨ A' = A ∧ n' = n ∧ c' = c ∧ (layR f).1 = f.da) ∧ (standB f = false → A' = none ∧ n' = 0 ∧ c' = 0) ∧ Below w0.heap.size w0 w') := Lib.hid (fun w0 h1 h2 => stand_any f A D n c m e w0 h1 hN hnc hn h2 hm)
  have HN := Lib.hid hN
  have K0 : Hid (EnvB (w.alloc (.cells (fra f A n c D m e) 30)) [(A, n, f.da)] [(D, m, f.ps)] [(w.heap.size, (fra f A n c D m e), 30)]) := Lib.hid ((((EnvB.nil w).addS0 hA).addP0 hD).box 30 (fra f A n c D m e))
  have B0 : Hid (Below w.heap.size w (w.alloc (.cells (fra f A n c D m e) 30))) := Lib.hid ((Below.refl _ w).alloc (Nat.le_refl _) _)
  unfold frv
  clear hA hN hD
  go_enter Tryz.func12, Tryz.ntmps12
  go_wp2_with (first
    | (refine at_load 30 (.tmp 1) (by rfl) ?_; refine wpList_load_row (by rfl) 30 (.tmp 1) (by rfl) (w.heap.size) (by rfl) 30 _ (0, 0) _ (K0.out.row 0 rfl) Tryz.underlying30 (by rfl) info_F ?_)
    | (go_at_call 27; (with_reducible refine (HST.out _ (K0.out.s (A, n, f.da) (by simp)).1 (K0.out.p (D, m, f.ps) (by simp)).1).mono ?_); rintro e w1 ⟨A2, n2, c2, rfl, h1, h2, hb⟩; have K1 := Lib.hid (K0.out.on hb); have B1 := Lib.hid (below_step B0.out hb); clear h1 h2; clear hb K0 B0))
  go_ret
  exact ⟨rfl, B1.out⟩
set_option maxRecDepth 100000 in
set_option maxHeartbeats 4000000 in
theorem p_put_N (f : Fr) (A D : Option Addr) (n c m e : Nat) (w : World) (hA : Bs w w.heap.size A n f.da) (hN : A = none → c = 0) (hnc : n ≤ c) (hn : n ≤ 8900) (hD : Ps w w.heap.size D m f.ps) (hm : m ≤ 10000) (hs : standB f = false) :
    Calls Tryz.prog 8 #[frv f (.slice A n c) (.slice D m e)] w fun e' w' => e' = .returned (.tuple #[.slice none 0 0, .int .i64 2]) ∧ Below w.heap.size w w' := by
  obtain ⟨i0, hi, hz0, hz1, hz2⟩ := info_parts info_u8
  have hinf := Lib.hid (And.intro hi (And.intro hz0 (And.intro hz1 hz2)))
  have HST : Hid (∀ w0, Bs w0 w0.heap.size A n f.da → Ps w0 w0.heap.size D m f.ps → Calls Tryz.prog 27 #[.agg (fra f A n c D m e)] w0 fun e' w' => ∃ A' n' c', e' = .returned (.tuple #[.slice A' n' c', .bool (standB f)]) ∧ (standB f = true → HandS w' w0.heap.size A' n' c' (layR f).1 ∨ A' = A ∧ n' = n ∧ c' = c ∧ (layR f).1 = f.da) ∧ (standB f = false → A' = none ∧ n' = 0 ∧ c' = 0) ∧ Below w0.heap.size w0 w') := Lib.hid (fun w0 h1 h2 => stand_any f A D n c m e w0 h1 hN hnc hn h2 hm)
  have HN := Lib.hid hN
  have K0 : Hid (EnvB (w.alloc (.cells (fra f A n c D m e) 30)) [(A, n, f.da)] [(D, m, f.ps)] [(w.heap.size, (fra f A n c D m e), 30)]) := Lib.hid ((((EnvB.nil w).addS0 hA).addP0 hD).box 30 (fra f A n c D m e))
  have B0 : Hid (Below w.heap.size w (w.alloc (.cells (fra f A n c D m e) 30))) := Lib.hid ((Below.refl _ w).alloc (Nat.le_refl _) _)
  have HLL := Lib.hid (layR_len f (by rw [hA.1]; omega) (by rw [hD.1]; omega))
  rw [hs] at HST
  unfold frv
  clear hA hN hD hs hi hz0 hz1 hz2
  go_enter Tryz.func8, Tryz.ntmps8
  go_wp2
  refine wp_scope_forward 0 rfl ?_
  go_wp2_with (first
    | (refine at_load 30 (.tmp 1) (by rfl) ?_; refine wpList_load_row (by rfl) 30 (.tmp 1) (by rfl) (w.heap.size) (by rfl) 30 _ (0, 0) _ (K0.out.row 0 rfl) Tryz.underlying30 (by rfl) info_F ?_)
    | (go_at_call 27; (with_reducible refine (HST.out _ (K0.out.s (A, n, f.da) (by simp)).1 (K0.out.p (D, m, f.ps) (by simp)).1).mono ?_); rintro e w1 ⟨A2, n2, c2, rfl, h1, h2, hb⟩; have K1 := Lib.hid (K0.out.on hb); have B1 := Lib.hid (below_step B0.out hb); clear h1 h2; clear hb K0 B0))
  go_step3
  refine ⟨rfl, ?_⟩
  go_wp2
  rw [jump_ret]
  go_ret2
  exact ⟨rfl, B1.out⟩
set_option maxRecDepth 100000 in
set_option maxHeartbeats 4000000 in
theorem p_put_Y (f : Fr) (A D : Option Addr) (n c m e : Nat) (w : World) (hA : Bs w w.heap.size A n f.da) (hN : A = none → c = 0) (hnc : n ≤ c) (hn : n ≤ 8900) (hD : Ps w w.heap.size D m f.ps) (hm : m ≤ 10000) (hs : standB f = true) :
    Calls Tryz.prog 8 #[frv f (.slice A n c) (.slice D m e)] w fun e' w' => ∃ v, e' = .returned (.tuple #[v, .int .i64 0]) ∧ OwnB w' w.heap.size 5 v (hpV (layR f).1.length f.kd f.fl f.st ++ (layR f).1) ∧ Below w.heap.size w w' := by
  obtain ⟨i0, hi, hz0, hz1, hz2⟩ := info_parts info_u8
  have hinf := Lib.hid (And.intro hi (And.intro hz0 (And.intro hz1 hz2)))
  have HST : Hid (∀ w0, Bs w0 w0.heap.size A n f.da → Ps w0 w0.heap.size D m f.ps → Calls Tryz.prog 27 #[.agg (fra f A n c D m e)] w0 fun e' w' => ∃ A' n' c', e' = .returned (.tuple #[.slice A' n' c', .bool (standB f)]) ∧ (standB f = true → HandS w' w0.heap.size A' n' c' (layR f).1 ∨ A' = A ∧ n' = n ∧ c' = c ∧ (layR f).1 = f.da) ∧ (standB f = false → A' = none ∧ n' = 0 ∧ c' = 0) ∧ Below w0.heap.size w0 w') := Lib.hid (fun w0 h1 h2 => stand_any f A D n c m e w0 h1 hN hnc hn h2 hm)
  have HN := Lib.hid hN
  have K0 : Hid (EnvB (w.alloc (.cells (fra f A n c D m e) 30)) [(A, n, f.da)] [(D, m, f.ps)] [(w.heap.size, (fra f A n c D m e), 30)]) := Lib.hid ((((EnvB.nil w).addS0 hA).addP0 hD).box 30 (fra f A n c D m e))
  have B0 : Hid (Below w.heap.size w (w.alloc (.cells (fra f A n c D m e) 30))) := Lib.hid ((Below.refl _ w).alloc (Nat.le_refl _) _)
  have HLL := Lib.hid (layR_len f (by rw [hA.1]; omega) (by rw [hD.1]; omega))
  rw [hs] at HST
  unfold frv
  clear hA hN hD hs hi hz0 hz1 hz2
  go_enter Tryz.func8, Tryz.ntmps8
  go_wp2
  refine wp_scope_forward 0 rfl ?_
  go_wp2_with (first
    | (refine at_load 30 (.tmp 1) (by rfl) ?_; refine wpList_load_row (by rfl) 30 (.tmp 1) (by rfl) (w.heap.size) (by rfl) 30 _ (0, 0) _ (K0.out.row 0 rfl) Tryz.underlying30 (by rfl) info_F ?_)
    | (go_at_call 27; (with_reducible refine (HST.out _ (K0.out.s (A, n, f.da) (by simp)).1 (K0.out.p (D, m, f.ps) (by simp)).1).mono ?_); rintro e w1 ⟨A2, n2, c2, rfl, h1, h2, hb⟩; have K1 : Hid (EnvB w1 [(A2, n2, (layR f).1), (A, n, f.da)] [(D, m, f.ps)] [(w.heap.size, (fra f A n c D m e), 30)]) := Lib.hid (K0.out.layS hb (by simp) (h1 (by simp))); have B1 := Lib.hid (below_step B0.out hb); have HNA : Hid (A2 = none → c2 = 0) := Lib.hid (by rcases h1 (by simp) with h | ⟨rfl, rfl, rfl, _⟩; exact h.2.2.2; exact HN.out); clear h1 h2; clear hb K0 B0)
    | (refine at_load 30 (.tmp 1) (by rfl) ?_; refine wpList_load_row (by rfl) 30 (.tmp 1) (by rfl) (w.heap.size) (by rfl) 30 _ (0, 0) _ (K1.out.row 0 rfl) Tryz.underlying30 (by rfl) info_F ?_)
    | (go_at_call 29; (with_reducible refine (p_headOf _ _ _ _ _).mono ?_); rintro e w2 ⟨rfl, hb⟩; have K2 := Lib.hid (K1.out.on hb); have B2 := Lib.hid (below_step B1.out hb); clear hb K1 B1)
    | (go_at_call 28; (refine (hput_tot (n2 : Int) f.st f.kd f.fl _).mono ?_); rintro e w3 ⟨v3, rfl, ho, hb⟩; have K3 := Lib.hid (K2.out.on hb); have B3 := Lib.hid (below_step B2.out hb); have HO3 := Lib.hid ho; have BW := B2; have HC3 := Lib.hid hb.size; clear ho; clear hb)
    | (at_builtin; refine wpList_append_bytes _ rfl (.tmp 22) (.tmp 23) 24 rfl w2.heap.size 5 i0 Tryz.underlying24 hinf.out.1 hinf.out.2.1 hinf.out.2.2.1 hinf.out.2.2.2 _ _ rfl HO3.out _ A2 n2 c2 (layR f).1 rfl (K3.out.s (A2, n2, (layR f).1) (by simp)).1 HNA.out (by have := hpV_le (n2 : Int) f.kd f.fl f.st; have h := (K3.out.s (A2, n2, (layR f).1) (by simp)).1.1; have := HLL.out; simp only at h; omega) HC3.out ?_; intro v9 w9 ho hb; have HO9 := Lib.hid (ho.less BW.out.size); have B9 := Lib.hid (B3.out.trans (hb.mono BW.out.size)); have HL9 := Lib.hid (K3.out.s (A2, n2, (layR f).1) (by simp)).1.1; clear ho hb))
  go_ret2
  have e : n2 = (layR f).1.length := HL9.out.symm
  subst e
  exact ⟨v9, rfl, HO9.out, B9.out⟩
theorem p_put (f : Fr) (A D : Option Addr) (n c m e : Nat) (w : World) (hA : Bs w w.heap.size A n f.da) (hN : A = none → c = 0) (hnc : n ≤ c) (hn : n ≤ 8900) (hD : Ps w w.heap.size D m f.ps) (hm : m ≤ 10000) :
    Calls Tryz.prog 8 #[frv f (.slice A n c) (.slice D m e)] w fun e' w' => ∃ v, e' = .returned (.tuple #[v, .int .i64 (putRE f)]) ∧ OwnB w' w.heap.size 5 v (putR f) ∧ Below w.heap.size w w' := by
  unfold putR putRE
  by_cases hs : standB f = true
  · rw [if_pos hs, if_pos hs]
    exact p_put_Y f A D n c m e w hA hN hnc hn hD hm hs
  · rw [if_neg hs, if_neg hs]
    refine (p_put_N f A D n c m e w hA hN hnc hn hD hm (by simpa using hs)).mono ?_
    rintro e' w' ⟨rfl, hb⟩
    exact ⟨_, rfl, OwnB.nil_ _ _ _, hb⟩
set_option maxRecDepth 100000 in
set_option maxHeartbeats 4000000 in
theorem p_ownF (f : Fr) (A D : Option Addr) (n c m e : Nat) (w : World) (hA : Bs w w.heap.size A n f.da) (hN : A = none → c = 0) (hn : n ≤ 100000) (hD : Ps w w.heap.size D m f.ps) (hM : D = none → e = 0) (hm : m ≤ 100000) :
    Calls Tryz.prog 15 #[frv f (.slice A n c) (.slice D m e)] w fun e' w' => ∃ A1 c1 D1 e1, e' = .returned (frv f (.slice A1 n c1) (.slice D1 m e1)) ∧ HandS w' w.heap.size A1 n c1 f.da ∧ HandP w' w.heap.size D1 m e1 f.ps ∧ Below w.heap.size w w' := by
  obtain ⟨i1, hi1, hz01, hz11, hz21⟩ := info_parts info_pair
  have hinf1 := Lib.hid (And.intro hi1 (And.intro hz01 (And.intro hz11 hz21)))
  have HX : Hid (f.da.length = n) := Lib.hid hA.1
  have HY : Hid (f.ps.length = m) := Lib.hid hD.1
  have HN := Lib.hid hN
  have HM := Lib.hid hM
  have K0 : Hid (EnvB ((w.alloc (.cells (fra f A n c D m e) 30)).alloc (.cells zF0 30)) [(A, n, f.da)] [(D, m, f.ps)] [(w.heap.size + 1, zF0, 30), (w.heap.size, (fra f A n c D m e), 30)]) := Lib.hid (((((EnvB.nil w).addS0 hA).addP0 hD).box 30 (fra f A n c D m e)).boxg 30 zF0 (w.heap.size + 1) (by simp))
  have B0 : Hid (Below w.heap.size w ((w.alloc (.cells (fra f A n c D m e) 30)).alloc (.cells zF0 30))) := Lib.hid (((Below.refl _ w).alloc (Nat.le_refl _) _).alloc (by simp) _)
  unfold frv
  clear hi1 hz01 hz11 hz21 hA hN hD hM
  go_enter Tryz.func15, Tryz.ntmps15
  go_wp2_with (first
    | (refine at_load 24 (.tmp 3) (by rfl) ?_; refine wpList_get (by rfl) 24 (.tmp 3) (by rfl) (w.heap.size) 3 (by rfl) 30 _ (.slice A n c) _ (K0.out.row 1 rfl) (by rfl) Tryz.underlying24 (by rfl) ?_)
    | (go_at_call 35; (with_reducible refine (p_own A n c f.da _ (K0.out.s (A, n, f.da) (by simp)).1 HN.out (by omega)).mono ?_); rintro e w1 ⟨v1, rfl, ho, hb⟩; obtain ⟨A1, c1, rfl, hh⟩ := ho.handS HX.out; have K1 := Lib.hid (K0.out.handS hb hh); have B1 := Lib.hid (below_step B0.out hb); have HD1 := Lib.hid (hh.2.1.less B0.out.size); have HC1 := Lib.hid hh.2.2; clear ho hh; clear hb K0 B0)
    | (refine at_store 24 (.tmp 6) (.tmp 5) (by rfl) ?_; refine wpList_put (by rfl) 24 (.tmp 6) (.tmp 5) (by rfl) (w.heap.size) 3 (.slice A1 n c1) (by rfl) (by rfl) 30 _ (fra f A1 n c1 D m e) (K1.out.row 1 rfl) (by simp [Value.cells]) (by kernel_rfl) info_B (by kernel_rfl) ?_; intro w2 hrow hoth hz hbl; have K2 := Lib.hid (K1.out.turn 1 rfl hrow hoth hz); have B2 := Lib.hid (hbl _ _ (by omega) B1.out); clear hrow hoth hz hbl K1 B1)
    | (refine at_load 26 (.tmp 7) (by rfl) ?_; refine wpList_get (by rfl) 26 (.tmp 7) (by rfl) (w.heap.size) 8 (by rfl) 30 _ (.slice D m e) _ (K2.out.row 1 rfl) (by rfl) Tryz.underlying26 (by rfl) ?_)
    | (at_builtin; refine wpList_append_pairs _ rfl (.const (.slice none 0 0)) (.tmp 8) 26 rfl w2.heap.size 79 i1 Tryz.underlying26 hinf1.out.1 hinf1.out.2.1 hinf1.out.2.2.1 hinf1.out.2.2.2 _ [] rfl (OwnP.nil_ _ _ _) _ D m e f.ps rfl (K2.out.p (D, m, f.ps) (by simp)).1 HM.out (by first | (simp; done) | (simp; omega)) (Nat.le_refl _) ?_; intro v3 w3 hown hb _ _; rw [List.nil_append] at hown; obtain ⟨D1, e1, rfl, hh⟩ := hown.handP HY.out; have K3 := Lib.hid (K2.out.handP hb hh); have B3 := Lib.hid (below_step B2.out hb); have HP1 := Lib.hid (hh.2.1.less B2.out.size); have HQ1 := Lib.hid hh.2.2; clear hown hb hh K2 B2)
    | (refine at_store 26 (.tmp 10) (.tmp 9) (by rfl) ?_; refine wpList_put (by rfl) 26 (.tmp 10) (.tmp 9) (by rfl) (w.heap.size) 8 (.slice D1 m e1) (by rfl) (by rfl) 30 _ (fra f A1 n c1 D1 m e1) (K3.out.row 1 rfl) (by simp [Value.cells]) (by kernel_rfl) info_P (by kernel_rfl) ?_; intro w4 hrow hoth hz hbl; have K4 := Lib.hid (K3.out.turn 1 rfl hrow hoth hz); have B4 := Lib.hid (hbl _ _ (by omega) B3.out); clear hrow hoth hz hbl K3 B3)
    | (refine at_load 30 (.tmp 1) (by rfl) ?_; refine wpList_load_row (by rfl) 30 (.tmp 1) (by rfl) (w.heap.size) (by rfl) 30 _ (0, 0) _ (K4.out.row 1 rfl) Tryz.underlying30 (by rfl) info_F ?_)
    | (refine at_store 30 (.tmp 2) (.tmp 11) (by rfl) ?_; refine wpList_put (by rfl) 30 (.tmp 2) (.tmp 11) (by rfl) (w.heap.size + 1) 0 (.agg (fra f A1 n c1 D1 m e1)) (by rfl) (by rfl) 30 _ (fra f A1 n c1 D1 m e1) (K4.out.row 0 rfl) (by simp [Value.cells]) (by kernel_rfl) info_F (by kernel_rfl) ?_; intro w5 hrow hoth hz hbl; have K5 := Lib.hid (K4.out.turn 0 rfl hrow hoth hz); have B5 := Lib.hid (hbl _ _ (by omega) B4.out); clear hrow hoth hz hbl K4 B4))
  exact bodyPost_ret (results_cell_row rfl _ _ _ _ _ _ _ rfl (K5.out.row 0 rfl) Tryz.underlying30 rfl info_F) rfl ⟨A1, c1, D1, e1, rfl, ⟨(K5.out.s (A1, n, f.da) (by simp)).1, HD1.out, HC1.out⟩, ⟨(K5.out.p (D1, m, f.ps) (by simp)).1, HP1.out, HQ1.out⟩, B5.out⟩
end Go.Proofs.YtbflhphjnmhjhaaGreat
