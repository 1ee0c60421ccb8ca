/- head.octets: the iterator of a head's nine bytes. -/
import Derived.Test.YtolminjedgoggaaHdW
import Derived.Test.YtolminjedgoggaaGKeep
namespace Go.Proofs.Ytolminjedgoggaa
open Go.RowKit Oct Go.Shelf
attribute [local go_sem] Oper.semAt_some

/-- A head's nine bytes. -/
def hdBytes (L : Nat) (K F : UInt8) (S : Nat) : List UInt8 := putB L 3 ++ ([K, F] ++ putB S 4)
theorem hdBytes_length (L : Nat) (K F : UInt8) (S : Nat) : (hdBytes L K F S).length = 9 := by simp [hdBytes, putB_length]

def hdPart (L : Nat) (K F : UInt8) (S : Nat) : Nat → List UInt8
  | 0 => putB L 3
  | 1 => [K, F]
  | _ => putB S 4
def hdPre (L : Nat) (K F : UInt8) (S : Nat) : Nat → List UInt8
  | 0 => []
  | i + 1 => hdPre L K F S i ++ hdPart L K F S i
theorem hdPre_all (L : Nat) (K F : UInt8) (S : Nat) : hdPre L K F S 3 = hdBytes L K F S := by simp [hdPre, hdPart, hdBytes]
theorem hdPre_len (L : Nat) (K F : UInt8) (S i : Nat) (h : i < 3) : (hdPre L K F S i).length + (hdPart L K F S i).length ≤ 9 ∧ (hdPart L K F S i).length ≤ 4 := by
  have : i = 0 ∨ i = 1 ∨ i = 2 := by omega
  rcases this with rfl | rfl | rfl <;> simp [hdPre, hdPart, putB_length]
theorem take_one {xs : List UInt8} {m : Nat} (pre : List UInt8) (h : m < xs.length) : pre ++ xs.take m ++ [xs[m]] = pre ++ xs.take (m + 1) := by
  rw [List.append_assoc, List.take_append_getElem h]
theorem put3 (L : Nat) (w : World) (h : L < 16777216) :
    Calls Try.prog 84 #[.int .i64 L, .int .i64 3] w fun e w' => ∃ v, e = .returned (.tuple #[v, .int .i64 0]) ∧ OwnB w' w.heap.size 5 v (putB L 3) ∧ Below w.heap.size w w' :=
  put_ok L 3 w (by omega) (by omega) (by omega) (by have e : (256 : Int) ^ (3 : Int).toNat = 16777216 := by decide
                                                    rw [e]; omega)
theorem put4 (L : Nat) (w : World) (h : L < 2147483648) :
    Calls Try.prog 84 #[.int .i64 L, .int .i64 4] w fun e w' => ∃ v, e = .returned (.tuple #[v, .int .i64 0]) ∧ OwnB w' w.heap.size 5 v (putB L 4) ∧ Below w.heap.size w w' :=
  put_ok L 4 w (by omega) (by omega) (by omega) (by have e : (256 : Int) ^ (4 : Int).toNat = 4294967296 := by decide
                                                    rw [e]; omega)
set_option maxRecDepth 100000 in
set_option maxHeartbeats 1000000 in
theorem octets1_in (n : Nat) (hn : 1 ≤ n) (l B1 L S : Nat) (K F : UInt8) (p : Nat → Prop) (J Jx : List UInt8 → World → Prop) (W : World)
    (hJ : AbidesFrom W.heap.size J) (hB1 : B1 < W.heap.size) (hp : ∀ j, W.heap.size ≤ j → p j) (hL : L < 16777216) (hS : S < 2147483648)
    (hY : ∀ pre (x : UInt8) W1, J pre W1 → pre.length < 9 → YieldAt Fence.wide (n - 1) Try.prog l #[.int .u8 (x.toNat : Int)] W1 fun e W' =>
      (e = .returned (.bool true) ∧ J (pre ++ [x]) W' ∧ KeepC p W1 W') ∨ (e = .returned (.bool false) ∧ Jx (pre ++ [x]) W'))
    (hc : Four W B1 (.int .i64 L) (.int .u8 (K.toNat : Int)) (.int .u8 (F.toNat : Int)) (.int .i64 S)) (h0 : J [] W) :
    CallsIn Fence.wide n Try.prog 83 #[.func (.yield l) #[] #[], .pointer (some ⟨B1, 0, none⟩)] W fun e W' => (∃ v, e = .returned v) ∧
      ((∃ ys, ys = hdBytes L K F S ∧ J ys W') ∨ (∃ pre, True ∧ Jx pre W')) := by
  have HY := Lib.hid hY
  have HJ := Lib.hid hJ
  have HP := Lib.hid hp
  have HC := Lib.hid hc
  clear hY hJ hp
  obtain ⟨c0, c1, c2, c3⟩ := hc
  refine callsIn_of_wp Try.func83 rfl trivial ?_ rfl
  simp only [Try.ntmps83, List.size_toArray, List.length_cons, List.length_nil, Nat.reduceAdd, Nat.reduceSub, Array.replicate_succ, Array.replicate_zero, List.push_toArray, List.append_toArray, List.nil_append, List.cons_append]
  gi_wp2_with (first
    | (refine ⟨trivial, ?_⟩; gi_at_call 84; (with_reducible refine (callsIn_wide.2 (put3 L _ hL)).mono ?_); rintro e W1 ⟨v1, rfl, ho1, hb1⟩; obtain ⟨A1, k1, rfl, hk1, hn1, hr1⟩ := ho1.form2 (putB_length _ _); have HR1 := Lib.hid hr1; have HO1 := Lib.hid ho1; clear ho1 hr1; have hF1 := HC.out.below hb1 hB1; have HF1 := Lib.hid hF1; obtain ⟨c0, c1, c2, c3⟩ := hF1)
    | (refine ⟨trivial, ?_⟩; gi_at_call 84; (with_reducible refine (callsIn_wide.2 (put4 S _ hS)).mono ?_); rintro e W2 ⟨v2, rfl, ho2, hb2⟩; obtain ⟨A2, k2, rfl, hk2, hn2, hr2⟩ := ho2.form2 (putB_length _ _); have HR2 := Lib.hid hr2; have HO2 := Lib.hid ho2; clear ho2 hr2; have hF2 := HF1.out.below hb2 (Nat.lt_of_lt_of_le hB1 hb1.size); have HF2 := Lib.hid hF2; obtain ⟨c0, c1, c2, c3⟩ := hF2))
  generalize hW3 : ((W2.alloc (.cells #[.int .u8 (K.toNat : Int), .int .u8 (F.toNat : Int)] 5)).alloc (.cells #[.slice A1 3 k1, .slice (some ⟨W2.heap.size, 0, none⟩) 2 2, .slice A2 4 k2] 26)) = W3
  have hz1 := hb1.size
  have hz2 := hb2.size
  have hb3 : Below W2.heap.size W2 W3 := by rw [← hW3]; exact ((Below.refl _ W2).alloc (Nat.le_refl _) _).alloc (by simp) _
  have hz3 := hb3.size
  have hJ3 : J [] W3 := AbidesFrom.below HJ.out (AbidesFrom.below HJ.out (AbidesFrom.below HJ.out h0 hb1) hb2) hb3
  have hq : ∀ i, i < 3 → ∃ A m c xs, W3.cell? ⟨W2.heap.size + 1, i, none⟩ = some (.slice A m c) ∧ Bs W3 W3.heap.size A m xs ∧ (∀ b o, A = some ⟨b, o, none⟩ → p b) ∧ xs = hdPart L K F S i := by
    have hg1 : ∀ b o, A1 = some ⟨b, o, none⟩ → p b := fun b o e => by
      obtain ⟨_, _, e1, _, _, h4, _⟩ := HO1.out.form
      cases e1
      obtain ⟨g, e2, h5, _⟩ := h4 _ e
      cases e2
      exact HP.out _ h5
    have hg2 : ∀ b o, A2 = some ⟨b, o, none⟩ → p b := fun b o e => by
      obtain ⟨_, _, e1, _, _, h4, _⟩ := HO2.out.form
      cases e1
      obtain ⟨g, e2, h5, _⟩ := h4 _ e
      cases e2
      exact HP.out _ (by omega)
    have hq2 : Bs W3 W3.heap.size (some ⟨W2.heap.size, 0, none⟩) 2 [K, F] := by
      have h := bs_lit W2 5 [K, F] #[.int .u8 (K.toNat : Int), .int .u8 (F.toNat : Int)] W2.heap.size rfl (by simp [bv])
      rw [← hW3]
      exact (h.alloc (by simp) _).more (by simp)
    intro i hi
    have h3 : i = 0 ∨ i = 1 ∨ i = 2 := by omega
    rcases h3 with rfl | rfl | rfl
    · exact ⟨A1, 3, k1, _, by rw [← hW3]; simp [go_sem], ((HR1.out.below hb2).below (hb3.mono hz2)).more (by omega), hg1, rfl⟩
    · exact ⟨_, 2, 2, _, by rw [← hW3]; simp [go_sem], hq2, fun b o e => by cases e; exact HP.out _ (by omega), rfl⟩
    · exact ⟨A2, 4, k2, _, by rw [← hW3]; simp [go_sem], (HR2.out.below hb3).more (by omega), hg2, rfl⟩
  have hpq : p (W2.heap.size + 1) := HP.out _ (by omega)
  have HQ := Lib.hid hq
  clear hq hW3 HO1 HO2 HR1 HR2 HF1 HF2 c0 c1 c2 c3 h0 hb1 hb2
  have HJ3 := Lib.hid hJ3
  clear hJ3
  gi_loopw [32] (fun t wr => ∃ i : Nat, i ≤ 3 ∧ t = .int .i64 i ∧ KeepC p W3 wr ∧ J (hdPre L K F S i) wr) (fun t _ => 3 - (intOf t).toNat)
  case atStart => exact ⟨0, Nat.zero_le _, rfl, KeepC.refl _ _, HJ3.out⟩
  case round =>
    obtain ⟨i, hi, rfl, hkp, hJi⟩ := hrel
    by_cases hlt : i < 3
    · obtain ⟨A, m, c, xs, hcell, hbs, hpb, hxs⟩ := HQ.out i hlt
      have hcq := hkp.cell (a := ⟨W2.heap.size + 1, i, none⟩) hpq hcell
      have hlen := hdPre_len L K F S i hlt
      rw [← hxs] at hlen
      have HXS := Lib.hid hxs
      have HBS := Lib.hid hbs
      have hm : xs.length = m := hbs.1
      have HM := Lib.hid hm
      have hm4 : m ≤ 4 := by omega
      have hm9 : (hdPre L K F S i).length + m ≤ 9 := by omega
      have HPB := Lib.hid hpb
      clear hcell hbs hpb hxs hm hlen
      have hd3 : decide ((i : Int) < 3) = true := by simp; omega
      gi_wp2
      gi_loopw [38] (fun t wr => ∃ j : Nat, j ≤ m ∧ t = .int .i64 j ∧ KeepC p W3 wr ∧ J (hdPre L K F S i ++ xs.take j) wr) (fun t _ => m - (intOf t).toNat)
      case atStart => exact ⟨0, Nat.zero_le _, rfl, hkp, by simpa using hJi⟩
      case round =>
        obtain ⟨j, hj, rfl, hkp2, hJj⟩ := hrel
        by_cases hlt2 : j < m
        · obtain ⟨b, o, rfl, _, hcells⟩ := bs_cell HBS.out (by omega)
          obtain ⟨x, hx, hcx⟩ := hcells j hlt2
          have hcx2 := hkp2.cell (a := ⟨b, o + j, none⟩) (HPB.out b o rfl) hcx
          have hxj : j < xs.length := by have := HM.out; omega
          have hstep : hdPre L K F S i ++ xs.take j ++ [x] = hdPre L K F S i ++ xs.take (j + 1) := by
            rw [List.getElem?_eq_getElem hxj] at hx
            cases hx
            exact take_one _ hxj
          have HST := Lib.hid hstep
          clear hcells hx hcx hstep
          obtain ⟨fn, tmps, assign, body, hy, hR⟩ := HY.out _ x wr hJj (by rw [List.length_append, List.length_take]; have := HM.out; omega)
          rw [HST.out] at hR
          gi_wp2
          refine hR.mono ?_
          rintro e W4 (⟨rfl, hJ4, hk4⟩ | ⟨rfl, hJx4⟩)
          · gi_wp2
            go_roundw
            case rel => exact ⟨j + 1, by omega, by go_num, hkp2.trans hk4, hJ4⟩
            case measure => simp [intOf]; omega
          · gi_wp2
            refine bodyPost_ret (results_none rfl _ _ _) rfl ?_
            exact ⟨⟨_, rfl⟩, .inr ⟨_, trivial, hJx4⟩⟩
        · obtain rfl : j = m := by omega
          have hJm : J (hdPre L K F S (i + 1)) wr := by
            show J (hdPre L K F S i ++ hdPart L K F S i) wr
            rw [← HXS.out]
            rw [List.take_of_length_le (by rw [HM.out]; exact Nat.le_refl _)] at hJj
            exact hJj
          have HJm := Lib.hid hJm
          clear hJm hJj
          gi_wp2
          go_roundw
          case rel => exact ⟨i + 1, by omega, by go_num, hkp2, HJm.out⟩
          case measure => simp [intOf]; omega
    · obtain rfl : i = 3 := by omega
      gi_wp2
      go_end0
      exact ⟨⟨_, rfl⟩, .inl ⟨_, (hdPre_all L K F S).symm ▸ rfl, hJi⟩⟩
/-- The nine bytes, as an iterator's word. -/
theorem octets_stops (n : Nat) (hn : 1 ≤ n) (B1 L S : Nat) (K F : UInt8) (p : Nat → Prop) (w : World) (hB1 : B1 < w.heap.size) (hp : ∀ j, w.heap.size ≤ j → p j) (hL : L < 16777216) (hS : S < 2147483648)
    (hc : Four w B1 (.int .i64 L) (.int .u8 (K.toNat : Int)) (.int .u8 (F.toNat : Int)) (.int .i64 S)) :
    SeqStopsK Fence.wide n Try.prog 83 #[.pointer (some ⟨B1, 0, none⟩)] (fun x : UInt8 => #[Value.int .u8 (x.toNat : Int)]) (KeepC p)
      (fun ys => ys = hdBytes L K F S) (fun _ => True) 9 w := fun l J Jx W hW hJ _ hY h0 =>
  octets1_in n hn l B1 L S K F p J Jx W hJ (Nat.lt_of_lt_of_le hB1 hW.size) (fun j hj => hp j (Nat.le_trans hW.size hj)) hL hS hY (hc.below hW hB1) h0
theorem octets_any (L K F S : Int) (w : World) :
    Calls Try.prog 59 #[.agg #[.int .i64 L, .int .u8 K, .int .u8 F, .int .i64 S]] w fun e w' =>
      e = .returned (.func (.func 83) #[] #[.pointer (some ⟨w.heap.size, 0, none⟩)]) ∧ w.alloc (.cells #[.int .i64 L, .int .u8 K, .int .u8 F, .int .i64 S] 23) = w' := by
  go_enter Try.func59, Try.ntmps59
  go_wp2
  go_ret
  exact ⟨rfl, rfl⟩
end Go.Proofs.Ytolminjedgoggaa
