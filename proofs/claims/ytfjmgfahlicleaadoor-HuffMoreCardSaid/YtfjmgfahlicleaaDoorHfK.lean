/- Package huff: the iterator of a text's bytes, out of its bits. -/
import Derived.Test.YtfjmgfahlicleaaDoorHfE
import Derived.Test.YtfjmgfahlicleaaDoorHfH
import Derived.Test.YtfjmgfahlicleaaDoorHfI
namespace Go.Proofs.YtfjmgfahlicleaaDoor
open Go.RowKit Hf Go.Shelf Oct
set_option linter.unusedVariables false
set_option linter.unusedSimpArgs false
attribute [local go_sem] Oper.semAt_some
namespace Hf
/-- What a round keeps: the cells of the blocks of p, and what the iterator has made. -/
def KeepW (p : Nat → Prop) (A B : World) : Prop := KeepC p A B ∧ KeepsWalks A B
theorem KeepW.trans {p : Nat → Prop} {A B C : World} (h : KeepW p A B) (k : KeepW p B C) : KeepW p A C := ⟨h.1.trans k.1, h.2.trans k.2⟩
theorem MapL.walks {P : Program} {k : TypeId} {b : Nat} {l : List (Value × Value)} {w w' : World} (h : MapL w P k b l) (hk : KeepsWalks w w') : MapL w' P k b l := by
  obtain ⟨es, clock, h1, h2⟩ := h
  exact ⟨es, clock, hk.same b _ h1 rfl, h2⟩
theorem keepC_bs {p : Nat → Prop} {W W' : World} {n B : Nat} {A : Option Addr} {xs : List UInt8} (h : KeepC p W W') (hb : Bs W B A n xs) (hp : 0 < n → ∀ b o, A = some ⟨b, o, none⟩ → p b) : Bs W' B A n xs :=
  ⟨hb.1, fun hn => by
    obtain ⟨b, o, e, hB, hc⟩ := hb.2 hn
    exact ⟨b, o, e, hB, fun j hj => h.cell (hp hn b o e) (hc j hj)⟩⟩
def enc1 (c : UInt8) : UInt8 × Fin 12 := (c, ⟨mny c, by have := mny_bd c; omega⟩)
theorem els_eq (l : List UInt8) (a n : Nat) : els l a n = l.map enc1 ++ (if a < 8 * n then [(0, 0)] else []) := rfl
theorem run_len {xs l : List UInt8} {a : Nat} (h : Hf.Run xs l a) : 5 * l.length ≤ a := by
  have h2 : ∀ b : List UInt8, 5 * b.length ≤ (bl b).length := by
    intro b
    induction b with
    | nil => simp
    | cons c b ih => have := mny_bd c; rw [bl_cons, List.length_append, cbits_length, List.length_cons]; omega
  have := h2 l
  have := h.len
  omega
theorem next_end (xs : List UInt8) : (nextN xs (8 * xs.length)).2 = 0 := by
  rw [next_none fun j hj => try_out (by have : 0 < rowM j := by unfold rowM; split <;> omega
                                        omega)]
/-- What the iterator may have given when it is left. -/
def LeftAt (xs : List UInt8) (n : Nat) (pre : List (UInt8 × Fin 12)) : Prop := ∃ (l : List UInt8) (a : Nat), Hf.Run xs l a ∧ (pre = l.map enc1 ∨ (Hf.Ends xs l a ∧ a < 8 * n ∧ pre = l.map enc1 ++ [(0, 0)]))
end Hf
set_option maxRecDepth 100000 in
set_option maxHeartbeats 4000000 in
theorem taken1_in (k : Nat) (hk : 1 ≤ k) (l B1 n c : Nat) (A : Option Addr) (xs : List UInt8) (p : Nat → Prop) (J Jx : List (UInt8 × Fin 12) → World → Prop) (W : World) (hJ : AbidesFrom W.heap.size J) (hR : Rws W)
    (hp0 : p 0) (hp1 : p B1) (hpA : 0 < n → ∀ b o, A = some ⟨b, o, none⟩ → p b) (hn : n ≤ 10000)
    (hY : ∀ pre (x : UInt8 × Fin 12) W1, J pre W1 → pre.length < 8 * n + 1 → YieldAt Fence.wide (k - 1) Tryd.prog l #[.int .u8 (x.1.toNat : Int), .int .i64 (x.2.val : Int)] W1 fun e W' =>
      (e = .returned (.bool true) ∧ J (pre ++ [x]) W' ∧ KeepW p W1 W') ∨ (e = .returned (.bool false) ∧ Jx (pre ++ [x]) W'))
    (hc : W.cell? ⟨B1, 0, none⟩ = some (.slice A n c)) (hA : Bs W W.heap.size A n xs) (h0 : J [] W) :
    CallsIn Fence.wide k Tryd.prog 36 #[.func (.yield l) #[] #[], .pointer (some ⟨B1, 0, none⟩)] W fun e W' => (∃ v, e = .returned v) ∧
      ((∃ ys, (∃ b a, Hf.Ends xs b a ∧ ys = els b a n) ∧ J ys W') ∨ (∃ pre, LeftAt xs n pre ∧ Jx pre W')) := by
  have HY := Lib.hid hY
  have HJ := Lib.hid hJ
  have HP0 := Lib.hid hp0
  have HP1 := Lib.hid hp1
  have HPA := Lib.hid hpA
  have HA := Lib.hid hA
  have HR := Lib.hid hR
  have HC := Lib.hid hc
  have HLEN := Lib.hid hA.1
  clear hY hJ hp0 hp1 hpA hA hR hc
  refine callsIn_of_wp Tryd.func36 rfl trivial ?_ rfl
  simp only [Tryd.ntmps36, List.size_toArray, List.length_cons, List.length_nil, Nat.reduceAdd, Nat.reduceSub, Array.replicate_succ, Array.replicate_zero, List.push_toArray, List.append_toArray, List.nil_append, List.cons_append]
  gi_wp2_with (refine ⟨trivial, ?_⟩; gi_at_call 27; (with_reducible refine (callsIn_wide.2 (h_book W HR.out)).mono ?_); rintro e w1 ⟨rfl, hm1, hb1⟩; have HM1 := Lib.hid hm1; have HB1 := Lib.hid hb1; clear hm1 hb1)
  have hK1 : KeepC p W w1 := KeepC.below HB1.out
  have hS1 : W.heap.size ≤ w1.heap.size := HB1.out.size
  have hJ1 : J [] w1 := AbidesFrom.below HJ.out h0 HB1.out
  gi_loopw [4] (fun t wr => ∃ (b : List UInt8) (a : Nat), t = .int .i64 (a : Int) ∧ a ≤ 8 * n ∧ Hf.Run xs b a ∧ KeepC p W wr ∧ W.heap.size ≤ wr.heap.size ∧ MapL wr Tryd.prog 61 W.heap.size (bookL 16) ∧ J (b.map enc1) wr) (fun t _ => 8 * n - (intOf t).toNat)
  case atStart => exact ⟨[], 0, rfl, Nat.zero_le _, Hf.Run.nil xs, hK1, hS1, HM1.out, hJ1⟩
  case round =>
    obtain ⟨b, a, rfl, ha, hrun, hkp, hsz, hmp, hJb⟩ := hrel
    obtain ⟨wo, rfl⟩ : ∃ wo : World, wo = wr := ⟨_, rfl⟩
    have HK := Lib.hid hkp
    have HM := Lib.hid hmp
    have HJb := Lib.hid hJb
    have HRUN := Lib.hid hrun
    have hcb := HK.out.cell (a := ⟨B1, 0, none⟩) HP1.out HC.out
    clear hkp hmp hJb hrun hK1 hS1 hJ1 h0
    by_cases hlt : a < 8 * n
    · have hlt2 : (a : Int) < (n : Int) * 8 := by omega
      have hbs : Bs wo wo.heap.size A n xs := (keepC_bs HK.out HA.out HPA.out).more hsz
      have hrw := rws_keep HR.out HK.out HP0.out
      have HNX := Lib.hid (h_next W.heap.size A n c a xs wo hrw HM.out hbs hn ha)
      have hbl := run_len HRUN.out
      have hlq : (b.map enc1).length < 8 * n + 1 := by rw [List.length_map]; omega
      clear hbs hrw
      have hle := next_le xs a
      have hST := fun h => HRUN.out.step h
      have hND : (nextN xs a).2 ≠ 0 → (nextN xs a).2 = mny (nextN xs a).1 ∧ a + (nextN xs a).2 ≤ 8 * xs.length := fun h => ⟨(next_some h).1, (next_some h).2.1⟩
      have hZ : (nextN xs a).2 = 0 → (nextN xs a).1 = 0 := fun h => by rw [(next_zero h).1]
      have hEN : (nextN xs a).2 = 0 → Hf.Ends xs b a := fun h => ⟨HRUN.out, h⟩
      generalize nextN xs a = x at *
      obtain ⟨d, m⟩ := x
      simp only at *
      by_cases hm0 : m = 0
      · subst hm0
        have hd0 := hZ rfl
        subst hd0
        have HEN := Lib.hid (hEN rfl)
        have hnx := HNX.out
        have HNX0 : Hid (Calls Tryd.prog 37 #[.map (some W.heap.size), .slice A n c, .int .i64 (a : Int)] wo fun e w' => e = .returned (.tuple #[.int .u8 0, .int .i64 0]) ∧ Below wo.heap.size wo w') := Lib.hid hnx
        have HJB2 : Hid (∀ w2, Below wo.heap.size wo w2 → J (b.map enc1) w2) := Lib.hid fun w2 hb => AbidesFrom.below HJ.out HJb.out hb
        clear hnx HNX hST hND hZ hEN hle hbl
        gi_wp2_with (refine ⟨trivial, ?_⟩; gi_at_call 37; (with_reducible refine (callsIn_wide.2 HNX0.out).mono ?_); rintro e w2 ⟨rfl, hb2⟩; obtain ⟨fn, tmps, assign, body, hy, hR⟩ := HY.out (b.map enc1) (0, 0) w2 (HJB2.out w2 hb2) hlq; have hy2 : (Instr.yield l #[.int .u8 0, .int .i64 0]).run Tryd.prog w2 = _ := hy; have HRR := Lib.hid hR; clear hb2 hR hy)
        refine HRR.out.mono ?_
        rintro e w4 (⟨rfl, hJ4, hk4⟩ | ⟨rfl, hJx4⟩)
        · have HJ4 := Lib.hid hJ4
          clear hJ4 hk4
          gi_wp2
          refine bodyPost_ret (results_none rfl _ _ _) rfl ⟨⟨_, rfl⟩, .inl ⟨_, ⟨b, a, HEN.out, by rw [els_eq, if_pos hlt]⟩, HJ4.out⟩⟩
        · have HJ4 := Lib.hid hJx4
          clear hJx4
          gi_wp2
          refine bodyPost_ret (results_none rfl _ _ _) rfl ⟨⟨_, rfl⟩, .inr ⟨_, ⟨b, a, HRUN.out, .inr ⟨HEN.out, hlt, rfl⟩⟩, HJ4.out⟩⟩
      · obtain ⟨hmd, hle2⟩ := hND hm0
        subst hmd
        rw [HLEN.out] at hle2
        have HST := Lib.hid (hST hm0)
        have hmb := mny_bd d
        have hq : ((mny d : Int) == 0) = false := by simp; omega
        have HJB2 : Hid (∀ w2, Below wo.heap.size wo w2 → J (b.map enc1) w2) := Lib.hid fun w2 hb => AbidesFrom.below HJ.out HJb.out hb
        clear hST hND hZ hEN hle hbl
        gi_wp2_with (refine ⟨trivial, ?_⟩; gi_at_call 37; (with_reducible refine (callsIn_wide.2 HNX.out).mono ?_); rintro e w2 ⟨rfl, hb2⟩; obtain ⟨fn, tmps, assign, body, hy, hR⟩ := HY.out (b.map enc1) (enc1 d) w2 (HJB2.out w2 hb2) hlq; have hy2 : (Instr.yield l #[.int .u8 (d.toNat : Int), .int .i64 (mny d : Int)]).run Tryd.prog w2 = _ := hy; have HRR := Lib.hid hR; have HB2 := Lib.hid hb2; clear hb2 hR hy)
        refine HRR.out.mono ?_
        rintro e w4 (⟨rfl, hJ4, hk4⟩ | ⟨rfl, hJx4⟩)
        · have HJ4 := Lib.hid hJ4
          have HK4 := Lib.hid hk4
          clear hJ4 hk4
          gi_wp2
          go_roundw
          case rel =>
            refine ⟨b ++ [d], a + mny d, by go_num, hle2, HST.out, (HK.out.trans (KeepC.below HB2.out)).trans HK4.out.1, Nat.le_trans hsz (Nat.le_trans HB2.out.size HK4.out.2.size), Hf.MapL.walks (HM.out.below HB2.out) HK4.out.2, ?_⟩
            rw [List.map_append]
            exact HJ4.out
          case measure => simp [intOf]; omega
        · have HJ4 := Lib.hid hJx4
          clear hJx4
          gi_wp2
          refine bodyPost_ret (results_none rfl _ _ _) rfl ⟨⟨_, rfl⟩, .inr ⟨_, ⟨b ++ [d], a + mny d, HST.out, .inl (by rw [List.map_append]; rfl)⟩, HJ4.out⟩⟩
    · obtain rfl : a = 8 * n := by omega
      have hlt2 : ¬ ((8 * n : Nat) : Int) < (n : Int) * 8 := by omega
      have hEN : Hf.Ends xs b (8 * n) := ⟨HRUN.out, by rw [← HLEN.out]; exact next_end xs⟩
      have HEN := Lib.hid hEN
      clear hEN
      gi_wp2
      go_end0
      exact ⟨⟨_, rfl⟩, .inl ⟨_, ⟨b, 8 * n, HEN.out, by rw [els_eq, if_neg (by omega), List.append_nil]⟩, HJb.out⟩⟩
end Go.Proofs.YtfjmgfahlicleaaDoor
