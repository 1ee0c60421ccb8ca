/- PackParts: the law. -/
import Derived.Test.YtacnbpodcjefiaaDoorPkDp
namespace Go.Proofs.YtacnbpodcjefiaaDoor
open Go.RowKit Go.Shelf Px Tx Tb Up Pk
set_option linter.unusedVariables false
set_option linter.unusedSimpArgs false
attribute [local go_sem] Oper.semAt_some
theorem wpListG_append {P : Program} (w : World) {ops : Array Oper} {rest : List Oper} {o : Oper} {a : Act} {Q : Exit → Act → World → Prop} (hw : Region.wanted o (yielded ops a.tmps) = true) (s x : Operand) (t : TypeId)
    (ho : o.op = .call { callee := .builtin .append, args := #[s, x], argTypes := #[t, t] })
    (base : Nat) (e : TypeId) (i : TypeInfo) (ht : P.underlying t = some (.slice e)) (hi : P.info? e = some i) (hz : i.zero = some (.int .u8 0)) (hsize : i.size = 1) (hby : i.bytes = 1)
    (v : Value) (ys : List UInt8) (hs : a.eval s = v) (hown : OwnB w base e v ys)
    (B : Nat) (A : Option Addr) (m c : Nat) (xs : List UInt8) (hx : a.eval x = .slice A m c) (hr : Bs w B A m xs) (hnone : A = none → c = 0)
    (hlen : ys.length + m ≤ 1000000) (hbase : base ≤ w.heap.size)
    (h : ∀ v' w', OwnB w' base e v' (ys ++ xs) → Below base w w' → wpList P ops Q rest (a.put o.dst v') w') : wpList P ops Q (o :: rest) a w :=
  wpList_step fun _ hK => by
    rw [if_pos hw]
    exact wp_append_full w s x t ho base e i ht hi hz hsize hby v ys hs hown B A m c xs hx hr hnone hlen hbase fun v' w' h1 h2 _ _ _ => hK _ _ (h v' w' h1 h2)
namespace Pk
theorem env_take {w : World} {fs : List Fact} {gs : List Bx} {LA : Option Addr} {ln k : Nat} {ls : List Fd} (h : EnvF w fs gs) (hL : fF LA ln ls ∈ fs) (hk : k ≤ ln) : EnvF w (fF LA k (ls.take k) :: fs) gs := by
  have hs := h.fs hL
  refine h.fact (x := fF LA k (ls.take k)) ⟨by rw [List.length_take, hs.1]; omega, fun h0 => ?_⟩ (fun j ⟨h0, o, e⟩ => (h.f _ hL).2 j ⟨by omega, o, e⟩)
  obtain ⟨b, o, e, hb, hc⟩ := hs.2 (by omega)
  refine ⟨b, o, e, hb, fun j hj => ?_⟩
  rw [List.getElem?_take_of_lt hj]
  exact hc j (by omega)
theorem env_drop {w : World} {fs : List Fact} {gs : List Bx} {LA A3 : Option Addr} {ln lc k : Nat} {ls : List Fd} (h : EnvF w fs gs) (hL : fF LA ln ls ∈ fs) (hk : k ≤ ln) (hlc : ln ≤ lc) (hA : (if lc = k then LA else LA.map fun x => x.add (k * 2)) = A3) : EnvF w (fF A3 (ln - k) (ls.drop k) :: fs) gs := by
  have hs := h.fs hL
  have key : 0 < ln - k → ∃ b o, LA = some ⟨b, o, none⟩ ∧ A3 = some ⟨b, o + k * 2, none⟩ ∧ b < w.heap.size ∧ ∀ j, j < ln → w.cell? ⟨b, o + j * 2, none⟩ = some (.string (ls[j]?.getD fd0).1) ∧ w.cell? ⟨b, o + (j * 2 + 1), none⟩ = some (.string (ls[j]?.getD fd0).2) := fun h0 => by
    obtain ⟨b, o, e, hb, hc⟩ := hs.2 (by omega)
    subst e
    rw [if_neg (by omega)] at hA
    refine ⟨b, o, rfl, ?_, hb, hc⟩
    rw [← hA]
    have hadd : (⟨b, o, none⟩ : Addr).add (k * 2) = ⟨b, o + k * 2, none⟩ := by unfold Addr.add; split <;> simp_all
    simp [hadd]
  refine h.fact (x := fF A3 (ln - k) (ls.drop k)) ⟨by rw [List.length_drop, hs.1], fun h0 => ?_⟩ (fun j ⟨h0, o, e⟩ => ?_)
  · obtain ⟨b, o, _, e3, hb, hc⟩ := key h0
    refine ⟨b, o + k * 2, e3, hb, fun j hj => ?_⟩
    rw [List.getElem?_drop]
    have := hc (k + j) (by omega)
    rw [show o + k * 2 + j * 2 = o + (k + j) * 2 by omega, show o + k * 2 + (j * 2 + 1) = o + ((k + j) * 2 + 1) by omega]
    exact this
  · obtain ⟨b, o', e1, e3, _, _⟩ := key h0
    have e' : A3 = some ⟨j, o, none⟩ := e
    rw [e3] at e'
    have hbj : b = j := by cases e'; rfl
    rw [← hbj]
    exact (h.f _ hL).2 b ⟨by omega, o', e1⟩
end Pk
set_option maxRecDepth 100000 in
set_option maxHeartbeats 4000000 in
theorem pp_g (M : Int) (A : Option Addr) (n c : Nat) (xs : List Fd) (LA : Option Addr) (ln lc : Nat) (ls : List Fd) (a : Int) (w : World) (hV : EnvF w [fF LA ln ls, fF A n xs, stF, rwF, mvF] []) (HG : Hid (∀ w0 : World, Fs w0 w0.heap.size A n xs → Fs w0 w0.heap.size LA ln ls → Calls Tryd.prog 6 #[.agg #[.int .i64 M, .slice A n c], .slice LA ln lc] w0 fun e w' => e = .returned (.bool true) ∧ Below w0.heap.size w0 w')) :
    Calls Tryd.prog 4 #[.agg #[.int .i64 M, .slice A n c], .slice LA ln lc, .int .i64 a] w fun e w' => e = .returned (.bool true) ∧ Below w.heap.size w w' := by
  have K0 := Lib.hid ((hV).boxg 24 #[.int .i64 M, .slice A n c] w.heap.size (by simp))
  have G0 := Lib.hid ((Below.refl w.heap.size w).alloc (by simp) (.cells #[.int .i64 M, .slice A n c] 24))
  clear hV
  go_enter Tryd.func4, Tryd.ntmps4
  go_wp2_with (first
    | go_skip
    | (refine at_load 24 (.tmp 3) (by rfl) ?_; refine wpListG_row (by rfl) 24 (.tmp 3) (by rfl) w.heap.size (by rfl) 24 #[.int .i64 M, .slice A n c] _ (K0.out.row 0 rfl) Tryd.underlying24 (by rfl) infoc_T ?_)
    | (go_at_call 6; (with_reducible refine (HG.out _ (K0.out.fs (A := A) (n := n) (xs := xs) (by simp)) (K0.out.fs (A := LA) (n := ln) (xs := ls) (by simp))).mono ?_); rintro e w1 ⟨rfl, hb⟩; have K1 := Lib.hid (K0.out.on hb); have G1 := Lib.hid (below_step G0.out hb); clear hb K0 G0)
    | (go_at_call 8; (with_reducible refine (wakes11 _ K1.out (by simp) (by simp) (by simp)).mono ?_); rintro e w2 ⟨rfl, hb⟩; have K2 := Lib.hid (K1.out.on hb); have G2 := Lib.hid (below_step G1.out hb); clear hb K1 G1))
  go_ret
  exact ⟨rfl, G2.out⟩
set_option maxRecDepth 100000 in
set_option maxHeartbeats 4000000 in
theorem pp_r (M : Int) (A : Option Addr) (n c : Nat) (xs : List Fd) (LA : Option Addr) (ln lc : Nat) (ls : List Fd) (a : Int) (w : World) (hV : EnvF w [fF LA ln ls, fF A n xs, stF, rwF, mvF] []) (HG : Hid (∀ w0 : World, Fs w0 w0.heap.size A n xs → Fs w0 w0.heap.size LA ln ls → Calls Tryd.prog 6 #[.agg #[.int .i64 M, .slice A n c], .slice LA ln lc] w0 fun e w' => e = .returned (.bool false) ∧ Below w0.heap.size w0 w')) (HRT : Hid (∀ w0 : World, Fs w0 w0.heap.size A n xs → Calls Tryd.prog 7 #[.agg #[.int .i64 M, .slice A n c]] w0 fun e w' => e = .returned (.bool false) ∧ Below w0.heap.size w0 w')) :
    Calls Tryd.prog 4 #[.agg #[.int .i64 M, .slice A n c], .slice LA ln lc, .int .i64 a] w fun e w' => e = .returned (.bool true) ∧ Below w.heap.size w w' := by
  have K0 := Lib.hid ((hV).boxg 24 #[.int .i64 M, .slice A n c] w.heap.size (by simp))
  have G0 := Lib.hid ((Below.refl w.heap.size w).alloc (by simp) (.cells #[.int .i64 M, .slice A n c] 24))
  clear hV
  go_enter Tryd.func4, Tryd.ntmps4
  go_wp2_with (first
    | go_skip
    | (refine at_load 24 (.tmp 3) (by rfl) ?_; refine wpListG_row (by rfl) 24 (.tmp 3) (by rfl) w.heap.size (by rfl) 24 #[.int .i64 M, .slice A n c] _ (K0.out.row 0 rfl) Tryd.underlying24 (by rfl) infoc_T ?_)
    | (go_at_call 6; (with_reducible refine (HG.out _ (K0.out.fs (A := A) (n := n) (xs := xs) (by simp)) (K0.out.fs (A := LA) (n := ln) (xs := ls) (by simp))).mono ?_); rintro e w1 ⟨rfl, hb⟩; have K1 := Lib.hid (K0.out.on hb); have G1 := Lib.hid (below_step G0.out hb); clear hb K0 G0)
    | (refine at_load 24 (.tmp 3) (by rfl) ?_; refine wpListG_row (by rfl) 24 (.tmp 3) (by rfl) w.heap.size (by rfl) 24 #[.int .i64 M, .slice A n c] _ (K1.out.row 0 rfl) Tryd.underlying24 (by rfl) infoc_T ?_)
    | (go_at_call 7; (with_reducible refine (HRT.out _ (K1.out.fs (A := A) (n := n) (xs := xs) (by simp))).mono ?_); rintro e w2 ⟨rfl, hb⟩; have K2 := Lib.hid (K1.out.on hb); have G2 := Lib.hid (below_step G1.out hb); clear hb K1 G1)
    | (go_at_call 8; (with_reducible refine (wakes11 _ K2.out (by simp) (by simp) (by simp)).mono ?_); rintro e w3 ⟨rfl, hb⟩; have K3 := Lib.hid (K2.out.on hb); have G3 := Lib.hid (below_step G2.out hb); clear hb K2 G2))
  go_ret
  exact ⟨rfl, G3.out⟩
set_option maxRecDepth 100000 in
set_option maxHeartbeats 4000000 in
theorem pp_a (M : Int) (A : Option Addr) (n c : Nat) (xs : List Fd) (LA : Option Addr) (ln lc : Nat) (ls : List Fd) (a : Int) (w : World) (hV : EnvF w [fF LA ln ls, fF A n xs, stF, rwF, mvF] []) (HG : Hid (∀ w0 : World, Fs w0 w0.heap.size A n xs → Fs w0 w0.heap.size LA ln ls → Calls Tryd.prog 6 #[.agg #[.int .i64 M, .slice A n c], .slice LA ln lc] w0 fun e w' => e = .returned (.bool false) ∧ Below w0.heap.size w0 w')) (HRT : Hid (∀ w0 : World, Fs w0 w0.heap.size A n xs → Calls Tryd.prog 7 #[.agg #[.int .i64 M, .slice A n c]] w0 fun e w' => e = .returned (.bool true) ∧ Below w0.heap.size w0 w')) {k1 q1 : Nat} {L1 : List UInt8} {Y1 : List Fd} (HN : Hid (A = none → c = 0)) (hr : Hid (rightB M xs = true)) (hz : Hid (full ls ≤ 7000)) (hB1 : Hid (kB M xs ls = L1)) (hY1 : Hid (kX M xs ls = Y1)) (hk1 : Hid (L1.length = k1)) (hq1 : Hid (Y1.length = q1)) {m : Nat} (e1 : (if a < 0 then (0 : Int) else a) = (m : Int)) (e2 : (m : Int) ≤ (ln : Int)) {ka qa kb qb : Nat} {La Lb : List UInt8} {Ya Yb : List Fd} (hlc : Hid (ln ≤ lc)) (hra : Hid (rightB M Ya = true)) (hzt : Hid (full (ls.take m) ≤ 7000)) (hzd : Hid (full (ls.drop m) ≤ 7000)) (hBa : Hid (kB M xs (ls.take m) = La)) (hYa : Hid (kX M xs (ls.take m) = Ya)) (hka : Hid (La.length = ka)) (hqa : Hid (Ya.length = qa)) (hBb : Hid (kB M Ya (ls.drop m) = Lb)) (hYb : Hid (kX M Ya (ls.drop m) = Yb)) (hkb : Hid (Lb.length = kb)) (hqb : Hid (Yb.length = qb)) (hkab : Hid ((La ++ Lb).length = k1)) (hbe : Hid (((La ++ Lb) == L1) = true)) (hte : Hid (sameB M Yb M Y1 = true)) (hbd : Hid (ka + kb ≤ 100000 ∧ qb ≤ 1000)) :
    Calls Tryd.prog 4 #[.agg #[.int .i64 M, .slice A n c], .slice LA ln lc, .int .i64 a] w fun e w' => e = .returned (.bool true) ∧ Below w.heap.size w w' := by
  have K0 := Lib.hid ((hV).boxg 24 #[.int .i64 M, .slice A n c] w.heap.size (by simp))
  have G0 := Lib.hid ((Below.refl w.heap.size w).alloc (by simp) (.cells #[.int .i64 M, .slice A n c] 24))
  obtain ⟨i0, hi, hz0, hz1, hz2⟩ := info_parts info_tu8
  have hinf := Lib.hid (And.intro hi (And.intro hz0 (And.intro hz1 hz2)))
  clear hi hz0 hz1 hz2
  clear hV
  go_enter Tryd.func4, Tryd.ntmps4
  go_wp2_with (first
    | go_skip
    | (refine at_load 24 (.tmp 3) (by rfl) ?_; refine wpListG_row (by rfl) 24 (.tmp 3) (by rfl) w.heap.size (by rfl) 24 #[.int .i64 M, .slice A n c] _ (K0.out.row 0 rfl) Tryd.underlying24 (by rfl) infoc_T ?_)
    | (go_at_call 6; (with_reducible refine (HG.out _ (K0.out.fs (A := A) (n := n) (xs := xs) (by simp)) (K0.out.fs (A := LA) (n := ln) (xs := ls) (by simp))).mono ?_); rintro e w1 ⟨rfl, hb⟩; have K1 := Lib.hid (K0.out.on hb); have G1 := Lib.hid (below_step G0.out hb); clear hb K0 G0)
    | (refine at_load 24 (.tmp 3) (by rfl) ?_; refine wpListG_row (by rfl) 24 (.tmp 3) (by rfl) w.heap.size (by rfl) 24 #[.int .i64 M, .slice A n c] _ (K1.out.row 0 rfl) Tryd.underlying24 (by rfl) infoc_T ?_)
    | (go_at_call 7; (with_reducible refine (HRT.out _ (K1.out.fs (A := A) (n := n) (xs := xs) (by simp))).mono ?_); rintro e w2 ⟨rfl, hb⟩; have K2 := Lib.hid (K1.out.on hb); have G2 := Lib.hid (below_step G1.out hb); clear hb K1 G1)
    | (refine at_load 24 (.tmp 3) (by rfl) ?_; refine wpListG_row (by rfl) 24 (.tmp 3) (by rfl) w.heap.size (by rfl) 24 #[.int .i64 M, .slice A n c] _ (K2.out.row 0 rfl) Tryd.underlying24 (by rfl) infoc_T ?_)
    | (go_at_call 9; (with_reducible refine (p_Block (A := A) (n := n) (c := c) (xs := xs) (ls := ls) LA ln lc _ K2.out (by simp) HN.out (by simp) (by simp) (by simp) (by simp) hr.out hz.out hB1.out hY1.out hk1.out hq1.out).mono ?_); rintro e w3 ⟨A1, c1, A2, c2, rfl, hb, hE, HA10⟩; have K3 := Lib.hid hE; have HA1 := Lib.hid HA10; have G3 := Lib.hid (below_step G2.out hb); clear hb hE HA10 K2 G2; have K3b := Lib.hid (K3.out.boxg 24 #[.int .i64 0, .slice none 0 0] w3.heap.size rfl); have hz3 : w.heap.size ≤ w3.heap.size := G3.out.size; have G3b := Lib.hid (G3.out.alloc hz3 (.cells #[.int .i64 0, .slice none 0 0] 24)); clear K3 G3)
    | (refine at_store 24 (.tmp 8) (.tmp 35) (by rfl) ?_; refine wpList_put (by rfl) 24 (.tmp 8) (.tmp 35) (by rfl) w3.heap.size 0 (.agg #[.int .i64 M, .slice A2 q1 c2]) (by rfl) (by rfl) 24 #[.int .i64 0, .slice none 0 0] #[.int .i64 M, .slice A2 q1 c2] (K3b.out.row 0 rfl) (by simp [Value.cells]) (by kernel_rfl) infoc_T (by kernel_rfl) ?_; intro w4 hrow hoth hz hbl; have K4 := Lib.hid (K3b.out.turn 0 rfl hrow hoth hz); have G4 := Lib.hid (hbl _ _ (by omega) G3b.out); clear hrow hoth hz hbl K3b G3b))
  have hkl : m ≤ ln := by omega
  have KT := Pk.env_take (k := m) K4.out (LA := LA) (ln := ln) (ls := ls) (by simp) hkl
  refine pp5_region (A := A) (n := n) (c := c) (xs := xs) (k := m) (l3 := ls.take m) (by simp) (by simp) (by simp) (by simp) HN.out (List.mem_of_getElem? (i := 1) rfl) (by omega) (by have := hlc.out; omega) (by have := hlc.out; omega) (by omega) (by omega) (by simp) hr.out hzt.out hBa.out hYa.out hka.out hqa.out (fun gX A5 A6 c5 c6 w20 K20' h5 h6 hb => ?_) KT
  have K20 := Lib.hid K20'
  have G20 := Lib.hid (below_step G4.out.drew hb)
  have H5 := Lib.hid h5
  have H6 := Lib.hid h6
  clear K20' hb h5 h6 KT K4 G4
  go_wp2
  obtain ⟨A3, hA3⟩ : ∃ A3, (if lc = m then LA else LA.map fun x => x.add (m * 2)) = A3 := ⟨_, rfl⟩
  have KD := Pk.env_drop (k := m) K20.out (LA := LA) (ln := ln) (ls := ls) (by simp) hkl hlc.out hA3
  refine pp6_region (A := A6) (n := qa) (c := c6) (xs := Ya) (k := m) (l3 := ls.drop m) (by simp) (by simp) (by simp) (by simp) H6.out (List.mem_of_getElem? (i := 0) rfl) (by omega) (by have := hlc.out; omega) (by have := hlc.out; omega) (by omega) (by omega) hA3 (by simp) hra.out hzd.out hBb.out hYb.out hkb.out hqb.out (fun gY A7 A8 c7 c8 w30 K30' h7 h8 hb => ?_) KD
  have K30 := Lib.hid K30'
  have G30 := Lib.hid (below_step G20.out.drew hb)
  have H7 := Lib.hid h7
  clear K30' hb h7 h8 KD K20 G20 hA3
  go_wp2_with (first
    | go_skip
    | (at_builtin; refine wpListG_append _ (by rfl) (.tmp 66) (.tmp 67) 28 rfl w30.heap.size 5 i0 Tryd.underlying28 hinf.out.1 hinf.out.2.1 hinf.out.2.2.1 hinf.out.2.2.2 _ [] rfl (OwnB.lit w30 5 _ (Nat.le_refl _)) _ A5 ka c5 La rfl ((K30.out.on ((Below.refl (w30.heap.size) w30).alloc (Nat.le_refl _) (.cells #[] 5))).bs (A := A5) (n := ka) (xs := La) (by simp)) H5.out (by have := hbd.out; simp; omega) (by simp) ?_; intro v4 w31 ho hb; have HO := Lib.hid ho; have KA := Lib.hid (K30.out.on (((Below.refl (w30.heap.size) w30).alloc (Nat.le_refl _) (.cells #[] 5)).trans hb)); have BA := Lib.hid (((Below.refl (w30.heap.size) w30).alloc (Nat.le_refl _) (.cells #[] 5)).trans hb); clear ho hb)
    | (at_builtin; refine wpListG_append _ (by rfl) (.tmp 68) (.tmp 69) 28 rfl w30.heap.size 5 i0 Tryd.underlying28 hinf.out.1 hinf.out.2.1 hinf.out.2.2.1 hinf.out.2.2.2 _ ([] ++ La) rfl HO.out _ A7 kb c7 Lb rfl (KA.out.bs (A := A7) (n := kb) (xs := Lb) (by simp)) H7.out (by have := hbd.out; have := hka.out; simp; omega) BA.out.size ?_; intro v5 w32 ho hb; rw [List.nil_append] at ho; obtain ⟨A9, c9, rfl, hh⟩ := ho.handS (n := k1) hkab.out; have K32 := Lib.hid (K30.out.handS (BA.out.trans hb) hh); have G32 := Lib.hid (below_step G30.out (BA.out.trans hb)); clear ho hb hh KA BA HO K30 G30)
    | (go_at_call 14; (with_reducible refine (p_bsame (A := A9) (A' := A1) (n := k1) (n' := k1) (xs := La ++ Lb) (ys := L1) (b := true) _ K32.out (by simp) (by simp) hbe.out).mono ?_); rintro e w33 ⟨rfl, hb⟩; have K33 := Lib.hid (K32.out.on hb); have G33 := Lib.hid (below_step G32.out hb); clear hb K32 G32)
    | (refine at_load 24 (.tmp 14) (by rfl) ?_; refine wpListG_row (by rfl) 24 (.tmp 14) (by rfl) gY (by rfl) 24 #[.int .i64 M, .slice A8 qb c8] _ (K33.out.row 0 rfl) Tryd.underlying24 (by rfl) infoc_T ?_)
    | (refine at_load 24 (.tmp 8) (by rfl) ?_; refine wpListG_row (by rfl) 24 (.tmp 8) (by rfl) w3.heap.size (by rfl) 24 #[.int .i64 M, .slice A2 q1 c2] _ (K33.out.row 2 rfl) Tryd.underlying24 (by rfl) infoc_T ?_)
    | (go_at_call 15; (with_reducible refine (p_tsame (A := A8) (A' := A2) (n := qb) (n' := q1) (xs := Yb) (ys := Y1) (b := true) _ K33.out (by simp) (by simp) (by have := hbd.out; omega) hte.out).mono ?_); rintro e w34 ⟨rfl, hb⟩; have K34 := Lib.hid (K33.out.on hb); have G34 := Lib.hid (below_step G33.out hb); clear hb K33 G33)
    | (go_at_call 8; (with_reducible refine (wakes11 _ K34.out (by simp) (by simp) (by simp)).mono ?_); rintro e w35 ⟨rfl, hb⟩; have K35 := Lib.hid (K34.out.on hb); have G35 := Lib.hid (below_step G34.out hb); clear hb K34 G34))
  go_ret
  exact ⟨rfl, G35.out⟩
set_option maxRecDepth 100000 in
set_option maxHeartbeats 4000000 in
theorem pp_b (M : Int) (A : Option Addr) (n c : Nat) (xs : List Fd) (LA : Option Addr) (ln lc : Nat) (ls : List Fd) (a : Int) (w : World) (hV : EnvF w [fF LA ln ls, fF A n xs, stF, rwF, mvF] []) (HG : Hid (∀ w0 : World, Fs w0 w0.heap.size A n xs → Fs w0 w0.heap.size LA ln ls → Calls Tryd.prog 6 #[.agg #[.int .i64 M, .slice A n c], .slice LA ln lc] w0 fun e w' => e = .returned (.bool false) ∧ Below w0.heap.size w0 w')) (HRT : Hid (∀ w0 : World, Fs w0 w0.heap.size A n xs → Calls Tryd.prog 7 #[.agg #[.int .i64 M, .slice A n c]] w0 fun e w' => e = .returned (.bool true) ∧ Below w0.heap.size w0 w')) {k1 q1 : Nat} {L1 : List UInt8} {Y1 : List Fd} (HN : Hid (A = none → c = 0)) (hr : Hid (rightB M xs = true)) (hz : Hid (full ls ≤ 7000)) (hB1 : Hid (kB M xs ls = L1)) (hY1 : Hid (kX M xs ls = Y1)) (hk1 : Hid (L1.length = k1)) (hq1 : Hid (Y1.length = q1)) {m : Nat} (e1 : (if a < 0 then (0 : Int) else a) = (m : Int)) (e2 : ¬ (m : Int) ≤ (ln : Int)) {ka qa kb qb : Nat} {La Lb : List UInt8} {Ya Yb : List Fd} (hlc : Hid (ln ≤ lc)) (hra : Hid (rightB M Ya = true)) (hzt : Hid (full (ls.take ln) ≤ 7000)) (hzd : Hid (full (ls.drop ln) ≤ 7000)) (hBa : Hid (kB M xs (ls.take ln) = La)) (hYa : Hid (kX M xs (ls.take ln) = Ya)) (hka : Hid (La.length = ka)) (hqa : Hid (Ya.length = qa)) (hBb : Hid (kB M Ya (ls.drop ln) = Lb)) (hYb : Hid (kX M Ya (ls.drop ln) = Yb)) (hkb : Hid (Lb.length = kb)) (hqb : Hid (Yb.length = qb)) (hkab : Hid ((La ++ Lb).length = k1)) (hbe : Hid (((La ++ Lb) == L1) = true)) (hte : Hid (sameB M Yb M Y1 = true)) (hbd : Hid (ka + kb ≤ 100000 ∧ qb ≤ 1000)) :
    Calls Tryd.prog 4 #[.agg #[.int .i64 M, .slice A n c], .slice LA ln lc, .int .i64 a] w fun e w' => e = .returned (.bool true) ∧ Below w.heap.size w w' := by
  have K0 := Lib.hid ((hV).boxg 24 #[.int .i64 M, .slice A n c] w.heap.size (by simp))
  have G0 := Lib.hid ((Below.refl w.heap.size w).alloc (by simp) (.cells #[.int .i64 M, .slice A n c] 24))
  obtain ⟨i0, hi, hz0, hz1, hz2⟩ := info_parts info_tu8
  have hinf := Lib.hid (And.intro hi (And.intro hz0 (And.intro hz1 hz2)))
  clear hi hz0 hz1 hz2
  clear hV
  go_enter Tryd.func4, Tryd.ntmps4
  go_wp2_with (first
    | go_skip
    | (refine at_load 24 (.tmp 3) (by rfl) ?_; refine wpListG_row (by rfl) 24 (.tmp 3) (by rfl) w.heap.size (by rfl) 24 #[.int .i64 M, .slice A n c] _ (K0.out.row 0 rfl) Tryd.underlying24 (by rfl) infoc_T ?_)
    | (go_at_call 6; (with_reducible refine (HG.out _ (K0.out.fs (A := A) (n := n) (xs := xs) (by simp)) (K0.out.fs (A := LA) (n := ln) (xs := ls) (by simp))).mono ?_); rintro e w1 ⟨rfl, hb⟩; have K1 := Lib.hid (K0.out.on hb); have G1 := Lib.hid (below_step G0.out hb); clear hb K0 G0)
    | (refine at_load 24 (.tmp 3) (by rfl) ?_; refine wpListG_row (by rfl) 24 (.tmp 3) (by rfl) w.heap.size (by rfl) 24 #[.int .i64 M, .slice A n c] _ (K1.out.row 0 rfl) Tryd.underlying24 (by rfl) infoc_T ?_)
    | (go_at_call 7; (with_reducible refine (HRT.out _ (K1.out.fs (A := A) (n := n) (xs := xs) (by simp))).mono ?_); rintro e w2 ⟨rfl, hb⟩; have K2 := Lib.hid (K1.out.on hb); have G2 := Lib.hid (below_step G1.out hb); clear hb K1 G1)
    | (refine at_load 24 (.tmp 3) (by rfl) ?_; refine wpListG_row (by rfl) 24 (.tmp 3) (by rfl) w.heap.size (by rfl) 24 #[.int .i64 M, .slice A n c] _ (K2.out.row 0 rfl) Tryd.underlying24 (by rfl) infoc_T ?_)
    | (go_at_call 9; (with_reducible refine (p_Block (A := A) (n := n) (c := c) (xs := xs) (ls := ls) LA ln lc _ K2.out (by simp) HN.out (by simp) (by simp) (by simp) (by simp) hr.out hz.out hB1.out hY1.out hk1.out hq1.out).mono ?_); rintro e w3 ⟨A1, c1, A2, c2, rfl, hb, hE, HA10⟩; have K3 := Lib.hid hE; have HA1 := Lib.hid HA10; have G3 := Lib.hid (below_step G2.out hb); clear hb hE HA10 K2 G2; have K3b := Lib.hid (K3.out.boxg 24 #[.int .i64 0, .slice none 0 0] w3.heap.size rfl); have hz3 : w.heap.size ≤ w3.heap.size := G3.out.size; have G3b := Lib.hid (G3.out.alloc hz3 (.cells #[.int .i64 0, .slice none 0 0] 24)); clear K3 G3)
    | (refine at_store 24 (.tmp 8) (.tmp 35) (by rfl) ?_; refine wpList_put (by rfl) 24 (.tmp 8) (.tmp 35) (by rfl) w3.heap.size 0 (.agg #[.int .i64 M, .slice A2 q1 c2]) (by rfl) (by rfl) 24 #[.int .i64 0, .slice none 0 0] #[.int .i64 M, .slice A2 q1 c2] (K3b.out.row 0 rfl) (by simp [Value.cells]) (by kernel_rfl) infoc_T (by kernel_rfl) ?_; intro w4 hrow hoth hz hbl; have K4 := Lib.hid (K3b.out.turn 0 rfl hrow hoth hz); have G4 := Lib.hid (hbl _ _ (by omega) G3b.out); clear hrow hoth hz hbl K3b G3b))
  have hkl : ln ≤ ln := by omega
  have KT := Pk.env_take (k := ln) K4.out (LA := LA) (ln := ln) (ls := ls) (by simp) hkl
  refine pp5_region (A := A) (n := n) (c := c) (xs := xs) (k := ln) (l3 := ls.take ln) (by simp) (by simp) (by simp) (by simp) HN.out (List.mem_of_getElem? (i := 1) rfl) (by omega) (by have := hlc.out; omega) hlc.out (by omega) (Nat.le_refl _) (by simp) hr.out hzt.out hBa.out hYa.out hka.out hqa.out (fun gX A5 A6 c5 c6 w20 K20' h5 h6 hb => ?_) KT
  have K20 := Lib.hid K20'
  have G20 := Lib.hid (below_step G4.out.drew hb)
  have H5 := Lib.hid h5
  have H6 := Lib.hid h6
  clear K20' hb h5 h6 KT K4 G4
  go_wp2
  obtain ⟨A3, hA3⟩ : ∃ A3, (if lc = ln then LA else LA.map fun x => x.add (ln * 2)) = A3 := ⟨_, rfl⟩
  have KD := Pk.env_drop (k := ln) K20.out (LA := LA) (ln := ln) (ls := ls) (by simp) hkl hlc.out hA3
  refine pp6_region (A := A6) (n := qa) (c := c6) (xs := Ya) (k := ln) (l3 := ls.drop ln) (by simp) (by simp) (by simp) (by simp) H6.out (List.mem_of_getElem? (i := 0) rfl) (by omega) (by have := hlc.out; omega) hlc.out (by omega) (Nat.le_refl _) hA3 (by simp) hra.out hzd.out hBb.out hYb.out hkb.out hqb.out (fun gY A7 A8 c7 c8 w30 K30' h7 h8 hb => ?_) KD
  have K30 := Lib.hid K30'
  have G30 := Lib.hid (below_step G20.out.drew hb)
  have H7 := Lib.hid h7
  clear K30' hb h7 h8 KD K20 G20 hA3
  go_wp2_with (first
    | go_skip
    | (at_builtin; refine wpListG_append _ (by rfl) (.tmp 66) (.tmp 67) 28 rfl w30.heap.size 5 i0 Tryd.underlying28 hinf.out.1 hinf.out.2.1 hinf.out.2.2.1 hinf.out.2.2.2 _ [] rfl (OwnB.lit w30 5 _ (Nat.le_refl _)) _ A5 ka c5 La rfl ((K30.out.on ((Below.refl (w30.heap.size) w30).alloc (Nat.le_refl _) (.cells #[] 5))).bs (A := A5) (n := ka) (xs := La) (by simp)) H5.out (by have := hbd.out; simp; omega) (by simp) ?_; intro v4 w31 ho hb; have HO := Lib.hid ho; have KA := Lib.hid (K30.out.on (((Below.refl (w30.heap.size) w30).alloc (Nat.le_refl _) (.cells #[] 5)).trans hb)); have BA := Lib.hid (((Below.refl (w30.heap.size) w30).alloc (Nat.le_refl _) (.cells #[] 5)).trans hb); clear ho hb)
    | (at_builtin; refine wpListG_append _ (by rfl) (.tmp 68) (.tmp 69) 28 rfl w30.heap.size 5 i0 Tryd.underlying28 hinf.out.1 hinf.out.2.1 hinf.out.2.2.1 hinf.out.2.2.2 _ ([] ++ La) rfl HO.out _ A7 kb c7 Lb rfl (KA.out.bs (A := A7) (n := kb) (xs := Lb) (by simp)) H7.out (by have := hbd.out; have := hka.out; simp; omega) BA.out.size ?_; intro v5 w32 ho hb; rw [List.nil_append] at ho; obtain ⟨A9, c9, rfl, hh⟩ := ho.handS (n := k1) hkab.out; have K32 := Lib.hid (K30.out.handS (BA.out.trans hb) hh); have G32 := Lib.hid (below_step G30.out (BA.out.trans hb)); clear ho hb hh KA BA HO K30 G30)
    | (go_at_call 14; (with_reducible refine (p_bsame (A := A9) (A' := A1) (n := k1) (n' := k1) (xs := La ++ Lb) (ys := L1) (b := true) _ K32.out (by simp) (by simp) hbe.out).mono ?_); rintro e w33 ⟨rfl, hb⟩; have K33 := Lib.hid (K32.out.on hb); have G33 := Lib.hid (below_step G32.out hb); clear hb K32 G32)
    | (refine at_load 24 (.tmp 14) (by rfl) ?_; refine wpListG_row (by rfl) 24 (.tmp 14) (by rfl) gY (by rfl) 24 #[.int .i64 M, .slice A8 qb c8] _ (K33.out.row 0 rfl) Tryd.underlying24 (by rfl) infoc_T ?_)
    | (refine at_load 24 (.tmp 8) (by rfl) ?_; refine wpListG_row (by rfl) 24 (.tmp 8) (by rfl) w3.heap.size (by rfl) 24 #[.int .i64 M, .slice A2 q1 c2] _ (K33.out.row 2 rfl) Tryd.underlying24 (by rfl) infoc_T ?_)
    | (go_at_call 15; (with_reducible refine (p_tsame (A := A8) (A' := A2) (n := qb) (n' := q1) (xs := Yb) (ys := Y1) (b := true) _ K33.out (by simp) (by simp) (by have := hbd.out; omega) hte.out).mono ?_); rintro e w34 ⟨rfl, hb⟩; have K34 := Lib.hid (K33.out.on hb); have G34 := Lib.hid (below_step G33.out hb); clear hb K33 G33)
    | (go_at_call 8; (with_reducible refine (wakes11 _ K34.out (by simp) (by simp) (by simp)).mono ?_); rintro e w35 ⟨rfl, hb⟩; have K35 := Lib.hid (K34.out.on hb); have G35 := Lib.hid (below_step G34.out hb); clear hb K34 G34))
  go_ret
  exact ⟨rfl, G35.out⟩
theorem pp_all (M : Int) (A : Option Addr) (n c : Nat) (LA : Option Addr) (ln lc : Nat) (a : Int) (w : World) (hR : Up.Vars w) (hI : IsFlds w A n c) (hJ : IsFlds w LA ln lc) :
    Calls Tryd.prog 4 #[.agg #[.int .i64 M, .slice A n c], .slice LA ln lc, .int .i64 a] w fun e w' => e = .returned (.bool true) ∧ Below w.heap.size w w' := by
  obtain ⟨xs, hA, hS, hnc, hcm, hN⟩ := rowFlds hI
  obtain ⟨ls, hL, hT, hnl, hlm, hLN⟩ := rowFlds hJ
  have hV : EnvF w [fF LA ln ls, fF A n xs, stF, rwF, mvF] [] := (Pk.start11 hR hA).addF hL
  have HG := great_call (M := M) hA hnc hcm hS hL hnl hlm hT
  cases hg : gB xs ls with
  | true => rw [hg] at HG; exact pp_g M A n c xs LA ln lc ls a w hV HG
  | false =>
    rw [hg] at HG
    obtain ⟨g1, g2, g3, g4⟩ := g_bd hg
    have e1 := hA.1
    have e2 := hL.1
    cases hr : rightB M xs with
    | false => exact pp_r M A n c xs LA ln lc ls a w hV HG (right_call (by omega) hr)
    | true =>
      have HRT := right_call (A := A) (n := n) (c := c) (by omega) hr
      have key : ∀ k : Nat, k ≤ ln → rightB M (kX M xs (ls.take k)) = true ∧ full (ls.take k) ≤ 7000 ∧ full (ls.drop k) ≤ 7000 ∧ (kB M xs (ls.take k) ++ kB M (kX M xs (ls.take k)) (ls.drop k)) = kB M xs ls ∧ kX M (kX M xs (ls.take k)) (ls.drop k) = kX M xs ls ∧ (kB M xs (ls.take k)).length + (kB M (kX M xs (ls.take k)) (ls.drop k)).length ≤ 100000 ∧ (kX M (kX M xs (ls.take k)) (ls.drop k)).length ≤ 1000 := fun k hk => by
        have h1 := full_append (ls.take k) (ls.drop k)
        rw [List.take_append_drop] at h1
        have h2 := kB_app M (ls.take k) (ls.drop k) xs
        have h3 := kX_app M (ls.take k) (ls.drop k) xs
        rw [List.take_append_drop] at h2 h3
        have h4 := kB_len M ls xs (by omega)
        have h5 := okB_of (kX_right hr ls)
        have h6 := full_len (kX M xs ls)
        refine ⟨kX_right hr _, by omega, by omega, h2.symm, h3.symm, ?_, ?_⟩
        · rw [h2, List.length_append] at h4; omega
        · rw [← h3]; omega
      obtain ⟨m, hm⟩ : ∃ m : Nat, (if a < 0 then (0 : Int) else a) = (m : Int) := by
        split
        · exact ⟨0, rfl⟩
        · exact ⟨a.toNat, by omega⟩
      by_cases h : (m : Int) ≤ (ln : Int)
      · obtain ⟨q1, q2, q3, q4, q5, q6, q7⟩ := key m (by omega)
        exact pp_a M A n c xs LA ln lc ls a w hV HG HRT (Lib.hid hN) (Lib.hid hr) (Lib.hid g3) (Lib.hid rfl) (Lib.hid rfl) (Lib.hid rfl) (Lib.hid rfl) hm h (Lib.hid hnl) (Lib.hid q1) (Lib.hid q2) (Lib.hid q3) (Lib.hid rfl) (Lib.hid rfl) (Lib.hid rfl) (Lib.hid rfl) (Lib.hid rfl) (Lib.hid rfl) (Lib.hid rfl) (Lib.hid rfl) (Lib.hid (by rw [q4])) (Lib.hid (by rw [q4]; simp)) (Lib.hid (by rw [q5]; unfold sameB; simp)) (Lib.hid ⟨q6, q7⟩)
      · obtain ⟨q1, q2, q3, q4, q5, q6, q7⟩ := key ln (Nat.le_refl _)
        exact pp_b M A n c xs LA ln lc ls a w hV HG HRT (Lib.hid hN) (Lib.hid hr) (Lib.hid g3) (Lib.hid rfl) (Lib.hid rfl) (Lib.hid rfl) (Lib.hid rfl) hm h (Lib.hid hnl) (Lib.hid q1) (Lib.hid q2) (Lib.hid q3) (Lib.hid rfl) (Lib.hid rfl) (Lib.hid rfl) (Lib.hid rfl) (Lib.hid rfl) (Lib.hid rfl) (Lib.hid rfl) (Lib.hid rfl) (Lib.hid (by rw [q4])) (Lib.hid (by rw [q4]; simp)) (Lib.hid (by rw [q5]; unfold sameB; simp)) (Lib.hid ⟨q6, q7⟩)
end Go.Proofs.YtacnbpodcjefiaaDoor
