/- PackOwn: the law. -/
import Derived.Test.YtacnbpodcjefiaaDoorPkZ
namespace Go.Proofs.YtacnbpodcjefiaaDoor
open Go.RowKit Go.Shelf Px Tx Tb Up Pk
set_option linter.unusedVariables false
set_option linter.unusedSimpArgs false
attribute [local go_sem] Oper.semAt_some
set_option maxRecDepth 100000 in
set_option maxHeartbeats 4000000 in
theorem po_g (M : Int) (A : Option Addr) (n c : Nat) (xs : List Fd) (LA : Option Addr) (ln lc : Nat) (ls : List Fd) (w : World) (hV : EnvF w [fF LA ln ls, fF A n xs, stF, rwF, mvF] []) (HG : Hid (∀ w0 : World, Fs w0 w0.heap.size A n xs → Fs w0 w0.heap.size LA ln ls → Calls Tryd.prog 6 #[.agg #[.int .i64 M, .slice A n c], .slice LA ln lc] w0 fun e w' => e = .returned (.bool true) ∧ Below w0.heap.size w0 w')) :
    Calls Tryd.prog 5 #[.agg #[.int .i64 M, .slice A n c], .slice LA ln lc] w fun e w' => e = .returned (.bool true) ∧ Below w.heap.size w w' := by
  have K0 := Lib.hid ((hV).boxg 24 #[.int .i64 M, .slice A n c] w.heap.size (by simp))
  have G0 := Lib.hid ((Below.refl w.heap.size w).alloc (by simp) (.cells #[.int .i64 M, .slice A n c] 24))
  clear hV
  go_enter Tryd.func5, Tryd.ntmps5
  go_wp2_with (first
    | go_skip
    | (refine at_load 24 (.tmp 2) (by rfl) ?_; refine wpListG_row (by rfl) 24 (.tmp 2) (by rfl) w.heap.size (by rfl) 24 #[.int .i64 M, .slice A n c] _ (K0.out.row 0 rfl) Tryd.underlying24 (by rfl) infoc_T ?_)
    | (go_at_call 6; (with_reducible refine (HG.out _ (K0.out.fs (A := A) (n := n) (xs := xs) (by simp)) (K0.out.fs (A := LA) (n := ln) (xs := ls) (by simp))).mono ?_); rintro e w1 ⟨rfl, hb⟩; have K1 := Lib.hid (K0.out.on hb); have G1 := Lib.hid (below_step G0.out hb); clear hb K0 G0)
    | (go_at_call 8; (with_reducible refine (wakes11 _ K1.out (by simp) (by simp) (by simp)).mono ?_); rintro e w2 ⟨rfl, hb⟩; have K2 := Lib.hid (K1.out.on hb); have G2 := Lib.hid (below_step G1.out hb); clear hb K1 G1))
  go_ret
  exact ⟨rfl, G2.out⟩
set_option maxRecDepth 100000 in
set_option maxHeartbeats 4000000 in
theorem po_0 (M : Int) (A : Option Addr) (n c : Nat) (xs : List Fd) (LA : Option Addr) (ln lc : Nat) (ls : List Fd) (w : World) (hV : EnvF w [fF LA ln ls, fF A n xs, stF, rwF, mvF] []) (HG : Hid (∀ w0 : World, Fs w0 w0.heap.size A n xs → Fs w0 w0.heap.size LA ln ls → Calls Tryd.prog 6 #[.agg #[.int .i64 M, .slice A n c], .slice LA ln lc] w0 fun e w' => e = .returned (.bool false) ∧ Below w0.heap.size w0 w')) {k : Nat} {L : List UInt8} {Y : List Fd} {N E : Int} (HN : Hid (A = none → c = 0)) (HLN : Hid (LA = none → lc = 0)) (Hn : Hid (n ≤ 1000)) (Hl : Hid (ln ≤ 1000)) (Hxn : Hid (xs.length = n)) (Hln : Hid (ls.length = ln)) (HF : Hid (full xs ≤ 100000)) (Hz : Hid (full ls ≤ 7000)) (hB : Hid (bkB M xs ls = L)) (hY : Hid (bkX M xs ls = Y)) (hM : Hid (bkM M xs = N)) (hE : Hid (bkE M xs = E)) (hk : Hid (L.length = k)) (hq : Hid (Y.length = 0)) :
    Calls Tryd.prog 5 #[.agg #[.int .i64 M, .slice A n c], .slice LA ln lc] w fun e w' => e = .returned (.bool true) ∧ Below w.heap.size w w' := by
  have K0 := Lib.hid ((hV).boxg 24 #[.int .i64 M, .slice A n c] w.heap.size (by simp))
  have G0 := Lib.hid ((Below.refl w.heap.size w).alloc (by simp) (.cells #[.int .i64 M, .slice A n c] 24))
  obtain ⟨i0, hi, hz0, hz1, hz2⟩ := info_parts info_fld
  have hinf := Lib.hid (And.intro hi (And.intro hz0 (And.intro hz1 hz2)))
  clear hi hz0 hz1 hz2
  clear hV
  go_enter Tryd.func5, Tryd.ntmps5
  go_wp2_with (first
    | go_skip
    | (refine at_load 24 (.tmp 2) (by rfl) ?_; refine wpListG_row (by rfl) 24 (.tmp 2) (by rfl) w.heap.size (by rfl) 24 #[.int .i64 M, .slice A n c] _ (K0.out.row 0 rfl) Tryd.underlying24 (by rfl) infoc_T ?_)
    | (go_at_call 6; (with_reducible refine (HG.out _ (K0.out.fs (A := A) (n := n) (xs := xs) (by simp)) (K0.out.fs (A := LA) (n := ln) (xs := ls) (by simp))).mono ?_); rintro e w1 ⟨rfl, hb⟩; have K1 := Lib.hid (K0.out.on hb); have G1 := Lib.hid (below_step G0.out hb); clear hb K0 G0)
    | (refine at_load 22 (.tmp 16) (by rfl) ?_; refine wpListG_get (by rfl) 22 (.tmp 16) (by rfl) w.heap.size 1 (by rfl) 24 #[.int .i64 M, .slice A n c] (.slice A n c) _ ((K1.out.on ((Below.refl _ w1).alloc (Nat.le_refl _) (.cells #[] 34))).row 0 rfl) (by rfl) Tryd.underlying22 (by rfl) ?_)
    | (at_builtin; refine wpList_append_flds _ rfl (.tmp 15) (.tmp 17) 22 rfl (w1.heap.size) 34 i0 Tryd.underlying22 hinf.out.1 hinf.out.2.1 hinf.out.2.2.1 hinf.out.2.2.2 _ [] rfl (OwnF.lit w1 34 _ (Nat.le_refl _) _ rfl) _ A n c xs rfl ((K1.out.fs (A := A) (n := n) (xs := xs) (by simp)).alloc (Nat.le_refl _) (.cells #[] 34)) HN.out (by have := Hn.out; simp; omega) (by simp) ?_; intro v4 w2 hown4 hb4 hg4 _; rw [List.nil_append] at hown4; obtain ⟨A4, cA4, rfl, h5A4, _⟩ := hown4.form2 (n := n) Hxn.out; have hb5 := ((Below.refl (w1.heap.size) w1).alloc (Nat.le_refl _) (.cells #[] 34)).trans hb4; have K2 := Lib.hid (K1.out.handO (B := w.heap.size) hb5 hown4 G1.out.size); have G2 := Lib.hid (below_step G1.out hb5); clear hown4 hb4 hg4 hb5 h5A4 K1 G1)
    | (at_builtin; refine wpList_append_flds _ rfl (.tmp 19) (.tmp 20) 22 rfl (w2.heap.size) 34 i0 Tryd.underlying22 hinf.out.1 hinf.out.2.1 hinf.out.2.2.1 hinf.out.2.2.2 _ [] rfl (OwnF.lit w2 34 _ (Nat.le_refl _) _ rfl) _ LA ln lc ls rfl ((K2.out.fs (A := LA) (n := ln) (xs := ls) (by simp)).alloc (Nat.le_refl _) (.cells #[] 34)) HLN.out (by have := Hl.out; simp; omega) (by simp) ?_; intro v4 w3 hown4 hb4 hg4 _; rw [List.nil_append] at hown4; obtain ⟨A5, cA5, rfl, h5A5, _⟩ := hown4.form2 (n := ln) Hln.out; have hb5 := ((Below.refl (w2.heap.size) w2).alloc (Nat.le_refl _) (.cells #[] 34)).trans hb4; have K3 := Lib.hid (K2.out.handO (B := w.heap.size) hb5 hown4 G2.out.size); have G3 := Lib.hid (below_step G2.out hb5); clear hown4 hb4 hg4 hb5 h5A5 K2 G2)
    | (refine at_load 24 (.tmp 2) (by rfl) ?_; refine wpListG_row (by rfl) 24 (.tmp 2) (by rfl) w.heap.size (by rfl) 24 #[.int .i64 M, .slice A n c] _ (K3.out.row 0 rfl) Tryd.underlying24 (by rfl) infoc_T ?_)
    | (go_at_call 9; (with_reducible refine (p_BlockT (A := A) (n := n) (c := c) (xs := xs) (ls := ls) LA ln lc _ K3.out (by simp) HN.out (by simp) (by simp) (by simp) (by simp) HF.out Hz.out hB.out hY.out hM.out hE.out hk.out hq.out).mono ?_); rintro e w4 ⟨A1, c1, A2, c2, rfl, hb, hE, HA10⟩; have K4 := Lib.hid hE; have HA1 := Lib.hid HA10; have G4 := Lib.hid (below_step G3.out hb); clear hb hE HA10 K3 G3; have K4b := Lib.hid (K4.out.boxg 24 #[.int .i64 0, .slice none 0 0] w4.heap.size rfl); have hz4 : w.heap.size ≤ w4.heap.size := G4.out.size; have G4b := Lib.hid (G4.out.alloc hz4 (.cells #[.int .i64 0, .slice none 0 0] 24)); clear K4 G4)
    | (refine at_store 24 (.tmp 8) (.tmp 27) (by rfl) ?_; refine wpList_put (by rfl) 24 (.tmp 8) (.tmp 27) (by rfl) w4.heap.size 0 (.agg #[.int .i64 N, .slice A2 0 c2]) (by rfl) (by rfl) 24 #[.int .i64 0, .slice none 0 0] #[.int .i64 N, .slice A2 0 c2] (K4b.out.row 0 rfl) (by simp [Value.cells]) (by kernel_rfl) infoc_T (by kernel_rfl) ?_; intro w5 hrow hoth hz hbl; have K5 := Lib.hid (K4b.out.turn 0 rfl hrow hoth hz); have G5 := Lib.hid (hbl _ _ (by omega) G4b.out); clear hrow hoth hz hbl K4b G4b))
  go_loopw [10] (fun u wr => u = .int .i64 0 ∧ EnvF wr [bF A1 k L, oF w3.heap.size 34 (.slice A2 0 c2) Y, fF A2 0 Y, oF w.heap.size 34 (.slice A5 ln cA5) ls, fF A5 ln ls, oF w.heap.size 34 (.slice A4 n cA4) xs, fF A4 n xs, fF LA ln ls, fF A n xs, stF, rwF, mvF] [(w4.heap.size, #[.int .i64 N, .slice A2 0 c2], 24), (w.heap.size, #[.int .i64 M, .slice A n c], 24)] ∧ Below w.heap.size w wr) (fun _ _ => 0)
  case atStart => exact ⟨rfl, K5.out, G5.out⟩
  case round =>
    obtain ⟨rfl, hk0, hbel⟩ := hrel
    have KR := Lib.hid hk0
    have GR := Lib.hid hbel
    have r1 := (cells2_row (hk0.row 0 rfl)).2
    clear hk0 hbel K5 G5
    go_wp2_with (first
      | go_skip
      | (refine at_load 22 (.tmp 41) (by rfl) ?_; refine wpListG_get (by rfl) 22 (.tmp 41) (by rfl) w.heap.size 1 (by rfl) 24 #[.int .i64 M, .slice A n c] (.slice A n c) _ (KR.out.row 1 rfl) (by rfl) Tryd.underlying22 (by rfl) ?_)
      | (go_at_call 16; (with_reducible refine (p_fields (A := A) (A' := A4) (n := n) (n' := n) (xs := xs) (ys := xs) (b := true) _ KR.out (by simp) (by simp) (by have := Hn.out; omega) (decide_eq_true rfl)).mono ?_); rintro e w21 ⟨rfl, hb⟩; have K21 := Lib.hid (KR.out.on hb); have G21 := Lib.hid (below_step GR.out hb); clear hb KR GR)
      | (go_at_call 16; (with_reducible refine (p_fields (A := LA) (A' := A5) (n := ln) (n' := ln) (xs := ls) (ys := ls) (b := true) _ K21.out (by simp) (by simp) (by have := Hl.out; omega) (decide_eq_true rfl)).mono ?_); rintro e w22 ⟨rfl, hb⟩; have K22 := Lib.hid (K21.out.on hb); have G22 := Lib.hid (below_step G21.out hb); clear hb K21 G21)
      | (go_at_call 8; (with_reducible refine (wakes11 _ K22.out (by simp) (by simp) (by simp)).mono ?_); rintro e w23 ⟨rfl, hb⟩; have K23 := Lib.hid (K22.out.on hb); have G23 := Lib.hid (below_step G22.out hb); clear hb K22 G22))
    go_ret
    exact ⟨rfl, G23.out⟩
theorem infoc_st : (Tryd.prog.info? 9).map (·.size) = some 1 := by kernel_rfl
set_option maxRecDepth 100000 in
set_option maxHeartbeats 4000000 in
theorem po_1 (M : Int) (A : Option Addr) (n c : Nat) (xs : List Fd) (LA : Option Addr) (ln lc : Nat) (ls : List Fd) (w : World) (hV : EnvF w [fF LA ln ls, fF A n xs, stF, rwF, mvF] []) (HG : Hid (∀ w0 : World, Fs w0 w0.heap.size A n xs → Fs w0 w0.heap.size LA ln ls → Calls Tryd.prog 6 #[.agg #[.int .i64 M, .slice A n c], .slice LA ln lc] w0 fun e w' => e = .returned (.bool false) ∧ Below w0.heap.size w0 w')) {k q : Nat} {L : List UInt8} {Y : List Fd} {N E : Int} (HN : Hid (A = none → c = 0)) (HLN : Hid (LA = none → lc = 0)) (Hn : Hid (n ≤ 1000)) (Hl : Hid (ln ≤ 1000)) (Hxn : Hid (xs.length = n)) (Hln : Hid (ls.length = ln)) (HF : Hid (full xs ≤ 100000)) (Hz : Hid (full ls ≤ 7000)) (hB : Hid (bkB M xs ls = L)) (hY : Hid (bkX M xs ls = Y)) (hM : Hid (bkM M xs = N)) (hE : Hid (bkE M xs = E)) (hk : Hid (L.length = k)) (hq : Hid (Y.length = q)) (hq0 : Hid (0 < q)) (hqb : Hid (q ≤ 1000)) :
    Calls Tryd.prog 5 #[.agg #[.int .i64 M, .slice A n c], .slice LA ln lc] w fun e w' => e = .returned (.bool true) ∧ Below w.heap.size w w' := by
  have K0 := Lib.hid ((hV).boxg 24 #[.int .i64 M, .slice A n c] w.heap.size (by simp))
  have G0 := Lib.hid ((Below.refl w.heap.size w).alloc (by simp) (.cells #[.int .i64 M, .slice A n c] 24))
  obtain ⟨i0, hi, hz0, hz1, hz2⟩ := info_parts info_fld
  have hinf := Lib.hid (And.intro hi (And.intro hz0 (And.intro hz1 hz2)))
  clear hi hz0 hz1 hz2
  clear hV
  go_enter Tryd.func5, Tryd.ntmps5
  go_wp2_with (first
    | go_skip
    | (refine at_load 24 (.tmp 2) (by rfl) ?_; refine wpListG_row (by rfl) 24 (.tmp 2) (by rfl) w.heap.size (by rfl) 24 #[.int .i64 M, .slice A n c] _ (K0.out.row 0 rfl) Tryd.underlying24 (by rfl) infoc_T ?_)
    | (go_at_call 6; (with_reducible refine (HG.out _ (K0.out.fs (A := A) (n := n) (xs := xs) (by simp)) (K0.out.fs (A := LA) (n := ln) (xs := ls) (by simp))).mono ?_); rintro e w1 ⟨rfl, hb⟩; have K1 := Lib.hid (K0.out.on hb); have G1 := Lib.hid (below_step G0.out hb); clear hb K0 G0)
    | (refine at_load 22 (.tmp 16) (by rfl) ?_; refine wpListG_get (by rfl) 22 (.tmp 16) (by rfl) w.heap.size 1 (by rfl) 24 #[.int .i64 M, .slice A n c] (.slice A n c) _ ((K1.out.on ((Below.refl _ w1).alloc (Nat.le_refl _) (.cells #[] 34))).row 0 rfl) (by rfl) Tryd.underlying22 (by rfl) ?_)
    | (at_builtin; refine wpList_append_flds _ rfl (.tmp 15) (.tmp 17) 22 rfl (w1.heap.size) 34 i0 Tryd.underlying22 hinf.out.1 hinf.out.2.1 hinf.out.2.2.1 hinf.out.2.2.2 _ [] rfl (OwnF.lit w1 34 _ (Nat.le_refl _) _ rfl) _ A n c xs rfl ((K1.out.fs (A := A) (n := n) (xs := xs) (by simp)).alloc (Nat.le_refl _) (.cells #[] 34)) HN.out (by have := Hn.out; simp; omega) (by simp) ?_; intro v4 w2 hown4 hb4 hg4 _; rw [List.nil_append] at hown4; obtain ⟨A4, cA4, rfl, h5A4, _⟩ := hown4.form2 (n := n) Hxn.out; have hb5 := ((Below.refl (w1.heap.size) w1).alloc (Nat.le_refl _) (.cells #[] 34)).trans hb4; have K2 := Lib.hid (K1.out.handO (B := w.heap.size) hb5 hown4 G1.out.size); have G2 := Lib.hid (below_step G1.out hb5); clear hown4 hb4 hg4 hb5 h5A4 K1 G1)
    | (at_builtin; refine wpList_append_flds _ rfl (.tmp 19) (.tmp 20) 22 rfl (w2.heap.size) 34 i0 Tryd.underlying22 hinf.out.1 hinf.out.2.1 hinf.out.2.2.1 hinf.out.2.2.2 _ [] rfl (OwnF.lit w2 34 _ (Nat.le_refl _) _ rfl) _ LA ln lc ls rfl ((K2.out.fs (A := LA) (n := ln) (xs := ls) (by simp)).alloc (Nat.le_refl _) (.cells #[] 34)) HLN.out (by have := Hl.out; simp; omega) (by simp) ?_; intro v4 w3 hown4 hb4 hg4 _; rw [List.nil_append] at hown4; obtain ⟨A5, cA5, rfl, h5A5, _⟩ := hown4.form2 (n := ln) Hln.out; have hb5 := ((Below.refl (w2.heap.size) w2).alloc (Nat.le_refl _) (.cells #[] 34)).trans hb4; have K3 := Lib.hid (K2.out.handO (B := w.heap.size) hb5 hown4 G2.out.size); have G3 := Lib.hid (below_step G2.out hb5); clear hown4 hb4 hg4 hb5 h5A5 K2 G2)
    | (refine at_load 24 (.tmp 2) (by rfl) ?_; refine wpListG_row (by rfl) 24 (.tmp 2) (by rfl) w.heap.size (by rfl) 24 #[.int .i64 M, .slice A n c] _ (K3.out.row 0 rfl) Tryd.underlying24 (by rfl) infoc_T ?_)
    | (go_at_call 9; (with_reducible refine (p_BlockT (A := A) (n := n) (c := c) (xs := xs) (ls := ls) LA ln lc _ K3.out (by simp) HN.out (by simp) (by simp) (by simp) (by simp) HF.out Hz.out hB.out hY.out hM.out hE.out hk.out hq.out).mono ?_); rintro e w4 ⟨A1, c1, A2, c2, rfl, hb, hE2, _, _⟩; obtain ⟨b, cur, rfl, hbb, hE3, hcz⟩ := own_box hE2 (fun x hx k hk => ((K3.out.f x hx).2 k hk).1) hq0.out; have K4 := Lib.hid hE3; have lega := Nat.le_trans G3.out.size hbb; have HCZ := Lib.hid hcz; have G4 := Lib.hid (below_step G3.out hb); clear hb hE2 hE3 hcz hbb K3 G3; have K4b := Lib.hid (K4.out.boxg 24 #[.int .i64 0, .slice none 0 0] w4.heap.size rfl); have hz4 : w.heap.size ≤ w4.heap.size := G4.out.size; have G4b := Lib.hid (G4.out.alloc hz4 (.cells #[.int .i64 0, .slice none 0 0] 24)); clear K4 G4)
    | (refine at_store 24 (.tmp 8) (.tmp 27) (by rfl) ?_; refine wpList_put (by rfl) 24 (.tmp 8) (.tmp 27) (by rfl) w4.heap.size 0 (.agg #[.int .i64 N, .slice (some ⟨b, 0, none⟩) q c2]) (by rfl) (by rfl) 24 #[.int .i64 0, .slice none 0 0] #[.int .i64 N, .slice (some ⟨b, 0, none⟩) q c2] (K4b.out.row 0 rfl) (by simp [Value.cells]) (by kernel_rfl) infoc_T (by kernel_rfl) ?_; intro w5 hrow hoth hz hbl; have K5 := Lib.hid (K4b.out.turn 0 rfl hrow hoth hz); have G5 := Lib.hid (hbl _ _ (by omega) G4b.out); clear hrow hoth hz hbl K4b G4b))
  go_loopw [10] (fun u wr => ∃ j : Nat, j ≤ q ∧ u = .int .i64 (j : Int) ∧ (∃ cur2 : Array Value, cur2.size = cur.size ∧ EnvF wr [oF w.heap.size 34 (.slice A5 ln cA5) ls, fF A5 ln ls, oF w.heap.size 34 (.slice A4 n cA4) xs, fF A4 n xs, fF LA ln ls, fF A n xs, stF, rwF, mvF] [(w4.heap.size, #[.int .i64 N, .slice (some ⟨b, 0, none⟩) q c2], 24), (b, cur2, 34), (w.heap.size, #[.int .i64 M, .slice A n c], 24)]) ∧ Below w.heap.size w wr) (fun u _ => q - (intOf u).toNat)
  case atStart => exact ⟨0, Nat.zero_le _, rfl, ⟨_, rfl, K5.out⟩, G5.out⟩
  case round =>
    obtain ⟨j, hj, rfl, ⟨cur2, hcz2, hk0⟩, hbel⟩ := hrel
    have KR := Lib.hid hk0
    have GR := Lib.hid hbel
    have r1 := (cells2_row (hk0.row 0 rfl)).2
    have hq1 := hqb.out
    clear hk0 hbel K5 G5
    by_cases hlt : j < q
    · have hsz : j * 2 + 1 ≤ cur2.size := by have := HCZ.out; omega
      have HC2 := Lib.hid hcz2
      clear hcz2
      go_wp2_with (first
        | go_skip
        | (refine at_store 9 (.tmp 40) (.const (.string ⟨#[63]⟩)) (by rfl) ?_; refine wpList_put (by rfl) 9 (.tmp 40) (.const (.string ⟨#[63]⟩)) (by rfl) b (j * 2) (.string ⟨#[63]⟩) (by rfl) (by rfl) 34 cur2 (cur2.setIfInBounds (j * 2) (.string ⟨#[63]⟩)) (KR.out.row 1 rfl) (by simpa [Value.cells] using hsz) rfl infoc_st (by kernel_rfl) ?_; intro w71 hrow hoth hz hbl; have K71 := Lib.hid (KR.out.turn 1 rfl hrow hoth hz); have B71 := Lib.hid (hbl _ _ lega GR.out); clear hrow hoth hz hbl KR GR r1))
      go_roundw
      case rel => exact ⟨j + 1, by omega, by go_num, ⟨_, by rw [Array.size_setIfInBounds]; exact HC2.out, K71.out⟩, B71.out⟩
      case measure => simp [intOf]; omega
    · obtain rfl : q = j := by omega
      go_wp2_with (first
        | go_skip
        | (refine at_load 22 (.tmp 41) (by rfl) ?_; refine wpListG_get (by rfl) 22 (.tmp 41) (by rfl) w.heap.size 1 (by rfl) 24 #[.int .i64 M, .slice A n c] (.slice A n c) _ (KR.out.row 2 rfl) (by rfl) Tryd.underlying22 (by rfl) ?_)
        | (go_at_call 16; (with_reducible refine (p_fields (A := A) (A' := A4) (n := n) (n' := n) (xs := xs) (ys := xs) (b := true) _ KR.out (by simp) (by simp) (by have := Hn.out; omega) (decide_eq_true rfl)).mono ?_); rintro e w21 ⟨rfl, hb⟩; have K21 := Lib.hid (KR.out.on hb); have G21 := Lib.hid (below_step GR.out hb); clear hb KR GR)
        | (go_at_call 16; (with_reducible refine (p_fields (A := LA) (A' := A5) (n := ln) (n' := ln) (xs := ls) (ys := ls) (b := true) _ K21.out (by simp) (by simp) (by have := Hl.out; omega) (decide_eq_true rfl)).mono ?_); rintro e w22 ⟨rfl, hb⟩; have K22 := Lib.hid (K21.out.on hb); have G22 := Lib.hid (below_step G21.out hb); clear hb K21 G21)
        | (go_at_call 8; (with_reducible refine (wakes11 _ K22.out (by simp) (by simp) (by simp)).mono ?_); rintro e w23 ⟨rfl, hb⟩; have K23 := Lib.hid (K22.out.on hb); have G23 := Lib.hid (below_step G22.out hb); clear hb K22 G22))
      go_ret
      exact ⟨rfl, G23.out⟩
theorem po_all (M : Int) (A : Option Addr) (n c : Nat) (LA : Option Addr) (ln lc : Nat) (w : World) (hR : Up.Vars w) (hI : IsFlds w A n c) (hJ : IsFlds w LA ln lc) :
    Calls Tryd.prog 5 #[.agg #[.int .i64 M, .slice A n c], .slice LA ln lc] w fun e w' => e = .returned (.bool true) ∧ Below w.heap.size w w' := by
  obtain ⟨xs, hA, hS, hnc, hcm, hN⟩ := rowFlds hI
  obtain ⟨ls, hL, hT, hnl, hlm, hLN⟩ := rowFlds hJ
  have hV : EnvF w [fF LA ln ls, fF A n xs, stF, rwF, mvF] [] := (Pk.start11 hR hA).addF hL
  have HG := great_call (M := M) hA hnc hcm hS hL hnl hlm hT
  cases hg : gB xs ls with
  | true => rw [hg] at HG; exact po_g M A n c xs LA ln lc ls w hV HG
  | false =>
    rw [hg] at HG
    obtain ⟨g1, g2, g3, g4⟩ := g_bd hg
    have e1 := hA.1
    have e2 := hL.1
    have hq : (bkX M xs ls).length ≤ 1000 := by
      unfold bkX
      split
      · rename_i hr
        have h1 := okB_of (kX_right hr ls)
        have h2 := full_len (kX M xs ls)
        omega
      · simp
    by_cases h : (bkX M xs ls).length = 0
    · exact po_0 M A n c xs LA ln lc ls w hV HG (Lib.hid hN) (Lib.hid hLN) (Lib.hid (by omega)) (Lib.hid (by omega)) (Lib.hid e1) (Lib.hid e2) (Lib.hid (by omega)) (Lib.hid g3) (Lib.hid rfl) (Lib.hid rfl) (Lib.hid rfl) (Lib.hid rfl) (Lib.hid rfl) (Lib.hid h)
    · exact po_1 M A n c xs LA ln lc ls w hV HG (Lib.hid hN) (Lib.hid hLN) (Lib.hid (by omega)) (Lib.hid (by omega)) (Lib.hid e1) (Lib.hid e2) (Lib.hid (by omega)) (Lib.hid g3) (Lib.hid rfl) (Lib.hid rfl) (Lib.hid rfl) (Lib.hid rfl) (Lib.hid rfl) (Lib.hid rfl) (Lib.hid (by omega)) (Lib.hid hq)
end Go.Proofs.YtacnbpodcjefiaaDoor
