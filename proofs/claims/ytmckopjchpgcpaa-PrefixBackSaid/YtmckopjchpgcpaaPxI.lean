/- The document's layer 6: Take. -/
import Derived.Test.YtmckopjchpgcpaaPxH
import Derived.Test.YtmckopjchpgcpaaPxG
namespace Go.Proofs.Ytmckopjchpgcpaa
open Go.RowKit Px
set_option linter.unusedVariables false
set_option linter.unusedSimpArgs false
theorem y_take_no (A : Option Addr) (n c : Nat) (k : Int) (w : World) (h : ¬ (1 ≤ k ∧ k ≤ 8)) : Calls Try.prog 11 #[.slice A n c, .int .i64 k] w fun e w' => e = .returned (.tuple #[.int .i64 0, .slice none 0 0, .int .i64 2]) ∧ Below w.heap.size w w' := by
  by_cases h1 : k < 1
  · clear h
    have d1 : decide (k < 1) = true := decide_eq_true h1
    go_enter Try.func11, Try.ntmps11
    go_wp2_with go_skip
    go_ret3
    exact ⟨rfl, Below.refl _ _⟩
  · have d1 : decide (k < 1) = false := decide_eq_false h1
    have d2 : decide (8 < k) = true := decide_eq_true (by omega)
    clear h
    go_enter Try.func11, Try.ntmps11
    go_wp2_with go_skip
    go_ret3
    exact ⟨rfl, Below.refl _ _⟩
theorem y_take_empty (A : Option Addr) (c : Nat) (k : Int) (w : World) (h : 1 ≤ k ∧ k ≤ 8) : Calls Try.prog 11 #[.slice A 0 c, .int .i64 k] w fun e w' => e = .returned (.tuple #[.int .i64 0, .slice none 0 0, .int .i64 10]) ∧ Below w.heap.size w w' := by
  have d1 : decide (k < 1) = false := decide_eq_false (by omega)
  have d2 : decide (8 < k) = false := decide_eq_false (by omega)
  go_enter Try.func11, Try.ntmps11
  go_wp2_with go_skip
  go_ret3
  exact ⟨rfl, Below.refl _ _⟩
namespace Px
theorem doc_val (a y j : Nat) (ha : a < 2147483648) (hj : j ≤ 5) : wrap64 ((a : Int) + wrap64 ((y : Int) % 128 * 2 ^ (j * 7))) = ((a + y % 128 * 2 ^ (j * 7) : Nat) : Int) := by
  have hp : 2 ^ (j * 7) ≤ 2 ^ 35 := Nat.pow_le_pow_right (by decide) (by omega)
  have hm : y % 128 * 2 ^ (j * 7) ≤ 127 * 2 ^ 35 := Nat.mul_le_mul (by omega) hp
  have e1 : (y : Int) % 128 * 2 ^ (j * 7) = ((y % 128 * 2 ^ (j * 7) : Nat) : Int) := by rw [Int.natCast_mul, Int.natCast_pow, Int.natCast_emod]; rfl
  rw [e1]
  generalize y % 128 * 2 ^ (j * 7) = q at *
  rw [IntWalk.wrap64_in (q : Int) (by omega), IntWalk.wrap64_in ((a : Int) + (q : Int)) (by omega)]
  omega
theorem scan_cons_long (n j : Nat) (y : UInt8) (ys : List UInt8) (h : 5 ≤ j ∨ 2147483648 ≤ n + y.toNat % 128 * 2 ^ (j * 7)) : scan n j (y :: ys) = (60, 0, 0) := by
  have e7 : 7 * j = j * 7 := Nat.mul_comm _ _
  rw [scan, e7, if_pos (by omega)]
theorem scan_cons_go (n j : Nat) (y : UInt8) (ys : List UInt8) (h : j < 5) (h2 : n + y.toNat % 128 * 2 ^ (j * 7) < 2147483648) : scan n j (y :: ys) = if y.toNat < 128 then (0, n + y.toNat % 128 * 2 ^ (j * 7), j + 1) else scan (n + y.toNat % 128 * 2 ^ (j * 7)) (j + 1) ys := by
  have e7 : 7 * j = j * 7 := Nat.mul_comm _ _
  rw [scan, e7, if_neg (by omega)]
theorem dec_ge {a : Nat} {V : Int} (hv : V = (a : Int)) (h : 2147483648 ≤ a) : decide ((2147483648 : Int) ≤ V) = true := decide_eq_true (by omega)
theorem dec_lt {a : Nat} {V : Int} (hv : V = (a : Int)) (h : a < 2147483648) : decide ((2147483648 : Int) ≤ V) = false := decide_eq_false (by omega)
/-- What the loop of the document's Take knows. -/
def AtT (M N0 : Nat) (ys : List UInt8) (j acc : Nat) (mo : Bool) : Prop :=
  acc < 2147483648 ∧ j ≤ ys.length ∧ (mo = true → j ≤ 5 ∧ N0 = M ∧ scan M 0 ys = scan acc j (ys.drop j)) ∧ (mo = false → j ≤ 6 ∧ ((j = 0 ∧ acc = N0 ∧ N0 < M) ∨ (N0 = M ∧ scan M 0 ys = (0, acc, j))))
theorem atT_next {M N0 : Nat} {ys : List UInt8} {j acc : Nat} {y : Nat} (h5 : j < 5) (hjl : j < ys.length) (hacc : acc < 2147483648) (hNM : N0 = M) (h : scan M 0 ys = if y < 128 then (0, acc, j + 1) else scan acc (j + 1) (ys.drop (j + 1))) : AtT M N0 ys (j + 1) acc (decide (128 ≤ y)) := by
  refine ⟨hacc, by omega, fun h1 => ?_, fun h1 => ?_⟩
  · have h1 := of_decide_eq_true h1
    exact ⟨by omega, hNM, by rw [h, if_neg (by omega)]⟩
  · have h1 := of_decide_eq_false h1
    exact ⟨by omega, .inr ⟨hNM, by rw [h, if_pos (by omega)]⟩⟩
end Px
set_option maxRecDepth 100000 in
set_option maxHeartbeats 1000000 in
theorem y_take_yes (A : Option Addr) (n c k : Nat) (x : UInt8) (ys : List UInt8) (w : World) (hA : Bs w w.heap.size A n (x :: ys)) (hnc : n ≤ c) (hn : n ≤ 1000000) (h1 : 1 ≤ k) (h8 : k ≤ 8) :
    Calls Try.prog 11 #[.slice A n c, .int .i64 (k : Int)] w fun e w' => ∃ A' c', e = .returned (.tuple #[.int .i64 ((takeN (x :: ys) k).2.1 : Nat), .slice A' (takeR (x :: ys) k).length c', .int .i64 ((takeN (x :: ys) k).1 : Nat)]) ∧ HandS w' w.heap.size A' (takeR (x :: ys) k).length c' (takeR (x :: ys) k) ∧ Below w.heap.size w w' := by
  obtain ⟨i0, hi, hz0, hz1, hz2⟩ := info_parts info_u8
  have hinf := Lib.hid (And.intro hi (And.intro hz0 (And.intro hz1 hz2)))
  clear hi hz0 hz1 hz2
  have hl := hA.1
  rw [List.length_cons] at hl
  have hn1 : ((n : Int) == 0) = false := by rw [beq_eq_false_iff_ne]; omega
  have s0 : (0 : Int) < (n : Int) := by omega
  obtain ⟨b, o, rfl, hb, hcc⟩ := bs_cell hA (by omega)
  obtain ⟨x', hx', c0⟩ := hcc 0 (by omega)
  simp only [List.getElem?_cons_zero, Option.some.injEq] at hx'
  subst hx'
  rw [Nat.add_zero] at c0
  have hcy : ∀ j, j < ys.length → ∃ y, ys.drop j = y :: ys.drop (j + 1) ∧ w.cell? ⟨b, o + (j + 1), none⟩ = some (.int .u8 (y.toNat : Int)) := by
    intro j hj
    obtain ⟨y, hy, hc⟩ := hcc (j + 1) (by omega)
    rw [List.getElem?_cons_succ] at hy
    obtain ⟨hj2, ey⟩ := List.getElem?_eq_some_iff.1 hy
    exact ⟨y, by rw [← ey]; exact List.drop_eq_getElem_cons hj2, hc⟩
  have HCY := Lib.hid hcy
  have HA := Lib.hid hA
  have d1 : decide ((k : Int) < 1) = false := decide_eq_false (by omega)
  have d2 : decide ((8 : Int) < (k : Int)) = false := decide_eq_false (by omega)
  have HF : Hid (∀ w, Calls Try.prog 21 #[.int .i64 (k : Int)] w fun e w' => e = .returned (.int .i64 (mx k : Int)) ∧ w = w') := Lib.hid (fun w => x_most k w h1 h8)
  have hM1 := mx_pos h1
  have hM8 := mx_le h8
  have hMs := mx_succ k
  have hul := x.toNat_lt
  have hN0 : x.toNat % 2 ^ k < 2 ^ k := Nat.mod_lt _ (Nat.two_pow_pos k)
  have HT : Hid (takeN (x :: ys) k = if x.toNat % 2 ^ k < mx k then (0, x.toNat % 2 ^ k, 1) else if (scan (mx k) 0 ys).1 = 0 then (0, (scan (mx k) 0 ys).2.1, (scan (mx k) 0 ys).2.2 + 1) else ((scan (mx k) 0 ys).1, 0, 0)) := Lib.hid rfl
  have HR : Hid (takeR (x :: ys) k = if (takeN (x :: ys) k).1 = 0 then (x :: ys).drop (takeN (x :: ys) k).2.2 else []) := Lib.hid rfl
  generalize takeR (x :: ys) k = R at *
  generalize takeN (x :: ys) k = T at *
  rw [← hMs] at HT hN0
  clear hMs
  generalize mx k = M at *
  have hmod : (x.toNat : Int) % ((M : Int) + 1) = ((x.toNat % (M + 1) : Nat) : Int) := by rw [Int.natCast_emod]; rfl
  have HMOD := Lib.hid hmod
  generalize x.toNat % (M + 1) = N0 at *
  clear hA hcc hb hcy hmod
  go_enter Try.func11, Try.ntmps11
  go_wp2_with (first | go_skip | (go_at_call 21; (with_reducible refine (HF.out _).mono ?_); rintro e w' ⟨rfl, rfl⟩))
  have hN1 : N0 ≤ M := by omega
  go_loopw [8, 9, 10, 11] (fun a t mo sh wr => ∃ (j acc : Nat) (m : Bool), a = .int .i64 (acc : Int) ∧ t = .int .i64 ((j : Int) + 1) ∧ mo = .bool m ∧ sh = .int .i64 ((j : Int) * 7) ∧ AtT M N0 ys j acc m ∧ w = wr) (fun _ t _ _ _ => 10 - (intOf t).toNat)
  case atStart =>
    refine ⟨0, N0, decide (N0 = M), by rw [HMOD.out], rfl, ?_, rfl, ⟨by omega, Nat.zero_le _, fun h => ?_, fun h => ?_⟩, rfl⟩
    · rw [HMOD.out]
      by_cases e : N0 = M
      · rw [decide_eq_true e]; subst e; simp
      · rw [decide_eq_false e, show ((N0 : Int) == (M : Int)) = false from by rw [beq_eq_false_iff_ne]; omega]
    · have e := of_decide_eq_true h
      exact ⟨by omega, e, by rw [e]; rfl⟩
    · have e := of_decide_eq_false h
      exact ⟨by omega, .inl ⟨rfl, rfl, by omega⟩⟩
  case round =>
    obtain ⟨j, acc, m, rfl, rfl, rfl, rfl, hat, rfl⟩ := hrel
    have HAT := Lib.hid hat
    obtain ⟨hacc, hjl, hyes, hno⟩ := hat
    cases m with
    | true =>
      obtain ⟨hj5, hNM, hsc⟩ := hyes rfl
      have HSC := Lib.hid hsc
      clear hyes hno hsc
      by_cases hend : j = ys.length
      · have e1 : decide ((n : Int) ≤ (j : Int) + 1) = true := decide_eq_true (by omega)
        have hs10 : scan M 0 ys = (10, 0, 0) := by rw [HSC.out, hend, List.drop_length]; rfl
        have hTT : T = (10, 0, 0) := by rw [HT.out, if_neg (by omega), hs10]; rfl
        have HTT := Lib.hid hTT
        clear hs10 hTT
        go_wp2_with go_skip
        go_ret3
        refine ⟨none, 0, ?_, ?_, Below.refl _ _⟩
        · rw [HR.out, HTT.out]; rfl
        · rw [HR.out, HTT.out]; exact HandS.nil_ _ _
      · have e1 : decide ((n : Int) ≤ (j : Int) + 1) = false := decide_eq_false (by omega)
        obtain ⟨y, hdy, hcy⟩ := HCY.out j (by omega)
        have hyl := y.toNat_lt
        have i1 : (j : Int) + 1 < (n : Int) := by omega
        have i2 : 0 ≤ (j : Int) + 1 := by omega
        have i3 : ((j : Int) + 1).toNat = j + 1 := by omega
        have HDY := Lib.hid hdy
        clear hdy
        have hv := doc_val acc y.toNat j hacc hj5
        have HV := Lib.hid hv
        by_cases hj6 : j = 5
        · have HTT : Hid (T = (60, 0, 0)) := Lib.hid (by rw [HT.out, if_neg (by omega), HSC.out, HDY.out, scan_cons_long _ _ _ _ (by omega)]; rfl)
          have HJ6 := Lib.hid hj6
          clear hv hj6
          go_wp2_with go_skip
          all_goals first
            | (exfalso; have := HJ6.out; omega)
            | (go_ret3
               refine ⟨none, 0, ?_, ?_, Below.refl _ _⟩
               · rw [HR.out, HTT.out]; rfl
               · rw [HR.out, HTT.out]; exact HandS.nil_ _ _)
        · have e2 : ((j : Int) + 1 == 6) = false := by rw [beq_eq_false_iff_ne]; omega
          by_cases hbig : 2147483648 ≤ acc + y.toNat % 128 * 2 ^ (j * 7)
          · have e3 : decide (2147483648 ≤ wrap64 ((acc : Int) + wrap64 ((y.toNat : Int) % 128 * 2 ^ (j * 7)))) = true := dec_ge hv hbig
            skip
            have HTT : Hid (T = (60, 0, 0)) := Lib.hid (by rw [HT.out, if_neg (by omega), HSC.out, HDY.out, scan_cons_long _ _ _ _ (.inr hbig)]; rfl)
            clear hv
            go_wp2_with go_skip
            go_ret3
            refine ⟨none, 0, ?_, ?_, Below.refl _ _⟩
            · rw [HR.out, HTT.out]; rfl
            · rw [HR.out, HTT.out]; exact HandS.nil_ _ _
          · have e3 : decide (2147483648 ≤ wrap64 ((acc : Int) + wrap64 ((y.toNat : Int) % 128 * 2 ^ (j * 7)))) = false := dec_lt hv (Nat.lt_of_not_le hbig)
            have HNEXT := Lib.hid (atT_next (M := M) (N0 := N0) (ys := ys) (j := j) (acc := acc + y.toNat % 128 * 2 ^ (j * 7)) (y := y.toNat) (by omega) (by omega) (Nat.lt_of_not_le hbig) hNM (by rw [HSC.out, HDY.out]; exact scan_cons_go acc j y _ (by omega) (Nat.lt_of_not_le hbig)))
            clear hv
            go_wp2_with go_skip
            go_roundw
            case rel =>
              exact ⟨j + 1, acc + y.toNat % 128 * 2 ^ (j * 7), decide (128 ≤ y.toNat), by rw [HV.out], by rw [Int.natCast_add]; rfl, by rw [show decide ((128 : Int) ≤ (y.toNat : Int)) = decide (128 ≤ y.toNat) from by simp only [decide_eq_decide]; omega], by rw [show (((j + 1 : Nat) : Int) * 7) = (j : Int) * 7 + 7 from by omega], HNEXT.out, trivial⟩
            case measure => simp only [intOf]; omega
    | false =>
      obtain ⟨hj6, hres⟩ := hno rfl
      have hTT : T = (0, acc, j + 1) := by
        rcases hres with ⟨rfl, rfl, h⟩ | ⟨h, hs⟩
        · rw [HT.out, if_pos h]
        · rw [HT.out, if_neg (by omega), hs]; rfl
      have hRR : R = (x :: ys).drop (j + 1) := by rw [HR.out, hTT]; rfl
      have HTT := Lib.hid hTT
      have HRR := Lib.hid hRR
      have hcut := HA.out.cut (k := j + 1) (by omega) hnc
      obtain ⟨A2, hA2⟩ : ∃ A2, (if c = j + 1 then some (⟨b, o, none⟩ : Addr) else some ⟨b, o + (j + 1), none⟩) = A2 := ⟨_, rfl⟩
      have HNO : Hid (A2 = none → c - (j + 1) = 0) := Lib.hid (fun h => if_some_ne (hA2.trans h))
      rw [hA2] at hcut
      have HCUT := Lib.hid hcut
      have i1 : (j : Int) + 1 ≤ (n : Int) := by omega
      have i2 : 0 ≤ (j : Int) + 1 := by omega
      have i3 : ((j : Int) + 1).toNat = j + 1 := by omega
      have i4 : (j : Int) + 1 ≤ (c : Int) := by omega
      have hRl : R.length = n - (j + 1) := by rw [hRR, List.length_drop, List.length_cons, hl]
      have HRL := Lib.hid hRl
      clear hTT hRR hcut hno hyes hres hRl
      go_wp2_with (first
        | go_skip
        | (at_builtin; refine wpList_append_bytes _ rfl (.tmp 65) (.tmp 68) 22 rfl w.heap.size 5 i0 Try.underlying22 hinf.out.1 hinf.out.2.1 hinf.out.2.2.1 hinf.out.2.2.2 _ [] rfl (OwnB.lit2 w 5 w.heap.size w.heap.size rfl (Nat.le_refl _)) _ A2 (n - (j + 1)) (c - (j + 1)) ((x :: ys).drop (j + 1)) rfl (HCUT.out.alloc (Nat.le_refl _) _) HNO.out (by simp; omega) (by simp) ?_; intro v2 w2 ho2 hb2; obtain ⟨A3, c3, rfl, hh⟩ := ho2.handS (n := n - (j + 1)) (by rw [List.nil_append]; exact HCUT.out.1); have HH := Lib.hid hh; have HB2 := Lib.hid (((Below.refl _ w).alloc (Nat.le_refl _) _).trans hb2); clear ho2 hb2 hh))
      go_ret3
      refine ⟨A3, c3, ?_, ?_, HB2.out⟩
      · rw [HTT.out, HRL.out]; rfl
      · rw [HRL.out, HRR.out]; exact HH.out
end Go.Proofs.Ytmckopjchpgcpaa
