/- The walk of OctetBack: whatever is handed in, true; nothing that was there has turned. -/
import Derived.Test.YtfglpnfegfcmeaaOctApp
import Derived.Test.YtfglpnfegfcmeaaOctArgs
import Derived.Deep.RegionLaw
import Derived.BigRegion
namespace Go.Proofs.Ytfglpnfegfcmeaa
open Go.RowKit Oct
attribute [local go_sem] i64_and1 i64_and31

theorem top_wrap (k : Nat) (h : k ≤ 4) : wrap64 (2 ^ (8 * k)) = 256 ^ k := by
  have : k = 0 ∨ k = 1 ∨ k = 2 ∨ k = 3 ∨ k = 4 := by omega
  rcases this with rfl | rfl | rfl | rfl | rfl <;> decide +kernel
theorem back_great (A A' : Option Addr) (n c n' c' : Nat) (N S : Int) (w : World) (h : 100 < n ∨ 100 < n') (hm : n ≤ maxLen) (hm' : n' ≤ maxLen) :
    Calls Try.prog 4 #[.int .i64 N, .int .i64 S, .slice A n c, .slice A' n' c'] w fun e w' => e = .returned (.bool true) ∧ Below w.heap.size w w' := by
  unfold maxLen at hm hm'
  by_cases h1 : 100 < n
  · clear h
    go_enter Try.func4, Try.ntmps4
    go_wp2_with (go_at_call 8; refine (wakes_any _).mono ?_; rintro e w' ⟨rfl, hb⟩)
    go_ret
    exact ⟨rfl, hb⟩
  · have d1 : decide (100 < (n' : Int)) = true := by simp; omega
    clear h
    go_enter Try.func4, Try.ntmps4
    go_wp2_with (go_at_call 8; refine (wakes_any _).mono ?_; rintro e w' ⟨rfl, hb⟩)
    go_ret
    exact ⟨rfl, hb⟩
theorem back_no (A A' : Option Addr) (n c n' c' : Nat) (N S : Int) (w : World) (hn : n ≤ 100) (hn' : n' ≤ 100) (h : ¬ (1 ≤ S ∧ S ≤ 4 ∧ 0 ≤ N ∧ N < 256 ^ S.toNat)) :
    Calls Try.prog 4 #[.int .i64 N, .int .i64 S, .slice A n c, .slice A' n' c'] w fun e w' => e = .returned (.bool true) ∧ Below w.heap.size w w' := by
  have HB := Lib.hid (put_no N S w h)
  have d1 : decide (100 < (n' : Int)) = false := by simp; omega
  by_cases h1 : 1 ≤ S
  · by_cases h2 : S ≤ 4
    · have d2 : decide (S ≤ 4) = true := by simpa using h2
      by_cases h3 : 0 ≤ N
      · have d3 : decide (0 ≤ N) = true := by simpa using h3
        obtain ⟨k, rfl⟩ := Int.eq_ofNat_of_zero_le (show 0 ≤ S by omega)
        have d5 : decide (N < wrap64 (2 ^ (8 * k))) = false := by
          rw [top_wrap k (by omega)]
          simp only [decide_eq_false_iff_not]
          exact fun hh => h ⟨h1, h2, h3, by simpa using hh⟩
        clear h
        go_enter Try.func4, Try.ntmps4
        go_wp2_with (first | (go_at_call 9; refine HB.out.mono ?_; rintro e w1 ⟨rfl, rfl⟩) | (go_at_call 8; refine (wakes_any _).mono ?_; rintro e w' ⟨rfl, hb⟩))
        go_ret
        exact ⟨rfl, hb⟩
      · have d3 : decide (0 ≤ N) = false := by simpa using h3
        clear h
        go_enter Try.func4, Try.ntmps4
        go_wp2_with (first | (go_at_call 9; refine HB.out.mono ?_; rintro e w1 ⟨rfl, rfl⟩) | (go_at_call 8; refine (wakes_any _).mono ?_; rintro e w' ⟨rfl, hb⟩))
        go_ret
        exact ⟨rfl, hb⟩
    · have d2 : decide (S ≤ 4) = false := by simpa using h2
      clear h
      go_enter Try.func4, Try.ntmps4
      go_wp2_with (first | (go_at_call 9; refine HB.out.mono ?_; rintro e w1 ⟨rfl, rfl⟩) | (go_at_call 8; refine (wakes_any _).mono ?_; rintro e w' ⟨rfl, hb⟩))
      go_ret
      exact ⟨rfl, hb⟩
  · have d0 : decide (1 ≤ S) = false := by simpa using h1
    clear h
    go_enter Try.func4, Try.ntmps4
    go_wp2_with (first | (go_at_call 9; refine HB.out.mono ?_; rintro e w1 ⟨rfl, rfl⟩) | (go_at_call 8; refine (wakes_any _).mono ?_; rintro e w' ⟨rfl, hb⟩))
    go_ret
    exact ⟨rfl, hb⟩
theorem OwnB.drew {w : World} {B : Nat} {t : TypeId} {v : Value} {xs : List UInt8} (h : OwnB w B t v xs) : OwnB w.drew B t v xs := h
theorem back_take {n k : Nat} {N : Int} {xs zs : List UInt8} (hl : xs.length = n) (h3 : 0 ≤ N) (h4 : N < 256 ^ k) :
    ((takeB (List.take (k : Int).toNat (List.drop (n : Int).toNat ([] ++ xs ++ putB N.toNat k ++ zs))) : Nat) : Int) = N := by
  subst hl
  obtain ⟨M, rfl⟩ := Int.eq_ofNat_of_zero_le h3
  have h5 : M < 256 ^ k := by
    have : ((M : Nat) : Int) < ((256 ^ k : Nat) : Int) := by rw [Int.natCast_pow]; exact h4
    omega
  simp only [Int.toNat_natCast, List.nil_append, List.append_assoc]
  rw [List.drop_left, List.take_append_of_le_length (by rw [putB_length]; exact Nat.le_refl _), List.take_of_length_le (by rw [putB_length]; exact Nat.le_refl _), takeB_putB, Nat.mod_eq_of_lt h5]
theorem back_yes (A A' : Option Addr) (n c n' c' : Nat) (xs zs : List UInt8) (N S : Int) (w : World) (hA : Bs w w.heap.size A n xs) (hA' : Bs w w.heap.size A' n' zs) (hAc : A = none → c = 0) (hAc' : A' = none → c' = 0)
    (hn : n ≤ 100) (hn' : n' ≤ 100) (h1 : 1 ≤ S) (h2 : S ≤ 4) (h3 : 0 ≤ N) (h4 : N < 256 ^ S.toNat) :
    Calls Try.prog 4 #[.int .i64 N, .int .i64 S, .slice A n c, .slice A' n' c'] w fun e w' => e = .returned (.bool true) ∧ Below w.heap.size w w' := by
  have HB := Lib.hid (put_ok N S w h1 h2 h3 h4)
  have HA := Lib.hid hA
  have HA' := Lib.hid hA'
  have HAc := Lib.hid hAc
  have HAc' := Lib.hid hAc'
  clear hA hA' hAc hAc'
  have d1 : decide (100 < (n' : Int)) = false := by simp; omega
  have d2 : decide (S ≤ 4) = true := by simpa using h2
  have d3 : decide (0 ≤ N) = true := by simpa using h3
  obtain ⟨k, rfl⟩ := Int.eq_ofNat_of_zero_le (show 0 ≤ S by omega)
  have d5 : decide (N < wrap64 (2 ^ (8 * k))) = true := by
    rw [top_wrap k (by omega)]
    simp only [decide_eq_true_eq]
    simpa using h4
  simp only [Int.toNat_natCast] at HB h4
  have H4 := Lib.hid h4
  clear h4
  obtain ⟨i0, hi, hz0, hz1, hz2⟩ := info_parts info_u8
  have hinf := Lib.hid (And.intro hi (And.intro hz0 (And.intro hz1 hz2)))
  clear hi hz0 hz1 hz2
  go_enter Try.func4, Try.ntmps4
  go_wp2_with fail
  refine HB.out.mono ?_
  rintro e w1 ⟨v1, rfl, hown1, hb1⟩
  obtain ⟨A1, c1, rfl, hle1, hc1, hbs1⟩ := hown1.form2 (putB_length _ _)
  have HC1 := Lib.hid hc1
  have H1 := Lib.hid hbs1
  clear hown1 hbs1 hc1
  have hsz1 := hb1.size
  have K1 := Lib.hid ((HA.out.below hb1).more hsz1)
  have K3 := Lib.hid ((HA'.out.below hb1).more hsz1)
  go_wp2_with (first
    | (at_builtin; refine wpList_append_bytes _ rfl (.tmp 74) (.tmp 75) 22 rfl w1.heap.size 5 i0 Try.underlying22 hinf.out.1 hinf.out.2.1 hinf.out.2.2.1 hinf.out.2.2.2 _ [] rfl (OwnB.lit w1 _ _ (Nat.le_refl _)) w1.heap.size A n c xs rfl (K1.out.alloc (Nat.le_refl _) _) HAc.out (by simp; omega) (by simp) ?_; intro v2 w2 hown2 hb2; have HO2 := Lib.hid hown2; clear hown2; have hd2 := ((Below.refl w1.heap.size w1).alloc (Nat.le_refl _) _).trans hb2; clear hb2)
    | (at_builtin; refine wpList_append_bytes _ rfl (.tmp 76) (.tmp 77) 22 rfl w1.heap.size 5 i0 Try.underlying22 hinf.out.1 hinf.out.2.1 hinf.out.2.2.1 hinf.out.2.2.2 v2 ([] ++ xs) rfl HO2.out w1.heap.size A1 k c1 _ rfl (H1.out.below hd2) HC1.out (by have := HA.out.1; simp; omega) hd2.size ?_; intro v3 w3 hown3 hb3; have HO3 := Lib.hid hown3; clear hown3; have hd3 := hd2.trans hb3; clear hb3)
    | (at_builtin; refine wpList_append_bytes _ rfl (.tmp 78) (.tmp 79) 22 rfl w1.heap.size 5 i0 Try.underlying22 hinf.out.1 hinf.out.2.1 hinf.out.2.2.1 hinf.out.2.2.2 v3 ([] ++ xs ++ _) rfl HO3.out w1.heap.size A' n' c' zs rfl (K3.out.below hd3) HAc'.out (by have := HA.out.1; simp [putB_length]; omega) hd3.size ?_; intro v4 w4 hown4 hb4; obtain ⟨A4, c4, rfl, hle4, hc4, hbs4⟩ := hown4.form2 (n := n + k + n') (by have := HA.out.1; have := HA'.out.1; simp [putB_length]; omega); have H4' := Lib.hid hbs4; clear hown4 hbs4 hc4; have hd4 := hd3.trans hb4; clear hb4))
  refine (take_ok A4 w4.heap.size (n + k + n') c4 _ n k w4 H4'.out (by omega) (by omega) (by omega) (by omega) (by omega) hle4).mono ?_
  rintro e w' ⟨rfl, rfl⟩
  rw [back_take HA.out.1 h3 H4.out]
  have KA := Lib.hid (K1.out.below hd4)
  have hsz4 := hd4.size
  obtain ⟨m, hm⟩ : ∃ m, m + 1 = k := ⟨k - 1, by omega⟩
  have HM := Lib.hid hm
  have hmc : m ≤ c1 := by omega
  have hmk : m ≤ k := by omega
  clear hm
  have KB := Lib.hid ((H1.out.below hd4).take hmk)
  go_wp2_with fail
  have hwr : IntKind.i64.wrap ((k : Int) - 1) = (m : Int) := by have := HM.out; rw [IntKind.wrap_i64]; omega
  go_region_law (first
    | (refine step_append_bytes _ rfl (.tmp 90) (.tmp 91) 22 rfl w4.heap.size 5 i0 Try.underlying22 hinf.out.1 hinf.out.2.1 hinf.out.2.2.1 hinf.out.2.2.2 _ [] (by simp [Act.eval]; rfl) ?c1 w1.heap.size A n c xs (by simp [Act.eval]) ?c2 HAc.out (by simp; omega) ?c3 ?_; (case c1 => exact OwnB.drew (OwnB.lit w4 _ _ (Nat.le_refl _))); (case c2 => exact (KA.out.alloc hsz4 _).drew); (case c3 => simp); intro v5 w5 hown5 hb5; have HO5 := Lib.hid hown5; clear hown5; have hd5 := (((Below.refl w4.heap.size w4).alloc (Nat.le_refl _) _).drew).trans hb5; clear hb5)
    | (refine step_append_bytes _ rfl (.tmp 92) (.tmp 96) 22 rfl w4.heap.size 5 i0 Try.underlying22 hinf.out.1 hinf.out.2.1 hinf.out.2.2.1 hinf.out.2.2.2 v5 ([] ++ xs) (by simp [Act.eval]) HO5.out w1.heap.size A1 m c1 _ (by simp [Act.eval]) (KB.out.below (hd5.mono hsz4)) HC1.out ?d1 ?d2 ?_; (case d1 => (have := HA.out.1; simp; omega)); (case d2 => exact hd5.size); intro v6 w6 hown6 hb6; obtain ⟨A6, c6, rfl, _, _, _⟩ := hown6.form2 (n := n + m) (by have := HA.out.1; simp [putB_length]; omega); clear hown6; have hd6 := hd5.trans hb6; clear hb6)
    | (go_simp; go_at_call 11; refine (take_short A6 (n + m) c6 n k _ (by omega) (by omega) (by omega) (by omega) (by have := HM.out; omega)).mono ?_; rintro e w' ⟨rfl, rfl⟩))
  clear hwr
  have hsz6 := hd6.size
  have hd7 := hb1.trans ((hd4.mono hsz1).trans (hd6.mono (Nat.le_trans hsz1 hsz4)))
  have hsz7 := hd7.size
  go_wp2_with fail
  · have hq : ((k : Int) == 4) = true := by assumption
    have hk4 : k = 4 := by have := eq_of_beq hq; omega
    have hbt : ((takeB (List.take 4 (List.drop (n : Int).toNat ([] ++ xs ++ putB N.toNat k ++ zs))) % 2147483648 : Nat) : Int) = N % 2147483648 := by
      have h := back_take (zs := zs) HA.out.1 h3 H4.out
      rw [hk4] at h ⊢
      rw [Int.natCast_emod]
      exact congrArg (fun z : Int => z % 2147483648) h
    refine (stream_ok A4 w4.heap.size (n + k + n') c4 _ n _ (H4'.out.below hd6) (by omega) (by omega) (by omega) hle4).mono ?_
    rintro e w' ⟨rfl, rfl⟩
    rw [hbt]
    clear hbt hk4
    go_wp2_with (go_at_call 8; refine (wakes_any _).mono ?_; rintro e w' ⟨rfl, hb⟩)
    go_ret
    exact ⟨rfl, hd7.trans (hb.mono hsz7)⟩
  · refine (wakes_any _).mono ?_
    rintro e w' ⟨rfl, hb⟩
    go_wp2_with fail
    go_ret
    exact ⟨rfl, hd7.trans (hb.mono hsz7)⟩
end Go.Proofs.Ytfglpnfegfcmeaa
