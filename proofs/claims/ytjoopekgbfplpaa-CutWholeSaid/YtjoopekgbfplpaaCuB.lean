/- Package cut: headOf, joined, greeted. -/
import Derived.Test.YtjoopekgbfplpaaCuA
namespace Go.Proofs.Ytjoopekgbfplpaa
open Go.RowKit Oct Cu
set_option linter.unusedVariables false
set_option linter.unusedSimpArgs false
theorem take9 (xs : List UInt8) : hL (xs.take 9) = hL xs ∧ hK (xs.take 9) = hK xs ∧ hF (xs.take 9) = hF xs ∧ hS (xs.take 9) = hS xs := by
  refine ⟨?_, ?_, ?_, ?_⟩
  · unfold hL; rw [List.take_take]; rfl
  · unfold hK; rw [List.getElem?_take_of_lt (by omega)]
  · unfold hF; rw [List.getElem?_take_of_lt (by omega)]
  · unfold hS; rw [List.drop_take, List.take_take]; rfl
theorem c_take9 (b o n c : Nat) (xs : List UInt8) (w : World) (hA : Bs w w.heap.size (some ⟨b, o, none⟩) n xs) (h9 : 9 ≤ n) (hc : 9 ≤ c) :
    Calls Try.prog 30 #[.slice (some ⟨b, o, none⟩) 9 c] w fun e w' => ∃ v, e = .returned (.tuple #[.agg #[.int .i64 (hL xs), .int .u8 (hK xs), .int .u8 (hF xs), .int .i64 (hS xs)], v, .int .i64 0]) ∧ Below w.heap.size w w' := by
  have h := htake_yes (some ⟨b, o, none⟩) _ 9 c (xs.take 9) w (hA.take h9) (fun h => by cases h) (by omega) (by omega) hc (Nat.le_refl _)
  rw [(take9 xs).1, (take9 xs).2.1, (take9 xs).2.2.1, (take9 xs).2.2.2] at h
  refine h.mono ?_
  rintro e w' ⟨v, rfl, _, hb⟩
  exact ⟨v, rfl, hb⟩
theorem c_headOf_no (A : Option Addr) (n c : Nat) (w : World) (h9 : n < 9) :
    Calls Try.prog 20 #[.slice A n c] w fun e w' => e = .returned (.tuple #[.agg #[.int .i64 0, .int .u8 0, .int .u8 0, .int .i64 0], .bool false]) ∧ Below w.heap.size w w' := by
  have K0 : Hid (EnvF (w.alloc (.cells #[.int .i64 0, .int .u8 0, .int .u8 0, .int .i64 0] 38)) [] [(w.heap.size, #[.int .i64 0, .int .u8 0, .int .u8 0, .int .i64 0], 38)]) := Lib.hid ((EnvF.nil w).boxg 38 #[.int .i64 0, .int .u8 0, .int .u8 0, .int .i64 0] (w.heap.size) (by simp))
  have B0 : Hid (Below w.heap.size w (w.alloc (.cells #[.int .i64 0, .int .u8 0, .int .u8 0, .int .i64 0] 38))) := Lib.hid ((Below.refl _ w).alloc (by first | exact Nat.le_refl _ | (simp only [World.size_alloc]; omega)) (.cells #[.int .i64 0, .int .u8 0, .int .u8 0, .int .i64 0] 38))
  go_enter Try.func20, Try.ntmps20
  go_wp2_with (first
    | (refine at_store 38 (.tmp 2) (.tmp 10) (by rfl) ?_; refine wpList_put (by rfl) 38 (.tmp 2) (.tmp 10) (by rfl) (w.heap.size) 0 (.agg #[.int .i64 0, .int .u8 0, .int .u8 0, .int .i64 0]) (by rfl) (by rfl) 38 #[.int .i64 0, .int .u8 0, .int .u8 0, .int .i64 0] #[.int .i64 0, .int .u8 0, .int .u8 0, .int .i64 0] (K0.out.row 0 rfl) (by simp [Value.cells]) (by kernel_rfl) infoc_H (by kernel_rfl) ?_; intro w1 hrow hoth hz hbl; have K1 : Hid (EnvF w1 [] [(w.heap.size, #[.int .i64 0, .int .u8 0, .int .u8 0, .int .i64 0], 38)]) := Lib.hid (K0.out.turn 0 rfl hrow hoth hz); have B1 : Hid (Below w.heap.size w w1) := Lib.hid (hbl _ _ (by omega) B0.out); clear hrow hoth hz hbl K0 B0))
  exact bodyPost_ret (res_cell_tmp rfl _ _ _ _ _ _ rfl (K1.out.row 0 rfl) Try.underlying38 rfl infoc_H) rfl ⟨rfl, B1.out⟩
theorem c_headOf_yes (A : Option Addr) (n c : Nat) (xs : List UInt8) (w : World) (hA : Bs w w.heap.size A n xs) (h9 : 9 ≤ n) (hnc : n ≤ c) :
    Calls Try.prog 20 #[.slice A n c] w fun e w' => e = .returned (.tuple #[.agg #[.int .i64 (hL xs), .int .u8 (hK xs), .int .u8 (hF xs), .int .i64 (hS xs)], .bool true]) ∧ Below w.heap.size w w' := by
  obtain ⟨b, o, rfl, hb, hc⟩ := hA.2 (by omega)
  have g9c : (9 : Int) ≤ (c : Int) := by omega
  have d0 : decide ((n : Int) < 9) = false := by simp; omega
  clear hc hb
  have K0 : Hid (EnvF (w.alloc (.cells #[.int .i64 0, .int .u8 0, .int .u8 0, .int .i64 0] 38)) [bF (some ⟨b, o, none⟩) n xs] [(w.heap.size, #[.int .i64 0, .int .u8 0, .int .u8 0, .int .i64 0], 38)]) := Lib.hid (((EnvF.nil w).addB hA).boxg 38 #[.int .i64 0, .int .u8 0, .int .u8 0, .int .i64 0] (w.heap.size) (by simp))
  have B0 : Hid (Below w.heap.size w (w.alloc (.cells #[.int .i64 0, .int .u8 0, .int .u8 0, .int .i64 0] 38))) := Lib.hid ((Below.refl _ w).alloc (by first | exact Nat.le_refl _ | (simp only [World.size_alloc]; omega)) (.cells #[.int .i64 0, .int .u8 0, .int .u8 0, .int .i64 0] 38))
  clear hA
  go_enter Try.func20, Try.ntmps20
  go_wp2_with (first
    | (go_at_call 30; (have hc := (c_take9 b o n c xs _ (K0.out.bs (A := (some ⟨b, o, none⟩)) (n := n) (xs := xs) (by simp)) h9 (by omega)); (with_reducible refine hc.mono ?_); clear hc); rintro e w1 ⟨v1, rfl, hb⟩; have K1 : Hid (EnvF w1 [bF (some ⟨b, o, none⟩) n xs] [(w.heap.size, #[.int .i64 0, .int .u8 0, .int .u8 0, .int .i64 0], 38)]) := Lib.hid (K0.out.on hb); have B1 : Hid (Below w.heap.size w w1) := Lib.hid (below_step B0.out hb); clear hb K0 B0; have leh : w.heap.size ≤ w1.heap.size := (by have := B1.out.size; (try simp only [World.size_alloc] at this); omega); have K2 : Hid (EnvF (w1.alloc (.cells #[.int .i64 0, .int .u8 0, .int .u8 0, .int .i64 0] 38)) [bF (some ⟨b, o, none⟩) n xs] [(w1.heap.size, #[.int .i64 0, .int .u8 0, .int .u8 0, .int .i64 0], 38), (w.heap.size, #[.int .i64 0, .int .u8 0, .int .u8 0, .int .i64 0], 38)]) := Lib.hid (K1.out.boxg 38 #[.int .i64 0, .int .u8 0, .int .u8 0, .int .i64 0] (w1.heap.size) (by simp)); have B2 : Hid (Below w.heap.size w (w1.alloc (.cells #[.int .i64 0, .int .u8 0, .int .u8 0, .int .i64 0] 38))) := Lib.hid (B1.out.alloc B1.out.size (.cells #[.int .i64 0, .int .u8 0, .int .u8 0, .int .i64 0] 38)); clear K1 B1)
    | (refine at_store 38 (.tmp 4) (.tmp 15) (by rfl) ?_; refine wpList_put (by rfl) 38 (.tmp 4) (.tmp 15) (by rfl) (w1.heap.size) 0 (.agg #[.int .i64 (hL xs), .int .u8 (hK xs), .int .u8 (hF xs), .int .i64 (hS xs)]) (by rfl) (by rfl) 38 #[.int .i64 0, .int .u8 0, .int .u8 0, .int .i64 0] #[.int .i64 (hL xs), .int .u8 (hK xs), .int .u8 (hF xs), .int .i64 (hS xs)] (K2.out.row 0 rfl) (by simp [Value.cells]) (by kernel_rfl) infoc_H (by kernel_rfl) ?_; intro w3 hrow hoth hz hbl; have K3 : Hid (EnvF w3 [bF (some ⟨b, o, none⟩) n xs] [(w1.heap.size, #[.int .i64 (hL xs), .int .u8 (hK xs), .int .u8 (hF xs), .int .i64 (hS xs)], 38), (w.heap.size, #[.int .i64 0, .int .u8 0, .int .u8 0, .int .i64 0], 38)]) := Lib.hid (K2.out.turn 0 rfl hrow hoth hz); have B3 : Hid (Below w.heap.size w w3) := Lib.hid (hbl _ _ leh B2.out); clear hrow hoth hz hbl K2 B2)
    | (refine at_load 38 (.tmp 4) (by rfl) ?_; refine wpList_load_row (by rfl) 38 (.tmp 4) (by rfl) (w1.heap.size) (by rfl) 38 #[.int .i64 (hL xs), .int .u8 (hK xs), .int .u8 (hF xs), .int .i64 (hS xs)] (0, 0) _ (K3.out.row 0 rfl) Try.underlying38 (by rfl) infoc_H ?_)
    | (refine at_store 38 (.tmp 2) (.tmp 18) (by rfl) ?_; refine wpList_put (by rfl) 38 (.tmp 2) (.tmp 18) (by rfl) (w.heap.size) 0 (.agg #[.int .i64 (hL xs), .int .u8 (hK xs), .int .u8 (hF xs), .int .i64 (hS xs)]) (by rfl) (by rfl) 38 #[.int .i64 0, .int .u8 0, .int .u8 0, .int .i64 0] #[.int .i64 (hL xs), .int .u8 (hK xs), .int .u8 (hF xs), .int .i64 (hS xs)] (K3.out.row 1 rfl) (by simp [Value.cells]) (by kernel_rfl) infoc_H (by kernel_rfl) ?_; intro w4 hrow hoth hz hbl; have K4 : Hid (EnvF w4 [bF (some ⟨b, o, none⟩) n xs] [(w1.heap.size, #[.int .i64 (hL xs), .int .u8 (hK xs), .int .u8 (hF xs), .int .i64 (hS xs)], 38), (w.heap.size, #[.int .i64 (hL xs), .int .u8 (hK xs), .int .u8 (hF xs), .int .i64 (hS xs)], 38)]) := Lib.hid (K3.out.turn 1 rfl hrow hoth hz); have B4 : Hid (Below w.heap.size w w4) := Lib.hid (hbl _ _ (by omega) B3.out); clear hrow hoth hz hbl K3 B3))
  exact bodyPost_ret (res_cell_tmp rfl _ _ _ _ _ _ rfl (K4.out.row 1 rfl) Try.underlying38 rfl infoc_H) rfl ⟨rfl, B4.out⟩
/-- A head at the beginning, if there are nine bytes; else noughts. -/
theorem c_headOf (A : Option Addr) (n c : Nat) (xs : List UInt8) (w : World) (hA : Bs w w.heap.size A n xs) (hnc : n ≤ c) :
    Calls Try.prog 20 #[.slice A n c] w fun e w' => e = .returned (.tuple #[.agg #[.int .i64 (tL xs n), .int .u8 (tK xs n), .int .u8 (tF xs n), .int .i64 (tS xs n)], .bool (decide (9 ≤ n))]) ∧ Below w.heap.size w w' := by
  by_cases h : 9 ≤ n
  · refine (c_headOf_yes A n c xs w hA h hnc).mono ?_
    rintro e w' ⟨rfl, hb⟩
    exact ⟨by unfold tL tK tF tS; simp only [if_pos h, decide_eq_true h], hb⟩
  · refine (c_headOf_no A n c w (by omega)).mono ?_
    rintro e w' ⟨rfl, hb⟩
    exact ⟨by unfold tL tK tF tS; simp only [if_neg h, decide_eq_false h]; rfl, hb⟩
theorem c_joined (A A' : Option Addr) (n c n' c' : Nat) (xs ys : List UInt8) (w : World) (hA : Bs w w.heap.size A n xs) (hN : A = none → c = 0) (hA' : Bs w w.heap.size A' n' ys) (hN' : A' = none → c' = 0) (hn : n + n' ≤ 100000) :
    Calls Try.prog 18 #[.slice A n c, .slice A' n' c'] w fun e w' => ∃ A1 c1, e = .returned (.slice A1 (n + n') c1) ∧ HandS w' w.heap.size A1 (n + n') c1 (xs ++ ys) ∧ Below w.heap.size w w' := by
  have HA := Lib.hid hA
  have HN := Lib.hid hN
  have HA' := Lib.hid hA'
  have HN' := Lib.hid hN'
  clear hA hN hA' hN'
  obtain ⟨i0, hi, hz0, hz1, hz2⟩ := info_parts info_u8
  have hinf := Lib.hid (And.intro hi (And.intro hz0 (And.intro hz1 hz2)))
  clear hi hz0 hz1 hz2
  have s1 : IntKind.i64.wrap ((n : Int) + (n' : Int)) = (n : Int) + (n' : Int) := IntWalk.i64_in _ (by omega)
  go_enter Try.func18, Try.ntmps18
  go_wp2_with (first
    | (at_make; refine wpList_make_own _ rfl (.const (.int .i64 0)) (.tmp 10) 22 rfl w.heap.size 5 i0 (.int .u8 0) 1 Try.underlying22 hinf.out.1 hinf.out.2.1 hinf.out.2.2.1 .i64 .i64 _ (n + n') rfl rfl (by simp) (by rw [hinf.out.2.2.2]; omega) (by unfold maxLen; omega) (Nat.le_refl _) ?_; intro w2 hown2 hgrow2; have HO2 : Hid (OwnB w2 w.heap.size 5 (.slice (some ⟨w.heap.size, 0, none⟩) 0 (n + n')) []) := Lib.hid hown2; have hb2 : Below w.heap.size w w2 := (Below.refl _ w).grown hgrow2 (Nat.le_refl _) (fun k h => by cases h); have HB2 := Lib.hid hb2; have hz2 := hb2.size; clear hown2 hgrow2 hb2)
    | (at_builtin; refine wpList_append_bytes _ rfl (.tmp 12) (.tmp 13) 22 rfl w.heap.size 5 i0 Try.underlying22 hinf.out.1 hinf.out.2.1 hinf.out.2.2.1 hinf.out.2.2.2 _ [] rfl HO2.out w.heap.size A n c xs rfl (HA.out.below HB2.out) HN.out (by simp; omega) hz2 ?_; intro v3 w3 ho3 hb3; obtain ⟨A3, c3, rfl, _, _, _⟩ := ho3.form2 (n := n) (by simpa using HA.out.1); have HO3 := Lib.hid ho3; have HB3 := Lib.hid (HB2.out.trans hb3); have hz3 := (HB2.out.trans hb3).size; clear ho3 hb3)
    | (at_builtin; refine wpList_append_bytes _ rfl (.tmp 14) (.tmp 15) 22 rfl w.heap.size 5 i0 Try.underlying22 hinf.out.1 hinf.out.2.1 hinf.out.2.2.1 hinf.out.2.2.2 _ ([] ++ xs) rfl HO3.out w.heap.size A' n' c' ys rfl (HA'.out.below HB3.out) HN'.out (by have := HA.out.1; simp; omega) hz3 ?_; intro v4 w4 ho4 hb4; obtain ⟨A4, c4, rfl, hh4⟩ := ho4.handS (n := n + n') (by have h1 := HA.out.1; have h2 := HA'.out.1; simp; omega); have HO4 := Lib.hid hh4; have HB4 := Lib.hid (HB3.out.trans hb4); clear ho4 hb4 hh4))
  go_ret
  exact ⟨_, _, rfl, by simpa using HO4.out, HB4.out⟩
abbrev prefStr : ByteArray := { data := #[80, 82, 73, 32, 42, 32, 72, 84, 84, 80, 47, 50, 46, 48, 13, 10, 13, 10, 83, 77, 13, 10, 13, 10] }
theorem pref_get (q : Nat) (h : q < prefStr.size) : prefB[q]? = some (prefStr[q]'h) := by
  have h1 : q < prefB.length := h
  rw [List.getElem?_eq_getElem h1]
  rfl
theorem pref_eq {q : Nat} {h : q < prefStr.size} {x : UInt8} (h2 : (((prefStr[q]'h).toNat : Int) != (x.toNat : Int)) = false) : prefB[q]? = some x := by
  rw [pref_get q h]
  have h3 : (prefStr[q]'h).toNat = x.toNat := Int.ofNat_inj.1 (by simpa using h2)
  rw [UInt8.toNat_inj.1 h3]
theorem pref_ne {q : Nat} {h : q < prefStr.size} {x : UInt8} (h2 : (((prefStr[q]'h).toNat : Int) != (x.toNat : Int)) = true) : prefB[q]? ≠ some x := by
  rw [pref_get q h]
  intro e
  cases e
  simp at h2
set_option maxRecDepth 20000 in
theorem c_greeted (p : Nat) (A : Option Addr) (n c : Nat) (xs : List UInt8) (w : World) (hA : Bs w w.heap.size A n xs) (hp : p ≤ 24) (hn : n ≤ 100000) :
    Calls Try.prog 17 #[.int .i64 p, .slice A n c] w fun e w' => e = .returned (.int .i64 (gre p xs : Nat)) ∧ w = w' := by
  have HA := Lib.hid hA
  clear hA
  go_enter Try.func17, Try.ntmps17
  go_wp2
  go_loop [0, 6, 9] (fun t u i => ∃ (j q : Nat), j ≤ n ∧ i = .int .i64 j ∧ t = .int .i64 q ∧ q ≤ 24 ∧ gre q (xs.drop j) = gre p xs) (fun _ _ i => n - (intOf i).toNat)
  case atStart => exact ⟨0, p, Nat.zero_le _, rfl, rfl, hp, rfl⟩
  case round =>
    obtain ⟨j, q, hj, rfl, rfl, hq, hg⟩ := hrel
    have HG := Lib.hid hg
    clear hg
    by_cases hlt : j < n
    · obtain ⟨b, o, rfl, _, hcells⟩ := bs_cell HA.out (by omega)
      obtain ⟨x, hx, hcx⟩ := hcells j hlt
      have hl := HA.out.1
      have hdrop : xs.drop j = x :: xs.drop (j + 1) := by
        rw [List.getElem?_eq_getElem (by omega)] at hx
        cases hx
        exact List.drop_eq_getElem_cons (by omega)
      by_cases h24 : q = 24
      · subst h24
        have hfin : gre p xs = 24 := by rw [← HG.out]; exact gre_24 _
        have HF := Lib.hid hfin
        clear hcells hx hdrop hfin
        go_wp2
        go_ret
        exact ⟨by rw [HF.out]; rfl, rfl⟩
      · have hqlt : q < 24 := by omega
        have hne : ((q : Int) == 24) = false := by simp; omega
        go_wp2
        · rename_i h2
          have e := pref_ne h2
          go_ret
          exact ⟨by rw [← HG.out, hdrop, gre_cons, if_pos (.inr e)]; rfl, rfl⟩
        · rename_i h2
          have e := pref_eq h2
          refine ⟨⟨j + 1, q + 1, by omega, by go_num, by go_num, by omega, ?_⟩, by simp [intOf]; omega⟩
          rw [← HG.out, hdrop, gre_cons, if_neg (by intro h; rcases h with h | h; exact h24 h; exact h e)]
    · obtain rfl : j = n := by omega
      have hfin : gre p xs = q := by rw [← HG.out, List.drop_of_length_le (by rw [HA.out.1]; exact Nat.le_refl _)]; rfl
      have HF := Lib.hid hfin
      clear hfin
      go_wp2
      go_ret
      exact ⟨by rw [HF.out]; rfl, rfl⟩
end Go.Proofs.Ytjoopekgbfplpaa
