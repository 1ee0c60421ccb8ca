import Derived.Test.YtgkbjopgmbdnoaaMi
import Derived.Test.YtgkbjopgmbdnoaaMf
import Derived.Test.YtgkbjopgmbdnoaaMh
/- FrameWhole. -/
namespace Go.Proofs.Ytgkbjopgmbdnoaa
open Go.RowKit Oct Fi Fm
set_option linter.unusedVariables false
set_option linter.unusedSimpArgs false
theorem valuesX_ways (f : Fr) : (valuesX f).1 = true ∧ (valuesX f).2.1 = 0 ∧ (valuesX f).2.2 ≠ 0 ∨ ((valuesX f).1 = false ∧ (valuesX f).2.2 ≠ 0 ∧ (valuesX f).2.1 = f.st ∧ (f.kd.toNat = 8 ∨ f.rk = true)) ∨ valuesX f = fine := by
  unfold valuesX valuesI
  by_cases h : pairsX f.ps = fine
  · rw [h]
    by_cases h8 : f.kd.toNat = 8
    · repeat' split
      all_goals simp_all [whole, fine]
    · by_cases hr : f.rk = true
      · repeat' split
        all_goals simp_all [whole, fine]
      · have e8 : ((f.kd.toNat : Int) == 8) = false := nat_beq_ne (show f.kd.toNat ≠ 8 from h8)
        repeat' split
        all_goals simp_all [whole, fine]
  · rw [if_pos h]
    have hs : ∃ p, pairsX f.ps = setX p := by
      unfold pairsX at h ⊢
      split
      · exact ⟨_, rfl⟩
      · rename_i hn
        rw [hn] at h
        exact absurd rfl h
    obtain ⟨p, hp⟩ := hs
    rw [hp] at h ⊢
    rcases setX_ways p with h1 | h1 | h1
    · exact absurd h1 h
    · rw [h1]; exact .inl ⟨rfl, rfl, by decide⟩
    · rw [h1]; exact .inl ⟨rfl, rfl, by decide⟩
theorem inner_kd (K F : UInt8) (S : Int) (xs : List UInt8) : (innerR K F S xs).1.kd = K ∧ (innerR K F S xs).1.st = S ∧ ((innerR K F S xs).1.rk = true → K.toNat = 1 ∨ K.toNat = 2) := by
  unfold innerR
  by_cases h01 : K.toNat = 0 ∨ K.toNat = 1
  · rw [if_pos h01]
    unfold dataR
    have hd : (data1 K F S xs).1.kd = K ∧ (data1 K F S xs).1.st = S ∧ (data1 K F S xs).1.rk = false := by
      unfold data1
      repeat' split
      all_goals exact ⟨rfl, rfl, rfl⟩
    split
    · split
      · rename_i hr
        unfold rank1
        split
        · exact ⟨hd.1, hd.2.1, fun _ => .inl hr.1⟩
        · exact ⟨hd.1, hd.2.1, fun h => by rw [hd.2.2] at h; cases h⟩
      · exact ⟨hd.1, hd.2.1, fun h => by simp only at h; rw [hd.2.2] at h; cases h⟩
    · exact ⟨hd.1, hd.2.1, fun h => by simp only at h; rw [hd.2.2] at h; cases h⟩
  · rw [if_neg h01]
    by_cases h2 : K.toNat = 2
    · rw [if_pos h2]
      exact ⟨rfl, rfl, fun _ => .inr h2⟩
    · rw [if_neg h2]
      repeat' split
      all_goals exact ⟨rfl, rfl, fun h => by cases h⟩
theorem parseR_da (K F : UInt8) (S : Int) (xs : List UInt8) : (parseR K F S xs).1.da.length ≤ xs.length := by
  have hi : (innerR K F S xs).1.da.length ≤ xs.length := by
    unfold innerR
    have hu := unV_short xs xs.length
    have hd : (data1 K F S xs).1.da.length ≤ xs.length := by
      unfold data1
      repeat' split
      all_goals first | exact hu | exact Nat.le_refl _
    split
    · unfold dataR rank1 trR
      repeat' split
      all_goals first | exact hd | (simp only [List.length_drop, List.length_nil]; omega) | (simp only [List.length_nil]; omega)
    · repeat' split
      all_goals first | (simp [frZ]; done) | (simp only [List.length_drop]; omega)
  unfold parseR
  repeat' split
  all_goals first | (simp [frZ]; done) | exact hi
/-- The three ways of what is parsed. -/
theorem tk_ways (K F : UInt8) (S : Int) (xs : List UInt8) :
    (∃ c : Nat, c ≠ 0 ∧ (tkR K F S xs).2 = (true, 0, c)) ∨ (∃ c : Nat, c ≠ 0 ∧ (tkR K F S xs).2 = (false, S, c) ∧ (tkR K F S xs).1.kd = K ∧ (tkR K F S xs).1.st = S ∧ (K.toNat = 2 ∨ K.toNat = 1 ∨ K.toNat = 8)) ∨ (tkR K F S xs).2 = fine := by
  unfold tkR
  by_cases hl : longB K.toNat F xs.length = true
  · rw [if_pos hl]
    by_cases h2 : K.toNat = 2
    · rw [if_pos h2]
      exact .inr (.inl ⟨6, by decide, rfl, rfl, rfl, .inl h2⟩)
    · rw [if_neg h2]
      exact .inl ⟨6, by decide, rfl⟩
  · rw [if_neg hl]
    obtain ⟨e1, e2, e3⟩ := inner_kd K F S xs
    have hp : parseX (innerR K F S xs) = whole 1 ∨ parseX (innerR K F S xs) = valuesX (innerR K F S xs).1 := by
      unfold parseX
      split
      · exact .inr rfl
      · exact .inl rfl
    rcases hp with hp | hp
    · rw [hp]
      exact .inl ⟨1, by decide, rfl⟩
    · rw [hp]
      generalize hv : valuesX (innerR K F S xs).1 = v
      have hw := valuesX_ways (innerR K F S xs).1
      rw [hv] at hw
      obtain ⟨v0, v1, v2⟩ := v
      rcases hw with ⟨h1, h2, h3⟩ | ⟨h1, h2, h3, h4⟩ | h1
      · simp only at h1 h2 h3
        subst h1
        subst h2
        exact .inl ⟨v2, h3, rfl⟩
      · simp only at h1 h2 h3
        rw [e2] at h3
        subst h1
        subst h3
        refine .inr (.inl ⟨v2, h2, rfl, e1, e2, ?_⟩)
        rcases h4 with h4 | h4
        · rw [e1] at h4; exact .inr (.inr h4)
        · rcases e3 h4 with h | h
          · exact .inr (.inl h)
          · exact .inl h
      · cases h1
        exact .inr (.inr rfl)
theorem parse_ways (K F : UInt8) (S : Int) (xs : List UInt8) :
    (∃ c : Nat, c ≠ 0 ∧ parseR K F S xs = (frZ 0 0 0, (true, 0, c))) ∨ (∃ (d : Fr) (c : Nat), c ≠ 0 ∧ parseR K F S xs = (d, (false, S, c)) ∧ d.kd = K ∧ d.st = S ∧ (K.toNat = 2 ∨ K.toNat = 1 ∨ K.toNat = 8)) ∨ ∃ d : Fr, parseR K F S xs = (d, fine) := by
  rw [parseR_eq]
  split
  · exact .inl ⟨2, by decide, rfl⟩
  · split
    · exact .inl ⟨6, by decide, rfl⟩
    · split
      · exact .inl ⟨1, by decide, rfl⟩
      · have ht := tk_ways K F S xs
        generalize tkR K F S xs = r at *
        obtain ⟨d, x⟩ := r
        simp only at ht
        rcases ht with ⟨c, h1, rfl⟩ | ⟨c, h1, rfl, h2⟩ | rfl
        · exact .inl ⟨c, h1, rfl⟩
        · exact .inr (.inl ⟨d, c, h1, rfl, h2⟩)
        · exact .inr (.inr ⟨d, rfl⟩)
set_option maxRecDepth 100000 in
set_option maxHeartbeats 8000000 in
theorem whole4_G (L S : Int) (K F : UInt8) (A : Option Addr) (n c : Nat) (xs : List UInt8) (w : World) (hA : Bs w w.heap.size A n xs) (hN : A = none → c = 0) (hnc : n ≤ c) (hg : (3000 : Int) < (n : Int)) :
    Calls Try.prog 4 #[.agg #[.int .i64 L, .int .u8 (K.toNat : Int), .int .u8 (F.toNat : Int), .int .i64 S], .slice A n c] w fun e' w' => e' = .returned (.bool true) ∧ Below w.heap.size w w' := by
  have HN := Lib.hid hN
  have K0 : Hid (EnvB (w.alloc (.cells #[.int .i64 L, .int .u8 (K.toNat : Int), .int .u8 (F.toNat : Int), .int .i64 S] 35)) [(A, n, xs)] [] [(w.heap.size, #[.int .i64 L, .int .u8 (K.toNat : Int), .int .u8 (F.toNat : Int), .int .i64 S], 35)]) := Lib.hid (((EnvB.nil w).addS0 hA).box 35 #[.int .i64 L, .int .u8 (K.toNat : Int), .int .u8 (F.toNat : Int), .int .i64 S])
  have B0 : Hid (Below w.heap.size w (w.alloc (.cells #[.int .i64 L, .int .u8 (K.toNat : Int), .int .u8 (F.toNat : Int), .int .i64 S] 35))) := Lib.hid ((Below.refl _ w).alloc (Nat.le_refl _) _)
  clear hA hN
  go_enter Try.func4, Try.ntmps4
  go_wp2_with (first
    | (go_at_call 11; (refine (wakes4 _).mono ?_); rintro e w1 ⟨rfl, hb⟩; have K1 : Hid (EnvB w1 [(A, n, xs)] [] [(w.heap.size, #[.int .i64 L, .int .u8 (K.toNat : Int), .int .u8 (F.toNat : Int), .int .i64 S], 35)]) := Lib.hid (K0.out.on hb); have B1 := Lib.hid (below_step B0.out hb); clear hb K0 B0))
  go_ret
  exact ⟨rfl, B1.out⟩
set_option maxRecDepth 100000 in
set_option maxHeartbeats 8000000 in
theorem whole4_W (L S : Int) (K F : UInt8) (A : Option Addr) (n c : Nat) (xs : List UInt8) (w : World) (hA : Bs w w.heap.size A n xs) (hN : A = none → c = 0) (hnc : n ≤ c) (hg : ¬ (3000 : Int) < (n : Int)) (x2 : Int) (hx : (x2 != 0) = true) (HPA : Hid (∀ w0, Bs w0 w0.heap.size A n xs → Calls Try.prog 15 #[.agg #[.int .i64 L, .int .u8 (K.toNat : Int), .int .u8 (F.toNat : Int), .int .i64 S], .slice A n c] w0 fun e w' => ∃ A7 c7 A8 c8, e = .returned (.tuple #[.agg #[.int .u8 0, .int .u8 0, .int .i64 0, .slice A7 0 c7, .int .i64 0, .int .i64 0, .int .i64 0, .int .u32 0, .slice A8 0 c8, .bool false, .bool false, .int .i64 0, .int .u8 0], .agg #[.bool true, .int .i64 0, .int .u32 x2]]) ∧ HandS w' w0.heap.size A7 0 c7 [] ∧ HandP w' w0.heap.size A8 0 c8 [] ∧ Below w0.heap.size w0 w')) :
    Calls Try.prog 4 #[.agg #[.int .i64 L, .int .u8 (K.toNat : Int), .int .u8 (F.toNat : Int), .int .i64 S], .slice A n c] w fun e' w' => e' = .returned (.bool true) ∧ Below w.heap.size w w' := by
  have HN := Lib.hid hN
  have K0 : Hid (EnvB (w.alloc (.cells #[.int .i64 L, .int .u8 (K.toNat : Int), .int .u8 (F.toNat : Int), .int .i64 S] 35)) [(A, n, xs)] [] [(w.heap.size, #[.int .i64 L, .int .u8 (K.toNat : Int), .int .u8 (F.toNat : Int), .int .i64 S], 35)]) := Lib.hid (((EnvB.nil w).addS0 hA).box 35 #[.int .i64 L, .int .u8 (K.toNat : Int), .int .u8 (F.toNat : Int), .int .i64 S])
  have B0 : Hid (Below w.heap.size w (w.alloc (.cells #[.int .i64 L, .int .u8 (K.toNat : Int), .int .u8 (F.toNat : Int), .int .i64 S] 35))) := Lib.hid ((Below.refl _ w).alloc (Nat.le_refl _) _)
  clear hA hN
  go_enter Try.func4, Try.ntmps4
  go_wp2_with (first
    | ((with_reducible refine at_wp ?_); refine at_load 35 (.tmp 2) (by rfl) ?_; refine wpList_load_row (by rfl) 35 (.tmp 2) (by rfl) (w.heap.size) (by rfl) 35 #[.int .i64 L, .int .u8 (K.toNat : Int), .int .u8 (F.toNat : Int), .int .i64 S] (0, 0) _ (K0.out.row 0 rfl) Try.underlying35 (by rfl) info_H ?_)
    | (go_at_call 15; (refine (HPA.out _ (K0.out.s (A, n, xs) (by simp)).1).mono ?_); rintro e w1 ⟨A7, c7, A8, c8, rfl, hh, hp, hb⟩; have K1 : Hid (EnvB w1 [(A7, 0, []), (A, n, xs)] [(A8, 0, [])] [(w.heap.size, #[.int .i64 L, .int .u8 (K.toNat : Int), .int .u8 (F.toNat : Int), .int .i64 S], 35)]) := Lib.hid (handB K0.out hb hh hp); have B1 := Lib.hid (below_step B0.out hb); have HC7 := Lib.hid hh.2.2; clear hh hp; clear hb K0 B0; have leo := B1.out.size; have K2 : Hid (EnvB ((w1.alloc (.cells #[.int .u8 0, .int .u8 0, .int .i64 0, .slice none 0 0, .int .i64 0, .int .i64 0, .int .i64 0, .int .u32 0, .slice none 0 0, .bool false, .bool false, .int .i64 0, .int .u8 0] 28)).alloc (.cells #[.bool false, .int .i64 0, .int .u32 0] 39)) [(A7, 0, []), (A, n, xs)] [(A8, 0, [])] [(w1.heap.size + 1, #[.bool false, .int .i64 0, .int .u32 0], 39), (w1.heap.size, #[.int .u8 0, .int .u8 0, .int .i64 0, .slice none 0 0, .int .i64 0, .int .i64 0, .int .i64 0, .int .u32 0, .slice none 0 0, .bool false, .bool false, .int .i64 0, .int .u8 0], 28), (w.heap.size, #[.int .i64 L, .int .u8 (K.toNat : Int), .int .u8 (F.toNat : Int), .int .i64 S], 35)]) := Lib.hid ((K1.out.box 28 #[.int .u8 0, .int .u8 0, .int .i64 0, .slice none 0 0, .int .i64 0, .int .i64 0, .int .i64 0, .int .u32 0, .slice none 0 0, .bool false, .bool false, .int .i64 0, .int .u8 0]).boxg 39 #[.bool false, .int .i64 0, .int .u32 0] (w1.heap.size + 1) (by simp)); have B2 := Lib.hid ((B1.out.alloc B1.out.size (.cells #[.int .u8 0, .int .u8 0, .int .i64 0, .slice none 0 0, .int .i64 0, .int .i64 0, .int .i64 0, .int .u32 0, .slice none 0 0, .bool false, .bool false, .int .i64 0, .int .u8 0] 28)).alloc (Nat.le_trans B1.out.size (by simp)) (.cells #[.bool false, .int .i64 0, .int .u32 0] 39)); clear K1 B1)
    | ((with_reducible refine at_wp ?_); refine at_store 28 (.tmp 5) (.tmp 17) (by rfl) ?_; refine wpList_put (by rfl) 28 (.tmp 5) (.tmp 17) (by rfl) (w1.heap.size) 0 (.agg #[.int .u8 0, .int .u8 0, .int .i64 0, .slice A7 0 c7, .int .i64 0, .int .i64 0, .int .i64 0, .int .u32 0, .slice A8 0 c8, .bool false, .bool false, .int .i64 0, .int .u8 0]) (by rfl) (by rfl) 28 #[.int .u8 0, .int .u8 0, .int .i64 0, .slice none 0 0, .int .i64 0, .int .i64 0, .int .i64 0, .int .u32 0, .slice none 0 0, .bool false, .bool false, .int .i64 0, .int .u8 0] #[.int .u8 0, .int .u8 0, .int .i64 0, .slice A7 0 c7, .int .i64 0, .int .i64 0, .int .i64 0, .int .u32 0, .slice A8 0 c8, .bool false, .bool false, .int .i64 0, .int .u8 0] (K2.out.row 1 rfl) (by simp [Value.cells]) (by kernel_rfl) info_F (by kernel_rfl) ?_; intro w3 hrow hoth hz hbl; have K3 : Hid (EnvB w3 [(A7, 0, []), (A, n, xs)] [(A8, 0, [])] [(w1.heap.size + 1, #[.bool false, .int .i64 0, .int .u32 0], 39), (w1.heap.size, #[.int .u8 0, .int .u8 0, .int .i64 0, .slice A7 0 c7, .int .i64 0, .int .i64 0, .int .i64 0, .int .u32 0, .slice A8 0 c8, .bool false, .bool false, .int .i64 0, .int .u8 0], 28), (w.heap.size, #[.int .i64 L, .int .u8 (K.toNat : Int), .int .u8 (F.toNat : Int), .int .i64 S], 35)]) := Lib.hid (K2.out.turn 1 rfl hrow hoth hz); have B3 := Lib.hid (hbl _ _ leo B2.out); clear hrow hoth hz hbl K2 B2)
    | ((with_reducible refine at_wp ?_); refine at_store 39 (.tmp 6) (.tmp 18) (by rfl) ?_; refine wpList_put (by rfl) 39 (.tmp 6) (.tmp 18) (by rfl) (w1.heap.size + 1) 0 (.agg #[.bool true, .int .i64 0, .int .u32 x2]) (by rfl) (by rfl) 39 #[.bool false, .int .i64 0, .int .u32 0] #[.bool true, .int .i64 0, .int .u32 x2] (K3.out.row 0 rfl) (by simp [Value.cells]) (by kernel_rfl) info_X (by kernel_rfl) ?_; intro w4 hrow hoth hz hbl; have K4 : Hid (EnvB w4 [(A7, 0, []), (A, n, xs)] [(A8, 0, [])] [(w1.heap.size + 1, #[.bool true, .int .i64 0, .int .u32 x2], 39), (w1.heap.size, #[.int .u8 0, .int .u8 0, .int .i64 0, .slice A7 0 c7, .int .i64 0, .int .i64 0, .int .i64 0, .int .u32 0, .slice A8 0 c8, .bool false, .bool false, .int .i64 0, .int .u8 0], 28), (w.heap.size, #[.int .i64 L, .int .u8 (K.toNat : Int), .int .u8 (F.toNat : Int), .int .i64 S], 35)]) := Lib.hid (K3.out.turn 0 rfl hrow hoth hz); have B4 := Lib.hid (hbl _ _ (Nat.le_succ_of_le leo) B3.out); clear hrow hoth hz hbl K3 B3)
    | ((with_reducible refine at_wp ?_); refine at_load 4 (.tmp 20) (by rfl) ?_; refine wpList_get_g (by rfl) 4 (.tmp 20) (by rfl) (w1.heap.size + 1) 0 (by rfl) 39 #[.bool true, .int .i64 0, .int .u32 x2] (.bool true) _ (K4.out.row 0 rfl) (by rfl) Try.underlying4 (by rfl) ?_)
    | ((with_reducible refine at_wp ?_); refine at_load 3 (.tmp 22) (by rfl) ?_; refine wpList_get_g (by rfl) 3 (.tmp 22) (by rfl) (w1.heap.size + 1) 1 (by rfl) 39 #[.bool true, .int .i64 0, .int .u32 x2] (.int .i64 0) _ (K4.out.row 0 rfl) (by rfl) Try.underlying3 (by rfl) ?_)
    | ((with_reducible refine at_wp ?_); refine at_load 23 (.tmp 26) (by rfl) ?_; refine wpList_get_g (by rfl) 23 (.tmp 26) (by rfl) (w1.heap.size + 1) 2 (by rfl) 39 #[.bool true, .int .i64 0, .int .u32 x2] (.int .u32 x2) _ (K4.out.row 0 rfl) (by rfl) Try.underlying23 (by rfl) ?_)
    | ((with_reducible refine at_wp ?_); refine at_load 28 (.tmp 5) (by rfl) ?_; refine wpList_row_g (by rfl) 28 (.tmp 5) (by rfl) (w1.heap.size) (by rfl) 28 #[.int .u8 0, .int .u8 0, .int .i64 0, .slice A7 0 c7, .int .i64 0, .int .i64 0, .int .i64 0, .int .u32 0, .slice A8 0 c8, .bool false, .bool false, .int .i64 0, .int .u8 0] _ (K4.out.row 1 rfl) Try.underlying28 (by rfl) info_F ?_)
    | (go_at_call 16; (refine (m_same (frZ 0 0 0) (frZ 0 0 0) A7 none A8 none 0 c7 0 0 0 c8 0 0 _ (K4.out.s (A7, 0, []) (by simp)).1 Bs.none_ (K4.out.p (A8, 0, []) (by simp)).1 Ps.none_ (by omega)).mono ?_); rintro e w5 ⟨rfl, hb⟩; have K5 : Hid (EnvB w5 [(A7, 0, []), (A, n, xs)] [(A8, 0, [])] [(w1.heap.size + 1, #[.bool true, .int .i64 0, .int .u32 x2], 39), (w1.heap.size, #[.int .u8 0, .int .u8 0, .int .i64 0, .slice A7 0 c7, .int .i64 0, .int .i64 0, .int .i64 0, .int .u32 0, .slice A8 0 c8, .bool false, .bool false, .int .i64 0, .int .u8 0], 28), (w.heap.size, #[.int .i64 L, .int .u8 (K.toNat : Int), .int .u8 (F.toNat : Int), .int .i64 S], 35)]) := Lib.hid (K4.out.on hb); have B5 := Lib.hid (below_step B4.out hb); rw [decide_eq_true (rfl : frZ 0 0 0 = frZ 0 0 0)]; clear hb K4 B4)
    | (go_at_call 11; (refine (wakes4 _).mono ?_); rintro e w6 ⟨rfl, hb⟩; have K6 : Hid (EnvB w6 [(A7, 0, []), (A, n, xs)] [(A8, 0, [])] [(w1.heap.size + 1, #[.bool true, .int .i64 0, .int .u32 x2], 39), (w1.heap.size, #[.int .u8 0, .int .u8 0, .int .i64 0, .slice A7 0 c7, .int .i64 0, .int .i64 0, .int .i64 0, .int .u32 0, .slice A8 0 c8, .bool false, .bool false, .int .i64 0, .int .u8 0], 28), (w.heap.size, #[.int .i64 L, .int .u8 (K.toNat : Int), .int .u8 (F.toNat : Int), .int .i64 S], 35)]) := Lib.hid (K5.out.on hb); have B6 := Lib.hid (below_step B5.out hb); clear hb K5 B5))
  go_ret
  exact ⟨rfl, B6.out⟩
set_option maxRecDepth 100000 in
set_option maxHeartbeats 8000000 in
theorem whole4_S (L S : Int) (K F : UInt8) (A : Option Addr) (n c : Nat) (xs : List UInt8) (w : World) (hA : Bs w w.heap.size A n xs) (hN : A = none → c = 0) (hnc : n ≤ c) (hg : ¬ (3000 : Int) < (n : Int)) (d : Fr) (x2 : Int) (hx : (x2 != 0) = true) (b2 b1 b8 : Bool) (h2 : ((K.toNat : Int) == 2) = b2) (h1 : ((K.toNat : Int) == 1) = b1) (h8 : ((K.toNat : Int) == 8) = b8) (hk : b2 = true ∨ b2 = false ∧ b1 = true ∨ b2 = false ∧ b1 = false ∧ b8 = true) (HPA : Hid (∀ w0, Bs w0 w0.heap.size A n xs → Calls Try.prog 15 #[.agg #[.int .i64 L, .int .u8 (K.toNat : Int), .int .u8 (F.toNat : Int), .int .i64 S], .slice A n c] w0 fun e w' => ∃ A7 n7 c7 A8 n8 c8, e = .returned (.tuple #[.agg #[.int .u8 (K.toNat : Int), .int .u8 (d.fl.toNat : Int), .int .i64 S, .slice A7 n7 c7, .int .i64 d.pd, .int .i64 d.la, .int .i64 d.ic, .int .u32 (d.co.toNat : Int), .slice A8 n8 c8, .bool d.rk, .bool d.al, .int .i64 d.dp, .int .u8 (d.wt.toNat : Int)], .agg #[.bool false, .int .i64 S, .int .u32 x2]]) ∧ HandS w' w0.heap.size A7 n7 c7 d.da ∧ HandP w' w0.heap.size A8 n8 c8 d.ps ∧ Below w0.heap.size w0 w')) :
    Calls Try.prog 4 #[.agg #[.int .i64 L, .int .u8 (K.toNat : Int), .int .u8 (F.toNat : Int), .int .i64 S], .slice A n c] w fun e' w' => e' = .returned (.bool true) ∧ Below w.heap.size w w' := by
  have HN := Lib.hid hN
  have K0 : Hid (EnvB (w.alloc (.cells #[.int .i64 L, .int .u8 (K.toNat : Int), .int .u8 (F.toNat : Int), .int .i64 S] 35)) [(A, n, xs)] [] [(w.heap.size, #[.int .i64 L, .int .u8 (K.toNat : Int), .int .u8 (F.toNat : Int), .int .i64 S], 35)]) := Lib.hid (((EnvB.nil w).addS0 hA).box 35 #[.int .i64 L, .int .u8 (K.toNat : Int), .int .u8 (F.toNat : Int), .int .i64 S])
  have B0 : Hid (Below w.heap.size w (w.alloc (.cells #[.int .i64 L, .int .u8 (K.toNat : Int), .int .u8 (F.toNat : Int), .int .i64 S] 35))) := Lib.hid ((Below.refl _ w).alloc (Nat.le_refl _) _)
  clear hA hN
  rcases hk with rfl | ⟨rfl, rfl⟩ | ⟨rfl, rfl, rfl⟩
  all_goals
    go_enter Try.func4, Try.ntmps4
    go_wp2_with (first
      | ((with_reducible refine at_wp ?_); refine at_load 35 (.tmp 2) (by rfl) ?_; refine wpList_load_row (by rfl) 35 (.tmp 2) (by rfl) (w.heap.size) (by rfl) 35 #[.int .i64 L, .int .u8 (K.toNat : Int), .int .u8 (F.toNat : Int), .int .i64 S] (0, 0) _ (K0.out.row 0 rfl) Try.underlying35 (by rfl) info_H ?_)
      | (go_at_call 15; (refine (HPA.out _ (K0.out.s (A, n, xs) (by simp)).1).mono ?_); rintro e w1 ⟨A7, n7, c7, A8, n8, c8, rfl, hh, hp, hb⟩; have K1 : Hid (EnvB w1 [(A7, n7, d.da), (A, n, xs)] [(A8, n8, d.ps)] [(w.heap.size, #[.int .i64 L, .int .u8 (K.toNat : Int), .int .u8 (F.toNat : Int), .int .i64 S], 35)]) := Lib.hid (handB K0.out hb hh hp); have B1 := Lib.hid (below_step B0.out hb); have HC7 := Lib.hid hh.2.2; clear hh hp; clear hb K0 B0; have leo := B1.out.size; have K2 : Hid (EnvB ((w1.alloc (.cells #[.int .u8 0, .int .u8 0, .int .i64 0, .slice none 0 0, .int .i64 0, .int .i64 0, .int .i64 0, .int .u32 0, .slice none 0 0, .bool false, .bool false, .int .i64 0, .int .u8 0] 28)).alloc (.cells #[.bool false, .int .i64 0, .int .u32 0] 39)) [(A7, n7, d.da), (A, n, xs)] [(A8, n8, d.ps)] [(w1.heap.size + 1, #[.bool false, .int .i64 0, .int .u32 0], 39), (w1.heap.size, #[.int .u8 0, .int .u8 0, .int .i64 0, .slice none 0 0, .int .i64 0, .int .i64 0, .int .i64 0, .int .u32 0, .slice none 0 0, .bool false, .bool false, .int .i64 0, .int .u8 0], 28), (w.heap.size, #[.int .i64 L, .int .u8 (K.toNat : Int), .int .u8 (F.toNat : Int), .int .i64 S], 35)]) := Lib.hid ((K1.out.box 28 #[.int .u8 0, .int .u8 0, .int .i64 0, .slice none 0 0, .int .i64 0, .int .i64 0, .int .i64 0, .int .u32 0, .slice none 0 0, .bool false, .bool false, .int .i64 0, .int .u8 0]).boxg 39 #[.bool false, .int .i64 0, .int .u32 0] (w1.heap.size + 1) (by simp)); have B2 := Lib.hid ((B1.out.alloc B1.out.size (.cells #[.int .u8 0, .int .u8 0, .int .i64 0, .slice none 0 0, .int .i64 0, .int .i64 0, .int .i64 0, .int .u32 0, .slice none 0 0, .bool false, .bool false, .int .i64 0, .int .u8 0] 28)).alloc (Nat.le_trans B1.out.size (by simp)) (.cells #[.bool false, .int .i64 0, .int .u32 0] 39)); clear K1 B1)
      | ((with_reducible refine at_wp ?_); refine at_store 28 (.tmp 5) (.tmp 17) (by rfl) ?_; refine wpList_put (by rfl) 28 (.tmp 5) (.tmp 17) (by rfl) (w1.heap.size) 0 (.agg #[.int .u8 (K.toNat : Int), .int .u8 (d.fl.toNat : Int), .int .i64 S, .slice A7 n7 c7, .int .i64 d.pd, .int .i64 d.la, .int .i64 d.ic, .int .u32 (d.co.toNat : Int), .slice A8 n8 c8, .bool d.rk, .bool d.al, .int .i64 d.dp, .int .u8 (d.wt.toNat : Int)]) (by rfl) (by rfl) 28 #[.int .u8 0, .int .u8 0, .int .i64 0, .slice none 0 0, .int .i64 0, .int .i64 0, .int .i64 0, .int .u32 0, .slice none 0 0, .bool false, .bool false, .int .i64 0, .int .u8 0] #[.int .u8 (K.toNat : Int), .int .u8 (d.fl.toNat : Int), .int .i64 S, .slice A7 n7 c7, .int .i64 d.pd, .int .i64 d.la, .int .i64 d.ic, .int .u32 (d.co.toNat : Int), .slice A8 n8 c8, .bool d.rk, .bool d.al, .int .i64 d.dp, .int .u8 (d.wt.toNat : Int)] (K2.out.row 1 rfl) (by simp [Value.cells]) (by kernel_rfl) info_F (by kernel_rfl) ?_; intro w3 hrow hoth hz hbl; have K3 : Hid (EnvB w3 [(A7, n7, d.da), (A, n, xs)] [(A8, n8, d.ps)] [(w1.heap.size + 1, #[.bool false, .int .i64 0, .int .u32 0], 39), (w1.heap.size, #[.int .u8 (K.toNat : Int), .int .u8 (d.fl.toNat : Int), .int .i64 S, .slice A7 n7 c7, .int .i64 d.pd, .int .i64 d.la, .int .i64 d.ic, .int .u32 (d.co.toNat : Int), .slice A8 n8 c8, .bool d.rk, .bool d.al, .int .i64 d.dp, .int .u8 (d.wt.toNat : Int)], 28), (w.heap.size, #[.int .i64 L, .int .u8 (K.toNat : Int), .int .u8 (F.toNat : Int), .int .i64 S], 35)]) := Lib.hid (K2.out.turn 1 rfl hrow hoth hz); have B3 := Lib.hid (hbl _ _ leo B2.out); clear hrow hoth hz hbl K2 B2)
      | ((with_reducible refine at_wp ?_); refine at_store 39 (.tmp 6) (.tmp 18) (by rfl) ?_; refine wpList_put (by rfl) 39 (.tmp 6) (.tmp 18) (by rfl) (w1.heap.size + 1) 0 (.agg #[.bool false, .int .i64 S, .int .u32 x2]) (by rfl) (by rfl) 39 #[.bool false, .int .i64 0, .int .u32 0] #[.bool false, .int .i64 S, .int .u32 x2] (K3.out.row 0 rfl) (by simp [Value.cells]) (by kernel_rfl) info_X (by kernel_rfl) ?_; intro w4 hrow hoth hz hbl; have K4 : Hid (EnvB w4 [(A7, n7, d.da), (A, n, xs)] [(A8, n8, d.ps)] [(w1.heap.size + 1, #[.bool false, .int .i64 S, .int .u32 x2], 39), (w1.heap.size, #[.int .u8 (K.toNat : Int), .int .u8 (d.fl.toNat : Int), .int .i64 S, .slice A7 n7 c7, .int .i64 d.pd, .int .i64 d.la, .int .i64 d.ic, .int .u32 (d.co.toNat : Int), .slice A8 n8 c8, .bool d.rk, .bool d.al, .int .i64 d.dp, .int .u8 (d.wt.toNat : Int)], 28), (w.heap.size, #[.int .i64 L, .int .u8 (K.toNat : Int), .int .u8 (F.toNat : Int), .int .i64 S], 35)]) := Lib.hid (K3.out.turn 0 rfl hrow hoth hz); have B4 := Lib.hid (hbl _ _ (Nat.le_succ_of_le leo) B3.out); clear hrow hoth hz hbl K3 B3)
      | ((with_reducible refine at_wp ?_); refine at_load 4 (.tmp 20) (by rfl) ?_; refine wpList_get_g (by rfl) 4 (.tmp 20) (by rfl) (w1.heap.size + 1) 0 (by rfl) 39 #[.bool false, .int .i64 S, .int .u32 x2] (.bool false) _ (K4.out.row 0 rfl) (by rfl) Try.underlying4 (by rfl) ?_)
      | ((with_reducible refine at_wp ?_); refine at_load 23 (.tmp 39) (by rfl) ?_; refine wpList_get_g (by rfl) 23 (.tmp 39) (by rfl) (w1.heap.size + 1) 2 (by rfl) 39 #[.bool false, .int .i64 S, .int .u32 x2] (.int .u32 x2) _ (K4.out.row 0 rfl) (by rfl) Try.underlying23 (by rfl) ?_)
      | ((with_reducible refine at_wp ?_); refine at_load 3 (.tmp 42) (by rfl) ?_; refine wpList_get_g (by rfl) 3 (.tmp 42) (by rfl) (w1.heap.size + 1) 1 (by rfl) 39 #[.bool false, .int .i64 S, .int .u32 x2] (.int .i64 S) _ (K4.out.row 0 rfl) (by rfl) Try.underlying3 (by rfl) ?_)
      | ((with_reducible refine at_wp ?_); refine at_load 3 (.tmp 44) (by rfl) ?_; refine wpList_get_g (by rfl) 3 (.tmp 44) (by rfl) (w.heap.size) 3 (by rfl) 35 #[.int .i64 L, .int .u8 (K.toNat : Int), .int .u8 (F.toNat : Int), .int .i64 S] (.int .i64 S) _ (K4.out.row 2 rfl) (by rfl) Try.underlying3 (by rfl) ?_)
      | ((with_reducible refine at_wp ?_); refine at_load 5 (.tmp 48) (by rfl) ?_; refine wpList_get_g (by rfl) 5 (.tmp 48) (by rfl) (w1.heap.size) 0 (by rfl) 28 #[.int .u8 (K.toNat : Int), .int .u8 (d.fl.toNat : Int), .int .i64 S, .slice A7 n7 c7, .int .i64 d.pd, .int .i64 d.la, .int .i64 d.ic, .int .u32 (d.co.toNat : Int), .slice A8 n8 c8, .bool d.rk, .bool d.al, .int .i64 d.dp, .int .u8 (d.wt.toNat : Int)] (.int .u8 (K.toNat : Int)) _ (K4.out.row 1 rfl) (by rfl) Try.underlying5 (by rfl) ?_)
      | ((with_reducible refine at_wp ?_); refine at_load 5 (.tmp 50) (by rfl) ?_; refine wpList_get_g (by rfl) 5 (.tmp 50) (by rfl) (w.heap.size) 1 (by rfl) 35 #[.int .i64 L, .int .u8 (K.toNat : Int), .int .u8 (F.toNat : Int), .int .i64 S] (.int .u8 (K.toNat : Int)) _ (K4.out.row 2 rfl) (by rfl) Try.underlying5 (by rfl) ?_)
      | ((with_reducible refine at_wp ?_); refine at_load 3 (.tmp 55) (by rfl) ?_; refine wpList_get_g (by rfl) 3 (.tmp 55) (by rfl) (w1.heap.size) 2 (by rfl) 28 #[.int .u8 (K.toNat : Int), .int .u8 (d.fl.toNat : Int), .int .i64 S, .slice A7 n7 c7, .int .i64 d.pd, .int .i64 d.la, .int .i64 d.ic, .int .u32 (d.co.toNat : Int), .slice A8 n8 c8, .bool d.rk, .bool d.al, .int .i64 d.dp, .int .u8 (d.wt.toNat : Int)] (.int .i64 S) _ (K4.out.row 1 rfl) (by rfl) Try.underlying3 (by rfl) ?_)
      | ((with_reducible refine at_wp ?_); refine at_load 3 (.tmp 57) (by rfl) ?_; refine wpList_get_g (by rfl) 3 (.tmp 57) (by rfl) (w.heap.size) 3 (by rfl) 35 #[.int .i64 L, .int .u8 (K.toNat : Int), .int .u8 (F.toNat : Int), .int .i64 S] (.int .i64 S) _ (K4.out.row 2 rfl) (by rfl) Try.underlying3 (by rfl) ?_)
      | ((with_reducible refine at_wp ?_); refine at_load 5 (.tmp 62) (by rfl) ?_; refine wpList_get_g (by rfl) 5 (.tmp 62) (by rfl) (w1.heap.size) 0 (by rfl) 28 #[.int .u8 (K.toNat : Int), .int .u8 (d.fl.toNat : Int), .int .i64 S, .slice A7 n7 c7, .int .i64 d.pd, .int .i64 d.la, .int .i64 d.ic, .int .u32 (d.co.toNat : Int), .slice A8 n8 c8, .bool d.rk, .bool d.al, .int .i64 d.dp, .int .u8 (d.wt.toNat : Int)] (.int .u8 (K.toNat : Int)) _ (K4.out.row 1 rfl) (by rfl) Try.underlying5 (by rfl) ?_)
      | ((with_reducible refine at_wp ?_); refine at_load 5 (.tmp 66) (by rfl) ?_; refine wpList_get_g (by rfl) 5 (.tmp 66) (by rfl) (w1.heap.size) 0 (by rfl) 28 #[.int .u8 (K.toNat : Int), .int .u8 (d.fl.toNat : Int), .int .i64 S, .slice A7 n7 c7, .int .i64 d.pd, .int .i64 d.la, .int .i64 d.ic, .int .u32 (d.co.toNat : Int), .slice A8 n8 c8, .bool d.rk, .bool d.al, .int .i64 d.dp, .int .u8 (d.wt.toNat : Int)] (.int .u8 (K.toNat : Int)) _ (K4.out.row 1 rfl) (by rfl) Try.underlying5 (by rfl) ?_)
      | ((with_reducible refine at_wp ?_); refine at_load 5 (.tmp 71) (by rfl) ?_; refine wpList_get_g (by rfl) 5 (.tmp 71) (by rfl) (w1.heap.size) 0 (by rfl) 28 #[.int .u8 (K.toNat : Int), .int .u8 (d.fl.toNat : Int), .int .i64 S, .slice A7 n7 c7, .int .i64 d.pd, .int .i64 d.la, .int .i64 d.ic, .int .u32 (d.co.toNat : Int), .slice A8 n8 c8, .bool d.rk, .bool d.al, .int .i64 d.dp, .int .u8 (d.wt.toNat : Int)] (.int .u8 (K.toNat : Int)) _ (K4.out.row 1 rfl) (by rfl) Try.underlying5 (by rfl) ?_)
      | (go_at_call 11; (refine (wakes4 _).mono ?_); rintro e w5 ⟨rfl, hb⟩; have K5 : Hid (EnvB w5 [(A7, n7, d.da), (A, n, xs)] [(A8, n8, d.ps)] [(w1.heap.size + 1, #[.bool false, .int .i64 S, .int .u32 x2], 39), (w1.heap.size, #[.int .u8 (K.toNat : Int), .int .u8 (d.fl.toNat : Int), .int .i64 S, .slice A7 n7 c7, .int .i64 d.pd, .int .i64 d.la, .int .i64 d.ic, .int .u32 (d.co.toNat : Int), .slice A8 n8 c8, .bool d.rk, .bool d.al, .int .i64 d.dp, .int .u8 (d.wt.toNat : Int)], 28), (w.heap.size, #[.int .i64 L, .int .u8 (K.toNat : Int), .int .u8 (F.toNat : Int), .int .i64 S], 35)]) := Lib.hid (K4.out.on hb); have B5 := Lib.hid (below_step B4.out hb); clear hb K4 B4))
    go_ret
    exact ⟨rfl, B5.out⟩
set_option maxRecDepth 100000 in
set_option maxHeartbeats 8000000 in
theorem whole4_Y (L S : Int) (K F : UInt8) (A : Option Addr) (n c : Nat) (xs : List UInt8) (w : World) (hA : Bs w w.heap.size A n xs) (hN : A = none → c = 0) (hnc : n ≤ c) (hg : ¬ (3000 : Int) < (n : Int)) (d : Fr) (hs : standB d = true) (hlen : (putR d).length = n + 9) (hdl : d.da.length ≤ 8900) (hpl : d.ps.length ≤ 10000) (ek : d.kd = K) (ef : d.fl = F) (es : d.st = S) (HPA : Hid (∀ w0, Bs w0 w0.heap.size A n xs → Calls Try.prog 15 #[.agg #[.int .i64 L, .int .u8 (K.toNat : Int), .int .u8 (F.toNat : Int), .int .i64 S], .slice A n c] w0 fun e w' => ∃ A7 n7 c7 A8 n8 c8, e = .returned (.tuple #[.agg #[.int .u8 (K.toNat : Int), .int .u8 (F.toNat : Int), .int .i64 S, .slice A7 n7 c7, .int .i64 d.pd, .int .i64 d.la, .int .i64 d.ic, .int .u32 (d.co.toNat : Int), .slice A8 n8 c8, .bool d.rk, .bool d.al, .int .i64 d.dp, .int .u8 (d.wt.toNat : Int)], .agg #[.bool false, .int .i64 0, .int .u32 0]]) ∧ HandS w' w0.heap.size A7 n7 c7 d.da ∧ HandP w' w0.heap.size A8 n8 c8 d.ps ∧ Below w0.heap.size w0 w')) :
    Calls Try.prog 4 #[.agg #[.int .i64 L, .int .u8 (K.toNat : Int), .int .u8 (F.toNat : Int), .int .i64 S], .slice A n c] w fun e' w' => e' = .returned (.bool true) ∧ Below w.heap.size w w' := by
  have HN := Lib.hid hN
  have K0 : Hid (EnvB (w.alloc (.cells #[.int .i64 L, .int .u8 (K.toNat : Int), .int .u8 (F.toNat : Int), .int .i64 S] 35)) [(A, n, xs)] [] [(w.heap.size, #[.int .i64 L, .int .u8 (K.toNat : Int), .int .u8 (F.toNat : Int), .int .i64 S], 35)]) := Lib.hid (((EnvB.nil w).addS0 hA).box 35 #[.int .i64 L, .int .u8 (K.toNat : Int), .int .u8 (F.toNat : Int), .int .i64 S])
  have B0 : Hid (Below w.heap.size w (w.alloc (.cells #[.int .i64 L, .int .u8 (K.toNat : Int), .int .u8 (F.toNat : Int), .int .i64 S] 35))) := Lib.hid ((Below.refl _ w).alloc (Nat.le_refl _) _)
  obtain ⟨NB, hNB⟩ : ∃ N, (putR d).length = N := ⟨_, rfl⟩
  have HNB := Lib.hid hNB
  have hlen2 : (NB : Int) = (n : Int) + 9 := by omega
  have HPUT : Hid (∀ A' n' c' D' m' e' w0, Bs w0 w0.heap.size A' n' d.da → (A' = none → c' = 0) → n' ≤ c' → Ps w0 w0.heap.size D' m' d.ps → Calls Try.prog 12 #[.agg #[.int .u8 (K.toNat : Int), .int .u8 (F.toNat : Int), .int .i64 S, .slice A' n' c', .int .i64 d.pd, .int .i64 d.la, .int .i64 d.ic, .int .u32 (d.co.toNat : Int), .slice D' m' e', .bool d.rk, .bool d.al, .int .i64 d.dp, .int .u8 (d.wt.toNat : Int)]] w0 fun e w' => ∃ v, e = .returned (.tuple #[v, .int .i64 0]) ∧ OwnB w' w0.heap.size 5 v (putR d) ∧ Below w0.heap.size w0 w') := Lib.hid (fun A' n' c' D' m' e' w0 h1 h2 h3 h4 => by have h := p_put d A' D' n' c' m' e' w0 h1 h2 h3 (by have := h1.1; omega) h4 (by have := h4.1; omega); rw [show putRE d = 0 by unfold putRE; rw [hs]; rfl] at h; unfold frv at h; rw [ek, ef, es] at h; exact h)
  have HRI : Hid (∀ A' n' c' D' m' e' w0, Bs w0 w0.heap.size A' n' d.da → (A' = none → c' = 0) → n' ≤ c' → Ps w0 w0.heap.size D' m' d.ps → Calls Try.prog 13 #[.agg #[.int .u8 (K.toNat : Int), .int .u8 (F.toNat : Int), .int .i64 S, .slice A' n' c', .int .i64 d.pd, .int .i64 d.la, .int .i64 d.ic, .int .u32 (d.co.toNat : Int), .slice D' m' e', .bool d.rk, .bool d.al, .int .i64 d.dp, .int .u8 (d.wt.toNat : Int)]] w0 fun e w' => e = .returned (.bool true) ∧ Below w0.heap.size w0 w') := Lib.hid (fun A' n' c' D' m' e' w0 h1 h2 h3 h4 => by have h := p_right d A' D' n' c' m' e' w0 h1 h2 h3 (by have := h1.1; omega) h4 (by have := h4.1; omega); rw [hs] at h; unfold frv at h; rw [ek, ef, es] at h; exact h)
  clear hNB
  clear hA hN hlen hs ek ef es hdl hpl
  go_enter Try.func4, Try.ntmps4
  go_wp2_with (first
    | ((with_reducible refine at_wp ?_); refine at_load 35 (.tmp 2) (by rfl) ?_; refine wpList_load_row (by rfl) 35 (.tmp 2) (by rfl) (w.heap.size) (by rfl) 35 #[.int .i64 L, .int .u8 (K.toNat : Int), .int .u8 (F.toNat : Int), .int .i64 S] (0, 0) _ (K0.out.row 0 rfl) Try.underlying35 (by rfl) info_H ?_)
    | (go_at_call 15; (refine (HPA.out _ (K0.out.s (A, n, xs) (by simp)).1).mono ?_); rintro e w1 ⟨A7, n7, c7, A8, n8, c8, rfl, hh, hp, hb⟩; have K1 : Hid (EnvB w1 [(A7, n7, d.da), (A, n, xs)] [(A8, n8, d.ps)] [(w.heap.size, #[.int .i64 L, .int .u8 (K.toNat : Int), .int .u8 (F.toNat : Int), .int .i64 S], 35)]) := Lib.hid (handB K0.out hb hh hp); have B1 := Lib.hid (below_step B0.out hb); have HC7 := Lib.hid hh.2.2; clear hh hp; clear hb K0 B0; have leo := B1.out.size; have K2 : Hid (EnvB ((w1.alloc (.cells #[.int .u8 0, .int .u8 0, .int .i64 0, .slice none 0 0, .int .i64 0, .int .i64 0, .int .i64 0, .int .u32 0, .slice none 0 0, .bool false, .bool false, .int .i64 0, .int .u8 0] 28)).alloc (.cells #[.bool false, .int .i64 0, .int .u32 0] 39)) [(A7, n7, d.da), (A, n, xs)] [(A8, n8, d.ps)] [(w1.heap.size + 1, #[.bool false, .int .i64 0, .int .u32 0], 39), (w1.heap.size, #[.int .u8 0, .int .u8 0, .int .i64 0, .slice none 0 0, .int .i64 0, .int .i64 0, .int .i64 0, .int .u32 0, .slice none 0 0, .bool false, .bool false, .int .i64 0, .int .u8 0], 28), (w.heap.size, #[.int .i64 L, .int .u8 (K.toNat : Int), .int .u8 (F.toNat : Int), .int .i64 S], 35)]) := Lib.hid ((K1.out.box 28 #[.int .u8 0, .int .u8 0, .int .i64 0, .slice none 0 0, .int .i64 0, .int .i64 0, .int .i64 0, .int .u32 0, .slice none 0 0, .bool false, .bool false, .int .i64 0, .int .u8 0]).boxg 39 #[.bool false, .int .i64 0, .int .u32 0] (w1.heap.size + 1) (by simp)); have B2 := Lib.hid ((B1.out.alloc B1.out.size (.cells #[.int .u8 0, .int .u8 0, .int .i64 0, .slice none 0 0, .int .i64 0, .int .i64 0, .int .i64 0, .int .u32 0, .slice none 0 0, .bool false, .bool false, .int .i64 0, .int .u8 0] 28)).alloc (Nat.le_trans B1.out.size (by simp)) (.cells #[.bool false, .int .i64 0, .int .u32 0] 39)); clear K1 B1)
    | ((with_reducible refine at_wp ?_); refine at_store 28 (.tmp 5) (.tmp 17) (by rfl) ?_; refine wpList_put (by rfl) 28 (.tmp 5) (.tmp 17) (by rfl) (w1.heap.size) 0 (.agg #[.int .u8 (K.toNat : Int), .int .u8 (F.toNat : Int), .int .i64 S, .slice A7 n7 c7, .int .i64 d.pd, .int .i64 d.la, .int .i64 d.ic, .int .u32 (d.co.toNat : Int), .slice A8 n8 c8, .bool d.rk, .bool d.al, .int .i64 d.dp, .int .u8 (d.wt.toNat : Int)]) (by rfl) (by rfl) 28 #[.int .u8 0, .int .u8 0, .int .i64 0, .slice none 0 0, .int .i64 0, .int .i64 0, .int .i64 0, .int .u32 0, .slice none 0 0, .bool false, .bool false, .int .i64 0, .int .u8 0] #[.int .u8 (K.toNat : Int), .int .u8 (F.toNat : Int), .int .i64 S, .slice A7 n7 c7, .int .i64 d.pd, .int .i64 d.la, .int .i64 d.ic, .int .u32 (d.co.toNat : Int), .slice A8 n8 c8, .bool d.rk, .bool d.al, .int .i64 d.dp, .int .u8 (d.wt.toNat : Int)] (K2.out.row 1 rfl) (by simp [Value.cells]) (by kernel_rfl) info_F (by kernel_rfl) ?_; intro w3 hrow hoth hz hbl; have K3 : Hid (EnvB w3 [(A7, n7, d.da), (A, n, xs)] [(A8, n8, d.ps)] [(w1.heap.size + 1, #[.bool false, .int .i64 0, .int .u32 0], 39), (w1.heap.size, #[.int .u8 (K.toNat : Int), .int .u8 (F.toNat : Int), .int .i64 S, .slice A7 n7 c7, .int .i64 d.pd, .int .i64 d.la, .int .i64 d.ic, .int .u32 (d.co.toNat : Int), .slice A8 n8 c8, .bool d.rk, .bool d.al, .int .i64 d.dp, .int .u8 (d.wt.toNat : Int)], 28), (w.heap.size, #[.int .i64 L, .int .u8 (K.toNat : Int), .int .u8 (F.toNat : Int), .int .i64 S], 35)]) := Lib.hid (K2.out.turn 1 rfl hrow hoth hz); have B3 := Lib.hid (hbl _ _ leo B2.out); clear hrow hoth hz hbl K2 B2)
    | ((with_reducible refine at_wp ?_); refine at_store 39 (.tmp 6) (.tmp 18) (by rfl) ?_; refine wpList_put (by rfl) 39 (.tmp 6) (.tmp 18) (by rfl) (w1.heap.size + 1) 0 (.agg #[.bool false, .int .i64 0, .int .u32 0]) (by rfl) (by rfl) 39 #[.bool false, .int .i64 0, .int .u32 0] #[.bool false, .int .i64 0, .int .u32 0] (K3.out.row 0 rfl) (by simp [Value.cells]) (by kernel_rfl) info_X (by kernel_rfl) ?_; intro w4 hrow hoth hz hbl; have K4 : Hid (EnvB w4 [(A7, n7, d.da), (A, n, xs)] [(A8, n8, d.ps)] [(w1.heap.size + 1, #[.bool false, .int .i64 0, .int .u32 0], 39), (w1.heap.size, #[.int .u8 (K.toNat : Int), .int .u8 (F.toNat : Int), .int .i64 S, .slice A7 n7 c7, .int .i64 d.pd, .int .i64 d.la, .int .i64 d.ic, .int .u32 (d.co.toNat : Int), .slice A8 n8 c8, .bool d.rk, .bool d.al, .int .i64 d.dp, .int .u8 (d.wt.toNat : Int)], 28), (w.heap.size, #[.int .i64 L, .int .u8 (K.toNat : Int), .int .u8 (F.toNat : Int), .int .i64 S], 35)]) := Lib.hid (K3.out.turn 0 rfl hrow hoth hz); have B4 := Lib.hid (hbl _ _ (Nat.le_succ_of_le leo) B3.out); clear hrow hoth hz hbl K3 B3)
    | ((with_reducible refine at_wp ?_); refine at_load 4 (.tmp 20) (by rfl) ?_; refine wpList_get_g (by rfl) 4 (.tmp 20) (by rfl) (w1.heap.size + 1) 0 (by rfl) 39 #[.bool false, .int .i64 0, .int .u32 0] (.bool false) _ (K4.out.row 0 rfl) (by rfl) Try.underlying4 (by rfl) ?_)
    | ((with_reducible refine at_wp ?_); refine at_load 23 (.tmp 39) (by rfl) ?_; refine wpList_get_g (by rfl) 23 (.tmp 39) (by rfl) (w1.heap.size + 1) 2 (by rfl) 39 #[.bool false, .int .i64 0, .int .u32 0] (.int .u32 0) _ (K4.out.row 0 rfl) (by rfl) Try.underlying23 (by rfl) ?_)
    | ((with_reducible refine at_wp ?_); refine at_load 28 (.tmp 5) (by rfl) ?_; refine wpList_load_row (by rfl) 28 (.tmp 5) (by rfl) (w1.heap.size) (by rfl) 28 #[.int .u8 (K.toNat : Int), .int .u8 (F.toNat : Int), .int .i64 S, .slice A7 n7 c7, .int .i64 d.pd, .int .i64 d.la, .int .i64 d.ic, .int .u32 (d.co.toNat : Int), .slice A8 n8 c8, .bool d.rk, .bool d.al, .int .i64 d.dp, .int .u8 (d.wt.toNat : Int)] (0, 0) _ (K4.out.row 1 rfl) Try.underlying28 (by rfl) info_F ?_)
    | (go_at_call 12; (refine (HPUT.out A7 n7 c7 A8 n8 c8 _ (K4.out.s (A7, n7, d.da) (by simp)).1 HC7.out.2 HC7.out.1 (K4.out.p (A8, n8, d.ps) (by simp)).1).mono ?_); rintro e w5 ⟨v9, rfl, ho, hb⟩; obtain ⟨A9, c9, rfl, hh⟩ := ho.handS HNB.out; have K5 : Hid (EnvB w5 [(A7, n7, d.da), (A, n, xs)] [(A8, n8, d.ps)] [(w1.heap.size + 1, #[.bool false, .int .i64 0, .int .u32 0], 39), (w1.heap.size, #[.int .u8 (K.toNat : Int), .int .u8 (F.toNat : Int), .int .i64 S, .slice A7 n7 c7, .int .i64 d.pd, .int .i64 d.la, .int .i64 d.ic, .int .u32 (d.co.toNat : Int), .slice A8 n8 c8, .bool d.rk, .bool d.al, .int .i64 d.dp, .int .u8 (d.wt.toNat : Int)], 28), (w.heap.size, #[.int .i64 L, .int .u8 (K.toNat : Int), .int .u8 (F.toNat : Int), .int .i64 S], 35)]) := Lib.hid (K4.out.on hb); have B5 := Lib.hid (below_step B4.out hb); clear ho hh; clear hb K4 B4)
    | ((with_reducible refine at_wp ?_); refine at_load 5 (.tmp 95) (by rfl) ?_; refine wpList_get_g (by rfl) 5 (.tmp 95) (by rfl) (w1.heap.size) 0 (by rfl) 28 #[.int .u8 (K.toNat : Int), .int .u8 (F.toNat : Int), .int .i64 S, .slice A7 n7 c7, .int .i64 d.pd, .int .i64 d.la, .int .i64 d.ic, .int .u32 (d.co.toNat : Int), .slice A8 n8 c8, .bool d.rk, .bool d.al, .int .i64 d.dp, .int .u8 (d.wt.toNat : Int)] (.int .u8 (K.toNat : Int)) _ (K5.out.row 1 rfl) (by rfl) Try.underlying5 (by rfl) ?_)
    | ((with_reducible refine at_wp ?_); refine at_load 5 (.tmp 97) (by rfl) ?_; refine wpList_get_g (by rfl) 5 (.tmp 97) (by rfl) (w.heap.size) 1 (by rfl) 35 #[.int .i64 L, .int .u8 (K.toNat : Int), .int .u8 (F.toNat : Int), .int .i64 S] (.int .u8 (K.toNat : Int)) _ (K5.out.row 2 rfl) (by rfl) Try.underlying5 (by rfl) ?_)
    | ((with_reducible refine at_wp ?_); refine at_load 5 (.tmp 102) (by rfl) ?_; refine wpList_get_g (by rfl) 5 (.tmp 102) (by rfl) (w1.heap.size) 1 (by rfl) 28 #[.int .u8 (K.toNat : Int), .int .u8 (F.toNat : Int), .int .i64 S, .slice A7 n7 c7, .int .i64 d.pd, .int .i64 d.la, .int .i64 d.ic, .int .u32 (d.co.toNat : Int), .slice A8 n8 c8, .bool d.rk, .bool d.al, .int .i64 d.dp, .int .u8 (d.wt.toNat : Int)] (.int .u8 (F.toNat : Int)) _ (K5.out.row 1 rfl) (by rfl) Try.underlying5 (by rfl) ?_)
    | ((with_reducible refine at_wp ?_); refine at_load 5 (.tmp 104) (by rfl) ?_; refine wpList_get_g (by rfl) 5 (.tmp 104) (by rfl) (w.heap.size) 2 (by rfl) 35 #[.int .i64 L, .int .u8 (K.toNat : Int), .int .u8 (F.toNat : Int), .int .i64 S] (.int .u8 (F.toNat : Int)) _ (K5.out.row 2 rfl) (by rfl) Try.underlying5 (by rfl) ?_)
    | ((with_reducible refine at_wp ?_); refine at_load 3 (.tmp 109) (by rfl) ?_; refine wpList_get_g (by rfl) 3 (.tmp 109) (by rfl) (w1.heap.size) 2 (by rfl) 28 #[.int .u8 (K.toNat : Int), .int .u8 (F.toNat : Int), .int .i64 S, .slice A7 n7 c7, .int .i64 d.pd, .int .i64 d.la, .int .i64 d.ic, .int .u32 (d.co.toNat : Int), .slice A8 n8 c8, .bool d.rk, .bool d.al, .int .i64 d.dp, .int .u8 (d.wt.toNat : Int)] (.int .i64 S) _ (K5.out.row 1 rfl) (by rfl) Try.underlying3 (by rfl) ?_)
    | ((with_reducible refine at_wp ?_); refine at_load 3 (.tmp 111) (by rfl) ?_; refine wpList_get_g (by rfl) 3 (.tmp 111) (by rfl) (w.heap.size) 3 (by rfl) 35 #[.int .i64 L, .int .u8 (K.toNat : Int), .int .u8 (F.toNat : Int), .int .i64 S] (.int .i64 S) _ (K5.out.row 2 rfl) (by rfl) Try.underlying3 (by rfl) ?_)
    | ((with_reducible refine at_wp ?_); refine at_load 28 (.tmp 5) (by rfl) ?_; refine wpList_row_g (by rfl) 28 (.tmp 5) (by rfl) (w1.heap.size) (by rfl) 28 #[.int .u8 (K.toNat : Int), .int .u8 (F.toNat : Int), .int .i64 S, .slice A7 n7 c7, .int .i64 d.pd, .int .i64 d.la, .int .i64 d.ic, .int .u32 (d.co.toNat : Int), .slice A8 n8 c8, .bool d.rk, .bool d.al, .int .i64 d.dp, .int .u8 (d.wt.toNat : Int)] _ (K5.out.row 1 rfl) Try.underlying28 (by rfl) info_F ?_)
    | (go_at_call 13; (refine (HRI.out A7 n7 c7 A8 n8 c8 _ (K5.out.s (A7, n7, d.da) (by simp)).1 HC7.out.2 HC7.out.1 (K5.out.p (A8, n8, d.ps) (by simp)).1).mono ?_); rintro e w6 ⟨rfl, hb⟩; have K6 : Hid (EnvB w6 [(A7, n7, d.da), (A, n, xs)] [(A8, n8, d.ps)] [(w1.heap.size + 1, #[.bool false, .int .i64 0, .int .u32 0], 39), (w1.heap.size, #[.int .u8 (K.toNat : Int), .int .u8 (F.toNat : Int), .int .i64 S, .slice A7 n7 c7, .int .i64 d.pd, .int .i64 d.la, .int .i64 d.ic, .int .u32 (d.co.toNat : Int), .slice A8 n8 c8, .bool d.rk, .bool d.al, .int .i64 d.dp, .int .u8 (d.wt.toNat : Int)], 28), (w.heap.size, #[.int .i64 L, .int .u8 (K.toNat : Int), .int .u8 (F.toNat : Int), .int .i64 S], 35)]) := Lib.hid (K5.out.on hb); have B6 := Lib.hid (below_step B5.out hb); clear hb K5 B5)
    | (go_at_call 11; (refine (wakes4 _).mono ?_); rintro e w7 ⟨rfl, hb⟩; have K7 : Hid (EnvB w7 [(A7, n7, d.da), (A, n, xs)] [(A8, n8, d.ps)] [(w1.heap.size + 1, #[.bool false, .int .i64 0, .int .u32 0], 39), (w1.heap.size, #[.int .u8 (K.toNat : Int), .int .u8 (F.toNat : Int), .int .i64 S, .slice A7 n7 c7, .int .i64 d.pd, .int .i64 d.la, .int .i64 d.ic, .int .u32 (d.co.toNat : Int), .slice A8 n8 c8, .bool d.rk, .bool d.al, .int .i64 d.dp, .int .u8 (d.wt.toNat : Int)], 28), (w.heap.size, #[.int .i64 L, .int .u8 (K.toNat : Int), .int .u8 (F.toNat : Int), .int .i64 S], 35)]) := Lib.hid (K6.out.on hb); have B7 := Lib.hid (below_step B6.out hb); clear hb K6 B6))
  go_ret
  exact ⟨rfl, B7.out⟩
theorem whole4_any (L S : Int) (K F : UInt8) (A : Option Addr) (n c : Nat) (xs : List UInt8) (w : World) (hA : Bs w w.heap.size A n xs) (hN : A = none → c = 0) (hnc : n ≤ c) : Calls Try.prog 4 #[.agg #[.int .i64 L, .int .u8 (K.toNat : Int), .int .u8 (F.toNat : Int), .int .i64 S], .slice A n c] w fun e' w' => e' = .returned (.bool true) ∧ Below w.heap.size w w' := by
  by_cases hg : 3000 < n
  · exact whole4_G L S K F A n c xs w hA hN hnc (by omega)
  · have hx : xs.length = n := hA.1
    have hp := fun (w0 : World) (h : Bs w0 w0.heap.size A n xs) => p_parse L S K F A n c xs w0 h hN (by omega) hnc
    rcases parse_ways K F S xs with ⟨x2, h2, e⟩ | ⟨d, x2, h2, e, ek, es, hk⟩ | ⟨d, e⟩
    · rw [e] at hp
      refine whole4_W L S K F A n c xs w hA hN hnc (by omega) (x2 : Int) (by simpa using h2) (Lib.hid (fun w0 h => (hp w0 h).mono ?_))
      rintro e w' ⟨A7, n7, c7, A8, n8, c8, rfl, h1, h3, hb⟩
      obtain rfl : n7 = 0 := h1.1.1.symm
      obtain rfl : n8 = 0 := h3.1.1.symm
      exact ⟨A7, c7, A8, c8, rfl, h1, h3, hb⟩
    · rw [e] at hp
      unfold frv at hp
      simp only [ek, es] at hp
      refine whole4_S L S K F A n c xs w hA hN hnc (by omega) d (x2 : Int) (by simpa using h2) _ _ _ rfl rfl rfl ?_ (Lib.hid hp)
      rcases hk with h | h | h
      · exact .inl (by rw [h]; rfl)
      · exact .inr (.inl ⟨by rw [h]; rfl, by rw [h]; rfl⟩)
      · exact .inr (.inr ⟨by rw [h]; rfl, by rw [h]; rfl, by rw [h]; rfl⟩)
    · obtain ⟨a1, a2, a3, ek, ef, es⟩ := again e
      have hs : standB d = true := by
        unfold standB
        exact decide_eq_true ⟨a1, by rw [ek, ef, es]; exact a3⟩
      have hh := stand_head hs
      have hlen : (putR d).length = n + 9 := by
        unfold putR hpV
        rw [if_pos hs, if_pos hh.2.2.1, List.length_append, hdBytes_length, a2]
        omega
      have hps := parseR_ps K F S xs
      rw [e] at hps hp
      have hdd : d.da.length ≤ xs.length := by
        have := parseR_da K F S xs
        rw [e] at this
        exact this
      unfold frv at hp
      simp only [ek, ef, es] at hp
      simp only at hps
      exact whole4_Y L S K F A n c xs w hA hN hnc (by omega) d hs hlen (by omega) (by omega) ek ef es (Lib.hid hp)
end Go.Proofs.Ytgkbjopgmbdnoaa
