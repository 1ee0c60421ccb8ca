/- The document's layer 7: Code, Of, Bits, Shorter. -/
import Derived.Test.YtfjmgfahlicleaaDoorHfR
import Derived.Test.YtfjmgfahlicleaaDoorHfG
namespace Go.Proofs.YtfjmgfahlicleaaDoor
open Go.RowKit Hf Oct
set_option linter.unusedVariables false
set_option linter.unusedSimpArgs false
set_option maxHeartbeats 1000000 in
theorem r_code (c : UInt8) (X : Int) (w : World) (hX : X = (c.toNat : Int)) :
    Calls Tryd.prog 10 #[.int .u8 X] w fun e w' => e = .returned (.tuple #[.int .i64 (cod c : Int), .int .i64 (mny c : Int)]) ∧ w = w' := by
  subst hX
  have h3 := rowOf_le c
  have hmn : mny c = rowM (rowOf c) := rfl
  have hx := ix_hit c
  have hge := rowF_le c
  have hrng := cod_range c
  have h4 : rowOf c = 0 ∨ rowOf c = 1 ∨ rowOf c = 2 ∨ rowOf c = 3 := by omega
  rcases h4 with he | he | he | he
  · rw [he] at hmn hx hge
    obtain ⟨X, hXc⟩ : ∃ X : Nat, cod c = 0 + X := ⟨cod c - 0, by simp only [rowF] at hge; omega⟩
    have hxx : Lib.indexByte (rowL 0) c = (X : Int) := by rw [hx, hXc, Int.natCast_add]; simp only [rowF]; omega
    have hX2 : X < 2000 := by omega
    have HP0 : Hid (Calls Tryd.prog 25 #[.string { data := #[45, 47, 48, 49, 50, 51, 97, 99, 101, 105, 110, 111, 114, 115, 116, 117] }, .int .u8 (c.toNat : Int)] w fun e w' => e = .returned (.int .i64 (X : Int)) ∧ w = w') := Lib.hid (by rw [← hxx]; exact r_place { data := #[45, 47, 48, 49, 50, 51, 97, 99, 101, 105, 110, 111, 114, 115, 116, 117] } c _ w (by decide) rfl)
    have HX := Lib.hid hXc
    have HM := Lib.hid hmn
    clear  hxx hXc hmn hx hge hrng he h3
    go_enter Tryd.func10, Tryd.ntmps10
    go_wp2_with (first
      | (go_at_call 25; (with_reducible refine (HP0.out).mono ?_); rintro e w' ⟨rfl, rfl⟩))
    go_ret2
    exact ⟨by rw [HX.out, HM.out]; simp [rowM], rfl⟩
  · rw [he] at hmn hx hge
    have m0 : Lib.indexByte (rowL 0) c = -1 := ix_miss c (by omega) (by omega)
    obtain ⟨X, hXc⟩ : ∃ X : Nat, cod c = 32 + X := ⟨cod c - 32, by simp only [rowF] at hge; omega⟩
    have hxx : Lib.indexByte (rowL 1) c = (X : Int) := by rw [hx, hXc, Int.natCast_add]; simp only [rowF]; omega
    have hX2 : X < 2000 := by omega
    have HP0 : Hid (Calls Tryd.prog 25 #[.string { data := #[45, 47, 48, 49, 50, 51, 97, 99, 101, 105, 110, 111, 114, 115, 116, 117] }, .int .u8 (c.toNat : Int)] w fun e w' => e = .returned (.int .i64 (-1)) ∧ w = w') := Lib.hid (by rw [← m0]; exact r_place { data := #[45, 47, 48, 49, 50, 51, 97, 99, 101, 105, 110, 111, 114, 115, 116, 117] } c _ w (by decide) rfl)
    have HP1 : Hid (Calls Tryd.prog 25 #[.string { data := #[46, 52, 53, 54, 55, 56, 57, 58, 98, 100, 102, 103, 104, 108, 109, 112] }, .int .u8 (c.toNat : Int)] w fun e w' => e = .returned (.int .i64 (X : Int)) ∧ w = w') := Lib.hid (by rw [← hxx]; exact r_place { data := #[46, 52, 53, 54, 55, 56, 57, 58, 98, 100, 102, 103, 104, 108, 109, 112] } c _ w (by decide) rfl)
    have HX := Lib.hid hXc
    have HM := Lib.hid hmn
    clear m0 hxx hXc hmn hx hge hrng he h3
    go_enter Tryd.func10, Tryd.ntmps10
    go_wp2_with (first
      | (go_at_call 25; (with_reducible refine (HP0.out).mono ?_); rintro e w' ⟨rfl, rfl⟩)
      | (go_at_call 25; (with_reducible refine (HP1.out).mono ?_); rintro e w' ⟨rfl, rfl⟩))
    go_ret2
    exact ⟨by rw [HX.out, HM.out]; simp [rowM], rfl⟩
  · rw [he] at hmn hx hge
    have m0 : Lib.indexByte (rowL 0) c = -1 := ix_miss c (by omega) (by omega)
    have m1 : Lib.indexByte (rowL 1) c = -1 := ix_miss c (by omega) (by omega)
    obtain ⟨X, hXc⟩ : ∃ X : Nat, cod c = 96 + X := ⟨cod c - 96, by simp only [rowF] at hge; omega⟩
    have hxx : Lib.indexByte (rowL 2) c = (X : Int) := by rw [hx, hXc, Int.natCast_add]; simp only [rowF]; omega
    have hX2 : X < 2000 := by omega
    have HP0 : Hid (Calls Tryd.prog 25 #[.string { data := #[45, 47, 48, 49, 50, 51, 97, 99, 101, 105, 110, 111, 114, 115, 116, 117] }, .int .u8 (c.toNat : Int)] w fun e w' => e = .returned (.int .i64 (-1)) ∧ w = w') := Lib.hid (by rw [← m0]; exact r_place { data := #[45, 47, 48, 49, 50, 51, 97, 99, 101, 105, 110, 111, 114, 115, 116, 117] } c _ w (by decide) rfl)
    have HP1 : Hid (Calls Tryd.prog 25 #[.string { data := #[46, 52, 53, 54, 55, 56, 57, 58, 98, 100, 102, 103, 104, 108, 109, 112] }, .int .u8 (c.toNat : Int)] w fun e w' => e = .returned (.int .i64 (-1)) ∧ w = w') := Lib.hid (by rw [← m1]; exact r_place { data := #[46, 52, 53, 54, 55, 56, 57, 58, 98, 100, 102, 103, 104, 108, 109, 112] } c _ w (by decide) rfl)
    have HP2 : Hid (Calls Tryd.prog 25 #[.string { data := #[65, 66, 67, 68, 69, 70, 71, 72, 106, 107, 113, 118, 119, 120, 121, 122] }, .int .u8 (c.toNat : Int)] w fun e w' => e = .returned (.int .i64 (X : Int)) ∧ w = w') := Lib.hid (by rw [← hxx]; exact r_place { data := #[65, 66, 67, 68, 69, 70, 71, 72, 106, 107, 113, 118, 119, 120, 121, 122] } c _ w (by decide) rfl)
    have HX := Lib.hid hXc
    have HM := Lib.hid hmn
    clear m0 m1 hxx hXc hmn hx hge hrng he h3
    go_enter Tryd.func10, Tryd.ntmps10
    go_wp2_with (first
      | (go_at_call 25; (with_reducible refine (HP0.out).mono ?_); rintro e w' ⟨rfl, rfl⟩)
      | (go_at_call 25; (with_reducible refine (HP1.out).mono ?_); rintro e w' ⟨rfl, rfl⟩)
      | (go_at_call 25; (with_reducible refine (HP2.out).mono ?_); rintro e w' ⟨rfl, rfl⟩))
    go_ret2
    exact ⟨by rw [HX.out, HM.out]; simp [rowM], rfl⟩
  · rw [he] at hmn hx hge
    have m0 : Lib.indexByte (rowL 0) c = -1 := ix_miss c (by omega) (by omega)
    have m1 : Lib.indexByte (rowL 1) c = -1 := ix_miss c (by omega) (by omega)
    have m2 : Lib.indexByte (rowL 2) c = -1 := ix_miss c (by omega) (by omega)
    obtain ⟨X, hXc⟩ : ∃ X : Nat, cod c = 1792 + X := ⟨cod c - 1792, by simp only [rowF] at hge; omega⟩
    have HP0 : Hid (Calls Tryd.prog 25 #[.string { data := #[45, 47, 48, 49, 50, 51, 97, 99, 101, 105, 110, 111, 114, 115, 116, 117] }, .int .u8 (c.toNat : Int)] w fun e w' => e = .returned (.int .i64 (-1)) ∧ w = w') := Lib.hid (by rw [← m0]; exact r_place { data := #[45, 47, 48, 49, 50, 51, 97, 99, 101, 105, 110, 111, 114, 115, 116, 117] } c _ w (by decide) rfl)
    have HP1 : Hid (Calls Tryd.prog 25 #[.string { data := #[46, 52, 53, 54, 55, 56, 57, 58, 98, 100, 102, 103, 104, 108, 109, 112] }, .int .u8 (c.toNat : Int)] w fun e w' => e = .returned (.int .i64 (-1)) ∧ w = w') := Lib.hid (by rw [← m1]; exact r_place { data := #[46, 52, 53, 54, 55, 56, 57, 58, 98, 100, 102, 103, 104, 108, 109, 112] } c _ w (by decide) rfl)
    have HP2 : Hid (Calls Tryd.prog 25 #[.string { data := #[65, 66, 67, 68, 69, 70, 71, 72, 106, 107, 113, 118, 119, 120, 121, 122] }, .int .u8 (c.toNat : Int)] w fun e w' => e = .returned (.int .i64 (-1)) ∧ w = w') := Lib.hid (by rw [← m2]; exact r_place { data := #[65, 66, 67, 68, 69, 70, 71, 72, 106, 107, 113, 118, 119, 120, 121, 122] } c _ w (by decide) rfl)
    have hcn := all_bytes (p := fun c => rowOf c = 3 → cod c = 1792 + cnt c.toNat) (fun n h => by have := cnt_codF n h; rw [this]; simp) c he
    have hX3 : cnt c.toNat = X := by omega
    have hX2 : X < 2000 := by omega
    have HO : Hid (Calls Tryd.prog 26 #[.int .u8 (c.toNat : Int)] w fun e w' => e = .returned (.int .i64 (X : Int)) ∧ w = w') := Lib.hid (by rw [← hX3]; exact r_others c.toNat w (by have := c.toNat_lt; omega))
    have HX := Lib.hid hXc
    have HM := Lib.hid hmn
    clear m0 m1 m2 hcn hX3 hXc hmn hx hge hrng he h3
    go_enter Tryd.func10, Tryd.ntmps10
    go_wp2_with (first
      | (go_at_call 25; (with_reducible refine (HP0.out).mono ?_); rintro e w' ⟨rfl, rfl⟩)
      | (go_at_call 25; (with_reducible refine (HP1.out).mono ?_); rintro e w' ⟨rfl, rfl⟩)
      | (go_at_call 25; (with_reducible refine (HP2.out).mono ?_); rintro e w' ⟨rfl, rfl⟩)
      | (go_at_call 26; (with_reducible refine HO.out.mono ?_); rintro e w' ⟨rfl, rfl⟩))
    go_ret2
    exact ⟨by rw [HX.out, HM.out]; simp [rowM], rfl⟩
set_option maxRecDepth 100000 in
set_option maxHeartbeats 1000000 in
theorem r_of (code many : Int) (w : World) :
    Calls Tryd.prog 12 #[.int .i64 code, .int .i64 many] w fun e w' => e = .returned (.tuple #[.int .u8 (fnV code many), .bool (fnS code many)]) ∧ w = w' := by
  go_enter Tryd.func12, Tryd.ntmps12
  go_wp2
  go_loop [6] (fun t => ∃ k : Nat, k ≤ 256 ∧ t = .int .i64 (k : Int) ∧ ∀ j, j < k → ¬ (code = (cod (UInt8.ofNat j) : Int) ∧ many = (mny (UInt8.ofNat j) : Int))) (fun t => 256 - (intOf t).toNat)
  case atStart => exact ⟨0, Nat.zero_le _, rfl, fun j hj => absurd hj (Nat.not_lt_zero _)⟩
  case round =>
    obtain ⟨k, hk, rfl, hno⟩ := hrel
    have HN := Lib.hid hno
    clear hno
    by_cases hlt : k < 256
    · have hkn : (((UInt8.ofNat k).toNat : Nat) : Int) = (k : Int) := by simp; omega
      have HKN := Lib.hid hkn
      have HP := Lib.hid (r_code (UInt8.ofNat k) (k : Int) w hkn.symm)
      clear hkn
      by_cases hh : code = (cod (UInt8.ofNat k) : Int) ∧ many = (mny (UInt8.ofNat k) : Int)
      · have hf := find_iff.2 hh
        have hV : fnV code many = (k : Int) := by unfold fnV; rw [hf]; exact HKN.out
        have hS : fnS code many = true := by unfold fnS; rw [hf]; rfl
        have HV := Lib.hid hV
        have HS := Lib.hid hS
        obtain ⟨rfl, rfl⟩ := hh
        clear hf hV hS
        generalize cod (UInt8.ofNat k) = C at HP ⊢
        generalize mny (UInt8.ofNat k) = M at HP ⊢
        go_wp2_with (go_at_call 10; (with_reducible refine HP.out.mono ?_); rintro e w' ⟨rfl, rfl⟩)
        go_ret2
        exact ⟨by rw [HV.out, HS.out]; first | rfl | (congr 3; omega), rfl⟩
      · have HH := Lib.hid hh
        generalize hCC : cod (UInt8.ofNat k) = C at *
        generalize hMM : mny (UInt8.ofNat k) = M at *
        have HC := Lib.hid hCC
        have HM := Lib.hid hMM
        by_cases h1 : (C : Int) = code
        · have q1 : ((C : Int) == code) = true := by simpa using h1
          have q2 : ((M : Int) == many) = false := by
            simp only [beq_eq_false_iff_ne, ne_eq]
            intro e
            exact hh ⟨h1.symm, e.symm⟩
          clear hh h1 hCC hMM
          go_wp2_with (go_at_call 10; (with_reducible refine HP.out.mono ?_); rintro e w' ⟨rfl, rfl⟩)
          go_round
          case rel => exact ⟨k + 1, by omega, by go_num, fun j hj => by
            by_cases h : j < k
            · exact HN.out j h
            · obtain rfl : j = k := by omega
              rw [HC.out, HM.out]
              exact HH.out⟩
          case measure => simp [intOf]; omega
        · have q1 : ((C : Int) == code) = false := by simpa using h1
          clear hh h1 hCC hMM
          go_wp2_with (go_at_call 10; (with_reducible refine HP.out.mono ?_); rintro e w' ⟨rfl, rfl⟩)
          go_round
          case rel => exact ⟨k + 1, by omega, by go_num, fun j hj => by
            by_cases h : j < k
            · exact HN.out j h
            · obtain rfl : j = k := by omega
              rw [HC.out, HM.out]
              exact HH.out⟩
          case measure => simp [intOf]; omega
    · obtain rfl : k = 256 := by omega
      have hf : findN code many = none := by
        cases hq : findN code many with
        | none => rfl
        | some c =>
          have h1 := find_iff.1 hq
          have h2 : UInt8.ofNat c.toNat = c := by simp
          exact absurd (by rw [h2]; exact h1) (HN.out c.toNat (by have := c.toNat_lt; omega))
      have HV : Hid (fnV code many = 0) := Lib.hid (by unfold fnV; rw [hf])
      have HS : Hid (fnS code many = false) := Lib.hid (by unfold fnS; rw [hf]; rfl)
      clear hf
      go_wp2
      go_ret2
      exact ⟨by rw [HV.out, HS.out]; rfl, rfl⟩
set_option maxHeartbeats 1000000 in
theorem r_bits (A : Option Addr) (B n c : Nat) (xs : List UInt8) (w : World) (hA : Bs w B A n xs) (hn : n ≤ 10000) :
    Calls Tryd.prog 16 #[.slice A n c] w fun e w' => e = .returned (.int .i64 ((bl xs).length : Int)) ∧ w = w' := by
  have HA := Lib.hid hA
  clear hA
  go_enter Tryd.func16, Tryd.ntmps16
  go_wp2
  go_loop [3, 4] (fun s t => ∃ k : Nat, k ≤ n ∧ t = .int .i64 (k : Int) ∧ s = .int .i64 ((bl (xs.take k)).length : Int)) (fun _ t => n - (intOf t).toNat)
  case atStart => exact ⟨0, Nat.zero_le _, rfl, rfl⟩
  case round =>
    obtain ⟨k, hk, rfl, rfl⟩ := hrel
    have hle := bl_take_le xs k
    by_cases hlt : k < n
    · obtain ⟨b, o, rfl, hb, hc⟩ := bs_cell HA.out (by omega)
      obtain ⟨x, hx, hcx⟩ := hc k hlt
      have HT := Lib.hid (bl_take hx)
      have hm := mny_bd x
      clear hc hx
      generalize (bl (xs.take k)).length = S at *
      go_wp2_with (go_at_call 10; (with_reducible refine (r_code x _ w rfl).mono ?_); rintro e w1 ⟨rfl, rfl⟩)
      go_round
      case rel => exact ⟨k + 1, by omega, by go_num, by rw [HT.out]; go_num⟩
      case measure => simp [intOf]; omega
    · obtain rfl : k = n := by omega
      have ht : xs.take k = xs := List.take_of_length_le (by rw [HA.out.1]; exact Nat.le_refl _)
      have HT := Lib.hid ht
      clear ht
      go_wp2
      go_ret
      exact ⟨by (try rw [HT.out]); rfl, rfl⟩
theorem r_shorter (A : Option Addr) (B n c : Nat) (xs : List UInt8) (w : World) (hA : Bs w B A n xs) (hn : n ≤ 10000) :
    Calls Tryd.prog 21 #[.slice A n c] w fun e w' => e = .returned (.bool (decide (((bl xs).length + 7) / 8 < n))) ∧ w = w' := by
  have h1 := r_bits A B n c xs w hA hn
  have hle := bl_le xs
  have hl := hA.1
  have hle2 : (bl xs).length ≤ 110000 := by omega
  have H1 := Lib.hid h1
  clear h1 hle hl hA
  generalize (bl xs).length = S at *
  have HD := Lib.hid (show decide (((S : Int) + 7) / 8 < (n : Int)) = decide ((S + 7) / 8 < n) from decide_eq_decide.2 (by omega))
  go_enter Tryd.func21, Tryd.ntmps21
  go_wp2_with (go_at_call 16; (with_reducible refine H1.out.mono ?_); rintro e w1 ⟨rfl, rfl⟩)
  go_ret
  exact ⟨by rw [← HD.out]; rfl, rfl⟩
end Go.Proofs.YtfjmgfahlicleaaDoor
