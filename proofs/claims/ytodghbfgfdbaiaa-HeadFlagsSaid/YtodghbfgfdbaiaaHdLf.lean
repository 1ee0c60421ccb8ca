/- The walk of HeadFlags. -/
import Derived.Test.YtodghbfgfdbaiaaHdS
import Derived.Test.YtodghbfgfdbaiaaGArgs
import Derived.Deep.RegionHeld3
namespace Go.Proofs.Ytodghbfgfdbaiaa
open Go.RowKit Oct

theorem has_raw (L K F S f : Int) (w : World) :
    Calls Try.prog 17 #[.agg #[.int .i64 L, .int .u8 K, .int .u8 F, .int .i64 S], .int .u8 f] w fun e w' => e = .returned (.bool (bits .and .u8 F f == f)) ∧ Below w.heap.size w w' := has_any L K F S f w
def allB (F f : Int) (i : Nat) : Bool := decide (∀ j, j < i → bits .and .u8 f (2 ^ j) ≠ 0 → bits .and .u8 F (2 ^ j) = 2 ^ j)
theorem allB_succ (F f : Int) (i : Nat) (B : Int) (hi : i < 8) (hB : (2 : Int) ^ i % 256 = B) : allB F f (i + 1) = (allB F f i && (!(bits .and .u8 f B != 0) || (bits .and .u8 F B == B))) := by
  have e : (2 : Int) ^ i = B := by
    rw [← hB]
    have : i = 0 ∨ i = 1 ∨ i = 2 ∨ i = 3 ∨ i = 4 ∨ i = 5 ∨ i = 6 ∨ i = 7 := by omega
    rcases this with rfl | rfl | rfl | rfl | rfl | rfl | rfl | rfl <;> decide
  rw [Bool.eq_iff_iff]
  simp only [allB, Bool.and_eq_true, Bool.or_eq_true, decide_eq_true_eq, beq_iff_eq, Bool.not_eq_true', bne_eq_false_iff_eq]
  constructor
  · intro h
    refine ⟨fun j hj => h j (by omega), ?_⟩
    have := h i (by omega)
    rw [e] at this
    by_cases h0 : bits .and .u8 f B = 0
    · exact .inl h0
    · exact .inr (this h0)
  · rintro ⟨h1, h2⟩ j hj
    by_cases hji : j = i
    · subst hji
      rw [e]
      intro h0
      rcases h2 with h2 | h2
      · exact absurd h2 h0
      · exact h2
    · exact h1 j (by omega)
theorem allB_all {F f : Int} (hF0 : 0 ≤ F) (hF : F ≤ 255) (hf0 : 0 ≤ f) (hf : f ≤ 255) : allB F f 8 = (bits .and .u8 F f == f) := by
  obtain ⟨a, rfl⟩ := Int.eq_ofNat_of_zero_le hF0
  obtain ⟨b, rfl⟩ := Int.eq_ofNat_of_zero_le hf0
  have hp : ∀ j : Nat, j < 8 → (2 : Nat) ^ j < 256 := fun j hj => Nat.lt_of_lt_of_le (Nat.pow_lt_pow_right (show 1 < 2 by decide) hj) (by decide)
  have e : ∀ x : Nat, x < 256 → ∀ y : Nat, y < 256 → bits .and .u8 (x : Int) (y : Int) = ((x &&& y : Nat) : Int) := fun x hx y hy => u8_and_nat x y hx hy
  have t : ∀ x j : Nat, x < 256 → j < 8 → (x &&& 2 ^ j = if x.testBit j then 2 ^ j else 0) := fun x j _ _ => by
    apply Nat.eq_of_testBit_eq
    intro k
    rw [Nat.testBit_and, Nat.testBit_two_pow]
    by_cases hk : j = k
    · subst hk
      cases hx : x.testBit j <;> simp
    · cases hx : x.testBit j <;> simp [hk]
  rw [Bool.eq_iff_iff]
  simp only [allB, decide_eq_true_eq, beq_iff_eq]
  rw [e a (by omega) b (by omega)]
  constructor
  · intro h
    have : a &&& b = b := by
      apply Nat.eq_of_testBit_eq
      intro j
      rw [Nat.testBit_and]
      by_cases hj : j < 8
      · have hh := h j hj
        have e2 : ((2 : Int) ^ j) = ((2 ^ j : Nat) : Int) := by simp
        rw [e2, e b (by omega) _ (hp j hj), e a (by omega) _ (hp j hj), t b j (by omega) hj, t a j (by omega) hj] at hh
        have hpos := Nat.two_pow_pos j
        cases hb : b.testBit j
        · simp
        · cases ha : a.testBit j
          · simp [hb, ha] at hh
            omega
          · rfl
      · have : b.testBit j = false := Nat.testBit_lt_two_pow (Nat.lt_of_lt_of_le (show b < 2 ^ 8 by omega) (Nat.pow_le_pow_right (by decide) (by omega)))
        rw [this]; simp
    rw [this]
  · intro h j hj
    have hab : a &&& b = b := by omega
    have e2 : ((2 : Int) ^ j) = ((2 ^ j : Nat) : Int) := by simp
    rw [e2, e b (by omega) _ (hp j hj), e a (by omega) _ (hp j hj), t b j (by omega) hj, t a j (by omega) hj]
    have hpos := Nat.two_pow_pos j
    intro h0
    have hbj : b.testBit j = true := by
      cases hb : b.testBit j
      · simp [hb] at h0
      · rfl
    have : (a &&& b).testBit j = true := by rw [hab]; exact hbj
    rw [Nat.testBit_and, hbj, Bool.and_true] at this
    rw [this]; rfl
theorem and_nought {F : Int} (hF0 : 0 ≤ F) (hF : F ≤ 255) : bits .and .u8 F 0 = 0 := by
  obtain ⟨a, rfl⟩ := Int.eq_ofNat_of_zero_le hF0
  have := u8_and_nat a 0 (by omega) (by decide)
  simpa using this
set_option maxHeartbeats 2000000 in
theorem flags_any (L K F S f : Int) (w : World) (hfin : allB F f 8 = (bits .and .u8 F f == f)) (hz : bits .and .u8 F 0 = 0) :
    Calls Try.prog 6 #[.agg #[.int .i64 L, .int .u8 K, .int .u8 F, .int .i64 S], .int .u8 f] w fun e w' => e = .returned (.bool true) ∧ Below w.heap.size w w' := by
  have HQ0 := Lib.hid (Four.new w 23 (.int .i64 L) (.int .u8 K) (.int .u8 F) (.int .i64 S))
  have HFIN := Lib.hid hfin
  have HZ := Lib.hid hz
  clear hfin hz
  go_enter Try.func6, Try.ntmps6
  go_wp2
  go_loopw [5, 6] (fun a t wr => ∃ i : Nat, i ≤ 8 ∧ t = .int .i64 i ∧ a = .bool (allB F f i) ∧ Four wr w.heap.size (.int .i64 L) (.int .u8 K) (.int .u8 F) (.int .i64 S) ∧ w.heap.size < wr.heap.size ∧ Below w.heap.size w wr) (fun _ t _ => 8 - (intOf t).toNat)
  case atStart => exact ⟨0, by omega, rfl, by simp [allB], HQ0.out, by simp, (Below.refl _ _).alloc (Nat.le_refl _) _⟩
  case round =>
    obtain ⟨i, hi, rfl, rfl, hF, hlt, hb⟩ := hrel
    have HF := Lib.hid hF
    have HB := Lib.hid hb
    obtain ⟨c0, c1, c2, c3⟩ := hF
    clear hb
    by_cases h8 : i < 8
    · have hd : decide ((i : Int) < 8) = true := by simp; omega
      obtain ⟨B, hB⟩ : ∃ B, (2 : Int) ^ i % 256 = B := ⟨_, rfl⟩
      have HA := Lib.hid (allB_succ F f i B h8 hB)
      obtain ⟨q, hq⟩ : ∃ q, (bits .and .u8 F B == B) = q := ⟨_, rfl⟩
      obtain ⟨m, hm⟩ : ∃ m, (bits .and .u8 f B != 0) = m := ⟨_, rfl⟩
      have HR : Hid (∀ W : World, Calls Try.prog 17 #[.agg #[.int .i64 L, .int .u8 K, .int .u8 F, .int .i64 S], .int .u8 B] W fun e w' => e = .returned (.bool q) ∧ Below W.heap.size W w') := Lib.hid (fun W => by rw [← hq]; exact has_raw L K F S B W)
      rw [hm, hq] at HA
      generalize allB F f i = a at *
      cases m
      · go_wp2_with fail
        go_region_held3 (fun W' => W'.cell? ⟨w.heap.size, 0, none⟩ = some (.int .i64 L) ∧ W'.cell? ⟨w.heap.size, 1, none⟩ = some (.int .u8 K) ∧ W'.cell? ⟨w.heap.size, 2, none⟩ = some (.int .u8 F) ∧ W'.cell? ⟨w.heap.size, 3, none⟩ = some (.int .i64 S))
          (first | with_reducible exact fo HF.out | with_reducible exact fod HF.out | with_reducible exact fo HF5.out)
          ((go_at_call 17; refine (HR.out _).mono ?_; rintro e w5 ⟨rfl, hb5⟩; have HF5 := Lib.hid (HF.out.drew.below hb5 hlt); have HB5 := Lib.hid hb5))
        go_wp2_with fail
        go_roundw
        case rel => exact ⟨i + 1, by omega, by go_num, by rw [HA.out]; simp, HF5.out, Nat.lt_of_lt_of_le hlt HB5.out.size, HB.out.drew.trans (HB5.out.mono (Nat.le_of_lt hlt))⟩
        case measure => simp [intOf]; omega
      · cases a
        · go_wp2_with fail
          go_region_held3 (fun W' => W'.cell? ⟨w.heap.size, 0, none⟩ = some (.int .i64 L) ∧ W'.cell? ⟨w.heap.size, 1, none⟩ = some (.int .u8 K) ∧ W'.cell? ⟨w.heap.size, 2, none⟩ = some (.int .u8 F) ∧ W'.cell? ⟨w.heap.size, 3, none⟩ = some (.int .i64 S))
            (first | with_reducible exact fo HF.out | with_reducible exact fod HF.out | with_reducible exact fo HF5.out)
            ((go_at_call 17; refine (HR.out _).mono ?_; rintro e w5 ⟨rfl, hb5⟩; have HF5 := Lib.hid (HF.out.drew.below hb5 hlt); have HB5 := Lib.hid hb5))
          go_wp2_with fail
          go_roundw
          case rel => exact ⟨i + 1, by omega, by go_num, by rw [HA.out]; simp, HF5.out, Nat.lt_of_lt_of_le hlt HB5.out.size, HB.out.drew.trans (HB5.out.mono (Nat.le_of_lt hlt))⟩
          case measure => simp [intOf]; omega
        · go_wp2_with (go_at_call 17; refine (HR.out _).mono ?_; rintro e w4 ⟨rfl, hb4⟩; have HF4 := Lib.hid (HF.out.below hb4 hlt); have hlt4 := Nat.lt_of_lt_of_le hlt hb4.size; have HB4 := Lib.hid (HB.out.trans (hb4.mono (Nat.le_of_lt hlt))); obtain ⟨d0, d1, d2, d3⟩ := HF4.out)
          go_region_held3 (fun W' => W'.cell? ⟨w.heap.size, 0, none⟩ = some (.int .i64 L) ∧ W'.cell? ⟨w.heap.size, 1, none⟩ = some (.int .u8 K) ∧ W'.cell? ⟨w.heap.size, 2, none⟩ = some (.int .u8 F) ∧ W'.cell? ⟨w.heap.size, 3, none⟩ = some (.int .i64 S))
            (first | with_reducible exact fo HF4.out | with_reducible exact fod HF4.out | with_reducible exact fo HF5.out)
            ((go_at_call 17; refine (HR.out _).mono ?_; rintro e w5 ⟨rfl, hb5⟩; have HF5 := Lib.hid (HF4.out.drew.below hb5 hlt4); have HB5 := Lib.hid hb5))
          go_wp2_with fail
          go_roundw
          case rel => exact ⟨i + 1, by omega, by go_num, by rw [HA.out]; simp, HF5.out, Nat.lt_of_lt_of_le hlt4 HB5.out.size, HB4.out.drew.trans (HB5.out.mono (Nat.le_of_lt hlt4))⟩
          case measure => simp [intOf]; omega
    · obtain rfl : i = 8 := by omega
      have HR : Hid (∀ W : World, Calls Try.prog 17 #[.agg #[.int .i64 L, .int .u8 K, .int .u8 F, .int .i64 S], .int .u8 f] W fun e w' => e = .returned (.bool (allB F f 8)) ∧ Below W.heap.size W w') := Lib.hid (fun W => by rw [HFIN.out]; exact has_raw L K F S f W)
      have HR0 : Hid (∀ W : World, Calls Try.prog 17 #[.agg #[.int .i64 L, .int .u8 K, .int .u8 F, .int .i64 S], .int .u8 0] W fun e w' => e = .returned (.bool true) ∧ Below W.heap.size W w') := Lib.hid (fun W => by
        have h := has_raw L K F S 0 W
        rw [HZ.out] at h
        exact h)
      generalize allB F f 8 = a at *
      go_wp2_with (first
        | (go_at_call 17; (with_reducible refine (HR.out _).mono ?_); rintro e w4 ⟨rfl, hb4⟩; have HF4 := Lib.hid (HF.out.below hb4 hlt); have hlt4 := Nat.lt_of_lt_of_le hlt hb4.size; have HB4 := Lib.hid (HB.out.trans (hb4.mono (Nat.le_of_lt hlt))); obtain ⟨d0, d1, d2, d3⟩ := HF4.out)
        | (go_at_call 17; (with_reducible refine (HR0.out _).mono ?_); rintro e w5 ⟨rfl, hb5⟩; have HB5 := Lib.hid (HB4.out.trans (hb5.mono (Nat.le_of_lt hlt4))); have hz5 := hb5.size)
        | (go_at_call 7; refine (wakes_any _).mono ?_; rintro e w6 ⟨rfl, hb6⟩))
      go_ret
      exact ⟨rfl, HB5.out.trans (hb6.mono (by omega))⟩
end Go.Proofs.Ytodghbfgfdbaiaa
