/- FrameOrder, plainly: which fault noughts are. -/
import Derived.Test.YtmbjmpijilmbkaaMb
namespace Go.Proofs.Ytmbjmpijilmbkaa
open Go.RowKit Oct Fi Fm
set_option linter.unusedVariables false
set_option linter.unusedSimpArgs false
namespace Fm
/-- What must be told of noughts, where it must be one. -/
def ordX (k : Nat) (S : Int) (n : Nat) : Option Ft :=
  if 16384 < n then some (whole 6) else if k = 5 ∨ farB k S = true then some (whole 1) else if k = 2 ∧ n ≠ 5 then some (false, S, 6)
  else if (k = 6 ∧ n ≠ 8) ∨ ((k = 3 ∨ k = 8) ∧ n ≠ 4) ∨ (k = 7 ∧ n < 8) then some (whole 6) else if k = 16 ∧ 4 ≤ n then some (whole 1)
  else if (k ≠ 0 ∧ k ≠ 1 ∧ k ≠ 2 ∧ k ≠ 3 ∧ k ≠ 4 ∧ k ≠ 5 ∧ k ≠ 6 ∧ k ≠ 7 ∧ k ≠ 8 ∧ k ≠ 9 ∧ k ≠ 16) ∨ k = 6 ∨ k = 3 ∨ k = 9 then some fine else none
end Fm
theorem own_noughts (n : Nat) (h : 4 ≤ n) : ownN (List.replicate n (0 : UInt8)) n 0 = 0 := by
  unfold ownN
  rw [if_pos (by omega), List.drop_zero, List.take_replicate, Nat.min_eq_left h]
  decide +kernel
theorem parse_tk {K F : UInt8} {S : Int} {xs : List UInt8} {x : Ft} (h : (tkR K F S xs).2 = x) (h0 : headB 0 S = true) (hn : xs.length ≤ 16384) (hf : ¬ (K.toNat = 5 ∨ farB K.toNat S = true)) : (parseR K F S xs).2 = x := by
  rw [parseR_eq, if_neg (by simp [h0]), if_neg (by omega), if_neg hf]
  split
  · exact h
  · exact h
theorem ord_parse (K F : UInt8) (S : Int) (n : Nat) (x : Ft) (h0 : headB 0 S = true) (hx : ordX K.toNat S n = some x) : (parseR K F S (List.replicate n 0)).2 = x := by
  have hl : (List.replicate n (0 : UInt8)).length = n := by simp
  unfold ordX at hx
  by_cases h1 : 16384 < n
  · rw [if_pos h1] at hx
    rw [parseR_eq, if_neg (by simp [h0]), if_pos (by omega)]
    exact Option.some.inj hx
  rw [if_neg h1] at hx
  by_cases h2 : K.toNat = 5 ∨ farB K.toNat S = true
  · rw [if_pos h2] at hx
    rw [parseR_eq, if_neg (by simp [h0]), if_neg (by omega), if_pos h2]
    exact Option.some.inj hx
  rw [if_neg h2] at hx
  refine parse_tk ?_ h0 (by omega) h2
  have hf : K.toNat ≠ 5 := fun e => h2 (.inl e)
  by_cases h3 : K.toNat = 2 ∧ n ≠ 5
  · rw [if_pos h3] at hx
    unfold tkR longB
    rw [hl]
    simp [h3.1, h3.2]
    exact Option.some.inj hx
  rw [if_neg h3] at hx
  by_cases h4 : (K.toNat = 6 ∧ n ≠ 8) ∨ ((K.toNat = 3 ∨ K.toNat = 8) ∧ n ≠ 4) ∨ (K.toNat = 7 ∧ n < 8)
  · rw [if_pos h4] at hx
    have hL : longB K.toNat F (List.replicate n (0 : UInt8)).length = true := by
      unfold longB
      rw [hl]
      rcases h4 with ⟨a, b⟩ | ⟨a | a, b⟩ | ⟨a, b⟩ <;> simp [a, b]
    unfold tkR
    rw [if_pos hL, if_neg (by omega)]
    exact Option.some.inj hx
  rw [if_neg h4] at hx
  by_cases h5 : K.toNat = 16 ∧ 4 ≤ n
  · rw [if_pos h5] at hx
    have hL : longB K.toNat F (List.replicate n (0 : UInt8)).length = false := by
      unfold longB
      rw [hl]
      simp [h5.1]
      omega
    have hi : innerR K F S (List.replicate n 0) = ({ frZ K F S with la := (ownN (List.replicate n 0) (List.replicate n (0 : UInt8)).length 0 : Nat), da := (List.replicate n 0).drop 4 }, true) := by
      unfold innerR
      simp [h5.1]
    refine (tkR_go hL hi ?_).1
    have : (ownN (List.replicate n (0 : UInt8)) (List.replicate n (0 : UInt8)).length 0 : Nat) = 0 := by rw [hl]; exact own_noughts n h5.2
    unfold valuesX valuesI
    rw [this]
    have hk : (frZ K F S).kd.toNat = 16 := h5.1
    have e1 : pairsX (frZ K F S).ps = fine := rfl
    have e2 : (frZ K F S).rk = false := rfl
    simp only [hk, e1, e2]
    simp only [ne_eq, not_true, if_false]
    rw [← Option.some.inj hx]
    rfl
  rw [if_neg h5] at hx
  by_cases h6 : (K.toNat ≠ 0 ∧ K.toNat ≠ 1 ∧ K.toNat ≠ 2 ∧ K.toNat ≠ 3 ∧ K.toNat ≠ 4 ∧ K.toNat ≠ 5 ∧ K.toNat ≠ 6 ∧ K.toNat ≠ 7 ∧ K.toNat ≠ 8 ∧ K.toNat ≠ 9 ∧ K.toNat ≠ 16) ∨ K.toNat = 6 ∨ K.toNat = 3 ∨ K.toNat = 9
  · rw [if_pos h6] at hx
    obtain rfl := Option.some.inj hx
    have hL : longB K.toNat F (List.replicate n (0 : UInt8)).length = false := by
      unfold longB
      rw [hl]
      rcases h6 with h6 | h6 | h6 | h6
      · simp [h6]
      · simp [h6]; omega
      · simp [h6]; omega
      · simp [h6]
    by_cases h3 : K.toNat = 3
    · have hi : innerR K F S (List.replicate n 0) = ({ frZ K F S with co := UInt32.ofNat (numN (List.replicate n 0) (List.replicate n (0 : UInt8)).length 0) }, true) := by
        unfold innerR
        simp [h3]
      exact (tkR_go hL hi (vals_plain _ (show K.toNat ≠ 8 by omega) (show K.toNat ≠ 16 by omega) rfl)).1
    · have hi : innerR K F S (List.replicate n 0) = ({ frZ K F S with da := List.replicate n 0 }, true) := by
        unfold innerR
        rw [if_neg (by omega), if_neg (by omega), if_neg (by omega), if_neg (by omega), if_neg (by omega), if_neg (by omega), if_neg (by omega)]
      exact (tkR_go hL hi (vals_plain _ (show K.toNat ≠ 8 by omega) (show K.toNat ≠ 16 by omega) rfl)).1
  · rw [if_neg h6] at hx
    cases hx
end Go.Proofs.Ytmbjmpijilmbkaa
