/- Plain lists: a head's bytes, and what is told of them. -/
import Derived.Test.YtjoopekgbfplpaaHdO
namespace Go.Proofs.Ytjoopekgbfplpaa
open Go.RowKit Oct

theorem putB_takeB (l : List UInt8) : putB (takeB l) l.length = l := by
  induction h : l.length generalizing l with
  | zero => have := List.eq_nil_of_length_eq_zero h; subst this; rfl
  | succ k ih =>
    obtain ⟨l', x, rfl⟩ : ∃ l' x, l = l' ++ [x] := ⟨l.dropLast, l.getLast (by intro e; subst e; simp at h), (List.dropLast_concat_getLast _).symm⟩
    have hl : l'.length = k := by simpa using h
    rw [takeB_snoc, putB]
    have e1 : (takeB l' * 256 + x.toNat) / 256 = takeB l' := by have := x.toNat_lt; omega
    have e2 : UInt8.ofNat (takeB l' * 256 + x.toNat) = x := by
      apply UInt8.toNat_inj.1
      have := x.toNat_lt
      simp
    rw [e1, e2, ih l' hl]
section
variable (L : Nat) (K F : UInt8) (S : Nat) (r : List UInt8)
theorem hd_take3 : (hdBytes L K F S ++ r).take 3 = putB L 3 := by
  unfold hdBytes
  rw [List.append_assoc, List.take_append_of_le_length (by simp [putB_length]), List.take_of_length_le (by simp [putB_length])]
theorem hL_hd (h : L < 16777216) : hL (hdBytes L K F S ++ r) = L := by
  unfold hL
  rw [hd_take3, takeB_putB]
  exact Nat.mod_eq_of_lt h
theorem hd_at3 : (hdBytes L K F S ++ r)[3]? = some K := by
  unfold hdBytes
  rw [List.append_assoc, List.getElem?_append_right (by simp [putB_length])]
  simp [putB_length]
theorem hd_at4 : (hdBytes L K F S ++ r)[4]? = some F := by
  unfold hdBytes
  rw [List.append_assoc, List.getElem?_append_right (by simp [putB_length])]
  simp [putB_length]
theorem hK_hd : hK (hdBytes L K F S ++ r) = K.toNat := by unfold hK; rw [hd_at3]; rfl
theorem hF_hd : hF (hdBytes L K F S ++ r) = F.toNat := by unfold hF; rw [hd_at4]; rfl
theorem hd_drop5 : ((hdBytes L K F S ++ r).drop 5).take 4 = putB S 4 := by
  have e : hdBytes L K F S ++ r = (putB L 3 ++ [K, F]) ++ (putB S 4 ++ r) := by simp [hdBytes]
  rw [e, List.drop_append_of_le_length (by simp [putB_length]), List.drop_eq_nil_of_le (by simp [putB_length]), List.nil_append, List.take_append_of_le_length (by simp [putB_length]), List.take_of_length_le (by simp [putB_length])]
theorem hS_hd (h : S < 2147483648) : hS (hdBytes L K F S ++ r) = S := by
  unfold hS
  rw [hd_drop5, takeB_putB]
  have : S % 256 ^ 4 = S := Nat.mod_eq_of_lt (by omega)
  rw [this]
  exact Nat.mod_eq_of_lt h
theorem hd_drop9 : (hdBytes L K F S ++ r).drop 9 = r := by
  have := hdBytes_length L K F S
  rw [← this, List.drop_left]
end
theorem takeB4_mod (a b c d : UInt8) : takeB [a, b, c, d] % 2147483648 = takeB [a &&& 127, b, c, d] := by
  have hm : (a &&& 127).toNat = a.toNat % 128 := by
    rw [UInt8.toNat_and]
    exact Nat.and_two_pow_sub_one_eq_mod a.toNat 7
  have h1 := a.toNat_lt
  have h2 := b.toNat_lt
  have h3 := c.toNat_lt
  have h4 := d.toNat_lt
  simp only [takeB, List.foldl_cons, List.foldl_nil, hm]
  omega
/-- What is taken has just those bytes, but for the one bit. -/
theorem hd_back (a0 a1 a2 a3 a4 a5 a6 a7 a8 : UInt8) (r : List UInt8) :
    hdBytes (hL (a0 :: a1 :: a2 :: a3 :: a4 :: a5 :: a6 :: a7 :: a8 :: r)) a3 a4 (hS (a0 :: a1 :: a2 :: a3 :: a4 :: a5 :: a6 :: a7 :: a8 :: r)) = [a0, a1, a2, a3, a4, a5 &&& 127, a6, a7, a8] := by
  have e1 : hL (a0 :: a1 :: a2 :: a3 :: a4 :: a5 :: a6 :: a7 :: a8 :: r) = takeB [a0, a1, a2] := rfl
  have e2 : hS (a0 :: a1 :: a2 :: a3 :: a4 :: a5 :: a6 :: a7 :: a8 :: r) = takeB [a5 &&& 127, a6, a7, a8] := takeB4_mod a5 a6 a7 a8
  have p1 : putB (takeB [a0, a1, a2]) 3 = [a0, a1, a2] := putB_takeB [a0, a1, a2]
  have p2 : putB (takeB [a5 &&& 127, a6, a7, a8]) 4 = [a5 &&& 127, a6, a7, a8] := putB_takeB [a5 &&& 127, a6, a7, a8]
  unfold hdBytes
  rw [e1, e2, p1, p2]
  rfl
theorem nine {xs : List UInt8} (h : 9 ≤ xs.length) : ∃ a0 a1 a2 a3 a4 a5 a6 a7 a8 r, xs = a0 :: a1 :: a2 :: a3 :: a4 :: a5 :: a6 :: a7 :: a8 :: r := by
  match xs, h with
  | a0 :: a1 :: a2 :: a3 :: a4 :: a5 :: a6 :: a7 :: a8 :: r, _ => exact ⟨a0, a1, a2, a3, a4, a5, a6, a7, a8, r, rfl⟩
end Go.Proofs.Ytjoopekgbfplpaa
