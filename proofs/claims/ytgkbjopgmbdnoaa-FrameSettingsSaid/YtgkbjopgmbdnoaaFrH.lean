/- The document's inner, whatever it is handed. -/
import Derived.Test.YtgkbjopgmbdnoaaFrG
namespace Go.Proofs.Ytgkbjopgmbdnoaa
open Go.RowKit Oct Fi Fm
namespace Fm
def innerR (K F : UInt8) (S : Int) (xs : List UInt8) : Fr × Bool :=
  if K.toNat = 0 ∨ K.toNat = 1 then dataR K F S xs
  else if K.toNat = 2 then ({ frZ K F S with rk := true, al := trA xs xs.length, dp := trD xs xs.length, wt := if 5 ≤ xs.length then xs[4]?.getD 0 else 0 }, true)
  else if K.toNat = 3 then ({ frZ K F S with co := UInt32.ofNat (numN xs xs.length 0) }, true)
  else if K.toNat = 4 then ({ frZ K F S with ps := tpV xs xs.length }, true)
  else if K.toNat = 7 then ({ frZ K F S with la := (ownN xs xs.length 0 : Nat), co := UInt32.ofNat (numN xs xs.length 4), da := xs.drop 8 }, true)
  else if K.toNat = 8 then ({ frZ K F S with ic := (ownN xs xs.length 0 : Nat) }, true)
  else if K.toNat = 16 then ({ frZ K F S with la := (ownN xs xs.length 0 : Nat), da := xs.drop 4 }, true)
  else ({ frZ K F S with da := xs }, true)
end Fm
theorem data1_ps (K F : UInt8) (S : Int) (xs : List UInt8) : (data1 K F S xs).1.ps = [] := by
  unfold data1
  split
  · split <;> rfl
  · rfl
theorem dataR_ps (K F : UInt8) (S : Int) (xs : List UInt8) : (dataR K F S xs).1.ps = [] := by
  have h := data1_ps K F S xs
  unfold dataR
  split
  · split
    · unfold rank1
      split
      · exact h
      · exact h
    · exact h
  · exact h
theorem num_u32 (xs : List UInt8) (n i : Nat) : ((UInt32.ofNat (numN xs n i)).toNat : Int) = (numN xs n i : Nat) := by
  have := numN_lt xs n i
  simp
  omega
end Go.Proofs.Ytgkbjopgmbdnoaa
