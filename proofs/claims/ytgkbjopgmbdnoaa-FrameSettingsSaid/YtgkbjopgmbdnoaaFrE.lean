/- The document's data, whatever it is handed. -/
import Derived.Test.YtgkbjopgmbdnoaaFrD
namespace Go.Proofs.Ytgkbjopgmbdnoaa
open Go.RowKit Oct Fi Fm
namespace Fm
def data1 (K F : UInt8) (S : Int) (xs : List UInt8) : Fr × Bool :=
  if hasB (F.toNat : Int) 8 = true then if UnIn xs xs.length then ({ frZ K F S with da := unV xs xs.length, pd := unN xs xs.length }, true) else ({ frZ K F S with da := xs }, false) else ({ frZ K F S with da := xs }, true)
def rank1 (f : Fr) : Fr × Bool :=
  if 5 ≤ f.da.length then ({ f with rk := true, al := trA f.da f.da.length, dp := trD f.da f.da.length, wt := f.da[4]?.getD 0, da := trR f.da f.da.length }, true) else (f, false)
def dataR (K F : UInt8) (S : Int) (xs : List UInt8) : Fr × Bool :=
  if (data1 K F S xs).2 = true then if K.toNat = 1 ∧ hasB (F.toNat : Int) 32 = true then rank1 (data1 K F S xs).1 else (data1 K F S xs).1 |> fun f => (f, true) else ((data1 K F S xs).1, false)
end Fm
theorem unV_len (xs : List UInt8) (n : Nat) : (unV xs n).length ≤ xs.length := by
  unfold unV
  split
  · simp; omega
  · simp
end Go.Proofs.Ytgkbjopgmbdnoaa
