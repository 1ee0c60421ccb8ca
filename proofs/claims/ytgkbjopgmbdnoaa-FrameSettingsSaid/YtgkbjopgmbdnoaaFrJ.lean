/- The document's Parse, whatever it is handed. -/
import Derived.Test.YtgkbjopgmbdnoaaFrI
import Derived.Test.YtgkbjopgmbdnoaaFrF
namespace Go.Proofs.Ytgkbjopgmbdnoaa
open Go.RowKit Oct Fi Fm
namespace Fm
def parseX (r : Fr × Bool) : Ft := if r.2 = true then valuesX r.1 else whole 1
def parseR (K F : UInt8) (S : Int) (xs : List UInt8) : Fr × Ft :=
  if headB 0 S = false then (frZ 0 0 0, whole 2)
  else if (aheadX K.toNat F S xs.length).1 = true then (frZ 0 0 0, aheadX K.toNat F S xs.length)
  else if aheadX K.toNat F S xs.length ≠ fine then (frZ K F S, aheadX K.toNat F S xs.length)
  else if (parseX (innerR K F S xs)).1 = true then (frZ 0 0 0, parseX (innerR K F S xs)) else ((innerR K F S xs).1, parseX (innerR K F S xs))
end Fm
theorem ahead_ways (k : Nat) (F : UInt8) (S : Int) (n : Nat) : aheadX k F S n = whole 6 ∨ aheadX k F S n = whole 1 ∨ (aheadX k F S n = (false, S, 6) ∧ S ≠ 0) ∨ (aheadX k F S n = fine ∧ longB k F n = false) := by
  unfold aheadX
  split
  · exact .inl rfl
  · split
    · exact .inr (.inl rfl)
    · rename_i h5
      split
      · split
        · rename_i h2
          refine .inr (.inr (.inl ⟨rfl, fun hS => h5 (.inr ?_)⟩))
          subst h2
          simp [farB, hS]
        · exact .inl rfl
      · rename_i hl
        exact .inr (.inr (.inr ⟨rfl, by simpa using hl⟩))
theorem inner_ps_len (K F : UInt8) (S : Int) (xs : List UInt8) : (innerR K F S xs).1.ps.length ≤ xs.length := by
  unfold innerR
  split
  · rw [dataR_ps]; simp
  · repeat' split
    all_goals first | (simp [frZ]; done) | skip
    unfold tpV
    split
    · simp; omega
    · simp
end Go.Proofs.Ytgkbjopgmbdnoaa
