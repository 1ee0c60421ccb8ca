/- octet.Take, octet.Stream: what each answers; nothing has changed. -/
import Derived.Test.YtfjmgfahlicleaaDoorRows
import Derived.Test.YtfjmgfahlicleaaDoorGMem
import Derived.Test.YtfjmgfahlicleaaDoorGPlain
import Derived.Test.YtfjmgfahlicleaaDoorGNum
import Derived.Test.YtfjmgfahlicleaaDoorGStr
import Derived.WalkLawsBesides
import Derived.WalkSpells
namespace Go.Proofs.YtfjmgfahlicleaaDoor
open Go.RowKit Oct
attribute [local go_sem] i64_and1 i64_and7 i64_and31

theorem takeB_take (xs : List UInt8) (i j : Nat) (x : UInt8) (h : xs[i + j]? = some x) : takeB ((xs.drop i).take (j + 1)) = takeB ((xs.drop i).take j) * 256 + x.toNat := by
  rw [List.take_add_one, List.getElem?_drop, h]
  exact takeB_snoc _ _
theorem takeB_small (xs : List UInt8) (i j : Nat) (h : j ≤ 3) : takeB ((xs.drop i).take j) ≤ 16777215 := by
  have h1 := takeB_lt ((xs.drop i).take j)
  have h2 : ((xs.drop i).take j).length ≤ 3 := Nat.le_trans (List.length_take_le _ _) h
  have h3 : 256 ^ ((xs.drop i).take j).length ≤ 256 ^ 3 := Nat.pow_le_pow_right (by decide) h2
  omega
theorem or_join8 (a b : Nat) (hb : b < 256) (ha : a ≤ 16777215) : bits .or .i64 ((a : Int) * 256) (b : Int) = (a : Int) * 256 + b := i64_or_join a b 8 hb (by omega)
end Go.Proofs.YtfjmgfahlicleaaDoor
