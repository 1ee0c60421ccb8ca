/- head.octets: the iterator of a head's nine bytes. -/
import Derived.Test.YtjoopekgbfplpaaHdW
import Derived.Test.YtjoopekgbfplpaaGKeep
namespace Go.Proofs.Ytjoopekgbfplpaa
open Go.RowKit Oct Go.Shelf
attribute [local go_sem] Oper.semAt_some

/-- A head's nine bytes. -/
def hdBytes (L : Nat) (K F : UInt8) (S : Nat) : List UInt8 := putB L 3 ++ ([K, F] ++ putB S 4)
theorem hdBytes_length (L : Nat) (K F : UInt8) (S : Nat) : (hdBytes L K F S).length = 9 := by simp [hdBytes, putB_length]

def hdPart (L : Nat) (K F : UInt8) (S : Nat) : Nat → List UInt8
  | 0 => putB L 3
  | 1 => [K, F]
  | _ => putB S 4
def hdPre (L : Nat) (K F : UInt8) (S : Nat) : Nat → List UInt8
  | 0 => []
  | i + 1 => hdPre L K F S i ++ hdPart L K F S i
theorem hdPre_all (L : Nat) (K F : UInt8) (S : Nat) : hdPre L K F S 3 = hdBytes L K F S := by simp [hdPre, hdPart, hdBytes]
theorem hdPre_len (L : Nat) (K F : UInt8) (S i : Nat) (h : i < 3) : (hdPre L K F S i).length + (hdPart L K F S i).length ≤ 9 ∧ (hdPart L K F S i).length ≤ 4 := by
  have : i = 0 ∨ i = 1 ∨ i = 2 := by omega
  rcases this with rfl | rfl | rfl <;> simp [hdPre, hdPart, putB_length]
theorem take_one {xs : List UInt8} {m : Nat} (pre : List UInt8) (h : m < xs.length) : pre ++ xs.take m ++ [xs[m]] = pre ++ xs.take (m + 1) := by
  rw [List.append_assoc, List.take_append_getElem h]
end Go.Proofs.Ytjoopekgbfplpaa
