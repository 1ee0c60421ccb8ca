/- Plain words of layer 3: what the calls answer, whatever is handed in. Nothing of the program but its numbers. -/
import Derived.Test.YtbflhphjnmhjhaaGreatMo
import Derived.Test.YtbflhphjnmhjhaaGreatOcBit
import Derived.Test.YtbflhphjnmhjhaaGreatGZero
import Derived.Test.YtbflhphjnmhjhaaGreatGEnvP
namespace Go.Proofs.YtbflhphjnmhjhaaGreat
open Go.RowKit Oct
namespace Fi
def PadIn (K : Int) : Prop := 0 ≤ K ∧ K ≤ 255
instance (K : Int) : Decidable (PadIn K) := by unfold PadIn; infer_instance
def padV (xs : List UInt8) (K : Int) : List UInt8 := if PadIn K then [UInt8.ofNat K.toNat] ++ xs ++ List.replicate K.toNat 0 else []
def padE (K : Int) : Int := if PadIn K then 0 else 2
/-- What the first byte tells. -/
def pm (xs : List UInt8) : Nat := (xs[0]?.getD 0).toNat
def UnIn (xs : List UInt8) (n : Nat) : Prop := 0 < n ∧ pm xs ≤ n - 1
instance (xs : List UInt8) (n : Nat) : Decidable (UnIn xs n) := by unfold UnIn; infer_instance
def unV (xs : List UInt8) (n : Nat) : List UInt8 := if UnIn xs n then (xs.drop 1).take (n - pm xs - 1) else []
def unN (xs : List UInt8) (n : Nat) : Int := if UnIn xs n then 1 + (pm xs : Int) else 0
def unE (xs : List UInt8) (n : Nat) : Int := if UnIn xs n then 0 else if n = 0 then 10 else 11
def RankIn (D : Int) : Prop := 0 ≤ D ∧ D < 2147483648
instance (D : Int) : Decidable (RankIn D) := by unfold RankIn; infer_instance
def rkN (a : Bool) (D : Nat) : Nat := D + if a then 2147483648 else 0
def prV (a : Bool) (D : Int) (W : UInt8) : List UInt8 := if RankIn D then putB (rkN a D.toNat) 4 ++ [W] else []
def prE (D : Int) : Int := if RankIn D then 0 else 2
def tr4 (xs : List UInt8) : Nat := takeB (xs.take 4)
def trA (xs : List UInt8) (n : Nat) : Bool := if 5 ≤ n then decide (2147483648 ≤ tr4 xs) else false
def trD (xs : List UInt8) (n : Nat) : Int := if 5 ≤ n then (tr4 xs % 2147483648 : Nat) else 0
def trW (xs : List UInt8) (n : Nat) : Int := if 5 ≤ n then ((xs[4]?.getD 0).toNat : Nat) else 0
def trR (xs : List UInt8) (n : Nat) : List UInt8 := if 5 ≤ n then xs.drop 5 else []
def trE (n : Nat) : Int := if 5 ≤ n then 0 else 10
def pairB (p : Pr) : List UInt8 := putB p.1.toNat 2 ++ putB p.2.toNat 4
def ppV (l : List Pr) : List UInt8 := l.flatMap pairB
def pairAt (xs : List UInt8) (j : Nat) : Pr := (UInt16.ofNat (takeB ((xs.drop (j * 6)).take 2)), UInt32.ofNat (takeB ((xs.drop (j * 6 + 2)).take 4)))
def tpV (xs : List UInt8) (n : Nat) : List Pr := if n % 6 = 0 then (List.range (n / 6)).map (pairAt xs) else []
def tpE (n : Nat) : Int := if n % 6 = 0 then 0 else 10
def lastO (l : List Pr) (id : UInt16) : Option Pr := l.reverse.find? fun p => p.1 == id
def laV (l : List Pr) (id : UInt16) : Int := ((lastO l id).map fun p => (p.2.toNat : Int)).getD 0
def laB (l : List Pr) (id : UInt16) : Bool := (lastO l id).isSome
end Fi
end Go.Proofs.YtbflhphjnmhjhaaGreat
