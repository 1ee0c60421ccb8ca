/- head.Whole: the first frame's head, its payload, what stands behind it. -/
import Derived.Test.YtjoopekgbfplpaaHdR
import Derived.Deep.RegionHeld3
namespace Go.Proofs.Ytjoopekgbfplpaa
open Go.RowKit Oct

namespace Oct
/-- The four numbers of the head that the first nine bytes tell, if there are nine; else noughts. -/
def tL (xs : List UInt8) (n : Nat) : Nat := if 9 ≤ n then hL xs else 0
def tK (xs : List UInt8) (n : Nat) : Nat := if 9 ≤ n then hK xs else 0
def tF (xs : List UInt8) (n : Nat) : Nat := if 9 ≤ n then hF xs else 0
def tS (xs : List UInt8) (n : Nat) : Nat := if 9 ≤ n then hS xs else 0
def tE (n : Nat) : Int := if 9 ≤ n then 0 else 10
def WholeIn (xs : List UInt8) (n : Nat) : Prop := 9 ≤ n ∧ 9 + hL xs ≤ n
instance (xs : List UInt8) (n : Nat) : Decidable (WholeIn xs n) := by unfold WholeIn; infer_instance
def wE (xs : List UInt8) (n : Nat) : Int := if WholeIn xs n then 0 else 10
def wP (xs : List UInt8) (n : Nat) : List UInt8 := if WholeIn xs n then (xs.drop 9).take (hL xs) else []
def wR (xs : List UInt8) (n : Nat) : List UInt8 := if WholeIn xs n then xs.drop (9 + hL xs) else []
end Oct
def headV (xs : List UInt8) (n : Nat) : Value := .agg #[.int .i64 (tL xs n), .int .u8 (tK xs n), .int .u8 (tF xs n), .int .i64 (tS xs n)]
theorem headV_yes {xs : List UInt8} {n : Nat} (h : 9 ≤ n) : headV xs n = .agg #[.int .i64 (hL xs), .int .u8 (hK xs), .int .u8 (hF xs), .int .i64 (hS xs)] := by
  unfold headV tL tK tF tS; simp only [if_pos h]
theorem headV_no {xs : List UInt8} {n : Nat} (h : ¬ 9 ≤ n) : headV xs n = .agg #[.int .i64 0, .int .u8 0, .int .u8 0, .int .i64 0] := by
  unfold headV tL tK tF tS; simp only [if_neg h]; rfl
theorem htake_tot (A : Option Addr) (B n c : Nat) (xs : List UInt8) (w : World) (hA : Bs w B A n xs) (hAc : A = none → c = 0) (hn : n ≤ 1000000) (hnc : n ≤ c) (hB : B ≤ w.heap.size) :
    Calls Try.prog 30 #[.slice A n c] w fun e w' => ∃ v, e = .returned (.tuple #[.agg #[.int .i64 (tL xs n), .int .u8 (tK xs n), .int .u8 (tF xs n), .int .i64 (tS xs n)], v, .int .i64 (tE n)]) ∧ OwnB w' w.heap.size 5 v (xs.drop 9) ∧ Below w.heap.size w w' := by
  by_cases h : 9 ≤ n
  · refine (htake_yes A B n c xs w hA hAc h hn hnc hB).mono ?_
    rintro e w' ⟨v, rfl, ho, hb⟩
    exact ⟨v, by unfold tL tK tF tS tE; simp only [if_pos h], ho, hb⟩
  · refine (htake_no A n c w (by omega)).mono ?_
    rintro e w' ⟨rfl, hb⟩
    have h1 : xs.drop 9 = [] := List.drop_eq_nil_of_le (by rw [hA.1]; omega)
    exact ⟨_, by unfold tL tK tF tS tE; simp only [if_neg h]; rfl, by rw [h1]; exact OwnB.nil_ _ _ _, hb⟩
end Go.Proofs.Ytjoopekgbfplpaa
