/- octet's Put, Take and Stream and the document's, whatever they are handed: the same values. -/
import Derived.Test.YtjoopekgbfplpaaOcPut
import Derived.Test.YtjoopekgbfplpaaOcRTake
import Derived.Test.YtjoopekgbfplpaaOcRPut
namespace Go.Proofs.Ytjoopekgbfplpaa
open Go.RowKit Oct
attribute [local go_sem] i64_and1 i64_and7 i64_and31
namespace Oct
/-- What the calls answer, whatever is handed in. -/
def PutIn (N S : Int) : Prop := 1 ≤ S ∧ S ≤ 4 ∧ 0 ≤ N ∧ N < 256 ^ S.toNat
instance (N S : Int) : Decidable (PutIn N S) := by unfold PutIn; infer_instance
def putV (N S : Int) : List UInt8 := if PutIn N S then putB N.toNat S.toNat else []
def putE (N S : Int) : Int := if PutIn N S then 0 else 2
def takeE (n : Nat) (i S : Int) : Int := if 1 ≤ S ∧ S ≤ 4 ∧ 0 ≤ i then if i + S ≤ n then 0 else 10 else 2
def takeV (xs : List UInt8) (n : Nat) (i S : Int) : Int := if takeE n i S = 0 then (takeB ((xs.drop i.toNat).take S.toNat) : Nat) else 0
def streamV (xs : List UInt8) (n : Nat) (i : Int) : Int := if takeE n i 4 = 0 then (takeB ((xs.drop i.toNat).take 4) % 2147483648 : Nat) else 0
end Oct
theorem rput_tot (N S : Int) (w : World) :
    Calls Try.prog 24 #[.int .i64 N, .int .i64 S] w fun e w' => ∃ v, e = .returned (.tuple #[v, .int .i64 (putE N S)]) ∧ Hands v w' (putV N S) ∧ Below w.heap.size w w' := by
  unfold putV putE
  by_cases h : PutIn N S
  · rw [if_pos h, if_pos h]
    refine (rput_ok N S w h.1 h.2.1 h.2.2.1 h.2.2.2).mono ?_
    rintro e w' ⟨v, rfl, ho, hb⟩
    exact ⟨v, rfl, ho.hands, hb⟩
  · rw [if_neg h, if_neg h]
    refine (rput_no N S w h).mono ?_
    rintro e w' ⟨rfl, rfl⟩
    exact ⟨_, rfl, Hands.nil_ _, Below.refl _ _⟩
theorem take_tot (A : Option Addr) (B n c : Nat) (xs : List UInt8) (i S : Int) (w : World) (hA : Bs w B A n xs) (hn : n ≤ 1000000) (hnc : n ≤ c) :
    Calls Try.prog 33 #[.slice A n c, .int .i64 i, .int .i64 S] w fun e w' => e = .returned (.tuple #[.int .i64 (takeV xs n i S), .int .i64 (takeE n i S)]) ∧ w = w' := by
  unfold takeV takeE
  by_cases h : 1 ≤ S ∧ S ≤ 4 ∧ 0 ≤ i
  · by_cases h2 : i + S ≤ n
    · simp only [if_pos h, if_pos h2]
      exact take_ok A B n c xs i S w hA h.2.2 h2 h.1 h.2.1 hn hnc
    · simp only [if_pos h, if_neg h2]
      exact take_short A n c i S w hn h.2.2 h.1 h.2.1 (by omega)
  · simp only [if_neg h]
    exact take_arg A n c i S w h
theorem rtake_tot (A : Option Addr) (B n c : Nat) (xs : List UInt8) (i S : Int) (w : World) (hA : Bs w B A n xs) (hn : n ≤ 1000000) :
    Calls Try.prog 25 #[.slice A n c, .int .i64 i, .int .i64 S] w fun e w' => e = .returned (.tuple #[.int .i64 (takeV xs n i S), .int .i64 (takeE n i S)]) ∧ w = w' := by
  unfold takeV takeE
  by_cases h : 1 ≤ S ∧ S ≤ 4 ∧ 0 ≤ i
  · by_cases h2 : i + S ≤ n
    · simp only [if_pos h, if_pos h2]
      exact rtake_ok A B n c xs i S w hA h.2.2 h2 h.1 h.2.1 hn
    · simp only [if_pos h, if_neg h2]
      exact rtake_short A n c i S w hn h.2.2 h.1 h.2.1 (by omega)
  · simp only [if_neg h]
    exact rtake_arg A n c i S w h
theorem stream_tot (A : Option Addr) (B n c : Nat) (xs : List UInt8) (i : Int) (w : World) (hA : Bs w B A n xs) (hn : n ≤ 1000000) (hnc : n ≤ c) :
    Calls Try.prog 34 #[.slice A n c, .int .i64 i] w fun e w' => e = .returned (.tuple #[.int .i64 (streamV xs n i), .int .i64 (takeE n i 4)]) ∧ w = w' := by
  unfold streamV takeE
  by_cases h : 0 ≤ i
  · have h' : (1 : Int) ≤ 4 ∧ (4 : Int) ≤ 4 ∧ 0 ≤ i := ⟨by omega, by omega, h⟩
    by_cases h2 : i + 4 ≤ n
    · simp only [if_pos h', if_pos h2]
      exact stream_ok A B n c xs i w hA h h2 hn hnc
    · simp only [if_pos h', if_neg h2]
      exact stream_short A n c i w hn h (by omega)
  · have h' : ¬ ((1 : Int) ≤ 4 ∧ (4 : Int) ≤ 4 ∧ 0 ≤ i) := by omega
    simp only [if_neg h']
    exact stream_arg A n c i w (by omega)
end Go.Proofs.Ytjoopekgbfplpaa
