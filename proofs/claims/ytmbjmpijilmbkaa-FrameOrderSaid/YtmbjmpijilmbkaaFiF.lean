/- Walks of the document's TakePairs; what both take at a place. -/
import Derived.Test.YtmbjmpijilmbkaaFiE
namespace Go.Proofs.Ytmbjmpijilmbkaa
open Go.RowKit Oct Fi
attribute [local go_sem] i64_and1 i64_and7 i64_and31

theorem takeB_le (xs : List UInt8) (d k : Nat) : takeB ((xs.drop d).take k) < 256 ^ k := by
  have h1 := takeB_lt ((xs.drop d).take k)
  have h2 : ((xs.drop d).take k).length ≤ k := List.length_take_le _ _
  exact Nat.lt_of_lt_of_le h1 (Nat.pow_le_pow_right (by decide) h2)
theorem pairAt_1 (xs : List UInt8) (j : Nat) : takeB ((xs.drop (j * 6)).take 2) = (pairAt xs j).1.toNat := by
  have h := takeB_le xs (j * 6) 2
  simp only [pairAt, UInt16.toNat_ofNat']
  omega
theorem pairAt_2 (xs : List UInt8) (j : Nat) : takeB ((xs.drop (j * 6 + 2)).take 4) = (pairAt xs j).2.toNat := by
  have h := takeB_le xs (j * 6 + 2) 4
  simp only [pairAt, UInt32.toNat_ofNat']
  omega
theorem rtakeP1 (A : Option Addr) (B n c : Nat) (xs : List UInt8) (j : Nat) (w : World) (hA : Bs w B A n xs) (hn : n ≤ 1000000) (hj : j * 6 + 6 ≤ n) :
    Calls Try.prog 38 #[.slice A n c, .int .i64 ((j : Int) * 6), .int .i64 2] w fun e w' => e = .returned (.tuple #[.int .i64 ((pairAt xs j).1.toNat : Int), .int .i64 0]) ∧ w = w' := by
  have h := rtake_ok A B n c xs ((j : Int) * 6) 2 w hA (by omega) (by omega) (by omega) (by omega) hn
  rw [show ((j : Int) * 6).toNat = j * 6 from by omega, show (2 : Int).toNat = 2 from rfl, pairAt_1] at h
  exact h
theorem rtakeP2 (A : Option Addr) (B n c : Nat) (xs : List UInt8) (j : Nat) (w : World) (hA : Bs w B A n xs) (hn : n ≤ 1000000) (hj : j * 6 + 6 ≤ n) :
    Calls Try.prog 38 #[.slice A n c, .int .i64 ((j : Int) * 6 + 2), .int .i64 4] w fun e w' => e = .returned (.tuple #[.int .i64 ((pairAt xs j).2.toNat : Int), .int .i64 0]) ∧ w = w' := by
  have h := rtake_ok A B n c xs ((j : Int) * 6 + 2) 4 w hA (by omega) (by omega) (by omega) (by omega) hn
  rw [show ((j : Int) * 6 + 2).toNat = j * 6 + 2 from by omega, show (4 : Int).toNat = 4 from rfl, pairAt_2] at h
  exact h
theorem ftakeP1 (A : Option Addr) (B n c : Nat) (xs : List UInt8) (j : Nat) (w : World) (hA : Bs w B A n xs) (hn : n ≤ 1000000) (hnc : n ≤ c) (hj : j * 6 + 6 ≤ n) :
    Calls Try.prog 95 #[.slice A n c, .int .i64 ((j : Int) * 6), .int .i64 2] w fun e w' => e = .returned (.tuple #[.int .i64 ((pairAt xs j).1.toNat : Int), .int .i64 0]) ∧ w = w' := by
  have h := take_ok A B n c xs ((j : Int) * 6) 2 w hA (by omega) (by omega) (by omega) (by omega) hn hnc
  rw [show ((j : Int) * 6).toNat = j * 6 from by omega, show (2 : Int).toNat = 2 from rfl, pairAt_1] at h
  exact h
theorem ftakeP2 (A : Option Addr) (B n c : Nat) (xs : List UInt8) (j : Nat) (w : World) (hA : Bs w B A n xs) (hn : n ≤ 1000000) (hnc : n ≤ c) (hj : j * 6 + 6 ≤ n) :
    Calls Try.prog 95 #[.slice A n c, .int .i64 ((j : Int) * 6 + 2), .int .i64 4] w fun e w' => e = .returned (.tuple #[.int .i64 ((pairAt xs j).2.toNat : Int), .int .i64 0]) ∧ w = w' := by
  have h := take_ok A B n c xs ((j : Int) * 6 + 2) 4 w hA (by omega) (by omega) (by omega) (by omega) hn hnc
  rw [show ((j : Int) * 6 + 2).toNat = j * 6 + 2 from by omega, show (4 : Int).toNat = 4 from rfl, pairAt_2] at h
  exact h
/-- The pairs up to a place. -/
def upP (xs : List UInt8) (j : Nat) : List Pr := (List.range j).map (pairAt xs)
theorem upP_len (xs : List UInt8) (j : Nat) : (upP xs j).length = j := by simp [upP]
theorem upP_step (xs : List UInt8) (j : Nat) : upP xs j ++ [pairAt xs j] = upP xs (j + 1) := by simp [upP, List.range_succ]
theorem info_pair : (Try.prog.info? 98).map (fun i => (i.zero, i.size, i.bytes)) = some (some (.agg #[.int .u16 0, .int .u32 0]), 2, 8) := by kernel_rfl
theorem tpV_yes (xs : List UInt8) (n m : Nat) (h : n = m * 6) : tpV xs n = upP xs m ∧ tpE n = 0 := by
  subst h
  unfold tpV tpE
  rw [if_pos (by omega), if_pos (by omega), show m * 6 / 6 = m from by omega]
  exact ⟨rfl, rfl⟩
theorem tpV_no (xs : List UInt8) (n : Nat) (h : n % 6 ≠ 0) : tpV xs n = [] ∧ tpE n = 10 := by
  unfold tpV tpE
  rw [if_neg h, if_neg h]
  exact ⟨rfl, rfl⟩
end Go.Proofs.Ytmbjmpijilmbkaa
