/- The document's own Stream of layer 1, whatever it is handed. -/
import Derived.Test.YtbflhphjnmhjhaaGreatMo
namespace Go.Proofs.YtbflhphjnmhjhaaGreat
open Go.RowKit Oct
attribute [local go_sem] i64_and1 i64_and7 i64_and31

theorem rstream_ok (A : Option Addr) (B n c : Nat) (xs : List UInt8) (i : Int) (w : World) (hA : Bs w B A n xs) (h0 : 0 ≤ i) (h1 : i + 4 ≤ n) (hn : n ≤ 1000000) :
    Calls Tryz.prog 80 #[.slice A n c, .int .i64 i] w fun e w' => e = .returned (.tuple #[.int .i64 (takeB ((xs.drop i.toNat).take 4) % 2147483648 : Nat), .int .i64 0]) ∧ w = w' := by
  have HA := Lib.hid hA
  clear hA
  have hl := takeB_lt ((xs.drop i.toNat).take 4)
  have hl2 : ((xs.drop i.toNat).take 4).length ≤ 4 := List.length_take_le _ _
  have hl3 : 256 ^ ((xs.drop i.toNat).take 4).length ≤ 256 ^ 4 := Nat.pow_le_pow_right (by decide) hl2
  have hl4 : (256 : Nat) ^ 4 = 4294967296 := by decide
  have hsm : takeB ((xs.drop i.toNat).take 4) < 4294967296 := by omega
  have HT := Lib.hid (rtake_ok A B n c xs i 4 w HA.out h0 h1 (by omega) (by omega) hn)
  rw [show (4 : Int).toNat = 4 from rfl] at HT
  clear hl hl2 hl3 hl4
  generalize takeB ((xs.drop i.toNat).take 4) = a at *
  go_enter Tryz.func80, Tryz.ntmps80
  go_wp2_with (go_at_call 79; refine HT.out.mono ?_; rintro e w' ⟨rfl, rfl⟩)
  go_ret2
  exact ⟨ret_int2 (by simp), rfl⟩
theorem rstream_arg (A : Option Addr) (n c : Nat) (i : Int) (w : World) (h : i < 0) :
    Calls Tryz.prog 80 #[.slice A n c, .int .i64 i] w fun e w' => e = .returned (.tuple #[.int .i64 0, .int .i64 2]) ∧ w = w' := by
  go_enter Tryz.func80, Tryz.ntmps80
  go_wp2_with (go_at_call 79; refine (rtake_arg _ _ _ _ _ _ (by omega)).mono ?_; rintro e w' ⟨rfl, rfl⟩)
  go_ret2
  exact ⟨rfl, rfl⟩
theorem rstream_short (A : Option Addr) (n c : Nat) (i : Int) (w : World) (hn : n ≤ 1000000) (h0 : 0 ≤ i) (h : (n : Int) < i + 4) :
    Calls Tryz.prog 80 #[.slice A n c, .int .i64 i] w fun e w' => e = .returned (.tuple #[.int .i64 0, .int .i64 10]) ∧ w = w' := by
  go_enter Tryz.func80, Tryz.ntmps80
  go_wp2_with (go_at_call 79; refine (rtake_short _ _ _ _ _ _ hn h0 (by omega) (by omega) h).mono ?_; rintro e w' ⟨rfl, rfl⟩)
  go_ret2
  exact ⟨rfl, rfl⟩
theorem rstream_tot (A : Option Addr) (B n c : Nat) (xs : List UInt8) (i : Int) (w : World) (hA : Bs w B A n xs) (hn : n ≤ 1000000) :
    Calls Tryz.prog 80 #[.slice A n c, .int .i64 i] w fun e w' => e = .returned (.tuple #[.int .i64 (streamV xs n i), .int .i64 (takeE n i 4)]) ∧ w = w' := by
  unfold streamV takeE
  by_cases h : 0 ≤ i
  · have h' : (1 : Int) ≤ 4 ∧ (4 : Int) ≤ 4 ∧ 0 ≤ i := ⟨by omega, by omega, h⟩
    by_cases h2 : i + 4 ≤ n
    · simp only [if_pos h', if_pos h2]
      exact rstream_ok A B n c xs i w hA h h2 hn
    · simp only [if_pos h', if_neg h2]
      exact rstream_short A n c i w hn h (by omega)
  · have h' : ¬ ((1 : Int) ≤ 4 ∧ (4 : Int) ≤ 4 ∧ 0 ≤ i) := by omega
    simp only [if_neg h']
    exact rstream_arg A n c i w (by omega)
end Go.Proofs.YtbflhphjnmhjhaaGreat
