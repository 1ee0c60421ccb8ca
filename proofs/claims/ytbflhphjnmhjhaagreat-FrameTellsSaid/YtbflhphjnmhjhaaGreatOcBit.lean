/- octet.Bit: the i-th bit of bytes, whatever it is handed. -/
import Derived.Test.YtbflhphjnmhjhaaGreatMo
import Derived.Test.YtbflhphjnmhjhaaGreatGBits
namespace Go.Proofs.YtbflhphjnmhjhaaGreat
open Go.RowKit Oct
attribute [local go_sem] i64_and1 i64_and7 i64_and31

theorem room_any (A : Option Addr) (n c : Nat) (w : World) (h : n ≤ 1000000) :
    Calls Tryz.prog 113 #[.slice A n c] w fun e w' => e = .returned (.int .i64 ((n : Int) * 8)) ∧ w = w' := by
  go_enter Tryz.func113, Tryz.ntmps113
  go_wp2
  go_ret
  exact ⟨rfl, rfl⟩
theorem byte_shr (x : UInt8) (k : Nat) : 0 ≤ (x.toNat : Int) / 2 ^ k ∧ (x.toNat : Int) / 2 ^ k ≤ 255 := by
  have h : ((x.toNat : Int) / 2 ^ k) = ((x.toNat / 2 ^ k : Nat) : Int) := by simp
  have h2 : x.toNat / 2 ^ k ≤ x.toNat := Nat.div_le_self _ _
  have := x.toNat_lt
  rw [h]
  generalize x.toNat / 2 ^ k = y at *
  omega
theorem bit_raw (b o n c i : Nat) (x : UInt8) (w : World) (h1 : i < 8 * n) (hn : n ≤ 1000000) (hc : w.cell? ⟨b, o + i / 8, none⟩ = some (.int .u8 x.toNat)) :
    Calls Tryz.prog 114 #[.slice (some ⟨b, o, none⟩) n c, .int .i64 i] w fun e w' => e = .returned (.int .i64 ((x.toNat / 2 ^ (7 - i % 8) % 2 : Nat) : Int)) ∧ w = w' := by
  have hs : 0 ≤ 7 - (i : Int) % 8 := by omega
  have hx := (byte_shr x (7 - i % 8)).1
  have hx' := (byte_shr x (7 - i % 8)).2
  go_enter Tryz.func114, Tryz.ntmps114
  go_wp2
  go_ret
  exact ⟨ret_int (by simp), rfl⟩
theorem bit_yes (A : Option Addr) (B n c : Nat) (xs : List UInt8) (i : Int) (w : World) (hA : Bs w B A n xs) (h0 : 0 ≤ i) (h1 : i < 8 * n) (hn : n ≤ 1000000) :
    Calls Tryz.prog 112 #[.slice A n c, .int .i64 i] w fun e w' => e = .returned (.tuple #[.int .i64 (bitOf xs i.toNat), .bool true]) ∧ w = w' := by
  obtain ⟨i, rfl⟩ := Int.eq_ofNat_of_zero_le h0
  rw [Int.toNat_natCast]
  obtain ⟨b, o, rfl, hb, hc⟩ := bs_cell hA (by omega)
  obtain ⟨x, hx, hcx⟩ := hc (i / 8) (by omega)
  have HA : Hid (bitOf xs i = x.toNat / 2 ^ (7 - i % 8) % 2) := Lib.hid (by unfold bitOf; rw [hx]; rfl)
  clear hc hA hx
  have hnn : decide ((n : Int) * 8 ≤ (i : Int)) = false := by simp; omega
  go_enter Tryz.func112, Tryz.ntmps112
  go_wp2
  refine wp_scope_forward 0 rfl ?_
  go_wp2_with (first | (go_at_call 113; refine (room_any _ _ _ _ hn).mono ?_; rintro e w' ⟨rfl, rfl⟩) | (go_at_call 114; refine (bit_raw _ _ _ _ i x _ (by omega) hn hcx).mono ?_; rintro e w' ⟨rfl, rfl⟩))
  rw [jump_ret]
  go_ret2
  exact ⟨ret_int2 (by rw [HA.out]; simp), rfl⟩
theorem bit_none (A : Option Addr) (n c : Nat) (i : Int) (w : World) (h : ¬ (0 ≤ i ∧ i < 8 * n)) (hn : n ≤ 1000000) :
    Calls Tryz.prog 112 #[.slice A n c, .int .i64 i] w fun e w' => e = .returned (.tuple #[.int .i64 0, .bool false]) ∧ w = w' := by
  by_cases h0 : i < 0
  · go_enter Tryz.func112, Tryz.ntmps112
    go_wp2
    refine wp_scope_forward 0 rfl ?_
    go_wp2
    go_step3
    refine ⟨rfl, ?_⟩
    go_wp2
    rw [jump_ret]
    go_ret2
    exact ⟨rfl, rfl⟩
  · have hnn : decide ((n : Int) * 8 ≤ (i : Int)) = true := by simp; omega
    go_enter Tryz.func112, Tryz.ntmps112
    go_wp2
    refine wp_scope_forward 0 rfl ?_
    go_wp2_with (go_at_call 113; refine (room_any _ _ _ _ hn).mono ?_; rintro e w' ⟨rfl, rfl⟩)
    go_step3
    refine ⟨rfl, ?_⟩
    go_wp2
    rw [jump_ret]
    go_ret2
    exact ⟨rfl, rfl⟩
end Go.Proofs.YtbflhphjnmhjhaaGreat
