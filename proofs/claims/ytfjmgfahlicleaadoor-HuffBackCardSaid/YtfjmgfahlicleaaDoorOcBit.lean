/- octet.Bit: the i-th bit of bytes, whatever it is handed. -/
import Derived.Test.YtfjmgfahlicleaaDoorOcTake
import Derived.Test.YtfjmgfahlicleaaDoorGBits
namespace Go.Proofs.YtfjmgfahlicleaaDoor
open Go.RowKit Oct
attribute [local go_sem] i64_and1 i64_and7 i64_and31

theorem room_any (A : Option Addr) (n c : Nat) (w : World) (h : n ≤ 1000000) :
    Calls Tryd.prog 42 #[.slice A n c] w fun e w' => e = .returned (.int .i64 ((n : Int) * 8)) ∧ w = w' := by
  go_enter Tryd.func42, Tryd.ntmps42
  go_wp2
  go_ret
  exact ⟨rfl, rfl⟩
theorem byte_shr (x : UInt8) (k : Nat) : 0 ≤ (x.toNat : Int) / 2 ^ k ∧ (x.toNat : Int) / 2 ^ k ≤ 255 := by
  have h : ((x.toNat : Int) / 2 ^ k) = ((x.toNat / 2 ^ k : Nat) : Int) := by simp
  have h2 : x.toNat / 2 ^ k ≤ x.toNat := Nat.div_le_self _ _
  have := x.toNat_lt
  rw [h]
  generalize x.toNat / 2 ^ k = y at *
  omega
theorem bit_raw (b o n c i : Nat) (x : UInt8) (w : World) (h1 : i < 8 * n) (hn : n ≤ 1000000) (hc : w.cell? ⟨b, o + i / 8, none⟩ = some (.int .u8 (x.toNat : Int))) :
    Calls Tryd.prog 45 #[.slice (some ⟨b, o, none⟩) n c, .int .i64 i] w fun e w' => e = .returned (.int .i64 ((x.toNat / 2 ^ (7 - i % 8) % 2 : Nat) : Int)) ∧ w = w' := by
  have hs : 0 ≤ 7 - (i : Int) % 8 := by omega
  have hx := (byte_shr x (7 - i % 8)).1
  have hx' := (byte_shr x (7 - i % 8)).2
  go_enter Tryd.func45, Tryd.ntmps45
  go_wp2
  go_ret
  exact ⟨ret_int (by simp), rfl⟩
end Go.Proofs.YtfjmgfahlicleaaDoor
