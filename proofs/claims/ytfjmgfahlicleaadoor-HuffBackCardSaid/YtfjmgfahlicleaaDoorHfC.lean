/- Package huff: Code. -/
import Derived.Test.YtfjmgfahlicleaaDoorHfB
namespace Go.Proofs.YtfjmgfahlicleaaDoor
open Go.RowKit Hf
set_option linter.unusedVariables false
set_option linter.unusedSimpArgs false
theorem Hf.below_dN {B : Nat} {a w : World} (h : Below B a w) (n : Nat) : Below B a (w.drewN n) := h.trans ⟨rfl, rfl, rfl, Nat.le_refl _, fun _ _ => rfl⟩
set_option maxRecDepth 100000 in
set_option maxHeartbeats 1000000 in
theorem h_code (c : UInt8) (w : World) (hR : Rws w) :
    Calls Tryd.prog 9 #[.int .u8 (c.toNat : Int)] w fun e w' => e = .returned (.tuple #[.int .i64 (cod c : Int), .int .i64 (mny c : Int)]) ∧ Below w.heap.size w w' := by
  have HR := Lib.hid hR
  have h3 := rowOf_le c
  clear hR
  go_enter Tryd.func9, Tryd.ntmps9
  go_wp2_with (with_reducible refine wpList_load_rows HR.out rfl rfl ?_)
  go_loopw [8] (fun t wr => ∃ k : Nat, k ≤ rowOf c ∧ t = .int .i64 (k : Int) ∧ Below w.heap.size w wr) (fun t _ => 4 - (intOf t).toNat)
  case atStart => exact ⟨0, Nat.zero_le _, rfl, Below.refl _ _⟩
  case round =>
    obtain ⟨k, hk, rfl, hbel⟩ := hrel
    have HB := Lib.hid hbel
    have hk4 : k = 0 ∨ k = 1 ∨ k = 2 ∨ k = 3 := by omega
    clear hbel
    obtain rfl | rfl | rfl | rfl := hk4
    · by_cases hlt : 0 < rowOf c
      · have hm := Lib.hid (ix_miss c hlt (by omega))
        have i0 := idx0 wr
        go_wp2_with (go_at_call 24; (with_reducible refine (h_ixS 0 c (-1) _ hm.out).mono ?_); rintro e w' ⟨rfl, rfl⟩)
        go_roundw
        case rel => exact ⟨1, hlt, rfl, HB.out.alloc (by exact HB.out.size) _⟩
        case measure => simp [intOf]
      · have he : rowOf c = 0 := by omega
        have hx := ix_hit c
        have hmn : mny c = rowM 0 := by unfold mny; rw [he]
        have hge := rowF_le c
        rw [he] at hx hge
        obtain ⟨X, hX⟩ : ∃ X : Nat, cod c = rowF 0 + X := ⟨cod c - rowF 0, by omega⟩
        have hxx : Lib.indexByte (rowL 0) c = (X : Int) := by rw [hx, hX, Int.natCast_add]; omega
        have hlt2 : X < 2000 := by have := cod_range c; omega
        have hm := Lib.hid hxx
        have HM := Lib.hid hmn
        have HX := Lib.hid hX
        have i0 := idx0 wr
        clear hx hxx hmn hge hX he hk hlt
        go_wp2_with (go_at_call 24; (with_reducible refine (h_ixS 0 c (X : Int) _ hm.out).mono ?_); rintro e w' ⟨rfl, rfl⟩)
        go_quiet (fail)
        go_wp2
        go_ret2
        exact ⟨by rw [HX.out, HM.out]; simp [rowF, rowM], below_dN (HB.out.alloc (by exact HB.out.size) _) _⟩
    · by_cases hlt : 1 < rowOf c
      · have hm := Lib.hid (ix_miss c hlt (by omega))
        have i1 := idx1 wr
        go_wp2_with (go_at_call 24; (with_reducible refine (h_ixS 1 c (-1) _ hm.out).mono ?_); rintro e w' ⟨rfl, rfl⟩)
        go_roundw
        case rel => exact ⟨2, hlt, rfl, HB.out.alloc (by exact HB.out.size) _⟩
        case measure => simp [intOf]
      · have he : rowOf c = 1 := by omega
        have hx := ix_hit c
        have hmn : mny c = rowM 1 := by unfold mny; rw [he]
        have hge := rowF_le c
        rw [he] at hx hge
        obtain ⟨X, hX⟩ : ∃ X : Nat, cod c = rowF 1 + X := ⟨cod c - rowF 1, by omega⟩
        have hxx : Lib.indexByte (rowL 1) c = (X : Int) := by rw [hx, hX, Int.natCast_add]; omega
        have hlt2 : X < 2000 := by have := cod_range c; omega
        have hm := Lib.hid hxx
        have HM := Lib.hid hmn
        have HX := Lib.hid hX
        have i1 := idx1 wr
        clear hx hxx hmn hge hX he hk hlt
        go_wp2_with (go_at_call 24; (with_reducible refine (h_ixS 1 c (X : Int) _ hm.out).mono ?_); rintro e w' ⟨rfl, rfl⟩)
        go_quiet (fail)
        go_wp2
        go_ret2
        exact ⟨by rw [HX.out, HM.out]; simp [rowF, rowM], below_dN (HB.out.alloc (by exact HB.out.size) _) _⟩
    · by_cases hlt : 2 < rowOf c
      · have hm := Lib.hid (ix_miss c hlt (by omega))
        have i2 := idx2 wr
        go_wp2_with (go_at_call 24; (with_reducible refine (h_ixS 2 c (-1) _ hm.out).mono ?_); rintro e w' ⟨rfl, rfl⟩)
        go_roundw
        case rel => exact ⟨3, hlt, rfl, HB.out.alloc (by exact HB.out.size) _⟩
        case measure => simp [intOf]
      · have he : rowOf c = 2 := by omega
        have hx := ix_hit c
        have hmn : mny c = rowM 2 := by unfold mny; rw [he]
        have hge := rowF_le c
        rw [he] at hx hge
        obtain ⟨X, hX⟩ : ∃ X : Nat, cod c = rowF 2 + X := ⟨cod c - rowF 2, by omega⟩
        have hxx : Lib.indexByte (rowL 2) c = (X : Int) := by rw [hx, hX, Int.natCast_add]; omega
        have hlt2 : X < 2000 := by have := cod_range c; omega
        have hm := Lib.hid hxx
        have HM := Lib.hid hmn
        have HX := Lib.hid hX
        have i2 := idx2 wr
        clear hx hxx hmn hge hX he hk hlt
        go_wp2_with (go_at_call 24; (with_reducible refine (h_ixS 2 c (X : Int) _ hm.out).mono ?_); rintro e w' ⟨rfl, rfl⟩)
        go_quiet (fail)
        go_wp2
        go_ret2
        exact ⟨by rw [HX.out, HM.out]; simp [rowF, rowM], below_dN (HB.out.alloc (by exact HB.out.size) _) _⟩
    · by_cases hlt : 3 < rowOf c
      · omega
      · have he : rowOf c = 3 := by omega
        have hx := ix_hit c
        have hmn : mny c = rowM 3 := by unfold mny; rw [he]
        have hge := rowF_le c
        rw [he] at hx hge
        obtain ⟨X, hX⟩ : ∃ X : Nat, cod c = rowF 3 + X := ⟨cod c - rowF 3, by omega⟩
        have hxx : Lib.indexByte (rowL 3) c = (X : Int) := by rw [hx, hX, Int.natCast_add]; omega
        have hlt2 : X < 2000 := by have := cod_range c; omega
        have hm := Lib.hid hxx
        have HM := Lib.hid hmn
        have HX := Lib.hid hX
        have i3 := idx3 wr
        clear hx hxx hmn hge hX he hk hlt
        go_wp2_with (go_at_call 24; (with_reducible refine (h_ixS 3 c (X : Int) _ hm.out).mono ?_); rintro e w' ⟨rfl, rfl⟩)
        go_quiet (fail)
        go_wp2
        go_ret2
        exact ⟨by rw [HX.out, HM.out]; simp [rowF, rowM], below_dN (HB.out.alloc (by exact HB.out.size) _) _⟩
end Go.Proofs.YtfjmgfahlicleaaDoor
