/- Package huff: Bits, size, Shorter. -/
import Derived.Test.YtfjmgfahlicleaaDoorHfC
namespace Go.Proofs.YtfjmgfahlicleaaDoor
open Go.RowKit Hf
set_option linter.unusedVariables false
set_option linter.unusedSimpArgs false
namespace Hf
theorem take_next {xs : List UInt8} {k : Nat} {x : UInt8} (h : xs[k]? = some x) : xs.take (k + 1) = xs.take k ++ [x] := by
  rw [List.take_add_one, h]; rfl
theorem bl_take {xs : List UInt8} {k : Nat} {x : UInt8} (h : xs[k]? = some x) : (bl (xs.take (k + 1))).length = (bl (xs.take k)).length + mny x := by
  rw [take_next h, bl_snoc, List.length_append, cbits_length]
theorem bl_take_le (xs : List UInt8) (k : Nat) : (bl (xs.take k)).length ≤ 11 * k := by
  have h1 := bl_le (xs.take k)
  have h2 : (xs.take k).length ≤ k := List.length_take_le _ _
  omega
end Hf
set_option maxHeartbeats 1000000 in
theorem h_bits (A : Option Addr) (n c : Nat) (xs : List UInt8) (w : World) (hR : Rws w) (hA : Bs w w.heap.size A n xs) (hn : n ≤ 10000) :
    Calls Tryd.prog 15 #[.slice A n c] w fun e w' => e = .returned (.int .i64 ((bl xs).length : Int)) ∧ Below w.heap.size w w' := by
  have HR := Lib.hid hR
  have HA := Lib.hid hA
  clear hR hA
  go_enter Tryd.func15, Tryd.ntmps15
  go_wp2
  go_loopw [3, 10] (fun s t wr => ∃ k : Nat, k ≤ n ∧ t = .int .i64 (k : Int) ∧ s = .int .i64 ((bl (xs.take k)).length : Int) ∧ Below w.heap.size w wr) (fun _ t _ => n - (intOf t).toNat)
  case atStart => exact ⟨0, Nat.zero_le _, rfl, rfl, Below.refl _ _⟩
  case round =>
    obtain ⟨k, hk, rfl, rfl, hbel⟩ := hrel
    have HB := Lib.hid hbel
    have hle := bl_take_le xs k
    clear hbel
    by_cases hlt : k < n
    · obtain ⟨b, o, rfl, hb, hc⟩ := bs_cell HA.out (by omega)
      obtain ⟨x, hx, hcx⟩ := hc k hlt
      have hck : wr.cell? ⟨b, o + k, none⟩ = some (.int .u8 (x.toNat : Int)) := (HB.out.cell (p := ⟨b, o + k, none⟩) hb).trans hcx
      have HT := Lib.hid (bl_take hx)
      have hm := mny_bd x
      have HR2 := Lib.hid (HR.out.on HB.out)
      clear hc hx hcx
      generalize (bl (xs.take k)).length = S at *
      go_wp2_with (go_at_call 9; (with_reducible refine (h_code x wr HR2.out).mono ?_); rintro e w1 ⟨rfl, hb1⟩; have HB1 := Lib.hid hb1; clear hb1)
      go_roundw
      case rel => exact ⟨k + 1, by omega, by go_num, by rw [HT.out]; go_num, HB.out.trans (HB1.out.mono HB.out.size)⟩
      case measure => simp [intOf]; omega
    · obtain rfl : k = n := by omega
      have ht : xs.take k = xs := List.take_of_length_le (by rw [HA.out.1]; exact Nat.le_refl _)
      have HT := Lib.hid ht
      clear ht
      go_wp2
      go_ret
      exact ⟨by (try rw [HT.out]); rfl, HB.out⟩
theorem h_size (A : Option Addr) (n c : Nat) (xs : List UInt8) (w : World) (hR : Rws w) (hA : Bs w w.heap.size A n xs) (hn : n ≤ 10000) :
    Calls Tryd.prog 32 #[.slice A n c] w fun e w' => e = .returned (.int .i64 ((((bl xs).length + 7) / 8 : Nat) : Int)) ∧ Below w.heap.size w w' := by
  have hle := bl_le xs
  have hl := hA.1
  have hle2 : (bl xs).length ≤ 110000 := by omega
  have h1 := h_bits A n c xs w hR hA hn
  have H1 := Lib.hid h1
  clear h1 hle hl hA hR
  generalize (bl xs).length = S at *
  go_enter Tryd.func32, Tryd.ntmps32
  go_wp2_with (go_at_call 15; (with_reducible refine H1.out.mono ?_); rintro e w1 ⟨rfl, hb1⟩; have HB1 := Lib.hid hb1; clear hb1)
  go_ret
  exact ⟨ret_int (by omega), HB1.out⟩
theorem h_shorter (A : Option Addr) (n c : Nat) (xs : List UInt8) (w : World) (hR : Rws w) (hA : Bs w w.heap.size A n xs) (hn : n ≤ 10000) :
    Calls Tryd.prog 20 #[.slice A n c] w fun e w' => e = .returned (.bool (decide (((bl xs).length + 7) / 8 < n))) ∧ Below w.heap.size w w' := by
  have h1 := h_size A n c xs w hR hA hn
  have hle := bl_le xs
  have hl := hA.1
  have hle2 : ((bl xs).length + 7) / 8 ≤ 110000 := by omega
  have H1 := Lib.hid h1
  clear h1 hle hl hA hR
  generalize ((bl xs).length + 7) / 8 = S at *
  go_enter Tryd.func20, Tryd.ntmps20
  go_wp2_with (go_at_call 32; (with_reducible refine H1.out.mono ?_); rintro e w1 ⟨rfl, hb1⟩; have HB1 := Lib.hid hb1; clear hb1)
  go_ret
  exact ⟨rfl, HB1.out⟩
end Go.Proofs.YtfjmgfahlicleaaDoor
