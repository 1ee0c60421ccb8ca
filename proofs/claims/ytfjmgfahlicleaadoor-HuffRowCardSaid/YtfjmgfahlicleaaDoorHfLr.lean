/- The walk of HuffRow. -/
import Derived.Test.YtfjmgfahlicleaaDoorHfW
namespace Go.Proofs.YtfjmgfahlicleaaDoor
open Go.RowKit Hf Oct
set_option linter.unusedVariables false
set_option linter.unusedSimpArgs false
set_option maxHeartbeats 1000000 in
theorem lr_great (A : Option Addr) (n cc : Nat) (w : World) (hR : Rws w) (h : 200 < n) (hm : n ≤ maxLen) :
    Calls Tryd.prog 6 #[.slice A n cc] w fun e w' => e = .returned (.bool true) ∧ Below w.heap.size w w' := by
  unfold maxLen at hm
  have HW := Lib.hid (wakes7 w hR)
  clear hR
  go_enter Tryd.func6, Tryd.ntmps6
  go_wp2_with (go_at_call 8; (with_reducible refine HW.out.mono ?_); rintro e w1 ⟨rfl, hb1⟩; have HB1 := Lib.hid hb1; clear hb1)
  go_ret
  exact ⟨rfl, HB1.out⟩
namespace Hf
theorem put_code {xs ys : List UInt8} {k : Nat} {x : UInt8} (h : IsPut (bl xs) ys) (hx : xs[k]? = some x) : (bl (xs.take k)).length + mny x ≤ 8 * ys.length ∧ codeOf ys (bl (xs.take k)).length (mny x) = cod x := by
  obtain ⟨h1, h2, h3, h4⟩ := h.bits
  have hk := (List.getElem?_eq_some_iff.1 hx).1
  have hs : bl xs = bl (xs.take k) ++ (cbits x ++ bl (xs.drop (k + 1))) := by
    rw [← bl_cons, ← bl_append]
    congr 1
    have h5 : xs.drop k = x :: xs.drop (k + 1) := by
      rw [List.drop_eq_getElem_cons hk]
      have := (List.getElem?_eq_some_iff.1 hx).2
      rw [this]
    rw [← h5, List.take_append_drop]
  have hl : (bl xs).length = (bl (xs.take k)).length + (mny x + (bl (xs.drop (k + 1))).length) := by rw [hs, List.length_append, List.length_append, cbits_length]
  refine ⟨by omega, (code_bits x ys _).2 fun t ht => ?_⟩
  rw [h1 _ (by omega), hs, getD_right (by omega), show (bl (xs.take k)).length + t - (bl (xs.take k)).length = t by omega, getD_left (by rw [cbits_length]; exact ht)]
end Hf
set_option maxRecDepth 100000 in
set_option maxHeartbeats 4000000 in
theorem lr_main (A : Option Addr) (n cc : Nat) (xs : List UInt8) (w : World) (hR : Rws w) (hA : Bs w w.heap.size A n xs) (hn : n ≤ 200) :
    Calls Tryd.prog 6 #[.slice A n cc] w fun e w' => e = .returned (.bool true) ∧ Below w.heap.size w w' := by
  have hbl := bl_le xs
  have hxl := hA.1
  have HPUT := Lib.hid (h_put A n cc xs w hR hA (by omega))
  have HA := Lib.hid hA
  have HR := Lib.hid hR
  clear hR hA
  go_enter Tryd.func6, Tryd.ntmps6
  go_wp2_with (go_at_call 18; (with_reducible refine HPUT.out.mono ?_); rintro e w1 ⟨A1, m1, c1, ys, rfl, hp, hh, hb⟩; have HP := Lib.hid hp; have HH := Lib.hid hh; have HB1 := Lib.hid hb; have hm1 : ys.length = m1 := hh.1.1; have hpl := hp.1; have hz1 : w.heap.size ≤ w1.heap.size := hb.size; clear hp hh hb)
  go_loopw [4, 5] (fun s t wr => ∃ k : Nat, k ≤ n ∧ t = .int .i64 (k : Int) ∧ s = .int .i64 ((bl (xs.take k)).length : Int) ∧ Below w1.heap.size w1 wr) (fun _ t _ => n - (intOf t).toNat)
  case atStart => exact ⟨0, Nat.zero_le _, rfl, rfl, Below.refl _ _⟩
  case round =>
    obtain ⟨k, hk, rfl, rfl, hbel⟩ := hrel
    have HB := Lib.hid hbel
    have HBW := Lib.hid (HB1.out.trans (hbel.mono hz1))
    have hle := bl_take_le xs k
    clear hbel
    by_cases hlt : k < n
    · obtain ⟨b, o, rfl, hb, hc⟩ := bs_cell HA.out (by omega)
      obtain ⟨x, hx, hcx⟩ := hc k hlt
      have hck : wr.cell? ⟨b, o + k, none⟩ = some (.int .u8 (x.toNat : Int)) := (HBW.out.cell (p := ⟨b, o + k, none⟩) hb).trans hcx
      have HT := Lib.hid (bl_take hx)
      have hm := mny_bd x
      obtain ⟨hpc1, hpc2⟩ := put_code HP.out hx
      have HY : Hid (∀ W, Below w1.heap.size w1 W → Calls Tryd.prog 23 #[.slice A1 m1 c1, .int .i64 ((bl (xs.take k)).length : Int), .int .i64 (mny x : Int)] W fun e w' => e = .returned (.tuple #[.int .i64 (cod x : Int), .bool true]) ∧ W = w') := Lib.hid fun W hW => by
        have h := rbits_yes A1 _ m1 c1 ys ((bl (xs.take k)).length : Int) (mny x : Int) W (HH.out.1.on hW) (by omega) (by omega) (by omega) (by omega) (by omega)
        simp only [Int.toNat_natCast] at h
        rw [hpc2] at h
        exact h
      clear hc hx hcx hpc1 hpc2
      generalize (bl (xs.take k)).length = S at *
      go_wp2_with (first
        | (go_at_call 9; (with_reducible refine (h_code x wr (HR.out.on HBW.out)).mono ?_); rintro e w2 ⟨rfl, hb2⟩; have HB2 := Lib.hid (HB.out.trans (hb2.mono HB.out.size)); clear hb2)
        | (go_at_call 23; (with_reducible refine (HY.out w2 HB2.out).mono ?_); rintro e w3 ⟨rfl, rfl⟩))
      go_roundw
      case rel => exact ⟨k + 1, by omega, by go_num, by rw [HT.out]; go_num, HB2.out⟩
      case measure => simp [intOf]; omega
    · obtain rfl : k = n := by omega
      have ht : xs.take k = xs := List.take_of_length_le (by omega)
      have HBT := Lib.hid (h_bits A k cc xs wr (HR.out.on HBW.out) (HA.out.on HBW.out) (by omega))
      obtain ⟨h1, h2, h3, h4⟩ := HP.out.bits
      rw [ht]
      have hq : decide ((8 : Int) * (m1 : Int) - ((bl xs).length : Int) < 8) = true := decide_eq_true (by omega)
      rw [ht] at hle
      clear ht h1 h2
      generalize (bl xs).length = S at *
      go_wp2_with (first
        | (go_at_call 15; (with_reducible refine HBT.out.mono ?_); rintro e w2 ⟨rfl, hb2⟩; have HB2 := Lib.hid (HBW.out.trans (hb2.mono HBW.out.size)); clear hb2)
        | (go_at_call 8; (with_reducible refine (wakes7 w2 (HR.out.on HB2.out)).mono ?_); rintro e w5 ⟨rfl, hb5⟩; have HB5 := Lib.hid (HB2.out.trans (hb5.mono HB2.out.size)); clear hb5))
      go_ret
      exact ⟨rfl, HB5.out⟩
end Go.Proofs.YtfjmgfahlicleaaDoor
