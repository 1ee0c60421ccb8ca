/- Great. -/
import Derived.Test.YtgplkjifgagjpaaDoorTbH
namespace Go.Proofs.YtgplkjifgagjpaaDoor
open Go.RowKit Tb
set_option linter.unusedVariables false
set_option linter.unusedSimpArgs false
theorem Tb.byts_take (xs : List Fd) (h : ∀ x ∈ xs, x.1.size ≤ 140737488355328 ∧ x.2.size ≤ 140737488355328) (j : Nat) (hj : j ≤ xs.length) : byts (xs.take j) ≤ j * 281474976710656 := by
  induction j with
  | zero => simp [byts, full]
  | succ j ih =>
    have hx : xs[j]? = some xs[j] := List.getElem?_eq_getElem (by omega)
    rw [byts_succ hx]
    have h1 := ih (by omega)
    have h2 := h xs[j] (List.getElem_mem _)
    omega
theorem Tb.great_end {xs : List Fd} {j : Nat} (h : j = xs.length ∧ j ≤ 141 ∨ j = 141 ∧ j ≤ xs.length) : xs.take j = xs.take 141 := by
  rcases h with ⟨rfl, h⟩ | ⟨rfl, _⟩
  · rw [List.take_length, List.take_of_length_le h]
  · rfl
set_option maxRecDepth 100000 in
set_option maxHeartbeats 4000000 in
theorem r_great (A : Option Addr) (n c : Nat) (xs : List Fd) (w : World) (hA : Fs w w.heap.size A n xs) (hn2 : n ≤ c) (hcm : c ≤ maxLen) (hS : ∀ x ∈ xs, x.1.size ≤ 140737488355328 ∧ x.2.size ≤ 140737488355328) :
    Calls Tryd.prog 8 #[.slice A n c] w fun e w' => e = .returned (.bool (greatB xs)) ∧ Below w.heap.size w w' := by
  have hn := hA.1
  have HA := Lib.hid hA
  have HS := Lib.hid hS
  have hcm2 : n ≤ 9223372036854775807 := by unfold maxLen at hcm; omega
  clear hA hS hcm
  go_enter Tryd.func8, Tryd.ntmps8
  go_wp2
  go_loopw [3, 4] (fun t u wr => ∃ j : Nat, j ≤ n ∧ j ≤ 141 ∧ t = .int .i64 (byts (xs.take j) : Int) ∧ u = .int .i64 j ∧ Below w.heap.size w wr) (fun _ u _ => n - (intOf u).toNat)
  case atStart => exact ⟨0, Nat.zero_le _, by omega, rfl, rfl, Below.refl _ _⟩
  case round =>
    obtain ⟨j, hj, hj2, rfl, rfl, hbel⟩ := hrel
    have B1 := Lib.hid hbel
    have hby := byts_take xs HS.out j (by omega)
    clear hbel
    by_cases hend : j = n ∨ j = 141
    · have HT := Lib.hid (great_end (xs := xs) (j := j) (by omega))
      have hgb : greatB xs = (decide (140 < xs.length) || decide (5000 < byts (xs.take j))) := by unfold greatB; rw [HT.out]
      have HGB := Lib.hid hgb
      clear hgb
      rcases Nat.lt_or_ge 140 n with h140 | h140
      · have d3 : decide ((140 : Int) < (n : Int)) = true := decide_eq_true (by omega)
        have d4 : decide (140 < xs.length) = true := decide_eq_true (by omega)
        rcases Nat.lt_or_ge j n with h1 | h1
        · obtain rfl : j = 141 := by omega
          have d1 : decide ((141 : Int) < (n : Int)) = true := decide_eq_true (by omega)
          go_wp2
          go_ret
          exact ⟨(by rw [HGB.out, d4]; rfl), B1.out⟩
        · obtain rfl : j = n := by omega
          go_wp2
          go_ret
          exact ⟨(by rw [HGB.out, d4]; rfl), B1.out⟩
      · obtain rfl : j = n := by omega
        have d3 : decide ((140 : Int) < (j : Int)) = false := decide_eq_false (by omega)
        have d4 : decide (140 < xs.length) = false := decide_eq_false (by omega)
        have d5 : decide ((5000 : Int) < (byts (xs.take j) : Int)) = decide (5000 < byts (xs.take j)) := by
          by_cases h : 5000 < byts (xs.take j)
          · rw [decide_eq_true h, decide_eq_true (by omega)]
          · rw [decide_eq_false h, decide_eq_false (by omega)]
        have D5 := Lib.hid d5
        clear d5
        go_wp2
        go_ret
        exact ⟨(by rw [HGB.out, d4, ← D5.out]; rfl), B1.out⟩
    · have hlt : j < n := by omega
      have hle : j ≤ 140 := by omega
      obtain ⟨b, o, rfl, hb, hcc⟩ := fs_cell ((HA.out.below B1.out).more B1.out.size) (by omega)
      obtain ⟨x, hx, h1, h2⟩ := hcc j hlt
      rw [← Nat.add_assoc] at h2
      clear hcc
      have hs := byts_succ hx
      have hxs := HS.out x (List.mem_of_getElem? hx)
      have HSS := Lib.hid hs
      have d1 : decide ((j : Int) ≤ 140) = true := decide_eq_true (by omega)
      clear hend hs
      go_wp2
      go_region
      go_wp2
      go_roundw
      case rel => exact ⟨j + 1, by omega, by omega, by rw [HSS.out]; go_num, by go_num, B1.out.drew⟩
      case measure => simp [intOf]; omega
end Go.Proofs.YtgplkjifgagjpaaDoor
