/- Full, both. -/
import Derived.Test.YtgplkjifgagjpaaDoorTbB
namespace Go.Proofs.YtgplkjifgagjpaaDoor
open Go.RowKit Tb
set_option linter.unusedVariables false
set_option linter.unusedSimpArgs false
set_option maxRecDepth 100000 in
set_option maxHeartbeats 4000000 in
theorem t_full (M : Int) (A : Option Addr) (n c : Nat) (xs : List Fd) (w : World) (hA : Fs w w.heap.size A n xs) (hF : full xs ≤ 1000000) :
    Calls Tryd.prog 17 #[.agg #[.int .i64 M, .slice A n c]] w fun e w' => e = .returned (.int .i64 (full xs : Int)) ∧ Below w.heap.size w w' := by
  have hn := hA.1
  have hfl := full_len xs
  have K0 : Hid (EnvF (w.alloc (.cells #[.int .i64 M, .slice A n c] 24)) [fF A n xs] [(w.heap.size, #[.int .i64 M, .slice A n c], 24)]) := Lib.hid (((EnvF.nil w).addF hA).boxg 24 #[.int .i64 M, .slice A n c] (w.heap.size) (by simp))
  have B0 : Hid (Below w.heap.size w (w.alloc (.cells #[.int .i64 M, .slice A n c] 24))) := Lib.hid ((Below.refl _ w).alloc (Nat.le_refl _) (.cells #[.int .i64 M, .slice A n c] 24))
  clear hA
  go_enter Tryd.func17, Tryd.ntmps17
  go_wp2
  go_loopw [3, 9] (fun t u wr => ∃ j : Nat, j ≤ n ∧ t = .int .i64 (full (xs.take j) : Int) ∧ u = .int .i64 j ∧ EnvF wr [fF A n xs] [(w.heap.size, #[.int .i64 M, .slice A n c], 24)] ∧ Below w.heap.size w wr) (fun _ u _ => n - (intOf u).toNat)
  case atStart => exact ⟨0, Nat.zero_le _, rfl, rfl, K0.out, B0.out⟩
  case round =>
    obtain ⟨j, hj, rfl, rfl, hk, hbel⟩ := hrel
    have K1 := Lib.hid hk
    have B1 := Lib.hid hbel
    clear hk hbel K0 B0
    by_cases hlt : j < n
    · -- one more
      obtain ⟨b, o, rfl, hb, hcc⟩ := fs_cell (K1.out.fs (A := A) (n := n) (xs := xs) (by simp)) (by omega)
      obtain ⟨x, hx, h1, h2⟩ := hcc j hlt
      rw [← Nat.add_assoc] at h2
      clear hcc
      have hs1 := full_take_succ hx
      have hs2 := full_take xs (j + 1)
      have hsz : sz x ≤ 4000000000000000000 := by omega
      have HS1 := Lib.hid hs1
      have hle := B1.out.size
      go_wp2_with (first
        | go_skip
        | (go_at_call 15; (have hc := t_size x (wr.alloc (.cells #[.string x.1, .string x.2] 26)) hsz; unfold fdv at hc; (with_reducible refine hc.mono ?_); clear hc); rintro e w2 ⟨rfl, hb2⟩; have K2 := Lib.hid ((K1.out.al (.cells #[.string x.1, .string x.2] 26)).on hb2); have B2 := Lib.hid (below_step (B1.out.alloc hle (.cells #[.string x.1, .string x.2] 26)) hb2); clear hb2 h1 h2))
      go_roundw
      case rel => exact ⟨j + 1, by omega, by rw [HS1.out]; go_num, by go_num, K2.out, B2.out⟩
      case measure => simp [intOf]; omega
    · obtain rfl : j = n := by omega
      go_wp2
      go_ret
      exact ⟨(by rw [List.take_of_length_le (by omega)]; rfl), B1.out⟩
set_option maxRecDepth 100000 in
set_option maxHeartbeats 4000000 in
theorem r_full (M : Int) (A : Option Addr) (n c : Nat) (xs : List Fd) (w : World) (hA : Fs w w.heap.size A n xs) (hF : full xs ≤ 1000000) :
    Calls Tryd.prog 18 #[.agg #[.int .i64 M, .slice A n c]] w fun e w' => e = .returned (.int .i64 (full xs : Int)) ∧ Below w.heap.size w w' := by
  have hn := hA.1
  have hfl := full_len xs
  have K0 : Hid (EnvF (w.alloc (.cells #[.int .i64 M, .slice A n c] 24)) [fF A n xs] [(w.heap.size, #[.int .i64 M, .slice A n c], 24)]) := Lib.hid (((EnvF.nil w).addF hA).boxg 24 #[.int .i64 M, .slice A n c] (w.heap.size) (by simp))
  have B0 : Hid (Below w.heap.size w (w.alloc (.cells #[.int .i64 M, .slice A n c] 24))) := Lib.hid ((Below.refl _ w).alloc (Nat.le_refl _) (.cells #[.int .i64 M, .slice A n c] 24))
  clear hA
  go_enter Tryd.func18, Tryd.ntmps18
  go_wp2
  go_loopw [3, 4] (fun t u wr => ∃ j : Nat, j ≤ n ∧ t = .int .i64 (full (xs.take j) : Int) ∧ u = .int .i64 j ∧ EnvF wr [fF A n xs] [(w.heap.size, #[.int .i64 M, .slice A n c], 24)] ∧ Below w.heap.size w wr) (fun _ u _ => n - (intOf u).toNat)
  case atStart => exact ⟨0, Nat.zero_le _, rfl, rfl, K0.out, B0.out⟩
  case round =>
    obtain ⟨j, hj, rfl, rfl, hk, hbel⟩ := hrel
    have K1 := Lib.hid hk
    have B1 := Lib.hid hbel
    have hr := K1.out.row 0 rfl
    have HR := Lib.hid hr
    have c0 := (cells2_row hr).1
    have c1 := (cells2_row hr).2
    clear hk hbel K0 B0 hr
    by_cases hlt : j < n
    · -- one more
      obtain ⟨b, o, rfl, hb, hcc⟩ := fs_cell (K1.out.fs (A := A) (n := n) (xs := xs) (by simp)) (by omega)
      obtain ⟨x, hx, h1, h2⟩ := hcc j hlt
      rw [← Nat.add_assoc] at h2
      clear hcc
      have hs1 := full_take_succ hx
      have hs2 := full_take xs (j + 1)
      have hsz : sz x ≤ 4000000000000000000 := by omega
      have HS1 := Lib.hid hs1
      have hle := B1.out.size
      go_wp2_with (first
        | go_skip
        | (go_at_call 16; (have hc := r_size x wr hsz; unfold fdv at hc; (with_reducible refine hc.mono ?_); clear hc); rintro e w2 ⟨rfl, hb2⟩; have K2 := Lib.hid (K1.out.on hb2); have B2 := Lib.hid (below_step B1.out hb2); clear hb2 h1 h2 c0 c1))
      go_roundw
      case rel => exact ⟨j + 1, by omega, by rw [HS1.out]; go_num, by go_num, K2.out, B2.out⟩
      case measure => simp [intOf]; omega
    · obtain rfl : j = n := by omega
      go_wp2
      go_ret
      exact ⟨(by rw [List.take_of_length_le (by omega)]; rfl), B1.out⟩
end Go.Proofs.YtgplkjifgagjpaaDoor
