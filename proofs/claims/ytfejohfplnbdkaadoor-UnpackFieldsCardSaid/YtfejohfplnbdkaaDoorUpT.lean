/- The document's own answer, layer 10: what is too great, lists, sizes. -/
import Derived.Test.YtfejohfplnbdkaaDoorUpS
namespace Go.Proofs.YtfejohfplnbdkaaDoor
open Go.RowKit Go.Shelf Px Tx Tb Up
set_option linter.unusedVariables false
set_option linter.unusedSimpArgs false
set_option maxRecDepth 100000 in
set_option maxHeartbeats 4000000 in
theorem v_Fields (A A' : Option Addr) (n n' c c' : Nat) (xs ys : List Fd) (w : World) (hA : Fs w w.heap.size A n xs) (hA' : Fs w w.heap.size A' n' ys) (hn : n ≤ 1000000) :
    Calls Tryd.prog 12 #[.slice A n c, .slice A' n' c'] w fun e w' => e = .returned (.bool (decide (xs = ys))) ∧ Below w.heap.size w w' := by
  have hl := hA.1
  have hl' := hA'.1
  by_cases hne : n = n'
  · subst hne
    have HA := Lib.hid hA
    have HA' := Lib.hid hA'
    clear hA hA'
    go_enter Tryd.func12, Tryd.ntmps12
    go_wp2
    go_loopw [5] (fun t wr => ∃ j : Nat, j ≤ n ∧ t = .int .i64 j ∧ xs.take j = ys.take j ∧ Below w.heap.size w wr) (fun t _ => n - (intOf t).toNat)
    case atStart => exact ⟨0, Nat.zero_le _, rfl, rfl, Below.refl _ _⟩
    case round =>
      obtain ⟨j, hj, rfl, hsame, hbel⟩ := hrel
      have HS := Lib.hid hsame
      have B1 := Lib.hid hbel
      clear hsame hbel
      by_cases hlt : j < n
      · skip
        obtain ⟨b, o, rfl, hb, hcc⟩ := fs_cell ((HA.out.below B1.out).more B1.out.size) (by omega)
        obtain ⟨x, hx, h1, h2⟩ := hcc j hlt
        obtain ⟨b', o', rfl, hb', hcc'⟩ := fs_cell ((HA'.out.below B1.out).more B1.out.size) (by omega)
        obtain ⟨y, hy, h1', h2'⟩ := hcc' j hlt
        rw [← Nat.add_assoc] at h2 h2'
        clear hcc hcc'
        go_wp2
        rcases fd_ways x y with rfl | ⟨hxy, n1⟩ | ⟨hxy, n1, n2⟩
        · have HT := Lib.hid (same_take hx hy HS.out)
          go_region
          go_wp2
          go_roundw
          case rel => exact ⟨j + 1, by omega, by go_num, HT.out, B1.out.drew⟩
          case measure => simp [intOf]; omega
        · have HE := Lib.hid (ne_at hx hy hxy)
          go_region
          go_wp2
          go_ret
          exact ⟨retb HE.out.symm, B1.out.drew⟩
        · have HE := Lib.hid (ne_at hx hy hxy)
          go_region
          go_wp2
          go_ret
          exact ⟨retb HE.out.symm, B1.out.drew⟩
      · obtain rfl : j = n := by omega
        go_wp2
        go_ret
        exact ⟨retb (eq_take hl hl' HS.out).symm, B1.out⟩
  · have hb : decide (xs = ys) = false := ne_len (by omega)
    rw [hb]
    have d : ((n : Int) != (n' : Int)) = true := by simp; omega
    clear hA hA' hb
    go_enter Tryd.func12, Tryd.ntmps12
    go_wp2
    go_ret
    exact ⟨rfl, Below.refl _ _⟩
theorem v_same (A A' : Option Addr) (n n' c c' : Nat) (B B' : Nat) (xs ys : List UInt8) (w : World) (hA : Bs w B A n xs) (hA' : Bs w B' A' n' ys) :
    Calls Tryd.prog 22 #[.slice A n c, .slice A' n' c'] w fun e w' => e = .returned (.bool (xs == ys)) ∧ w = w' := by
  have h1 := conv_bytes (c := c) hA
  have h2 := conv_bytes (c := c') hA'
  clear hA hA'
  go_enter Tryd.func22, Tryd.ntmps22
  go_wp2
  go_ret
  exact ⟨rfl, rfl⟩
set_option maxRecDepth 100000 in
set_option maxHeartbeats 4000000 in
theorem v_Size (A : Option Addr) (n c : Nat) (xs : List Fd) (w : World) (hA : Fs w w.heap.size A n xs) (hF : full xs ≤ 1000000) :
    Calls Tryd.prog 10 #[.slice A n c] w fun e w' => e = .returned (.int .i64 (full xs : Int)) ∧ Below w.heap.size w w' := by
  have hn := hA.1
  have hfl := full_len xs
  have K0 : Hid (EnvF w [fF A n xs] []) := Lib.hid ((EnvF.nil w).addF hA)
  have B0 : Hid (Below w.heap.size w w) := Lib.hid (Below.refl _ w)
  clear hA
  go_enter Tryd.func10, Tryd.ntmps10
  go_wp2
  go_loopw [3, 4] (fun t u wr => ∃ j : Nat, j ≤ n ∧ t = .int .i64 (full (xs.take j) : Int) ∧ u = .int .i64 j ∧ EnvF wr [fF A n xs] [] ∧ Below w.heap.size w wr) (fun _ u _ => n - (intOf u).toNat)
  case atStart => exact ⟨0, Nat.zero_le _, rfl, rfl, K0.out, B0.out⟩
  case round =>
    obtain ⟨j, hj, rfl, rfl, hk, hbel⟩ := hrel
    have K1 := Lib.hid hk
    have B1 := Lib.hid hbel
    clear hk hbel K0 B0
    by_cases hlt : j < n
    · -- one more
      obtain ⟨b, o, rfl, hb, hcc⟩ := fs_cell (K1.out.fs (A := A) (n := n) (xs := xs) (by simp)) (by omega)
      obtain ⟨x, hx, h1, h2⟩ := hcc j hlt
      rw [← Nat.add_assoc] at h2
      clear hcc
      have hs1 := full_take_succ hx
      have hs2 := full_take xs (j + 1)
      have hsz : sz x ≤ 4000000000000000000 := by omega
      have HS1 := Lib.hid hs1
      have hle := B1.out.size
      go_wp2_with (first
        | go_skip
        | (go_at_call 18; (have hc := r_size x wr hsz; unfold fdv at hc; (with_reducible refine hc.mono ?_); clear hc); rintro e w2 ⟨rfl, hb2⟩; have K2 := Lib.hid (K1.out.on hb2); have B2 := Lib.hid (below_step B1.out hb2); clear hb2 h1 h2))
      go_roundw
      case rel => exact ⟨j + 1, by omega, by rw [HS1.out]; go_num, by go_num, K2.out, B2.out⟩
      case measure => simp [intOf]; omega
    · obtain rfl : j = n := by omega
      go_wp2
      go_ret
      exact ⟨(by rw [List.take_of_length_le (by omega)]; rfl), B1.out⟩
namespace Up
/-- Whether a table is too great. -/
def grB (xs : List Fd) : Bool := decide (200 < xs.length) || decide (9000 < byts (xs.take 201))
theorem gr_end {xs : List Fd} {j : Nat} (h : j = xs.length ∧ j ≤ 201 ∨ j = 201 ∧ j ≤ xs.length) : xs.take j = xs.take 201 := by
  rcases h with ⟨rfl, h⟩ | ⟨rfl, _⟩
  · rw [List.take_length, List.take_of_length_le h]
  · rfl
/-- What is not too great is at most 15400. -/
theorem gr_full {xs : List Fd} (h : grB xs = false) : xs.length ≤ 200 ∧ full xs ≤ 15400 := by
  unfold grB at h
  simp only [Bool.or_eq_false_iff, decide_eq_false_iff_not] at h
  have h1 : xs.length ≤ 200 := by omega
  refine ⟨h1, ?_⟩
  have h2 := h.2
  rw [List.take_of_length_le (by omega)] at h2
  unfold byts at h2
  omega
end Up
set_option maxRecDepth 100000 in
set_option maxHeartbeats 4000000 in
theorem v_Great (M : Int) (A : Option Addr) (n c : Nat) (xs : List Fd) (w : World) (hA : Fs w w.heap.size A n xs) (hn2 : n ≤ c) (hcm : c ≤ maxLen) (hS : ∀ x ∈ xs, x.1.size ≤ 140737488355328 ∧ x.2.size ≤ 140737488355328) :
    Calls Tryd.prog 6 #[.agg #[.int .i64 M, .slice A n c]] w fun e w' => e = .returned (.bool (grB xs)) ∧ Below w.heap.size w w' := by
  have hn := hA.1
  have K0 : Hid (EnvF (w.alloc (.cells #[.int .i64 M, .slice A n c] 24)) [fF A n xs] [(w.heap.size, #[.int .i64 M, .slice A n c], 24)]) := Lib.hid (((EnvF.nil w).addF hA).boxg 24 #[.int .i64 M, .slice A n c] (w.heap.size) (by simp))
  have B0 : Hid (Below w.heap.size w (w.alloc (.cells #[.int .i64 M, .slice A n c] 24))) := Lib.hid ((Below.refl _ w).alloc (Nat.le_refl _) (.cells #[.int .i64 M, .slice A n c] 24))
  have HS := Lib.hid hS
  have hcm2 : n ≤ 9223372036854775807 := by unfold maxLen at hcm; omega
  clear hA hS hcm
  go_enter Tryd.func6, Tryd.ntmps6
  go_wp2
  go_loopw [3, 4] (fun t u wr => ∃ j : Nat, j ≤ n ∧ j ≤ 201 ∧ t = .int .i64 (byts (xs.take j) : Int) ∧ u = .int .i64 j ∧ EnvF wr [fF A n xs] [(w.heap.size, #[.int .i64 M, .slice A n c], 24)] ∧ Below w.heap.size w wr) (fun _ u _ => n - (intOf u).toNat)
  case atStart => exact ⟨0, Nat.zero_le _, by omega, rfl, rfl, K0.out, B0.out⟩
  case round =>
    obtain ⟨j, hj, hj2, rfl, rfl, hk, hbel⟩ := hrel
    have K1 := Lib.hid hk
    obtain ⟨c0, c1⟩ := cells2_row (hk.row 0 rfl)
    have B1 := Lib.hid hbel
    have hby := byts_take xs HS.out j (by omega)
    clear hbel hk K0 B0
    by_cases hend : j = n ∨ j = 201
    · have HT := Lib.hid (gr_end (xs := xs) (j := j) (by omega))
      have hgb : grB xs = (decide (200 < xs.length) || decide (9000 < byts (xs.take j))) := by unfold grB; rw [HT.out]
      have HGB := Lib.hid hgb
      clear hgb
      rcases Nat.lt_or_ge 200 n with h200 | h200
      · have d3 : decide ((200 : Int) < (n : Int)) = true := decide_eq_true (by omega)
        have d4 : decide (200 < xs.length) = true := decide_eq_true (by omega)
        rcases Nat.lt_or_ge j n with h1 | h1
        · obtain rfl : j = 201 := by omega
          have d1 : decide ((201 : Int) < (n : Int)) = true := decide_eq_true (by omega)
          go_wp2
          go_ret
          exact ⟨(by rw [HGB.out, d4]; rfl), B1.out⟩
        · obtain rfl : j = n := by omega
          go_wp2
          go_ret
          exact ⟨(by rw [HGB.out, d4]; rfl), B1.out⟩
      · obtain rfl : j = n := by omega
        have d3 : decide ((200 : Int) < (j : Int)) = false := decide_eq_false (by omega)
        have d4 : decide (200 < xs.length) = false := decide_eq_false (by omega)
        have d5 : decide ((9000 : Int) < (byts (xs.take j) : Int)) = decide (9000 < byts (xs.take j)) := by
          by_cases h : 9000 < byts (xs.take j)
          · rw [decide_eq_true h, decide_eq_true (by omega)]
          · rw [decide_eq_false h, decide_eq_false (by omega)]
        have D5 := Lib.hid d5
        clear d5
        go_wp2
        go_ret
        exact ⟨(by rw [HGB.out, d4, ← D5.out]; rfl), B1.out⟩
    · have hlt : j < n := by omega
      have hle : j ≤ 200 := by omega
      obtain ⟨b, o, rfl, hb, hcc⟩ := fs_cell (K1.out.fs (A := A) (n := n) (xs := xs) (by simp)) (by omega)
      obtain ⟨x, hx, h1, h2⟩ := hcc j hlt
      rw [← Nat.add_assoc] at h2
      clear hcc
      have hs := byts_succ hx
      have hxs := HS.out x (List.mem_of_getElem? hx)
      have HSS := Lib.hid hs
      have d1 : decide ((j : Int) ≤ 200) = true := decide_eq_true (by omega)
      clear hend hs
      go_wp2
      go_region
      go_wp2
      go_roundw
      case rel => exact ⟨j + 1, by omega, by omega, by rw [HSS.out]; go_num, by go_num, K1.out.drew, B1.out.drew⟩
      case measure => simp [intOf]; omega
end Go.Proofs.YtfejohfplnbdkaaDoor
