/- Fields, Same, both. -/
import Derived.Test.YtgplkjifgagjpaaDoorTbI
import Derived.Lib.Strings
namespace Go.Proofs.YtgplkjifgagjpaaDoor
open Go.RowKit Tb
set_option linter.unusedVariables false
set_option linter.unusedSimpArgs false
theorem Tb.ba_eq {a b : ByteArray} (h : a.toList = b.toList) : a = b := by
  rw [Lib.toList_data, Lib.toList_data] at h
  exact ByteArray.ext (Array.toList_inj.1 h)
theorem Tb.fd_ways (x y : Fd) : x = y ∨ (x ≠ y ∧ ¬ (x.1.toList = y.1.toList)) ∨ (x ≠ y ∧ x.1 = y.1 ∧ ¬ (x.2.toList = y.2.toList)) := by
  by_cases h : x = y
  · exact .inl h
  · by_cases h1 : x.1 = y.1
    · exact .inr (.inr ⟨h, h1, fun h2 => h (Prod.ext h1 (ba_eq h2))⟩)
    · exact .inr (.inl ⟨h, fun h2 => h1 (ba_eq h2)⟩)
theorem Tb.eq_take {l l' : List Fd} {n : Nat} (h : l.length = n) (h' : l'.length = n) (hs : l.take n = l'.take n) : decide (l = l') = true := by
  rw [List.take_of_length_le (by omega), List.take_of_length_le (by omega)] at hs
  exact decide_eq_true hs
theorem Tb.ne_at {l l' : List Fd} {j : Nat} {x y : Fd} (h : l[j]? = some x) (h' : l'[j]? = some y) (hne : x ≠ y) : decide (l = l') = false := by
  refine decide_eq_false fun e => ?_
  subst e
  rw [h] at h'
  cases h'
  exact hne rfl
theorem Tb.ne_len {l l' : List Fd} (h : l.length ≠ l'.length) : decide (l = l') = false := decide_eq_false fun e => h (by rw [e])
theorem Tb.same_take {l l' : List Fd} {j : Nat} {x : Fd} (h : l[j]? = some x) (h' : l'[j]? = some x) (hs : l.take j = l'.take j) : l.take (j + 1) = l'.take (j + 1) := by
  rw [← take_snoc h, ← take_snoc h', hs]
theorem Tb.retb {b c : Bool} (h : b = c) : Ending.returned (.bool b) = .returned (.bool c) := by rw [h]
/-- Whether two tables are the same. -/
def Tb.sameB (M : Int) (xs : List Fd) (M' : Int) (ys : List Fd) : Bool := decide (M = M') && decide (xs = ys)
set_option maxRecDepth 100000 in
set_option maxHeartbeats 4000000 in
theorem r_fields (A A' : Option Addr) (n n' c c' : Nat) (xs ys : List Fd) (w : World) (hA : Fs w w.heap.size A n xs) (hA' : Fs w w.heap.size A' n' ys) (hn : n ≤ 1000000) :
    Calls Tryd.prog 30 #[.slice A n c, .slice A' n' c'] w fun e w' => e = .returned (.bool (decide (xs = ys))) ∧ Below w.heap.size w w' := by
  have hl := hA.1
  have hl' := hA'.1
  by_cases hne : n = n'
  · subst hne
    have HA := Lib.hid hA
    have HA' := Lib.hid hA'
    clear hA hA'
    go_enter Tryd.func30, Tryd.ntmps30
    go_wp2
    go_loopw [5] (fun t wr => ∃ j : Nat, j ≤ n ∧ t = .int .i64 j ∧ xs.take j = ys.take j ∧ Below w.heap.size w wr) (fun t _ => n - (intOf t).toNat)
    case atStart => exact ⟨0, Nat.zero_le _, rfl, rfl, Below.refl _ _⟩
    case round =>
      obtain ⟨j, hj, rfl, hsame, hbel⟩ := hrel
      have HS := Lib.hid hsame
      have B1 := Lib.hid hbel
      clear hsame hbel
      by_cases hlt : j < n
      · skip
        obtain ⟨b, o, rfl, hb, hcc⟩ := fs_cell ((HA.out.below B1.out).more B1.out.size) (by omega)
        obtain ⟨x, hx, h1, h2⟩ := hcc j hlt
        obtain ⟨b', o', rfl, hb', hcc'⟩ := fs_cell ((HA'.out.below B1.out).more B1.out.size) (by omega)
        obtain ⟨y, hy, h1', h2'⟩ := hcc' j hlt
        rw [← Nat.add_assoc] at h2 h2'
        clear hcc hcc'
        go_wp2
        rcases fd_ways x y with rfl | ⟨hxy, n1⟩ | ⟨hxy, n1, n2⟩
        · have HT := Lib.hid (same_take hx hy HS.out)
          go_region
          go_wp2
          go_roundw
          case rel => exact ⟨j + 1, by omega, by go_num, HT.out, B1.out.drew⟩
          case measure => simp [intOf]; omega
        · have HE := Lib.hid (ne_at hx hy hxy)
          go_region
          go_wp2
          go_ret
          exact ⟨retb HE.out.symm, B1.out.drew⟩
        · have HE := Lib.hid (ne_at hx hy hxy)
          go_region
          go_wp2
          go_ret
          exact ⟨retb HE.out.symm, B1.out.drew⟩
      · obtain rfl : j = n := by omega
        go_wp2
        go_ret
        exact ⟨retb (eq_take hl hl' HS.out).symm, B1.out⟩
  · have hb : decide (xs = ys) = false := ne_len (by omega)
    rw [hb]
    have d : ((n : Int) != (n' : Int)) = true := by simp; omega
    clear hA hA' hb
    go_enter Tryd.func30, Tryd.ntmps30
    go_wp2
    go_ret
    exact ⟨rfl, Below.refl _ _⟩
set_option maxRecDepth 100000 in
set_option maxHeartbeats 4000000 in
theorem t_same (M M' : Int) (A A' : Option Addr) (n n' c c' : Nat) (xs ys : List Fd) (w : World) (hA : Fs w w.heap.size A n xs) (hA' : Fs w w.heap.size A' n' ys) (hn : n ≤ 1000000) :
    Calls Tryd.prog 29 #[.agg #[.int .i64 M, .slice A n c], .agg #[.int .i64 M', .slice A' n' c']] w fun e w' => e = .returned (.bool (sameB M xs M' ys)) ∧ Below w.heap.size w w' := by
  have hl := hA.1
  have hl' := hA'.1
  have K0 : Hid (EnvF ((w.alloc (.cells #[.int .i64 M, .slice A n c] 24)).alloc (.cells #[.int .i64 M', .slice A' n' c'] 24)) [fF A' n' ys, fF A n xs] [(w.heap.size + 1, #[.int .i64 M', .slice A' n' c'], 24), (w.heap.size, #[.int .i64 M, .slice A n c], 24)]) := Lib.hid (((((EnvF.nil w).addF hA).addF hA').boxg 24 #[.int .i64 M, .slice A n c] (w.heap.size) (by simp)).boxg 24 #[.int .i64 M', .slice A' n' c'] (w.heap.size + 1) (by simp))
  have B0 : Hid (Below w.heap.size w ((w.alloc (.cells #[.int .i64 M, .slice A n c] 24)).alloc (.cells #[.int .i64 M', .slice A' n' c'] 24))) := Lib.hid (((Below.refl _ w).alloc (Nat.le_refl _) (.cells #[.int .i64 M, .slice A n c] 24)).alloc (by simp) (.cells #[.int .i64 M', .slice A' n' c'] 24))
  clear hA hA'
  unfold sameB
  by_cases hM : M = M'
  · subst hM
    rw [decide_eq_true (rfl : M = M), Bool.true_and]
    by_cases hne : n = n'
    · subst hne
      go_enter Tryd.func29, Tryd.ntmps29
      go_wp2
      go_loopw [24] (fun t wr => ∃ j : Nat, j ≤ n ∧ t = .int .i64 j ∧ xs.take j = ys.take j ∧ EnvF wr [fF A' n ys, fF A n xs] [(w.heap.size + 1, #[.int .i64 M, .slice A' n c'], 24), (w.heap.size, #[.int .i64 M, .slice A n c], 24)] ∧ Below w.heap.size w wr) (fun t _ => n - (intOf t).toNat)
      case atStart => exact ⟨0, Nat.zero_le _, rfl, rfl, K0.out, B0.out⟩
      case round =>
        obtain ⟨j, hj, rfl, hsame, hk, hbel⟩ := hrel
        have HS := Lib.hid hsame
        have K1 := Lib.hid hk
        have B1 := Lib.hid hbel
        clear hsame hk hbel K0 B0
        by_cases hlt : j < n
        · have hle := B1.out.size
          obtain ⟨b, o, rfl, hb, hcc⟩ := fs_cell (K1.out.fs (A := A) (n := n) (xs := xs) (by simp)) (by omega)
          obtain ⟨x, hx, h1, h2⟩ := hcc j hlt
          obtain ⟨b', o', rfl, hb', hcc'⟩ := fs_cell (K1.out.fs (A := A') (n := n) (xs := ys) (by simp)) (by omega)
          obtain ⟨y, hy, h1', h2'⟩ := hcc' j hlt
          rw [← Nat.add_assoc] at h2 h2'
          clear hcc hcc'
          go_wp2
          have K2 := Lib.hid (K1.out.al (.cells #[.string x.1, .string x.2] 26))
          have B2 := Lib.hid (B1.out.alloc hle (.cells #[.string x.1, .string x.2] 26))
          have g1 := cell_al (x := (.cells #[.string x.1, .string x.2] 26)) hb' h1'
          have g2 := cell_al (x := (.cells #[.string x.1, .string x.2] 26)) hb' h2'
          obtain ⟨q1, q2⟩ := cells2_row (World.alloc_heap_new wr (.cells #[.string x.1, .string x.2] 26))
          have r1 := (cells2_row (K2.out.row 0 rfl)).2
          clear h1 h2 h1' h2' K1 B1
          generalize wr.alloc (.cells #[.string x.1, .string x.2] 26) = W1 at *
          rcases fd_ways x y with rfl | ⟨hxy, n1⟩ | ⟨hxy, n1, n2⟩
          · have HT := Lib.hid (same_take hx hy HS.out)
            go_region
            go_wp2
            go_roundw
            case rel => exact ⟨j + 1, by omega, by go_num, HT.out, K2.out.drew, B2.out.drew⟩
            case measure => simp [intOf]; omega
          · have HE := Lib.hid (ne_at hx hy hxy)
            go_region
            go_wp2
            go_ret
            exact ⟨retb HE.out.symm, B2.out.drew⟩
          · have HE := Lib.hid (ne_at hx hy hxy)
            go_region
            go_wp2
            go_ret
            exact ⟨retb HE.out.symm, B2.out.drew⟩
        · obtain rfl : j = n := by omega
          go_wp2
          go_ret
          exact ⟨retb (eq_take hl hl' HS.out).symm, B1.out⟩
    · have hb : decide (xs = ys) = false := ne_len (by omega)
      rw [hb]
      have d : ((n : Int) != (n' : Int)) = true := by simp; omega
      clear hb
      go_enter Tryd.func29, Tryd.ntmps29
      go_wp2
      go_ret
      exact ⟨rfl, B0.out⟩
  · rw [decide_eq_false hM, Bool.false_and]
    have d : (M != M') = true := by simpa using hM
    go_enter Tryd.func29, Tryd.ntmps29
    go_wp2
    go_ret
    exact ⟨rfl, B0.out⟩
set_option maxRecDepth 100000 in
set_option maxHeartbeats 4000000 in
theorem r_same (M M' : Int) (A A' : Option Addr) (n n' c c' : Nat) (xs ys : List Fd) (w : World) (hA : Fs w w.heap.size A n xs) (hA' : Fs w w.heap.size A' n' ys) (hn : n ≤ 1000000) :
    Calls Tryd.prog 14 #[.agg #[.int .i64 M, .slice A n c], .agg #[.int .i64 M', .slice A' n' c']] w fun e w' => e = .returned (.bool (sameB M xs M' ys)) ∧ Below w.heap.size w w' := by
  have hl := hA.1
  have hl' := hA'.1
  have K0 : Hid (EnvF ((w.alloc (.cells #[.int .i64 M, .slice A n c] 24)).alloc (.cells #[.int .i64 M', .slice A' n' c'] 24)) [fF A' n' ys, fF A n xs] [(w.heap.size + 1, #[.int .i64 M', .slice A' n' c'], 24), (w.heap.size, #[.int .i64 M, .slice A n c], 24)]) := Lib.hid (((((EnvF.nil w).addF hA).addF hA').boxg 24 #[.int .i64 M, .slice A n c] (w.heap.size) (by simp)).boxg 24 #[.int .i64 M', .slice A' n' c'] (w.heap.size + 1) (by simp))
  have B0 : Hid (Below w.heap.size w ((w.alloc (.cells #[.int .i64 M, .slice A n c] 24)).alloc (.cells #[.int .i64 M', .slice A' n' c'] 24))) := Lib.hid (((Below.refl _ w).alloc (Nat.le_refl _) (.cells #[.int .i64 M, .slice A n c] 24)).alloc (by simp) (.cells #[.int .i64 M', .slice A' n' c'] 24))
  clear hA hA'
  unfold sameB
  by_cases hM : M = M'
  · subst hM
    rw [decide_eq_true (rfl : M = M), Bool.true_and]
    have r0 := (cells2_row (K0.out.row 0 rfl)).2
    have r1 := (cells2_row (K0.out.row 1 rfl)).2
    go_enter Tryd.func14, Tryd.ntmps14
    go_wp2_with (first
      | go_skip
      | (go_at_call 30; (have hc := r_fields A A' n n' c c' xs ys ((w.alloc (.cells #[.int .i64 M, .slice A n c] 24)).alloc (.cells #[.int .i64 M, .slice A' n' c'] 24)) (K0.out.fs (A := A) (n := n) (xs := xs) (by simp)) (K0.out.fs (A := A') (n := n') (xs := ys) (by simp)) hn; (with_reducible refine hc.mono ?_); clear hc); rintro e w1 ⟨rfl, hb⟩; have B1 := Lib.hid (below_step B0.out hb); clear hb))
    go_ret
    exact ⟨rfl, B1.out⟩
  · rw [decide_eq_false hM, Bool.false_and]
    have d : (M == M') = false := by simpa using hM
    go_enter Tryd.func14, Tryd.ntmps14
    go_wp2
    go_ret
    exact ⟨rfl, B0.out⟩
end Go.Proofs.YtgplkjifgagjpaaDoor
