/- The document's Static, whole; Size, bounded, both; Full, both. -/
import Derived.Test.YtgplkjifgagjpaaDoorTbS
import Derived.Test.YtgplkjifgagjpaaDoorGJump
namespace Go.Proofs.YtgplkjifgagjpaaDoor
open Go.RowKit Tb
set_option linter.unusedVariables false
set_option linter.unusedSimpArgs false
set_option maxRecDepth 100000 in
set_option maxHeartbeats 4000000 in
theorem r_static_no (i : Int) (w : World) (hi : i < 1 ∨ 20 < i) :
    Calls Tryd.prog 11 #[.int .i64 i] w fun e w' => e = .returned (.tuple #[fdv fd0, .bool false]) ∧ Below w.heap.size w w' := by
  have K0 : Hid (EnvF ((w.alloc (.cells #[.string ⟨#[]⟩, .string ⟨#[]⟩] 26)).alloc (.cells zerA 49)) [] [(w.heap.size + 1, zerA, 49), (w.heap.size, #[.string ⟨#[]⟩, .string ⟨#[]⟩], 26)]) := Lib.hid (((EnvF.nil w).boxg 26 #[.string ⟨#[]⟩, .string ⟨#[]⟩] (w.heap.size) (by simp)).boxg 49 zerA (w.heap.size + 1) (by simp))
  have B0 : Hid (Below w.heap.size w ((w.alloc (.cells #[.string ⟨#[]⟩, .string ⟨#[]⟩] 26)).alloc (.cells zerA 49))) := Lib.hid (((Below.refl _ w).alloc (by first | exact Nat.le_refl _ | (simp only [World.size_alloc]; omega)) (.cells #[.string ⟨#[]⟩, .string ⟨#[]⟩] 26)).alloc (by first | exact Nat.le_refl _ | (simp only [World.size_alloc]; omega)) (.cells zerA 49))
  rcases hi with h | h
  · have d1 : decide (i < 1) = true := decide_eq_true h
    go_enter Tryd.func11, Tryd.ntmps11
    go_wp2_with (first
      | go_skip
      | (refine at_dst 5 (by rfl) ?_; refine wpList_val (by rfl) (sv 0) (by kernel_rfl) ?_)
      | (refine at_dst 6 (by rfl) ?_; refine wpList_val (by rfl) (sv 1) (by kernel_rfl) ?_)
      | (refine at_dst 7 (by rfl) ?_; refine wpList_val (by rfl) (sv 2) (by kernel_rfl) ?_)
      | (refine at_dst 8 (by rfl) ?_; refine wpList_val (by rfl) (sv 3) (by kernel_rfl) ?_)
      | (refine at_dst 9 (by rfl) ?_; refine wpList_val (by rfl) (sv 4) (by kernel_rfl) ?_)
      | (refine at_dst 10 (by rfl) ?_; refine wpList_val (by rfl) (sv 5) (by kernel_rfl) ?_)
      | (refine at_dst 11 (by rfl) ?_; refine wpList_val (by rfl) (sv 6) (by kernel_rfl) ?_)
      | (refine at_dst 12 (by rfl) ?_; refine wpList_val (by rfl) (sv 7) (by kernel_rfl) ?_)
      | (refine at_dst 13 (by rfl) ?_; refine wpList_val (by rfl) (sv 8) (by kernel_rfl) ?_)
      | (refine at_dst 14 (by rfl) ?_; refine wpList_val (by rfl) (sv 9) (by kernel_rfl) ?_)
      | (refine at_dst 15 (by rfl) ?_; refine wpList_val (by rfl) (sv 10) (by kernel_rfl) ?_)
      | (refine at_dst 16 (by rfl) ?_; refine wpList_val (by rfl) (sv 11) (by kernel_rfl) ?_)
      | (refine at_dst 17 (by rfl) ?_; refine wpList_val (by rfl) (sv 12) (by kernel_rfl) ?_)
      | (refine at_dst 18 (by rfl) ?_; refine wpList_val (by rfl) (sv 13) (by kernel_rfl) ?_)
      | (refine at_dst 19 (by rfl) ?_; refine wpList_val (by rfl) (sv 14) (by kernel_rfl) ?_)
      | (refine at_dst 20 (by rfl) ?_; refine wpList_val (by rfl) (sv 15) (by kernel_rfl) ?_)
      | (refine at_dst 21 (by rfl) ?_; refine wpList_val (by rfl) (sv 16) (by kernel_rfl) ?_)
      | (refine at_dst 22 (by rfl) ?_; refine wpList_val (by rfl) (sv 17) (by kernel_rfl) ?_)
      | (refine at_dst 23 (by rfl) ?_; refine wpList_val (by rfl) (sv 18) (by kernel_rfl) ?_)
      | (refine at_dst 24 (by rfl) ?_; refine wpList_val (by rfl) (sv 19) (by kernel_rfl) ?_)
      | (refine at_dst 25 (by rfl) ?_; refine wpList_val (by rfl) statV (by kernel_rfl) ?_)
      | (refine at_store 49 (.tmp 4) (.tmp 25) (by rfl) ?_; refine wpList_put (by rfl) 49 (.tmp 4) (.tmp 25) (by rfl) (w.heap.size + 1) 0 (statV) (by rfl) (by rfl) 49 zerA statA (K0.out.row 0 rfl) (of_decide_eq_true (by kernel_rfl)) (by kernel_rfl) infoc_A (by kernel_rfl) ?_; intro w1 hrow hoth hz hbl; have K1 : Hid (EnvF w1 [] [(w.heap.size + 1, statA, 49), (w.heap.size, #[.string ⟨#[]⟩, .string ⟨#[]⟩], 26)]) := Lib.hid (K0.out.turn 0 rfl hrow hoth hz); have B1 : Hid (Below w.heap.size w w1) := Lib.hid (hbl _ _ (by omega) B0.out); clear hrow hoth hz hbl K0 B0)
      | (refine at_store 26 (.tmp 2) (.tmp 32) (by rfl) ?_; refine wpList_put (by rfl) 26 (.tmp 2) (.tmp 32) (by rfl) (w.heap.size) 0 (.agg #[.string ⟨#[]⟩, .string ⟨#[]⟩]) (by rfl) (by rfl) 26 #[.string ⟨#[]⟩, .string ⟨#[]⟩] #[.string ⟨#[]⟩, .string ⟨#[]⟩] (K1.out.row 1 rfl) (by simp [Value.cells]) (by kernel_rfl) infoc_D (by kernel_rfl) ?_; intro w2 hrow hoth hz hbl; have K2 : Hid (EnvF w2 [] [(w.heap.size + 1, statA, 49), (w.heap.size, #[.string ⟨#[]⟩, .string ⟨#[]⟩], 26)]) := Lib.hid (K1.out.turn 1 rfl hrow hoth hz); have B2 : Hid (Below w.heap.size w w2) := Lib.hid (hbl _ _ (Nat.le_refl _) B1.out); clear hrow hoth hz hbl K1 B1))
    exact bodyPost_ret (res_cell_tmp rfl _ _ _ _ _ _ rfl (K2.out.row 1 rfl) Tryd.underlying26 rfl infoc_D) rfl ⟨rfl, B2.out⟩
  · have d1 : decide (i < 1) = false := decide_eq_false (by omega)
    have d2 : decide (20 < i) = true := decide_eq_true h
    go_enter Tryd.func11, Tryd.ntmps11
    go_wp2_with (first
      | go_skip
      | (refine at_dst 5 (by rfl) ?_; refine wpList_val (by rfl) (sv 0) (by kernel_rfl) ?_)
      | (refine at_dst 6 (by rfl) ?_; refine wpList_val (by rfl) (sv 1) (by kernel_rfl) ?_)
      | (refine at_dst 7 (by rfl) ?_; refine wpList_val (by rfl) (sv 2) (by kernel_rfl) ?_)
      | (refine at_dst 8 (by rfl) ?_; refine wpList_val (by rfl) (sv 3) (by kernel_rfl) ?_)
      | (refine at_dst 9 (by rfl) ?_; refine wpList_val (by rfl) (sv 4) (by kernel_rfl) ?_)
      | (refine at_dst 10 (by rfl) ?_; refine wpList_val (by rfl) (sv 5) (by kernel_rfl) ?_)
      | (refine at_dst 11 (by rfl) ?_; refine wpList_val (by rfl) (sv 6) (by kernel_rfl) ?_)
      | (refine at_dst 12 (by rfl) ?_; refine wpList_val (by rfl) (sv 7) (by kernel_rfl) ?_)
      | (refine at_dst 13 (by rfl) ?_; refine wpList_val (by rfl) (sv 8) (by kernel_rfl) ?_)
      | (refine at_dst 14 (by rfl) ?_; refine wpList_val (by rfl) (sv 9) (by kernel_rfl) ?_)
      | (refine at_dst 15 (by rfl) ?_; refine wpList_val (by rfl) (sv 10) (by kernel_rfl) ?_)
      | (refine at_dst 16 (by rfl) ?_; refine wpList_val (by rfl) (sv 11) (by kernel_rfl) ?_)
      | (refine at_dst 17 (by rfl) ?_; refine wpList_val (by rfl) (sv 12) (by kernel_rfl) ?_)
      | (refine at_dst 18 (by rfl) ?_; refine wpList_val (by rfl) (sv 13) (by kernel_rfl) ?_)
      | (refine at_dst 19 (by rfl) ?_; refine wpList_val (by rfl) (sv 14) (by kernel_rfl) ?_)
      | (refine at_dst 20 (by rfl) ?_; refine wpList_val (by rfl) (sv 15) (by kernel_rfl) ?_)
      | (refine at_dst 21 (by rfl) ?_; refine wpList_val (by rfl) (sv 16) (by kernel_rfl) ?_)
      | (refine at_dst 22 (by rfl) ?_; refine wpList_val (by rfl) (sv 17) (by kernel_rfl) ?_)
      | (refine at_dst 23 (by rfl) ?_; refine wpList_val (by rfl) (sv 18) (by kernel_rfl) ?_)
      | (refine at_dst 24 (by rfl) ?_; refine wpList_val (by rfl) (sv 19) (by kernel_rfl) ?_)
      | (refine at_dst 25 (by rfl) ?_; refine wpList_val (by rfl) statV (by kernel_rfl) ?_)
      | (refine at_store 49 (.tmp 4) (.tmp 25) (by rfl) ?_; refine wpList_put (by rfl) 49 (.tmp 4) (.tmp 25) (by rfl) (w.heap.size + 1) 0 (statV) (by rfl) (by rfl) 49 zerA statA (K0.out.row 0 rfl) (of_decide_eq_true (by kernel_rfl)) (by kernel_rfl) infoc_A (by kernel_rfl) ?_; intro w1 hrow hoth hz hbl; have K1 : Hid (EnvF w1 [] [(w.heap.size + 1, statA, 49), (w.heap.size, #[.string ⟨#[]⟩, .string ⟨#[]⟩], 26)]) := Lib.hid (K0.out.turn 0 rfl hrow hoth hz); have B1 : Hid (Below w.heap.size w w1) := Lib.hid (hbl _ _ (by omega) B0.out); clear hrow hoth hz hbl K0 B0)
      | (refine at_store 26 (.tmp 2) (.tmp 32) (by rfl) ?_; refine wpList_put (by rfl) 26 (.tmp 2) (.tmp 32) (by rfl) (w.heap.size) 0 (.agg #[.string ⟨#[]⟩, .string ⟨#[]⟩]) (by rfl) (by rfl) 26 #[.string ⟨#[]⟩, .string ⟨#[]⟩] #[.string ⟨#[]⟩, .string ⟨#[]⟩] (K1.out.row 1 rfl) (by simp [Value.cells]) (by kernel_rfl) infoc_D (by kernel_rfl) ?_; intro w2 hrow hoth hz hbl; have K2 : Hid (EnvF w2 [] [(w.heap.size + 1, statA, 49), (w.heap.size, #[.string ⟨#[]⟩, .string ⟨#[]⟩], 26)]) := Lib.hid (K1.out.turn 1 rfl hrow hoth hz); have B2 : Hid (Below w.heap.size w w2) := Lib.hid (hbl _ _ (Nat.le_refl _) B1.out); clear hrow hoth hz hbl K1 B1))
    exact bodyPost_ret (res_cell_tmp rfl _ _ _ _ _ _ rfl (K2.out.row 1 rfl) Tryd.underlying26 rfl infoc_D) rfl ⟨rfl, B2.out⟩
theorem r_static (i : Int) (w : World) :
    Calls Tryd.prog 11 #[.int .i64 i] w fun e w' => e = .returned (.tuple #[fdv (atV [] i), .bool (atB [] i)]) ∧ Below w.heap.size w w' := by
  by_cases h : i < 1 ∨ 20 < i
  · unfold atV atB
    rw [atO_nil i h]
    exact r_static_no i w h
  · obtain ⟨k, rfl⟩ : ∃ k : Nat, i = (k : Int) + 1 := ⟨(i - 1).toNat, by omega⟩
    obtain ⟨x, hx, _⟩ := stat_at k (by omega)
    unfold atV atB
    rw [atO_stat [] k (by omega), hx]
    exact r_static_yes k x w (by omega) hx
set_option maxHeartbeats 1000000 in
theorem t_size (x : Fd) (w : World) (h : sz x ≤ 4000000000000000000) :
    Calls Tryd.prog 15 #[fdv x] w fun e w' => e = .returned (.int .i64 (sz x : Int)) ∧ Below w.heap.size w w' := by
  have h1 : x.1.size + x.2.size + 32 ≤ 4000000000000000000 := h
  unfold fdv sz
  go_enter Tryd.func15, Tryd.ntmps15
  go_wp2
  go_ret
  exact ⟨by go_num, (Below.refl _ _).alloc (Nat.le_refl _) _⟩
set_option maxHeartbeats 1000000 in
theorem r_size (x : Fd) (w : World) (h : sz x ≤ 4000000000000000000) :
    Calls Tryd.prog 16 #[fdv x] w fun e w' => e = .returned (.int .i64 (sz x : Int)) ∧ Below w.heap.size w w' := by
  have h1 : x.1.size + x.2.size + 32 ≤ 4000000000000000000 := h
  unfold fdv sz
  go_enter Tryd.func16, Tryd.ntmps16
  go_wp2
  go_ret
  exact ⟨by go_num, (Below.refl _ _).alloc (Nat.le_refl _) _⟩
theorem t_bounded (m : Int) (w : World) :
    Calls Tryd.prog 31 #[.int .i64 m] w fun e w' => e = .returned (.bool (okB m)) ∧ Below w.heap.size w w' := by
  unfold okB
  by_cases h0 : 0 ≤ m
  · have d0 : decide (0 ≤ m) = true := decide_eq_true h0
    by_cases h1 : m ≤ 4096
    · have d1 : decide (m ≤ 4096) = true := decide_eq_true h1
      rw [d0, d1]
      go_enter Tryd.func31, Tryd.ntmps31
      go_wp2
      go_ret
      exact ⟨rfl, Below.refl _ _⟩
    · have d1 : decide (m ≤ 4096) = false := decide_eq_false h1
      rw [d0, d1]
      go_enter Tryd.func31, Tryd.ntmps31
      go_wp2
      go_ret
      exact ⟨rfl, Below.refl _ _⟩
  · have d0 : decide (0 ≤ m) = false := decide_eq_false h0
    rw [d0, Bool.false_and]
    go_enter Tryd.func31, Tryd.ntmps31
    go_wp2
    go_ret
    exact ⟨rfl, Below.refl _ _⟩
end Go.Proofs.YtgplkjifgagjpaaDoor
