/- table.evicted. -/
import Derived.Test.YtgplkjifgagjpaaDoorTbF
import Derived.Test.YtgplkjifgagjpaaDoorGFldsIn
namespace Go.Proofs.YtgplkjifgagjpaaDoor
open Go.RowKit Tb
set_option linter.unusedVariables false
set_option linter.unusedSimpArgs false
theorem Tb.fit_at {M : Int} {xs : List Fd} {j : Nat} (hM : 0 ≤ M) (hj : j < xs.length) (h1 : (full (xs.take j) : Int) ≤ M) (h2 : ¬ (full (xs.take (j + 1)) : Int) ≤ M) : fit M xs = j := by
  have a := (fit_iff hM (Nat.le_of_lt hj)).1 h1
  have b : ¬ (j + 1 ≤ fit M xs) := fun h => h2 ((fit_iff hM (show j + 1 ≤ xs.length from hj)).2 h)
  omega
theorem Tb.take_snoc {xs : List Fd} {j : Nat} {x : Fd} (h : xs[j]? = some x) : xs.take j ++ [x] = xs.take (j + 1) := by
  obtain ⟨hl, rfl⟩ := List.getElem?_eq_some_iff.1 h
  simp
set_option maxRecDepth 100000 in
set_option maxHeartbeats 4000000 in
theorem t_evicted (M : Int) (A : Option Addr) (n c : Nat) (xs : List Fd) (w : World) (hA : Fs w w.heap.size A n xs) (hF : full xs ≤ 1000000) (hM : 0 ≤ M) :
    Calls Tryd.prog 32 #[.int .i64 M, .slice A n c] w fun e w' => ∃ v, e = .returned (.agg #[.int .i64 M, v]) ∧ OwnF w' w.heap.size 26 v (keep M xs) ∧ Below w.heap.size w w' := by
  obtain ⟨i0, hi, hz0, hz1, hz2⟩ := info_parts info_fld
  have hinf := Lib.hid (And.intro hi (And.intro hz0 (And.intro hz1 hz2)))
  clear hi hz0 hz1 hz2
  have hn := hA.1
  have hfl := full_len xs
  have HA := Lib.hid hA
  have hr0 : ((w.alloc (.cells #[.int .i64 0, .slice none 0 0] 24)).alloc (.cells #[.int .i64 M, .slice none 0 0] 24)).heap[w.heap.size]? = some (.cells #[.int .i64 0, .slice none 0 0] 24) := (Below.heap_alloc _ _ _ (by simp)).trans (World.alloc_heap_new _ _)
  have hr1 : ((w.alloc (.cells #[.int .i64 0, .slice none 0 0] 24)).alloc (.cells #[.int .i64 M, .slice none 0 0] 24)).heap[w.heap.size + 1]? = some (.cells #[.int .i64 M, .slice none 0 0] 24) := by
    have h := World.alloc_heap_new (w.alloc (.cells #[.int .i64 0, .slice none 0 0] 24)) (.cells #[.int .i64 M, .slice none 0 0] 24)
    rwa [World.size_alloc] at h
  have B0 : Hid (Below w.heap.size w ((w.alloc (.cells #[.int .i64 0, .slice none 0 0] 24)).alloc (.cells #[.int .i64 M, .slice none 0 0] 24))) := Lib.hid (((Below.refl _ w).alloc (Nat.le_refl _) (.cells #[.int .i64 0, .slice none 0 0] 24)).alloc (by simp) (.cells #[.int .i64 M, .slice none 0 0] 24))
  have hz : w.heap.size + 2 ≤ ((w.alloc (.cells #[.int .i64 0, .slice none 0 0] 24)).alloc (.cells #[.int .i64 M, .slice none 0 0] 24)).heap.size := by simp
  have HR := Lib.hid (And.intro hr0 hr1)
  clear hA hr0 hr1
  go_enter Tryd.func32, Tryd.ntmps32
  go_wp2
  refine wp_scope_forward 0 rfl ?_
  go_wp2
  go_loopw [6, 13] (fun t u wr => ∃ (j : Nat) (v : Value), j ≤ n ∧ t = .int .i64 (full (xs.take j) : Int) ∧ u = .int .i64 j ∧ (full (xs.take j) : Int) ≤ M ∧ wr.heap[w.heap.size]? = some (.cells #[.int .i64 0, .slice none 0 0] 24) ∧ wr.heap[w.heap.size + 1]? = some (.cells #[.int .i64 M, v] 24) ∧ OwnF wr (w.heap.size + 2) 26 v (xs.take j) ∧ w.heap.size + 2 ≤ wr.heap.size ∧ Below w.heap.size w wr) (fun _ u _ => n - (intOf u).toNat)
  case atStart => exact ⟨0, _, Nat.zero_le _, rfl, rfl, by simpa [full] using hM, HR.out.1, HR.out.2, OwnF.nil_ _ _ _, hz, B0.out⟩
  case round =>
    obtain ⟨j, v, hj, rfl, rfl, hfit, hr0, hr1, hown, hsz2, hbel⟩ := hrel
    have H0 := Lib.hid hr0
    have H1 := Lib.hid hr1
    have B1 := Lib.hid hbel
    have HO := Lib.hid hown
    have HF := Lib.hid hfit
    obtain ⟨Av, cv, rfl, _⟩ := hown.form2 (n := j) (by rw [List.length_take]; omega)
    clear hr0 hr1 hbel B0 hown hz hfit HR
    by_cases hlt : j < n
    · obtain ⟨b, o, rfl, hb, hcc⟩ := fs_cell ((HA.out.below B1.out).more B1.out.size) (by omega)
      obtain ⟨x, hx, h1, h2⟩ := hcc j hlt
      rw [← Nat.add_assoc] at h2
      clear hcc
      have hs1 := full_take_succ hx
      have hs2 := full_take xs (j + 1)
      have hsz : sz x ≤ 4000000000000000000 := by omega
      have hle := B1.out.size
      have HS1 := Lib.hid hs1
      have harm : ∀ w2, Below (wr.alloc (.cells #[.string x.1, .string x.2] 26)).heap.size (wr.alloc (.cells #[.string x.1, .string x.2] 26)) w2 → (w2.cell? ⟨wr.heap.size, 0, none⟩ = some (.string x.1) ∧ w2.cell? ⟨wr.heap.size, 1, none⟩ = some (.string x.2)) ∧ w2.heap[w.heap.size]? = some (.cells #[.int .i64 0, .slice none 0 0] 24) ∧ w2.heap[w.heap.size + 1]? = some (.cells #[.int .i64 M, .slice Av j cv] 24) ∧ OwnF w2 (w.heap.size + 2) 26 (.slice Av j cv) (xs.take j) ∧ w.heap.size + 2 ≤ w2.heap.size ∧ Below w.heap.size w w2 := fun w2 hb2 => by
        obtain ⟨g1, g2⟩ := cells2_row (World.alloc_heap_new wr (.cells #[.string x.1, .string x.2] 26))
        have hz4 : (wr.alloc (.cells #[.string x.1, .string x.2] 26)).heap.size = wr.heap.size + 1 := World.size_alloc _ _
        have hz5 := hb2.size
        exact ⟨⟨(hb2.cell (p := ⟨wr.heap.size, 0, none⟩) (by simp)).trans g1, (hb2.cell (p := ⟨wr.heap.size, 1, none⟩) (by simp)).trans g2⟩,
          (hb2.block _ (by omega)).trans ((Below.heap_alloc _ _ _ (by omega)).trans H0.out), (hb2.block _ (by omega)).trans ((Below.heap_alloc _ _ _ (by omega)).trans H1.out),
          (HO.out.alloc (.cells #[.string x.1, .string x.2] 26)).kept hb2, by omega, below_step (B1.out.alloc hle (.cells #[.string x.1, .string x.2] 26)) hb2⟩
      have HARM := Lib.hid harm
      clear harm
      by_cases hgt : (full (xs.take (j + 1)) : Int) ≤ M
      · have d2 : decide (M < (full (xs.take j) : Int) + (sz x : Int)) = false := decide_eq_false (by omega)
        have hgt' := hgt
        have HT := Lib.hid (take_snoc hx)
        have HG := Lib.hid hgt
        clear B1 HO HF H0 H1 hgt hgt' hx
        go_wp2_with (first
          | go_skip
          | (go_at_call 15; (have hc := t_size x (wr.alloc (.cells #[.string x.1, .string x.2] 26)) hsz; unfold fdv at hc; (with_reducible refine hc.mono ?_); clear hc); rintro e w2 ⟨rfl, hb2⟩; obtain ⟨⟨q1, q2⟩, k0, k1, o2, z2, b2⟩ := HARM.out w2 hb2; have R0 := Lib.hid k0; have R1 := Lib.hid k1; have O2 := Lib.hid o2; have Z2 := Lib.hid z2; have B2 := Lib.hid b2; have r1 := (cells2_row k1).2; clear hb2 h1 h2 k0 k1 o2 z2 b2 HARM)
          | (at_builtin; refine wpList_append_flds _ rfl (.tmp 25) (.tmp 27) 22 rfl (w.heap.size + 2) 26 i0 Tryd.underlying22 hinf.out.1 hinf.out.2.1 hinf.out.2.2.1 hinf.out.2.2.2 _ (xs.take j) rfl (O2.out.alloc _) _ _ 1 1 [x] rfl (fs_lit w2 _ [x] _ _ rfl (by simp [fdc])) (fun h => by cases h) (by rw [List.length_take]; omega) (by have := Z2.out; simp; omega) ?_; intro v4 w4 hown4 hb4 hg4 _; obtain ⟨A4, c4, rfl, _⟩ := hown4.form2 (n := j + 1) (by rw [List.length_append, List.length_take, List.length_singleton]; omega); have O4 := Lib.hid hown4; have B4 := Lib.hid hb4; have hr4 := (hb4.block (w.heap.size + 1) (by omega)).trans ((Below.heap_alloc _ _ _ (by have := Z2.out; omega)).trans R1.out); have hr5 := (hb4.block (w.heap.size) (by omega)).trans ((Below.heap_alloc _ _ _ (by have := Z2.out; omega)).trans R0.out); have R4 := Lib.hid hr4; have R5 := Lib.hid hr5; clear hown4 hb4 hg4 hr4 hr5 R0 R1 q1 q2 r1)
          | (refine at_store 22 (.tmp 29) (.tmp 28) (by rfl) ?_; refine wpList_put (by rfl) 22 (.tmp 29) (.tmp 28) (by rfl) (w.heap.size + 1) 1 (.slice A4 (j + 1) c4) (by rfl) (by rfl) 24 #[.int .i64 M, .slice Av j cv] #[.int .i64 M, .slice A4 (j + 1) c4] R4.out (by simp [Value.cells]) (by kernel_rfl) infoc_L (by kernel_rfl) ?_; intro w5 hrow hoth hz5 hbl; have H5 := Lib.hid (And.intro hrow (And.intro hoth (And.intro hz5 hbl))); clear hrow hoth hz5 hbl))
        go_roundw
        case rel =>
          obtain ⟨hrow, hoth, hz5, hbl⟩ := H5.out
          have hb4 := B4.out
          have hb6 : Below (w.heap.size + 2) w2 w4 := ((Below.refl _ w2).alloc Z2.out _).trans hb4
          exact ⟨j + 1, .slice A4 (j + 1) c4, by omega, by rw [HS1.out]; go_num, by go_num, HG.out, (hoth _ (by omega)).trans R5.out, hrow, by rw [← HT.out]; exact O4.out.above fun k hk => hoth k (by omega), by have := hb6.size; have := Z2.out; omega, hbl _ _ (by omega) (B2.out.trans (hb6.mono (by omega)))⟩
        case measure => simp [intOf]; omega
      · have d2 : decide (M < (full (xs.take j) : Int) + (sz x : Int)) = true := decide_eq_true (by omega)
        have hkeep : keep M xs = xs.take j := by unfold keep; rw [fit_at hM (by omega) HF.out hgt]
        have HKP := Lib.hid hkeep
        clear B1 HO HF H0 H1 hgt hkeep
        go_wp2_with (first
          | go_skip
          | (go_at_call 15; (have hc := t_size x (wr.alloc (.cells #[.string x.1, .string x.2] 26)) hsz; unfold fdv at hc; (with_reducible refine hc.mono ?_); clear hc); rintro e w2 ⟨rfl, hb2⟩; obtain ⟨⟨q1, q2⟩, k0, k1, o2, z2, b2⟩ := HARM.out w2 hb2; have R0 := Lib.hid k0; have R1 := Lib.hid k1; have O2 := Lib.hid o2; have Z2 := Lib.hid z2; have B2 := Lib.hid b2; have r1 := (cells2_row k1); clear hb2 h1 h2 k0 k1 o2 z2 b2 HARM))
        go_step3
        refine ⟨rfl, ?_⟩
        go_wp2_with (first
          | go_skip
          | (refine at_load 24 (.tmp 5) (by rfl) ?_; refine wpList_load_row (by rfl) 24 (.tmp 5) (by rfl) (w.heap.size + 1) (by rfl) 24 #[.int .i64 M, .slice Av j cv] (0, 0) _ R1.out Tryd.underlying24 (by rfl) infoc_T ?_)
          | (refine at_store 24 (.tmp 4) (.tmp 31) (by rfl) ?_; refine wpList_put (by rfl) 24 (.tmp 4) (.tmp 31) (by rfl) (w.heap.size) 0 (.agg #[.int .i64 M, .slice Av j cv]) (by rfl) (by rfl) 24 #[.int .i64 0, .slice none 0 0] #[.int .i64 M, .slice Av j cv] R0.out (by simp [Value.cells]) (by kernel_rfl) infoc_T (by kernel_rfl) ?_; intro w5 hrow hoth hz5 hbl; have H5 := Lib.hid (And.intro hrow (And.intro hoth (And.intro hz5 hbl))); clear hrow hoth hz5 hbl))
        rw [jump_ret]
        obtain ⟨hrow, hoth, hz5, hbl⟩ := H5.out
        refine bodyPost_ret (res_cell1 rfl _ _ _ _ _ _ rfl hrow Tryd.underlying24 rfl infoc_T) rfl ⟨_, rfl, ?_, hbl _ _ (Nat.le_refl _) B2.out⟩
        rw [HKP.out]
        exact (O2.out.above fun k hk => hoth k (by omega)).less (by omega)
    · obtain rfl : j = n := by omega
      go_wp2
      refine wp_label ?_
      go_wp2_with (first
        | go_skip
        | (refine at_load 24 (.tmp 5) (by rfl) ?_; refine wpList_load_row (by rfl) 24 (.tmp 5) (by rfl) (w.heap.size + 1) (by rfl) 24 #[.int .i64 M, .slice Av j cv] (0, 0) _ H1.out Tryd.underlying24 (by rfl) infoc_T ?_)
        | (refine at_store 24 (.tmp 4) (.tmp 31) (by rfl) ?_; refine wpList_put (by rfl) 24 (.tmp 4) (.tmp 31) (by rfl) (w.heap.size) 0 (.agg #[.int .i64 M, .slice Av j cv]) (by rfl) (by rfl) 24 #[.int .i64 0, .slice none 0 0] #[.int .i64 M, .slice Av j cv] H0.out (by simp [Value.cells]) (by kernel_rfl) infoc_T (by kernel_rfl) ?_; intro w5 hrow hoth hz5 hbl; have H5 := Lib.hid (And.intro hrow (And.intro hoth (And.intro hz5 hbl))); clear hrow hoth hz5 hbl))
      rw [jump_ret]
      obtain ⟨hrow, hoth, hz5, hbl⟩ := H5.out
      refine bodyPost_ret (res_cell1 rfl _ _ _ _ _ _ rfl hrow Tryd.underlying24 rfl infoc_T) rfl ⟨_, rfl, ?_, hbl _ _ (Nat.le_refl _) B1.out⟩
      rw [keep_all (by have h := HF.out; rwa [List.take_of_length_le (by omega)] at h)]
      have hO := HO.out
      rw [List.take_of_length_le (by omega)] at hO
      exact (hO.above fun k hk => hoth k (by omega)).less (by omega)
end Go.Proofs.YtgplkjifgagjpaaDoor
