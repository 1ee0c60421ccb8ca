/- New, both; Add, both. -/
import Derived.Test.YtgplkjifgagjpaaDoorTbK
namespace Go.Proofs.YtgplkjifgagjpaaDoor
open Go.RowKit Tb
set_option linter.unusedVariables false
set_option linter.unusedSimpArgs false
def Tb.newM (m : Int) : Int := if okB m then m else 0
def Tb.newE (m : Int) : Int := if okB m then 0 else 2
theorem t_new (m : Int) (w : World) :
    Calls Tryd.prog 12 #[.int .i64 m] w fun e w' => ∃ v, e = .returned (.tuple #[.agg #[.int .i64 (newM m), v], .int .i64 (newE m)]) ∧ OwnF w' w.heap.size 26 v [] ∧ Below w.heap.size w w' := by
  have hz : (w.alloc (.cells #[.int .i64 0, .slice none 0 0] 24)).heap.size = w.heap.size + 1 := World.size_alloc _ _
  have h := t_resize 0 none 0 0 [] m (w.alloc (.cells #[.int .i64 0, .slice none 0 0] 24)) Fs.none_ (fun _ => rfl) (by simp [full])
  have e1 : resM 0 [] m = newM m := by unfold resM newM resB; rw [show rightB 0 [] = true from by decide +kernel, Bool.true_and]
  have e2 : resE 0 [] m = newE m := by unfold resE newE resB; rw [show rightB 0 [] = true from by decide +kernel, Bool.true_and]
  have e3 : resL 0 [] m = [] := by unfold resL keep; simp
  rw [e1, e2, e3] at h
  have H := Lib.hid h
  have K0 : Hid (EnvF (w.alloc (.cells #[.int .i64 0, .slice none 0 0] 24)) [] [(w.heap.size, #[.int .i64 0, .slice none 0 0], 24)]) := Lib.hid ((EnvF.nil w).boxg 24 #[.int .i64 0, .slice none 0 0] (w.heap.size) (by simp))
  have B0 := Lib.hid ((Below.refl _ w).alloc (Nat.le_refl _) (.cells #[.int .i64 0, .slice none 0 0] 24))
  clear h e1 e2 e3
  go_enter Tryd.func12, Tryd.ntmps12
  go_wp2_with (first
    | go_skip
    | (go_at_call 23; (with_reducible refine H.out.mono ?_); rintro e w1 ⟨v, rfl, ho, hb⟩; obtain ⟨A3, c3, rfl, _⟩ := ho.form2 (n := 0) rfl; rw [hz] at ho; have O1 := Lib.hid ho; have R1 := Lib.hid ((K0.out.on hb).row 0 rfl); have B1 := Lib.hid (below_step B0.out hb); clear ho hb)
    | (refine at_store 24 (.tmp 2) (.tmp 7) (by rfl) ?_; refine wpList_put (by rfl) 24 (.tmp 2) (.tmp 7) (by rfl) (w.heap.size) 0 (.agg #[.int .i64 (newM m), .slice A3 0 c3]) (by rfl) (by rfl) 24 #[.int .i64 0, .slice none 0 0] #[.int .i64 (newM m), .slice A3 0 c3] R1.out (by simp [Value.cells]) (by kernel_rfl) infoc_T (by kernel_rfl) ?_; intro w5 hrow hoth hz5 hbl; have H5 := Lib.hid (And.intro hrow (And.intro hoth (And.intro hz5 hbl))); clear hrow hoth hz5 hbl))
  obtain ⟨hrow, hoth, hz5, hbl⟩ := H5.out
  exact bodyPost_ret (res_cell_tmp rfl _ _ _ _ _ _ rfl hrow Tryd.underlying24 rfl infoc_T) rfl ⟨_, rfl, (O1.out.above fun k hk => hoth k (by omega)).less (by omega), hbl _ _ (Nat.le_refl _) B1.out⟩
theorem r_new (m : Int) (w : World) :
    Calls Tryd.prog 13 #[.int .i64 m] w fun e w' => ∃ v, e = .returned (.tuple #[.agg #[.int .i64 (newM m), v], .int .i64 (newE m)]) ∧ OwnF w' w.heap.size 26 v [] ∧ Below w.heap.size w w' := by
  unfold newM newE okB
  by_cases h0 : m < 0
  · have d0 : decide (m < 0) = true := decide_eq_true h0
    rw [decide_eq_false (show ¬ 0 ≤ m by omega), Bool.false_and]
    go_enter Tryd.func13, Tryd.ntmps13
    go_wp2
    refine bodyPost_ret (v := .tuple #[.agg #[.int .i64 0, .slice none 0 0], .int .i64 2]) (by simp [results, Tryd.results13, go_sem]) rfl ⟨_, rfl, OwnF.nil_ _ _ _, ?_⟩
    exact (Below.refl _ _).alloc (Nat.le_refl _) _
  · have d0 : decide (m < 0) = false := decide_eq_false h0
    rw [decide_eq_true (show 0 ≤ m by omega), Bool.true_and]
    by_cases h1 : 4096 < m
    · have d1 : decide (4096 < m) = true := decide_eq_true h1
      rw [decide_eq_false (show ¬ m ≤ 4096 by omega)]
      go_enter Tryd.func13, Tryd.ntmps13
      go_wp2
      refine bodyPost_ret (v := .tuple #[.agg #[.int .i64 0, .slice none 0 0], .int .i64 2]) (by simp [results, Tryd.results13, go_sem]) rfl ⟨_, rfl, OwnF.nil_ _ _ _, ?_⟩
      exact (Below.refl _ _).alloc (Nat.le_refl _) _
    · have d1 : decide (4096 < m) = false := decide_eq_false h1
      rw [decide_eq_true (show m ≤ 4096 by omega)]
      go_enter Tryd.func13, Tryd.ntmps13
      go_wp2
      refine bodyPost_ret (v := .tuple #[.agg #[.int .i64 m, .slice none 0 0], .int .i64 0]) (by simp [results, Tryd.results13, go_sem]) rfl ⟨_, rfl, OwnF.nil_ _ _ _, ?_⟩
      exact (Below.refl _ _).alloc (Nat.le_refl _) _
set_option maxRecDepth 100000 in
set_option maxHeartbeats 4000000 in
theorem r_add (M : Int) (A : Option Addr) (n c : Nat) (xs : List Fd) (f : Fd) (w : World) (hA : Fs w w.heap.size A n xs) (hN : A = none → c = 0) (hF : full xs ≤ 100000) (hf : sz f ≤ 100000) :
    Calls Tryd.prog 22 #[.agg #[.int .i64 M, .slice A n c], .agg #[.string f.1, .string f.2]] w fun e w' => ∃ v, e = .returned (.tuple #[.agg #[.int .i64 (addM M xs), v], .int .i64 (addE M xs)]) ∧ OwnF w' w.heap.size 26 v (addL M xs f) ∧ Below w.heap.size w w' := by
  have hr := fun (w0 : World) (h : Fs w0 w0.heap.size A n xs) => r_right M A n c xs w0 h (by omega)
  have hn := hA.1
  have hfl := full_len xs
  have hff : full (f :: xs) ≤ 1000000 := by simp only [full]; omega
  unfold addM addE addL
  by_cases h0 : rightB M xs = true
  · rw [h0] at hr ⊢
    have hm0 : 0 ≤ M := by unfold rightB okB at h0; rw [Bool.and_eq_true, Bool.and_eq_true] at h0; exact of_decide_eq_true h0.1.1
    obtain ⟨i0, hi, hz0, hz1, hz2⟩ := info_parts info_fld
    have hinf := Lib.hid (And.intro hi (And.intro hz0 (And.intro hz1 hz2)))
    clear hi hz0 hz1 hz2 h0
    have K0 : Hid (EnvF (((w.alloc (.cells #[.int .i64 M, .slice A n c] 24)).alloc (.cells #[.string f.1, .string f.2] 26)).alloc (.cells #[.int .i64 0, .slice none 0 0] 24)) [fF A n xs] [(w.heap.size + 1 + 1, #[.int .i64 0, .slice none 0 0], 24), (w.heap.size + 1, #[.string f.1, .string f.2], 26), (w.heap.size, #[.int .i64 M, .slice A n c], 24)]) := Lib.hid (((((EnvF.nil w).addF hA).boxg 24 #[.int .i64 M, .slice A n c] (w.heap.size) (by simp)).boxg 26 #[.string f.1, .string f.2] (w.heap.size + 1) (by simp)).boxg 24 #[.int .i64 0, .slice none 0 0] (w.heap.size + 1 + 1) (by simp))
    have B0 : Hid (Below w.heap.size w (((w.alloc (.cells #[.int .i64 M, .slice A n c] 24)).alloc (.cells #[.string f.1, .string f.2] 26)).alloc (.cells #[.int .i64 0, .slice none 0 0] 24))) := Lib.hid ((((Below.refl _ w).alloc (by first | exact Nat.le_refl _ | (simp only [World.size_alloc]; omega)) (.cells #[.int .i64 M, .slice A n c] 24)).alloc (by first | exact Nat.le_refl _ | (simp only [World.size_alloc]; omega)) (.cells #[.string f.1, .string f.2] 26)).alloc (by first | exact Nat.le_refl _ | (simp only [World.size_alloc]; omega)) (.cells #[.int .i64 0, .slice none 0 0] 24))
    go_enter Tryd.func22, Tryd.ntmps22
    go_wp2_with (first
      | go_skip
      | (refine at_load 24 (.tmp 6) (by rfl) ?_; refine wpList_load_row (by rfl) 24 (.tmp 6) (by rfl) (w.heap.size) (by rfl) 24 #[.int .i64 M, .slice A n c] (0, 0) _ (K0.out.row 2 rfl) Tryd.underlying24 (by rfl) infoc_T ?_)
      | (go_at_call 20; (have hc := (hr (((w.alloc (.cells #[.int .i64 M, .slice A n c] 24)).alloc (.cells #[.string f.1, .string f.2] 26)).alloc (.cells #[.int .i64 0, .slice none 0 0] 24)) (K0.out.fs (A := A) (n := n) (xs := xs) (by simp))); (with_reducible refine hc.mono ?_); clear hc); rintro e w1 ⟨rfl, hb⟩; have K1 : Hid (EnvF w1 [fF A n xs] [(w.heap.size + 1 + 1, #[.int .i64 0, .slice none 0 0], 24), (w.heap.size + 1, #[.string f.1, .string f.2], 26), (w.heap.size, #[.int .i64 M, .slice A n c], 24)]) := Lib.hid (K0.out.on hb); have B1 : Hid (Below w.heap.size w w1) := Lib.hid (below_step B0.out hb); have hl1 := (cells2_row ((K1.out.al (.cells #[.string f.1, .string f.2] 26)).row 2 rfl)).2; clear hb K0 B0)
      | (refine at_load 26 (.tmp 3) (by rfl) ?_; refine wpList_load_row (by rfl) 26 (.tmp 3) (by rfl) (w.heap.size + 1) (by rfl) 26 #[.string f.1, .string f.2] (0, 0) _ (K1.out.row 1 rfl) Tryd.underlying26 (by rfl) infoc_D ?_)
      | (at_builtin; refine wpList_append_flds _ rfl (.tmp 11) (.tmp 13) 22 rfl (w1.heap.size) 26 i0 Tryd.underlying22 hinf.out.1 hinf.out.2.1 hinf.out.2.2.1 hinf.out.2.2.2 _ [f] rfl (OwnF.litn w1 26 _ (Nat.le_refl _) _ rfl [f] _ (by simp [fdc]) 1 rfl (by omega)) _ A n c xs rfl ((K1.out.fs (A := A) (n := n) (xs := xs) (by simp)).alloc (Nat.le_refl _) (.cells #[.string f.1, .string f.2] 26)) hN (by simp; omega) (by simp) ?_; intro v4 w4 hown4 hb4 hg4 _; rw [List.singleton_append] at hown4; obtain ⟨A4, c4, rfl, _⟩ := hown4.form2 (n := n + 1) (by simp; omega); have hb5 := ((Below.refl (w1.heap.size) w1).alloc (Nat.le_refl _) (.cells #[.string f.1, .string f.2] 26)).trans hb4; have K2 : Hid (EnvF w4 [oF w.heap.size 26 (.slice A4 (n + 1) c4) (f :: xs), fF A4 (n + 1) (f :: xs), fF A n xs] [(w.heap.size + 1 + 1, #[.int .i64 0, .slice none 0 0], 24), (w.heap.size + 1, #[.string f.1, .string f.2], 26), (w.heap.size, #[.int .i64 M, .slice A n c], 24)]) := Lib.hid (K1.out.handO hb5 hown4 B1.out.size); have B2 : Hid (Below w.heap.size w w4) := Lib.hid (below_step B1.out hb5); clear hown4 hb4 hg4 hb5 hl1 K1 B1)
      | (refine at_store 22 (.tmp 15) (.tmp 14) (by rfl) ?_; refine wpList_put (by rfl) 22 (.tmp 15) (.tmp 14) (by rfl) (w.heap.size) 1 (.slice A4 (n + 1) c4) (by rfl) (by rfl) 24 #[.int .i64 M, .slice A n c] #[.int .i64 M, .slice A4 (n + 1) c4] (K2.out.row 2 rfl) (by simp [Value.cells]) (by kernel_rfl) infoc_L (by kernel_rfl) ?_; intro w3 hrow hoth hz hbl; have K3 : Hid (EnvF w3 [oF w.heap.size 26 (.slice A4 (n + 1) c4) (f :: xs), fF A4 (n + 1) (f :: xs), fF A n xs] [(w.heap.size + 1 + 1, #[.int .i64 0, .slice none 0 0], 24), (w.heap.size + 1, #[.string f.1, .string f.2], 26), (w.heap.size, #[.int .i64 M, .slice A4 (n + 1) c4], 24)]) := Lib.hid (K2.out.turn 2 rfl hrow hoth hz); have B3 : Hid (Below w.heap.size w w3) := Lib.hid (hbl _ _ (Nat.le_refl _) B2.out); clear hrow hoth hz hbl K2 B2)
      | (refine at_load 24 (.tmp 2) (by rfl) ?_; refine wpList_load_row (by rfl) 24 (.tmp 2) (by rfl) (w.heap.size) (by rfl) 24 #[.int .i64 M, .slice A4 (n + 1) c4] (0, 0) _ (K3.out.row 2 rfl) Tryd.underlying24 (by rfl) infoc_T ?_)
      | (go_at_call 33; (have hc := (r_evicted M A4 (n + 1) c4 (f :: xs) w3 (K3.out.fs (A := A4) (n := n + 1) (xs := f :: xs) (by simp)) (fun h => by obtain ⟨_, _, e, _, h2, _⟩ := (K3.out.own (B := w.heap.size) (t := 26) (v := .slice A4 (n + 1) c4) (xs := f :: xs) (by simp)).form2 (n := n + 1) (by simp; omega); cases e; exact h2 h) hff hm0); (with_reducible refine hc.mono ?_); clear hc); rintro e w4 ⟨v3, rfl, ho, hb⟩; obtain ⟨A3, c3, rfl, _⟩ := ho.form2 (n := fit M (f :: xs)) (keep_len M _); have K4 : Hid (EnvF w4 [oF w.heap.size 26 (.slice A3 (fit M (f :: xs)) c3) (keep M (f :: xs)), fF A3 (fit M (f :: xs)) (keep M (f :: xs)), oF w.heap.size 26 (.slice A4 (n + 1) c4) (f :: xs), fF A4 (n + 1) (f :: xs), fF A n xs] [(w.heap.size + 1 + 1, #[.int .i64 0, .slice none 0 0], 24), (w.heap.size + 1, #[.string f.1, .string f.2], 26), (w.heap.size, #[.int .i64 M, .slice A4 (n + 1) c4], 24)]) := Lib.hid (K3.out.handO hb ho B3.out.size); have B4 : Hid (Below w.heap.size w w4) := Lib.hid (below_step B3.out hb); clear hb ho K3 B3)
      | (refine at_store 24 (.tmp 4) (.tmp 17) (by rfl) ?_; refine wpList_put (by rfl) 24 (.tmp 4) (.tmp 17) (by rfl) (w.heap.size + 1 + 1) 0 (.agg #[.int .i64 M, .slice A3 (fit M (f :: xs)) c3]) (by rfl) (by rfl) 24 #[.int .i64 0, .slice none 0 0] #[.int .i64 M, .slice A3 (fit M (f :: xs)) c3] (K4.out.row 0 rfl) (by simp [Value.cells]) (by kernel_rfl) infoc_T (by kernel_rfl) ?_; intro w5 hrow hoth hz hbl; have K5 : Hid (EnvF w5 [oF w.heap.size 26 (.slice A3 (fit M (f :: xs)) c3) (keep M (f :: xs)), fF A3 (fit M (f :: xs)) (keep M (f :: xs)), oF w.heap.size 26 (.slice A4 (n + 1) c4) (f :: xs), fF A4 (n + 1) (f :: xs), fF A n xs] [(w.heap.size + 1 + 1, #[.int .i64 M, .slice A3 (fit M (f :: xs)) c3], 24), (w.heap.size + 1, #[.string f.1, .string f.2], 26), (w.heap.size, #[.int .i64 M, .slice A4 (n + 1) c4], 24)]) := Lib.hid (K4.out.turn 0 rfl hrow hoth hz); have B5 : Hid (Below w.heap.size w w5) := Lib.hid (hbl _ _ (by omega) B4.out); clear hrow hoth hz hbl K4 B4))
    exact bodyPost_ret (res_cell_tmp rfl _ _ _ _ _ _ rfl (K5.out.row 0 rfl) Tryd.underlying24 rfl infoc_T) rfl ⟨_, rfl, (K5.out.own (B := w.heap.size) (t := 26) (v := .slice A3 (fit M (f :: xs)) c3) (xs := keep M (f :: xs)) (by simp)), B5.out⟩
  · rw [Bool.not_eq_true] at h0
    rw [h0] at hr ⊢
    have K0 : Hid (EnvF (((w.alloc (.cells #[.int .i64 M, .slice A n c] 24)).alloc (.cells #[.string f.1, .string f.2] 26)).alloc (.cells #[.int .i64 0, .slice none 0 0] 24)) [fF A n xs] [(w.heap.size + 1 + 1, #[.int .i64 0, .slice none 0 0], 24), (w.heap.size + 1, #[.string f.1, .string f.2], 26), (w.heap.size, #[.int .i64 M, .slice A n c], 24)]) := Lib.hid (((((EnvF.nil w).addF hA).boxg 24 #[.int .i64 M, .slice A n c] (w.heap.size) (by simp)).boxg 26 #[.string f.1, .string f.2] (w.heap.size + 1) (by simp)).boxg 24 #[.int .i64 0, .slice none 0 0] (w.heap.size + 1 + 1) (by simp))
    have B0 : Hid (Below w.heap.size w (((w.alloc (.cells #[.int .i64 M, .slice A n c] 24)).alloc (.cells #[.string f.1, .string f.2] 26)).alloc (.cells #[.int .i64 0, .slice none 0 0] 24))) := Lib.hid ((((Below.refl _ w).alloc (by first | exact Nat.le_refl _ | (simp only [World.size_alloc]; omega)) (.cells #[.int .i64 M, .slice A n c] 24)).alloc (by first | exact Nat.le_refl _ | (simp only [World.size_alloc]; omega)) (.cells #[.string f.1, .string f.2] 26)).alloc (by first | exact Nat.le_refl _ | (simp only [World.size_alloc]; omega)) (.cells #[.int .i64 0, .slice none 0 0] 24))
    go_enter Tryd.func22, Tryd.ntmps22
    go_wp2_with (first
      | go_skip
      | (refine at_load 24 (.tmp 6) (by rfl) ?_; refine wpList_load_row (by rfl) 24 (.tmp 6) (by rfl) (w.heap.size) (by rfl) 24 #[.int .i64 M, .slice A n c] (0, 0) _ (K0.out.row 2 rfl) Tryd.underlying24 (by rfl) infoc_T ?_)
      | (go_at_call 20; (have hc := (hr (((w.alloc (.cells #[.int .i64 M, .slice A n c] 24)).alloc (.cells #[.string f.1, .string f.2] 26)).alloc (.cells #[.int .i64 0, .slice none 0 0] 24)) (K0.out.fs (A := A) (n := n) (xs := xs) (by simp))); (with_reducible refine hc.mono ?_); clear hc); rintro e w1 ⟨rfl, hb⟩; have K1 : Hid (EnvF w1 [fF A n xs] [(w.heap.size + 1 + 1, #[.int .i64 0, .slice none 0 0], 24), (w.heap.size + 1, #[.string f.1, .string f.2], 26), (w.heap.size, #[.int .i64 M, .slice A n c], 24)]) := Lib.hid (K0.out.on hb); have B1 : Hid (Below w.heap.size w w1) := Lib.hid (below_step B0.out hb); clear hb K0 B0)
      | (refine at_store 24 (.tmp 4) (.tmp 9) (by rfl) ?_; refine wpList_put (by rfl) 24 (.tmp 4) (.tmp 9) (by rfl) (w.heap.size + 1 + 1) 0 (.agg #[.int .i64 0, .slice none 0 0]) (by rfl) (by rfl) 24 #[.int .i64 0, .slice none 0 0] #[.int .i64 0, .slice none 0 0] (K1.out.row 0 rfl) (by simp [Value.cells]) (by kernel_rfl) infoc_T (by kernel_rfl) ?_; intro w2 hrow hoth hz hbl; have K2 : Hid (EnvF w2 [fF A n xs] [(w.heap.size + 1 + 1, #[.int .i64 0, .slice none 0 0], 24), (w.heap.size + 1, #[.string f.1, .string f.2], 26), (w.heap.size, #[.int .i64 M, .slice A n c], 24)]) := Lib.hid (K1.out.turn 0 rfl hrow hoth hz); have B2 : Hid (Below w.heap.size w w2) := Lib.hid (hbl _ _ (by omega) B1.out); clear hrow hoth hz hbl K1 B1))
    exact bodyPost_ret (res_cell_tmp rfl _ _ _ _ _ _ rfl (K2.out.row 0 rfl) Tryd.underlying24 rfl infoc_T) rfl ⟨_, rfl, OwnF.nil_ _ _ _, B2.out⟩
end Go.Proofs.YtgplkjifgagjpaaDoor
