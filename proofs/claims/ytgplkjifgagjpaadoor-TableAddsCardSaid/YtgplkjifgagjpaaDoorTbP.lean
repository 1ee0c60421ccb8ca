/- The iterator of all fields with their indexes. -/
import Derived.Test.YtgplkjifgagjpaaDoorTbO
import Derived.Test.YtgplkjifgagjpaaDoorGKeep
namespace Go.Proofs.YtgplkjifgagjpaaDoor
open Go.RowKit Tb Go.Shelf
set_option linter.unusedVariables false
set_option linter.unusedSimpArgs false
attribute [local go_sem] Oper.semAt_some
namespace Tb
def small (x : Fd) : Prop := x.1.size ≤ maxLen ∧ x.2.size ≤ maxLen
theorem stat_all : (stat.all fun x => decide (x.1.size ≤ 100) && decide (x.2.size ≤ 100)) = true := rfl
theorem stat_small {x : Fd} {k : Nat} (h : stat[k]? = some x) : small x := by
  have := List.all_eq_true.1 stat_all x (List.mem_of_getElem? h)
  rw [Bool.and_eq_true] at this
  have h1 := of_decide_eq_true this.1
  have h2 := of_decide_eq_true this.2
  unfold small maxLen
  omega
theorem small_of {xs : List Fd} {x : Fd} {k : Nat} (hx : xs[k]? = some x) (h : full xs ≤ 1000000) : small x := by
  have h1 := sz_le hx
  unfold sz at h1
  unfold small maxLen
  omega
/-- The fields with their indexes. -/
def num (l : List Fd) : List (Nat × Fd) := (l.zipIdx 1).map Prod.swap
theorem num_nil : num [] = [] := rfl
theorem num_snoc (l : List Fd) (x : Fd) : num (l ++ [x]) = num l ++ [(l.length + 1, x)] := by
  unfold num
  rw [List.zipIdx_append, List.map_append]
  simp [List.zipIdx_cons, Nat.add_comm]
theorem num_len (l : List Fd) : (num l).length = l.length := by simp [num]
theorem run_stat {w : World} (h : Stv w) : (loadVar 49 ⟨0, 0, none⟩).run Tryd.prog w = .ok statV w := by
  have hl : (loadCells ⟨0, 0, none⟩ statA.toList.length).run Tryd.prog w = .ok statA.toList.toArray w :=
    run_loadCells_list (P := Tryd.prog) w ⟨0, 0, none⟩ statA.toList (fun j v hv => by
      have hadd : (⟨0, 0, none⟩ : Addr).add j = ⟨0, j, none⟩ := by unfold Addr.add; split <;> simp_all
      rw [hadd]
      exact h j v (by simpa using hv))
  have hagg : (isAgg 49).run Tryd.prog w = .ok true w := by kernel_rfl
  have hsz : (sizeOf 49).run Tryd.prog w = .ok 40 w := by kernel_rfl
  have e12 : statA.toList.length = 40 := rfl
  rw [e12] at hl
  simp only [Array.toArray_toList] at hl
  simp [loadVar, Sem.run_bind, hagg, hsz, hl]
  rfl
theorem wpListIn_stat {F : Fence} {fu : Nat} {w : World} {ops : Array Oper} {rest : List Oper} {o : Oper} {a : Act} {Q : Exit → Act → World → Prop} (h : Stv w) (hgd : o.guard = none) (ho : o.op = .load 49 (.global 0))
    (hK : wpListIn F fu Tryd.prog ops Q rest (a.put o.dst statV) w) : wpListIn F fu Tryd.prog ops Q (o :: rest) a w := by
  refine wpListIn_plain hgd fun K hK' => ?_
  unfold Oper.wpIn
  refine ⟨?_, ?_⟩
  · simp [Oper.about, ho, resolve, Target.leads, Sem.run_pure]
  · rw [Oper.semAt_plain F _ _ (by rw [ho]; intro c hc'; cases hc')]
    have hx : a.eval (.global 0) = .pointer (some ⟨0, 0, none⟩) := rfl
    unfold execOp
    simp only [ho, hx, Instr.loadAt, Instr.sureAddr, Sem.run_bind, Sem.run_pure, Result.andThen_ok, run_stat h]
    exact hK' _ _ hK
theorem idx0 (w : World) : (Instr.index 49 statV (.int .i64 0)).run Tryd.prog w = .ok (sv 0) w := by kernel_rfl
theorem idx1 (w : World) : (Instr.index 49 statV (.int .i64 1)).run Tryd.prog w = .ok (sv 1) w := by kernel_rfl
theorem idx2 (w : World) : (Instr.index 49 statV (.int .i64 2)).run Tryd.prog w = .ok (sv 2) w := by kernel_rfl
theorem idx3 (w : World) : (Instr.index 49 statV (.int .i64 3)).run Tryd.prog w = .ok (sv 3) w := by kernel_rfl
theorem idx4 (w : World) : (Instr.index 49 statV (.int .i64 4)).run Tryd.prog w = .ok (sv 4) w := by kernel_rfl
theorem idx5 (w : World) : (Instr.index 49 statV (.int .i64 5)).run Tryd.prog w = .ok (sv 5) w := by kernel_rfl
theorem idx6 (w : World) : (Instr.index 49 statV (.int .i64 6)).run Tryd.prog w = .ok (sv 6) w := by kernel_rfl
theorem idx7 (w : World) : (Instr.index 49 statV (.int .i64 7)).run Tryd.prog w = .ok (sv 7) w := by kernel_rfl
theorem idx8 (w : World) : (Instr.index 49 statV (.int .i64 8)).run Tryd.prog w = .ok (sv 8) w := by kernel_rfl
theorem idx9 (w : World) : (Instr.index 49 statV (.int .i64 9)).run Tryd.prog w = .ok (sv 9) w := by kernel_rfl
theorem idx10 (w : World) : (Instr.index 49 statV (.int .i64 10)).run Tryd.prog w = .ok (sv 10) w := by kernel_rfl
theorem idx11 (w : World) : (Instr.index 49 statV (.int .i64 11)).run Tryd.prog w = .ok (sv 11) w := by kernel_rfl
theorem idx12 (w : World) : (Instr.index 49 statV (.int .i64 12)).run Tryd.prog w = .ok (sv 12) w := by kernel_rfl
theorem idx13 (w : World) : (Instr.index 49 statV (.int .i64 13)).run Tryd.prog w = .ok (sv 13) w := by kernel_rfl
theorem idx14 (w : World) : (Instr.index 49 statV (.int .i64 14)).run Tryd.prog w = .ok (sv 14) w := by kernel_rfl
theorem idx15 (w : World) : (Instr.index 49 statV (.int .i64 15)).run Tryd.prog w = .ok (sv 15) w := by kernel_rfl
theorem idx16 (w : World) : (Instr.index 49 statV (.int .i64 16)).run Tryd.prog w = .ok (sv 16) w := by kernel_rfl
theorem idx17 (w : World) : (Instr.index 49 statV (.int .i64 17)).run Tryd.prog w = .ok (sv 17) w := by kernel_rfl
theorem idx18 (w : World) : (Instr.index 49 statV (.int .i64 18)).run Tryd.prog w = .ok (sv 18) w := by kernel_rfl
theorem idx19 (w : World) : (Instr.index 49 statV (.int .i64 19)).run Tryd.prog w = .ok (sv 19) w := by kernel_rfl
theorem idx_stat (w : World) : ∀ k : Nat, k < 20 → (Instr.index 49 statV (.int .i64 (k : Int))).run Tryd.prog w = .ok (sv k) w
  | 0, _ => idx0 w
  | 1, _ => idx1 w
  | 2, _ => idx2 w
  | 3, _ => idx3 w
  | 4, _ => idx4 w
  | 5, _ => idx5 w
  | 6, _ => idx6 w
  | 7, _ => idx7 w
  | 8, _ => idx8 w
  | 9, _ => idx9 w
  | 10, _ => idx10 w
  | 11, _ => idx11 w
  | 12, _ => idx12 w
  | 13, _ => idx13 w
  | 14, _ => idx14 w
  | 15, _ => idx15 w
  | 16, _ => idx16 w
  | 17, _ => idx17 w
  | 18, _ => idx18 w
  | 19, _ => idx19 w
  | n + 20, h => absurd h (by omega)
theorem idx_at (w : World) {k : Nat} {x : Fd} (hk : k < 20) (hx : stat[k]? = some x) : (Instr.index 49 statV (.int .i64 (k : Int))).run Tryd.prog w = .ok (.agg #[.string x.1, .string x.2]) w := by
  have h := idx_stat w k hk
  unfold sv at h
  rw [show stat.getD k fd0 = x from by rw [List.getD_eq_getElem?_getD, hx]; rfl] at h
  exact h
theorem L_stat {xs : List Fd} {j : Nat} (hj : j < 20) : (stat ++ xs)[j]? = stat[j]? := List.getElem?_append_left (by rw [stat_len]; exact hj)
theorem L_row {xs : List Fd} {j : Nat} : (stat ++ xs)[20 + j]? = xs[j]? := by
  rw [List.getElem?_append_right (by rw [stat_len]; omega), stat_len, Nat.add_sub_cancel_left]
theorem num_step {l : List Fd} {j : Nat} {x : Fd} (hx : l[j]? = some x) : num (l.take j) ++ [(j + 1, x)] = num (l.take (j + 1)) := by
  have hl := (List.getElem?_eq_some_iff.1 hx).1
  rw [← take_snoc hx, num_snoc, List.length_take, Nat.min_eq_left (by omega)]
end Tb
set_option maxRecDepth 100000 in
set_option maxHeartbeats 4000000 in
theorem fields1_in (k : Nat) (hk : 1 ≤ k) (l B1 n c : Nat) (M : Int) (A : Option Addr) (xs : List Fd) (p : Nat → Prop) (J Jx : List (Nat × Fd) → World → Prop) (W : World) (hR : Stv W) (hJ : AbidesFrom W.heap.size J)
    (hp0 : p 0) (hp1 : p B1) (hpA : 0 < n → ∀ b o, A = some ⟨b, o, none⟩ → p b) (hn : n ≤ 1000000) (hF : full xs ≤ 1000000)
    (hY : ∀ pre (x : Nat × Fd) W1, J pre W1 → pre.length < 20 + n → small x.2 → YieldAt Fence.wide (k - 1) Tryd.prog l #[.int .i64 (x.1 : Int), .agg #[.string x.2.1, .string x.2.2]] W1 fun e W' =>
      (e = .returned (.bool true) ∧ J (pre ++ [x]) W' ∧ KeepC p W1 W' ∧ W1.heap.size ≤ W'.heap.size) ∨ (e = .returned (.bool false) ∧ Jx (pre ++ [x]) W'))
    (hc0 : W.cell? ⟨B1, 0, none⟩ = some (.int .i64 M)) (hc1 : W.cell? ⟨B1, 1, none⟩ = some (.slice A n c)) (hA : Fs W W.heap.size A n xs) (h0 : J [] W) :
    CallsIn Fence.wide k Tryd.prog 36 #[.func (.yield l) #[] #[], .pointer (some ⟨B1, 0, none⟩)] W fun e W' => (∃ v, e = .returned v) ∧
      ((∃ ys, ys = num (stat ++ xs) ∧ J ys W') ∨ (∃ pre, True ∧ Jx pre W')) := by
  have HY := Lib.hid hY
  have HR := Lib.hid hR
  have HJA := Lib.hid hJ
  have HP0 := Lib.hid hp0
  have HP1 := Lib.hid hp1
  have HPA := Lib.hid hpA
  have HC0 := Lib.hid hc0
  have HC1 := Lib.hid hc1
  have HA := Lib.hid hA
  have hlx := hA.1
  have hLL : (stat ++ xs).length = 20 + n := by rw [List.length_append, stat_len, hlx]
  have HLL := Lib.hid hLL
  clear hY hR hJ hp0 hp1 hpA hc0 hc1 hA hLL
  refine callsIn_of_wp Tryd.func36 rfl trivial ?_ rfl
  simp only [Tryd.ntmps36, List.size_toArray, List.length_cons, List.length_nil, Nat.reduceAdd, Nat.reduceSub, Array.replicate_succ, Array.replicate_zero, List.push_toArray, List.append_toArray, List.nil_append, List.cons_append]
  gi_wp2_with (with_reducible refine wpListIn_stat HR.out rfl rfl ?_)
  gi_loopw [8] (fun t wr => ∃ (j : Nat) (X : Int), X = (j : Int) ∧ j ≤ 20 ∧ t = .int .i64 X ∧ KeepC p W wr ∧ W.heap.size ≤ wr.heap.size ∧ J (num ((stat ++ xs).take j)) wr) (fun t _ => 20 - (intOf t).toNat)
  case atStart => exact ⟨0, 0, rfl, Nat.zero_le _, rfl, KeepC.refl _ _, Nat.le_refl _, h0⟩
  case round =>
    obtain ⟨j, X, hX, hj, rfl, hkp, hsz, hJj⟩ := hrel
    have HK := Lib.hid hkp
    have HJ := Lib.hid hJj
    clear hkp hJj h0
    by_cases hlt : j < 20
    · subst hX
      obtain ⟨x, hx, _⟩ := stat_at j hlt
      have hi := idx_at wr hlt hx
      have HX := Lib.hid ((L_stat (xs := xs) hlt).trans hx)
      have hbl : Below wr.heap.size wr (wr.alloc (.cells #[.string x.1, .string x.2] 26)) := (Below.refl _ wr).alloc (Nat.le_refl _) _
      have hJ2 : J (num ((stat ++ xs).take j)) (wr.alloc (.cells #[.string x.1, .string x.2] 26)) := HJA.out _ wr (wr.alloc (.cells #[.string x.1, .string x.2] 26)) none HJ.out (grown_none hbl) (fun r e => by cases e)
      have HK2 := Lib.hid (HK.out.trans (KeepC.below (p := p) hbl))
      obtain ⟨fn, tmps, assign, body, hy, hRR⟩ := HY.out _ (j + 1, x) _ hJ2 (by rw [num_len, List.length_take, HLL.out]; omega) (stat_small hx)
      rw [num_step HX.out] at hRR
      have HRR := Lib.hid hRR
      rw [show ((((j + 1, x) : Nat × Fd).1 : Nat) : Int) = (j : Int) + 1 by simp] at hy
      simp only at hy
      clear hx hJ2 hRR hbl
      gi_wp2
      refine HRR.out.mono ?_
      rintro e W4 (⟨rfl, hJ4, hk4, hz4⟩ | ⟨rfl, hJx4⟩)
      · have HK4 := Lib.hid (HK2.out.trans hk4)
        have HZ4 := Lib.hid (show W.heap.size ≤ W4.heap.size by rw [World.size_alloc] at hz4; omega)
        have HJ4 := Lib.hid hJ4
        clear hk4 hz4 hJ4
        gi_wp2
        go_roundw
        case rel => exact ⟨j + 1, (j : Int) + 1, by omega, by omega, rfl, HK4.out, HZ4.out, HJ4.out⟩
        case measure => simp [intOf]; omega
      · have HJX := Lib.hid hJx4
        clear hJx4
        gi_wp2
        refine bodyPost_ret (results_none rfl _ _ _) rfl ?_
        exact ⟨⟨_, rfl⟩, .inr ⟨_, trivial, HJX.out⟩⟩
    · obtain rfl : j = 20 := by omega
      have d20 : decide (X < 20) = false := decide_eq_false (by omega)
      have hX2 := Lib.hid hX
      clear hX
      have c0 := HK.out.cell (a := ⟨B1, 0, none⟩) HP1.out HC0.out
      have c1 := HK.out.cell (a := ⟨B1, 1, none⟩) HP1.out HC1.out
      gi_wp2
      gi_loopw [22] (fun t wr => ∃ j : Nat, j ≤ n ∧ t = .int .i64 (j : Int) ∧ KeepC p W wr ∧ W.heap.size ≤ wr.heap.size ∧ J (num ((stat ++ xs).take (20 + j))) wr) (fun t _ => n - (intOf t).toNat)
      case atStart => exact ⟨0, Nat.zero_le _, rfl, HK.out, hsz, HJ.out⟩
      case round =>
        obtain ⟨j, hj2, rfl, hkp, hsz2, hJj⟩ := hrel
        have HK1 := Lib.hid hkp
        have HJ1 := Lib.hid hJj
        clear hkp hJj c0 c1 HK HJ hsz hj
        by_cases hlt2 : j < n
        · obtain ⟨b, o, rfl, hb, hcc⟩ := fs_cell HA.out (by omega)
          obtain ⟨x, hx, g1, g2⟩ := hcc j hlt2
          have h1 := HK1.out.cell (a := ⟨b, o + j * 2, none⟩) (HPA.out (by omega) b o rfl) g1
          have h2 := HK1.out.cell (a := ⟨b, o + (j * 2 + 1), none⟩) (HPA.out (by omega) b o rfl) g2
          rw [← Nat.add_assoc] at h2
          have HX := Lib.hid ((L_row (xs := xs) (j := j)).trans hx)
          have hbl : Below wr.heap.size wr (wr.alloc (.cells #[.string x.1, .string x.2] 26)) := (Below.refl _ wr).alloc (Nat.le_refl _) _
          have hJ2 : J (num ((stat ++ xs).take (20 + j))) (wr.alloc (.cells #[.string x.1, .string x.2] 26)) := HJA.out _ wr (wr.alloc (.cells #[.string x.1, .string x.2] 26)) none HJ1.out (grown_none hbl) (fun r e => by cases e)
          have HK2 := Lib.hid (HK1.out.trans (KeepC.below (p := p) hbl))
          obtain ⟨fn, tmps, assign, body, hy, hRR⟩ := HY.out _ (20 + j + 1, x) _ hJ2 (by rw [num_len, List.length_take, HLL.out]; omega) (small_of hx hF)
          rw [num_step HX.out] at hRR
          have HRR := Lib.hid hRR
          rw [show ((((20 + j + 1, x) : Nat × Fd).1 : Nat) : Int) = 21 + (j : Int) by simp; omega] at hy
          simp only at hy
          clear hx hJ2 hRR hbl hcc g1 g2
          gi_wp2
          refine HRR.out.mono ?_
          rintro e W4 (⟨rfl, hJ4, hk4, hz4⟩ | ⟨rfl, hJx4⟩)
          · have HK4 := Lib.hid (HK2.out.trans hk4)
            have HZ4 := Lib.hid (show W.heap.size ≤ W4.heap.size by rw [World.size_alloc] at hz4; omega)
            have HJ4 := Lib.hid hJ4
            clear hk4 hz4 hJ4
            gi_wp2
            go_roundw
            case rel => exact ⟨j + 1, by omega, by go_num, HK4.out, HZ4.out, HJ4.out⟩
            case measure => simp [intOf]; omega
          · have HJX := Lib.hid hJx4
            clear hJx4
            gi_wp2
            refine bodyPost_ret (results_none rfl _ _ _) rfl ?_
            exact ⟨⟨_, rfl⟩, .inr ⟨_, trivial, HJX.out⟩⟩
        · obtain rfl : j = n := by omega
          gi_wp2
          go_end0
          have h := HJ1.out
          rw [List.take_of_length_le (by rw [HLL.out]; exact Nat.le_refl _)] at h
          exact ⟨⟨_, rfl⟩, .inl ⟨_, rfl, h⟩⟩
end Go.Proofs.YtgplkjifgagjpaaDoor
