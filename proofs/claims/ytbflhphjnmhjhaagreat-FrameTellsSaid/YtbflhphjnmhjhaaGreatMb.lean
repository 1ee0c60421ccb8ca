/- PrD, PrE, PrF, PrG, PrH, PrI, PrJ, PrK. -/
import Derived.Test.YtbflhphjnmhjhaaGreatMa
import Derived.Test.YtbflhphjnmhjhaaGreatMx
/- The program's settings: a setting's fault, all of them by an iterator. -/
namespace Go.Proofs.YtbflhphjnmhjhaaGreat
open Go.RowKit Oct Fi Fm Go.Shelf
set_option linter.unusedVariables false
set_option linter.unusedSimpArgs false
attribute [local go_sem] Oper.semAt_some

set_option maxHeartbeats 4000000 in
theorem p_judge_at (i v : Int) (w : World) (b2 b9 b5 b4 g1 gl gg gm : Bool) (h2 : (i == 2) = b2) (h9 : (i == 9) = b9) (h5 : (i == 5) = b5) (h4 : (i == 4) = b4) (hg1 : decide (1 < v) = g1) (hgl : decide (v < 16384) = gl) (hgg : decide (16777215 < v) = gg) (hgm : decide (2147483647 < v) = gm) :
    Calls Tryz.prog 107 #[.agg #[.int .u16 i, .int .u32 v]] w fun e w' =>
      e = .returned (.int .u32 (if (b2 || b9) && g1 then 1 else if b5 && (gl || gg) then 1 else if b4 && gm then 3 else 0)) ∧ Below w.heap.size w w' := by
  have hx : (b2 && b9) = false ∧ (b2 && b5) = false ∧ (b2 && b4) = false ∧ (b9 && b5) = false ∧ (b9 && b4) = false ∧ (b5 && b4) = false := by
    rw [← h2, ← h9, ← h5, ← h4]
    refine ⟨?_, ?_, ?_, ?_, ?_, ?_⟩ <;> rw [Bool.eq_false_iff] <;> simp <;> omega
  have B0 := Lib.hid ((Below.refl w.heap.size w).alloc (Nat.le_refl _) (.cells #[.int .u16 i, .int .u32 v] 79))
  obtain ⟨x1, x2, x3, x4, x5, x6⟩ := hx
  cases b2
  · cases b9
    · cases b5
      · cases b4
        · clear x1 x2 x3 x4 x5 x6
          all_goals
            simp only [Bool.or_true, Bool.or_false, Bool.and_true, Bool.and_false, Bool.true_and, Bool.false_and, if_true, if_false, Bool.false_eq_true, Bool.true_or, Bool.false_or]
            go_enter Tryz.func107, Tryz.ntmps107
            go_wp2
            go_ret
            exact ⟨rfl, B0.out⟩
        · clear x1 x2 x3 x4 x5 x6
          cases gm
          all_goals
            simp only [Bool.or_true, Bool.or_false, Bool.and_true, Bool.and_false, Bool.true_and, Bool.false_and, if_true, if_false, Bool.false_eq_true, Bool.true_or, Bool.false_or]
            go_enter Tryz.func107, Tryz.ntmps107
            go_wp2
            go_ret
            exact ⟨rfl, B0.out⟩
      · obtain rfl : b4 = false := by simpa using x6
        clear x1 x2 x3 x4 x5 x6
        cases gl <;> cases gg
        all_goals
          simp only [Bool.or_true, Bool.or_false, Bool.and_true, Bool.and_false, Bool.true_and, Bool.false_and, if_true, if_false, Bool.false_eq_true, Bool.true_or, Bool.false_or]
          go_enter Tryz.func107, Tryz.ntmps107
          go_wp2
          go_ret
          exact ⟨rfl, B0.out⟩
    · obtain rfl : b5 = false := by simpa using x4
      obtain rfl : b4 = false := by simpa using x5
      clear x1 x2 x3 x4 x5 x6
      cases g1
      all_goals
        simp only [Bool.or_true, Bool.or_false, Bool.and_true, Bool.and_false, Bool.true_and, Bool.false_and, if_true, if_false, Bool.false_eq_true, Bool.true_or, Bool.false_or]
        go_enter Tryz.func107, Tryz.ntmps107
        go_wp2
        go_ret
        exact ⟨rfl, B0.out⟩
  · obtain rfl : b9 = false := by simpa using x1
    obtain rfl : b5 = false := by simpa using x2
    obtain rfl : b4 = false := by simpa using x3
    clear x1 x2 x3 x4 x5 x6
    cases g1
    all_goals
      simp only [Bool.or_true, Bool.or_false, Bool.and_true, Bool.and_false, Bool.true_and, Bool.false_and, if_true, if_false, Bool.false_eq_true, Bool.true_or, Bool.false_or]
      go_enter Tryz.func107, Tryz.ntmps107
      go_wp2
      go_ret
      exact ⟨rfl, B0.out⟩
theorem p_judge (p : Pr) (w : World) :
    Calls Tryz.prog 107 #[.agg #[.int .u16 p.1.toNat, .int .u32 p.2.toNat]] w fun e w' => e = .returned (.int .u32 ((setX p).2.2 : Nat)) ∧ Below w.heap.size w w' := by
  refine (p_judge_at (p.1.toNat : Int) (p.2.toNat : Int) w _ _ _ _ _ _ _ _ rfl rfl rfl rfl rfl rfl rfl rfl).mono ?_
  rintro e w' ⟨rfl, hb⟩
  refine ⟨?_, hb⟩
  congr 2
  unfold setX
  generalize p.1.toNat = i
  generalize p.2.toNat = v
  have e : ∀ (a b : Int), (a == b) = decide (a = b) := fun a b => by rw [Bool.eq_iff_iff]; simp
  simp only [e]
  have d2 : decide ((i : Int) = 2) = decide (i = 2) := by rw [Bool.eq_iff_iff]; simp; omega
  have d9 : decide ((i : Int) = 9) = decide (i = 9) := by rw [Bool.eq_iff_iff]; simp; omega
  have d5 : decide ((i : Int) = 5) = decide (i = 5) := by rw [Bool.eq_iff_iff]; simp; omega
  have d4 : decide ((i : Int) = 4) = decide (i = 4) := by rw [Bool.eq_iff_iff]; simp; omega
  have e1 : decide ((1 : Int) < v) = decide (1 < v) := by rw [Bool.eq_iff_iff]; simp; omega
  have el : decide ((v : Int) < 16384) = decide (v < 16384) := by rw [Bool.eq_iff_iff]; simp; omega
  have eg : decide ((16777215 : Int) < v) = decide (16777215 < v) := by rw [Bool.eq_iff_iff]; simp; omega
  have em : decide ((2147483647 : Int) < v) = decide (2147483647 < v) := by rw [Bool.eq_iff_iff]; simp; omega
  rw [d2, d9, d5, d4, e1, el, eg, em]
  by_cases h1 : (i = 2 ∨ i = 9) ∧ 1 < v
  · simp [h1, whole]
  · rw [if_neg h1]
    have h1' : ((decide (i = 2) || decide (i = 9)) && decide (1 < v)) = false := by rw [Bool.eq_false_iff]; simpa using h1
    rw [h1']
    by_cases h2 : i = 5 ∧ (v < 16384 ∨ 16777215 < v)
    · simp [h2, whole]
    · rw [if_neg h2]
      have h2' : (decide (i = 5) && (decide (v < 16384) || decide (16777215 < v))) = false := by rw [Bool.eq_false_iff]; simpa using h2
      rw [h2']
      by_cases h3 : i = 4 ∧ 2147483647 < v
      · simp [h3, whole]
      · rw [if_neg h3]
        have h3' : (decide (i = 4) && decide (2147483647 < v)) = false := by rw [Bool.eq_false_iff]; simpa using h3
        rw [h3']
        rfl
theorem codes_any (A : Option Addr) (n c : Nat) (w : World) :
    Calls Tryz.prog 93 #[.slice A n c] w fun e w' =>
      e = .returned (.func (.func 106) #[] #[.pointer (some ⟨w.heap.size, 0, none⟩)]) ∧ w.alloc (.cells #[.slice A n c] 26) = w' := by
  go_enter Tryz.func93, Tryz.ntmps93
  go_wp2
  go_ret
  exact ⟨rfl, rfl⟩
def cv (x : Pr) : Value := .int .u32 ((setX x).2.2 : Nat)
theorem take_pre1 {l : List Pr} {j : Nat} {x : Pr} (h : l[j]? = some x) : l.take j ++ [x] = l.take (j + 1) := by
  obtain ⟨h1, h2⟩ := List.getElem?_eq_some_iff.1 h
  rw [← h2, List.take_add_one, List.getElem?_eq_getElem h1]
  rfl
set_option maxRecDepth 100000 in
set_option maxHeartbeats 1000000 in
theorem codes1_in (k : Nat) (hk : 1 ≤ k) (l B1 n c : Nat) (A : Option Addr) (xs : List Pr) (p : Nat → Prop) (J Jx : List Pr → World → Prop) (W : World)
    (hp1 : p B1) (hpA : 0 < n → ∀ b o, A = some ⟨b, o, none⟩ → p b) (hn : n ≤ 1000000)
    (hY : ∀ pre (x : Pr) W1, J pre W1 → pre.length < n → YieldAt Fence.wide (k - 1) Tryz.prog l #[cv x] W1 fun e W' =>
      (e = .returned (.bool true) ∧ J (pre ++ [x]) W' ∧ KeepC p W1 W') ∨ (e = .returned (.bool false) ∧ Jx (pre ++ [x]) W'))
    (hJ : ∀ pre W1 W2, J pre W1 → Below W1.heap.size W1 W2 → J pre W2)
    (hc : W.cell? ⟨B1, 0, none⟩ = some (.slice A n c)) (hA : Ps W W.heap.size A n xs) (h0 : J [] W) :
    CallsIn Fence.wide k Tryz.prog 106 #[.func (.yield l) #[] #[], .pointer (some ⟨B1, 0, none⟩)] W fun e W' => (∃ v, e = .returned v) ∧
      ((∃ ys, ys = xs ∧ J ys W') ∨ (∃ pre, pre <+: xs ∧ Jx pre W')) := by
  have HY := Lib.hid hY
  have HP := Lib.hid hp1
  have HPA := Lib.hid hpA
  have HC := Lib.hid hc
  have HA := Lib.hid hA
  have HJ := Lib.hid hJ
  have hlen := hA.1
  clear hY hp1 hpA hA hJ
  refine callsIn_of_wp Tryz.func106 rfl trivial ?_ rfl
  simp only [Tryz.ntmps106, List.size_toArray, List.length_cons, List.length_nil, Nat.reduceAdd, Nat.reduceSub, Array.replicate_succ, Array.replicate_zero, List.push_toArray, List.append_toArray, List.nil_append, List.cons_append]
  gi_wp2
  gi_loopw [7] (fun t wr => ∃ j : Nat, j ≤ n ∧ t = .int .i64 (j : Int) ∧ KeepC p W wr ∧ J (xs.take j) wr) (fun t _ => n - (intOf t).toNat)
  case atStart => exact ⟨0, Nat.zero_le _, rfl, KeepC.refl _ _, h0⟩
  case round =>
    obtain ⟨j, hj, rfl, hkp, hJj⟩ := hrel
    have HK := Lib.hid hkp
    have HJj := Lib.hid hJj
    clear hkp hJj
    by_cases hlt : j < n
    · have HA1 := Lib.hid (HK.out.ps HA.out HPA.out)
      obtain ⟨b, o, rfl, hb, hcc⟩ := ps_cell HA1.out (by omega)
      obtain ⟨x, hx, hc1, hc2⟩ := hcc j (by omega)
      rw [← Nat.add_assoc] at hc2
      have HX := Lib.hid (take_pre1 hx)
      have HL : Hid ((xs.take j).length < n) := Lib.hid (by rw [List.length_take]; omega)
      have HD : Hid (xs.take (j + 1) <+: xs) := Lib.hid (List.take_prefix _ _)
      have HQ := Lib.hid (p_judge x)
      clear hcc hx
      gi_wp2_with (first
        | (refine ⟨trivial, ?_⟩; gi_at_call 107; (with_reducible refine (callsIn_wide.2 (HQ.out _)).mono ?_); rintro e W1 ⟨rfl, hbj⟩; have HB1 := Lib.hid (below_step ((Below.refl _ wr).alloc (Nat.le_refl _) _) hbj); clear hbj; obtain ⟨fn, tmps, assign, body, hy, hR⟩ := HY.out _ x W1 (HJ.out _ _ _ HJj.out HB1.out) HL.out; rw [HX.out] at hR; unfold cv at hy; have HR := Lib.hid hR; clear hR))
      refine HR.out.mono ?_
      rintro e W4 (⟨rfl, hJ4, hk4⟩ | ⟨rfl, hJx4⟩)
      · gi_wp2
        go_roundw
        case rel => exact ⟨j + 1, by omega, by go_num, HK.out.trans ((KeepC.below HB1.out).trans hk4), hJ4⟩
        case measure => simp [intOf]; omega
      · gi_wp2
        refine bodyPost_ret (results_none rfl _ _ _) rfl ?_
        exact ⟨⟨_, rfl⟩, .inr ⟨_, HD.out, hJx4⟩⟩
    · obtain rfl : j = n := by omega
      gi_wp2
      go_end0
      exact ⟨⟨_, rfl⟩, .inl ⟨_, List.take_of_length_le (by omega), HJj.out⟩⟩
theorem codes_stops (k : Nat) (hk : 1 ≤ k) (B1 n c : Nat) (A : Option Addr) (xs : List Pr) (p : Nat → Prop) (w : World)
    (hB : B1 < w.heap.size) (hp1 : p B1) (hpA : 0 < n → ∀ b o, A = some ⟨b, o, none⟩ → p b) (hn : n ≤ 1000000)
    (hc : w.cell? ⟨B1, 0, none⟩ = some (.slice A n c)) (hA : Ps w w.heap.size A n xs) :
    SeqStopsK Fence.wide k Tryz.prog 106 #[.pointer (some ⟨B1, 0, none⟩)] (fun x : Pr => #[cv x]) (KeepC p) (fun ys => ys = xs) (fun pre => pre <+: xs) n w := fun l J Jx W hW hJa _ hY h0 =>
  codes1_in k hk l B1 n c A xs p J Jx W hp1 hpA hn hY (fun pre W1 W2 h hb => AbidesFrom.below hJa h hb) ((hW.cell (p := ⟨B1, 0, none⟩) hB).trans hc) (hA.on hW) h0
end Go.Proofs.YtbflhphjnmhjhaaGreat
/- The program's takeSettings. -/
namespace Go.Proofs.YtbflhphjnmhjhaaGreat
open Go.RowKit Oct Fi Fm Go.Shelf
set_option linter.unusedVariables false
set_option linter.unusedSimpArgs false
attribute [local go_sem] Oper.semAt_some

theorem EnvB.kept {W W' : World} {ss : List (Option Addr × Nat × List UInt8)} {ps : List (Option Addr × Nat × List Pr)} {gs : List Bx} {row : Option Nat} (h : EnvB W ss ps gs) (hg : W.grownBy W' row) (hr : ∀ k, row = some k → ∃ o : Obj, W.heap[k]? = some o ∧ o.isCells = false) : EnvB W' ss ps gs := by
  have hsz := hg.size
  refine ⟨fun x hx => ⟨⟨(h.s x hx).1.1, fun hn => ?_⟩, (h.s x hx).2⟩, fun x hx => ⟨⟨(h.p x hx).1.1, fun hn => ?_⟩, (h.p x hx).2⟩, fun y hy => ?_, h.d⟩
  · obtain ⟨b, o, e, hb, hc⟩ := (h.s x hx).1.2 hn
    exact ⟨b, o, e, by omega, fun j hj => cell_kept (hc j hj) hg hr⟩
  · obtain ⟨b, o, e, hb, hc⟩ := (h.p x hx).1.2 hn
    exact ⟨b, o, e, by omega, fun j hj => ⟨cell_kept (hc j hj).1 hg hr, cell_kept (hc j hj).2 hg hr⟩⟩
  · rw [hg.block _ (h.lt hy) (fun e => by
      obtain ⟨o, ho, hc⟩ := hr _ e.symm
      rw [h.g y hy] at ho
      cases ho
      cases hc)]
    exact h.g y hy
theorem TurnB.kept {g : Nat} {w W W' : World} {row : Option Nat} (h : TurnB g w W) (hg : W.grownBy W' row) (hr : ∀ k, row = some k → w.heap.size ≤ k) : TurnB g w W' :=
  ⟨hg.os.trans h.os, hg.tape.trans h.tape, hg.output.trans h.output, Nat.le_trans h.size hg.size, fun k hk hk2 => (hg.block k (Nat.lt_of_lt_of_le hk h.size) (fun e => by have := hr k e.symm; omega)).trans (h.oth k hk hk2)⟩
theorem at_storeIn {F : Fence} {fu : Nat} {P : Program} {ops : Array Oper} {rest : List Oper} {o : Oper} {a : Act} {w : World} {Q : Exit → Act → World → Prop} (ty : TypeId) (x y : Operand) (_ : o.op = .store ty x y) (h : wpListIn F fu P ops Q (o :: rest) a w) : wpListIn F fu P ops Q (o :: rest) a w := h
theorem wpListIn_put {F : Fence} {fu : Nat} {P : Program} {ops : Array Oper} {rest : List Oper} {op : Oper} {a : Act} {w : World} {Q : Exit → Act → World → Prop} (hgd : op.guard = none) (ty : TypeId) (x y : Operand) (ho : op.op = .store ty x y)
    (g o : Nat) (v : Value) (hx : a.eval x = .pointer (some ⟨g, o, none⟩)) (hy : a.eval y = v) (t : TypeId) (old cs : Array Value) (hg : w.heap[g]? = some (.cells old t))
    (hl : o + v.cells.size ≤ old.size) (hcs : upd old o v.cells.toList = cs) (hi : (P.info? ty).map (·.size) = some v.cells.size) (h1 : v.cells.toList.all (·.oneCell') = true)
    (h : ∀ w', w'.heap[g]? = some (.cells cs t) → (∀ k, k ≠ g → w'.heap[k]? = w.heap[k]?) → w'.heap.size = w.heap.size → (∀ B w0, B ≤ g → Below B w0 w → Below B w0 w') → wpListIn F fu P ops Q rest (a.put op.dst undef) w') : wpListIn F fu P ops Q (op :: rest) a w := by
  subst hcs
  refine wpListIn_plain hgd fun K hK => ?_
  unfold Oper.wpIn
  refine ⟨?_, ?_⟩
  · simp [Oper.about, ho]
  · rw [Oper.semAt_plain F _ _ (by rw [ho]; intro c hc'; cases hc')]
    unfold execOp
    simp only [ho, hx, hy, Instr.storeAt, Instr.sureAddr, Sem.run_bind, Sem.run_pure, Result.andThen_ok, run_put w g o ty t v old hg hl hi h1]
    exact hK _ _ (h _ (setCells_row g t _ o w old hg) (setCells_other g _ o w) (setCells_size g _ o w) (fun B w0 hB hb => setCells_below hB _ o w w0 hb))
theorem code_fine (y : Pr) : ((((setX y).2.2 : Nat) : Int) != 0) = decide (setX y ≠ fine) := by
  rcases setX_ways y with h | h | h <;> rw [h] <;> decide
theorem code_whole (y : Pr) (h : setX y ≠ fine) : setX y = whole (setX y).2.2 := by
  rcases setX_ways y with h' | h' | h'
  · exact absurd h' h
  · rw [h']; rfl
  · rw [h']; rfl
set_option maxRecDepth 100000 in
set_option maxHeartbeats 4000000 in
theorem p_takeSettings_S (K F : UInt8) (S : Int) (g : Nat) (A : Option Addr) (n c : Nat) (xs : List UInt8) (w : World) (hE : EnvB w [(A, n, xs)] [] [(g, (hF0 K.toNat F.toNat S), 30)]) (hN : A = none → c = 0) (hn : n ≤ 100000) (hnc : n ≤ c) (te : Int) (l : List Pr) (m : Nat) (hm : l.length = m) (hm6 : m ≤ 100000) (HTP : Hid (∀ w0, Bs w0 w0.heap.size A n xs → Calls Tryz.prog 92 #[.slice A n c] w0 fun e w' => ∃ v, e = .returned (.tuple #[v, .int .i64 te]) ∧ OwnP w' w0.heap.size 79 v l ∧ Below w0.heap.size w0 w')) (hte : (te != 0) = true) :
    Calls Tryz.prog 68 #[.pointer (some ⟨g, 0, none⟩), .slice A n c] w fun e w' => e = .returned (.agg #[.bool true, .int .i64 0, .int .u32 6]) ∧ w'.heap[g]? = some (.cells (hF0 K.toNat F.toNat S) 30) ∧ TurnB g w w' := by
  have hl : xs.length = n := (hE.s (A, n, xs) (by simp)).1.1
  have hgw : g < w.heap.size := hE.lt (y := (g, (hF0 K.toNat F.toNat S), 30)) (by simp)
  have K0 : Hid (EnvB (w.alloc (.cells #[.bool false, .int .i64 0, .int .u32 0] 34)) [(A, n, xs)] [] [(w.heap.size, #[.bool false, .int .i64 0, .int .u32 0], 34), (g, (hF0 K.toNat F.toNat S), 30)]) := Lib.hid (hE.box 34 #[.bool false, .int .i64 0, .int .u32 0])
  have B0 : Hid (TurnB g w (w.alloc (.cells #[.bool false, .int .i64 0, .int .u32 0] 34))) := Lib.hid ((TurnB.refl g w).al _)
  have HN := Lib.hid hN
  have HL := Lib.hid hl
  clear hE hN hl
  go_enter Tryz.func68, Tryz.ntmps68
  go_wp2
  refine wp_scope_forward 0 rfl ?_
  go_wp2_with (first
    | (go_at_call 16; (with_reducible refine (p_whole _ _).mono ?_); rintro e w1 ⟨rfl, hb⟩; have K1 := Lib.hid (K0.out.on hb); have B1 : Hid (TurnB g w w1) := Lib.hid (B0.out.callB hb); clear hb K0 B0; have hsx := B1.out.size; have K2 := Lib.hid (K1.out.box 34 #[.bool false, .int .i64 0, .int .u32 0]); have B2 : Hid (TurnB g w (w1.alloc (.cells #[.bool false, .int .i64 0, .int .u32 0] 34))) := Lib.hid (B1.out.al (.cells #[.bool false, .int .i64 0, .int .u32 0] 34)); clear K1 B1)
    | (refine at_store 34 (.tmp 5) (.tmp 9) (by rfl) ?_; refine wpList_put (by rfl) 34 (.tmp 5) (.tmp 9) (by rfl) (w1.heap.size) 0 (.agg #[.bool true, .int .i64 0, .int .u32 6]) (by rfl) (by rfl) 34 _ #[.bool true, .int .i64 0, .int .u32 6] (K2.out.row 0 rfl) (by simp [Value.cells]) (by kernel_rfl) info_X (by kernel_rfl) ?_; intro w3 hrow hoth hz hbl; have K3 := Lib.hid (K2.out.turn 0 rfl hrow hoth hz); have B3 : Hid (TurnB g w w3) := Lib.hid (B2.out.puto hsx hoth hz hbl); clear hrow hoth hz hbl K2 B2)
    | (go_at_call 92; (with_reducible refine (HTP.out _ ((K3.out.s (A, n, xs) (by simp)).1)).mono ?_); rintro e w4 ⟨v1, rfl, ho, hb⟩; obtain ⟨A1, c1, rfl, hh⟩ := ho.handP hm; have HP1 := Lib.hid (hh.2.1.less B3.out.size); have HC1 := Lib.hid hh.2.2; have K4 := Lib.hid (K3.out.handP hb hh); have B4 : Hid (TurnB g w w4) := Lib.hid (B3.out.callB hb); clear ho hh; clear hb K3 B3; obtain ⟨f_0, f_1, f_2, f_3, f_4, f_5, f_6, f_7, f_8, f_9, f_10, f_11, f_12⟩ := c13_row (K4.out.row 2 rfl)))
  go_step3
  refine ⟨rfl, ?_⟩
  go_wp2_with (first
    | (refine at_load 34 (.tmp 5) (by rfl) ?_; refine wpList_load_row (by rfl) 34 (.tmp 5) (by rfl) (w1.heap.size) (by rfl) 34 _ (0, 0) _ (K4.out.row 0 rfl) Tryz.underlying34 (by rfl) info_X ?_)
    | (refine at_store 34 (.tmp 4) (.tmp 40) (by rfl) ?_; refine wpList_put (by rfl) 34 (.tmp 4) (.tmp 40) (by rfl) (w.heap.size) 0 (.agg #[.bool true, .int .i64 0, .int .u32 6]) (by rfl) (by rfl) 34 _ #[.bool true, .int .i64 0, .int .u32 6] (K4.out.row 1 rfl) (by simp [Value.cells]) (by kernel_rfl) info_X (by kernel_rfl) ?_; intro w5 hrow hoth hz hbl; have K5 := Lib.hid (K4.out.turn 1 rfl hrow hoth hz); have B5 : Hid (TurnB g w w5) := Lib.hid (B4.out.puto (Nat.le_refl _) hoth hz hbl); clear hrow hoth hz hbl K4 B4))
  rw [jump_ret]
  exact bodyPost_ret (res_cell1 rfl _ _ _ _ _ _ rfl (K5.out.row 1 rfl) Tryz.underlying34 rfl info_X) rfl ⟨rfl, (K5.out.row 2 rfl), B5.out⟩
set_option maxRecDepth 100000 in
set_option maxHeartbeats 4000000 in
theorem p_takeSettings_A (K F : UInt8) (S : Int) (g : Nat) (A : Option Addr) (n c : Nat) (xs : List UInt8) (w : World) (hE : EnvB w [(A, n, xs)] [] [(g, (hF0 K.toNat F.toNat S), 30)]) (hN : A = none → c = 0) (hn : n ≤ 100000) (hnc : n ≤ c) (te : Int) (l : List Pr) (m : Nat) (hm : l.length = m) (hm6 : m ≤ 100000) (HTP : Hid (∀ w0, Bs w0 w0.heap.size A n xs → Calls Tryz.prog 92 #[.slice A n c] w0 fun e w' => ∃ v, e = .returned (.tuple #[v, .int .i64 te]) ∧ OwnP w' w0.heap.size 79 v l ∧ Below w0.heap.size w0 w')) (hte : (te != 0) = false) (h0 : (0 : Int) < (m : Int)) (hb1 : Bool) (hhb : hb1 = true) (HPA : Hid (∀ w0, Calls Tryz.prog 83 #[.agg (hF0 K.toNat F.toNat S), .int .u8 1] w0 fun e w' => e = .returned (.bool hb1) ∧ Below w0.heap.size w0 w')) :
    Calls Tryz.prog 68 #[.pointer (some ⟨g, 0, none⟩), .slice A n c] w fun e w' => e = .returned (.agg #[.bool true, .int .i64 0, .int .u32 6]) ∧ w'.heap[g]? = some (.cells (hF0 K.toNat F.toNat S) 30) ∧ TurnB g w w' := by
  have hl : xs.length = n := (hE.s (A, n, xs) (by simp)).1.1
  have hgw : g < w.heap.size := hE.lt (y := (g, (hF0 K.toNat F.toNat S), 30)) (by simp)
  have K0 : Hid (EnvB (w.alloc (.cells #[.bool false, .int .i64 0, .int .u32 0] 34)) [(A, n, xs)] [] [(w.heap.size, #[.bool false, .int .i64 0, .int .u32 0], 34), (g, (hF0 K.toNat F.toNat S), 30)]) := Lib.hid (hE.box 34 #[.bool false, .int .i64 0, .int .u32 0])
  have B0 : Hid (TurnB g w (w.alloc (.cells #[.bool false, .int .i64 0, .int .u32 0] 34))) := Lib.hid ((TurnB.refl g w).al _)
  have HN := Lib.hid hN
  have HL := Lib.hid hl
  clear hE hN hl
  subst hhb
  go_enter Tryz.func68, Tryz.ntmps68
  go_wp2
  refine wp_scope_forward 0 rfl ?_
  go_wp2_with (first
    | (go_at_call 16; (with_reducible refine (p_whole _ _).mono ?_); rintro e w1 ⟨rfl, hb⟩; have K1 := Lib.hid (K0.out.on hb); have B1 : Hid (TurnB g w w1) := Lib.hid (B0.out.callB hb); clear hb K0 B0; have hsx := B1.out.size; have K2 := Lib.hid (K1.out.box 34 #[.bool false, .int .i64 0, .int .u32 0]); have B2 : Hid (TurnB g w (w1.alloc (.cells #[.bool false, .int .i64 0, .int .u32 0] 34))) := Lib.hid (B1.out.al (.cells #[.bool false, .int .i64 0, .int .u32 0] 34)); clear K1 B1)
    | (refine at_store 34 (.tmp 5) (.tmp 9) (by rfl) ?_; refine wpList_put (by rfl) 34 (.tmp 5) (.tmp 9) (by rfl) (w1.heap.size) 0 (.agg #[.bool true, .int .i64 0, .int .u32 6]) (by rfl) (by rfl) 34 _ #[.bool true, .int .i64 0, .int .u32 6] (K2.out.row 0 rfl) (by simp [Value.cells]) (by kernel_rfl) info_X (by kernel_rfl) ?_; intro w3 hrow hoth hz hbl; have K3 := Lib.hid (K2.out.turn 0 rfl hrow hoth hz); have B3 : Hid (TurnB g w w3) := Lib.hid (B2.out.puto hsx hoth hz hbl); clear hrow hoth hz hbl K2 B2)
    | (go_at_call 92; (with_reducible refine (HTP.out _ ((K3.out.s (A, n, xs) (by simp)).1)).mono ?_); rintro e w4 ⟨v1, rfl, ho, hb⟩; obtain ⟨A1, c1, rfl, hh⟩ := ho.handP hm; have HP1 := Lib.hid (hh.2.1.less B3.out.size); have HC1 := Lib.hid hh.2.2; have K4 := Lib.hid (K3.out.handP hb hh); have B4 : Hid (TurnB g w w4) := Lib.hid (B3.out.callB hb); clear ho hh; clear hb K3 B3; obtain ⟨f_0, f_1, f_2, f_3, f_4, f_5, f_6, f_7, f_8, f_9, f_10, f_11, f_12⟩ := c13_row (K4.out.row 2 rfl))
    | (go_at_call 83; (with_reducible refine (HPA.out _).mono ?_); rintro e w5 ⟨rfl, hb⟩; have K5 := Lib.hid (K4.out.on hb); have B5 : Hid (TurnB g w w5) := Lib.hid (B4.out.callB hb); clear hb K4 B4))
  go_step3
  refine ⟨rfl, ?_⟩
  go_wp2_with (first
    | (refine at_load 34 (.tmp 5) (by rfl) ?_; refine wpList_load_row (by rfl) 34 (.tmp 5) (by rfl) (w1.heap.size) (by rfl) 34 _ (0, 0) _ (K5.out.row 0 rfl) Tryz.underlying34 (by rfl) info_X ?_)
    | (refine at_store 34 (.tmp 4) (.tmp 40) (by rfl) ?_; refine wpList_put (by rfl) 34 (.tmp 4) (.tmp 40) (by rfl) (w.heap.size) 0 (.agg #[.bool true, .int .i64 0, .int .u32 6]) (by rfl) (by rfl) 34 _ #[.bool true, .int .i64 0, .int .u32 6] (K5.out.row 1 rfl) (by simp [Value.cells]) (by kernel_rfl) info_X (by kernel_rfl) ?_; intro w6 hrow hoth hz hbl; have K6 := Lib.hid (K5.out.turn 1 rfl hrow hoth hz); have B6 : Hid (TurnB g w w6) := Lib.hid (B5.out.puto (Nat.le_refl _) hoth hz hbl); clear hrow hoth hz hbl K5 B5))
  rw [jump_ret]
  exact bodyPost_ret (res_cell1 rfl _ _ _ _ _ _ rfl (K6.out.row 1 rfl) Tryz.underlying34 rfl info_X) rfl ⟨rfl, (K6.out.row 2 rfl), B6.out⟩
set_option maxRecDepth 100000 in
set_option maxHeartbeats 4000000 in
theorem p_takeSettings_0 (K F : UInt8) (S : Int) (g : Nat) (A : Option Addr) (n c : Nat) (xs : List UInt8) (w : World) (hE : EnvB w [(A, n, xs)] [] [(g, (hF0 K.toNat F.toNat S), 30)]) (hN : A = none → c = 0) (hn : n ≤ 100000) (hnc : n ≤ c) (te : Int) (l : List Pr) (m : Nat) (hm : l.length = m) (hm6 : m ≤ 100000) (HTP : Hid (∀ w0, Bs w0 w0.heap.size A n xs → Calls Tryz.prog 92 #[.slice A n c] w0 fun e w' => ∃ v, e = .returned (.tuple #[v, .int .i64 te]) ∧ OwnP w' w0.heap.size 79 v l ∧ Below w0.heap.size w0 w')) (hte : (te != 0) = false) (h0 : ¬ (0 : Int) < (m : Int)) :
    Calls Tryz.prog 68 #[.pointer (some ⟨g, 0, none⟩), .slice A n c] w fun e w' => ∃ A' m' c' l', e = .returned (fv (pairsX l)) ∧ (pairsX l = fine → l' = l) ∧ w'.heap[g]? = some (.cells (fr13 K.toNat F.toNat S none 0 0 0 0 0 0 A' m' c' false false 0 0) 30) ∧ HandP w' w.heap.size A' m' c' l' ∧ TurnB g w w' := by
  have hl : xs.length = n := (hE.s (A, n, xs) (by simp)).1.1
  have hgw : g < w.heap.size := hE.lt (y := (g, (hF0 K.toNat F.toNat S), 30)) (by simp)
  have K0 : Hid (EnvB (w.alloc (.cells #[.bool false, .int .i64 0, .int .u32 0] 34)) [(A, n, xs)] [] [(w.heap.size, #[.bool false, .int .i64 0, .int .u32 0], 34), (g, (hF0 K.toNat F.toNat S), 30)]) := Lib.hid (hE.box 34 #[.bool false, .int .i64 0, .int .u32 0])
  have B0 : Hid (TurnB g w (w.alloc (.cells #[.bool false, .int .i64 0, .int .u32 0] 34))) := Lib.hid ((TurnB.refl g w).al _)
  have HN := Lib.hid hN
  have HL := Lib.hid hl
  clear hE hN hl
  refine (callsIn_wide (n := 6)).1 (callsIn_of_wp_marks Tryz.func68 rfl trivial ?_ rfl)
  refine wpIn_wide.2 ?_
  simp only [Tryz.ntmps68, List.size_toArray, List.length_cons, List.length_nil, Nat.reduceAdd, Nat.reduceSub, Array.replicate_succ, Array.replicate_zero, List.push_toArray, List.append_toArray, List.nil_append, List.cons_append]
  go_wp2
  refine wp_scope_forward 0 rfl ?_
  go_wp2_with (first
    | (go_at_call 16; (with_reducible refine (p_whole _ _).mono ?_); rintro e w1 ⟨rfl, hb⟩; have K1 := Lib.hid (K0.out.on hb); have B1 : Hid (TurnB g w w1) := Lib.hid (B0.out.callB hb); clear hb K0 B0; have hsx := B1.out.size; have K2 := Lib.hid (K1.out.box 34 #[.bool false, .int .i64 0, .int .u32 0]); have B2 : Hid (TurnB g w (w1.alloc (.cells #[.bool false, .int .i64 0, .int .u32 0] 34))) := Lib.hid (B1.out.al (.cells #[.bool false, .int .i64 0, .int .u32 0] 34)); clear K1 B1)
    | (refine at_store 34 (.tmp 5) (.tmp 9) (by rfl) ?_; refine wpList_put (by rfl) 34 (.tmp 5) (.tmp 9) (by rfl) (w1.heap.size) 0 (.agg #[.bool true, .int .i64 0, .int .u32 6]) (by rfl) (by rfl) 34 _ #[.bool true, .int .i64 0, .int .u32 6] (K2.out.row 0 rfl) (by simp [Value.cells]) (by kernel_rfl) info_X (by kernel_rfl) ?_; intro w3 hrow hoth hz hbl; have K3 := Lib.hid (K2.out.turn 0 rfl hrow hoth hz); have B3 : Hid (TurnB g w w3) := Lib.hid (B2.out.puto hsx hoth hz hbl); clear hrow hoth hz hbl K2 B2)
    | (go_at_call 92; (with_reducible refine (HTP.out _ ((K3.out.s (A, n, xs) (by simp)).1)).mono ?_); rintro e w4 ⟨v1, rfl, ho, hb⟩; obtain ⟨A1, c1, rfl, hh⟩ := ho.handP hm; have HP1 := Lib.hid (hh.2.1.less B3.out.size); have HC1 := Lib.hid hh.2.2; have K4 := Lib.hid (K3.out.handP hb hh); have B4 : Hid (TurnB g w w4) := Lib.hid (B3.out.callB hb); clear ho hh; clear hb K3 B3; obtain ⟨f_0, f_1, f_2, f_3, f_4, f_5, f_6, f_7, f_8, f_9, f_10, f_11, f_12⟩ := c13_row (K4.out.row 2 rfl))
    | (go_at_call 93; refine (codes_any _ _ _ _).mono ?_; rintro e w' ⟨rfl, rfl⟩; have hsc := B4.out.size; have K5 := Lib.hid (K4.out.box 26 #[.slice A1 m c1]); have B5 : Hid (TurnB g w (w4.alloc (.cells #[.slice A1 m c1] 26))) := Lib.hid (B4.out.al (.cells #[.slice A1 m c1] 26)); clear K4 B4))
  have hKc := K5.out.row 0 rfl
  have hcc : (w4.alloc (.cells #[.slice A1 m c1] 26)).cell? ⟨w4.heap.size, 0, none⟩ = some (.slice A1 m c1) := by rw [cell_of_row _ _ _ _ _ (0, 0) hKc]; rfl
  have hAp : Ps (w4.alloc (.cells #[.slice A1 m c1] 26)) (w4.alloc (.cells #[.slice A1 m c1] 26)).heap.size A1 m l := (K5.out.p (A1, m, l) (by simp)).1
  have hWs : (w4.alloc (.cells #[.slice A1 m c1] 26)).heap.size = w4.heap.size + 1 := by simp
  have hI0 : EnvB (w4.alloc (.cells #[.slice A1 m c1] 26)) [(A, n, xs)] [(A1, m, l)] [(w4.heap.size, #[.slice A1 m c1], 26), (w1.heap.size, #[.bool true, .int .i64 0, .int .u32 6], 34), (w.heap.size, #[.bool false, .int .i64 0, .int .u32 0], 34), (g, (hF0 K.toNat F.toNat S), 30)] := K5.out
  have hT0 : TurnB g w (w4.alloc (.cells #[.slice A1 m c1] 26)) := B5.out
  have hlx : (w4.alloc (.cells #[.slice A1 m c1] 26)).heap[w1.heap.size]? = some (.cells #[.bool true, .int .i64 0, .int .u32 6] 34) := K5.out.row 1 rfl
  clear hKc
  generalize (w4.alloc (.cells #[.slice A1 m c1] 26)) = W0 at *
  have hWle := hT0.size
  have HI0 := Lib.hid hI0
  clear hI0
  refine (wpIn_wide (n := 6)).1 ?_
  refine wpIn_rangeFunc_ownH rfl (by omega) (gf := 106) (lb := #[.pointer (some ⟨w4.heap.size, 0, none⟩)]) rfl trivial (enters_of Tryz.func106 (by kernel_rfl) rfl)
    (codes_stops 5 (by omega) (w4.heap.size) m c1 A1 l (fun _ => True) W0 (by omega) trivial (fun _ _ _ _ => trivial) (by omega) hcc hAp)
    (fun h k => h.trans k) (fun W l o o' _ h hc _ => KeepC.put W l o o' h hc) (Below.refl _ _) (fun _ => rfl)
    (fun pre W => (∀ y ∈ pre, setX y = fine) ∧ Hid (EnvB W [(A, n, xs)] [(A1, m, l)] [(w4.heap.size, #[.slice A1 m c1], 26), (w1.heap.size, #[.bool true, .int .i64 0, .int .u32 6], 34), (w.heap.size, #[.bool false, .int .i64 0, .int .u32 0], 34), (g, (hF0 K.toNat F.toNat S), 30)]) ∧ Hid (TurnB g w W))
    (fun c pre W => c = .goto 0 ∧ ∃ pre0 y, pre = pre0 ++ [y] ∧ (∀ z ∈ pre0, setX z = fine) ∧ setX y ≠ fine ∧ Hid (EnvB W [(A, n, xs)] [(A1, m, l)] [(w4.heap.size, #[.slice A1 m c1], 26), (w1.heap.size, #[.bool true, .int .i64 0, .int .u32 ((setX y).2.2 : Nat)], 34), (w.heap.size, #[.bool false, .int .i64 0, .int .u32 0], 34), (g, (hF0 K.toNat F.toNat S), 30)]) ∧ Hid (TurnB g w W))
    (fun s W W' row hs hg hr => ⟨hs.1, Lib.hid (hs.2.1.out.kept hg (fun k e => (hr k e).2)), Lib.hid (hs.2.2.out.kept hg (fun k e => Nat.le_trans hWle (hr k e).1))⟩)
    (fun c s W W' row hs hg hr => ⟨hs.1, by
      obtain ⟨pre0, y, h1, h2, h3, h4, h5⟩ := hs.2
      exact ⟨pre0, y, h1, h2, h3, Lib.hid (h4.out.kept hg (fun k e => (hr k e).2)), Lib.hid (h5.out.kept hg (fun k e => Nat.le_trans hWle (hr k e).1))⟩⟩)
    ⟨(fun y hy => by cases hy), HI0, Lib.hid hT0⟩
    (fun x a' _ => a' = { tmps := #[.pointer (some ⟨g, 0, none⟩), .slice A n c, undef, undef, .pointer (some ⟨w.heap.size, 0, none⟩), .pointer (some ⟨w1.heap.size, 0, none⟩), .slice A1 m c1, .int .i64 te, .int .u32 ((setX x).2.2 : Nat), .agg #[.bool true, .int .i64 0, .int .u32 6], .tuple #[.slice A1 m c1, .int .i64 te], .slice A n c, .tuple #[.slice A1 m c1, .int .i64 te], .slice A1 m c1, .int .i64 te, .int .i64 te, .bool false, .bool false, .slice A1 m c1, .int .i64 (m : Int), .bool false, .bool false, undef, undef, undef, undef, .bool false, .bool false, .slice A1 m c1, .func (.func 106) #[] #[.pointer (some ⟨w4.heap.size, 0, none⟩)], .int .u32 ((setX x).2.2 : Nat), undef, undef, undef, undef, undef, undef, undef, undef, undef, undef], defers := [] })
    (fun x a' s W W' row hs hg hr => hs)
    ?assign ?body ?done ?stop
  case assign =>
    intro l pre x W K hI hK
    have HK := Lib.hid hK
    have HI := Lib.hid hI
    clear hK hI
    gi_wp2
    exact HK.out _ _ (KeepsFrom.refl _ _) (KeepC.refl _ _) HI.out rfl
  case body =>
    rintro li pre x a' W _ _ hI rfl hlen
    obtain ⟨hpre, HE, HT⟩ := hI
    have HPRE := Lib.hid hpre
    clear hpre
    have hcf := code_fine x
    by_cases hx : setX x = fine
    · have hcf' : ((((setX x).2.2 : Nat) : Int) != 0) = false := by rw [hcf]; simp [hx]
      have HX := Lib.hid hx
      clear hcf hx
      gi_wp2
      exact ⟨KeepsFrom.refl _ _, KeepC.refl _ _, fun y hy => (List.mem_append.1 hy).elim (fun h => HPRE.out y h) (fun h => by rw [List.mem_singleton.1 h]; exact HX.out), HE, HT⟩
    · have hcf' : ((((setX x).2.2 : Nat) : Int) != 0) = true := by rw [hcf]; simp [hx]
      have HX := Lib.hid hx
      clear hcf hx
      gi_wp2_with (first
        | (refine ⟨trivial, ?_⟩; gi_at_call 16; (refine (CallsIn.inRound li (callsIn_wide.2 (p_whole _ _))).mono ?_); rintro e W1 ⟨rfl, hb⟩; have HE1 := Lib.hid (HE.out.on hb); have HT1 := Lib.hid (HT.out.callB hb); have HB1 := Lib.hid hb; clear hb)
        | (refine at_storeIn 34 (.tmp 5) (.tmp 34) (by rfl) ?_; refine wpListIn_put (by rfl) 34 (.tmp 5) (.tmp 34) (by rfl) (w1.heap.size) 0 (.agg #[.bool true, .int .i64 0, .int .u32 ((setX x).2.2 : Nat)]) (by rfl) (by rfl) 34 #[.bool true, .int .i64 0, .int .u32 6] #[.bool true, .int .i64 0, .int .u32 ((setX x).2.2 : Nat)] (HE1.out.row 1 rfl) (by simp [Value.cells]) (by kernel_rfl) info_X (by kernel_rfl) ?_; intro W2 hrow hoth hz hbl; have HE2 : Hid (EnvB W2 [(A, n, xs)] [(A1, m, l)] [(w4.heap.size, #[.slice A1 m c1], 26), (w1.heap.size, #[.bool true, .int .i64 0, .int .u32 ((setX x).2.2 : Nat)], 34), (w.heap.size, #[.bool false, .int .i64 0, .int .u32 0], 34), (g, (hF0 K.toNat F.toNat S), 30)]) := Lib.hid (HE1.out.turn 1 rfl hrow hoth hz); have HT2 : Hid (TurnB g w W2) := Lib.hid (HT1.out.puto hsx hoth hz hbl); have HB2 := Lib.hid hoth; have HZ2 := Lib.hid hz; clear hrow hoth hz hbl))
      refine wpIn_goto ?_
      gi_wp2
      refine ⟨(KeepsOthers.from ⟨by rw [HZ2.out]; exact HB1.out.size, fun k o hk ho => ?_⟩ _), rfl, pre, x, rfl, HPRE.out, HX.out, HE2, HT2⟩
      have hk1 := (HB1.out.block k (Array.getElem?_eq_some_iff.1 hk).1).trans hk
      refine (HB2.out k (fun e => ?_)).trans hk1
      subst e
      rw [HE1.out.row 1 rfl] at hk1
      cases hk1
      cases ho
  case done =>
    rintro D ys W hD rfl hI hK
    obtain ⟨hpre, KD10, BD10⟩ := hI
    have HF : Hid (pairsX ys = fine) := Lib.hid (pairsX_none hpre)
    clear hpre
    have HKD := Lib.hid hK
    have hHR := Lib.hid hsc
    clear hK
    go_wp2_with (first
      | (refine at_store 26 (.tmp 38) (.tmp 36) (by rfl) ?_; refine wpList_put (by rfl) 26 (.tmp 38) (.tmp 36) (by rfl) (g) 8 (.slice A1 m c1) (by rfl) (by rfl) 30 _ (fr13 K.toNat F.toNat S none 0 0 0 0 0 0 A1 m c1 false false 0 0) (KD10.out.row 3 rfl) (by simp [Value.cells]) (by kernel_rfl) info_P (by kernel_rfl) ?_; intro w11 hrow hoth hz hbl; have KD11 : Hid (EnvB w11 [(A, n, xs)] [(A1, m, ys)] [(w4.heap.size, #[.slice A1 m c1], 26), (w1.heap.size, #[.bool true, .int .i64 0, .int .u32 6], 34), (w.heap.size, #[.bool false, .int .i64 0, .int .u32 0], 34), (g, (fr13 K.toNat F.toNat S none 0 0 0 0 0 0 A1 m c1 false false 0 0), 30)]) := Lib.hid (KD10.out.turn 3 rfl hrow hoth hz); have BD11 : Hid (TurnB g w w11) := Lib.hid (BD10.out.putg hoth hz hbl); have HK1 := Lib.hid ((hoth D (fun e => by have h1 := KD10.out.row 3 rfl; rw [← e, HKD.out] at h1; cases h1)).trans HKD.out); clear hrow hoth hz hbl KD10 BD10)
      | (refine at_store 34 (.tmp 4) (.tmp 39) (by rfl) ?_; refine wpList_put (by rfl) 34 (.tmp 4) (.tmp 39) (by rfl) (w.heap.size) 0 (.agg #[.bool false, .int .i64 0, .int .u32 0]) (by rfl) (by rfl) 34 _ #[.bool false, .int .i64 0, .int .u32 0] (KD11.out.row 2 rfl) (by simp [Value.cells]) (by kernel_rfl) info_X (by kernel_rfl) ?_; intro w12 hrow hoth hz hbl; have KD12 : Hid (EnvB w12 [(A, n, xs)] [(A1, m, ys)] [(w4.heap.size, #[.slice A1 m c1], 26), (w1.heap.size, #[.bool true, .int .i64 0, .int .u32 6], 34), (w.heap.size, #[.bool false, .int .i64 0, .int .u32 0], 34), (g, (fr13 K.toNat F.toNat S none 0 0 0 0 0 0 A1 m c1 false false 0 0), 30)]) := Lib.hid (KD11.out.turn 2 rfl hrow hoth hz); have BD12 : Hid (TurnB g w w12) := Lib.hid (BD11.out.puto (Nat.le_refl _) hoth hz hbl); have HK2 := Lib.hid ((hoth D (fun e => by have h1 := KD11.out.row 2 rfl; rw [← e, HK1.out] at h1; cases h1)).trans HK1.out); clear hrow hoth hz hbl KD11 BD11))
    rw [jump_ret]
    have HE9 := (KD12.out.kept (grownBy_putObj' _ D (.deferred none)) (fun k e => by cases e; exact ⟨_, HK2.out, rfl⟩))
    have HT9 := (BD12.out.kept (grownBy_putObj' _ D (.deferred none)) (fun k e => by cases e; omega))
    refine ⟨by simp, .inl ⟨_, _, rfl, run_takeDeferred HK2.out, ⟨.agg #[.bool false, .int .i64 0, .int .u32 0], res_cell1 rfl _ _ _ _ _ _ rfl (HE9.row 2 rfl) Tryz.underlying34 rfl info_X, A1, m, c1, ys, ?_, fun _ => rfl, HE9.row 3 rfl, ⟨(HE9.p (A1, m, ys) (by simp)).1, HP1.out, HC1.out⟩, HT9⟩⟩⟩
    rw [HF.out]
    rfl
  case stop =>
    rintro D c' pre W hD hpre hX hK
    obtain ⟨rfl, pre0, y, rfl, h1, h2, KD10, BD10⟩ := hX
    have hy : l[pre0.length]? = some y := by
      obtain ⟨r, hr⟩ := hpre
      rw [← hr]
      simp
    have ht : l.take pre0.length = pre0 := by
      obtain ⟨r, hr⟩ := hpre
      rw [← hr, List.append_assoc, List.take_left]
    have HF : Hid (pairsX l = setX y) := Lib.hid (pairsX_hit hy (by rw [ht]; exact h1) h2)
    have HW := Lib.hid (code_whole y h2)
    have HKD := Lib.hid hK
    clear hK h1 h2 hy ht hpre
    refine wpIn_wide.2 ?_
    go_step3
    refine ⟨rfl, ?_⟩
    go_wp2_with (first
      | (refine at_load 34 (.tmp 5) (by rfl) ?_; refine wpList_load_row (by rfl) 34 (.tmp 5) (by rfl) (w1.heap.size) (by rfl) 34 _ (0, 0) _ (KD10.out.row 1 rfl) Tryz.underlying34 (by rfl) info_X ?_)
      | (refine at_store 34 (.tmp 4) (.tmp 40) (by rfl) ?_; refine wpList_put (by rfl) 34 (.tmp 4) (.tmp 40) (by rfl) (w.heap.size) 0 (.agg #[.bool true, .int .i64 0, .int .u32 ((setX y).2.2 : Nat)]) (by rfl) (by rfl) 34 _ #[.bool true, .int .i64 0, .int .u32 ((setX y).2.2 : Nat)] (KD10.out.row 2 rfl) (by simp [Value.cells]) (by kernel_rfl) info_X (by kernel_rfl) ?_; intro w11 hrow hoth hz hbl; have KD11 : Hid (EnvB w11 [(A, n, xs)] [(A1, m, l)] [(w4.heap.size, #[.slice A1 m c1], 26), (w1.heap.size, #[.bool true, .int .i64 0, .int .u32 ((setX y).2.2 : Nat)], 34), (w.heap.size, #[.bool true, .int .i64 0, .int .u32 ((setX y).2.2 : Nat)], 34), (g, (hF0 K.toNat F.toNat S), 30)]) := Lib.hid (KD10.out.turn 2 rfl hrow hoth hz); have BD11 : Hid (TurnB g w w11) := Lib.hid (BD10.out.puto (Nat.le_refl _) hoth hz hbl); have HK1 := Lib.hid ((hoth D (fun e => by have h1 := KD10.out.row 2 rfl; rw [← e, HKD.out] at h1; cases h1)).trans HKD.out); clear hrow hoth hz hbl KD10 BD10))
    rw [jump_ret]
    have HE9 := (KD11.out.kept (grownBy_putObj' _ D (.deferred none)) (fun k e => by cases e; exact ⟨_, HK1.out, rfl⟩))
    have HT9 := (BD11.out.kept (grownBy_putObj' _ D (.deferred none)) (fun k e => by cases e; omega))
    refine ⟨by simp, .inl ⟨_, _, rfl, run_takeDeferred HK1.out, ⟨.agg #[.bool true, .int .i64 0, .int .u32 ((setX y).2.2 : Nat)], res_cell1 rfl _ _ _ _ _ _ rfl (HE9.row 2 rfl) Tryz.underlying34 rfl info_X, none, 0, 0, [], ?_, ?_, HE9.row 3 rfl, HandP.nil_ _ _, HT9⟩⟩⟩
    · rw [HF.out, HW.out]
      rfl
    · rw [HF.out, HW.out]
      intro h
      cases h
set_option maxRecDepth 100000 in
set_option maxHeartbeats 4000000 in
theorem p_takeSettings_L (K F : UInt8) (S : Int) (g : Nat) (A : Option Addr) (n c : Nat) (xs : List UInt8) (w : World) (hE : EnvB w [(A, n, xs)] [] [(g, (hF0 K.toNat F.toNat S), 30)]) (hN : A = none → c = 0) (hn : n ≤ 100000) (hnc : n ≤ c) (te : Int) (l : List Pr) (m : Nat) (hm : l.length = m) (hm6 : m ≤ 100000) (HTP : Hid (∀ w0, Bs w0 w0.heap.size A n xs → Calls Tryz.prog 92 #[.slice A n c] w0 fun e w' => ∃ v, e = .returned (.tuple #[v, .int .i64 te]) ∧ OwnP w' w0.heap.size 79 v l ∧ Below w0.heap.size w0 w')) (hte : (te != 0) = false) (h0 : (0 : Int) < (m : Int)) (hb1 : Bool) (hhb : hb1 = false) (HPA : Hid (∀ w0, Calls Tryz.prog 83 #[.agg (hF0 K.toNat F.toNat S), .int .u8 1] w0 fun e w' => e = .returned (.bool hb1) ∧ Below w0.heap.size w0 w')) :
    Calls Tryz.prog 68 #[.pointer (some ⟨g, 0, none⟩), .slice A n c] w fun e w' => ∃ A' m' c' l', e = .returned (fv (pairsX l)) ∧ (pairsX l = fine → l' = l) ∧ w'.heap[g]? = some (.cells (fr13 K.toNat F.toNat S none 0 0 0 0 0 0 A' m' c' false false 0 0) 30) ∧ HandP w' w.heap.size A' m' c' l' ∧ TurnB g w w' := by
  have hl : xs.length = n := (hE.s (A, n, xs) (by simp)).1.1
  have hgw : g < w.heap.size := hE.lt (y := (g, (hF0 K.toNat F.toNat S), 30)) (by simp)
  have K0 : Hid (EnvB (w.alloc (.cells #[.bool false, .int .i64 0, .int .u32 0] 34)) [(A, n, xs)] [] [(w.heap.size, #[.bool false, .int .i64 0, .int .u32 0], 34), (g, (hF0 K.toNat F.toNat S), 30)]) := Lib.hid (hE.box 34 #[.bool false, .int .i64 0, .int .u32 0])
  have B0 : Hid (TurnB g w (w.alloc (.cells #[.bool false, .int .i64 0, .int .u32 0] 34))) := Lib.hid ((TurnB.refl g w).al _)
  have HN := Lib.hid hN
  have HL := Lib.hid hl
  clear hE hN hl
  subst hhb
  refine (callsIn_wide (n := 6)).1 (callsIn_of_wp_marks Tryz.func68 rfl trivial ?_ rfl)
  refine wpIn_wide.2 ?_
  simp only [Tryz.ntmps68, List.size_toArray, List.length_cons, List.length_nil, Nat.reduceAdd, Nat.reduceSub, Array.replicate_succ, Array.replicate_zero, List.push_toArray, List.append_toArray, List.nil_append, List.cons_append]
  go_wp2
  refine wp_scope_forward 0 rfl ?_
  go_wp2_with (first
    | (go_at_call 16; (with_reducible refine (p_whole _ _).mono ?_); rintro e w1 ⟨rfl, hb⟩; have K1 := Lib.hid (K0.out.on hb); have B1 : Hid (TurnB g w w1) := Lib.hid (B0.out.callB hb); clear hb K0 B0; have hsx := B1.out.size; have K2 := Lib.hid (K1.out.box 34 #[.bool false, .int .i64 0, .int .u32 0]); have B2 : Hid (TurnB g w (w1.alloc (.cells #[.bool false, .int .i64 0, .int .u32 0] 34))) := Lib.hid (B1.out.al (.cells #[.bool false, .int .i64 0, .int .u32 0] 34)); clear K1 B1)
    | (refine at_store 34 (.tmp 5) (.tmp 9) (by rfl) ?_; refine wpList_put (by rfl) 34 (.tmp 5) (.tmp 9) (by rfl) (w1.heap.size) 0 (.agg #[.bool true, .int .i64 0, .int .u32 6]) (by rfl) (by rfl) 34 _ #[.bool true, .int .i64 0, .int .u32 6] (K2.out.row 0 rfl) (by simp [Value.cells]) (by kernel_rfl) info_X (by kernel_rfl) ?_; intro w3 hrow hoth hz hbl; have K3 := Lib.hid (K2.out.turn 0 rfl hrow hoth hz); have B3 : Hid (TurnB g w w3) := Lib.hid (B2.out.puto hsx hoth hz hbl); clear hrow hoth hz hbl K2 B2)
    | (go_at_call 92; (with_reducible refine (HTP.out _ ((K3.out.s (A, n, xs) (by simp)).1)).mono ?_); rintro e w4 ⟨v1, rfl, ho, hb⟩; obtain ⟨A1, c1, rfl, hh⟩ := ho.handP hm; have HP1 := Lib.hid (hh.2.1.less B3.out.size); have HC1 := Lib.hid hh.2.2; have K4 := Lib.hid (K3.out.handP hb hh); have B4 : Hid (TurnB g w w4) := Lib.hid (B3.out.callB hb); clear ho hh; clear hb K3 B3; obtain ⟨f_0, f_1, f_2, f_3, f_4, f_5, f_6, f_7, f_8, f_9, f_10, f_11, f_12⟩ := c13_row (K4.out.row 2 rfl))
    | (go_at_call 83; (with_reducible refine (HPA.out _).mono ?_); rintro e w5 ⟨rfl, hb⟩; have K5 := Lib.hid (K4.out.on hb); have B5 : Hid (TurnB g w w5) := Lib.hid (B4.out.callB hb); clear hb K4 B4)
    | (go_at_call 93; refine (codes_any _ _ _ _).mono ?_; rintro e w' ⟨rfl, rfl⟩; have hsc := B5.out.size; have K6 := Lib.hid (K5.out.box 26 #[.slice A1 m c1]); have B6 : Hid (TurnB g w (w5.alloc (.cells #[.slice A1 m c1] 26))) := Lib.hid (B5.out.al (.cells #[.slice A1 m c1] 26)); clear K5 B5))
  have hKc := K6.out.row 0 rfl
  have hcc : (w5.alloc (.cells #[.slice A1 m c1] 26)).cell? ⟨w5.heap.size, 0, none⟩ = some (.slice A1 m c1) := by rw [cell_of_row _ _ _ _ _ (0, 0) hKc]; rfl
  have hAp : Ps (w5.alloc (.cells #[.slice A1 m c1] 26)) (w5.alloc (.cells #[.slice A1 m c1] 26)).heap.size A1 m l := (K6.out.p (A1, m, l) (by simp)).1
  have hWs : (w5.alloc (.cells #[.slice A1 m c1] 26)).heap.size = w5.heap.size + 1 := by simp
  have hI0 : EnvB (w5.alloc (.cells #[.slice A1 m c1] 26)) [(A, n, xs)] [(A1, m, l)] [(w5.heap.size, #[.slice A1 m c1], 26), (w1.heap.size, #[.bool true, .int .i64 0, .int .u32 6], 34), (w.heap.size, #[.bool false, .int .i64 0, .int .u32 0], 34), (g, (hF0 K.toNat F.toNat S), 30)] := K6.out
  have hT0 : TurnB g w (w5.alloc (.cells #[.slice A1 m c1] 26)) := B6.out
  have hlx : (w5.alloc (.cells #[.slice A1 m c1] 26)).heap[w1.heap.size]? = some (.cells #[.bool true, .int .i64 0, .int .u32 6] 34) := K6.out.row 1 rfl
  clear hKc
  generalize (w5.alloc (.cells #[.slice A1 m c1] 26)) = W0 at *
  have hWle := hT0.size
  have HI0 := Lib.hid hI0
  clear hI0
  refine (wpIn_wide (n := 6)).1 ?_
  refine wpIn_rangeFunc_ownH rfl (by omega) (gf := 106) (lb := #[.pointer (some ⟨w5.heap.size, 0, none⟩)]) rfl trivial (enters_of Tryz.func106 (by kernel_rfl) rfl)
    (codes_stops 5 (by omega) (w5.heap.size) m c1 A1 l (fun _ => True) W0 (by omega) trivial (fun _ _ _ _ => trivial) (by omega) hcc hAp)
    (fun h k => h.trans k) (fun W l o o' _ h hc _ => KeepC.put W l o o' h hc) (Below.refl _ _) (fun _ => rfl)
    (fun pre W => (∀ y ∈ pre, setX y = fine) ∧ Hid (EnvB W [(A, n, xs)] [(A1, m, l)] [(w5.heap.size, #[.slice A1 m c1], 26), (w1.heap.size, #[.bool true, .int .i64 0, .int .u32 6], 34), (w.heap.size, #[.bool false, .int .i64 0, .int .u32 0], 34), (g, (hF0 K.toNat F.toNat S), 30)]) ∧ Hid (TurnB g w W))
    (fun c pre W => c = .goto 0 ∧ ∃ pre0 y, pre = pre0 ++ [y] ∧ (∀ z ∈ pre0, setX z = fine) ∧ setX y ≠ fine ∧ Hid (EnvB W [(A, n, xs)] [(A1, m, l)] [(w5.heap.size, #[.slice A1 m c1], 26), (w1.heap.size, #[.bool true, .int .i64 0, .int .u32 ((setX y).2.2 : Nat)], 34), (w.heap.size, #[.bool false, .int .i64 0, .int .u32 0], 34), (g, (hF0 K.toNat F.toNat S), 30)]) ∧ Hid (TurnB g w W))
    (fun s W W' row hs hg hr => ⟨hs.1, Lib.hid (hs.2.1.out.kept hg (fun k e => (hr k e).2)), Lib.hid (hs.2.2.out.kept hg (fun k e => Nat.le_trans hWle (hr k e).1))⟩)
    (fun c s W W' row hs hg hr => ⟨hs.1, by
      obtain ⟨pre0, y, h1, h2, h3, h4, h5⟩ := hs.2
      exact ⟨pre0, y, h1, h2, h3, Lib.hid (h4.out.kept hg (fun k e => (hr k e).2)), Lib.hid (h5.out.kept hg (fun k e => Nat.le_trans hWle (hr k e).1))⟩⟩)
    ⟨(fun y hy => by cases hy), HI0, Lib.hid hT0⟩
    (fun x a' _ => a' = { tmps := #[.pointer (some ⟨g, 0, none⟩), .slice A n c, undef, undef, .pointer (some ⟨w.heap.size, 0, none⟩), .pointer (some ⟨w1.heap.size, 0, none⟩), .slice A1 m c1, .int .i64 te, .int .u32 ((setX x).2.2 : Nat), .agg #[.bool true, .int .i64 0, .int .u32 6], .tuple #[.slice A1 m c1, .int .i64 te], .slice A n c, .tuple #[.slice A1 m c1, .int .i64 te], .slice A1 m c1, .int .i64 te, .int .i64 te, .bool false, .bool false, .slice A1 m c1, .int .i64 (m : Int), .bool true, .bool true, .pointer (some ⟨g, 0, none⟩), .pointer (some ⟨g, 0, none⟩), .agg (hF0 K.toNat F.toNat S), .bool false, .bool false, .bool false, .slice A1 m c1, .func (.func 106) #[] #[.pointer (some ⟨w5.heap.size, 0, none⟩)], .int .u32 ((setX x).2.2 : Nat), undef, undef, undef, undef, undef, undef, undef, undef, undef, undef], defers := [] })
    (fun x a' s W W' row hs hg hr => hs)
    ?assign ?body ?done ?stop
  case assign =>
    intro l pre x W K hI hK
    have HK := Lib.hid hK
    have HI := Lib.hid hI
    clear hK hI
    gi_wp2
    exact HK.out _ _ (KeepsFrom.refl _ _) (KeepC.refl _ _) HI.out rfl
  case body =>
    rintro li pre x a' W _ _ hI rfl hlen
    obtain ⟨hpre, HE, HT⟩ := hI
    have HPRE := Lib.hid hpre
    clear hpre
    have hcf := code_fine x
    by_cases hx : setX x = fine
    · have hcf' : ((((setX x).2.2 : Nat) : Int) != 0) = false := by rw [hcf]; simp [hx]
      have HX := Lib.hid hx
      clear hcf hx
      gi_wp2
      exact ⟨KeepsFrom.refl _ _, KeepC.refl _ _, fun y hy => (List.mem_append.1 hy).elim (fun h => HPRE.out y h) (fun h => by rw [List.mem_singleton.1 h]; exact HX.out), HE, HT⟩
    · have hcf' : ((((setX x).2.2 : Nat) : Int) != 0) = true := by rw [hcf]; simp [hx]
      have HX := Lib.hid hx
      clear hcf hx
      gi_wp2_with (first
        | (refine ⟨trivial, ?_⟩; gi_at_call 16; (refine (CallsIn.inRound li (callsIn_wide.2 (p_whole _ _))).mono ?_); rintro e W1 ⟨rfl, hb⟩; have HE1 := Lib.hid (HE.out.on hb); have HT1 := Lib.hid (HT.out.callB hb); have HB1 := Lib.hid hb; clear hb)
        | (refine at_storeIn 34 (.tmp 5) (.tmp 34) (by rfl) ?_; refine wpListIn_put (by rfl) 34 (.tmp 5) (.tmp 34) (by rfl) (w1.heap.size) 0 (.agg #[.bool true, .int .i64 0, .int .u32 ((setX x).2.2 : Nat)]) (by rfl) (by rfl) 34 #[.bool true, .int .i64 0, .int .u32 6] #[.bool true, .int .i64 0, .int .u32 ((setX x).2.2 : Nat)] (HE1.out.row 1 rfl) (by simp [Value.cells]) (by kernel_rfl) info_X (by kernel_rfl) ?_; intro W2 hrow hoth hz hbl; have HE2 : Hid (EnvB W2 [(A, n, xs)] [(A1, m, l)] [(w5.heap.size, #[.slice A1 m c1], 26), (w1.heap.size, #[.bool true, .int .i64 0, .int .u32 ((setX x).2.2 : Nat)], 34), (w.heap.size, #[.bool false, .int .i64 0, .int .u32 0], 34), (g, (hF0 K.toNat F.toNat S), 30)]) := Lib.hid (HE1.out.turn 1 rfl hrow hoth hz); have HT2 : Hid (TurnB g w W2) := Lib.hid (HT1.out.puto hsx hoth hz hbl); have HB2 := Lib.hid hoth; have HZ2 := Lib.hid hz; clear hrow hoth hz hbl))
      refine wpIn_goto ?_
      gi_wp2
      refine ⟨(KeepsOthers.from ⟨by rw [HZ2.out]; exact HB1.out.size, fun k o hk ho => ?_⟩ _), rfl, pre, x, rfl, HPRE.out, HX.out, HE2, HT2⟩
      have hk1 := (HB1.out.block k (Array.getElem?_eq_some_iff.1 hk).1).trans hk
      refine (HB2.out k (fun e => ?_)).trans hk1
      subst e
      rw [HE1.out.row 1 rfl] at hk1
      cases hk1
      cases ho
  case done =>
    rintro D ys W hD rfl hI hK
    obtain ⟨hpre, KD10, BD10⟩ := hI
    have HF : Hid (pairsX ys = fine) := Lib.hid (pairsX_none hpre)
    clear hpre
    have HKD := Lib.hid hK
    have hHR := Lib.hid hsc
    clear hK
    go_wp2_with (first
      | (refine at_store 26 (.tmp 38) (.tmp 36) (by rfl) ?_; refine wpList_put (by rfl) 26 (.tmp 38) (.tmp 36) (by rfl) (g) 8 (.slice A1 m c1) (by rfl) (by rfl) 30 _ (fr13 K.toNat F.toNat S none 0 0 0 0 0 0 A1 m c1 false false 0 0) (KD10.out.row 3 rfl) (by simp [Value.cells]) (by kernel_rfl) info_P (by kernel_rfl) ?_; intro w11 hrow hoth hz hbl; have KD11 : Hid (EnvB w11 [(A, n, xs)] [(A1, m, ys)] [(w5.heap.size, #[.slice A1 m c1], 26), (w1.heap.size, #[.bool true, .int .i64 0, .int .u32 6], 34), (w.heap.size, #[.bool false, .int .i64 0, .int .u32 0], 34), (g, (fr13 K.toNat F.toNat S none 0 0 0 0 0 0 A1 m c1 false false 0 0), 30)]) := Lib.hid (KD10.out.turn 3 rfl hrow hoth hz); have BD11 : Hid (TurnB g w w11) := Lib.hid (BD10.out.putg hoth hz hbl); have HK1 := Lib.hid ((hoth D (fun e => by have h1 := KD10.out.row 3 rfl; rw [← e, HKD.out] at h1; cases h1)).trans HKD.out); clear hrow hoth hz hbl KD10 BD10)
      | (refine at_store 34 (.tmp 4) (.tmp 39) (by rfl) ?_; refine wpList_put (by rfl) 34 (.tmp 4) (.tmp 39) (by rfl) (w.heap.size) 0 (.agg #[.bool false, .int .i64 0, .int .u32 0]) (by rfl) (by rfl) 34 _ #[.bool false, .int .i64 0, .int .u32 0] (KD11.out.row 2 rfl) (by simp [Value.cells]) (by kernel_rfl) info_X (by kernel_rfl) ?_; intro w12 hrow hoth hz hbl; have KD12 : Hid (EnvB w12 [(A, n, xs)] [(A1, m, ys)] [(w5.heap.size, #[.slice A1 m c1], 26), (w1.heap.size, #[.bool true, .int .i64 0, .int .u32 6], 34), (w.heap.size, #[.bool false, .int .i64 0, .int .u32 0], 34), (g, (fr13 K.toNat F.toNat S none 0 0 0 0 0 0 A1 m c1 false false 0 0), 30)]) := Lib.hid (KD11.out.turn 2 rfl hrow hoth hz); have BD12 : Hid (TurnB g w w12) := Lib.hid (BD11.out.puto (Nat.le_refl _) hoth hz hbl); have HK2 := Lib.hid ((hoth D (fun e => by have h1 := KD11.out.row 2 rfl; rw [← e, HK1.out] at h1; cases h1)).trans HK1.out); clear hrow hoth hz hbl KD11 BD11))
    rw [jump_ret]
    have HE9 := (KD12.out.kept (grownBy_putObj' _ D (.deferred none)) (fun k e => by cases e; exact ⟨_, HK2.out, rfl⟩))
    have HT9 := (BD12.out.kept (grownBy_putObj' _ D (.deferred none)) (fun k e => by cases e; omega))
    refine ⟨by simp, .inl ⟨_, _, rfl, run_takeDeferred HK2.out, ⟨.agg #[.bool false, .int .i64 0, .int .u32 0], res_cell1 rfl _ _ _ _ _ _ rfl (HE9.row 2 rfl) Tryz.underlying34 rfl info_X, A1, m, c1, ys, ?_, fun _ => rfl, HE9.row 3 rfl, ⟨(HE9.p (A1, m, ys) (by simp)).1, HP1.out, HC1.out⟩, HT9⟩⟩⟩
    rw [HF.out]
    rfl
  case stop =>
    rintro D c' pre W hD hpre hX hK
    obtain ⟨rfl, pre0, y, rfl, h1, h2, KD10, BD10⟩ := hX
    have hy : l[pre0.length]? = some y := by
      obtain ⟨r, hr⟩ := hpre
      rw [← hr]
      simp
    have ht : l.take pre0.length = pre0 := by
      obtain ⟨r, hr⟩ := hpre
      rw [← hr, List.append_assoc, List.take_left]
    have HF : Hid (pairsX l = setX y) := Lib.hid (pairsX_hit hy (by rw [ht]; exact h1) h2)
    have HW := Lib.hid (code_whole y h2)
    have HKD := Lib.hid hK
    clear hK h1 h2 hy ht hpre
    refine wpIn_wide.2 ?_
    go_step3
    refine ⟨rfl, ?_⟩
    go_wp2_with (first
      | (refine at_load 34 (.tmp 5) (by rfl) ?_; refine wpList_load_row (by rfl) 34 (.tmp 5) (by rfl) (w1.heap.size) (by rfl) 34 _ (0, 0) _ (KD10.out.row 1 rfl) Tryz.underlying34 (by rfl) info_X ?_)
      | (refine at_store 34 (.tmp 4) (.tmp 40) (by rfl) ?_; refine wpList_put (by rfl) 34 (.tmp 4) (.tmp 40) (by rfl) (w.heap.size) 0 (.agg #[.bool true, .int .i64 0, .int .u32 ((setX y).2.2 : Nat)]) (by rfl) (by rfl) 34 _ #[.bool true, .int .i64 0, .int .u32 ((setX y).2.2 : Nat)] (KD10.out.row 2 rfl) (by simp [Value.cells]) (by kernel_rfl) info_X (by kernel_rfl) ?_; intro w11 hrow hoth hz hbl; have KD11 : Hid (EnvB w11 [(A, n, xs)] [(A1, m, l)] [(w5.heap.size, #[.slice A1 m c1], 26), (w1.heap.size, #[.bool true, .int .i64 0, .int .u32 ((setX y).2.2 : Nat)], 34), (w.heap.size, #[.bool true, .int .i64 0, .int .u32 ((setX y).2.2 : Nat)], 34), (g, (hF0 K.toNat F.toNat S), 30)]) := Lib.hid (KD10.out.turn 2 rfl hrow hoth hz); have BD11 : Hid (TurnB g w w11) := Lib.hid (BD10.out.puto (Nat.le_refl _) hoth hz hbl); have HK1 := Lib.hid ((hoth D (fun e => by have h1 := KD10.out.row 2 rfl; rw [← e, HKD.out] at h1; cases h1)).trans HKD.out); clear hrow hoth hz hbl KD10 BD10))
    rw [jump_ret]
    have HE9 := (KD11.out.kept (grownBy_putObj' _ D (.deferred none)) (fun k e => by cases e; exact ⟨_, HK1.out, rfl⟩))
    have HT9 := (BD11.out.kept (grownBy_putObj' _ D (.deferred none)) (fun k e => by cases e; omega))
    refine ⟨by simp, .inl ⟨_, _, rfl, run_takeDeferred HK1.out, ⟨.agg #[.bool true, .int .i64 0, .int .u32 ((setX y).2.2 : Nat)], res_cell1 rfl _ _ _ _ _ _ rfl (HE9.row 2 rfl) Tryz.underlying34 rfl info_X, none, 0, 0, [], ?_, ?_, HE9.row 3 rfl, HandP.nil_ _ _, HT9⟩⟩⟩
    · rw [HF.out, HW.out]
      rfl
    · rw [HF.out, HW.out]
      intro h
      cases h
end Go.Proofs.YtbflhphjnmhjhaaGreat
/- What the program's readers of payloads answer, kind by kind, in the words of the whole: tkR. -/
namespace Go.Proofs.YtbflhphjnmhjhaaGreat
open Go.RowKit Oct Fi Fm
set_option linter.unusedVariables false
set_option linter.unusedSimpArgs false
namespace Fm
def frc (f : Fr) (v u : Value) : Array Value := #[.int .u8 f.kd.toNat, .int .u8 f.fl.toNat, .int .i64 f.st, v, .int .i64 f.pd, .int .i64 f.la, .int .i64 f.ic, .int .u32 f.co.toNat, u, .bool f.rk, .bool f.al, .int .i64 f.dp, .int .u8 f.wt.toNat]
def tkR (K F : UInt8) (S : Int) (xs : List UInt8) : Fr × Ft :=
  if longB K.toNat F xs.length = true then (if K.toNat = 2 then (frZ K F S, (false, S, 6)) else (frZ 0 0 0, whole 6))
  else if (parseX (innerR K F S xs)).1 = true then (frZ 0 0 0, parseX (innerR K F S xs)) else ((innerR K F S xs).1, parseX (innerR K F S xs))
def TkPost (K F : UInt8) (S : Int) (xs : List UInt8) (g : Nat) (w : World) (e : Ending) (w' : World) : Prop :=
  ∃ d A' n' c' A3 n3 c3, e = .returned (fv (tkR K F S xs).2) ∧ ((tkR K F S xs).2.1 = false → d = (tkR K F S xs).1) ∧ w'.heap[g]? = some (.cells (frc d (.slice A' n' c') (.slice A3 n3 c3)) 30) ∧ HandS w' w.heap.size A' n' c' d.da ∧ HandP w' w.heap.size A3 n3 c3 d.ps ∧ TurnB g w w'
def FZc (K F : UInt8) (S : Int) : Array Value := (hF0 K.toNat F.toNat S)
end Fm
theorem frv_c (f : Fr) (v u : Value) : frv f v u = .agg (frc f v u) := rfl
theorem parseR_eq (K F : UInt8) (S : Int) (xs : List UInt8) : parseR K F S xs = if headB 0 S = false then (frZ 0 0 0, whole 2) else if 16384 < xs.length then (frZ 0 0 0, whole 6) else if K.toNat = 5 ∨ farB K.toNat S = true then (frZ 0 0 0, whole 1) else if (tkR K F S xs).2.1 = true then (frZ 0 0 0, (tkR K F S xs).2) else tkR K F S xs := by
  unfold parseR tkR aheadX
  by_cases h0 : headB 0 S = false
  · rw [if_pos h0, if_pos h0]
  rw [if_neg h0, if_neg h0]
  by_cases h1 : 16384 < xs.length
  · simp only [h1, if_true]; rfl
  simp only [h1, if_false]
  by_cases h2 : K.toNat = 5 ∨ farB K.toNat S = true
  · simp only [h2, if_true]; rfl
  simp only [h2, if_false]
  by_cases h3 : longB K.toNat F xs.length = true
  · simp only [h3, if_true]
    by_cases h4 : K.toNat = 2
    · simp only [h4, if_true]
      rw [if_neg (by simp), if_pos (by simp [fine]), if_neg (by simp)]
    · simp only [h4, if_false]; rfl
  · simp only [h3, if_false]
    rw [if_neg (by simp [fine]), if_neg (by simp)]
    by_cases h5 : (parseX (innerR K F S xs)).1 = true
    · simp only [if_pos h5, if_false, Bool.false_eq_true]
    · simp only [if_neg h5, if_false, Bool.false_eq_true]
theorem vals_plain (f : Fr) (h8 : f.kd.toNat ≠ 8) (h16 : f.kd.toNat ≠ 16) (hr : f.rk = false) : valuesX f = pairsX f.ps := by
  unfold valuesX valuesI
  have e8 : ((f.kd.toNat : Int) == 8) = false := nat_beq_ne h8
  have e16 : ((f.kd.toNat : Int) == 16) = false := nat_beq_ne h16
  simp only [e8, e16, hr, Bool.false_and, Bool.false_eq_true, if_false]
  by_cases h : pairsX f.ps = fine <;> simp [h]
theorem vals_rank (f : Fr) (h8 : f.kd.toNat ≠ 8) (h16 : f.kd.toNat ≠ 16) (hp : f.ps = []) (hr : f.rk = true) : valuesX f = if (f.dp == f.st) = true then (false, f.st, 1) else fine := by
  unfold valuesX valuesI
  have e8 : ((f.kd.toNat : Int) == 8) = false := nat_beq_ne h8
  have e16 : ((f.kd.toNat : Int) == 16) = false := nat_beq_ne h16
  have ep : pairsX f.ps = fine := by rw [hp]; rfl
  simp only [e8, e16, hr, ep, Bool.false_and, Bool.false_eq_true, if_false, ne_eq, not_true, Bool.true_and]
theorem tkR_go {K F : UInt8} {S : Int} {xs : List UInt8} {d : Fr} {x : Ft} (hl : longB K.toNat F xs.length = false) (hi : innerR K F S xs = (d, true)) (hx : valuesX d = x) : (tkR K F S xs).2 = x ∧ (x.1 = false → (tkR K F S xs).1 = d) := by
  have hp : parseX (d, true) = x := by unfold parseX; rw [if_pos rfl, hx]
  unfold tkR
  rw [if_neg (by simp [hl]), hi, hp]
  by_cases h : x.1 = true
  · rw [if_pos h]
    exact ⟨rfl, fun h' => by rw [h] at h'; cases h'⟩
  · rw [if_neg h]
    exact ⟨rfl, fun _ => rfl⟩
theorem tkR_bad {K F : UInt8} {S : Int} {xs : List UInt8} {d : Fr} (hl : longB K.toNat F xs.length = false) (hi : innerR K F S xs = (d, false)) : (tkR K F S xs).2 = whole 1 := by
  have hp : parseX (d, false) = whole 1 := by unfold parseX; rw [if_neg (by simp)]
  unfold tkR
  rw [if_neg (by simp [hl]), hi, hp]
  rfl
/-- What a reader left, in the words of the whole. -/
theorem tkPost_go {K F : UInt8} {S : Int} {xs : List UInt8} {g : Nat} {w w' : World} {d : Fr} {x : Ft} {A' : Option Addr} {n' c' : Nat} {A3 : Option Addr} {n3 c3 : Nat} (ht : (tkR K F S xs).2 = x ∧ (x.1 = false → (tkR K F S xs).1 = d))
    (hrow : w'.heap[g]? = some (.cells (frc d (.slice A' n' c') (.slice A3 n3 c3)) 30)) (h1 : HandS w' w.heap.size A' n' c' d.da) (h2 : HandP w' w.heap.size A3 n3 c3 d.ps) (h3 : TurnB g w w') : TkPost K F S xs g w (.returned (fv x)) w' :=
  ⟨d, A', n', c', A3, n3, c3, (by rw [ht.1]), (fun h => (ht.2 (by rw [← ht.1]; exact h)).symm), hrow, h1, h2, h3⟩
theorem tkPost_bad {K F : UInt8} {S : Int} {xs : List UInt8} {g : Nat} {w w' : World} {d : Fr} {x : Ft} {A' : Option Addr} {n' c' : Nat} {A3 : Option Addr} {n3 c3 : Nat} (ht : (tkR K F S xs).2 = x) (hx : x.1 = true)
    (hrow : w'.heap[g]? = some (.cells (frc d (.slice A' n' c') (.slice A3 n3 c3)) 30)) (h1 : HandS w' w.heap.size A' n' c' d.da) (h2 : HandP w' w.heap.size A3 n3 c3 d.ps) (h3 : TurnB g w w') : TkPost K F S xs g w (.returned (fv x)) w' :=
  ⟨d, A', n', c', A3, n3, c3, (by rw [ht]), (fun h => by rw [ht, hx] at h; cases h), hrow, h1, h2, h3⟩
section
variable (K F : UInt8) (S : Int) (g : Nat) (A : Option Addr) (n c : Nat) (xs : List UInt8) (w : World) (hE : EnvB w [(A, n, xs)] [] [(g, FZc K F S, 30)]) (hN : A = none → c = 0) (hn : n ≤ 100000) (hnc : n ≤ c)
include hE hN hn hnc
/-- All of it. -/
theorem k_rest (hl : longB K.toNat F xs.length = false) (hk : K.toNat ≠ 0 ∧ K.toNat ≠ 1 ∧ K.toNat ≠ 2 ∧ K.toNat ≠ 3 ∧ K.toNat ≠ 4 ∧ K.toNat ≠ 7 ∧ K.toNat ≠ 8 ∧ K.toNat ≠ 16) :
    Calls Tryz.prog 38 #[.pointer (some ⟨g, 0, none⟩), .slice A n c] w (TkPost K F S xs g w) := by
  refine (p_takeRest K F S 0 0 g A n c xs w hE hN hn hnc).mono ?_
  rintro e w' ⟨A', c', rfl, hrow, hh, ht⟩
  have hi : innerR K F S xs = ({ frZ K F S with da := xs }, true) := by unfold innerR; simp [hk]
  have hv : valuesX { frZ K F S with da := xs } = fine := by rw [vals_plain _ hk.2.2.2.2.2.2.1 hk.2.2.2.2.2.2.2 rfl]; rfl
  exact tkPost_go (tkR_go hl hi hv) hrow hh (HandP.nil_ _ _) ht
theorem k_reset (hl : longB K.toNat F xs.length = false) (hk : K.toNat = 3) (h4 : n = 4) :
    Calls Tryz.prog 66 #[.pointer (some ⟨g, 0, none⟩), .slice A n c] w (TkPost K F S xs g w) := by
  have hx : xs.length = n := (hE.s (A, n, xs) (by simp)).1.1
  refine (p_takeReset K F S g A n c xs w hE hN hn hnc (by omega)).mono ?_
  rintro e w' ⟨rfl, hrow, ht⟩
  have hi : innerR K F S xs = ({ frZ K F S with co := UInt32.ofNat (numN xs xs.length 0) }, true) := by unfold innerR; simp [hk]
  have hv : valuesX { frZ K F S with co := UInt32.ofNat (numN xs xs.length 0) } = fine := by rw [vals_plain _ (show K.toNat ≠ 8 by omega) (show K.toNat ≠ 16 by omega) rfl]; rfl
  refine tkPost_go (A' := none) (n' := 0) (c' := 0) (A3 := none) (n3 := 0) (c3 := 0) (tkR_go hl hi hv) ?_ (HandS.nil_ _ _) (HandP.nil_ _ _) ht
  rw [hrow, hx, ← num_u32]
  rfl
theorem k_window (hl : longB K.toNat F xs.length = false) (hk : K.toNat = 8) (h4 : n = 4) :
    Calls Tryz.prog 73 #[.pointer (some ⟨g, 0, none⟩), .slice A n c] w (TkPost K F S xs g w) := by
  have hx : xs.length = n := (hE.s (A, n, xs) (by simp)).1.1
  have hi : innerR K F S xs = ({ frZ K F S with ic := (ownN xs xs.length 0 : Nat) }, true) := by unfold innerR; simp [hk]
  have e8 : ((K.toNat : Int) == 8) = true := by rw [hk]; rfl
  have hv : valuesX { frZ K F S with ic := (ownN xs xs.length 0 : Nat) } = if (((ownN xs n 0 : Nat) : Int) == 0) = true then (if (S == 0) = true then whole 1 else (false, S, 1)) else fine := by
    unfold valuesX valuesI
    have e16 : ((K.toNat : Int) == 16) = false := nat_beq_ne (show K.toNat ≠ 16 by omega)
    have ep : pairsX (frZ K F S).ps = fine := rfl
    simp only [frZ, hx, e8, e16, ep, Bool.false_and, Bool.true_and, Bool.false_eq_true, if_false, ne_eq]
    cases ((ownN xs n 0 : Nat) : Int) == 0 <;> cases S == 0 <;> simp [pairsX, fine]
  by_cases h0 : (((ownN xs n 0 : Nat) : Int) == 0) = true
  · have h0' : (((ownN xs n 0 : Nat) : Int) != 0) = false := by simpa using h0
    rw [if_pos h0] at hv
    by_cases hS : (S == 0) = true
    · rw [if_pos hS] at hv
      refine (p_takeWindow_W K F S g A n c xs w hE hN hn hnc (by omega) h0' hS).mono ?_
      rintro e w' ⟨rfl, hrow, ht⟩
      refine tkPost_go (x := whole 1) (d := { frZ K F S with ic := (ownN xs xs.length 0 : Nat) }) (A' := none) (n' := 0) (c' := 0) (A3 := none) (n3 := 0) (c3 := 0) (tkR_go hl hi hv) ?_ (HandS.nil_ _ _) (HandP.nil_ _ _) ht
      rw [hrow, hx]
      rfl
    · rw [if_neg hS] at hv
      refine (p_takeWindow_S K F S g A n c xs w hE hN hn hnc (by omega) h0' (by simpa using hS)).mono ?_
      rintro e w' ⟨rfl, hrow, ht⟩
      refine tkPost_go (x := (false, S, 1)) (d := { frZ K F S with ic := (ownN xs xs.length 0 : Nat) }) (A' := none) (n' := 0) (c' := 0) (A3 := none) (n3 := 0) (c3 := 0) (tkR_go hl hi hv) ?_ (HandS.nil_ _ _) (HandP.nil_ _ _) ht
      rw [hrow, hx]
      rfl
  · rw [if_neg h0] at hv
    refine (p_takeWindow_Y K F S g A n c xs w hE hN hn hnc (by omega) (by simpa using h0)).mono ?_
    rintro e w' ⟨rfl, hrow, ht⟩
    refine tkPost_go (x := fine) (d := { frZ K F S with ic := (ownN xs xs.length 0 : Nat) }) (A' := none) (n' := 0) (c' := 0) (A3 := none) (n3 := 0) (c3 := 0) (tkR_go hl hi hv) ?_ (HandS.nil_ _ _) (HandP.nil_ _ _) ht
    rw [hrow, hx]
    rfl
theorem k_away (hl : longB K.toNat F xs.length = false) (hk : K.toNat = 7) (h4 : 8 ≤ n) :
    Calls Tryz.prog 71 #[.pointer (some ⟨g, 0, none⟩), .slice A n c] w (TkPost K F S xs g w) := by
  have hx : xs.length = n := (hE.s (A, n, xs) (by simp)).1.1
  have hi : innerR K F S xs = ({ frZ K F S with la := (ownN xs xs.length 0 : Nat), co := UInt32.ofNat (numN xs xs.length 4), da := xs.drop 8 }, true) := by unfold innerR; simp [hk]
  have hv : valuesX { frZ K F S with la := (ownN xs xs.length 0 : Nat), co := UInt32.ofNat (numN xs xs.length 4), da := xs.drop 8 } = fine := by rw [vals_plain _ (show K.toNat ≠ 8 by omega) (show K.toNat ≠ 16 by omega) rfl]; rfl
  refine (p_takeAway K F S g A n c xs w hE hN hn hnc h4).mono ?_
  rintro e w' ⟨A', c', rfl, hrow, hh, ht⟩
  refine tkPost_go (x := fine) (A' := A') (n' := n - 8) (c' := c') (A3 := none) (n3 := 0) (c3 := 0) (tkR_go hl hi hv) ?_ hh (HandP.nil_ _ _) ht
  rw [hrow, hx, ← num_u32]
  rfl
theorem k_urg (hl : longB K.toNat F xs.length = false) (hk : K.toNat = 16) (h4 : 4 ≤ n) :
    Calls Tryz.prog 75 #[.pointer (some ⟨g, 0, none⟩), .slice A n c] w (TkPost K F S xs g w) := by
  have hx : xs.length = n := (hE.s (A, n, xs) (by simp)).1.1
  have hi : innerR K F S xs = ({ frZ K F S with la := (ownN xs xs.length 0 : Nat), da := xs.drop 4 }, true) := by unfold innerR; simp [hk]
  have e16 : ((K.toNat : Int) == 16) = true := by rw [hk]; rfl
  have hv : valuesX { frZ K F S with la := (ownN xs xs.length 0 : Nat), da := xs.drop 4 } = if (((ownN xs n 0 : Nat) : Int) == 0) = true then whole 1 else fine := by
    unfold valuesX valuesI
    have e8 : ((K.toNat : Int) == 8) = false := nat_beq_ne (show K.toNat ≠ 8 by omega)
    simp only [frZ, hx, e8, e16, Bool.false_and, Bool.true_and, Bool.false_eq_true, if_false, ne_eq]
    cases ((ownN xs n 0 : Nat) : Int) == 0 <;> simp [pairsX, fine]
  by_cases h0 : (((ownN xs n 0 : Nat) : Int) == 0) = true
  · rw [if_pos h0] at hv
    refine (p_takeUrg0 K F S g A n c xs w hE hN hn hnc h4 h0).mono ?_
    rintro e w' ⟨rfl, hrow, ht⟩
    refine tkPost_bad (x := whole 1) (d := { frZ K F S with la := (ownN xs xs.length 0 : Nat) }) (A' := none) (n' := 0) (c' := 0) (A3 := none) (n3 := 0) (c3 := 0) (tkR_go hl hi hv).1 rfl ?_ (HandS.nil_ _ _) (HandP.nil_ _ _) ht
    rw [hrow, hx]
    rfl
  · rw [if_neg h0] at hv
    refine (p_takeUrg K F S g A n c xs w hE hN hn hnc h4 (by simpa using h0)).mono ?_
    rintro e w' ⟨A', c', rfl, hrow, hh, ht⟩
    refine tkPost_go (x := fine) (A' := A') (n' := n - 4) (c' := c') (A3 := none) (n3 := 0) (c3 := 0) (tkR_go hl hi hv) ?_ hh (HandP.nil_ _ _) ht
    rw [hrow, hx]
    rfl
end
end Go.Proofs.YtbflhphjnmhjhaaGreat
/- What the program's readers of payloads answer: settings, data, headers, priorities. -/
namespace Go.Proofs.YtbflhphjnmhjhaaGreat
open Go.RowKit Oct Fi Fm
set_option linter.unusedVariables false
set_option linter.unusedSimpArgs false
namespace Fm
def dX (F : UInt8) (xs : List UInt8) : Ft := if hasB (F.toNat : Int) 8 = true then (if UnIn xs xs.length then fine else if xs.length = 0 then whole 6 else whole 1) else fine
def dD (F : UInt8) (xs : List UInt8) : List UInt8 := if hasB (F.toNat : Int) 8 = true then unV xs xs.length else xs
def dP (F : UInt8) (xs : List UInt8) : Int := if hasB (F.toNat : Int) 8 = true then unN xs xs.length else 0
end Fm
theorem HandS.len {w : World} {B : Nat} {A : Option Addr} {n c : Nat} {xs : List UInt8} (h : HandS w B A n c xs) : n = xs.length := h.1.1.symm
theorem pairsX_ways (l : List Pr) : pairsX l = fine ∨ (pairsX l).1 = true := by
  unfold pairsX
  split
  · rename_i p hp
    rcases setX_ways p with h | h | h
    · exact .inl h
    · exact .inr (by rw [h]; rfl)
    · exact .inr (by rw [h]; rfl)
  · exact .inl rfl
section
variable (K F : UInt8) (S : Int) (g : Nat) (A : Option Addr) (n c : Nat) (xs : List UInt8) (w : World) (hE : EnvB w [(A, n, xs)] [] [(g, FZc K F S, 30)]) (hN : A = none → c = 0) (hn : n ≤ 100000) (hnc : n ≤ c)
include hE hN hn hnc
theorem k_settings (hk : K.toNat = 4) :
    Calls Tryz.prog 68 #[.pointer (some ⟨g, 0, none⟩), .slice A n c] w (TkPost K F S xs g w) := by
  have hx : xs.length = n := (hE.s (A, n, xs) (by simp)).1.1
  have HTP : Hid (∀ w0, Bs w0 w0.heap.size A n xs → Calls Tryz.prog 92 #[.slice A n c] w0 fun e w' => ∃ v, e = .returned (.tuple #[v, .int .i64 (tpE n)]) ∧ OwnP w' w0.heap.size 79 v (tpV xs n) ∧ Below w0.heap.size w0 w') := Lib.hid (fun w0 h => ftp_tot A n c xs w0 h (by omega) hnc)
  have hml : (tpV xs n).length ≤ 100000 := by
    unfold tpV; split
    · simp; omega
    · simp
  by_cases h6 : n % 6 = 0
  · have hte : (tpE n != 0) = false := by unfold tpE; rw [if_pos h6]; rfl
    have hmn : (tpV xs n).length = n / 6 := by unfold tpV; rw [if_pos h6]; simp
    by_cases hm : (tpV xs n).length = 0
    · have hn0 : n = 0 := by omega
      have hl : longB K.toNat F xs.length = false := by unfold longB; simp [hk, hx, hn0]
      have hi : innerR K F S xs = ({ frZ K F S with ps := tpV xs xs.length }, true) := by unfold innerR; simp [hk]
      have hv : valuesX { frZ K F S with ps := tpV xs xs.length } = pairsX (tpV xs n) := by rw [vals_plain _ (show K.toNat ≠ 8 by omega) (show K.toNat ≠ 16 by omega) rfl, hx]
      have ht := tkR_go hl hi hv
      refine (p_takeSettings_0 K F S g A n c xs w hE hN hn hnc _ _ _ rfl hml HTP hte (by omega)).mono ?_
      rintro e w' ⟨A', m', c', l', rfl, hll, hrow, hp, htb⟩
      refine ⟨{ frZ K F S with ps := l' }, none, 0, 0, A', m', c', by rw [ht.1], fun h => ?_, hrow, HandS.nil_ _ _, hp, htb⟩
      rw [ht.2 (by rw [← ht.1]; exact h), hx]
      rw [ht.1] at h
      rcases pairsX_ways (tpV xs n) with h' | h'
      · rw [hll h']
      · rw [h'] at h; cases h
    · have hp1 := fun w0 => p_has (a := none) (p := none) (n := 0) (c := 0) (m := 0) (d := 0) (pd := 0) (la := 0) (ic := 0) (co := 0) (dp := 0) (wt := 0) (rk := false) (al := false) (K.toNat : Int) S 1 F w0
      by_cases hb : hasB (F.toNat : Int) 1 = true
      · have hl : longB K.toNat F xs.length = true := by
          unfold longB
          simp only [hk, hx]
          simp [hb]
          omega
        have ht : (tkR K F S xs).2 = whole 6 := by unfold tkR; rw [if_pos hl, if_neg (by omega)]
        refine (p_takeSettings_A K F S g A n c xs w hE hN hn hnc _ _ _ rfl hml HTP hte (by omega) _ hb (Lib.hid hp1)).mono ?_
        rintro e w' ⟨rfl, hrow, htb⟩
        exact tkPost_bad (d := frZ K F S) ht rfl hrow (HandS.nil_ _ _) (HandP.nil_ _ _) htb
      · have hl : longB K.toNat F xs.length = false := by
          unfold longB
          simp only [hk, hx]
          simp [hb, h6]
        have hi : innerR K F S xs = ({ frZ K F S with ps := tpV xs xs.length }, true) := by unfold innerR; simp [hk]
        have hv : valuesX { frZ K F S with ps := tpV xs xs.length } = pairsX (tpV xs n) := by rw [vals_plain _ (show K.toNat ≠ 8 by omega) (show K.toNat ≠ 16 by omega) rfl, hx]
        have ht := tkR_go hl hi hv
        refine (p_takeSettings_L K F S g A n c xs w hE hN hn hnc _ _ _ rfl hml HTP hte (by omega) _ (by simpa using hb) (Lib.hid hp1)).mono ?_
        rintro e w' ⟨A', m', c', l', rfl, hll, hrow, hp, htb⟩
        refine ⟨{ frZ K F S with ps := l' }, none, 0, 0, A', m', c', by rw [ht.1], fun h => ?_, hrow, HandS.nil_ _ _, hp, htb⟩
        rw [ht.2 (by rw [← ht.1]; exact h), hx]
        rw [ht.1] at h
        rcases pairsX_ways (tpV xs n) with h' | h'
        · rw [hll h']
        · rw [h'] at h; cases h
  · have hl : longB K.toNat F xs.length = true := by
      unfold longB
      simp only [hk, hx]
      simp [h6]
    have ht : (tkR K F S xs).2 = whole 6 := by unfold tkR; rw [if_pos hl, if_neg (by omega)]
    refine (p_takeSettings_S K F S g A n c xs w hE hN hn hnc _ _ _ rfl hml HTP (by unfold tpE; rw [if_neg h6]; rfl)).mono ?_
    rintro e w' ⟨rfl, hrow, htb⟩
    exact tkPost_bad (d := frZ K F S) ht rfl hrow (HandS.nil_ _ _) (HandP.nil_ _ _) htb
/-- Data, padded or not. -/
theorem d_all :
    Calls Tryz.prog 59 #[.pointer (some ⟨g, 0, none⟩), .slice A n c] w fun e w' => ∃ A' c', e = .returned (fv (dX F xs)) ∧
      w'.heap[g]? = some (.cells (fr13 K.toNat F.toNat S A' (dD F xs).length c' (dP F xs) 0 0 0 none 0 0 false false 0 0) 30) ∧
      HandS w' w.heap.size A' (dD F xs).length c' (dD F xs) ∧ TurnB g w w' := by
  have hx : xs.length = n := (hE.s (A, n, xs) (by simp)).1.1
  have hp1 := fun w0 => p_has (a := none) (p := none) (n := 0) (c := 0) (m := 0) (d := 0) (pd := 0) (la := 0) (ic := 0) (co := 0) (dp := 0) (wt := 0) (rk := false) (al := false) (K.toNat : Int) S 8 F w0
  unfold dX dD dP
  by_cases hb : hasB (F.toNat : Int) 8 = true
  · rw [if_pos hb, if_pos hb, if_pos hb, hx]
    have HU : Hid (∀ w0, Bs w0 w0.heap.size A n xs → Calls Tryz.prog 84 #[.slice A n c] w0 fun e w' => ∃ v, e = .returned (.tuple #[v, .int .i64 (unN xs n), .int .i64 (unE xs n)]) ∧ OwnB w' w0.heap.size 5 v (unV xs n) ∧ Below w0.heap.size w0 w') := Lib.hid (fun w0 h => unpad_tot A n c xs w0 h (by omega) hnc)
    rw [hb] at hp1
    by_cases hu : UnIn xs n
    · rw [if_pos hu]
      refine (p_takeData_Y K F S g A n c xs w hE hN hn hnc (Lib.hid hp1) _ _ _ _ rfl HU (by unfold unE; rw [if_pos hu]; rfl) (by unfold unE; rw [if_pos hu]; rfl)).mono ?_
      rintro e w' ⟨A', n', c', rfl, hrow, hh, ht⟩
      obtain rfl := hh.len
      exact ⟨A', c', rfl, hrow, hh, ht⟩
    · rw [if_neg hu]
      have hv : unV xs n = [] := by unfold unV; rw [if_neg hu]
      have hN0 : unN xs n = 0 := by unfold unN; rw [if_neg hu]
      by_cases h0 : n = 0
      · rw [if_pos h0]
        refine (p_takeData_S K F S g A n c xs w hE hN hn hnc (Lib.hid hp1) _ _ _ _ rfl HU (by unfold unE; rw [if_neg hu, if_pos h0]; rfl)).mono ?_
        rintro e w' ⟨A', n', c', rfl, hrow, hh, ht⟩
        obtain rfl := hh.len
        rw [hv, hN0]
        exact ⟨A', c', rfl, hrow, hh, ht⟩
      · rw [if_neg h0]
        refine (p_takeData_M K F S g A n c xs w hE hN hn hnc (Lib.hid hp1) _ _ _ _ rfl HU (by unfold unE; rw [if_neg hu, if_neg h0]; rfl) (by unfold unE; rw [if_neg hu, if_neg h0]; rfl)).mono ?_
        rintro e w' ⟨A', n', c', rfl, hrow, hh, ht⟩
        obtain rfl := hh.len
        rw [hv, hN0]
        exact ⟨A', c', rfl, hrow, hh, ht⟩
  · rw [if_neg hb, if_neg hb, if_neg hb]
    rw [show hasB (F.toNat : Int) 8 = false by simpa using hb] at hp1
    refine (p_takeData_N K F S g A n c xs w hE hN hn hnc (Lib.hid hp1)).mono ?_
    rintro e w' ⟨A', n', c', rfl, hrow, hh, ht⟩
    obtain rfl := hh.len
    exact ⟨A', c', rfl, hrow, hh, ht⟩
end
theorem dX_ways (F : UInt8) (xs : List UInt8) : (dX F xs = fine ∧ ∀ K S, data1 K F S xs = ({ frZ K F S with da := dD F xs, pd := dP F xs }, true)) ∨ (dX F xs = whole 6 ∧ xs.length < padN F) ∨ (dX F xs = whole 1 ∧ ¬ xs.length < padN F ∧ ∀ K S, (data1 K F S xs).2 = false) := by
  unfold dX data1 dD dP padN
  by_cases hb : hasB (F.toNat : Int) 8 = true
  · simp only [hb, if_true]
    by_cases hu : UnIn xs xs.length
    · simp only [hu, if_true]
      exact .inl ⟨trivial, fun _ _ => trivial⟩
    · simp only [hu, if_false]
      by_cases h0 : xs.length = 0
      · simp only [h0, if_true]
        exact .inr (.inl ⟨trivial, by omega⟩)
      · simp only [h0, if_false]
        exact .inr (.inr ⟨trivial, by omega, fun _ _ => trivial⟩)
  · simp only [hb, if_false]
    exact .inl ⟨rfl, fun _ _ => rfl⟩
section
variable (K F : UInt8) (S : Int) (g : Nat) (A : Option Addr) (n c : Nat) (xs : List UInt8) (w : World) (hE : EnvB w [(A, n, xs)] [] [(g, FZc K F S, 30)]) (hN : A = none → c = 0) (hn : n ≤ 100000) (hnc : n ≤ c)
include hE hN hn hnc
theorem k_data (hk : K.toNat = 0) :
    Calls Tryz.prog 59 #[.pointer (some ⟨g, 0, none⟩), .slice A n c] w (TkPost K F S xs g w) := by
  refine (d_all K F S g A n c xs w hE hN hn hnc).mono ?_
  rintro e w' ⟨A', c', rfl, hrow, hh, htb⟩
  have hL : longB K.toNat F xs.length = decide (xs.length < padN F) := by unfold longB; rw [hk]; rfl
  have hI : innerR K F S xs = dataR K F S xs := by unfold innerR; rw [if_pos (Or.inl hk)]
  have hrow' : w'.heap[g]? = some (.cells (frc { frZ K F S with da := dD F xs, pd := dP F xs } (.slice A' (dD F xs).length c') (.slice none 0 0)) 30) := hrow
  rcases dX_ways F xs with ⟨h1, h2⟩ | ⟨h1, h2⟩ | ⟨h1, h2, h3⟩
  · rw [h1]
    have hi : innerR K F S xs = ({ frZ K F S with da := dD F xs, pd := dP F xs }, true) := by
      rw [hI]; unfold dataR; rw [h2]; simp [hk]
    have hlo : longB K.toNat F xs.length = false := by
      rw [hL]
      simp only [decide_eq_false_iff_not]
      intro hlt
      have := h2 K S
      unfold dX padN at *
      by_cases hb : hasB (F.toNat : Int) 8 = true
      · rw [if_pos hb] at h1 hlt
        have h0 : xs.length = 0 := by omega
        rw [if_neg (by unfold UnIn; omega), if_pos h0] at h1
        cases h1
      · rw [if_neg hb] at hlt
        omega
    exact tkPost_go (tkR_go hlo hi (by rw [vals_plain _ (show K.toNat ≠ 8 by omega) (show K.toNat ≠ 16 by omega) rfl]; rfl)) hrow' hh (HandP.nil_ _ _) htb
  · rw [h1]
    refine tkPost_bad ?_ rfl hrow' hh (HandP.nil_ _ _) htb
    unfold tkR
    rw [if_pos (by rw [hL]; simpa using h2), if_neg (by omega)]
  · rw [h1]
    refine tkPost_bad (tkR_bad (d := (innerR K F S xs).1) (by rw [hL]; simpa using h2) ?_) rfl hrow' hh (HandP.nil_ _ _) htb
    rw [hI]
    unfold dataR
    rw [if_neg (by rw [h3]; simp)]
end
end Go.Proofs.YtbflhphjnmhjhaaGreat
/- What the program's readers of payloads answer: ranks, headers, priorities. -/
namespace Go.Proofs.YtbflhphjnmhjhaaGreat
open Go.RowKit Oct Fi Fm
set_option linter.unusedVariables false
set_option linter.unusedSimpArgs false
namespace Fm
def rX (S : Int) (xs : List UInt8) : Ft := if (trD xs xs.length == S) = true then (false, S, 1) else fine
end Fm
theorem r_few (K F : UInt8) (S pd : Int) (a0 : Option Addr) (n0 c0 : Nat) (g : Nat) (A : Option Addr) (n c : Nat) (xs : List UInt8) (w : World) (hE : EnvB w [(A, n, xs)] [] [(g, (fr13 K.toNat F.toNat S a0 n0 c0 pd 0 0 0 none 0 0 false false 0 0), 30)]) (hN : A = none → c = 0) (hn : n ≤ 100000) (hnc : n ≤ c) (h5 : ¬ 5 ≤ n) :
    Calls Tryz.prog 87 #[.pointer (some ⟨g, 0, none⟩), .slice A n c] w fun e w' => e = .returned (fv (whole 1)) ∧
      w'.heap[g]? = some (.cells (fr13 K.toNat F.toNat S a0 n0 c0 pd 0 0 0 none 0 0 false false 0 0) 30) ∧ TurnB g w w' :=
  p_takeRank_N K F S pd a0 n0 c0 g A n c xs w hE hN hn hnc _ _ _ _ _ _ rfl (Lib.hid (fun w0 h => ftrank_tot A n c xs w0 h (by omega) hnc)) (by unfold trE; rw [if_neg h5]; rfl)
theorem r_all (K F : UInt8) (S pd : Int) (a0 : Option Addr) (n0 c0 : Nat) (g : Nat) (A : Option Addr) (n c : Nat) (xs : List UInt8) (w : World) (hE : EnvB w [(A, n, xs)] [] [(g, (fr13 K.toNat F.toNat S a0 n0 c0 pd 0 0 0 none 0 0 false false 0 0), 30)]) (hN : A = none → c = 0) (hn : n ≤ 100000) (hnc : n ≤ c) (h5 : 5 ≤ n) :
    Calls Tryz.prog 87 #[.pointer (some ⟨g, 0, none⟩), .slice A n c] w fun e w' => ∃ A' c', e = .returned (fv (rX S xs)) ∧
      w'.heap[g]? = some (.cells (fr13 K.toNat F.toNat S A' (trR xs n).length c' pd 0 0 0 none 0 0 true (trA xs n) (trD xs n) (trW xs n)) 30) ∧ HandS w' w.heap.size A' (trR xs n).length c' (trR xs n) ∧ TurnB g w w' := by
  have hx : xs.length = n := (hE.s (A, n, xs) (by simp)).1.1
  have hre : (trE n != 0) = false := by unfold trE; rw [if_pos h5]; rfl
  unfold rX
  rw [hx]
  by_cases hd : (trD xs n == S) = true
  · rw [if_pos hd]
    exact p_takeRank_S K F S pd a0 n0 c0 g A n c xs w hE hN hn hnc _ _ _ _ _ _ rfl (Lib.hid (fun w0 h => ftrank_tot A n c xs w0 h (by omega) hnc)) hre hd
  · rw [if_neg hd]
    exact p_takeRank_Y K F S pd a0 n0 c0 g A n c xs w hE hN hn hnc _ _ _ _ _ _ rfl (Lib.hid (fun w0 h => ftrank_tot A n c xs w0 h (by omega) hnc)) hre (by simpa using hd)
theorem trW_at (xs : List UInt8) (h5 : 5 ≤ xs.length) : trW xs xs.length = (((xs[4]?.getD 0).toNat : Nat) : Int) := by unfold trW; rw [if_pos h5]
theorem unV_short (xs : List UInt8) (n : Nat) : (unV xs n).length ≤ xs.length := by
  unfold unV
  split
  · simp; omega
  · simp
section
variable (K F : UInt8) (S : Int) (g : Nat) (A : Option Addr) (n c : Nat) (xs : List UInt8) (w : World) (hE : EnvB w [(A, n, xs)] [] [(g, FZc K F S, 30)]) (hN : A = none → c = 0) (hn : n ≤ 100000) (hnc : n ≤ c)
include hE hN hn hnc
theorem k_headers (hk : K.toNat = 1) :
    Calls Tryz.prog 61 #[.pointer (some ⟨g, 0, none⟩), .slice A n c] w (TkPost K F S xs g w) := by
  have hx : xs.length = n := (hE.s (A, n, xs) (by simp)).1.1
  have hle := fun w0 => p_least (a := none) (p := none) (n := 0) (c := 0) (m := 0) (d := 0) (pd := 0) (la := 0) (ic := 0) (co := 0) (dp := 0) (wt := 0) (rk := false) (al := false) (K.toNat : Int) S F w0
  have hL : longB K.toNat F xs.length = decide (xs.length < padN F + rankN F) := by unfold longB; rw [hk]; rfl
  have hI : innerR K F S xs = dataR K F S xs := by unfold innerR; rw [if_pos (Or.inr hk)]
  by_cases hlt : n < padN F + rankN F
  · refine (p_takeHeaders_0 K F S g A n c xs w hE hN hn hnc _ (Lib.hid hle) (by omega)).mono ?_
    rintro e w' ⟨rfl, hrow, htb⟩
    refine tkPost_bad (d := frZ K F S) (x := whole 6) ?_ rfl hrow (HandS.nil_ _ _) (HandP.nil_ _ _) htb
    unfold tkR
    rw [if_pos (by rw [hL, hx]; simpa using hlt), if_neg (by omega)]
  · have hlo : longB K.toNat F xs.length = false := by rw [hL, hx]; simpa using hlt
    have hd := fun (w0 : World) (h : EnvB w0 [(A, n, xs)] [] [(g, FZc K F S, 30)]) => d_all K F S g A n c xs w0 h hN hn hnc
    have hhas := fun (a1 : Option Addr) (c1 : Nat) (w0 : World) => p_has (a := a1) (p := none) (n := (dD F xs).length) (c := c1) (m := 0) (d := 0) (pd := dP F xs) (la := 0) (ic := 0) (co := 0) (dp := 0) (wt := 0) (rk := false) (al := false) (K.toNat : Int) S 32 F w0
    have hdl : (dD F xs).length ≤ 100000 := by
      unfold dD
      split
      · have := unV_short xs xs.length; omega
      · omega
    rcases dX_ways F xs with ⟨h1, h2⟩ | ⟨h1, h2⟩ | ⟨h1, h2, h3⟩
    · have h2' := h2 K S
      by_cases hb : hasB (F.toNat : Int) 32 = true
      · rw [hb] at hhas
        by_cases h5 : 5 ≤ (dD F xs).length
        · refine (p_takeHeaders_R K F S g A n c xs w hE hN hn hnc _ (Lib.hid hle) (by omega) (dP F xs) (dD F xs).length (dD F xs) (dX F xs).1 (dX F xs).2.1 (dX F xs).2.2 (by rw [h1]; rfl) (Lib.hid hd) (Lib.hid hhas) _ _ _ _ _ _ _ _ _
            (Lib.hid (fun A1 c1 w0 h6 h7 h8 => r_all K F S (dP F xs) A1 (dD F xs).length c1 g A1 _ c1 (dD F xs) w0 h8 h7 hdl h6 h5))).mono ?_
          rintro e w' ⟨A', c', rfl, hrow, hh, htb⟩
          have hi : innerR K F S xs = ({ frZ K F S with da := trR (dD F xs) (dD F xs).length, pd := dP F xs, rk := true, al := trA (dD F xs) (dD F xs).length, dp := trD (dD F xs) (dD F xs).length, wt := (dD F xs)[4]?.getD 0 }, true) := by
            rw [hI]; unfold dataR; rw [h2']; simp only [if_true, hk, hb, and_self]; unfold rank1; simp only [h5, if_true]
          rw [trW_at _ h5] at hrow
          refine tkPost_go (x := rX S (dD F xs)) (tkR_go hlo hi ?_) hrow hh (HandP.nil_ _ _) htb
          rw [vals_rank _ (show K.toNat ≠ 8 by omega) (show K.toNat ≠ 16 by omega) rfl rfl]
          rfl
        · refine (p_takeHeaders_B K F S g A n c xs w hE hN hn hnc _ (Lib.hid hle) (by omega) (dP F xs) (dD F xs).length (dD F xs) (dX F xs).1 (dX F xs).2.1 (dX F xs).2.2 (by rw [h1]; rfl) (Lib.hid hd) (Lib.hid hhas)
            (Lib.hid (fun A1 c1 w0 h6 h7 h8 => r_few K F S (dP F xs) A1 (dD F xs).length c1 g A1 _ c1 (dD F xs) w0 h8 h7 hdl h6 h5))).mono ?_
          rintro e w' ⟨A', c', rfl, hrow, hh, htb⟩
          have hrow' : w'.heap[g]? = some (.cells (frc { frZ K F S with da := dD F xs, pd := dP F xs } (.slice A' (dD F xs).length c') (.slice none 0 0)) 30) := hrow
          refine tkPost_bad (x := whole 1) (tkR_bad (d := (innerR K F S xs).1) hlo ?_) rfl hrow' hh (HandP.nil_ _ _) htb
          rw [hI]; unfold dataR; rw [h2']; simp only [if_true, hk, hb, and_self]; unfold rank1; simp only [h5, if_false]
      · rw [show hasB (F.toNat : Int) 32 = false by simpa using hb] at hhas
        refine (p_takeHeaders_N K F S g A n c xs w hE hN hn hnc _ (Lib.hid hle) (by omega) (dP F xs) (dD F xs).length (dD F xs) (dX F xs).1 (dX F xs).2.1 (dX F xs).2.2 (by rw [h1]; rfl) (Lib.hid hd) (Lib.hid hhas)).mono ?_
        rintro e w' ⟨A', c', rfl, hrow, hh, htb⟩
        have hrow' : w'.heap[g]? = some (.cells (frc { frZ K F S with da := dD F xs, pd := dP F xs } (.slice A' (dD F xs).length c') (.slice none 0 0)) 30) := hrow
        have hi : innerR K F S xs = ({ frZ K F S with da := dD F xs, pd := dP F xs }, true) := by
          rw [hI]; unfold dataR; rw [h2']; simp [hb]
        rw [h1]
        exact tkPost_go (x := fine) (tkR_go hlo hi (by rw [vals_plain _ (show K.toNat ≠ 8 by omega) (show K.toNat ≠ 16 by omega) rfl]; rfl)) hrow' hh (HandP.nil_ _ _) htb
    · omega
    · refine (p_takeHeaders_W K F S g A n c xs w hE hN hn hnc _ (Lib.hid hle) (by omega) (dP F xs) (dD F xs).length (dD F xs) (dX F xs).1 (dX F xs).2.1 (dX F xs).2.2 (by rw [h1]; rfl) (Lib.hid hd)).mono ?_
      rintro e w' ⟨A', c', rfl, hrow, hh, htb⟩
      have hrow' : w'.heap[g]? = some (.cells (frc { frZ K F S with da := dD F xs, pd := dP F xs } (.slice A' (dD F xs).length c') (.slice none 0 0)) 30) := hrow
      rw [h1]
      refine tkPost_bad (x := whole 1) (tkR_bad (d := (innerR K F S xs).1) hlo ?_) rfl hrow' hh (HandP.nil_ _ _) htb
      rw [hI]
      unfold dataR
      rw [if_neg (by rw [h3]; simp)]
theorem k_priority (hk : K.toNat = 2) :
    Calls Tryz.prog 63 #[.pointer (some ⟨g, 0, none⟩), .slice A n c] w (TkPost K F S xs g w) := by
  have hx : xs.length = n := (hE.s (A, n, xs) (by simp)).1.1
  by_cases h5 : n = 5
  · have hlo : longB K.toNat F xs.length = false := by unfold longB; simp [hk, hx, h5]
    refine (p_takePriority_R K F S g A n c xs w hE hN hn hnc (by simp; omega) _ _ _ _ _ _ _ _ _ (Lib.hid (fun w0 h8 => r_all K F S 0 none 0 0 g A n c xs w0 h8 hN hn hnc (by omega)))).mono ?_
    rintro e w' ⟨A', c', rfl, hrow, hh, htb⟩
    have hi : innerR K F S xs = ({ frZ K F S with rk := true, al := trA xs xs.length, dp := trD xs xs.length, wt := xs[4]?.getD 0 }, true) := by
      unfold innerR
      simp [hk, hx, h5]
    have hr0 : trR xs n = [] := by unfold trR; rw [if_pos (by omega)]; exact List.drop_eq_nil_of_le (by omega)
    have hw := trW_at xs (by omega)
    rw [hx] at hw
    rw [hw] at hrow
    rw [hr0] at hrow hh
    rw [← hx] at hrow
    refine tkPost_go (x := rX S xs) (tkR_go hlo hi ?_) hrow hh (HandP.nil_ _ _) htb
    rw [vals_rank _ (show K.toNat ≠ 8 by omega) (show K.toNat ≠ 16 by omega) rfl rfl]
    rfl
  · have hlo : longB K.toNat F xs.length = true := by unfold longB; simp [hk, hx, h5]
    refine (p_takePriority_0 K F S g A n c xs w hE hN hn hnc (by simp; omega)).mono ?_
    rintro e w' ⟨rfl, hrow, htb⟩
    have ht : tkR K F S xs = (frZ K F S, (false, S, 6)) := by unfold tkR; rw [if_pos hlo, if_pos hk]
    exact tkPost_go (x := (false, S, 6)) (d := frZ K F S) ⟨by rw [ht], fun _ => by rw [ht]⟩ hrow (HandS.nil_ _ _) (HandP.nil_ _ _) htb
end
end Go.Proofs.YtbflhphjnmhjhaaGreat
/- The program's closures: lengths of payloads, and of which streams frames may be; the map of shapes. -/
namespace Go.Proofs.YtbflhphjnmhjhaaGreat
open Go.RowKit Oct Fi Fm
set_option linter.unusedVariables false
set_option linter.unusedSimpArgs false
theorem of_one (S : Int) (w : World) : Calls Tryz.prog 56 #[.int .i64 S] w fun e w' => e = .returned (.bool (S != 0)) ∧ w = w' := by
  go_enter Tryz.func56, Tryz.ntmps56
  go_wp2
  go_ret
  exact ⟨rfl, rfl⟩
theorem of_all (S : Int) (w : World) : Calls Tryz.prog 57 #[.int .i64 S] w fun e w' => e = .returned (.bool (S == 0)) ∧ w = w' := by
  go_enter Tryz.func57, Tryz.ntmps57
  go_wp2
  go_ret
  exact ⟨rfl, rfl⟩
theorem of_none (S : Int) (w : World) : Calls Tryz.prog 58 #[.int .i64 S] w fun e w' => e = .returned (.bool false) ∧ w = w' := by
  go_enter Tryz.func58, Tryz.ntmps58
  go_wp2
  go_ret
  exact ⟨rfl, rfl⟩
theorem of_any (S : Int) (w : World) : Calls Tryz.prog 37 #[.int .i64 S] w fun e w' => e = .returned (.bool true) ∧ w = w' := by
  go_enter Tryz.func37, Tryz.ntmps37
  go_wp2
  go_ret
  exact ⟨rfl, rfl⟩
theorem mk_exactly (N : Int) (v : Value) (hv : v.oneCell' = true) (w : World) : Calls Tryz.prog 65 #[.int .i64 N, v] w fun e w' => e = .returned (.func (.func 89) #[] #[.pointer (some ⟨w.heap.size, 0, none⟩), .pointer (some ⟨w.heap.size + 1, 0, none⟩)]) ∧ (w.alloc (.cells #[.int .i64 N] 3)).alloc (.cells #[v] 47) = w' := by
  have hmf : ∀ (fn : Fn) (first cap : Array Value) (w : World), (Instr.makeFunc fn first cap).run Tryz.prog w = .ok (.func fn first cap) w := fun _ _ _ _ => rfl
  go_enter Tryz.func65, Tryz.ntmps65
  go_wp2
  go_ret
  exact ⟨by simp, rfl⟩
theorem mk_atLeast (N : Int) (v : Value) (hv : v.oneCell' = true) (w : World) : Calls Tryz.prog 70 #[.int .i64 N, v] w fun e w' => e = .returned (.func (.func 95) #[] #[.pointer (some ⟨w.heap.size, 0, none⟩), .pointer (some ⟨w.heap.size + 1, 0, none⟩)]) ∧ (w.alloc (.cells #[.int .i64 N] 3)).alloc (.cells #[v] 47) = w' := by
  have hmf : ∀ (fn : Fn) (first cap : Array Value) (w : World), (Instr.makeFunc fn first cap).run Tryz.prog w = .ok (.func fn first cap) w := fun _ _ _ _ => rfl
  go_enter Tryz.func70, Tryz.ntmps70
  go_wp2
  go_ret
  exact ⟨by simp, rfl⟩
/-- TkPost, with the value apart. -/
def TkVal (K F : UInt8) (S : Int) (xs : List UInt8) (g : Nat) (w : World) (v : Value) (w' : World) : Prop :=
  ∃ d A' n' c' A3 n3 c3, v = fv (tkR K F S xs).2 ∧ ((tkR K F S xs).2.1 = false → d = (tkR K F S xs).1) ∧ w'.heap[g]? = some (.cells (frc d (.slice A' n' c') (.slice A3 n3 c3)) 30) ∧ HandS w' w.heap.size A' n' c' d.da ∧ HandP w' w.heap.size A3 n3 c3 d.ps ∧ TurnB g w w'
theorem tkPost_ret {K F : UInt8} {S : Int} {xs : List UInt8} {g : Nat} {w w' : World} {e : Ending} (h : TkPost K F S xs g w e w') : ∃ v, e = .returned v ∧ TkVal K F S xs g w v w' := by
  obtain ⟨d, A', n', c', A3, n3, c3, rfl, h⟩ := h
  exact ⟨_, rfl, d, A', n', c', A3, n3, c3, rfl, h⟩
set_option maxRecDepth 100000 in
set_option maxHeartbeats 4000000 in
theorem x_exactly_no (N : Nat) (J0 : FuncId) (K F : UInt8) (S : Int) (g p q : Nat) (A : Option Addr) (n c : Nat) (xs : List UInt8) (w : World) (hE : EnvB w [(A, n, xs)] [] [(g, (hF0 K.toNat F.toNat S), 30), (p, #[.int .i64 (N : Int)], 3), (q, #[.func (.func J0) #[] #[]], 47)]) (hN : A = none → c = 0) (hn : n ≤ 100000) (hnc : n ≤ c) (hlen : ((n : Int) != (N : Int)) = true) (ht : (tkR K F S xs).2 = whole 6) :
    Calls Tryz.prog 89 #[.pointer (some ⟨g, 0, none⟩), .slice A n c, .pointer (some ⟨p, 0, none⟩), .pointer (some ⟨q, 0, none⟩)] w (TkPost K F S xs g w) := by
  have hl : xs.length = n := (hE.s (A, n, xs) (by simp)).1.1
  have hgw : g < w.heap.size := hE.lt (y := (g, (hF0 K.toNat F.toNat S), 30)) (by simp)
  have K0 : Hid (EnvB (w.alloc (.cells #[.bool false, .int .i64 0, .int .u32 0] 34)) [(A, n, xs)] [] [(w.heap.size, #[.bool false, .int .i64 0, .int .u32 0], 34), (g, (hF0 K.toNat F.toNat S), 30), (p, #[.int .i64 (N : Int)], 3), (q, #[.func (.func J0) #[] #[]], 47)]) := Lib.hid (hE.box 34 #[.bool false, .int .i64 0, .int .u32 0])
  have B0 : Hid (TurnB g w (w.alloc (.cells #[.bool false, .int .i64 0, .int .u32 0] 34))) := Lib.hid ((TurnB.refl g w).al _)
  clear hE hN hl
  go_enter Tryz.func89, Tryz.ntmps89
  go_wp2_with (first
    | (refine at_load 3 (.tmp 2) (by rfl) ?_; refine wpList_get (by rfl) 3 (.tmp 2) (by rfl) (p) 0 (by rfl) 3 _ (.int .i64 (N : Int)) _ (K0.out.row 2 rfl) (by rfl) Tryz.underlying3 (by rfl) ?_)
    | (go_at_call 16; (with_reducible refine (p_whole _ _).mono ?_); rintro e w1 ⟨rfl, hb⟩; have K1 := Lib.hid (K0.out.on hb); have B1 : Hid (TurnB g w w1) := Lib.hid (B0.out.callB hb); clear hb K0 B0)
    | (refine at_store 34 (.tmp 6) (.tmp 11) (by rfl) ?_; refine wpList_put (by rfl) 34 (.tmp 6) (.tmp 11) (by rfl) (w.heap.size) 0 (.agg #[.bool true, .int .i64 0, .int .u32 6]) (by rfl) (by rfl) 34 _ #[.bool true, .int .i64 0, .int .u32 6] (K1.out.row 0 rfl) (by simp [Value.cells]) (by kernel_rfl) info_X (by kernel_rfl) ?_; intro w2 hrow hoth hz hbl; have K2 := Lib.hid (K1.out.turn 0 rfl hrow hoth hz); have B2 : Hid (TurnB g w w2) := Lib.hid (B1.out.puto (Nat.le_refl _) hoth hz hbl); clear hrow hoth hz hbl K1 B1))
  exact bodyPost_ret (res_cell1 rfl _ _ _ _ _ _ rfl (K2.out.row 0 rfl) Tryz.underlying34 rfl info_X) rfl (tkPost_bad (d := frZ K F S) (x := whole 6) ht rfl (K2.out.row 1 rfl) (HandS.nil_ _ _) (HandP.nil_ _ _) B2.out)
set_option maxRecDepth 100000 in
set_option maxHeartbeats 4000000 in
theorem x_exactly_yes (N : Nat) (J0 : FuncId) (K F : UInt8) (S : Int) (g p q : Nat) (A : Option Addr) (n c : Nat) (xs : List UInt8) (w : World) (hE : EnvB w [(A, n, xs)] [] [(g, (hF0 K.toNat F.toNat S), 30), (p, #[.int .i64 (N : Int)], 3), (q, #[.func (.func J0) #[] #[]], 47)]) (hN : A = none → c = 0) (hn : n ≤ 100000) (hnc : n ≤ c) (hlen : ((n : Int) != (N : Int)) = false) (hJ : Enters Tryz.prog J0) (hin : Hid (∀ w0, EnvB w0 [(A, n, xs)] [] [(g, (hF0 K.toNat F.toNat S), 30)] → Calls Tryz.prog J0 #[.pointer (some ⟨g, 0, none⟩), .slice A n c] w0 (TkPost K F S xs g w0))) :
    Calls Tryz.prog 89 #[.pointer (some ⟨g, 0, none⟩), .slice A n c, .pointer (some ⟨p, 0, none⟩), .pointer (some ⟨q, 0, none⟩)] w (TkPost K F S xs g w) := by
  have hl : xs.length = n := (hE.s (A, n, xs) (by simp)).1.1
  have hgw : g < w.heap.size := hE.lt (y := (g, (hF0 K.toNat F.toNat S), 30)) (by simp)
  have K0 : Hid (EnvB (w.alloc (.cells #[.bool false, .int .i64 0, .int .u32 0] 34)) [(A, n, xs)] [] [(w.heap.size, #[.bool false, .int .i64 0, .int .u32 0], 34), (g, (hF0 K.toNat F.toNat S), 30), (p, #[.int .i64 (N : Int)], 3), (q, #[.func (.func J0) #[] #[]], 47)]) := Lib.hid (hE.box 34 #[.bool false, .int .i64 0, .int .u32 0])
  have B0 : Hid (TurnB g w (w.alloc (.cells #[.bool false, .int .i64 0, .int .u32 0] 34))) := Lib.hid ((TurnB.refl g w).al _)
  clear hE hN hl
  go_enter Tryz.func89, Tryz.ntmps89
  go_wp2_with (first
    | (refine at_load 3 (.tmp 2) (by rfl) ?_; refine wpList_get (by rfl) 3 (.tmp 2) (by rfl) (p) 0 (by rfl) 3 _ (.int .i64 (N : Int)) _ (K0.out.row 2 rfl) (by rfl) Tryz.underlying3 (by rfl) ?_)
    | (refine at_load 47 (.tmp 3) (by rfl) ?_; refine wpList_get (by rfl) 47 (.tmp 3) (by rfl) (q) 0 (by rfl) 47 _ (.func (.func J0) #[] #[]) _ (K0.out.row 3 rfl) (by rfl) Tryz.underlying47 (by rfl) ?_)
    | (refine at_callv (.tmp 12) #[.tmp 13, .tmp 14] _ (by rfl) ?_; refine wpList_callv (by rfl) (.tmp 12) #[.tmp 13, .tmp 14] _ (by rfl) J0 #[] (by rfl) hJ #[.pointer (some ⟨g, 0, none⟩), .slice A n c] (by first | (simp [go_sem]; done) | (simp [Act.eval]; done)) _ ((hin.out _ (EnvB.sub (ss' := [(A, n, xs)]) (ps' := []) (gs' := [(g, (hF0 K.toNat F.toNat S), 30)]) K0.out (by simp) (by simp) (by simp))).mono fun e w' h => tkPost_ret h) ?_; rintro v w1 ⟨d, A1, n1, c1, A3, n3, c3, rfl, hd, hrow, hh, hp, ht⟩; have K1 : Hid (EnvB w1 [(A1, n1, d.da), (A, n, xs)] [(A3, n3, d.ps)] [(w.heap.size, #[.bool false, .int .i64 0, .int .u32 0], 34), (g, (fra d A1 n1 c1 A3 n3 c3), 30), (p, #[.int .i64 (N : Int)], 3), (q, #[.func (.func J0) #[] #[]], 47)]) := Lib.hid (K0.out.turnSP 1 rfl hrow ht hh hp); have B1 : Hid (TurnB g w w1) := Lib.hid (B0.out.trans ht); have HD1 := Lib.hid hd; have HS1 := Lib.hid (hh.2.1.less B0.out.size); have HC1 := Lib.hid hh.2.2; have HP1 := Lib.hid (hp.2.1.less B0.out.size); have HQ1 := Lib.hid hp.2.2; clear hd hrow hh hp ht K0 B0)
    | (refine at_store 34 (.tmp 6) (.tmp 15) (by rfl) ?_; refine wpList_put (by rfl) 34 (.tmp 6) (.tmp 15) (by rfl) (w.heap.size) 0 (.agg #[.bool (tkR K F S xs).2.1, .int .i64 (tkR K F S xs).2.2.1, .int .u32 ((tkR K F S xs).2.2.2 : Nat)]) (by rfl) (by rfl) 34 _ #[.bool (tkR K F S xs).2.1, .int .i64 (tkR K F S xs).2.2.1, .int .u32 ((tkR K F S xs).2.2.2 : Nat)] (K1.out.row 0 rfl) (by simp [Value.cells]) (by kernel_rfl) info_X (by kernel_rfl) ?_; intro w2 hrow hoth hz hbl; have K2 := Lib.hid (K1.out.turn 0 rfl hrow hoth hz); have B2 : Hid (TurnB g w w2) := Lib.hid (B1.out.puto (Nat.le_refl _) hoth hz hbl); clear hrow hoth hz hbl K1 B1))
  exact bodyPost_ret (res_cell1 rfl _ _ _ _ _ _ rfl (K2.out.row 0 rfl) Tryz.underlying34 rfl info_X) rfl ⟨d, A1, n1, c1, A3, n3, c3, rfl, HD1.out, (K2.out.row 1 rfl), ⟨(K2.out.s (A1, n1, d.da) (by simp)).1, HS1.out, HC1.out⟩, ⟨(K2.out.p (A3, n3, d.ps) (by simp)).1, HP1.out, HQ1.out⟩, B2.out⟩
set_option maxRecDepth 100000 in
set_option maxHeartbeats 4000000 in
theorem x_atLeast_no (N : Nat) (J0 : FuncId) (K F : UInt8) (S : Int) (g p q : Nat) (A : Option Addr) (n c : Nat) (xs : List UInt8) (w : World) (hE : EnvB w [(A, n, xs)] [] [(g, (hF0 K.toNat F.toNat S), 30), (p, #[.int .i64 (N : Int)], 3), (q, #[.func (.func J0) #[] #[]], 47)]) (hN : A = none → c = 0) (hn : n ≤ 100000) (hnc : n ≤ c) (hlen : (n : Int) < (N : Int)) (ht : (tkR K F S xs).2 = whole 6) :
    Calls Tryz.prog 95 #[.pointer (some ⟨g, 0, none⟩), .slice A n c, .pointer (some ⟨p, 0, none⟩), .pointer (some ⟨q, 0, none⟩)] w (TkPost K F S xs g w) := by
  have hl : xs.length = n := (hE.s (A, n, xs) (by simp)).1.1
  have hgw : g < w.heap.size := hE.lt (y := (g, (hF0 K.toNat F.toNat S), 30)) (by simp)
  have K0 : Hid (EnvB (w.alloc (.cells #[.bool false, .int .i64 0, .int .u32 0] 34)) [(A, n, xs)] [] [(w.heap.size, #[.bool false, .int .i64 0, .int .u32 0], 34), (g, (hF0 K.toNat F.toNat S), 30), (p, #[.int .i64 (N : Int)], 3), (q, #[.func (.func J0) #[] #[]], 47)]) := Lib.hid (hE.box 34 #[.bool false, .int .i64 0, .int .u32 0])
  have B0 : Hid (TurnB g w (w.alloc (.cells #[.bool false, .int .i64 0, .int .u32 0] 34))) := Lib.hid ((TurnB.refl g w).al _)
  clear hE hN hl
  go_enter Tryz.func95, Tryz.ntmps95
  go_wp2_with (first
    | (refine at_load 3 (.tmp 2) (by rfl) ?_; refine wpList_get (by rfl) 3 (.tmp 2) (by rfl) (p) 0 (by rfl) 3 _ (.int .i64 (N : Int)) _ (K0.out.row 2 rfl) (by rfl) Tryz.underlying3 (by rfl) ?_)
    | (go_at_call 16; (with_reducible refine (p_whole _ _).mono ?_); rintro e w1 ⟨rfl, hb⟩; have K1 := Lib.hid (K0.out.on hb); have B1 : Hid (TurnB g w w1) := Lib.hid (B0.out.callB hb); clear hb K0 B0)
    | (refine at_store 34 (.tmp 6) (.tmp 11) (by rfl) ?_; refine wpList_put (by rfl) 34 (.tmp 6) (.tmp 11) (by rfl) (w.heap.size) 0 (.agg #[.bool true, .int .i64 0, .int .u32 6]) (by rfl) (by rfl) 34 _ #[.bool true, .int .i64 0, .int .u32 6] (K1.out.row 0 rfl) (by simp [Value.cells]) (by kernel_rfl) info_X (by kernel_rfl) ?_; intro w2 hrow hoth hz hbl; have K2 := Lib.hid (K1.out.turn 0 rfl hrow hoth hz); have B2 : Hid (TurnB g w w2) := Lib.hid (B1.out.puto (Nat.le_refl _) hoth hz hbl); clear hrow hoth hz hbl K1 B1))
  exact bodyPost_ret (res_cell1 rfl _ _ _ _ _ _ rfl (K2.out.row 0 rfl) Tryz.underlying34 rfl info_X) rfl (tkPost_bad (d := frZ K F S) (x := whole 6) ht rfl (K2.out.row 1 rfl) (HandS.nil_ _ _) (HandP.nil_ _ _) B2.out)
set_option maxRecDepth 100000 in
set_option maxHeartbeats 4000000 in
theorem x_atLeast_yes (N : Nat) (J0 : FuncId) (K F : UInt8) (S : Int) (g p q : Nat) (A : Option Addr) (n c : Nat) (xs : List UInt8) (w : World) (hE : EnvB w [(A, n, xs)] [] [(g, (hF0 K.toNat F.toNat S), 30), (p, #[.int .i64 (N : Int)], 3), (q, #[.func (.func J0) #[] #[]], 47)]) (hN : A = none → c = 0) (hn : n ≤ 100000) (hnc : n ≤ c) (hlen : ¬ (n : Int) < (N : Int)) (hJ : Enters Tryz.prog J0) (hin : Hid (∀ w0, EnvB w0 [(A, n, xs)] [] [(g, (hF0 K.toNat F.toNat S), 30)] → Calls Tryz.prog J0 #[.pointer (some ⟨g, 0, none⟩), .slice A n c] w0 (TkPost K F S xs g w0))) :
    Calls Tryz.prog 95 #[.pointer (some ⟨g, 0, none⟩), .slice A n c, .pointer (some ⟨p, 0, none⟩), .pointer (some ⟨q, 0, none⟩)] w (TkPost K F S xs g w) := by
  have hl : xs.length = n := (hE.s (A, n, xs) (by simp)).1.1
  have hgw : g < w.heap.size := hE.lt (y := (g, (hF0 K.toNat F.toNat S), 30)) (by simp)
  have K0 : Hid (EnvB (w.alloc (.cells #[.bool false, .int .i64 0, .int .u32 0] 34)) [(A, n, xs)] [] [(w.heap.size, #[.bool false, .int .i64 0, .int .u32 0], 34), (g, (hF0 K.toNat F.toNat S), 30), (p, #[.int .i64 (N : Int)], 3), (q, #[.func (.func J0) #[] #[]], 47)]) := Lib.hid (hE.box 34 #[.bool false, .int .i64 0, .int .u32 0])
  have B0 : Hid (TurnB g w (w.alloc (.cells #[.bool false, .int .i64 0, .int .u32 0] 34))) := Lib.hid ((TurnB.refl g w).al _)
  clear hE hN hl
  go_enter Tryz.func95, Tryz.ntmps95
  go_wp2_with (first
    | (refine at_load 3 (.tmp 2) (by rfl) ?_; refine wpList_get (by rfl) 3 (.tmp 2) (by rfl) (p) 0 (by rfl) 3 _ (.int .i64 (N : Int)) _ (K0.out.row 2 rfl) (by rfl) Tryz.underlying3 (by rfl) ?_)
    | (refine at_load 47 (.tmp 3) (by rfl) ?_; refine wpList_get (by rfl) 47 (.tmp 3) (by rfl) (q) 0 (by rfl) 47 _ (.func (.func J0) #[] #[]) _ (K0.out.row 3 rfl) (by rfl) Tryz.underlying47 (by rfl) ?_)
    | (refine at_callv (.tmp 12) #[.tmp 13, .tmp 14] _ (by rfl) ?_; refine wpList_callv (by rfl) (.tmp 12) #[.tmp 13, .tmp 14] _ (by rfl) J0 #[] (by rfl) hJ #[.pointer (some ⟨g, 0, none⟩), .slice A n c] (by first | (simp [go_sem]; done) | (simp [Act.eval]; done)) _ ((hin.out _ (EnvB.sub (ss' := [(A, n, xs)]) (ps' := []) (gs' := [(g, (hF0 K.toNat F.toNat S), 30)]) K0.out (by simp) (by simp) (by simp))).mono fun e w' h => tkPost_ret h) ?_; rintro v w1 ⟨d, A1, n1, c1, A3, n3, c3, rfl, hd, hrow, hh, hp, ht⟩; have K1 : Hid (EnvB w1 [(A1, n1, d.da), (A, n, xs)] [(A3, n3, d.ps)] [(w.heap.size, #[.bool false, .int .i64 0, .int .u32 0], 34), (g, (fra d A1 n1 c1 A3 n3 c3), 30), (p, #[.int .i64 (N : Int)], 3), (q, #[.func (.func J0) #[] #[]], 47)]) := Lib.hid (K0.out.turnSP 1 rfl hrow ht hh hp); have B1 : Hid (TurnB g w w1) := Lib.hid (B0.out.trans ht); have HD1 := Lib.hid hd; have HS1 := Lib.hid (hh.2.1.less B0.out.size); have HC1 := Lib.hid hh.2.2; have HP1 := Lib.hid (hp.2.1.less B0.out.size); have HQ1 := Lib.hid hp.2.2; clear hd hrow hh hp ht K0 B0)
    | (refine at_store 34 (.tmp 6) (.tmp 15) (by rfl) ?_; refine wpList_put (by rfl) 34 (.tmp 6) (.tmp 15) (by rfl) (w.heap.size) 0 (.agg #[.bool (tkR K F S xs).2.1, .int .i64 (tkR K F S xs).2.2.1, .int .u32 ((tkR K F S xs).2.2.2 : Nat)]) (by rfl) (by rfl) 34 _ #[.bool (tkR K F S xs).2.1, .int .i64 (tkR K F S xs).2.2.1, .int .u32 ((tkR K F S xs).2.2.2 : Nat)] (K1.out.row 0 rfl) (by simp [Value.cells]) (by kernel_rfl) info_X (by kernel_rfl) ?_; intro w2 hrow hoth hz hbl; have K2 := Lib.hid (K1.out.turn 0 rfl hrow hoth hz); have B2 : Hid (TurnB g w w2) := Lib.hid (B1.out.puto (Nat.le_refl _) hoth hz hbl); clear hrow hoth hz hbl K1 B1))
  exact bodyPost_ret (res_cell1 rfl _ _ _ _ _ _ rfl (K2.out.row 0 rfl) Tryz.underlying34 rfl info_X) rfl ⟨d, A1, n1, c1, A3, n3, c3, rfl, HD1.out, (K2.out.row 1 rfl), ⟨(K2.out.s (A1, n1, d.da) (by simp)).1, HS1.out, HC1.out⟩, ⟨(K2.out.p (A3, n3, d.ps) (by simp)).1, HP1.out, HQ1.out⟩, B2.out⟩
end Go.Proofs.YtbflhphjnmhjhaaGreat
/- The program's map of shapes, and the shape of a kind. -/
namespace Go.Proofs.YtbflhphjnmhjhaaGreat
open Go.RowKit Oct Fi Fm
set_option linter.unusedVariables false
set_option linter.unusedSimpArgs false
theorem at_insert {P : Program} {ops : Array Oper} {rest : List Oper} {o : Oper} {a : Act} {w : World} {Q : Exit → Act → World → Prop} (t : TypeId) (m k x : Operand) (_ : o.op = .insert t m k x) (h : wpList P ops Q (o :: rest) a w) : wpList P ops Q (o :: rest) a w := h
theorem at_lookup2 {P : Program} {ops : Array Oper} {rest : List Oper} {o : Oper} {a : Act} {w : World} {Q : Exit → Act → World → Prop} (t : TypeId) (m x : Operand) (_ : o.op = .lookup t m x true) (h : wpList P ops Q (o :: rest) a w) : wpList P ops Q (o :: rest) a w := h
theorem FnMap.alloc {w : World} {P : Program} {k : TypeId} {q : IntKind} {b n : Nat} {S : Int → Option Value} (h : FnMap w P k q b n S) (o : Obj) : FnMap (w.alloc o) P k q b n S := by
  obtain ⟨D, h1, h2, h3⟩ := h
  exact ⟨D, h1.alloc o, h2, h3⟩
theorem FnMap.row {w : World} {P : Program} {k : TypeId} {q : IntKind} {b n : Nat} {S : Int → Option Value} (h : FnMap w P k q b n S) : ∃ o : Obj, w.heap[b]? = some o ∧ o.isCells = false := by
  obtain ⟨D, ⟨es, clock, hb, _⟩, _⟩ := h
  exact ⟨_, hb, rfl⟩
def mapS (p3 p6 p7 p8 p16 : Nat) : Int → Option Value := fun y => if y = 16 then some (.agg #[.func (.func 57) #[] #[], .func (.func 95) #[] #[.pointer (some ⟨p16, 0, none⟩), .pointer (some ⟨p16 + 1, 0, none⟩)], .func (.func 76) #[] #[]]) else if y = 9 then some (.agg #[.func (.func 56) #[] #[], .func (.func 38) #[] #[], .func (.func 39) #[] #[]]) else if y = 8 then some (.agg #[.func (.func 37) #[] #[], .func (.func 89) #[] #[.pointer (some ⟨p8, 0, none⟩), .pointer (some ⟨p8 + 1, 0, none⟩)], .func (.func 74) #[] #[]]) else if y = 7 then some (.agg #[.func (.func 57) #[] #[], .func (.func 95) #[] #[.pointer (some ⟨p7, 0, none⟩), .pointer (some ⟨p7 + 1, 0, none⟩)], .func (.func 72) #[] #[]]) else if y = 6 then some (.agg #[.func (.func 57) #[] #[], .func (.func 89) #[] #[.pointer (some ⟨p6, 0, none⟩), .pointer (some ⟨p6 + 1, 0, none⟩)], .func (.func 39) #[] #[]]) else if y = 5 then some (.agg #[.func (.func 58) #[] #[], .func (.func 38) #[] #[], .func (.func 39) #[] #[]]) else if y = 4 then some (.agg #[.func (.func 57) #[] #[], .func (.func 68) #[] #[], .func (.func 69) #[] #[]]) else if y = 3 then some (.agg #[.func (.func 56) #[] #[], .func (.func 89) #[] #[.pointer (some ⟨p3, 0, none⟩), .pointer (some ⟨p3 + 1, 0, none⟩)], .func (.func 67) #[] #[]]) else if y = 2 then some (.agg #[.func (.func 56) #[] #[], .func (.func 63) #[] #[], .func (.func 64) #[] #[]]) else if y = 1 then some (.agg #[.func (.func 56) #[] #[], .func (.func 61) #[] #[], .func (.func 62) #[] #[]]) else if y = 0 then some (.agg #[.func (.func 56) #[] #[], .func (.func 59) #[] #[], .func (.func 60) #[] #[]]) else none
set_option maxRecDepth 100000 in
set_option maxHeartbeats 4000000 in
theorem shapes_any (w : World) : Calls Tryz.prog 36 #[] w fun e w' => ∃ p3 p6 p7 p8 p16 : Nat, e = .returned (.map (some w.heap.size)) ∧ FnMap w' Tryz.prog 5 .u8 w.heap.size 11 (mapS p3 p6 p7 p8 p16) ∧
    EnvB w' [] [] [(p16 + 1, #[.func (.func 75) #[] #[]], 47), (p16, #[.int .i64 4], 3), (p8 + 1, #[.func (.func 73) #[] #[]], 47), (p8, #[.int .i64 4], 3), (p7 + 1, #[.func (.func 71) #[] #[]], 47), (p7, #[.int .i64 8], 3), (p6 + 1, #[.func (.func 38) #[] #[]], 47), (p6, #[.int .i64 8], 3), (p3 + 1, #[.func (.func 66) #[] #[]], 47), (p3, #[.int .i64 4], 3)] ∧ (w.heap.size ≤ p3 ∧ w.heap.size ≤ p6 ∧ w.heap.size ≤ p7 ∧ w.heap.size ≤ p8 ∧ w.heap.size ≤ p16) ∧ Below w.heap.size w w' := by
  have M0 := Lib.hid (FnMap.made w Tryz.prog 5 .u8)
  have B0 : Hid (Below w.heap.size w (w.alloc (.map #[] 0))) := Lib.hid ((Below.refl _ _).alloc (Nat.le_refl _) _)
  have E0 := Lib.hid (EnvB.nil (w.alloc (.map #[] 0)))
  have hr0 := run_makeMap (P := Tryz.prog) 67 w
  go_enter Tryz.func36, Tryz.ntmps36
  go_wp2_with (first
    | (refine at_insert 67 (.tmp 4) (.const (.int .u8 0)) (.tmp 6) (by rfl) ?_; refine wpList_insert_fn (w.alloc (.map #[] 0)) rfl (.tmp 4) (.tmp 6) 67 .u8 0 (.agg #[.func (.func 56) #[] #[], .func (.func 59) #[] #[], .func (.func 60) #[] #[]]) (by rfl) 5 49 Tryz.underlying5 Tryz.underlying67 w.heap.size _ _ (by rfl) (by rfl) M0.out (by decide) (by decide) ?_; intro w1 hs hg; have M1 := Lib.hid hs; have E1 := Lib.hid (E0.out.kept hg (fun k e => by cases e; exact M0.out.row)); have B1 := Lib.hid (B0.out.grown hg B0.out.size (fun k e => by cases e; exact Nat.le_refl _)); clear hs hg M0 E0 B0)
    | (refine at_insert 67 (.tmp 4) (.const (.int .u8 1)) (.tmp 8) (by rfl) ?_; refine wpList_insert_fn w1 rfl (.tmp 4) (.tmp 8) 67 .u8 1 (.agg #[.func (.func 56) #[] #[], .func (.func 61) #[] #[], .func (.func 62) #[] #[]]) (by rfl) 5 49 Tryz.underlying5 Tryz.underlying67 w.heap.size _ _ (by rfl) (by rfl) M1.out (by decide) (by decide) ?_; intro w2 hs hg; have M2 := Lib.hid hs; have E2 := Lib.hid (E1.out.kept hg (fun k e => by cases e; exact M1.out.row)); have B2 := Lib.hid (B1.out.grown hg B1.out.size (fun k e => by cases e; exact Nat.le_refl _)); clear hs hg M1 E1 B1)
    | (refine at_insert 67 (.tmp 4) (.const (.int .u8 2)) (.tmp 10) (by rfl) ?_; refine wpList_insert_fn w2 rfl (.tmp 4) (.tmp 10) 67 .u8 2 (.agg #[.func (.func 56) #[] #[], .func (.func 63) #[] #[], .func (.func 64) #[] #[]]) (by rfl) 5 49 Tryz.underlying5 Tryz.underlying67 w.heap.size _ _ (by rfl) (by rfl) M2.out (by decide) (by decide) ?_; intro w3 hs hg; have M3 := Lib.hid hs; have E3 := Lib.hid (E2.out.kept hg (fun k e => by cases e; exact M2.out.row)); have B3 := Lib.hid (B2.out.grown hg B2.out.size (fun k e => by cases e; exact Nat.le_refl _)); clear hs hg M2 E2 B2)
    | (go_at_call 65; refine (mk_exactly 4 (.func (.func 66) #[] #[]) (by rfl) _).mono ?_; rintro e w' ⟨rfl, rfl⟩; have M4 := Lib.hid ((M3.out.alloc (.cells #[.int .i64 4] 3)).alloc (.cells #[.func (.func 66) #[] #[]] 47)); have E4 := Lib.hid ((E3.out.box 3 #[.int .i64 4]).boxg 47 #[.func (.func 66) #[] #[]] (w3.heap.size + 1) (by simp)); have B4 := Lib.hid ((B3.out.alloc B3.out.size (.cells #[.int .i64 4] 3)).alloc (Nat.le_trans B3.out.size (by simp)) (.cells #[.func (.func 66) #[] #[]] 47)); have Z4 := Lib.hid B3.out.size; clear M3 E3 B3)
    | (refine at_insert 67 (.tmp 4) (.const (.int .u8 3)) (.tmp 13) (by rfl) ?_; refine wpList_insert_fn ((w3.alloc (.cells #[.int .i64 4] 3)).alloc (.cells #[.func (.func 66) #[] #[]] 47)) rfl (.tmp 4) (.tmp 13) 67 .u8 3 (.agg #[.func (.func 56) #[] #[], .func (.func 89) #[] #[.pointer (some ⟨w3.heap.size, 0, none⟩), .pointer (some ⟨w3.heap.size + 1, 0, none⟩)], .func (.func 67) #[] #[]]) (by rfl) 5 49 Tryz.underlying5 Tryz.underlying67 w.heap.size _ _ (by rfl) (by rfl) M4.out (by decide) (by decide) ?_; intro w5 hs hg; have M5 := Lib.hid hs; have E5 := Lib.hid (E4.out.kept hg (fun k e => by cases e; exact M4.out.row)); have B5 := Lib.hid (B4.out.grown hg B4.out.size (fun k e => by cases e; exact Nat.le_refl _)); clear hs hg M4 E4 B4)
    | (refine at_insert 67 (.tmp 4) (.const (.int .u8 4)) (.tmp 15) (by rfl) ?_; refine wpList_insert_fn w5 rfl (.tmp 4) (.tmp 15) 67 .u8 4 (.agg #[.func (.func 57) #[] #[], .func (.func 68) #[] #[], .func (.func 69) #[] #[]]) (by rfl) 5 49 Tryz.underlying5 Tryz.underlying67 w.heap.size _ _ (by rfl) (by rfl) M5.out (by decide) (by decide) ?_; intro w6 hs hg; have M6 := Lib.hid hs; have E6 := Lib.hid (E5.out.kept hg (fun k e => by cases e; exact M5.out.row)); have B6 := Lib.hid (B5.out.grown hg B5.out.size (fun k e => by cases e; exact Nat.le_refl _)); clear hs hg M5 E5 B5)
    | (refine at_insert 67 (.tmp 4) (.const (.int .u8 5)) (.tmp 17) (by rfl) ?_; refine wpList_insert_fn w6 rfl (.tmp 4) (.tmp 17) 67 .u8 5 (.agg #[.func (.func 58) #[] #[], .func (.func 38) #[] #[], .func (.func 39) #[] #[]]) (by rfl) 5 49 Tryz.underlying5 Tryz.underlying67 w.heap.size _ _ (by rfl) (by rfl) M6.out (by decide) (by decide) ?_; intro w7 hs hg; have M7 := Lib.hid hs; have E7 := Lib.hid (E6.out.kept hg (fun k e => by cases e; exact M6.out.row)); have B7 := Lib.hid (B6.out.grown hg B6.out.size (fun k e => by cases e; exact Nat.le_refl _)); clear hs hg M6 E6 B6)
    | (go_at_call 65; refine (mk_exactly 8 (.func (.func 38) #[] #[]) (by rfl) _).mono ?_; rintro e w' ⟨rfl, rfl⟩; have M8 := Lib.hid ((M7.out.alloc (.cells #[.int .i64 8] 3)).alloc (.cells #[.func (.func 38) #[] #[]] 47)); have E8 := Lib.hid ((E7.out.box 3 #[.int .i64 8]).boxg 47 #[.func (.func 38) #[] #[]] (w7.heap.size + 1) (by simp)); have B8 := Lib.hid ((B7.out.alloc B7.out.size (.cells #[.int .i64 8] 3)).alloc (Nat.le_trans B7.out.size (by simp)) (.cells #[.func (.func 38) #[] #[]] 47)); have Z8 := Lib.hid B7.out.size; clear M7 E7 B7)
    | (refine at_insert 67 (.tmp 4) (.const (.int .u8 6)) (.tmp 20) (by rfl) ?_; refine wpList_insert_fn ((w7.alloc (.cells #[.int .i64 8] 3)).alloc (.cells #[.func (.func 38) #[] #[]] 47)) rfl (.tmp 4) (.tmp 20) 67 .u8 6 (.agg #[.func (.func 57) #[] #[], .func (.func 89) #[] #[.pointer (some ⟨w7.heap.size, 0, none⟩), .pointer (some ⟨w7.heap.size + 1, 0, none⟩)], .func (.func 39) #[] #[]]) (by rfl) 5 49 Tryz.underlying5 Tryz.underlying67 w.heap.size _ _ (by rfl) (by rfl) M8.out (by decide) (by decide) ?_; intro w9 hs hg; have M9 := Lib.hid hs; have E9 := Lib.hid (E8.out.kept hg (fun k e => by cases e; exact M8.out.row)); have B9 := Lib.hid (B8.out.grown hg B8.out.size (fun k e => by cases e; exact Nat.le_refl _)); clear hs hg M8 E8 B8)
    | (go_at_call 70; refine (mk_atLeast 8 (.func (.func 71) #[] #[]) (by rfl) _).mono ?_; rintro e w' ⟨rfl, rfl⟩; have M10 := Lib.hid ((M9.out.alloc (.cells #[.int .i64 8] 3)).alloc (.cells #[.func (.func 71) #[] #[]] 47)); have E10 := Lib.hid ((E9.out.box 3 #[.int .i64 8]).boxg 47 #[.func (.func 71) #[] #[]] (w9.heap.size + 1) (by simp)); have B10 := Lib.hid ((B9.out.alloc B9.out.size (.cells #[.int .i64 8] 3)).alloc (Nat.le_trans B9.out.size (by simp)) (.cells #[.func (.func 71) #[] #[]] 47)); have Z10 := Lib.hid B9.out.size; clear M9 E9 B9)
    | (refine at_insert 67 (.tmp 4) (.const (.int .u8 7)) (.tmp 23) (by rfl) ?_; refine wpList_insert_fn ((w9.alloc (.cells #[.int .i64 8] 3)).alloc (.cells #[.func (.func 71) #[] #[]] 47)) rfl (.tmp 4) (.tmp 23) 67 .u8 7 (.agg #[.func (.func 57) #[] #[], .func (.func 95) #[] #[.pointer (some ⟨w9.heap.size, 0, none⟩), .pointer (some ⟨w9.heap.size + 1, 0, none⟩)], .func (.func 72) #[] #[]]) (by rfl) 5 49 Tryz.underlying5 Tryz.underlying67 w.heap.size _ _ (by rfl) (by rfl) M10.out (by decide) (by decide) ?_; intro w11 hs hg; have M11 := Lib.hid hs; have E11 := Lib.hid (E10.out.kept hg (fun k e => by cases e; exact M10.out.row)); have B11 := Lib.hid (B10.out.grown hg B10.out.size (fun k e => by cases e; exact Nat.le_refl _)); clear hs hg M10 E10 B10)
    | (go_at_call 65; refine (mk_exactly 4 (.func (.func 73) #[] #[]) (by rfl) _).mono ?_; rintro e w' ⟨rfl, rfl⟩; have M12 := Lib.hid ((M11.out.alloc (.cells #[.int .i64 4] 3)).alloc (.cells #[.func (.func 73) #[] #[]] 47)); have E12 := Lib.hid ((E11.out.box 3 #[.int .i64 4]).boxg 47 #[.func (.func 73) #[] #[]] (w11.heap.size + 1) (by simp)); have B12 := Lib.hid ((B11.out.alloc B11.out.size (.cells #[.int .i64 4] 3)).alloc (Nat.le_trans B11.out.size (by simp)) (.cells #[.func (.func 73) #[] #[]] 47)); have Z12 := Lib.hid B11.out.size; clear M11 E11 B11)
    | (refine at_insert 67 (.tmp 4) (.const (.int .u8 8)) (.tmp 25) (by rfl) ?_; refine wpList_insert_fn ((w11.alloc (.cells #[.int .i64 4] 3)).alloc (.cells #[.func (.func 73) #[] #[]] 47)) rfl (.tmp 4) (.tmp 25) 67 .u8 8 (.agg #[.func (.func 37) #[] #[], .func (.func 89) #[] #[.pointer (some ⟨w11.heap.size, 0, none⟩), .pointer (some ⟨w11.heap.size + 1, 0, none⟩)], .func (.func 74) #[] #[]]) (by rfl) 5 49 Tryz.underlying5 Tryz.underlying67 w.heap.size _ _ (by rfl) (by rfl) M12.out (by decide) (by decide) ?_; intro w13 hs hg; have M13 := Lib.hid hs; have E13 := Lib.hid (E12.out.kept hg (fun k e => by cases e; exact M12.out.row)); have B13 := Lib.hid (B12.out.grown hg B12.out.size (fun k e => by cases e; exact Nat.le_refl _)); clear hs hg M12 E12 B12)
    | (refine at_insert 67 (.tmp 4) (.const (.int .u8 9)) (.tmp 27) (by rfl) ?_; refine wpList_insert_fn w13 rfl (.tmp 4) (.tmp 27) 67 .u8 9 (.agg #[.func (.func 56) #[] #[], .func (.func 38) #[] #[], .func (.func 39) #[] #[]]) (by rfl) 5 49 Tryz.underlying5 Tryz.underlying67 w.heap.size _ _ (by rfl) (by rfl) M13.out (by decide) (by decide) ?_; intro w14 hs hg; have M14 := Lib.hid hs; have E14 := Lib.hid (E13.out.kept hg (fun k e => by cases e; exact M13.out.row)); have B14 := Lib.hid (B13.out.grown hg B13.out.size (fun k e => by cases e; exact Nat.le_refl _)); clear hs hg M13 E13 B13)
    | (go_at_call 70; refine (mk_atLeast 4 (.func (.func 75) #[] #[]) (by rfl) _).mono ?_; rintro e w' ⟨rfl, rfl⟩; have M15 := Lib.hid ((M14.out.alloc (.cells #[.int .i64 4] 3)).alloc (.cells #[.func (.func 75) #[] #[]] 47)); have E15 := Lib.hid ((E14.out.box 3 #[.int .i64 4]).boxg 47 #[.func (.func 75) #[] #[]] (w14.heap.size + 1) (by simp)); have B15 := Lib.hid ((B14.out.alloc B14.out.size (.cells #[.int .i64 4] 3)).alloc (Nat.le_trans B14.out.size (by simp)) (.cells #[.func (.func 75) #[] #[]] 47)); have Z15 := Lib.hid B14.out.size; clear M14 E14 B14)
    | (refine at_insert 67 (.tmp 4) (.const (.int .u8 16)) (.tmp 30) (by rfl) ?_; refine wpList_insert_fn ((w14.alloc (.cells #[.int .i64 4] 3)).alloc (.cells #[.func (.func 75) #[] #[]] 47)) rfl (.tmp 4) (.tmp 30) 67 .u8 16 (.agg #[.func (.func 57) #[] #[], .func (.func 95) #[] #[.pointer (some ⟨w14.heap.size, 0, none⟩), .pointer (some ⟨w14.heap.size + 1, 0, none⟩)], .func (.func 76) #[] #[]]) (by rfl) 5 49 Tryz.underlying5 Tryz.underlying67 w.heap.size _ _ (by rfl) (by rfl) M15.out (by decide) (by decide) ?_; intro w16 hs hg; have M16 := Lib.hid hs; have E16 := Lib.hid (E15.out.kept hg (fun k e => by cases e; exact M15.out.row)); have B16 := Lib.hid (B15.out.grown hg B15.out.size (fun k e => by cases e; exact Nat.le_refl _)); clear hs hg M15 E15 B15))
  go_ret
  exact ⟨w3.heap.size, w7.heap.size, w9.heap.size, w11.heap.size, w14.heap.size, rfl, M16.out, E16.out, ⟨Z4.out, Z8.out, Z10.out, Z12.out, Z15.out⟩, B16.out⟩
end Go.Proofs.YtbflhphjnmhjhaaGreat
/- The shape of a kind. -/
namespace Go.Proofs.YtbflhphjnmhjhaaGreat
open Go.RowKit Oct Fi Fm
set_option linter.unusedVariables false
set_option linter.unusedSimpArgs false
def layF (k : Nat) : FuncId := if k = 0 then 60 else if k = 1 then 62 else if k = 2 then 64 else if k = 3 then 67 else if k = 4 then 69 else if k = 5 then 39 else if k = 6 then 39 else if k = 7 then 72 else if k = 8 then 74 else if k = 9 then 39 else if k = 16 then 76 else 39
def OfOK (k : Nat) (O : FuncId) : Prop := Enters Tryz.prog O ∧ ∀ (S : Int) (w : World), Calls Tryz.prog O #[.int .i64 S] w fun e w' => e = .returned (.bool (!(decide (k = 5) || farB k S))) ∧ w = w'
def TakeOK (K : UInt8) (J : FuncId) (cap : Array Value) (cl : List Bx) : Prop := Enters Tryz.prog J ∧ ∀ (F : UInt8) (S : Int) (g : Nat) (A : Option Addr) (n c : Nat) (xs : List UInt8) (w : World), EnvB w [(A, n, xs)] [] ((g, FZc K F S, 30) :: cl) → (A = none → c = 0) → n ≤ 100000 → n ≤ c →
  Calls Tryz.prog J (#[.pointer (some ⟨g, 0, none⟩), .slice A n c] ++ cap) w (TkPost K F S xs g w)
def ShapeSpec (K : UInt8) (w : World) (v : Value) (w' : World) : Prop :=
  ∃ O J cap cl, v = .agg #[.func (.func O) #[] #[], .func (.func J) #[] cap, .func (.func (layF K.toNat)) #[] #[]] ∧ OfOK K.toNat O ∧ TakeOK K J cap cl ∧ (cl.map Prod.fst).Nodup ∧ ∀ y ∈ cl, w.heap.size ≤ y.1 ∧ w'.heap[y.1]? = some (.cells y.2.1 y.2.2)
theorem Calls.args {P : Program} {J : FuncId} {a b : Array Value} {w : World} {R : Ending → World → Prop} (h : Calls P J a w R) (e : a = b) : Calls P J b w R := e ▸ h
theorem tk_long {K F : UInt8} {S : Int} {xs : List UInt8} (hl : longB K.toNat F xs.length = true) (h2 : K.toNat ≠ 2) : (tkR K F S xs).2 = whole 6 := by
  unfold tkR
  rw [if_pos hl, if_neg h2]
theorem of_0 : OfOK 0 56 := ⟨enters_of Tryz.func56 (by kernel_rfl) rfl, fun S w => by
  have e : (!(decide (0 = 5) || farB 0 S)) = (S != 0) := by unfold farB; cases h : S == 0 <;> simp_all [bne]
  rw [e]
  exact of_one S w⟩
theorem take_0 (K : UInt8) (hk : K.toNat = 0) : TakeOK K 59 #[] [] := ⟨enters_of Tryz.func59 (by kernel_rfl) rfl, fun F S g A n c xs w hE hN hn hnc => Calls.args (k_data K F S g A n c xs w hE hN hn hnc hk) (by simp)⟩
theorem of_1 : OfOK 1 56 := ⟨enters_of Tryz.func56 (by kernel_rfl) rfl, fun S w => by
  have e : (!(decide (1 = 5) || farB 1 S)) = (S != 0) := by unfold farB; cases h : S == 0 <;> simp_all [bne]
  rw [e]
  exact of_one S w⟩
theorem take_1 (K : UInt8) (hk : K.toNat = 1) : TakeOK K 61 #[] [] := ⟨enters_of Tryz.func61 (by kernel_rfl) rfl, fun F S g A n c xs w hE hN hn hnc => Calls.args (k_headers K F S g A n c xs w hE hN hn hnc hk) (by simp)⟩
theorem of_2 : OfOK 2 56 := ⟨enters_of Tryz.func56 (by kernel_rfl) rfl, fun S w => by
  have e : (!(decide (2 = 5) || farB 2 S)) = (S != 0) := by unfold farB; cases h : S == 0 <;> simp_all [bne]
  rw [e]
  exact of_one S w⟩
theorem take_2 (K : UInt8) (hk : K.toNat = 2) : TakeOK K 63 #[] [] := ⟨enters_of Tryz.func63 (by kernel_rfl) rfl, fun F S g A n c xs w hE hN hn hnc => Calls.args (k_priority K F S g A n c xs w hE hN hn hnc hk) (by simp)⟩
theorem of_3 : OfOK 3 56 := ⟨enters_of Tryz.func56 (by kernel_rfl) rfl, fun S w => by
  have e : (!(decide (3 = 5) || farB 3 S)) = (S != 0) := by unfold farB; cases h : S == 0 <;> simp_all [bne]
  rw [e]
  exact of_one S w⟩
theorem take_3 (K : UInt8) (hk : K.toNat = 3) (p q : Nat) : TakeOK K 89 #[.pointer (some ⟨p, 0, none⟩), .pointer (some ⟨q, 0, none⟩)] [(p, #[.int .i64 4], 3), (q, #[.func (.func 66) #[] #[]], 47)] := ⟨enters_of Tryz.func89 (by kernel_rfl) rfl, fun F S g A n c xs w hE hN hn hnc => by
  have hx : xs.length = n := (hE.s (A, n, xs) (by simp)).1.1
  by_cases hlen : n = 4
  · have hlo : longB K.toNat F xs.length = false := by unfold longB; simp [hk, hx]; omega
    exact Calls.args (x_exactly_yes 4 66 K F S g p q A n c xs w hE hN hn hnc (by simp; omega) (enters_of Tryz.func66 (by kernel_rfl) rfl) (Lib.hid (fun w0 h => k_reset K F S g A n c xs w0 h hN hn hnc hlo hk hlen))) (by simp)
  · have hlo : longB K.toNat F xs.length = true := by unfold longB; simp [hk, hx]; omega
    exact Calls.args (x_exactly_no 4 66 K F S g p q A n c xs w hE hN hn hnc (by simp; omega) (tk_long hlo (by omega))) (by simp)⟩
theorem of_4 : OfOK 4 57 := ⟨enters_of Tryz.func57 (by kernel_rfl) rfl, fun S w => by
  have e : (!(decide (4 = 5) || farB 4 S)) = (S == 0) := by unfold farB; cases h : S == 0 <;> simp_all [bne]
  rw [e]
  exact of_all S w⟩
theorem take_4 (K : UInt8) (hk : K.toNat = 4) : TakeOK K 68 #[] [] := ⟨enters_of Tryz.func68 (by kernel_rfl) rfl, fun F S g A n c xs w hE hN hn hnc => Calls.args (k_settings K F S g A n c xs w hE hN hn hnc hk) (by simp)⟩
theorem of_5 : OfOK 5 58 := ⟨enters_of Tryz.func58 (by kernel_rfl) rfl, fun S w => by
  have e : (!(decide (5 = 5) || farB 5 S)) = false := by unfold farB; simp
  rw [e]
  exact of_none S w⟩
theorem take_5 (K : UInt8) (hk : K.toNat = 5) : TakeOK K 38 #[] [] := ⟨enters_of Tryz.func38 (by kernel_rfl) rfl, fun F S g A n c xs w hE hN hn hnc => Calls.args (k_rest K F S g A n c xs w hE hN hn hnc (by unfold longB; simp [hk]) (by omega)) (by simp)⟩
theorem of_6 : OfOK 6 57 := ⟨enters_of Tryz.func57 (by kernel_rfl) rfl, fun S w => by
  have e : (!(decide (6 = 5) || farB 6 S)) = (S == 0) := by unfold farB; cases h : S == 0 <;> simp_all [bne]
  rw [e]
  exact of_all S w⟩
theorem take_6 (K : UInt8) (hk : K.toNat = 6) (p q : Nat) : TakeOK K 89 #[.pointer (some ⟨p, 0, none⟩), .pointer (some ⟨q, 0, none⟩)] [(p, #[.int .i64 8], 3), (q, #[.func (.func 38) #[] #[]], 47)] := ⟨enters_of Tryz.func89 (by kernel_rfl) rfl, fun F S g A n c xs w hE hN hn hnc => by
  have hx : xs.length = n := (hE.s (A, n, xs) (by simp)).1.1
  by_cases hlen : n = 8
  · have hlo : longB K.toNat F xs.length = false := by unfold longB; simp [hk, hx]; omega
    exact Calls.args (x_exactly_yes 8 38 K F S g p q A n c xs w hE hN hn hnc (by simp; omega) (enters_of Tryz.func38 (by kernel_rfl) rfl) (Lib.hid (fun w0 h => k_rest K F S g A n c xs w0 h hN hn hnc hlo (by omega)))) (by simp)
  · have hlo : longB K.toNat F xs.length = true := by unfold longB; simp [hk, hx]; omega
    exact Calls.args (x_exactly_no 8 38 K F S g p q A n c xs w hE hN hn hnc (by simp; omega) (tk_long hlo (by omega))) (by simp)⟩
theorem of_7 : OfOK 7 57 := ⟨enters_of Tryz.func57 (by kernel_rfl) rfl, fun S w => by
  have e : (!(decide (7 = 5) || farB 7 S)) = (S == 0) := by unfold farB; cases h : S == 0 <;> simp_all [bne]
  rw [e]
  exact of_all S w⟩
theorem take_7 (K : UInt8) (hk : K.toNat = 7) (p q : Nat) : TakeOK K 95 #[.pointer (some ⟨p, 0, none⟩), .pointer (some ⟨q, 0, none⟩)] [(p, #[.int .i64 8], 3), (q, #[.func (.func 71) #[] #[]], 47)] := ⟨enters_of Tryz.func95 (by kernel_rfl) rfl, fun F S g A n c xs w hE hN hn hnc => by
  have hx : xs.length = n := (hE.s (A, n, xs) (by simp)).1.1
  by_cases hlen : 8 ≤ n
  · have hlo : longB K.toNat F xs.length = false := by unfold longB; simp [hk, hx]; omega
    exact Calls.args (x_atLeast_yes 8 71 K F S g p q A n c xs w hE hN hn hnc (by omega) (enters_of Tryz.func71 (by kernel_rfl) rfl) (Lib.hid (fun w0 h => k_away K F S g A n c xs w0 h hN hn hnc hlo hk hlen))) (by simp)
  · have hlo : longB K.toNat F xs.length = true := by unfold longB; simp [hk, hx]; omega
    exact Calls.args (x_atLeast_no 8 71 K F S g p q A n c xs w hE hN hn hnc (by omega) (tk_long hlo (by omega))) (by simp)⟩
theorem of_8 : OfOK 8 37 := ⟨enters_of Tryz.func37 (by kernel_rfl) rfl, fun S w => by
  have e : (!(decide (8 = 5) || farB 8 S)) = true := by unfold farB; simp
  rw [e]
  exact of_any S w⟩
theorem take_8 (K : UInt8) (hk : K.toNat = 8) (p q : Nat) : TakeOK K 89 #[.pointer (some ⟨p, 0, none⟩), .pointer (some ⟨q, 0, none⟩)] [(p, #[.int .i64 4], 3), (q, #[.func (.func 73) #[] #[]], 47)] := ⟨enters_of Tryz.func89 (by kernel_rfl) rfl, fun F S g A n c xs w hE hN hn hnc => by
  have hx : xs.length = n := (hE.s (A, n, xs) (by simp)).1.1
  by_cases hlen : n = 4
  · have hlo : longB K.toNat F xs.length = false := by unfold longB; simp [hk, hx]; omega
    exact Calls.args (x_exactly_yes 4 73 K F S g p q A n c xs w hE hN hn hnc (by simp; omega) (enters_of Tryz.func73 (by kernel_rfl) rfl) (Lib.hid (fun w0 h => k_window K F S g A n c xs w0 h hN hn hnc hlo hk hlen))) (by simp)
  · have hlo : longB K.toNat F xs.length = true := by unfold longB; simp [hk, hx]; omega
    exact Calls.args (x_exactly_no 4 73 K F S g p q A n c xs w hE hN hn hnc (by simp; omega) (tk_long hlo (by omega))) (by simp)⟩
theorem of_9 : OfOK 9 56 := ⟨enters_of Tryz.func56 (by kernel_rfl) rfl, fun S w => by
  have e : (!(decide (9 = 5) || farB 9 S)) = (S != 0) := by unfold farB; cases h : S == 0 <;> simp_all [bne]
  rw [e]
  exact of_one S w⟩
theorem take_9 (K : UInt8) (hk : K.toNat = 9) : TakeOK K 38 #[] [] := ⟨enters_of Tryz.func38 (by kernel_rfl) rfl, fun F S g A n c xs w hE hN hn hnc => Calls.args (k_rest K F S g A n c xs w hE hN hn hnc (by unfold longB; simp [hk]) (by omega)) (by simp)⟩
theorem of_16 : OfOK 16 57 := ⟨enters_of Tryz.func57 (by kernel_rfl) rfl, fun S w => by
  have e : (!(decide (16 = 5) || farB 16 S)) = (S == 0) := by unfold farB; cases h : S == 0 <;> simp_all [bne]
  rw [e]
  exact of_all S w⟩
theorem take_16 (K : UInt8) (hk : K.toNat = 16) (p q : Nat) : TakeOK K 95 #[.pointer (some ⟨p, 0, none⟩), .pointer (some ⟨q, 0, none⟩)] [(p, #[.int .i64 4], 3), (q, #[.func (.func 75) #[] #[]], 47)] := ⟨enters_of Tryz.func95 (by kernel_rfl) rfl, fun F S g A n c xs w hE hN hn hnc => by
  have hx : xs.length = n := (hE.s (A, n, xs) (by simp)).1.1
  by_cases hlen : 4 ≤ n
  · have hlo : longB K.toNat F xs.length = false := by unfold longB; simp [hk, hx]; omega
    exact Calls.args (x_atLeast_yes 4 75 K F S g p q A n c xs w hE hN hn hnc (by omega) (enters_of Tryz.func75 (by kernel_rfl) rfl) (Lib.hid (fun w0 h => k_urg K F S g A n c xs w0 h hN hn hnc hlo hk hlen))) (by simp)
  · have hlo : longB K.toNat F xs.length = true := by unfold longB; simp [hk, hx]; omega
    exact Calls.args (x_atLeast_no 4 75 K F S g p q A n c xs w hE hN hn hnc (by omega) (tk_long hlo (by omega))) (by simp)⟩
theorem shapes_for (K : UInt8) (w : World) : Calls Tryz.prog 36 #[] w fun e w' => ∃ S, e = .returned (.map (some w.heap.size)) ∧ FnMap w' Tryz.prog 5 .u8 w.heap.size 11 S ∧
    ((knownB (K.toNat : Int) = true ∧ ∃ v, S (K.toNat : Int) = some v ∧ ShapeSpec K w v w') ∨ S (K.toNat : Int) = none ∧ knownB (K.toNat : Int) = false) ∧ Below w.heap.size w w' := by
  refine (shapes_any w).mono ?_
  rintro e w' ⟨p3, p6, p7, p8, p16, rfl, hM, hE, hp, hb⟩
  refine ⟨_, rfl, hM, ?_, hb⟩
  rcases kinds_of K.toNat with hk | hk | hk | hk | hk | hk | hk | hk | hk | hk | hk | hk
  · refine .inl ⟨by rw [hk]; decide, .agg #[.func (.func 56) #[] #[], .func (.func 59) #[] #[], .func (.func 60) #[] #[]], by rw [hk]; simp [mapS], 56, 59, _, [], by rw [hk]; rfl, by rw [hk]; exact of_0, take_0 K hk, by simp, ?_⟩
    rintro y hy
    cases hy
  · refine .inl ⟨by rw [hk]; decide, .agg #[.func (.func 56) #[] #[], .func (.func 61) #[] #[], .func (.func 62) #[] #[]], by rw [hk]; simp [mapS], 56, 61, _, [], by rw [hk]; rfl, by rw [hk]; exact of_1, take_1 K hk, by simp, ?_⟩
    rintro y hy
    cases hy
  · refine .inl ⟨by rw [hk]; decide, .agg #[.func (.func 56) #[] #[], .func (.func 63) #[] #[], .func (.func 64) #[] #[]], by rw [hk]; simp [mapS], 56, 63, _, [], by rw [hk]; rfl, by rw [hk]; exact of_2, take_2 K hk, by simp, ?_⟩
    rintro y hy
    cases hy
  · refine .inl ⟨by rw [hk]; decide, .agg #[.func (.func 56) #[] #[], .func (.func 89) #[] #[.pointer (some ⟨p3, 0, none⟩), .pointer (some ⟨p3 + 1, 0, none⟩)], .func (.func 67) #[] #[]], by rw [hk]; simp [mapS], 56, 89, _, [(p3, #[.int .i64 4], 3), (p3 + 1, #[.func (.func 66) #[] #[]], 47)], by rw [hk]; rfl, by rw [hk]; exact of_3, take_3 K hk _ _, by simp, ?_⟩
    rintro y hy
    rcases List.mem_cons.1 hy with rfl | hy
    · exact ⟨by omega, hE.row 9 rfl⟩
    · rw [List.mem_singleton.1 hy]
      exact ⟨by simp only; omega, hE.row 8 rfl⟩
  · refine .inl ⟨by rw [hk]; decide, .agg #[.func (.func 57) #[] #[], .func (.func 68) #[] #[], .func (.func 69) #[] #[]], by rw [hk]; simp [mapS], 57, 68, _, [], by rw [hk]; rfl, by rw [hk]; exact of_4, take_4 K hk, by simp, ?_⟩
    rintro y hy
    cases hy
  · refine .inl ⟨by rw [hk]; decide, .agg #[.func (.func 58) #[] #[], .func (.func 38) #[] #[], .func (.func 39) #[] #[]], by rw [hk]; simp [mapS], 58, 38, _, [], by rw [hk]; rfl, by rw [hk]; exact of_5, take_5 K hk, by simp, ?_⟩
    rintro y hy
    cases hy
  · refine .inl ⟨by rw [hk]; decide, .agg #[.func (.func 57) #[] #[], .func (.func 89) #[] #[.pointer (some ⟨p6, 0, none⟩), .pointer (some ⟨p6 + 1, 0, none⟩)], .func (.func 39) #[] #[]], by rw [hk]; simp [mapS], 57, 89, _, [(p6, #[.int .i64 8], 3), (p6 + 1, #[.func (.func 38) #[] #[]], 47)], by rw [hk]; rfl, by rw [hk]; exact of_6, take_6 K hk _ _, by simp, ?_⟩
    rintro y hy
    rcases List.mem_cons.1 hy with rfl | hy
    · exact ⟨by omega, hE.row 7 rfl⟩
    · rw [List.mem_singleton.1 hy]
      exact ⟨by simp only; omega, hE.row 6 rfl⟩
  · refine .inl ⟨by rw [hk]; decide, .agg #[.func (.func 57) #[] #[], .func (.func 95) #[] #[.pointer (some ⟨p7, 0, none⟩), .pointer (some ⟨p7 + 1, 0, none⟩)], .func (.func 72) #[] #[]], by rw [hk]; simp [mapS], 57, 95, _, [(p7, #[.int .i64 8], 3), (p7 + 1, #[.func (.func 71) #[] #[]], 47)], by rw [hk]; rfl, by rw [hk]; exact of_7, take_7 K hk _ _, by simp, ?_⟩
    rintro y hy
    rcases List.mem_cons.1 hy with rfl | hy
    · exact ⟨by omega, hE.row 5 rfl⟩
    · rw [List.mem_singleton.1 hy]
      exact ⟨by simp only; omega, hE.row 4 rfl⟩
  · refine .inl ⟨by rw [hk]; decide, .agg #[.func (.func 37) #[] #[], .func (.func 89) #[] #[.pointer (some ⟨p8, 0, none⟩), .pointer (some ⟨p8 + 1, 0, none⟩)], .func (.func 74) #[] #[]], by rw [hk]; simp [mapS], 37, 89, _, [(p8, #[.int .i64 4], 3), (p8 + 1, #[.func (.func 73) #[] #[]], 47)], by rw [hk]; rfl, by rw [hk]; exact of_8, take_8 K hk _ _, by simp, ?_⟩
    rintro y hy
    rcases List.mem_cons.1 hy with rfl | hy
    · exact ⟨by omega, hE.row 3 rfl⟩
    · rw [List.mem_singleton.1 hy]
      exact ⟨by simp only; omega, hE.row 2 rfl⟩
  · refine .inl ⟨by rw [hk]; decide, .agg #[.func (.func 56) #[] #[], .func (.func 38) #[] #[], .func (.func 39) #[] #[]], by rw [hk]; simp [mapS], 56, 38, _, [], by rw [hk]; rfl, by rw [hk]; exact of_9, take_9 K hk, by simp, ?_⟩
    rintro y hy
    cases hy
  · refine .inl ⟨by rw [hk]; decide, .agg #[.func (.func 57) #[] #[], .func (.func 95) #[] #[.pointer (some ⟨p16, 0, none⟩), .pointer (some ⟨p16 + 1, 0, none⟩)], .func (.func 76) #[] #[]], by rw [hk]; simp [mapS], 57, 95, _, [(p16, #[.int .i64 4], 3), (p16 + 1, #[.func (.func 75) #[] #[]], 47)], by rw [hk]; rfl, by rw [hk]; exact of_16, take_16 K hk _ _, by simp, ?_⟩
    rintro y hy
    rcases List.mem_cons.1 hy with rfl | hy
    · exact ⟨by omega, hE.row 1 rfl⟩
    · rw [List.mem_singleton.1 hy]
      exact ⟨by simp only; omega, hE.row 0 rfl⟩
  · obtain ⟨h0, h1, h2, h3, h4, h5, h6, h7, h8, h9, h16⟩ := hk
    refine .inr ⟨?_, ?_⟩
    · unfold mapS
      simp only [show ¬ (K.toNat : Int) = 0 from by omega, show ¬ (K.toNat : Int) = 1 from by omega, show ¬ (K.toNat : Int) = 2 from by omega, show ¬ (K.toNat : Int) = 3 from by omega, show ¬ (K.toNat : Int) = 4 from by omega, show ¬ (K.toNat : Int) = 5 from by omega, show ¬ (K.toNat : Int) = 6 from by omega, show ¬ (K.toNat : Int) = 7 from by omega, show ¬ (K.toNat : Int) = 8 from by omega, show ¬ (K.toNat : Int) = 9 from by omega, show ¬ (K.toNat : Int) = 16 from by omega, if_false]
    · unfold knownB
      simp only [decide_eq_false_iff_not]
      omega
theorem shape_else (K : UInt8) (w w' : World) (hk : knownB (K.toNat : Int) = false) : ShapeSpec K w (.agg #[.func (.func 37) #[] #[], .func (.func 38) #[] #[], .func (.func 39) #[] #[]]) w' := by
  unfold knownB at hk
  simp only [decide_eq_false_iff_not] at hk
  have hL : layF K.toNat = 39 := by
    unfold layF
    simp only [show ¬ K.toNat = 0 from by omega, show ¬ K.toNat = 1 from by omega, show ¬ K.toNat = 2 from by omega, show ¬ K.toNat = 3 from by omega, show ¬ K.toNat = 4 from by omega, show ¬ K.toNat = 5 from by omega, show ¬ K.toNat = 6 from by omega, show ¬ K.toNat = 7 from by omega, show ¬ K.toNat = 8 from by omega, show ¬ K.toNat = 9 from by omega, show ¬ K.toNat = 16 from by omega, if_false]
  refine ⟨37, 38, #[], [], by rw [hL], ⟨enters_of Tryz.func37 (by kernel_rfl) rfl, fun S w => ?_⟩, ⟨enters_of Tryz.func38 (by kernel_rfl) rfl, fun F S g A n c xs w hE hN hn hnc => Calls.args (k_rest K F S g A n c xs w hE hN hn hnc ?_ (by omega)) (by simp)⟩, by simp, fun y hy => by cases hy⟩
  · have e : (!(decide (K.toNat = 5) || farB K.toNat S)) = true := by
      unfold farB
      simp only [show ¬ K.toNat = 0 from by omega, show ¬ K.toNat = 1 from by omega, show ¬ K.toNat = 2 from by omega, show ¬ K.toNat = 3 from by omega, show ¬ K.toNat = 4 from by omega, show ¬ K.toNat = 5 from by omega, show ¬ K.toNat = 6 from by omega, show ¬ K.toNat = 7 from by omega, show ¬ K.toNat = 8 from by omega, show ¬ K.toNat = 9 from by omega, show ¬ K.toNat = 16 from by omega, false_or, or_false, if_false, or_self, decide_false, Bool.or_self, Bool.not_false]
    rw [e]
    exact of_any S w
  · unfold longB
    simp only [show ¬ K.toNat = 0 from by omega, show ¬ K.toNat = 1 from by omega, show ¬ K.toNat = 2 from by omega, show ¬ K.toNat = 3 from by omega, show ¬ K.toNat = 4 from by omega, show ¬ K.toNat = 5 from by omega, show ¬ K.toNat = 6 from by omega, show ¬ K.toNat = 7 from by omega, show ¬ K.toNat = 8 from by omega, show ¬ K.toNat = 9 from by omega, show ¬ K.toNat = 16 from by omega, false_or, or_false, if_false, or_self]
theorem info_SH : (Tryz.prog.info? 49).map (·.size) = some 3 := by kernel_rfl
theorem info_SHz : (Tryz.prog.info? 49).map (·.zero) = some (some (.agg #[.nilFunc, .nilFunc, .nilFunc])) := by kernel_rfl
theorem zero_SH (w : World) : (zeroValue 49).run Tryz.prog w = .ok (.agg #[.nilFunc, .nilFunc, .nilFunc]) w := by
  have h := info_SHz
  cases hq : Tryz.prog.info? 49 with
  | none => rw [hq] at h; cases h
  | some i =>
    rw [hq] at h
    have hz : i.zero = some (.agg #[.nilFunc, .nilFunc, .nilFunc]) := by simpa using h
    simp [zeroValue, typeInfo, hq, hz]
set_option maxRecDepth 100000 in
set_option maxHeartbeats 4000000 in
theorem shapeOf_E (K : UInt8) (R : World → World → Prop) (HS : Hid (∀ w0, Calls Tryz.prog 36 #[] w0 fun e w' => ∃ S, e = .returned (.map (some w0.heap.size)) ∧ FnMap w' Tryz.prog 5 .u8 w0.heap.size 11 S ∧ S (K.toNat : Int) = none ∧ Below w0.heap.size w0 w' ∧ R w0 w')) (w : World) : Calls Tryz.prog 20 #[.int .u8 K.toNat] w fun e w' => e = .returned (.agg #[.func (.func 37) #[] #[], .func (.func 38) #[] #[], .func (.func 39) #[] #[]]) ∧ Below w.heap.size w w' := by
  have hwf : (Lit.int .u8 K.toNat).wf = true := by
    have := K.toNat_lt
    simp [Lit.wf, IntKind.min, IntKind.max, IntKind.signed, IntKind.bits]
    omega
  have HWF := Lib.hid hwf
  have K0 : Hid (EnvB (w.alloc (.cells #[.nilFunc, .nilFunc, .nilFunc] 49)) [] [] [(w.heap.size, #[.nilFunc, .nilFunc, .nilFunc], 49)]) := Lib.hid ((EnvB.nil w).box 49 #[.nilFunc, .nilFunc, .nilFunc])
  have B0 : Hid (Below w.heap.size w (w.alloc (.cells #[.nilFunc, .nilFunc, .nilFunc] 49))) := Lib.hid ((Below.refl _ w).alloc (Nat.le_refl _) _)
  clear hwf
  go_enter Tryz.func20, Tryz.ntmps20
  go_wp2_with (first
    | (go_at_call 36; (refine (HS.out _).mono ?_); rintro e w1 ⟨S, rfl, hM, hS, hb, hR⟩; have K1 := Lib.hid (K0.out.on hb); have B1 := Lib.hid (below_step B0.out hb); rw [World.size_alloc] at hM; have HM := Lib.hid hM; have HS1 := Lib.hid hS; have HR1 := Lib.hid hR; have hsz1 := hb.size; have HW1 := Lib.hid (Below.refl w1.heap.size w1); clear hM hS hR; clear hb K0 B0; have K2 := Lib.hid (K1.out.box 49 #[.nilFunc, .nilFunc, .nilFunc]); have B2 := Lib.hid (B1.out.alloc B1.out.size (.cells #[.nilFunc, .nilFunc, .nilFunc] 49)); clear K1 B1)
    | (refine at_lookup2 67 (.tmp 6) (.tmp 7) (by rfl) ?_; refine wpList_lookup_fn _ rfl (.tmp 6) (.tmp 7) 67 (by rfl) .u8 5 49 Tryz.underlying5 Tryz.underlying67 (zero_SH _) _ _ _ (K.toNat : Int) (by first | rfl | (simp; done)) HM.out (by rfl) HWF.out ?_; rw [HS1.out]; rw [Option.getD_none, Option.isSome_none])
    | (refine at_store 49 (.tmp 3) (.tmp 9) (by rfl) ?_; refine wpList_put (by rfl) 49 (.tmp 3) (.tmp 9) (by rfl) (w1.heap.size) 0 (.agg #[.nilFunc, .nilFunc, .nilFunc]) (by rfl) (by rfl) 49 _ #[.nilFunc, .nilFunc, .nilFunc] (K2.out.row 0 rfl) (by simp [Value.cells]) (by kernel_rfl) info_SH (by kernel_rfl) ?_; intro w3 hrow hoth hz hbl; have K3 := Lib.hid (K2.out.turn 0 rfl hrow hoth hz); have B3 := Lib.hid (hbl _ _ (by simp at hsz1; omega) B2.out); clear hrow hoth hz hbl K2 B2)
    | (refine at_store 49 (.tmp 2) (.tmp 13) (by rfl) ?_; refine wpList_put (by rfl) 49 (.tmp 2) (.tmp 13) (by rfl) (w.heap.size) 0 (.agg #[.func (.func 37) #[] #[], .func (.func 38) #[] #[], .func (.func 39) #[] #[]]) (by rfl) (by rfl) 49 _ #[.func (.func 37) #[] #[], .func (.func 38) #[] #[], .func (.func 39) #[] #[]] (K3.out.row 1 rfl) (by simp [Value.cells]) (by kernel_rfl) info_SH (by kernel_rfl) ?_; intro w4 hrow hoth hz hbl; have K4 := Lib.hid (K3.out.turn 1 rfl hrow hoth hz); have B4 := Lib.hid (hbl _ _ (Nat.le_refl _) B3.out); clear hrow hoth hz hbl K3 B3))
  exact bodyPost_ret (res_cell1 rfl _ _ _ _ _ _ rfl (K4.out.row 1 rfl) Tryz.underlying49 rfl info_SH) rfl ⟨rfl, B4.out⟩
set_option maxRecDepth 100000 in
set_option maxHeartbeats 4000000 in
theorem shapeOf_K (K : UInt8) (R : World → World → Value → Prop) (HS : Hid (∀ w0, Calls Tryz.prog 36 #[] w0 fun e w' => ∃ S O J L cap, e = .returned (.map (some w0.heap.size)) ∧ FnMap w' Tryz.prog 5 .u8 w0.heap.size 11 S ∧ S (K.toNat : Int) = some (.agg #[.func (.func O) #[] #[], .func (.func J) #[] cap, .func (.func L) #[] #[]]) ∧ Below w0.heap.size w0 w' ∧ R w0 w' (.agg #[.func (.func O) #[] #[], .func (.func J) #[] cap, .func (.func L) #[] #[]]))) (w : World) : Calls Tryz.prog 20 #[.int .u8 K.toNat] w fun e w' => ∃ O J L cap W, e = .returned (.agg #[.func (.func O) #[] #[], .func (.func J) #[] cap, .func (.func L) #[] #[]]) ∧ R (w.alloc (.cells #[.nilFunc, .nilFunc, .nilFunc] 49)) W (.agg #[.func (.func O) #[] #[], .func (.func J) #[] cap, .func (.func L) #[] #[]]) ∧ TurnB w.heap.size W w' ∧ Below w.heap.size w w' := by
  have hwf : (Lit.int .u8 K.toNat).wf = true := by
    have := K.toNat_lt
    simp [Lit.wf, IntKind.min, IntKind.max, IntKind.signed, IntKind.bits]
    omega
  have HWF := Lib.hid hwf
  have K0 : Hid (EnvB (w.alloc (.cells #[.nilFunc, .nilFunc, .nilFunc] 49)) [] [] [(w.heap.size, #[.nilFunc, .nilFunc, .nilFunc], 49)]) := Lib.hid ((EnvB.nil w).box 49 #[.nilFunc, .nilFunc, .nilFunc])
  have B0 : Hid (Below w.heap.size w (w.alloc (.cells #[.nilFunc, .nilFunc, .nilFunc] 49))) := Lib.hid ((Below.refl _ w).alloc (Nat.le_refl _) _)
  clear hwf
  go_enter Tryz.func20, Tryz.ntmps20
  go_wp2_with (first
    | (go_at_call 36; (refine (HS.out _).mono ?_); rintro e w1 ⟨S, O, J, L, cap, rfl, hM, hS, hb, hR⟩; have K1 := Lib.hid (K0.out.on hb); have B1 := Lib.hid (below_step B0.out hb); rw [World.size_alloc] at hM; have HM := Lib.hid hM; have HS1 := Lib.hid hS; have HR1 := Lib.hid hR; have hsz1 := hb.size; have HW1 := Lib.hid (Below.refl w1.heap.size w1); clear hM hS hR; clear hb K0 B0; have K2 := Lib.hid (K1.out.box 49 #[.nilFunc, .nilFunc, .nilFunc]); have B2 := Lib.hid (B1.out.alloc B1.out.size (.cells #[.nilFunc, .nilFunc, .nilFunc] 49)); clear K1 B1)
    | (refine at_lookup2 67 (.tmp 6) (.tmp 7) (by rfl) ?_; refine wpList_lookup_fn _ rfl (.tmp 6) (.tmp 7) 67 (by rfl) .u8 5 49 Tryz.underlying5 Tryz.underlying67 (zero_SH _) _ _ _ (K.toNat : Int) (by first | rfl | (simp; done)) HM.out (by rfl) HWF.out ?_; rw [HS1.out]; rw [Option.getD_some, Option.isSome_some])
    | (refine at_store 49 (.tmp 3) (.tmp 9) (by rfl) ?_; refine wpList_put (by rfl) 49 (.tmp 3) (.tmp 9) (by rfl) (w1.heap.size) 0 (.agg #[.func (.func O) #[] #[], .func (.func J) #[] cap, .func (.func L) #[] #[]]) (by rfl) (by rfl) 49 _ #[.func (.func O) #[] #[], .func (.func J) #[] cap, .func (.func L) #[] #[]] (K2.out.row 0 rfl) (by simp [Value.cells]) (by kernel_rfl) info_SH (by kernel_rfl) ?_; intro w3 hrow hoth hz hbl; have K3 := Lib.hid (K2.out.turn 0 rfl hrow hoth hz); have B3 := Lib.hid (hbl _ _ (by simp at hsz1; omega) B2.out); have HWa := Lib.hid (hbl _ _ (Nat.le_refl _) (HW1.out.alloc (Nat.le_refl _) _)); clear hrow hoth hz hbl K2 B2)
    | (refine at_load 49 (.tmp 3) (by rfl) ?_; refine wpList_load_row (by rfl) 49 (.tmp 3) (by rfl) (w1.heap.size) (by rfl) 49 _ (0, 0) _ (K3.out.row 0 rfl) Tryz.underlying49 (by rfl) info_SH ?_)
    | (refine at_store 49 (.tmp 2) (.tmp 12) (by rfl) ?_; refine wpList_put (by rfl) 49 (.tmp 2) (.tmp 12) (by rfl) (w.heap.size) 0 (.agg #[.func (.func O) #[] #[], .func (.func J) #[] cap, .func (.func L) #[] #[]]) (by rfl) (by rfl) 49 _ #[.func (.func O) #[] #[], .func (.func J) #[] cap, .func (.func L) #[] #[]] (K3.out.row 1 rfl) (by simp [Value.cells]) (by kernel_rfl) info_SH (by kernel_rfl) ?_; intro w4 hrow hoth hz hbl; have K4 := Lib.hid (K3.out.turn 1 rfl hrow hoth hz); have B4 := Lib.hid (hbl _ _ (Nat.le_refl _) B3.out); have HTb := Lib.hid ((TurnB.of HWa.out).putg hoth hz hbl); clear hrow hoth hz hbl K3 B3))
  exact bodyPost_ret (res_cell1 rfl _ _ _ _ _ _ rfl (K4.out.row 1 rfl) Tryz.underlying49 rfl info_SH) rfl ⟨O, J, L, cap, w1, rfl, HR1.out, HTb.out, B4.out⟩
theorem shapeOf_any (K : UInt8) (w : World) : Calls Tryz.prog 20 #[.int .u8 K.toNat] w fun e w' => ∃ v, e = .returned v ∧ ShapeSpec K w v w' ∧ Below w.heap.size w w' := by
  by_cases hk : knownB (K.toNat : Int) = true
  · refine (shapeOf_K K (fun w0 w' v => ShapeSpec K w0 v w' ∧ ∀ L, (∃ O J cap, v = .agg #[.func (.func O) #[] #[], .func (.func J) #[] cap, .func (.func L) #[] #[]]) → L = layF K.toNat) (Lib.hid (fun w0 => (shapes_for K w0).mono ?_)) w).mono ?_
    · rintro e w' ⟨S, rfl, hM, h, hb⟩
      rcases h with ⟨_, v, hS, O, J, cap, cl, rfl, h1⟩ | ⟨_, h⟩
      · exact ⟨S, O, J, layF K.toNat, cap, rfl, hM, hS, hb, ⟨O, J, cap, cl, rfl, h1⟩, fun L ⟨O', J', cap', e⟩ => by cases e; rfl⟩
      · rw [hk] at h; cases h
    · rintro e w' ⟨O, J, L, cap, W, rfl, ⟨⟨O', J', cap', cl, e, h1, h2, h3, h4⟩, _⟩, ht, hb⟩
      refine ⟨_, rfl, ⟨O', J', cap', cl, e, h1, h2, h3, fun y hy => ?_⟩, hb⟩
      obtain ⟨h5, h6⟩ := h4 y hy
      rw [World.size_alloc] at h5
      exact ⟨by omega, (ht.oth y.1 (Array.getElem?_eq_some_iff.1 h6).1 (by omega)).trans h6⟩
  · have hk' : knownB (K.toNat : Int) = false := by simpa using hk
    refine (shapeOf_E K (fun _ _ => True) (Lib.hid (fun w0 => (shapes_for K w0).mono ?_)) w).mono ?_
    · rintro e w' ⟨S, rfl, hM, h, hb⟩
      rcases h with ⟨h, _⟩ | ⟨h, _⟩
      · rw [hk'] at h; cases h
      · exact ⟨S, rfl, hM, h, hb, trivial⟩
    · rintro e w' ⟨rfl, hb⟩
      exact ⟨_, rfl, shape_else K w w' hk', hb⟩
end Go.Proofs.YtbflhphjnmhjhaaGreat
