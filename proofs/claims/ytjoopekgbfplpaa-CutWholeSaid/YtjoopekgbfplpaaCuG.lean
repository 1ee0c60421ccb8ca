/- Package cut: Feed, the main path. -/
import Derived.Test.YtjoopekgbfplpaaCuE
namespace Go.Proofs.Ytjoopekgbfplpaa
open Go.RowKit Oct Cu Go.Shelf
set_option linter.unusedVariables false
set_option linter.unusedSimpArgs false
attribute [local go_sem] Oper.semAt_some
/-- A piece of code that only falls off its end. -/
theorem wp_then_only {P : Program} {c : Code} {K : Act → World → Prop} {Q : Exit → Act → World → Prop} {a : Act} {w : World} (h : c.wp P (Exit.then K fun _ _ _ => False) a w) : c.wp P (Exit.then K Q) a w :=
  Code.wp_mono (fun e a w h => by cases e <;> first | exact h | exact h.elim) h
set_option maxRecDepth 100000 in
set_option maxHeartbeats 4000000 in
theorem c_feed2Y (p : Nat) (A A' : Option Addr) (n c n' c' : Nat) (r cs : List UInt8) (w : World) (hA : Bs w w.heap.size A n r) (hN : A = none → c = 0) (hnc : n ≤ c) (hn : n ≤ 50000) (hA' : Bs w w.heap.size A' n' cs) (hN' : A' = none → c' = 0) (hnc' : n' ≤ c') (hn' : n' ≤ 50000) (hR : RightR p r) (g : Nat) (hg : gre p cs = g) (h24 : ((g : Int) == 24) = true) (xs : List UInt8) (hxs : (r ++ cs.drop (g - p)) = xs) :
    Calls Try.prog 7 #[.agg #[.int .i64 (p : Int), .slice A n c], .slice A' n' c'] w fun e w' => ∃ A1 n1 c1 A2 n2 c2 qs, e = .returned (.tuple #[.agg #[.int .i64 (g : Int), .slice A1 n1 c1], .slice A2 n2 c2, .agg #[.bool (decide (Bad (rs xs))), .int .i64 0, .int .u32 (if Bad (rs xs) then 6 else 0)], .int .i64 0]) ∧ HandS w' w.heap.size A1 n1 c1 (if Bad (rs xs) then [] else rs xs) ∧ HandQ w' w.heap.size A2 n2 c2 qs ∧ qs.map (·.f) = fs xs ∧ Below w.heap.size w w' := by
  have hp24 : p ≤ 24 := by unfold RightR at hR; omega
  have hgl := gre_le cs p
  have hl' := hA'.1
  rw [hg] at hgl
  have e1 : ((g : Int) - (p : Int)) = ((g - p : Nat) : Int) := by omega
  have s1 : IntKind.i64.wrap ((g : Int) - (p : Int)) = ((g - p : Nat) : Int) := by rw [e1]; exact IntWalk.i64_in _ (by omega)
  have s2 : (0 : Int) ≤ ((g - p : Nat) : Int) := by omega
  have s3 : ((g - p : Nat) : Int) ≤ (n' : Int) := by omega
  have s4 : ((g - p : Nat) : Int).toNat = g - p := by omega
  obtain ⟨A3, hA3⟩ : ∃ A3, (if c' = g - p then A' else A'.map fun x => x.add (g - p)) = A3 := ⟨_, rfl⟩
  have HCUT := Lib.hid (Bs.cutO' hA' (k := g - p) (by omega) hnc')
  rw [hA3] at HCUT
  have HN3 := Lib.hid (cutO_none' hA3 hN')
  clear e1
  have K0 : Hid (EnvF (((((w.alloc (.cells #[.int .i64 (p : Int), .slice A n c] 24)).alloc (.cells #[.int .i64 0, .slice none 0 0] 24)).alloc (.cells #[.slice none 0 0] 28)).alloc (.cells #[.bool false, .int .i64 0, .int .u32 0] 31)).alloc (.cells #[.slice none 0 0] 22)) [bF A3 (n' - (g - p)) (cs.drop (g - p)), bF A' n' cs, bF A n r] [(w.heap.size + 1 + 1 + 1 + 1, #[.slice none 0 0], 22), (w.heap.size + 1 + 1 + 1, #[.bool false, .int .i64 0, .int .u32 0], 31), (w.heap.size + 1 + 1, #[.slice none 0 0], 28), (w.heap.size + 1, #[.int .i64 0, .slice none 0 0], 24), (w.heap.size, #[.int .i64 (p : Int), .slice A n c], 24)]) := Lib.hid (((((((((EnvF.nil w).addB hA).addB hA').addB HCUT.out).boxg 24 #[.int .i64 (p : Int), .slice A n c] (w.heap.size) (by simp)).boxg 24 #[.int .i64 0, .slice none 0 0] (w.heap.size + 1) (by simp)).boxg 28 #[.slice none 0 0] (w.heap.size + 1 + 1) (by simp)).boxg 31 #[.bool false, .int .i64 0, .int .u32 0] (w.heap.size + 1 + 1 + 1) (by simp)).boxg 22 #[.slice none 0 0] (w.heap.size + 1 + 1 + 1 + 1) (by simp))
  have B0 : Hid (Below w.heap.size w (((((w.alloc (.cells #[.int .i64 (p : Int), .slice A n c] 24)).alloc (.cells #[.int .i64 0, .slice none 0 0] 24)).alloc (.cells #[.slice none 0 0] 28)).alloc (.cells #[.bool false, .int .i64 0, .int .u32 0] 31)).alloc (.cells #[.slice none 0 0] 22))) := Lib.hid ((((((Below.refl _ w).alloc (by first | exact Nat.le_refl _ | (simp only [World.size_alloc]; omega)) (.cells #[.int .i64 (p : Int), .slice A n c] 24)).alloc (by first | exact Nat.le_refl _ | (simp only [World.size_alloc]; omega)) (.cells #[.int .i64 0, .slice none 0 0] 24)).alloc (by first | exact Nat.le_refl _ | (simp only [World.size_alloc]; omega)) (.cells #[.slice none 0 0] 28)).alloc (by first | exact Nat.le_refl _ | (simp only [World.size_alloc]; omega)) (.cells #[.bool false, .int .i64 0, .int .u32 0] 31)).alloc (by first | exact Nat.le_refl _ | (simp only [World.size_alloc]; omega)) (.cells #[.slice none 0 0] 22))
  refine (callsIn_wide (n := 6)).1 (callsIn_of_wp_marks Try.func7 rfl trivial ?_ rfl)
  refine wpIn_wide.2 ?_
  simp only [Try.ntmps7, List.size_toArray, List.length_cons, List.length_nil, Nat.reduceAdd, Nat.reduceSub, Array.replicate_succ, Array.replicate_zero, List.push_toArray, List.append_toArray, List.nil_append, List.cons_append]
  have hlr := hA.1
  clear hA hA' hN' HCUT
  go_wp2
  refine wp_scope_forward 1 rfl ?_
  go_wp2_with (first
    | go_skip
    | (refine at_load 24 (.tmp 2) (by rfl) ?_; refine wpList_load_row (by rfl) 24 (.tmp 2) (by rfl) (w.heap.size) (by rfl) 24 #[.int .i64 (p : Int), .slice A n c] (0, 0) _ (K0.out.row 4 rfl) Try.underlying24 (by rfl) infoc_R ?_)
    | (go_at_call 15; (have hc := (c_right_t p A n c r _ (K0.out.bs (A := A) (n := n) (xs := r) (by simp)) hnc (by omega) hR); (with_reducible refine hc.mono ?_); clear hc); rintro e w1 ⟨rfl, hb⟩; have K1 : Hid (EnvF w1 [bF A3 (n' - (g - p)) (cs.drop (g - p)), bF A' n' cs, bF A n r] [(w.heap.size + 1 + 1 + 1 + 1, #[.slice none 0 0], 22), (w.heap.size + 1 + 1 + 1, #[.bool false, .int .i64 0, .int .u32 0], 31), (w.heap.size + 1 + 1, #[.slice none 0 0], 28), (w.heap.size + 1, #[.int .i64 0, .slice none 0 0], 24), (w.heap.size, #[.int .i64 (p : Int), .slice A n c], 24)]) := Lib.hid (K0.out.on hb); have B1 : Hid (Below w.heap.size w w1) := Lib.hid (below_step B0.out hb); clear hb K0 B0)
    | (refine at_load 3 (.tmp 15) (by rfl) ?_; refine wpList_get (by rfl) 3 (.tmp 15) (by rfl) (w.heap.size) 0 (by rfl) 24 #[.int .i64 (p : Int), .slice A n c] (.int .i64 (p : Int)) _ (K1.out.row 4 rfl) (by rfl) Try.underlying3 (by rfl) ?_)
    | (go_at_call 17; (have hc := (c_greeted' p A' n' c' cs _ (K1.out.bs (A := A') (n := n') (xs := cs) (by simp)) hp24 (by omega) g hg); (with_reducible refine hc.mono ?_); clear hc); rintro e w2 ⟨rfl, hb⟩; have K2 : Hid (EnvF w2 [bF A3 (n' - (g - p)) (cs.drop (g - p)), bF A' n' cs, bF A n r] [(w.heap.size + 1 + 1 + 1 + 1, #[.slice none 0 0], 22), (w.heap.size + 1 + 1 + 1, #[.bool false, .int .i64 0, .int .u32 0], 31), (w.heap.size + 1 + 1, #[.slice none 0 0], 28), (w.heap.size + 1, #[.int .i64 0, .slice none 0 0], 24), (w.heap.size, #[.int .i64 (p : Int), .slice A n c], 24)]) := Lib.hid (K1.out.on hb); have B2 : Hid (Below w.heap.size w w2) := Lib.hid (below_step B1.out hb); clear hb K1 B1)
    | (refine at_store 3 (.tmp 19) (.tmp 18) (by rfl) ?_; refine wpList_put (by rfl) 3 (.tmp 19) (.tmp 18) (by rfl) (w.heap.size + 1) 0 (.int .i64 (g : Int)) (by rfl) (by rfl) 24 #[.int .i64 0, .slice none 0 0] #[.int .i64 (g : Int), .slice none 0 0] (K2.out.row 3 rfl) (by simp [Value.cells]) (by kernel_rfl) infoc_i (by kernel_rfl) ?_; intro w3 hrow hoth hz hbl; have K3 : Hid (EnvF w3 [bF A3 (n' - (g - p)) (cs.drop (g - p)), bF A' n' cs, bF A n r] [(w.heap.size + 1 + 1 + 1 + 1, #[.slice none 0 0], 22), (w.heap.size + 1 + 1 + 1, #[.bool false, .int .i64 0, .int .u32 0], 31), (w.heap.size + 1 + 1, #[.slice none 0 0], 28), (w.heap.size + 1, #[.int .i64 (g : Int), .slice none 0 0], 24), (w.heap.size, #[.int .i64 (p : Int), .slice A n c], 24)]) := Lib.hid (K2.out.turn 3 rfl hrow hoth hz); have B3 : Hid (Below w.heap.size w w3) := Lib.hid (hbl _ _ (by omega) B2.out); clear hrow hoth hz hbl K2 B2)
    | (refine at_load 3 (.tmp 21) (by rfl) ?_; refine wpList_get (by rfl) 3 (.tmp 21) (by rfl) (w.heap.size + 1) 0 (by rfl) 24 #[.int .i64 (g : Int), .slice none 0 0] (.int .i64 (g : Int)) _ (K3.out.row 3 rfl) (by rfl) Try.underlying3 (by rfl) ?_)
    | (refine at_load 3 (.tmp 23) (by rfl) ?_; refine wpList_get (by rfl) 3 (.tmp 23) (by rfl) (w.heap.size) 0 (by rfl) 24 #[.int .i64 (p : Int), .slice A n c] (.int .i64 (p : Int)) _ (K3.out.row 4 rfl) (by rfl) Try.underlying3 (by rfl) ?_)
    | (refine at_load 24 (.tmp 4) (by rfl) ?_; refine wpList_load_row (by rfl) 24 (.tmp 4) (by rfl) (w.heap.size + 1) (by rfl) 24 #[.int .i64 (g : Int), .slice none 0 0] (0, 0) _ (K3.out.row 3 rfl) Try.underlying24 (by rfl) infoc_R ?_)
    | (go_at_call 14; (have hc := (c_begun' (g : Int) _ h24 none 0 0 w3); (with_reducible refine hc.mono ?_); clear hc); rintro e w4 ⟨rfl, hb⟩; have K4 : Hid (EnvF w4 [bF A3 (n' - (g - p)) (cs.drop (g - p)), bF A' n' cs, bF A n r] [(w.heap.size + 1 + 1 + 1 + 1, #[.slice none 0 0], 22), (w.heap.size + 1 + 1 + 1, #[.bool false, .int .i64 0, .int .u32 0], 31), (w.heap.size + 1 + 1, #[.slice none 0 0], 28), (w.heap.size + 1, #[.int .i64 (g : Int), .slice none 0 0], 24), (w.heap.size, #[.int .i64 (p : Int), .slice A n c], 24)]) := Lib.hid (K3.out.on hb); have B4 : Hid (Below w.heap.size w w4) := Lib.hid (below_step B3.out hb); clear hb K3 B3)
    | (refine at_load 22 (.tmp 36) (by rfl) ?_; refine wpList_get (by rfl) 22 (.tmp 36) (by rfl) (w.heap.size) 1 (by rfl) 24 #[.int .i64 (p : Int), .slice A n c] (.slice A n c) _ (K4.out.row 4 rfl) (by rfl) Try.underlying22 (by rfl) ?_)
    | (go_at_call 18; (have hc := (c_joined A A3 n c (n' - (g - p)) (c' - (g - p)) r (cs.drop (g - p)) _ (K4.out.bs (A := A) (n := n) (xs := r) (by simp)) hN (K4.out.bs (A := A3) (n := (n' - (g - p))) (xs := (cs.drop (g - p))) (by simp)) HN3.out (by omega)); (with_reducible refine hc.mono ?_); clear hc); rintro e w5 ⟨A4, c4, rfl, hh, hb⟩; have HC4 := Lib.hid hh.2.2; have K5 : Hid (EnvF w5 [bF A4 (n + (n' - (g - p))) (r ++ cs.drop (g - p)), bF A3 (n' - (g - p)) (cs.drop (g - p)), bF A' n' cs, bF A n r] [(w.heap.size + 1 + 1 + 1 + 1, #[.slice none 0 0], 22), (w.heap.size + 1 + 1 + 1, #[.bool false, .int .i64 0, .int .u32 0], 31), (w.heap.size + 1 + 1, #[.slice none 0 0], 28), (w.heap.size + 1, #[.int .i64 (g : Int), .slice none 0 0], 24), (w.heap.size, #[.int .i64 (p : Int), .slice A n c], 24)]) := Lib.hid (K4.out.handS hb hh); have B5 : Hid (Below w.heap.size w w5) := Lib.hid (below_step B4.out hb); clear hb hh K4 B4)
    | (refine at_store 22 (.tmp 8) (.tmp 39) (by rfl) ?_; refine wpList_put (by rfl) 22 (.tmp 8) (.tmp 39) (by rfl) (w.heap.size + 1 + 1 + 1 + 1) 0 (.slice A4 (n + (n' - (g - p))) c4) (by rfl) (by rfl) 22 #[.slice none 0 0] #[.slice A4 (n + (n' - (g - p))) c4] (K5.out.row 0 rfl) (by simp [Value.cells]) (by kernel_rfl) infoc_B (by kernel_rfl) ?_; intro w6 hrow hoth hz hbl; have K6 : Hid (EnvF w6 [bF A4 (n + (n' - (g - p))) (r ++ cs.drop (g - p)), bF A3 (n' - (g - p)) (cs.drop (g - p)), bF A' n' cs, bF A n r] [(w.heap.size + 1 + 1 + 1 + 1, #[.slice A4 (n + (n' - (g - p))) c4], 22), (w.heap.size + 1 + 1 + 1, #[.bool false, .int .i64 0, .int .u32 0], 31), (w.heap.size + 1 + 1, #[.slice none 0 0], 28), (w.heap.size + 1, #[.int .i64 (g : Int), .slice none 0 0], 24), (w.heap.size, #[.int .i64 (p : Int), .slice A n c], 24)]) := Lib.hid (K5.out.turn 0 rfl hrow hoth hz); have B6 : Hid (Below w.heap.size w w6) := Lib.hid (hbl _ _ (by omega) B5.out); clear hrow hoth hz hbl K5 B5)
    | (refine at_load 22 (.tmp 8) (by rfl) ?_; refine wpList_get (by rfl) 22 (.tmp 8) (by rfl) (w.heap.size + 1 + 1 + 1 + 1) 0 (by rfl) 22 #[.slice A4 (n + (n' - (g - p))) c4] (.slice A4 (n + (n' - (g - p))) c4) _ (K6.out.row 0 rfl) (by rfl) Try.underlying22 (by rfl) ?_)
    | (go_at_call 19; (have hc := (c_pieces A4 (n + (n' - (g - p))) c4 w6); (with_reducible refine hc.mono ?_); clear hc); rintro e w' ⟨rfl, rfl⟩; have K7 : Hid (EnvF (w6.alloc (.cells #[.slice A4 (n + (n' - (g - p))) c4] 22)) [bF A4 (n + (n' - (g - p))) (r ++ cs.drop (g - p)), bF A3 (n' - (g - p)) (cs.drop (g - p)), bF A' n' cs, bF A n r] [(w6.heap.size, #[.slice A4 (n + (n' - (g - p))) c4], 22), (w.heap.size + 1 + 1 + 1 + 1, #[.slice A4 (n + (n' - (g - p))) c4], 22), (w.heap.size + 1 + 1 + 1, #[.bool false, .int .i64 0, .int .u32 0], 31), (w.heap.size + 1 + 1, #[.slice none 0 0], 28), (w.heap.size + 1, #[.int .i64 (g : Int), .slice none 0 0], 24), (w.heap.size, #[.int .i64 (p : Int), .slice A n c], 24)]) := Lib.hid (K6.out.box 22 #[.slice A4 (n + (n' - (g - p))) c4]); have B7 : Hid (Below w.heap.size w (w6.alloc (.cells #[.slice A4 (n + (n' - (g - p))) c4] 22))) := Lib.hid (B6.out.alloc B6.out.size (.cells #[.slice A4 (n + (n' - (g - p))) c4] 22)); have leit := B6.out.size; clear K6 B6))
  have hz0 := B7.out.size
  have hsz0 : ((w6.alloc (.cells #[.slice A4 (n + (n' - (g - p))) c4] 22))).heap.size = w6.heap.size + 1 := by simp
  obtain ⟨bk, hbk0, hbk1, hbk2, hbk3⟩ := bk_of K7.out (A := A4) (n := (n + (n' - (g - p)))) (xs := (r ++ cs.drop (g - p))) (by simp) (y := (w.heap.size + 1, #[.int .i64 (g : Int), .slice none 0 0], 24)) (by simp)
  have nlb := K7.out.ne 3 1 rfl rfl (by decide)
  have nlt := K7.out.ne 3 0 rfl rfl (by decide)
  have nbt := K7.out.ne 1 0 rfl rfl (by decide)
  have nol := K7.out.ne 4 3 rfl rfl (by decide)
  have nob := K7.out.ne 4 1 rfl rfl (by decide)
  have noi := K7.out.ne 4 0 rfl rfl (by decide)
  have nri := K7.out.ne 5 0 rfl rfl (by decide)
  have nxi := K7.out.ne 2 0 rfl rfl (by decide)
  simp only at nlb nlt nbt nol nob noi nri nxi hbk3
  have kl : bk ≠ w.heap.size + 1 + 1 := by
    rcases Nat.eq_zero_or_pos (n + (n' - (g - p))) with h | h
    · rw [hbk3 h]; exact nol
    · exact hbk2 h (w.heap.size + 1 + 1, #[.slice none 0 0], 28) (by simp)
  have kb : bk ≠ w.heap.size + 1 + 1 + 1 + 1 := by
    rcases Nat.eq_zero_or_pos (n + (n' - (g - p))) with h | h
    · rw [hbk3 h]; exact nob
    · exact hbk2 h (w.heap.size + 1 + 1 + 1 + 1, #[.slice A4 (n + (n' - (g - p))) c4], 22) (by simp)
  have ki : bk ≠ w6.heap.size := by
    rcases Nat.eq_zero_or_pos (n + (n' - (g - p))) with h | h
    · rw [hbk3 h]; exact noi
    · exact hbk2 h (w6.heap.size, #[.slice A4 (n + (n' - (g - p))) c4], 22) (by simp)
  have hXl : xs.length = (n + (n' - (g - p))) := by
    rw [← hxs, List.length_append, hlr, List.length_drop, hl']
  have hXn : xs.length ≤ 100000 := by omega
  have HXL := Lib.hid hXl
  clear hXl
  have hbsX := K7.out.bs (A := A4) (n := (n + (n' - (g - p)))) (xs := (r ++ cs.drop (g - p))) (by simp)
  have r_l := K7.out.row 3 rfl
  have r_b := K7.out.row 1 rfl
  have r_it := K7.out.row 0 rfl
  have r_r := K7.out.row 5 rfl
  have r_o := K7.out.row 4 rfl
  have r_x := K7.out.row 2 rfl
  have lt_l := (Array.getElem?_eq_some_iff.1 r_l).1
  have lt_b := (Array.getElem?_eq_some_iff.1 r_b).1
  have lt_it := (Array.getElem?_eq_some_iff.1 r_it).1
  have lt_r := (Array.getElem?_eq_some_iff.1 r_r).1
  have lt_o := (Array.getElem?_eq_some_iff.1 r_o).1
  have lt_x := (Array.getElem?_eq_some_iff.1 r_x).1
  have hND := K7.out.d
  rw [hxs] at hbsX
  have HB0 := B7
  clear K7 B7
  generalize (w6.alloc (.cells #[.slice A4 (n + (n' - (g - p))) c4] 22)) = W0 at *
  have h0 : GatherQ W0 (w.heap.size + 1 + 1) (w.heap.size + 1 + 1 + 1 + 1) w6.heap.size bk xs [] W0 := gatherQ_nil HXL.out r_l r_b hbsX hbk1 HC4.out.1 HC4.out.2
  obtain ⟨ip, hip, hip0, hip1, hip2⟩ := info_parts info_piece
  have hinf := Lib.hid (And.intro hip (And.intro hip0 (And.intro hip1 hip2)))
  clear hip hip0 hip1 hip2
  refine (wpIn_wide (n := 6)).1 ?_
  refine wpIn_rangeFunc_state rfl (by omega) (gf := 29) (lb := #[.pointer (some ⟨w6.heap.size, 0, none⟩)]) rfl trivial (enters_of Try.func29 (by kernel_rfl) rfl)
    (pieces_stops 5 (by omega) w6.heap.size bk A4 (n + (n' - (g - p))) c4 xs (fun j => j < W0.heap.size ∧ j ≠ w.heap.size + 1 + 1 ∧ j ≠ w.heap.size + 1 + 1 + 1 + 1) W0 ⟨by omega, nlt.symm, nbt.symm⟩ ⟨hbk0, kl, kb⟩ (by omega) hbk0 ki r_it hbsX hbk1 HC4.out.1 HC4.out.2 (by omega))
    (fun h k => keepZ_trans h k) (fun W l o o' _ h hc _ => keepZ_put W l o o' h hc) (fun _ => rfl) (fun A B l o hs h hc => stB_keep A B l o hs h hc)
    (GatherQ W0 (w.heap.size + 1 + 1) (w.heap.size + 1 + 1 + 1 + 1) w6.heap.size bk xs) (gatherQ_own W0 _ _ _ _ _ (by omega)) (gatherQ_st nlt nbt (by omega) ki) h0
    (AtQ W0 (w.heap.size + 1 + 1) xs (fun b x => { tmps := #[(.agg #[.int .i64 (p : Int), .slice A n c]), (.slice A3 (n' - (g - p)) (c' - (g - p))), .pointer (some ⟨w.heap.size, 0, none⟩), undef, .pointer (some ⟨w.heap.size + 1, 0, none⟩), .pointer (some ⟨w.heap.size + 1 + 1, 0, none⟩), .pointer (some ⟨w.heap.size + 1 + 1 + 1, 0, none⟩), .int .i64 0, .pointer (some ⟨w.heap.size + 1 + 1 + 1 + 1, 0, none⟩), .pointer (some ⟨b, 0, none⟩), undef, undef, (.agg #[.int .i64 (p : Int), .slice A n c]), .bool true, .bool false, .pointer (some ⟨w.heap.size, 0, none⟩), (.int .i64 (p : Int)), (.slice A' n' c'), (.int .i64 (g : Int)), .pointer (some ⟨w.heap.size + 1, 0, none⟩), (.slice A' n' c'), .pointer (some ⟨w.heap.size + 1, 0, none⟩), (.int .i64 (g : Int)), .pointer (some ⟨w.heap.size, 0, none⟩), (.int .i64 (p : Int)), (.int .i64 ((g - p : Nat) : Int)), (.slice A3 (n' - (g - p)) (c' - (g - p))), (.agg #[.int .i64 (g : Int), .slice none 0 0]), .bool true, .bool false, .bool false, undef, undef, undef, .bool false, undef, .pointer (some ⟨w.heap.size, 1, none⟩), (.slice A n c), (.slice A3 (n' - (g - p)) (c' - (g - p))), (.slice A4 (n + (n' - (g - p))) c4), (.slice A4 (n + (n' - (g - p))) c4), (.func (.func 29) #[] #[.pointer (some ⟨w6.heap.size, 0, none⟩)]), (.agg #[.int .i64 (hL x.f), .int .u8 (hK x.f), .int .u8 (hF x.f), .int .i64 (hS x.f), .slice x.A (x.f.length - 9) x.c]), undef, undef, undef, undef, undef, undef, undef, undef, undef, undef, undef, undef, undef, undef, undef, undef, undef, undef, undef, undef, undef, undef, undef, undef, undef, undef, undef, undef, undef, undef, undef, undef, undef, undef], defers := [] })) (fun pre x a' => atQ_own _ _ _ _ _ _ _ _)
    ?assign ?body ?done
  case assign =>
    intro l pre x W K hI hV hK
    have HK := Lib.hid hK
    have HI := Lib.hid hI
    have HV := Lib.hid hV
    clear hK hI hV
    gi_wp2
    refine HK.out _ _ ?_ ?_ ?_ (atQ_laid _ HI.out (by omega) HV.out)
    · exact (KeepsOthers.alloc _ _).from _
    · exact ⟨KeepC.below ((Below.refl _ W).alloc (Nat.le_refl _) _), by simp⟩
    · exact (gatherQ_own W0 _ _ _ _ _ (by omega)).alloc _ HI.out
  case body =>
    rintro l pre x a' W hl0 hI ⟨b, rfl, hb0, hbx, ⟨v0, hv0, hv1, hv2⟩, hpay, hpay2, hx9, hxt⟩ hlen
    obtain ⟨⟨v, hrl, hov⟩, ⟨A5, c5, hrb, hbs5, hbk5, hc5, hN5⟩, hkp⟩ := hI
    have ev : v0 = v := by
      have := hv0.symm.trans hrl
      simpa using this
    subst ev
    have c_l := cells1_row hrl
    have c_b := cells1_row hrb
    obtain ⟨x_0, x_1, x_2, x_3, x_4⟩ := cells5_row hbx
    have HOV := Lib.hid (hov.kept ((Below.refl _ W).alloc (Nat.le_refl _) (.cells #[.int .i64 (hL x.f), .int .u8 (hK x.f), .int .u8 (hF x.f), .int .i64 (hS x.f), .slice x.A (x.f.length - 9) x.c] 40)))
    have HQ1 := Lib.hid (qs_lit W 40 x hpay)
    have HFR : Hid (∀ y ∈ [x], ∀ k, payOn y k → W0.heap.size ≤ k ∧ v0.ownBlock ≠ some k) := Lib.hid (fun y hy k hk => by
      rw [List.mem_singleton] at hy
      subst hy
      exact ⟨(hpay2 k hk).1, hv2 k hk⟩)
    have hzk := hkp.size
    have hbW : b < W.heap.size := (Array.getElem?_eq_some_iff.1 hbx).1
    have hob : ∀ k, v0.ownBlock = some k → W0.heap.size ≤ k := fun k e => (hov.block e).1
    have HROW : Hid (∀ o w4, (W.alloc o).grownBy w4 v0.ownBlock → ∀ k cs t, k < W0.heap.size ∨ k = b → W.heap[k]? = some (.cells cs t) → w4.heap[k]? = some (.cells cs t)) := Lib.hid (fun o w4 hg k cs t hk h => by
      have hkl := (Array.getElem?_eq_some_iff.1 h).1
      refine ((hg.block k (by simp; omega) (fun e => ?_)).trans (Below.heap_alloc _ _ _ hkl)).trans h
      rcases hk with hk | rfl
      · have := hob k e.symm; omega
      · exact hv1 e.symm)
    have HRL := Lib.hid hrl
    have HRB := Lib.hid hrb
    have HBX := Lib.hid hbx
    have HOV0 := Lib.hid hov
    have HBS5 := Lib.hid hbs5
    have HBK5 := Lib.hid hbk5
    have HKP := Lib.hid hkp
    have HN5 := Lib.hid hN5
    have nb1 : b ≠ w.heap.size + 1 + 1 := by omega
    have nb2 : w.heap.size + 1 + 1 ≠ b := by omega
    have nb3 : b ≠ w.heap.size + 1 + 1 + 1 + 1 := by omega
    have nb4 : w.heap.size + 1 + 1 + 1 + 1 ≠ b := by omega
    obtain ⟨A7, hA7⟩ : ∃ A7, (if c5 = x.f.length then A5 else A5.map fun y => y.add x.f.length) = A7 := ⟨_, rfl⟩
    have hle : x.f.length ≤ xs.length - totL pre := by omega
    have s11 : IntKind.i64.wrap (9 + ((x.f.length - 9 : Nat) : Int)) = (x.f.length : Int) := by
      have e : 9 + ((x.f.length - 9 : Nat) : Int) = (x.f.length : Int) := by omega
      rw [e]
      exact IntWalk.i64_in _ (by omega)
    have s12 : (x.f.length : Int) ≤ ((xs.length - totL pre : Nat) : Int) := by omega
    clear hrl hrb hbx hov hbs5 hbk5 hkp hN5 hv0 hv1 hv2 hpay hpay2 hob
    gi_wp2_with (gi_at_builtin; refine wpListIn_append_pcs _ rfl (.tmp 43) (.tmp 45) 28 rfl W0.heap.size 40 ip Try.underlying28 hinf.out.1 hinf.out.2.1 hinf.out.2.2.1 hinf.out.2.2.2 _ pre rfl HOV.out _ 1 1 [x] rfl HQ1.out HFR.out (fun h => by cases h) (by omega) (by simp; omega) ?_; intro v4 w4 hown4 hb4 hg4; obtain ⟨A6, c6, rfl, hh6⟩ := hown4.handQ (n := pre.length + 1) (by simp); have HO4 := Lib.hid hown4; have HG4 := Lib.hid hg4; have hrl4 := HROW.out _ _ hg4 _ _ _ (.inl lt_l) HRL.out; have hrb4 := HROW.out _ _ hg4 _ _ _ (.inl lt_b) HRB.out; have hbx4 := HROW.out _ _ hg4 _ _ _ (.inr rfl) HBX.out; have d_l := cells1_row hrl4; have d_b := cells1_row hrb4; obtain ⟨d_0, d_1, d_2, d_3, d_4⟩ := cells5_row hbx4; have e_l := frozen_of_row w4 _ 0 _ _ hrl4; have e_b := frozen_of_row w4 _ 0 _ _ hrb4; clear hrl4 hrb4 hbx4 hown4 hb4 hg4 hh6)
    exact gatherQ_round (R := 0) nlb lt_l lt_b kl kb hbk0 HRL.out HOV0.out HRB.out HBS5.out HBK5.out HKP.out HG4.out HO4.out hxt hA7 rfl hc5 HN5.out
  case done =>
    intro D ys W hD hys hI hKD
    have hrd := rs_drop xs ys hys
    obtain ⟨A2, c2, A9, c9, KD0, q1, q2, q3, q4, q5⟩ := envQ_done hI hys hD hKD ⟨lt_l, lt_b, lt_it, hbk0⟩ r_r r_o r_x (List.nodup_cons.1 hND).2
      (by rintro k (rfl | rfl | rfl) <;> (unfold P3; omega))
      (by
        intro k hk h
        have h2 := HXL.out
        have h3 := hbk2 (by omega)
        rcases hk with rfl | rfl | rfl | rfl | rfl
        · exact h3 (w.heap.size + 1 + 1 + 1 + 1, #[.slice A4 (n + (n' - (g - p))) c4], 22) (by simp)
        · exact h3 (w.heap.size + 1 + 1 + 1, #[.bool false, .int .i64 0, .int .u32 0], 31) (by simp)
        · exact h3 (w.heap.size + 1 + 1, #[.slice none 0 0], 28) (by simp)
        · exact h3 (w.heap.size + 1, #[.int .i64 (g : Int), .slice none 0 0], 24) (by simp)
        · exact h3 (w.heap.size, #[.int .i64 (p : Int), .slice A n c], 24) (by simp))
    have K100 : Hid (EnvF W [dF D, qF A2 ys.length ys, bF A9 (rs xs).length (rs xs)] [(w.heap.size + 1 + 1 + 1 + 1, #[.slice A9 (rs xs).length c9], 22), (w.heap.size + 1 + 1 + 1, #[.bool false, .int .i64 0, .int .u32 0], 31), (w.heap.size + 1 + 1, #[.slice A2 ys.length c2], 28), (w.heap.size + 1, #[.int .i64 (g : Int), .slice none 0 0], 24), (w.heap.size, #[.int .i64 (p : Int), .slice A n c], 24)]) := Lib.hid KD0
    have B100 : Hid (Below w.heap.size w W) := Lib.hid (HB0.out.trans (hI.keep.below hz0 (by rintro k (rfl | rfl | rfl) <;> omega)))
    have HYS := Lib.hid hys
    have hrl : (rs xs).length ≤ 100000 := by omega
    have HQ5 := Lib.hid q5
    clear hI hys KD0 r_l r_b r_it r_r r_o r_x hrd hXn q5 hbsX hbk1 hbk2 hbk3 h0 hinf hND
    by_cases h9 : 9 ≤ (rs xs).length
    · by_cases hbad : 16384 < hL (rs xs)
      · have hb1 : decide ((16384 : Int) < (hL (rs xs) : Int)) = true := decide_eq_true (by omega)
        have hB : Bad (rs xs) := ⟨h9, hbad⟩
        have eB1 : decide (Bad (rs xs)) = true := decide_eq_true hB
        have eB2 : (if Bad (rs xs) then (6 : Int) else 0) = 6 := if_pos hB
        have eB3 : (if Bad (rs xs) then ([] : List UInt8) else rs xs) = [] := if_pos hB
        have HE := Lib.hid (And.intro eB1 (And.intro eB2 eB3))
        clear eB1 eB2 eB3 hB
        go_wp2_with (first
          | go_skip
          | (refine at_load 22 (.tmp 8) (by rfl) ?_; refine wpList_get (by rfl) 22 (.tmp 8) (by rfl) (w.heap.size + 1 + 1 + 1 + 1) 0 (by rfl) 22 #[.slice A9 (rs xs).length c9] (.slice A9 (rs xs).length c9) _ (K100.out.row 0 rfl) (by rfl) Try.underlying22 (by rfl) ?_)
          | (go_at_call 20; (have hc := (c_headOf_yes A9 (rs xs).length c9 (rs xs) _ (K100.out.bs (A := A9) (n := (rs xs).length) (xs := (rs xs)) (by simp)) h9 q1); (with_reducible refine hc.mono ?_); clear hc); rintro e w101 ⟨rfl, hb⟩; have K101 : Hid (EnvF w101 [dF D, qF A2 ys.length ys, bF A9 (rs xs).length (rs xs)] [(w.heap.size + 1 + 1 + 1 + 1, #[.slice A9 (rs xs).length c9], 22), (w.heap.size + 1 + 1 + 1, #[.bool false, .int .i64 0, .int .u32 0], 31), (w.heap.size + 1 + 1, #[.slice A2 ys.length c2], 28), (w.heap.size + 1, #[.int .i64 (g : Int), .slice none 0 0], 24), (w.heap.size, #[.int .i64 (p : Int), .slice A n c], 24)]) := Lib.hid (K100.out.on hb); have B101 : Hid (Below w.heap.size w w101) := Lib.hid (below_step B100.out hb); clear hb K100 B100; have leh : w.heap.size ≤ w101.heap.size := (by have := B101.out.size; (try simp only [World.size_alloc] at this); omega); have K102 : Hid (EnvF (w101.alloc (.cells #[.int .i64 0, .int .u8 0, .int .u8 0, .int .i64 0] 38)) [dF D, qF A2 ys.length ys, bF A9 (rs xs).length (rs xs)] [(w101.heap.size, #[.int .i64 0, .int .u8 0, .int .u8 0, .int .i64 0], 38), (w.heap.size + 1 + 1 + 1 + 1, #[.slice A9 (rs xs).length c9], 22), (w.heap.size + 1 + 1 + 1, #[.bool false, .int .i64 0, .int .u32 0], 31), (w.heap.size + 1 + 1, #[.slice A2 ys.length c2], 28), (w.heap.size + 1, #[.int .i64 (g : Int), .slice none 0 0], 24), (w.heap.size, #[.int .i64 (p : Int), .slice A n c], 24)]) := Lib.hid (K101.out.boxg 38 #[.int .i64 0, .int .u8 0, .int .u8 0, .int .i64 0] (w101.heap.size) (by simp)); have B102 : Hid (Below w.heap.size w (w101.alloc (.cells #[.int .i64 0, .int .u8 0, .int .u8 0, .int .i64 0] 38))) := Lib.hid (B101.out.alloc B101.out.size (.cells #[.int .i64 0, .int .u8 0, .int .u8 0, .int .i64 0] 38)); clear K101 B101)
          | (refine at_store 38 (.tmp 10) (.tmp 56) (by rfl) ?_; refine wpList_put (by rfl) 38 (.tmp 10) (.tmp 56) (by rfl) (w101.heap.size) 0 (.agg #[.int .i64 (hL (rs xs)), .int .u8 (hK (rs xs)), .int .u8 (hF (rs xs)), .int .i64 (hS (rs xs))]) (by rfl) (by rfl) 38 #[.int .i64 0, .int .u8 0, .int .u8 0, .int .i64 0] #[.int .i64 (hL (rs xs)), .int .u8 (hK (rs xs)), .int .u8 (hF (rs xs)), .int .i64 (hS (rs xs))] (K102.out.row 0 rfl) (by simp [Value.cells]) (by kernel_rfl) infoc_H (by kernel_rfl) ?_; intro w103 hrow hoth hz hbl; have K103 : Hid (EnvF w103 [dF D, qF A2 ys.length ys, bF A9 (rs xs).length (rs xs)] [(w101.heap.size, #[.int .i64 (hL (rs xs)), .int .u8 (hK (rs xs)), .int .u8 (hF (rs xs)), .int .i64 (hS (rs xs))], 38), (w.heap.size + 1 + 1 + 1 + 1, #[.slice A9 (rs xs).length c9], 22), (w.heap.size + 1 + 1 + 1, #[.bool false, .int .i64 0, .int .u32 0], 31), (w.heap.size + 1 + 1, #[.slice A2 ys.length c2], 28), (w.heap.size + 1, #[.int .i64 (g : Int), .slice none 0 0], 24), (w.heap.size, #[.int .i64 (p : Int), .slice A n c], 24)]) := Lib.hid (K102.out.turn 0 rfl hrow hoth hz); have B103 : Hid (Below w.heap.size w w103) := Lib.hid (hbl _ _ leh B102.out); clear hrow hoth hz hbl K102 B102)
          | (refine at_load 38 (.tmp 10) (by rfl) ?_; refine wpListG_row (by kernel_rfl) 38 (.tmp 10) (by rfl) (w101.heap.size) (by rfl) 38 #[.int .i64 (hL (rs xs)), .int .u8 (hK (rs xs)), .int .u8 (hF (rs xs)), .int .i64 (hS (rs xs))] _ (K103.out.row 0 rfl) Try.underlying38 (by rfl) infoc_H ?_)
          | (go_at_call 21; (have hc := (c_tooLong' (hL (rs xs) : Int) (hK (rs xs) : Int) (hF (rs xs) : Int) (hS (rs xs) : Int) _ hb1 w103); (with_reducible refine hc.mono ?_); clear hc); rintro e w104 ⟨rfl, hb⟩; have K104 : Hid (EnvF w104 [dF D, qF A2 ys.length ys, bF A9 (rs xs).length (rs xs)] [(w101.heap.size, #[.int .i64 (hL (rs xs)), .int .u8 (hK (rs xs)), .int .u8 (hF (rs xs)), .int .i64 (hS (rs xs))], 38), (w.heap.size + 1 + 1 + 1 + 1, #[.slice A9 (rs xs).length c9], 22), (w.heap.size + 1 + 1 + 1, #[.bool false, .int .i64 0, .int .u32 0], 31), (w.heap.size + 1 + 1, #[.slice A2 ys.length c2], 28), (w.heap.size + 1, #[.int .i64 (g : Int), .slice none 0 0], 24), (w.heap.size, #[.int .i64 (p : Int), .slice A n c], 24)]) := Lib.hid (K103.out.on hb); have B104 : Hid (Below w.heap.size w w104) := Lib.hid (below_step B103.out hb); clear hb K103 B103)
          | (refine at_store 29 (.tmp 63) (.const (.int .u32 6)) (by rfl) ?_; refine wpList_put (by rfl) 29 (.tmp 63) (.const (.int .u32 6)) (by rfl) (w.heap.size + 1 + 1 + 1) 2 (.int .u32 6) (by rfl) (by rfl) 31 #[.bool false, .int .i64 0, .int .u32 0] #[.bool false, .int .i64 0, .int .u32 6] (K104.out.row 2 rfl) (by simp [Value.cells]) (by kernel_rfl) infoc_n (by kernel_rfl) ?_; intro w105 hrow hoth hz hbl; have K105 : Hid (EnvF w105 [dF D, qF A2 ys.length ys, bF A9 (rs xs).length (rs xs)] [(w101.heap.size, #[.int .i64 (hL (rs xs)), .int .u8 (hK (rs xs)), .int .u8 (hF (rs xs)), .int .i64 (hS (rs xs))], 38), (w.heap.size + 1 + 1 + 1 + 1, #[.slice A9 (rs xs).length c9], 22), (w.heap.size + 1 + 1 + 1, #[.bool false, .int .i64 0, .int .u32 6], 31), (w.heap.size + 1 + 1, #[.slice A2 ys.length c2], 28), (w.heap.size + 1, #[.int .i64 (g : Int), .slice none 0 0], 24), (w.heap.size, #[.int .i64 (p : Int), .slice A n c], 24)]) := Lib.hid (K104.out.turn 2 rfl hrow hoth hz); have B105 : Hid (Below w.heap.size w w105) := Lib.hid (hbl _ _ (by omega) B104.out); clear hrow hoth hz hbl K104 B104))
        go_step3
        refine ⟨rfl, ?_⟩
        go_wp2_with (first
          | go_skip
          | (refine at_store 4 (.tmp 70) (.const (.bool true)) (by rfl) ?_; refine wpList_put (by rfl) 4 (.tmp 70) (.const (.bool true)) (by rfl) (w.heap.size + 1 + 1 + 1) 0 (.bool true) (by rfl) (by rfl) 31 #[.bool false, .int .i64 0, .int .u32 6] #[.bool true, .int .i64 0, .int .u32 6] (K105.out.row 2 rfl) (by simp [Value.cells]) (by kernel_rfl) infoc_b (by kernel_rfl) ?_; intro w106 hrow hoth hz hbl; have K106 : Hid (EnvF w106 [dF D, qF A2 ys.length ys, bF A9 (rs xs).length (rs xs)] [(w101.heap.size, #[.int .i64 (hL (rs xs)), .int .u8 (hK (rs xs)), .int .u8 (hF (rs xs)), .int .i64 (hS (rs xs))], 38), (w.heap.size + 1 + 1 + 1 + 1, #[.slice A9 (rs xs).length c9], 22), (w.heap.size + 1 + 1 + 1, #[.bool true, .int .i64 0, .int .u32 6], 31), (w.heap.size + 1 + 1, #[.slice A2 ys.length c2], 28), (w.heap.size + 1, #[.int .i64 (g : Int), .slice none 0 0], 24), (w.heap.size, #[.int .i64 (p : Int), .slice A n c], 24)]) := Lib.hid (K105.out.turn 2 rfl hrow hoth hz); have B106 : Hid (Below w.heap.size w w106) := Lib.hid (hbl _ _ (by omega) B105.out); clear hrow hoth hz hbl K105 B105))
        obtain ⟨o_0, o_1⟩ := cells2_row (K106.out.row 4 rfl)
        have zo := fun j => frozen_of_row _ _ j _ _ (K106.out.row 4 rfl)
        have l_0 := cells1_row (K106.out.row 3 rfl)
        have zl := fun j => frozen_of_row _ _ j _ _ (K106.out.row 3 rfl)
        obtain ⟨x_0, x_1, x_2⟩ := cells3_row (K106.out.row 2 rfl)
        have zx := fun j => frozen_of_row _ _ j _ _ (K106.out.row 2 rfl)
        have nol' : w.heap.size + 1 ≠ w.heap.size + 1 + 1 := K106.out.ne 4 3 rfl rfl (by decide)
        have nlo' := nol'.symm
        have nox' : w.heap.size + 1 ≠ w.heap.size + 1 + 1 + 1 := K106.out.ne 4 2 rfl rfl (by decide)
        have nxo' := nox'.symm
        have nlx' : w.heap.size + 1 + 1 ≠ w.heap.size + 1 + 1 + 1 := K106.out.ne 3 2 rfl rfl (by decide)
        have nxl' := nlx'.symm
        have KA := Lib.hid ((K106.out).setCells 4 rfl [.int .i64 (g : Int), .slice none 0 0] (cs := #[.int .i64 (g : Int), .slice none 0 0]) (by kernel_rfl))
        have KB := Lib.hid ((KA.out).setCells 3 rfl [.slice A2 ys.length c2] (cs := #[.slice A2 ys.length c2]) (by kernel_rfl))
        have KC := Lib.hid ((KB.out).setCells 2 rfl [.bool true, .int .i64 0, .int .u32 6] (cs := #[.bool true, .int .i64 0, .int .u32 6]) (by kernel_rfl))
        have KD := Lib.hid KC.out.drew
        have BB0 := (setCells_below (g := w.heap.size + 1 + 1 + 1) (by omega) [.bool true, .int .i64 0, .int .u32 6] 0 _ _ (setCells_below (g := w.heap.size + 1 + 1) (by omega) [.slice A2 ys.length c2] 0 _ _ (setCells_below (g := w.heap.size + 1) (by omega) [.int .i64 (g : Int), .slice none 0 0] 0 _ _ B106.out))).drew
        have hr10 := KD.out.row 4 rfl
        have hr20 := KD.out.row 3 rfl
        have hr30 := KD.out.row 2 rfl
        have hd0 := (KD.out.f (dF D) (by simp)).1
        have hq0 := KD.out.qs (A := A2) (n := ys.length) (xs := ys) (by simp)
        simp only [World.setCells, Nat.reduceAdd] at hr10 hr20 hr30 BB0 hd0 hq0
        have hr1 := Lib.hid hr10
        clear hr10
        have hr2 := Lib.hid hr20
        clear hr20
        have hr3 := Lib.hid hr30
        clear hr30
        have BB := Lib.hid BB0
        clear BB0
        have hd := Lib.hid hd0
        clear hd0
        have hq := Lib.hid hq0
        clear hq0
        clear KA KB KC KD
        refine wp_then_only ?_
        go_region
        all_goals
          go_wp2
          rw [jump_ret]
          exact ⟨by simp, .inl ⟨_, _, rfl, run_takeDeferred hd.out, ⟨_, res_feed rfl _ _ _ _ _ _ _ _ _ _ _ rfl (row_putD hr1.out (by omega)) rfl (row_putD hr2.out (by omega)) rfl (row_putD hr3.out (by omega)) Try.underlying24 rfl infoc_R Try.underlying28 rfl Try.underlying31 rfl infoc_X, none, 0, 0, A2, ys.length, c2, ys, by rw [HE.out.1, HE.out.2.1]; rfl, by rw [HE.out.2.2]; exact HandS.nil_ _ _, handQ_putD ⟨hq.out, fun k hk => Nat.le_trans hz0 (HQ5.out k hk), q3, q4⟩ hd.out, HYS.out, BB.out.trans (belowK_b (w := w) (Nat.le_refl _) _ D _ _ (by omega) hd.out rfl rfl)⟩⟩⟩
      · have hb1 : decide ((16384 : Int) < (hL (rs xs) : Int)) = false := decide_eq_false (by omega)
        have hB : ¬ Bad (rs xs) := fun h => by unfold Bad at h; omega
        have eB1 : decide (Bad (rs xs)) = false := decide_eq_false hB
        have eB2 : (if Bad (rs xs) then (6 : Int) else 0) = 0 := if_neg hB
        have eB3 : (if Bad (rs xs) then ([] : List UInt8) else rs xs) = rs xs := if_neg hB
        have HE := Lib.hid (And.intro eB1 (And.intro eB2 eB3))
        clear eB1 eB2 eB3 hB
        go_wp2_with (first
          | go_skip
          | (refine at_load 22 (.tmp 8) (by rfl) ?_; refine wpList_get (by rfl) 22 (.tmp 8) (by rfl) (w.heap.size + 1 + 1 + 1 + 1) 0 (by rfl) 22 #[.slice A9 (rs xs).length c9] (.slice A9 (rs xs).length c9) _ (K100.out.row 0 rfl) (by rfl) Try.underlying22 (by rfl) ?_)
          | (go_at_call 20; (have hc := (c_headOf_yes A9 (rs xs).length c9 (rs xs) _ (K100.out.bs (A := A9) (n := (rs xs).length) (xs := (rs xs)) (by simp)) h9 q1); (with_reducible refine hc.mono ?_); clear hc); rintro e w101 ⟨rfl, hb⟩; have K101 : Hid (EnvF w101 [dF D, qF A2 ys.length ys, bF A9 (rs xs).length (rs xs)] [(w.heap.size + 1 + 1 + 1 + 1, #[.slice A9 (rs xs).length c9], 22), (w.heap.size + 1 + 1 + 1, #[.bool false, .int .i64 0, .int .u32 0], 31), (w.heap.size + 1 + 1, #[.slice A2 ys.length c2], 28), (w.heap.size + 1, #[.int .i64 (g : Int), .slice none 0 0], 24), (w.heap.size, #[.int .i64 (p : Int), .slice A n c], 24)]) := Lib.hid (K100.out.on hb); have B101 : Hid (Below w.heap.size w w101) := Lib.hid (below_step B100.out hb); clear hb K100 B100; have leh : w.heap.size ≤ w101.heap.size := (by have := B101.out.size; (try simp only [World.size_alloc] at this); omega); have K102 : Hid (EnvF (w101.alloc (.cells #[.int .i64 0, .int .u8 0, .int .u8 0, .int .i64 0] 38)) [dF D, qF A2 ys.length ys, bF A9 (rs xs).length (rs xs)] [(w101.heap.size, #[.int .i64 0, .int .u8 0, .int .u8 0, .int .i64 0], 38), (w.heap.size + 1 + 1 + 1 + 1, #[.slice A9 (rs xs).length c9], 22), (w.heap.size + 1 + 1 + 1, #[.bool false, .int .i64 0, .int .u32 0], 31), (w.heap.size + 1 + 1, #[.slice A2 ys.length c2], 28), (w.heap.size + 1, #[.int .i64 (g : Int), .slice none 0 0], 24), (w.heap.size, #[.int .i64 (p : Int), .slice A n c], 24)]) := Lib.hid (K101.out.boxg 38 #[.int .i64 0, .int .u8 0, .int .u8 0, .int .i64 0] (w101.heap.size) (by simp)); have B102 : Hid (Below w.heap.size w (w101.alloc (.cells #[.int .i64 0, .int .u8 0, .int .u8 0, .int .i64 0] 38))) := Lib.hid (B101.out.alloc B101.out.size (.cells #[.int .i64 0, .int .u8 0, .int .u8 0, .int .i64 0] 38)); clear K101 B101)
          | (refine at_store 38 (.tmp 10) (.tmp 56) (by rfl) ?_; refine wpList_put (by rfl) 38 (.tmp 10) (.tmp 56) (by rfl) (w101.heap.size) 0 (.agg #[.int .i64 (hL (rs xs)), .int .u8 (hK (rs xs)), .int .u8 (hF (rs xs)), .int .i64 (hS (rs xs))]) (by rfl) (by rfl) 38 #[.int .i64 0, .int .u8 0, .int .u8 0, .int .i64 0] #[.int .i64 (hL (rs xs)), .int .u8 (hK (rs xs)), .int .u8 (hF (rs xs)), .int .i64 (hS (rs xs))] (K102.out.row 0 rfl) (by simp [Value.cells]) (by kernel_rfl) infoc_H (by kernel_rfl) ?_; intro w103 hrow hoth hz hbl; have K103 : Hid (EnvF w103 [dF D, qF A2 ys.length ys, bF A9 (rs xs).length (rs xs)] [(w101.heap.size, #[.int .i64 (hL (rs xs)), .int .u8 (hK (rs xs)), .int .u8 (hF (rs xs)), .int .i64 (hS (rs xs))], 38), (w.heap.size + 1 + 1 + 1 + 1, #[.slice A9 (rs xs).length c9], 22), (w.heap.size + 1 + 1 + 1, #[.bool false, .int .i64 0, .int .u32 0], 31), (w.heap.size + 1 + 1, #[.slice A2 ys.length c2], 28), (w.heap.size + 1, #[.int .i64 (g : Int), .slice none 0 0], 24), (w.heap.size, #[.int .i64 (p : Int), .slice A n c], 24)]) := Lib.hid (K102.out.turn 0 rfl hrow hoth hz); have B103 : Hid (Below w.heap.size w w103) := Lib.hid (hbl _ _ leh B102.out); clear hrow hoth hz hbl K102 B102)
          | (refine at_load 38 (.tmp 10) (by rfl) ?_; refine wpListG_row (by kernel_rfl) 38 (.tmp 10) (by rfl) (w101.heap.size) (by rfl) 38 #[.int .i64 (hL (rs xs)), .int .u8 (hK (rs xs)), .int .u8 (hF (rs xs)), .int .i64 (hS (rs xs))] _ (K103.out.row 0 rfl) Try.underlying38 (by rfl) infoc_H ?_)
          | (go_at_call 21; (have hc := (c_tooLong' (hL (rs xs) : Int) (hK (rs xs) : Int) (hF (rs xs) : Int) (hS (rs xs) : Int) _ hb1 w103); (with_reducible refine hc.mono ?_); clear hc); rintro e w104 ⟨rfl, hb⟩; have K104 : Hid (EnvF w104 [dF D, qF A2 ys.length ys, bF A9 (rs xs).length (rs xs)] [(w101.heap.size, #[.int .i64 (hL (rs xs)), .int .u8 (hK (rs xs)), .int .u8 (hF (rs xs)), .int .i64 (hS (rs xs))], 38), (w.heap.size + 1 + 1 + 1 + 1, #[.slice A9 (rs xs).length c9], 22), (w.heap.size + 1 + 1 + 1, #[.bool false, .int .i64 0, .int .u32 0], 31), (w.heap.size + 1 + 1, #[.slice A2 ys.length c2], 28), (w.heap.size + 1, #[.int .i64 (g : Int), .slice none 0 0], 24), (w.heap.size, #[.int .i64 (p : Int), .slice A n c], 24)]) := Lib.hid (K103.out.on hb); have B104 : Hid (Below w.heap.size w w104) := Lib.hid (below_step B103.out hb); clear hb K103 B103)
          | (refine at_load 22 (.tmp 8) (by rfl) ?_; refine wpList_get (by rfl) 22 (.tmp 8) (by rfl) (w.heap.size + 1 + 1 + 1 + 1) 0 (by rfl) 22 #[.slice A9 (rs xs).length c9] (.slice A9 (rs xs).length c9) _ (K104.out.row 1 rfl) (by rfl) Try.underlying22 (by rfl) ?_)
          | (go_at_call 22; (have hc := (c_own A9 (rs xs).length c9 (rs xs) _ (K104.out.bs (A := A9) (n := (rs xs).length) (xs := (rs xs)) (by simp)) q2 (by omega)); (with_reducible refine hc.mono ?_); clear hc); rintro e w105 ⟨A10, c10, rfl, hh, hb⟩; have HC10 := Lib.hid hh.2.2; have HF10 := Lib.hid hh.2.1; have hz10 := B104.out.size; have K105 : Hid (EnvF w105 [bF A10 (rs xs).length (rs xs), dF D, qF A2 ys.length ys, bF A9 (rs xs).length (rs xs)] [(w101.heap.size, #[.int .i64 (hL (rs xs)), .int .u8 (hK (rs xs)), .int .u8 (hF (rs xs)), .int .i64 (hS (rs xs))], 38), (w.heap.size + 1 + 1 + 1 + 1, #[.slice A9 (rs xs).length c9], 22), (w.heap.size + 1 + 1 + 1, #[.bool false, .int .i64 0, .int .u32 0], 31), (w.heap.size + 1 + 1, #[.slice A2 ys.length c2], 28), (w.heap.size + 1, #[.int .i64 (g : Int), .slice none 0 0], 24), (w.heap.size, #[.int .i64 (p : Int), .slice A n c], 24)]) := Lib.hid (K104.out.handS hb hh); have B105 : Hid (Below w.heap.size w w105) := Lib.hid (below_step B104.out hb); clear hb hh K104 B104)
          | (refine at_store 22 (.tmp 66) (.tmp 65) (by rfl) ?_; refine wpList_put (by rfl) 22 (.tmp 66) (.tmp 65) (by rfl) (w.heap.size + 1) 1 (.slice A10 (rs xs).length c10) (by rfl) (by rfl) 24 #[.int .i64 (g : Int), .slice none 0 0] #[.int .i64 (g : Int), .slice A10 (rs xs).length c10] (K105.out.row 4 rfl) (by simp [Value.cells]) (by kernel_rfl) infoc_B (by kernel_rfl) ?_; intro w106 hrow hoth hz hbl; have K106 : Hid (EnvF w106 [bF A10 (rs xs).length (rs xs), dF D, qF A2 ys.length ys, bF A9 (rs xs).length (rs xs)] [(w101.heap.size, #[.int .i64 (hL (rs xs)), .int .u8 (hK (rs xs)), .int .u8 (hF (rs xs)), .int .i64 (hS (rs xs))], 38), (w.heap.size + 1 + 1 + 1 + 1, #[.slice A9 (rs xs).length c9], 22), (w.heap.size + 1 + 1 + 1, #[.bool false, .int .i64 0, .int .u32 0], 31), (w.heap.size + 1 + 1, #[.slice A2 ys.length c2], 28), (w.heap.size + 1, #[.int .i64 (g : Int), .slice A10 (rs xs).length c10], 24), (w.heap.size, #[.int .i64 (p : Int), .slice A n c], 24)]) := Lib.hid (K105.out.turn 4 rfl hrow hoth hz); have B106 : Hid (Below w.heap.size w w106) := Lib.hid (hbl _ _ (by omega) B105.out); clear hrow hoth hz hbl K105 B105))
        obtain ⟨o_0, o_1⟩ := cells2_row (K106.out.row 4 rfl)
        have zo := fun j => frozen_of_row _ _ j _ _ (K106.out.row 4 rfl)
        have l_0 := cells1_row (K106.out.row 3 rfl)
        have zl := fun j => frozen_of_row _ _ j _ _ (K106.out.row 3 rfl)
        obtain ⟨x_0, x_1, x_2⟩ := cells3_row (K106.out.row 2 rfl)
        have zx := fun j => frozen_of_row _ _ j _ _ (K106.out.row 2 rfl)
        have nol' : w.heap.size + 1 ≠ w.heap.size + 1 + 1 := K106.out.ne 4 3 rfl rfl (by decide)
        have nlo' := nol'.symm
        have nox' : w.heap.size + 1 ≠ w.heap.size + 1 + 1 + 1 := K106.out.ne 4 2 rfl rfl (by decide)
        have nxo' := nox'.symm
        have nlx' : w.heap.size + 1 + 1 ≠ w.heap.size + 1 + 1 + 1 := K106.out.ne 3 2 rfl rfl (by decide)
        have nxl' := nlx'.symm
        have KA := Lib.hid ((K106.out).setCells 4 rfl [.int .i64 (g : Int), .slice A10 (rs xs).length c10] (cs := #[.int .i64 (g : Int), .slice A10 (rs xs).length c10]) (by kernel_rfl))
        have KB := Lib.hid ((KA.out).setCells 3 rfl [.slice A2 ys.length c2] (cs := #[.slice A2 ys.length c2]) (by kernel_rfl))
        have KC := Lib.hid ((KB.out).setCells 2 rfl [.bool false, .int .i64 0, .int .u32 0] (cs := #[.bool false, .int .i64 0, .int .u32 0]) (by kernel_rfl))
        have KD := Lib.hid KC.out.drew
        have BB0 := (setCells_below (g := w.heap.size + 1 + 1 + 1) (by omega) [.bool false, .int .i64 0, .int .u32 0] 0 _ _ (setCells_below (g := w.heap.size + 1 + 1) (by omega) [.slice A2 ys.length c2] 0 _ _ (setCells_below (g := w.heap.size + 1) (by omega) [.int .i64 (g : Int), .slice A10 (rs xs).length c10] 0 _ _ B106.out))).drew
        have hr10 := KD.out.row 4 rfl
        have hr20 := KD.out.row 3 rfl
        have hr30 := KD.out.row 2 rfl
        have hd0 := (KD.out.f (dF D) (by simp)).1
        have hq0 := KD.out.qs (A := A2) (n := ys.length) (xs := ys) (by simp)
        have hs0 := KD.out.bs (A := A10) (n := (rs xs).length) (xs := rs xs) (by simp)
        simp only [World.setCells, Nat.reduceAdd] at hr10 hr20 hr30 BB0 hd0 hq0 hs0
        have hr1 := Lib.hid hr10
        clear hr10
        have hr2 := Lib.hid hr20
        clear hr20
        have hr3 := Lib.hid hr30
        clear hr30
        have BB := Lib.hid BB0
        clear BB0
        have hd := Lib.hid hd0
        clear hd0
        have hq := Lib.hid hq0
        clear hq0
        have hs := Lib.hid hs0
        clear hs0
        clear KA KB KC KD
        refine wp_then_only ?_
        go_region
        all_goals
          go_wp2
          rw [jump_ret]
          exact ⟨by simp, .inl ⟨_, _, rfl, run_takeDeferred hd.out, ⟨_, res_feed rfl _ _ _ _ _ _ _ _ _ _ _ rfl (row_putD hr1.out (by omega)) rfl (row_putD hr2.out (by omega)) rfl (row_putD hr3.out (by omega)) Try.underlying24 rfl infoc_R Try.underlying28 rfl Try.underlying31 rfl infoc_X, A10, (rs xs).length, c10, A2, ys.length, c2, ys, by rw [HE.out.1, HE.out.2.1]; rfl, by rw [HE.out.2.2]; exact handS_putD ⟨hs.out, HF10.out.less hz10, HC10.out⟩ hd.out, handQ_putD ⟨hq.out, fun k hk => Nat.le_trans hz0 (HQ5.out k hk), q3, q4⟩ hd.out, HYS.out, BB.out.trans (belowK_b (w := w) (Nat.le_refl _) _ D _ _ (by omega) hd.out rfl rfl)⟩⟩⟩
    · have hB : ¬ Bad (rs xs) := fun h => by unfold Bad at h; omega
      have eB1 : decide (Bad (rs xs)) = false := decide_eq_false hB
      have eB2 : (if Bad (rs xs) then (6 : Int) else 0) = 0 := if_neg hB
      have eB3 : (if Bad (rs xs) then ([] : List UInt8) else rs xs) = rs xs := if_neg hB
      have HE := Lib.hid (And.intro eB1 (And.intro eB2 eB3))
      clear eB1 eB2 eB3 hB
      go_wp2_with (first
        | go_skip
        | (refine at_load 22 (.tmp 8) (by rfl) ?_; refine wpList_get (by rfl) 22 (.tmp 8) (by rfl) (w.heap.size + 1 + 1 + 1 + 1) 0 (by rfl) 22 #[.slice A9 (rs xs).length c9] (.slice A9 (rs xs).length c9) _ (K100.out.row 0 rfl) (by rfl) Try.underlying22 (by rfl) ?_)
        | (go_at_call 20; (have hc := (c_headOf_no A9 (rs xs).length c9 W (by omega)); (with_reducible refine hc.mono ?_); clear hc); rintro e w101 ⟨rfl, hb⟩; have K101 : Hid (EnvF w101 [dF D, qF A2 ys.length ys, bF A9 (rs xs).length (rs xs)] [(w.heap.size + 1 + 1 + 1 + 1, #[.slice A9 (rs xs).length c9], 22), (w.heap.size + 1 + 1 + 1, #[.bool false, .int .i64 0, .int .u32 0], 31), (w.heap.size + 1 + 1, #[.slice A2 ys.length c2], 28), (w.heap.size + 1, #[.int .i64 (g : Int), .slice none 0 0], 24), (w.heap.size, #[.int .i64 (p : Int), .slice A n c], 24)]) := Lib.hid (K100.out.on hb); have B101 : Hid (Below w.heap.size w w101) := Lib.hid (below_step B100.out hb); clear hb K100 B100; have leh : w.heap.size ≤ w101.heap.size := (by have := B101.out.size; (try simp only [World.size_alloc] at this); omega); have K102 : Hid (EnvF (w101.alloc (.cells #[.int .i64 0, .int .u8 0, .int .u8 0, .int .i64 0] 38)) [dF D, qF A2 ys.length ys, bF A9 (rs xs).length (rs xs)] [(w101.heap.size, #[.int .i64 0, .int .u8 0, .int .u8 0, .int .i64 0], 38), (w.heap.size + 1 + 1 + 1 + 1, #[.slice A9 (rs xs).length c9], 22), (w.heap.size + 1 + 1 + 1, #[.bool false, .int .i64 0, .int .u32 0], 31), (w.heap.size + 1 + 1, #[.slice A2 ys.length c2], 28), (w.heap.size + 1, #[.int .i64 (g : Int), .slice none 0 0], 24), (w.heap.size, #[.int .i64 (p : Int), .slice A n c], 24)]) := Lib.hid (K101.out.boxg 38 #[.int .i64 0, .int .u8 0, .int .u8 0, .int .i64 0] (w101.heap.size) (by simp)); have B102 : Hid (Below w.heap.size w (w101.alloc (.cells #[.int .i64 0, .int .u8 0, .int .u8 0, .int .i64 0] 38))) := Lib.hid (B101.out.alloc B101.out.size (.cells #[.int .i64 0, .int .u8 0, .int .u8 0, .int .i64 0] 38)); clear K101 B101)
        | (refine at_store 38 (.tmp 10) (.tmp 56) (by rfl) ?_; refine wpList_put (by rfl) 38 (.tmp 10) (.tmp 56) (by rfl) (w101.heap.size) 0 (.agg #[.int .i64 0, .int .u8 0, .int .u8 0, .int .i64 0]) (by rfl) (by rfl) 38 #[.int .i64 0, .int .u8 0, .int .u8 0, .int .i64 0] #[.int .i64 0, .int .u8 0, .int .u8 0, .int .i64 0] (K102.out.row 0 rfl) (by simp [Value.cells]) (by kernel_rfl) infoc_H (by kernel_rfl) ?_; intro w103 hrow hoth hz hbl; have K103 : Hid (EnvF w103 [dF D, qF A2 ys.length ys, bF A9 (rs xs).length (rs xs)] [(w101.heap.size, #[.int .i64 0, .int .u8 0, .int .u8 0, .int .i64 0], 38), (w.heap.size + 1 + 1 + 1 + 1, #[.slice A9 (rs xs).length c9], 22), (w.heap.size + 1 + 1 + 1, #[.bool false, .int .i64 0, .int .u32 0], 31), (w.heap.size + 1 + 1, #[.slice A2 ys.length c2], 28), (w.heap.size + 1, #[.int .i64 (g : Int), .slice none 0 0], 24), (w.heap.size, #[.int .i64 (p : Int), .slice A n c], 24)]) := Lib.hid (K102.out.turn 0 rfl hrow hoth hz); have B103 : Hid (Below w.heap.size w w103) := Lib.hid (hbl _ _ leh B102.out); clear hrow hoth hz hbl K102 B102)
        | (refine at_load 22 (.tmp 8) (by rfl) ?_; refine wpList_get (by rfl) 22 (.tmp 8) (by rfl) (w.heap.size + 1 + 1 + 1 + 1) 0 (by rfl) 22 #[.slice A9 (rs xs).length c9] (.slice A9 (rs xs).length c9) _ (K103.out.row 1 rfl) (by rfl) Try.underlying22 (by rfl) ?_)
        | (go_at_call 22; (have hc := (c_own A9 (rs xs).length c9 (rs xs) _ (K103.out.bs (A := A9) (n := (rs xs).length) (xs := (rs xs)) (by simp)) q2 (by omega)); (with_reducible refine hc.mono ?_); clear hc); rintro e w104 ⟨A10, c10, rfl, hh, hb⟩; have HC10 := Lib.hid hh.2.2; have HF10 := Lib.hid hh.2.1; have hz10 := B103.out.size; have K104 : Hid (EnvF w104 [bF A10 (rs xs).length (rs xs), dF D, qF A2 ys.length ys, bF A9 (rs xs).length (rs xs)] [(w101.heap.size, #[.int .i64 0, .int .u8 0, .int .u8 0, .int .i64 0], 38), (w.heap.size + 1 + 1 + 1 + 1, #[.slice A9 (rs xs).length c9], 22), (w.heap.size + 1 + 1 + 1, #[.bool false, .int .i64 0, .int .u32 0], 31), (w.heap.size + 1 + 1, #[.slice A2 ys.length c2], 28), (w.heap.size + 1, #[.int .i64 (g : Int), .slice none 0 0], 24), (w.heap.size, #[.int .i64 (p : Int), .slice A n c], 24)]) := Lib.hid (K103.out.handS hb hh); have B104 : Hid (Below w.heap.size w w104) := Lib.hid (below_step B103.out hb); clear hb hh K103 B103)
        | (refine at_store 22 (.tmp 66) (.tmp 65) (by rfl) ?_; refine wpList_put (by rfl) 22 (.tmp 66) (.tmp 65) (by rfl) (w.heap.size + 1) 1 (.slice A10 (rs xs).length c10) (by rfl) (by rfl) 24 #[.int .i64 (g : Int), .slice none 0 0] #[.int .i64 (g : Int), .slice A10 (rs xs).length c10] (K104.out.row 4 rfl) (by simp [Value.cells]) (by kernel_rfl) infoc_B (by kernel_rfl) ?_; intro w105 hrow hoth hz hbl; have K105 : Hid (EnvF w105 [bF A10 (rs xs).length (rs xs), dF D, qF A2 ys.length ys, bF A9 (rs xs).length (rs xs)] [(w101.heap.size, #[.int .i64 0, .int .u8 0, .int .u8 0, .int .i64 0], 38), (w.heap.size + 1 + 1 + 1 + 1, #[.slice A9 (rs xs).length c9], 22), (w.heap.size + 1 + 1 + 1, #[.bool false, .int .i64 0, .int .u32 0], 31), (w.heap.size + 1 + 1, #[.slice A2 ys.length c2], 28), (w.heap.size + 1, #[.int .i64 (g : Int), .slice A10 (rs xs).length c10], 24), (w.heap.size, #[.int .i64 (p : Int), .slice A n c], 24)]) := Lib.hid (K104.out.turn 4 rfl hrow hoth hz); have B105 : Hid (Below w.heap.size w w105) := Lib.hid (hbl _ _ (by omega) B104.out); clear hrow hoth hz hbl K104 B104))
      obtain ⟨o_0, o_1⟩ := cells2_row (K105.out.row 4 rfl)
      have zo := fun j => frozen_of_row _ _ j _ _ (K105.out.row 4 rfl)
      have l_0 := cells1_row (K105.out.row 3 rfl)
      have zl := fun j => frozen_of_row _ _ j _ _ (K105.out.row 3 rfl)
      obtain ⟨x_0, x_1, x_2⟩ := cells3_row (K105.out.row 2 rfl)
      have zx := fun j => frozen_of_row _ _ j _ _ (K105.out.row 2 rfl)
      have nol' : w.heap.size + 1 ≠ w.heap.size + 1 + 1 := K105.out.ne 4 3 rfl rfl (by decide)
      have nlo' := nol'.symm
      have nox' : w.heap.size + 1 ≠ w.heap.size + 1 + 1 + 1 := K105.out.ne 4 2 rfl rfl (by decide)
      have nxo' := nox'.symm
      have nlx' : w.heap.size + 1 + 1 ≠ w.heap.size + 1 + 1 + 1 := K105.out.ne 3 2 rfl rfl (by decide)
      have nxl' := nlx'.symm
      have KA := Lib.hid ((K105.out).setCells 4 rfl [.int .i64 (g : Int), .slice A10 (rs xs).length c10] (cs := #[.int .i64 (g : Int), .slice A10 (rs xs).length c10]) (by kernel_rfl))
      have KB := Lib.hid ((KA.out).setCells 3 rfl [.slice A2 ys.length c2] (cs := #[.slice A2 ys.length c2]) (by kernel_rfl))
      have KC := Lib.hid ((KB.out).setCells 2 rfl [.bool false, .int .i64 0, .int .u32 0] (cs := #[.bool false, .int .i64 0, .int .u32 0]) (by kernel_rfl))
      have KD := Lib.hid KC.out.drew
      have BB0 := (setCells_below (g := w.heap.size + 1 + 1 + 1) (by omega) [.bool false, .int .i64 0, .int .u32 0] 0 _ _ (setCells_below (g := w.heap.size + 1 + 1) (by omega) [.slice A2 ys.length c2] 0 _ _ (setCells_below (g := w.heap.size + 1) (by omega) [.int .i64 (g : Int), .slice A10 (rs xs).length c10] 0 _ _ B105.out))).drew
      have hr10 := KD.out.row 4 rfl
      have hr20 := KD.out.row 3 rfl
      have hr30 := KD.out.row 2 rfl
      have hd0 := (KD.out.f (dF D) (by simp)).1
      have hq0 := KD.out.qs (A := A2) (n := ys.length) (xs := ys) (by simp)
      have hs0 := KD.out.bs (A := A10) (n := (rs xs).length) (xs := rs xs) (by simp)
      simp only [World.setCells, Nat.reduceAdd] at hr10 hr20 hr30 BB0 hd0 hq0 hs0
      have hr1 := Lib.hid hr10
      clear hr10
      have hr2 := Lib.hid hr20
      clear hr20
      have hr3 := Lib.hid hr30
      clear hr30
      have BB := Lib.hid BB0
      clear BB0
      have hd := Lib.hid hd0
      clear hd0
      have hq := Lib.hid hq0
      clear hq0
      have hs := Lib.hid hs0
      clear hs0
      clear KA KB KC KD
      refine wp_then_only ?_
      go_region
      all_goals
        go_wp2
        rw [jump_ret]
        exact ⟨by simp, .inl ⟨_, _, rfl, run_takeDeferred hd.out, ⟨_, res_feed rfl _ _ _ _ _ _ _ _ _ _ _ rfl (row_putD hr1.out (by omega)) rfl (row_putD hr2.out (by omega)) rfl (row_putD hr3.out (by omega)) Try.underlying24 rfl infoc_R Try.underlying28 rfl Try.underlying31 rfl infoc_X, A10, (rs xs).length, c10, A2, ys.length, c2, ys, by rw [HE.out.1, HE.out.2.1]; rfl, by rw [HE.out.2.2]; exact handS_putD ⟨hs.out, HF10.out.less hz10, HC10.out⟩ hd.out, handQ_putD ⟨hq.out, fun k hk => Nat.le_trans hz0 (HQ5.out k hk), q3, q4⟩ hd.out, HYS.out, BB.out.trans (belowK_b (w := w) (Nat.le_refl _) _ D _ _ (by omega) hd.out rfl rfl)⟩⟩⟩
set_option maxRecDepth 100000 in
set_option maxHeartbeats 4000000 in
theorem c_feed2N (p : Nat) (A A' : Option Addr) (n c n' c' : Nat) (r cs : List UInt8) (w : World) (hA : Bs w w.heap.size A n r) (hN : A = none → c = 0) (hnc : n ≤ c) (hn : n ≤ 50000) (hA' : Bs w w.heap.size A' n' cs) (hN' : A' = none → c' = 0) (hnc' : n' ≤ c') (hn' : n' ≤ 50000) (hR : RightR p r) (g : Nat) (hg : gre p cs = g) (h24 : ((g : Int) == 24) = false) (hz : ¬ 0 < n' - (g - p)) (xs : List UInt8) (hxs : (r ++ cs.drop (g - p)) = xs) :
    Calls Try.prog 7 #[.agg #[.int .i64 (p : Int), .slice A n c], .slice A' n' c'] w fun e w' => ∃ A1 n1 c1 A2 n2 c2 qs, e = .returned (.tuple #[.agg #[.int .i64 (g : Int), .slice A1 n1 c1], .slice A2 n2 c2, .agg #[.bool (decide (Bad (rs xs))), .int .i64 0, .int .u32 (if Bad (rs xs) then 6 else 0)], .int .i64 0]) ∧ HandS w' w.heap.size A1 n1 c1 (if Bad (rs xs) then [] else rs xs) ∧ HandQ w' w.heap.size A2 n2 c2 qs ∧ qs.map (·.f) = fs xs ∧ Below w.heap.size w w' := by
  have hp24 : p ≤ 24 := by unfold RightR at hR; omega
  have hgl := gre_le cs p
  have hl' := hA'.1
  rw [hg] at hgl
  have e1 : ((g : Int) - (p : Int)) = ((g - p : Nat) : Int) := by omega
  have s1 : IntKind.i64.wrap ((g : Int) - (p : Int)) = ((g - p : Nat) : Int) := by rw [e1]; exact IntWalk.i64_in _ (by omega)
  have s2 : (0 : Int) ≤ ((g - p : Nat) : Int) := by omega
  have s3 : ((g - p : Nat) : Int) ≤ (n' : Int) := by omega
  have s4 : ((g - p : Nat) : Int).toNat = g - p := by omega
  obtain ⟨A3, hA3⟩ : ∃ A3, (if c' = g - p then A' else A'.map fun x => x.add (g - p)) = A3 := ⟨_, rfl⟩
  have HCUT := Lib.hid (Bs.cutO' hA' (k := g - p) (by omega) hnc')
  rw [hA3] at HCUT
  have HN3 := Lib.hid (cutO_none' hA3 hN')
  clear e1
  have K0 : Hid (EnvF (((((w.alloc (.cells #[.int .i64 (p : Int), .slice A n c] 24)).alloc (.cells #[.int .i64 0, .slice none 0 0] 24)).alloc (.cells #[.slice none 0 0] 28)).alloc (.cells #[.bool false, .int .i64 0, .int .u32 0] 31)).alloc (.cells #[.slice none 0 0] 22)) [bF A3 (n' - (g - p)) (cs.drop (g - p)), bF A' n' cs, bF A n r] [(w.heap.size + 1 + 1 + 1 + 1, #[.slice none 0 0], 22), (w.heap.size + 1 + 1 + 1, #[.bool false, .int .i64 0, .int .u32 0], 31), (w.heap.size + 1 + 1, #[.slice none 0 0], 28), (w.heap.size + 1, #[.int .i64 0, .slice none 0 0], 24), (w.heap.size, #[.int .i64 (p : Int), .slice A n c], 24)]) := Lib.hid (((((((((EnvF.nil w).addB hA).addB hA').addB HCUT.out).boxg 24 #[.int .i64 (p : Int), .slice A n c] (w.heap.size) (by simp)).boxg 24 #[.int .i64 0, .slice none 0 0] (w.heap.size + 1) (by simp)).boxg 28 #[.slice none 0 0] (w.heap.size + 1 + 1) (by simp)).boxg 31 #[.bool false, .int .i64 0, .int .u32 0] (w.heap.size + 1 + 1 + 1) (by simp)).boxg 22 #[.slice none 0 0] (w.heap.size + 1 + 1 + 1 + 1) (by simp))
  have B0 : Hid (Below w.heap.size w (((((w.alloc (.cells #[.int .i64 (p : Int), .slice A n c] 24)).alloc (.cells #[.int .i64 0, .slice none 0 0] 24)).alloc (.cells #[.slice none 0 0] 28)).alloc (.cells #[.bool false, .int .i64 0, .int .u32 0] 31)).alloc (.cells #[.slice none 0 0] 22))) := Lib.hid ((((((Below.refl _ w).alloc (by first | exact Nat.le_refl _ | (simp only [World.size_alloc]; omega)) (.cells #[.int .i64 (p : Int), .slice A n c] 24)).alloc (by first | exact Nat.le_refl _ | (simp only [World.size_alloc]; omega)) (.cells #[.int .i64 0, .slice none 0 0] 24)).alloc (by first | exact Nat.le_refl _ | (simp only [World.size_alloc]; omega)) (.cells #[.slice none 0 0] 28)).alloc (by first | exact Nat.le_refl _ | (simp only [World.size_alloc]; omega)) (.cells #[.bool false, .int .i64 0, .int .u32 0] 31)).alloc (by first | exact Nat.le_refl _ | (simp only [World.size_alloc]; omega)) (.cells #[.slice none 0 0] 22))
  refine (callsIn_wide (n := 6)).1 (callsIn_of_wp_marks Try.func7 rfl trivial ?_ rfl)
  refine wpIn_wide.2 ?_
  simp only [Try.ntmps7, List.size_toArray, List.length_cons, List.length_nil, Nat.reduceAdd, Nat.reduceSub, Array.replicate_succ, Array.replicate_zero, List.push_toArray, List.append_toArray, List.nil_append, List.cons_append]
  have hlr := hA.1
  clear hA hA' hN' HCUT
  go_wp2
  refine wp_scope_forward 1 rfl ?_
  go_wp2_with (first
    | go_skip
    | (refine at_load 24 (.tmp 2) (by rfl) ?_; refine wpList_load_row (by rfl) 24 (.tmp 2) (by rfl) (w.heap.size) (by rfl) 24 #[.int .i64 (p : Int), .slice A n c] (0, 0) _ (K0.out.row 4 rfl) Try.underlying24 (by rfl) infoc_R ?_)
    | (go_at_call 15; (have hc := (c_right_t p A n c r _ (K0.out.bs (A := A) (n := n) (xs := r) (by simp)) hnc (by omega) hR); (with_reducible refine hc.mono ?_); clear hc); rintro e w1 ⟨rfl, hb⟩; have K1 : Hid (EnvF w1 [bF A3 (n' - (g - p)) (cs.drop (g - p)), bF A' n' cs, bF A n r] [(w.heap.size + 1 + 1 + 1 + 1, #[.slice none 0 0], 22), (w.heap.size + 1 + 1 + 1, #[.bool false, .int .i64 0, .int .u32 0], 31), (w.heap.size + 1 + 1, #[.slice none 0 0], 28), (w.heap.size + 1, #[.int .i64 0, .slice none 0 0], 24), (w.heap.size, #[.int .i64 (p : Int), .slice A n c], 24)]) := Lib.hid (K0.out.on hb); have B1 : Hid (Below w.heap.size w w1) := Lib.hid (below_step B0.out hb); clear hb K0 B0)
    | (refine at_load 3 (.tmp 15) (by rfl) ?_; refine wpList_get (by rfl) 3 (.tmp 15) (by rfl) (w.heap.size) 0 (by rfl) 24 #[.int .i64 (p : Int), .slice A n c] (.int .i64 (p : Int)) _ (K1.out.row 4 rfl) (by rfl) Try.underlying3 (by rfl) ?_)
    | (go_at_call 17; (have hc := (c_greeted' p A' n' c' cs _ (K1.out.bs (A := A') (n := n') (xs := cs) (by simp)) hp24 (by omega) g hg); (with_reducible refine hc.mono ?_); clear hc); rintro e w2 ⟨rfl, hb⟩; have K2 : Hid (EnvF w2 [bF A3 (n' - (g - p)) (cs.drop (g - p)), bF A' n' cs, bF A n r] [(w.heap.size + 1 + 1 + 1 + 1, #[.slice none 0 0], 22), (w.heap.size + 1 + 1 + 1, #[.bool false, .int .i64 0, .int .u32 0], 31), (w.heap.size + 1 + 1, #[.slice none 0 0], 28), (w.heap.size + 1, #[.int .i64 0, .slice none 0 0], 24), (w.heap.size, #[.int .i64 (p : Int), .slice A n c], 24)]) := Lib.hid (K1.out.on hb); have B2 : Hid (Below w.heap.size w w2) := Lib.hid (below_step B1.out hb); clear hb K1 B1)
    | (refine at_store 3 (.tmp 19) (.tmp 18) (by rfl) ?_; refine wpList_put (by rfl) 3 (.tmp 19) (.tmp 18) (by rfl) (w.heap.size + 1) 0 (.int .i64 (g : Int)) (by rfl) (by rfl) 24 #[.int .i64 0, .slice none 0 0] #[.int .i64 (g : Int), .slice none 0 0] (K2.out.row 3 rfl) (by simp [Value.cells]) (by kernel_rfl) infoc_i (by kernel_rfl) ?_; intro w3 hrow hoth hz hbl; have K3 : Hid (EnvF w3 [bF A3 (n' - (g - p)) (cs.drop (g - p)), bF A' n' cs, bF A n r] [(w.heap.size + 1 + 1 + 1 + 1, #[.slice none 0 0], 22), (w.heap.size + 1 + 1 + 1, #[.bool false, .int .i64 0, .int .u32 0], 31), (w.heap.size + 1 + 1, #[.slice none 0 0], 28), (w.heap.size + 1, #[.int .i64 (g : Int), .slice none 0 0], 24), (w.heap.size, #[.int .i64 (p : Int), .slice A n c], 24)]) := Lib.hid (K2.out.turn 3 rfl hrow hoth hz); have B3 : Hid (Below w.heap.size w w3) := Lib.hid (hbl _ _ (by omega) B2.out); clear hrow hoth hz hbl K2 B2)
    | (refine at_load 3 (.tmp 21) (by rfl) ?_; refine wpList_get (by rfl) 3 (.tmp 21) (by rfl) (w.heap.size + 1) 0 (by rfl) 24 #[.int .i64 (g : Int), .slice none 0 0] (.int .i64 (g : Int)) _ (K3.out.row 3 rfl) (by rfl) Try.underlying3 (by rfl) ?_)
    | (refine at_load 3 (.tmp 23) (by rfl) ?_; refine wpList_get (by rfl) 3 (.tmp 23) (by rfl) (w.heap.size) 0 (by rfl) 24 #[.int .i64 (p : Int), .slice A n c] (.int .i64 (p : Int)) _ (K3.out.row 4 rfl) (by rfl) Try.underlying3 (by rfl) ?_)
    | (refine at_load 24 (.tmp 4) (by rfl) ?_; refine wpList_load_row (by rfl) 24 (.tmp 4) (by rfl) (w.heap.size + 1) (by rfl) 24 #[.int .i64 (g : Int), .slice none 0 0] (0, 0) _ (K3.out.row 3 rfl) Try.underlying24 (by rfl) infoc_R ?_)
    | (go_at_call 14; (have hc := (c_begun' (g : Int) _ h24 none 0 0 w3); (with_reducible refine hc.mono ?_); clear hc); rintro e w4 ⟨rfl, hb⟩; have K4 : Hid (EnvF w4 [bF A3 (n' - (g - p)) (cs.drop (g - p)), bF A' n' cs, bF A n r] [(w.heap.size + 1 + 1 + 1 + 1, #[.slice none 0 0], 22), (w.heap.size + 1 + 1 + 1, #[.bool false, .int .i64 0, .int .u32 0], 31), (w.heap.size + 1 + 1, #[.slice none 0 0], 28), (w.heap.size + 1, #[.int .i64 (g : Int), .slice none 0 0], 24), (w.heap.size, #[.int .i64 (p : Int), .slice A n c], 24)]) := Lib.hid (K3.out.on hb); have B4 : Hid (Below w.heap.size w w4) := Lib.hid (below_step B3.out hb); clear hb K3 B3)
    | (refine at_load 22 (.tmp 36) (by rfl) ?_; refine wpList_get (by rfl) 22 (.tmp 36) (by rfl) (w.heap.size) 1 (by rfl) 24 #[.int .i64 (p : Int), .slice A n c] (.slice A n c) _ (K4.out.row 4 rfl) (by rfl) Try.underlying22 (by rfl) ?_)
    | (go_at_call 18; (have hc := (c_joined A A3 n c (n' - (g - p)) (c' - (g - p)) r (cs.drop (g - p)) _ (K4.out.bs (A := A) (n := n) (xs := r) (by simp)) hN (K4.out.bs (A := A3) (n := (n' - (g - p))) (xs := (cs.drop (g - p))) (by simp)) HN3.out (by omega)); (with_reducible refine hc.mono ?_); clear hc); rintro e w5 ⟨A4, c4, rfl, hh, hb⟩; have HC4 := Lib.hid hh.2.2; have K5 : Hid (EnvF w5 [bF A4 (n + (n' - (g - p))) (r ++ cs.drop (g - p)), bF A3 (n' - (g - p)) (cs.drop (g - p)), bF A' n' cs, bF A n r] [(w.heap.size + 1 + 1 + 1 + 1, #[.slice none 0 0], 22), (w.heap.size + 1 + 1 + 1, #[.bool false, .int .i64 0, .int .u32 0], 31), (w.heap.size + 1 + 1, #[.slice none 0 0], 28), (w.heap.size + 1, #[.int .i64 (g : Int), .slice none 0 0], 24), (w.heap.size, #[.int .i64 (p : Int), .slice A n c], 24)]) := Lib.hid (K4.out.handS hb hh); have B5 : Hid (Below w.heap.size w w5) := Lib.hid (below_step B4.out hb); clear hb hh K4 B4)
    | (refine at_store 22 (.tmp 8) (.tmp 39) (by rfl) ?_; refine wpList_put (by rfl) 22 (.tmp 8) (.tmp 39) (by rfl) (w.heap.size + 1 + 1 + 1 + 1) 0 (.slice A4 (n + (n' - (g - p))) c4) (by rfl) (by rfl) 22 #[.slice none 0 0] #[.slice A4 (n + (n' - (g - p))) c4] (K5.out.row 0 rfl) (by simp [Value.cells]) (by kernel_rfl) infoc_B (by kernel_rfl) ?_; intro w6 hrow hoth hz hbl; have K6 : Hid (EnvF w6 [bF A4 (n + (n' - (g - p))) (r ++ cs.drop (g - p)), bF A3 (n' - (g - p)) (cs.drop (g - p)), bF A' n' cs, bF A n r] [(w.heap.size + 1 + 1 + 1 + 1, #[.slice A4 (n + (n' - (g - p))) c4], 22), (w.heap.size + 1 + 1 + 1, #[.bool false, .int .i64 0, .int .u32 0], 31), (w.heap.size + 1 + 1, #[.slice none 0 0], 28), (w.heap.size + 1, #[.int .i64 (g : Int), .slice none 0 0], 24), (w.heap.size, #[.int .i64 (p : Int), .slice A n c], 24)]) := Lib.hid (K5.out.turn 0 rfl hrow hoth hz); have B6 : Hid (Below w.heap.size w w6) := Lib.hid (hbl _ _ (by omega) B5.out); clear hrow hoth hz hbl K5 B5)
    | (refine at_load 22 (.tmp 8) (by rfl) ?_; refine wpList_get (by rfl) 22 (.tmp 8) (by rfl) (w.heap.size + 1 + 1 + 1 + 1) 0 (by rfl) 22 #[.slice A4 (n + (n' - (g - p))) c4] (.slice A4 (n + (n' - (g - p))) c4) _ (K6.out.row 0 rfl) (by rfl) Try.underlying22 (by rfl) ?_)
    | (go_at_call 19; (have hc := (c_pieces A4 (n + (n' - (g - p))) c4 w6); (with_reducible refine hc.mono ?_); clear hc); rintro e w' ⟨rfl, rfl⟩; have K7 : Hid (EnvF (w6.alloc (.cells #[.slice A4 (n + (n' - (g - p))) c4] 22)) [bF A4 (n + (n' - (g - p))) (r ++ cs.drop (g - p)), bF A3 (n' - (g - p)) (cs.drop (g - p)), bF A' n' cs, bF A n r] [(w6.heap.size, #[.slice A4 (n + (n' - (g - p))) c4], 22), (w.heap.size + 1 + 1 + 1 + 1, #[.slice A4 (n + (n' - (g - p))) c4], 22), (w.heap.size + 1 + 1 + 1, #[.bool false, .int .i64 0, .int .u32 0], 31), (w.heap.size + 1 + 1, #[.slice none 0 0], 28), (w.heap.size + 1, #[.int .i64 (g : Int), .slice none 0 0], 24), (w.heap.size, #[.int .i64 (p : Int), .slice A n c], 24)]) := Lib.hid (K6.out.box 22 #[.slice A4 (n + (n' - (g - p))) c4]); have B7 : Hid (Below w.heap.size w (w6.alloc (.cells #[.slice A4 (n + (n' - (g - p))) c4] 22))) := Lib.hid (B6.out.alloc B6.out.size (.cells #[.slice A4 (n + (n' - (g - p))) c4] 22)); have leit := B6.out.size; clear K6 B6))
  have hz0 := B7.out.size
  have hsz0 : ((w6.alloc (.cells #[.slice A4 (n + (n' - (g - p))) c4] 22))).heap.size = w6.heap.size + 1 := by simp
  obtain ⟨bk, hbk0, hbk1, hbk2, hbk3⟩ := bk_of K7.out (A := A4) (n := (n + (n' - (g - p)))) (xs := (r ++ cs.drop (g - p))) (by simp) (y := (w.heap.size + 1, #[.int .i64 (g : Int), .slice none 0 0], 24)) (by simp)
  have nlb := K7.out.ne 3 1 rfl rfl (by decide)
  have nlt := K7.out.ne 3 0 rfl rfl (by decide)
  have nbt := K7.out.ne 1 0 rfl rfl (by decide)
  have nol := K7.out.ne 4 3 rfl rfl (by decide)
  have nob := K7.out.ne 4 1 rfl rfl (by decide)
  have noi := K7.out.ne 4 0 rfl rfl (by decide)
  have nri := K7.out.ne 5 0 rfl rfl (by decide)
  have nxi := K7.out.ne 2 0 rfl rfl (by decide)
  simp only at nlb nlt nbt nol nob noi nri nxi hbk3
  have kl : bk ≠ w.heap.size + 1 + 1 := by
    rcases Nat.eq_zero_or_pos (n + (n' - (g - p))) with h | h
    · rw [hbk3 h]; exact nol
    · exact hbk2 h (w.heap.size + 1 + 1, #[.slice none 0 0], 28) (by simp)
  have kb : bk ≠ w.heap.size + 1 + 1 + 1 + 1 := by
    rcases Nat.eq_zero_or_pos (n + (n' - (g - p))) with h | h
    · rw [hbk3 h]; exact nob
    · exact hbk2 h (w.heap.size + 1 + 1 + 1 + 1, #[.slice A4 (n + (n' - (g - p))) c4], 22) (by simp)
  have ki : bk ≠ w6.heap.size := by
    rcases Nat.eq_zero_or_pos (n + (n' - (g - p))) with h | h
    · rw [hbk3 h]; exact noi
    · exact hbk2 h (w6.heap.size, #[.slice A4 (n + (n' - (g - p))) c4], 22) (by simp)
  have hXl : xs.length = (n + (n' - (g - p))) := by
    rw [← hxs, List.length_append, hlr, List.length_drop, hl']
  have hXn : xs.length ≤ 100000 := by omega
  have HXL := Lib.hid hXl
  clear hXl
  have hbsX := K7.out.bs (A := A4) (n := (n + (n' - (g - p)))) (xs := (r ++ cs.drop (g - p))) (by simp)
  have r_l := K7.out.row 3 rfl
  have r_b := K7.out.row 1 rfl
  have r_it := K7.out.row 0 rfl
  have r_r := K7.out.row 5 rfl
  have r_o := K7.out.row 4 rfl
  have r_x := K7.out.row 2 rfl
  have lt_l := (Array.getElem?_eq_some_iff.1 r_l).1
  have lt_b := (Array.getElem?_eq_some_iff.1 r_b).1
  have lt_it := (Array.getElem?_eq_some_iff.1 r_it).1
  have lt_r := (Array.getElem?_eq_some_iff.1 r_r).1
  have lt_o := (Array.getElem?_eq_some_iff.1 r_o).1
  have lt_x := (Array.getElem?_eq_some_iff.1 r_x).1
  have hND := K7.out.d
  rw [hxs] at hbsX
  have HB0 := B7
  clear K7 B7
  generalize (w6.alloc (.cells #[.slice A4 (n + (n' - (g - p))) c4] 22)) = W0 at *
  have h0 : GatherQ W0 (w.heap.size + 1 + 1) (w.heap.size + 1 + 1 + 1 + 1) w6.heap.size bk xs [] W0 := gatherQ_nil HXL.out r_l r_b hbsX hbk1 HC4.out.1 HC4.out.2
  obtain ⟨ip, hip, hip0, hip1, hip2⟩ := info_parts info_piece
  have hinf := Lib.hid (And.intro hip (And.intro hip0 (And.intro hip1 hip2)))
  clear hip hip0 hip1 hip2
  refine (wpIn_wide (n := 6)).1 ?_
  refine wpIn_rangeFunc_state rfl (by omega) (gf := 29) (lb := #[.pointer (some ⟨w6.heap.size, 0, none⟩)]) rfl trivial (enters_of Try.func29 (by kernel_rfl) rfl)
    (pieces_stops 5 (by omega) w6.heap.size bk A4 (n + (n' - (g - p))) c4 xs (fun j => j < W0.heap.size ∧ j ≠ w.heap.size + 1 + 1 ∧ j ≠ w.heap.size + 1 + 1 + 1 + 1) W0 ⟨by omega, nlt.symm, nbt.symm⟩ ⟨hbk0, kl, kb⟩ (by omega) hbk0 ki r_it hbsX hbk1 HC4.out.1 HC4.out.2 (by omega))
    (fun h k => keepZ_trans h k) (fun W l o o' _ h hc _ => keepZ_put W l o o' h hc) (fun _ => rfl) (fun A B l o hs h hc => stB_keep A B l o hs h hc)
    (GatherQ W0 (w.heap.size + 1 + 1) (w.heap.size + 1 + 1 + 1 + 1) w6.heap.size bk xs) (gatherQ_own W0 _ _ _ _ _ (by omega)) (gatherQ_st nlt nbt (by omega) ki) h0
    (AtQ W0 (w.heap.size + 1 + 1) xs (fun b x => { tmps := #[(.agg #[.int .i64 (p : Int), .slice A n c]), (.slice A3 (n' - (g - p)) (c' - (g - p))), .pointer (some ⟨w.heap.size, 0, none⟩), undef, .pointer (some ⟨w.heap.size + 1, 0, none⟩), .pointer (some ⟨w.heap.size + 1 + 1, 0, none⟩), .pointer (some ⟨w.heap.size + 1 + 1 + 1, 0, none⟩), .int .i64 0, .pointer (some ⟨w.heap.size + 1 + 1 + 1 + 1, 0, none⟩), .pointer (some ⟨b, 0, none⟩), undef, undef, (.agg #[.int .i64 (p : Int), .slice A n c]), .bool true, .bool false, .pointer (some ⟨w.heap.size, 0, none⟩), (.int .i64 (p : Int)), (.slice A' n' c'), (.int .i64 (g : Int)), .pointer (some ⟨w.heap.size + 1, 0, none⟩), (.slice A' n' c'), .pointer (some ⟨w.heap.size + 1, 0, none⟩), (.int .i64 (g : Int)), .pointer (some ⟨w.heap.size, 0, none⟩), (.int .i64 (p : Int)), (.int .i64 ((g - p : Nat) : Int)), (.slice A3 (n' - (g - p)) (c' - (g - p))), (.agg #[.int .i64 (g : Int), .slice none 0 0]), .bool false, .bool true, .bool true, (.slice A3 (n' - (g - p)) (c' - (g - p))), (.int .i64 ((n' - (g - p) : Nat) : Int)), .bool false, .bool false, undef, .pointer (some ⟨w.heap.size, 1, none⟩), (.slice A n c), (.slice A3 (n' - (g - p)) (c' - (g - p))), (.slice A4 (n + (n' - (g - p))) c4), (.slice A4 (n + (n' - (g - p))) c4), (.func (.func 29) #[] #[.pointer (some ⟨w6.heap.size, 0, none⟩)]), (.agg #[.int .i64 (hL x.f), .int .u8 (hK x.f), .int .u8 (hF x.f), .int .i64 (hS x.f), .slice x.A (x.f.length - 9) x.c]), undef, undef, undef, undef, undef, undef, undef, undef, undef, undef, undef, undef, undef, undef, undef, undef, undef, undef, undef, undef, undef, undef, undef, undef, undef, undef, undef, undef, undef, undef, undef, undef, undef, undef], defers := [] })) (fun pre x a' => atQ_own _ _ _ _ _ _ _ _)
    ?assign ?body ?done
  case assign =>
    intro l pre x W K hI hV hK
    have HK := Lib.hid hK
    have HI := Lib.hid hI
    have HV := Lib.hid hV
    clear hK hI hV
    gi_wp2
    refine HK.out _ _ ?_ ?_ ?_ (atQ_laid _ HI.out (by omega) HV.out)
    · exact (KeepsOthers.alloc _ _).from _
    · exact ⟨KeepC.below ((Below.refl _ W).alloc (Nat.le_refl _) _), by simp⟩
    · exact (gatherQ_own W0 _ _ _ _ _ (by omega)).alloc _ HI.out
  case body =>
    rintro l pre x a' W hl0 hI ⟨b, rfl, hb0, hbx, ⟨v0, hv0, hv1, hv2⟩, hpay, hpay2, hx9, hxt⟩ hlen
    obtain ⟨⟨v, hrl, hov⟩, ⟨A5, c5, hrb, hbs5, hbk5, hc5, hN5⟩, hkp⟩ := hI
    have ev : v0 = v := by
      have := hv0.symm.trans hrl
      simpa using this
    subst ev
    have c_l := cells1_row hrl
    have c_b := cells1_row hrb
    obtain ⟨x_0, x_1, x_2, x_3, x_4⟩ := cells5_row hbx
    have HOV := Lib.hid (hov.kept ((Below.refl _ W).alloc (Nat.le_refl _) (.cells #[.int .i64 (hL x.f), .int .u8 (hK x.f), .int .u8 (hF x.f), .int .i64 (hS x.f), .slice x.A (x.f.length - 9) x.c] 40)))
    have HQ1 := Lib.hid (qs_lit W 40 x hpay)
    have HFR : Hid (∀ y ∈ [x], ∀ k, payOn y k → W0.heap.size ≤ k ∧ v0.ownBlock ≠ some k) := Lib.hid (fun y hy k hk => by
      rw [List.mem_singleton] at hy
      subst hy
      exact ⟨(hpay2 k hk).1, hv2 k hk⟩)
    have hzk := hkp.size
    have hbW : b < W.heap.size := (Array.getElem?_eq_some_iff.1 hbx).1
    have hob : ∀ k, v0.ownBlock = some k → W0.heap.size ≤ k := fun k e => (hov.block e).1
    have HROW : Hid (∀ o w4, (W.alloc o).grownBy w4 v0.ownBlock → ∀ k cs t, k < W0.heap.size ∨ k = b → W.heap[k]? = some (.cells cs t) → w4.heap[k]? = some (.cells cs t)) := Lib.hid (fun o w4 hg k cs t hk h => by
      have hkl := (Array.getElem?_eq_some_iff.1 h).1
      refine ((hg.block k (by simp; omega) (fun e => ?_)).trans (Below.heap_alloc _ _ _ hkl)).trans h
      rcases hk with hk | rfl
      · have := hob k e.symm; omega
      · exact hv1 e.symm)
    have HRL := Lib.hid hrl
    have HRB := Lib.hid hrb
    have HBX := Lib.hid hbx
    have HOV0 := Lib.hid hov
    have HBS5 := Lib.hid hbs5
    have HBK5 := Lib.hid hbk5
    have HKP := Lib.hid hkp
    have HN5 := Lib.hid hN5
    have nb1 : b ≠ w.heap.size + 1 + 1 := by omega
    have nb2 : w.heap.size + 1 + 1 ≠ b := by omega
    have nb3 : b ≠ w.heap.size + 1 + 1 + 1 + 1 := by omega
    have nb4 : w.heap.size + 1 + 1 + 1 + 1 ≠ b := by omega
    obtain ⟨A7, hA7⟩ : ∃ A7, (if c5 = x.f.length then A5 else A5.map fun y => y.add x.f.length) = A7 := ⟨_, rfl⟩
    have hle : x.f.length ≤ xs.length - totL pre := by omega
    have s11 : IntKind.i64.wrap (9 + ((x.f.length - 9 : Nat) : Int)) = (x.f.length : Int) := by
      have e : 9 + ((x.f.length - 9 : Nat) : Int) = (x.f.length : Int) := by omega
      rw [e]
      exact IntWalk.i64_in _ (by omega)
    have s12 : (x.f.length : Int) ≤ ((xs.length - totL pre : Nat) : Int) := by omega
    clear hrl hrb hbx hov hbs5 hbk5 hkp hN5 hv0 hv1 hv2 hpay hpay2 hob
    gi_wp2_with (gi_at_builtin; refine wpListIn_append_pcs _ rfl (.tmp 43) (.tmp 45) 28 rfl W0.heap.size 40 ip Try.underlying28 hinf.out.1 hinf.out.2.1 hinf.out.2.2.1 hinf.out.2.2.2 _ pre rfl HOV.out _ 1 1 [x] rfl HQ1.out HFR.out (fun h => by cases h) (by omega) (by simp; omega) ?_; intro v4 w4 hown4 hb4 hg4; obtain ⟨A6, c6, rfl, hh6⟩ := hown4.handQ (n := pre.length + 1) (by simp); have HO4 := Lib.hid hown4; have HG4 := Lib.hid hg4; have hrl4 := HROW.out _ _ hg4 _ _ _ (.inl lt_l) HRL.out; have hrb4 := HROW.out _ _ hg4 _ _ _ (.inl lt_b) HRB.out; have hbx4 := HROW.out _ _ hg4 _ _ _ (.inr rfl) HBX.out; have d_l := cells1_row hrl4; have d_b := cells1_row hrb4; obtain ⟨d_0, d_1, d_2, d_3, d_4⟩ := cells5_row hbx4; have e_l := frozen_of_row w4 _ 0 _ _ hrl4; have e_b := frozen_of_row w4 _ 0 _ _ hrb4; clear hrl4 hrb4 hbx4 hown4 hb4 hg4 hh6)
    exact gatherQ_round (R := 0) nlb lt_l lt_b kl kb hbk0 HRL.out HOV0.out HRB.out HBS5.out HBK5.out HKP.out HG4.out HO4.out hxt hA7 rfl hc5 HN5.out
  case done =>
    intro D ys W hD hys hI hKD
    have hrd := rs_drop xs ys hys
    obtain ⟨A2, c2, A9, c9, KD0, q1, q2, q3, q4, q5⟩ := envQ_done hI hys hD hKD ⟨lt_l, lt_b, lt_it, hbk0⟩ r_r r_o r_x (List.nodup_cons.1 hND).2
      (by rintro k (rfl | rfl | rfl) <;> (unfold P3; omega))
      (by
        intro k hk h
        have h2 := HXL.out
        have h3 := hbk2 (by omega)
        rcases hk with rfl | rfl | rfl | rfl | rfl
        · exact h3 (w.heap.size + 1 + 1 + 1 + 1, #[.slice A4 (n + (n' - (g - p))) c4], 22) (by simp)
        · exact h3 (w.heap.size + 1 + 1 + 1, #[.bool false, .int .i64 0, .int .u32 0], 31) (by simp)
        · exact h3 (w.heap.size + 1 + 1, #[.slice none 0 0], 28) (by simp)
        · exact h3 (w.heap.size + 1, #[.int .i64 (g : Int), .slice none 0 0], 24) (by simp)
        · exact h3 (w.heap.size, #[.int .i64 (p : Int), .slice A n c], 24) (by simp))
    have K100 : Hid (EnvF W [dF D, qF A2 ys.length ys, bF A9 (rs xs).length (rs xs)] [(w.heap.size + 1 + 1 + 1 + 1, #[.slice A9 (rs xs).length c9], 22), (w.heap.size + 1 + 1 + 1, #[.bool false, .int .i64 0, .int .u32 0], 31), (w.heap.size + 1 + 1, #[.slice A2 ys.length c2], 28), (w.heap.size + 1, #[.int .i64 (g : Int), .slice none 0 0], 24), (w.heap.size, #[.int .i64 (p : Int), .slice A n c], 24)]) := Lib.hid KD0
    have B100 : Hid (Below w.heap.size w W) := Lib.hid (HB0.out.trans (hI.keep.below hz0 (by rintro k (rfl | rfl | rfl) <;> omega)))
    have HYS := Lib.hid hys
    have hrl : (rs xs).length ≤ 100000 := by omega
    have HQ5 := Lib.hid q5
    clear hI hys KD0 r_l r_b r_it r_r r_o r_x hrd hXn q5 hbsX hbk1 hbk2 hbk3 h0 hinf hND
    by_cases h9 : 9 ≤ (rs xs).length
    · by_cases hbad : 16384 < hL (rs xs)
      · have hb1 : decide ((16384 : Int) < (hL (rs xs) : Int)) = true := decide_eq_true (by omega)
        have hB : Bad (rs xs) := ⟨h9, hbad⟩
        have eB1 : decide (Bad (rs xs)) = true := decide_eq_true hB
        have eB2 : (if Bad (rs xs) then (6 : Int) else 0) = 6 := if_pos hB
        have eB3 : (if Bad (rs xs) then ([] : List UInt8) else rs xs) = [] := if_pos hB
        have HE := Lib.hid (And.intro eB1 (And.intro eB2 eB3))
        clear eB1 eB2 eB3 hB
        go_wp2_with (first
          | go_skip
          | (refine at_load 22 (.tmp 8) (by rfl) ?_; refine wpList_get (by rfl) 22 (.tmp 8) (by rfl) (w.heap.size + 1 + 1 + 1 + 1) 0 (by rfl) 22 #[.slice A9 (rs xs).length c9] (.slice A9 (rs xs).length c9) _ (K100.out.row 0 rfl) (by rfl) Try.underlying22 (by rfl) ?_)
          | (go_at_call 20; (have hc := (c_headOf_yes A9 (rs xs).length c9 (rs xs) _ (K100.out.bs (A := A9) (n := (rs xs).length) (xs := (rs xs)) (by simp)) h9 q1); (with_reducible refine hc.mono ?_); clear hc); rintro e w101 ⟨rfl, hb⟩; have K101 : Hid (EnvF w101 [dF D, qF A2 ys.length ys, bF A9 (rs xs).length (rs xs)] [(w.heap.size + 1 + 1 + 1 + 1, #[.slice A9 (rs xs).length c9], 22), (w.heap.size + 1 + 1 + 1, #[.bool false, .int .i64 0, .int .u32 0], 31), (w.heap.size + 1 + 1, #[.slice A2 ys.length c2], 28), (w.heap.size + 1, #[.int .i64 (g : Int), .slice none 0 0], 24), (w.heap.size, #[.int .i64 (p : Int), .slice A n c], 24)]) := Lib.hid (K100.out.on hb); have B101 : Hid (Below w.heap.size w w101) := Lib.hid (below_step B100.out hb); clear hb K100 B100; have leh : w.heap.size ≤ w101.heap.size := (by have := B101.out.size; (try simp only [World.size_alloc] at this); omega); have K102 : Hid (EnvF (w101.alloc (.cells #[.int .i64 0, .int .u8 0, .int .u8 0, .int .i64 0] 38)) [dF D, qF A2 ys.length ys, bF A9 (rs xs).length (rs xs)] [(w101.heap.size, #[.int .i64 0, .int .u8 0, .int .u8 0, .int .i64 0], 38), (w.heap.size + 1 + 1 + 1 + 1, #[.slice A9 (rs xs).length c9], 22), (w.heap.size + 1 + 1 + 1, #[.bool false, .int .i64 0, .int .u32 0], 31), (w.heap.size + 1 + 1, #[.slice A2 ys.length c2], 28), (w.heap.size + 1, #[.int .i64 (g : Int), .slice none 0 0], 24), (w.heap.size, #[.int .i64 (p : Int), .slice A n c], 24)]) := Lib.hid (K101.out.boxg 38 #[.int .i64 0, .int .u8 0, .int .u8 0, .int .i64 0] (w101.heap.size) (by simp)); have B102 : Hid (Below w.heap.size w (w101.alloc (.cells #[.int .i64 0, .int .u8 0, .int .u8 0, .int .i64 0] 38))) := Lib.hid (B101.out.alloc B101.out.size (.cells #[.int .i64 0, .int .u8 0, .int .u8 0, .int .i64 0] 38)); clear K101 B101)
          | (refine at_store 38 (.tmp 10) (.tmp 56) (by rfl) ?_; refine wpList_put (by rfl) 38 (.tmp 10) (.tmp 56) (by rfl) (w101.heap.size) 0 (.agg #[.int .i64 (hL (rs xs)), .int .u8 (hK (rs xs)), .int .u8 (hF (rs xs)), .int .i64 (hS (rs xs))]) (by rfl) (by rfl) 38 #[.int .i64 0, .int .u8 0, .int .u8 0, .int .i64 0] #[.int .i64 (hL (rs xs)), .int .u8 (hK (rs xs)), .int .u8 (hF (rs xs)), .int .i64 (hS (rs xs))] (K102.out.row 0 rfl) (by simp [Value.cells]) (by kernel_rfl) infoc_H (by kernel_rfl) ?_; intro w103 hrow hoth hz hbl; have K103 : Hid (EnvF w103 [dF D, qF A2 ys.length ys, bF A9 (rs xs).length (rs xs)] [(w101.heap.size, #[.int .i64 (hL (rs xs)), .int .u8 (hK (rs xs)), .int .u8 (hF (rs xs)), .int .i64 (hS (rs xs))], 38), (w.heap.size + 1 + 1 + 1 + 1, #[.slice A9 (rs xs).length c9], 22), (w.heap.size + 1 + 1 + 1, #[.bool false, .int .i64 0, .int .u32 0], 31), (w.heap.size + 1 + 1, #[.slice A2 ys.length c2], 28), (w.heap.size + 1, #[.int .i64 (g : Int), .slice none 0 0], 24), (w.heap.size, #[.int .i64 (p : Int), .slice A n c], 24)]) := Lib.hid (K102.out.turn 0 rfl hrow hoth hz); have B103 : Hid (Below w.heap.size w w103) := Lib.hid (hbl _ _ leh B102.out); clear hrow hoth hz hbl K102 B102)
          | (refine at_load 38 (.tmp 10) (by rfl) ?_; refine wpListG_row (by kernel_rfl) 38 (.tmp 10) (by rfl) (w101.heap.size) (by rfl) 38 #[.int .i64 (hL (rs xs)), .int .u8 (hK (rs xs)), .int .u8 (hF (rs xs)), .int .i64 (hS (rs xs))] _ (K103.out.row 0 rfl) Try.underlying38 (by rfl) infoc_H ?_)
          | (go_at_call 21; (have hc := (c_tooLong' (hL (rs xs) : Int) (hK (rs xs) : Int) (hF (rs xs) : Int) (hS (rs xs) : Int) _ hb1 w103); (with_reducible refine hc.mono ?_); clear hc); rintro e w104 ⟨rfl, hb⟩; have K104 : Hid (EnvF w104 [dF D, qF A2 ys.length ys, bF A9 (rs xs).length (rs xs)] [(w101.heap.size, #[.int .i64 (hL (rs xs)), .int .u8 (hK (rs xs)), .int .u8 (hF (rs xs)), .int .i64 (hS (rs xs))], 38), (w.heap.size + 1 + 1 + 1 + 1, #[.slice A9 (rs xs).length c9], 22), (w.heap.size + 1 + 1 + 1, #[.bool false, .int .i64 0, .int .u32 0], 31), (w.heap.size + 1 + 1, #[.slice A2 ys.length c2], 28), (w.heap.size + 1, #[.int .i64 (g : Int), .slice none 0 0], 24), (w.heap.size, #[.int .i64 (p : Int), .slice A n c], 24)]) := Lib.hid (K103.out.on hb); have B104 : Hid (Below w.heap.size w w104) := Lib.hid (below_step B103.out hb); clear hb K103 B103)
          | (refine at_store 29 (.tmp 63) (.const (.int .u32 6)) (by rfl) ?_; refine wpList_put (by rfl) 29 (.tmp 63) (.const (.int .u32 6)) (by rfl) (w.heap.size + 1 + 1 + 1) 2 (.int .u32 6) (by rfl) (by rfl) 31 #[.bool false, .int .i64 0, .int .u32 0] #[.bool false, .int .i64 0, .int .u32 6] (K104.out.row 2 rfl) (by simp [Value.cells]) (by kernel_rfl) infoc_n (by kernel_rfl) ?_; intro w105 hrow hoth hz hbl; have K105 : Hid (EnvF w105 [dF D, qF A2 ys.length ys, bF A9 (rs xs).length (rs xs)] [(w101.heap.size, #[.int .i64 (hL (rs xs)), .int .u8 (hK (rs xs)), .int .u8 (hF (rs xs)), .int .i64 (hS (rs xs))], 38), (w.heap.size + 1 + 1 + 1 + 1, #[.slice A9 (rs xs).length c9], 22), (w.heap.size + 1 + 1 + 1, #[.bool false, .int .i64 0, .int .u32 6], 31), (w.heap.size + 1 + 1, #[.slice A2 ys.length c2], 28), (w.heap.size + 1, #[.int .i64 (g : Int), .slice none 0 0], 24), (w.heap.size, #[.int .i64 (p : Int), .slice A n c], 24)]) := Lib.hid (K104.out.turn 2 rfl hrow hoth hz); have B105 : Hid (Below w.heap.size w w105) := Lib.hid (hbl _ _ (by omega) B104.out); clear hrow hoth hz hbl K104 B104))
        go_step3
        refine ⟨rfl, ?_⟩
        go_wp2_with (first
          | go_skip
          | (refine at_store 4 (.tmp 70) (.const (.bool true)) (by rfl) ?_; refine wpList_put (by rfl) 4 (.tmp 70) (.const (.bool true)) (by rfl) (w.heap.size + 1 + 1 + 1) 0 (.bool true) (by rfl) (by rfl) 31 #[.bool false, .int .i64 0, .int .u32 6] #[.bool true, .int .i64 0, .int .u32 6] (K105.out.row 2 rfl) (by simp [Value.cells]) (by kernel_rfl) infoc_b (by kernel_rfl) ?_; intro w106 hrow hoth hz hbl; have K106 : Hid (EnvF w106 [dF D, qF A2 ys.length ys, bF A9 (rs xs).length (rs xs)] [(w101.heap.size, #[.int .i64 (hL (rs xs)), .int .u8 (hK (rs xs)), .int .u8 (hF (rs xs)), .int .i64 (hS (rs xs))], 38), (w.heap.size + 1 + 1 + 1 + 1, #[.slice A9 (rs xs).length c9], 22), (w.heap.size + 1 + 1 + 1, #[.bool true, .int .i64 0, .int .u32 6], 31), (w.heap.size + 1 + 1, #[.slice A2 ys.length c2], 28), (w.heap.size + 1, #[.int .i64 (g : Int), .slice none 0 0], 24), (w.heap.size, #[.int .i64 (p : Int), .slice A n c], 24)]) := Lib.hid (K105.out.turn 2 rfl hrow hoth hz); have B106 : Hid (Below w.heap.size w w106) := Lib.hid (hbl _ _ (by omega) B105.out); clear hrow hoth hz hbl K105 B105))
        obtain ⟨o_0, o_1⟩ := cells2_row (K106.out.row 4 rfl)
        have zo := fun j => frozen_of_row _ _ j _ _ (K106.out.row 4 rfl)
        have l_0 := cells1_row (K106.out.row 3 rfl)
        have zl := fun j => frozen_of_row _ _ j _ _ (K106.out.row 3 rfl)
        obtain ⟨x_0, x_1, x_2⟩ := cells3_row (K106.out.row 2 rfl)
        have zx := fun j => frozen_of_row _ _ j _ _ (K106.out.row 2 rfl)
        have nol' : w.heap.size + 1 ≠ w.heap.size + 1 + 1 := K106.out.ne 4 3 rfl rfl (by decide)
        have nlo' := nol'.symm
        have nox' : w.heap.size + 1 ≠ w.heap.size + 1 + 1 + 1 := K106.out.ne 4 2 rfl rfl (by decide)
        have nxo' := nox'.symm
        have nlx' : w.heap.size + 1 + 1 ≠ w.heap.size + 1 + 1 + 1 := K106.out.ne 3 2 rfl rfl (by decide)
        have nxl' := nlx'.symm
        have KA := Lib.hid ((K106.out).setCells 4 rfl [.int .i64 (g : Int), .slice none 0 0] (cs := #[.int .i64 (g : Int), .slice none 0 0]) (by kernel_rfl))
        have KB := Lib.hid ((KA.out).setCells 3 rfl [.slice A2 ys.length c2] (cs := #[.slice A2 ys.length c2]) (by kernel_rfl))
        have KC := Lib.hid ((KB.out).setCells 2 rfl [.bool true, .int .i64 0, .int .u32 6] (cs := #[.bool true, .int .i64 0, .int .u32 6]) (by kernel_rfl))
        have KD := Lib.hid KC.out.drew
        have BB0 := (setCells_below (g := w.heap.size + 1 + 1 + 1) (by omega) [.bool true, .int .i64 0, .int .u32 6] 0 _ _ (setCells_below (g := w.heap.size + 1 + 1) (by omega) [.slice A2 ys.length c2] 0 _ _ (setCells_below (g := w.heap.size + 1) (by omega) [.int .i64 (g : Int), .slice none 0 0] 0 _ _ B106.out))).drew
        have hr10 := KD.out.row 4 rfl
        have hr20 := KD.out.row 3 rfl
        have hr30 := KD.out.row 2 rfl
        have hd0 := (KD.out.f (dF D) (by simp)).1
        have hq0 := KD.out.qs (A := A2) (n := ys.length) (xs := ys) (by simp)
        simp only [World.setCells, Nat.reduceAdd] at hr10 hr20 hr30 BB0 hd0 hq0
        have hr1 := Lib.hid hr10
        clear hr10
        have hr2 := Lib.hid hr20
        clear hr20
        have hr3 := Lib.hid hr30
        clear hr30
        have BB := Lib.hid BB0
        clear BB0
        have hd := Lib.hid hd0
        clear hd0
        have hq := Lib.hid hq0
        clear hq0
        clear KA KB KC KD
        refine wp_then_only ?_
        go_region
        all_goals
          go_wp2
          rw [jump_ret]
          exact ⟨by simp, .inl ⟨_, _, rfl, run_takeDeferred hd.out, ⟨_, res_feed rfl _ _ _ _ _ _ _ _ _ _ _ rfl (row_putD hr1.out (by omega)) rfl (row_putD hr2.out (by omega)) rfl (row_putD hr3.out (by omega)) Try.underlying24 rfl infoc_R Try.underlying28 rfl Try.underlying31 rfl infoc_X, none, 0, 0, A2, ys.length, c2, ys, by rw [HE.out.1, HE.out.2.1]; rfl, by rw [HE.out.2.2]; exact HandS.nil_ _ _, handQ_putD ⟨hq.out, fun k hk => Nat.le_trans hz0 (HQ5.out k hk), q3, q4⟩ hd.out, HYS.out, BB.out.trans (belowK_b (w := w) (Nat.le_refl _) _ D _ _ (by omega) hd.out rfl rfl)⟩⟩⟩
      · have hb1 : decide ((16384 : Int) < (hL (rs xs) : Int)) = false := decide_eq_false (by omega)
        have hB : ¬ Bad (rs xs) := fun h => by unfold Bad at h; omega
        have eB1 : decide (Bad (rs xs)) = false := decide_eq_false hB
        have eB2 : (if Bad (rs xs) then (6 : Int) else 0) = 0 := if_neg hB
        have eB3 : (if Bad (rs xs) then ([] : List UInt8) else rs xs) = rs xs := if_neg hB
        have HE := Lib.hid (And.intro eB1 (And.intro eB2 eB3))
        clear eB1 eB2 eB3 hB
        go_wp2_with (first
          | go_skip
          | (refine at_load 22 (.tmp 8) (by rfl) ?_; refine wpList_get (by rfl) 22 (.tmp 8) (by rfl) (w.heap.size + 1 + 1 + 1 + 1) 0 (by rfl) 22 #[.slice A9 (rs xs).length c9] (.slice A9 (rs xs).length c9) _ (K100.out.row 0 rfl) (by rfl) Try.underlying22 (by rfl) ?_)
          | (go_at_call 20; (have hc := (c_headOf_yes A9 (rs xs).length c9 (rs xs) _ (K100.out.bs (A := A9) (n := (rs xs).length) (xs := (rs xs)) (by simp)) h9 q1); (with_reducible refine hc.mono ?_); clear hc); rintro e w101 ⟨rfl, hb⟩; have K101 : Hid (EnvF w101 [dF D, qF A2 ys.length ys, bF A9 (rs xs).length (rs xs)] [(w.heap.size + 1 + 1 + 1 + 1, #[.slice A9 (rs xs).length c9], 22), (w.heap.size + 1 + 1 + 1, #[.bool false, .int .i64 0, .int .u32 0], 31), (w.heap.size + 1 + 1, #[.slice A2 ys.length c2], 28), (w.heap.size + 1, #[.int .i64 (g : Int), .slice none 0 0], 24), (w.heap.size, #[.int .i64 (p : Int), .slice A n c], 24)]) := Lib.hid (K100.out.on hb); have B101 : Hid (Below w.heap.size w w101) := Lib.hid (below_step B100.out hb); clear hb K100 B100; have leh : w.heap.size ≤ w101.heap.size := (by have := B101.out.size; (try simp only [World.size_alloc] at this); omega); have K102 : Hid (EnvF (w101.alloc (.cells #[.int .i64 0, .int .u8 0, .int .u8 0, .int .i64 0] 38)) [dF D, qF A2 ys.length ys, bF A9 (rs xs).length (rs xs)] [(w101.heap.size, #[.int .i64 0, .int .u8 0, .int .u8 0, .int .i64 0], 38), (w.heap.size + 1 + 1 + 1 + 1, #[.slice A9 (rs xs).length c9], 22), (w.heap.size + 1 + 1 + 1, #[.bool false, .int .i64 0, .int .u32 0], 31), (w.heap.size + 1 + 1, #[.slice A2 ys.length c2], 28), (w.heap.size + 1, #[.int .i64 (g : Int), .slice none 0 0], 24), (w.heap.size, #[.int .i64 (p : Int), .slice A n c], 24)]) := Lib.hid (K101.out.boxg 38 #[.int .i64 0, .int .u8 0, .int .u8 0, .int .i64 0] (w101.heap.size) (by simp)); have B102 : Hid (Below w.heap.size w (w101.alloc (.cells #[.int .i64 0, .int .u8 0, .int .u8 0, .int .i64 0] 38))) := Lib.hid (B101.out.alloc B101.out.size (.cells #[.int .i64 0, .int .u8 0, .int .u8 0, .int .i64 0] 38)); clear K101 B101)
          | (refine at_store 38 (.tmp 10) (.tmp 56) (by rfl) ?_; refine wpList_put (by rfl) 38 (.tmp 10) (.tmp 56) (by rfl) (w101.heap.size) 0 (.agg #[.int .i64 (hL (rs xs)), .int .u8 (hK (rs xs)), .int .u8 (hF (rs xs)), .int .i64 (hS (rs xs))]) (by rfl) (by rfl) 38 #[.int .i64 0, .int .u8 0, .int .u8 0, .int .i64 0] #[.int .i64 (hL (rs xs)), .int .u8 (hK (rs xs)), .int .u8 (hF (rs xs)), .int .i64 (hS (rs xs))] (K102.out.row 0 rfl) (by simp [Value.cells]) (by kernel_rfl) infoc_H (by kernel_rfl) ?_; intro w103 hrow hoth hz hbl; have K103 : Hid (EnvF w103 [dF D, qF A2 ys.length ys, bF A9 (rs xs).length (rs xs)] [(w101.heap.size, #[.int .i64 (hL (rs xs)), .int .u8 (hK (rs xs)), .int .u8 (hF (rs xs)), .int .i64 (hS (rs xs))], 38), (w.heap.size + 1 + 1 + 1 + 1, #[.slice A9 (rs xs).length c9], 22), (w.heap.size + 1 + 1 + 1, #[.bool false, .int .i64 0, .int .u32 0], 31), (w.heap.size + 1 + 1, #[.slice A2 ys.length c2], 28), (w.heap.size + 1, #[.int .i64 (g : Int), .slice none 0 0], 24), (w.heap.size, #[.int .i64 (p : Int), .slice A n c], 24)]) := Lib.hid (K102.out.turn 0 rfl hrow hoth hz); have B103 : Hid (Below w.heap.size w w103) := Lib.hid (hbl _ _ leh B102.out); clear hrow hoth hz hbl K102 B102)
          | (refine at_load 38 (.tmp 10) (by rfl) ?_; refine wpListG_row (by kernel_rfl) 38 (.tmp 10) (by rfl) (w101.heap.size) (by rfl) 38 #[.int .i64 (hL (rs xs)), .int .u8 (hK (rs xs)), .int .u8 (hF (rs xs)), .int .i64 (hS (rs xs))] _ (K103.out.row 0 rfl) Try.underlying38 (by rfl) infoc_H ?_)
          | (go_at_call 21; (have hc := (c_tooLong' (hL (rs xs) : Int) (hK (rs xs) : Int) (hF (rs xs) : Int) (hS (rs xs) : Int) _ hb1 w103); (with_reducible refine hc.mono ?_); clear hc); rintro e w104 ⟨rfl, hb⟩; have K104 : Hid (EnvF w104 [dF D, qF A2 ys.length ys, bF A9 (rs xs).length (rs xs)] [(w101.heap.size, #[.int .i64 (hL (rs xs)), .int .u8 (hK (rs xs)), .int .u8 (hF (rs xs)), .int .i64 (hS (rs xs))], 38), (w.heap.size + 1 + 1 + 1 + 1, #[.slice A9 (rs xs).length c9], 22), (w.heap.size + 1 + 1 + 1, #[.bool false, .int .i64 0, .int .u32 0], 31), (w.heap.size + 1 + 1, #[.slice A2 ys.length c2], 28), (w.heap.size + 1, #[.int .i64 (g : Int), .slice none 0 0], 24), (w.heap.size, #[.int .i64 (p : Int), .slice A n c], 24)]) := Lib.hid (K103.out.on hb); have B104 : Hid (Below w.heap.size w w104) := Lib.hid (below_step B103.out hb); clear hb K103 B103)
          | (refine at_load 22 (.tmp 8) (by rfl) ?_; refine wpList_get (by rfl) 22 (.tmp 8) (by rfl) (w.heap.size + 1 + 1 + 1 + 1) 0 (by rfl) 22 #[.slice A9 (rs xs).length c9] (.slice A9 (rs xs).length c9) _ (K104.out.row 1 rfl) (by rfl) Try.underlying22 (by rfl) ?_)
          | (go_at_call 22; (have hc := (c_own A9 (rs xs).length c9 (rs xs) _ (K104.out.bs (A := A9) (n := (rs xs).length) (xs := (rs xs)) (by simp)) q2 (by omega)); (with_reducible refine hc.mono ?_); clear hc); rintro e w105 ⟨A10, c10, rfl, hh, hb⟩; have HC10 := Lib.hid hh.2.2; have HF10 := Lib.hid hh.2.1; have hz10 := B104.out.size; have K105 : Hid (EnvF w105 [bF A10 (rs xs).length (rs xs), dF D, qF A2 ys.length ys, bF A9 (rs xs).length (rs xs)] [(w101.heap.size, #[.int .i64 (hL (rs xs)), .int .u8 (hK (rs xs)), .int .u8 (hF (rs xs)), .int .i64 (hS (rs xs))], 38), (w.heap.size + 1 + 1 + 1 + 1, #[.slice A9 (rs xs).length c9], 22), (w.heap.size + 1 + 1 + 1, #[.bool false, .int .i64 0, .int .u32 0], 31), (w.heap.size + 1 + 1, #[.slice A2 ys.length c2], 28), (w.heap.size + 1, #[.int .i64 (g : Int), .slice none 0 0], 24), (w.heap.size, #[.int .i64 (p : Int), .slice A n c], 24)]) := Lib.hid (K104.out.handS hb hh); have B105 : Hid (Below w.heap.size w w105) := Lib.hid (below_step B104.out hb); clear hb hh K104 B104)
          | (refine at_store 22 (.tmp 66) (.tmp 65) (by rfl) ?_; refine wpList_put (by rfl) 22 (.tmp 66) (.tmp 65) (by rfl) (w.heap.size + 1) 1 (.slice A10 (rs xs).length c10) (by rfl) (by rfl) 24 #[.int .i64 (g : Int), .slice none 0 0] #[.int .i64 (g : Int), .slice A10 (rs xs).length c10] (K105.out.row 4 rfl) (by simp [Value.cells]) (by kernel_rfl) infoc_B (by kernel_rfl) ?_; intro w106 hrow hoth hz hbl; have K106 : Hid (EnvF w106 [bF A10 (rs xs).length (rs xs), dF D, qF A2 ys.length ys, bF A9 (rs xs).length (rs xs)] [(w101.heap.size, #[.int .i64 (hL (rs xs)), .int .u8 (hK (rs xs)), .int .u8 (hF (rs xs)), .int .i64 (hS (rs xs))], 38), (w.heap.size + 1 + 1 + 1 + 1, #[.slice A9 (rs xs).length c9], 22), (w.heap.size + 1 + 1 + 1, #[.bool false, .int .i64 0, .int .u32 0], 31), (w.heap.size + 1 + 1, #[.slice A2 ys.length c2], 28), (w.heap.size + 1, #[.int .i64 (g : Int), .slice A10 (rs xs).length c10], 24), (w.heap.size, #[.int .i64 (p : Int), .slice A n c], 24)]) := Lib.hid (K105.out.turn 4 rfl hrow hoth hz); have B106 : Hid (Below w.heap.size w w106) := Lib.hid (hbl _ _ (by omega) B105.out); clear hrow hoth hz hbl K105 B105))
        obtain ⟨o_0, o_1⟩ := cells2_row (K106.out.row 4 rfl)
        have zo := fun j => frozen_of_row _ _ j _ _ (K106.out.row 4 rfl)
        have l_0 := cells1_row (K106.out.row 3 rfl)
        have zl := fun j => frozen_of_row _ _ j _ _ (K106.out.row 3 rfl)
        obtain ⟨x_0, x_1, x_2⟩ := cells3_row (K106.out.row 2 rfl)
        have zx := fun j => frozen_of_row _ _ j _ _ (K106.out.row 2 rfl)
        have nol' : w.heap.size + 1 ≠ w.heap.size + 1 + 1 := K106.out.ne 4 3 rfl rfl (by decide)
        have nlo' := nol'.symm
        have nox' : w.heap.size + 1 ≠ w.heap.size + 1 + 1 + 1 := K106.out.ne 4 2 rfl rfl (by decide)
        have nxo' := nox'.symm
        have nlx' : w.heap.size + 1 + 1 ≠ w.heap.size + 1 + 1 + 1 := K106.out.ne 3 2 rfl rfl (by decide)
        have nxl' := nlx'.symm
        have KA := Lib.hid ((K106.out).setCells 4 rfl [.int .i64 (g : Int), .slice A10 (rs xs).length c10] (cs := #[.int .i64 (g : Int), .slice A10 (rs xs).length c10]) (by kernel_rfl))
        have KB := Lib.hid ((KA.out).setCells 3 rfl [.slice A2 ys.length c2] (cs := #[.slice A2 ys.length c2]) (by kernel_rfl))
        have KC := Lib.hid ((KB.out).setCells 2 rfl [.bool false, .int .i64 0, .int .u32 0] (cs := #[.bool false, .int .i64 0, .int .u32 0]) (by kernel_rfl))
        have KD := Lib.hid KC.out.drew
        have BB0 := (setCells_below (g := w.heap.size + 1 + 1 + 1) (by omega) [.bool false, .int .i64 0, .int .u32 0] 0 _ _ (setCells_below (g := w.heap.size + 1 + 1) (by omega) [.slice A2 ys.length c2] 0 _ _ (setCells_below (g := w.heap.size + 1) (by omega) [.int .i64 (g : Int), .slice A10 (rs xs).length c10] 0 _ _ B106.out))).drew
        have hr10 := KD.out.row 4 rfl
        have hr20 := KD.out.row 3 rfl
        have hr30 := KD.out.row 2 rfl
        have hd0 := (KD.out.f (dF D) (by simp)).1
        have hq0 := KD.out.qs (A := A2) (n := ys.length) (xs := ys) (by simp)
        have hs0 := KD.out.bs (A := A10) (n := (rs xs).length) (xs := rs xs) (by simp)
        simp only [World.setCells, Nat.reduceAdd] at hr10 hr20 hr30 BB0 hd0 hq0 hs0
        have hr1 := Lib.hid hr10
        clear hr10
        have hr2 := Lib.hid hr20
        clear hr20
        have hr3 := Lib.hid hr30
        clear hr30
        have BB := Lib.hid BB0
        clear BB0
        have hd := Lib.hid hd0
        clear hd0
        have hq := Lib.hid hq0
        clear hq0
        have hs := Lib.hid hs0
        clear hs0
        clear KA KB KC KD
        refine wp_then_only ?_
        go_region
        all_goals
          go_wp2
          rw [jump_ret]
          exact ⟨by simp, .inl ⟨_, _, rfl, run_takeDeferred hd.out, ⟨_, res_feed rfl _ _ _ _ _ _ _ _ _ _ _ rfl (row_putD hr1.out (by omega)) rfl (row_putD hr2.out (by omega)) rfl (row_putD hr3.out (by omega)) Try.underlying24 rfl infoc_R Try.underlying28 rfl Try.underlying31 rfl infoc_X, A10, (rs xs).length, c10, A2, ys.length, c2, ys, by rw [HE.out.1, HE.out.2.1]; rfl, by rw [HE.out.2.2]; exact handS_putD ⟨hs.out, HF10.out.less hz10, HC10.out⟩ hd.out, handQ_putD ⟨hq.out, fun k hk => Nat.le_trans hz0 (HQ5.out k hk), q3, q4⟩ hd.out, HYS.out, BB.out.trans (belowK_b (w := w) (Nat.le_refl _) _ D _ _ (by omega) hd.out rfl rfl)⟩⟩⟩
    · have hB : ¬ Bad (rs xs) := fun h => by unfold Bad at h; omega
      have eB1 : decide (Bad (rs xs)) = false := decide_eq_false hB
      have eB2 : (if Bad (rs xs) then (6 : Int) else 0) = 0 := if_neg hB
      have eB3 : (if Bad (rs xs) then ([] : List UInt8) else rs xs) = rs xs := if_neg hB
      have HE := Lib.hid (And.intro eB1 (And.intro eB2 eB3))
      clear eB1 eB2 eB3 hB
      go_wp2_with (first
        | go_skip
        | (refine at_load 22 (.tmp 8) (by rfl) ?_; refine wpList_get (by rfl) 22 (.tmp 8) (by rfl) (w.heap.size + 1 + 1 + 1 + 1) 0 (by rfl) 22 #[.slice A9 (rs xs).length c9] (.slice A9 (rs xs).length c9) _ (K100.out.row 0 rfl) (by rfl) Try.underlying22 (by rfl) ?_)
        | (go_at_call 20; (have hc := (c_headOf_no A9 (rs xs).length c9 W (by omega)); (with_reducible refine hc.mono ?_); clear hc); rintro e w101 ⟨rfl, hb⟩; have K101 : Hid (EnvF w101 [dF D, qF A2 ys.length ys, bF A9 (rs xs).length (rs xs)] [(w.heap.size + 1 + 1 + 1 + 1, #[.slice A9 (rs xs).length c9], 22), (w.heap.size + 1 + 1 + 1, #[.bool false, .int .i64 0, .int .u32 0], 31), (w.heap.size + 1 + 1, #[.slice A2 ys.length c2], 28), (w.heap.size + 1, #[.int .i64 (g : Int), .slice none 0 0], 24), (w.heap.size, #[.int .i64 (p : Int), .slice A n c], 24)]) := Lib.hid (K100.out.on hb); have B101 : Hid (Below w.heap.size w w101) := Lib.hid (below_step B100.out hb); clear hb K100 B100; have leh : w.heap.size ≤ w101.heap.size := (by have := B101.out.size; (try simp only [World.size_alloc] at this); omega); have K102 : Hid (EnvF (w101.alloc (.cells #[.int .i64 0, .int .u8 0, .int .u8 0, .int .i64 0] 38)) [dF D, qF A2 ys.length ys, bF A9 (rs xs).length (rs xs)] [(w101.heap.size, #[.int .i64 0, .int .u8 0, .int .u8 0, .int .i64 0], 38), (w.heap.size + 1 + 1 + 1 + 1, #[.slice A9 (rs xs).length c9], 22), (w.heap.size + 1 + 1 + 1, #[.bool false, .int .i64 0, .int .u32 0], 31), (w.heap.size + 1 + 1, #[.slice A2 ys.length c2], 28), (w.heap.size + 1, #[.int .i64 (g : Int), .slice none 0 0], 24), (w.heap.size, #[.int .i64 (p : Int), .slice A n c], 24)]) := Lib.hid (K101.out.boxg 38 #[.int .i64 0, .int .u8 0, .int .u8 0, .int .i64 0] (w101.heap.size) (by simp)); have B102 : Hid (Below w.heap.size w (w101.alloc (.cells #[.int .i64 0, .int .u8 0, .int .u8 0, .int .i64 0] 38))) := Lib.hid (B101.out.alloc B101.out.size (.cells #[.int .i64 0, .int .u8 0, .int .u8 0, .int .i64 0] 38)); clear K101 B101)
        | (refine at_store 38 (.tmp 10) (.tmp 56) (by rfl) ?_; refine wpList_put (by rfl) 38 (.tmp 10) (.tmp 56) (by rfl) (w101.heap.size) 0 (.agg #[.int .i64 0, .int .u8 0, .int .u8 0, .int .i64 0]) (by rfl) (by rfl) 38 #[.int .i64 0, .int .u8 0, .int .u8 0, .int .i64 0] #[.int .i64 0, .int .u8 0, .int .u8 0, .int .i64 0] (K102.out.row 0 rfl) (by simp [Value.cells]) (by kernel_rfl) infoc_H (by kernel_rfl) ?_; intro w103 hrow hoth hz hbl; have K103 : Hid (EnvF w103 [dF D, qF A2 ys.length ys, bF A9 (rs xs).length (rs xs)] [(w101.heap.size, #[.int .i64 0, .int .u8 0, .int .u8 0, .int .i64 0], 38), (w.heap.size + 1 + 1 + 1 + 1, #[.slice A9 (rs xs).length c9], 22), (w.heap.size + 1 + 1 + 1, #[.bool false, .int .i64 0, .int .u32 0], 31), (w.heap.size + 1 + 1, #[.slice A2 ys.length c2], 28), (w.heap.size + 1, #[.int .i64 (g : Int), .slice none 0 0], 24), (w.heap.size, #[.int .i64 (p : Int), .slice A n c], 24)]) := Lib.hid (K102.out.turn 0 rfl hrow hoth hz); have B103 : Hid (Below w.heap.size w w103) := Lib.hid (hbl _ _ leh B102.out); clear hrow hoth hz hbl K102 B102)
        | (refine at_load 22 (.tmp 8) (by rfl) ?_; refine wpList_get (by rfl) 22 (.tmp 8) (by rfl) (w.heap.size + 1 + 1 + 1 + 1) 0 (by rfl) 22 #[.slice A9 (rs xs).length c9] (.slice A9 (rs xs).length c9) _ (K103.out.row 1 rfl) (by rfl) Try.underlying22 (by rfl) ?_)
        | (go_at_call 22; (have hc := (c_own A9 (rs xs).length c9 (rs xs) _ (K103.out.bs (A := A9) (n := (rs xs).length) (xs := (rs xs)) (by simp)) q2 (by omega)); (with_reducible refine hc.mono ?_); clear hc); rintro e w104 ⟨A10, c10, rfl, hh, hb⟩; have HC10 := Lib.hid hh.2.2; have HF10 := Lib.hid hh.2.1; have hz10 := B103.out.size; have K104 : Hid (EnvF w104 [bF A10 (rs xs).length (rs xs), dF D, qF A2 ys.length ys, bF A9 (rs xs).length (rs xs)] [(w101.heap.size, #[.int .i64 0, .int .u8 0, .int .u8 0, .int .i64 0], 38), (w.heap.size + 1 + 1 + 1 + 1, #[.slice A9 (rs xs).length c9], 22), (w.heap.size + 1 + 1 + 1, #[.bool false, .int .i64 0, .int .u32 0], 31), (w.heap.size + 1 + 1, #[.slice A2 ys.length c2], 28), (w.heap.size + 1, #[.int .i64 (g : Int), .slice none 0 0], 24), (w.heap.size, #[.int .i64 (p : Int), .slice A n c], 24)]) := Lib.hid (K103.out.handS hb hh); have B104 : Hid (Below w.heap.size w w104) := Lib.hid (below_step B103.out hb); clear hb hh K103 B103)
        | (refine at_store 22 (.tmp 66) (.tmp 65) (by rfl) ?_; refine wpList_put (by rfl) 22 (.tmp 66) (.tmp 65) (by rfl) (w.heap.size + 1) 1 (.slice A10 (rs xs).length c10) (by rfl) (by rfl) 24 #[.int .i64 (g : Int), .slice none 0 0] #[.int .i64 (g : Int), .slice A10 (rs xs).length c10] (K104.out.row 4 rfl) (by simp [Value.cells]) (by kernel_rfl) infoc_B (by kernel_rfl) ?_; intro w105 hrow hoth hz hbl; have K105 : Hid (EnvF w105 [bF A10 (rs xs).length (rs xs), dF D, qF A2 ys.length ys, bF A9 (rs xs).length (rs xs)] [(w101.heap.size, #[.int .i64 0, .int .u8 0, .int .u8 0, .int .i64 0], 38), (w.heap.size + 1 + 1 + 1 + 1, #[.slice A9 (rs xs).length c9], 22), (w.heap.size + 1 + 1 + 1, #[.bool false, .int .i64 0, .int .u32 0], 31), (w.heap.size + 1 + 1, #[.slice A2 ys.length c2], 28), (w.heap.size + 1, #[.int .i64 (g : Int), .slice A10 (rs xs).length c10], 24), (w.heap.size, #[.int .i64 (p : Int), .slice A n c], 24)]) := Lib.hid (K104.out.turn 4 rfl hrow hoth hz); have B105 : Hid (Below w.heap.size w w105) := Lib.hid (hbl _ _ (by omega) B104.out); clear hrow hoth hz hbl K104 B104))
      obtain ⟨o_0, o_1⟩ := cells2_row (K105.out.row 4 rfl)
      have zo := fun j => frozen_of_row _ _ j _ _ (K105.out.row 4 rfl)
      have l_0 := cells1_row (K105.out.row 3 rfl)
      have zl := fun j => frozen_of_row _ _ j _ _ (K105.out.row 3 rfl)
      obtain ⟨x_0, x_1, x_2⟩ := cells3_row (K105.out.row 2 rfl)
      have zx := fun j => frozen_of_row _ _ j _ _ (K105.out.row 2 rfl)
      have nol' : w.heap.size + 1 ≠ w.heap.size + 1 + 1 := K105.out.ne 4 3 rfl rfl (by decide)
      have nlo' := nol'.symm
      have nox' : w.heap.size + 1 ≠ w.heap.size + 1 + 1 + 1 := K105.out.ne 4 2 rfl rfl (by decide)
      have nxo' := nox'.symm
      have nlx' : w.heap.size + 1 + 1 ≠ w.heap.size + 1 + 1 + 1 := K105.out.ne 3 2 rfl rfl (by decide)
      have nxl' := nlx'.symm
      have KA := Lib.hid ((K105.out).setCells 4 rfl [.int .i64 (g : Int), .slice A10 (rs xs).length c10] (cs := #[.int .i64 (g : Int), .slice A10 (rs xs).length c10]) (by kernel_rfl))
      have KB := Lib.hid ((KA.out).setCells 3 rfl [.slice A2 ys.length c2] (cs := #[.slice A2 ys.length c2]) (by kernel_rfl))
      have KC := Lib.hid ((KB.out).setCells 2 rfl [.bool false, .int .i64 0, .int .u32 0] (cs := #[.bool false, .int .i64 0, .int .u32 0]) (by kernel_rfl))
      have KD := Lib.hid KC.out.drew
      have BB0 := (setCells_below (g := w.heap.size + 1 + 1 + 1) (by omega) [.bool false, .int .i64 0, .int .u32 0] 0 _ _ (setCells_below (g := w.heap.size + 1 + 1) (by omega) [.slice A2 ys.length c2] 0 _ _ (setCells_below (g := w.heap.size + 1) (by omega) [.int .i64 (g : Int), .slice A10 (rs xs).length c10] 0 _ _ B105.out))).drew
      have hr10 := KD.out.row 4 rfl
      have hr20 := KD.out.row 3 rfl
      have hr30 := KD.out.row 2 rfl
      have hd0 := (KD.out.f (dF D) (by simp)).1
      have hq0 := KD.out.qs (A := A2) (n := ys.length) (xs := ys) (by simp)
      have hs0 := KD.out.bs (A := A10) (n := (rs xs).length) (xs := rs xs) (by simp)
      simp only [World.setCells, Nat.reduceAdd] at hr10 hr20 hr30 BB0 hd0 hq0 hs0
      have hr1 := Lib.hid hr10
      clear hr10
      have hr2 := Lib.hid hr20
      clear hr20
      have hr3 := Lib.hid hr30
      clear hr30
      have BB := Lib.hid BB0
      clear BB0
      have hd := Lib.hid hd0
      clear hd0
      have hq := Lib.hid hq0
      clear hq0
      have hs := Lib.hid hs0
      clear hs0
      clear KA KB KC KD
      refine wp_then_only ?_
      go_region
      all_goals
        go_wp2
        rw [jump_ret]
        exact ⟨by simp, .inl ⟨_, _, rfl, run_takeDeferred hd.out, ⟨_, res_feed rfl _ _ _ _ _ _ _ _ _ _ _ rfl (row_putD hr1.out (by omega)) rfl (row_putD hr2.out (by omega)) rfl (row_putD hr3.out (by omega)) Try.underlying24 rfl infoc_R Try.underlying28 rfl Try.underlying31 rfl infoc_X, A10, (rs xs).length, c10, A2, ys.length, c2, ys, by rw [HE.out.1, HE.out.2.1]; rfl, by rw [HE.out.2.2]; exact handS_putD ⟨hs.out, HF10.out.less hz10, HC10.out⟩ hd.out, handQ_putD ⟨hq.out, fun k hk => Nat.le_trans hz0 (HQ5.out k hk), q3, q4⟩ hd.out, HYS.out, BB.out.trans (belowK_b (w := w) (Nat.le_refl _) _ D _ _ (by omega) hd.out rfl rfl)⟩⟩⟩
end Go.Proofs.Ytjoopekgbfplpaa
