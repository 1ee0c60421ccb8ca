/- PrL, PrM. -/
import Derived.Test.YtbflhphjnmhjhaaGreatMb
import Derived.Deep.RegionHeld3
import Derived.BigRegion
/- The program's outer and Parse. -/
namespace Go.Proofs.YtbflhphjnmhjhaaGreat
open Go.RowKit Oct Fi Fm
set_option linter.unusedVariables false
set_option linter.unusedSimpArgs false
namespace Fm
def outX (K : UInt8) (S : Int) (n : Nat) : Ft := if headB 0 S = false then whole 2 else if 16384 < n then whole 6 else if K.toNat = 5 ∨ farB K.toNat S = true then whole 1 else fine
end Fm
theorem map2_eval {a : Act} {x y : Operand} {u v : Value} {cap : Array Value} (hx : a.eval x = u) (hy : a.eval y = v) : #[x, y].map a.eval ++ cap = #[u, v] ++ cap := by simp [hx, hy]
theorem EnvB.plusG {w w' : World} {ss : List (Option Addr × Nat × List UInt8)} {ps : List (Option Addr × Nat × List Pr)} {gs cl : List Bx} (h : EnvB w ss ps gs) (hb : Below w.heap.size w w') (hd : (cl.map Prod.fst).Nodup) (hcl : ∀ y ∈ cl, w.heap.size ≤ y.1 ∧ w'.heap[y.1]? = some (.cells y.2.1 y.2.2)) : EnvB w' ss ps (gs ++ cl) := by
  have h' := h.on hb
  refine ⟨fun x hx => ⟨(h'.s x hx).1, fun hn b o e y hy => ?_⟩, fun x hx => ⟨(h'.p x hx).1, fun hn b o e y hy => ?_⟩, fun y hy => ?_, ?_⟩
  · rcases List.mem_append.1 hy with hy | hy
    · exact (h'.s x hx).2 hn b o e y hy
    · obtain ⟨b', o', e', hb', _⟩ := (h.s x hx).1.2 hn
      rw [e] at e'
      cases e'
      have := (hcl y hy).1
      omega
  · rcases List.mem_append.1 hy with hy | hy
    · exact (h'.p x hx).2 hn b o e y hy
    · obtain ⟨b', o', e', hb', _⟩ := (h.p x hx).1.2 hn
      rw [e] at e'
      cases e'
      have := (hcl y hy).1
      omega
  · rcases List.mem_append.1 hy with hy | hy
    · exact h'.g y hy
    · exact (hcl y hy).2
  · rw [List.map_append, List.nodup_append]
    refine ⟨h.d, hd, fun a ha b hb2 e => ?_⟩
    obtain ⟨y, hy, ey⟩ := List.mem_map.1 ha
    obtain ⟨z, hz, ez⟩ := List.mem_map.1 hb2
    have h1 := h.lt hy
    have h2 := (hcl z hz).1
    omega
set_option maxRecDepth 100000 in
set_option maxHeartbeats 4000000 in
theorem outer_H (K F : UInt8) (S : Int) (O J LF : FuncId) (cap : Array Value) (n : Nat) (w : World) (hr : headB 0 S = false) :
    Calls Tryz.prog 21 #[.agg (hF0 K.toNat F.toNat S), .agg #[.func (.func O) #[] #[], .func (.func J) #[] cap, .func (.func LF) #[] #[]], .int .i64 (n : Int)] w fun e w' => e = .returned (.agg #[.bool true, .int .i64 0, .int .u32 2]) ∧ Below w.heap.size w w' := by
  have HR : Hid (∀ w, Calls Tryz.prog 40 #[.agg #[.int .i64 0, .int .u8 K.toNat, .int .u8 F.toNat, .int .i64 S]] w fun e w' => e = .returned (.bool false) ∧ Below w.heap.size w w') := Lib.hid (fun w => by have := right_any 0 (K.toNat : Int) (F.toNat : Int) S w; rw [hr] at this; exact this)
  have K0 : Hid (EnvB (((w.alloc (.cells (hF0 K.toNat F.toNat S) 30)).alloc (.cells #[.func (.func O) #[] #[], .func (.func J) #[] cap, .func (.func LF) #[] #[]] 49)).alloc (.cells #[.bool false, .int .i64 0, .int .u32 0] 34)) [] [] [(w.heap.size + 1 + 1, #[.bool false, .int .i64 0, .int .u32 0], 34), (w.heap.size + 1, #[.func (.func O) #[] #[], .func (.func J) #[] cap, .func (.func LF) #[] #[]], 49), (w.heap.size, (hF0 K.toNat F.toNat S), 30)]) := Lib.hid ((((EnvB.nil w).box 30 (hF0 K.toNat F.toNat S)).boxg 49 #[.func (.func O) #[] #[], .func (.func J) #[] cap, .func (.func LF) #[] #[]] (w.heap.size + 1) (by simp)).boxg 34 #[.bool false, .int .i64 0, .int .u32 0] (w.heap.size + 1 + 1) (by simp))
  have B0 : Hid (Below w.heap.size w (((w.alloc (.cells (hF0 K.toNat F.toNat S) 30)).alloc (.cells #[.func (.func O) #[] #[], .func (.func J) #[] cap, .func (.func LF) #[] #[]] 49)).alloc (.cells #[.bool false, .int .i64 0, .int .u32 0] 34))) := Lib.hid ((((Below.refl _ w).alloc (Nat.le_refl _) _).alloc (by simp) _).alloc (by simp only [World.size_alloc]; omega) _)
  skip
  go_enter Tryz.func21, Tryz.ntmps21
  go_wp2_with (first
    | (refine at_load 30 (.tmp 3) (by rfl) ?_; refine wpList_load_row (by rfl) 30 (.tmp 3) (by rfl) (w.heap.size) (by rfl) 30 _ (0, 0) _ (K0.out.row 2 rfl) Tryz.underlying30 (by rfl) info_F ?_)
    | (go_at_call 29; (with_reducible refine (p_headOf _ _ _ _ _).mono ?_); rintro e w1 ⟨rfl, hb⟩; have K1 := Lib.hid (K0.out.on hb); have B1 := Lib.hid (below_step B0.out hb); clear hb K0 B0)
    | (go_at_call 40; (with_reducible refine (HR.out _).mono ?_); rintro e w2 ⟨rfl, hb⟩; have K2 := Lib.hid (K1.out.on hb); have B2 := Lib.hid (below_step B1.out hb); clear hb K1 B1)
    | (go_at_call 16; (with_reducible refine (p_whole _ _).mono ?_); rintro e w3 ⟨rfl, hb⟩; have K3 := Lib.hid (K2.out.on hb); have B3 := Lib.hid (below_step B2.out hb); clear hb K2 B2)
    | (refine at_store 34 (.tmp 6) (.tmp 12) (by rfl) ?_; refine wpList_put (by rfl) 34 (.tmp 6) (.tmp 12) (by rfl) (w.heap.size + 1 + 1) 0 (.agg #[.bool true, .int .i64 0, .int .u32 2]) (by rfl) (by rfl) 34 _ #[.bool true, .int .i64 0, .int .u32 2] (K3.out.row 0 rfl) (by simp [Value.cells]) (by kernel_rfl) info_X (by kernel_rfl) ?_; intro w4 hrow hoth hz hbl; have K4 := Lib.hid (K3.out.turn 0 rfl hrow hoth hz); have B4 := Lib.hid (hbl _ _ (by omega) B3.out); clear hrow hoth hz hbl K3 B3))
  exact bodyPost_ret (res_cell1 rfl _ _ _ _ _ _ rfl (K4.out.row 0 rfl) Tryz.underlying34 rfl info_X) rfl ⟨rfl, B4.out⟩
set_option maxRecDepth 100000 in
set_option maxHeartbeats 4000000 in
theorem outer_L (K F : UInt8) (S : Int) (O J LF : FuncId) (cap : Array Value) (n : Nat) (w : World) (hr : headB 0 S = true) (hs : (16384 : Int) < (n : Int)) :
    Calls Tryz.prog 21 #[.agg (hF0 K.toNat F.toNat S), .agg #[.func (.func O) #[] #[], .func (.func J) #[] cap, .func (.func LF) #[] #[]], .int .i64 (n : Int)] w fun e w' => e = .returned (.agg #[.bool true, .int .i64 0, .int .u32 6]) ∧ Below w.heap.size w w' := by
  have HR : Hid (∀ w, Calls Tryz.prog 40 #[.agg #[.int .i64 0, .int .u8 K.toNat, .int .u8 F.toNat, .int .i64 S]] w fun e w' => e = .returned (.bool true) ∧ Below w.heap.size w w') := Lib.hid (fun w => by have := right_any 0 (K.toNat : Int) (F.toNat : Int) S w; rw [hr] at this; exact this)
  have K0 : Hid (EnvB (((w.alloc (.cells (hF0 K.toNat F.toNat S) 30)).alloc (.cells #[.func (.func O) #[] #[], .func (.func J) #[] cap, .func (.func LF) #[] #[]] 49)).alloc (.cells #[.bool false, .int .i64 0, .int .u32 0] 34)) [] [] [(w.heap.size + 1 + 1, #[.bool false, .int .i64 0, .int .u32 0], 34), (w.heap.size + 1, #[.func (.func O) #[] #[], .func (.func J) #[] cap, .func (.func LF) #[] #[]], 49), (w.heap.size, (hF0 K.toNat F.toNat S), 30)]) := Lib.hid ((((EnvB.nil w).box 30 (hF0 K.toNat F.toNat S)).boxg 49 #[.func (.func O) #[] #[], .func (.func J) #[] cap, .func (.func LF) #[] #[]] (w.heap.size + 1) (by simp)).boxg 34 #[.bool false, .int .i64 0, .int .u32 0] (w.heap.size + 1 + 1) (by simp))
  have B0 : Hid (Below w.heap.size w (((w.alloc (.cells (hF0 K.toNat F.toNat S) 30)).alloc (.cells #[.func (.func O) #[] #[], .func (.func J) #[] cap, .func (.func LF) #[] #[]] 49)).alloc (.cells #[.bool false, .int .i64 0, .int .u32 0] 34))) := Lib.hid ((((Below.refl _ w).alloc (Nat.le_refl _) _).alloc (by simp) _).alloc (by simp only [World.size_alloc]; omega) _)
  skip
  go_enter Tryz.func21, Tryz.ntmps21
  go_wp2_with (first
    | (refine at_load 30 (.tmp 3) (by rfl) ?_; refine wpList_load_row (by rfl) 30 (.tmp 3) (by rfl) (w.heap.size) (by rfl) 30 _ (0, 0) _ (K0.out.row 2 rfl) Tryz.underlying30 (by rfl) info_F ?_)
    | (go_at_call 29; (with_reducible refine (p_headOf _ _ _ _ _).mono ?_); rintro e w1 ⟨rfl, hb⟩; have K1 := Lib.hid (K0.out.on hb); have B1 := Lib.hid (below_step B0.out hb); clear hb K0 B0)
    | (go_at_call 40; (with_reducible refine (HR.out _).mono ?_); rintro e w2 ⟨rfl, hb⟩; have K2 := Lib.hid (K1.out.on hb); have B2 := Lib.hid (below_step B1.out hb); clear hb K1 B1)
    | (go_at_call 16; (with_reducible refine (p_whole _ _).mono ?_); rintro e w3 ⟨rfl, hb⟩; have K3 := Lib.hid (K2.out.on hb); have B3 := Lib.hid (below_step B2.out hb); clear hb K2 B2)
    | (refine at_store 34 (.tmp 6) (.tmp 16) (by rfl) ?_; refine wpList_put (by rfl) 34 (.tmp 6) (.tmp 16) (by rfl) (w.heap.size + 1 + 1) 0 (.agg #[.bool true, .int .i64 0, .int .u32 6]) (by rfl) (by rfl) 34 _ #[.bool true, .int .i64 0, .int .u32 6] (K3.out.row 0 rfl) (by simp [Value.cells]) (by kernel_rfl) info_X (by kernel_rfl) ?_; intro w4 hrow hoth hz hbl; have K4 := Lib.hid (K3.out.turn 0 rfl hrow hoth hz); have B4 := Lib.hid (hbl _ _ (by omega) B3.out); clear hrow hoth hz hbl K3 B3))
  exact bodyPost_ret (res_cell1 rfl _ _ _ _ _ _ rfl (K4.out.row 0 rfl) Tryz.underlying34 rfl info_X) rfl ⟨rfl, B4.out⟩
set_option maxRecDepth 100000 in
set_option maxHeartbeats 4000000 in
theorem outer_O (K F : UInt8) (S : Int) (O J LF : FuncId) (cap : Array Value) (n : Nat) (w : World) (hr : headB 0 S = true) (hs : ¬ (16384 : Int) < (n : Int)) (ov : Bool) (hov : ov = false) (hJ : Enters Tryz.prog O) (HO : Hid (∀ w0, Calls Tryz.prog O #[.int .i64 S] w0 fun e w' => e = .returned (.bool ov) ∧ w0 = w')) :
    Calls Tryz.prog 21 #[.agg (hF0 K.toNat F.toNat S), .agg #[.func (.func O) #[] #[], .func (.func J) #[] cap, .func (.func LF) #[] #[]], .int .i64 (n : Int)] w fun e w' => e = .returned (.agg #[.bool true, .int .i64 0, .int .u32 1]) ∧ Below w.heap.size w w' := by
  have HR : Hid (∀ w, Calls Tryz.prog 40 #[.agg #[.int .i64 0, .int .u8 K.toNat, .int .u8 F.toNat, .int .i64 S]] w fun e w' => e = .returned (.bool true) ∧ Below w.heap.size w w') := Lib.hid (fun w => by have := right_any 0 (K.toNat : Int) (F.toNat : Int) S w; rw [hr] at this; exact this)
  have K0 : Hid (EnvB (((w.alloc (.cells (hF0 K.toNat F.toNat S) 30)).alloc (.cells #[.func (.func O) #[] #[], .func (.func J) #[] cap, .func (.func LF) #[] #[]] 49)).alloc (.cells #[.bool false, .int .i64 0, .int .u32 0] 34)) [] [] [(w.heap.size + 1 + 1, #[.bool false, .int .i64 0, .int .u32 0], 34), (w.heap.size + 1, #[.func (.func O) #[] #[], .func (.func J) #[] cap, .func (.func LF) #[] #[]], 49), (w.heap.size, (hF0 K.toNat F.toNat S), 30)]) := Lib.hid ((((EnvB.nil w).box 30 (hF0 K.toNat F.toNat S)).boxg 49 #[.func (.func O) #[] #[], .func (.func J) #[] cap, .func (.func LF) #[] #[]] (w.heap.size + 1) (by simp)).boxg 34 #[.bool false, .int .i64 0, .int .u32 0] (w.heap.size + 1 + 1) (by simp))
  have B0 : Hid (Below w.heap.size w (((w.alloc (.cells (hF0 K.toNat F.toNat S) 30)).alloc (.cells #[.func (.func O) #[] #[], .func (.func J) #[] cap, .func (.func LF) #[] #[]] 49)).alloc (.cells #[.bool false, .int .i64 0, .int .u32 0] 34))) := Lib.hid ((((Below.refl _ w).alloc (Nat.le_refl _) _).alloc (by simp) _).alloc (by simp only [World.size_alloc]; omega) _)
  subst hov
  go_enter Tryz.func21, Tryz.ntmps21
  go_wp2_with (first
    | (refine at_load 30 (.tmp 3) (by rfl) ?_; refine wpList_load_row (by rfl) 30 (.tmp 3) (by rfl) (w.heap.size) (by rfl) 30 _ (0, 0) _ (K0.out.row 2 rfl) Tryz.underlying30 (by rfl) info_F ?_)
    | (go_at_call 29; (with_reducible refine (p_headOf _ _ _ _ _).mono ?_); rintro e w1 ⟨rfl, hb⟩; have K1 := Lib.hid (K0.out.on hb); have B1 := Lib.hid (below_step B0.out hb); clear hb K0 B0)
    | (go_at_call 40; (with_reducible refine (HR.out _).mono ?_); rintro e w2 ⟨rfl, hb⟩; have K2 := Lib.hid (K1.out.on hb); have B2 := Lib.hid (below_step B1.out hb); clear hb K1 B1)
    | (refine at_load 46 (.tmp 18) (by rfl) ?_; refine wpList_get (by rfl) 46 (.tmp 18) (by rfl) (w.heap.size + 1) 0 (by rfl) 49 _ (.func (.func O) #[] #[]) _ (K2.out.row 1 rfl) (by rfl) Tryz.underlying46 (by rfl) ?_)
    | (refine at_load 3 (.tmp 20) (by rfl) ?_; refine wpList_get (by rfl) 3 (.tmp 20) (by rfl) (w.heap.size) 2 (by rfl) 30 _ (.int .i64 S) _ (K2.out.row 2 rfl) (by rfl) Tryz.underlying3 (by rfl) ?_)
    | (refine at_callv (.tmp 19) #[.tmp 21] _ (by rfl) ?_; refine wpList_callv (by rfl) (.tmp 19) #[.tmp 21] _ (by rfl) O #[] (by rfl) hJ #[.int .i64 S] (by first | (simp [go_sem]; done) | (simp [Act.eval]; done)) (fun v w' => v = .bool false ∧ w' = w2) ((HO.out _).mono fun e w' h => ⟨_, h.1, rfl, h.2.symm⟩) ?_; rintro v w' ⟨rfl, rfl⟩)
    | (go_at_call 16; (with_reducible refine (p_whole _ _).mono ?_); rintro e w3 ⟨rfl, hb⟩; have K3 := Lib.hid (K2.out.on hb); have B3 := Lib.hid (below_step B2.out hb); clear hb K2 B2)
    | (refine at_store 34 (.tmp 6) (.tmp 24) (by rfl) ?_; refine wpList_put (by rfl) 34 (.tmp 6) (.tmp 24) (by rfl) (w.heap.size + 1 + 1) 0 (.agg #[.bool true, .int .i64 0, .int .u32 1]) (by rfl) (by rfl) 34 _ #[.bool true, .int .i64 0, .int .u32 1] (K3.out.row 0 rfl) (by simp [Value.cells]) (by kernel_rfl) info_X (by kernel_rfl) ?_; intro w4 hrow hoth hz hbl; have K4 := Lib.hid (K3.out.turn 0 rfl hrow hoth hz); have B4 := Lib.hid (hbl _ _ (by omega) B3.out); clear hrow hoth hz hbl K3 B3))
  exact bodyPost_ret (res_cell1 rfl _ _ _ _ _ _ rfl (K4.out.row 0 rfl) Tryz.underlying34 rfl info_X) rfl ⟨rfl, B4.out⟩
set_option maxRecDepth 100000 in
set_option maxHeartbeats 4000000 in
theorem outer_Y (K F : UInt8) (S : Int) (O J LF : FuncId) (cap : Array Value) (n : Nat) (w : World) (hr : headB 0 S = true) (hs : ¬ (16384 : Int) < (n : Int)) (ov : Bool) (hov : ov = true) (hJ : Enters Tryz.prog O) (HO : Hid (∀ w0, Calls Tryz.prog O #[.int .i64 S] w0 fun e w' => e = .returned (.bool ov) ∧ w0 = w')) :
    Calls Tryz.prog 21 #[.agg (hF0 K.toNat F.toNat S), .agg #[.func (.func O) #[] #[], .func (.func J) #[] cap, .func (.func LF) #[] #[]], .int .i64 (n : Int)] w fun e w' => e = .returned (.agg #[.bool false, .int .i64 0, .int .u32 0]) ∧ Below w.heap.size w w' := by
  have HR : Hid (∀ w, Calls Tryz.prog 40 #[.agg #[.int .i64 0, .int .u8 K.toNat, .int .u8 F.toNat, .int .i64 S]] w fun e w' => e = .returned (.bool true) ∧ Below w.heap.size w w') := Lib.hid (fun w => by have := right_any 0 (K.toNat : Int) (F.toNat : Int) S w; rw [hr] at this; exact this)
  have K0 : Hid (EnvB (((w.alloc (.cells (hF0 K.toNat F.toNat S) 30)).alloc (.cells #[.func (.func O) #[] #[], .func (.func J) #[] cap, .func (.func LF) #[] #[]] 49)).alloc (.cells #[.bool false, .int .i64 0, .int .u32 0] 34)) [] [] [(w.heap.size + 1 + 1, #[.bool false, .int .i64 0, .int .u32 0], 34), (w.heap.size + 1, #[.func (.func O) #[] #[], .func (.func J) #[] cap, .func (.func LF) #[] #[]], 49), (w.heap.size, (hF0 K.toNat F.toNat S), 30)]) := Lib.hid ((((EnvB.nil w).box 30 (hF0 K.toNat F.toNat S)).boxg 49 #[.func (.func O) #[] #[], .func (.func J) #[] cap, .func (.func LF) #[] #[]] (w.heap.size + 1) (by simp)).boxg 34 #[.bool false, .int .i64 0, .int .u32 0] (w.heap.size + 1 + 1) (by simp))
  have B0 : Hid (Below w.heap.size w (((w.alloc (.cells (hF0 K.toNat F.toNat S) 30)).alloc (.cells #[.func (.func O) #[] #[], .func (.func J) #[] cap, .func (.func LF) #[] #[]] 49)).alloc (.cells #[.bool false, .int .i64 0, .int .u32 0] 34))) := Lib.hid ((((Below.refl _ w).alloc (Nat.le_refl _) _).alloc (by simp) _).alloc (by simp only [World.size_alloc]; omega) _)
  subst hov
  go_enter Tryz.func21, Tryz.ntmps21
  go_wp2_with (first
    | (refine at_load 30 (.tmp 3) (by rfl) ?_; refine wpList_load_row (by rfl) 30 (.tmp 3) (by rfl) (w.heap.size) (by rfl) 30 _ (0, 0) _ (K0.out.row 2 rfl) Tryz.underlying30 (by rfl) info_F ?_)
    | (go_at_call 29; (with_reducible refine (p_headOf _ _ _ _ _).mono ?_); rintro e w1 ⟨rfl, hb⟩; have K1 := Lib.hid (K0.out.on hb); have B1 := Lib.hid (below_step B0.out hb); clear hb K0 B0)
    | (go_at_call 40; (with_reducible refine (HR.out _).mono ?_); rintro e w2 ⟨rfl, hb⟩; have K2 := Lib.hid (K1.out.on hb); have B2 := Lib.hid (below_step B1.out hb); clear hb K1 B1)
    | (refine at_load 46 (.tmp 18) (by rfl) ?_; refine wpList_get (by rfl) 46 (.tmp 18) (by rfl) (w.heap.size + 1) 0 (by rfl) 49 _ (.func (.func O) #[] #[]) _ (K2.out.row 1 rfl) (by rfl) Tryz.underlying46 (by rfl) ?_)
    | (refine at_load 3 (.tmp 20) (by rfl) ?_; refine wpList_get (by rfl) 3 (.tmp 20) (by rfl) (w.heap.size) 2 (by rfl) 30 _ (.int .i64 S) _ (K2.out.row 2 rfl) (by rfl) Tryz.underlying3 (by rfl) ?_)
    | (refine at_callv (.tmp 19) #[.tmp 21] _ (by rfl) ?_; refine wpList_callv (by rfl) (.tmp 19) #[.tmp 21] _ (by rfl) O #[] (by rfl) hJ #[.int .i64 S] (by first | (simp [go_sem]; done) | (simp [Act.eval]; done)) (fun v w' => v = .bool true ∧ w' = w2) ((HO.out _).mono fun e w' h => ⟨_, h.1, rfl, h.2.symm⟩) ?_; rintro v w' ⟨rfl, rfl⟩)
    | (refine at_store 34 (.tmp 6) (.tmp 25) (by rfl) ?_; refine wpList_put (by rfl) 34 (.tmp 6) (.tmp 25) (by rfl) (w.heap.size + 1 + 1) 0 (.agg #[.bool false, .int .i64 0, .int .u32 0]) (by rfl) (by rfl) 34 _ #[.bool false, .int .i64 0, .int .u32 0] (K2.out.row 0 rfl) (by simp [Value.cells]) (by kernel_rfl) info_X (by kernel_rfl) ?_; intro w3 hrow hoth hz hbl; have K3 := Lib.hid (K2.out.turn 0 rfl hrow hoth hz); have B3 := Lib.hid (hbl _ _ (by omega) B2.out); clear hrow hoth hz hbl K2 B2))
  exact bodyPost_ret (res_cell1 rfl _ _ _ _ _ _ rfl (K3.out.row 0 rfl) Tryz.underlying34 rfl info_X) rfl ⟨rfl, B3.out⟩
set_option maxRecDepth 100000 in
set_option maxHeartbeats 8000000 in
theorem p_parse_W (L S : Int) (K F : UInt8) (A : Option Addr) (n c : Nat) (xs : List UInt8) (w : World) (hA : Bs w w.heap.size A n xs) (hN : A = none → c = 0) (hn : n ≤ 100000) (hnc : n ≤ c) (x0 : Bool) (x1 x2 : Int) (hx0 : x0 = true) (HO : Hid (∀ O J cap w0, OfOK K.toNat O → Calls Tryz.prog 21 #[.agg (hF0 K.toNat F.toNat S), .agg #[.func (.func O) #[] #[], .func (.func J) #[] cap, .func (.func (layF K.toNat)) #[] #[]], .int .i64 (n : Int)] w0 fun e w' => e = .returned (.agg #[.bool x0, .int .i64 x1, .int .u32 x2]) ∧ Below w0.heap.size w0 w')) :
    Calls Tryz.prog 6 #[.agg #[.int .i64 L, .int .u8 K.toNat, .int .u8 F.toNat, .int .i64 S], .slice A n c] w fun e w' => e = .returned (.tuple #[.agg zF0, .agg #[.bool true, .int .i64 x1, .int .u32 x2]]) ∧ Below w.heap.size w w' := by
  have K0 : Hid (EnvB (((w.alloc (.cells #[.int .i64 L, .int .u8 K.toNat, .int .u8 F.toNat, .int .i64 S] 23)).alloc (.cells zF0 30)).alloc (.cells #[.bool false, .int .i64 0, .int .u32 0] 34)) [(A, n, xs)] [] ([(w.heap.size + 1 + 1, #[.bool false, .int .i64 0, .int .u32 0], 34), (w.heap.size + 1, zF0, 30), (w.heap.size, #[.int .i64 L, .int .u8 K.toNat, .int .u8 F.toNat, .int .i64 S], 23)])) := Lib.hid (((((EnvB.nil w).addS0 hA).box 23 #[.int .i64 L, .int .u8 K.toNat, .int .u8 F.toNat, .int .i64 S]).boxg 30 zF0 (w.heap.size + 1) (by simp)).boxg 34 #[.bool false, .int .i64 0, .int .u32 0] (w.heap.size + 1 + 1) (by simp))
  have B0 : Hid (Below w.heap.size w (((w.alloc (.cells #[.int .i64 L, .int .u8 K.toNat, .int .u8 F.toNat, .int .i64 S] 23)).alloc (.cells zF0 30)).alloc (.cells #[.bool false, .int .i64 0, .int .u32 0] 34))) := Lib.hid ((((Below.refl _ w).alloc (Nat.le_refl _) _).alloc (by simp) _).alloc (by simp only [World.size_alloc]; omega) _)
  have HN := Lib.hid hN
  subst hx0
  skip
  clear hA hN
  have sz0 : (((w.alloc (.cells #[.int .i64 L, .int .u8 K.toNat, .int .u8 F.toNat, .int .i64 S] 23)).alloc (.cells zF0 30)).alloc (.cells #[.bool false, .int .i64 0, .int .u32 0] 34)).heap.size = w.heap.size + 1 + 1 + 1 := by simp
  have K1 := Lib.hid (K0.out.boxg 30 zF0 (w.heap.size + 1 + 1 + 1) sz0)
  have B1 : Hid (Below w.heap.size w ((((w.alloc (.cells #[.int .i64 L, .int .u8 K.toNat, .int .u8 F.toNat, .int .i64 S] 23)).alloc (.cells zF0 30)).alloc (.cells #[.bool false, .int .i64 0, .int .u32 0] 34)).alloc (.cells zF0 30))) := Lib.hid (B0.out.alloc B0.out.size _)
  go_enter Tryz.func6, Tryz.ntmps6
  go_wp2
  refine wp_scope_forward 0 rfl ?_
  go_wp2_with (first
    | (refine at_load 5 (.tmp 9) (by rfl) ?_; refine wpList_get (by rfl) 5 (.tmp 9) (by rfl) (w.heap.size) 1 (by rfl) 23 _ (.int .u8 K.toNat) _ (K0.out.row 2 rfl) (by rfl) Tryz.underlying5 (by rfl) ?_)
    | (refine at_load 5 (.tmp 11) (by rfl) ?_; refine wpList_get (by rfl) 5 (.tmp 11) (by rfl) (w.heap.size) 2 (by rfl) 23 _ (.int .u8 F.toNat) _ (K0.out.row 2 rfl) (by rfl) Tryz.underlying5 (by rfl) ?_)
    | (refine at_load 3 (.tmp 13) (by rfl) ?_; refine wpList_get (by rfl) 3 (.tmp 13) (by rfl) (w.heap.size) 3 (by rfl) 23 _ (.int .i64 S) _ (K0.out.row 2 rfl) (by rfl) Tryz.underlying3 (by rfl) ?_)
    | (refine at_store 30 (.tmp 6) (.tmp 15) (by rfl) ?_; refine wpList_put (by rfl) 30 (.tmp 6) (.tmp 15) (by rfl) (w.heap.size + 1 + 1 + 1) 0 (.agg (hF0 K.toNat F.toNat S)) (by rfl) (by rfl) 30 _ (hF0 K.toNat F.toNat S) (K1.out.row 0 rfl) (by simp [Value.cells]) (by kernel_rfl) info_F (by kernel_rfl) ?_; intro w2 hrow hoth hz hbl; have K2 := Lib.hid (K1.out.turn 0 rfl hrow hoth hz); have B2 := Lib.hid (hbl _ _ (by omega) B1.out); clear hrow hoth hz hbl K1 B1)
    | (refine at_load 5 (.tmp 16) (by rfl) ?_; refine wpList_get (by rfl) 5 (.tmp 16) (by rfl) (w.heap.size) 1 (by rfl) 23 _ (.int .u8 K.toNat) _ (K2.out.row 3 rfl) (by rfl) Tryz.underlying5 (by rfl) ?_)
    | (go_at_call 20; (with_reducible refine (shapeOf_any K _).mono ?_); rintro e w3 ⟨v, rfl, ⟨O, J, cap, cl, rfl, hO, hT, hd, hcl⟩, hb⟩; have HOO := Lib.hid hO; have HTT := Lib.hid hT; have hle2 := B2.out.size; have K3 : Hid (EnvB w3 [(A, n, xs)] [] ((w.heap.size + 1 + 1 + 1, (hF0 K.toNat F.toNat S), 30) :: (w.heap.size + 1 + 1, #[.bool false, .int .i64 0, .int .u32 0], 34) :: (w.heap.size + 1, zF0, 30) :: (w.heap.size, #[.int .i64 L, .int .u8 K.toNat, .int .u8 F.toNat, .int .i64 S], 23) :: cl)) := Lib.hid (K2.out.plusG hb hd hcl); have B3 := Lib.hid (below_step B2.out hb); clear hO hT hd hcl hb K2 B2; have le_s := B3.out.size; have K4 := Lib.hid (K3.out.box 49 #[.nilFunc, .nilFunc, .nilFunc]); have B4 := Lib.hid (B3.out.alloc B3.out.size (.cells #[.nilFunc, .nilFunc, .nilFunc] 49)); clear K3 B3)
    | (refine at_store 49 (.tmp 7) (.tmp 18) (by rfl) ?_; refine wpList_put (by rfl) 49 (.tmp 7) (.tmp 18) (by rfl) (w3.heap.size) 0 (.agg #[.func (.func O) #[] #[], .func (.func J) #[] cap, .func (.func (layF K.toNat)) #[] #[]]) (by rfl) (by rfl) 49 _ #[.func (.func O) #[] #[], .func (.func J) #[] cap, .func (.func (layF K.toNat)) #[] #[]] (K4.out.row 0 rfl) (by simp [Value.cells]) (by kernel_rfl) info_SH (by kernel_rfl) ?_; intro w5 hrow hoth hz hbl; have K5 := Lib.hid (K4.out.turn 0 rfl hrow hoth hz); have B5 := Lib.hid (hbl _ _ le_s B4.out); clear hrow hoth hz hbl K4 B4)
    | (refine at_load 30 (.tmp 6) (by rfl) ?_; refine wpList_load_row (by rfl) 30 (.tmp 6) (by rfl) (w.heap.size + 1 + 1 + 1) (by rfl) 30 _ (0, 0) _ (K5.out.row 1 rfl) Tryz.underlying30 (by rfl) info_F ?_)
    | (refine at_load 49 (.tmp 7) (by rfl) ?_; refine wpList_load_row (by rfl) 49 (.tmp 7) (by rfl) (w3.heap.size) (by rfl) 49 _ (0, 0) _ (K5.out.row 0 rfl) Tryz.underlying49 (by rfl) info_SH ?_)
    | (go_at_call 21; (with_reducible refine (HO.out _ _ _ _ HOO.out).mono ?_); rintro e w6 ⟨rfl, hb⟩; have K6 := Lib.hid (K5.out.on hb); have B6 := Lib.hid (below_step B5.out hb); have le_x := B6.out.size; clear hb K5 B5; have K7 := Lib.hid (K6.out.box 34 #[.bool false, .int .i64 0, .int .u32 0]); have B7 := Lib.hid (B6.out.alloc B6.out.size (.cells #[.bool false, .int .i64 0, .int .u32 0] 34)); clear K6 B6)
    | (refine at_store 34 (.tmp 8) (.tmp 23) (by rfl) ?_; refine wpList_put (by rfl) 34 (.tmp 8) (.tmp 23) (by rfl) (w6.heap.size) 0 (.agg #[.bool true, .int .i64 x1, .int .u32 x2]) (by rfl) (by rfl) 34 _ #[.bool true, .int .i64 x1, .int .u32 x2] (K7.out.row 0 rfl) (by simp [Value.cells]) (by kernel_rfl) info_X (by kernel_rfl) ?_; intro w8 hrow hoth hz hbl; have K8 := Lib.hid (K7.out.turn 0 rfl hrow hoth hz); have B8 := Lib.hid (hbl _ _ le_x B7.out); clear hrow hoth hz hbl K7 B7)
    | (refine at_load 4 (.tmp 24) (by rfl) ?_; refine wpList_get (by rfl) 4 (.tmp 24) (by rfl) (w6.heap.size) 0 (by rfl) 34 _ (.bool true) _ (K8.out.row 0 rfl) (by rfl) Tryz.underlying4 (by rfl) ?_))
  go_step3
  refine ⟨rfl, ?_⟩
  go_wp2
  obtain ⟨rf_0, rf_1, rf_2, rf_3, rf_4, rf_5, rf_6, rf_7, rf_8, rf_9, rf_10, rf_11, rf_12⟩ := c13_row (K8.out.row 4 rfl)
  obtain ⟨rx_0, rx_1, rx_2⟩ := c3_row (K8.out.row 3 rfl)
  obtain ⟨x_0, x_1, x_2⟩ := c3_row (K8.out.row 0 rfl)
  have zf := fun j => frozen_of_row _ _ j _ _ (K8.out.row 4 rfl)
  have zx := fun j => frozen_of_row _ _ j _ _ (K8.out.row 3 rfl)
  have nxrf : w6.heap.size ≠ w.heap.size + 1 := K8.out.ne 0 4 rfl rfl (by decide)
  have nrfx := nxrf.symm
  have nxrx : w6.heap.size ≠ w.heap.size + 1 + 1 := K8.out.ne 0 3 rfl rfl (by decide)
  have nrxx := nxrx.symm
  have KA := Lib.hid ((K8.out).setCells 4 rfl [.int .u8 0, .int .u8 0, .int .i64 0, .slice none 0 0, .int .i64 0, .int .i64 0, .int .i64 0, .int .u32 0, .slice none 0 0, .bool false, .bool false, .int .i64 0, .int .u8 0] (cs := zF0) (by kernel_rfl))
  have KB := Lib.hid ((KA.out.setCells 3 rfl [.bool true, .int .i64 x1, .int .u32 x2] (cs := #[.bool true, .int .i64 x1, .int .u32 x2]) (by kernel_rfl)).drew)
  have BB0 := (setCells_below (g := w.heap.size + 1 + 1) (by omega) [.bool true, .int .i64 x1, .int .u32 x2] 0 _ _ (setCells_below (g := w.heap.size + 1) (by omega) [.int .u8 0, .int .u8 0, .int .i64 0, .slice none 0 0, .int .i64 0, .int .i64 0, .int .i64 0, .int .u32 0, .slice none 0 0, .bool false, .bool false, .int .i64 0, .int .u8 0] 0 _ _ B8.out)).drew
  have hr10 := KB.out.row 4 rfl
  have hr20 := KB.out.row 3 rfl
  simp only [World.setCells, Nat.reduceAdd] at hr10 hr20 BB0
  have hr1 := Lib.hid hr10
  clear hr10
  have hr2 := Lib.hid hr20
  clear hr20
  have BB := Lib.hid BB0
  clear BB0
  clear KA KB
  go_region
  all_goals
    go_wp2
    rw [jump_ret]
    exact bodyPost_ret (res_cell_cell rfl _ _ _ _ _ _ _ _ _ _ rfl hr1.out rfl hr2.out Tryz.underlying30 rfl info_F Tryz.underlying34 rfl info_X) rfl ⟨rfl, BB.out⟩
set_option maxRecDepth 100000 in
set_option maxHeartbeats 8000000 in
theorem p_parse_T (L S : Int) (K F : UInt8) (A : Option Addr) (n c : Nat) (xs : List UInt8) (w : World) (hA : Bs w w.heap.size A n xs) (hN : A = none → c = 0) (hn : n ≤ 100000) (hnc : n ≤ c) (x0 : Bool) (x1 x2 : Int) (hx0 : x0 = false) (HO : Hid (∀ O J cap w0, OfOK K.toNat O → Calls Tryz.prog 21 #[.agg (hF0 K.toNat F.toNat S), .agg #[.func (.func O) #[] #[], .func (.func J) #[] cap, .func (.func (layF K.toNat)) #[] #[]], .int .i64 (n : Int)] w0 fun e w' => e = .returned (.agg #[.bool x0, .int .i64 x1, .int .u32 x2]) ∧ Below w0.heap.size w0 w')) (y0 : Bool) (hy0 : y0 = true) (HY : Hid ((tkR K F S xs).2.1 = y0)) :
    Calls Tryz.prog 6 #[.agg #[.int .i64 L, .int .u8 K.toNat, .int .u8 F.toNat, .int .i64 S], .slice A n c] w fun e w' => e = .returned (.tuple #[.agg zF0, .agg #[.bool true, .int .i64 (tkR K F S xs).2.2.1, .int .u32 ((tkR K F S xs).2.2.2 : Nat)]]) ∧ Below w.heap.size w w' := by
  have K0 : Hid (EnvB (((w.alloc (.cells #[.int .i64 L, .int .u8 K.toNat, .int .u8 F.toNat, .int .i64 S] 23)).alloc (.cells zF0 30)).alloc (.cells #[.bool false, .int .i64 0, .int .u32 0] 34)) [(A, n, xs)] [] ([(w.heap.size + 1 + 1, #[.bool false, .int .i64 0, .int .u32 0], 34), (w.heap.size + 1, zF0, 30), (w.heap.size, #[.int .i64 L, .int .u8 K.toNat, .int .u8 F.toNat, .int .i64 S], 23)])) := Lib.hid (((((EnvB.nil w).addS0 hA).box 23 #[.int .i64 L, .int .u8 K.toNat, .int .u8 F.toNat, .int .i64 S]).boxg 30 zF0 (w.heap.size + 1) (by simp)).boxg 34 #[.bool false, .int .i64 0, .int .u32 0] (w.heap.size + 1 + 1) (by simp))
  have B0 : Hid (Below w.heap.size w (((w.alloc (.cells #[.int .i64 L, .int .u8 K.toNat, .int .u8 F.toNat, .int .i64 S] 23)).alloc (.cells zF0 30)).alloc (.cells #[.bool false, .int .i64 0, .int .u32 0] 34))) := Lib.hid ((((Below.refl _ w).alloc (Nat.le_refl _) _).alloc (by simp) _).alloc (by simp only [World.size_alloc]; omega) _)
  have HN := Lib.hid hN
  subst hx0
  subst hy0
  clear hA hN
  have sz0 : (((w.alloc (.cells #[.int .i64 L, .int .u8 K.toNat, .int .u8 F.toNat, .int .i64 S] 23)).alloc (.cells zF0 30)).alloc (.cells #[.bool false, .int .i64 0, .int .u32 0] 34)).heap.size = w.heap.size + 1 + 1 + 1 := by simp
  have K1 := Lib.hid (K0.out.boxg 30 zF0 (w.heap.size + 1 + 1 + 1) sz0)
  have B1 : Hid (Below w.heap.size w ((((w.alloc (.cells #[.int .i64 L, .int .u8 K.toNat, .int .u8 F.toNat, .int .i64 S] 23)).alloc (.cells zF0 30)).alloc (.cells #[.bool false, .int .i64 0, .int .u32 0] 34)).alloc (.cells zF0 30))) := Lib.hid (B0.out.alloc B0.out.size _)
  go_enter Tryz.func6, Tryz.ntmps6
  go_wp2
  refine wp_scope_forward 0 rfl ?_
  go_wp2_with (first
    | (refine at_load 5 (.tmp 9) (by rfl) ?_; refine wpList_get (by rfl) 5 (.tmp 9) (by rfl) (w.heap.size) 1 (by rfl) 23 _ (.int .u8 K.toNat) _ (K0.out.row 2 rfl) (by rfl) Tryz.underlying5 (by rfl) ?_)
    | (refine at_load 5 (.tmp 11) (by rfl) ?_; refine wpList_get (by rfl) 5 (.tmp 11) (by rfl) (w.heap.size) 2 (by rfl) 23 _ (.int .u8 F.toNat) _ (K0.out.row 2 rfl) (by rfl) Tryz.underlying5 (by rfl) ?_)
    | (refine at_load 3 (.tmp 13) (by rfl) ?_; refine wpList_get (by rfl) 3 (.tmp 13) (by rfl) (w.heap.size) 3 (by rfl) 23 _ (.int .i64 S) _ (K0.out.row 2 rfl) (by rfl) Tryz.underlying3 (by rfl) ?_)
    | (refine at_store 30 (.tmp 6) (.tmp 15) (by rfl) ?_; refine wpList_put (by rfl) 30 (.tmp 6) (.tmp 15) (by rfl) (w.heap.size + 1 + 1 + 1) 0 (.agg (hF0 K.toNat F.toNat S)) (by rfl) (by rfl) 30 _ (hF0 K.toNat F.toNat S) (K1.out.row 0 rfl) (by simp [Value.cells]) (by kernel_rfl) info_F (by kernel_rfl) ?_; intro w2 hrow hoth hz hbl; have K2 := Lib.hid (K1.out.turn 0 rfl hrow hoth hz); have B2 := Lib.hid (hbl _ _ (by omega) B1.out); clear hrow hoth hz hbl K1 B1)
    | (refine at_load 5 (.tmp 16) (by rfl) ?_; refine wpList_get (by rfl) 5 (.tmp 16) (by rfl) (w.heap.size) 1 (by rfl) 23 _ (.int .u8 K.toNat) _ (K2.out.row 3 rfl) (by rfl) Tryz.underlying5 (by rfl) ?_)
    | (go_at_call 20; (with_reducible refine (shapeOf_any K _).mono ?_); rintro e w3 ⟨v, rfl, ⟨O, J, cap, cl, rfl, hO, hT, hd, hcl⟩, hb⟩; have HOO := Lib.hid hO; have HTT := Lib.hid hT; have hle2 := B2.out.size; have K3 : Hid (EnvB w3 [(A, n, xs)] [] ((w.heap.size + 1 + 1 + 1, (hF0 K.toNat F.toNat S), 30) :: (w.heap.size + 1 + 1, #[.bool false, .int .i64 0, .int .u32 0], 34) :: (w.heap.size + 1, zF0, 30) :: (w.heap.size, #[.int .i64 L, .int .u8 K.toNat, .int .u8 F.toNat, .int .i64 S], 23) :: cl)) := Lib.hid (K2.out.plusG hb hd hcl); have B3 := Lib.hid (below_step B2.out hb); clear hO hT hd hcl hb K2 B2; have le_s := B3.out.size; have K4 := Lib.hid (K3.out.box 49 #[.nilFunc, .nilFunc, .nilFunc]); have B4 := Lib.hid (B3.out.alloc B3.out.size (.cells #[.nilFunc, .nilFunc, .nilFunc] 49)); clear K3 B3)
    | (refine at_store 49 (.tmp 7) (.tmp 18) (by rfl) ?_; refine wpList_put (by rfl) 49 (.tmp 7) (.tmp 18) (by rfl) (w3.heap.size) 0 (.agg #[.func (.func O) #[] #[], .func (.func J) #[] cap, .func (.func (layF K.toNat)) #[] #[]]) (by rfl) (by rfl) 49 _ #[.func (.func O) #[] #[], .func (.func J) #[] cap, .func (.func (layF K.toNat)) #[] #[]] (K4.out.row 0 rfl) (by simp [Value.cells]) (by kernel_rfl) info_SH (by kernel_rfl) ?_; intro w5 hrow hoth hz hbl; have K5 := Lib.hid (K4.out.turn 0 rfl hrow hoth hz); have B5 := Lib.hid (hbl _ _ le_s B4.out); clear hrow hoth hz hbl K4 B4)
    | (refine at_load 30 (.tmp 6) (by rfl) ?_; refine wpList_load_row (by rfl) 30 (.tmp 6) (by rfl) (w.heap.size + 1 + 1 + 1) (by rfl) 30 _ (0, 0) _ (K5.out.row 1 rfl) Tryz.underlying30 (by rfl) info_F ?_)
    | (refine at_load 49 (.tmp 7) (by rfl) ?_; refine wpList_load_row (by rfl) 49 (.tmp 7) (by rfl) (w3.heap.size) (by rfl) 49 _ (0, 0) _ (K5.out.row 0 rfl) Tryz.underlying49 (by rfl) info_SH ?_)
    | (go_at_call 21; (with_reducible refine (HO.out _ _ _ _ HOO.out).mono ?_); rintro e w6 ⟨rfl, hb⟩; have K6 := Lib.hid (K5.out.on hb); have B6 := Lib.hid (below_step B5.out hb); have le_x := B6.out.size; clear hb K5 B5; have K7 := Lib.hid (K6.out.box 34 #[.bool false, .int .i64 0, .int .u32 0]); have B7 := Lib.hid (B6.out.alloc B6.out.size (.cells #[.bool false, .int .i64 0, .int .u32 0] 34)); clear K6 B6)
    | (refine at_store 34 (.tmp 8) (.tmp 23) (by rfl) ?_; refine wpList_put (by rfl) 34 (.tmp 8) (.tmp 23) (by rfl) (w6.heap.size) 0 (.agg #[.bool false, .int .i64 x1, .int .u32 x2]) (by rfl) (by rfl) 34 _ #[.bool false, .int .i64 x1, .int .u32 x2] (K7.out.row 0 rfl) (by simp [Value.cells]) (by kernel_rfl) info_X (by kernel_rfl) ?_; intro w8 hrow hoth hz hbl; have K8 := Lib.hid (K7.out.turn 0 rfl hrow hoth hz); have B8 := Lib.hid (hbl _ _ le_x B7.out); clear hrow hoth hz hbl K7 B7)
    | (refine at_load 4 (.tmp 24) (by rfl) ?_; refine wpList_get (by rfl) 4 (.tmp 24) (by rfl) (w6.heap.size) 0 (by rfl) 34 _ (.bool false) _ (K8.out.row 0 rfl) (by rfl) Tryz.underlying4 (by rfl) ?_)
    | (refine at_load 47 (.tmp 26) (by rfl) ?_; refine wpList_get (by rfl) 47 (.tmp 26) (by rfl) (w3.heap.size) 1 (by rfl) 49 _ (.func (.func J) #[] cap) _ (K8.out.row 1 rfl) (by rfl) Tryz.underlying47 (by rfl) ?_)
    | (refine at_callv (.tmp 27) #[.tmp 6, .tmp 28] _ (by rfl) ?_; refine wpList_callv (by rfl) (.tmp 27) #[.tmp 6, .tmp 28] _ (by rfl) J cap (by rfl) HTT.out.1 (#[.pointer (some ⟨w.heap.size + 1 + 1 + 1, 0, none⟩), .slice A n c] ++ cap) (map2_eval (by rfl) (by rfl)) _ ((HTT.out.2 F S (w.heap.size + 1 + 1 + 1) A n c xs _ (EnvB.sub (ss' := [(A, n, xs)]) (ps' := []) (gs' := (w.heap.size + 1 + 1 + 1, (hF0 K.toNat F.toNat S), 30) :: cl) K8.out (by simp) (by simp) (List.Sublist.cons _ (List.Sublist.cons _ (List.Sublist.cons_cons _ (List.Sublist.cons _ (List.Sublist.cons _ (List.Sublist.cons _ (List.Sublist.refl _)))))))) HN.out hn hnc).mono fun e w' h => tkPost_ret h) ?_; rintro v w9 ⟨d, A1, n1, c1, A3, n3, c3, rfl, hd, hrow, hh, hp, ht⟩; have K9 : Hid (EnvB w9 [(A1, n1, d.da), (A, n, xs)] [(A3, n3, d.ps)] ((w6.heap.size, #[.bool false, .int .i64 x1, .int .u32 x2], 34) :: (w3.heap.size, #[.func (.func O) #[] #[], .func (.func J) #[] cap, .func (.func (layF K.toNat)) #[] #[]], 49) :: (w.heap.size + 1 + 1 + 1, (fra d A1 n1 c1 A3 n3 c3), 30) :: (w.heap.size + 1 + 1, #[.bool false, .int .i64 0, .int .u32 0], 34) :: (w.heap.size + 1, zF0, 30) :: (w.heap.size, #[.int .i64 L, .int .u8 K.toNat, .int .u8 F.toNat, .int .i64 S], 23) :: cl)) := Lib.hid (K8.out.turnSP 2 rfl hrow ht hh hp); have B9 : Hid (Below w.heap.size w w9) := Lib.hid (ht.below (by omega) (K8.out.lt (y := (w.heap.size + 1 + 1 + 1, (hF0 K.toNat F.toNat S), 30)) (List.mem_of_getElem? (i := 2) rfl)) B8.out); have HD1 := Lib.hid hd; have HS1 := Lib.hid (hh.2.1.less B8.out.size); have HC1 := Lib.hid hh.2.2; have HP1 := Lib.hid (hp.2.1.less B8.out.size); have HQ1 := Lib.hid hp.2.2; unfold fv; rw [HY.out]; clear hd hrow hh hp ht K8 B8)
    | (refine at_store 34 (.tmp 8) (.tmp 29) (by rfl) ?_; refine wpList_put (by rfl) 34 (.tmp 8) (.tmp 29) (by rfl) (w6.heap.size) 0 (.agg #[.bool true, .int .i64 (tkR K F S xs).2.2.1, .int .u32 ((tkR K F S xs).2.2.2 : Nat)]) (by rfl) (by rfl) 34 _ #[.bool true, .int .i64 (tkR K F S xs).2.2.1, .int .u32 ((tkR K F S xs).2.2.2 : Nat)] (K9.out.row 0 rfl) (by simp [Value.cells]) (by kernel_rfl) info_X (by kernel_rfl) ?_; intro w10 hrow hoth hz hbl; have K10 := Lib.hid (K9.out.turn 0 rfl hrow hoth hz); have B10 := Lib.hid (hbl _ _ le_x B9.out); clear hrow hoth hz hbl K9 B9)
    | (refine at_load 4 (.tmp 30) (by rfl) ?_; refine wpList_get (by rfl) 4 (.tmp 30) (by rfl) (w6.heap.size) 0 (by rfl) 34 _ (.bool true) _ (K10.out.row 0 rfl) (by rfl) Tryz.underlying4 (by rfl) ?_))
  go_step3
  refine ⟨rfl, ?_⟩
  go_wp2
  obtain ⟨rf_0, rf_1, rf_2, rf_3, rf_4, rf_5, rf_6, rf_7, rf_8, rf_9, rf_10, rf_11, rf_12⟩ := c13_row (K10.out.row 4 rfl)
  obtain ⟨rx_0, rx_1, rx_2⟩ := c3_row (K10.out.row 3 rfl)
  obtain ⟨x_0, x_1, x_2⟩ := c3_row (K10.out.row 0 rfl)
  have zf := fun j => frozen_of_row _ _ j _ _ (K10.out.row 4 rfl)
  have zx := fun j => frozen_of_row _ _ j _ _ (K10.out.row 3 rfl)
  have nxrf : w6.heap.size ≠ w.heap.size + 1 := K10.out.ne 0 4 rfl rfl (by decide)
  have nrfx := nxrf.symm
  have nxrx : w6.heap.size ≠ w.heap.size + 1 + 1 := K10.out.ne 0 3 rfl rfl (by decide)
  have nrxx := nxrx.symm
  have KA := Lib.hid ((K10.out).setCells 4 rfl [.int .u8 0, .int .u8 0, .int .i64 0, .slice none 0 0, .int .i64 0, .int .i64 0, .int .i64 0, .int .u32 0, .slice none 0 0, .bool false, .bool false, .int .i64 0, .int .u8 0] (cs := zF0) (by kernel_rfl))
  have KB := Lib.hid ((KA.out.setCells 3 rfl [.bool true, .int .i64 (tkR K F S xs).2.2.1, .int .u32 ((tkR K F S xs).2.2.2 : Nat)] (cs := #[.bool true, .int .i64 (tkR K F S xs).2.2.1, .int .u32 ((tkR K F S xs).2.2.2 : Nat)]) (by kernel_rfl)).drew)
  have BB0 := (setCells_below (g := w.heap.size + 1 + 1) (by omega) [.bool true, .int .i64 (tkR K F S xs).2.2.1, .int .u32 ((tkR K F S xs).2.2.2 : Nat)] 0 _ _ (setCells_below (g := w.heap.size + 1) (by omega) [.int .u8 0, .int .u8 0, .int .i64 0, .slice none 0 0, .int .i64 0, .int .i64 0, .int .i64 0, .int .u32 0, .slice none 0 0, .bool false, .bool false, .int .i64 0, .int .u8 0] 0 _ _ B10.out)).drew
  have hr10 := KB.out.row 4 rfl
  have hr20 := KB.out.row 3 rfl
  simp only [World.setCells, Nat.reduceAdd] at hr10 hr20 BB0
  have hr1 := Lib.hid hr10
  clear hr10
  have hr2 := Lib.hid hr20
  clear hr20
  have BB := Lib.hid BB0
  clear BB0
  clear KA KB
  go_region
  all_goals
    go_wp2
    rw [jump_ret]
    exact bodyPost_ret (res_cell_cell rfl _ _ _ _ _ _ _ _ _ _ rfl hr1.out rfl hr2.out Tryz.underlying30 rfl info_F Tryz.underlying34 rfl info_X) rfl ⟨rfl, BB.out⟩
set_option maxRecDepth 100000 in
set_option maxHeartbeats 8000000 in
theorem p_parse_Y (L S : Int) (K F : UInt8) (A : Option Addr) (n c : Nat) (xs : List UInt8) (w : World) (hA : Bs w w.heap.size A n xs) (hN : A = none → c = 0) (hn : n ≤ 100000) (hnc : n ≤ c) (x0 : Bool) (x1 x2 : Int) (hx0 : x0 = false) (HO : Hid (∀ O J cap w0, OfOK K.toNat O → Calls Tryz.prog 21 #[.agg (hF0 K.toNat F.toNat S), .agg #[.func (.func O) #[] #[], .func (.func J) #[] cap, .func (.func (layF K.toNat)) #[] #[]], .int .i64 (n : Int)] w0 fun e w' => e = .returned (.agg #[.bool x0, .int .i64 x1, .int .u32 x2]) ∧ Below w0.heap.size w0 w')) (y0 : Bool) (hy0 : y0 = false) (HY : Hid ((tkR K F S xs).2.1 = y0)) :
    Calls Tryz.prog 6 #[.agg #[.int .i64 L, .int .u8 K.toNat, .int .u8 F.toNat, .int .i64 S], .slice A n c] w fun e w' => ∃ d A1 n1 c1 A3 n3 c3, d = (tkR K F S xs).1 ∧ e = .returned (.tuple #[.agg (fra d A1 n1 c1 A3 n3 c3), .agg #[.bool false, .int .i64 (tkR K F S xs).2.2.1, .int .u32 ((tkR K F S xs).2.2.2 : Nat)]]) ∧ HandS w' w.heap.size A1 n1 c1 d.da ∧ HandP w' w.heap.size A3 n3 c3 d.ps ∧ Below w.heap.size w w' := by
  have K0 : Hid (EnvB (((w.alloc (.cells #[.int .i64 L, .int .u8 K.toNat, .int .u8 F.toNat, .int .i64 S] 23)).alloc (.cells zF0 30)).alloc (.cells #[.bool false, .int .i64 0, .int .u32 0] 34)) [(A, n, xs)] [] ([(w.heap.size + 1 + 1, #[.bool false, .int .i64 0, .int .u32 0], 34), (w.heap.size + 1, zF0, 30), (w.heap.size, #[.int .i64 L, .int .u8 K.toNat, .int .u8 F.toNat, .int .i64 S], 23)])) := Lib.hid (((((EnvB.nil w).addS0 hA).box 23 #[.int .i64 L, .int .u8 K.toNat, .int .u8 F.toNat, .int .i64 S]).boxg 30 zF0 (w.heap.size + 1) (by simp)).boxg 34 #[.bool false, .int .i64 0, .int .u32 0] (w.heap.size + 1 + 1) (by simp))
  have B0 : Hid (Below w.heap.size w (((w.alloc (.cells #[.int .i64 L, .int .u8 K.toNat, .int .u8 F.toNat, .int .i64 S] 23)).alloc (.cells zF0 30)).alloc (.cells #[.bool false, .int .i64 0, .int .u32 0] 34))) := Lib.hid ((((Below.refl _ w).alloc (Nat.le_refl _) _).alloc (by simp) _).alloc (by simp only [World.size_alloc]; omega) _)
  have HN := Lib.hid hN
  subst hx0
  subst hy0
  clear hA hN
  have sz0 : (((w.alloc (.cells #[.int .i64 L, .int .u8 K.toNat, .int .u8 F.toNat, .int .i64 S] 23)).alloc (.cells zF0 30)).alloc (.cells #[.bool false, .int .i64 0, .int .u32 0] 34)).heap.size = w.heap.size + 1 + 1 + 1 := by simp
  have K1 := Lib.hid (K0.out.boxg 30 zF0 (w.heap.size + 1 + 1 + 1) sz0)
  have B1 : Hid (Below w.heap.size w ((((w.alloc (.cells #[.int .i64 L, .int .u8 K.toNat, .int .u8 F.toNat, .int .i64 S] 23)).alloc (.cells zF0 30)).alloc (.cells #[.bool false, .int .i64 0, .int .u32 0] 34)).alloc (.cells zF0 30))) := Lib.hid (B0.out.alloc B0.out.size _)
  go_enter Tryz.func6, Tryz.ntmps6
  go_wp2
  refine wp_scope_forward 0 rfl ?_
  go_wp2_with (first
    | (refine at_load 5 (.tmp 9) (by rfl) ?_; refine wpList_get (by rfl) 5 (.tmp 9) (by rfl) (w.heap.size) 1 (by rfl) 23 _ (.int .u8 K.toNat) _ (K0.out.row 2 rfl) (by rfl) Tryz.underlying5 (by rfl) ?_)
    | (refine at_load 5 (.tmp 11) (by rfl) ?_; refine wpList_get (by rfl) 5 (.tmp 11) (by rfl) (w.heap.size) 2 (by rfl) 23 _ (.int .u8 F.toNat) _ (K0.out.row 2 rfl) (by rfl) Tryz.underlying5 (by rfl) ?_)
    | (refine at_load 3 (.tmp 13) (by rfl) ?_; refine wpList_get (by rfl) 3 (.tmp 13) (by rfl) (w.heap.size) 3 (by rfl) 23 _ (.int .i64 S) _ (K0.out.row 2 rfl) (by rfl) Tryz.underlying3 (by rfl) ?_)
    | (refine at_store 30 (.tmp 6) (.tmp 15) (by rfl) ?_; refine wpList_put (by rfl) 30 (.tmp 6) (.tmp 15) (by rfl) (w.heap.size + 1 + 1 + 1) 0 (.agg (hF0 K.toNat F.toNat S)) (by rfl) (by rfl) 30 _ (hF0 K.toNat F.toNat S) (K1.out.row 0 rfl) (by simp [Value.cells]) (by kernel_rfl) info_F (by kernel_rfl) ?_; intro w2 hrow hoth hz hbl; have K2 := Lib.hid (K1.out.turn 0 rfl hrow hoth hz); have B2 := Lib.hid (hbl _ _ (by omega) B1.out); clear hrow hoth hz hbl K1 B1)
    | (refine at_load 5 (.tmp 16) (by rfl) ?_; refine wpList_get (by rfl) 5 (.tmp 16) (by rfl) (w.heap.size) 1 (by rfl) 23 _ (.int .u8 K.toNat) _ (K2.out.row 3 rfl) (by rfl) Tryz.underlying5 (by rfl) ?_)
    | (go_at_call 20; (with_reducible refine (shapeOf_any K _).mono ?_); rintro e w3 ⟨v, rfl, ⟨O, J, cap, cl, rfl, hO, hT, hd, hcl⟩, hb⟩; have HOO := Lib.hid hO; have HTT := Lib.hid hT; have hle2 := B2.out.size; have K3 : Hid (EnvB w3 [(A, n, xs)] [] ((w.heap.size + 1 + 1 + 1, (hF0 K.toNat F.toNat S), 30) :: (w.heap.size + 1 + 1, #[.bool false, .int .i64 0, .int .u32 0], 34) :: (w.heap.size + 1, zF0, 30) :: (w.heap.size, #[.int .i64 L, .int .u8 K.toNat, .int .u8 F.toNat, .int .i64 S], 23) :: cl)) := Lib.hid (K2.out.plusG hb hd hcl); have B3 := Lib.hid (below_step B2.out hb); clear hO hT hd hcl hb K2 B2; have le_s := B3.out.size; have K4 := Lib.hid (K3.out.box 49 #[.nilFunc, .nilFunc, .nilFunc]); have B4 := Lib.hid (B3.out.alloc B3.out.size (.cells #[.nilFunc, .nilFunc, .nilFunc] 49)); clear K3 B3)
    | (refine at_store 49 (.tmp 7) (.tmp 18) (by rfl) ?_; refine wpList_put (by rfl) 49 (.tmp 7) (.tmp 18) (by rfl) (w3.heap.size) 0 (.agg #[.func (.func O) #[] #[], .func (.func J) #[] cap, .func (.func (layF K.toNat)) #[] #[]]) (by rfl) (by rfl) 49 _ #[.func (.func O) #[] #[], .func (.func J) #[] cap, .func (.func (layF K.toNat)) #[] #[]] (K4.out.row 0 rfl) (by simp [Value.cells]) (by kernel_rfl) info_SH (by kernel_rfl) ?_; intro w5 hrow hoth hz hbl; have K5 := Lib.hid (K4.out.turn 0 rfl hrow hoth hz); have B5 := Lib.hid (hbl _ _ le_s B4.out); clear hrow hoth hz hbl K4 B4)
    | (refine at_load 30 (.tmp 6) (by rfl) ?_; refine wpList_load_row (by rfl) 30 (.tmp 6) (by rfl) (w.heap.size + 1 + 1 + 1) (by rfl) 30 _ (0, 0) _ (K5.out.row 1 rfl) Tryz.underlying30 (by rfl) info_F ?_)
    | (refine at_load 49 (.tmp 7) (by rfl) ?_; refine wpList_load_row (by rfl) 49 (.tmp 7) (by rfl) (w3.heap.size) (by rfl) 49 _ (0, 0) _ (K5.out.row 0 rfl) Tryz.underlying49 (by rfl) info_SH ?_)
    | (go_at_call 21; (with_reducible refine (HO.out _ _ _ _ HOO.out).mono ?_); rintro e w6 ⟨rfl, hb⟩; have K6 := Lib.hid (K5.out.on hb); have B6 := Lib.hid (below_step B5.out hb); have le_x := B6.out.size; clear hb K5 B5; have K7 := Lib.hid (K6.out.box 34 #[.bool false, .int .i64 0, .int .u32 0]); have B7 := Lib.hid (B6.out.alloc B6.out.size (.cells #[.bool false, .int .i64 0, .int .u32 0] 34)); clear K6 B6)
    | (refine at_store 34 (.tmp 8) (.tmp 23) (by rfl) ?_; refine wpList_put (by rfl) 34 (.tmp 8) (.tmp 23) (by rfl) (w6.heap.size) 0 (.agg #[.bool false, .int .i64 x1, .int .u32 x2]) (by rfl) (by rfl) 34 _ #[.bool false, .int .i64 x1, .int .u32 x2] (K7.out.row 0 rfl) (by simp [Value.cells]) (by kernel_rfl) info_X (by kernel_rfl) ?_; intro w8 hrow hoth hz hbl; have K8 := Lib.hid (K7.out.turn 0 rfl hrow hoth hz); have B8 := Lib.hid (hbl _ _ le_x B7.out); clear hrow hoth hz hbl K7 B7)
    | (refine at_load 4 (.tmp 24) (by rfl) ?_; refine wpList_get (by rfl) 4 (.tmp 24) (by rfl) (w6.heap.size) 0 (by rfl) 34 _ (.bool false) _ (K8.out.row 0 rfl) (by rfl) Tryz.underlying4 (by rfl) ?_)
    | (refine at_load 47 (.tmp 26) (by rfl) ?_; refine wpList_get (by rfl) 47 (.tmp 26) (by rfl) (w3.heap.size) 1 (by rfl) 49 _ (.func (.func J) #[] cap) _ (K8.out.row 1 rfl) (by rfl) Tryz.underlying47 (by rfl) ?_)
    | (refine at_callv (.tmp 27) #[.tmp 6, .tmp 28] _ (by rfl) ?_; refine wpList_callv (by rfl) (.tmp 27) #[.tmp 6, .tmp 28] _ (by rfl) J cap (by rfl) HTT.out.1 (#[.pointer (some ⟨w.heap.size + 1 + 1 + 1, 0, none⟩), .slice A n c] ++ cap) (map2_eval (by rfl) (by rfl)) _ ((HTT.out.2 F S (w.heap.size + 1 + 1 + 1) A n c xs _ (EnvB.sub (ss' := [(A, n, xs)]) (ps' := []) (gs' := (w.heap.size + 1 + 1 + 1, (hF0 K.toNat F.toNat S), 30) :: cl) K8.out (by simp) (by simp) (List.Sublist.cons _ (List.Sublist.cons _ (List.Sublist.cons_cons _ (List.Sublist.cons _ (List.Sublist.cons _ (List.Sublist.cons _ (List.Sublist.refl _)))))))) HN.out hn hnc).mono fun e w' h => tkPost_ret h) ?_; rintro v w9 ⟨d, A1, n1, c1, A3, n3, c3, rfl, hd, hrow, hh, hp, ht⟩; have K9 : Hid (EnvB w9 [(A1, n1, d.da), (A, n, xs)] [(A3, n3, d.ps)] ((w6.heap.size, #[.bool false, .int .i64 x1, .int .u32 x2], 34) :: (w3.heap.size, #[.func (.func O) #[] #[], .func (.func J) #[] cap, .func (.func (layF K.toNat)) #[] #[]], 49) :: (w.heap.size + 1 + 1 + 1, (fra d A1 n1 c1 A3 n3 c3), 30) :: (w.heap.size + 1 + 1, #[.bool false, .int .i64 0, .int .u32 0], 34) :: (w.heap.size + 1, zF0, 30) :: (w.heap.size, #[.int .i64 L, .int .u8 K.toNat, .int .u8 F.toNat, .int .i64 S], 23) :: cl)) := Lib.hid (K8.out.turnSP 2 rfl hrow ht hh hp); have B9 : Hid (Below w.heap.size w w9) := Lib.hid (ht.below (by omega) (K8.out.lt (y := (w.heap.size + 1 + 1 + 1, (hF0 K.toNat F.toNat S), 30)) (List.mem_of_getElem? (i := 2) rfl)) B8.out); have HD1 := Lib.hid hd; have HS1 := Lib.hid (hh.2.1.less B8.out.size); have HC1 := Lib.hid hh.2.2; have HP1 := Lib.hid (hp.2.1.less B8.out.size); have HQ1 := Lib.hid hp.2.2; unfold fv; rw [HY.out]; clear hd hrow hh hp ht K8 B8)
    | (refine at_store 34 (.tmp 8) (.tmp 29) (by rfl) ?_; refine wpList_put (by rfl) 34 (.tmp 8) (.tmp 29) (by rfl) (w6.heap.size) 0 (.agg #[.bool false, .int .i64 (tkR K F S xs).2.2.1, .int .u32 ((tkR K F S xs).2.2.2 : Nat)]) (by rfl) (by rfl) 34 _ #[.bool false, .int .i64 (tkR K F S xs).2.2.1, .int .u32 ((tkR K F S xs).2.2.2 : Nat)] (K9.out.row 0 rfl) (by simp [Value.cells]) (by kernel_rfl) info_X (by kernel_rfl) ?_; intro w10 hrow hoth hz hbl; have K10 := Lib.hid (K9.out.turn 0 rfl hrow hoth hz); have B10 := Lib.hid (hbl _ _ le_x B9.out); clear hrow hoth hz hbl K9 B9)
    | (refine at_load 4 (.tmp 30) (by rfl) ?_; refine wpList_get (by rfl) 4 (.tmp 30) (by rfl) (w6.heap.size) 0 (by rfl) 34 _ (.bool false) _ (K10.out.row 0 rfl) (by rfl) Tryz.underlying4 (by rfl) ?_))
  obtain ⟨rf_0, rf_1, rf_2, rf_3, rf_4, rf_5, rf_6, rf_7, rf_8, rf_9, rf_10, rf_11, rf_12⟩ := c13_row (K10.out.row 4 rfl)
  obtain ⟨rx_0, rx_1, rx_2⟩ := c3_row (K10.out.row 3 rfl)
  obtain ⟨x_0, x_1, x_2⟩ := c3_row (K10.out.row 0 rfl)
  have zf := fun j => frozen_of_row _ _ j _ _ (K10.out.row 4 rfl)
  have zx := fun j => frozen_of_row _ _ j _ _ (K10.out.row 3 rfl)
  obtain ⟨f_0, f_1, f_2, f_3, f_4, f_5, f_6, f_7, f_8, f_9, f_10, f_11, f_12⟩ := c13_row (K10.out.row 2 rfl)
  have nxrf : w6.heap.size ≠ w.heap.size + 1 := K10.out.ne 0 4 rfl rfl (by decide)
  have nrfx := nxrf.symm
  have nxrx : w6.heap.size ≠ w.heap.size + 1 + 1 := K10.out.ne 0 3 rfl rfl (by decide)
  have nrxx := nxrx.symm
  have nfrf : w.heap.size + 1 + 1 + 1 ≠ w.heap.size + 1 := K10.out.ne 2 4 rfl rfl (by decide)
  have nrff := nfrf.symm
  have nfrx : w.heap.size + 1 + 1 + 1 ≠ w.heap.size + 1 + 1 := K10.out.ne 2 3 rfl rfl (by decide)
  have nrxf := nfrx.symm
  have KA := Lib.hid ((K10.out).setCells 4 rfl [.int .u8 d.kd.toNat, .int .u8 d.fl.toNat, .int .i64 d.st, .slice A1 n1 c1, .int .i64 d.pd, .int .i64 d.la, .int .i64 d.ic, .int .u32 d.co.toNat, .slice A3 n3 c3, .bool d.rk, .bool d.al, .int .i64 d.dp, .int .u8 d.wt.toNat] (cs := (fra d A1 n1 c1 A3 n3 c3)) (by kernel_rfl))
  have KB := Lib.hid ((KA.out.setCells 3 rfl [.bool false, .int .i64 (tkR K F S xs).2.2.1, .int .u32 ((tkR K F S xs).2.2.2 : Nat)] (cs := #[.bool false, .int .i64 (tkR K F S xs).2.2.1, .int .u32 ((tkR K F S xs).2.2.2 : Nat)]) (by kernel_rfl)).drew)
  have BB0 := (setCells_below (g := w.heap.size + 1 + 1) (by omega) [.bool false, .int .i64 (tkR K F S xs).2.2.1, .int .u32 ((tkR K F S xs).2.2.2 : Nat)] 0 _ _ (setCells_below (g := w.heap.size + 1) (by omega) [.int .u8 d.kd.toNat, .int .u8 d.fl.toNat, .int .i64 d.st, .slice A1 n1 c1, .int .i64 d.pd, .int .i64 d.la, .int .i64 d.ic, .int .u32 d.co.toNat, .slice A3 n3 c3, .bool d.rk, .bool d.al, .int .i64 d.dp, .int .u8 d.wt.toNat] 0 _ _ B10.out)).drew
  have hr10 := KB.out.row 4 rfl
  have hr20 := KB.out.row 3 rfl
  have KBS0 := (KB.out.s (A1, n1, d.da) (by simp)).1
  have KBP0 := (KB.out.p (A3, n3, d.ps) (by simp)).1
  simp only [World.setCells, Nat.reduceAdd] at hr10 hr20 BB0 KBS0 KBP0
  have hr1 := Lib.hid hr10
  clear hr10
  have hr2 := Lib.hid hr20
  clear hr20
  have BB := Lib.hid BB0
  clear BB0
  have KBS := Lib.hid KBS0
  clear KBS0
  have KBP := Lib.hid KBP0
  clear KBP0
  clear KA KB
  go_region
  all_goals
    go_wp2
    rw [jump_ret]
    exact bodyPost_ret (res_cell_cell rfl _ _ _ _ _ _ _ _ _ _ rfl hr1.out rfl hr2.out Tryz.underlying30 rfl info_F Tryz.underlying34 rfl info_X) rfl ⟨d, A1, n1, c1, A3, n3, c3, HD1.out HY.out, rfl, ⟨KBS.out, HS1.out, HC1.out⟩, ⟨KBP.out, HP1.out, HQ1.out⟩, BB.out⟩
end Go.Proofs.YtbflhphjnmhjhaaGreat
/- The program's Parse, whatever it is handed. -/
namespace Go.Proofs.YtbflhphjnmhjhaaGreat
open Go.RowKit Oct Fi Fm
set_option linter.unusedVariables false
theorem outer_any (K F : UInt8) (S : Int) (O J LF : FuncId) (cap : Array Value) (n : Nat) (w : World) (hO : OfOK K.toNat O) :
    Calls Tryz.prog 21 #[.agg (FZc K F S), .agg #[.func (.func O) #[] #[], .func (.func J) #[] cap, .func (.func LF) #[] #[]], .int .i64 (n : Int)] w fun e w' => e = .returned (fv (outX K S n)) ∧ Below w.heap.size w w' := by
  unfold outX
  by_cases hr : headB 0 S = false
  · rw [if_pos hr]
    exact outer_H K F S O J LF cap n w hr
  · rw [if_neg hr]
    have hr' : headB 0 S = true := by simpa using hr
    by_cases hs : 16384 < n
    · rw [if_pos hs]
      exact outer_L K F S O J LF cap n w hr' (by omega)
    · rw [if_neg hs]
      by_cases hf : K.toNat = 5 ∨ farB K.toNat S = true
      · rw [if_pos hf]
        have e : (!(decide (K.toNat = 5) || farB K.toNat S)) = false := by rcases hf with h | h <;> simp [h]
        exact outer_O K F S O J LF cap n w hr' (by omega) _ e hO.1 (Lib.hid (fun w0 => (hO.2 S w0)))
      · rw [if_neg hf]
        have e : (!(decide (K.toNat = 5) || farB K.toNat S)) = true := by simpa using hf
        exact outer_Y K F S O J LF cap n w hr' (by omega) _ e hO.1 (Lib.hid (fun w0 => (hO.2 S w0)))
theorem parseR_out (K F : UInt8) (S : Int) (xs : List UInt8) : parseR K F S xs = if (outX K S xs.length).1 = true then (frZ 0 0 0, outX K S xs.length) else if (tkR K F S xs).2.1 = true then (frZ 0 0 0, (tkR K F S xs).2) else tkR K F S xs := by
  rw [parseR_eq]
  unfold outX
  by_cases h0 : headB 0 S = false
  · simp only [if_pos h0]; rfl
  simp only [if_neg h0]
  by_cases h1 : 16384 < xs.length
  · simp only [if_pos h1]; rfl
  simp only [if_neg h1]
  by_cases h2 : K.toNat = 5 ∨ farB K.toNat S = true
  · simp only [if_pos h2]; rfl
  · simp only [if_neg h2]; rfl
theorem outX_fine (K : UInt8) (S : Int) (n : Nat) (h : (outX K S n).1 = false) : outX K S n = fine := by
  unfold outX at *
  split at h
  · cases h
  · split at h
    · cases h
    · split at h
      · cases h
      · rename_i h0 h1 h2; simp [h0, h1, h2]
theorem p_parse (L S : Int) (K F : UInt8) (A : Option Addr) (n c : Nat) (xs : List UInt8) (w : World) (hA : Bs w w.heap.size A n xs) (hN : A = none → c = 0) (hn : n ≤ 100000) (hnc : n ≤ c) :
    Calls Tryz.prog 6 #[.agg #[.int .i64 L, .int .u8 K.toNat, .int .u8 F.toNat, .int .i64 S], .slice A n c] w fun e w' =>
      ∃ A' n' c' A3 n3 c3, e = .returned (.tuple #[frv (parseR K F S xs).1 (.slice A' n' c') (.slice A3 n3 c3), fv (parseR K F S xs).2]) ∧ HandS w' w.heap.size A' n' c' (parseR K F S xs).1.da ∧ HandP w' w.heap.size A3 n3 c3 (parseR K F S xs).1.ps ∧ Below w.heap.size w w' := by
  have hx : xs.length = n := hA.1
  have HO := fun (O J : FuncId) (cap : Array Value) (w0 : World) (hO : OfOK K.toNat O) => outer_any K F S O J (layF K.toNat) cap n w0 hO
  rw [parseR_out, hx]
  by_cases h1 : (outX K S n).1 = true
  · rw [if_pos h1]
    refine (p_parse_W L S K F A n c xs w hA hN hn hnc _ _ _ h1 (Lib.hid HO)).mono ?_
    rintro e w' ⟨rfl, hb⟩
    refine ⟨none, 0, 0, none, 0, 0, ?_, HandS.nil_ _ _, HandP.nil_ _ _, hb⟩
    unfold fv
    rw [h1]
    rfl
  · rw [if_neg h1]
    have h1' : (outX K S n).1 = false := by simpa using h1
    by_cases h2 : (tkR K F S xs).2.1 = true
    · rw [if_pos h2]
      refine (p_parse_T L S K F A n c xs w hA hN hn hnc _ _ _ h1' (Lib.hid HO) _ rfl (Lib.hid h2)).mono ?_
      rintro e w' ⟨rfl, hb⟩
      refine ⟨none, 0, 0, none, 0, 0, ?_, HandS.nil_ _ _, HandP.nil_ _ _, hb⟩
      unfold fv
      rw [h2]
      rfl
    · rw [if_neg h2]
      have h2' : (tkR K F S xs).2.1 = false := by simpa using h2
      refine (p_parse_Y L S K F A n c xs w hA hN hn hnc _ _ _ h1' (Lib.hid HO) _ rfl (Lib.hid h2')).mono ?_
      rintro e w' ⟨d, A1, n1, c1, A3, n3, c3, rfl, rfl, h3, h4, hb⟩
      refine ⟨A1, n1, c1, A3, n3, c3, ?_, h3, h4, hb⟩
      unfold fv
      rw [h2']
      rfl
end Go.Proofs.YtbflhphjnmhjhaaGreat
