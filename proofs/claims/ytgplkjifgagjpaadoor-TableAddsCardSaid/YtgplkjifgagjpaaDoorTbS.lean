/- The document's Static: its array of 20 fields, laid cell by cell. -/
import Derived.Test.YtgplkjifgagjpaaDoorTbA
namespace Go.Proofs.YtgplkjifgagjpaaDoor
open Go.RowKit Tb
set_option linter.unusedVariables false
set_option linter.unusedSimpArgs false
theorem at_dst {P : Program} {ops : Array Oper} {rest : List Oper} {o : Oper} {a : Act} {w : World} {Q : Exit → Act → World → Prop} (d : Tmp) (_ : o.dst = some d) (h : wpList P ops Q (o :: rest) a w) : wpList P ops Q (o :: rest) a w := h
theorem wpList_val {P : Program} {ops : Array Oper} {rest : List Oper} {op : Oper} {a : Act} {w : World} {Q : Exit → Act → World → Prop} (hgd : op.guard = none) (v : Value)
    (hr : (execOp a.eval op).run P w = .ok (.value v) w) (h : wpList P ops Q rest (a.put op.dst v) w) : wpList P ops Q (op :: rest) a w :=
  wpList_plain hgd fun _ hK => by
    unfold Oper.wp
    rw [hr]
    exact hK _ _ h
namespace Tb
def sv (k : Nat) : Value := fdv (stat.getD k fd0)
def zerA : Array Value := #[.string ⟨#[]⟩, .string ⟨#[]⟩, .string ⟨#[]⟩, .string ⟨#[]⟩, .string ⟨#[]⟩, .string ⟨#[]⟩, .string ⟨#[]⟩, .string ⟨#[]⟩, .string ⟨#[]⟩, .string ⟨#[]⟩, .string ⟨#[]⟩, .string ⟨#[]⟩, .string ⟨#[]⟩, .string ⟨#[]⟩, .string ⟨#[]⟩, .string ⟨#[]⟩, .string ⟨#[]⟩, .string ⟨#[]⟩, .string ⟨#[]⟩, .string ⟨#[]⟩, .string ⟨#[]⟩, .string ⟨#[]⟩, .string ⟨#[]⟩, .string ⟨#[]⟩, .string ⟨#[]⟩, .string ⟨#[]⟩, .string ⟨#[]⟩, .string ⟨#[]⟩, .string ⟨#[]⟩, .string ⟨#[]⟩, .string ⟨#[]⟩, .string ⟨#[]⟩, .string ⟨#[]⟩, .string ⟨#[]⟩, .string ⟨#[]⟩, .string ⟨#[]⟩, .string ⟨#[]⟩, .string ⟨#[]⟩, .string ⟨#[]⟩, .string ⟨#[]⟩]
def statV : Value := .agg statA
end Tb
set_option maxRecDepth 100000 in
set_option maxHeartbeats 4000000 in
theorem r_static_yes (k : Nat) (x : Fd) (w : World) (hk : k < 20) (hx : stat[k]? = some x) :
    Calls Tryd.prog 11 #[.int .i64 ((k : Int) + 1)] w fun e w' => e = .returned (.tuple #[fdv x, .bool true]) ∧ Below w.heap.size w w' := by
  obtain ⟨x', hx', h1, h2⟩ := stat_at k hk
  rw [hx] at hx'
  cases hx'
  have H1 := Lib.hid h1
  have H2 := Lib.hid h2
  have HX := Lib.hid hx
  clear hx h1 h2
  have K0 : Hid (EnvF ((w.alloc (.cells #[.string ⟨#[]⟩, .string ⟨#[]⟩] 26)).alloc (.cells zerA 49)) [] [(w.heap.size + 1, zerA, 49), (w.heap.size, #[.string ⟨#[]⟩, .string ⟨#[]⟩], 26)]) := Lib.hid (((EnvF.nil w).boxg 26 #[.string ⟨#[]⟩, .string ⟨#[]⟩] (w.heap.size) (by simp)).boxg 49 zerA (w.heap.size + 1) (by simp))
  have B0 : Hid (Below w.heap.size w ((w.alloc (.cells #[.string ⟨#[]⟩, .string ⟨#[]⟩] 26)).alloc (.cells zerA 49))) := Lib.hid (((Below.refl _ w).alloc (by first | exact Nat.le_refl _ | (simp only [World.size_alloc]; omega)) (.cells #[.string ⟨#[]⟩, .string ⟨#[]⟩] 26)).alloc (by first | exact Nat.le_refl _ | (simp only [World.size_alloc]; omega)) (.cells zerA 49))
  go_enter Tryd.func11, Tryd.ntmps11
  go_wp2_with (first
    | go_skip
    | (refine at_dst 5 (by rfl) ?_; refine wpList_val (by rfl) (sv 0) (by kernel_rfl) ?_)
    | (refine at_dst 6 (by rfl) ?_; refine wpList_val (by rfl) (sv 1) (by kernel_rfl) ?_)
    | (refine at_dst 7 (by rfl) ?_; refine wpList_val (by rfl) (sv 2) (by kernel_rfl) ?_)
    | (refine at_dst 8 (by rfl) ?_; refine wpList_val (by rfl) (sv 3) (by kernel_rfl) ?_)
    | (refine at_dst 9 (by rfl) ?_; refine wpList_val (by rfl) (sv 4) (by kernel_rfl) ?_)
    | (refine at_dst 10 (by rfl) ?_; refine wpList_val (by rfl) (sv 5) (by kernel_rfl) ?_)
    | (refine at_dst 11 (by rfl) ?_; refine wpList_val (by rfl) (sv 6) (by kernel_rfl) ?_)
    | (refine at_dst 12 (by rfl) ?_; refine wpList_val (by rfl) (sv 7) (by kernel_rfl) ?_)
    | (refine at_dst 13 (by rfl) ?_; refine wpList_val (by rfl) (sv 8) (by kernel_rfl) ?_)
    | (refine at_dst 14 (by rfl) ?_; refine wpList_val (by rfl) (sv 9) (by kernel_rfl) ?_)
    | (refine at_dst 15 (by rfl) ?_; refine wpList_val (by rfl) (sv 10) (by kernel_rfl) ?_)
    | (refine at_dst 16 (by rfl) ?_; refine wpList_val (by rfl) (sv 11) (by kernel_rfl) ?_)
    | (refine at_dst 17 (by rfl) ?_; refine wpList_val (by rfl) (sv 12) (by kernel_rfl) ?_)
    | (refine at_dst 18 (by rfl) ?_; refine wpList_val (by rfl) (sv 13) (by kernel_rfl) ?_)
    | (refine at_dst 19 (by rfl) ?_; refine wpList_val (by rfl) (sv 14) (by kernel_rfl) ?_)
    | (refine at_dst 20 (by rfl) ?_; refine wpList_val (by rfl) (sv 15) (by kernel_rfl) ?_)
    | (refine at_dst 21 (by rfl) ?_; refine wpList_val (by rfl) (sv 16) (by kernel_rfl) ?_)
    | (refine at_dst 22 (by rfl) ?_; refine wpList_val (by rfl) (sv 17) (by kernel_rfl) ?_)
    | (refine at_dst 23 (by rfl) ?_; refine wpList_val (by rfl) (sv 18) (by kernel_rfl) ?_)
    | (refine at_dst 24 (by rfl) ?_; refine wpList_val (by rfl) (sv 19) (by kernel_rfl) ?_)
    | (refine at_dst 25 (by rfl) ?_; refine wpList_val (by rfl) statV (by kernel_rfl) ?_)
    | (refine at_store 49 (.tmp 4) (.tmp 25) (by rfl) ?_; refine wpList_put (by rfl) 49 (.tmp 4) (.tmp 25) (by rfl) (w.heap.size + 1) 0 (statV) (by rfl) (by rfl) 49 zerA statA (K0.out.row 0 rfl) (of_decide_eq_true (by kernel_rfl)) (by kernel_rfl) infoc_A (by kernel_rfl) ?_; intro w1 hrow hoth hz hbl; have K1 : Hid (EnvF w1 [] [(w.heap.size + 1, statA, 49), (w.heap.size, #[.string ⟨#[]⟩, .string ⟨#[]⟩], 26)]) := Lib.hid (K0.out.turn 0 rfl hrow hoth hz); have B1 : Hid (Below w.heap.size w w1) := Lib.hid (hbl _ _ (by omega) B0.out); clear hrow hoth hz hbl K0 B0; have c1 := (cell_of_row _ _ _ _ _ (0, 0) (K1.out.row 0 rfl)).trans H1.out; have c2 := (cell_of_row _ _ _ _ _ (0, 0) (K1.out.row 0 rfl)).trans H2.out; clear H1 H2)
    | (refine at_store 26 (.tmp 2) (.tmp 36) (by rfl) ?_; refine wpList_put (by rfl) 26 (.tmp 2) (.tmp 36) (by rfl) (w.heap.size) 0 (.agg #[.string x.1, .string x.2]) (by rfl) (by rfl) 26 #[.string ⟨#[]⟩, .string ⟨#[]⟩] #[.string x.1, .string x.2] (K1.out.row 1 rfl) (by simp [Value.cells]) (by kernel_rfl) infoc_D (by kernel_rfl) ?_; intro w2 hrow hoth hz hbl; have K2 : Hid (EnvF w2 [] [(w.heap.size + 1, statA, 49), (w.heap.size, #[.string x.1, .string x.2], 26)]) := Lib.hid (K1.out.turn 1 rfl hrow hoth hz); have B2 : Hid (Below w.heap.size w w2) := Lib.hid (hbl _ _ (Nat.le_refl _) B1.out); clear hrow hoth hz hbl K1 B1))
  exact bodyPost_ret (res_cell_tmp rfl _ _ _ _ _ _ rfl (K2.out.row 1 rfl) Tryd.underlying26 rfl infoc_D) rfl ⟨rfl, B2.out⟩
end Go.Proofs.YtgplkjifgagjpaaDoor
