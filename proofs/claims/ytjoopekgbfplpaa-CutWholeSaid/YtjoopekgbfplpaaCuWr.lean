/- The last region of the statements' own samples of layer 5. -/
import Derived.Test.YtjoopekgbfplpaaCuV
namespace Go.Proofs.Ytjoopekgbfplpaa
open Go.RowKit Oct Cu Go.Shelf
set_option linter.unusedVariables false
set_option linter.unusedSimpArgs false
def sndSeq : Code → Code
  | .seq _ b => b
  | c => c
def fstSeq : Code → Code
  | .seq a _ => a
  | c => c
section
variable {P : Program} {l : List Oper} {Q : Exit → Act → World → Prop} {md : Region.Mode} {S : World → Prop}
theorem getOf {i : Nat} {oi : Oper} {r : List Oper} (h : List.drop i l = oi :: r) : l.toArray[i]? = some oi := by
  have h1 : (List.drop i l)[0]? = some oi := by rw [h]; rfl
  simpa using h1
theorem takeD {i : Nat} {oi : Oper} {r : List Oper} {v : Value} {fuel : Nat} {listed : Array Bool} {a : Act} {w : World} (hi : List.drop i l = oi :: r)
    (hs : Region.noSelect l.toArray = true) (hf : Region.free md l.toArray listed i = true) (hr : (Region.ready md l.toArray listed).contains i = true)
    (hQ : ∀ c a w, Q (.panic c) (a.put oi.dst v) w → Q (.panic c) a w) (hy : YieldsIf P l.toArray S oi v a) (hS : S w)
    (h : wpAnyH P md l.toArray Q S fuel (listed.setIfInBounds i true) (a.put oi.dst v) w) : wpAnyH P md l.toArray Q S (fuel + 1) listed a w :=
  wpAnyH_take (getOf hi) hs hf hr hQ hy hS h
/-- The only one that may come up: no question of the others. -/
theorem oneD {i : Nat} {oi : Oper} {r : List Oper} {v : Value} {fuel : Nat} {listed : Array Bool} {a : Act} {w : World} (hi : List.drop i l = oi :: r)
    (hr : Region.ready md l.toArray listed = [i]) (hy : YieldsIf P l.toArray S oi v a) (hS : S w)
    (h : wpAnyH P md l.toArray Q S fuel (listed.setIfInBounds i true) (a.put oi.dst v) w) : wpAnyH P md l.toArray Q S (fuel + 1) listed a w :=
  wpAnyH_all hr (by simp) (fun j hj => by
    rcases List.mem_singleton.1 hj with rfl
    exact hy.wpOp (getOf hi) hS ⟨hS, h⟩)
theorem readyD {i : Nat} {o : Oper} {r : List Oper} {fuel : Nat} {listed : Array Bool} {a : Act} {w : World} (hi : List.drop i l = o :: r)
    (hr : Region.ready md l.toArray listed = [i])
    (h : ∀ K' : Act → World → Prop, Shut (∀ a w, S w → (S w → wpAnyH P md l.toArray Q S fuel (listed.setIfInBounds i true) a w) → K' a w) → if Region.wanted o (yielded l.toArray a.tmps) = true then Oper.wp P o a w K' Q else K' (a.put o.dst undef) w) :
    wpAnyH P md l.toArray Q S (fuel + 1) listed a w :=
  wpAnyH_ready hr (by simp) (AllReadyH.cons (getOf hi) h AllReadyH.nil)
end
set_option maxRecDepth 100000 in
set_option maxHeartbeats 4000000 in
theorem w5_region (w w1 w2 w4 w8 w10 w15 w19 w21 w25 : World) (A1 A2 A3 A4 A6 A7 A8 A9 A10 : Option Addr) (c1 c2 c3 c4 c5 c6 c7 c8 c9 c10 b5 o5 : Nat) (x5 : Pq) (v10 v11 v12 v14 v15 v18 v19 v20 v21 v22 v23 v24 v25 v26 v27 v28 v29 v30 v31 v32 v33 v34 v35 v36 v37 v38 v39 v40 v41 v42 v43 v44 v45 v46 v47 v48 v49 v50 v51 v52 v53 : Value) (HC4 : Hid (1 ≤ c4 ∧ (A4 = none → c4 = 0))) (HX5 : Hid (x5.f = [0, 0, 0, 4, 0, 0, 0, 0, 0])) (K26 : Hid (EnvF w25 [qF (some ⟨b5, o5, none⟩) 1 [x5], bF A4 1 [7]] [(w21.heap.size + 1, #[.bool true, .int .i64 0, .int .u32 6], 31), (w10.heap.size + 1, #[.bool true, .int .i64 0, .int .u32 1], 31), (w4.heap.size + 1, #[.bool false, .int .i64 0, .int .u32 0], 31), (w4.heap.size, #[.int .i64 24, .slice A4 1 c4], 24)])) (B26 : Hid (Below w.heap.size w w25)) (K : Act → World → Prop) (hK : ∀ (a : Act) (w0 : World), Code.wp Try.prog Code.ret (bodyPost Try.prog Try.f6 fun e w' => e = .returned (.bool true) ∧ Below w.heap.size w w') a w0 → K a w0) :
    Code.wp Try.prog (fstSeq (sndSeq (sndSeq (sndSeq (sndSeq (sndSeq (sndSeq (Try.f6.body.getD .skip)))))))) (Exit.then K (bodyPost Try.prog Try.f6 fun e w' => e = .returned (.bool true) ∧ Below w.heap.size w w')) { tmps := #[Value.bool false, Value.slice A1 24 c1, Value.pointer (some { block := w4.heap.size, off := 0 }), Value.slice (some { block := b5, off := o5 }) 1 c5, Value.pointer (some { block := w4.heap.size + 1, off := 0 }), Value.int IntKind.i64 0, Value.pointer (some { block := w10.heap.size, off := 0 }), Value.slice A7 0 c7, Value.pointer (some { block := w10.heap.size + 1, off := 0 }), Value.int IntKind.i64 0, v10, v11, v12, Value.int IntKind.i64 2, v14, v15, Value.pointer (some { block := w21.heap.size + 1, off := 0 }), Value.int IntKind.i64 0, v18, v19, v20, v21, v22, v23, v24, v25, v26, v27, v28, v29, v30, v31, v32, v33, v34, v35, v36, v37, v38, v39, v40, v41, v42, v43, v44, v45, v46, v47, v48, v49, v50, v51, v52, v53, undef, undef, undef, undef, undef, undef, undef, undef, undef, undef, undef, undef, undef, undef, undef, undef, undef, undef, undef, undef, undef, undef, undef, undef, undef, undef, undef, undef, undef, undef, undef, undef, undef, undef, undef, undef, undef, undef, undef, undef, undef, undef, undef, undef, undef, undef, undef, undef, undef, undef, undef, undef, undef, undef, undef, undef, undef, undef, undef, undef, undef, undef, undef, undef, undef, undef, undef, undef, undef, undef, undef, undef, undef, undef, undef, undef, undef, undef, undef, undef, undef, undef, undef, undef, undef, undef, undef, undef, undef, undef, undef], defers := [] } w25 := by
  have S1 : Hid (w25.drew.cell? ⟨w4.heap.size, 0, none⟩ = some (.int .i64 24) ∧ w25.drew.cell? ⟨w4.heap.size, 1, none⟩ = some (.slice A4 1 c4) ∧ w25.drew.cell? ⟨w4.heap.size + 1, 0, none⟩ = some (.bool false) ∧ w25.drew.cell? ⟨w4.heap.size + 1, 1, none⟩ = some (.int .i64 0) ∧ w25.drew.cell? ⟨w4.heap.size + 1, 2, none⟩ = some (.int .u32 0) ∧ w25.drew.cell? ⟨w10.heap.size + 1, 0, none⟩ = some (.bool true) ∧ w25.drew.cell? ⟨w10.heap.size + 1, 1, none⟩ = some (.int .i64 0) ∧ w25.drew.cell? ⟨w10.heap.size + 1, 2, none⟩ = some (.int .u32 1) ∧ w25.drew.cell? ⟨w21.heap.size + 1, 0, none⟩ = some (.bool true) ∧ w25.drew.cell? ⟨w21.heap.size + 1, 1, none⟩ = some (.int .i64 0) ∧ w25.drew.cell? ⟨w21.heap.size + 1, 2, none⟩ = some (.int .u32 6) ∧ w25.drew.cell? ⟨b5, o5 + 1, none⟩ = some (.int .u8 4) ∧ w25.drew.cell? ⟨b5, o5 + 4, none⟩ = some (.slice x5.A 0 x5.c)) := Lib.hid (s5_of (K26.out.drew.row 3 rfl) (K26.out.drew.row 2 rfl) (K26.out.drew.row 1 rfl) (K26.out.drew.row 0 rfl) (q5_of (K26.out.drew.qs (A := some ⟨b5, o5, none⟩) (n := 1) (xs := [x5]) (by simp)) HX5.out))
  have S3 : Hid ((w25.alloc (.cells #[.int .u8 7] 5)).drew.cell? ⟨w4.heap.size, 0, none⟩ = some (.int .i64 24) ∧ (w25.alloc (.cells #[.int .u8 7] 5)).drew.cell? ⟨w4.heap.size, 1, none⟩ = some (.slice A4 1 c4) ∧ (w25.alloc (.cells #[.int .u8 7] 5)).drew.cell? ⟨w4.heap.size + 1, 0, none⟩ = some (.bool false) ∧ (w25.alloc (.cells #[.int .u8 7] 5)).drew.cell? ⟨w4.heap.size + 1, 1, none⟩ = some (.int .i64 0) ∧ (w25.alloc (.cells #[.int .u8 7] 5)).drew.cell? ⟨w4.heap.size + 1, 2, none⟩ = some (.int .u32 0) ∧ (w25.alloc (.cells #[.int .u8 7] 5)).drew.cell? ⟨w10.heap.size + 1, 0, none⟩ = some (.bool true) ∧ (w25.alloc (.cells #[.int .u8 7] 5)).drew.cell? ⟨w10.heap.size + 1, 1, none⟩ = some (.int .i64 0) ∧ (w25.alloc (.cells #[.int .u8 7] 5)).drew.cell? ⟨w10.heap.size + 1, 2, none⟩ = some (.int .u32 1) ∧ (w25.alloc (.cells #[.int .u8 7] 5)).drew.cell? ⟨w21.heap.size + 1, 0, none⟩ = some (.bool true) ∧ (w25.alloc (.cells #[.int .u8 7] 5)).drew.cell? ⟨w21.heap.size + 1, 1, none⟩ = some (.int .i64 0) ∧ (w25.alloc (.cells #[.int .u8 7] 5)).drew.cell? ⟨w21.heap.size + 1, 2, none⟩ = some (.int .u32 6) ∧ (w25.alloc (.cells #[.int .u8 7] 5)).drew.cell? ⟨b5, o5 + 1, none⟩ = some (.int .u8 4) ∧ (w25.alloc (.cells #[.int .u8 7] 5)).drew.cell? ⟨b5, o5 + 4, none⟩ = some (.slice x5.A 0 x5.c)) := Lib.hid (s5_of ((K26.out.al (.cells #[.int .u8 7] 5)).drew.row 3 rfl) ((K26.out.al (.cells #[.int .u8 7] 5)).drew.row 2 rfl) ((K26.out.al (.cells #[.int .u8 7] 5)).drew.row 1 rfl) ((K26.out.al (.cells #[.int .u8 7] 5)).drew.row 0 rfl) (q5_of ((K26.out.al (.cells #[.int .u8 7] 5)).drew.qs (A := some ⟨b5, o5, none⟩) (n := 1) (xs := [x5]) (by simp)) HX5.out))
  dsimp only [Try.f6, sndSeq, fstSeq, Option.getD]
  try dsimp only [List.append]
  refine wp_region_noPanic ?_
  refine wp_region_held_drew (S := (fun W' => W'.cell? ⟨w4.heap.size, 0, none⟩ = some (.int .i64 24) ∧ W'.cell? ⟨w4.heap.size, 1, none⟩ = some (.slice A4 1 c4) ∧ W'.cell? ⟨w4.heap.size + 1, 0, none⟩ = some (.bool false) ∧ W'.cell? ⟨w4.heap.size + 1, 1, none⟩ = some (.int .i64 0) ∧ W'.cell? ⟨w4.heap.size + 1, 2, none⟩ = some (.int .u32 0) ∧ W'.cell? ⟨w10.heap.size + 1, 0, none⟩ = some (.bool true) ∧ W'.cell? ⟨w10.heap.size + 1, 1, none⟩ = some (.int .i64 0) ∧ W'.cell? ⟨w10.heap.size + 1, 2, none⟩ = some (.int .u32 1) ∧ W'.cell? ⟨w21.heap.size + 1, 0, none⟩ = some (.bool true) ∧ W'.cell? ⟨w21.heap.size + 1, 1, none⟩ = some (.int .i64 0) ∧ W'.cell? ⟨w21.heap.size + 1, 2, none⟩ = some (.int .u32 6) ∧ W'.cell? ⟨b5, o5 + 1, none⟩ = some (.int .u8 4) ∧ W'.cell? ⟨b5, o5 + 4, none⟩ = some (.slice x5.A 0 x5.c))) (by kernel_rfl) ?_ (fun h0 => ?_)
  · (try dsimp only)
    (first
      | with_reducible exact S1.out
      | with_reducible exact S3.out
      | with_reducible exact S4.out
      | with_reducible exact S5.out
      | with_reducible exact S6.out
      | with_reducible exact S7.out
      | with_reducible exact S8.out
      | with_reducible exact S9.out
      | with_reducible exact S10.out
      | with_reducible exact S11.out)
  refine oneD (i := 0) (v := ?_) rfl (by as_aux_lemma => kernel_rfl) (Or.inl ⟨by rfl, ?_⟩) h0 ?_
  rotate_left
  · intro w hSw; (try dsimp only at hSw); go_simp <;> with_reducible rfl
  try simp only [Act.put, List.setIfInBounds_toArray, List.set_cons_zero, List.set_cons_succ]
  refine oneD (i := 1) (v := ?_) rfl (by as_aux_lemma => kernel_rfl) (Or.inl ⟨by rfl, ?_⟩) h0 ?_
  rotate_left
  · intro w hSw; (try dsimp only at hSw); go_simp <;> with_reducible rfl
  try simp only [Act.put, List.setIfInBounds_toArray, List.set_cons_zero, List.set_cons_succ]
  refine oneD (i := 2) (v := ?_) rfl (by as_aux_lemma => kernel_rfl) (Or.inl ⟨by rfl, ?_⟩) h0 ?_
  rotate_left
  · intro w hSw; (try dsimp only at hSw); go_simp <;> with_reducible rfl
  try simp only [Act.put, List.setIfInBounds_toArray, List.set_cons_zero, List.set_cons_succ]
  refine oneD (i := 3) (v := ?_) rfl (by as_aux_lemma => kernel_rfl) (Or.inl ⟨by rfl, ?_⟩) h0 ?_
  rotate_left
  · intro w hSw; (try dsimp only at hSw); go_simp <;> with_reducible rfl
  try simp only [Act.put, List.setIfInBounds_toArray, List.set_cons_zero, List.set_cons_succ]
  refine oneD (i := 4) (v := ?_) rfl (by as_aux_lemma => kernel_rfl) (Or.inl ⟨by rfl, ?_⟩) h0 ?_
  rotate_left
  · intro w hSw; (try dsimp only at hSw); go_simp <;> with_reducible rfl
  try simp only [Act.put, List.setIfInBounds_toArray, List.set_cons_zero, List.set_cons_succ]
  refine oneD (i := 5) (v := ?_) rfl (by as_aux_lemma => kernel_rfl) (Or.inl ⟨by rfl, ?_⟩) h0 ?_
  rotate_left
  · intro w hSw; (try dsimp only at hSw); go_simp <;> with_reducible rfl
  try simp only [Act.put, List.setIfInBounds_toArray, List.set_cons_zero, List.set_cons_succ]
  refine oneD (i := 6) (v := ?_) rfl (by as_aux_lemma => kernel_rfl) (Or.inl ⟨by rfl, ?_⟩) h0 ?_
  rotate_left
  · intro w hSw; (try dsimp only at hSw); go_simp <;> with_reducible rfl
  try simp only [Act.put, List.setIfInBounds_toArray, List.set_cons_zero, List.set_cons_succ]
  refine oneD (i := 7) (v := ?_) rfl (by as_aux_lemma => kernel_rfl) (Or.inl ⟨by rfl, ?_⟩) h0 ?_
  rotate_left
  · intro w hSw; (try dsimp only at hSw); go_simp <;> with_reducible rfl
  try simp only [Act.put, List.setIfInBounds_toArray, List.set_cons_zero, List.set_cons_succ]
  refine takeD (i := 8) (v := ?_) rfl (by as_aux_lemma => kernel_rfl) (by as_aux_lemma => kernel_rfl) (by as_aux_lemma => kernel_rfl) (fun _ _ _ h => h) (Or.inl ⟨by rfl, ?_⟩) h0 ?_
  rotate_left
  · intro w hSw; (try dsimp only at hSw); go_simp <;> with_reducible rfl
  try simp only [Act.put, List.setIfInBounds_toArray, List.set_cons_zero, List.set_cons_succ]
  refine oneD (i := 9) (v := ?_) rfl (by as_aux_lemma => kernel_rfl) (Or.inl ⟨by rfl, ?_⟩) h0 ?_
  rotate_left
  · intro w hSw; (try dsimp only at hSw); go_simp <;> with_reducible rfl
  try simp only [Act.put, List.setIfInBounds_toArray, List.set_cons_zero, List.set_cons_succ]
  refine oneD (i := 10) (v := ?_) rfl (by as_aux_lemma => kernel_rfl) (Or.inl ⟨by rfl, ?_⟩) h0 ?_
  rotate_left
  · intro w hSw; (try dsimp only at hSw); go_simp <;> with_reducible rfl
  try simp only [Act.put, List.setIfInBounds_toArray, List.set_cons_zero, List.set_cons_succ]
  refine oneD (i := 11) (v := ?_) rfl (by as_aux_lemma => kernel_rfl) (Or.inl ⟨by rfl, ?_⟩) h0 ?_
  rotate_left
  · intro w hSw; (try dsimp only at hSw); go_simp <;> with_reducible rfl
  try simp only [Act.put, List.setIfInBounds_toArray, List.set_cons_zero, List.set_cons_succ]
  refine oneD (i := 12) (v := ?_) rfl (by as_aux_lemma => kernel_rfl) (Or.inl ⟨by rfl, ?_⟩) h0 ?_
  rotate_left
  · intro w hSw; (try dsimp only at hSw); go_simp <;> with_reducible rfl
  try simp only [Act.put, List.setIfInBounds_toArray, List.set_cons_zero, List.set_cons_succ]
  refine oneD (i := 13) (v := ?_) rfl (by as_aux_lemma => kernel_rfl) (Or.inl ⟨by rfl, ?_⟩) h0 ?_
  rotate_left
  · intro w hSw; (try dsimp only at hSw); go_simp <;> with_reducible rfl
  try simp only [Act.put, List.setIfInBounds_toArray, List.set_cons_zero, List.set_cons_succ]
  refine oneD (i := 14) (v := ?_) rfl (by as_aux_lemma => kernel_rfl) (Or.inl ⟨by rfl, ?_⟩) h0 ?_
  rotate_left
  · intro w hSw; (try dsimp only at hSw); go_simp <;> with_reducible rfl
  try simp only [Act.put, List.setIfInBounds_toArray, List.set_cons_zero, List.set_cons_succ]
  refine oneD (i := 15) (v := ?_) rfl (by as_aux_lemma => kernel_rfl) (Or.inl ⟨by rfl, ?_⟩) h0 ?_
  rotate_left
  · intro w hSw; (try dsimp only at hSw); go_simp <;> with_reducible rfl
  try simp only [Act.put, List.setIfInBounds_toArray, List.set_cons_zero, List.set_cons_succ]
  refine oneD (i := 16) (v := ?_) rfl (by as_aux_lemma => kernel_rfl) (Or.inl ⟨by rfl, ?_⟩) h0 ?_
  rotate_left
  · intro w hSw; (try dsimp only at hSw); go_simp <;> with_reducible rfl
  try simp only [Act.put, List.setIfInBounds_toArray, List.set_cons_zero, List.set_cons_succ]
  refine oneD (i := 17) (v := ?_) rfl (by as_aux_lemma => kernel_rfl) (Or.inl ⟨by rfl, ?_⟩) h0 ?_
  rotate_left
  · intro w hSw; (try dsimp only at hSw); go_simp <;> with_reducible rfl
  try simp only [Act.put, List.setIfInBounds_toArray, List.set_cons_zero, List.set_cons_succ]
  refine oneD (i := 18) (v := ?_) rfl (by as_aux_lemma => kernel_rfl) (Or.inl ⟨by rfl, ?_⟩) h0 ?_
  rotate_left
  · intro w hSw; (try dsimp only at hSw); go_simp <;> with_reducible rfl
  try simp only [Act.put, List.setIfInBounds_toArray, List.set_cons_zero, List.set_cons_succ]
  refine oneD (i := 19) (v := ?_) rfl (by as_aux_lemma => kernel_rfl) (Or.inl ⟨by rfl, ?_⟩) h0 ?_
  rotate_left
  · intro w hSw; (try dsimp only at hSw); go_simp <;> with_reducible rfl
  try simp only [Act.put, List.setIfInBounds_toArray, List.set_cons_zero, List.set_cons_succ]
  refine oneD (i := 20) (v := ?_) rfl (by as_aux_lemma => kernel_rfl) (Or.inl ⟨by rfl, ?_⟩) h0 ?_
  rotate_left
  · intro w hSw; (try dsimp only at hSw); go_simp <;> with_reducible rfl
  try simp only [Act.put, List.setIfInBounds_toArray, List.set_cons_zero, List.set_cons_succ]
  refine oneD (i := 21) (v := ?_) rfl (by as_aux_lemma => kernel_rfl) (Or.inl ⟨by rfl, ?_⟩) h0 ?_
  rotate_left
  · intro w hSw; (try dsimp only at hSw); go_simp <;> with_reducible rfl
  try simp only [Act.put, List.setIfInBounds_toArray, List.set_cons_zero, List.set_cons_succ]
  refine oneD (i := 22) (v := ?_) rfl (by as_aux_lemma => kernel_rfl) (Or.inl ⟨by rfl, ?_⟩) h0 ?_
  rotate_left
  · intro w hSw; (try dsimp only at hSw); go_simp <;> with_reducible rfl
  try simp only [Act.put, List.setIfInBounds_toArray, List.set_cons_zero, List.set_cons_succ]
  refine oneD (i := 23) (v := ?_) rfl (by as_aux_lemma => kernel_rfl) (Or.inl ⟨by rfl, ?_⟩) h0 ?_
  rotate_left
  · intro w hSw; (try dsimp only at hSw); go_simp <;> with_reducible rfl
  try simp only [Act.put, List.setIfInBounds_toArray, List.set_cons_zero, List.set_cons_succ]
  refine oneD (i := 24) (v := ?_) rfl (by as_aux_lemma => kernel_rfl) (Or.inl ⟨by rfl, ?_⟩) h0 ?_
  rotate_left
  · intro w hSw; (try dsimp only at hSw); go_simp <;> with_reducible rfl
  try simp only [Act.put, List.setIfInBounds_toArray, List.set_cons_zero, List.set_cons_succ]
  refine oneD (i := 25) (v := ?_) rfl (by as_aux_lemma => kernel_rfl) (Or.inl ⟨by rfl, ?_⟩) h0 ?_
  rotate_left
  · intro w hSw; (try dsimp only at hSw); go_simp <;> with_reducible rfl
  try simp only [Act.put, List.setIfInBounds_toArray, List.set_cons_zero, List.set_cons_succ]
  refine oneD (i := 26) (v := ?_) rfl (by as_aux_lemma => kernel_rfl) (Or.inl ⟨by rfl, ?_⟩) h0 ?_
  rotate_left
  · intro w hSw; (try dsimp only at hSw); go_simp <;> with_reducible rfl
  try simp only [Act.put, List.setIfInBounds_toArray, List.set_cons_zero, List.set_cons_succ]
  refine oneD (i := 27) (v := ?_) rfl (by as_aux_lemma => kernel_rfl) (Or.inl ⟨by rfl, ?_⟩) h0 ?_
  rotate_left
  · intro w hSw; (try dsimp only at hSw); go_simp <;> with_reducible rfl
  try simp only [Act.put, List.setIfInBounds_toArray, List.set_cons_zero, List.set_cons_succ]
  refine oneD (i := 28) (v := ?_) rfl (by as_aux_lemma => kernel_rfl) (Or.inl ⟨by rfl, ?_⟩) h0 ?_
  rotate_left
  · intro w hSw; (try dsimp only at hSw); go_simp <;> with_reducible rfl
  try simp only [Act.put, List.setIfInBounds_toArray, List.set_cons_zero, List.set_cons_succ]
  refine oneD (i := 29) (v := ?_) rfl (by as_aux_lemma => kernel_rfl) (Or.inl ⟨by rfl, ?_⟩) h0 ?_
  rotate_left
  · intro w hSw; (try dsimp only at hSw); go_simp <;> with_reducible rfl
  try simp only [Act.put, List.setIfInBounds_toArray, List.set_cons_zero, List.set_cons_succ]
  refine oneD (i := 30) (v := ?_) rfl (by as_aux_lemma => kernel_rfl) (Or.inl ⟨by rfl, ?_⟩) h0 ?_
  rotate_left
  · intro w hSw; (try dsimp only at hSw); go_simp <;> with_reducible rfl
  try simp only [Act.put, List.setIfInBounds_toArray, List.set_cons_zero, List.set_cons_succ]
  refine oneD (i := 31) (v := ?_) rfl (by as_aux_lemma => kernel_rfl) (Or.inl ⟨by rfl, ?_⟩) h0 ?_
  rotate_left
  · intro w hSw; (try dsimp only at hSw); go_simp <;> with_reducible rfl
  try simp only [Act.put, List.setIfInBounds_toArray, List.set_cons_zero, List.set_cons_succ]
  refine oneD (i := 32) (v := ?_) rfl (by as_aux_lemma => kernel_rfl) (Or.inl ⟨by rfl, ?_⟩) h0 ?_
  rotate_left
  · intro w hSw; (try dsimp only at hSw); go_simp <;> with_reducible rfl
  try simp only [Act.put, List.setIfInBounds_toArray, List.set_cons_zero, List.set_cons_succ]
  refine oneD (i := 33) (v := ?_) rfl (by as_aux_lemma => kernel_rfl) (Or.inl ⟨by rfl, ?_⟩) h0 ?_
  rotate_left
  · intro w hSw; (try dsimp only at hSw); go_simp <;> with_reducible rfl
  try simp only [Act.put, List.setIfInBounds_toArray, List.set_cons_zero, List.set_cons_succ]
  refine takeD (i := 34) (v := ?_) rfl (by as_aux_lemma => kernel_rfl) (by as_aux_lemma => kernel_rfl) (by as_aux_lemma => kernel_rfl) (fun _ _ _ h => h) (Or.inl ⟨by rfl, ?_⟩) h0 ?_
  rotate_left
  · intro w hSw; (try dsimp only at hSw); go_simp <;> with_reducible rfl
  try simp only [Act.put, List.setIfInBounds_toArray, List.set_cons_zero, List.set_cons_succ]
  refine readyD (i := 35) rfl (by as_aux_lemma => kernel_rfl) (fun K hK => ?_)
  go_simp
  refine hK.out _ _ ?_ (fun h1 => ?_)
  · (try dsimp only)
    (first
      | with_reducible exact S1.out
      | with_reducible exact S3.out
      | with_reducible exact S4.out
      | with_reducible exact S5.out
      | with_reducible exact S6.out
      | with_reducible exact S7.out
      | with_reducible exact S8.out
      | with_reducible exact S9.out
      | with_reducible exact S10.out
      | with_reducible exact S11.out)
  clear hK K h0
  try simp only [Act.put, List.setIfInBounds_toArray, List.set_cons_zero, List.set_cons_succ]
  refine oneD (i := 36) (v := ?_) rfl (by as_aux_lemma => kernel_rfl) (Or.inl ⟨by rfl, ?_⟩) h1 ?_
  rotate_left
  · intro w hSw; (try dsimp only at hSw); go_simp <;> with_reducible rfl
  try simp only [Act.put, List.setIfInBounds_toArray, List.set_cons_zero, List.set_cons_succ]
  refine readyD (i := 37) rfl (by as_aux_lemma => kernel_rfl) (fun K hK => ?_)
  go_simp
  (go_at_call 13; have K27 : Hid (EnvF (w25.alloc (.cells #[.int .u8 7] 5)) [bF (some ⟨w25.heap.size, 0, none⟩) 1 [7], qF (some ⟨b5, o5, none⟩) 1 [x5], bF A4 1 [7]] [(w21.heap.size + 1, #[.bool true, .int .i64 0, .int .u32 6], 31), (w10.heap.size + 1, #[.bool true, .int .i64 0, .int .u32 1], 31), (w4.heap.size + 1, #[.bool false, .int .i64 0, .int .u32 0], 31), (w4.heap.size, #[.int .i64 24, .slice A4 1 c4], 24)]) := Lib.hid (K26.out.litg 5 [7] #[.int .u8 7] (by simp [bv]) 1 rfl (w25.heap.size) (by simp)); have B27 : Hid (Below w.heap.size w (w25.alloc (.cells #[.int .u8 7] 5))) := Lib.hid (B26.out.alloc B26.out.size (.cells #[.int .u8 7] 5)); clear K26 B26; have K28 : Hid (EnvF (w25.alloc (.cells #[.int .u8 7] 5)).drew [bF (some ⟨w25.heap.size, 0, none⟩) 1 [7], qF (some ⟨b5, o5, none⟩) 1 [x5], bF A4 1 [7]] [(w21.heap.size + 1, #[.bool true, .int .i64 0, .int .u32 6], 31), (w10.heap.size + 1, #[.bool true, .int .i64 0, .int .u32 1], 31), (w4.heap.size + 1, #[.bool false, .int .i64 0, .int .u32 0], 31), (w4.heap.size, #[.int .i64 24, .slice A4 1 c4], 24)]) := Lib.hid K27.out.drew; have B28 : Hid (Below w.heap.size w (w25.alloc (.cells #[.int .u8 7] 5)).drew) := Lib.hid B27.out.drew; clear K27 B27; (have hc := (c_same 24 A4 _ 1 c4 1 1 [7] _ (K28.out.bs (A := A4) (n := 1) (xs := [7]) (by repeat (first | exact List.Mem.head _ | apply List.Mem.tail))) (K28.out.bs (A := (some ⟨w25.heap.size, 0, none⟩)) (n := 1) (xs := [7]) (by repeat (first | exact List.Mem.head _ | apply List.Mem.tail)))); (refine hc.mono ?_); clear hc); rintro e w29 ⟨rfl, hb⟩; have K29 : Hid (EnvF w29 [bF (some ⟨w25.heap.size, 0, none⟩) 1 [7], qF (some ⟨b5, o5, none⟩) 1 [x5], bF A4 1 [7]] [(w21.heap.size + 1, #[.bool true, .int .i64 0, .int .u32 6], 31), (w10.heap.size + 1, #[.bool true, .int .i64 0, .int .u32 1], 31), (w4.heap.size + 1, #[.bool false, .int .i64 0, .int .u32 0], 31), (w4.heap.size, #[.int .i64 24, .slice A4 1 c4], 24)]) := Lib.hid (K28.out.on hb); have B29 : Hid (Below w.heap.size w w29) := Lib.hid (below_step B28.out hb); clear hb K28 B28; have S4 : Hid (w29.cell? ⟨w4.heap.size, 0, none⟩ = some (.int .i64 24) ∧ w29.cell? ⟨w4.heap.size, 1, none⟩ = some (.slice A4 1 c4) ∧ w29.cell? ⟨w4.heap.size + 1, 0, none⟩ = some (.bool false) ∧ w29.cell? ⟨w4.heap.size + 1, 1, none⟩ = some (.int .i64 0) ∧ w29.cell? ⟨w4.heap.size + 1, 2, none⟩ = some (.int .u32 0) ∧ w29.cell? ⟨w10.heap.size + 1, 0, none⟩ = some (.bool true) ∧ w29.cell? ⟨w10.heap.size + 1, 1, none⟩ = some (.int .i64 0) ∧ w29.cell? ⟨w10.heap.size + 1, 2, none⟩ = some (.int .u32 1) ∧ w29.cell? ⟨w21.heap.size + 1, 0, none⟩ = some (.bool true) ∧ w29.cell? ⟨w21.heap.size + 1, 1, none⟩ = some (.int .i64 0) ∧ w29.cell? ⟨w21.heap.size + 1, 2, none⟩ = some (.int .u32 6) ∧ w29.cell? ⟨b5, o5 + 1, none⟩ = some (.int .u8 4) ∧ w29.cell? ⟨b5, o5 + 4, none⟩ = some (.slice x5.A 0 x5.c)) := Lib.hid (s5_of (K29.out.row 3 rfl) (K29.out.row 2 rfl) (K29.out.row 1 rfl) (K29.out.row 0 rfl) (q5_of (K29.out.qs (A := some ⟨b5, o5, none⟩) (n := 1) (xs := [x5]) (by repeat (first | exact List.Mem.head _ | apply List.Mem.tail))) HX5.out)))
  refine hK.out _ _ ?_ (fun h2 => ?_)
  · (try dsimp only)
    (first
      | with_reducible exact S1.out
      | with_reducible exact S3.out
      | with_reducible exact S4.out
      | with_reducible exact S5.out
      | with_reducible exact S6.out
      | with_reducible exact S7.out
      | with_reducible exact S8.out
      | with_reducible exact S9.out
      | with_reducible exact S10.out
      | with_reducible exact S11.out)
  clear hK K h1
  try simp only [Act.put, List.setIfInBounds_toArray, List.set_cons_zero, List.set_cons_succ]
  refine oneD (i := 38) (v := ?_) rfl (by as_aux_lemma => kernel_rfl) (Or.inl ⟨by rfl, ?_⟩) h2 ?_
  rotate_left
  · intro w hSw; (try dsimp only at hSw); go_simp <;> with_reducible rfl
  try simp only [Act.put, List.setIfInBounds_toArray, List.set_cons_zero, List.set_cons_succ]
  refine oneD (i := 39) (v := ?_) rfl (by as_aux_lemma => kernel_rfl) (Or.inl ⟨by rfl, ?_⟩) h2 ?_
  rotate_left
  · intro w hSw; (try dsimp only at hSw); go_simp <;> with_reducible rfl
  try simp only [Act.put, List.setIfInBounds_toArray, List.set_cons_zero, List.set_cons_succ]
  refine oneD (i := 40) (v := ?_) rfl (by as_aux_lemma => kernel_rfl) (Or.inl ⟨by rfl, ?_⟩) h2 ?_
  rotate_left
  · intro w hSw; (try dsimp only at hSw); go_simp <;> with_reducible rfl
  try simp only [Act.put, List.setIfInBounds_toArray, List.set_cons_zero, List.set_cons_succ]
  refine oneD (i := 41) (v := ?_) rfl (by as_aux_lemma => kernel_rfl) (Or.inl ⟨by rfl, ?_⟩) h2 ?_
  rotate_left
  · intro w hSw; (try dsimp only at hSw); go_simp <;> with_reducible rfl
  try simp only [Act.put, List.setIfInBounds_toArray, List.set_cons_zero, List.set_cons_succ]
  refine oneD (i := 42) (v := ?_) rfl (by as_aux_lemma => kernel_rfl) (Or.inl ⟨by rfl, ?_⟩) h2 ?_
  rotate_left
  · intro w hSw; (try dsimp only at hSw); go_simp <;> with_reducible rfl
  try simp only [Act.put, List.setIfInBounds_toArray, List.set_cons_zero, List.set_cons_succ]
  refine oneD (i := 43) (v := ?_) rfl (by as_aux_lemma => kernel_rfl) (Or.inl ⟨by rfl, ?_⟩) h2 ?_
  rotate_left
  · intro w hSw; (try dsimp only at hSw); go_simp <;> with_reducible rfl
  try simp only [Act.put, List.setIfInBounds_toArray, List.set_cons_zero, List.set_cons_succ]
  refine oneD (i := 44) (v := ?_) rfl (by as_aux_lemma => kernel_rfl) (Or.inl ⟨by rfl, ?_⟩) h2 ?_
  rotate_left
  · intro w hSw; (try dsimp only at hSw); go_simp <;> with_reducible rfl
  try simp only [Act.put, List.setIfInBounds_toArray, List.set_cons_zero, List.set_cons_succ]
  refine takeD (i := 45) (v := ?_) rfl (by as_aux_lemma => kernel_rfl) (by as_aux_lemma => kernel_rfl) (by as_aux_lemma => kernel_rfl) (fun _ _ _ h => h) (Or.inl ⟨by rfl, ?_⟩) h2 ?_
  rotate_left
  · intro w hSw; (try dsimp only at hSw); go_simp <;> with_reducible rfl
  try simp only [Act.put, List.setIfInBounds_toArray, List.set_cons_zero, List.set_cons_succ]
  refine oneD (i := 46) (v := ?_) rfl (by as_aux_lemma => kernel_rfl) (Or.inl ⟨by rfl, ?_⟩) h2 ?_
  rotate_left
  · intro w hSw; (try dsimp only at hSw); go_simp <;> with_reducible rfl
  try simp only [Act.put, List.setIfInBounds_toArray, List.set_cons_zero, List.set_cons_succ]
  refine oneD (i := 47) (v := ?_) rfl (by as_aux_lemma => kernel_rfl) (Or.inl ⟨by rfl, ?_⟩) h2 ?_
  rotate_left
  · intro w hSw; (try dsimp only at hSw); go_simp <;> with_reducible rfl
  try simp only [Act.put, List.setIfInBounds_toArray, List.set_cons_zero, List.set_cons_succ]
  refine oneD (i := 48) (v := ?_) rfl (by as_aux_lemma => kernel_rfl) (Or.inl ⟨by rfl, ?_⟩) h2 ?_
  rotate_left
  · intro w hSw; (try dsimp only at hSw); go_simp <;> with_reducible rfl
  try simp only [Act.put, List.setIfInBounds_toArray, List.set_cons_zero, List.set_cons_succ]
  refine oneD (i := 49) (v := ?_) rfl (by as_aux_lemma => kernel_rfl) (Or.inl ⟨by rfl, ?_⟩) h2 ?_
  rotate_left
  · intro w hSw; (try dsimp only at hSw); go_simp <;> with_reducible rfl
  try simp only [Act.put, List.setIfInBounds_toArray, List.set_cons_zero, List.set_cons_succ]
  refine oneD (i := 50) (v := ?_) rfl (by as_aux_lemma => kernel_rfl) (Or.inl ⟨by rfl, ?_⟩) h2 ?_
  rotate_left
  · intro w hSw; (try dsimp only at hSw); go_simp <;> with_reducible rfl
  try simp only [Act.put, List.setIfInBounds_toArray, List.set_cons_zero, List.set_cons_succ]
  refine oneD (i := 51) (v := ?_) rfl (by as_aux_lemma => kernel_rfl) (Or.inl ⟨by rfl, ?_⟩) h2 ?_
  rotate_left
  · intro w hSw; (try dsimp only at hSw); go_simp <;> with_reducible rfl
  try simp only [Act.put, List.setIfInBounds_toArray, List.set_cons_zero, List.set_cons_succ]
  refine oneD (i := 52) (v := ?_) rfl (by as_aux_lemma => kernel_rfl) (Or.inl ⟨by rfl, ?_⟩) h2 ?_
  rotate_left
  · intro w hSw; (try dsimp only at hSw); go_simp <;> with_reducible rfl
  try simp only [Act.put, List.setIfInBounds_toArray, List.set_cons_zero, List.set_cons_succ]
  refine oneD (i := 53) (v := ?_) rfl (by as_aux_lemma => kernel_rfl) (Or.inl ⟨by rfl, ?_⟩) h2 ?_
  rotate_left
  · intro w hSw; (try dsimp only at hSw); go_simp <;> with_reducible rfl
  try simp only [Act.put, List.setIfInBounds_toArray, List.set_cons_zero, List.set_cons_succ]
  refine oneD (i := 54) (v := ?_) rfl (by as_aux_lemma => kernel_rfl) (Or.inl ⟨by rfl, ?_⟩) h2 ?_
  rotate_left
  · intro w hSw; (try dsimp only at hSw); go_simp <;> with_reducible rfl
  try simp only [Act.put, List.setIfInBounds_toArray, List.set_cons_zero, List.set_cons_succ]
  refine oneD (i := 55) (v := ?_) rfl (by as_aux_lemma => kernel_rfl) (Or.inl ⟨by rfl, ?_⟩) h2 ?_
  rotate_left
  · intro w hSw; (try dsimp only at hSw); go_simp <;> with_reducible rfl
  try simp only [Act.put, List.setIfInBounds_toArray, List.set_cons_zero, List.set_cons_succ]
  refine oneD (i := 56) (v := ?_) rfl (by as_aux_lemma => kernel_rfl) (Or.inl ⟨by rfl, ?_⟩) h2 ?_
  rotate_left
  · intro w hSw; (try dsimp only at hSw); go_simp <;> with_reducible rfl
  try simp only [Act.put, List.setIfInBounds_toArray, List.set_cons_zero, List.set_cons_succ]
  refine oneD (i := 57) (v := ?_) rfl (by as_aux_lemma => kernel_rfl) (Or.inl ⟨by rfl, ?_⟩) h2 ?_
  rotate_left
  · intro w hSw; (try dsimp only at hSw); go_simp <;> with_reducible rfl
  try simp only [Act.put, List.setIfInBounds_toArray, List.set_cons_zero, List.set_cons_succ]
  refine takeD (i := 58) (v := ?_) rfl (by as_aux_lemma => kernel_rfl) (by as_aux_lemma => kernel_rfl) (by as_aux_lemma => kernel_rfl) (fun _ _ _ h => h) (Or.inl ⟨by rfl, ?_⟩) h2 ?_
  rotate_left
  · intro w hSw; (try dsimp only at hSw); go_simp <;> with_reducible rfl
  try simp only [Act.put, List.setIfInBounds_toArray, List.set_cons_zero, List.set_cons_succ]
  refine oneD (i := 59) (v := ?_) rfl (by as_aux_lemma => kernel_rfl) (Or.inl ⟨by rfl, ?_⟩) h2 ?_
  rotate_left
  · intro w hSw; (try dsimp only at hSw); go_simp <;> with_reducible rfl
  try simp only [Act.put, List.setIfInBounds_toArray, List.set_cons_zero, List.set_cons_succ]
  refine oneD (i := 60) (v := ?_) rfl (by as_aux_lemma => kernel_rfl) (Or.inl ⟨by rfl, ?_⟩) h2 ?_
  rotate_left
  · intro w hSw; (try dsimp only at hSw); go_simp <;> with_reducible rfl
  try simp only [Act.put, List.setIfInBounds_toArray, List.set_cons_zero, List.set_cons_succ]
  refine oneD (i := 61) (v := ?_) rfl (by as_aux_lemma => kernel_rfl) (Or.inl ⟨by rfl, ?_⟩) h2 ?_
  rotate_left
  · intro w hSw; (try dsimp only at hSw); go_simp <;> with_reducible rfl
  try simp only [Act.put, List.setIfInBounds_toArray, List.set_cons_zero, List.set_cons_succ]
  refine oneD (i := 62) (v := ?_) rfl (by as_aux_lemma => kernel_rfl) (Or.inl ⟨by rfl, ?_⟩) h2 ?_
  rotate_left
  · intro w hSw; (try dsimp only at hSw); go_simp <;> with_reducible rfl
  try simp only [Act.put, List.setIfInBounds_toArray, List.set_cons_zero, List.set_cons_succ]
  refine oneD (i := 63) (v := ?_) rfl (by as_aux_lemma => kernel_rfl) (Or.inl ⟨by rfl, ?_⟩) h2 ?_
  rotate_left
  · intro w hSw; (try dsimp only at hSw); go_simp <;> with_reducible rfl
  try simp only [Act.put, List.setIfInBounds_toArray, List.set_cons_zero, List.set_cons_succ]
  refine oneD (i := 64) (v := ?_) rfl (by as_aux_lemma => kernel_rfl) (Or.inl ⟨by rfl, ?_⟩) h2 ?_
  rotate_left
  · intro w hSw; (try dsimp only at hSw); go_simp <;> with_reducible rfl
  try simp only [Act.put, List.setIfInBounds_toArray, List.set_cons_zero, List.set_cons_succ]
  refine oneD (i := 65) (v := ?_) rfl (by as_aux_lemma => kernel_rfl) (Or.inl ⟨by rfl, ?_⟩) h2 ?_
  rotate_left
  · intro w hSw; (try dsimp only at hSw); go_simp <;> with_reducible rfl
  try simp only [Act.put, List.setIfInBounds_toArray, List.set_cons_zero, List.set_cons_succ]
  refine oneD (i := 66) (v := ?_) rfl (by as_aux_lemma => kernel_rfl) (Or.inl ⟨by rfl, ?_⟩) h2 ?_
  rotate_left
  · intro w hSw; (try dsimp only at hSw); go_simp <;> with_reducible rfl
  try simp only [Act.put, List.setIfInBounds_toArray, List.set_cons_zero, List.set_cons_succ]
  refine oneD (i := 67) (v := ?_) rfl (by as_aux_lemma => kernel_rfl) (Or.inl ⟨by rfl, ?_⟩) h2 ?_
  rotate_left
  · intro w hSw; (try dsimp only at hSw); go_simp <;> with_reducible rfl
  try simp only [Act.put, List.setIfInBounds_toArray, List.set_cons_zero, List.set_cons_succ]
  refine readyD (i := 68) rfl (by as_aux_lemma => kernel_rfl) (fun K hK => ?_)
  go_simp
  (go_at_call 14; (have hc := (c_begun' 24 true rfl A4 1 c4 w29); (refine hc.mono ?_); clear hc); rintro e w30 ⟨rfl, hb⟩; have K30 : Hid (EnvF w30 [bF (some ⟨w25.heap.size, 0, none⟩) 1 [7], qF (some ⟨b5, o5, none⟩) 1 [x5], bF A4 1 [7]] [(w21.heap.size + 1, #[.bool true, .int .i64 0, .int .u32 6], 31), (w10.heap.size + 1, #[.bool true, .int .i64 0, .int .u32 1], 31), (w4.heap.size + 1, #[.bool false, .int .i64 0, .int .u32 0], 31), (w4.heap.size, #[.int .i64 24, .slice A4 1 c4], 24)]) := Lib.hid (K29.out.on hb); have B30 : Hid (Below w.heap.size w w30) := Lib.hid (below_step B29.out hb); clear hb K29 B29; have S5 : Hid (w30.cell? ⟨w4.heap.size, 0, none⟩ = some (.int .i64 24) ∧ w30.cell? ⟨w4.heap.size, 1, none⟩ = some (.slice A4 1 c4) ∧ w30.cell? ⟨w4.heap.size + 1, 0, none⟩ = some (.bool false) ∧ w30.cell? ⟨w4.heap.size + 1, 1, none⟩ = some (.int .i64 0) ∧ w30.cell? ⟨w4.heap.size + 1, 2, none⟩ = some (.int .u32 0) ∧ w30.cell? ⟨w10.heap.size + 1, 0, none⟩ = some (.bool true) ∧ w30.cell? ⟨w10.heap.size + 1, 1, none⟩ = some (.int .i64 0) ∧ w30.cell? ⟨w10.heap.size + 1, 2, none⟩ = some (.int .u32 1) ∧ w30.cell? ⟨w21.heap.size + 1, 0, none⟩ = some (.bool true) ∧ w30.cell? ⟨w21.heap.size + 1, 1, none⟩ = some (.int .i64 0) ∧ w30.cell? ⟨w21.heap.size + 1, 2, none⟩ = some (.int .u32 6) ∧ w30.cell? ⟨b5, o5 + 1, none⟩ = some (.int .u8 4) ∧ w30.cell? ⟨b5, o5 + 4, none⟩ = some (.slice x5.A 0 x5.c)) := Lib.hid (s5_of (K30.out.row 3 rfl) (K30.out.row 2 rfl) (K30.out.row 1 rfl) (K30.out.row 0 rfl) (q5_of (K30.out.qs (A := some ⟨b5, o5, none⟩) (n := 1) (xs := [x5]) (by repeat (first | exact List.Mem.head _ | apply List.Mem.tail))) HX5.out)))
  refine hK.out _ _ ?_ (fun h3 => ?_)
  · (try dsimp only)
    (first
      | with_reducible exact S1.out
      | with_reducible exact S3.out
      | with_reducible exact S4.out
      | with_reducible exact S5.out
      | with_reducible exact S6.out
      | with_reducible exact S7.out
      | with_reducible exact S8.out
      | with_reducible exact S9.out
      | with_reducible exact S10.out
      | with_reducible exact S11.out)
  clear hK K h2
  try simp only [Act.put, List.setIfInBounds_toArray, List.set_cons_zero, List.set_cons_succ]
  refine oneD (i := 69) (v := ?_) rfl (by as_aux_lemma => kernel_rfl) (Or.inl ⟨by rfl, ?_⟩) h3 ?_
  rotate_left
  · intro w hSw; (try dsimp only at hSw); go_simp <;> with_reducible rfl
  try simp only [Act.put, List.setIfInBounds_toArray, List.set_cons_zero, List.set_cons_succ]
  refine oneD (i := 70) (v := ?_) rfl (by as_aux_lemma => kernel_rfl) (Or.inl ⟨by rfl, ?_⟩) h3 ?_
  rotate_left
  · intro w hSw; (try dsimp only at hSw); go_simp <;> with_reducible rfl
  try simp only [Act.put, List.setIfInBounds_toArray, List.set_cons_zero, List.set_cons_succ]
  refine oneD (i := 71) (v := ?_) rfl (by as_aux_lemma => kernel_rfl) (Or.inl ⟨by rfl, ?_⟩) h3 ?_
  rotate_left
  · intro w hSw; (try dsimp only at hSw); go_simp <;> with_reducible rfl
  try simp only [Act.put, List.setIfInBounds_toArray, List.set_cons_zero, List.set_cons_succ]
  refine readyD (i := 72) rfl (by as_aux_lemma => kernel_rfl) (fun K hK => ?_)
  go_simp
  (go_at_call 14; (have hc := (c_begun' 23 false rfl none 0 0 w30); (refine hc.mono ?_); clear hc); rintro e w31 ⟨rfl, hb⟩; have K31 : Hid (EnvF w31 [bF (some ⟨w25.heap.size, 0, none⟩) 1 [7], qF (some ⟨b5, o5, none⟩) 1 [x5], bF A4 1 [7]] [(w21.heap.size + 1, #[.bool true, .int .i64 0, .int .u32 6], 31), (w10.heap.size + 1, #[.bool true, .int .i64 0, .int .u32 1], 31), (w4.heap.size + 1, #[.bool false, .int .i64 0, .int .u32 0], 31), (w4.heap.size, #[.int .i64 24, .slice A4 1 c4], 24)]) := Lib.hid (K30.out.on hb); have B31 : Hid (Below w.heap.size w w31) := Lib.hid (below_step B30.out hb); clear hb K30 B30; have S6 : Hid (w31.cell? ⟨w4.heap.size, 0, none⟩ = some (.int .i64 24) ∧ w31.cell? ⟨w4.heap.size, 1, none⟩ = some (.slice A4 1 c4) ∧ w31.cell? ⟨w4.heap.size + 1, 0, none⟩ = some (.bool false) ∧ w31.cell? ⟨w4.heap.size + 1, 1, none⟩ = some (.int .i64 0) ∧ w31.cell? ⟨w4.heap.size + 1, 2, none⟩ = some (.int .u32 0) ∧ w31.cell? ⟨w10.heap.size + 1, 0, none⟩ = some (.bool true) ∧ w31.cell? ⟨w10.heap.size + 1, 1, none⟩ = some (.int .i64 0) ∧ w31.cell? ⟨w10.heap.size + 1, 2, none⟩ = some (.int .u32 1) ∧ w31.cell? ⟨w21.heap.size + 1, 0, none⟩ = some (.bool true) ∧ w31.cell? ⟨w21.heap.size + 1, 1, none⟩ = some (.int .i64 0) ∧ w31.cell? ⟨w21.heap.size + 1, 2, none⟩ = some (.int .u32 6) ∧ w31.cell? ⟨b5, o5 + 1, none⟩ = some (.int .u8 4) ∧ w31.cell? ⟨b5, o5 + 4, none⟩ = some (.slice x5.A 0 x5.c)) := Lib.hid (s5_of (K31.out.row 3 rfl) (K31.out.row 2 rfl) (K31.out.row 1 rfl) (K31.out.row 0 rfl) (q5_of (K31.out.qs (A := some ⟨b5, o5, none⟩) (n := 1) (xs := [x5]) (by repeat (first | exact List.Mem.head _ | apply List.Mem.tail))) HX5.out)))
  refine hK.out _ _ ?_ (fun h4 => ?_)
  · (try dsimp only)
    (first
      | with_reducible exact S1.out
      | with_reducible exact S3.out
      | with_reducible exact S4.out
      | with_reducible exact S5.out
      | with_reducible exact S6.out
      | with_reducible exact S7.out
      | with_reducible exact S8.out
      | with_reducible exact S9.out
      | with_reducible exact S10.out
      | with_reducible exact S11.out)
  clear hK K h3
  try simp only [Act.put, List.setIfInBounds_toArray, List.set_cons_zero, List.set_cons_succ]
  refine oneD (i := 73) (v := ?_) rfl (by as_aux_lemma => kernel_rfl) (Or.inl ⟨by rfl, ?_⟩) h4 ?_
  rotate_left
  · intro w hSw; (try dsimp only at hSw); go_simp <;> with_reducible rfl
  try simp only [Act.put, List.setIfInBounds_toArray, List.set_cons_zero, List.set_cons_succ]
  refine oneD (i := 74) (v := ?_) rfl (by as_aux_lemma => kernel_rfl) (Or.inl ⟨by rfl, ?_⟩) h4 ?_
  rotate_left
  · intro w hSw; (try dsimp only at hSw); go_simp <;> with_reducible rfl
  try simp only [Act.put, List.setIfInBounds_toArray, List.set_cons_zero, List.set_cons_succ]
  refine oneD (i := 75) (v := ?_) rfl (by as_aux_lemma => kernel_rfl) (Or.inl ⟨by rfl, ?_⟩) h4 ?_
  rotate_left
  · intro w hSw; (try dsimp only at hSw); go_simp <;> with_reducible rfl
  try simp only [Act.put, List.setIfInBounds_toArray, List.set_cons_zero, List.set_cons_succ]
  refine oneD (i := 76) (v := ?_) rfl (by as_aux_lemma => kernel_rfl) (Or.inl ⟨by rfl, ?_⟩) h4 ?_
  rotate_left
  · intro w hSw; (try dsimp only at hSw); go_simp <;> with_reducible rfl
  try simp only [Act.put, List.setIfInBounds_toArray, List.set_cons_zero, List.set_cons_succ]
  refine readyD (i := 77) rfl (by as_aux_lemma => kernel_rfl) (fun K hK => ?_)
  go_simp
  (go_at_call 15; (have hc := (s_right A4 c4 _ (K31.out.bs (A := A4) (n := 1) (xs := [7]) (by repeat (first | exact List.Mem.head _ | apply List.Mem.tail))) HC4.out.1); (refine hc.mono ?_); clear hc); rintro e w32 ⟨rfl, hb⟩; have K32 : Hid (EnvF w32 [bF (some ⟨w25.heap.size, 0, none⟩) 1 [7], qF (some ⟨b5, o5, none⟩) 1 [x5], bF A4 1 [7]] [(w21.heap.size + 1, #[.bool true, .int .i64 0, .int .u32 6], 31), (w10.heap.size + 1, #[.bool true, .int .i64 0, .int .u32 1], 31), (w4.heap.size + 1, #[.bool false, .int .i64 0, .int .u32 0], 31), (w4.heap.size, #[.int .i64 24, .slice A4 1 c4], 24)]) := Lib.hid (K31.out.on hb); have B32 : Hid (Below w.heap.size w w32) := Lib.hid (below_step B31.out hb); clear hb K31 B31; have S7 : Hid (w32.cell? ⟨w4.heap.size, 0, none⟩ = some (.int .i64 24) ∧ w32.cell? ⟨w4.heap.size, 1, none⟩ = some (.slice A4 1 c4) ∧ w32.cell? ⟨w4.heap.size + 1, 0, none⟩ = some (.bool false) ∧ w32.cell? ⟨w4.heap.size + 1, 1, none⟩ = some (.int .i64 0) ∧ w32.cell? ⟨w4.heap.size + 1, 2, none⟩ = some (.int .u32 0) ∧ w32.cell? ⟨w10.heap.size + 1, 0, none⟩ = some (.bool true) ∧ w32.cell? ⟨w10.heap.size + 1, 1, none⟩ = some (.int .i64 0) ∧ w32.cell? ⟨w10.heap.size + 1, 2, none⟩ = some (.int .u32 1) ∧ w32.cell? ⟨w21.heap.size + 1, 0, none⟩ = some (.bool true) ∧ w32.cell? ⟨w21.heap.size + 1, 1, none⟩ = some (.int .i64 0) ∧ w32.cell? ⟨w21.heap.size + 1, 2, none⟩ = some (.int .u32 6) ∧ w32.cell? ⟨b5, o5 + 1, none⟩ = some (.int .u8 4) ∧ w32.cell? ⟨b5, o5 + 4, none⟩ = some (.slice x5.A 0 x5.c)) := Lib.hid (s5_of (K32.out.row 3 rfl) (K32.out.row 2 rfl) (K32.out.row 1 rfl) (K32.out.row 0 rfl) (q5_of (K32.out.qs (A := some ⟨b5, o5, none⟩) (n := 1) (xs := [x5]) (by repeat (first | exact List.Mem.head _ | apply List.Mem.tail))) HX5.out)); have S8 : Hid ((w32.alloc (.cells #[.int .u8 1] 5)).cell? ⟨w4.heap.size, 0, none⟩ = some (.int .i64 24) ∧ (w32.alloc (.cells #[.int .u8 1] 5)).cell? ⟨w4.heap.size, 1, none⟩ = some (.slice A4 1 c4) ∧ (w32.alloc (.cells #[.int .u8 1] 5)).cell? ⟨w4.heap.size + 1, 0, none⟩ = some (.bool false) ∧ (w32.alloc (.cells #[.int .u8 1] 5)).cell? ⟨w4.heap.size + 1, 1, none⟩ = some (.int .i64 0) ∧ (w32.alloc (.cells #[.int .u8 1] 5)).cell? ⟨w4.heap.size + 1, 2, none⟩ = some (.int .u32 0) ∧ (w32.alloc (.cells #[.int .u8 1] 5)).cell? ⟨w10.heap.size + 1, 0, none⟩ = some (.bool true) ∧ (w32.alloc (.cells #[.int .u8 1] 5)).cell? ⟨w10.heap.size + 1, 1, none⟩ = some (.int .i64 0) ∧ (w32.alloc (.cells #[.int .u8 1] 5)).cell? ⟨w10.heap.size + 1, 2, none⟩ = some (.int .u32 1) ∧ (w32.alloc (.cells #[.int .u8 1] 5)).cell? ⟨w21.heap.size + 1, 0, none⟩ = some (.bool true) ∧ (w32.alloc (.cells #[.int .u8 1] 5)).cell? ⟨w21.heap.size + 1, 1, none⟩ = some (.int .i64 0) ∧ (w32.alloc (.cells #[.int .u8 1] 5)).cell? ⟨w21.heap.size + 1, 2, none⟩ = some (.int .u32 6) ∧ (w32.alloc (.cells #[.int .u8 1] 5)).cell? ⟨b5, o5 + 1, none⟩ = some (.int .u8 4) ∧ (w32.alloc (.cells #[.int .u8 1] 5)).cell? ⟨b5, o5 + 4, none⟩ = some (.slice x5.A 0 x5.c)) := Lib.hid (s5_of ((K32.out.al (.cells #[.int .u8 1] 5)).row 3 rfl) ((K32.out.al (.cells #[.int .u8 1] 5)).row 2 rfl) ((K32.out.al (.cells #[.int .u8 1] 5)).row 1 rfl) ((K32.out.al (.cells #[.int .u8 1] 5)).row 0 rfl) (q5_of ((K32.out.al (.cells #[.int .u8 1] 5)).qs (A := some ⟨b5, o5, none⟩) (n := 1) (xs := [x5]) (by repeat (first | exact List.Mem.head _ | apply List.Mem.tail))) HX5.out)))
  refine hK.out _ _ ?_ (fun h5 => ?_)
  · (try dsimp only)
    (first
      | with_reducible exact S1.out
      | with_reducible exact S3.out
      | with_reducible exact S4.out
      | with_reducible exact S5.out
      | with_reducible exact S6.out
      | with_reducible exact S7.out
      | with_reducible exact S8.out
      | with_reducible exact S9.out
      | with_reducible exact S10.out
      | with_reducible exact S11.out)
  clear hK K h4
  try simp only [Act.put, List.setIfInBounds_toArray, List.set_cons_zero, List.set_cons_succ]
  refine oneD (i := 78) (v := ?_) rfl (by as_aux_lemma => kernel_rfl) (Or.inl ⟨by rfl, ?_⟩) h5 ?_
  rotate_left
  · intro w hSw; (try dsimp only at hSw); go_simp <;> with_reducible rfl
  try simp only [Act.put, List.setIfInBounds_toArray, List.set_cons_zero, List.set_cons_succ]
  refine oneD (i := 79) (v := ?_) rfl (by as_aux_lemma => kernel_rfl) (Or.inl ⟨by rfl, ?_⟩) h5 ?_
  rotate_left
  · intro w hSw; (try dsimp only at hSw); go_simp <;> with_reducible rfl
  try simp only [Act.put, List.setIfInBounds_toArray, List.set_cons_zero, List.set_cons_succ]
  refine readyD (i := 80) rfl (by as_aux_lemma => kernel_rfl) (fun K hK => ?_)
  go_simp
  refine hK.out _ _ ?_ (fun h6 => ?_)
  · (try dsimp only)
    (first
      | with_reducible exact S1.out
      | with_reducible exact S3.out
      | with_reducible exact S4.out
      | with_reducible exact S5.out
      | with_reducible exact S6.out
      | with_reducible exact S7.out
      | with_reducible exact S8.out
      | with_reducible exact S9.out
      | with_reducible exact S10.out
      | with_reducible exact S11.out)
  clear hK K h5
  try simp only [Act.put, List.setIfInBounds_toArray, List.set_cons_zero, List.set_cons_succ]
  refine oneD (i := 81) (v := ?_) rfl (by as_aux_lemma => kernel_rfl) (Or.inl ⟨by rfl, ?_⟩) h6 ?_
  rotate_left
  · intro w hSw; (try dsimp only at hSw); go_simp <;> with_reducible rfl
  try simp only [Act.put, List.setIfInBounds_toArray, List.set_cons_zero, List.set_cons_succ]
  refine readyD (i := 82) rfl (by as_aux_lemma => kernel_rfl) (fun K hK => ?_)
  go_simp
  (go_at_call 15; have K33 : Hid (EnvF (w32.alloc (.cells #[.int .u8 1] 5)) [bF (some ⟨w32.heap.size, 0, none⟩) 1 [1], bF (some ⟨w25.heap.size, 0, none⟩) 1 [7], qF (some ⟨b5, o5, none⟩) 1 [x5], bF A4 1 [7]] [(w21.heap.size + 1, #[.bool true, .int .i64 0, .int .u32 6], 31), (w10.heap.size + 1, #[.bool true, .int .i64 0, .int .u32 1], 31), (w4.heap.size + 1, #[.bool false, .int .i64 0, .int .u32 0], 31), (w4.heap.size, #[.int .i64 24, .slice A4 1 c4], 24)]) := Lib.hid (K32.out.litg 5 [1] #[.int .u8 1] (by simp [bv]) 1 rfl (w32.heap.size) (by simp)); have B33 : Hid (Below w.heap.size w (w32.alloc (.cells #[.int .u8 1] 5))) := Lib.hid (B32.out.alloc B32.out.size (.cells #[.int .u8 1] 5)); clear K32 B32; (have hc := (s_rightN _ 1 _ (K33.out.bs (A := (some ⟨w32.heap.size, 0, none⟩)) (n := 1) (xs := [1]) (by repeat (first | exact List.Mem.head _ | apply List.Mem.tail))) (Nat.le_refl _)); (refine hc.mono ?_); clear hc); rintro e w34 ⟨rfl, hb⟩; have K34 : Hid (EnvF w34 [bF (some ⟨w32.heap.size, 0, none⟩) 1 [1], bF (some ⟨w25.heap.size, 0, none⟩) 1 [7], qF (some ⟨b5, o5, none⟩) 1 [x5], bF A4 1 [7]] [(w21.heap.size + 1, #[.bool true, .int .i64 0, .int .u32 6], 31), (w10.heap.size + 1, #[.bool true, .int .i64 0, .int .u32 1], 31), (w4.heap.size + 1, #[.bool false, .int .i64 0, .int .u32 0], 31), (w4.heap.size, #[.int .i64 24, .slice A4 1 c4], 24)]) := Lib.hid (K33.out.on hb); have B34 : Hid (Below w.heap.size w w34) := Lib.hid (below_step B33.out hb); clear hb K33 B33; have S9 : Hid (w34.cell? ⟨w4.heap.size, 0, none⟩ = some (.int .i64 24) ∧ w34.cell? ⟨w4.heap.size, 1, none⟩ = some (.slice A4 1 c4) ∧ w34.cell? ⟨w4.heap.size + 1, 0, none⟩ = some (.bool false) ∧ w34.cell? ⟨w4.heap.size + 1, 1, none⟩ = some (.int .i64 0) ∧ w34.cell? ⟨w4.heap.size + 1, 2, none⟩ = some (.int .u32 0) ∧ w34.cell? ⟨w10.heap.size + 1, 0, none⟩ = some (.bool true) ∧ w34.cell? ⟨w10.heap.size + 1, 1, none⟩ = some (.int .i64 0) ∧ w34.cell? ⟨w10.heap.size + 1, 2, none⟩ = some (.int .u32 1) ∧ w34.cell? ⟨w21.heap.size + 1, 0, none⟩ = some (.bool true) ∧ w34.cell? ⟨w21.heap.size + 1, 1, none⟩ = some (.int .i64 0) ∧ w34.cell? ⟨w21.heap.size + 1, 2, none⟩ = some (.int .u32 6) ∧ w34.cell? ⟨b5, o5 + 1, none⟩ = some (.int .u8 4) ∧ w34.cell? ⟨b5, o5 + 4, none⟩ = some (.slice x5.A 0 x5.c)) := Lib.hid (s5_of (K34.out.row 3 rfl) (K34.out.row 2 rfl) (K34.out.row 1 rfl) (K34.out.row 0 rfl) (q5_of (K34.out.qs (A := some ⟨b5, o5, none⟩) (n := 1) (xs := [x5]) (by repeat (first | exact List.Mem.head _ | apply List.Mem.tail))) HX5.out)))
  refine hK.out _ _ ?_ (fun h7 => ?_)
  · (try dsimp only)
    (first
      | with_reducible exact S1.out
      | with_reducible exact S3.out
      | with_reducible exact S4.out
      | with_reducible exact S5.out
      | with_reducible exact S6.out
      | with_reducible exact S7.out
      | with_reducible exact S8.out
      | with_reducible exact S9.out
      | with_reducible exact S10.out
      | with_reducible exact S11.out)
  clear hK K h6
  try simp only [Act.put, List.setIfInBounds_toArray, List.set_cons_zero, List.set_cons_succ]
  refine oneD (i := 83) (v := ?_) rfl (by as_aux_lemma => kernel_rfl) (Or.inl ⟨by rfl, ?_⟩) h7 ?_
  rotate_left
  · intro w hSw; (try dsimp only at hSw); go_simp <;> with_reducible rfl
  try simp only [Act.put, List.setIfInBounds_toArray, List.set_cons_zero, List.set_cons_succ]
  refine oneD (i := 84) (v := ?_) rfl (by as_aux_lemma => kernel_rfl) (Or.inl ⟨by rfl, ?_⟩) h7 ?_
  rotate_left
  · intro w hSw; (try dsimp only at hSw); go_simp <;> with_reducible rfl
  try simp only [Act.put, List.setIfInBounds_toArray, List.set_cons_zero, List.set_cons_succ]
  refine oneD (i := 85) (v := ?_) rfl (by as_aux_lemma => kernel_rfl) (Or.inl ⟨by rfl, ?_⟩) h7 ?_
  rotate_left
  · intro w hSw; (try dsimp only at hSw); go_simp <;> with_reducible rfl
  try simp only [Act.put, List.setIfInBounds_toArray, List.set_cons_zero, List.set_cons_succ]
  refine takeD (i := 86) (v := ?_) rfl (by as_aux_lemma => kernel_rfl) (by as_aux_lemma => kernel_rfl) (by as_aux_lemma => kernel_rfl) (fun _ _ _ h => h) (Or.inl ⟨by rfl, ?_⟩) h7 ?_
  rotate_left
  · intro w hSw; (try dsimp only at hSw); go_simp <;> with_reducible rfl
  try simp only [Act.put, List.setIfInBounds_toArray, List.set_cons_zero, List.set_cons_succ]
  refine takeD (i := 88) (v := ?_) rfl (by as_aux_lemma => kernel_rfl) (by as_aux_lemma => kernel_rfl) (by as_aux_lemma => kernel_rfl) (fun _ _ _ h => h) (Or.inl ⟨by rfl, ?_⟩) h7 ?_
  rotate_left
  · intro w hSw; (try dsimp only at hSw); go_simp <;> with_reducible rfl
  try simp only [Act.put, List.setIfInBounds_toArray, List.set_cons_zero, List.set_cons_succ]
  refine readyD (i := 87) rfl (by as_aux_lemma => kernel_rfl) (fun K hK => ?_)
  go_simp
  (go_at_call 16; (have hc := (c_Own 24 A4 1 c4 [7] _ (K34.out.bs (A := A4) (n := 1) (xs := [7]) (by repeat (first | exact List.Mem.head _ | apply List.Mem.tail))) HC4.out.2 (by omega)); (refine hc.mono ?_); clear hc); rintro e w35 ⟨A11, c11, rfl, hh, hb⟩; have K35 : Hid (EnvF w35 [bF A11 1 [7], bF (some ⟨w32.heap.size, 0, none⟩) 1 [1], bF (some ⟨w25.heap.size, 0, none⟩) 1 [7], qF (some ⟨b5, o5, none⟩) 1 [x5], bF A4 1 [7]] [(w21.heap.size + 1, #[.bool true, .int .i64 0, .int .u32 6], 31), (w10.heap.size + 1, #[.bool true, .int .i64 0, .int .u32 1], 31), (w4.heap.size + 1, #[.bool false, .int .i64 0, .int .u32 0], 31), (w4.heap.size, #[.int .i64 24, .slice A4 1 c4], 24)]) := Lib.hid (K34.out.handS hb hh); have B35 : Hid (Below w.heap.size w w35) := Lib.hid (below_step B34.out hb); clear hb hh K34 B34; have S10 : Hid (w35.cell? ⟨w4.heap.size, 0, none⟩ = some (.int .i64 24) ∧ w35.cell? ⟨w4.heap.size, 1, none⟩ = some (.slice A4 1 c4) ∧ w35.cell? ⟨w4.heap.size + 1, 0, none⟩ = some (.bool false) ∧ w35.cell? ⟨w4.heap.size + 1, 1, none⟩ = some (.int .i64 0) ∧ w35.cell? ⟨w4.heap.size + 1, 2, none⟩ = some (.int .u32 0) ∧ w35.cell? ⟨w10.heap.size + 1, 0, none⟩ = some (.bool true) ∧ w35.cell? ⟨w10.heap.size + 1, 1, none⟩ = some (.int .i64 0) ∧ w35.cell? ⟨w10.heap.size + 1, 2, none⟩ = some (.int .u32 1) ∧ w35.cell? ⟨w21.heap.size + 1, 0, none⟩ = some (.bool true) ∧ w35.cell? ⟨w21.heap.size + 1, 1, none⟩ = some (.int .i64 0) ∧ w35.cell? ⟨w21.heap.size + 1, 2, none⟩ = some (.int .u32 6) ∧ w35.cell? ⟨b5, o5 + 1, none⟩ = some (.int .u8 4) ∧ w35.cell? ⟨b5, o5 + 4, none⟩ = some (.slice x5.A 0 x5.c)) := Lib.hid (s5_of (K35.out.row 3 rfl) (K35.out.row 2 rfl) (K35.out.row 1 rfl) (K35.out.row 0 rfl) (q5_of (K35.out.qs (A := some ⟨b5, o5, none⟩) (n := 1) (xs := [x5]) (by repeat (first | exact List.Mem.head _ | apply List.Mem.tail))) HX5.out)))
  refine hK.out _ _ ?_ (fun h8 => ?_)
  · (try dsimp only)
    (first
      | with_reducible exact S1.out
      | with_reducible exact S3.out
      | with_reducible exact S4.out
      | with_reducible exact S5.out
      | with_reducible exact S6.out
      | with_reducible exact S7.out
      | with_reducible exact S8.out
      | with_reducible exact S9.out
      | with_reducible exact S10.out
      | with_reducible exact S11.out)
  clear hK K h7
  try simp only [Act.put, List.setIfInBounds_toArray, List.set_cons_zero, List.set_cons_succ]
  refine readyD (i := 89) rfl (by as_aux_lemma => kernel_rfl) (fun K hK => ?_)
  go_simp
  (go_at_call 13; (have hc := (c_same 24 A11 A4 1 c11 1 c4 [7] _ (K35.out.bs (A := A11) (n := 1) (xs := [7]) (by repeat (first | exact List.Mem.head _ | apply List.Mem.tail))) (K35.out.bs (A := A4) (n := 1) (xs := [7]) (by repeat (first | exact List.Mem.head _ | apply List.Mem.tail)))); (refine hc.mono ?_); clear hc); rintro e w36 ⟨rfl, hb⟩; have K36 : Hid (EnvF w36 [bF A11 1 [7], bF (some ⟨w32.heap.size, 0, none⟩) 1 [1], bF (some ⟨w25.heap.size, 0, none⟩) 1 [7], qF (some ⟨b5, o5, none⟩) 1 [x5], bF A4 1 [7]] [(w21.heap.size + 1, #[.bool true, .int .i64 0, .int .u32 6], 31), (w10.heap.size + 1, #[.bool true, .int .i64 0, .int .u32 1], 31), (w4.heap.size + 1, #[.bool false, .int .i64 0, .int .u32 0], 31), (w4.heap.size, #[.int .i64 24, .slice A4 1 c4], 24)]) := Lib.hid (K35.out.on hb); have B36 : Hid (Below w.heap.size w w36) := Lib.hid (below_step B35.out hb); clear hb K35 B35; have S11 : Hid (w36.cell? ⟨w4.heap.size, 0, none⟩ = some (.int .i64 24) ∧ w36.cell? ⟨w4.heap.size, 1, none⟩ = some (.slice A4 1 c4) ∧ w36.cell? ⟨w4.heap.size + 1, 0, none⟩ = some (.bool false) ∧ w36.cell? ⟨w4.heap.size + 1, 1, none⟩ = some (.int .i64 0) ∧ w36.cell? ⟨w4.heap.size + 1, 2, none⟩ = some (.int .u32 0) ∧ w36.cell? ⟨w10.heap.size + 1, 0, none⟩ = some (.bool true) ∧ w36.cell? ⟨w10.heap.size + 1, 1, none⟩ = some (.int .i64 0) ∧ w36.cell? ⟨w10.heap.size + 1, 2, none⟩ = some (.int .u32 1) ∧ w36.cell? ⟨w21.heap.size + 1, 0, none⟩ = some (.bool true) ∧ w36.cell? ⟨w21.heap.size + 1, 1, none⟩ = some (.int .i64 0) ∧ w36.cell? ⟨w21.heap.size + 1, 2, none⟩ = some (.int .u32 6) ∧ w36.cell? ⟨b5, o5 + 1, none⟩ = some (.int .u8 4) ∧ w36.cell? ⟨b5, o5 + 4, none⟩ = some (.slice x5.A 0 x5.c)) := Lib.hid (s5_of (K36.out.row 3 rfl) (K36.out.row 2 rfl) (K36.out.row 1 rfl) (K36.out.row 0 rfl) (q5_of (K36.out.qs (A := some ⟨b5, o5, none⟩) (n := 1) (xs := [x5]) (by repeat (first | exact List.Mem.head _ | apply List.Mem.tail))) HX5.out)))
  refine hK.out _ _ ?_ (fun h9 => ?_)
  · (try dsimp only)
    (first
      | with_reducible exact S1.out
      | with_reducible exact S3.out
      | with_reducible exact S4.out
      | with_reducible exact S5.out
      | with_reducible exact S6.out
      | with_reducible exact S7.out
      | with_reducible exact S8.out
      | with_reducible exact S9.out
      | with_reducible exact S10.out
      | with_reducible exact S11.out)
  clear hK K h8
  try simp only [Act.put, List.setIfInBounds_toArray, List.set_cons_zero, List.set_cons_succ]
  refine oneD (i := 90) (v := ?_) rfl (by as_aux_lemma => kernel_rfl) (Or.inl ⟨by rfl, ?_⟩) h9 ?_
  rotate_left
  · intro w hSw; (try dsimp only at hSw); go_simp <;> with_reducible rfl
  try simp only [Act.put, List.setIfInBounds_toArray, List.set_cons_zero, List.set_cons_succ]
  refine oneD (i := 91) (v := ?_) rfl (by as_aux_lemma => kernel_rfl) (Or.inl ⟨by rfl, ?_⟩) h9 ?_
  rotate_left
  · intro w hSw; (try dsimp only at hSw); go_simp <;> with_reducible rfl
  try simp only [Act.put, List.setIfInBounds_toArray, List.set_cons_zero, List.set_cons_succ]
  refine wpAnyH_done (by as_aux_lemma => kernel_rfl) ?_ _
  refine NoPanic.normal ?_
  all_goals
    refine hK _ _ ?_
    go_wp2
    go_ret
    exact ⟨by first | rfl | simp, B36.out⟩
end Go.Proofs.Ytjoopekgbfplpaa
