/- Package huff: newBook. -/
import Derived.Test.YtfjmgfahlicleaaDoorHfC
import Derived.Test.YtfjmgfahlicleaaDoorGMap
import Derived.DeepKeys4
namespace Go.Proofs.YtfjmgfahlicleaaDoor
open Go.RowKit Hf
set_option linter.unusedVariables false
set_option linter.unusedSimpArgs false
theorem law_out : laidOutB Tryd.prog = true := by kernel_rfl
theorem shelf_keyed : Maps.Keyed Tryd.prog 61 :=
  Maps.Keyed.of_law (Go.deep_law_laid law_out (m := 2) (by omega) (of_decide_eq_true (by kernel_rfl)) (by kernel_rfl) (by rw [Tryd.underlying61]))
theorem shelf_key (a b : Int) (ha : (Lit.int .i64 a).wf = true) (hb : (Lit.int .i64 b).wf = true) : ∃ q, keyOf Tryd.prog 61 (.agg #[.int .i64 a, .int .i64 b]) = some q := by
  have hk : Tryd.prog.keyType 61 = true := by kernel_rfl
  have hc : Tryd.prog.cellsOf 61 = 2 := by kernel_rfl
  have hc3 : Tryd.prog.cellsOf 3 = 1 := by kernel_rfl
  have h0 : 0 < Tryd.prog.types.size := of_decide_eq_true (by kernel_rfl)
  have hz : ∃ m, Tryd.prog.types.size = m + 1 := ⟨Tryd.prog.types.size - 1, by omega⟩
  obtain ⟨m, hm⟩ := hz
  have hf : (Value.agg #[.int .i64 a, .int .i64 b]).formed Tryd.prog 61 = true := by simp [Value.formed, Tryd.underlying61, hc]
  have h1 : ∀ x : Int, (Lit.int .i64 x).wf = true → Tryd.prog.keyLits (m + 1) 3 [.int .i64 x] = some [.int .i64 x] := fun x hx => by
    unfold Program.keyLits
    rw [Tryd.underlying3]
    simp [hx]
  have hl : Tryd.prog.keyLits (Tryd.prog.types.size + 1) 61 [.int .i64 a, .int .i64 b] = some [.int .i64 a, .int .i64 b] := by
    rw [hm]
    unfold Program.keyLits
    rw [Tryd.underlying61]
    simp only [List.length_cons, List.length_nil, Nat.reduceAdd, hc, hc3, if_true, Nat.mul_one]
    have e0 : (List.range 2) = [0, 1] := rfl
    rw [e0]
    simp only [List.mapM_cons, List.mapM_nil, List.drop_zero, List.take_succ_cons, List.take_zero, List.drop_succ_cons, h1 a ha, h1 b hb]
    rfl
  unfold keyOf
  rw [Tryd.underlying61]
  simp only [hk, hf, Bool.and_self, if_true]
  refine ⟨.string (keyBytes [.int .i64 a, .int .i64 b]), ?_⟩
  have e : (Value.agg #[.int .i64 a, .int .i64 b]).cells.toList = [.int .i64 a, .int .i64 b] := rfl
  rw [e, hl]
  rfl
namespace Hf
def keyV (t : Nat) : Value := .agg #[.int .i64 ((shelf t).1 : Int), .int .i64 ((shelf t).2.1 : Int)]
def chunk (t : Nat) : ByteArray := ⟨(shelf t).2.2.toArray⟩
def bookL (n : Nat) : List (Value × Value) := (List.range n).map fun t => (keyV t, .string (chunk t))
/-- What is left of a row. -/
def rest (k j : Nat) : ByteArray := ⟨((rowL k).drop (16 * j)).toArray⟩
theorem bookL_succ (n : Nat) : bookL (n + 1) = bookL n ++ [(keyV n, .string (chunk n))] := by simp [bookL, List.range_succ]
theorem keyV_ne {t u : Nat} (ht : t < 16) (hu : u < 16) (h : t ≠ u) : keyV t ≠ keyV u := fun e => h (by
  unfold keyV at e
  simp only [Value.agg.injEq, Array.mk.injEq, List.cons.injEq, Value.int.injEq, true_and, and_true] at e
  have := shelf_apart ⟨t, ht⟩ ⟨u, hu⟩ (by simp only; omega)
  simpa using this)
theorem book_new {n : Nat} (hn : n < 16) : ∀ p ∈ bookL n, p.1 ≠ keyV n := by
  intro p hp
  obtain ⟨t, ht, rfl⟩ := List.mem_map.1 hp
  have := List.mem_range.1 ht
  exact keyV_ne (by omega) hn (by omega)
theorem key_wf : ∀ t : Fin 16, (Lit.int .i64 ((shelf t.val).1 : Int)).wf = true ∧ (Lit.int .i64 ((shelf t.val).2.1 : Int)).wf = true := by decide +kernel
theorem rest_start (k : Nat) : rest k 0 = rowS k := rfl
theorem rest_size (k j : Nat) : (rest k j).size = (rowL k).length - 16 * j := by
  show ((rowL k).drop (16 * j)).toArray.size = _
  simp
theorem rest_head (k j : Nat) : (rest k j).extract 0 16 = ⟨(((rowL k).drop (16 * j)).take 16).toArray⟩ := by
  apply ByteArray.ext
  rw [ByteArray.data_extract]
  show (((rowL k).drop (16 * j)).toArray).extract 0 16 = _
  simp
theorem rest_tail (k j : Nat) : (rest k j).extract 16 (rest k j).size = rest k (j + 1) := by
  apply ByteArray.ext
  rw [ByteArray.data_extract]
  show (((rowL k).drop (16 * j)).toArray).extract 16 (((rowL k).drop (16 * j)).toArray.size) = ((rowL k).drop (16 * (j + 1))).toArray
  rw [List.extract_toArray]
  congr 1
  simp only [List.size_toArray, List.extract_eq_take_drop]
  rw [List.drop_drop, List.take_of_length_le (by simp; omega)]
  congr 1
theorem chunk_0 : ∀ k : Fin 3, ((rowL k.val).drop 0).take 16 = (shelf k.val).2.2 := by decide +kernel
theorem chunk_3 : ∀ j : Fin 13, ((rowL 3).drop (16 * j.val)).take 16 = (shelf (3 + j.val)).2.2 := by decide +kernel
theorem row_len : ∀ k : Fin 3, (rowL k.val).length = 16 := by decide +kernel
theorem row_len3 : (rowL 3).length = 208 := by decide +kernel
theorem rest_cut (k : Nat) (hk : k < 3) : (rest k 0).extract 0 16 = chunk k ∧ (rest k 0).extract 16 (rest k 0).size = rest k 1 ∧ (rest k 0).size = 16 ∧ (rest k 1).size = 0 := by
  have hl := row_len ⟨k, hk⟩
  have hc := chunk_0 ⟨k, hk⟩
  simp only at hl hc
  refine ⟨?_, rest_tail k 0, by rw [rest_size, hl], by rw [rest_size, hl]⟩
  rw [rest_head, Nat.mul_zero, hc]; rfl
theorem rest_cut3 (j : Nat) (hj : j < 13) : (rest 3 j).extract 0 16 = chunk (3 + j) ∧ (rest 3 j).extract 16 (rest 3 j).size = rest 3 (j + 1) ∧ 16 ≤ (rest 3 j).size := by
  have hc := chunk_3 ⟨j, hj⟩
  simp only at hc
  refine ⟨?_, rest_tail 3 j, by rw [rest_size, row_len3]; omega⟩
  rw [rest_head, hc]; rfl
theorem rest_end3 : (rest 3 13).size = 0 := by rw [rest_size, row_len3]
theorem book_put (n : Nat) (hn : n < 16) (w : World) (b : Nat) (h : MapL w Tryd.prog 61 b (bookL n)) :
    ∃ w', (Instr.mapUpdate 47 (.map (some b)) (keyV n) (.string (chunk n))).run Tryd.prog w = .ok () w' ∧ MapL w' Tryd.prog 61 b (bookL (n + 1)) ∧ w.grownBy w' (some b) := by
  obtain ⟨q, hq⟩ := shelf_key ((shelf n).1 : Int) ((shelf n).2.1 : Int) (key_wf ⟨n, hn⟩).1 (key_wf ⟨n, hn⟩).2
  rw [bookL_succ]
  exact h.update shelf_keyed Tryd.underlying47 hq (book_new hn) _
end Hf
end Go.Proofs.YtfjmgfahlicleaaDoor
