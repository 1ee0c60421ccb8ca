/- table.named: the plain words of its map. -/
import Derived.Test.YtgplkjifgagjpaaDoorTbP
import Derived.Test.YtgplkjifgagjpaaDoorGMap
import Derived.Test.YtgplkjifgagjpaaDoorGFldsIn
import Derived.DeepKeys4
namespace Go.Proofs.YtgplkjifgagjpaaDoor
open Go.RowKit Tb Go.Shelf Go.ChangeMaps
set_option linter.unusedVariables false
set_option linter.unusedSimpArgs false

theorem law_out : laidOutB Tryd.prog = true := by kernel_rfl
theorem fld_keyed : Maps.Keyed Tryd.prog 26 :=
  Maps.Keyed.of_law (Go.deep_law_laid law_out (m := 2) (by omega) (of_decide_eq_true (by kernel_rfl)) (by kernel_rfl) (by rw [Tryd.underlying26]))
theorem fld_key (x : Fd) (hx : small x) : ∃ q, keyOf Tryd.prog 26 (fdv x) = some q := by
  obtain ⟨a, b⟩ := x
  have hk : Tryd.prog.keyType 26 = true := by kernel_rfl
  have hc : Tryd.prog.cellsOf 26 = 2 := by kernel_rfl
  have hc3 : Tryd.prog.cellsOf 9 = 1 := by kernel_rfl
  have h0 : 0 < Tryd.prog.types.size := of_decide_eq_true (by kernel_rfl)
  have hz : ∃ m, Tryd.prog.types.size = m + 1 := ⟨Tryd.prog.types.size - 1, by omega⟩
  obtain ⟨m, hm⟩ := hz
  have hf : (Value.agg #[.string a, .string b]).formed Tryd.prog 26 = true := by simp [Value.formed, Tryd.underlying26, hc]
  have h1 : ∀ x : ByteArray, x.size ≤ maxLen → Tryd.prog.keyLits (m + 1) 9 [.string x] = some [.string x.data.toList] := fun x hx => by
    unfold Program.keyLits
    rw [Tryd.underlying9]
    simp only [if_pos hx]
  have hl : Tryd.prog.keyLits (Tryd.prog.types.size + 1) 26 [.string a, .string b] = some [.string a.data.toList, .string b.data.toList] := by
    rw [hm]
    unfold Program.keyLits
    rw [Tryd.underlying26]
    simp only [List.length_cons, List.length_nil, Nat.reduceAdd, hc, hc3, List.mapM_cons, List.mapM_nil, List.drop_zero, List.take_succ_cons, List.take_zero, List.drop_succ_cons, h1 a hx.1, h1 b hx.2]
    rw [if_pos ⟨trivial, by kernel_rfl⟩]
    rfl
  unfold keyOf
  rw [Tryd.underlying26]
  unfold fdv
  simp only [hk, hf, Bool.and_self, if_true]
  refine ⟨.string (keyBytes [.string a.data.toList, .string b.data.toList]), ?_⟩
  have e : (Value.agg #[.string a, .string b]).cells.toList = [.string a, .string b] := rfl
  rw [e, hl]
  rfl
namespace Tb
open Classical in
/-- What the map holds behind these fields; the least index. -/
noncomputable def esStep (name : ByteArray) (es : List (Value × Value)) (z : Nat × Fd) : List (Value × Value) :=
  if z.2.1 = name ∧ ∀ q ∈ es, q.1 ≠ fdv z.2 then es ++ [(fdv z.2, .int .i64 (z.1 : Int))] else es
noncomputable def esOf (name : ByteArray) (pre : List (Nat × Fd)) : List (Value × Value) := pre.foldl (esStep name) []
def leStep (name : ByteArray) (m : Nat) (z : Nat × Fd) : Nat := if z.2.1 = name ∧ m = 0 then z.1 else m
def leOf (name : ByteArray) (pre : List (Nat × Fd)) : Nat := pre.foldl (leStep name) 0
theorem esOf_snoc (name : ByteArray) (pre : List (Nat × Fd)) (z : Nat × Fd) : esOf name (pre ++ [z]) = esStep name (esOf name pre) z := by simp [esOf]
theorem leOf_snoc (name : ByteArray) (pre : List (Nat × Fd)) (z : Nat × Fd) : leOf name (pre ++ [z]) = leStep name (leOf name pre) z := by simp [leOf]
theorem fdv_inj {x y : Fd} (h : fdv x = fdv y) : x = y := by
  obtain ⟨a, b⟩ := x
  obtain ⟨c, d⟩ := y
  unfold fdv at h
  simp only [Value.agg.injEq, Array.mk.injEq, List.cons.injEq, Value.string.injEq, and_true] at h
  rw [h.1, h.2]
theorem snocInd {α : Type} {P : List α → Prop} (h0 : P []) (h1 : ∀ l x, P l → P (l ++ [x])) (l : List α) : P l := by
  have h : ∀ r : List α, P r.reverse := fun r => by
    induction r with
    | nil => exact h0
    | cons x r ih => rw [List.reverse_cons]; exact h1 _ _ ih
  have := h l.reverse
  rwa [List.reverse_reverse] at this
theorem leOf_num (f : Fd) (l : List Fd) : leOf f.1 (num l) = ixOf (isN f) l := by
  refine snocInd (P := fun l => leOf f.1 (num l) = ixOf (isN f) l) rfl (fun l x ih => ?_) l
  rw [num_snoc, leOf_snoc, ih, ixOf_snoc]
  unfold leStep
  by_cases h0 : ixOf (isN f) l = 0
  · rw [if_pos h0]
    by_cases hx : x.1 = f.1
    · rw [if_pos ⟨hx, h0⟩, if_pos (show isN f x = true from decide_eq_true hx)]
    · rw [if_neg (fun h => hx h.1), h0, if_neg (by simp [isN, hx])]
  · rw [if_neg h0, if_neg (fun h => h0 h.2)]
theorem ixOf_in {l : List Fd} {x : Fd} (h : x ∈ l) : ixOf (isF x) l ≠ 0 := fun h0 => by
  have := ixOf_zero.1 h0 x h
  simp [isF] at this
theorem ixOf_out {l : List Fd} {x : Fd} (h : x ∉ l) : ixOf (isF x) l = 0 := ixOf_zero.2 fun y hy => by
  simp only [isF, decide_eq_false_iff_not]
  intro e
  exact h (e ▸ hy)
theorem esOf_num (name : ByteArray) (l : List Fd) : (∀ q ∈ esOf name (num l), ∃ x ∈ l, q = (fdv x, .int .i64 (ixOf (isF x) l : Int)) ∧ x.1 = name) ∧ (∀ x ∈ l, x.1 = name → (fdv x, .int .i64 (ixOf (isF x) l : Int)) ∈ esOf name (num l)) := by
  refine snocInd (P := fun l => (∀ q ∈ esOf name (num l), ∃ x ∈ l, q = (fdv x, .int .i64 (ixOf (isF x) l : Int)) ∧ x.1 = name) ∧ (∀ x ∈ l, x.1 = name → (fdv x, .int .i64 (ixOf (isF x) l : Int)) ∈ esOf name (num l))) ⟨fun q h => (by cases h), fun q h => (by cases h)⟩ (fun l y ih => ?_) l
  obtain ⟨h1, h2⟩ := ih
  have keep : ∀ x ∈ l, ixOf (isF x) (l ++ [y]) = ixOf (isF x) l := fun x hx => by rw [ixOf_snoc, if_neg (ixOf_in hx)]
  rw [num_snoc, esOf_snoc]
  unfold esStep
  simp only
  by_cases hn : y.1 = name ∧ ∀ q ∈ esOf name (num l), q.1 ≠ fdv y
  · rw [if_pos hn]
    have hy : y ∉ l := fun hy => hn.2 _ (h2 y hy hn.1) rfl
    have ey : ixOf (isF y) (l ++ [y]) = l.length + 1 := by rw [ixOf_snoc, if_pos (ixOf_out hy), if_pos (by simp [isF])]
    refine ⟨fun q hq => ?_, fun x hx hxn => ?_⟩
    · rcases List.mem_append.1 hq with hq | hq
      · obtain ⟨x, hx, e, hxn⟩ := h1 q hq
        exact ⟨x, List.mem_append_left _ hx, by rw [keep x hx]; exact e, hxn⟩
      · rw [List.mem_singleton.1 hq]
        exact ⟨y, by simp, by rw [ey], hn.1⟩
    · rcases List.mem_append.1 hx with hx | hx
      · rw [keep x hx]
        exact List.mem_append_left _ (h2 x hx hxn)
      · rw [List.mem_singleton.1 hx, ey]
        exact List.mem_append_right _ (by simp)
  · rw [if_neg hn]
    refine ⟨fun q hq => ?_, fun x hx hxn => ?_⟩
    · obtain ⟨x, hx, e, hxn⟩ := h1 q hq
      exact ⟨x, List.mem_append_left _ hx, by rw [keep x hx]; exact e, hxn⟩
    · rcases List.mem_append.1 hx with hx | hx
      · rw [keep x hx]
        exact h2 x hx hxn
      · obtain rfl := List.mem_singleton.1 hx
        by_cases hy : x ∈ l
        · rw [keep x hy]
          exact h2 x hy hxn
        · refine absurd ⟨hxn, fun q hq e => ?_⟩ hn
          obtain ⟨z, hz, e2, _⟩ := h1 q hq
          rw [e2] at e
          exact hy (fdv_inj e ▸ hz)
end Tb
end Go.Proofs.YtgplkjifgagjpaaDoor
