/- Package huff: the variable that holds all rows; strings.IndexByte in them. -/
import Derived.Test.YtfjmgfahlicleaaDoorHfA
import Derived.Test.YtfjmgfahlicleaaDoorHfY
import Derived.Test.YtfjmgfahlicleaaDoorGTurn
import Derived.RegionTactic
import Derived.BigQuiet
import Derived.Deep.QuietTactic
namespace Go.Proofs.YtfjmgfahlicleaaDoor
open Go.RowKit Hf
set_option linter.unusedVariables false
set_option linter.unusedSimpArgs false
namespace Hf
def rowS (k : Nat) : ByteArray := ⟨(rowL k).toArray⟩
def rowsA : Array Value := #[.int .i64 5, .int .i64 0, .string (rowS 0), .int .i64 6, .int .i64 32, .string (rowS 1), .int .i64 7, .int .i64 96, .string (rowS 2), .int .i64 11, .int .i64 1792, .string (rowS 3)]
def rowsV : Value := .agg rowsA
/-- The variable holds the rows. -/
def Rws (w : World) : Prop := ∀ j v, rowsA[j]? = some v → w.cell? ⟨0, j, none⟩ = some v
theorem Rws.lt {w : World} (h : Rws w) : 0 < w.heap.size := block_lt_of_cell (h 0 (.int .i64 5) rfl)
theorem Rws.on {w w' : World} (h : Rws w) (hb : Below w.heap.size w w') : Rws w' := fun j v hj => (hb.cell (p := ⟨0, j, none⟩) h.lt).trans (h j v hj)
theorem Rws.below {w w' : World} {B : Nat} (h : Rws w) (hb : Below B w w') (hB : 0 < B) : Rws w' := fun j v hj => (hb.cell (p := ⟨0, j, none⟩) hB).trans (h j v hj)
theorem run_rows {w : World} (h : Rws w) : (loadVar 43 ⟨0, 0, none⟩).run Tryd.prog w = .ok rowsV w := by
  have hl : (loadCells ⟨0, 0, none⟩ rowsA.toList.length).run Tryd.prog w = .ok rowsA.toList.toArray w :=
    run_loadCells_list (P := Tryd.prog) w ⟨0, 0, none⟩ rowsA.toList (fun j v hv => by
      have hadd : (⟨0, 0, none⟩ : Addr).add j = ⟨0, j, none⟩ := by unfold Addr.add; split <;> simp_all
      rw [hadd]
      exact h j v (by simpa using hv))
  have hagg : (isAgg 43).run Tryd.prog w = .ok true w := by kernel_rfl
  have hsz : (sizeOf 43).run Tryd.prog w = .ok 12 w := by kernel_rfl
  have e12 : rowsA.toList.length = 12 := rfl
  rw [e12] at hl
  simp only [Array.toArray_toList] at hl
  simp [loadVar, Sem.run_bind, hagg, hsz, hl]
  rfl
theorem wpList_load_rows {w : World} {ops : Array Oper} {rest : List Oper} {o : Oper} {a : Act} {Q : Exit → Act → World → Prop} (h : Rws w) (hgd : o.guard = none) (ho : o.op = .load 43 (.global 0))
    (hK : wpList Tryd.prog ops Q rest (a.put o.dst rowsV) w) : wpList Tryd.prog ops Q (o :: rest) a w :=
  wpList_plain hgd fun _ hK' => by
    unfold Oper.wp execOp
    have hx : a.eval (.global 0) = .pointer (some ⟨0, 0, none⟩) := rfl
    simp only [ho, hx, Instr.loadAt, Instr.sureAddr, Sem.run_bind, Sem.run_pure, Result.andThen_ok, run_rows h]
    exact hK' _ _ hK
theorem idx0 (w : World) : (Instr.index 43 rowsV (.int .i64 0)).run Tryd.prog w = .ok (.agg #[.int .i64 5, .int .i64 0, .string (rowS 0)]) w := by kernel_rfl
theorem idx1 (w : World) : (Instr.index 43 rowsV (.int .i64 1)).run Tryd.prog w = .ok (.agg #[.int .i64 6, .int .i64 32, .string (rowS 1)]) w := by kernel_rfl
theorem idx2 (w : World) : (Instr.index 43 rowsV (.int .i64 2)).run Tryd.prog w = .ok (.agg #[.int .i64 7, .int .i64 96, .string (rowS 2)]) w := by kernel_rfl
theorem idx3 (w : World) : (Instr.index 43 rowsV (.int .i64 3)).run Tryd.prog w = .ok (.agg #[.int .i64 11, .int .i64 1792, .string (rowS 3)]) w := by kernel_rfl
theorem ix_hitF : ∀ n : Fin 256, Lib.indexByte (rowL (rowOf (UInt8.ofNat n.val))) (UInt8.ofNat n.val) = (cod (UInt8.ofNat n.val) : Int) - (rowF (rowOf (UInt8.ofNat n.val)) : Int) := by decide +kernel
theorem ix_hit (c : UInt8) : Lib.indexByte (rowL (rowOf c)) c = (cod c : Int) - (rowF (rowOf c) : Int) := all_bytes (p := fun c => Lib.indexByte (rowL (rowOf c)) c = (cod c : Int) - (rowF (rowOf c) : Int)) ix_hitF c
theorem ix_missF : ∀ n : Fin 256, ∀ k : Fin 4, k.val < rowOf (UInt8.ofNat n.val) → Lib.indexByte (rowL k.val) (UInt8.ofNat n.val) = -1 := by decide +kernel
theorem ix_miss (c : UInt8) {k : Nat} (hk : k < rowOf c) (h4 : k < 4) : Lib.indexByte (rowL k) c = -1 := all_bytes (p := fun c => ∀ k : Fin 4, k.val < rowOf c → Lib.indexByte (rowL k.val) c = -1) ix_missF c ⟨k, h4⟩ hk
theorem rowOf_le (c : UInt8) : rowOf c ≤ 3 := by unfold rowOf; split <;> (try split) <;> (try split) <;> omega
theorem rowF_le (c : UInt8) : rowF (rowOf c) ≤ cod c := by unfold cod; omega
end Hf
theorem h_ixS (k : Nat) (c : UInt8) (X : Int) (w : World) (h : Lib.indexByte (rowL k) c = X) :
    Calls Tryd.prog 24 #[.string (rowS k), .int .u8 (c.toNat : Int)] w fun e w' => e = .returned (.int .i64 X) ∧ w = w' := by
  refine (h_ix (rowS k) (c.toNat : Int) w).mono ?_
  rintro e w' ⟨rfl, rfl⟩
  refine ⟨?_, rfl⟩
  rw [← h]
  have : ((c.toNat : Int)).toNat.toUInt8 = c := by simp
  rw [this]
  rfl
end Go.Proofs.YtfjmgfahlicleaaDoor
