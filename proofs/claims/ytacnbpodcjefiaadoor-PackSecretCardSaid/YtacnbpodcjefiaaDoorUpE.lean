/- Package unpack: a new reader. -/
import Derived.Test.YtacnbpodcjefiaaDoorUpD
namespace Go.Proofs.YtacnbpodcjefiaaDoor
open Go.RowKit Go.ChangeMaps Px Tx Tb Up
set_option linter.unusedVariables false
set_option linter.unusedSimpArgs false
theorem step_insert_run {P : Program} {ops : Array Oper} {w w' : World} {o : Oper} {a : Act} {K : Act → World → Prop} {Q : Exit → Act → World → Prop} {E : Prop} (hgd : o.guard = none) (t : TypeId) (m x v : Operand)
    (ho : o.op = .insert t m x v) (mv xv vv : Value) (hrun : (Instr.mapUpdate t mv xv vv).run P w = .ok () w') (hm : a.eval m = mv) (hx : a.eval x = xv) (hv : a.eval v = vv)
    (h : K (a.put o.dst undef) w') : if Region.wanted o (yielded ops a.tmps) = true then Oper.wp P o a w K Q else E := by
  have hw : Region.wanted o (yielded ops a.tmps) = true := by simp [Region.wanted, hgd]
  rw [if_pos hw]
  unfold Oper.wp
  simp [execOp, ho, hm, hx, hv, hrun, Result.andThen]
  exact h
namespace Up
/-- The variables of the marks hold them. -/
def Mks (w : World) : Prop := (w.cell? ⟨1, 0, none⟩ = some (.int .u8 1) ∧ w.cell? ⟨1, 1, none⟩ = some (.int .u8 1)) ∧ (w.cell? ⟨3, 0, none⟩ = some (.int .u8 2) ∧ w.cell? ⟨3, 1, none⟩ = some (.int .u8 1)) ∧ (w.cell? ⟨0, 0, none⟩ = some (.int .u8 3) ∧ w.cell? ⟨0, 1, none⟩ = some (.int .u8 1)) ∧ (w.cell? ⟨4, 0, none⟩ = some (.int .u8 4) ∧ w.cell? ⟨4, 1, none⟩ = some (.int .u8 1)) ∧ (w.cell? ⟨5, 0, none⟩ = some (.int .u8 4) ∧ w.cell? ⟨5, 1, none⟩ = some (.int .u8 0))
def mvF : Fact where
  on k := k = 1 ∨ k = 3 ∨ k = 0 ∨ k = 4 ∨ k = 5
  is w := Mks w
  dep w w' h hz hk := by
    have c : ∀ k j, (k = 1 ∨ k = 3 ∨ k = 0 ∨ k = 4 ∨ k = 5) → w'.cell? ⟨k, j, none⟩ = w.cell? ⟨k, j, none⟩ := fun k j h => World.cell?_of_block (a := ⟨k, j, none⟩) (hk k h)
    unfold Mks at *
    rw [c _ 0 (.inl rfl), c _ 1 (.inl rfl), c _ 0 (.inr (.inl rfl)), c _ 1 (.inr (.inl rfl)), c _ 0 (.inr (.inr (.inl rfl))), c _ 1 (.inr (.inr (.inl rfl))), c _ 0 (.inr (.inr (.inr (.inl rfl)))), c _ 1 (.inr (.inr (.inr (.inl rfl)))), c _ 0 (.inr (.inr (.inr (.inr rfl)))), c _ 1 (.inr (.inr (.inr (.inr rfl))))]
    exact h
theorem EnvF.mks {w : World} {fs : List Fact} {gs : List Bx} (h : EnvF w fs gs) (hm : mvF ∈ fs) : Mks w := (h.f _ hm).1
end Up
theorem Up.res_yes {M : Int} {xs : List Fd} (h : rightB M xs = true) : resM M xs M = M ∧ resL M xs M = xs ∧ resE M xs M = 0 := by
  have e : resB M xs M = true := by
    unfold resB
    rw [h]
    unfold rightB at h
    simp only [Bool.and_eq_true] at h
    rw [h.1]
    rfl
  unfold rightB at h
  simp only [Bool.and_eq_true, decide_eq_true_eq] at h
  refine ⟨?_, ?_, ?_⟩
  · unfold resM; rw [e]; rfl
  · unfold resL; rw [e]; exact keep_all h.2
  · unfold resE; rw [e]; rfl
theorem Up.res_no {M : Int} {xs : List Fd} (h : rightB M xs = false) : resM M xs M = 0 ∧ resL M xs M = [] ∧ resE M xs M = 2 := by
  have e : resB M xs M = false := by unfold resB; rw [h]; rfl
  refine ⟨?_, ?_, ?_⟩
  · unfold resM; rw [e]; rfl
  · unfold resL; rw [e]; rfl
  · unfold resE; rw [e]; rfl
end Go.Proofs.YtacnbpodcjefiaaDoor
