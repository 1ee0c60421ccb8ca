import Derived.Test.YtahiajeggbpogaaGreatDoorUpD
set_option maxRecDepth 100000
set_option maxHeartbeats 4000000
namespace Go.Proofs.YtahiajeggbpogaaGreatDoor
open Go.RowKit Go.ChangeMaps Px Tx Tb Up
set_option linter.unusedVariables false
set_option linter.unusedSimpArgs false
namespace Up
def Mks(w:World):Prop:=(w.cell? ⟨0,0,none⟩=some (.int .u8 1)∧w.cell? ⟨0,1,none⟩=some (.int .u8 1))∧(w.cell? ⟨2,0,none⟩=some (.int .u8 2)∧w.cell? ⟨2,1,none⟩=some (.int .u8 1))∧(w.cell? ⟨1,0,none⟩=some (.int .u8 3)∧w.cell? ⟨1,1,none⟩=some (.int .u8 1))∧(w.cell? ⟨3,0,none⟩=some (.int .u8 4)∧w.cell? ⟨3,1,none⟩=some (.int .u8 1))∧(w.cell? ⟨4,0,none⟩=some (.int .u8 4)∧w.cell? ⟨4,1,none⟩=some (.int .u8 0))
def mvF:Fact where
 on k:=k=0∨k=2∨k=1∨k=3∨k=4
 is w:=Mks w
 dep w w' h hz hk:=by
  have c : ∀k j,(k=0∨k=2∨k=1∨k=3∨k=4)→w'.cell? ⟨k,j,none⟩=w.cell? ⟨k,j,none⟩:=fun k j h=>World.cell?_of_block (a:=⟨k,j,none⟩) (hk k h)
  unfold Mks at *
  rw[c _ 0 (.inl rfl),c _ 1 (.inl rfl),c _ 0 (.inr (.inl rfl)),c _ 1 (.inr (.inl rfl)),c _ 0 (.inr (.inr (.inl rfl))),c _ 1 (.inr (.inr (.inl rfl))),c _ 0 (.inr (.inr (.inr (.inl rfl)))),c _ 1 (.inr (.inr (.inr (.inl rfl)))),c _ 0 (.inr (.inr (.inr (.inr rfl)))),c _ 1 (.inr (.inr (.inr (.inr rfl))))]
  exact h
theorem EnvF.mks{w:World}{fs:List Fact}{gs:List Bx}(h:EnvF w fs gs)(hm:mvF∈fs):Mks w:=(h.f _ hm).1
end Up
end Go.Proofs.YtahiajeggbpogaaGreatDoor
