/- The document's data: what stands in DATA's and HEADERS' payload. -/
import Derived.Test.YtgkbjopgmbdnoaaFrC
import Derived.Test.YtgkbjopgmbdnoaaGPut
namespace Go.Proofs.Ytgkbjopgmbdnoaa
open Go.RowKit Oct Fi Fm
set_option linter.unusedVariables false
attribute [local go_sem] i64_and1 i64_and7 i64_and31

theorem info_F : (Try.prog.info? 28).map (·.size) = some 13 := by kernel_rfl
theorem info_H : (Try.prog.info? 35).map (·.size) = some 4 := by kernel_rfl
theorem info_X : (Try.prog.info? 39).map (·.size) = some 3 := by kernel_rfl
theorem info_R : (Try.prog.info? 26).map (·.size) = some 3 := by kernel_rfl
theorem info_B : (Try.prog.info? 22).map (·.size) = some 1 := by kernel_rfl
theorem info_P : (Try.prog.info? 24).map (·.size) = some 1 := by kernel_rfl
theorem info_i : (Try.prog.info? 3).map (·.size) = some 1 := by kernel_rfl
theorem info_n8 : (Try.prog.info? 5).map (·.size) = some 1 := by kernel_rfl
theorem info_u32 : (Try.prog.info? 23).map (·.size) = some 1 := by kernel_rfl
theorem info_b : (Try.prog.info? 4).map (·.size) = some 1 := by kernel_rfl
end Go.Proofs.Ytgkbjopgmbdnoaa
