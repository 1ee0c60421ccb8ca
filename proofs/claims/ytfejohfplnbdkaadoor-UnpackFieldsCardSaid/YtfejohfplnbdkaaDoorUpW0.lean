/- Layer 10: the statements' own samples, plainly. -/
import Derived.Test.YtfejohfplnbdkaaDoorUpT
namespace Go.Proofs.YtfejohfplnbdkaaDoor.Up
open Go.RowKit Px Tx Tb
abbrev ga : Fd := (⟨#[97]⟩, ⟨#[49]⟩)
abbrev gpost : Fd := (⟨#[58, 109, 101, 116, 104, 111, 100]⟩, ⟨#[80, 79, 83, 84]⟩)
theorem z_a : bE 100 100 [] [130] = 0 ∧ bL 100 100 [] [130] = [gpost] ∧ bG 100 100 [] [130] = false ∧ bM 100 100 [] [130] = 100 ∧ bX 100 100 [] [130] = [] := by decide +kernel
theorem z_b : bE 100 100 [] [64, 1, 97, 1, 49] = 0 ∧ bL 100 100 [] [64, 1, 97, 1, 49] = [ga] ∧ bG 100 100 [] [64, 1, 97, 1, 49] = false ∧ bM 100 100 [] [64, 1, 97, 1, 49] = 100 ∧ bX 100 100 [] [64, 1, 97, 1, 49] = [ga] := by decide +kernel
theorem z_c : bE 100 100 [] [128] = 90 ∧ bL 100 100 [] [128] = [] ∧ bG 100 100 [] [128] = false ∧ bM 100 100 [] [128] = 0 ∧ bX 100 100 [] [128] = [] := by decide +kernel
theorem z_d : bE 100 100 [] [130, 32] = 100 ∧ bL 100 100 [] [130, 32] = [] ∧ bG 100 100 [] [130, 32] = false ∧ bM 100 100 [] [130, 32] = 0 ∧ bX 100 100 [] [130, 32] = [] := by decide +kernel
theorem z_e : bE 100 100 [ga] [32] = 0 ∧ bL 100 100 [ga] [32] = [] ∧ bG 100 100 [ga] [32] = false ∧ bM 100 100 [ga] [32] = 0 ∧ bX 100 100 [ga] [32] = [] := by decide +kernel
theorem z_f : bE 100 100 [] [63, 70] = 100 ∧ bL 100 100 [] [63, 70] = [] ∧ bG 100 100 [] [63, 70] = false ∧ bM 100 100 [] [63, 70] = 0 ∧ bX 100 100 [] [63, 70] = [] := by decide +kernel
theorem z_g : putL 2 7 128 = [130] ∧ putE 2 7 = 0 := by decide +kernel
theorem be_2 : beB [50] = [1, 50] := by unfold beB; rw [if_neg (by decide +kernel)]; decide +kernel
theorem z_h : nmL 21 [50] 2 = [31, 6, 1, 50] ∧ nmE 21 2 = 0 := by
  refine ⟨?_, by decide +kernel⟩
  unfold nmL
  rw [if_neg (by decide), be_2]
  decide +kernel
theorem z_s : sameU [gpost] false 100 [] [gpost] false 100 [] = true ∧ sameU [gpost] false 100 [] [ga] false 100 [ga] = false ∧ full [ga] = 34 := by decide +kernel
end Go.Proofs.YtfejohfplnbdkaaDoor.Up
