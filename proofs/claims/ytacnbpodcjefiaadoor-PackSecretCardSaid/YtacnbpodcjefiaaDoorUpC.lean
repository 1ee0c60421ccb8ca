/- Package unpack: a field of its own. -/
import Derived.Test.YtacnbpodcjefiaaDoorUpB
import Derived.Test.YtacnbpodcjefiaaDoorGPart
namespace Go.Proofs.YtacnbpodcjefiaaDoor
open Go.RowKit Px Tx Tb Up
set_option linter.unusedVariables false
set_option linter.unusedSimpArgs false
theorem infoc_s : (Tryd.prog.info? 9).map (·.size) = some 1 := by kernel_rfl
theorem gb_alloc {w w1 : World} {g : Nat} (h : w.grownBy w1 (some g)) (o : Obj) : w.grownBy (w1.alloc o) (some g) := gb_below h ((Below.refl _ w1).alloc (Nat.le_refl _) o)
theorem i64_wf {n : Int} (h1 : -9223372036854775808 ≤ n) (h2 : n ≤ 9223372036854775807) : (Lit.int .i64 n).wf = true := by
  simp only [Lit.wf, Bool.and_eq_true, decide_eq_true_eq]
  exact ⟨h1, h2⟩
namespace Up
section
variable {w w' : World} {fs fs' : List Fact} {gs gs' : List Bx} {i i' g K : Nat} {most : Int} {A : Option Addr} {n c : Nat} {LA : Option Addr} {ln lc : Nat} {s : Sta}
theorem set_same {x : Bx} (h : gs[i]? = some x) : gs.set i x = gs := by
  apply List.ext_getElem?
  intro j
  rw [List.getElem?_set]
  split
  · rename_i e
    subst e
    have hl := (List.getElem?_eq_some_iff.1 h).1
    rw [if_pos hl, h]
  · rfl
end
end Up
end Go.Proofs.YtacnbpodcjefiaaDoor
