/- What the row's list gives: the variable of all rows holds them. -/
import Derived.Test.YtfjmgfahlicleaaDoorHfB
import Derived.ProofKit
import Derived.LaidMore
import Derived.LaidLaws
import Derived.OpenShut
import Derived.Stop.Joined
import Derived.ChangeSame
namespace Go.Proofs.YtfjmgfahlicleaaDoor
open Go.ChangeShapes Go.WideShapes Go.ChangeAt Go.WideMaps Go.WideElems Go.RowKit Hf
set_option linter.unusedVariables false
theorem gRows : Tryd.prog.globalNamed "causey/huff.rows" = some 0 := by kernel_rfl
theorem tRows : (Tryd.prog.globals[0]?).map (·.type) = some 43 := by kernel_rfl
theorem door_met (os : Os) (args : Array Value) : laidMetH Tryd.prog [("causey/huff.rows", Rows.laid_causey_huff_rows)] ((World.doorLaid Tryd.prog 400 os).forCall (fun _ _ => 0) ⟨#[], args, []⟩).memory :=
  laidMetH_of_parts3 (fuel := 8) (laidMet_of_run' 8 (by kernel_rfl) (by kernel_rfl)) (by kernel_rfl) (by kernel_rfl)
theorem row_cells {H : Type} {enc : TypeId × Value → H} {W : World} {base : Nat} {spare : Nat → Bool} {held : Bool} {m : Nat} {c0 c1 c2 : Value} {x : DataW H × List MemPlace} {a b : Int} {s : List UInt8}
    (h : DataW.trod enc Tryd.prog W base spare held m 42 [c0, c1, c2] = some x) (hx : x.1 = .agg [.lit (.int .i64 a), .lit (.int .i64 b), .lit (.string s)]) :
    c0 = .int .i64 a ∧ c1 = .int .i64 b ∧ c2 = .string ⟨s.toArray⟩ := by
  obtain ⟨ys, n, _, rfl, hl, hlen, hf⟩ := DataW.trod_struct Tryd.underlying42 h
  have h0 := hf 0 _ rfl
  have h1 := hf 1 _ rfl
  have h2 := hf 2 _ rfl
  match ys, hlen with
  | [y0, y1, y2], _ =>
    simp only [List.map_cons, List.map_nil, DataW.agg.injEq, List.cons.injEq, and_true] at hx
    replace h0 : DataW.trod _ Tryd.prog W _ _ _ n 3 [c0] = some y0 := h0
    replace h1 : DataW.trod _ Tryd.prog W _ _ _ n 3 [c1] = some y1 := h1
    replace h2 : DataW.trod _ Tryd.prog W _ _ _ n 9 [c2] = some y2 := h2
    obtain ⟨k0, e0, r0, _⟩ := DataW.trod_int Tryd.underlying3 h0
    obtain ⟨k1, e1, r1, _⟩ := DataW.trod_int Tryd.underlying3 h1
    obtain ⟨s2, e2, r2, _⟩ := DataW.trod_string Tryd.underlying9 h2
    subst r0
    subst r1
    subst r2
    simp only [DataW.lit.injEq, Lit.int.injEq, Lit.string.injEq, true_and] at hx
    obtain ⟨rfl, rfl, rfl⟩ := hx
    simp only [List.cons.injEq, and_true] at e0 e1 e2
    exact ⟨e0, e1, e2⟩
theorem of_laid {W : World} (h : laidMetH Tryd.prog [("causey/huff.rows", Rows.laid_causey_huff_rows)] W) : Rws W := by
  rw [MakeChecks.laidMetH_plain _ _ _ (by kernel_rfl)] at h
  obtain ⟨ps, ⟨g0, t0, cs0, f0, p0, q0, hg0, ht0, hv0, hd0, hrest⟩, _, _⟩ := h
  obtain rfl := Option.some.inj (gRows.symm.trans hg0)
  obtain rfl := Option.some.inj (tRows.symm.trans ht0)
  obtain ⟨xs, m1, rfl, hx1, hlen, hn3, hel⟩ := DataW.trod_array Tryd.underlying43 hd0
  have h12 : cs0.toList.length = 12 := hlen
  have h3 : Tryd.prog.cellsOf 42 = 3 := by kernel_rfl
  rw [h3] at hel
  have hcell := World.var?_cell hg0 hv0
  obtain ⟨L, rfl⟩ : ∃ L : List Value, cs0 = L.toArray := ⟨cs0.toList, by simp⟩
  match L, h12 with
  | [c0, c1, c2, c3, c4, c5, c6, c7, c8, c9, c10, c11], _ =>
    match xs, hn3 with
    | [x0, x1, x2, x3], _ =>
      simp only [Prod.mk.injEq, List.map_cons, List.map_nil] at hx1
      have hy := hx1.1
      unfold Rows.laid_causey_huff_rows at hy
      simp only [DataW.agg.injEq, List.cons.injEq, and_true] at hy
      obtain ⟨y0, y1, y2, y3⟩ := hy
      obtain ⟨a0, a1, a2⟩ := row_cells (hel 0 (by decide)) y0.symm
      obtain ⟨a3, a4, a5⟩ := row_cells (hel 1 (by decide)) y1.symm
      obtain ⟨a6, a7, a8⟩ := row_cells (hel 2 (by decide)) y2.symm
      obtain ⟨a9, a10, a11⟩ := row_cells (hel 3 (by decide)) y3.symm
      subst a0 a1 a2 a3 a4 a5 a6 a7 a8 a9 a10 a11
      intro j v hj
      rw [hcell j]
      exact hj
end Go.Proofs.YtfjmgfahlicleaaDoor
