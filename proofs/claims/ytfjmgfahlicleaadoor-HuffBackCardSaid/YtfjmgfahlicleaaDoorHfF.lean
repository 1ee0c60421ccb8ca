/- Package huff: find. -/
import Derived.Test.YtfjmgfahlicleaaDoorHfD
import Derived.Test.YtfjmgfahlicleaaDoorGNum
import Derived.WalkSpells
import Derived.Laws.Strings
import Derived.Lib.Strings
import Derived.Test.YtfjmgfahlicleaaDoorGArgs
namespace Go.Proofs.YtfjmgfahlicleaaDoor
open Go.RowKit Hf
set_option linter.unusedVariables false
set_option linter.unusedSimpArgs false
namespace Hf
theorem int_wf {n : Int} (h : -9223372036854775808 ≤ n) (h2 : n ≤ 9223372036854775807) : (Lit.int .i64 n).wf = true := by
  simpa [Lit.wf, IntKind.min, IntKind.max, IntKind.signed, IntKind.bits] using And.intro h h2
theorem and15 (n : Int) : bits .and .i64 n 15 = n % 16 := i64_and_mask n 15 4 (by decide) (by decide)
/-- What find answers. -/
def fnV (code many : Int) : Int := match findN code many with
  | some c => (c.toNat : Int)
  | none => 0
def fnS (code many : Int) : Bool := (findN code many).isSome
theorem run_index_str (s : ByteArray) (i : Nat) (w : World) (h : i < s.size) : (Instr.index 9 (.string s) (.int .i64 (i : Int))).run Tryd.prog w = .ok (.int .u8 ((s.data.toList[i]?.getD 0).toNat : Int)) w := by
  rw [run_index_string w _ s _ _ Tryd.underlying9, dif_pos ⟨by omega, by omega⟩]
  congr 3
  rw [List.getElem?_eq_getElem (by rw [← Lib.size_eq]; exact h), Option.getD_some]
  simp only [Int.toNat_natCast]
  rfl
theorem chunk_size (t : Nat) (ht : t < 16) : (chunk t).size = 16 := by
  have := shelf_len ⟨t, ht⟩
  rw [Lib.size_eq]
  exact this
end Hf
theorem h_find (b : Nat) (code many : Int) (w : World) (hm : MapL w Tryd.prog 61 b (bookL 16)) (wc : (Lit.int .i64 code).wf = true) (wm : (Lit.int .i64 many).wf = true) :
    Calls Tryd.prog 28 #[.map (some b), .int .i64 code, .int .i64 many] w fun e w' => e = .returned (.tuple #[.int .u8 (fnV code many), .bool (fnS code many)]) ∧ w = w' := by
  have wd : (Lit.int .i64 (code / 16)).wf = true := by
    have := int_bounds wc
    exact int_wf (by omega) (by omega)
  obtain ⟨q, hq⟩ := shelf_key (code / 16) many wd wm
  by_cases h : ∃ t, t < 16 ∧ code / 16 = ((shelf t).1 : Int) ∧ many = ((shelf t).2.1 : Int)
  · obtain ⟨t, ht, h1, h2⟩ := h
    have hf := find_shelf ht h1 h2
    have hlk := hm.look_yes shelf_keyed Tryd.underlying47 (t := 47) (v := .string (chunk t)) hq (by
      rw [h1, h2]
      exact List.mem_map.2 ⟨t, List.mem_range.2 ht, rfl⟩)
    obtain ⟨i, hi⟩ : ∃ i : Nat, code % 16 = (i : Int) := ⟨(code % 16).toNat, by omega⟩
    have hi16 : i < 16 := by omega
    have han : bits .and .i64 code 15 = (i : Int) := by rw [and15, hi]
    have hix := run_index_str (chunk t) i w (by rw [chunk_size t ht]; exact hi16)
    have hV : fnV code many = (((chunk t).data.toList[i]?.getD 0).toNat : Int) := by
      unfold fnV
      rw [hf, hi, Int.toNat_natCast]
      rfl
    have hS : fnS code many = true := by unfold fnS; rw [hf]; rfl
    rw [hV, hS]
    clear hV hS hf hi h1 h2 hq hm wd wc wm
    go_enter Tryd.func28, Tryd.ntmps28
    go_wp2
    go_ret2
    exact ⟨by simp, rfl⟩
  · have hf := find_none (code := code) (many := many) fun t ht hc => h ⟨t, ht, hc⟩
    have hlk := hm.look_no shelf_keyed Tryd.underlying47 (t := 47) (z := .string ⟨#[]⟩) (by kernel_rfl) hq (by
      intro p hp e
      obtain ⟨t, ht, rfl⟩ := List.mem_map.1 hp
      refine h ⟨t, List.mem_range.1 ht, ?_⟩
      simp only [keyV, Value.agg.injEq, Array.mk.injEq, List.cons.injEq, Value.int.injEq, true_and, and_true] at e
      exact ⟨e.1.symm, e.2.symm⟩)
    have hV : fnV code many = 0 := by unfold fnV; rw [hf]
    have hS : fnS code many = false := by unfold fnS; rw [hf]; rfl
    rw [hV, hS]
    clear hV hS hf h hq hm
    go_enter Tryd.func28, Tryd.ntmps28
    go_wp2
    go_ret2
    exact ⟨rfl, rfl⟩
end Go.Proofs.YtfjmgfahlicleaaDoor
