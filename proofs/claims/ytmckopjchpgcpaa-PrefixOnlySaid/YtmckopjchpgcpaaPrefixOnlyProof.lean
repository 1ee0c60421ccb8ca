/-
  For every input causey/causeylaw06.PrefixOnly returns true, and each argument reads afterwards as it read before. No condition.
-/
import Derived.Test.YtmckopjchpgcpaaRows
import Derived.WalkKit
import Derived.ProofKit
import Derived.OpenShut
import Derived.ShutString
import Derived.ChangeOld
import Derived.Below
import Derived.Lib.SmallJoins
import Derived.Deep.SlicePairs
import Derived.Test.YtmckopjchpgcpaaPxLo
namespace Go.Proofs.Ytmckopjchpgcpaa.prefixOnly
open Go.ChangeShapes Go.WideShapes Go.ChangeAt Go.RowKit
open Go.ChangeMaps (open_string shut_string)
set_option linter.unusedVariables false

theorem own : ownKnob Try.prog.godebug = none := by kernel_rfl
theorem laidOut : laidOutB Try.prog = true := by kernel_rfl

def IsRow (k : IntKind) (w : World) (a : Option Addr) (len cap : Nat) (zs : List Int) : Prop :=
  (a = none ∧ len = 0 ∧ cap = 0 ∧ zs = []) ∨
  ∃ x, a = some x ∧ len ≤ cap ∧ cap ≤ maxLen ∧ zs.length = cap ∧ (∀ i, i < zs.length → w.cell? (x.add i) = some (.int k (zs.getD i 0))) ∧ ∀ n ∈ zs, (Lit.int k n).wf = true

theorem walk (a0 : Option Addr) (len0 cap0 : Nat) (z0 : List Int) (a1 : Int) (w : World) (w0 : IsRow .u8 w a0 len0 cap0 z0) (w1 : (Lit.int .i64 a1).wf = true) :
    Calls Try.prog 5 #[.slice a0 len0 cap0, .int .i64 a1] w fun e w' => e = .returned (.bool true) ∧ Below w.heap.size w w' := by
  obtain ⟨xs, hA, hc, hm, hn⟩ := rowBytes w0
  by_cases h : 300 < len0
  · exact lo_great a0 len0 cap0 a1 w h hm
  by_cases hk : 1 ≤ a1 ∧ a1 ≤ 8
  · obtain ⟨k, rfl⟩ := Int.eq_ofNat_of_zero_le (show 0 ≤ a1 by omega)
    have h1 : 1 ≤ k := by omega
    have h8 : k ≤ 8 := by omega
    have hcode := Px.take_code xs k
    have hnone := Px.take_none xs k
    have htc := Px.takC_yes (xs := xs) h1 h8
    rcases hcode with h0 | h10 | h60
    · exact lo_yes a0 len0 cap0 k (Px.takeN xs k).2.1 (Px.takeN xs k).2.2 xs w hA hc (by omega) h1 h8 (Prod.ext h0 rfl)
    · have ht : Px.takC xs (k : Int) = (10, 0, 0) := by rw [htc]; exact Prod.ext h10 (hnone (by omega))
      by_cases hz : len0 = 0
      · exact lo_e a0 len0 cap0 k xs w hA hc (by omega) hk hz ht
      · exact lo_f a0 len0 cap0 k xs w hA hc (by omega) hk hz ht
    · have ht : Px.takC xs (k : Int) = (60, 0, 0) := by rw [htc]; exact Prod.ext h60 (hnone (by omega))
      by_cases hz : len0 = 0
      · have hl := hA.1
        have hx : xs = [] := List.eq_nil_of_length_eq_zero (by omega)
        rw [hx] at h60
        cases h60
      · exact lo_g a0 len0 cap0 k xs w hA hc (by omega) hk hz ht
  · have ht := Px.takC_no (xs := xs) hk
    by_cases hlo : a1 < 1
    · by_cases hz : len0 = 0
      · exact lo_a a0 len0 cap0 a1 xs w hA hc (by omega) hlo hz ht
      · exact lo_b a0 len0 cap0 a1 xs w hA hc (by omega) hlo hz ht
    · by_cases hz : len0 = 0
      · exact lo_c a0 len0 cap0 a1 xs w hA hc (by omega) (by omega) hz ht
      · exact lo_d a0 len0 cap0 a1 xs w hA hc (by omega) (by omega) hz ht

set_option maxRecDepth 100000 in
theorem lifted (os : Os) (started : os.Started) (H : Type) (enc : TypeId × Value → H) :
    ReturnsInHanded {} Try.checked os 5 .any (Rows.prefixOnlySpec.pre6 enc Try.prog Try.f5 Rows.prefixOnlyRow.domain false) (Rows.prefixOnlySpec.post enc Try.prog Try.f5 false true false false) := by
  refine returnsInHanded_of_change (C := Try.checked) own started (by kernel_rfl) Try.func5
    (ChangeSpec.witness6 (enc := enc) (C := Try.checked) false ⟨#[], #[.slice none 0 0, .int .i64 0], []⟩ 8 (by kernel_rfl) (by kernel_rfl) (by kernel_rfl) (by kernel_rfl)) ?_
  intro W base args ds gs before hval0 hW hcnd _
  have hval : ∀ (j : Nat) t v, Try.f5.params[j]? = some t → args[j]? = some v → Value.okWide Try.prog W .any base t v := hval0
  have hW' := hW
  obtain ⟨p, q, hA0, hV, rfl, hfz, hnd⟩ := hW
  have hA : DataW.TrodAll enc Try.prog W 0 (fun _ => true) true Try.f5.params.toList args.toList ds p := hA0
  rw [Try.params5] at hA hval
  obtain ⟨v0, vs0, d0, ds0, p0, q0, hargs, rfl, rfl, h0, r0⟩ := trodAll_cons hA
  obtain ⟨v1, vs1, d1, ds1, p1, q1, rfl, rfl, rfl, h1, r1⟩ := trodAll_cons r0
  obtain ⟨rfl, rfl, rfl⟩ := trodAll_nil r1
  obtain rfl : args = #[v0, v1] := by cases args; simp_all
  obtain ⟨rfl, rfl⟩ := trodVars_none hV
  obtain ⟨a0, len0, cap0, rfl⟩ := okWide_slice Try.underlying22 (hval 0 22 v0 rfl rfl)
  have k0 := h0
  have lt0 : ∀ x ∈ p0, x.block < W.heap.size := by obtain ⟨m, hm⟩ := k0; exact DataW.trod_lt m _ _ _ hm
  obtain ⟨z0, w0⟩ : ∃ zs, IsRow .u8 W a0 len0 cap0 zs := by
    obtain ⟨fuel, hf⟩ := h0
    rcases open_ints Try.underlying22 Try.underlying5 (by kernel_rfl) hf with ⟨hcs, _⟩ | ⟨x, l, c, zs, hcs, _, hl, hm, hz, _, hcell, hwz⟩
    · simp [Value.cells] at hcs
      obtain ⟨rfl, rfl, rfl⟩ := hcs
      exact ⟨[], .inl ⟨rfl, rfl, rfl, rfl⟩⟩
    · simp [Value.cells] at hcs
      obtain ⟨rfl, rfl, rfl⟩ := hcs
      exact ⟨zs, .inr ⟨_, rfl, hl, hm, by simpa using hz, hcell, hwz⟩⟩
  obtain ⟨a1, rfl, rfl, rfl, w1⟩ := open_int Try.underlying3 (hval 1 3 v1 rfl rfl) h1
  clear hA0 hval0
  refine (walk a0 len0 cap0 z0 a1 W w0 w1).mono fun e W' ⟨he, bel⟩ => ?_
  subst he
  exact ⟨_, rfl, _, _, _, [], _, [], hW', trodAll_mk1 (shut_bool Try.underlying4 _), (trodAll_cons_mk (Below.trod laidOut (by kernel_rfl) (of_decide_eq_true (by kernel_rfl)) k0 bel lt0) (trodAll_cons_mk (shut_int Try.underlying3 w1) trodAll_mk0)), rfl, bel.frame _, fun h => by cases h⟩

theorem over : Rows.prefixOnlyRow.holds Try.pinned (OpenSpec.ofChange Rows.prefixOnlySpec) :=
  OpenClaim.holds_of_wide 5 Try.f5 rfl rfl rfl rfl rfl rfl rfl ⟨rfl, rfl, rfl, rfl, rfl⟩ rfl rfl rfl rfl rfl (by kernel_rfl) Try.func5 (by kernel_rfl)
    (of_decide_eq_true (by kernel_rfl)) (by unfold Func.isWrapper; first | (rw [if_pos (by decide +kernel)]; kernel_rfl) | (rw [if_neg (by decide +kernel)]; exact ⟨rfl, rfl⟩))
    (fun os started H enc _ => lifted os started H enc)

theorem proved : Rows.PrefixOnlySaid := over
end Go.Proofs.Ytmckopjchpgcpaa.prefixOnly
