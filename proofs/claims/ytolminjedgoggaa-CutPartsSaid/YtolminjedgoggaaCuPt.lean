/- CutParts: for its top. -/
import Derived.Test.YtolminjedgoggaaCuPc
namespace Go.Proofs.Ytolminjedgoggaa
theorem array2 {α : Type} {cs : Array α} (h : cs.size = 2) : ∃ c0 c1, cs = #[c0, c1] := by
  obtain ⟨l⟩ := cs
  match l, h with
  | [c0, c1], _ => exact ⟨c0, c1, rfl⟩
end Go.Proofs.Ytolminjedgoggaa
