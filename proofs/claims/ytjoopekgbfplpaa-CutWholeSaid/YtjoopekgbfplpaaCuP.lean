/- CutParts: what its drawn regions want. Plain. -/
import Derived.Test.YtjoopekgbfplpaaCuLb
namespace Go.Proofs.Ytjoopekgbfplpaa
open Go.RowKit Oct Cu Go.Shelf
set_option linter.unusedVariables false
/-- The operations of the region of this number. -/
def opsOf (id : Nat) : Code → List Oper
  | .region i ops _ => if i = id then ops.toList else []
  | .seq a b => opsOf id a ++ opsOf id b
  | .cond _ a b => opsOf id a ++ opsOf id b
  | .block _ b => opsOf id b
  | .loop b => opsOf id b
  | .scope b => opsOf id b
  | _ => []
theorem EnvF.swap {w : World} {fs : List Fact} {gs : List Bx} {x y : Bx} (h : EnvF w fs (x :: y :: gs)) : EnvF w fs (y :: x :: gs) :=
  have hp : List.Perm (x :: y :: gs) (y :: x :: gs) := List.Perm.swap y x gs
  ⟨fun z hz => ⟨(h.f z hz).1, fun k hk => ⟨((h.f z hz).2 k hk).1, fun u hu => ((h.f z hz).2 k hk).2 u (hp.mem_iff.2 hu)⟩⟩,
    fun u hu => h.g u (hp.mem_iff.2 hu), (hp.map Prod.fst).nodup_iff.1 h.d⟩
theorem EnvF.cutT {w : World} {fs : List Fact} {gs : List Bx} {A : Option Addr} {n k : Nat} {xs : List UInt8} (h : EnvF w fs gs) (hm : bF A n xs ∈ fs) (hk : k ≤ n) : EnvF w (bF A k (xs.take k) :: fs) gs :=
  h.less hm ((h.bs hm).take hk) (fun j ⟨hj, o, e⟩ => ⟨by omega, o, e⟩)
theorem EnvF.cutD {w : World} {fs : List Fact} {gs : List Bx} {A : Option Addr} {n c k : Nat} {xs : List UInt8} (h : EnvF w fs gs) (hm : bF A n xs ∈ fs) (hk : k ≤ n) (hc : n ≤ c) : EnvF w (bF (if c = k then A else A.map fun x => x.add k) (n - k) (xs.drop k) :: fs) gs :=
  h.less hm ((h.bs hm).cutO' hk hc) (fun j ⟨hj, o, e⟩ => by
    refine ⟨by omega, ?_⟩
    rw [if_neg (by omega)] at e
    obtain ⟨b, o', e', _, _⟩ := (h.bs hm).2 (by omega)
    subst e'
    refine ⟨o', ?_⟩
    by_cases h0 : k = 0
    · simp [Addr.add, h0] at e
      rw [e.1]
    · simp [Addr.add, h0] at e
      rw [e.1])
end Go.Proofs.Ytjoopekgbfplpaa
