/- CutBegins. -/
import Derived.Test.YtjoopekgbfplpaaCuWm
import Derived.Test.YtjoopekgbfplpaaGArgs
namespace Go.Proofs.Ytjoopekgbfplpaa
open Go.RowKit Oct Cu Go.Shelf
set_option linter.unusedVariables false
set_option linter.unusedSimpArgs false
/-- What Feed comes to, in letters. -/
def FeedTo (p : Int) (r : List UInt8) (rn : Nat) (cs : List UInt8) (cn P : Nat) (R : List UInt8) (RN X : Nat) (xb : Bool) (L : List (List UInt8)) (LN : Nat) : Prop :=
  ∀ (A A' : Option Addr) (c c' : Nat) (w : World), Bs w w.heap.size A rn r → (A = none → c = 0) → rn ≤ c → Bs w w.heap.size A' cn cs → (A' = none → c' = 0) → cn ≤ c' →
    Calls Try.prog 7 #[.agg #[.int .i64 p, .slice A rn c], .slice A' cn c'] w fun e w' => ∃ A1 c1 A2 c2 qs, e = .returned (.tuple #[.agg #[.int .i64 (P : Int), .slice A1 RN c1], .slice A2 LN c2, .agg #[.bool xb, .int .i64 0, .int .u32 (X : Int)], .int .i64 0]) ∧
      HandS w' w.heap.size A1 RN c1 R ∧ HandQ w' w.heap.size A2 LN c2 qs ∧ qs.map (·.f) = L ∧ Below w.heap.size w w'
theorem feedTo {pI : Int} {p : Nat} {r : List UInt8} {rn : Nat} {cs : List UInt8} {cn P : Nat} {R : List UInt8} {RN X : Nat} {xb : Bool} {L : List (List UInt8)} {LN : Nat} (hR : RightR p r) (h3 : rn ≤ 50000) (h4 : cn ≤ 50000) (eP : fdP p cs = P) (eR : fdR p r cs = R) (eX : fdX p r cs = X) (eb : (X != 0) = xb) (eL : fdL p r cs = L) (h5 : R.length = RN) (h6 : L.length = LN) (hpI : (p : Int) = pI) :
    FeedTo pI r rn cs cn P R RN X xb L LN := by
  subst eP eR eX eb eL h5 h6 hpI
  intro A A' c c' w h hN hc h' hN' hc'
  exact c_feed p A A' rn c cn c' r cs w h hN hc h3 h' hN' hc' h4 hR
theorem own_lit1 (w : World) (t : TypeId) (C : UInt8) (B : Nat) (hB : B ≤ w.heap.size) : OwnB (w.alloc (.cells #[.int .u8 (C.toNat : Int)] t)) B t (.slice (some ⟨w.heap.size, 0, none⟩) 1 1) [C] :=
  RowB.own (ys := [C]) (World.alloc_heap_new w _) hB (by simp; unfold maxLen; omega)
end Go.Proofs.Ytjoopekgbfplpaa
