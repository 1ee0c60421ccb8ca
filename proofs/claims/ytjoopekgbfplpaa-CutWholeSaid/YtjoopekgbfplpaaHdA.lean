/- Walks of package head's small functions, and of the document's: Right, Has, own, Known of the document. -/
import Derived.Test.YtjoopekgbfplpaaOcRStr
namespace Go.Proofs.Ytjoopekgbfplpaa
open Go.RowKit Oct

def HeadIn (L S : Int) : Prop := 0 ≤ L ∧ L < 16777216 ∧ 0 ≤ S ∧ S < 2147483648
instance (L S : Int) : Decidable (HeadIn L S) := by unfold HeadIn; infer_instance
def headB (L S : Int) : Bool := decide (HeadIn L S)
def hasB (F f : Int) : Bool := bits .and .u8 F f == f
def knownB (k : Int) : Bool := decide (0 ≤ k ∧ k ≤ 9 ∨ k = 16)

theorem rright_any (L K F S : Int) (w : World) :
    Calls Try.prog 23 #[.agg #[.int .i64 L, .int .u8 K, .int .u8 F, .int .i64 S]] w fun e w' => e = .returned (.bool (headB L S)) ∧ Below w.heap.size w w' := by
  unfold headB HeadIn
  by_cases h1 : 0 ≤ L
  · by_cases h2 : L < 16777216
    · by_cases h3 : 0 ≤ S
      · by_cases h4 : S < 2147483648
        · rw [decide_eq_true (⟨h1, h2, h3, h4⟩ : 0 ≤ L ∧ L < 16777216 ∧ 0 ≤ S ∧ S < 2147483648)]
          have d1 := decide_eq_true h1
          have d2 := decide_eq_true h2
          have d3 := decide_eq_true h3
          have d4 := decide_eq_true h4
          go_enter Try.func23, Try.ntmps23
          go_wp2
          go_ret
          exact ⟨rfl, (Below.refl _ _).alloc (Nat.le_refl _) _⟩
        · rw [decide_eq_false (fun h : 0 ≤ L ∧ L < 16777216 ∧ 0 ≤ S ∧ S < 2147483648 => h4 h.2.2.2)]
          have d1 := decide_eq_true h1
          have d2 := decide_eq_true h2
          have d3 := decide_eq_true h3
          have d4 := decide_eq_false h4
          go_enter Try.func23, Try.ntmps23
          go_wp2
          go_ret
          exact ⟨rfl, (Below.refl _ _).alloc (Nat.le_refl _) _⟩
      · rw [decide_eq_false (fun h : 0 ≤ L ∧ L < 16777216 ∧ 0 ≤ S ∧ S < 2147483648 => h3 h.2.2.1)]
        have d1 := decide_eq_true h1
        have d2 := decide_eq_true h2
        have d3 := decide_eq_false h3
        go_enter Try.func23, Try.ntmps23
        go_wp2
        go_ret
        exact ⟨rfl, (Below.refl _ _).alloc (Nat.le_refl _) _⟩
    · rw [decide_eq_false (fun h : 0 ≤ L ∧ L < 16777216 ∧ 0 ≤ S ∧ S < 2147483648 => h2 h.2.1)]
      have d1 := decide_eq_true h1
      have d2 := decide_eq_false h2
      go_enter Try.func23, Try.ntmps23
      go_wp2
      go_ret
      exact ⟨rfl, (Below.refl _ _).alloc (Nat.le_refl _) _⟩
  · rw [decide_eq_false (fun h : 0 ≤ L ∧ L < 16777216 ∧ 0 ≤ S ∧ S < 2147483648 => h1 h.1)]
    have d1 := decide_eq_false h1
    go_enter Try.func23, Try.ntmps23
    go_wp2
    go_ret
    exact ⟨rfl, (Below.refl _ _).alloc (Nat.le_refl _) _⟩
/-- own: the bytes, in memory of the call's own. -/
theorem own_any (A : Option Addr) (B n c : Nat) (xs : List UInt8) (w : World) (hA : Bs w B A n xs) (hAc : A = none → c = 0) (hn : n ≤ 1000000) :
    Calls Try.prog 32 #[.slice A n c] w fun e w' => ∃ v, e = .returned v ∧ OwnB w' w.heap.size 5 v xs ∧ Below w.heap.size w w' := by
  have HA := Lib.hid hA
  have HAc := Lib.hid hAc
  clear hA hAc
  obtain ⟨i0, hi, hz0, hz1, hz2⟩ := info_parts info_u8
  have hinf := Lib.hid (And.intro hi (And.intro hz0 (And.intro hz1 hz2)))
  clear hi hz0 hz1 hz2
  go_enter Try.func32, Try.ntmps32
  go_wp2_with (at_builtin; refine wpList_append_bytes _ rfl (.const (.slice none 0 0)) (.tmp 3) 22 rfl w.heap.size 5 i0 Try.underlying22 hinf.out.1 hinf.out.2.1 hinf.out.2.2.1 hinf.out.2.2.2 _ [] rfl (OwnB.nil_ w _ _) B A n c xs rfl HA.out HAc.out (by simp; omega) (Nat.le_refl _) ?_; intro v1 w1 hown1 hb1)
  go_ret
  exact ⟨_, rfl, by simpa using hown1, hb1⟩
end Go.Proofs.Ytjoopekgbfplpaa
