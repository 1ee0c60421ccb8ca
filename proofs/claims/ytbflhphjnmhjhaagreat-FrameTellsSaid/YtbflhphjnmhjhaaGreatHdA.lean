/- Walks of package head's small functions, and of the document's: Right, Has, own, Known of the document. -/
import Derived.Test.YtbflhphjnmhjhaaGreatOcRStr
namespace Go.Proofs.YtbflhphjnmhjhaaGreat
open Go.RowKit Oct

def HeadIn (L S : Int) : Prop := 0 ≤ L ∧ L < 16777216 ∧ 0 ≤ S ∧ S < 2147483648
instance (L S : Int) : Decidable (HeadIn L S) := by unfold HeadIn; infer_instance
def headB (L S : Int) : Bool := decide (HeadIn L S)
def hasB (F f : Int) : Bool := bits .and .u8 F f == f
def knownB (k : Int) : Bool := decide (0 ≤ k ∧ k ≤ 9 ∨ k = 16)

theorem right_yes (L K F S : Int) (w : World) (h : HeadIn L S) :
    Calls Tryz.prog 40 #[.agg #[.int .i64 L, .int .u8 K, .int .u8 F, .int .i64 S]] w fun e w' => e = .returned (.bool true) ∧ Below w.heap.size w w' := by
  obtain ⟨h1, h2, h3, h4⟩ := h
  have d1 : (L / 16777216 == 0) = true := by simp; omega
  have d2 : (S / 2147483648 == 0) = true := by simp; omega
  go_enter Tryz.func40, Tryz.ntmps40
  go_wp2
  go_ret
  exact ⟨rfl, (Below.refl _ _).alloc (Nat.le_refl _) _⟩
theorem right_no (L K F S : Int) (w : World) (h : ¬ HeadIn L S) :
    Calls Tryz.prog 40 #[.agg #[.int .i64 L, .int .u8 K, .int .u8 F, .int .i64 S]] w fun e w' => e = .returned (.bool false) ∧ Below w.heap.size w w' := by
  unfold HeadIn at h
  by_cases h1 : 0 ≤ L ∧ L < 16777216
  · have d1 : (L / 16777216 == 0) = true := by simp; omega
    have d2 : (S / 2147483648 == 0) = false := by simp; omega
    clear h h1
    go_enter Tryz.func40, Tryz.ntmps40
    go_wp2
    go_ret
    exact ⟨rfl, (Below.refl _ _).alloc (Nat.le_refl _) _⟩
  · have d1 : (L / 16777216 == 0) = false := by simp; omega
    clear h h1
    go_enter Tryz.func40, Tryz.ntmps40
    go_wp2
    go_ret
    exact ⟨rfl, (Below.refl _ _).alloc (Nat.le_refl _) _⟩
theorem right_any (L K F S : Int) (w : World) :
    Calls Tryz.prog 40 #[.agg #[.int .i64 L, .int .u8 K, .int .u8 F, .int .i64 S]] w fun e w' => e = .returned (.bool (headB L S)) ∧ Below w.heap.size w w' := by
  unfold headB
  by_cases h : HeadIn L S
  · rw [decide_eq_true h]; exact right_yes L K F S w h
  · rw [decide_eq_false h]; exact right_no L K F S w h
theorem rright_any (L K F S : Int) (w : World) :
    Calls Tryz.prog 22 #[.agg #[.int .i64 L, .int .u8 K, .int .u8 F, .int .i64 S]] w fun e w' => e = .returned (.bool (headB L S)) ∧ Below w.heap.size w w' := by
  unfold headB HeadIn
  by_cases h1 : 0 ≤ L
  · by_cases h2 : L < 16777216
    · by_cases h3 : 0 ≤ S
      · by_cases h4 : S < 2147483648
        · rw [decide_eq_true (⟨h1, h2, h3, h4⟩ : 0 ≤ L ∧ L < 16777216 ∧ 0 ≤ S ∧ S < 2147483648)]
          have d1 := decide_eq_true h1
          have d2 := decide_eq_true h2
          have d3 := decide_eq_true h3
          have d4 := decide_eq_true h4
          go_enter Tryz.func22, Tryz.ntmps22
          go_wp2
          go_ret
          exact ⟨rfl, (Below.refl _ _).alloc (Nat.le_refl _) _⟩
        · rw [decide_eq_false (fun h : 0 ≤ L ∧ L < 16777216 ∧ 0 ≤ S ∧ S < 2147483648 => h4 h.2.2.2)]
          have d1 := decide_eq_true h1
          have d2 := decide_eq_true h2
          have d3 := decide_eq_true h3
          have d4 := decide_eq_false h4
          go_enter Tryz.func22, Tryz.ntmps22
          go_wp2
          go_ret
          exact ⟨rfl, (Below.refl _ _).alloc (Nat.le_refl _) _⟩
      · rw [decide_eq_false (fun h : 0 ≤ L ∧ L < 16777216 ∧ 0 ≤ S ∧ S < 2147483648 => h3 h.2.2.1)]
        have d1 := decide_eq_true h1
        have d2 := decide_eq_true h2
        have d3 := decide_eq_false h3
        go_enter Tryz.func22, Tryz.ntmps22
        go_wp2
        go_ret
        exact ⟨rfl, (Below.refl _ _).alloc (Nat.le_refl _) _⟩
    · rw [decide_eq_false (fun h : 0 ≤ L ∧ L < 16777216 ∧ 0 ≤ S ∧ S < 2147483648 => h2 h.2.1)]
      have d1 := decide_eq_true h1
      have d2 := decide_eq_false h2
      go_enter Tryz.func22, Tryz.ntmps22
      go_wp2
      go_ret
      exact ⟨rfl, (Below.refl _ _).alloc (Nat.le_refl _) _⟩
  · rw [decide_eq_false (fun h : 0 ≤ L ∧ L < 16777216 ∧ 0 ≤ S ∧ S < 2147483648 => h1 h.1)]
    have d1 := decide_eq_false h1
    go_enter Tryz.func22, Tryz.ntmps22
    go_wp2
    go_ret
    exact ⟨rfl, (Below.refl _ _).alloc (Nat.le_refl _) _⟩
theorem has_any (L K F S f : Int) (w : World) :
    Calls Tryz.prog 99 #[.agg #[.int .i64 L, .int .u8 K, .int .u8 F, .int .i64 S], .int .u8 f] w fun e w' => e = .returned (.bool (hasB F f)) ∧ Below w.heap.size w w' := by
  go_enter Tryz.func99, Tryz.ntmps99
  go_wp2
  go_ret
  exact ⟨rfl, (Below.refl _ _).alloc (Nat.le_refl _) _⟩
theorem rhas_any (L K F S f : Int) (w : World) :
    Calls Tryz.prog 97 #[.agg #[.int .i64 L, .int .u8 K, .int .u8 F, .int .i64 S], .int .u8 f] w fun e w' => e = .returned (.bool (hasB F f)) ∧ Below w.heap.size w w' := by
  go_enter Tryz.func97, Tryz.ntmps97
  go_wp2
  go_ret
  exact ⟨rfl, (Below.refl _ _).alloc (Nat.le_refl _) _⟩
end Go.Proofs.YtbflhphjnmhjhaaGreat
