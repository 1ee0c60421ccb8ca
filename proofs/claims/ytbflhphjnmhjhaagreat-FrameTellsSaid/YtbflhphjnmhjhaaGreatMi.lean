/- FrM. -/
import Derived.Test.YtbflhphjnmhjhaaGreatMx
/- The document's Great, Own, four. -/
namespace Go.Proofs.YtbflhphjnmhjhaaGreat
open Go.RowKit Oct Fi Fm
set_option linter.unusedVariables false
set_option linter.unusedSimpArgs false
attribute [local go_sem] i64_and1 i64_and7 i64_and31

theorem m_great (f : Fr) (A D : Option Addr) (n c m e : Nat) (w : World) :
    Calls Tryz.prog 4 #[frv f (.slice A n c) (.slice D m e)] w fun e w' => e = .returned (.bool (decide (3000 < n ∨ 300 < m))) ∧ Below w.heap.size w w' := by
  unfold frv
  by_cases h1 : 3000 < n
  · have d1 : decide (3000 < (n : Int)) = true := by simp; omega
    rw [decide_eq_true (Or.inl h1 : 3000 < n ∨ 300 < m)]
    go_enter Tryz.func4, Tryz.ntmps4
    go_wp2
    go_ret
    exact ⟨rfl, (Below.refl _ w).alloc (Nat.le_refl _) _⟩
  · have d1 : decide (3000 < (n : Int)) = false := by simp; omega
    by_cases h2 : 300 < m
    · have d2 : decide (300 < (m : Int)) = true := by simp; omega
      rw [decide_eq_true (Or.inr h2 : 3000 < n ∨ 300 < m)]
      go_enter Tryz.func4, Tryz.ntmps4
      go_wp2
      go_ret
      exact ⟨rfl, (Below.refl _ w).alloc (Nat.le_refl _) _⟩
    · have d2 : decide (300 < (m : Int)) = false := by simp; omega
      rw [decide_eq_false (fun h : 3000 < n ∨ 300 < m => h.elim h1 h2)]
      go_enter Tryz.func4, Tryz.ntmps4
      go_wp2
      go_ret
      exact ⟨rfl, (Below.refl _ w).alloc (Nat.le_refl _) _⟩
namespace Fm
def fourN (f : Fr) : Int := if f.kd.toNat = 16 then f.la else if f.kd.toNat = 8 then f.ic else (f.co.toNat : Int)
end Fm
theorem f_box {w w1 : World} {a0 a1 a2 a3 a4 a5 a6 a7 a8 a9 a10 a11 a12 : Value} {t : TypeId} (hb : Below (w.alloc (.cells #[a0, a1, a2, a3, a4, a5, a6, a7, a8, a9, a10, a11, a12] t)).heap.size (w.alloc (.cells #[a0, a1, a2, a3, a4, a5, a6, a7, a8, a9, a10, a11, a12] t)) w1) : w1.heap[w.heap.size]? = some (.cells #[a0, a1, a2, a3, a4, a5, a6, a7, a8, a9, a10, a11, a12] t) := by
  rw [hb.block _ (by simp)]
  exact World.alloc_heap_new w _
theorem m_four (f : Fr) (A D : Option Addr) (n c m e : Nat) (w : World) :
    Calls Tryz.prog 50 #[frv f (.slice A n c) (.slice D m e)] w fun e w' => ∃ v, e = .returned v ∧ OwnB w' w.heap.size 5 v (putV (fourN f) 4) ∧ Below w.heap.size w w' := by
  have HT : ∀ (N : Int) (w : World), Calls Tryz.prog 53 #[.int .i64 N, .int .i64 4] w fun e w' => ∃ v, e = .returned (.tuple #[v, .int .i64 (putE N 4)]) ∧ OwnB w' w.heap.size 5 v (putV N 4) ∧ Below w.heap.size w w' := fun N w => by
    unfold putV putE
    by_cases h : PutIn N 4
    · rw [if_pos h, if_pos h]
      exact rput_ok N 4 w h.1 h.2.1 h.2.2.1 h.2.2.2
    · rw [if_neg h, if_neg h]
      refine (rput_no N 4 w h).mono ?_
      rintro e w' ⟨rfl, rfl⟩
      exact ⟨_, rfl, OwnB.nil_ _ _ _, Below.refl _ _⟩
  have hT := Lib.hid HT
  clear HT
  have hco := f.co.toNat_lt
  unfold frv
  by_cases h16 : f.kd.toNat = 16
  · have e : fourN f = f.la := by unfold fourN; rw [if_pos h16]
    rw [e]
    have d8 : ((f.kd.toNat : Int) == 8) = false := by rw [beq_eq_false_iff_ne]; omega
    have d16 : ((f.kd.toNat : Int) == 16) = true := by simp; omega
    clear h16 e
    go_enter Tryz.func50, Tryz.ntmps50
    go_wp2_with (go_at_call 53; (with_reducible refine (hT.out _ _).mono ?_); rintro e w1 ⟨v1, rfl, ho, hb⟩; have HH := Lib.hid ho; have HB := Lib.hid hb; clear ho hb)
    go_ret
    exact ⟨_, rfl, HH.out.less (by simp), below_lit (Below.refl _ w) HB.out⟩
  · have d16 : ((f.kd.toNat : Int) == 16) = false := by rw [beq_eq_false_iff_ne]; omega
    by_cases h8 : f.kd.toNat = 8
    · have e : fourN f = f.ic := by unfold fourN; rw [if_neg h16, if_pos h8]
      rw [e]
      have d8 : ((f.kd.toNat : Int) == 8) = true := by simp; omega
      clear h16 h8 e
      go_enter Tryz.func50, Tryz.ntmps50
      go_wp2_with (go_at_call 53; (with_reducible refine (hT.out _ _).mono ?_); rintro e w1 ⟨v1, rfl, ho, hb⟩; have HH := Lib.hid ho; have HB := Lib.hid hb; clear ho hb)
      go_ret
      exact ⟨_, rfl, HH.out.less (by simp), below_lit (Below.refl _ w) HB.out⟩
    · have e : fourN f = (f.co.toNat : Int) := by unfold fourN; rw [if_neg h16, if_neg h8]
      rw [e]
      have d8 : ((f.kd.toNat : Int) == 8) = false := by rw [beq_eq_false_iff_ne]; omega
      clear h16 h8 e
      go_enter Tryz.func50, Tryz.ntmps50
      go_wp2_with (go_at_call 53; (with_reducible refine (hT.out _ _).mono ?_); rintro e w1 ⟨v1, rfl, ho, hb⟩; have HH := Lib.hid ho; have HB := Lib.hid hb; clear ho hb)
      go_ret
      exact ⟨_, rfl, HH.out.less (by simp), below_lit (Below.refl _ w) HB.out⟩
end Go.Proofs.YtbflhphjnmhjhaaGreat
