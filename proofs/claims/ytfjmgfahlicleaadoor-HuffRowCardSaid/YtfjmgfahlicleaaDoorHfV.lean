/- Layer 7: Of; samples. -/
import Derived.Test.YtfjmgfahlicleaaDoorHfN
import Derived.Test.YtfjmgfahlicleaaDoorHfU
import Derived.Lib.SmallJoins
namespace Go.Proofs.YtfjmgfahlicleaaDoor
open Go.RowKit Hf Oct
set_option linter.unusedVariables false
set_option linter.unusedSimpArgs false
theorem h_of (code many : Int) (w : World) (hR : Rws w) (wc : (Lit.int .i64 code).wf = true) (wm : (Lit.int .i64 many).wf = true) :
    Calls Tryd.prog 11 #[.int .i64 code, .int .i64 many] w fun e w' => e = .returned (.tuple #[.int .u8 (fnV code many), .bool (fnS code many)]) ∧ Below w.heap.size w w' := by
  have HBK := Lib.hid (h_book w hR)
  have HW := Lib.hid (And.intro wc wm)
  clear hR wc wm
  go_enter Tryd.func11, Tryd.ntmps11
  go_wp2_with (first
    | (go_at_call 27; (with_reducible refine HBK.out.mono ?_); rintro e w1 ⟨rfl, hm1, hb1⟩; have HM1 := Lib.hid hm1; have HB1 := Lib.hid hb1; clear hm1 hb1)
    | (go_at_call 28; (with_reducible refine (h_find w.heap.size code many w1 HM1.out HW.out.1 HW.out.2).mono ?_); rintro e w2 ⟨rfl, rfl⟩))
  go_ret2
  exact ⟨rfl, HB1.out⟩
namespace Hf
/-- The variable of all rows, as a fact. -/
def rF : Fact where
  on k := k = 0
  is w := Rws w
  dep w w' h hz hk := fun j v hj => (World.cell?_of_block (hk 0 rfl)).trans (h j v hj)
theorem EnvF.rws {w : World} {fs : List Fact} {gs : List Bx} (h : EnvF w fs gs) (hm : rF ∈ fs) : Rws w := (h.f _ hm).1
theorem bs_litm (w : World) (t : TypeId) (xs : List UInt8) (cs : Array Value) (g : Nat) (fr : Nat × Nat) (hg : w.heap.size = g) (h : (xs.map bv).toArray = cs) : Bs (w.alloc (.cells cs t fr)) (g + 1) (some ⟨g, 0, none⟩) xs.length xs := by
  subst hg
  subst h
  refine ⟨rfl, fun hn => ⟨w.heap.size, 0, rfl, by omega, fun j hj => ?_⟩⟩
  rw [Nat.zero_add, Go.Joins.cell_alloc_mark_at w _ t fr w.heap.size j rfl]
  simp [hj, bv]
theorem EnvF.litm {w : World} {fs : List Fact} {gs : List Bx} (h : EnvF w fs gs) (t : TypeId) (xs : List UInt8) (cs : Array Value) (hx : (xs.map bv).toArray = cs) (n : Nat) (hn : xs.length = n) (g : Nat) (fr : Nat × Nat) (hg : w.heap.size = g) : EnvF (w.alloc (.cells cs t fr)) (bF (some ⟨g, 0, none⟩) n xs :: fs) gs := by
  subst hn
  refine h.hand ((Below.refl _ w).alloc (Nat.le_refl _) _) ⟨?_, fun k hk => ?_⟩
  · have := bs_litm w t xs cs g fr hg hx
    exact this.more (by rw [World.size_alloc]; omega)
  · obtain ⟨_, o, e⟩ := hk
    cases e
    rw [World.size_alloc]
    omega
theorem envR (w : World) (h : Rws w) : EnvF w [rF] [] := (EnvF.nil w).add0 (x := rF) h (fun k hk => by cases hk; exact h.lt)
end Hf
theorem s_code1 (w : World) (hR : Rws w) : Calls Tryd.prog 9 #[.int .u8 97] w fun e w' => e = .returned (.tuple #[.int .i64 6, .int .i64 5]) ∧ Below w.heap.size w w' := by
  have h := h_code 97 w hR
  rw [show cod (97 : UInt8) = 6 from by decide +kernel, show mny (97 : UInt8) = 5 from by decide +kernel] at h
  exact h
theorem s_code2 (w : World) (hR : Rws w) : Calls Tryd.prog 9 #[.int .u8 0] w fun e w' => e = .returned (.tuple #[.int .i64 1792, .int .i64 11]) ∧ Below w.heap.size w w' := by
  have h := h_code 0 w hR
  rw [show cod (0 : UInt8) = 1792 from by decide +kernel, show mny (0 : UInt8) = 11 from by decide +kernel] at h
  exact h
theorem s_of1 (w : World) (hR : Rws w) : Calls Tryd.prog 11 #[.int .i64 6, .int .i64 5] w fun e w' => e = .returned (.tuple #[.int .u8 97, .bool true]) ∧ Below w.heap.size w w' := by
  have h := h_of 6 5 w hR (by decide) (by decide)
  rw [show fnV 6 5 = 97 from by decide +kernel, show fnS 6 5 = true from by decide +kernel] at h
  exact h
theorem s_of2 (w : World) (hR : Rws w) : Calls Tryd.prog 11 #[.int .i64 2047, .int .i64 11] w fun e w' => e = .returned (.tuple #[.int .u8 0, .bool false]) ∧ Below w.heap.size w w' := by
  have h := h_of 2047 11 w hR (by decide) (by decide)
  rw [show fnV 2047 11 = 0 from by decide +kernel, show fnS 2047 11 = false from by decide +kernel] at h
  exact h
theorem s_take1 (A : Option Addr) (c : Nat) (w : World) (hR : Rws w) (hA : Bs w w.heap.size A 1 [55]) : Calls Tryd.prog 13 #[.slice A 1 c] w fun e w' => ∃ A' c', e = .returned (.tuple #[.slice A' 1 c', .int .i64 0]) ∧ HandS w' w.heap.size A' 1 c' [97] ∧ Below w.heap.size w w' := by
  have h := h_take A 1 c [55] w hR hA (by omega)
  rw [show takeL [55] = [97] from by decide +kernel, show takeE [55] = 0 from by decide +kernel] at h
  refine h.mono ?_
  rintro e w' ⟨A', m, c', rfl, hh, hb⟩
  have hm : 1 = m := hh.1.1
  subst hm
  exact ⟨A', c', rfl, hh, hb⟩
theorem s_take2 (A : Option Addr) (c : Nat) (w : World) (hR : Rws w) (hA : Bs w w.heap.size A 2 [255, 255]) : Calls Tryd.prog 13 #[.slice A 2 c] w fun e w' => ∃ A' c', e = .returned (.tuple #[.slice A' 0 c', .int .i64 70]) ∧ HandS w' w.heap.size A' 0 c' [] ∧ Below w.heap.size w w' := by
  have h := h_take A 2 c [255, 255] w hR hA (by omega)
  rw [show takeL [255, 255] = [] from by decide +kernel, show takeE [255, 255] = 70 from by decide +kernel] at h
  refine h.mono ?_
  rintro e w' ⟨A', m, c', rfl, hh, hb⟩
  have hm : 0 = m := hh.1.1
  subst hm
  exact ⟨A', c', rfl, hh, hb⟩
theorem s_take3 (A : Option Addr) (c : Nat) (w : World) (hR : Rws w) (hA : Bs w w.heap.size A 0 []) : Calls Tryd.prog 13 #[.slice A 0 c] w fun e w' => ∃ A' c', e = .returned (.tuple #[.slice A' 0 c', .int .i64 0]) ∧ HandS w' w.heap.size A' 0 c' [] ∧ Below w.heap.size w w' := by
  have h := h_take A 0 c [] w hR hA (by omega)
  rw [show takeL [] = [] from by decide +kernel, show takeE [] = 0 from by decide +kernel] at h
  refine h.mono ?_
  rintro e w' ⟨A', m, c', rfl, hh, hb⟩
  have hm : 0 = m := hh.1.1
  subst hm
  exact ⟨A', c', rfl, hh, hb⟩
theorem s_put1 (A : Option Addr) (c : Nat) (w : World) (hR : Rws w) (hA : Bs w w.heap.size A 1 [97]) : Calls Tryd.prog 18 #[.slice A 1 c] w fun e w' => ∃ A' c', e = .returned (.slice A' 1 c') ∧ HandS w' w.heap.size A' 1 c' [55] ∧ Below w.heap.size w w' := by
  refine (h_put A 1 c [97] w hR hA (by omega)).mono ?_
  rintro e w' ⟨A', m, c', ys, rfl, hp, hh, hb⟩
  have hy : ys = [55] := hp.one ⟨by decide +kernel, by decide +kernel⟩
  subst hy
  have hm : 1 = m := hh.1.1
  subst hm
  exact ⟨A', c', rfl, hh, hb⟩
theorem s_put2 (A : Option Addr) (c : Nat) (w : World) (hR : Rws w) (hA : Bs w w.heap.size A 1 [0]) : Calls Tryd.prog 18 #[.slice A 1 c] w fun e w' => ∃ A' c', e = .returned (.slice A' 2 c') ∧ HandS w' w.heap.size A' 2 c' [224, 31] ∧ Below w.heap.size w w' := by
  refine (h_put A 1 c [0] w hR hA (by omega)).mono ?_
  rintro e w' ⟨A', m, c', ys, rfl, hp, hh, hb⟩
  have hy : ys = [224, 31] := hp.one ⟨by decide +kernel, by decide +kernel⟩
  subst hy
  have hm : 2 = m := hh.1.1
  subst hm
  exact ⟨A', c', rfl, hh, hb⟩
theorem s_bits (A : Option Addr) (c : Nat) (w : World) (hR : Rws w) (hA : Bs w w.heap.size A 4 [97, 46, 65, 33]) : Calls Tryd.prog 15 #[.slice A 4 c] w fun e w' => e = .returned (.int .i64 29) ∧ Below w.heap.size w w' := by
  have h := h_bits A 4 c [97, 46, 65, 33] w hR hA (by omega)
  rw [show (bl [97, 46, 65, 33]).length = 29 from by decide +kernel] at h
  exact h
theorem s_sh1 (A : Option Addr) (c : Nat) (w : World) (hR : Rws w) (hA : Bs w w.heap.size A 2 [97, 97]) : Calls Tryd.prog 20 #[.slice A 2 c] w fun e w' => e = .returned (.bool false) ∧ Below w.heap.size w w' := by
  have h := h_shorter A 2 c [97, 97] w hR hA (by omega)
  rw [show decide (((bl [97, 97]).length + 7) / 8 < 2) = false from by decide +kernel] at h
  exact h
theorem s_sh2 (A : Option Addr) (c : Nat) (w : World) (hR : Rws w) (hA : Bs w w.heap.size A 3 [97, 97, 97]) : Calls Tryd.prog 20 #[.slice A 3 c] w fun e w' => e = .returned (.bool true) ∧ Below w.heap.size w w' := by
  have h := h_shorter A 3 c [97, 97, 97] w hR hA (by omega)
  rw [show decide (((bl [97, 97, 97]).length + 7) / 8 < 3) = true from by decide +kernel] at h
  exact h
end Go.Proofs.YtfjmgfahlicleaaDoor
