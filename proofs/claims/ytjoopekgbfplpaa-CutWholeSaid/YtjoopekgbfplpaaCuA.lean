/- Package cut's small calls: own, joined, Preface, tooLong, whole, Begun; bytes.Equal. -/
import Derived.Test.YtjoopekgbfplpaaCuX
import Derived.Test.YtjoopekgbfplpaaGPcs
import Derived.Test.YtjoopekgbfplpaaOcTot
import Derived.Test.YtjoopekgbfplpaaGZero
import Derived.Lib.SmallJoins
namespace Go.Proofs.Ytjoopekgbfplpaa
open Go.RowKit Oct Cu
set_option linter.unusedVariables false
set_option linter.unusedSimpArgs false
theorem infoc_R : (Try.prog.info? 24).map (·.size) = some 2 := by kernel_rfl
theorem infoc_H : (Try.prog.info? 38).map (·.size) = some 4 := by kernel_rfl
theorem infoc_X : (Try.prog.info? 31).map (·.size) = some 3 := by kernel_rfl
theorem infoc_B : (Try.prog.info? 22).map (·.size) = some 1 := by kernel_rfl
theorem infoc_Q : (Try.prog.info? 28).map (·.size) = some 1 := by kernel_rfl
theorem infoc_P : (Try.prog.info? 40).map (·.size) = some 5 := by kernel_rfl
theorem infoc_i : (Try.prog.info? 3).map (·.size) = some 1 := by kernel_rfl
theorem infoc_b : (Try.prog.info? 4).map (·.size) = some 1 := by kernel_rfl
theorem infoc_n : (Try.prog.info? 29).map (·.size) = some 1 := by kernel_rfl
theorem info_piece : (Try.prog.info? 40).map (fun i => (i.zero, i.size, i.bytes)) = some (some (.agg #[.int .i64 0, .int .u8 0, .int .u8 0, .int .i64 0, .slice none 0 0]), 5, 48) := by kernel_rfl
theorem c_equal (A A' : Option Addr) (n n' c c' B B' : Nat) (xs ys : List UInt8) (w : World) (h : Bs w B A n xs) (h' : Bs w B' A' n' ys) :
    Calls Try.prog 27 #[.slice A n c, .slice A' n' c'] w fun e w' => e = .returned (.bool (xs == ys)) ∧ w = w' := by
  have h1 := conv_bytes (c := c) h
  have h2 := conv_bytes (c := c') h'
  clear h h'
  go_enter Try.func27, Try.ntmps27
  go_wp2
  go_ret
  exact ⟨rfl, rfl⟩
theorem c_own (A : Option Addr) (n c : Nat) (xs : List UInt8) (w : World) (hA : Bs w w.heap.size A n xs) (hAc : A = none → c = 0) (hn : n ≤ 1000000) :
    Calls Try.prog 22 #[.slice A n c] w fun e w' => ∃ A' c', e = .returned (.slice A' n c') ∧ HandS w' w.heap.size A' n c' xs ∧ Below w.heap.size w w' := by
  have HA := Lib.hid hA
  have HAc := Lib.hid hAc
  clear hA hAc
  obtain ⟨i0, hi, hz0, hz1, hz2⟩ := info_parts info_u8
  have hinf := Lib.hid (And.intro hi (And.intro hz0 (And.intro hz1 hz2)))
  clear hi hz0 hz1 hz2
  go_enter Try.func22, Try.ntmps22
  go_wp2_with (at_builtin; refine wpList_append_bytes _ rfl (.const (.slice none 0 0)) (.tmp 3) 22 rfl w.heap.size 5 i0 Try.underlying22 hinf.out.1 hinf.out.2.1 hinf.out.2.2.1 hinf.out.2.2.2 _ [] rfl (OwnB.nil_ w _ _) _ A n c xs rfl HA.out HAc.out (by simp; omega) (Nat.le_refl _) ?_; intro v1 w1 hown1 hb1; obtain ⟨A1, c1, rfl, hh⟩ := hown1.handS (n := n) (by simpa using HA.out.1))
  go_ret
  exact ⟨_, _, rfl, by simpa using hh, hb1⟩
theorem ownB_type {w : World} {B : Nat} {t : TypeId} {A : Option Addr} {n c : Nat} {xs : List UInt8} (h : OwnB w B t (.slice A n c) xs) : ∀ k o, A = some ⟨k, o, none⟩ → ∃ cs fr, w.heap[k]? = some (.cells cs t fr) := fun k o e => by
  rcases h.2 with ⟨h1, _⟩ | ⟨g, cap, cur, h1, _, hg, _⟩
  · rw [e] at h1; cases h1
  · rw [e] at h1
    cases h1
    exact ⟨_, _, hg⟩
theorem c_own2 (A : Option Addr) (n c : Nat) (xs : List UInt8) (w : World) (hA : Bs w w.heap.size A n xs) (hAc : A = none → c = 0) (hn : n ≤ 1000000) :
    Calls Try.prog 22 #[.slice A n c] w fun e w' => ∃ A' c', e = .returned (.slice A' n c') ∧ HandS w' w.heap.size A' n c' xs ∧ (∀ k o, A' = some ⟨k, o, none⟩ → ∃ cs fr, w'.heap[k]? = some (.cells cs 5 fr)) ∧ Below w.heap.size w w' := by
  have HA := Lib.hid hA
  have HAc := Lib.hid hAc
  clear hA hAc
  obtain ⟨i0, hi, hz0, hz1, hz2⟩ := info_parts info_u8
  have hinf := Lib.hid (And.intro hi (And.intro hz0 (And.intro hz1 hz2)))
  clear hi hz0 hz1 hz2
  go_enter Try.func22, Try.ntmps22
  go_wp2_with (at_builtin; refine wpList_append_bytes _ rfl (.const (.slice none 0 0)) (.tmp 3) 22 rfl w.heap.size 5 i0 Try.underlying22 hinf.out.1 hinf.out.2.1 hinf.out.2.2.1 hinf.out.2.2.2 _ [] rfl (OwnB.nil_ w _ _) _ A n c xs rfl HA.out HAc.out (by simp; omega) (Nat.le_refl _) ?_; intro v1 w1 hown1 hb1; obtain ⟨A1, c1, rfl, hh⟩ := hown1.handS (n := n) (by simpa using HA.out.1); have HT := Lib.hid (ownB_type hown1))
  go_ret
  exact ⟨_, _, rfl, by simpa using hh, HT.out, hb1⟩
theorem c_tooLong (L K F S : Int) (w : World) :
    Calls Try.prog 21 #[.agg #[.int .i64 L, .int .u8 K, .int .u8 F, .int .i64 S]] w fun e w' => e = .returned (.bool (decide ((16384 : Int) < L))) ∧ Below w.heap.size w w' := by
  go_enter Try.func21, Try.ntmps21
  go_wp2
  go_ret
  exact ⟨rfl, (Below.refl _ _).alloc (Nat.le_refl _) _⟩
theorem c_whole (L K F S : Int) (A : Option Addr) (n c : Nat) (hn : n ≤ 1000000) (w : World) :
    Calls Try.prog 28 #[.agg #[.int .i64 L, .int .u8 K, .int .u8 F, .int .i64 S], .slice A n c] w fun e w' => e = .returned (.bool (decide (L ≤ (n : Int) - 9))) ∧ Below w.heap.size w w' := by
  go_enter Try.func28, Try.ntmps28
  go_wp2
  go_ret
  exact ⟨rfl, (Below.refl _ _).alloc (Nat.le_refl _) _⟩
theorem c_begun (p : Int) (r : Value) (w : World) (hr : r.oneCell' = true) :
    Calls Try.prog 14 #[.agg #[.int .i64 p, r]] w fun e w' => e = .returned (.bool (p == 24)) ∧ Below w.heap.size w w' := by
  go_enter Try.func14, Try.ntmps14
  go_wp2
  go_ret
  exact ⟨rfl, (Below.refl _ _).alloc (Nat.le_refl _) _⟩
def prefCells : Array Value := #[.int .u8 80, .int .u8 82, .int .u8 73, .int .u8 32, .int .u8 42, .int .u8 32, .int .u8 72, .int .u8 84, .int .u8 84, .int .u8 80, .int .u8 47, .int .u8 50, .int .u8 46, .int .u8 48, .int .u8 13, .int .u8 10, .int .u8 13, .int .u8 10, .int .u8 83, .int .u8 77, .int .u8 13, .int .u8 10, .int .u8 13, .int .u8 10]
theorem pref_lit : (prefB.map bv).toArray = prefCells := by simp [prefB, prefCells, bv]
set_option maxRecDepth 20000 in
theorem c_preface (w : World) :
    Calls Try.prog 12 #[] w fun e w' => ∃ A c, e = .returned (.slice A 24 c) ∧ HandS w' w.heap.size A 24 c prefB ∧ Below w.heap.size w w' := by
  have hcv := Go.Joins.run_convert_bytes_const_at (P := Try.prog) w 22 5 prefCells 24 24 w.heap.size rfl Try.underlying22 Try.underlying5
  unfold prefCells at hcv
  go_enter Try.func12, Try.ntmps12
  go_wp2
  go_ret
  refine ⟨_, _, rfl, ⟨?_, fun _ b o e => by cases e; exact Nat.le_refl _, Nat.le_refl _, fun h => by cases h⟩, (Below.refl _ _).alloc (Nat.le_refl _) _⟩
  refine ⟨rfl, fun _ => ⟨w.heap.size, 0, rfl, by simp, fun j hj => ?_⟩⟩
  rw [Nat.zero_add, World.cell?_alloc_mark]
  have h := congrArg (fun a : Array Value => a[j]?) pref_lit
  simp only [List.getElem?_toArray, List.getElem?_map] at h
  unfold prefCells at h
  rw [← h, List.getElem?_eq_getElem (show j < prefB.length from hj)]
  rfl
end Go.Proofs.Ytjoopekgbfplpaa
