/- The document's own Put of layer 1. -/
import Derived.Test.YtjoopekgbfplpaaOcTake
import Derived.Maps.AppendAt
namespace Go.Proofs.Ytjoopekgbfplpaa
open Go.RowKit Oct
attribute [local go_sem] i64_and1 i64_and7 i64_and31
namespace Oct
theorem putB_cons (k : Nat) : ∀ n : Nat, putB n (k + 1) = UInt8.ofNat (n / 256 ^ k) :: putB n k := by
  induction k with
  | zero => intro n; simp [putB]
  | succ k ih =>
    intro n
    rw [putB, ih (n / 256), Nat.div_div_eq_div_mul, ← Nat.pow_succ']
    rfl
theorem put_set (N m j : Nat) : (List.replicate (m + 1) (0 : UInt8) ++ putB N j).set m (UInt8.ofNat (N / 256 ^ j)) = List.replicate m 0 ++ putB N (j + 1) := by
  rw [List.set_append_left _ _ (by simp), putB_cons, List.replicate_succ', List.set_append_right _ _ (by simp)]
  simp
end Oct

theorem ref_wrap (k : Nat) (h : k ≤ 4) : wrap64 (2 ^ (8 * k)) = 256 ^ k := by
  have : k = 0 ∨ k = 1 ∨ k = 2 ∨ k = 3 ∨ k = 4 := by omega
  rcases this with rfl | rfl | rfl | rfl | rfl <;> decide +kernel
theorem rput_no (n size : Int) (w : World) (h : ¬ (1 ≤ size ∧ size ≤ 4 ∧ 0 ≤ n ∧ n < 256 ^ size.toNat)) :
    Calls Try.prog 24 #[.int .i64 n, .int .i64 size] w fun e w' => e = .returned (.tuple #[.slice none 0 0, .int .i64 2]) ∧ w = w' := by
  by_cases h1 : size < 1
  · clear h
    go_enter Try.func24, Try.ntmps24
    go_wp2
    go_ret2
    exact ⟨rfl, rfl⟩
  · have d1 : decide (size < 1) = false := by simpa using h1
    by_cases h2 : 4 < size
    · have d2 : decide (4 < size) = true := by simpa using h2
      clear h
      go_enter Try.func24, Try.ntmps24
      go_wp2
      go_ret2
      exact ⟨rfl, rfl⟩
    · have d2 : decide (4 < size) = false := by simpa using h2
      by_cases h3 : n < 0
      · have d3 : decide (n < 0) = true := by simpa using h3
        clear h
        go_enter Try.func24, Try.ntmps24
        go_wp2
        go_ret2
        exact ⟨rfl, rfl⟩
      · have d3 : decide (n < 0) = false := by simpa using h3
        obtain ⟨k, rfl⟩ := Int.eq_ofNat_of_zero_le (show 0 ≤ size by omega)
        have d4 : decide (wrap64 (2 ^ (8 * k)) ≤ n) = true := by
          rw [ref_wrap k (by omega)]
          simp only [decide_eq_true_eq]
          exact Int.not_lt.1 fun hh => h ⟨by omega, by omega, by omega, by simpa using hh⟩
        clear h
        go_enter Try.func24, Try.ntmps24
        go_wp2
        go_ret2
        exact ⟨rfl, rfl⟩
theorem made_row {w w2 : World} {L : Nat} (hown : w2.ownsRow w.heap.size 5 1 (.slice (some ⟨w.heap.size, 0, none⟩) L L) L (madeCells (Value.int IntKind.u8 0).cells (L * 1)).toList)
    (hg : w.grownBy w2 none) : RowB w2 w.heap.size 5 (List.replicate L 0) ∧ Below w.heap.size w w2 := by
  refine ⟨?_, (Below.refl _ _).grown hg (Nat.le_refl _) (fun k h => by cases h)⟩
  have e : (madeCells (Value.int IntKind.u8 0).cells (L * 1)).toList = (List.replicate L (0 : UInt8)).map bv := by
    rw [Nat.mul_one]
    have h1 : (Value.int IntKind.u8 0).cells = #[Value.int IntKind.u8 0] := rfl
    rw [h1, toList_madeCells_one, List.map_replicate]
    rfl
  rw [e] at hown
  exact RowB.of_own hown
theorem byte_mod (x : Nat) : ((UInt8.ofNat x).toNat : Int) = (x : Int) % 256 := by simp
set_option maxRecDepth 100000 in
theorem rput_ok (n size : Int) (w : World) (h1 : 1 ≤ size) (h2 : size ≤ 4) (h0 : 0 ≤ n) (h : n < 256 ^ size.toNat) :
    Calls Try.prog 24 #[.int .i64 n, .int .i64 size] w fun e w' => ∃ v, e = .returned (.tuple #[v, .int .i64 0]) ∧ OwnB w' w.heap.size 5 v (putB n.toNat size.toNat) ∧ Below w.heap.size w w' := by
  obtain ⟨k, rfl⟩ := Int.eq_ofNat_of_zero_le (show 0 ≤ size by omega)
  have d4 : decide (wrap64 (2 ^ (8 * k)) ≤ n) = false := by
    rw [ref_wrap k (by omega)]
    simp only [decide_eq_false_iff_not]
    exact Int.not_le.2 (by simpa using h)
  have hN : n < 4294967296 := by
    rw [Int.toNat_natCast] at h
    have : k = 1 ∨ k = 2 ∨ k = 3 ∨ k = 4 := by omega
    rcases this with rfl | rfl | rfl | rfl <;> omega
  have HN := Lib.hid hN
  clear h hN
  obtain ⟨N, hNn⟩ : ∃ N, n.toNat = N := ⟨_, rfl⟩
  rw [hNn, Int.toNat_natCast]
  have HNN : Hid (n = (N : Int)) := Lib.hid (by omega)
  clear hNn
  have d1 : decide (4 < (k : Int)) = false := by simp; omega
  have d0 : decide (n < 0) = false := by simp; omega
  obtain ⟨i0, hi, hz0, hz1, hz2⟩ := info_parts info_u8
  have hinf := Lib.hid (And.intro hi (And.intro hz0 (And.intro hz1 hz2)))
  clear hi hz0 hz1 hz2
  go_enter Try.func24, Try.ntmps24
  go_wp2_with (refine wpList_make_full _ rfl (.tmp 26) (.tmp 26) 22 rfl w.heap.size 5 i0 (.int .u8 0) 1 Try.underlying22 hinf.out.1 hinf.out.2.1 hinf.out.2.2.1 .i64 .i64 _ _ k rfl rfl rfl rfl (by rw [hinf.out.2.2.2]; omega) (by unfold maxLen; omega) (Nat.le_refl _) ?_; intro w2 hown2 hgrow2; have hfacts := made_row hown2 hgrow2; clear hown2 hgrow2; have HG := Lib.hid hfacts.1; have hbel2 := hfacts.2; clear hfacts)
  go_loopw [0, 7] (fun a t wr => ∃ m j : Nat, m + j = k ∧ t = .int .i64 ((m : Int) - 1) ∧ a = .int .i64 (N / 256 ^ j : Nat) ∧ RowB wr w.heap.size 5 (List.replicate m 0 ++ putB N j) ∧ Below w.heap.size w wr) (fun _ t _ => (intOf t + 1).toNat)
  case atStart => exact ⟨k, 0, by omega, rfl, by rw [HNN.out]; simp, by simpa [putB] using HG.out, hbel2⟩
  case round =>
    obtain ⟨m, j, hmj, rfl, rfl, hrow, hbel⟩ := hrel
    cases m with
    | zero =>
      obtain rfl : j = k := by omega
      have HR := Lib.hid hrow
      clear hrow
      go_wp2
      go_ret2
      refine ⟨_, rfl, ?_, hbel⟩
      have hr := HR.out
      rw [List.replicate_zero, List.nil_append] at hr
      have ho := hr.own (Nat.le_refl w.heap.size) (by rw [putB_length]; unfold maxLen; omega)
      rw [putB_length] at ho
      exact ho
    | succ m =>
      rw [show ((m + 1 : Nat) : Int) - 1 = (m : Int) from by omega]
      have hset := hrow.set_ m (UInt8.ofNat (N / 256 ^ j))
      rw [put_set, byte_mod] at hset
      have HS := Lib.hid hset
      have hfr := hrow.frozen m
      have hcl : wr.cell? ⟨w.heap.size, m, none⟩ = some (.int .u8 0) := by
        have := hrow.cell (j := m) (x := 0) (by rw [List.getElem?_append_left (by simp)]; simp)
        simpa using this
      have hle : N / 256 ^ j ≤ N := Nat.div_le_self _ _
      have HQ : Hid (N / 256 ^ j / 256 = N / 256 ^ (j + 1)) := Lib.hid (by rw [Nat.div_div_eq_div_mul, Nat.pow_succ])
      clear hrow hset
      generalize N / 256 ^ j = q at *
      have hbel' := hbel.setCell (p := ⟨w.heap.size, m, none⟩) (Nat.le_refl _) (.int .u8 ((q : Int) % 256))
      have HB := Lib.hid hbel'
      have hq2 : q ≤ 4294967296 := by have := HN.out; have := HNN.out; omega
      clear hbel'
      go_wp2
      go_roundw
      case rel => exact ⟨m, j + 1, by omega, rfl, by rw [← HQ.out]; go_num, HS.out, HB.out⟩
      case measure => simp [intOf]
end Go.Proofs.Ytjoopekgbfplpaa
