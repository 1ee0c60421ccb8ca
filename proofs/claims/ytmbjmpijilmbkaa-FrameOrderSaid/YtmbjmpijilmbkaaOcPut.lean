/- octet.Put: a number in its bytes, in memory of the call's own; and what may not be put. -/
import Derived.Test.YtmbjmpijilmbkaaOcTake
import Derived.Maps.AppendAt
namespace Go.Proofs.Ytmbjmpijilmbkaa
open Go.RowKit Oct
attribute [local go_sem] i64_and1 i64_and7 i64_and31

theorem put_bound (n : Int) (k : Nat) (h0 : 0 ≤ n) (h : ¬ n < 256 ^ k) : (n / 2 ^ (8 * k) != 0) = true := by
  obtain ⟨N, rfl⟩ := Int.eq_ofNat_of_zero_le h0
  have e : (256 : Nat) ^ k = 2 ^ (8 * k) := by rw [Nat.pow_mul]
  have h1 : 2 ^ (8 * k) ≤ N := by
    rw [← e]
    have h2 : ((256 ^ k : Nat) : Int) ≤ (N : Int) := by rw [Int.natCast_pow]; exact Int.not_lt.1 h
    omega
  have h3 : 1 ≤ N / 2 ^ (8 * k) := (Nat.le_div_iff_mul_le (Nat.two_pow_pos _)).2 (by omega)
  have h4 : ((N : Int) / 2 ^ (8 * k)) = ((N / 2 ^ (8 * k) : Nat) : Int) := by simp
  rw [h4, bne_iff_ne]
  omega
theorem put_inside (n : Int) (k : Nat) (h0 : 0 ≤ n) (h : n < 256 ^ k) : (n / 2 ^ (8 * k) != 0) = false := by
  obtain ⟨N, rfl⟩ := Int.eq_ofNat_of_zero_le h0
  have e : (256 : Nat) ^ k = 2 ^ (8 * k) := by rw [Nat.pow_mul]
  have h1 : N < 2 ^ (8 * k) := by
    rw [← e]
    have h2 : (N : Int) < ((256 ^ k : Nat) : Int) := by rw [Int.natCast_pow]; exact h
    omega
  have h3 : N / 2 ^ (8 * k) = 0 := Nat.div_eq_of_lt h1
  have h4 : ((N : Int) / 2 ^ (8 * k)) = ((N / 2 ^ (8 * k) : Nat) : Int) := by simp
  rw [h4, h3]
  rfl
theorem put_no (n size : Int) (w : World) (h : ¬ (1 ≤ size ∧ size ≤ 4 ∧ 0 ≤ n ∧ n < 256 ^ size.toNat)) :
    Calls Try.prog 80 #[.int .i64 n, .int .i64 size] w fun e w' => e = .returned (.tuple #[.slice none 0 0, .int .i64 2]) ∧ w = w' := by
  by_cases hs : 1 ≤ size ∧ size ≤ 4
  · obtain ⟨k, rfl⟩ := Int.eq_ofNat_of_zero_le (show 0 ≤ size by omega)
    have hs1 := hs.1
    have hs2 := hs.2
    by_cases hn : n < 0
    · go_enter Try.func80, Try.ntmps80
      go_wp2
      refine wp_scope_forward 0 rfl ?_
      go_wp2_with (go_at_call 97; refine (sized_yes _ _ (by omega) (by omega)).mono ?_; rintro e w' ⟨rfl, rfl⟩)
      go_step3
      refine ⟨rfl, ?_⟩
      go_wp2
      rw [jump_ret]
      go_ret2
      exact ⟨rfl, rfl⟩
    · have hb := put_bound n k (by omega) (fun hh => h ⟨hs1, hs2, by omega, by simpa using hh⟩)
      clear h hs
      have d0 : decide (n < 0) = false := by simp; omega
      go_enter Try.func80, Try.ntmps80
      go_wp2
      refine wp_scope_forward 0 rfl ?_
      go_wp2_with (go_at_call 97; refine (sized_yes _ _ (by omega) (by omega)).mono ?_; rintro e w' ⟨rfl, rfl⟩)
      go_step3
      refine ⟨rfl, ?_⟩
      go_wp2
      rw [jump_ret]
      go_ret2
      exact ⟨rfl, rfl⟩
  · go_enter Try.func80, Try.ntmps80
    go_wp2
    refine wp_scope_forward 0 rfl ?_
    go_wp2_with (go_at_call 97; refine (sized_no _ _ hs).mono ?_; rintro e w' ⟨rfl, rfl⟩)
    go_step3
    refine ⟨rfl, ?_⟩
    go_wp2
    rw [jump_ret]
    go_ret2
    exact ⟨rfl, rfl⟩
theorem put_step (N m j : Nat) : (putB (N / 256 ^ (m + 1)) j).map bv ++ [.int .u8 ((N : Int) / 2 ^ (8 * m) % 256)] = (putB (N / 256 ^ m) (j + 1)).map bv := by
  have e1 : N / 256 ^ m / 256 = N / 256 ^ (m + 1) := by rw [Nat.div_div_eq_div_mul, Nat.pow_succ]
  have e2 : bv (UInt8.ofNat (N / 256 ^ m)) = .int .u8 ((N : Int) / 2 ^ (8 * m) % 256) := by
    unfold bv
    have : (256 : Nat) ^ m = 2 ^ (8 * m) := by rw [Nat.pow_mul]
    rw [this]
    simp
  rw [putB, List.map_append, e1, List.map_singleton, e2]
theorem put_ok (n size : Int) (w : World) (h1 : 1 ≤ size) (h2 : size ≤ 4) (h0 : 0 ≤ n) (h : n < 256 ^ size.toNat) :
    Calls Try.prog 80 #[.int .i64 n, .int .i64 size] w fun e w' => ∃ v, e = .returned (.tuple #[v, .int .i64 0]) ∧ OwnB w' w.heap.size 5 v (putB n.toNat size.toNat) ∧ Below w.heap.size w w' := by
  obtain ⟨k, rfl⟩ := Int.eq_ofNat_of_zero_le (show 0 ≤ size by omega)
  have hb := put_inside n k h0 (by simpa using h)
  clear h
  obtain ⟨N, rfl⟩ := Int.eq_ofNat_of_zero_le h0
  rw [Int.toNat_natCast, Int.toNat_natCast]
  have d0 : decide ((N : Int) < 0) = false := by simp
  obtain ⟨i0, hi, hz0, hz1, hz2⟩ := info_parts info_u8
  have hinf := Lib.hid (And.intro hi (And.intro hz0 (And.intro hz1 hz2)))
  clear hi hz0 hz1 hz2
  go_enter Try.func80, Try.ntmps80
  go_wp2
  refine wp_scope_forward 0 rfl ?_
  go_wp2_with (first | (go_at_call 97; refine (sized_yes _ _ (by omega) (by omega)).mono ?_; rintro e w' ⟨rfl, rfl⟩) | (refine wpList_make_own _ rfl (.const (.int .i64 0)) (.tmp 22) 26 rfl w.heap.size 5 i0 (.int .u8 0) 1 Try.underlying26 hinf.out.1 hinf.out.2.1 hinf.out.2.2.1 .i64 .i64 _ k rfl rfl rfl (by rw [hinf.out.2.2.2]; omega) (by unfold maxLen; omega) (Nat.le_refl _) ?_; intro w1 hown1 hgrow1))
  have hbel1 : Below w.heap.size w w1 := (Below.refl _ _).grown hgrow1 (Nat.le_refl _) (fun k h => by cases h)
  go_loopw [6, 7] (fun v t wr => ∃ j m : Nat, j + m = k ∧ t = .int .i64 (8 * (m : Int) - 8) ∧ v = .slice (some ⟨w.heap.size, 0, none⟩) j k ∧ wr.ownsRow w.heap.size 5 1 v j ((putB (N / 256 ^ m) j).map bv) ∧ Below w.heap.size w wr) (fun _ t _ => (intOf t + 8).toNat)
  case atStart => exact ⟨0, k, by omega, by go_num, rfl, hown1, hbel1⟩
  case round =>
    obtain ⟨j, m, hjm, rfl, rfl, hown, hbel⟩ := hrel
    have hsz := hbel.size
    cases m with
    | zero =>
      obtain rfl : j = k := by omega
      go_wp2
      rw [jump_ret]
      go_ret2
      refine ⟨_, rfl, ?_, hbel⟩
      have e : N / 256 ^ 0 = N := by simp
      rw [e] at hown
      unfold OwnB
      rw [putB_length]
      exact hown
    | succ m =>
      rw [show (8 * ((m + 1 : Nat) : Int) - 8) = 8 * (m : Int) from by omega]
      go_wp2_with (at_builtin; refine wpList_append_fits _ rfl (.tmp 31) (.tmp 36) 26 rfl w.heap.size 5 i0 1 Try.underlying26 hinf.out.1 hinf.out.2.2.1 _ j k _ rfl (hown.alloc _) ⟨wr.heap.size, 0, none⟩ 1 1 [.int .u8 ((N : Int) / 2 ^ (8 * m) % 256)] rfl rfl (cell_one_new _ _ _) (by simp [Value.oneCell']) (by omega) ?_; intro w2 hown2 hgrow2)
      have hbel2 : Below w.heap.size w w2 := ((hbel.alloc hsz _)).grown hgrow2 (by simp; omega) (fun q h => by cases h; exact Nat.le_refl _)
      rw [put_step] at hown2
      go_roundw
      case rel => exact ⟨j + 1, m, by omega, rfl, rfl, hown2, hbel2⟩
      case measure => simp [intOf]; omega
end Go.Proofs.Ytmbjmpijilmbkaa
