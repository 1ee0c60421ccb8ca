/- The document's layer 7: place, others, Code, Of. -/
import Derived.Test.YtfjmgfahlicleaaDoorHfF
import Derived.Test.YtfjmgfahlicleaaDoorHfB
namespace Go.Proofs.YtfjmgfahlicleaaDoor
open Go.RowKit Hf Oct
set_option linter.unusedVariables false
set_option linter.unusedSimpArgs false
namespace Hf
theorem idx_hit (c : UInt8) : ∀ (l : List UInt8) (k : Nat), l[k]? = some c → (∀ j, j < k → l[j]? ≠ some c) → Lib.indexByte l c = (k : Int)
  | [], k, h, _ => by simp at h
  | b :: l, 0, h, _ => by
    simp only [List.getElem?_cons_zero, Option.some.injEq] at h
    subst h
    unfold Lib.indexByte
    simp
  | b :: l, k + 1, h, hn => by
    have hb : b ≠ c := fun e => hn 0 (by omega) (by simp [e])
    have ih := idx_hit c l k (by simpa using h) (fun j hj => by have := hn (j + 1) (by omega); simpa using this)
    unfold Lib.indexByte
    have hb2 : (b == c) = false := by simpa using hb
    have h1 : ((k : Int) == -1) = false := by simp
    rw [hb2, ih, h1]
    simp
theorem idx_miss (c : UInt8) : ∀ (l : List UInt8), (∀ j, j < l.length → l[j]? ≠ some c) → Lib.indexByte l c = -1
  | [], _ => rfl
  | b :: l, hn => by
    have hb : b ≠ c := fun e => hn 0 (by simp) (by simp [e])
    have ih := idx_miss c l (fun j hj => by have := hn (j + 1) (by simp; omega); simpa using this)
    unfold Lib.indexByte
    have hb2 : (b == c) = false := by simpa using hb
    rw [hb2, ih]
    rfl
end Hf
set_option maxHeartbeats 1000000 in
theorem r_place (s : ByteArray) (c : UInt8) (X : Int) (w : World) (hs : s.size ≤ 1000) (hX : X = (c.toNat : Int)) :
    Calls Tryd.prog 25 #[.string s, .int .u8 X] w fun e w' => e = .returned (.int .i64 (Lib.indexByte s.data.toList c)) ∧ w = w' := by
  subst hX
  have HZ := Lib.hid (Lib.size_eq s)
  go_enter Tryd.func25, Tryd.ntmps25
  go_wp2
  go_loop [5] (fun t => ∃ k : Nat, k ≤ s.size ∧ t = .int .i64 (k : Int) ∧ ∀ j, j < k → s.data.toList[j]? ≠ some c) (fun t => s.size - (intOf t).toNat)
  case atStart => exact ⟨0, Nat.zero_le _, rfl, fun j hj => absurd hj (Nat.not_lt_zero _)⟩
  case round =>
    obtain ⟨k, hk, rfl, hno⟩ := hrel
    have HN := Lib.hid hno
    clear hno
    by_cases hlt : k < s.size
    · have hix := run_index_str s k w hlt
      have hkl : k < s.data.toList.length := by rw [← HZ.out]; exact hlt
      have hgx : s.data.toList[k]? = some s.data.toList[k] := List.getElem?_eq_getElem hkl
      rw [hgx, Option.getD_some] at hix
      have HGX := Lib.hid hgx
      clear hgx
      generalize s.data.toList[k] = x at *
      by_cases hxc : x = c
      · subst hxc
        have HF := Lib.hid (idx_hit x _ k HGX.out HN.out)
        go_wp2
        go_ret
        exact ⟨ret_int HF.out.symm, rfl⟩
      · have hq : ((x.toNat : Int) == (c.toNat : Int)) = false := by
          simp only [beq_eq_false_iff_ne, ne_eq]
          intro e
          exact hxc (UInt8.toNat_inj.1 (by omega))
        go_wp2
        go_round
        case rel => exact ⟨k + 1, by omega, by go_num, fun j hj => by
          by_cases h : j < k
          · exact HN.out j h
          · obtain rfl : j = k := by omega
            rw [HGX.out]
            intro e
            exact hxc (Option.some.inj e)⟩
        case measure => simp [intOf]; omega
    · have HF := Lib.hid (idx_miss c s.data.toList fun j hj => HN.out j (by rw [← HZ.out] at hj; omega))
      go_wp2
      go_ret
      exact ⟨ret_int HF.out.symm, rfl⟩
namespace Hf
def all48 : List UInt8 := five ++ six ++ seven
def cnt : Nat → Nat
  | 0 => 0
  | k + 1 => cnt k + if Lib.indexByte all48 (UInt8.ofNat k) = -1 then 1 else 0
theorem cnt_le (k : Nat) : cnt k ≤ k := by
  induction k with
  | zero => exact Nat.le_refl _
  | succ k ih => unfold cnt; split <;> omega
theorem cnt_codF : ∀ n : Fin 256, rowOf (UInt8.ofNat n.val) = 3 → cod (UInt8.ofNat n.val) = 1792 + cnt n.val := by decide +kernel
theorem ix_ge (l : List UInt8) (c : UInt8) : Lib.indexByte l c = -1 ∨ 0 ≤ Lib.indexByte l c := by have := Lib.indexByte_ge l c; omega
end Hf
set_option maxHeartbeats 1000000 in
theorem r_others (n : Nat) (w : World) (hn : n ≤ 255) :
    Calls Tryd.prog 26 #[.int .u8 (n : Int)] w fun e w' => e = .returned (.int .i64 (cnt n : Int)) ∧ w = w' := by
  go_enter Tryd.func26, Tryd.ntmps26
  go_wp2
  go_loop [3, 4] (fun s t => ∃ k : Nat, k ≤ n ∧ t = .int .i64 (k : Int) ∧ s = .int .i64 (cnt k : Int)) (fun _ t => n - (intOf t).toNat)
  case atStart => exact ⟨0, Nat.zero_le _, rfl, rfl⟩
  case round =>
    obtain ⟨k, hk, rfl, rfl⟩ := hrel
    have hc := cnt_le k
    by_cases hlt : k < n
    · have HC : Hid (cnt (k + 1) = cnt k + if Lib.indexByte all48 (UInt8.ofNat k) = -1 then 1 else 0) := Lib.hid rfl
      have hp : ∀ X, X = (((UInt8.ofNat k).toNat : Nat) : Int) → Calls Tryd.prog 25 #[.string { data := #[45, 47, 48, 49, 50, 51, 97, 99, 101, 105, 110, 111, 114, 115, 116, 117, 46, 52, 53, 54, 55, 56, 57, 58, 98, 100, 102, 103, 104, 108, 109, 112, 65, 66, 67, 68, 69, 70, 71, 72, 106, 107, 113, 118, 119, 120, 121, 122] }, .int .u8 X] w fun e w' => e = .returned (.int .i64 (Lib.indexByte all48 (UInt8.ofNat k))) ∧ w = w' := fun X hX => r_place { data := #[45, 47, 48, 49, 50, 51, 97, 99, 101, 105, 110, 111, 114, 115, 116, 117, 46, 52, 53, 54, 55, 56, 57, 58, 98, 100, 102, 103, 104, 108, 109, 112, 65, 66, 67, 68, 69, 70, 71, 72, 106, 107, 113, 118, 119, 120, 121, 122] } (UInt8.ofNat k) X w (by decide) hX
      have HP := Lib.hid hp
      clear hp
      generalize cnt k = S at *
      rcases ix_ge all48 (UInt8.ofNat k) with hi | hi
      · rw [hi] at HP HC
        go_wp2_with (go_at_call 25; (with_reducible refine (HP.out _ (by simp; omega)).mono ?_); rintro e w' ⟨rfl, rfl⟩)
        go_round
        case rel => exact ⟨k + 1, by omega, by go_num, by rw [HC.out]; simp⟩
        case measure => simp [intOf]; omega
      · generalize Lib.indexByte all48 (UInt8.ofNat k) = X at *
        have hq : decide (X < 0) = false := decide_eq_false (by omega)
        go_wp2_with (go_at_call 25; (with_reducible refine (HP.out _ (by simp; omega)).mono ?_); rintro e w' ⟨rfl, rfl⟩)
        go_round
        case rel => exact ⟨k + 1, by omega, by go_num, by rw [HC.out, if_neg (by omega)]; go_num⟩
        case measure => simp [intOf]; omega
    · obtain rfl : k = n := by omega
      go_wp2
      go_ret
      exact ⟨rfl, rfl⟩
end Go.Proofs.YtfjmgfahlicleaaDoor
