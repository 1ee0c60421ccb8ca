/- octet.Take, octet.Stream: what each answers; nothing has changed. -/
import Derived.Test.YtjoopekgbfplpaaRows
import Derived.Test.YtjoopekgbfplpaaGMem
import Derived.Test.YtjoopekgbfplpaaGPlain
import Derived.Test.YtjoopekgbfplpaaGNum
import Derived.Test.YtjoopekgbfplpaaGStr
import Derived.WalkLawsBesides
import Derived.WalkSpells
namespace Go.Proofs.Ytjoopekgbfplpaa
open Go.RowKit Oct
attribute [local go_sem] i64_and1 i64_and7 i64_and31

theorem sized_yes (n : Int) (w : World) (h1 : 1 ≤ n) (h2 : n ≤ 4) :
    Calls Try.prog 36 #[.int .i64 n] w fun e w' => e = .returned (.bool true) ∧ w = w' := by
  have d1 : decide (n ≤ 4) = true := by simpa using h2
  go_enter Try.func36, Try.ntmps36
  go_wp2
  go_ret
  exact ⟨rfl, rfl⟩
theorem sized_no (n : Int) (w : World) (h : ¬ (1 ≤ n ∧ n ≤ 4)) :
    Calls Try.prog 36 #[.int .i64 n] w fun e w' => e = .returned (.bool false) ∧ w = w' := by
  by_cases h1 : 1 ≤ n
  · have d1 : decide (n ≤ 4) = false := by simp; omega
    go_enter Try.func36, Try.ntmps36
    go_wp2
    go_ret
    exact ⟨rfl, rfl⟩
  · go_enter Try.func36, Try.ntmps36
    go_wp2
    go_ret
    exact ⟨rfl, rfl⟩
theorem standing_arg (A : Option Addr) (n c : Nat) (i size : Int) (w : World) (h : ¬ (1 ≤ size ∧ size ≤ 4 ∧ 0 ≤ i)) :
    Calls Try.prog 35 #[.slice A n c, .int .i64 i, .int .i64 size] w fun e w' => e = .returned (.int .i64 2) ∧ w = w' := by
  by_cases hs : 1 ≤ size ∧ size ≤ 4
  · have hi : i < 0 := by omega
    go_enter Try.func35, Try.ntmps35
    go_wp2_with (go_at_call 36; refine (sized_yes _ _ (by omega) (by omega)).mono ?_; rintro e w' ⟨rfl, rfl⟩)
    go_ret
    exact ⟨rfl, rfl⟩
  · go_enter Try.func35, Try.ntmps35
    go_wp2_with (go_at_call 36; refine (sized_no _ _ (by omega)).mono ?_; rintro e w' ⟨rfl, rfl⟩)
    go_ret
    exact ⟨rfl, rfl⟩
theorem standing_short (A : Option Addr) (n c : Nat) (i size : Int) (w : World) (hn : n ≤ 1000000) (h1 : 1 ≤ size) (h2 : size ≤ 4) (h3 : 0 ≤ i) (h : (n : Int) < i + size) :
    Calls Try.prog 35 #[.slice A n c, .int .i64 i, .int .i64 size] w fun e w' => e = .returned (.int .i64 10) ∧ w = w' := by
  have d0 : decide (i < 0) = false := by simp; omega
  have d1 : (n : Int) - size < i := by omega
  go_enter Try.func35, Try.ntmps35
  go_wp2_with (go_at_call 36; refine (sized_yes _ _ (by omega) (by omega)).mono ?_; rintro e w' ⟨rfl, rfl⟩)
  go_ret
  exact ⟨rfl, rfl⟩
theorem standing_ok (A : Option Addr) (n c : Nat) (i size : Int) (w : World) (hn : n ≤ 1000000) (h1 : 1 ≤ size) (h2 : size ≤ 4) (h3 : 0 ≤ i) (h : i + size ≤ (n : Int)) :
    Calls Try.prog 35 #[.slice A n c, .int .i64 i, .int .i64 size] w fun e w' => e = .returned (.int .i64 0) ∧ w = w' := by
  have d0 : decide (i < 0) = false := by simp; omega
  go_enter Try.func35, Try.ntmps35
  go_wp2_with (go_at_call 36; refine (sized_yes _ _ (by omega) (by omega)).mono ?_; rintro e w' ⟨rfl, rfl⟩)
  go_ret
  exact ⟨rfl, rfl⟩
theorem takeB_take (xs : List UInt8) (i j : Nat) (x : UInt8) (h : xs[i + j]? = some x) : takeB ((xs.drop i).take (j + 1)) = takeB ((xs.drop i).take j) * 256 + x.toNat := by
  rw [List.take_add_one, List.getElem?_drop, h]
  exact takeB_snoc _ _
theorem takeB_small (xs : List UInt8) (i j : Nat) (h : j ≤ 3) : takeB ((xs.drop i).take j) ≤ 16777215 := by
  have h1 := takeB_lt ((xs.drop i).take j)
  have h2 : ((xs.drop i).take j).length ≤ 3 := Nat.le_trans (List.length_take_le _ _) h
  have h3 : 256 ^ ((xs.drop i).take j).length ≤ 256 ^ 3 := Nat.pow_le_pow_right (by decide) h2
  omega
theorem or_join8 (a b : Nat) (hb : b < 256) (ha : a ≤ 16777215) : bits .or .i64 ((a : Int) * 256) (b : Int) = (a : Int) * 256 + b := i64_or_join a b 8 hb (by omega)
theorem take_ok (A : Option Addr) (B n c : Nat) (xs : List UInt8) (i size : Int) (w : World) (hA : Bs w B A n xs) (h0 : 0 ≤ i) (h1 : i + size ≤ n) (hs : 1 ≤ size) (hs4 : size ≤ 4) (hn : n ≤ 1000000) (hnc : n ≤ c) :
    Calls Try.prog 33 #[.slice A n c, .int .i64 i, .int .i64 size] w fun e w' => e = .returned (.tuple #[.int .i64 (takeB ((xs.drop i.toNat).take size.toNat) : Nat), .int .i64 0]) ∧ w = w' := by
  obtain ⟨i, rfl⟩ := Int.eq_ofNat_of_zero_le h0
  obtain ⟨k, rfl⟩ := Int.eq_ofNat_of_zero_le (show 0 ≤ size by omega)
  rw [Int.toNat_natCast, Int.toNat_natCast]
  obtain ⟨b, o, rfl, hb, hc⟩ := bs_cell hA (by omega)
  have HC := Lib.hid hc
  have HA := Lib.hid hA
  clear hc hA
  go_enter Try.func33, Try.ntmps33
  go_wp2
  refine wp_scope_forward 0 rfl ?_
  go_wp2_with (go_at_call 35; refine (standing_ok _ _ _ _ _ _ hn (by omega) (by omega) (by omega) (by omega)).mono ?_; rintro e w' ⟨rfl, rfl⟩)
  go_loop [8, 11, 25] (fun a u t => ∃ j : Nat, j ≤ k ∧ t = .int .i64 j ∧ a = .int .i64 (takeB ((xs.drop i).take j) : Nat)) (fun _ _ t => k - (intOf t).toNat)
  case atStart => exact ⟨0, Nat.zero_le _, rfl, rfl⟩
  case round =>
    obtain ⟨j, hj, rfl, rfl⟩ := hrel
    by_cases hlt : j < k
    · obtain ⟨x, hx, hcx⟩ := HC.out (i + j) (by omega)
      rw [← Nat.add_assoc] at hcx
      have HS := Lib.hid (takeB_take xs i j x hx)
      clear hx
      have hsm := takeB_small xs i j (by omega)
      generalize takeB ((xs.drop i).take j) = a at *
      have hxl : x.toNat < 256 := x.toNat_lt
      have hor := or_join8 a x.toNat hxl hsm
      go_wp2
      go_round
      case rel => exact ⟨j + 1, by omega, by go_num, by rw [HS.out]; go_num⟩
      case measure => simp [intOf]; omega
    · have hjk : j = k := by omega
      subst hjk
      go_wp2
      go_ret2
      exact ⟨rfl, rfl⟩
theorem take_arg (A : Option Addr) (n c : Nat) (i size : Int) (w : World) (h : ¬ (1 ≤ size ∧ size ≤ 4 ∧ 0 ≤ i)) :
    Calls Try.prog 33 #[.slice A n c, .int .i64 i, .int .i64 size] w fun e w' => e = .returned (.tuple #[.int .i64 0, .int .i64 2]) ∧ w = w' := by
  go_enter Try.func33, Try.ntmps33
  go_wp2
  refine wp_scope_forward 0 rfl ?_
  go_wp2_with (go_at_call 35; refine (standing_arg _ _ _ _ _ _ h).mono ?_; rintro e w' ⟨rfl, rfl⟩)
  go_step3
  refine ⟨rfl, ?_⟩
  go_wp2
  rw [jump_ret]
  go_ret2
  exact ⟨rfl, rfl⟩
theorem take_short (A : Option Addr) (n c : Nat) (i size : Int) (w : World) (hn : n ≤ 1000000) (h0 : 0 ≤ i) (hs : 1 ≤ size) (hs4 : size ≤ 4) (h : (n : Int) < i + size) :
    Calls Try.prog 33 #[.slice A n c, .int .i64 i, .int .i64 size] w fun e w' => e = .returned (.tuple #[.int .i64 0, .int .i64 10]) ∧ w = w' := by
  go_enter Try.func33, Try.ntmps33
  go_wp2
  refine wp_scope_forward 0 rfl ?_
  go_wp2_with (go_at_call 35; refine (standing_short _ _ _ _ _ _ hn hs hs4 h0 h).mono ?_; rintro e w' ⟨rfl, rfl⟩)
  go_step3
  refine ⟨rfl, ?_⟩
  go_wp2
  rw [jump_ret]
  go_ret2
  exact ⟨rfl, rfl⟩
theorem stream_ok (A : Option Addr) (B n c : Nat) (xs : List UInt8) (i : Int) (w : World) (hA : Bs w B A n xs) (h0 : 0 ≤ i) (h1 : i + 4 ≤ n) (hn : n ≤ 1000000) (hnc : n ≤ c) :
    Calls Try.prog 34 #[.slice A n c, .int .i64 i] w fun e w' => e = .returned (.tuple #[.int .i64 (takeB ((xs.drop i.toNat).take 4) % 2147483648 : Nat), .int .i64 0]) ∧ w = w' := by
  have HA := Lib.hid hA
  clear hA
  go_enter Try.func34, Try.ntmps34
  go_wp2_with (go_at_call 33; refine (take_ok _ B _ _ xs _ _ _ HA.out h0 h1 (by omega) (by omega) hn hnc).mono ?_; rintro e w' ⟨rfl, rfl⟩)
  go_ret2
  exact ⟨ret_int2 (by simp), rfl⟩
theorem stream_arg (A : Option Addr) (n c : Nat) (i : Int) (w : World) (h : i < 0) :
    Calls Try.prog 34 #[.slice A n c, .int .i64 i] w fun e w' => e = .returned (.tuple #[.int .i64 0, .int .i64 2]) ∧ w = w' := by
  go_enter Try.func34, Try.ntmps34
  go_wp2_with (go_at_call 33; refine (take_arg _ _ _ _ _ _ (by omega)).mono ?_; rintro e w' ⟨rfl, rfl⟩)
  go_ret2
  exact ⟨rfl, rfl⟩
theorem stream_short (A : Option Addr) (n c : Nat) (i : Int) (w : World) (hn : n ≤ 1000000) (h0 : 0 ≤ i) (h : (n : Int) < i + 4) :
    Calls Try.prog 34 #[.slice A n c, .int .i64 i] w fun e w' => e = .returned (.tuple #[.int .i64 0, .int .i64 10]) ∧ w = w' := by
  go_enter Try.func34, Try.ntmps34
  go_wp2_with (go_at_call 33; refine (take_short _ _ _ _ _ _ hn h0 (by omega) (by omega) h).mono ?_; rintro e w' ⟨rfl, rfl⟩)
  go_ret2
  exact ⟨rfl, rfl⟩
end Go.Proofs.Ytjoopekgbfplpaa
