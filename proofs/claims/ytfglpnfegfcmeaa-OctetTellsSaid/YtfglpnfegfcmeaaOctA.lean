/- Walks of package octet's small functions: what each answers, and that nothing that was there has changed. -/
import Derived.Test.YtfglpnfegfcmeaaRows
import Derived.Test.YtfglpnfegfcmeaaOctMem
import Derived.Test.YtfglpnfegfcmeaaOctPlain
import Derived.Test.YtfglpnfegfcmeaaOctNum
import Derived.WalkLawsBesides
import Derived.WalkSpells
namespace Go.Proofs.Ytfglpnfegfcmeaa
open Go.RowKit Oct
attribute [local go_sem] i64_and1 i64_and7 i64_and31

theorem ret_int {k : IntKind} {a b : Int} (h : a = b) : Ending.returned (.int k a) = .returned (.int k b) := by rw [h]
theorem ret_int2 {k : IntKind} {a b : Int} {v : Value} (h : a = b) : Ending.returned (.tuple #[.int k a, v]) = .returned (.tuple #[.int k b, v]) := by rw [h]

theorem sized_yes (n : Int) (w : World) (h1 : 1 ≤ n) (h2 : n ≤ 4) :
    Calls Try.prog 23 #[.int .i64 n] w fun e w' => e = .returned (.bool true) ∧ w = w' := by
  have d1 : decide (n ≤ 4) = true := by simpa using h2
  go_enter Try.func23, Try.ntmps23
  go_wp2
  go_ret
  exact ⟨rfl, rfl⟩
theorem sized_no (n : Int) (w : World) (h : ¬ (1 ≤ n ∧ n ≤ 4)) :
    Calls Try.prog 23 #[.int .i64 n] w fun e w' => e = .returned (.bool false) ∧ w = w' := by
  by_cases h1 : 1 ≤ n
  · have d1 : decide (n ≤ 4) = false := by simp; omega
    go_enter Try.func23, Try.ntmps23
    go_wp2
    go_ret
    exact ⟨rfl, rfl⟩
  · go_enter Try.func23, Try.ntmps23
    go_wp2
    go_ret
    exact ⟨rfl, rfl⟩
theorem coded_yes (n : Int) (w : World) (h1 : 0 ≤ n) (h2 : n ≤ 30) :
    Calls Try.prog 27 #[.int .i64 n] w fun e w' => e = .returned (.bool true) ∧ w = w' := by
  have d1 : decide (n ≤ 30) = true := by simpa using h2
  go_enter Try.func27, Try.ntmps27
  go_wp2
  go_ret
  exact ⟨rfl, rfl⟩
theorem coded_no (n : Int) (w : World) (h : ¬ (0 ≤ n ∧ n ≤ 30)) :
    Calls Try.prog 27 #[.int .i64 n] w fun e w' => e = .returned (.bool false) ∧ w = w' := by
  by_cases h1 : 0 ≤ n
  · have d1 : decide (n ≤ 30) = false := by simp; omega
    go_enter Try.func27, Try.ntmps27
    go_wp2
    go_ret
    exact ⟨rfl, rfl⟩
  · go_enter Try.func27, Try.ntmps27
    go_wp2
    go_ret
    exact ⟨rfl, rfl⟩
theorem room_any (A : Option Addr) (n c : Nat) (w : World) (h : n ≤ 1000000) :
    Calls Try.prog 25 #[.slice A n c] w fun e w' => e = .returned (.int .i64 ((n : Int) * 8)) ∧ w = w' := by
  go_enter Try.func25, Try.ntmps25
  go_wp2
  go_ret
  exact ⟨rfl, rfl⟩
theorem need_any (n : Int) (w : World) (h0 : 0 ≤ n) (h : n ≤ 10000000) :
    Calls Try.prog 29 #[.int .i64 n] w fun e w' => e = .returned (.int .i64 ((n + 7) / 8)) ∧ w = w' := by
  go_enter Try.func29, Try.ntmps29
  go_wp2
  go_ret
  exact ⟨rfl, rfl⟩
theorem standing_arg (A : Option Addr) (n c : Nat) (i size : Int) (w : World) (h : ¬ (1 ≤ size ∧ size ≤ 4 ∧ 0 ≤ i)) :
    Calls Try.prog 24 #[.slice A n c, .int .i64 i, .int .i64 size] w fun e w' => e = .returned (.int .i64 2) ∧ w = w' := by
  by_cases hs : 1 ≤ size ∧ size ≤ 4
  · have hi : i < 0 := by omega
    go_enter Try.func24, Try.ntmps24
    go_wp2_with (go_at_call 23; refine (sized_yes _ _ (by omega) (by omega)).mono ?_; rintro e w' ⟨rfl, rfl⟩)
    go_ret
    exact ⟨rfl, rfl⟩
  · go_enter Try.func24, Try.ntmps24
    go_wp2_with (go_at_call 23; refine (sized_no _ _ (by omega)).mono ?_; rintro e w' ⟨rfl, rfl⟩)
    go_ret
    exact ⟨rfl, rfl⟩
theorem standing_short (A : Option Addr) (n c : Nat) (i size : Int) (w : World) (hn : n ≤ 1000000) (h1 : 1 ≤ size) (h2 : size ≤ 4) (h3 : 0 ≤ i) (h : (n : Int) < i + size) :
    Calls Try.prog 24 #[.slice A n c, .int .i64 i, .int .i64 size] w fun e w' => e = .returned (.int .i64 10) ∧ w = w' := by
  have d0 : decide (i < 0) = false := by simp; omega
  have d1 : (n : Int) - size < i := by omega
  go_enter Try.func24, Try.ntmps24
  go_wp2_with (go_at_call 23; refine (sized_yes _ _ (by omega) (by omega)).mono ?_; rintro e w' ⟨rfl, rfl⟩)
  go_ret
  exact ⟨rfl, rfl⟩
theorem standing_ok (A : Option Addr) (n c : Nat) (i size : Int) (w : World) (hn : n ≤ 1000000) (h1 : 1 ≤ size) (h2 : size ≤ 4) (h3 : 0 ≤ i) (h : i + size ≤ (n : Int)) :
    Calls Try.prog 24 #[.slice A n c, .int .i64 i, .int .i64 size] w fun e w' => e = .returned (.int .i64 0) ∧ w = w' := by
  have d0 : decide (i < 0) = false := by simp; omega
  go_enter Try.func24, Try.ntmps24
  go_wp2_with (go_at_call 23; refine (sized_yes _ _ (by omega) (by omega)).mono ?_; rintro e w' ⟨rfl, rfl⟩)
  go_ret
  exact ⟨rfl, rfl⟩
theorem byte_shr (x : UInt8) (k : Nat) : 0 ≤ (x.toNat : Int) / 2 ^ k ∧ (x.toNat : Int) / 2 ^ k ≤ 255 := by
  have h : ((x.toNat : Int) / 2 ^ k) = ((x.toNat / 2 ^ k : Nat) : Int) := by simp
  have h2 : x.toNat / 2 ^ k ≤ x.toNat := Nat.div_le_self _ _
  have := x.toNat_lt
  rw [h]
  generalize x.toNat / 2 ^ k = y at *
  omega
theorem bit_raw (b o n c i : Nat) (x : UInt8) (w : World) (h1 : i < 8 * n) (hn : n ≤ 1000000) (hc : w.cell? ⟨b, o + i / 8, none⟩ = some (.int .u8 (x.toNat : Int))) :
    Calls Try.prog 26 #[.slice (some ⟨b, o, none⟩) n c, .int .i64 i] w fun e w' => e = .returned (.int .i64 ((x.toNat / 2 ^ (7 - i % 8) % 2 : Nat) : Int)) ∧ w = w' := by
  have hs : 0 ≤ 7 - (i : Int) % 8 := by omega
  have hx := (byte_shr x (7 - i % 8)).1
  have hx' := (byte_shr x (7 - i % 8)).2
  go_enter Try.func26, Try.ntmps26
  go_wp2
  go_ret
  exact ⟨ret_int (by simp), rfl⟩
theorem takeB_take (xs : List UInt8) (i j : Nat) (x : UInt8) (h : xs[i + j]? = some x) : takeB ((xs.drop i).take (j + 1)) = takeB ((xs.drop i).take j) * 256 + x.toNat := by
  rw [List.take_add_one, List.getElem?_drop, h]
  exact takeB_snoc _ _
theorem takeB_small (xs : List UInt8) (i j : Nat) (h : j ≤ 3) : takeB ((xs.drop i).take j) ≤ 16777215 := by
  have h1 := takeB_lt ((xs.drop i).take j)
  have h2 : ((xs.drop i).take j).length ≤ 3 := Nat.le_trans (List.length_take_le _ _) h
  have h3 : 256 ^ ((xs.drop i).take j).length ≤ 256 ^ 3 := Nat.pow_le_pow_right (by decide) h2
  omega
theorem or_join8 (a b : Nat) (hb : b < 256) (ha : a ≤ 16777215) : bits .or .i64 ((a : Int) * 256) (b : Int) = (a : Int) * 256 + b := i64_or_join a b 8 hb (by omega)
theorem bs_cell {w : World} {B n : Nat} {A : Option Addr} {xs : List UInt8} (h : Bs w B A n xs) (hn : 0 < n) :
    ∃ b o, A = some ⟨b, o, none⟩ ∧ b < B ∧ ∀ j, j < n → ∃ x, xs[j]? = some x ∧ w.cell? ⟨b, o + j, none⟩ = some (.int .u8 (x.toNat : Int)) := by
  obtain ⟨b, o, e, hb, hc⟩ := h.2 hn
  refine ⟨b, o, e, hb, fun j hj => ?_⟩
  have hl : j < xs.length := by have := h.1; omega
  have := hc j hj
  rw [List.getElem?_eq_getElem hl, Option.getD_some] at this
  exact ⟨xs[j], List.getElem?_eq_getElem hl, this⟩
theorem take_ok (A : Option Addr) (B n c : Nat) (xs : List UInt8) (i size : Int) (w : World) (hA : Bs w B A n xs) (h0 : 0 ≤ i) (h1 : i + size ≤ n) (hs : 1 ≤ size) (hs4 : size ≤ 4) (hn : n ≤ 1000000) (hnc : n ≤ c) :
    Calls Try.prog 11 #[.slice A n c, .int .i64 i, .int .i64 size] w fun e w' => e = .returned (.tuple #[.int .i64 (takeB ((xs.drop i.toNat).take size.toNat) : Nat), .int .i64 0]) ∧ w = w' := by
  obtain ⟨i, rfl⟩ := Int.eq_ofNat_of_zero_le h0
  obtain ⟨k, rfl⟩ := Int.eq_ofNat_of_zero_le (show 0 ≤ size by omega)
  rw [Int.toNat_natCast, Int.toNat_natCast]
  obtain ⟨b, o, rfl, hb, hc⟩ := bs_cell hA (by omega)
  have HC := Lib.hid hc
  have HA := Lib.hid hA
  clear hc hA
  go_enter Try.func11, Try.ntmps11
  go_wp2
  refine wp_scope_forward 0 rfl ?_
  go_wp2_with (go_at_call 24; refine (standing_ok _ _ _ _ _ _ hn (by omega) (by omega) (by omega) (by omega)).mono ?_; rintro e w' ⟨rfl, rfl⟩)
  go_loop [8, 11, 25] (fun a u t => ∃ j : Nat, j ≤ k ∧ t = .int .i64 j ∧ a = .int .i64 (takeB ((xs.drop i).take j) : Nat)) (fun _ _ t => k - (intOf t).toNat)
  case atStart => exact ⟨0, Nat.zero_le _, rfl, rfl⟩
  case round =>
    obtain ⟨j, hj, rfl, rfl⟩ := hrel
    by_cases hlt : j < k
    · obtain ⟨x, hx, hcx⟩ := HC.out (i + j) (by omega)
      rw [← Nat.add_assoc] at hcx
      have HS := Lib.hid (takeB_take xs i j x hx)
      clear hx
      have hsm := takeB_small xs i j (by omega)
      generalize takeB ((xs.drop i).take j) = a at *
      have hxl : x.toNat < 256 := x.toNat_lt
      have hor := or_join8 a x.toNat hxl hsm
      go_wp2
      go_round
      case rel => exact ⟨j + 1, by omega, by go_num, by rw [HS.out]; go_num⟩
      case measure => simp [intOf]; omega
    · have hjk : j = k := by omega
      subst hjk
      go_wp2
      go_ret2
      exact ⟨rfl, rfl⟩
theorem take_arg (A : Option Addr) (n c : Nat) (i size : Int) (w : World) (h : ¬ (1 ≤ size ∧ size ≤ 4 ∧ 0 ≤ i)) :
    Calls Try.prog 11 #[.slice A n c, .int .i64 i, .int .i64 size] w fun e w' => e = .returned (.tuple #[.int .i64 0, .int .i64 2]) ∧ w = w' := by
  go_enter Try.func11, Try.ntmps11
  go_wp2
  refine wp_scope_forward 0 rfl ?_
  go_wp2_with (go_at_call 24; refine (standing_arg _ _ _ _ _ _ h).mono ?_; rintro e w' ⟨rfl, rfl⟩)
  go_step3
  refine ⟨rfl, ?_⟩
  go_wp2
  rw [jump_ret]
  go_ret2
  exact ⟨rfl, rfl⟩
theorem take_short (A : Option Addr) (n c : Nat) (i size : Int) (w : World) (hn : n ≤ 1000000) (h0 : 0 ≤ i) (hs : 1 ≤ size) (hs4 : size ≤ 4) (h : (n : Int) < i + size) :
    Calls Try.prog 11 #[.slice A n c, .int .i64 i, .int .i64 size] w fun e w' => e = .returned (.tuple #[.int .i64 0, .int .i64 10]) ∧ w = w' := by
  go_enter Try.func11, Try.ntmps11
  go_wp2
  refine wp_scope_forward 0 rfl ?_
  go_wp2_with (go_at_call 24; refine (standing_short _ _ _ _ _ _ hn hs hs4 h0 h).mono ?_; rintro e w' ⟨rfl, rfl⟩)
  go_step3
  refine ⟨rfl, ?_⟩
  go_wp2
  rw [jump_ret]
  go_ret2
  exact ⟨rfl, rfl⟩
theorem stream_ok (A : Option Addr) (B n c : Nat) (xs : List UInt8) (i : Int) (w : World) (hA : Bs w B A n xs) (h0 : 0 ≤ i) (h1 : i + 4 ≤ n) (hn : n ≤ 1000000) (hnc : n ≤ c) :
    Calls Try.prog 13 #[.slice A n c, .int .i64 i] w fun e w' => e = .returned (.tuple #[.int .i64 (takeB ((xs.drop i.toNat).take 4) % 2147483648 : Nat), .int .i64 0]) ∧ w = w' := by
  have HA := Lib.hid hA
  clear hA
  go_enter Try.func13, Try.ntmps13
  go_wp2_with (go_at_call 11; refine (take_ok _ B _ _ xs _ _ _ HA.out h0 h1 (by omega) (by omega) hn hnc).mono ?_; rintro e w' ⟨rfl, rfl⟩)
  go_ret2
  exact ⟨ret_int2 (by simp), rfl⟩
theorem stream_arg (A : Option Addr) (n c : Nat) (i : Int) (w : World) (h : i < 0) :
    Calls Try.prog 13 #[.slice A n c, .int .i64 i] w fun e w' => e = .returned (.tuple #[.int .i64 0, .int .i64 2]) ∧ w = w' := by
  go_enter Try.func13, Try.ntmps13
  go_wp2_with (go_at_call 11; refine (take_arg _ _ _ _ _ _ (by omega)).mono ?_; rintro e w' ⟨rfl, rfl⟩)
  go_ret2
  exact ⟨rfl, rfl⟩
theorem stream_short (A : Option Addr) (n c : Nat) (i : Int) (w : World) (hn : n ≤ 1000000) (h0 : 0 ≤ i) (h : (n : Int) < i + 4) :
    Calls Try.prog 13 #[.slice A n c, .int .i64 i] w fun e w' => e = .returned (.tuple #[.int .i64 0, .int .i64 10]) ∧ w = w' := by
  go_enter Try.func13, Try.ntmps13
  go_wp2_with (go_at_call 11; refine (take_short _ _ _ _ _ _ hn h0 (by omega) (by omega) h).mono ?_; rintro e w' ⟨rfl, rfl⟩)
  go_ret2
  exact ⟨rfl, rfl⟩
theorem bit_yes (A : Option Addr) (B n c : Nat) (xs : List UInt8) (i : Int) (w : World) (hA : Bs w B A n xs) (h0 : 0 ≤ i) (h1 : i < 8 * n) (hn : n ≤ 1000000) :
    Calls Try.prog 16 #[.slice A n c, .int .i64 i] w fun e w' => e = .returned (.tuple #[.int .i64 (bitOf xs i.toNat), .bool true]) ∧ w = w' := by
  obtain ⟨i, rfl⟩ := Int.eq_ofNat_of_zero_le h0
  rw [Int.toNat_natCast]
  obtain ⟨b, o, rfl, hb, hc⟩ := bs_cell hA (by omega)
  obtain ⟨x, hx, hcx⟩ := hc (i / 8) (by omega)
  have HA : Hid (bitOf xs i = x.toNat / 2 ^ (7 - i % 8) % 2) := Lib.hid (by unfold bitOf; rw [hx]; rfl)
  clear hc hA hx
  have hnn : decide ((n : Int) * 8 ≤ (i : Int)) = false := by simp; omega
  go_enter Try.func16, Try.ntmps16
  go_wp2
  refine wp_scope_forward 0 rfl ?_
  go_wp2_with (first | (go_at_call 25; refine (room_any _ _ _ _ hn).mono ?_; rintro e w' ⟨rfl, rfl⟩) | (go_at_call 26; refine (bit_raw _ _ _ _ i x _ (by omega) hn hcx).mono ?_; rintro e w' ⟨rfl, rfl⟩))
  rw [jump_ret]
  go_ret2
  exact ⟨ret_int2 (by rw [HA.out]; simp), rfl⟩
theorem bit_none (A : Option Addr) (n c : Nat) (i : Int) (w : World) (h : ¬ (0 ≤ i ∧ i < 8 * n)) (hn : n ≤ 1000000) :
    Calls Try.prog 16 #[.slice A n c, .int .i64 i] w fun e w' => e = .returned (.tuple #[.int .i64 0, .bool false]) ∧ w = w' := by
  by_cases h0 : i < 0
  · go_enter Try.func16, Try.ntmps16
    go_wp2
    refine wp_scope_forward 0 rfl ?_
    go_wp2
    go_step3
    refine ⟨rfl, ?_⟩
    go_wp2
    rw [jump_ret]
    go_ret2
    exact ⟨rfl, rfl⟩
  · have hnn : decide ((n : Int) * 8 ≤ (i : Int)) = true := by simp; omega
    go_enter Try.func16, Try.ntmps16
    go_wp2
    refine wp_scope_forward 0 rfl ?_
    go_wp2_with (go_at_call 25; refine (room_any _ _ _ _ hn).mono ?_; rintro e w' ⟨rfl, rfl⟩)
    go_step3
    refine ⟨rfl, ?_⟩
    go_wp2
    rw [jump_ret]
    go_ret2
    exact ⟨rfl, rfl⟩
end Go.Proofs.Ytfglpnfegfcmeaa
