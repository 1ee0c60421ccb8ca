/- OcTake, OcPut, OcRTake, OcRPut, OcTot. -/
import Derived.Test.YtbflhphjnmhjhaaGreatRows
import Derived.Test.YtbflhphjnmhjhaaGreatGMem
import Derived.Test.YtbflhphjnmhjhaaGreatGPlain
import Derived.Test.YtbflhphjnmhjhaaGreatGNum
import Derived.Test.YtbflhphjnmhjhaaGreatGStr
import Derived.WalkLawsBesides
import Derived.WalkSpells
import Derived.Maps.AppendAt
/- octet.Take, octet.Stream: what each answers; nothing has changed. -/
namespace Go.Proofs.YtbflhphjnmhjhaaGreat
open Go.RowKit Oct
attribute [local go_sem] i64_and1 i64_and7 i64_and31

theorem sized_yes (n : Int) (w : World) (h1 : 1 ≤ n) (h2 : n ≤ 4) :
    Calls Tryz.prog 98 #[.int .i64 n] w fun e w' => e = .returned (.bool true) ∧ w = w' := by
  have d1 : decide (n ≤ 4) = true := by simpa using h2
  go_enter Tryz.func98, Tryz.ntmps98
  go_wp2
  go_ret
  exact ⟨rfl, rfl⟩
theorem sized_no (n : Int) (w : World) (h : ¬ (1 ≤ n ∧ n ≤ 4)) :
    Calls Tryz.prog 98 #[.int .i64 n] w fun e w' => e = .returned (.bool false) ∧ w = w' := by
  by_cases h1 : 1 ≤ n
  · have d1 : decide (n ≤ 4) = false := by simp; omega
    go_enter Tryz.func98, Tryz.ntmps98
    go_wp2
    go_ret
    exact ⟨rfl, rfl⟩
  · go_enter Tryz.func98, Tryz.ntmps98
    go_wp2
    go_ret
    exact ⟨rfl, rfl⟩
theorem standing_arg (A : Option Addr) (n c : Nat) (i size : Int) (w : World) (h : ¬ (1 ≤ size ∧ size ≤ 4 ∧ 0 ≤ i)) :
    Calls Tryz.prog 110 #[.slice A n c, .int .i64 i, .int .i64 size] w fun e w' => e = .returned (.int .i64 2) ∧ w = w' := by
  by_cases hs : 1 ≤ size ∧ size ≤ 4
  · have hi : i < 0 := by omega
    go_enter Tryz.func110, Tryz.ntmps110
    go_wp2_with (go_at_call 98; refine (sized_yes _ _ (by omega) (by omega)).mono ?_; rintro e w' ⟨rfl, rfl⟩)
    go_ret
    exact ⟨rfl, rfl⟩
  · go_enter Tryz.func110, Tryz.ntmps110
    go_wp2_with (go_at_call 98; refine (sized_no _ _ (by omega)).mono ?_; rintro e w' ⟨rfl, rfl⟩)
    go_ret
    exact ⟨rfl, rfl⟩
theorem standing_short (A : Option Addr) (n c : Nat) (i size : Int) (w : World) (hn : n ≤ 1000000) (h1 : 1 ≤ size) (h2 : size ≤ 4) (h3 : 0 ≤ i) (h : (n : Int) < i + size) :
    Calls Tryz.prog 110 #[.slice A n c, .int .i64 i, .int .i64 size] w fun e w' => e = .returned (.int .i64 10) ∧ w = w' := by
  have d0 : decide (i < 0) = false := by simp; omega
  have d1 : (n : Int) - size < i := by omega
  go_enter Tryz.func110, Tryz.ntmps110
  go_wp2_with (go_at_call 98; refine (sized_yes _ _ (by omega) (by omega)).mono ?_; rintro e w' ⟨rfl, rfl⟩)
  go_ret
  exact ⟨rfl, rfl⟩
theorem standing_ok (A : Option Addr) (n c : Nat) (i size : Int) (w : World) (hn : n ≤ 1000000) (h1 : 1 ≤ size) (h2 : size ≤ 4) (h3 : 0 ≤ i) (h : i + size ≤ (n : Int)) :
    Calls Tryz.prog 110 #[.slice A n c, .int .i64 i, .int .i64 size] w fun e w' => e = .returned (.int .i64 0) ∧ w = w' := by
  have d0 : decide (i < 0) = false := by simp; omega
  go_enter Tryz.func110, Tryz.ntmps110
  go_wp2_with (go_at_call 98; refine (sized_yes _ _ (by omega) (by omega)).mono ?_; rintro e w' ⟨rfl, rfl⟩)
  go_ret
  exact ⟨rfl, rfl⟩
theorem takeB_take (xs : List UInt8) (i j : Nat) (x : UInt8) (h : xs[i + j]? = some x) : takeB ((xs.drop i).take (j + 1)) = takeB ((xs.drop i).take j) * 256 + x.toNat := by
  rw [List.take_add_one, List.getElem?_drop, h]
  exact takeB_snoc _ _
theorem takeB_small (xs : List UInt8) (i j : Nat) (h : j ≤ 3) : takeB ((xs.drop i).take j) ≤ 16777215 := by
  have h1 := takeB_lt ((xs.drop i).take j)
  have h2 : ((xs.drop i).take j).length ≤ 3 := Nat.le_trans (List.length_take_le _ _) h
  have h3 : 256 ^ ((xs.drop i).take j).length ≤ 256 ^ 3 := Nat.pow_le_pow_right (by decide) h2
  omega
theorem or_join8 (a b : Nat) (hb : b < 256) (ha : a ≤ 16777215) : bits .or .i64 ((a : Int) * 256) (b : Int) = (a : Int) * 256 + b := i64_or_join a b 8 hb (by omega)
theorem take_ok (A : Option Addr) (B n c : Nat) (xs : List UInt8) (i size : Int) (w : World) (hA : Bs w B A n xs) (h0 : 0 ≤ i) (h1 : i + size ≤ n) (hs : 1 ≤ size) (hs4 : size ≤ 4) (hn : n ≤ 1000000) (hnc : n ≤ c) :
    Calls Tryz.prog 104 #[.slice A n c, .int .i64 i, .int .i64 size] w fun e w' => e = .returned (.tuple #[.int .i64 (takeB ((xs.drop i.toNat).take size.toNat) : Nat), .int .i64 0]) ∧ w = w' := by
  obtain ⟨i, rfl⟩ := Int.eq_ofNat_of_zero_le h0
  obtain ⟨k, rfl⟩ := Int.eq_ofNat_of_zero_le (show 0 ≤ size by omega)
  rw [Int.toNat_natCast, Int.toNat_natCast]
  obtain ⟨b, o, rfl, hb, hc⟩ := bs_cell hA (by omega)
  have HC := Lib.hid hc
  have HA := Lib.hid hA
  clear hc hA
  go_enter Tryz.func104, Tryz.ntmps104
  go_wp2
  refine wp_scope_forward 0 rfl ?_
  go_wp2_with (go_at_call 110; refine (standing_ok _ _ _ _ _ _ hn (by omega) (by omega) (by omega) (by omega)).mono ?_; rintro e w' ⟨rfl, rfl⟩)
  go_loop [8, 11, 25] (fun a u t => ∃ j : Nat, j ≤ k ∧ t = .int .i64 j ∧ a = .int .i64 (takeB ((xs.drop i).take j) : Nat)) (fun _ _ t => k - (intOf t).toNat)
  case atStart => exact ⟨0, Nat.zero_le _, rfl, rfl⟩
  case round =>
    obtain ⟨j, hj, rfl, rfl⟩ := hrel
    by_cases hlt : j < k
    · obtain ⟨x, hx, hcx⟩ := HC.out (i + j) (by omega)
      rw [← Nat.add_assoc] at hcx
      have HS := Lib.hid (takeB_take xs i j x hx)
      clear hx
      have hsm := takeB_small xs i j (by omega)
      generalize takeB ((xs.drop i).take j) = a at *
      have hxl : x.toNat < 256 := x.toNat_lt
      have hor := or_join8 a x.toNat hxl hsm
      go_wp2
      go_round
      case rel => exact ⟨j + 1, by omega, by go_num, by rw [HS.out]; go_num⟩
      case measure => simp [intOf]; omega
    · have hjk : j = k := by omega
      subst hjk
      go_wp2
      go_ret2
      exact ⟨rfl, rfl⟩
theorem take_arg (A : Option Addr) (n c : Nat) (i size : Int) (w : World) (h : ¬ (1 ≤ size ∧ size ≤ 4 ∧ 0 ≤ i)) :
    Calls Tryz.prog 104 #[.slice A n c, .int .i64 i, .int .i64 size] w fun e w' => e = .returned (.tuple #[.int .i64 0, .int .i64 2]) ∧ w = w' := by
  go_enter Tryz.func104, Tryz.ntmps104
  go_wp2
  refine wp_scope_forward 0 rfl ?_
  go_wp2_with (go_at_call 110; refine (standing_arg _ _ _ _ _ _ h).mono ?_; rintro e w' ⟨rfl, rfl⟩)
  go_step3
  refine ⟨rfl, ?_⟩
  go_wp2
  rw [jump_ret]
  go_ret2
  exact ⟨rfl, rfl⟩
theorem take_short (A : Option Addr) (n c : Nat) (i size : Int) (w : World) (hn : n ≤ 1000000) (h0 : 0 ≤ i) (hs : 1 ≤ size) (hs4 : size ≤ 4) (h : (n : Int) < i + size) :
    Calls Tryz.prog 104 #[.slice A n c, .int .i64 i, .int .i64 size] w fun e w' => e = .returned (.tuple #[.int .i64 0, .int .i64 10]) ∧ w = w' := by
  go_enter Tryz.func104, Tryz.ntmps104
  go_wp2
  refine wp_scope_forward 0 rfl ?_
  go_wp2_with (go_at_call 110; refine (standing_short _ _ _ _ _ _ hn hs hs4 h0 h).mono ?_; rintro e w' ⟨rfl, rfl⟩)
  go_step3
  refine ⟨rfl, ?_⟩
  go_wp2
  rw [jump_ret]
  go_ret2
  exact ⟨rfl, rfl⟩
theorem stream_ok (A : Option Addr) (B n c : Nat) (xs : List UInt8) (i : Int) (w : World) (hA : Bs w B A n xs) (h0 : 0 ≤ i) (h1 : i + 4 ≤ n) (hn : n ≤ 1000000) (hnc : n ≤ c) :
    Calls Tryz.prog 108 #[.slice A n c, .int .i64 i] w fun e w' => e = .returned (.tuple #[.int .i64 (takeB ((xs.drop i.toNat).take 4) % 2147483648 : Nat), .int .i64 0]) ∧ w = w' := by
  have HA := Lib.hid hA
  clear hA
  go_enter Tryz.func108, Tryz.ntmps108
  go_wp2_with (go_at_call 104; refine (take_ok _ B _ _ xs _ _ _ HA.out h0 h1 (by omega) (by omega) hn hnc).mono ?_; rintro e w' ⟨rfl, rfl⟩)
  go_ret2
  exact ⟨ret_int2 (by simp), rfl⟩
theorem stream_arg (A : Option Addr) (n c : Nat) (i : Int) (w : World) (h : i < 0) :
    Calls Tryz.prog 108 #[.slice A n c, .int .i64 i] w fun e w' => e = .returned (.tuple #[.int .i64 0, .int .i64 2]) ∧ w = w' := by
  go_enter Tryz.func108, Tryz.ntmps108
  go_wp2_with (go_at_call 104; refine (take_arg _ _ _ _ _ _ (by omega)).mono ?_; rintro e w' ⟨rfl, rfl⟩)
  go_ret2
  exact ⟨rfl, rfl⟩
theorem stream_short (A : Option Addr) (n c : Nat) (i : Int) (w : World) (hn : n ≤ 1000000) (h0 : 0 ≤ i) (h : (n : Int) < i + 4) :
    Calls Tryz.prog 108 #[.slice A n c, .int .i64 i] w fun e w' => e = .returned (.tuple #[.int .i64 0, .int .i64 10]) ∧ w = w' := by
  go_enter Tryz.func108, Tryz.ntmps108
  go_wp2_with (go_at_call 104; refine (take_short _ _ _ _ _ _ hn h0 (by omega) (by omega) h).mono ?_; rintro e w' ⟨rfl, rfl⟩)
  go_ret2
  exact ⟨rfl, rfl⟩
end Go.Proofs.YtbflhphjnmhjhaaGreat
/- octet.Put: a number in its bytes, in memory of the call's own; and what may not be put. -/
namespace Go.Proofs.YtbflhphjnmhjhaaGreat
open Go.RowKit Oct
attribute [local go_sem] i64_and1 i64_and7 i64_and31

theorem put_bound (n : Int) (k : Nat) (h0 : 0 ≤ n) (h : ¬ n < 256 ^ k) : (n / 2 ^ (8 * k) != 0) = true := by
  obtain ⟨N, rfl⟩ := Int.eq_ofNat_of_zero_le h0
  have e : (256 : Nat) ^ k = 2 ^ (8 * k) := by rw [Nat.pow_mul]
  have h1 : 2 ^ (8 * k) ≤ N := by
    rw [← e]
    have h2 : ((256 ^ k : Nat) : Int) ≤ (N : Int) := by rw [Int.natCast_pow]; exact Int.not_lt.1 h
    omega
  have h3 : 1 ≤ N / 2 ^ (8 * k) := (Nat.le_div_iff_mul_le (Nat.two_pow_pos _)).2 (by omega)
  have h4 : ((N : Int) / 2 ^ (8 * k)) = ((N / 2 ^ (8 * k) : Nat) : Int) := by simp
  rw [h4, bne_iff_ne]
  omega
theorem put_inside (n : Int) (k : Nat) (h0 : 0 ≤ n) (h : n < 256 ^ k) : (n / 2 ^ (8 * k) != 0) = false := by
  obtain ⟨N, rfl⟩ := Int.eq_ofNat_of_zero_le h0
  have e : (256 : Nat) ^ k = 2 ^ (8 * k) := by rw [Nat.pow_mul]
  have h1 : N < 2 ^ (8 * k) := by
    rw [← e]
    have h2 : (N : Int) < ((256 ^ k : Nat) : Int) := by rw [Int.natCast_pow]; exact h
    omega
  have h3 : N / 2 ^ (8 * k) = 0 := Nat.div_eq_of_lt h1
  have h4 : ((N : Int) / 2 ^ (8 * k)) = ((N / 2 ^ (8 * k) : Nat) : Int) := by simp
  rw [h4, h3]
  rfl
theorem put_no (n size : Int) (w : World) (h : ¬ (1 ≤ size ∧ size ≤ 4 ∧ 0 ≤ n ∧ n < 256 ^ size.toNat)) :
    Calls Tryz.prog 82 #[.int .i64 n, .int .i64 size] w fun e w' => e = .returned (.tuple #[.slice none 0 0, .int .i64 2]) ∧ w = w' := by
  by_cases hs : 1 ≤ size ∧ size ≤ 4
  · obtain ⟨k, rfl⟩ := Int.eq_ofNat_of_zero_le (show 0 ≤ size by omega)
    have hs1 := hs.1
    have hs2 := hs.2
    by_cases hn : n < 0
    · go_enter Tryz.func82, Tryz.ntmps82
      go_wp2
      refine wp_scope_forward 0 rfl ?_
      go_wp2_with (go_at_call 98; refine (sized_yes _ _ (by omega) (by omega)).mono ?_; rintro e w' ⟨rfl, rfl⟩)
      go_step3
      refine ⟨rfl, ?_⟩
      go_wp2
      rw [jump_ret]
      go_ret2
      exact ⟨rfl, rfl⟩
    · have hb := put_bound n k (by omega) (fun hh => h ⟨hs1, hs2, by omega, by simpa using hh⟩)
      clear h hs
      have d0 : decide (n < 0) = false := by simp; omega
      go_enter Tryz.func82, Tryz.ntmps82
      go_wp2
      refine wp_scope_forward 0 rfl ?_
      go_wp2_with (go_at_call 98; refine (sized_yes _ _ (by omega) (by omega)).mono ?_; rintro e w' ⟨rfl, rfl⟩)
      go_step3
      refine ⟨rfl, ?_⟩
      go_wp2
      rw [jump_ret]
      go_ret2
      exact ⟨rfl, rfl⟩
  · go_enter Tryz.func82, Tryz.ntmps82
    go_wp2
    refine wp_scope_forward 0 rfl ?_
    go_wp2_with (go_at_call 98; refine (sized_no _ _ hs).mono ?_; rintro e w' ⟨rfl, rfl⟩)
    go_step3
    refine ⟨rfl, ?_⟩
    go_wp2
    rw [jump_ret]
    go_ret2
    exact ⟨rfl, rfl⟩
theorem put_step (N m j : Nat) : (putB (N / 256 ^ (m + 1)) j).map bv ++ [.int .u8 ((N : Int) / 2 ^ (8 * m) % 256)] = (putB (N / 256 ^ m) (j + 1)).map bv := by
  have e1 : N / 256 ^ m / 256 = N / 256 ^ (m + 1) := by rw [Nat.div_div_eq_div_mul, Nat.pow_succ]
  have e2 : bv (UInt8.ofNat (N / 256 ^ m)) = .int .u8 ((N : Int) / 2 ^ (8 * m) % 256) := by
    unfold bv
    have : (256 : Nat) ^ m = 2 ^ (8 * m) := by rw [Nat.pow_mul]
    rw [this]
    simp
  rw [putB, List.map_append, e1, List.map_singleton, e2]
theorem put_ok (n size : Int) (w : World) (h1 : 1 ≤ size) (h2 : size ≤ 4) (h0 : 0 ≤ n) (h : n < 256 ^ size.toNat) :
    Calls Tryz.prog 82 #[.int .i64 n, .int .i64 size] w fun e w' => ∃ v, e = .returned (.tuple #[v, .int .i64 0]) ∧ OwnB w' w.heap.size 5 v (putB n.toNat size.toNat) ∧ Below w.heap.size w w' := by
  obtain ⟨k, rfl⟩ := Int.eq_ofNat_of_zero_le (show 0 ≤ size by omega)
  have hb := put_inside n k h0 (by simpa using h)
  clear h
  obtain ⟨N, rfl⟩ := Int.eq_ofNat_of_zero_le h0
  rw [Int.toNat_natCast, Int.toNat_natCast]
  have d0 : decide ((N : Int) < 0) = false := by simp
  obtain ⟨i0, hi, hz0, hz1, hz2⟩ := info_parts info_u8
  have hinf := Lib.hid (And.intro hi (And.intro hz0 (And.intro hz1 hz2)))
  clear hi hz0 hz1 hz2
  go_enter Tryz.func82, Tryz.ntmps82
  go_wp2
  refine wp_scope_forward 0 rfl ?_
  go_wp2_with (first | (go_at_call 98; refine (sized_yes _ _ (by omega) (by omega)).mono ?_; rintro e w' ⟨rfl, rfl⟩) | (refine wpList_make_own _ rfl (.const (.int .i64 0)) (.tmp 22) 24 rfl w.heap.size 5 i0 (.int .u8 0) 1 Tryz.underlying24 hinf.out.1 hinf.out.2.1 hinf.out.2.2.1 .i64 .i64 _ k rfl rfl rfl (by rw [hinf.out.2.2.2]; omega) (by unfold maxLen; omega) (Nat.le_refl _) ?_; intro w1 hown1 hgrow1))
  have hbel1 : Below w.heap.size w w1 := (Below.refl _ _).grown hgrow1 (Nat.le_refl _) (fun k h => by cases h)
  go_loopw [6, 7] (fun v t wr => ∃ j m : Nat, j + m = k ∧ t = .int .i64 (8 * (m : Int) - 8) ∧ v = .slice (some ⟨w.heap.size, 0, none⟩) j k ∧ wr.ownsRow w.heap.size 5 1 v j ((putB (N / 256 ^ m) j).map bv) ∧ Below w.heap.size w wr) (fun _ t _ => (intOf t + 8).toNat)
  case atStart => exact ⟨0, k, by omega, by go_num, rfl, hown1, hbel1⟩
  case round =>
    obtain ⟨j, m, hjm, rfl, rfl, hown, hbel⟩ := hrel
    have hsz := hbel.size
    cases m with
    | zero =>
      obtain rfl : j = k := by omega
      go_wp2
      rw [jump_ret]
      go_ret2
      refine ⟨_, rfl, ?_, hbel⟩
      have e : N / 256 ^ 0 = N := by simp
      rw [e] at hown
      unfold OwnB
      rw [putB_length]
      exact hown
    | succ m =>
      rw [show (8 * ((m + 1 : Nat) : Int) - 8) = 8 * (m : Int) from by omega]
      go_wp2_with (at_builtin; refine wpList_append_fits _ rfl (.tmp 31) (.tmp 36) 24 rfl w.heap.size 5 i0 1 Tryz.underlying24 hinf.out.1 hinf.out.2.2.1 _ j k _ rfl (hown.alloc _) ⟨wr.heap.size, 0, none⟩ 1 1 [.int .u8 ((N : Int) / 2 ^ (8 * m) % 256)] rfl rfl (cell_one_new _ _ _) (by simp [Value.oneCell']) (by omega) ?_; intro w2 hown2 hgrow2)
      have hbel2 : Below w.heap.size w w2 := ((hbel.alloc hsz _)).grown hgrow2 (by simp; omega) (fun q h => by cases h; exact Nat.le_refl _)
      rw [put_step] at hown2
      go_roundw
      case rel => exact ⟨j + 1, m, by omega, rfl, rfl, hown2, hbel2⟩
      case measure => simp [intOf]; omega
end Go.Proofs.YtbflhphjnmhjhaaGreat
/- The document's own Take of layer 1. -/
namespace Go.Proofs.YtbflhphjnmhjhaaGreat
open Go.RowKit Oct
attribute [local go_sem] i64_and1 i64_and7 i64_and31

theorem rtake_arg (A : Option Addr) (n c : Nat) (i size : Int) (w : World) (h : ¬ (1 ≤ size ∧ size ≤ 4 ∧ 0 ≤ i)) :
    Calls Tryz.prog 79 #[.slice A n c, .int .i64 i, .int .i64 size] w fun e w' => e = .returned (.tuple #[.int .i64 0, .int .i64 2]) ∧ w = w' := by
  by_cases h1 : size < 1
  · clear h
    go_enter Tryz.func79, Tryz.ntmps79
    go_wp2
    go_ret2
    exact ⟨rfl, rfl⟩
  · have d1 : decide (size < 1) = false := by simpa using h1
    by_cases h2 : 4 < size
    · have d2 : decide (4 < size) = true := by simpa using h2
      clear h
      go_enter Tryz.func79, Tryz.ntmps79
      go_wp2
      go_ret2
      exact ⟨rfl, rfl⟩
    · have d2 : decide (4 < size) = false := by simpa using h2
      have d3 : decide (i < 0) = true := by simp; omega
      clear h
      go_enter Tryz.func79, Tryz.ntmps79
      go_wp2
      go_ret2
      exact ⟨rfl, rfl⟩
theorem rtake_short (A : Option Addr) (n c : Nat) (i size : Int) (w : World) (hn : n ≤ 1000000) (h0 : 0 ≤ i) (hs : 1 ≤ size) (hs4 : size ≤ 4) (h : (n : Int) < i + size) :
    Calls Tryz.prog 79 #[.slice A n c, .int .i64 i, .int .i64 size] w fun e w' => e = .returned (.tuple #[.int .i64 0, .int .i64 10]) ∧ w = w' := by
  have d2 : decide (4 < size) = false := by simp; omega
  have d3 : decide (i < 0) = false := by simp; omega
  by_cases h1 : (n : Int) < i
  · have d1 : decide ((n : Int) < i) = true := by simpa using h1
    clear h
    go_enter Tryz.func79, Tryz.ntmps79
    go_wp2
    go_ret2
    exact ⟨rfl, rfl⟩
  · have d1 : decide ((n : Int) < i) = false := by simpa using h1
    have d4 : decide ((n : Int) - i < size) = true := by simp; omega
    clear h
    go_enter Tryz.func79, Tryz.ntmps79
    go_wp2
    go_ret2
    exact ⟨rfl, rfl⟩
theorem rtake_ok (A : Option Addr) (B n c : Nat) (xs : List UInt8) (i size : Int) (w : World) (hA : Bs w B A n xs) (h0 : 0 ≤ i) (h1 : i + size ≤ n) (hs : 1 ≤ size) (hs4 : size ≤ 4) (hn : n ≤ 1000000) :
    Calls Tryz.prog 79 #[.slice A n c, .int .i64 i, .int .i64 size] w fun e w' => e = .returned (.tuple #[.int .i64 (takeB ((xs.drop i.toNat).take size.toNat) : Nat), .int .i64 0]) ∧ w = w' := by
  obtain ⟨i, rfl⟩ := Int.eq_ofNat_of_zero_le h0
  obtain ⟨k, rfl⟩ := Int.eq_ofNat_of_zero_le (show 0 ≤ size by omega)
  rw [Int.toNat_natCast, Int.toNat_natCast]
  obtain ⟨b, o, rfl, hb, hc⟩ := bs_cell hA (by omega)
  have HC := Lib.hid hc
  have HA := Lib.hid hA
  clear hc hA
  have d2 : decide (4 < (k : Int)) = false := by simp; omega
  have d3 : decide ((i : Int) < 0) = false := by simp
  have d1 : decide ((n : Int) < (i : Int)) = false := by simp; omega
  have d4 : decide ((n : Int) - (i : Int) < (k : Int)) = false := by simp; omega
  go_enter Tryz.func79, Tryz.ntmps79
  go_wp2
  go_loop [8, 9] (fun a t => ∃ j : Nat, j ≤ k ∧ t = .int .i64 j ∧ a = .int .i64 (takeB ((xs.drop i).take j) : Nat)) (fun _ t => k - (intOf t).toNat)
  case atStart => exact ⟨0, Nat.zero_le _, rfl, rfl⟩
  case round =>
    obtain ⟨j, hj, rfl, rfl⟩ := hrel
    by_cases hlt : j < k
    · obtain ⟨x, hx, hcx⟩ := HC.out (i + j) (by omega)
      have HS := Lib.hid (takeB_take xs i j x hx)
      clear hx
      have hsm := takeB_small xs i j (by omega)
      generalize takeB ((xs.drop i).take j) = a at *
      have hxl : x.toNat < 256 := x.toNat_lt
      go_wp2
      go_round
      case rel => exact ⟨j + 1, by omega, by go_num, by rw [HS.out]; go_num⟩
      case measure => simp [intOf]; omega
    · have hjk : j = k := by omega
      subst hjk
      go_wp2
      go_ret2
      exact ⟨rfl, rfl⟩
end Go.Proofs.YtbflhphjnmhjhaaGreat
/- The document's own Put of layer 1. -/
namespace Go.Proofs.YtbflhphjnmhjhaaGreat
open Go.RowKit Oct
attribute [local go_sem] i64_and1 i64_and7 i64_and31
namespace Oct
theorem putB_cons (k : Nat) : ∀ n : Nat, putB n (k + 1) = UInt8.ofNat (n / 256 ^ k) :: putB n k := by
  induction k with
  | zero => intro n; simp [putB]
  | succ k ih =>
    intro n
    rw [putB, ih (n / 256), Nat.div_div_eq_div_mul, ← Nat.pow_succ']
    rfl
theorem put_set (N m j : Nat) : (List.replicate (m + 1) (0 : UInt8) ++ putB N j).set m (UInt8.ofNat (N / 256 ^ j)) = List.replicate m 0 ++ putB N (j + 1) := by
  rw [List.set_append_left _ _ (by simp), putB_cons, List.replicate_succ', List.set_append_right _ _ (by simp)]
  simp
end Oct

theorem ref_wrap (k : Nat) (h : k ≤ 4) : wrap64 (2 ^ (8 * k)) = 256 ^ k := by
  have : k = 0 ∨ k = 1 ∨ k = 2 ∨ k = 3 ∨ k = 4 := by omega
  rcases this with rfl | rfl | rfl | rfl | rfl <;> decide +kernel
theorem rput_no (n size : Int) (w : World) (h : ¬ (1 ≤ size ∧ size ≤ 4 ∧ 0 ≤ n ∧ n < 256 ^ size.toNat)) :
    Calls Tryz.prog 53 #[.int .i64 n, .int .i64 size] w fun e w' => e = .returned (.tuple #[.slice none 0 0, .int .i64 2]) ∧ w = w' := by
  by_cases h1 : size < 1
  · clear h
    go_enter Tryz.func53, Tryz.ntmps53
    go_wp2
    go_ret2
    exact ⟨rfl, rfl⟩
  · have d1 : decide (size < 1) = false := by simpa using h1
    by_cases h2 : 4 < size
    · have d2 : decide (4 < size) = true := by simpa using h2
      clear h
      go_enter Tryz.func53, Tryz.ntmps53
      go_wp2
      go_ret2
      exact ⟨rfl, rfl⟩
    · have d2 : decide (4 < size) = false := by simpa using h2
      by_cases h3 : n < 0
      · have d3 : decide (n < 0) = true := by simpa using h3
        clear h
        go_enter Tryz.func53, Tryz.ntmps53
        go_wp2
        go_ret2
        exact ⟨rfl, rfl⟩
      · have d3 : decide (n < 0) = false := by simpa using h3
        obtain ⟨k, rfl⟩ := Int.eq_ofNat_of_zero_le (show 0 ≤ size by omega)
        have d4 : decide (wrap64 (2 ^ (8 * k)) ≤ n) = true := by
          rw [ref_wrap k (by omega)]
          simp only [decide_eq_true_eq]
          exact Int.not_lt.1 fun hh => h ⟨by omega, by omega, by omega, by simpa using hh⟩
        clear h
        go_enter Tryz.func53, Tryz.ntmps53
        go_wp2
        go_ret2
        exact ⟨rfl, rfl⟩
theorem made_row {w w2 : World} {L : Nat} (hown : w2.ownsRow w.heap.size 5 1 (.slice (some ⟨w.heap.size, 0, none⟩) L L) L (madeCells (Value.int IntKind.u8 0).cells (L * 1)).toList)
    (hg : w.grownBy w2 none) : RowB w2 w.heap.size 5 (List.replicate L 0) ∧ Below w.heap.size w w2 := by
  refine ⟨?_, (Below.refl _ _).grown hg (Nat.le_refl _) (fun k h => by cases h)⟩
  have e : (madeCells (Value.int IntKind.u8 0).cells (L * 1)).toList = (List.replicate L (0 : UInt8)).map bv := by
    rw [Nat.mul_one]
    have h1 : (Value.int IntKind.u8 0).cells = #[Value.int IntKind.u8 0] := rfl
    rw [h1, toList_madeCells_one, List.map_replicate]
    rfl
  rw [e] at hown
  exact RowB.of_own hown
theorem byte_mod (x : Nat) : ((UInt8.ofNat x).toNat : Int) = (x : Int) % 256 := by simp
set_option maxRecDepth 100000 in
theorem rput_ok (n size : Int) (w : World) (h1 : 1 ≤ size) (h2 : size ≤ 4) (h0 : 0 ≤ n) (h : n < 256 ^ size.toNat) :
    Calls Tryz.prog 53 #[.int .i64 n, .int .i64 size] w fun e w' => ∃ v, e = .returned (.tuple #[v, .int .i64 0]) ∧ OwnB w' w.heap.size 5 v (putB n.toNat size.toNat) ∧ Below w.heap.size w w' := by
  obtain ⟨k, rfl⟩ := Int.eq_ofNat_of_zero_le (show 0 ≤ size by omega)
  have d4 : decide (wrap64 (2 ^ (8 * k)) ≤ n) = false := by
    rw [ref_wrap k (by omega)]
    simp only [decide_eq_false_iff_not]
    exact Int.not_le.2 (by simpa using h)
  have hN : n < 4294967296 := by
    rw [Int.toNat_natCast] at h
    have : k = 1 ∨ k = 2 ∨ k = 3 ∨ k = 4 := by omega
    rcases this with rfl | rfl | rfl | rfl <;> omega
  have HN := Lib.hid hN
  clear h hN
  obtain ⟨N, hNn⟩ : ∃ N, n.toNat = N := ⟨_, rfl⟩
  rw [hNn, Int.toNat_natCast]
  have HNN : Hid (n = (N : Int)) := Lib.hid (by omega)
  clear hNn
  have d1 : decide (4 < (k : Int)) = false := by simp; omega
  have d0 : decide (n < 0) = false := by simp; omega
  obtain ⟨i0, hi, hz0, hz1, hz2⟩ := info_parts info_u8
  have hinf := Lib.hid (And.intro hi (And.intro hz0 (And.intro hz1 hz2)))
  clear hi hz0 hz1 hz2
  go_enter Tryz.func53, Tryz.ntmps53
  go_wp2_with (refine wpList_make_full _ rfl (.tmp 26) (.tmp 26) 24 rfl w.heap.size 5 i0 (.int .u8 0) 1 Tryz.underlying24 hinf.out.1 hinf.out.2.1 hinf.out.2.2.1 .i64 .i64 _ _ k rfl rfl rfl rfl (by rw [hinf.out.2.2.2]; omega) (by unfold maxLen; omega) (Nat.le_refl _) ?_; intro w2 hown2 hgrow2; have hfacts := made_row hown2 hgrow2; clear hown2 hgrow2; have HG := Lib.hid hfacts.1; have hbel2 := hfacts.2; clear hfacts)
  go_loopw [0, 7] (fun a t wr => ∃ m j : Nat, m + j = k ∧ t = .int .i64 ((m : Int) - 1) ∧ a = .int .i64 (N / 256 ^ j : Nat) ∧ RowB wr w.heap.size 5 (List.replicate m 0 ++ putB N j) ∧ Below w.heap.size w wr) (fun _ t _ => (intOf t + 1).toNat)
  case atStart => exact ⟨k, 0, by omega, rfl, by rw [HNN.out]; simp, by simpa [putB] using HG.out, hbel2⟩
  case round =>
    obtain ⟨m, j, hmj, rfl, rfl, hrow, hbel⟩ := hrel
    cases m with
    | zero =>
      obtain rfl : j = k := by omega
      have HR := Lib.hid hrow
      clear hrow
      go_wp2
      go_ret2
      refine ⟨_, rfl, ?_, hbel⟩
      have hr := HR.out
      rw [List.replicate_zero, List.nil_append] at hr
      have ho := hr.own (Nat.le_refl w.heap.size) (by rw [putB_length]; unfold maxLen; omega)
      rw [putB_length] at ho
      exact ho
    | succ m =>
      rw [show ((m + 1 : Nat) : Int) - 1 = (m : Int) from by omega]
      have hset := hrow.set_ m (UInt8.ofNat (N / 256 ^ j))
      rw [put_set, byte_mod] at hset
      have HS := Lib.hid hset
      have hfr := hrow.frozen m
      have hcl : wr.cell? ⟨w.heap.size, m, none⟩ = some (.int .u8 0) := by
        have := hrow.cell (j := m) (x := 0) (by rw [List.getElem?_append_left (by simp)]; simp)
        simpa using this
      have hle : N / 256 ^ j ≤ N := Nat.div_le_self _ _
      have HQ : Hid (N / 256 ^ j / 256 = N / 256 ^ (j + 1)) := Lib.hid (by rw [Nat.div_div_eq_div_mul, Nat.pow_succ])
      clear hrow hset
      generalize N / 256 ^ j = q at *
      have hbel' := hbel.setCell (p := ⟨w.heap.size, m, none⟩) (Nat.le_refl _) (.int .u8 ((q : Int) % 256))
      have HB := Lib.hid hbel'
      have hq2 : q ≤ 4294967296 := by have := HN.out; have := HNN.out; omega
      clear hbel'
      go_wp2
      go_roundw
      case rel => exact ⟨m, j + 1, by omega, rfl, by rw [← HQ.out]; go_num, HS.out, HB.out⟩
      case measure => simp [intOf]
end Go.Proofs.YtbflhphjnmhjhaaGreat
/- octet's Put, Take and Stream and the document's, whatever they are handed: the same values. -/
namespace Go.Proofs.YtbflhphjnmhjhaaGreat
open Go.RowKit Oct
attribute [local go_sem] i64_and1 i64_and7 i64_and31
namespace Oct
/-- What the calls answer, whatever is handed in. -/
def PutIn (N S : Int) : Prop := 1 ≤ S ∧ S ≤ 4 ∧ 0 ≤ N ∧ N < 256 ^ S.toNat
instance (N S : Int) : Decidable (PutIn N S) := by unfold PutIn; infer_instance
def putV (N S : Int) : List UInt8 := if PutIn N S then putB N.toNat S.toNat else []
def putE (N S : Int) : Int := if PutIn N S then 0 else 2
def takeE (n : Nat) (i S : Int) : Int := if 1 ≤ S ∧ S ≤ 4 ∧ 0 ≤ i then if i + S ≤ n then 0 else 10 else 2
def takeV (xs : List UInt8) (n : Nat) (i S : Int) : Int := if takeE n i S = 0 then (takeB ((xs.drop i.toNat).take S.toNat) : Nat) else 0
def streamV (xs : List UInt8) (n : Nat) (i : Int) : Int := if takeE n i 4 = 0 then (takeB ((xs.drop i.toNat).take 4) % 2147483648 : Nat) else 0
end Oct
theorem put_tot (N S : Int) (w : World) :
    Calls Tryz.prog 82 #[.int .i64 N, .int .i64 S] w fun e w' => ∃ v, e = .returned (.tuple #[v, .int .i64 (putE N S)]) ∧ Hands v w' (putV N S) ∧ Below w.heap.size w w' := by
  unfold putV putE
  by_cases h : PutIn N S
  · rw [if_pos h, if_pos h]
    refine (put_ok N S w h.1 h.2.1 h.2.2.1 h.2.2.2).mono ?_
    rintro e w' ⟨v, rfl, ho, hb⟩
    exact ⟨v, rfl, ho.hands, hb⟩
  · rw [if_neg h, if_neg h]
    refine (put_no N S w h).mono ?_
    rintro e w' ⟨rfl, rfl⟩
    exact ⟨_, rfl, Hands.nil_ _, Below.refl _ _⟩
theorem rput_tot (N S : Int) (w : World) :
    Calls Tryz.prog 53 #[.int .i64 N, .int .i64 S] w fun e w' => ∃ v, e = .returned (.tuple #[v, .int .i64 (putE N S)]) ∧ Hands v w' (putV N S) ∧ Below w.heap.size w w' := by
  unfold putV putE
  by_cases h : PutIn N S
  · rw [if_pos h, if_pos h]
    refine (rput_ok N S w h.1 h.2.1 h.2.2.1 h.2.2.2).mono ?_
    rintro e w' ⟨v, rfl, ho, hb⟩
    exact ⟨v, rfl, ho.hands, hb⟩
  · rw [if_neg h, if_neg h]
    refine (rput_no N S w h).mono ?_
    rintro e w' ⟨rfl, rfl⟩
    exact ⟨_, rfl, Hands.nil_ _, Below.refl _ _⟩
theorem take_tot (A : Option Addr) (B n c : Nat) (xs : List UInt8) (i S : Int) (w : World) (hA : Bs w B A n xs) (hn : n ≤ 1000000) (hnc : n ≤ c) :
    Calls Tryz.prog 104 #[.slice A n c, .int .i64 i, .int .i64 S] w fun e w' => e = .returned (.tuple #[.int .i64 (takeV xs n i S), .int .i64 (takeE n i S)]) ∧ w = w' := by
  unfold takeV takeE
  by_cases h : 1 ≤ S ∧ S ≤ 4 ∧ 0 ≤ i
  · by_cases h2 : i + S ≤ n
    · simp only [if_pos h, if_pos h2]
      exact take_ok A B n c xs i S w hA h.2.2 h2 h.1 h.2.1 hn hnc
    · simp only [if_pos h, if_neg h2]
      exact take_short A n c i S w hn h.2.2 h.1 h.2.1 (by omega)
  · simp only [if_neg h]
    exact take_arg A n c i S w h
theorem rtake_tot (A : Option Addr) (B n c : Nat) (xs : List UInt8) (i S : Int) (w : World) (hA : Bs w B A n xs) (hn : n ≤ 1000000) :
    Calls Tryz.prog 79 #[.slice A n c, .int .i64 i, .int .i64 S] w fun e w' => e = .returned (.tuple #[.int .i64 (takeV xs n i S), .int .i64 (takeE n i S)]) ∧ w = w' := by
  unfold takeV takeE
  by_cases h : 1 ≤ S ∧ S ≤ 4 ∧ 0 ≤ i
  · by_cases h2 : i + S ≤ n
    · simp only [if_pos h, if_pos h2]
      exact rtake_ok A B n c xs i S w hA h.2.2 h2 h.1 h.2.1 hn
    · simp only [if_pos h, if_neg h2]
      exact rtake_short A n c i S w hn h.2.2 h.1 h.2.1 (by omega)
  · simp only [if_neg h]
    exact rtake_arg A n c i S w h
theorem stream_tot (A : Option Addr) (B n c : Nat) (xs : List UInt8) (i : Int) (w : World) (hA : Bs w B A n xs) (hn : n ≤ 1000000) (hnc : n ≤ c) :
    Calls Tryz.prog 108 #[.slice A n c, .int .i64 i] w fun e w' => e = .returned (.tuple #[.int .i64 (streamV xs n i), .int .i64 (takeE n i 4)]) ∧ w = w' := by
  unfold streamV takeE
  by_cases h : 0 ≤ i
  · have h' : (1 : Int) ≤ 4 ∧ (4 : Int) ≤ 4 ∧ 0 ≤ i := ⟨by omega, by omega, h⟩
    by_cases h2 : i + 4 ≤ n
    · simp only [if_pos h', if_pos h2]
      exact stream_ok A B n c xs i w hA h h2 hn hnc
    · simp only [if_pos h', if_neg h2]
      exact stream_short A n c i w hn h (by omega)
  · have h' : ¬ ((1 : Int) ≤ 4 ∧ (4 : Int) ≤ 4 ∧ 0 ≤ i) := by omega
    simp only [if_neg h']
    exact stream_arg A n c i w (by omega)
end Go.Proofs.YtbflhphjnmhjhaaGreat
