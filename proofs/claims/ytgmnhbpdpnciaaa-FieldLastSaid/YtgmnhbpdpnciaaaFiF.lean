/- Walks of the document's TakePairs; what both take at a place. -/
import Derived.Test.YtgmnhbpdpnciaaaFiE
namespace Go.Proofs.Ytgmnhbpdpnciaaa
open Go.RowKit Oct Fi
attribute [local go_sem] i64_and1 i64_and7 i64_and31

theorem takeB_le (xs : List UInt8) (d k : Nat) : takeB ((xs.drop d).take k) < 256 ^ k := by
  have h1 := takeB_lt ((xs.drop d).take k)
  have h2 : ((xs.drop d).take k).length ≤ k := List.length_take_le _ _
  exact Nat.lt_of_lt_of_le h1 (Nat.pow_le_pow_right (by decide) h2)
theorem pairAt_1 (xs : List UInt8) (j : Nat) : takeB ((xs.drop (j * 6)).take 2) = (pairAt xs j).1.toNat := by
  have h := takeB_le xs (j * 6) 2
  simp only [pairAt, UInt16.toNat_ofNat']
  omega
theorem pairAt_2 (xs : List UInt8) (j : Nat) : takeB ((xs.drop (j * 6 + 2)).take 4) = (pairAt xs j).2.toNat := by
  have h := takeB_le xs (j * 6 + 2) 4
  simp only [pairAt, UInt32.toNat_ofNat']
  omega
theorem rtakeP1 (A : Option Addr) (B n c : Nat) (xs : List UInt8) (j : Nat) (w : World) (hA : Bs w B A n xs) (hn : n ≤ 1000000) (hj : j * 6 + 6 ≤ n) :
    Calls Try.prog 31 #[.slice A n c, .int .i64 ((j : Int) * 6), .int .i64 2] w fun e w' => e = .returned (.tuple #[.int .i64 ((pairAt xs j).1.toNat : Int), .int .i64 0]) ∧ w = w' := by
  have h := rtake_ok A B n c xs ((j : Int) * 6) 2 w hA (by omega) (by omega) (by omega) (by omega) hn
  rw [show ((j : Int) * 6).toNat = j * 6 from by omega, show (2 : Int).toNat = 2 from rfl, pairAt_1] at h
  exact h
theorem rtakeP2 (A : Option Addr) (B n c : Nat) (xs : List UInt8) (j : Nat) (w : World) (hA : Bs w B A n xs) (hn : n ≤ 1000000) (hj : j * 6 + 6 ≤ n) :
    Calls Try.prog 31 #[.slice A n c, .int .i64 ((j : Int) * 6 + 2), .int .i64 4] w fun e w' => e = .returned (.tuple #[.int .i64 ((pairAt xs j).2.toNat : Int), .int .i64 0]) ∧ w = w' := by
  have h := rtake_ok A B n c xs ((j : Int) * 6 + 2) 4 w hA (by omega) (by omega) (by omega) (by omega) hn
  rw [show ((j : Int) * 6 + 2).toNat = j * 6 + 2 from by omega, show (4 : Int).toNat = 4 from rfl, pairAt_2] at h
  exact h
theorem ftakeP1 (A : Option Addr) (B n c : Nat) (xs : List UInt8) (j : Nat) (w : World) (hA : Bs w B A n xs) (hn : n ≤ 1000000) (hnc : n ≤ c) (hj : j * 6 + 6 ≤ n) :
    Calls Try.prog 38 #[.slice A n c, .int .i64 ((j : Int) * 6), .int .i64 2] w fun e w' => e = .returned (.tuple #[.int .i64 ((pairAt xs j).1.toNat : Int), .int .i64 0]) ∧ w = w' := by
  have h := take_ok A B n c xs ((j : Int) * 6) 2 w hA (by omega) (by omega) (by omega) (by omega) hn hnc
  rw [show ((j : Int) * 6).toNat = j * 6 from by omega, show (2 : Int).toNat = 2 from rfl, pairAt_1] at h
  exact h
theorem ftakeP2 (A : Option Addr) (B n c : Nat) (xs : List UInt8) (j : Nat) (w : World) (hA : Bs w B A n xs) (hn : n ≤ 1000000) (hnc : n ≤ c) (hj : j * 6 + 6 ≤ n) :
    Calls Try.prog 38 #[.slice A n c, .int .i64 ((j : Int) * 6 + 2), .int .i64 4] w fun e w' => e = .returned (.tuple #[.int .i64 ((pairAt xs j).2.toNat : Int), .int .i64 0]) ∧ w = w' := by
  have h := take_ok A B n c xs ((j : Int) * 6 + 2) 4 w hA (by omega) (by omega) (by omega) (by omega) hn hnc
  rw [show ((j : Int) * 6 + 2).toNat = j * 6 + 2 from by omega, show (4 : Int).toNat = 4 from rfl, pairAt_2] at h
  exact h
/-- The pairs up to a place. -/
def upP (xs : List UInt8) (j : Nat) : List Pr := (List.range j).map (pairAt xs)
theorem upP_len (xs : List UInt8) (j : Nat) : (upP xs j).length = j := by simp [upP]
theorem upP_step (xs : List UInt8) (j : Nat) : upP xs j ++ [pairAt xs j] = upP xs (j + 1) := by simp [upP, List.range_succ]
theorem info_pair : (Try.prog.info? 47).map (fun i => (i.zero, i.size, i.bytes)) = some (some (.agg #[.int .u16 0, .int .u32 0]), 2, 8) := by kernel_rfl
set_option maxHeartbeats 1000000 in
theorem rtp_yes (A : Option Addr) (n c m : Nat) (xs : List UInt8) (w : World) (hA : Bs w w.heap.size A n xs) (hn : n ≤ 1000000) (hm : n = m * 6) :
    Calls Try.prog 18 #[.slice A n c] w fun e w' => ∃ v, e = .returned (.tuple #[v, .int .i64 0]) ∧ OwnP w' w.heap.size 47 v (upP xs m) ∧ Below w.heap.size w w' := by
  obtain ⟨i0, hi, hz0, hz1, hz2⟩ := info_parts info_pair
  have hinf := Lib.hid (And.intro hi (And.intro hz0 (And.intro hz1 hz2)))
  have HA := Lib.hid hA
  clear hi hz0 hz1 hz2 hA
  subst hm
  go_enter Try.func18, Try.ntmps18
  go_wp2
  go_loopw [4, 5] (fun a t wr => ∃ j : Nat, j ≤ m ∧ t = .int .i64 ((j : Int) * 6) ∧ OwnP wr w.heap.size 47 a (upP xs j) ∧ Below w.heap.size w wr) (fun _ t _ => m - (intOf t / 6).toNat)
  case atStart => exact ⟨0, Nat.zero_le _, rfl, OwnP.nil_ _ _ _, Below.refl _ _⟩
  case round =>
    obtain ⟨j, hj, rfl, hown, hbel⟩ := hrel
    have HO := Lib.hid hown
    have HB := Lib.hid hbel
    clear hown hbel
    by_cases hlt : j < m
    · have HA1 := Lib.hid (HA.out.below HB.out)
      have hx1 := (pairAt xs j).1.toNat_lt
      have hx2 := (pairAt xs j).2.toNat_lt
      have HX := Lib.hid (upP_step xs j)
      have HL := Lib.hid (upP_len xs j)
      generalize hP : pairAt xs j = P at *
      have HP := Lib.hid hP
      have hT1 : Hid (∀ w1, Bs w1 w.heap.size A (m * 6) xs → Calls Try.prog 31 #[.slice A (m * 6) c, .int .i64 ((j : Int) * 6), .int .i64 2] w1 fun e w' => e = .returned (.tuple #[.int .i64 (P.1.toNat : Int), .int .i64 0]) ∧ w1 = w') := Lib.hid (fun w1 h => by subst hP; exact rtakeP1 A _ _ c xs j w1 h hn (by omega))
      have hT2 : Hid (∀ w1, Bs w1 w.heap.size A (m * 6) xs → Calls Try.prog 31 #[.slice A (m * 6) c, .int .i64 ((j : Int) * 6 + 2), .int .i64 4] w1 fun e w' => e = .returned (.tuple #[.int .i64 (P.2.toNat : Int), .int .i64 0]) ∧ w1 = w') := Lib.hid (fun w1 h => by subst hP; exact rtakeP2 A _ _ c xs j w1 h hn (by omega))
      clear hP
      go_wp2_with (first
        | (go_at_call 31; (with_reducible refine (hT1.out _ HA1.out).mono ?_); rintro e w1 ⟨rfl, rfl⟩)
        | (go_at_call 31; (with_reducible refine (hT2.out _ HA1.out).mono ?_); rintro e w1 ⟨rfl, rfl⟩)
        | (at_builtin; refine wpList_append_pairs _ rfl (.tmp 33) (.tmp 39) 25 rfl w.heap.size 47 i0 Try.underlying25 hinf.out.1 hinf.out.2.1 hinf.out.2.2.1 hinf.out.2.2.2 _ _ rfl (HO.out.alloc _) _ _ 1 1 [P] rfl (ps_lit wr _ [P] _ _ rfl (by simp [pc])) (fun h => by cases h) (by have := HL.out; omega) (Nat.le_trans HB.out.size (by simp)) ?_; intro v4 w4 hown4 hb4 _ _; rw [HX.out] at hown4; have HO4 := Lib.hid hown4; have HB4 := Lib.hid ((HB.out.alloc HB.out.size _).trans hb4); clear hown4 hb4))
      go_roundw
      case rel => exact ⟨j + 1, by omega, by go_num, HO4.out, HB4.out⟩
      case measure => simp [intOf]; omega
    · obtain rfl : j = m := by omega
      go_wp2
      go_ret2
      exact ⟨_, rfl, HO.out, HB.out⟩
theorem rtp_no (A : Option Addr) (n c : Nat) (w : World) (hn : n ≤ 1000000) (h : n % 6 ≠ 0) :
    Calls Try.prog 18 #[.slice A n c] w fun e w' => e = .returned (.tuple #[.slice none 0 0, .int .i64 10]) ∧ w = w' := by
  have d : ((n : Int) % 6 != 0) = true := by simp; omega
  go_enter Try.func18, Try.ntmps18
  go_wp2
  go_ret2
  exact ⟨rfl, rfl⟩
theorem tpV_yes (xs : List UInt8) (n m : Nat) (h : n = m * 6) : tpV xs n = upP xs m ∧ tpE n = 0 := by
  subst h
  unfold tpV tpE
  rw [if_pos (by omega), if_pos (by omega), show m * 6 / 6 = m from by omega]
  exact ⟨rfl, rfl⟩
theorem tpV_no (xs : List UInt8) (n : Nat) (h : n % 6 ≠ 0) : tpV xs n = [] ∧ tpE n = 10 := by
  unfold tpV tpE
  rw [if_neg h, if_neg h]
  exact ⟨rfl, rfl⟩
theorem rtp_tot (A : Option Addr) (n c : Nat) (xs : List UInt8) (w : World) (hA : Bs w w.heap.size A n xs) (hn : n ≤ 1000000) :
    Calls Try.prog 18 #[.slice A n c] w fun e w' => ∃ v, e = .returned (.tuple #[v, .int .i64 (tpE n)]) ∧ OwnP w' w.heap.size 47 v (tpV xs n) ∧ Below w.heap.size w w' := by
  by_cases h : n % 6 = 0
  · obtain ⟨m, hm⟩ : ∃ m, n = m * 6 := ⟨n / 6, by omega⟩
    rw [(tpV_yes xs n m hm).1, (tpV_yes xs n m hm).2]
    exact rtp_yes A n c m xs w hA hn hm
  · rw [(tpV_no xs n h).1, (tpV_no xs n h).2]
    refine (rtp_no A n c w hn h).mono ?_
    rintro e w' ⟨rfl, rfl⟩
    exact ⟨_, rfl, OwnP.nil_ _ _ _, Below.refl _ _⟩
end Go.Proofs.Ytgmnhbpdpnciaaa
