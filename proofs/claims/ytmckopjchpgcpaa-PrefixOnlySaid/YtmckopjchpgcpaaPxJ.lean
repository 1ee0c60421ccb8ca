/- Layer 6: each call's contract in one word, the program's and the document's alike; the statements' own samples: wakes. -/
import Derived.Test.YtmckopjchpgcpaaPxI
namespace Go.Proofs.Ytmckopjchpgcpaa
open Go.RowKit Px
set_option linter.unusedVariables false
set_option linter.unusedSimpArgs false
namespace Px
def putL (n k : Int) (u : Nat) : List UInt8 := if MayN n k then putN n.toNat k.toNat u else []
def putE (n k : Int) : Int := if MayN n k then 0 else 2
def sizeV (n k : Int) : Int := ((putL n k 0).length : Int)
def takC (xs : List UInt8) (k : Int) : Nat × Nat × Nat := if 1 ≤ k ∧ k ≤ 8 then takeN xs k.toNat else (2, 0, 0)
def takL (xs : List UInt8) (k : Int) : List UInt8 := if (takC xs k).1 = 0 then xs.drop (takC xs k).2.2 else []
def upV (xs : List UInt8) (k : Int) : Nat := if 1 ≤ k ∧ k ≤ 8 then (match xs with | [] => 0 | x :: _ => x.toNat / 2 ^ k.toNat * 2 ^ k.toNat) else 0
def upE (xs : List UInt8) (k : Int) : Nat := if 1 ≤ k ∧ k ≤ 8 then (match xs with | [] => 10 | _ :: _ => 0) else 2
theorem may_nat {n k : Int} (h : MayN n k) : ∃ a b : Nat, n = (a : Int) ∧ k = (b : Int) ∧ 1 ≤ b ∧ b ≤ 8 ∧ a < 2147483648 := by
  obtain ⟨⟨h1, h2⟩, h3, h4⟩ := h
  exact ⟨n.toNat, k.toNat, by omega, by omega, by omega, by omega, by omega⟩
theorem putL_yes {a b : Nat} {u : Nat} (h : MayN (a : Int) (b : Int)) : putL a b u = putN a b u := if_pos h
theorem putL_no {n k : Int} {u : Nat} (h : ¬ MayN n k) : putL n k u = [] := if_neg h
theorem putE_yes {n k : Int} (h : MayN n k) : putE n k = 0 := if_pos h
theorem putE_no {n k : Int} (h : ¬ MayN n k) : putE n k = 2 := if_neg h
theorem takC_yes {xs : List UInt8} {b : Nat} (h1 : 1 ≤ b) (h8 : b ≤ 8) : takC xs (b : Int) = takeN xs b := if_pos ⟨by omega, by omega⟩
theorem takC_no {xs : List UInt8} {k : Int} (h : ¬ (1 ≤ k ∧ k ≤ 8)) : takC xs k = (2, 0, 0) := if_neg h
end Px
theorem X_Put (n k : Int) (u : UInt8) (w : World) :
    Calls Try.prog 8 #[.int .i64 n, .int .i64 k, .int .u8 (u.toNat : Int)] w fun e w' => ∃ A c, e = .returned (.tuple #[.slice A (putL n k u.toNat).length c, .int .i64 (putE n k)]) ∧ HandS w' w.heap.size A (putL n k u.toNat).length c (putL n k u.toNat) ∧ Below w.heap.size w w' := by
  by_cases h : MayN n k
  · rw [putE_yes h]
    obtain ⟨a, b, rfl, rfl, h1, h8, ha⟩ := may_nat h
    rw [putL_yes h, numB_len_putN]
    exact x_put_yes a b u w h1 h8 ha
  · rw [putE_no h, putL_no h]
    refine (x_put_no n k u w h).mono ?_
    rintro e w' ⟨rfl, hb⟩
    exact ⟨none, 0, rfl, HandS.nil_ _ _, hb⟩
theorem X_Size (n k : Int) (w : World) :
    Calls Try.prog 15 #[.int .i64 n, .int .i64 k] w fun e w' => e = .returned (.int .i64 (sizeV n k)) ∧ Below w.heap.size w w' := by
  unfold sizeV
  by_cases h : MayN n k
  · obtain ⟨a, b, rfl, rfl, h1, h8, ha⟩ := may_nat h
    rw [putL_yes h, numB_len_putN]
    exact x_size_yes a b w h1 h8 ha
  · rw [putL_no h]
    exact x_size_no n k w h
theorem X_Upper (A : Option Addr) (n c : Nat) (xs : List UInt8) (k : Int) (w : World) (hA : Bs w w.heap.size A n xs) :
    Calls Try.prog 12 #[.slice A n c, .int .i64 k] w fun e w' => e = .returned (.tuple #[.int .u8 (upV xs k : Nat), .int .i64 (upE xs k : Nat)]) ∧ Below w.heap.size w w' := by
  by_cases h : 1 ≤ k ∧ k ≤ 8
  · obtain ⟨b, rfl⟩ := Int.eq_ofNat_of_zero_le (show 0 ≤ k by omega)
    unfold upV upE
    rw [if_pos h, if_pos h]
    cases xs with
    | nil =>
      obtain rfl : n = 0 := hA.1.symm
      exact x_upper_short A c _ w h
    | cons x ys => exact x_upper_yes A n c b x ys w hA (by omega) (by omega)
  · unfold upV upE
    rw [if_neg h, if_neg h]
    exact x_upper_no A n c k w h
theorem Y_Put (n k : Int) (u : UInt8) (w : World) :
    Calls Try.prog 9 #[.int .i64 n, .int .i64 k, .int .u8 (u.toNat : Int)] w fun e w' => ∃ A c, e = .returned (.tuple #[.slice A (putL n k u.toNat).length c, .int .i64 (putE n k)]) ∧ HandS w' w.heap.size A (putL n k u.toNat).length c (putL n k u.toNat) ∧ Below w.heap.size w w' := by
  by_cases h : MayN n k
  · rw [putE_yes h]
    obtain ⟨a, b, rfl, rfl, h1, h8, ha⟩ := may_nat h
    rw [putL_yes h, numB_len_putN]
    exact y_put_yes a b u w h1 h8 ha
  · rw [putE_no h, putL_no h]
    refine (y_put_no n k u w h).mono ?_
    rintro e w' ⟨rfl, hb⟩
    exact ⟨none, 0, rfl, HandS.nil_ _ _, hb⟩
theorem Y_Size (n k : Int) (w : World) :
    Calls Try.prog 16 #[.int .i64 n, .int .i64 k] w fun e w' => e = .returned (.int .i64 (sizeV n k)) ∧ Below w.heap.size w w' := by
  unfold sizeV
  by_cases h : MayN n k
  · obtain ⟨a, b, rfl, rfl, h1, h8, ha⟩ := may_nat h
    rw [putL_yes h, numB_len_putN]
    exact y_size_yes a b w h1 h8 ha
  · rw [putL_no h]
    exact y_size_no n k w h
theorem Y_Upper (A : Option Addr) (n c : Nat) (xs : List UInt8) (k : Int) (w : World) (hA : Bs w w.heap.size A n xs) :
    Calls Try.prog 13 #[.slice A n c, .int .i64 k] w fun e w' => e = .returned (.tuple #[.int .u8 (upV xs k : Nat), .int .i64 (upE xs k : Nat)]) ∧ Below w.heap.size w w' := by
  by_cases h : 1 ≤ k ∧ k ≤ 8
  · obtain ⟨b, rfl⟩ := Int.eq_ofNat_of_zero_le (show 0 ≤ k by omega)
    unfold upV upE
    rw [if_pos h, if_pos h]
    cases xs with
    | nil =>
      obtain rfl : n = 0 := hA.1.symm
      exact y_upper_short A c _ w h
    | cons x ys => exact y_upper_yes A n c b x ys w hA (by omega) (by omega)
  · unfold upV upE
    rw [if_neg h, if_neg h]
    exact y_upper_no A n c k w h
theorem Y_Take (A : Option Addr) (n c : Nat) (xs : List UInt8) (k : Int) (w : World) (hA : Bs w w.heap.size A n xs) (hnc : n ≤ c) (hn : n ≤ 1000000) :
    Calls Try.prog 11 #[.slice A n c, .int .i64 k] w fun e w' => ∃ A' c', e = .returned (.tuple #[.int .i64 ((takC xs k).2.1 : Nat), .slice A' (takL xs k).length c', .int .i64 ((takC xs k).1 : Nat)]) ∧ HandS w' w.heap.size A' (takL xs k).length c' (takL xs k) ∧ Below w.heap.size w w' := by
  by_cases h : 1 ≤ k ∧ k ≤ 8
  · obtain ⟨b, rfl⟩ := Int.eq_ofNat_of_zero_le (show 0 ≤ k by omega)
    have h1 : 1 ≤ b := by omega
    have h8 : b ≤ 8 := by omega
    unfold takL
    rw [takC_yes h1 h8]
    cases xs with
    | nil =>
      obtain rfl : n = 0 := hA.1.symm
      refine (y_take_empty A c _ w h).mono ?_
      rintro e w' ⟨rfl, hb⟩
      exact ⟨none, 0, rfl, HandS.nil_ _ _, hb⟩
    | cons x ys =>
      exact y_take_yes A n c b x ys w hA hnc hn h1 h8
  · unfold takL
    rw [takC_no h]
    refine (y_take_no A n c k w h).mono ?_
    rintro e w' ⟨rfl, hb⟩
    exact ⟨none, 0, rfl, HandS.nil_ _ _, hb⟩
theorem X_Take (A : Option Addr) (n c : Nat) (xs : List UInt8) (k : Int) (w : World) (hA : Bs w w.heap.size A n xs) (hnc : n ≤ c) (hn : n ≤ 1000000) :
    Calls Try.prog 10 #[.slice A n c, .int .i64 k] w fun e w' => ∃ A' c', e = .returned (.tuple #[.int .i64 ((takC xs k).2.1 : Nat), .slice A' (takL xs k).length c', .int .i64 ((takC xs k).1 : Nat)]) ∧ HandS w' w.heap.size A' (takL xs k).length c' (takL xs k) ∧ Below w.heap.size w w' := by
  by_cases h : 1 ≤ k ∧ k ≤ 8
  · obtain ⟨b, rfl⟩ := Int.eq_ofNat_of_zero_le (show 0 ≤ k by omega)
    have h1 : 1 ≤ b := by omega
    have h8 : b ≤ 8 := by omega
    unfold takL
    rw [takC_yes h1 h8]
    cases xs with
    | nil =>
      obtain rfl : n = 0 := hA.1.symm
      refine (x_take_empty A c _ w h).mono ?_
      rintro e w' ⟨rfl, hb⟩
      exact ⟨none, 0, rfl, HandS.nil_ _ _, hb⟩
    | cons x ys =>
      have hl := hA.1
      rw [List.length_cons] at hl
      have hm := mx_succ b
      have hlt : x.toNat % 2 ^ b < 2 ^ b := Nat.mod_lt _ (Nat.two_pow_pos b)
      by_cases h2 : x.toNat % 2 ^ b < mx b
      · rw [show takeN (x :: ys) b = (0, x.toNat % 2 ^ b, 1) from if_pos h2]
        have e : (if ((0, x.toNat % 2 ^ b, 1) : Nat × Nat × Nat).1 = 0 then List.drop ((0, x.toNat % 2 ^ b, 1) : Nat × Nat × Nat).2.2 (x :: ys) else []) = ys := rfl
        rw [e, show ys.length = n - 1 by omega]
        exact x_take_one A n c b x ys w hA hnc hn h1 h8 h2
      · have h3 : x.toNat % 2 ^ b = mx b := by omega
        refine (x_take_more A n c b x ys w hA hnc hn h1 h8 h3).mono ?_
        rintro e w' ⟨A', c', rfl, hh, hb⟩
        have ht : takeN (x :: ys) b = if (scan (mx b) 0 ys).1 = 0 then (0, (scan (mx b) 0 ys).2.1, (scan (mx b) 0 ys).2.2 + 1) else ((scan (mx b) 0 ys).1, 0, 0) := if_neg h2
        have hz := scan_none ys (mx b) 0
        rw [ht]
        generalize scan (mx b) 0 ys = s at *
        by_cases h4 : s.1 = 0
        · simp only [if_pos h4] at *
          simp only [if_true, List.drop_succ_cons]
          have e3 : (ys.drop s.2.2).length = n - 1 - s.2.2 := by rw [List.length_drop]; omega
          rw [e3, h4]
          exact ⟨A', c', rfl, hh, hb⟩
        · have hz := hz h4
          simp only [if_neg h4] at *
          rw [hz]
          exact ⟨A', c', rfl, hh, hb⟩
  · unfold takL
    rw [takC_no h]
    refine (x_take_no A n c k w h).mono ?_
    rintro e w' ⟨rfl, hb⟩
    exact ⟨none, 0, rfl, HandS.nil_ _ _, hb⟩
end Go.Proofs.Ytmckopjchpgcpaa
