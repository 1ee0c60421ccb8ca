/- The walk of OctetLays: whatever is handed in, true; nothing that was there has turned. -/
import Derived.Test.YtfglpnfegfcmeaaOctApp
import Derived.Test.YtfglpnfegfcmeaaOctArgs
namespace Go.Proofs.Ytfglpnfegfcmeaa
open Go.RowKit Oct
attribute [local go_sem] i64_and1

namespace Oct
/-- Laid in two goes. -/
theorem laid_twice {xs ys zs : List UInt8} {u c k a : Nat} (ha : a ≤ k) (h : IsLaid xs u (c / 2 ^ (k - a)) a ys) (h' : IsLaid ys (u + a) (c % 2 ^ (k - a)) (k - a) zs) : IsLaid xs u c k zs := by
  have e : u + a + (k - a) = u + k := by omega
  refine ⟨by rw [h'.1, e], fun i hi => ?_⟩
  rw [h'.2 i hi]
  unfold layBit
  by_cases h1 : i < u
  · rw [if_pos (by omega), if_pos h1, h.2 i (by have := h.1; omega)]
    unfold layBit
    rw [if_pos h1]
  · rw [if_neg h1]
    by_cases h2 : i < u + a
    · rw [if_pos h2, if_pos (by omega), h.2 i (by have := h.1; omega)]
      unfold layBit
      rw [if_neg h1, if_pos h2, Nat.div_div_eq_div_mul, ← Nat.pow_add]
      have : k - a + (u + a - 1 - i) = u + k - 1 - i := by omega
      rw [this]
    · rw [if_neg h2, e]
      by_cases h3 : i < u + k
      · rw [if_pos h3, if_pos h3]
        have h4 : u + k - 1 - i < k - a := by omega
        obtain ⟨d, hd⟩ : ∃ d, k - a = (u + k - 1 - i) + (d + 1) := ⟨k - a - 1 - (u + k - 1 - i), by omega⟩
        rw [hd, Nat.pow_add, Nat.mod_mul_right_div_self, Nat.pow_succ, Nat.mul_comm (2 ^ d) 2, Nat.mod_mul_right_mod]
      · rw [if_neg h3, if_neg h3]
theorem laid_all {xs ys zs : List UInt8} {u c k : Nat} (h : IsLaid xs u c k ys) (h' : IsLaid ys (u + k) (0 : Int).toNat (0 : Int).toNat zs) : IsLaid xs u c k zs := by
  refine laid_twice (ys := ys) (Nat.le_refl k) ?_ ?_
  · rw [Nat.sub_self, Nat.pow_zero, Nat.div_one]; exact h
  · rw [Nat.sub_self, Nat.pow_zero, Nat.mod_one]; exact h'
theorem laid_code {xs ys : List UInt8} {u c k : Nat} (h : IsLaid xs u c k ys) (hc : c < 2 ^ k) : codeOf ys u k = c := by
  refine codeOf_eq hc fun t ht => ?_
  rw [h.2 (u + t) (by have := h.1; omega)]
  unfold layBit
  rw [if_neg (by omega), if_pos (by omega)]
  have : u + k - 1 - (u + t) = k - 1 - t := by omega
  rw [this]
end Oct
theorem top_wrap2 (k : Nat) (h : k ≤ 30) : wrap64 (2 ^ k) = 2 ^ k := by
  have h1 : (2 : Nat) ^ k ≤ 2 ^ 30 := Nat.pow_le_pow_right (by decide) h
  have h2 : ((2 : Int) ^ k) = ((2 ^ k : Nat) : Int) := by rw [Int.natCast_pow]; rfl
  have h3 : (2 : Nat) ^ 30 = 1073741824 := by decide
  rw [h3] at h1
  rw [h2]
  generalize (2 : Nat) ^ k = z at *
  exact IntWalk.wrap64_in _ ⟨by omega, by omega⟩
set_option maxRecDepth 100000 in
theorem lays_great (A : Option Addr) (n c : Nat) (u cd k at_ : Int) (w : World) (h : 100 < n) (hm : n ≤ maxLen) :
    Calls Try.prog 5 #[.slice A n c, .int .i64 u, .int .i64 cd, .int .i64 k, .int .i64 at_] w fun e w' => e = .returned (.bool true) ∧ Below w.heap.size w w' := by
  unfold maxLen at hm
  go_enter Try.func5, Try.ntmps5
  go_wp2_with (go_at_call 8; refine (wakes_any _).mono ?_; rintro e w' ⟨rfl, hb⟩)
  go_ret
  exact ⟨rfl, hb⟩
set_option maxRecDepth 100000 in
set_option maxHeartbeats 4000000 in
theorem lays_no (A : Option Addr) (n c : Nat) (u cd k at_ : Int) (w : World) (hn : n ≤ 100) (h : ¬ (0 ≤ k ∧ k ≤ 30 ∧ 0 ≤ cd ∧ cd < 2 ^ k.toNat ∧ 0 ≤ u ∧ u ≤ 8 * n ∧ (n : Int) ≤ (u + 7) / 8)) :
    Calls Try.prog 5 #[.slice A n c, .int .i64 u, .int .i64 cd, .int .i64 k, .int .i64 at_] w fun e w' => e = .returned (.bool true) ∧ Below w.heap.size w w' := by
  have HB := Lib.hid (lay_no A n c u cd k w h (by omega))
  by_cases h1 : 0 ≤ k
  · by_cases h2 : k ≤ 30
    · have d2 : decide (k ≤ 30) = true := by simpa using h2
      by_cases h3 : 0 ≤ cd
      · have d3 : decide (0 ≤ cd) = true := by simpa using h3
        obtain ⟨k, rfl⟩ := Int.eq_ofNat_of_zero_le h1
        by_cases h4 : cd < 2 ^ k
        · have d4 : decide (cd < wrap64 (2 ^ k)) = true := by rw [top_wrap2 k (by omega)]; simpa using h4
          have HC := Lib.hid h4
          clear h4
          by_cases h5 : 0 ≤ u
          · have d5 : decide (0 ≤ u) = true := by simpa using h5
            by_cases h6 : u ≤ 8 * n
            · have d6 : decide (u ≤ 8 * (n : Int)) = true := by simpa using h6
              have d7 : decide (8 * (n : Int) - 8 < u) = false := by
                simp only [decide_eq_false_iff_not]
                exact fun hh => h ⟨h1, h2, h3, by simpa using HC.out, h5, h6, by omega⟩
              clear h
              go_enter Try.func5, Try.ntmps5
              go_wp2_with (first | (go_at_call 20; refine HB.out.mono ?_; rintro e w1 ⟨rfl, hb1⟩) | (go_at_call 8; refine (wakes_any _).mono ?_; rintro e w' ⟨rfl, hb⟩))
              go_ret
              exact ⟨rfl, hb1.trans (hb.mono hb1.size)⟩
            · have d6 : decide (u ≤ 8 * (n : Int)) = false := by simpa using h6
              clear h
              go_enter Try.func5, Try.ntmps5
              go_wp2_with (first | (go_at_call 20; refine HB.out.mono ?_; rintro e w1 ⟨rfl, hb1⟩) | (go_at_call 8; refine (wakes_any _).mono ?_; rintro e w' ⟨rfl, hb⟩))
              go_ret
              exact ⟨rfl, hb1.trans (hb.mono hb1.size)⟩
          · have d5 : decide (0 ≤ u) = false := by simpa using h5
            clear h
            go_enter Try.func5, Try.ntmps5
            go_wp2_with (first | (go_at_call 20; refine HB.out.mono ?_; rintro e w1 ⟨rfl, hb1⟩) | (go_at_call 8; refine (wakes_any _).mono ?_; rintro e w' ⟨rfl, hb⟩))
            go_ret
            exact ⟨rfl, hb1.trans (hb.mono hb1.size)⟩
        · have d4 : decide (cd < wrap64 (2 ^ k)) = false := by rw [top_wrap2 k (by omega)]; simpa using h4
          clear h4
          clear h
          go_enter Try.func5, Try.ntmps5
          go_wp2_with (first | (go_at_call 20; refine HB.out.mono ?_; rintro e w1 ⟨rfl, hb1⟩) | (go_at_call 8; refine (wakes_any _).mono ?_; rintro e w' ⟨rfl, hb⟩))
          go_ret
          exact ⟨rfl, hb1.trans (hb.mono hb1.size)⟩
      · have d3 : decide (0 ≤ cd) = false := by simpa using h3
        clear h
        go_enter Try.func5, Try.ntmps5
        go_wp2_with (first | (go_at_call 20; refine HB.out.mono ?_; rintro e w1 ⟨rfl, hb1⟩) | (go_at_call 8; refine (wakes_any _).mono ?_; rintro e w' ⟨rfl, hb⟩))
        go_ret
        exact ⟨rfl, hb1.trans (hb.mono hb1.size)⟩
    · have d2 : decide (k ≤ 30) = false := by simpa using h2
      clear h
      go_enter Try.func5, Try.ntmps5
      go_wp2_with (first | (go_at_call 20; refine HB.out.mono ?_; rintro e w1 ⟨rfl, hb1⟩) | (go_at_call 8; refine (wakes_any _).mono ?_; rintro e w' ⟨rfl, hb⟩))
      go_ret
      exact ⟨rfl, hb1.trans (hb.mono hb1.size)⟩
  · have d1 : decide (0 ≤ k) = false := by simpa using h1
    clear h
    go_enter Try.func5, Try.ntmps5
    go_wp2_with (first | (go_at_call 20; refine HB.out.mono ?_; rintro e w1 ⟨rfl, hb1⟩) | (go_at_call 8; refine (wakes_any _).mono ?_; rintro e w' ⟨rfl, hb⟩))
    go_ret
    exact ⟨rfl, hb1.trans (hb.mono hb1.size)⟩
theorem lt_cast {a k : Nat} (h : a < 2 ^ k) : (a : Int) < 2 ^ (k : Int).toNat := by
  rw [Int.toNat_natCast]
  have h1 : ((a : Nat) : Int) < ((2 ^ k : Nat) : Int) := by omega
  rw [Int.natCast_pow] at h1
  exact h1
theorem i64_and_nat (a b : Nat) (ha : a < 2 ^ 62) (hb : b < 2 ^ 62) : bits .and .i64 (a : Int) (b : Int) = ((a &&& b : Nat) : Int) := by
  have h1 : (BitVec.ofInt 64 (a : Int)).toNat = a := by
    rw [BitVec.ofInt_natCast, BitVec.toNat_ofNat]; exact Nat.mod_eq_of_lt (by omega)
  have h2 : (BitVec.ofInt 64 (b : Int)).toNat = b := by
    rw [BitVec.ofInt_natCast, BitVec.toNat_ofNat]; exact Nat.mod_eq_of_lt (by omega)
  have hx : a &&& b ≤ a := Nat.and_le_left
  show IntKind.i64.wrap ((BitVec.ofInt 64 (a : Int) &&& BitVec.ofInt 64 (b : Int)).toNat : Int) = _
  rw [BitVec.toNat_and, h1, h2, IntKind.wrap_i64]
  generalize a &&& b = z at *
  omega
theorem and_low {cd k d : Nat} (hc : cd < 2 ^ k) (hk : (k : Int) ≤ 30) (hd : d ≤ k) : bits .and .i64 (cd : Int) (wrap64 (wrap64 (2 ^ d) - 1)) = ((cd % 2 ^ d : Nat) : Int) := by
  have hk' : 2 ^ k ≤ 2 ^ 30 := Nat.pow_le_pow_right (by decide) (by omega)
  have hd' : 2 ^ d ≤ 2 ^ 30 := Nat.pow_le_pow_right (by decide) (by omega)
  have h30 : (2 : Nat) ^ 30 = 1073741824 := by decide
  have h0 : 0 < 2 ^ d := Nat.two_pow_pos d
  rw [top_wrap2 d (by omega), ← Nat.and_two_pow_sub_one_eq_mod, ← i64_and_nat _ _ (by omega) (by omega)]
  have h2 : ((2 : Int) ^ d) = ((2 ^ d : Nat) : Int) := by rw [Int.natCast_pow]; rfl
  rw [h2]
  generalize (2 : Nat) ^ d = z at *
  rw [IntWalk.wrap64_in _ ⟨by omega, by omega⟩]
  have : ((z - 1 : Nat) : Int) = (z : Int) - 1 := by omega
  rw [this]
theorem and_zero (cd : Nat) : bits .and .i64 (cd : Int) 0 = 0 := by
  show IntKind.i64.wrap ((BitVec.ofInt 64 (cd : Int) &&& BitVec.ofInt 64 0).toNat : Int) = 0
  have : BitVec.ofInt 64 0 = 0#64 := by decide
  rw [this, BitVec.and_zero]
  rfl
theorem low_lt (cd d : Nat) : ((cd % 2 ^ d : Nat) : Int) < 2 ^ (d : Int).toNat := lt_cast (Nat.mod_lt _ (Nat.two_pow_pos d))
theorem half_nat (a d : Nat) : ((a : Int) / 2 ^ d) = ((a / 2 ^ d : Nat) : Int) := by simp
theorem div_nonneg' (a d : Nat) : 0 ≤ ((a : Int) / 2 ^ d) := by rw [half_nat]; exact Int.natCast_nonneg _
theorem half_lt {a k b : Nat} (h : a < 2 ^ k) (hb : b ≤ k) : ((a : Int) / 2 ^ (k - b)) < 2 ^ (b : Int).toNat := by
  rw [half_nat]
  refine lt_cast ?_
  rw [Nat.div_lt_iff_lt_mul (Nat.two_pow_pos _), ← Nat.pow_add]
  have : b + (k - b) = k := by omega
  rw [this]
  exact h
theorem bit_some (A : Option Addr) (n c : Nat) (xs : List UInt8) (i : Int) (w : World) {B : Nat} (hA : Bs w B A n xs) (hn : n ≤ 1000000) :
    ∃ (y : Int) (q : Bool), Calls Try.prog 16 #[.slice A n c, .int .i64 i] w fun e w' => e = .returned (.tuple #[.int .i64 y, .bool q]) ∧ w = w' := by
  by_cases h : 0 ≤ i ∧ i < 8 * n
  · exact ⟨_, _, bit_yes A B n c xs i w hA h.1 h.2 hn⟩
  · exact ⟨_, _, bit_none A n c i w h hn⟩
set_option maxRecDepth 100000 in
set_option maxHeartbeats 4000000 in
theorem lays_yes (A : Option Addr) (n c : Nat) (xs : List UInt8) (u cd k at_ : Int) (w : World) (hA : Bs w w.heap.size A n xs) (hn : n ≤ 100) (h1 : 0 ≤ k) (h2 : k ≤ 30) (h3 : 0 ≤ cd) (h4 : cd < 2 ^ k.toNat) (h5 : 0 ≤ u) (h6 : u ≤ 8 * n) (h7 : (n : Int) ≤ (u + 7) / 8) :
    Calls Try.prog 5 #[.slice A n c, .int .i64 u, .int .i64 cd, .int .i64 k, .int .i64 at_] w fun e w' => e = .returned (.bool true) ∧ Below w.heap.size w w' := by
  have HB := Lib.hid (lay_ok A n c xs u cd k w hA h5 h3 h1 h2 h4 h6 h7 (by omega))
  have HA := Lib.hid hA
  clear hA
  have d2 : decide (k ≤ 30) = true := by simpa using h2
  have d3 : decide (0 ≤ cd) = true := by simpa using h3
  have d5 : decide (0 ≤ u) = true := by simpa using h5
  have d6 : decide (u ≤ 8 * (n : Int)) = true := by simpa using h6
  have d7 : decide (8 * (n : Int) - 8 < u) = true := by simp only [decide_eq_true_eq]; omega
  obtain ⟨k, rfl⟩ := Int.eq_ofNat_of_zero_le h1
  obtain ⟨u, rfl⟩ := Int.eq_ofNat_of_zero_le h5
  obtain ⟨cd, rfl⟩ := Int.eq_ofNat_of_zero_le h3
  simp only [Int.toNat_natCast] at HB h4
  have d4 : decide ((cd : Int) < wrap64 (2 ^ k)) = true := by rw [top_wrap2 k (by omega)]; simpa using h4
  have hck : cd < 2 ^ k := by
    have : ((cd : Nat) : Int) < ((2 ^ k : Nat) : Int) := by rw [Int.natCast_pow]; exact h4
    omega
  have HC := Lib.hid hck
  clear h4 hck
  obtain ⟨L, hL⟩ : ∃ L, L = (u + k + 7) / 8 := ⟨_, rfl⟩
  have HL := Lib.hid hL
  have hLk : L ≤ 1000 := by omega
  have hall : u + k ≤ 8 * L := by omega
  have dL : ((L : Int) != ((u : Int) + k + 7) / 8) = false := by simp; omega
  clear hL
  go_enter Try.func5, Try.ntmps5
  go_wp2_with fail
  refine HB.out.mono ?_
  rintro e w1 ⟨v1, ys, rfl, hlaid, hown1, hb1⟩
  have HI := Lib.hid hlaid
  have hyl : ys.length = L := by rw [HL.out]; exact hlaid.1
  obtain ⟨A1, c1, rfl, hle1, _, hbs1⟩ := hown1.form2 hyl
  have HY := Lib.hid hyl
  have H1 := Lib.hid hbs1
  clear hown1 hbs1 hyl hlaid
  go_wp2_with fail
  refine (bits_yes A1 L c1 ys u k w1 H1.out (by omega) (by omega) (by omega) (by omega) (by omega)).mono ?_
  simp only [Int.toNat_natCast]
  rw [laid_code HI.out HC.out]
  rintro e w2 ⟨rfl, hb2⟩
  have hsz1 := hb1.size
  have hsz2 := hb2.size
  go_wp2_with fail
  go_loop [17, 18, 19, 20, 21] (fun t x1 x2 x3 x4 => ∃ j : Nat, j ≤ 8 * L ∧ t = .int .i64 j) (fun t x1 x2 x3 x4 => 8 * L - (intOf t).toNat)
  case atStart => exact ⟨0, Nat.zero_le _, rfl⟩
  case round =>
    obtain ⟨j, hj, rfl⟩ := hrel
    by_cases hlt : j < 8 * L
    · have HO := Lib.hid (bit_yes A1 _ L c1 ys j w2 (H1.out.below hb2) (by omega) (by omega) (by omega))
      have hbit := HI.out.2 j (by rw [HY.out]; exact hlt)
      unfold layBit at hbit
      simp only [Int.toNat_natCast] at HO
      by_cases hju : j < u
      · rw [if_pos hju] at hbit
        rw [hbit] at HO
        have HB2 := Lib.hid (bit_yes A _ n c xs j w2 (((HA.out.below hb1).more hsz1).below hb2) (by omega) (by omega) (by omega))
        simp only [Int.toNat_natCast] at HB2
        have e1 : decide ((j : Int) < (u : Int)) = true := by simp; omega
        have e2 : decide ((u : Int) + (k : Int) ≤ (j : Int)) = false := by simp; omega
        clear hbit
        go_wp2_with fail
        refine HO.out.mono ?_
        rintro e w' ⟨rfl, rfl⟩
        go_wp2_with fail
        refine HB2.out.mono ?_
        rintro e w' ⟨rfl, rfl⟩
        go_wp2_with fail
        go_round
        case rel => exact ⟨j + 1, by omega, by go_num⟩
        case measure => simp [intOf]; omega
      · obtain ⟨y, q, hyq⟩ := bit_some A n c xs j w2 (((HA.out.below hb1).more hsz1).below hb2) (by omega)
        have HB2 := Lib.hid hyq
        clear hyq
        rw [if_neg hju] at hbit
        have e1 : decide ((j : Int) < (u : Int)) = false := by simp; omega
        by_cases hjk : j < u + k
        · have e2 : decide ((u : Int) + (k : Int) ≤ (j : Int)) = false := by simp; omega
          clear hbit
          go_wp2_with fail
          refine HO.out.mono ?_
          rintro e w' ⟨rfl, rfl⟩
          go_wp2_with fail
          refine HB2.out.mono ?_
          rintro e w' ⟨rfl, rfl⟩
          go_wp2_with fail
          go_round
          case rel => exact ⟨j + 1, by omega, by go_num⟩
          case measure => simp [intOf]; omega
        · have e2 : decide ((u : Int) + (k : Int) ≤ (j : Int)) = true := by simp; omega
          rw [if_neg hjk] at hbit
          rw [hbit] at HO
          clear hbit
          go_wp2_with fail
          refine HO.out.mono ?_
          rintro e w' ⟨rfl, rfl⟩
          go_wp2_with fail
          refine HB2.out.mono ?_
          rintro e w' ⟨rfl, rfl⟩
          go_wp2_with fail
          go_round
          case rel => exact ⟨j + 1, by omega, by go_num⟩
          case measure => simp [intOf]; omega
    · obtain rfl : j = 8 * L := by omega
      have hJ : ((8 * L : Nat) : Int) = 8 * (L : Int) := by omega
      obtain ⟨b, hmx⟩ : ∃ b : Nat, (if at_ < 0 then 0 else at_) = (b : Int) := ⟨at_.toNat, by split <;> omega⟩
      obtain ⟨a, hak, hmn⟩ : ∃ a : Nat, a ≤ k ∧ (if (k : Int) < (b : Int) then (k : Int) else (b : Int)) = (a : Int) := ⟨min k b, by omega, by split <;> omega⟩
      have K2 := Lib.hid ((((HA.out.below hb1).more hsz1).below hb2).more hsz2)
      go_wp2_with fail
      · refine (lay_ok A n c xs u cd k w2 K2.out h5 h3 h1 h2 (lt_cast HC.out) h6 h7 (by omega)).mono ?_
        simp only [Int.toNat_natCast]
        rintro e w3 ⟨v3, zs, rfl, hlz, hown3, hb3⟩
        obtain rfl := isLaid_one HI.out hlz
        obtain ⟨A3, c3, rfl, hle3, _, hbs3⟩ := hown3.form2 HY.out
        have H3 := Lib.hid hbs3
        clear hown3 hbs3 hlz
        have hsz3 := hb3.size
        have hw3 := hb1.trans ((hb2.mono hsz1).trans (hb3.mono (Nat.le_trans hsz1 hsz2)))
        have hs3 := hw3.size
        go_wp2_with fail
        rw [and_zero]
        have hL0 : (L : Int) ≤ ((u : Int) + k + 7) / 8 := by have := HL.out; omega
        refine (lay_ok A3 L c3 ys ((u : Int) + k) 0 0 w3 H3.out (by omega) (by omega) (by omega) (by omega) (by decide) (by omega) hL0 (by omega)).mono ?_
        rw [show ((u : Int) + k).toNat = u + k from by omega]
        rintro e w4 ⟨v4, ts, rfl, hlt4, hown4, hb4⟩
        obtain rfl := isLaid_one HI.out (laid_all HI.out hlt4)
        obtain ⟨A4, c4, rfl, hle4, _, hbs4⟩ := hown4.form2 HY.out
        have H4 := Lib.hid hbs4
        clear hown4 hbs4 hlt4
        have hsz4 := hb4.size
        go_wp2_with fail
        refine (refsame_any _ _ L L _ _ _ _ ys ys _ H4.out ((((H1.out.below hb2).more hsz2).below hb3).more hsz3 |>.below hb4)).mono ?_
        rintro e w' ⟨rfl, rfl⟩
        rw [show (ys == ys) = true from by simp]
        go_wp2_with (go_at_call 8; refine (wakes_any _).mono ?_; rintro e w' ⟨rfl, hb⟩)
        go_ret
        exact ⟨rfl, (hw3.trans (hb4.mono hs3)).trans (hb.mono (Nat.le_trans hs3 hsz4))⟩
      · have hbk : b ≤ k := by omega
        refine (lay_ok A n c xs u _ b w2 K2.out h5 (div_nonneg' cd (k - b)) (by omega) (by omega) (half_lt HC.out hbk) h6 h7 (by omega)).mono ?_
        rw [half_nat cd (k - b)]
        simp only [Int.toNat_natCast]
        rintro e w3 ⟨v3, zs, rfl, hlz, hown3, hb3⟩
        have hzl : zs.length = (u + b + 7) / 8 := hlz.1
        obtain ⟨A3, c3, rfl, hle3, _, hbs3⟩ := hown3.form2 hzl
        have H3 := Lib.hid hbs3
        have HZ := Lib.hid hlz
        clear hown3 hbs3 hlz hzl
        have hsz3 := hb3.size
        have hw3 := hb1.trans ((hb2.mono hsz1).trans (hb3.mono (Nat.le_trans hsz1 hsz2)))
        have hs3 := hw3.size
        go_wp2_with fail
        rw [and_low HC.out h2 (by omega : k - b ≤ k)]
        have hkb : (k : Int) - b = ((k - b : Nat) : Int) := by omega
        rw [hkb]
        have HKB := Lib.hid hkb
        clear hkb
        refine (lay_ok A3 ((u + b + 7) / 8) c3 zs ((u : Int) + b) _ _ w3 H3.out (by omega) (Int.natCast_nonneg _) (Int.natCast_nonneg _) (by omega) (low_lt cd (k - b)) (by omega) (by omega) (by omega)).mono ?_
        rw [show ((u : Int) + b).toNat = u + b from by omega, show ((u : Int) + b + ((k - b : Nat) : Int)) = (u : Int) + k from by omega]
        simp only [Int.toNat_natCast]
        rintro e w4 ⟨v4, ts, rfl, hlt4, hown4, hb4⟩
        obtain rfl := isLaid_one HI.out (laid_twice hbk HZ.out hlt4)
        obtain ⟨A4, c4, rfl, hle4, _, hbs4⟩ := hown4.form2 HY.out
        have H4 := Lib.hid hbs4
        clear hown4 hbs4 hlt4
        have hsz4 := hb4.size
        go_wp2_with fail
        refine (refsame_any _ _ L L _ _ _ _ ys ys _ H4.out ((((H1.out.below hb2).more hsz2).below hb3).more hsz3 |>.below hb4)).mono ?_
        rintro e w' ⟨rfl, rfl⟩
        rw [show (ys == ys) = true from by simp]
        go_wp2_with (go_at_call 8; refine (wakes_any _).mono ?_; rintro e w' ⟨rfl, hb⟩)
        go_ret
        exact ⟨rfl, (hw3.trans (hb4.mono hs3)).trans (hb.mono (Nat.le_trans hs3 hsz4))⟩
end Go.Proofs.Ytfglpnfegfcmeaa
