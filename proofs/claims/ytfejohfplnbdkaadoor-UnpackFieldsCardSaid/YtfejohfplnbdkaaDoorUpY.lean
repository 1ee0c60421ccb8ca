/- Layer 10, plainly: marks and numbers that were put are taken back. -/
import Derived.Test.YtfejohfplnbdkaaDoorUpT
namespace Go.Proofs.YtfejohfplnbdkaaDoor.Up
open Go.RowKit Px Tx Tb
set_option linter.unusedVariables false
set_option linter.unusedSimpArgs false
/-- The first byte of a number that was put. -/
theorem put_hd (n k u : Nat) (ys : List UInt8) : ∃ m, m ≤ mx k ∧ hd (putN n k u ++ ys) = UInt8.ofNat (u / 2 ^ k * 2 ^ k + m) := by
  unfold putN hd
  split
  · rename_i h
    exact ⟨n, by omega, rfl⟩
  · exact ⟨mx k, Nat.le_refl _, rfl⟩
theorem ofNat_of {m : Nat} (h : m < 256) : (UInt8.ofNat m).toNat = m := by simp; omega
theorem mark_1 (n : Nat) (ys : List UInt8) : kk (hd (putN n 7 128 ++ ys)) = 1 ∧ kb (hd (putN n 7 128 ++ ys)) = 7 := by
  obtain ⟨m, h, e⟩ := put_hd n 7 128 ys
  have hm : m ≤ 127 := h
  rw [e]
  have h1 : 128 / 2 ^ 7 * 2 ^ 7 + m = 128 + m := by omega
  rw [h1]
  unfold kk kb
  rw [ofNat_of (by omega), if_pos (by omega), if_pos (by omega)]
  exact ⟨rfl, rfl⟩
theorem mark_2 (n : Nat) (ys : List UInt8) : kk (hd (putN n 6 64 ++ ys)) = 2 ∧ kb (hd (putN n 6 64 ++ ys)) = 6 := by
  obtain ⟨m, h, e⟩ := put_hd n 6 64 ys
  have hm : m ≤ 63 := h
  rw [e]
  have h1 : 64 / 2 ^ 6 * 2 ^ 6 + m = 64 + m := by omega
  rw [h1]
  unfold kk kb
  rw [ofNat_of (by omega), if_neg (by omega), if_pos (by omega), if_neg (by omega), if_pos (by omega)]
  exact ⟨rfl, rfl⟩
theorem mark_3 (n : Nat) (ys : List UInt8) : kk (hd (putN n 5 32 ++ ys)) = 3 ∧ kb (hd (putN n 5 32 ++ ys)) = 5 := by
  obtain ⟨m, h, e⟩ := put_hd n 5 32 ys
  have hm : m ≤ 31 := h
  rw [e]
  have h1 : 32 / 2 ^ 5 * 2 ^ 5 + m = 32 + m := by omega
  rw [h1]
  unfold kk kb
  rw [ofNat_of (by omega), if_neg (by omega), if_neg (by omega), if_pos (by omega), if_neg (by omega), if_neg (by omega), if_pos (by omega)]
  exact ⟨rfl, rfl⟩
theorem mark_4 (n u : Nat) (hu : u = 16 ∨ u = 0) (ys : List UInt8) : kk (hd (putN n 4 u ++ ys)) = 4 ∧ kb (hd (putN n 4 u ++ ys)) = 4 := by
  obtain ⟨m, h, e⟩ := put_hd n 4 u ys
  have hm : m ≤ 15 := h
  rw [e]
  have h1 : u / 2 ^ 4 * 2 ^ 4 + m = u + m := by omega
  rw [h1]
  unfold kk kb
  rw [ofNat_of (by omega), if_neg (by omega), if_neg (by omega), if_neg (by omega), if_neg (by omega), if_neg (by omega), if_neg (by omega)]
  exact ⟨rfl, rfl⟩
/-- The number behind a mark. -/
theorem num_back {n k u : Nat} (hk : k ≤ 8) (hu : u < 256) (hn : n < 2 ^ 31) (ys : List UInt8) : nC (putN n k u ++ ys) k = 0 ∧ nV (putN n k u ++ ys) k = n ∧ nR (putN n k u ++ ys) k = ys := by
  have h := take_put hk hu hn ys
  have h1 : nC (putN n k u ++ ys) k = 0 := by unfold nC; rw [h]
  refine ⟨h1, by unfold nV; rw [h], ?_⟩
  unfold nR nU
  rw [if_pos h1, h]
  simp
theorem put_ne (n k u : Nat) (ys : List UInt8) : putN n k u ++ ys ≠ [] := by
  unfold putN
  split <;> simp
/-- A size that stands first. -/
theorem size_one {M most : Int} {xs : List Fd} {n : Nat} (hn : n < 2 ^ 31) (ys : List UInt8) :
    zE most ⟨M, xs, putN n 5 32 ++ ys⟩ = (if most < (n : Int) then 100 else resE M xs n) ∧ (¬ most < (n : Int) → zS most ⟨M, xs, putN n 5 32 ++ ys⟩ = ⟨resM M xs n, resL M xs n, ys⟩) := by
  obtain ⟨h1, h2⟩ := mark_3 n ys
  obtain ⟨h3, h4, h5⟩ := num_back (k := 5) (u := 32) (by omega) (by omega) hn ys
  have e1 : qC ⟨M, xs, putN n 5 32 ++ ys⟩ = 0 := by unfold qC; simp only [h2, h3]
  have e2 : qV ⟨M, xs, putN n 5 32 ++ ys⟩ = n := by unfold qV; simp only [h2, h4]
  have e3 : qR ⟨M, xs, putN n 5 32 ++ ys⟩ = ys := by unfold qR; simp only [h2, h5]
  refine ⟨?_, fun h => ?_⟩
  · unfold zE; rw [e1, e2]; simp
  · unfold zS; rw [e1, e2, e3, if_neg (by omega), if_neg h]
/-- A step of the sizes. -/
theorem zs_size {M most : Int} {xs : List Fd} {n f : Nat} (hn : n < 2 ^ 31) (ys : List UInt8) :
    (most < (n : Int) → (zs most (f + 1) ⟨M, xs, putN n 5 32 ++ ys⟩).1 = 100) ∧ (¬ most < (n : Int) → resE M xs n = 0 → zs most (f + 1) ⟨M, xs, putN n 5 32 ++ ys⟩ = zs most f ⟨resM M xs n, resL M xs n, ys⟩) := by
  obtain ⟨h1, h2⟩ := size_one (M := M) (most := most) (xs := xs) hn ys
  have h3 : ¬ ((⟨M, xs, putN n 5 32 ++ ys⟩ : Sta).ls = [] ∨ kk (hd (⟨M, xs, putN n 5 32 ++ ys⟩ : Sta).ls) ≠ 3) := by
    simp only [put_ne, (mark_3 n ys).1]
    simp
  refine ⟨fun h => ?_, fun h h0 => ?_⟩
  · unfold zs
    rw [if_neg h3, h1, if_pos h, if_pos (by omega)]
  · conv => lhs; unfold zs
    rw [if_neg h3, h1, if_neg h, h0, if_neg (by omega), h2 h]
theorem res_ok {M : Int} {xs : List Fd} {m : Int} (h : rightB M xs = true) (h0 : 0 ≤ m) (h1 : m ≤ 4096) : resE M xs m = 0 ∧ resM M xs m = m ∧ resL M xs m = keep m xs ∧ rightB m (keep m xs) = true := by
  have hb : resB M xs m = true := by unfold resB okB; rw [h, decide_eq_true h0, decide_eq_true h1]; rfl
  refine ⟨by unfold resE; rw [if_pos hb], by unfold resM; rw [if_pos hb], by unfold resL; rw [if_pos hb], ?_⟩
  unfold rightB okB
  rw [decide_eq_true h0, decide_eq_true h1, decide_eq_true (keep_full _ h0)]
  rfl
theorem zs_nil {most : Int} {M : Int} {xs : List Fd} : ∀ f, zs most f ⟨M, xs, []⟩ = (0, ⟨M, xs, []⟩)
  | 0 => rfl
  | f + 1 => by unfold zs; rw [if_pos (Or.inl rfl)]
theorem put_pos (n k u : Nat) : 1 ≤ (putN n k u).length := by
  unfold putN
  split <;> simp
/-- Two sizes, one behind the other. -/
theorem bZ_two {M most : Int} {xs : List Fd} {a b : Nat} (ha : a < 2 ^ 31) (hb : b < 2 ^ 31) (hr : rightB M xs = true) (hm : most ≤ 4096) :
    ((most < (a : Int) ∨ most < (b : Int)) → (bZ most ⟨M, xs, putN a 5 32 ++ putN b 5 32⟩).1 = 100) ∧
    (¬ most < (a : Int) → ¬ most < (b : Int) → bZ most ⟨M, xs, putN a 5 32 ++ putN b 5 32⟩ = (0, ⟨b, keep b (keep a xs), []⟩)) := by
  have h1 := put_pos a 5 32
  have h2 := put_pos b 5 32
  obtain ⟨f, hf⟩ : ∃ f, (putN a 5 32 ++ putN b 5 32).length = f + 1 + 1 := ⟨(putN a 5 32 ++ putN b 5 32).length - 2, by simp only [List.length_append]; omega⟩
  unfold bZ
  simp only [hf]
  obtain ⟨e1, e2⟩ := zs_size (M := M) (most := most) (xs := xs) (f := f + 1) ha (putN b 5 32)
  by_cases ca : most < (a : Int)
  · exact ⟨fun _ => e1 ca, fun h => absurd ca h⟩
  · obtain ⟨r1, r2, r3, r4⟩ := res_ok (m := (a : Int)) hr (by omega) (by omega)
    rw [e2 ca r1, r2, r3]
    obtain ⟨e3, e4⟩ := zs_size (M := (a : Int)) (most := most) (xs := keep a xs) (f := f) hb []
    rw [List.append_nil] at e3 e4
    by_cases cb : most < (b : Int)
    · exact ⟨fun _ => e3 cb, fun _ h => absurd cb h⟩
    · obtain ⟨q1, q2, q3, q4⟩ := res_ok (m := (b : Int)) r4 (by omega) (by omega)
      rw [e4 cb q1, q2, q3, zs_nil]
      exact ⟨fun h => absurd h (by omega), fun _ _ => rfl⟩
/-- The bytes of a text, taken back. -/
theorem be_back {s : List UInt8} (hs : s.length ≤ 100000) (ys : List UInt8) : tE (beB s ++ ys) = 0 ∧ tS (beB s ++ ys) = s ∧ tRs (beB s ++ ys) = ys := by
  have h : tE (beB s ++ ys) = 0 ∧ tS (beB s ++ ys) = s ∧ tR (beB s ++ ys) = ys := by
    unfold beB
    split
    · rename_i h
      exact take_bi (by rw [hO_len]; omega) ys
    · exact take_pl (by omega) ys
  exact ⟨h.1, h.2.1, (tR_eq h.1) ▸ h.2.2⟩
end Go.Proofs.YtfejohfplnbdkaaDoor.Up
