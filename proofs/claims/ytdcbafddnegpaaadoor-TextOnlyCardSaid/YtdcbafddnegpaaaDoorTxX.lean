/- Layer 8, plainly: texts' bytes in both ways, the best ones, and what is taken. -/
import Derived.Test.YtdcbafddnegpaaaDoorMHa
import Derived.Test.YtdcbafddnegpaaaDoorMPx
namespace Go.Proofs.YtdcbafddnegpaaaDoor.Tx
open Hf Px Oct
set_option linter.unusedVariables false
/-- Each text has its bits. -/
theorem part_ex : ∀ (s p : List UInt8), (∃ pre bits used, IsPart (bl p) pre bits used ∧ used < 8) → ∃ pre bits used, IsPart (bl (p ++ s)) pre bits used ∧ used < 8
  | [], p, h => by simpa using h
  | c :: s, p, ⟨pre, bits, used, h, hu⟩ => by
    have e : p ++ c :: s = (p ++ [c]) ++ s := by simp
    rw [e]
    refine part_ex s (p ++ [c]) ?_
    have h1 := h.code c
    rw [← bl_snoc] at h1
    have hm := mny_bd c
    rcases Nat.lt_or_ge (used + mny c) 8 with g | g
    · exact ⟨_, _, _, h1, g⟩
    · have h2 := h1.emit g
      rcases Nat.lt_or_ge (used + mny c - 8) 8 with g2 | g2
      · exact ⟨_, _, _, h2, g2⟩
      · exact ⟨_, _, _, h2.emit g2, by omega⟩
theorem put_ex (s : List UInt8) : ∃ o, IsPut (bl s) o := by
  obtain ⟨pre, bits, used, h, hu⟩ := part_ex s [] ⟨[], 0, 0, IsPart.nil, by omega⟩
  rw [List.nil_append] at h
  rcases Nat.eq_zero_or_pos used with g | g
  · subst g
    exact ⟨_, h.whole_put⟩
  · exact ⟨_, h.fill g hu⟩
/-- A text in bits. -/
noncomputable def hO (s : List UInt8) : List UInt8 := Classical.choose (put_ex s)
theorem hO_put (s : List UInt8) : IsPut (bl s) (hO s) := Classical.choose_spec (put_ex s)
theorem hO_eq {s o : List UInt8} (h : IsPut (bl s) o) : o = hO s := h.one (hO_put s)
theorem hO_len (s : List UInt8) : (hO s).length = ((bl s).length + 7) / 8 := (hO_put s).1
theorem hO_le (s : List UInt8) : (hO s).length ≤ 2 * s.length + 1 := by have := hO_len s; have := bl_le s; omega
/-- A text's bytes: plain, in bits, the best ones. -/
def plB (s : List UInt8) : List UInt8 := putN s.length 7 0 ++ s
noncomputable def biB (s : List UInt8) : List UInt8 := putN (hO s).length 7 128 ++ hO s
noncomputable def beB (s : List UInt8) : List UInt8 := if ((bl s).length + 7) / 8 < s.length then biB s else plB s
/-- What is taken: the number, what stands behind it, the way; the error, the text, what stands behind that. -/
def nT (xs : List UInt8) : Nat := (takeN xs 7).2.1
def rT (xs : List UInt8) : List UInt8 := takL xs 7
def cT (xs : List UInt8) : Nat := (takeN xs 7).1
def wT (xs : List UInt8) : Bool := match xs with
  | [] => false
  | x :: _ => decide (128 ≤ x.toNat)
def tE (xs : List UInt8) : Int := if cT xs ≠ 0 then (cT xs : Int) else if (rT xs).length < nT xs then 10 else if wT xs = true then takeE ((rT xs).take (nT xs)) else 0
def tS (xs : List UInt8) : List UInt8 := if tE xs ≠ 0 then [] else if wT xs = true then takeL ((rT xs).take (nT xs)) else (rT xs).take (nT xs)
def tR (xs : List UInt8) : List UInt8 := if tE xs ≠ 0 then [] else (rT xs).drop (nT xs)
theorem takC7 (xs : List UInt8) : takC xs 7 = takeN xs 7 := takC_yes (b := 7) (by omega) (by omega)
theorem rT_eq (xs : List UInt8) : rT xs = if cT xs = 0 then xs.drop (takeN xs 7).2.2 else [] := by unfold rT takL cT; rw [takC7]
theorem t_num {xs : List UInt8} (h : cT xs ≠ 0) : tE xs = (cT xs : Int) ∧ tS xs = [] ∧ tR xs = [] := by
  have e : tE xs = (cT xs : Int) := if_pos h
  have e0 : tE xs ≠ 0 := by rw [e]; omega
  exact ⟨e, if_pos e0, if_pos e0⟩
theorem t_short {xs : List UInt8} (h : cT xs = 0) (h2 : (rT xs).length < nT xs) : tE xs = 10 ∧ tS xs = [] ∧ tR xs = [] := by
  have e : tE xs = 10 := by unfold tE; rw [if_neg (by omega), if_pos h2]
  have e0 : tE xs ≠ 0 := by omega
  exact ⟨e, if_pos e0, if_pos e0⟩
theorem t_plain {xs : List UInt8} (h : cT xs = 0) (h2 : nT xs ≤ (rT xs).length) (h3 : wT xs = false) : tE xs = 0 ∧ tS xs = (rT xs).take (nT xs) ∧ tR xs = (rT xs).drop (nT xs) := by
  have e : tE xs = 0 := by unfold tE; rw [if_neg (by omega), if_neg (by omega), if_neg (by simp [h3])]
  refine ⟨e, ?_, ?_⟩
  · unfold tS; rw [if_neg (by omega), if_neg (by simp [h3])]
  · unfold tR; rw [if_neg (by omega)]
theorem t_bits {xs : List UInt8} (h : cT xs = 0) (h2 : nT xs ≤ (rT xs).length) (h3 : wT xs = true) : tE xs = takeE ((rT xs).take (nT xs)) ∧ tS xs = takeL ((rT xs).take (nT xs)) ∧ tR xs = if takeE ((rT xs).take (nT xs)) = 0 then (rT xs).drop (nT xs) else [] := by
  have e : tE xs = takeE ((rT xs).take (nT xs)) := by unfold tE; rw [if_neg (by omega), if_neg (by omega), if_pos h3]
  rcases takeE_or ((rT xs).take (nT xs)) with g | ⟨g, g2⟩
  · refine ⟨e, ?_, ?_⟩
    · unfold tS; rw [if_neg (by omega), if_pos h3]
    · unfold tR; rw [if_neg (by omega), if_pos g]
  · refine ⟨e, ?_, ?_⟩
    · unfold tS; rw [if_pos (by omega), g2]
    · unfold tR; rw [if_pos (by omega), if_neg (by omega)]
theorem wT_of {n u : Nat} {ys : List UInt8} (hn : n < 2 ^ 31) (hu : u = 0 ∨ u = 128) : wT (putN n 7 u ++ ys) = decide (u = 128) := by
  obtain ⟨m, rest, hm, _, e⟩ := put_first n 7 u
  rw [e, List.cons_append]
  show decide (128 ≤ (UInt8.ofNat (u / 2 ^ 7 * 2 ^ 7 + m)).toNat) = _
  rcases hu with rfl | rfl
  · rw [show (UInt8.ofNat (0 / 2 ^ 7 * 2 ^ 7 + m)).toNat = m from by simp; omega]
    simp
    omega
  · rw [show (UInt8.ofNat (128 / 2 ^ 7 * 2 ^ 7 + m)).toNat = 128 + m from by simp; omega]
    simp
theorem num_of {n u : Nat} {ys : List UInt8} (hn : n < 2 ^ 31) (hu : u < 256) : cT (putN n 7 u ++ ys) = 0 ∧ nT (putN n 7 u ++ ys) = n ∧ rT (putN n 7 u ++ ys) = ys := by
  have h := take_put (n := n) (k := 7) (u := u) (by omega) hu hn ys
  refine ⟨by unfold cT; rw [h], by unfold nT; rw [h], ?_⟩
  rw [rT_eq, if_pos (by unfold cT; rw [h]), h]
  simp
theorem take_pl {s : List UInt8} (hs : s.length < 2 ^ 31) (ys : List UInt8) : tE (plB s ++ ys) = 0 ∧ tS (plB s ++ ys) = s ∧ tR (plB s ++ ys) = ys := by
  unfold plB
  rw [List.append_assoc]
  obtain ⟨h1, h2, h3⟩ := num_of (n := s.length) (u := 0) (ys := s ++ ys) hs (by omega)
  obtain ⟨e1, e2, e3⟩ := t_plain h1 (by rw [h2, h3]; simp) (by rw [wT_of hs (.inl rfl)]; simp)
  refine ⟨e1, ?_, ?_⟩
  · rw [e2, h2, h3]; simp
  · rw [e3, h2, h3]; simp
theorem take_bi {s : List UInt8} (hs : (hO s).length < 2 ^ 31) (ys : List UInt8) : tE (biB s ++ ys) = 0 ∧ tS (biB s ++ ys) = s ∧ tR (biB s ++ ys) = ys := by
  unfold biB
  rw [List.append_assoc]
  obtain ⟨h1, h2, h3⟩ := num_of (n := (hO s).length) (u := 128) (ys := hO s ++ ys) hs (by omega)
  obtain ⟨e1, e2, e3⟩ := t_bits h1 (by rw [h2, h3]; simp) (by rw [wT_of hs (.inr rfl)]; simp)
  have e4 : (rT (putN (hO s).length 7 128 ++ (hO s ++ ys))).take (nT (putN (hO s).length 7 128 ++ (hO s ++ ys))) = hO s := by rw [h2, h3]; simp
  rw [e4] at e1 e2 e3
  obtain ⟨g1, g2⟩ := Hf.take_put (hO_put s)
  refine ⟨by rw [e1, g1], by rw [e2, g2], ?_⟩
  rw [e3, if_pos g1, h2, h3]; simp
theorem putN_zero (u : Nat) : ∃ x, putN 0 7 u = [x] := ⟨_, if_pos (by unfold mx; omega)⟩
theorem take_cut {n u : Nat} {ys : List UInt8} (hn : ys.length = n) (h : n < 2 ^ 31) (hu : u < 256) : tE ((putN n 7 u ++ ys).take ((putN n 7 u ++ ys).length - 1)) = 10 := by
  rcases Nat.eq_zero_or_pos n with g | g
  · subst g
    obtain rfl : ys = [] := List.eq_nil_of_length_eq_zero hn
    obtain ⟨x, e⟩ := putN_zero u
    rw [e]
    rfl
  · have e : (putN n 7 u ++ ys).take ((putN n 7 u ++ ys).length - 1) = putN n 7 u ++ ys.take (n - 1) := by
      rw [List.length_append, hn, List.take_append, List.take_of_length_le (by omega)]
      congr 2
      omega
    rw [e]
    obtain ⟨h1, h2, h3⟩ := num_of (n := n) (u := u) (ys := ys.take (n - 1)) h hu
    exact (t_short h1 (by rw [h2, h3, List.length_take]; omega)).1
theorem pl_len (s : List UInt8) : (plB s).length = (numB s.length 7).length + s.length := by unfold plB; rw [List.length_append, numB_len_putN]
theorem bi_len (s : List UInt8) : (biB s).length = (numB (hO s).length 7).length + (hO s).length := by unfold biB; rw [List.length_append, numB_len_putN]
theorem be_le (s : List UInt8) : (beB s).length ≤ (plB s).length ∧ (beB s).length ≤ (biB s).length := by
  have h1 := pl_len s
  have h2 := bi_len s
  have h3 := hO_len s
  unfold beB
  split
  · have := numB_more (n := (hO s).length) (n' := s.length) (k := 7) (by omega)
    omega
  · have := numB_more (n := s.length) (n' := (hO s).length) (k := 7) (by omega)
    omega
theorem pl_pos (s : List UInt8) : 0 < (plB s).length := by have := pl_len s; have := numB_pos s.length 7; omega
theorem bi_pos (s : List UInt8) : 0 < (biB s).length := by have := bi_len s; have := numB_pos (hO s).length 7; omega
end Go.Proofs.YtdcbafddnegpaaaDoor.Tx
