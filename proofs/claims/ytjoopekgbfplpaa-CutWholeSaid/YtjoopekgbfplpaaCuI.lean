/- Package cut: Feed in one word; what follows plainly. -/
import Derived.Test.YtjoopekgbfplpaaCuH
namespace Go.Proofs.Ytjoopekgbfplpaa
open Go.RowKit Oct Cu Go.Shelf
set_option linter.unusedVariables false
set_option linter.unusedSimpArgs false
theorem c_feed (p : Nat) (A A' : Option Addr) (n c n' c' : Nat) (r cs : List UInt8) (w : World) (hA : Bs w w.heap.size A n r) (hN : A = none → c = 0) (hnc : n ≤ c) (hn : n ≤ 50000) (hA' : Bs w w.heap.size A' n' cs) (hN' : A' = none → c' = 0) (hnc' : n' ≤ c') (hn' : n' ≤ 50000) (hR : RightR p r) :
    Calls Try.prog 7 #[.agg #[.int .i64 (p : Int), .slice A n c], .slice A' n' c'] w fun e w' => ∃ A1 c1 A2 c2 qs,
      e = .returned (.tuple #[.agg #[.int .i64 ((fdP p cs : Nat) : Int), .slice A1 (fdR p r cs).length c1], .slice A2 (fdL p r cs).length c2, .agg #[.bool (fdX p r cs != 0), .int .i64 0, .int .u32 ((fdX p r cs : Nat) : Int)], .int .i64 0]) ∧
        HandS w' w.heap.size A1 (fdR p r cs).length c1 (fdR p r cs) ∧ HandQ w' w.heap.size A2 (fdL p r cs).length c2 qs ∧ qs.map (·.f) = fdL p r cs ∧ Below w.heap.size w w' := by
  have hl := hA'.1
  by_cases h24 : gre p cs = 24
  · have e0 : ¬ (gre p cs ≠ 24 ∧ fdC p cs ≠ []) := fun h => h.1 h24
    refine (c_feed2Y p A A' n c n' c' r cs w hA hN hnc hn hA' hN' hnc' hn' hR (gre p cs) rfl (by rw [h24]; rfl) _ rfl).mono ?_
    rintro e w' ⟨A1, n1, c1, A2, n2, c2, qs, rfl, hs, hq, hm, hb⟩
    have eL : fdL p r cs = fs (r ++ cs.drop (gre p cs - p)) := by unfold fdL; rw [if_neg e0]; rfl
    have hn2 : n2 = (fdL p r cs).length := by rw [eL, ← hm, List.length_map]; exact hq.1.1.symm
    subst hn2
    by_cases hB : Bad (rs (r ++ cs.drop (gre p cs - p)))
    · have eX : fdX p r cs = 6 := by unfold fdX; rw [if_neg e0]; exact if_pos hB
      have eR : fdR p r cs = [] := by unfold fdR; rw [eX]; rfl
      rw [if_pos hB] at hs
      obtain rfl : n1 = 0 := hs.1.1.symm
      rw [eX, eR, if_pos hB, decide_eq_true hB]
      exact ⟨A1, c1, A2, c2, qs, rfl, hs, hq, hm.trans eL.symm, hb⟩
    · have eX : fdX p r cs = 0 := by unfold fdX; rw [if_neg e0]; exact if_neg hB
      have eR : fdR p r cs = rs (r ++ cs.drop (gre p cs - p)) := by unfold fdR; rw [eX]; rfl
      rw [if_neg hB] at hs
      rw [← eR] at hs
      obtain rfl : n1 = (fdR p r cs).length := hs.1.1.symm
      rw [eX, if_neg hB, decide_eq_false hB]
      exact ⟨A1, c1, A2, c2, qs, rfl, hs, hq, hm.trans eL.symm, hb⟩
  · by_cases hz : 0 < n' - (gre p cs - p)
    · have e1 : fdC p cs ≠ [] := fun h => by
        have := congrArg List.length h
        unfold fdC at this
        rw [List.length_drop, hl] at this
        simp at this
        omega
      have eX : fdX p r cs = 1 := by unfold fdX; rw [if_pos ⟨h24, e1⟩]
      have eL : fdL p r cs = [] := by unfold fdL; rw [if_pos ⟨h24, e1⟩]
      have eR : fdR p r cs = [] := by unfold fdR; rw [eX]; rfl
      refine (c_feed1 p A A' n c n' c' r cs w hA hN hnc hn hA' hN' hnc' hn' hR (gre p cs) rfl (by simp; omega) hz).mono ?_
      rintro e w' ⟨rfl, hb⟩
      rw [eX, eL, eR]
      exact ⟨none, 0, none, 0, [], rfl, HandS.nil_ _ _, HandQ.nil_ _ _, rfl, hb⟩
    · have e1 : fdC p cs = [] := by
        unfold fdC
        exact List.drop_eq_nil_of_le (by omega)
      have e0 : ¬ (gre p cs ≠ 24 ∧ fdC p cs ≠ []) := fun h => h.2 e1
      refine (c_feed2N p A A' n c n' c' r cs w hA hN hnc hn hA' hN' hnc' hn' hR (gre p cs) rfl (by simp; omega) hz _ rfl).mono ?_
      rintro e w' ⟨A1, n1, c1, A2, n2, c2, qs, rfl, hs, hq, hm, hb⟩
      have eL : fdL p r cs = fs (r ++ cs.drop (gre p cs - p)) := by unfold fdL; rw [if_neg e0]; rfl
      have hn2 : n2 = (fdL p r cs).length := by rw [eL, ← hm, List.length_map]; exact hq.1.1.symm
      subst hn2
      by_cases hB : Bad (rs (r ++ cs.drop (gre p cs - p)))
      · have eX : fdX p r cs = 6 := by unfold fdX; rw [if_neg e0]; exact if_pos hB
        have eR : fdR p r cs = [] := by unfold fdR; rw [eX]; rfl
        rw [if_pos hB] at hs
        obtain rfl : n1 = 0 := hs.1.1.symm
        rw [eX, eR, if_pos hB, decide_eq_true hB]
        exact ⟨A1, c1, A2, c2, qs, rfl, hs, hq, hm.trans eL.symm, hb⟩
      · have eX : fdX p r cs = 0 := by unfold fdX; rw [if_neg e0]; exact if_neg hB
        have eR : fdR p r cs = rs (r ++ cs.drop (gre p cs - p)) := by unfold fdR; rw [eX]; rfl
        rw [if_neg hB] at hs
        rw [← eR] at hs
        obtain rfl : n1 = (fdR p r cs).length := hs.1.1.symm
        rw [eX, if_neg hB, decide_eq_false hB]
        exact ⟨A1, c1, A2, c2, qs, rfl, hs, hq, hm.trans eL.symm, hb⟩
namespace Cu
theorem right_nil {p : Nat} (h : p ≤ 24) : RightR p [] := ⟨by omega, by omega, fun _ => rfl, fun h => by unfold Fits at h; simp at h, fun h => by unfold Bad at h; simp at h⟩
theorem right_le {p : Nat} {r : List UInt8} (h : RightR p r) : p ≤ 24 := by unfold RightR at h; omega
theorem fd_right {p : Nat} {r : List UInt8} (h : RightR p r) (cs : List UInt8) : RightR (fdP p cs : Nat) (fdR p r cs) := by
  have hp := right_le h
  have hg := gre_lt cs p hp
  have hgl := gre_le cs p
  by_cases hX : fdX p r cs = 0
  · unfold fdR
    rw [if_pos hX]
    by_cases h24 : gre p cs = 24
    · refine ⟨by omega, by unfold fdP; omega, fun h2 => by unfold fdP at h2; omega, rs_fits _, fun hB => ?_⟩
      unfold fdX at hX
      rw [if_neg (fun h3 => h3.1 h24), if_pos hB] at hX
      cases hX
    · have e1 : fdC p cs = [] := by
        apply Decidable.byContradiction
        intro h1
        unfold fdX at hX
        rw [if_pos ⟨h24, h1⟩] at hX
        cases hX
      have hr : r = [] := h.2.2.1 (by omega)
      rw [e1, hr]
      exact right_nil hg
  · unfold fdR
    rw [if_neg hX]
    exact right_nil hg
theorem fdX_R {p : Nat} {r cs : List UInt8} (h : fdX p r cs = 0) : fdR p r cs = rs (r ++ fdC p cs) := by unfold fdR; rw [if_pos h]
/-- A chunk in two parts. -/
theorem fd_parts {p : Nat} {r : List UInt8} (h : RightR p r) (c1 c2 : List UInt8) :
    (fdX p r c1 ≠ 0 → fdX p r (c1 ++ c2) = fdX p r c1 ∧ fdL p r (c1 ++ c2) = fdL p r c1) ∧
    (fdX p r c1 = 0 → fdX (fdP p c1) (fdR p r c1) c2 = fdX p r (c1 ++ c2) ∧ fdP (fdP p c1) c2 = fdP p (c1 ++ c2) ∧ fdR (fdP p c1) (fdR p r c1) c2 = fdR p r (c1 ++ c2) ∧ fdL p r (c1 ++ c2) = fdL p r c1 ++ fdL (fdP p c1) (fdR p r c1) c2) := by
  have hp := right_le h
  have hg1 := gre_le c1 p
  have hgl := gre_lt c1 p hp
  by_cases hall : gre p c1 = p + c1.length
  · -- all of the first part went into the preface
    have hC1 : fdC p c1 = [] := by unfold fdC; exact List.drop_eq_nil_of_le (by omega)
    have hG : gre p (c1 ++ c2) = gre (gre p c1) c2 := by rw [gre_app, if_pos hall]
    have hg2 := gre_le c2 (gre p c1)
    have hC : fdC p (c1 ++ c2) = fdC (gre p c1) c2 := by
      unfold fdC
      rw [hG, List.drop_append, List.drop_eq_nil_of_le (by omega), List.nil_append]
      congr 1
      omega
    have hX1 : fdX p r c1 = if Bad (rs r) then 6 else 0 := by
      unfold fdX
      rw [hC1, if_neg (fun h => h.2 rfl), List.append_nil]
    have hrs : rs r = r := (fs_no h.2.2.2.1).2
    have hfs : fs r = [] := (fs_no h.2.2.2.1).1
    rw [hrs, if_neg h.2.2.2.2] at hX1
    have hL1 : fdL p r c1 = [] := by unfold fdL; rw [hC1, if_neg (fun h => h.2 rfl), List.append_nil, hfs]
    have hR1 : fdR p r c1 = r := by rw [fdX_R hX1, hC1, List.append_nil, hrs]
    refine ⟨fun h2 => absurd hX1 h2, fun _ => ?_⟩
    rw [hR1, hL1]
    have eX : fdX (fdP p c1) r c2 = fdX p r (c1 ++ c2) := by unfold fdX fdP; rw [hC, hG]
    refine ⟨eX, hG.symm, ?_, ?_⟩
    · unfold fdR
      rw [eX, hC]
      rfl
    · unfold fdL fdP
      rw [hC, hG]
      rfl
  · have hG : gre p (c1 ++ c2) = gre p c1 := by rw [gre_app, if_neg hall]
    have hC : fdC p (c1 ++ c2) = fdC p c1 ++ c2 := by unfold fdC; rw [hG, List.drop_append_of_le_length (by omega)]
    have hC1 : fdC p c1 ≠ [] := fun e => by
      have := congrArg List.length e
      unfold fdC at this
      rw [List.length_drop] at this
      simp at this
      omega
    have hC2 : fdC p c1 ++ c2 ≠ [] := fun e => hC1 (List.append_eq_nil_iff.1 e).1
    by_cases h24 : gre p c1 = 24
    · have hX : ∀ cs, gre p cs = 24 → fdX p r cs = if Bad (rs (r ++ fdC p cs)) then 6 else 0 := fun cs e => by unfold fdX; rw [if_neg (fun h => h.1 e)]
      have hL : ∀ cs, gre p cs = 24 → fdL p r cs = fs (r ++ fdC p cs) := fun cs e => by unfold fdL; rw [if_neg (fun h => h.1 e)]
      obtain ⟨f1, f2⟩ := fs_app (r ++ fdC p c1).length (r ++ fdC p c1) c2 (Nat.le_refl _)
      rw [List.append_assoc] at f1 f2
      rw [hX _ h24, hX _ (hG.trans h24), hL _ h24, hL _ (hG.trans h24), hC, f1, f2]
      by_cases hB : Bad (rs (r ++ fdC p c1))
      · have hB2 : Bad (rs (r ++ fdC p c1) ++ c2) := bad_app hB
        have n2 := fs_no (bad_fits hB2)
        rw [if_pos hB, n2.1, n2.2, if_pos hB2, List.append_nil]
        exact ⟨fun _ => ⟨rfl, rfl⟩, fun h => by cases h⟩
      · rw [if_neg hB]
        have hX1 : fdX p r c1 = 0 := by rw [hX _ h24, if_neg hB]
        have hR1 : fdR p r c1 = rs (r ++ fdC p c1) := fdX_R hX1
        refine ⟨fun h => absurd rfl h, fun _ => ?_⟩
        have hP : fdP p c1 = 24 := h24
        rw [hP, hR1]
        have g2 : gre 24 c2 = 24 := gre_24 c2
        have hC24 : fdC 24 c2 = c2 := by unfold fdC; rw [g2]; rfl
        have hX2 : fdX 24 (rs (r ++ fdC p c1)) c2 = if Bad (rs (rs (r ++ fdC p c1) ++ c2)) then 6 else 0 := by unfold fdX; rw [if_neg (fun h => h.1 g2), hC24]
        have hXa : fdX p r (c1 ++ c2) = if Bad (rs (rs (r ++ fdC p c1) ++ c2)) then 6 else 0 := by rw [hX _ (hG.trans h24), hC, f2]
        refine ⟨hX2, ?_, ?_, ?_⟩
        · unfold fdP; rw [hG, g2, h24]
        · unfold fdR
          rw [hX2, hXa, hC24, hC, f2]
        · unfold fdL
          rw [if_neg (fun h => h.1 g2), hC24]
    · have hX1 : fdX p r c1 = 1 := by unfold fdX; rw [if_pos ⟨h24, hC1⟩]
      refine ⟨fun _ => ⟨?_, ?_⟩, fun h => by rw [hX1] at h; cases h⟩
      · unfold fdX; rw [hC, hG, if_pos ⟨h24, hC2⟩, if_pos ⟨h24, hC1⟩]
      · unfold fdL; rw [hC, hG, if_pos ⟨h24, hC2⟩, if_pos ⟨h24, hC1⟩]
/-- The preface's next byte, or another one. -/
theorem fd_next {p : Nat} (c : UInt8) (more : List UInt8) (hp : p < 24) (h : prefB[p]? = some c) : fdP p (c :: more) = fdP (p + 1) more ∧ fdX p [] (c :: more) = fdX (p + 1) [] more ∧ fdL p [] (c :: more) = fdL (p + 1) [] more ∧ fdR p [] (c :: more) = fdR (p + 1) [] more := by
  have hg : gre p (c :: more) = gre (p + 1) more := by rw [gre_cons, if_neg]; intro h2; rcases h2 with h2 | h2; omega; exact h2 h
  have hl := gre_le more (p + 1)
  have hC : fdC p (c :: more) = fdC (p + 1) more := by
    unfold fdC
    rw [hg, show gre (p + 1) more - p = (gre (p + 1) more - (p + 1)) + 1 by omega, List.drop_succ_cons]
  have hX : fdX p [] (c :: more) = fdX (p + 1) [] more := by unfold fdX; rw [hg, hC]
  exact ⟨hg, hX, by unfold fdL; rw [hg, hC], by unfold fdR; rw [hX, hC]⟩
theorem fd_other {p : Nat} (c : UInt8) (more : List UInt8) (hp : p < 24) (h : prefB[p]? ≠ some c) : fdP p (c :: more) = p ∧ fdX p [] (c :: more) = 1 ∧ fdL p [] (c :: more) = [] ∧ fdR p [] (c :: more) = [] := by
  have hg : gre p (c :: more) = p := by rw [gre_cons, if_pos (.inr h)]
  have hC : fdC p (c :: more) = c :: more := by unfold fdC; rw [hg, Nat.sub_self]; rfl
  have hX : fdX p [] (c :: more) = 1 := by unfold fdX; rw [hg, hC, if_pos ⟨by omega, by simp⟩]
  exact ⟨hg, hX, by unfold fdL; rw [hg, hC, if_pos ⟨by omega, by simp⟩], by unfold fdR; rw [hX]; rfl⟩
end Cu
end Go.Proofs.Ytjoopekgbfplpaa
