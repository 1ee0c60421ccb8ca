/- Layer 10, plainly: blocks of one field, of sizes. -/
import Derived.Test.YtfejohfplnbdkaaDoorUpYa
namespace Go.Proofs.YtfejohfplnbdkaaDoor.Up
open Go.RowKit Px Tx Tb
set_option linter.unusedVariables false
set_option linter.unusedSimpArgs false
theorem okA_of {M most : Int} {xs : List Fd} (hr : rightB M xs = true) (h0 : 0 ≤ most) (h1 : most ≤ 4096) : okA M most xs = true := by
  unfold okA okB
  rw [hr, decide_eq_true h0, decide_eq_true h1]
  rfl
/-- No size stands ahead. -/
theorem bZ_none {M most : Int} {xs : List Fd} {ls : List UInt8} (h : kk (hd ls) ≠ 3) : bZ most ⟨M, xs, ls⟩ = (0, ⟨M, xs, ls⟩) := by
  unfold bZ
  cases hl : (⟨M, xs, ls⟩ : Sta).ls.length with
  | zero => rfl
  | succ f => unfold zs; rw [if_pos (Or.inr h)]
/-- A block of one field. -/
theorem block_one {M most : Int} {xs : List Fd} {ls : List UInt8} (hr : rightB M xs = true) (h0 : 0 ≤ most) (h1 : most ≤ 4096) (hk : kk (hd ls) ≠ 3) (hl : ls ≠ []) (he : qE ⟨M, xs, ls⟩ = 0) (hs : (qS ⟨M, xs, ls⟩).ls = []) :
    bE M most xs ls = 0 ∧ bAll M most xs ls = [qF ⟨M, xs, ls⟩] ∧ bM M most xs ls = (qS ⟨M, xs, ls⟩).M ∧ bX M most xs ls = (qS ⟨M, xs, ls⟩).xs := by
  have hz := bZ_none (M := M) (most := most) (xs := xs) hk
  have hn : bN most ⟨M, xs, ls⟩ = (0, [qF ⟨M, xs, ls⟩], qS ⟨M, xs, ls⟩) := by
    unfold bN
    rw [hz]
    exact rn_end 1 _ _ (Nat.le_refl _) (fun j hj => by obtain rfl : j = 0 := by omega
                                                       exact ⟨hl, he⟩) hs
  have hE : bE M most xs ls = 0 := by unfold bE; rw [if_neg (by rw [okA_of hr h0 h1]; exact Bool.noConfusion), hz, if_neg (by simp), hn]
  refine ⟨hE, ?_, ?_, ?_⟩
  · unfold bAll; rw [hn]
  · unfold bM; rw [if_pos hE, hn]
  · unfold bX; rw [if_pos hE, hn]
/-- A block of two sizes. -/
theorem block_two {M most : Int} {xs : List Fd} {a b : Nat} (ha : a < 2 ^ 31) (hb : b < 2 ^ 31) (hr : rightB M xs = true) (h0 : 0 ≤ most) (h1 : most ≤ 4096) :
    ((most < (a : Int) ∨ most < (b : Int)) → bE M most xs (putN a 5 32 ++ putN b 5 32) = 100) ∧
    (¬ most < (a : Int) → ¬ most < (b : Int) → bE M most xs (putN a 5 32 ++ putN b 5 32) = 0 ∧ bL M most xs (putN a 5 32 ++ putN b 5 32) = [] ∧ bM M most xs (putN a 5 32 ++ putN b 5 32) = b ∧ bX M most xs (putN a 5 32 ++ putN b 5 32) = keep b (keep a xs)) := by
  obtain ⟨e1, e2⟩ := bZ_two (xs := xs) ha hb hr h1
  have ho : ¬ okA M most xs = false := by rw [okA_of hr h0 h1]; exact Bool.noConfusion
  refine ⟨fun h => ?_, fun h h' => ?_⟩
  · have := e1 h
    unfold bE
    rw [if_neg ho, if_pos (by omega), this]
  · have hz := e2 h h'
    have hn : bN most ⟨M, xs, putN a 5 32 ++ putN b 5 32⟩ = (0, [], ⟨b, keep b (keep a xs), []⟩) := by
      unfold bN
      rw [hz]
      exact rn_end 0 _ _ (by simp) (fun j hj => absurd hj (by omega)) rfl
    have hE : bE M most xs (putN a 5 32 ++ putN b 5 32) = 0 := by unfold bE; rw [if_neg ho, hz, if_neg (by simp), hn]
    refine ⟨hE, ?_, ?_, ?_⟩
    · unfold bL bAll; rw [if_pos hE, hn]; rfl
    · unfold bM; rw [if_pos hE, hn]
    · unfold bX; rw [if_pos hE, hn]
/-- A size behind a field. -/
theorem size_late {M : Int} {xs : List Fd} {n : Nat} (hn : n < 2 ^ 31) : qE ⟨M, xs, putN n 5 32⟩ = 100 := by
  obtain ⟨h1, h2⟩ := mark_3 n []
  obtain ⟨h3, _, _⟩ := num_back (k := 5) (u := 32) (by omega) (by omega) hn []
  rw [List.append_nil] at h1 h2 h3
  unfold qE qC
  simp only [h1, h2, h3]
  simp
theorem block_late {M most : Int} {xs : List Fd} {a b : List UInt8} {n : Nat} (hn : n < 2 ^ 31) (hr : rightB M xs = true) (h0 : 0 ≤ most) (h1 : most ≤ 4096) (ha : a.length ≤ 100000) (hb : b.length ≤ 100000) :
    bE M most xs (fldL a b 0 ++ putN n 5 32) = 100 := by
  obtain ⟨q1, q2, q3⟩ := fld_one (M := M) (xs := xs) (ys := putN n 5 32) 0 ha hb
  rw [if_neg (by decide)] at q1 q3
  have hl : fldL a b 0 = putN 0 4 0 ++ (beB a ++ beB b) := by
    unfold fldL
    rw [show putL 0 (wR 0) (wU 0) = putN 0 4 0 by decide, List.append_assoc]
  have hk : kk (hd (fldL a b 0 ++ putN n 5 32)) ≠ 3 := by
    rw [hl, List.append_assoc, (mark_4 0 0 (.inr rfl) _).1]
    omega
  have hz := bZ_none (M := M) (most := most) (xs := xs) hk
  have hne : putN n 5 32 ≠ [] := by have := put_pos n 5 32; intro h; rw [h] at this; simp at this
  have hn2 : (bN most ⟨M, xs, fldL a b 0 ++ putN n 5 32⟩).1 = 100 := by
    unfold bN
    rw [hz]
    have e1 : aft ⟨M, xs, fldL a b 0 ++ putN n 5 32⟩ 1 = ⟨M, xs, putN n 5 32⟩ := q3
    have hb := rn_bad 1 (fldL a b 0 ++ putN n 5 32).length ⟨M, xs, fldL a b 0 ++ putN n 5 32⟩ (Nat.le_refl _) (fun j hj => by
      obtain rfl : j = 0 := by omega
      exact ⟨fun h => hne (List.append_eq_nil_iff.1 h).2, q1⟩) (by rw [e1]; exact hne) (by rw [e1, size_late hn]; omega)
    rw [hb, e1]
    exact size_late hn
  unfold bE
  rw [if_neg (by rw [okA_of hr h0 h1]; exact Bool.noConfusion), hz, if_neg (by simp), hn2]
end Go.Proofs.YtfejohfplnbdkaaDoor.Up
