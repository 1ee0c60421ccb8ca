/- Layer 10, plainly: what the iterator of the fields comes through. -/
import Derived.Test.YtfejohfplnbdkaaDoorUpL
namespace Go.Proofs.YtfejohfplnbdkaaDoor.Up
open Go.RowKit Px Tx Tb
set_option linter.unusedVariables false
set_option linter.unusedSimpArgs false
/-- The first k fields. -/
def FL (s : Sta) (k : Nat) : List Fd := (List.range k).map fun j => qF (aft s j)
theorem FL_succ (s : Sta) (k : Nat) : FL s (k + 1) = FL s k ++ [qF (aft s k)] := by simp [FL, List.range_succ]
theorem FL_len (s : Sta) (k : Nat) : (FL s k).length = k := by simp [FL]
theorem aft_shift (s : Sta) : ∀ k, aft s (k + 1) = aft (qS s) k
  | 0 => rfl
  | k + 1 => by
    show qS (aft s (k + 1)) = qS (aft (qS s) k)
    rw [aft_shift s k]
theorem FL_shift (s : Sta) (k : Nat) : FL s (k + 1) = qF s :: FL (qS s) k := by
  unfold FL
  rw [List.range_succ_eq_map, List.map_cons, List.map_map]
  congr 1
  apply List.map_congr_left
  intro j _
  show qF (aft s (j + 1)) = _
  rw [aft_shift]
theorem okS_shift {s : Sta} {k : Nat} (h : okS s (k + 1)) : s.ls ≠ [] ∧ qE s = 0 ∧ okS (qS s) k := by
  have h0 := h 0 (by omega)
  refine ⟨h0.1, h0.2, fun j hj => ?_⟩
  have := h (j + 1) (by omega)
  rwa [aft_shift] at this
theorem okS_less {s : Sta} {k : Nat} (h : okS s k) : (aft s k).ls.length + k ≤ s.ls.length := by
  induction k with
  | zero => exact Nat.le_refl _
  | succ k ih =>
    have h1 := ih (fun j hj => h j (by omega))
    have h2 := qS_less (h k (by omega)).1
    show (qS (aft s k)).ls.length + (k + 1) ≤ _
    omega
theorem rn_end : ∀ (k f : Nat) (s : Sta), s.ls.length ≤ f → okS s k → (aft s k).ls = [] → rn f s = (0, FL s k, aft s k)
  | 0, f, s, hf, _, he => by
    cases f with
    | zero => rfl
    | succ f => unfold rn; rw [if_pos (show s.ls = [] from he)]; rfl
  | k + 1, f, s, hf, hok, he => by
    obtain ⟨h1, h2, h3⟩ := okS_shift hok
    have hl := qS_less h1
    cases f with
    | zero => have := List.length_pos_iff.2 h1; omega
    | succ f =>
      rw [aft_shift] at he
      have := rn_end k f (qS s) (by omega) h3 he
      unfold rn
      rw [if_neg h1, if_neg (by omega), this, FL_shift, aft_shift]
theorem rn_bad : ∀ (k f : Nat) (s : Sta), s.ls.length ≤ f → okS s k → (aft s k).ls ≠ [] → qE (aft s k) ≠ 0 → rn f s = (qE (aft s k), FL s k, qS (aft s k))
  | 0, f, s, hf, _, hl, he => by
    cases f with
    | zero => have := List.length_pos_iff.2 (show s.ls ≠ [] from hl); omega
    | succ f => unfold rn; rw [if_neg (show ¬ s.ls = [] from hl), if_pos (show qE s ≠ 0 from he)]; rfl
  | k + 1, f, s, hf, hok, hl, he => by
    obtain ⟨h1, h2, h3⟩ := okS_shift hok
    have hls := qS_less h1
    cases f with
    | zero => have := List.length_pos_iff.2 h1; omega
    | succ f =>
      rw [aft_shift] at hl he
      have := rn_bad k f (qS s) (by omega) h3 hl he
      unfold rn
      rw [if_neg h1, if_neg (by omega), this, FL_shift, aft_shift]
/-- A right table stays right. -/
def rt (s : Sta) : Prop := rightB s.M s.xs = true
theorem rt_bd {s : Sta} (h : rt s) : 0 ≤ s.M ∧ s.M ≤ 4096 ∧ (full s.xs : Int) ≤ s.M := by
  unfold rt rightB okB at h
  simp only [Bool.and_eq_true, decide_eq_true_eq] at h
  omega
theorem rt_of {M : Int} {xs : List Fd} {ls : List UInt8} (h1 : 0 ≤ M) (h2 : M ≤ 4096) (h3 : (full xs : Int) ≤ M) : rt ⟨M, xs, ls⟩ := by
  unfold rt rightB okB
  rw [decide_eq_true h1, decide_eq_true h2, decide_eq_true h3]
  rfl
theorem rt_add {s : Sta} (h : rt s) (f : Fd) : addM s.M s.xs = s.M ∧ addE s.M s.xs = 0 ∧ addL s.M s.xs f = keep s.M (f :: s.xs) := by
  unfold rt at h
  exact ⟨by unfold addM; rw [h]; rfl, by unfold addE; rw [h]; rfl, by unfold addL; rw [h]; rfl⟩
theorem qS_rt {s : Sta} (h : rt s) : rt (qS s) := by
  have hb := rt_bd h
  have h0 : ∀ ls, rt ⟨s.M, s.xs, ls⟩ := fun ls => rt_of hb.1 hb.2.1 hb.2.2
  unfold qS
  split
  · exact h0 _
  · split
    · exact h0 _
    · split
      · exact h0 _
      · split
        · obtain ⟨e1, _, e3⟩ := rt_add h (owF s.xs (qR s) (qV s))
          rw [e1, e3]
          exact rt_of hb.1 hb.2.1 (keep_full _ hb.1)
        · exact h0 _
theorem aft_rt {s : Sta} (h : rt s) : ∀ k, rt (aft s k)
  | 0 => h
  | k + 1 => qS_rt (aft_rt h k)
theorem zS_rt {most : Int} (hm : most ≤ 4096) {s : Sta} (h : rt s) : rt (zS most s) := by
  have hb := rt_bd h
  unfold zS
  split
  · exact rt_of hb.1 hb.2.1 hb.2.2
  · split
    · exact rt_of hb.1 hb.2.1 hb.2.2
    · have hr : resB s.M s.xs (qV s) = true := by
        unfold resB
        unfold rt at h
        rw [h]
        unfold okB
        rw [decide_eq_true (by omega), decide_eq_true (by omega)]
        rfl
      unfold resM resL
      rw [hr]
      exact rt_of (by simp only [if_true]; omega) (by simp only [if_true]; omega) (by simp only [if_true]; exact keep_full _ (by omega))
theorem zs_rt {most : Int} (hm : most ≤ 4096) : ∀ (k : Nat) (s : Sta), rt s → rt (zs most k s).2
  | 0, s, h => h
  | k + 1, s, h => by
    unfold zs
    split
    · exact h
    · split
      · exact zS_rt hm h
      · exact zs_rt hm k _ (zS_rt hm h)
theorem zs_less {most : Int} : ∀ (k : Nat) (s : Sta), (zs most k s).2.ls.length ≤ s.ls.length
  | 0, s => Nat.le_refl _
  | k + 1, s => by
    unfold zs
    by_cases g : s.ls = [] ∨ kk (hd s.ls) ≠ 3
    · rw [if_pos g]; exact Nat.le_refl _
    · rw [if_neg g]
      have hl := zS_less (most := most) (s := s) (fun h => g (.inl h))
      split
      · exact Nat.le_of_lt hl
      · have := zs_less (most := most) k (zS most s); omega
/-- What a field is as great as, at most. -/
theorem qF_sz {s : Sta} (h : rt s) (hl : s.ls.length ≤ 10000) : sz (qF s) ≤ 100000 := by
  have hb := rt_bd h
  have h1 := own_sz s.xs (qR s) (qV s) (by omega) (by have := n_le s.ls (kb (hd s.ls)); unfold qR; omega)
  have h2 := atV_sz s.xs (qV s)
  unfold qF
  split
  · simp [sz, fd0, ByteArray.size]
  · split
    · omega
    · split
      · simp [sz, fd0, ByteArray.size]
      · exact h1
theorem FL_full {s : Sta} (h : rt s) (hl : s.ls.length ≤ 10000) : ∀ k, okS s k → full (FL s k) ≤ 100000 * k
  | 0, _ => by simp [FL, full]
  | k + 1, hok => by
    have h1 := FL_full h hl k (fun j hj => hok j (by omega))
    have h2 := okS_less (k := k) (fun j hj => hok j (by omega))
    have h3 := qF_sz (aft_rt h k) (by omega)
    rw [FL_succ, full_append]
    simp only [full]
    omega
/-- What is kept of a list that one more comes to. -/
theorem keep_snoc {M : Nat} {L : List Fd} {x : Fd} : keep M (L ++ [x]) = if M < full (L ++ [x]) then keep M L else L ++ [x] := by
  split
  · rename_i h
    have h2 : fit M (L ++ [x]) = fit M L := by
      unfold fit
      rw [List.length_append, List.length_singleton]
      rw [show fits (M : Int) (L ++ [x]) (L.length + 1) = fits (M : Int) (L ++ [x]) L.length from if_neg (by rw [List.take_of_length_le (by simp)]; omega)]
      have : ∀ k, k ≤ L.length → fits M (L ++ [x]) k = fits M L k := by
        intro k hk
        induction k with
        | zero => rfl
        | succ k ih =>
          unfold fits
          rw [List.take_append_of_le_length hk, ih (by omega)]
      exact this _ (Nat.le_refl _)
    unfold keep
    rw [h2, List.take_append_of_le_length (fit_le _ _)]
  · exact keep_all (by omega)
theorem keep_over {M : Nat} {L : List Fd} {x : Fd} (h : M < full L) : keep M (L ++ [x]) = keep M L := by
  rw [keep_snoc, if_pos (by rw [full_append]; omega)]
end Go.Proofs.YtfejohfplnbdkaaDoor.Up
