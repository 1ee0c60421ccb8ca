/- Layer 10, plainly: a field by its index, by its name's index; what a block tells stays small. -/
import Derived.Test.YtfejohfplnbdkaaDoorUpYc
namespace Go.Proofs.YtfejohfplnbdkaaDoor.Up
open Go.RowKit Px Tx Tb
set_option linter.unusedVariables false
set_option linter.unusedSimpArgs false
theorem may_of {n k : Nat} (hk : 1 ≤ k ∧ k ≤ 8) (hn : n < 2 ^ 31) : MayN (n : Int) (k : Int) := ⟨⟨by omega, by omega⟩, by omega, by omega⟩
theorem putL_of {n k u : Nat} (hk : 1 ≤ k ∧ k ≤ 8) (hn : n < 2 ^ 31) : putL (n : Int) (k : Int) u = putN n k u := putL_yes (may_of hk hn)
theorem putE_of {n k : Nat} (hk : 1 ≤ k ∧ k ≤ 8) (hn : n < 2 ^ 31) : putE (n : Int) (k : Int) = 0 := putE_yes (may_of hk hn)
theorem atE_bd {xs : List Fd} {i : Int} (h : atE xs i = 0) : 1 ≤ i ∧ i ≤ 20 + xs.length := by
  unfold atE at h
  cases ho : atO xs i with
  | none => rw [ho] at h; simp at h
  | some x =>
    unfold atO at ho
    split at ho
    · rename_i h1
      refine ⟨h1, ?_⟩
      have := (List.getElem?_eq_some_iff.1 ho).1
      simp only [List.length_append, stat_len] at this
      omega
    · cases ho
theorem atE_or (xs : List Fd) (i : Int) : atE xs i = 0 ∨ atE xs i = 90 := by
  unfold atE
  split
  · exact .inl rfl
  · exact .inr rfl
theorem bN_late {M most : Int} {xs : List Fd} {ls : List UInt8} (hr : rightB M xs = true) (h0 : 0 ≤ most) (h1 : most ≤ 4096) (hk : kk (hd ls) ≠ 3) (hl : ls ≠ []) (he : qE ⟨M, xs, ls⟩ ≠ 0) : bE M most xs ls = qE ⟨M, xs, ls⟩ := by
  have hz := bZ_none (M := M) (most := most) (xs := xs) hk
  have hn : bN most ⟨M, xs, ls⟩ = (qE ⟨M, xs, ls⟩, [], qS ⟨M, xs, ls⟩) := by
    unfold bN
    rw [hz]
    exact rn_bad 0 _ _ (Nat.le_refl _) (fun j hj => absurd hj (by omega)) hl he
  unfold bE
  rw [if_neg (by rw [okA_of hr h0 h1]; exact Bool.noConfusion), hz, if_neg (by simp), hn]
theorem b_none {M most : Int} {xs : List Fd} {ls : List UInt8} (h : bE M most xs ls ≠ 0) : bL M most xs ls = [] ∧ bG M most xs ls = false ∧ bM M most xs ls = 0 ∧ bX M most xs ls = [] := by
  refine ⟨if_neg h, ?_, if_neg h, if_neg h⟩
  unfold bG
  rw [decide_eq_false h]
  rfl
/-- A block of an index. -/
theorem block_idx {M most : Int} {xs : List Fd} {i : Nat} (hi : i < 2 ^ 31) (hr : rightB M xs = true) (h0 : 0 ≤ most) (h1 : most ≤ 4096) :
    bE M most xs (putN i 7 128) = atE xs i ∧ (atE xs i = 0 → bAll M most xs (putN i 7 128) = [atV xs i] ∧ bM M most xs (putN i 7 128) = M ∧ bX M most xs (putN i 7 128) = xs) := by
  obtain ⟨m1, m2⟩ := mark_1 i []
  obtain ⟨n1, n2, n3⟩ := num_back (n := i) (k := 7) (u := 128) (by omega) (by omega) hi []
  rw [List.append_nil] at m1 m2 n1 n2 n3
  have e1 : qC ⟨M, xs, putN i 7 128⟩ = 0 := by unfold qC; simp only [m2, n1]
  have e2 : qV ⟨M, xs, putN i 7 128⟩ = i := by unfold qV; simp only [m2, n2]
  have e3 : qR ⟨M, xs, putN i 7 128⟩ = [] := by unfold qR; simp only [m2, n3]
  have q1 : qE ⟨M, xs, putN i 7 128⟩ = atE xs i := by unfold qE; rw [e1, e2]; simp [m1]
  have q2 : qF ⟨M, xs, putN i 7 128⟩ = atV xs i := by unfold qF; rw [e1, e2]; simp [m1]
  have q3 : qS ⟨M, xs, putN i 7 128⟩ = ⟨M, xs, []⟩ := by unfold qS; rw [e1, e3]; simp [m1]
  have hl : putN i 7 128 ≠ [] := by have := put_ne i 7 128 []; rwa [List.append_nil] at this
  have hk : kk (hd (putN i 7 128)) ≠ 3 := by rw [m1]; decide
  by_cases h : atE xs i = 0
  · obtain ⟨b1, b2, b3, b4⟩ := block_one (most := most) hr h0 h1 hk hl (q1.trans h) (by rw [q3])
    rw [q2] at b2
    rw [q3] at b3 b4
    exact ⟨b1.trans h.symm, fun _ => ⟨b2, b3, b4⟩⟩
  · exact ⟨(bN_late hr h0 h1 hk hl (by rw [q1]; exact h)).trans q1, fun h' => absurd h' h⟩
/-- A block of a field by its name's index. -/
theorem block_nm {M most : Int} {xs : List Fd} {i : Nat} {b : List UInt8} (way : Int) (hi : i < 2 ^ 31) (h1i : 1 ≤ i) (hr : rightB M xs = true) (h0 : 0 ≤ most) (h1 : most ≤ 4096) (hb : b.length ≤ 100000) (he : atE xs i = 0) :
    nmE i way = 0 ∧ bE M most xs (nmL i b way) = 0 ∧ bAll M most xs (nmL i b way) = [((atV xs i).1, st b)] := by
  obtain ⟨hw1, hw2, hw3⟩ := way_bd way
  have hE : putE (i : Int) (wR way) = 0 := putE_of ⟨hw3, hw1⟩ hi
  have hl : nmL i b way = putN i (wR way) (wU way) ++ (beB b ++ []) := by
    unfold nmL
    rw [if_neg (by omega), if_pos hE, putL_of ⟨hw3, hw1⟩ hi, List.append_nil]
  have hnE : nmE i way = 0 := by unfold nmE; rw [if_neg (by omega), hE]
  rw [hl]
  obtain ⟨m1, m2⟩ := way_mark way i (beB b ++ [])
  obtain ⟨n1, n2, n3⟩ := num_back (n := i) hw1 hw2 hi (beB b ++ [])
  obtain ⟨o1, o2, o3⟩ := own_index (xs := xs) (b := b) (ys := []) (v := i) (by omega) hb he
  obtain ⟨q1, q2, q3⟩ := own_at (s := ⟨M, xs, putN i (wR way) (wU way) ++ (beB b ++ [])⟩) m2 m1 (by split <;> simp) n1 n2 n3 o1
  have hq1 : qE ⟨M, xs, putN i (wR way) (wU way) ++ (beB b ++ [])⟩ = 0 := by
    rw [q1]
    split
    · unfold addE; simp only; rw [hr]; rfl
    · rfl
  obtain ⟨b1, b2, b3, b4⟩ := block_one (most := most) hr h0 h1 (by rw [m1]; split <;> decide) (put_ne _ _ _ _) hq1 (by rw [q3, o3]; split <;> rfl)
  rw [q2] at b2
  simp only [o2] at b2
  exact ⟨hnE, b1, b2⟩
/-- A block of a field by texts. -/
theorem block_fld {M most : Int} {xs : List Fd} {a b : List UInt8} (way : Int) (hr : rightB M xs = true) (h0 : 0 ≤ most) (h1 : most ≤ 4096) (ha : a.length ≤ 100000) (hb : b.length ≤ 100000) :
    bE M most xs (fldL a b way) = 0 ∧ bAll M most xs (fldL a b way) = [(st a, st b)] ∧ bM M most xs (fldL a b way) = M ∧ bX M most xs (fldL a b way) = (if way = 1 then addL M xs (st a, st b) else xs) := by
  obtain ⟨hw1, hw2, hw3⟩ := way_bd way
  obtain ⟨q1, q2, q3⟩ := fld_one (M := M) (xs := xs) (ys := []) way ha hb
  rw [List.append_nil] at q1 q2 q3
  have hl : fldL a b way = putN 0 (wR way) (wU way) ++ (beB a ++ beB b) := by
    unfold fldL
    rw [show putL 0 (wR way) (wU way) = putN 0 (wR way) (wU way) from putL_of (n := 0) ⟨hw3, hw1⟩ (by omega), List.append_assoc]
  have hne : fldL a b way ≠ [] := by rw [hl]; exact put_ne _ _ _ _
  have hk : kk (hd (fldL a b way)) ≠ 3 := by rw [hl, (way_mark way 0 _).1]; split <;> decide
  have hq : qE ⟨M, xs, fldL a b way⟩ = 0 := by
    rw [q1]
    split
    · unfold addE; rw [hr]; rfl
    · rfl
  obtain ⟨b1, b2, b3, b4⟩ := block_one (most := most) hr h0 h1 hk hne hq (by rw [q3]; split <;> rfl)
  rw [q2] at b2
  rw [q3] at b3 b4
  refine ⟨b1, b2, b3.trans ?_, b4.trans ?_⟩
  · split
    · unfold addM; rw [hr]; rfl
    · rfl
  · split <;> rfl
/-- What is kept of all that is told. -/
theorem keep_one {x : Fd} (h : sz x ≤ 2000) : keep 2000 [x] = [x] := keep_all (by show ((sz x + 0 : Nat) : Int) ≤ 2000; omega)
theorem full_one (x : Fd) : full [x] = sz x := rfl
theorem bG_of {M most : Int} {xs : List Fd} {ls : List UInt8} {L : List Fd} (h : bE M most xs ls = 0) (hL : bAll M most xs ls = L) : bL M most xs ls = keep 2000 L ∧ bG M most xs ls = decide (2000 < full L) := by
  unfold bL bG
  rw [if_pos h, hL, decide_eq_true h, Bool.true_and]
  exact ⟨rfl, rfl⟩
theorem bL_full {M most : Int} {xs : List Fd} {ls : List UInt8} : full (bL M most xs ls) ≤ 2000 := by
  unfold bL
  split
  · have := keep_full (M := 2000) (bAll M most xs ls) (by omega); omega
  · simp [full]
/-- The table behind a block may be. -/
theorem b_right {M most : Int} {xs : List Fd} {ls : List UInt8} (h : bE M most xs ls = 0) : rightB (bM M most xs ls) (bX M most xs ls) = true := by
  have ho : okA M most xs = true := by
    cases hh : okA M most xs with
    | true => rfl
    | false => unfold bE at h; rw [if_pos hh] at h; omega
  obtain ⟨z0, n0⟩ := (bE_parts ho).1 h
  have ho2 := ho
  unfold okA at ho2
  rw [Bool.and_eq_true] at ho2
  have hm : most ≤ 4096 := by have := ho2.2; unfold okB at this; rw [Bool.and_eq_true] at this; exact of_decide_eq_true this.2
  have r0 : rt (bZ most ⟨M, xs, ls⟩).2 := zs_rt hm _ _ ho2.1
  have : ∀ (f : Nat) (s : Sta), rt s → (rn f s).1 = 0 → rt (rn f s).2.2 := by
    intro f
    induction f with
    | zero => intro s hs _; exact hs
    | succ f ih =>
      intro s hs h0
      unfold rn at h0 ⊢
      by_cases hl : s.ls = []
      · rw [if_pos hl]; exact hs
      · rw [if_neg hl] at h0 ⊢
        by_cases hq : qE s ≠ 0
        · rw [if_pos hq] at h0; exact absurd h0 hq
        · rw [if_neg hq] at h0 ⊢
          exact ih _ (qS_rt hs) h0
  have r1 := this ls.length _ r0 n0
  unfold bM bX
  rw [if_pos h, if_pos h]
  exact r1
/-- The errors of a block that may be asked. -/
theorem q_code {s : Sta} (h : rt s) : qE s = 0 ∨ qE s = 10 ∨ qE s = 60 ∨ qE s = 70 ∨ qE s = 90 ∨ qE s = 100 := by
  have hc := n_code s.ls (kb (hd s.ls))
  unfold qE
  by_cases h0 : qC s ≠ 0
  · rw [if_pos h0]
    have : qC s = nC s.ls (kb (hd s.ls)) := rfl
    omega
  rw [if_neg h0]
  split
  · rcases atE_or s.xs (qV s) with g | g <;> omega
  · split
    · omega
    · split
      · rw [(rt_add h fd0).2.1]; omega
      · unfold owE
        have t1 := t_code (qR s)
        have t2 := t_code (tRs (qR s))
        have t3 := atE_or s.xs (qV s)
        split
        · split <;> omega
        · split <;> omega
theorem b_code {M most : Int} {xs : List Fd} {ls : List UInt8} (hr : rightB M xs = true) (h0 : 0 ≤ most) (h1 : most ≤ 4096) : bE M most xs ls ≠ 2 := by
  have ho := okA_of (xs := xs) hr h0 h1
  have hq : ∀ (f : Nat) (s : Sta), rt s → (rn f s).1 ≠ 2 := by
    intro f
    induction f with
    | zero => intro s hs h; exact absurd h (by show (0 : Int) ≠ 2; omega)
    | succ f ih =>
      intro s hs
      unfold rn
      split
      · show (0 : Int) ≠ 2; omega
      · split
        · have := q_code hs; show qE s ≠ 2; omega
        · exact ih _ (qS_rt hs)
  have hz : ∀ (f : Nat) (s : Sta), rt s → (zs most f s).1 ≠ 2 := by
    intro f
    induction f with
    | zero => intro s hs h; exact absurd h (by show (0 : Int) ≠ 2; omega)
    | succ f ih =>
      intro s hs
      unfold zs
      split
      · show (0 : Int) ≠ 2; omega
      · split
        · show zE most s ≠ 2
          have hc := n_code s.ls (kb (hd s.ls))
          unfold zE
          split
          · have : qC s = nC s.ls (kb (hd s.ls)) := rfl
            omega
          · split
            · omega
            · obtain ⟨g, _⟩ := res_ok (m := (qV s : Int)) hs (by omega) (by omega)
              omega
        · exact ih _ (zS_rt h1 hs)
  unfold bE
  rw [if_neg (by rw [ho]; exact Bool.noConfusion)]
  split
  · exact hz _ _ hr
  · exact hq _ _ (zs_rt h1 _ _ hr)
/-- What a mark of a size is. -/
theorem kk_3 (x : UInt8) : kk x = 3 ↔ 32 ≤ x.toNat ∧ x.toNat < 64 := by
  unfold kk
  split
  · omega
  · split
    · omega
    · split <;> omega
end Go.Proofs.YtfejohfplnbdkaaDoor.Up
