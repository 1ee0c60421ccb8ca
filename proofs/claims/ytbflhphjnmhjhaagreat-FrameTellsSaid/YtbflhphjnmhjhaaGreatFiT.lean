/- Plain: what is padded, put, is taken. Nothing of the program. -/
import Derived.Test.YtbflhphjnmhjhaaGreatMfi
namespace Go.Proofs.YtbflhphjnmhjhaaGreat
open Go.RowKit Oct Fi

theorem padV_len (xs : List UInt8) {K : Int} (h : PadIn K) : ((padV xs K).length : Int) = xs.length + (K + 1) := by
  unfold padV
  rw [if_pos h]
  obtain ⟨h1, h2⟩ := h
  simp
  omega
theorem pm_pad (xs : List UInt8) {K : Int} (h : PadIn K) : pm (padV xs K) = K.toNat := by
  unfold padV
  rw [if_pos h]
  obtain ⟨h1, h2⟩ := h
  simp [pm]
  omega
theorem un_pad (xs : List UInt8) {K : Int} (h : PadIn K) {n : Nat} (hn : (padV xs K).length = n) : unE (padV xs K) n = 0 ∧ unN (padV xs K) n = K + 1 ∧ unV (padV xs K) n = xs := by
  have hl := padV_len xs h
  have hp := pm_pad xs h
  obtain ⟨h1, h2⟩ := id h
  have hin : UnIn (padV xs K) n := ⟨by omega, by omega⟩
  unfold unE unN unV
  rw [if_pos hin, if_pos hin, if_pos hin, hp]
  refine ⟨rfl, by omega, ?_⟩
  unfold padV
  rw [if_pos h, List.append_assoc, List.singleton_append, List.drop_succ_cons, List.drop_zero]
  rw [show n - K.toNat - 1 = xs.length from by omega]
  exact List.take_left
theorem prV_len (a : Bool) {D : Int} (W : UInt8) (h : RankIn D) : (prV a D W).length = 5 := by
  unfold prV
  rw [if_pos h]
  simp [putB_length]
theorem tr4_put (a : Bool) {D : Int} (W : UInt8) (xs : List UInt8) (h : RankIn D) : tr4 (prV a D W ++ xs) = rkN a D.toNat := by
  unfold tr4 prV
  rw [if_pos h, List.append_assoc]
  have h4 : (putB (rkN a D.toNat) 4).length = 4 := putB_length _ _
  have e : (putB (rkN a D.toNat) 4 ++ ([W] ++ xs)).take 4 = putB (rkN a D.toNat) 4 := by
    have := List.take_left (l₁ := putB (rkN a D.toNat) 4) (l₂ := [W] ++ xs)
    rwa [h4] at this
  rw [e, takeB_putB]
  obtain ⟨h1, h2⟩ := h
  unfold rkN
  split <;> omega
theorem tr_put (a : Bool) {D : Int} (W : UInt8) (xs : List UInt8) (h : RankIn D) {n : Nat} (hn : n = xs.length + 5) :
    trE n = 0 ∧ trA (prV a D W ++ xs) n = a ∧ trD (prV a D W ++ xs) n = D ∧ trW (prV a D W ++ xs) n = (W.toNat : Int) ∧ trR (prV a D W ++ xs) n = xs := by
  have h4 := tr4_put a W xs h
  have hl := prV_len a W h
  have h5 : 5 ≤ n := by omega
  unfold trE trA trD trW trR
  rw [if_pos h5, if_pos h5, if_pos h5, if_pos h5, if_pos h5, h4]
  obtain ⟨h1, h2⟩ := id h
  refine ⟨rfl, ?_, ?_, ?_, ?_⟩
  · unfold rkN
    cases a <;> simp <;> omega
  · unfold rkN
    cases a <;> simp <;> omega
  · have e : (prV a D W ++ xs)[4]? = some W := by
      rw [List.getElem?_append_left (by omega)]
      unfold prV
      rw [if_pos h, List.getElem?_append_right (by rw [putB_length]; omega), putB_length]
      rfl
    rw [e]
    rfl
  · have := List.drop_left (l₁ := prV a D W) (l₂ := xs)
    rwa [hl] at this
theorem pairB_len (x : Pr) : (pairB x).length = 6 := by simp [pairB, putB_length]
theorem pairAt_zero (x : Pr) (r : List UInt8) : pairAt (pairB x ++ r) 0 = x := by
  have hx1 := x.1.toNat_lt
  have hx2 := x.2.toNat_lt
  have l2 : (putB x.1.toNat 2).length = 2 := putB_length _ _
  have l4 : (putB x.2.toNat 4).length = 4 := putB_length _ _
  unfold pairAt pairB
  have e1 : ((putB x.1.toNat 2 ++ putB x.2.toNat 4 ++ r).drop (0 * 6)).take 2 = putB x.1.toNat 2 := by
    rw [List.append_assoc]
    have := List.take_left (l₁ := putB x.1.toNat 2) (l₂ := putB x.2.toNat 4 ++ r)
    rw [l2] at this
    exact this
  have e2 : ((putB x.1.toNat 2 ++ putB x.2.toNat 4 ++ r).drop (0 * 6 + 2)).take 4 = putB x.2.toNat 4 := by
    rw [List.append_assoc]
    have h := List.drop_left (l₁ := putB x.1.toNat 2) (l₂ := putB x.2.toNat 4 ++ r)
    rw [l2] at h
    rw [show 0 * 6 + 2 = 2 from rfl, h]
    have := List.take_left (l₁ := putB x.2.toNat 4) (l₂ := r)
    rw [l4] at this
    exact this
  rw [e1, e2, takeB_putB, takeB_putB]
  refine Prod.ext ?_ ?_
  · apply UInt16.toNat_inj.1
    simp only [UInt16.toNat_ofNat']
    omega
  · apply UInt32.toNat_inj.1
    simp only [UInt32.toNat_ofNat']
    omega
theorem pairAt_succ (x : Pr) (r : List UInt8) (j : Nat) : pairAt (pairB x ++ r) (j + 1) = pairAt r j := by
  have h : ∀ k, (pairB x ++ r).drop (6 + k) = r.drop k := fun k => by
    have := List.drop_append (l₁ := pairB x) (l₂ := r) (i := 6 + k)
    rw [this, pairB_len, List.drop_eq_nil_of_le (by rw [pairB_len]; omega), List.nil_append, show 6 + k - 6 = k from by omega]
  unfold pairAt
  rw [show (j + 1) * 6 = 6 + j * 6 from by omega, show 6 + j * 6 + 2 = 6 + (j * 6 + 2) from by omega, h, h]
theorem upP_put : ∀ l : List Pr, upP (ppV l) l.length = l
  | [] => rfl
  | x :: l => by
    have ih := upP_put l
    unfold upP at ih ⊢
    rw [List.length_cons, List.range_succ_eq_map, List.map_cons, List.map_map]
    have e : ppV (x :: l) = pairB x ++ ppV l := by simp [ppV]
    rw [e, pairAt_zero]
    congr 1
    rw [← ih]
    simp only [ih]
    conv => rhs; rw [← ih]
    apply List.map_congr_left
    intro j _
    exact pairAt_succ x (ppV l) j
theorem tp_put (l : List Pr) {n : Nat} (hn : n = 6 * l.length) : tpE n = 0 ∧ tpV (ppV l) n = l := by
  have h := tpV_yes (ppV l) n l.length (by omega)
  rw [upP_put] at h
  exact ⟨h.2, h.1⟩
end Go.Proofs.YtbflhphjnmhjhaaGreat
