/- The document's payload of a frame, whole. -/
import Derived.Test.YtbflhphjnmhjhaaGreatFrP
namespace Go.Proofs.YtbflhphjnmhjhaaGreat
open Go.RowKit Oct Fi Fm
set_option linter.unusedVariables false
set_option linter.unusedSimpArgs false
namespace Fm
/-- What a frame's payload is before its padding. -/
def payB (f : Fr) : List UInt8 :=
  if f.kd.toNat = 2 then prV f.al f.dp f.wt else if f.kd.toNat = 4 then ppV f.ps else if f.kd.toNat = 3 ∨ f.kd.toNat = 8 then putV (fourN f) 4
  else if f.kd.toNat = 7 then putV f.la 4 ++ putV (fourN f) 4 ++ f.da else if f.kd.toNat = 16 then putV (fourN f) 4 ++ f.da
  else if f.kd.toNat = 1 ∧ f.rk = true then prV f.al f.dp f.wt ++ f.da else f.da
def payV (f : Fr) : List UInt8 := if (f.kd.toNat = 0 ∨ f.kd.toNat = 1) ∧ hasB (f.fl.toNat : Int) 8 = true then padV (payB f) (wrap64 (f.pd - 1)) else payB f
end Fm
theorem m_payload (f : Fr) (A D : Option Addr) (n c m e : Nat) (w : World) (hA : Bs w w.heap.size A n f.da) (hN : A = none → c = 0) (hn : n ≤ 9000) (hD : Ps w w.heap.size D m f.ps) (hm : m ≤ 10000) :
    Calls Tryz.prog 30 #[frv f (.slice A n c) (.slice D m e)] w fun e' w' => ∃ v, e' = .returned v ∧ OwnB w' w.heap.size 5 v (payV f) ∧ Below w.heap.size w w' := by
  have go : ∀ L : List UInt8, payV f = L → (Calls Tryz.prog 30 #[frv f (.slice A n c) (.slice D m e)] w fun e' w' => ∃ v, e' = .returned v ∧ OwnB w' w.heap.size 5 v L ∧ Below w.heap.size w w') → (Calls Tryz.prog 30 #[frv f (.slice A n c) (.slice D m e)] w fun e' w' => ∃ v, e' = .returned v ∧ OwnB w' w.heap.size 5 v (payV f) ∧ Below w.heap.size w w') := fun L hL h => by
    rw [hL]
    exact h
  unfold frv at go ⊢
  by_cases h0 : f.kd.toNat = 0
  · rcases Bool.eq_false_or_eq_true (hasB (f.fl.toNat : Int) 8) with hp | hp
    rotate_left
    · exact go f.da (by simp [payV, payB, h0, hp]) (m_pay_data_N f A D n c m e w hA hN hn hD hm h0 hp)
    · exact go (padV f.da (wrap64 (f.pd - 1))) (by simp [payV, payB, h0, hp]) (m_pay_data_P f A D n c m e w hA hN hn hD hm h0 hp)
  by_cases h1 : f.kd.toNat = 1
  · rcases Bool.eq_false_or_eq_true (hasB (f.fl.toNat : Int) 8) with hp | hp <;> rcases Bool.eq_false_or_eq_true f.rk with hr | hr
    · exact go (padV (prV f.al f.dp f.wt ++ f.da) (wrap64 (f.pd - 1))) (by simp [payV, payB, h1, hp, hr]) (m_pay_headers_RP f A D n c m e w hA hN hn hD hm h1 hp hr)
    · exact go (padV f.da (wrap64 (f.pd - 1))) (by simp [payV, payB, h1, hp, hr]) (m_pay_headers_NP f A D n c m e w hA hN hn hD hm h1 hp hr)
    · exact go (prV f.al f.dp f.wt ++ f.da) (by simp [payV, payB, h1, hp, hr]) (m_pay_headers_RN f A D n c m e w hA hN hn hD hm h1 hp hr)
    · exact go f.da (by simp [payV, payB, h1, hp, hr]) (m_pay_headers_NN f A D n c m e w hA hN hn hD hm h1 hp hr)
  have h01 : ¬ ((f.kd.toNat = 0 ∨ f.kd.toNat = 1) ∧ hasB (f.fl.toNat : Int) 8 = true) := fun h => by omega
  have hv : payV f = payB f := if_neg h01
  by_cases h2 : f.kd.toNat = 2
  · exact go _ (by rw [hv]; simp [payB, h2]) (m_pay_rank f A D n c m e w hA hN hn hD hm h2)
  by_cases h3 : f.kd.toNat = 3
  · exact go _ (by rw [hv]; simp [payB, h3]) (m_pay_reset f A D n c m e w hA hN hn hD hm h3)
  by_cases h4 : f.kd.toNat = 4
  · exact go _ (by rw [hv]; simp [payB, h4]) (m_pay_settings f A D n c m e w hA hN hn hD hm h4)
  by_cases h7 : f.kd.toNat = 7
  · exact go _ (by rw [hv]; simp [payB, h7]) (m_pay_goaway f A D n c m e w hA hN hn hD hm h7)
  by_cases h8 : f.kd.toNat = 8
  · exact go _ (by rw [hv]; simp [payB, h8]) (m_pay_window f A D n c m e w hA hN hn hD hm h8)
  by_cases h16 : f.kd.toNat = 16
  · exact go _ (by rw [hv]; simp [payB, h16]) (m_pay_urgency f A D n c m e w hA hN hn hD hm h16)
  exact go _ (by rw [hv]; simp [payB, h1, h2, h3, h4, h7, h8, h16]) (m_pay_other f A D n c m e w hA hN hn hD hm ⟨h0, h1, h2, h3, h4, h7, h8, h16⟩)
end Go.Proofs.YtbflhphjnmhjhaaGreat
