/- FrameTells: all ways. -/
import Derived.Test.YtbflhphjnmhjhaaGreatFtL
namespace Go.Proofs.YtbflhphjnmhjhaaGreat
open Go.RowKit Oct Fi Fm
set_option linter.unusedVariables false
theorem tells4_any (L S s cc : Int) (K F : UInt8) (P A D Ag Dg : Option Addr) (np cp n c m e ng cg mg eg : Nat) (xs : List UInt8) (f g : Fr) (w : World) (hP : Bs w w.heap.size P np xs) (hPN : P = none → cp = 0) (hPc : np ≤ cp) (hA : Bs w w.heap.size A n f.da) (hN : A = none → c = 0) (hnc : n ≤ c) (hD : Ps w w.heap.size D m f.ps) (hM : D = none → e = 0) (hAg : Bs w w.heap.size Ag ng g.da) (hDg : Ps w w.heap.size Dg mg g.ps) :
    Calls Tryz.prog 3 #[.agg #[.int .i64 L, .int .u8 K.toNat, .int .u8 F.toNat, .int .i64 S], .slice P np cp, .agg (fra f A n c D m e), .agg (fra g Ag ng cg Dg mg eg), .int .i64 s, .int .u32 cc] w fun e' w' => e' = .returned (.bool true) ∧ Below w.heap.size w w' := by
  by_cases h0 : 3000 < np
  · exact tells4_G1 L S s cc K F P A D Ag Dg np cp n c m e ng cg mg eg xs f g w hP hA hD hAg hDg (decide_eq_true (by omega))
  have d0 : decide (3000 < (np : Int)) = false := decide_eq_false (by omega)
  by_cases h1 : 3000 < n ∨ 300 < m
  · exact tells4_G2 L S s cc K F P A D Ag Dg np cp n c m e ng cg mg eg xs f g w hP hA hD hAg hDg d0 (Lib.hid fun w0 => by have h := m_great f A D n c m e w0; rw [decide_eq_true h1] at h; exact h)
  have HG1 := Lib.hid fun (w0 : World) => m_great f A D n c m e w0
  rw [decide_eq_false h1] at HG1
  have HG2 := Lib.hid fun (w0 : World) => m_great g Ag Dg ng cg mg eg w0
  by_cases h2 : 3000 < ng ∨ 300 < mg
  · rw [decide_eq_true h2] at HG2
    exact tells4_G3 L S s cc K F P A D Ag Dg np cp n c m e ng cg mg eg xs f g w hP hA hD hAg hDg d0 HG1 HG2
  rw [decide_eq_false h2] at HG2
  have hn : n ≤ 8900 := by omega
  have hm : m ≤ 10000 := by omega
  have hpl := parseR_ps K F S xs
  obtain ⟨⟨d, xb, xs', xc⟩, hq⟩ : ∃ r, parseR K F S xs = r := ⟨_, rfl⟩
  rw [hq] at hpl
  have hxl : xs.length = np := hP.1
  have HP1 : Hid (∀ w0, Bs w0 w0.heap.size P np xs → Calls Tryz.prog 6 #[.agg #[.int .i64 L, .int .u8 K.toNat, .int .u8 F.toNat, .int .i64 S], .slice P np cp] w0 fun e' w' => ∃ A7 n7 c7 A8 n8 c8, e' = .returned (.tuple #[.agg (fra d A7 n7 c7 A8 n8 c8), .agg #[.bool xb, .int .i64 xs', .int .u32 (xc : Int)]]) ∧ HandS w' w0.heap.size A7 n7 c7 d.da ∧ HandP w' w0.heap.size A8 n8 c8 d.ps ∧ Below w0.heap.size w0 w') := Lib.hid fun w0 h0 => by
    refine (p_parse L S K F P np cp xs w0 h0 hPN (by omega) hPc).mono ?_
    rintro e' w' ⟨A7, n7, c7, A8, n8, c8, rfl, h1, h2, hb⟩
    rw [hq] at h1 h2 ⊢
    exact ⟨A7, n7, c7, A8, n8, c8, rfl, h1, h2, hb⟩
  have HP2 : Hid (∀ w0, Bs w0 w0.heap.size P np xs → Calls Tryz.prog 7 #[.agg #[.int .i64 L, .int .u8 K.toNat, .int .u8 F.toNat, .int .i64 S], .slice P np cp] w0 fun e' w' => ∃ A7 n7 c7 A8 n8 c8, e' = .returned (.tuple #[.agg (fra d A7 n7 c7 A8 n8 c8), .agg #[.bool xb, .int .i64 xs', .int .u32 (xc : Int)]]) ∧ HandS w' w0.heap.size A7 n7 c7 d.da ∧ HandP w' w0.heap.size A8 n8 c8 d.ps ∧ Below w0.heap.size w0 w') := Lib.hid fun w0 h0 => by
    refine (m_parse L S K F P np cp xs w0 h0 hPN (by omega) hPc).mono ?_
    rintro e' w' ⟨A7, n7, c7, A8, n8, c8, rfl, h1, h2, hb⟩
    rw [hq] at h1 h2 ⊢
    exact ⟨A7, n7, c7, A8, n8, c8, rfl, h1, h2, hb⟩
  exact tells4_Y L S s cc K F P A D Ag Dg np cp n c m e ng cg mg eg xs f g w hP hA hD hAg hDg d0 HG1 HG2 d xb xs' xc (putRE f) (standB f) (putR f) _ (Lib.hid rfl) (Lib.hid (show d.ps.length ≤ 100000 from Nat.le_trans hpl (by omega))) hn hm hnc hN hM HP1 HP2
    (Lib.hid fun w0 a b => p_put f A D n c m e w0 a hN hnc hn b hm)
    (Lib.hid fun w0 a b => m_put f A D n c m e w0 a hN hn b hm)
    (Lib.hid fun w0 a b => p_right f A D n c m e w0 a hN hnc hn b hm)
    (Lib.hid fun w0 a b => by have h := m_right f A D n c m e w0 a hN hn b hm; rw [right_stand] at h; exact h)
end Go.Proofs.YtbflhphjnmhjhaaGreat
