/- FrL, PrT, PrQ. -/
import Derived.Test.YtbflhphjnmhjhaaGreatFrK
import Derived.Test.YtbflhphjnmhjhaaGreatPrS
import Derived.Test.YtbflhphjnmhjhaaGreatMe
/- The document's Same of frames, whole. -/
namespace Go.Proofs.YtbflhphjnmhjhaaGreat
open Go.RowKit Oct Fi Fm
set_option linter.unusedVariables false
set_option linter.unusedSimpArgs false
deriving instance DecidableEq for Fr
theorem ne_u8 {a b : UInt8} (h : ¬ a = b) : ¬ ((a.toNat : Int) = (b.toNat : Int)) := fun e => h (UInt8.toNat_inj.mp (by omega))
theorem ne_u32 {a b : UInt32} (h : ¬ a = b) : ¬ ((a.toNat : Int) = (b.toNat : Int)) := fun e => h (UInt32.toNat_inj.mp (by omega))
theorem ne_beq {α : Type} [BEq α] [LawfulBEq α] {a b : α} (h : ¬ a = b) : (a == b) = false := by
  rw [beq_eq_false_iff_ne]
  exact h
theorem m_same (f g : Fr) (A1 A2 D1 D2 : Option Addr) (n1 c1 n2 c2 m1 e1 m2 e2 : Nat) (w : World) (hA1 : Bs w w.heap.size A1 n1 f.da) (hA2 : Bs w w.heap.size A2 n2 g.da) (hD1 : Ps w w.heap.size D1 m1 f.ps) (hD2 : Ps w w.heap.size D2 m2 g.ps) (hm : m1 ≤ 100000) :
    Calls Tryz.prog 10 #[frv f (.slice A1 n1 c1) (.slice D1 m1 e1), frv g (.slice A2 n2 c2) (.slice D2 m2 e2)] w fun e w' => e = .returned (.bool (decide (f = g))) ∧ Below w.heap.size w w' := by
  obtain ⟨kd1, fl1, st1, da1, pd1, la1, ic1, co1, ps1, rk1, al1, dp1, wt1⟩ := f
  obtain ⟨kd2, fl2, st2, da2, pd2, la2, ic2, co2, ps2, rk2, al2, dp2, wt2⟩ := g
  unfold frv
  dsimp only at hA1 hA2 hD1 hD2 ⊢
  by_cases h0 : kd1 = kd2
  case neg =>
    refine (m_same_0 A1 A2 D1 D2 n1 c1 n2 c2 m1 e1 m2 e2 ((kd1.toNat : Int)) ((kd2.toNat : Int)) ((fl1.toNat : Int)) ((fl2.toNat : Int)) st1 st2 da1 da2 pd1 pd2 la1 la2 ic1 ic2 ((co1.toNat : Int)) ((co2.toNat : Int)) ps1 ps2 rk1 rk2 al1 al2 dp1 dp2 ((wt1.toNat : Int)) ((wt2.toNat : Int)) w hA1 hA2 hD1 hD2 hm (ne_u8 h0)).mono ?_
    rintro e w' ⟨he, hb⟩
    exact ⟨by rw [he, decide_eq_false (fun h => h0 (by injection h))], hb⟩
  subst h0
  by_cases h1 : fl1 = fl2
  case neg =>
    refine (m_same_1 A1 A2 D1 D2 n1 c1 n2 c2 m1 e1 m2 e2 ((kd1.toNat : Int)) ((fl1.toNat : Int)) ((fl2.toNat : Int)) st1 st2 da1 da2 pd1 pd2 la1 la2 ic1 ic2 ((co1.toNat : Int)) ((co2.toNat : Int)) ps1 ps2 rk1 rk2 al1 al2 dp1 dp2 ((wt1.toNat : Int)) ((wt2.toNat : Int)) w hA1 hA2 hD1 hD2 hm (ne_u8 h1)).mono ?_
    rintro e w' ⟨he, hb⟩
    exact ⟨by rw [he, decide_eq_false (fun h => h1 (by injection h))], hb⟩
  subst h1
  by_cases h2 : st1 = st2
  case neg =>
    refine (m_same_2 A1 A2 D1 D2 n1 c1 n2 c2 m1 e1 m2 e2 ((kd1.toNat : Int)) ((fl1.toNat : Int)) st1 st2 da1 da2 pd1 pd2 la1 la2 ic1 ic2 ((co1.toNat : Int)) ((co2.toNat : Int)) ps1 ps2 rk1 rk2 al1 al2 dp1 dp2 ((wt1.toNat : Int)) ((wt2.toNat : Int)) w hA1 hA2 hD1 hD2 hm h2).mono ?_
    rintro e w' ⟨he, hb⟩
    exact ⟨by rw [he, decide_eq_false (fun h => h2 (by injection h))], hb⟩
  subst h2
  by_cases h3 : da1 = da2
  case neg =>
    refine (m_same_3 A1 A2 D1 D2 n1 c1 n2 c2 m1 e1 m2 e2 ((kd1.toNat : Int)) ((fl1.toNat : Int)) st1 da1 da2 pd1 pd2 la1 la2 ic1 ic2 ((co1.toNat : Int)) ((co2.toNat : Int)) ps1 ps2 rk1 rk2 al1 al2 dp1 dp2 ((wt1.toNat : Int)) ((wt2.toNat : Int)) w hA1 hA2 hD1 hD2 hm (ne_beq h3)).mono ?_
    rintro e w' ⟨he, hb⟩
    exact ⟨by rw [he, decide_eq_false (fun h => h3 (by injection h))], hb⟩
  subst h3
  by_cases h4 : pd1 = pd2
  case neg =>
    refine (m_same_4 A1 A2 D1 D2 n1 c1 n2 c2 m1 e1 m2 e2 ((kd1.toNat : Int)) ((fl1.toNat : Int)) st1 da1 pd1 pd2 la1 la2 ic1 ic2 ((co1.toNat : Int)) ((co2.toNat : Int)) ps1 ps2 rk1 rk2 al1 al2 dp1 dp2 ((wt1.toNat : Int)) ((wt2.toNat : Int)) w hA1 hA2 hD1 hD2 hm h4).mono ?_
    rintro e w' ⟨he, hb⟩
    exact ⟨by rw [he, decide_eq_false (fun h => h4 (by injection h))], hb⟩
  subst h4
  by_cases h5 : la1 = la2
  case neg =>
    refine (m_same_5 A1 A2 D1 D2 n1 c1 n2 c2 m1 e1 m2 e2 ((kd1.toNat : Int)) ((fl1.toNat : Int)) st1 da1 pd1 la1 la2 ic1 ic2 ((co1.toNat : Int)) ((co2.toNat : Int)) ps1 ps2 rk1 rk2 al1 al2 dp1 dp2 ((wt1.toNat : Int)) ((wt2.toNat : Int)) w hA1 hA2 hD1 hD2 hm h5).mono ?_
    rintro e w' ⟨he, hb⟩
    exact ⟨by rw [he, decide_eq_false (fun h => h5 (by injection h))], hb⟩
  subst h5
  by_cases h6 : ic1 = ic2
  case neg =>
    refine (m_same_6 A1 A2 D1 D2 n1 c1 n2 c2 m1 e1 m2 e2 ((kd1.toNat : Int)) ((fl1.toNat : Int)) st1 da1 pd1 la1 ic1 ic2 ((co1.toNat : Int)) ((co2.toNat : Int)) ps1 ps2 rk1 rk2 al1 al2 dp1 dp2 ((wt1.toNat : Int)) ((wt2.toNat : Int)) w hA1 hA2 hD1 hD2 hm h6).mono ?_
    rintro e w' ⟨he, hb⟩
    exact ⟨by rw [he, decide_eq_false (fun h => h6 (by injection h))], hb⟩
  subst h6
  by_cases h7 : co1 = co2
  case neg =>
    refine (m_same_7 A1 A2 D1 D2 n1 c1 n2 c2 m1 e1 m2 e2 ((kd1.toNat : Int)) ((fl1.toNat : Int)) st1 da1 pd1 la1 ic1 ((co1.toNat : Int)) ((co2.toNat : Int)) ps1 ps2 rk1 rk2 al1 al2 dp1 dp2 ((wt1.toNat : Int)) ((wt2.toNat : Int)) w hA1 hA2 hD1 hD2 hm (ne_u32 h7)).mono ?_
    rintro e w' ⟨he, hb⟩
    exact ⟨by rw [he, decide_eq_false (fun h => h7 (by injection h))], hb⟩
  subst h7
  by_cases h8 : ps1 = ps2
  case neg =>
    refine (m_same_8 A1 A2 D1 D2 n1 c1 n2 c2 m1 e1 m2 e2 ((kd1.toNat : Int)) ((fl1.toNat : Int)) st1 da1 pd1 la1 ic1 ((co1.toNat : Int)) ps1 ps2 rk1 rk2 al1 al2 dp1 dp2 ((wt1.toNat : Int)) ((wt2.toNat : Int)) w hA1 hA2 hD1 hD2 hm (ne_beq h8)).mono ?_
    rintro e w' ⟨he, hb⟩
    exact ⟨by rw [he, decide_eq_false (fun h => h8 (by injection h))], hb⟩
  subst h8
  by_cases h9 : rk1 = rk2
  case neg =>
    refine (m_same_9 A1 A2 D1 D2 n1 c1 n2 c2 m1 e1 m2 e2 ((kd1.toNat : Int)) ((fl1.toNat : Int)) st1 da1 pd1 la1 ic1 ((co1.toNat : Int)) ps1 rk1 rk2 al1 al2 dp1 dp2 ((wt1.toNat : Int)) ((wt2.toNat : Int)) w hA1 hA2 hD1 hD2 hm h9).mono ?_
    rintro e w' ⟨he, hb⟩
    exact ⟨by rw [he, decide_eq_false (fun h => h9 (by injection h))], hb⟩
  subst h9
  by_cases h10 : al1 = al2
  case neg =>
    refine (m_same_10 A1 A2 D1 D2 n1 c1 n2 c2 m1 e1 m2 e2 ((kd1.toNat : Int)) ((fl1.toNat : Int)) st1 da1 pd1 la1 ic1 ((co1.toNat : Int)) ps1 rk1 al1 al2 dp1 dp2 ((wt1.toNat : Int)) ((wt2.toNat : Int)) w hA1 hA2 hD1 hD2 hm h10).mono ?_
    rintro e w' ⟨he, hb⟩
    exact ⟨by rw [he, decide_eq_false (fun h => h10 (by injection h))], hb⟩
  subst h10
  by_cases h11 : dp1 = dp2
  case neg =>
    refine (m_same_11 A1 A2 D1 D2 n1 c1 n2 c2 m1 e1 m2 e2 ((kd1.toNat : Int)) ((fl1.toNat : Int)) st1 da1 pd1 la1 ic1 ((co1.toNat : Int)) ps1 rk1 al1 dp1 dp2 ((wt1.toNat : Int)) ((wt2.toNat : Int)) w hA1 hA2 hD1 hD2 hm h11).mono ?_
    rintro e w' ⟨he, hb⟩
    exact ⟨by rw [he, decide_eq_false (fun h => h11 (by injection h))], hb⟩
  subst h11
  by_cases h12 : wt1 = wt2
  case neg =>
    refine (m_same_12 A1 A2 D1 D2 n1 c1 n2 c2 m1 e1 m2 e2 ((kd1.toNat : Int)) ((fl1.toNat : Int)) st1 da1 pd1 la1 ic1 ((co1.toNat : Int)) ps1 rk1 al1 dp1 ((wt1.toNat : Int)) ((wt2.toNat : Int)) w hA1 hA2 hD1 hD2 hm (ne_u8 h12)).mono ?_
    rintro e w' ⟨he, hb⟩
    exact ⟨by rw [he, decide_eq_false (fun h => h12 (by injection h))], hb⟩
  subst h12
  refine (m_same_13 A1 A2 D1 D2 n1 c1 n2 c2 m1 e1 m2 e2 ((kd1.toNat : Int)) ((fl1.toNat : Int)) st1 da1 pd1 la1 ic1 ((co1.toNat : Int)) ps1 rk1 al1 dp1 ((wt1.toNat : Int)) w hA1 hA2 hD1 hD2 hm).mono ?_
  rintro e w' ⟨he, hb⟩
  exact ⟨by rw [he, decide_eq_true rfl], hb⟩
end Go.Proofs.YtbflhphjnmhjhaaGreat
/- The program's Same of frames, whole. -/
namespace Go.Proofs.YtbflhphjnmhjhaaGreat
open Go.RowKit Oct Fi Fm
set_option linter.unusedVariables false
set_option linter.unusedSimpArgs false
theorem p_same (f g : Fr) (A1 A2 D1 D2 : Option Addr) (n1 c1 n2 c2 m1 e1 m2 e2 : Nat) (w : World) (hA1 : Bs w w.heap.size A1 n1 f.da) (hA2 : Bs w w.heap.size A2 n2 g.da) (hD1 : Ps w w.heap.size D1 m1 f.ps) (hD2 : Ps w w.heap.size D2 m2 g.ps) (hm : m1 ≤ 100000) :
    Calls Tryz.prog 14 #[frv f (.slice A1 n1 c1) (.slice D1 m1 e1), frv g (.slice A2 n2 c2) (.slice D2 m2 e2)] w fun e w' => e = .returned (.bool (decide (f = g))) ∧ Below w.heap.size w w' := by
  obtain ⟨kd1, fl1, st1, da1, pd1, la1, ic1, co1, ps1, rk1, al1, dp1, wt1⟩ := f
  obtain ⟨kd2, fl2, st2, da2, pd2, la2, ic2, co2, ps2, rk2, al2, dp2, wt2⟩ := g
  unfold frv
  dsimp only at hA1 hA2 hD1 hD2 ⊢
  by_cases h0 : kd1 = kd2
  case neg =>
    refine (p_same_0 A1 A2 D1 D2 n1 c1 n2 c2 m1 e1 m2 e2 ((kd1.toNat : Int)) ((kd2.toNat : Int)) ((fl1.toNat : Int)) ((fl2.toNat : Int)) st1 st2 da1 da2 pd1 pd2 la1 la2 ic1 ic2 ((co1.toNat : Int)) ((co2.toNat : Int)) ps1 ps2 rk1 rk2 al1 al2 dp1 dp2 ((wt1.toNat : Int)) ((wt2.toNat : Int)) w hA1 hA2 hD1 hD2 hm (ne_u8 h0)).mono ?_
    rintro e w' ⟨he, hb⟩
    exact ⟨by rw [he, decide_eq_false (fun h => h0 (by injection h))], hb⟩
  subst h0
  by_cases h1 : fl1 = fl2
  case neg =>
    refine (p_same_1 A1 A2 D1 D2 n1 c1 n2 c2 m1 e1 m2 e2 ((kd1.toNat : Int)) ((fl1.toNat : Int)) ((fl2.toNat : Int)) st1 st2 da1 da2 pd1 pd2 la1 la2 ic1 ic2 ((co1.toNat : Int)) ((co2.toNat : Int)) ps1 ps2 rk1 rk2 al1 al2 dp1 dp2 ((wt1.toNat : Int)) ((wt2.toNat : Int)) w hA1 hA2 hD1 hD2 hm (ne_u8 h1)).mono ?_
    rintro e w' ⟨he, hb⟩
    exact ⟨by rw [he, decide_eq_false (fun h => h1 (by injection h))], hb⟩
  subst h1
  by_cases h2 : st1 = st2
  case neg =>
    refine (p_same_2 A1 A2 D1 D2 n1 c1 n2 c2 m1 e1 m2 e2 ((kd1.toNat : Int)) ((fl1.toNat : Int)) st1 st2 da1 da2 pd1 pd2 la1 la2 ic1 ic2 ((co1.toNat : Int)) ((co2.toNat : Int)) ps1 ps2 rk1 rk2 al1 al2 dp1 dp2 ((wt1.toNat : Int)) ((wt2.toNat : Int)) w hA1 hA2 hD1 hD2 hm h2).mono ?_
    rintro e w' ⟨he, hb⟩
    exact ⟨by rw [he, decide_eq_false (fun h => h2 (by injection h))], hb⟩
  subst h2
  by_cases h3 : da1 = da2
  case neg =>
    refine (p_same_3 A1 A2 D1 D2 n1 c1 n2 c2 m1 e1 m2 e2 ((kd1.toNat : Int)) ((fl1.toNat : Int)) st1 da1 da2 pd1 pd2 la1 la2 ic1 ic2 ((co1.toNat : Int)) ((co2.toNat : Int)) ps1 ps2 rk1 rk2 al1 al2 dp1 dp2 ((wt1.toNat : Int)) ((wt2.toNat : Int)) w hA1 hA2 hD1 hD2 hm (ne_beq h3)).mono ?_
    rintro e w' ⟨he, hb⟩
    exact ⟨by rw [he, decide_eq_false (fun h => h3 (by injection h))], hb⟩
  subst h3
  by_cases h4 : pd1 = pd2
  case neg =>
    refine (p_same_4 A1 A2 D1 D2 n1 c1 n2 c2 m1 e1 m2 e2 ((kd1.toNat : Int)) ((fl1.toNat : Int)) st1 da1 pd1 pd2 la1 la2 ic1 ic2 ((co1.toNat : Int)) ((co2.toNat : Int)) ps1 ps2 rk1 rk2 al1 al2 dp1 dp2 ((wt1.toNat : Int)) ((wt2.toNat : Int)) w hA1 hA2 hD1 hD2 hm h4).mono ?_
    rintro e w' ⟨he, hb⟩
    exact ⟨by rw [he, decide_eq_false (fun h => h4 (by injection h))], hb⟩
  subst h4
  by_cases h5 : la1 = la2
  case neg =>
    refine (p_same_5 A1 A2 D1 D2 n1 c1 n2 c2 m1 e1 m2 e2 ((kd1.toNat : Int)) ((fl1.toNat : Int)) st1 da1 pd1 la1 la2 ic1 ic2 ((co1.toNat : Int)) ((co2.toNat : Int)) ps1 ps2 rk1 rk2 al1 al2 dp1 dp2 ((wt1.toNat : Int)) ((wt2.toNat : Int)) w hA1 hA2 hD1 hD2 hm h5).mono ?_
    rintro e w' ⟨he, hb⟩
    exact ⟨by rw [he, decide_eq_false (fun h => h5 (by injection h))], hb⟩
  subst h5
  by_cases h6 : ic1 = ic2
  case neg =>
    refine (p_same_6 A1 A2 D1 D2 n1 c1 n2 c2 m1 e1 m2 e2 ((kd1.toNat : Int)) ((fl1.toNat : Int)) st1 da1 pd1 la1 ic1 ic2 ((co1.toNat : Int)) ((co2.toNat : Int)) ps1 ps2 rk1 rk2 al1 al2 dp1 dp2 ((wt1.toNat : Int)) ((wt2.toNat : Int)) w hA1 hA2 hD1 hD2 hm h6).mono ?_
    rintro e w' ⟨he, hb⟩
    exact ⟨by rw [he, decide_eq_false (fun h => h6 (by injection h))], hb⟩
  subst h6
  by_cases h7 : co1 = co2
  case neg =>
    refine (p_same_7 A1 A2 D1 D2 n1 c1 n2 c2 m1 e1 m2 e2 ((kd1.toNat : Int)) ((fl1.toNat : Int)) st1 da1 pd1 la1 ic1 ((co1.toNat : Int)) ((co2.toNat : Int)) ps1 ps2 rk1 rk2 al1 al2 dp1 dp2 ((wt1.toNat : Int)) ((wt2.toNat : Int)) w hA1 hA2 hD1 hD2 hm (ne_u32 h7)).mono ?_
    rintro e w' ⟨he, hb⟩
    exact ⟨by rw [he, decide_eq_false (fun h => h7 (by injection h))], hb⟩
  subst h7
  by_cases h8 : ps1 = ps2
  case neg =>
    refine (p_same_8 A1 A2 D1 D2 n1 c1 n2 c2 m1 e1 m2 e2 ((kd1.toNat : Int)) ((fl1.toNat : Int)) st1 da1 pd1 la1 ic1 ((co1.toNat : Int)) ps1 ps2 rk1 rk2 al1 al2 dp1 dp2 ((wt1.toNat : Int)) ((wt2.toNat : Int)) w hA1 hA2 hD1 hD2 hm (ne_beq h8)).mono ?_
    rintro e w' ⟨he, hb⟩
    exact ⟨by rw [he, decide_eq_false (fun h => h8 (by injection h))], hb⟩
  subst h8
  by_cases h9 : rk1 = rk2
  case neg =>
    refine (p_same_9 A1 A2 D1 D2 n1 c1 n2 c2 m1 e1 m2 e2 ((kd1.toNat : Int)) ((fl1.toNat : Int)) st1 da1 pd1 la1 ic1 ((co1.toNat : Int)) ps1 rk1 rk2 al1 al2 dp1 dp2 ((wt1.toNat : Int)) ((wt2.toNat : Int)) w hA1 hA2 hD1 hD2 hm h9).mono ?_
    rintro e w' ⟨he, hb⟩
    exact ⟨by rw [he, decide_eq_false (fun h => h9 (by injection h))], hb⟩
  subst h9
  by_cases h10 : al1 = al2
  case neg =>
    refine (p_same_10 A1 A2 D1 D2 n1 c1 n2 c2 m1 e1 m2 e2 ((kd1.toNat : Int)) ((fl1.toNat : Int)) st1 da1 pd1 la1 ic1 ((co1.toNat : Int)) ps1 rk1 al1 al2 dp1 dp2 ((wt1.toNat : Int)) ((wt2.toNat : Int)) w hA1 hA2 hD1 hD2 hm h10).mono ?_
    rintro e w' ⟨he, hb⟩
    exact ⟨by rw [he, decide_eq_false (fun h => h10 (by injection h))], hb⟩
  subst h10
  by_cases h11 : dp1 = dp2
  case neg =>
    refine (p_same_11 A1 A2 D1 D2 n1 c1 n2 c2 m1 e1 m2 e2 ((kd1.toNat : Int)) ((fl1.toNat : Int)) st1 da1 pd1 la1 ic1 ((co1.toNat : Int)) ps1 rk1 al1 dp1 dp2 ((wt1.toNat : Int)) ((wt2.toNat : Int)) w hA1 hA2 hD1 hD2 hm h11).mono ?_
    rintro e w' ⟨he, hb⟩
    exact ⟨by rw [he, decide_eq_false (fun h => h11 (by injection h))], hb⟩
  subst h11
  by_cases h12 : wt1 = wt2
  case neg =>
    refine (p_same_12 A1 A2 D1 D2 n1 c1 n2 c2 m1 e1 m2 e2 ((kd1.toNat : Int)) ((fl1.toNat : Int)) st1 da1 pd1 la1 ic1 ((co1.toNat : Int)) ps1 rk1 al1 dp1 ((wt1.toNat : Int)) ((wt2.toNat : Int)) w hA1 hA2 hD1 hD2 hm (ne_u8 h12)).mono ?_
    rintro e w' ⟨he, hb⟩
    exact ⟨by rw [he, decide_eq_false (fun h => h12 (by injection h))], hb⟩
  subst h12
  refine (p_same_13 A1 A2 D1 D2 n1 c1 n2 c2 m1 e1 m2 e2 ((kd1.toNat : Int)) ((fl1.toNat : Int)) st1 da1 pd1 la1 ic1 ((co1.toNat : Int)) ps1 rk1 al1 dp1 ((wt1.toNat : Int)) w hA1 hA2 hD1 hD2 hm).mono ?_
  rintro e w' ⟨he, hb⟩
  exact ⟨by rw [he, decide_eq_true rfl], hb⟩
end Go.Proofs.YtbflhphjnmhjhaaGreat
/- The program's standing: the payload of a frame that may be. -/
namespace Go.Proofs.YtbflhphjnmhjhaaGreat
open Go.RowKit Oct Fi Fm
set_option linter.unusedVariables false
set_option linter.unusedSimpArgs false
theorem run_field2 (a b c : Value) (w : World) : (Instr.field 49 (.agg #[a, b, c]) 2).run Tryz.prog w = .ok c w := by
  simp [Instr.field, go_sem, Tryz.underlying49, asAgg]
def LayVal (A : Option Addr) (n c : Nat) (xs : List UInt8) (r : List UInt8 × Int) (w : World) (v : Value) (w' : World) : Prop :=
  ∃ A' n' c', v = .tuple #[.slice A' n' c', .int .i64 r.2] ∧ (HandS w' w.heap.size A' n' c' r.1 ∨ A' = A ∧ n' = n ∧ c' = c ∧ r.1 = xs) ∧ Below w.heap.size w w'
theorem layPost_ret {A : Option Addr} {n c : Nat} {xs : List UInt8} {r : List UInt8 × Int} {w w' : World} {e : Ending} (h : LayPost A n c xs r w e w') : ∃ v, e = .returned v ∧ LayVal A n c xs r w v w' := by
  obtain ⟨A', n', c', rfl, h⟩ := h
  exact ⟨_, rfl, A', n', c', rfl, h⟩
theorem EnvB.layS {w w' : World} {ss : List (Option Addr × Nat × List UInt8)} {ps : List (Option Addr × Nat × List Pr)} {gs : List Bx} (h : EnvB w ss ps gs) (hb : Below w.heap.size w w') {A A' : Option Addr} {n c n' c' : Nat} {xs ys : List UInt8} (hm : (A, n, xs) ∈ ss) (ho : HandS w' w.heap.size A' n' c' ys ∨ A' = A ∧ n' = n ∧ c' = c ∧ ys = xs) : EnvB w' ((A', n', ys) :: ss) ps gs := by
  rcases ho with ho | ⟨rfl, rfl, rfl, rfl⟩
  · exact h.handS hb ho
  · have h' := h.on hb
    exact ⟨fun x hx => by
      rcases List.mem_cons.1 hx with rfl | hx
      · exact h'.s _ hm
      · exact h'.s x hx, h'.p, h'.g, h'.d⟩
theorem map1_eval {a : Act} {x : Operand} {u : Value} (hx : a.eval x = u) : #[x].map a.eval ++ #[] = #[u] := by simp [hx]
theorem c13_drew {w : World} {g : Nat} {a0 a1 a2 a3 a4 a5 a6 a7 a8 a9 a10 a11 a12 : Value} (h : w.cell? ⟨g, 0, none⟩ = some a0 ∧ w.cell? ⟨g, 1, none⟩ = some a1 ∧ w.cell? ⟨g, 2, none⟩ = some a2 ∧ w.cell? ⟨g, 3, none⟩ = some a3 ∧ w.cell? ⟨g, 4, none⟩ = some a4 ∧ w.cell? ⟨g, 5, none⟩ = some a5 ∧ w.cell? ⟨g, 6, none⟩ = some a6 ∧ w.cell? ⟨g, 7, none⟩ = some a7 ∧ w.cell? ⟨g, 8, none⟩ = some a8 ∧ w.cell? ⟨g, 9, none⟩ = some a9 ∧ w.cell? ⟨g, 10, none⟩ = some a10 ∧ w.cell? ⟨g, 11, none⟩ = some a11 ∧ w.cell? ⟨g, 12, none⟩ = some a12) : w.drew.cell? ⟨g, 0, none⟩ = some a0 ∧ w.drew.cell? ⟨g, 1, none⟩ = some a1 ∧ w.drew.cell? ⟨g, 2, none⟩ = some a2 ∧ w.drew.cell? ⟨g, 3, none⟩ = some a3 ∧ w.drew.cell? ⟨g, 4, none⟩ = some a4 ∧ w.drew.cell? ⟨g, 5, none⟩ = some a5 ∧ w.drew.cell? ⟨g, 6, none⟩ = some a6 ∧ w.drew.cell? ⟨g, 7, none⟩ = some a7 ∧ w.drew.cell? ⟨g, 8, none⟩ = some a8 ∧ w.drew.cell? ⟨g, 9, none⟩ = some a9 ∧ w.drew.cell? ⟨g, 10, none⟩ = some a10 ∧ w.drew.cell? ⟨g, 11, none⟩ = some a11 ∧ w.drew.cell? ⟨g, 12, none⟩ = some a12 := h
set_option maxRecDepth 100000 in
set_option maxHeartbeats 8000000 in
theorem stand_E (f : Fr) (A D : Option Addr) (n c m e : Nat) (w : World) (hA : Bs w w.heap.size A n f.da) (hN : A = none → c = 0) (hnc : n ≤ c) (hn : n ≤ 8900) (hD : Ps w w.heap.size D m f.ps) (hm : m ≤ 10000) (he : ((layR f).2 != 0) = true) :
    Calls Tryz.prog 27 #[.agg (fra f A n c D m e)] w fun e' w' => e' = .returned (.tuple #[.slice none 0 0, .bool false]) ∧ Below w.heap.size w w' := by
  have hkd := f.kd.toNat_lt
  have HN := Lib.hid hN
  have HLA : Hid (∀ w0, Bs w0 w0.heap.size A n f.da → Ps w0 w0.heap.size D m f.ps → Calls Tryz.prog (layF f.kd.toNat) #[.agg (fra f A n c D m e)] w0 (LayPost A n c f.da (layR f) w0)) := Lib.hid (fun w0 h1 h2 => lay_any f A D n c m e w0 h1 hN hnc h2 hm hn)
  have K0 : Hid (EnvB (((w.alloc (.cells (fra f A n c D m e) 30)).alloc (.cells zF0 30)).alloc (.cells #[.bool false, .int .i64 0, .int .u32 0] 34)) [(A, n, f.da)] [(D, m, f.ps)] [(w.heap.size + 1 + 1, #[.bool false, .int .i64 0, .int .u32 0], 34), (w.heap.size + 1, zF0, 30), (w.heap.size, (fra f A n c D m e), 30)]) := Lib.hid ((((((EnvB.nil w).addS0 hA).addP0 hD).box 30 (fra f A n c D m e)).boxg 30 zF0 (w.heap.size + 1) (by simp)).boxg 34 #[.bool false, .int .i64 0, .int .u32 0] (w.heap.size + 1 + 1) (by simp))
  have B0 : Hid (Below w.heap.size w (((w.alloc (.cells (fra f A n c D m e) 30)).alloc (.cells zF0 30)).alloc (.cells #[.bool false, .int .i64 0, .int .u32 0] 34))) := Lib.hid ((((Below.refl _ w).alloc (Nat.le_refl _) _).alloc (by simp) _).alloc (by simp only [World.size_alloc]; omega) _)
  have S0 := Lib.hid (c13_row (K0.out.row 2 rfl))
  skip
  clear hA hN hD
  have hfd := run_field2
  go_enter Tryz.func27, Tryz.ntmps27
  go_wp2
  refine wp_scope_forward 0 rfl ?_
  go_wp2
  go_region_held3 (fun W' => W'.cell? ⟨w.heap.size, 0, none⟩ = some (.int .u8 f.kd.toNat) ∧ W'.cell? ⟨w.heap.size, 1, none⟩ = some (.int .u8 f.fl.toNat) ∧ W'.cell? ⟨w.heap.size, 2, none⟩ = some (.int .i64 f.st) ∧ W'.cell? ⟨w.heap.size, 3, none⟩ = some (.slice A n c) ∧ W'.cell? ⟨w.heap.size, 4, none⟩ = some (.int .i64 f.pd) ∧ W'.cell? ⟨w.heap.size, 5, none⟩ = some (.int .i64 f.la) ∧ W'.cell? ⟨w.heap.size, 6, none⟩ = some (.int .i64 f.ic) ∧ W'.cell? ⟨w.heap.size, 7, none⟩ = some (.int .u32 f.co.toNat) ∧ W'.cell? ⟨w.heap.size, 8, none⟩ = some (.slice D m e) ∧ W'.cell? ⟨w.heap.size, 9, none⟩ = some (.bool f.rk) ∧ W'.cell? ⟨w.heap.size, 10, none⟩ = some (.bool f.al) ∧ W'.cell? ⟨w.heap.size, 11, none⟩ = some (.int .i64 f.dp) ∧ W'.cell? ⟨w.heap.size, 12, none⟩ = some (.int .u8 f.wt.toNat))
    (first | with_reducible exact S0.out | with_reducible exact c13_drew S0.out | with_reducible exact S1.out | with_reducible exact S2.out)
    (first
      | (go_at_call 20; refine (shapeOf_any f.kd _).mono ?_; rintro e' w1 ⟨v, rfl, ⟨O, J, cap, cl, rfl, _, _, _, _⟩, hb⟩; have K1 := Lib.hid (K0.out.drew.on hb); have B1 := Lib.hid (below_step B0.out.drew hb); have S1 := Lib.hid (c13_row (K1.out.row 2 rfl)); clear hb)
      | (refine step_callv (by rfl) (.tmp 12) #[.tmp 13] _ (by rfl) (layF f.kd.toNat) #[] (by rfl) (lay_enters _) #[.agg (fra f A n c D m e)] (map1_eval (by rfl)) _ ((HLA.out _ (K1.out.s (A, n, f.da) (by simp)).1 (K1.out.p (D, m, f.ps) (by simp)).1).mono fun e' w' h => layPost_ret h) ?_; rintro v w2 ⟨A2, n2, c2, rfl, ho, hb⟩; have K2 : Hid (EnvB w2 [(A2, n2, (layR f).1), (A, n, f.da)] [(D, m, f.ps)] [(w.heap.size + 1 + 1, #[.bool false, .int .i64 0, .int .u32 0], 34), (w.heap.size + 1, zF0, 30), (w.heap.size, (fra f A n c D m e), 30)]) := Lib.hid (K1.out.layS hb (by simp) ho); have B2 := Lib.hid (below_step B1.out hb); have HO2 := Lib.hid ho; have HS2 := Lib.hid B1.out.size; have S2 := Lib.hid (c13_row (K2.out.row 2 rfl)); clear hb ho))
  all_goals
    go_wp2
    go_step3
    refine ⟨rfl, ?_⟩
    go_wp2
    rw [jump_ret]
    go_ret2
    exact ⟨rfl, B2.out⟩
set_option maxRecDepth 100000 in
set_option maxHeartbeats 8000000 in
theorem stand_W (f : Fr) (A D : Option Addr) (n c m e : Nat) (w : World) (hA : Bs w w.heap.size A n f.da) (hN : A = none → c = 0) (hnc : n ≤ c) (hn : n ≤ 8900) (hD : Ps w w.heap.size D m f.ps) (hm : m ≤ 10000) (he : ((layR f).2 != 0) = false) (hlen : (layR f).1.length ≤ 100000) (d : Fr) (x1 x2 : Int) (HPA : Hid (∀ A' n' c' w0, Bs w0 w0.heap.size A' n' (layR f).1 → (A' = none → c' = 0) → n' ≤ c' → Calls Tryz.prog 6 #[.agg #[.int .i64 (n' : Int), .int .u8 f.kd.toNat, .int .u8 f.fl.toNat, .int .i64 f.st], .slice A' n' c'] w0 fun e w' => ∃ A7 n7 c7 A8 n8 c8, e = .returned (.tuple #[.agg (fra d A7 n7 c7 A8 n8 c8), .agg #[.bool true, .int .i64 x1, .int .u32 x2]]) ∧ HandS w' w0.heap.size A7 n7 c7 d.da ∧ HandP w' w0.heap.size A8 n8 c8 d.ps ∧ Below w0.heap.size w0 w')) :
    Calls Tryz.prog 27 #[.agg (fra f A n c D m e)] w fun e' w' => e' = .returned (.tuple #[.slice none 0 0, .bool false]) ∧ Below w.heap.size w w' := by
  have hkd := f.kd.toNat_lt
  have HN := Lib.hid hN
  have HLA : Hid (∀ w0, Bs w0 w0.heap.size A n f.da → Ps w0 w0.heap.size D m f.ps → Calls Tryz.prog (layF f.kd.toNat) #[.agg (fra f A n c D m e)] w0 (LayPost A n c f.da (layR f) w0)) := Lib.hid (fun w0 h1 h2 => lay_any f A D n c m e w0 h1 hN hnc h2 hm hn)
  have K0 : Hid (EnvB (((w.alloc (.cells (fra f A n c D m e) 30)).alloc (.cells zF0 30)).alloc (.cells #[.bool false, .int .i64 0, .int .u32 0] 34)) [(A, n, f.da)] [(D, m, f.ps)] [(w.heap.size + 1 + 1, #[.bool false, .int .i64 0, .int .u32 0], 34), (w.heap.size + 1, zF0, 30), (w.heap.size, (fra f A n c D m e), 30)]) := Lib.hid ((((((EnvB.nil w).addS0 hA).addP0 hD).box 30 (fra f A n c D m e)).boxg 30 zF0 (w.heap.size + 1) (by simp)).boxg 34 #[.bool false, .int .i64 0, .int .u32 0] (w.heap.size + 1 + 1) (by simp))
  have B0 : Hid (Below w.heap.size w (((w.alloc (.cells (fra f A n c D m e) 30)).alloc (.cells zF0 30)).alloc (.cells #[.bool false, .int .i64 0, .int .u32 0] 34))) := Lib.hid ((((Below.refl _ w).alloc (Nat.le_refl _) _).alloc (by simp) _).alloc (by simp only [World.size_alloc]; omega) _)
  have S0 := Lib.hid (c13_row (K0.out.row 2 rfl))
  skip
  clear hA hN hD
  have hfd := run_field2
  go_enter Tryz.func27, Tryz.ntmps27
  go_wp2
  refine wp_scope_forward 0 rfl ?_
  go_wp2
  go_region_held3 (fun W' => W'.cell? ⟨w.heap.size, 0, none⟩ = some (.int .u8 f.kd.toNat) ∧ W'.cell? ⟨w.heap.size, 1, none⟩ = some (.int .u8 f.fl.toNat) ∧ W'.cell? ⟨w.heap.size, 2, none⟩ = some (.int .i64 f.st) ∧ W'.cell? ⟨w.heap.size, 3, none⟩ = some (.slice A n c) ∧ W'.cell? ⟨w.heap.size, 4, none⟩ = some (.int .i64 f.pd) ∧ W'.cell? ⟨w.heap.size, 5, none⟩ = some (.int .i64 f.la) ∧ W'.cell? ⟨w.heap.size, 6, none⟩ = some (.int .i64 f.ic) ∧ W'.cell? ⟨w.heap.size, 7, none⟩ = some (.int .u32 f.co.toNat) ∧ W'.cell? ⟨w.heap.size, 8, none⟩ = some (.slice D m e) ∧ W'.cell? ⟨w.heap.size, 9, none⟩ = some (.bool f.rk) ∧ W'.cell? ⟨w.heap.size, 10, none⟩ = some (.bool f.al) ∧ W'.cell? ⟨w.heap.size, 11, none⟩ = some (.int .i64 f.dp) ∧ W'.cell? ⟨w.heap.size, 12, none⟩ = some (.int .u8 f.wt.toNat))
    (first | with_reducible exact S0.out | with_reducible exact c13_drew S0.out | with_reducible exact S1.out | with_reducible exact S2.out)
    (first
      | (go_at_call 20; refine (shapeOf_any f.kd _).mono ?_; rintro e' w1 ⟨v, rfl, ⟨O, J, cap, cl, rfl, _, _, _, _⟩, hb⟩; have K1 := Lib.hid (K0.out.drew.on hb); have B1 := Lib.hid (below_step B0.out.drew hb); have S1 := Lib.hid (c13_row (K1.out.row 2 rfl)); clear hb)
      | (refine step_callv (by rfl) (.tmp 12) #[.tmp 13] _ (by rfl) (layF f.kd.toNat) #[] (by rfl) (lay_enters _) #[.agg (fra f A n c D m e)] (map1_eval (by rfl)) _ ((HLA.out _ (K1.out.s (A, n, f.da) (by simp)).1 (K1.out.p (D, m, f.ps) (by simp)).1).mono fun e' w' h => layPost_ret h) ?_; rintro v w2 ⟨A2, n2, c2, rfl, ho, hb⟩; have K2 : Hid (EnvB w2 [(A2, n2, (layR f).1), (A, n, f.da)] [(D, m, f.ps)] [(w.heap.size + 1 + 1, #[.bool false, .int .i64 0, .int .u32 0], 34), (w.heap.size + 1, zF0, 30), (w.heap.size, (fra f A n c D m e), 30)]) := Lib.hid (K1.out.layS hb (by simp) ho); have B2 := Lib.hid (below_step B1.out hb); have HO2 := Lib.hid ho; have HS2 := Lib.hid B1.out.size; have S2 := Lib.hid (c13_row (K2.out.row 2 rfl)); clear hb ho))
  all_goals
    have hn2c : n2 ≤ c2 ∧ (A2 = none → c2 = 0) := by
      rcases HO2.out with h | ⟨rfl, rfl, rfl, _⟩
      · exact h.2.2
      · exact ⟨hnc, HN.out⟩
    have HNC2 := Lib.hid hn2c
    clear hn2c
    go_wp2_with (first
      | (refine at_load 30 (.tmp 1) (by rfl) ?_; refine wpList_load_row (by rfl) 30 (.tmp 1) (by rfl) (w.heap.size) (by rfl) 30 _ (0, 0) _ (K2.out.row 2 rfl) Tryz.underlying30 (by rfl) info_F ?_)
      | (go_at_call 29; (with_reducible refine (p_headOf _ _ _ _ _).mono ?_); rintro e w3 ⟨rfl, hb⟩; have K3 := Lib.hid (K2.out.on hb); have B3 := Lib.hid (below_step B2.out hb); clear hb K2 B2)
      | (go_at_call 6; (refine (HPA.out A2 n2 c2 _ (K3.out.s (A2, n2, (layR f).1) (by simp)).1 HNC2.out.2 HNC2.out.1).mono ?_); rintro e w4 ⟨A7, n7, c7, A8, n8, c8, rfl, hh, hp, hb⟩; have HM8 : Hid (n8 = d.ps.length) := Lib.hid hp.1.1.symm; have K4 : Hid (EnvB w4 [(A7, n7, d.da), (A2, n2, (layR f).1), (A, n, f.da)] [(A8, n8, d.ps), (D, m, f.ps)] [(w.heap.size + 1 + 1, #[.bool false, .int .i64 0, .int .u32 0], 34), (w.heap.size + 1, zF0, 30), (w.heap.size, (fra f A n c D m e), 30)]) := Lib.hid (handB K3.out hb hh hp); have B4 := Lib.hid (below_step B3.out hb); clear hh hp; clear hb K3 B3)
      | (refine at_store 30 (.tmp 4) (.tmp 26) (by rfl) ?_; refine wpList_put (by rfl) 30 (.tmp 4) (.tmp 26) (by rfl) (w.heap.size + 1) 0 (.agg (fra d A7 n7 c7 A8 n8 c8)) (by rfl) (by rfl) 30 _ (fra d A7 n7 c7 A8 n8 c8) (K4.out.row 1 rfl) (by simp [Value.cells]) (by kernel_rfl) info_F (by kernel_rfl) ?_; intro w5 hrow hoth hz hbl; have K5 := Lib.hid (K4.out.turn 1 rfl hrow hoth hz); have B5 := Lib.hid (hbl _ _ (by omega) B4.out); clear hrow hoth hz hbl K4 B4)
      | (refine at_store 34 (.tmp 5) (.tmp 27) (by rfl) ?_; refine wpList_put (by rfl) 34 (.tmp 5) (.tmp 27) (by rfl) (w.heap.size + 1 + 1) 0 (.agg #[.bool true, .int .i64 x1, .int .u32 x2]) (by rfl) (by rfl) 34 _ #[.bool true, .int .i64 x1, .int .u32 x2] (K5.out.row 0 rfl) (by simp [Value.cells]) (by kernel_rfl) info_X (by kernel_rfl) ?_; intro w6 hrow hoth hz hbl; have K6 := Lib.hid (K5.out.turn 0 rfl hrow hoth hz); have B6 := Lib.hid (hbl _ _ (by omega) B5.out); clear hrow hoth hz hbl K5 B5)
      | (refine at_load 34 (.tmp 5) (by rfl) ?_; refine wpList_load_row (by rfl) 34 (.tmp 5) (by rfl) (w.heap.size + 1 + 1) (by rfl) 34 _ (0, 0) _ (K6.out.row 0 rfl) Tryz.underlying34 (by rfl) info_X ?_))
    go_step3
    refine ⟨rfl, ?_⟩
    go_wp2
    rw [jump_ret]
    go_ret2
    exact ⟨rfl, B6.out⟩
set_option maxRecDepth 100000 in
set_option maxHeartbeats 8000000 in
theorem stand_F (f : Fr) (A D : Option Addr) (n c m e : Nat) (w : World) (hA : Bs w w.heap.size A n f.da) (hN : A = none → c = 0) (hnc : n ≤ c) (hn : n ≤ 8900) (hD : Ps w w.heap.size D m f.ps) (hm : m ≤ 10000) (he : ((layR f).2 != 0) = false) (hlen : (layR f).1.length ≤ 100000) (d : Fr) (x1 x2 : Int) (HPA : Hid (∀ A' n' c' w0, Bs w0 w0.heap.size A' n' (layR f).1 → (A' = none → c' = 0) → n' ≤ c' → Calls Tryz.prog 6 #[.agg #[.int .i64 (n' : Int), .int .u8 f.kd.toNat, .int .u8 f.fl.toNat, .int .i64 f.st], .slice A' n' c'] w0 fun e w' => ∃ A7 n7 c7 A8 n8 c8, e = .returned (.tuple #[.agg (fra d A7 n7 c7 A8 n8 c8), .agg #[.bool false, .int .i64 x1, .int .u32 x2]]) ∧ HandS w' w0.heap.size A7 n7 c7 d.da ∧ HandP w' w0.heap.size A8 n8 c8 d.ps ∧ Below w0.heap.size w0 w')) (hx2 : (x2 == 0) = false) :
    Calls Tryz.prog 27 #[.agg (fra f A n c D m e)] w fun e' w' => e' = .returned (.tuple #[.slice none 0 0, .bool false]) ∧ Below w.heap.size w w' := by
  have hkd := f.kd.toNat_lt
  have HN := Lib.hid hN
  have HLA : Hid (∀ w0, Bs w0 w0.heap.size A n f.da → Ps w0 w0.heap.size D m f.ps → Calls Tryz.prog (layF f.kd.toNat) #[.agg (fra f A n c D m e)] w0 (LayPost A n c f.da (layR f) w0)) := Lib.hid (fun w0 h1 h2 => lay_any f A D n c m e w0 h1 hN hnc h2 hm hn)
  have K0 : Hid (EnvB (((w.alloc (.cells (fra f A n c D m e) 30)).alloc (.cells zF0 30)).alloc (.cells #[.bool false, .int .i64 0, .int .u32 0] 34)) [(A, n, f.da)] [(D, m, f.ps)] [(w.heap.size + 1 + 1, #[.bool false, .int .i64 0, .int .u32 0], 34), (w.heap.size + 1, zF0, 30), (w.heap.size, (fra f A n c D m e), 30)]) := Lib.hid ((((((EnvB.nil w).addS0 hA).addP0 hD).box 30 (fra f A n c D m e)).boxg 30 zF0 (w.heap.size + 1) (by simp)).boxg 34 #[.bool false, .int .i64 0, .int .u32 0] (w.heap.size + 1 + 1) (by simp))
  have B0 : Hid (Below w.heap.size w (((w.alloc (.cells (fra f A n c D m e) 30)).alloc (.cells zF0 30)).alloc (.cells #[.bool false, .int .i64 0, .int .u32 0] 34))) := Lib.hid ((((Below.refl _ w).alloc (Nat.le_refl _) _).alloc (by simp) _).alloc (by simp only [World.size_alloc]; omega) _)
  have S0 := Lib.hid (c13_row (K0.out.row 2 rfl))
  skip
  clear hA hN hD
  have hfd := run_field2
  go_enter Tryz.func27, Tryz.ntmps27
  go_wp2
  refine wp_scope_forward 0 rfl ?_
  go_wp2
  go_region_held3 (fun W' => W'.cell? ⟨w.heap.size, 0, none⟩ = some (.int .u8 f.kd.toNat) ∧ W'.cell? ⟨w.heap.size, 1, none⟩ = some (.int .u8 f.fl.toNat) ∧ W'.cell? ⟨w.heap.size, 2, none⟩ = some (.int .i64 f.st) ∧ W'.cell? ⟨w.heap.size, 3, none⟩ = some (.slice A n c) ∧ W'.cell? ⟨w.heap.size, 4, none⟩ = some (.int .i64 f.pd) ∧ W'.cell? ⟨w.heap.size, 5, none⟩ = some (.int .i64 f.la) ∧ W'.cell? ⟨w.heap.size, 6, none⟩ = some (.int .i64 f.ic) ∧ W'.cell? ⟨w.heap.size, 7, none⟩ = some (.int .u32 f.co.toNat) ∧ W'.cell? ⟨w.heap.size, 8, none⟩ = some (.slice D m e) ∧ W'.cell? ⟨w.heap.size, 9, none⟩ = some (.bool f.rk) ∧ W'.cell? ⟨w.heap.size, 10, none⟩ = some (.bool f.al) ∧ W'.cell? ⟨w.heap.size, 11, none⟩ = some (.int .i64 f.dp) ∧ W'.cell? ⟨w.heap.size, 12, none⟩ = some (.int .u8 f.wt.toNat))
    (first | with_reducible exact S0.out | with_reducible exact c13_drew S0.out | with_reducible exact S1.out | with_reducible exact S2.out)
    (first
      | (go_at_call 20; refine (shapeOf_any f.kd _).mono ?_; rintro e' w1 ⟨v, rfl, ⟨O, J, cap, cl, rfl, _, _, _, _⟩, hb⟩; have K1 := Lib.hid (K0.out.drew.on hb); have B1 := Lib.hid (below_step B0.out.drew hb); have S1 := Lib.hid (c13_row (K1.out.row 2 rfl)); clear hb)
      | (refine step_callv (by rfl) (.tmp 12) #[.tmp 13] _ (by rfl) (layF f.kd.toNat) #[] (by rfl) (lay_enters _) #[.agg (fra f A n c D m e)] (map1_eval (by rfl)) _ ((HLA.out _ (K1.out.s (A, n, f.da) (by simp)).1 (K1.out.p (D, m, f.ps) (by simp)).1).mono fun e' w' h => layPost_ret h) ?_; rintro v w2 ⟨A2, n2, c2, rfl, ho, hb⟩; have K2 : Hid (EnvB w2 [(A2, n2, (layR f).1), (A, n, f.da)] [(D, m, f.ps)] [(w.heap.size + 1 + 1, #[.bool false, .int .i64 0, .int .u32 0], 34), (w.heap.size + 1, zF0, 30), (w.heap.size, (fra f A n c D m e), 30)]) := Lib.hid (K1.out.layS hb (by simp) ho); have B2 := Lib.hid (below_step B1.out hb); have HO2 := Lib.hid ho; have HS2 := Lib.hid B1.out.size; have S2 := Lib.hid (c13_row (K2.out.row 2 rfl)); clear hb ho))
  all_goals
    have hn2c : n2 ≤ c2 ∧ (A2 = none → c2 = 0) := by
      rcases HO2.out with h | ⟨rfl, rfl, rfl, _⟩
      · exact h.2.2
      · exact ⟨hnc, HN.out⟩
    have HNC2 := Lib.hid hn2c
    clear hn2c
    go_wp2_with (first
      | (refine at_load 30 (.tmp 1) (by rfl) ?_; refine wpList_load_row (by rfl) 30 (.tmp 1) (by rfl) (w.heap.size) (by rfl) 30 _ (0, 0) _ (K2.out.row 2 rfl) Tryz.underlying30 (by rfl) info_F ?_)
      | (go_at_call 29; (with_reducible refine (p_headOf _ _ _ _ _).mono ?_); rintro e w3 ⟨rfl, hb⟩; have K3 := Lib.hid (K2.out.on hb); have B3 := Lib.hid (below_step B2.out hb); clear hb K2 B2)
      | (go_at_call 6; (refine (HPA.out A2 n2 c2 _ (K3.out.s (A2, n2, (layR f).1) (by simp)).1 HNC2.out.2 HNC2.out.1).mono ?_); rintro e w4 ⟨A7, n7, c7, A8, n8, c8, rfl, hh, hp, hb⟩; have HM8 : Hid (n8 = d.ps.length) := Lib.hid hp.1.1.symm; have K4 : Hid (EnvB w4 [(A7, n7, d.da), (A2, n2, (layR f).1), (A, n, f.da)] [(A8, n8, d.ps), (D, m, f.ps)] [(w.heap.size + 1 + 1, #[.bool false, .int .i64 0, .int .u32 0], 34), (w.heap.size + 1, zF0, 30), (w.heap.size, (fra f A n c D m e), 30)]) := Lib.hid (handB K3.out hb hh hp); have B4 := Lib.hid (below_step B3.out hb); clear hh hp; clear hb K3 B3)
      | (refine at_store 30 (.tmp 4) (.tmp 26) (by rfl) ?_; refine wpList_put (by rfl) 30 (.tmp 4) (.tmp 26) (by rfl) (w.heap.size + 1) 0 (.agg (fra d A7 n7 c7 A8 n8 c8)) (by rfl) (by rfl) 30 _ (fra d A7 n7 c7 A8 n8 c8) (K4.out.row 1 rfl) (by simp [Value.cells]) (by kernel_rfl) info_F (by kernel_rfl) ?_; intro w5 hrow hoth hz hbl; have K5 := Lib.hid (K4.out.turn 1 rfl hrow hoth hz); have B5 := Lib.hid (hbl _ _ (by omega) B4.out); clear hrow hoth hz hbl K4 B4)
      | (refine at_store 34 (.tmp 5) (.tmp 27) (by rfl) ?_; refine wpList_put (by rfl) 34 (.tmp 5) (.tmp 27) (by rfl) (w.heap.size + 1 + 1) 0 (.agg #[.bool false, .int .i64 x1, .int .u32 x2]) (by rfl) (by rfl) 34 _ #[.bool false, .int .i64 x1, .int .u32 x2] (K5.out.row 0 rfl) (by simp [Value.cells]) (by kernel_rfl) info_X (by kernel_rfl) ?_; intro w6 hrow hoth hz hbl; have K6 := Lib.hid (K5.out.turn 0 rfl hrow hoth hz); have B6 := Lib.hid (hbl _ _ (by omega) B5.out); clear hrow hoth hz hbl K5 B5)
      | (refine at_load 34 (.tmp 5) (by rfl) ?_; refine wpList_load_row (by rfl) 34 (.tmp 5) (by rfl) (w.heap.size + 1 + 1) (by rfl) 34 _ (0, 0) _ (K6.out.row 0 rfl) Tryz.underlying34 (by rfl) info_X ?_))
    go_step3
    refine ⟨rfl, ?_⟩
    go_wp2
    rw [jump_ret]
    go_ret2
    exact ⟨rfl, B6.out⟩
set_option maxRecDepth 100000 in
set_option maxHeartbeats 8000000 in
theorem stand_N (f : Fr) (A D : Option Addr) (n c m e : Nat) (w : World) (hA : Bs w w.heap.size A n f.da) (hN : A = none → c = 0) (hnc : n ≤ c) (hn : n ≤ 8900) (hD : Ps w w.heap.size D m f.ps) (hm : m ≤ 10000) (he : ((layR f).2 != 0) = false) (hlen : (layR f).1.length ≤ 100000) (d : Fr) (x1 x2 : Int) (HPA : Hid (∀ A' n' c' w0, Bs w0 w0.heap.size A' n' (layR f).1 → (A' = none → c' = 0) → n' ≤ c' → Calls Tryz.prog 6 #[.agg #[.int .i64 (n' : Int), .int .u8 f.kd.toNat, .int .u8 f.fl.toNat, .int .i64 f.st], .slice A' n' c'] w0 fun e w' => ∃ A7 n7 c7 A8 n8 c8, e = .returned (.tuple #[.agg (fra d A7 n7 c7 A8 n8 c8), .agg #[.bool false, .int .i64 0, .int .u32 0]]) ∧ HandS w' w0.heap.size A7 n7 c7 d.da ∧ HandP w' w0.heap.size A8 n8 c8 d.ps ∧ Below w0.heap.size w0 w')) (hps : d.ps.length ≤ 100000) (db : Bool) (hdb : db = false) (hdf : decide (d = f) = db) :
    Calls Tryz.prog 27 #[.agg (fra f A n c D m e)] w fun e' w' => e' = .returned (.tuple #[.slice none 0 0, .bool false]) ∧ Below w.heap.size w w' := by
  have hkd := f.kd.toNat_lt
  have HN := Lib.hid hN
  have HLA : Hid (∀ w0, Bs w0 w0.heap.size A n f.da → Ps w0 w0.heap.size D m f.ps → Calls Tryz.prog (layF f.kd.toNat) #[.agg (fra f A n c D m e)] w0 (LayPost A n c f.da (layR f) w0)) := Lib.hid (fun w0 h1 h2 => lay_any f A D n c m e w0 h1 hN hnc h2 hm hn)
  have K0 : Hid (EnvB (((w.alloc (.cells (fra f A n c D m e) 30)).alloc (.cells zF0 30)).alloc (.cells #[.bool false, .int .i64 0, .int .u32 0] 34)) [(A, n, f.da)] [(D, m, f.ps)] [(w.heap.size + 1 + 1, #[.bool false, .int .i64 0, .int .u32 0], 34), (w.heap.size + 1, zF0, 30), (w.heap.size, (fra f A n c D m e), 30)]) := Lib.hid ((((((EnvB.nil w).addS0 hA).addP0 hD).box 30 (fra f A n c D m e)).boxg 30 zF0 (w.heap.size + 1) (by simp)).boxg 34 #[.bool false, .int .i64 0, .int .u32 0] (w.heap.size + 1 + 1) (by simp))
  have B0 : Hid (Below w.heap.size w (((w.alloc (.cells (fra f A n c D m e) 30)).alloc (.cells zF0 30)).alloc (.cells #[.bool false, .int .i64 0, .int .u32 0] 34))) := Lib.hid ((((Below.refl _ w).alloc (Nat.le_refl _) _).alloc (by simp) _).alloc (by simp only [World.size_alloc]; omega) _)
  have S0 := Lib.hid (c13_row (K0.out.row 2 rfl))
  subst hdb
  clear hA hN hD
  have hfd := run_field2
  go_enter Tryz.func27, Tryz.ntmps27
  go_wp2
  refine wp_scope_forward 0 rfl ?_
  go_wp2
  go_region_held3 (fun W' => W'.cell? ⟨w.heap.size, 0, none⟩ = some (.int .u8 f.kd.toNat) ∧ W'.cell? ⟨w.heap.size, 1, none⟩ = some (.int .u8 f.fl.toNat) ∧ W'.cell? ⟨w.heap.size, 2, none⟩ = some (.int .i64 f.st) ∧ W'.cell? ⟨w.heap.size, 3, none⟩ = some (.slice A n c) ∧ W'.cell? ⟨w.heap.size, 4, none⟩ = some (.int .i64 f.pd) ∧ W'.cell? ⟨w.heap.size, 5, none⟩ = some (.int .i64 f.la) ∧ W'.cell? ⟨w.heap.size, 6, none⟩ = some (.int .i64 f.ic) ∧ W'.cell? ⟨w.heap.size, 7, none⟩ = some (.int .u32 f.co.toNat) ∧ W'.cell? ⟨w.heap.size, 8, none⟩ = some (.slice D m e) ∧ W'.cell? ⟨w.heap.size, 9, none⟩ = some (.bool f.rk) ∧ W'.cell? ⟨w.heap.size, 10, none⟩ = some (.bool f.al) ∧ W'.cell? ⟨w.heap.size, 11, none⟩ = some (.int .i64 f.dp) ∧ W'.cell? ⟨w.heap.size, 12, none⟩ = some (.int .u8 f.wt.toNat))
    (first | with_reducible exact S0.out | with_reducible exact c13_drew S0.out | with_reducible exact S1.out | with_reducible exact S2.out)
    (first
      | (go_at_call 20; refine (shapeOf_any f.kd _).mono ?_; rintro e' w1 ⟨v, rfl, ⟨O, J, cap, cl, rfl, _, _, _, _⟩, hb⟩; have K1 := Lib.hid (K0.out.drew.on hb); have B1 := Lib.hid (below_step B0.out.drew hb); have S1 := Lib.hid (c13_row (K1.out.row 2 rfl)); clear hb)
      | (refine step_callv (by rfl) (.tmp 12) #[.tmp 13] _ (by rfl) (layF f.kd.toNat) #[] (by rfl) (lay_enters _) #[.agg (fra f A n c D m e)] (map1_eval (by rfl)) _ ((HLA.out _ (K1.out.s (A, n, f.da) (by simp)).1 (K1.out.p (D, m, f.ps) (by simp)).1).mono fun e' w' h => layPost_ret h) ?_; rintro v w2 ⟨A2, n2, c2, rfl, ho, hb⟩; have K2 : Hid (EnvB w2 [(A2, n2, (layR f).1), (A, n, f.da)] [(D, m, f.ps)] [(w.heap.size + 1 + 1, #[.bool false, .int .i64 0, .int .u32 0], 34), (w.heap.size + 1, zF0, 30), (w.heap.size, (fra f A n c D m e), 30)]) := Lib.hid (K1.out.layS hb (by simp) ho); have B2 := Lib.hid (below_step B1.out hb); have HO2 := Lib.hid ho; have HS2 := Lib.hid B1.out.size; have S2 := Lib.hid (c13_row (K2.out.row 2 rfl)); clear hb ho))
  all_goals
    have hn2c : n2 ≤ c2 ∧ (A2 = none → c2 = 0) := by
      rcases HO2.out with h | ⟨rfl, rfl, rfl, _⟩
      · exact h.2.2
      · exact ⟨hnc, HN.out⟩
    have HNC2 := Lib.hid hn2c
    clear hn2c
    go_wp2_with (first
      | (refine at_load 30 (.tmp 1) (by rfl) ?_; refine wpList_load_row (by rfl) 30 (.tmp 1) (by rfl) (w.heap.size) (by rfl) 30 _ (0, 0) _ (K2.out.row 2 rfl) Tryz.underlying30 (by rfl) info_F ?_)
      | (go_at_call 29; (with_reducible refine (p_headOf _ _ _ _ _).mono ?_); rintro e w3 ⟨rfl, hb⟩; have K3 := Lib.hid (K2.out.on hb); have B3 := Lib.hid (below_step B2.out hb); clear hb K2 B2)
      | (go_at_call 6; (refine (HPA.out A2 n2 c2 _ (K3.out.s (A2, n2, (layR f).1) (by simp)).1 HNC2.out.2 HNC2.out.1).mono ?_); rintro e w4 ⟨A7, n7, c7, A8, n8, c8, rfl, hh, hp, hb⟩; have HM8 : Hid (n8 = d.ps.length) := Lib.hid hp.1.1.symm; have K4 : Hid (EnvB w4 [(A7, n7, d.da), (A2, n2, (layR f).1), (A, n, f.da)] [(A8, n8, d.ps), (D, m, f.ps)] [(w.heap.size + 1 + 1, #[.bool false, .int .i64 0, .int .u32 0], 34), (w.heap.size + 1, zF0, 30), (w.heap.size, (fra f A n c D m e), 30)]) := Lib.hid (handB K3.out hb hh hp); have B4 := Lib.hid (below_step B3.out hb); clear hh hp; clear hb K3 B3)
      | (refine at_store 30 (.tmp 4) (.tmp 26) (by rfl) ?_; refine wpList_put (by rfl) 30 (.tmp 4) (.tmp 26) (by rfl) (w.heap.size + 1) 0 (.agg (fra d A7 n7 c7 A8 n8 c8)) (by rfl) (by rfl) 30 _ (fra d A7 n7 c7 A8 n8 c8) (K4.out.row 1 rfl) (by simp [Value.cells]) (by kernel_rfl) info_F (by kernel_rfl) ?_; intro w5 hrow hoth hz hbl; have K5 := Lib.hid (K4.out.turn 1 rfl hrow hoth hz); have B5 := Lib.hid (hbl _ _ (by omega) B4.out); clear hrow hoth hz hbl K4 B4)
      | (refine at_store 34 (.tmp 5) (.tmp 27) (by rfl) ?_; refine wpList_put (by rfl) 34 (.tmp 5) (.tmp 27) (by rfl) (w.heap.size + 1 + 1) 0 (.agg #[.bool false, .int .i64 0, .int .u32 0]) (by rfl) (by rfl) 34 _ #[.bool false, .int .i64 0, .int .u32 0] (K5.out.row 0 rfl) (by simp [Value.cells]) (by kernel_rfl) info_X (by kernel_rfl) ?_; intro w6 hrow hoth hz hbl; have K6 := Lib.hid (K5.out.turn 0 rfl hrow hoth hz); have B6 := Lib.hid (hbl _ _ (by omega) B5.out); clear hrow hoth hz hbl K5 B5; obtain ⟨f_0, f_1, f_2, f_3, f_4, f_5, f_6, f_7, f_8, f_9, f_10, f_11, f_12⟩ := c13_row (K6.out.row 2 rfl); obtain ⟨o_0, o_1, o_2, o_3, o_4, o_5, o_6, o_7, o_8, o_9, o_10, o_11, o_12⟩ := c13_row (K6.out.row 1 rfl))
      | (refine at_load 34 (.tmp 5) (by rfl) ?_; refine wpList_load_row (by rfl) 34 (.tmp 5) (by rfl) (w.heap.size + 1 + 1) (by rfl) 34 _ (0, 0) _ (K6.out.row 0 rfl) Tryz.underlying34 (by rfl) info_X ?_)
      | (go_at_call 14; (refine (p_same d f A7 A A8 D n7 c7 n c n8 c8 m e _ (K6.out.s (A7, n7, d.da) (by simp)).1 (K6.out.s (A, n, f.da) (by simp)).1 (K6.out.p (A8, n8, d.ps) (by simp)).1 (K6.out.p (D, m, f.ps) (by simp)).1 (by rw [HM8.out]; exact hps)).mono ?_); rintro e w7 ⟨rfl, hb⟩; have K7 := Lib.hid (K6.out.on hb); have B7 := Lib.hid (below_step B6.out hb); rw [hdf]; clear hb K6 B6))
    go_step3
    refine ⟨rfl, ?_⟩
    go_wp2
    rw [jump_ret]
    go_ret2
    exact ⟨rfl, B7.out⟩
set_option maxRecDepth 100000 in
set_option maxHeartbeats 8000000 in
theorem stand_Y (f : Fr) (A D : Option Addr) (n c m e : Nat) (w : World) (hA : Bs w w.heap.size A n f.da) (hN : A = none → c = 0) (hnc : n ≤ c) (hn : n ≤ 8900) (hD : Ps w w.heap.size D m f.ps) (hm : m ≤ 10000) (he : ((layR f).2 != 0) = false) (hlen : (layR f).1.length ≤ 100000) (d : Fr) (x1 x2 : Int) (HPA : Hid (∀ A' n' c' w0, Bs w0 w0.heap.size A' n' (layR f).1 → (A' = none → c' = 0) → n' ≤ c' → Calls Tryz.prog 6 #[.agg #[.int .i64 (n' : Int), .int .u8 f.kd.toNat, .int .u8 f.fl.toNat, .int .i64 f.st], .slice A' n' c'] w0 fun e w' => ∃ A7 n7 c7 A8 n8 c8, e = .returned (.tuple #[.agg (fra d A7 n7 c7 A8 n8 c8), .agg #[.bool false, .int .i64 0, .int .u32 0]]) ∧ HandS w' w0.heap.size A7 n7 c7 d.da ∧ HandP w' w0.heap.size A8 n8 c8 d.ps ∧ Below w0.heap.size w0 w')) (hps : d.ps.length ≤ 100000) (db : Bool) (hdb : db = true) (hdf : decide (d = f) = db) :
    Calls Tryz.prog 27 #[.agg (fra f A n c D m e)] w fun e' w' => ∃ A' n' c', e' = .returned (.tuple #[.slice A' n' c', .bool true]) ∧ (HandS w' w.heap.size A' n' c' (layR f).1 ∨ A' = A ∧ n' = n ∧ c' = c ∧ (layR f).1 = f.da) ∧ Below w.heap.size w w' := by
  have hkd := f.kd.toNat_lt
  have HN := Lib.hid hN
  have HLA : Hid (∀ w0, Bs w0 w0.heap.size A n f.da → Ps w0 w0.heap.size D m f.ps → Calls Tryz.prog (layF f.kd.toNat) #[.agg (fra f A n c D m e)] w0 (LayPost A n c f.da (layR f) w0)) := Lib.hid (fun w0 h1 h2 => lay_any f A D n c m e w0 h1 hN hnc h2 hm hn)
  have K0 : Hid (EnvB (((w.alloc (.cells (fra f A n c D m e) 30)).alloc (.cells zF0 30)).alloc (.cells #[.bool false, .int .i64 0, .int .u32 0] 34)) [(A, n, f.da)] [(D, m, f.ps)] [(w.heap.size + 1 + 1, #[.bool false, .int .i64 0, .int .u32 0], 34), (w.heap.size + 1, zF0, 30), (w.heap.size, (fra f A n c D m e), 30)]) := Lib.hid ((((((EnvB.nil w).addS0 hA).addP0 hD).box 30 (fra f A n c D m e)).boxg 30 zF0 (w.heap.size + 1) (by simp)).boxg 34 #[.bool false, .int .i64 0, .int .u32 0] (w.heap.size + 1 + 1) (by simp))
  have B0 : Hid (Below w.heap.size w (((w.alloc (.cells (fra f A n c D m e) 30)).alloc (.cells zF0 30)).alloc (.cells #[.bool false, .int .i64 0, .int .u32 0] 34))) := Lib.hid ((((Below.refl _ w).alloc (Nat.le_refl _) _).alloc (by simp) _).alloc (by simp only [World.size_alloc]; omega) _)
  have S0 := Lib.hid (c13_row (K0.out.row 2 rfl))
  subst hdb
  clear hA hN hD
  have hfd := run_field2
  go_enter Tryz.func27, Tryz.ntmps27
  go_wp2
  refine wp_scope_forward 0 rfl ?_
  go_wp2
  go_region_held3 (fun W' => W'.cell? ⟨w.heap.size, 0, none⟩ = some (.int .u8 f.kd.toNat) ∧ W'.cell? ⟨w.heap.size, 1, none⟩ = some (.int .u8 f.fl.toNat) ∧ W'.cell? ⟨w.heap.size, 2, none⟩ = some (.int .i64 f.st) ∧ W'.cell? ⟨w.heap.size, 3, none⟩ = some (.slice A n c) ∧ W'.cell? ⟨w.heap.size, 4, none⟩ = some (.int .i64 f.pd) ∧ W'.cell? ⟨w.heap.size, 5, none⟩ = some (.int .i64 f.la) ∧ W'.cell? ⟨w.heap.size, 6, none⟩ = some (.int .i64 f.ic) ∧ W'.cell? ⟨w.heap.size, 7, none⟩ = some (.int .u32 f.co.toNat) ∧ W'.cell? ⟨w.heap.size, 8, none⟩ = some (.slice D m e) ∧ W'.cell? ⟨w.heap.size, 9, none⟩ = some (.bool f.rk) ∧ W'.cell? ⟨w.heap.size, 10, none⟩ = some (.bool f.al) ∧ W'.cell? ⟨w.heap.size, 11, none⟩ = some (.int .i64 f.dp) ∧ W'.cell? ⟨w.heap.size, 12, none⟩ = some (.int .u8 f.wt.toNat))
    (first | with_reducible exact S0.out | with_reducible exact c13_drew S0.out | with_reducible exact S1.out | with_reducible exact S2.out)
    (first
      | (go_at_call 20; refine (shapeOf_any f.kd _).mono ?_; rintro e' w1 ⟨v, rfl, ⟨O, J, cap, cl, rfl, _, _, _, _⟩, hb⟩; have K1 := Lib.hid (K0.out.drew.on hb); have B1 := Lib.hid (below_step B0.out.drew hb); have S1 := Lib.hid (c13_row (K1.out.row 2 rfl)); clear hb)
      | (refine step_callv (by rfl) (.tmp 12) #[.tmp 13] _ (by rfl) (layF f.kd.toNat) #[] (by rfl) (lay_enters _) #[.agg (fra f A n c D m e)] (map1_eval (by rfl)) _ ((HLA.out _ (K1.out.s (A, n, f.da) (by simp)).1 (K1.out.p (D, m, f.ps) (by simp)).1).mono fun e' w' h => layPost_ret h) ?_; rintro v w2 ⟨A2, n2, c2, rfl, ho, hb⟩; have K2 : Hid (EnvB w2 [(A2, n2, (layR f).1), (A, n, f.da)] [(D, m, f.ps)] [(w.heap.size + 1 + 1, #[.bool false, .int .i64 0, .int .u32 0], 34), (w.heap.size + 1, zF0, 30), (w.heap.size, (fra f A n c D m e), 30)]) := Lib.hid (K1.out.layS hb (by simp) ho); have B2 := Lib.hid (below_step B1.out hb); have HO2 := Lib.hid ho; have HS2 := Lib.hid B1.out.size; have S2 := Lib.hid (c13_row (K2.out.row 2 rfl)); clear hb ho))
  all_goals
    have hn2c : n2 ≤ c2 ∧ (A2 = none → c2 = 0) := by
      rcases HO2.out with h | ⟨rfl, rfl, rfl, _⟩
      · exact h.2.2
      · exact ⟨hnc, HN.out⟩
    have HNC2 := Lib.hid hn2c
    clear hn2c
    go_wp2_with (first
      | (refine at_load 30 (.tmp 1) (by rfl) ?_; refine wpList_load_row (by rfl) 30 (.tmp 1) (by rfl) (w.heap.size) (by rfl) 30 _ (0, 0) _ (K2.out.row 2 rfl) Tryz.underlying30 (by rfl) info_F ?_)
      | (go_at_call 29; (with_reducible refine (p_headOf _ _ _ _ _).mono ?_); rintro e w3 ⟨rfl, hb⟩; have K3 := Lib.hid (K2.out.on hb); have B3 := Lib.hid (below_step B2.out hb); clear hb K2 B2)
      | (go_at_call 6; (refine (HPA.out A2 n2 c2 _ (K3.out.s (A2, n2, (layR f).1) (by simp)).1 HNC2.out.2 HNC2.out.1).mono ?_); rintro e w4 ⟨A7, n7, c7, A8, n8, c8, rfl, hh, hp, hb⟩; have HM8 : Hid (n8 = d.ps.length) := Lib.hid hp.1.1.symm; have K4 : Hid (EnvB w4 [(A7, n7, d.da), (A2, n2, (layR f).1), (A, n, f.da)] [(A8, n8, d.ps), (D, m, f.ps)] [(w.heap.size + 1 + 1, #[.bool false, .int .i64 0, .int .u32 0], 34), (w.heap.size + 1, zF0, 30), (w.heap.size, (fra f A n c D m e), 30)]) := Lib.hid (handB K3.out hb hh hp); have B4 := Lib.hid (below_step B3.out hb); clear hh hp; clear hb K3 B3)
      | (refine at_store 30 (.tmp 4) (.tmp 26) (by rfl) ?_; refine wpList_put (by rfl) 30 (.tmp 4) (.tmp 26) (by rfl) (w.heap.size + 1) 0 (.agg (fra d A7 n7 c7 A8 n8 c8)) (by rfl) (by rfl) 30 _ (fra d A7 n7 c7 A8 n8 c8) (K4.out.row 1 rfl) (by simp [Value.cells]) (by kernel_rfl) info_F (by kernel_rfl) ?_; intro w5 hrow hoth hz hbl; have K5 := Lib.hid (K4.out.turn 1 rfl hrow hoth hz); have B5 := Lib.hid (hbl _ _ (by omega) B4.out); clear hrow hoth hz hbl K4 B4)
      | (refine at_store 34 (.tmp 5) (.tmp 27) (by rfl) ?_; refine wpList_put (by rfl) 34 (.tmp 5) (.tmp 27) (by rfl) (w.heap.size + 1 + 1) 0 (.agg #[.bool false, .int .i64 0, .int .u32 0]) (by rfl) (by rfl) 34 _ #[.bool false, .int .i64 0, .int .u32 0] (K5.out.row 0 rfl) (by simp [Value.cells]) (by kernel_rfl) info_X (by kernel_rfl) ?_; intro w6 hrow hoth hz hbl; have K6 := Lib.hid (K5.out.turn 0 rfl hrow hoth hz); have B6 := Lib.hid (hbl _ _ (by omega) B5.out); clear hrow hoth hz hbl K5 B5; obtain ⟨f_0, f_1, f_2, f_3, f_4, f_5, f_6, f_7, f_8, f_9, f_10, f_11, f_12⟩ := c13_row (K6.out.row 2 rfl); obtain ⟨o_0, o_1, o_2, o_3, o_4, o_5, o_6, o_7, o_8, o_9, o_10, o_11, o_12⟩ := c13_row (K6.out.row 1 rfl))
      | (refine at_load 34 (.tmp 5) (by rfl) ?_; refine wpList_load_row (by rfl) 34 (.tmp 5) (by rfl) (w.heap.size + 1 + 1) (by rfl) 34 _ (0, 0) _ (K6.out.row 0 rfl) Tryz.underlying34 (by rfl) info_X ?_)
      | (go_at_call 14; (refine (p_same d f A7 A A8 D n7 c7 n c n8 c8 m e _ (K6.out.s (A7, n7, d.da) (by simp)).1 (K6.out.s (A, n, f.da) (by simp)).1 (K6.out.p (A8, n8, d.ps) (by simp)).1 (K6.out.p (D, m, f.ps) (by simp)).1 (by rw [HM8.out]; exact hps)).mono ?_); rintro e w7 ⟨rfl, hb⟩; have K7 := Lib.hid (K6.out.on hb); have B7 := Lib.hid (below_step B6.out hb); rw [hdf]; clear hb K6 B6))
    rw [jump_ret]
    go_ret2
    refine ⟨A2, n2, c2, rfl, ?_, B7.out⟩
    rcases HO2.out with h | h
    · refine .inl ⟨(K7.out.s (A2, n2, (layR f).1) (by simp)).1, h.2.1.less HS2.out, h.2.2⟩
    · exact .inr h
end Go.Proofs.YtbflhphjnmhjhaaGreat
