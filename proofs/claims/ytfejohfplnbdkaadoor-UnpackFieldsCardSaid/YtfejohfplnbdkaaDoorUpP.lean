/- Package unpack: Block, in all. -/
import Derived.Test.YtfejohfplnbdkaaDoorUpO
namespace Go.Proofs.YtfejohfplnbdkaaDoor
open Go.RowKit Go.Shelf Px Tx Tb Up
set_option linter.unusedVariables false
set_option linter.unusedSimpArgs false
theorem Up.fs_nil (w : World) (B : Nat) : Fs w B none 0 [] := ⟨rfl, fun h => absurd h (by omega)⟩
theorem Up.env_nil {w : World} {fs : List Fact} {gs : List Bx} (h : EnvF w fs gs) : EnvF w (fF none 0 [] :: fs) gs :=
  h.fact (fs_nil w w.heap.size) (fun k hk => absurd hk.1 (by omega))
set_option maxRecDepth 100000 in
theorem u_Block {fs : List Fact} {gs : List Bx} {M most : Int} {A : Option Addr} {n c : Nat} {xs : List Fd} {LA : Option Addr} {ln lc : Nat} {ls : List UInt8} (w : World) (hV : EnvF w fs gs) (hL : bF LA ln ls ∈ fs) (hlc : ln ≤ lc) (hLN : LA = none → lc = 0) (hA : fF A n xs ∈ fs) (hN : A = none → c = 0) (hS : stF ∈ fs) (hR : rwF ∈ fs) (hM : mvF ∈ fs) (hF : full xs ≤ 20000) (hn : ln ≤ 10000) :
    Calls Tryd.prog 9 #[.agg #[.int .i64 M, .slice A n c], .int .i64 most, .slice LA ln lc] w fun e w' => ∃ LL cl TT tc, e = .returned (.tuple #[.agg #[.slice LL (bL M most xs ls).length cl, .bool (bG M most xs ls), .int .i64 (bM M most xs ls), .slice TT (bX M most xs ls).length tc], .int .i64 (bE M most xs ls)]) ∧ Below w.heap.size w w' ∧ EnvF w' (fF LL (bL M most xs ls).length (bL M most xs ls) :: fF TT (bX M most xs ls).length (bX M most xs ls) :: fs) gs ∧ (LL = none → cl = 0) ∧ (TT = none → tc = 0) := by
  have bad : ∀ {E : Int}, bE M most xs ls = E → E ≠ 0 → ∀ {e : Ending} {w' : World}, e = .returned (.tuple #[.agg #[.slice none 0 0, .bool false, .int .i64 0, .slice none 0 0], .int .i64 E]) → Below w.heap.size w w' → ∃ LL cl TT tc, e = .returned (.tuple #[.agg #[.slice LL (bL M most xs ls).length cl, .bool (bG M most xs ls), .int .i64 (bM M most xs ls), .slice TT (bX M most xs ls).length tc], .int .i64 (bE M most xs ls)]) ∧ Below w.heap.size w w' ∧ EnvF w' (fF LL (bL M most xs ls).length (bL M most xs ls) :: fF TT (bX M most xs ls).length (bX M most xs ls) :: fs) gs ∧ (LL = none → cl = 0) ∧ (TT = none → tc = 0) := by
    intro E hE h0 e w' he hb
    have h1 : bL M most xs ls = [] := by unfold bL; rw [hE, if_neg h0]
    have h2 : bX M most xs ls = [] := by unfold bX; rw [hE, if_neg h0]
    have h3 : bM M most xs ls = 0 := by unfold bM; rw [hE, if_neg h0]
    have h4 : bG M most xs ls = false := by unfold bG; rw [hE, decide_eq_false h0, Bool.false_and]
    rw [h1, h2, h3, h4, hE]
    exact ⟨none, 0, none, 0, he, hb, env_nil (env_nil (hV.on hb)), fun _ => rfl, fun _ => rfl⟩
  by_cases h : okA M most xs = true
  · by_cases hz : (bZ most ⟨M, xs, ls⟩).1 = 0
    · obtain ⟨s0, hs0⟩ : ∃ s0, (bZ most ⟨M, xs, ls⟩).2 = s0 := ⟨_, rfl⟩
      have hl0 : s0.ls.length ≤ ls.length := by
        have h1 := zs_less (most := most) ls.length ⟨M, xs, ls⟩
        rw [← hs0]
        exact h1
      have hbN : bN most ⟨M, xs, ls⟩ = rn ls.length s0 := by unfold bN; rw [hs0]
      have hbE : bE M most xs ls = (rn ls.length s0).1 := by unfold bE; rw [if_neg (by rw [h]; exact Bool.noConfusion), if_neg (by omega), hbN]
      refine (u_Block_go w hV hL hlc hLN hA hN hS hR hM hF hn h s0 hs0 hz).mono ?_
      rintro e w' (⟨k, hok, hl, hq, he, hb⟩ | ⟨k, LL, cl, TT, tc, hok, hl, he, hb, hE, hcl, htc⟩)
      · exact bad (hbE.trans (by rw [rn_bad k _ _ hl0 hok hl hq])) hq he hb
      · have hr := rn_end k _ _ hl0 hok hl
        rw [hr] at hbN hbE
        have h1 : bL M most xs ls = keep 2000 (FL s0 k) := by unfold bL bAll; rw [hbE, if_pos rfl, hbN]
        have h2 : bX M most xs ls = (aft s0 k).xs := by unfold bX; rw [hbE, if_pos rfl, hbN]
        have h3 : bM M most xs ls = (aft s0 k).M := by unfold bM; rw [hbE, if_pos rfl, hbN]
        have h4 : bG M most xs ls = decide (2000 < full (FL s0 k)) := by unfold bG bAll; rw [hbE, hbN]; simp
        rw [h1, h2, h3, h4, hbE]
        exact ⟨LL, cl, TT, tc, he, hb, hE, hcl, htc⟩
    · refine (u_Block_sz w hV hL hlc hLN hA hN hS hR hM hF hn h hz).mono ?_
      rintro e w' ⟨he, hb⟩
      exact bad (by unfold bE; rw [if_neg (by rw [h]; exact Bool.noConfusion), if_pos hz]) hz he hb
  · have h' : okA M most xs = false := by simpa using h
    refine (u_Block_no LA ln lc w (hV.fs hA) hN (by omega) h').mono ?_
    rintro e w' ⟨he, hb⟩
    exact bad (by unfold bE; rw [if_pos h']) (by omega) he hb
end Go.Proofs.YtfejohfplnbdkaaDoor
