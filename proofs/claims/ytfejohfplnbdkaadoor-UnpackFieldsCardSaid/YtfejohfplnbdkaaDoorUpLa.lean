/- The laws of layer 10: what the calls give, in letters, among all else that is known. -/
import Derived.Test.YtfejohfplnbdkaaDoorUpBx
import Derived.Test.YtfejohfplnbdkaaDoorUpWr
import Derived.Test.YtfejohfplnbdkaaDoorUpZ
namespace Go.Proofs.YtfejohfplnbdkaaDoor
open Go.RowKit Go.Shelf Px Tx Tb Up
set_option linter.unusedVariables false
set_option linter.unusedSimpArgs false
section
variable {fs : List Fact} {gs : List Bx} {A : Option Addr} {n c : Nat} {xs : List Fd} {M : Int}
theorem l_resize {m N E : Int} {k : Nat} {L : List Fd} (w : World) (hV : EnvF w fs gs) (hA : fF A n xs ∈ fs) (hN : A = none → c = 0) (hF : full xs ≤ 100000) (h1 : resM M xs m = N) (h2 : resE M xs m = E) (h3 : resL M xs m = L) (h4 : L.length = k) :
    Calls Tryd.prog 20 #[.agg #[.int .i64 M, .slice A n c], .int .i64 m] w fun e w' => ∃ A3 c3, e = .returned (.tuple #[.agg #[.int .i64 N, .slice A3 k c3], .int .i64 E]) ∧ Below w.heap.size w w' ∧ EnvF w' (fF A3 k L :: fs) gs ∧ (A3 = none → c3 = 0) := by
  subst h1 h2 h3 h4
  refine (r_resize M A n c xs m w (hV.fs hA) hN hF).mono ?_
  rintro e w' ⟨v, rfl, ho, hb⟩
  obtain ⟨A3, c3, rfl, _, h5, _⟩ := ho.form2 (n := (resL M xs m).length) rfl
  exact ⟨A3, c3, rfl, hb, hV.hand hb ho.handF, h5⟩
theorem l_add {N E : Int} {k : Nat} {L : List Fd} (f : Fd) (w : World) (hV : EnvF w fs gs) (hA : fF A n xs ∈ fs) (hN : A = none → c = 0) (hF : full xs ≤ 100000) (hf : sz f ≤ 100000) (h1 : addM M xs = N) (h2 : addE M xs = E) (h3 : addL M xs f = L) (h4 : L.length = k) :
    Calls Tryd.prog 14 #[.agg #[.int .i64 M, .slice A n c], .agg #[.string f.1, .string f.2]] w fun e w' => ∃ A3 c3, e = .returned (.tuple #[.agg #[.int .i64 N, .slice A3 k c3], .int .i64 E]) ∧ Below w.heap.size w w' ∧ EnvF w' (fF A3 k L :: fs) gs ∧ (A3 = none → c3 = 0) := by
  subst h1 h2 h3 h4
  refine (r_add M A n c xs f w (hV.fs hA) hN hF hf).mono ?_
  rintro e w' ⟨v, rfl, ho, hb⟩
  obtain ⟨A3, c3, rfl, _, h5, _⟩ := ho.form2 (n := (addL M xs f).length) rfl
  exact ⟨A3, c3, rfl, hb, hV.hand hb ho.handF, h5⟩
theorem l_same {M' : Int} {A' : Option Addr} {n' c' : Nat} {ys : List Fd} {b : Bool} (w : World) (hV : EnvF w fs gs) (hA : fF A n xs ∈ fs) (hA' : fF A' n' ys ∈ fs) (hn : n ≤ 1000000) (h : sameB M xs M' ys = b) :
    Calls Tryd.prog 11 #[.agg #[.int .i64 M, .slice A n c], .agg #[.int .i64 M', .slice A' n' c']] w fun e w' => e = .returned (.bool b) ∧ Below w.heap.size w w' :=
  h ▸ r_same M M' A A' n n' c c' xs ys w (hV.fs hA) (hV.fs hA') hn
theorem l_fields {A' : Option Addr} {n' c' : Nat} {ys : List Fd} {b : Bool} (w : World) (hV : EnvF w fs gs) (hA : fF A n xs ∈ fs) (hA' : fF A' n' ys ∈ fs) (hn : n ≤ 1000000) (h : decide (xs = ys) = b) :
    Calls Tryd.prog 12 #[.slice A n c, .slice A' n' c'] w fun e w' => e = .returned (.bool b) ∧ Below w.heap.size w w' :=
  h ▸ v_Fields A A' n n' c c' xs ys w (hV.fs hA) (hV.fs hA') hn
theorem l_put {i : Int} {r u : Nat} {L : List UInt8} {E : Int} {k : Nat} {f : FuncId} {args : Array Value} (w : World) (hV : EnvF w fs gs) (hc : Calls Tryd.prog f args w (PutD i r u w)) (h1 : putL i r u = L) (h2 : putE i r = E) (h3 : L.length = k) :
    Calls Tryd.prog f args w fun e w' => ∃ A c, e = .returned (.tuple #[.slice A k c, .int .i64 E]) ∧ Below w.heap.size w w' ∧ EnvF w' (bF A k L :: fs) gs ∧ (k ≤ c ∧ (A = none → c = 0)) := by
  subst h1 h2 h3
  refine hc.mono ?_
  rintro e w' ⟨A, c, rfl, ho, hb⟩
  obtain ⟨A', c', e, hh⟩ := ho.handS (n := (putL i r u).length) rfl
  cases e
  exact ⟨A, c, rfl, hb, hV.handS hb hh, hh.2.2⟩
theorem l_wakes (w : World) (hV : EnvF w fs gs) (hS : stF ∈ fs) (hR : rwF ∈ fs) (hM : mvF ∈ fs) : Calls Tryd.prog 8 #[] w fun e w' => e = .returned (.bool true) ∧ Below w.heap.size w w' := wakes10 w hV hS hR hM
end
theorem Up.fldL_len {a b : List UInt8} {way : Int} (h : a.length + b.length ≤ 900) : (fldL a b way).length ≤ 6000 := by
  have g : ∀ {s : List UInt8}, s.length ≤ 900 → (beB s).length ≤ 906 := fun {s} h => by
    have h1 := (be_le s).1
    have h2 := pl_len s
    have h3 := numB_len (n := s.length) (k := 7) (by omega)
    omega
  have h1 := g (s := a) (by omega)
  have h2 := g (s := b) (by omega)
  have h3 := putL_len 0 (wR way) (wU way)
  unfold fldL
  simp only [List.length_append]
  omega
theorem Up.block_two_all {M most : Int} {xs : List Fd} {a b : Nat} (ha : a < 2 ^ 31) (hb : b < 2 ^ 31) (hr : rightB M xs = true) (h0 : 0 ≤ most) (h1 : most ≤ 4096) (h : ¬ most < (a : Int)) (h' : ¬ most < (b : Int)) : bAll M most xs (putN a 5 32 ++ putN b 5 32) = [] := by
  have hz := (bZ_two (xs := xs) ha hb hr h1).2 h h'
  unfold bAll bN
  rw [hz, rn_end 0 _ _ (by simp) (fun j hj => absurd hj (by omega)) rfl]
  rfl
/-- What a law knows when it begins. -/
theorem Up.start_env {w : World} {A : Option Addr} {n : Nat} {xs : List Fd} (h : Vars w) (hA : Fs w w.heap.size A n xs) : EnvF w [fF A n xs, stF, rwF, mvF] [] := by
  obtain ⟨h1, h2, h3⟩ := h
  have lt : ∀ {k : Nat} {v : Value}, w.cell? ⟨k, 0, none⟩ = some v → k < w.heap.size := fun h => by
    obtain ⟨o, ho, _⟩ := cells_of_cell h
    exact (Array.getElem?_eq_some_iff.1 ho).1
  have k3 : EnvF w [mvF] [] := (EnvF.nil w).add0 (x := mvF) h3 (fun k hk => by
    obtain ⟨⟨a, _⟩, ⟨b, _⟩, ⟨c, _⟩, ⟨d, _⟩, e, _⟩ := h3
    rcases hk with rfl | rfl | rfl | rfl | rfl
    · exact lt a
    · exact lt b
    · exact lt c
    · exact lt d
    · exact lt e)
  have k2 : EnvF w [rwF, mvF] [] := k3.add0 (x := rwF) h2 (fun k hk => by
    cases hk
    exact lt (h2 0 _ rfl))
  have k1 : EnvF w [stF, rwF, mvF] [] := k2.add0 (x := stF) h1 (fun k hk => by cases hk; exact h1.lt)
  exact k1.addF hA
theorem Up.may_of_bd {i : Int} (h0 : 0 ≤ i) (h1 : i ≤ 2147483647) : putE i (5 : Nat) = 0 ∧ putL i (5 : Nat) 32 = putN i.toNat 5 32 := by
  obtain ⟨k, rfl⟩ : ∃ k : Nat, i = k := ⟨i.toNat, by omega⟩
  exact ⟨putE_of ⟨by omega, by omega⟩ (by omega), putL_of ⟨by omega, by omega⟩ (by omega)⟩
theorem Up.may_not {i : Int} {k : Nat} (h : i < 0 ∨ 2147483647 < i) : putE i (k : Int) = 2 ∧ putL i (k : Int) 32 = [] := by
  have hn : ¬ MayN i k := fun g => by have := g.2; omega
  exact ⟨putE_no hn, putL_no hn⟩
theorem Up.great_call {M : Int} {A : Option Addr} {n c : Nat} {xs : List Fd} (hnc : n ≤ c) (hcm : c ≤ maxLen) (hS : ∀ x ∈ xs, x.1.size ≤ 140737488355328 ∧ x.2.size ≤ 140737488355328) {b : Bool} (hb : grB xs = b) :
    Hid (∀ w0 : World, Fs w0 w0.heap.size A n xs → Calls Tryd.prog 6 #[.agg #[.int .i64 M, .slice A n c]] w0 fun e w' => e = .returned (.bool b) ∧ Below w0.heap.size w0 w') :=
  Lib.hid fun w0 h => hb ▸ v_Great M A n c xs w0 h hnc hcm hS
theorem Up.right_call {M : Int} {A : Option Addr} {n c : Nat} {xs : List Fd} (hF : full xs ≤ 1000000) {b : Bool} (hb : rightB M xs = b) :
    Hid (∀ w0 : World, Fs w0 w0.heap.size A n xs → Calls Tryd.prog 7 #[.agg #[.int .i64 M, .slice A n c]] w0 fun e w' => e = .returned (.bool b) ∧ Below w0.heap.size w0 w') :=
  Lib.hid fun w0 h => hb ▸ r_right M A n c xs w0 h hF
end Go.Proofs.YtfejohfplnbdkaaDoor
