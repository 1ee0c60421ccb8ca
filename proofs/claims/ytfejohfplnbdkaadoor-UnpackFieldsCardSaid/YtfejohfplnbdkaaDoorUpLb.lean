/- The laws of layer 10: Named, At, Size in letters. -/
import Derived.Test.YtfejohfplnbdkaaDoorUpLa
namespace Go.Proofs.YtfejohfplnbdkaaDoor
open Go.RowKit Go.Shelf Px Tx Tb Up
set_option linter.unusedVariables false
set_option linter.unusedSimpArgs false
theorem l_named {fs : List Fact} {gs : List Bx} {i way : Int} {b : List UInt8} {L : List UInt8} {E : Int} {k : Nat} (w : World) (hV : EnvF w fs gs) (hR : rwF ∈ fs) (hM : mvF ∈ fs) (hb : b.length ≤ 10000) (h1 : nmL i b way = L) (h2 : nmE i way = E) (h3 : L.length = k) :
    Calls Tryd.prog 17 #[.int .i64 i, .string ⟨b.toArray⟩, .int .i64 way] w fun e w' => ∃ A c, e = .returned (.tuple #[.slice A k c, .int .i64 E]) ∧ Below w.heap.size w w' ∧ EnvF w' (bF A k L :: fs) gs ∧ (k ≤ c ∧ (A = none → c = 0)) := by
  subst h1 h2 h3
  refine (u_Named i b way w hV hR hM hb).mono ?_
  rintro e w' ⟨A, c, rfl, hh, hb⟩
  exact ⟨A, c, rfl, hb, hV.handS hb hh, hh.2.2⟩
theorem Up.at_call {M i : Int} {A : Option Addr} {n c : Nat} {xs : List Fd} (hnm : n ≤ 1000000) (hi : (Lit.int .i64 i).wf = true) {a b : ByteArray} {E : Int} (h1 : (atV xs i).1 = a) (h2 : (atV xs i).2 = b) (h3 : atE xs i = E) :
    Hid (∀ w0 : World, Fs w0 w0.heap.size A n xs → Calls Tryd.prog 15 #[.agg #[.int .i64 M, .slice A n c], .int .i64 i] w0 fun e w' => e = .returned (.tuple #[.agg #[.string a, .string b], .int .i64 E]) ∧ Below w0.heap.size w0 w') :=
  Lib.hid fun w0 h => by
    have h0 := r_at M A n c xs i w0 h hnm hi
    unfold fdv at h0
    rw [h1, h2, h3] at h0
    exact h0
theorem Up.size_call {x : Fd} {a b : ByteArray} {s : Nat} (h : x = (a, b)) (hs : sz x = s) (hb : s ≤ 4000000000000000000) :
    Hid (∀ w0 : World, Calls Tryd.prog 18 #[.agg #[.string a, .string b]] w0 fun e w' => e = .returned (.int .i64 (s : Int)) ∧ Below w0.heap.size w0 w') :=
  Lib.hid fun w0 => by
    have h0 := r_size x w0 (by omega)
    unfold fdv at h0
    rw [hs] at h0
    subst h
    exact h0
end Go.Proofs.YtfejohfplnbdkaaDoor
