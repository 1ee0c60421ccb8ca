/- Package unpack: numbers of what is left. -/
import Derived.Test.YtacnbpodcjefiaaDoorUpX
import Derived.Test.YtacnbpodcjefiaaDoorGRd
namespace Go.Proofs.YtacnbpodcjefiaaDoor
open Go.RowKit Px Tx Tb Up
set_option linter.unusedVariables false
set_option linter.unusedSimpArgs false
/-- A reader's cells. -/
def Up.rdc (K : Nat) (most M : Int) (A : Option Addr) (n c : Nat) (LA : Option Addr) (ln lc : Nat) : Array Value := #[.map (some K), .int .i64 most, .int .i64 M, .slice A n c, .slice LA ln lc]
theorem Up.cut_on {LA A2 : Option Addr} {ln lc k : Nat} {xs ys : List UInt8} {m B : Nat} {w : World} (h : (if lc = k then LA else LA.map fun x => x.add k) = A2) (hB : Bs w B LA ln xs) (hm : m ≤ ln) : ∀ b, (bF A2 m ys).on b → (bF LA ln xs).on b := fun b hb => by
  obtain ⟨h0, o, e⟩ := hb
  obtain ⟨q, r, e2, _, _⟩ := hB.2 (by omega)
  refine ⟨by omega, ?_⟩
  subst h
  subst e2
  split at e
  · exact ⟨o, e⟩
  · simp only [Option.map_some, Option.some.injEq] at e
    rw [Addr.add_lit] at e
    cases e
    exact ⟨_, rfl⟩
theorem infoc_SB : (Tryd.prog.info? 28).map (·.size) = some 1 := by kernel_rfl
namespace Up
/-- The variable of huff's rows, as a fact. -/
def rwF : Fact where
  on k := k = 6
  is w := Hf.Rws w
  dep w w' h hz hk := fun j v hj => (World.cell?_of_block (hk 6 rfl)).trans (h j v hj)
theorem EnvF.rws {w : World} {fs : List Fact} {gs : List Bx} (h : EnvF w fs gs) (hm : rwF ∈ fs) : Hf.Rws w := (h.f _ hm).1
section
variable {w w' : World} {fs : List Fact} {gs : List Bx} {i g K : Nat} {most : Int} {A : Option Addr} {n c : Nat} {LA : Option Addr} {ln lc : Nat} {s : Sta}
theorem set_ix {i : Nat} {x y : Bx} (h : gs[i]? = some x) : (gs.set i y)[i]? = some y := by
  rw [List.getElem?_set_self (List.getElem?_eq_some_iff.1 h).1]
end
end Up
set_option maxRecDepth 100000 in
set_option maxHeartbeats 4000000 in
theorem u_rest (a b : Nat) (w : World) (ha : a ≤ 8) :
    Calls Tryd.prog 37 #[.agg #[.int .u8 (a : Int), .int .u8 (b : Int)]] w fun e w' => e = .returned (.int .i64 ((8 - a : Nat) : Int)) ∧ Below w.heap.size w w' := by
  have h1 : IntKind.i64.wrap (a : Int) = (a : Int) := IntWalk.i64_in _ (by omega)
  have h2 : (8 : Int) - (a : Int) = ((8 - a : Nat) : Int) := by omega
  have h3 : IntKind.i64.wrap ((8 : Int) - (a : Int)) = ((8 - a : Nat) : Int) := by rw [IntWalk.i64_in _ (by omega)]; omega
  go_enter Tryd.func37, Tryd.ntmps37
  go_wp2
  go_ret
  exact ⟨rfl, (Below.refl _ w).alloc (Nat.le_refl _) _⟩
end Go.Proofs.YtacnbpodcjefiaaDoor
