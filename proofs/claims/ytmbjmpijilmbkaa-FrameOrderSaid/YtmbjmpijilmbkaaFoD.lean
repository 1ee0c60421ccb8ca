/- FrameOrder: what Parse tells of noughts, for a walk. -/
import Derived.Test.YtmbjmpijilmbkaaFoX
import Derived.Test.YtmbjmpijilmbkaaMd
import Derived.Test.YtmbjmpijilmbkaaGDraw
namespace Go.Proofs.Ytmbjmpijilmbkaa
open Go.RowKit Oct Fi Fm
set_option linter.unusedVariables false
namespace Fm
def WakesTo : Prop := ∀ w : World, Calls Try.prog 6 #[] w fun e w' => e = .returned (.bool true) ∧ Below w.heap.size w w'
def ParseTo (kv fv sv : Int) (n : Nat) (xb : Bool) (xs xc : Int) : Prop :=
  ∀ (A : Option Addr) (c : Nat) (w0 : World), Bs w0 w0.heap.size A n (List.replicate n 0) → (A = none → c = 0) → n ≤ c →
    Calls Try.prog 7 #[.agg #[.int .i64 0, .int .u8 kv, .int .u8 fv, .int .i64 sv], .slice A n c] w0 fun e w' =>
      ∃ (d : Fr) (A7 : Option Addr) (n7 c7 : Nat) (A8 : Option Addr) (n8 c8 : Nat), e = .returned (.tuple #[.agg #[.int .u8 (d.kd.toNat : Int), .int .u8 (d.fl.toNat : Int), .int .i64 d.st, .slice A7 n7 c7, .int .i64 d.pd, .int .i64 d.la, .int .i64 d.ic, .int .u32 (d.co.toNat : Int), .slice A8 n8 c8, .bool d.rk, .bool d.al, .int .i64 d.dp, .int .u8 (d.wt.toNat : Int)], .agg #[.bool xb, .int .i64 xs, .int .u32 xc]]) ∧ Below w0.heap.size w0 w'
theorem parse_to (K F : UInt8) (S : Int) (n : Nat) (hn : n ≤ 100000) (xb : Bool) (xs : Int) (xc : Nat) (h : (parseR K F S (List.replicate n 0)).2 = (xb, xs, xc)) : ParseTo (K.toNat : Int) (F.toNat : Int) S n xb xs (xc : Int) := by
  intro A c w0 hA hN hnc
  refine (p_parse 0 S K F A n c (List.replicate n 0) w0 hA hN hn hnc).mono ?_
  rintro e w' ⟨A7, n7, c7, A8, n8, c8, rfl, _, _, hb⟩
  rw [h]
  exact ⟨_, A7, n7, c7, A8, n8, c8, rfl, hb⟩
/-- Where nothing is asked: some fault. -/
theorem parse_some (K F : UInt8) (S : Int) (n : Nat) (hn : n ≤ 100000) : ∃ xb xs xc, ParseTo (K.toNat : Int) (F.toNat : Int) S n xb xs xc :=
  ⟨_, _, _, parse_to K F S n hn _ _ _ rfl⟩
theorem parse_ord (K F : UInt8) (S : Int) (n : Nat) (hn : n ≤ 100000) (h0 : headB 0 S = true) {xb : Bool} {xs : Int} {xc : Nat} (hx : ordX K.toNat S n = some (xb, xs, xc)) : ParseTo (K.toNat : Int) (F.toNat : Int) S n xb xs (xc : Int) :=
  parse_to K F S n hn _ _ _ (ord_parse K F S n _ h0 hx)
end Fm
end Go.Proofs.Ytmbjmpijilmbkaa
