/- The document's small calls of layer 4: has, far, long, fine, Whole, Of, ahead. -/
import Derived.Test.YtgkbjopgmbdnoaaFrX
import Derived.Test.YtgkbjopgmbdnoaaGOwn
namespace Go.Proofs.Ytgkbjopgmbdnoaa
open Go.RowKit Oct Fi Fm
attribute [local go_sem] i64_and1 i64_and7 i64_and31

theorem four_on {u0 u1 u2 u3 : Value} {w1 : World} (w : World) (t : TypeId) (hb : Below (w.alloc (.cells #[u0, u1, u2, u3] t)).heap.size (w.alloc (.cells #[u0, u1, u2, u3] t)) w1) : Four w1 w.heap.size u0 u1 u2 u3 :=
  (Four.new w t u0 u1 u2 u3).below hb (by simp)
theorem ret_bool4 {b c : Bool} (h : b = c) : Ending.returned (.bool b) = .returned (.bool c) := by rw [h]
theorem lit_lt {w w1 : World} {o : Obj} (hb : Below (w.alloc o).heap.size (w.alloc o) w1) : w.heap.size < w1.heap.size := by
  have := hb.size
  simp at this
  omega
theorem longB_ways (k : Nat) (F : UInt8) (n : Nat) (p r a : Bool) (hp : hasB (F.toNat : Int) 8 = p) (hr : hasB (F.toNat : Int) 32 = r) (ha : hasB (F.toNat : Int) 1 = a) :
    longB k F n = if k = 0 then decide (n < if p then 1 else 0) else if k = 1 then decide (n < (if p then 1 else 0) + if r then 5 else 0) else if k = 2 then n != 5 else if k = 3 ∨ k = 8 then n != 4 else if k = 6 then n != 8
      else if k = 4 then (n % 6 != 0 || a && n != 0) else if k = 7 then decide (n < 8) else if k = 16 then decide (n < 4) else false := by
  unfold longB padN rankN
  rw [hp, hr, ha]
end Go.Proofs.Ytgkbjopgmbdnoaa
