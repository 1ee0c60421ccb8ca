/- What a long walk knows of memory, in one word: slices that read as bytes, structs of four cells. Plain, over any program. -/
import Derived.Test.YtodghbfgfdbaiaaGFour
namespace Go.Proofs.Ytodghbfgfdbaiaa
open Go.RowKit

structure Env (w : World) (ss : List (Option Addr × Nat × List UInt8)) (fs : List (Nat × Value × Value × Value × Value)) : Prop where
  s : ∀ x ∈ ss, Bs w w.heap.size x.1 x.2.1 x.2.2
  f : ∀ x ∈ fs, Four w x.1 x.2.1 x.2.2.1 x.2.2.2.1 x.2.2.2.2 ∧ x.1 < w.heap.size
section
variable {w w' : World} {ss : List (Option Addr × Nat × List UInt8)} {fs : List (Nat × Value × Value × Value × Value)}
theorem Env.nil (w : World) : Env w [] [] := ⟨fun _ h => (by cases h), fun _ h => (by cases h)⟩
theorem Env.on (h : Env w ss fs) (hb : Below w.heap.size w w') : Env w' ss fs :=
  ⟨fun x hx => ((h.s x hx).below hb).more hb.size, fun x hx => ⟨(h.f x hx).1.below hb (h.f x hx).2, Nat.lt_of_lt_of_le (h.f x hx).2 hb.size⟩⟩
theorem Env.al (h : Env w ss fs) (o : Obj) : Env (w.alloc o) ss fs := h.on ((Below.refl _ w).alloc (Nat.le_refl _) o)
theorem Env.addS (h : Env w ss fs) {A : Option Addr} {n : Nat} {xs : List UInt8} (hb : Bs w w.heap.size A n xs) : Env w ((A, n, xs) :: ss) fs :=
  ⟨fun x hx => by
    rcases List.mem_cons.1 hx with rfl | hx
    · exact hb
    · exact h.s x hx, h.f⟩
theorem Env.addF (h : Env w ss fs) {g : Nat} {u0 u1 u2 u3 : Value} (hb : Four w g u0 u1 u2 u3) (hg : g < w.heap.size) : Env w ss ((g, u0, u1, u2, u3) :: fs) :=
  ⟨h.s, fun x hx => by
    rcases List.mem_cons.1 hx with rfl | hx
    · exact ⟨hb, hg⟩
    · exact h.f x hx⟩
theorem Env.box (h : Env w ss fs) (t : TypeId) (u0 u1 u2 u3 : Value) : Env (w.alloc (.cells #[u0, u1, u2, u3] t)) ss ((w.heap.size, u0, u1, u2, u3) :: fs) :=
  (h.al _).addF (Four.new w t u0 u1 u2 u3) (by simp)
theorem Env.lit (h : Env w ss fs) (t : TypeId) (xs : List UInt8) (cs : Array Value) (hx : (xs.map bv).toArray = cs) : Env (w.alloc (.cells cs t)) ((some ⟨w.heap.size, 0, none⟩, xs.length, xs) :: ss) fs :=
  (h.al _).addS (by rw [World.size_alloc]; exact bs_lit w t xs cs _ rfl hx)
theorem Env.litg (h : Env w ss fs) (t : TypeId) (xs : List UInt8) (cs : Array Value) (hx : (xs.map bv).toArray = cs) (g : Nat) (hg : w.heap.size = g) : Env (w.alloc (.cells cs t)) ((some ⟨g, 0, none⟩, xs.length, xs) :: ss) fs := by
  subst hg
  exact h.lit t xs cs hx
end
end Go.Proofs.Ytodghbfgfdbaiaa
