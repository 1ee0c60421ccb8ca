/- What a long walk knows of memory, in one word: slices that read as bytes, structs of four cells. Plain, over any program. -/
import Derived.Test.YtodghbfgfdbaiaaGFour
namespace Go.Proofs.Ytodghbfgfdbaiaa
open Go.RowKit

structure Env (w : World) (ss : List (Option Addr × Nat × List UInt8)) (fs : List (Nat × Value × Value × Value × Value)) : Prop where
  s : ∀ x ∈ ss, Bs w w.heap.size x.1 x.2.1 x.2.2
  f : ∀ x ∈ fs, Four w x.1 x.2.1 x.2.2.1 x.2.2.2.1 x.2.2.2.2 ∧ x.1 < w.heap.size
section
variable {w w' : World} {ss : List (Option Addr × Nat × List UInt8)} {fs : List (Nat × Value × Value × Value × Value)}
theorem Env.nil (w : World) : Env w [] [] := ⟨fun _ h => (by cases h), fun _ h => (by cases h)⟩
theorem Env.on (h : Env w ss fs) (hb : Below w.heap.size w w') : Env w' ss fs :=
  ⟨fun x hx => ((h.s x hx).below hb).more hb.size, fun x hx => ⟨(h.f x hx).1.below hb (h.f x hx).2, Nat.lt_of_lt_of_le (h.f x hx).2 hb.size⟩⟩
theorem Env.al (h : Env w ss fs) (o : Obj) : Env (w.alloc o) ss fs := h.on ((Below.refl _ w).alloc (Nat.le_refl _) o)
theorem Env.addS (h : Env w ss fs) {A : Option Addr} {n : Nat} {xs : List UInt8} (hb : Bs w w.heap.size A n xs) : Env w ((A, n, xs) :: ss) fs :=
  ⟨fun x hx => by
    rcases List.mem_cons.1 hx with rfl | hx
    · exact hb
    · exact h.s x hx, h.f⟩
theorem Env.addF (h : Env w ss fs) {g : Nat} {u0 u1 u2 u3 : Value} (hb : Four w g u0 u1 u2 u3) (hg : g < w.heap.size) : Env w ss ((g, u0, u1, u2, u3) :: fs) :=
  ⟨h.s, fun x hx => by
    rcases List.mem_cons.1 hx with rfl | hx
    · exact ⟨hb, hg⟩
    · exact h.f x hx⟩
theorem Env.box (h : Env w ss fs) (t : TypeId) (u0 u1 u2 u3 : Value) : Env (w.alloc (.cells #[u0, u1, u2, u3] t)) ss ((w.heap.size, u0, u1, u2, u3) :: fs) :=
  (h.al _).addF (Four.new w t u0 u1 u2 u3) (by simp)
theorem Env.drew (h : Env w ss fs) : Env w.drew ss fs := ⟨h.s, h.f⟩
/-- The cells of three structs, as a region's condition. -/
theorem e12 (h : Env w ss fs) {g1 g2 g3 : Nat} {a0 a1 a2 a3 b0 b1 b2 b3 c0 c1 c2 c3 : Value} (h1 : (g1, a0, a1, a2, a3) ∈ fs) (h2 : (g2, b0, b1, b2, b3) ∈ fs) (h3 : (g3, c0, c1, c2, c3) ∈ fs) :
    w.cell? ⟨g1, 0, none⟩ = some a0 ∧ w.cell? ⟨g1, 1, none⟩ = some a1 ∧ w.cell? ⟨g1, 2, none⟩ = some a2 ∧ w.cell? ⟨g1, 3, none⟩ = some a3 ∧
    w.cell? ⟨g2, 0, none⟩ = some b0 ∧ w.cell? ⟨g2, 1, none⟩ = some b1 ∧ w.cell? ⟨g2, 2, none⟩ = some b2 ∧ w.cell? ⟨g2, 3, none⟩ = some b3 ∧
    w.cell? ⟨g3, 0, none⟩ = some c0 ∧ w.cell? ⟨g3, 1, none⟩ = some c1 ∧ w.cell? ⟨g3, 2, none⟩ = some c2 ∧ w.cell? ⟨g3, 3, none⟩ = some c3 := by
  obtain ⟨x0, x1, x2, x3⟩ := (h.f _ h1).1
  obtain ⟨y0, y1, y2, y3⟩ := (h.f _ h2).1
  obtain ⟨z0, z1, z2, z3⟩ := (h.f _ h3).1
  exact ⟨x0, x1, x2, x3, y0, y1, y2, y3, z0, z1, z2, z3⟩
theorem Env.lit (h : Env w ss fs) (t : TypeId) (xs : List UInt8) (cs : Array Value) (hx : (xs.map bv).toArray = cs) : Env (w.alloc (.cells cs t)) ((some ⟨w.heap.size, 0, none⟩, xs.length, xs) :: ss) fs :=
  (h.al _).addS (by rw [World.size_alloc]; exact bs_lit w t xs cs _ rfl hx)
theorem Env.litg (h : Env w ss fs) (t : TypeId) (xs : List UInt8) (cs : Array Value) (hx : (xs.map bv).toArray = cs) (g : Nat) (hg : w.heap.size = g) : Env (w.alloc (.cells cs t)) ((some ⟨g, 0, none⟩, xs.length, xs) :: ss) fs := by
  subst hg
  exact h.lit t xs cs hx
end
end Go.Proofs.Ytodghbfgfdbaiaa
