/- The statements' own samples of layer 5: wakes. -/
import Derived.Test.YtjoopekgbfplpaaCuI
import Derived.Deep.RegionHeld3
import Derived.BigRegion
namespace Go.Proofs.Ytjoopekgbfplpaa
open Go.RowKit Oct Cu Go.Shelf
set_option linter.unusedVariables false
set_option linter.unusedSimpArgs false
/-- A second thing that the same call handed back. -/
theorem EnvF.hand2 {w' : World} {fs : List Fact} {gs : List Bx} {x : Fact} (h : EnvF w' fs gs) {w0 : World} {fs0 : List Fact} (h0 : EnvF w0 fs0 gs) (hb : Below w0.heap.size w0 w') (hx : HandF w' w0.heap.size x) : EnvF w' (x :: fs) gs :=
  ⟨fun y hy => by
    rcases List.mem_cons.1 hy with rfl | hy
    · exact ⟨hx.1, fun k hk => ⟨(hx.2 k hk).2, fun z hz => by have := h0.lt hz; have := (hx.2 k hk).1; omega⟩⟩
    · exact h.f y hy, h.g, h.d⟩
set_option maxRecDepth 100000 in
theorem s_feed1 (A' : Option Addr) (c' : Nat) (w : World) (hA' : Bs w w.heap.size A' 34 [80, 82, 73, 32, 42, 32, 72, 84, 84, 80, 47, 50, 46, 48, 13, 10, 13, 10, 83, 77, 13, 10, 13, 10, 0, 0, 0, 4, 0, 0, 0, 0, 0, 7]) (hN' : A' = none → c' = 0) (hnc' : 34 ≤ c') :
    Calls Try.prog 7 #[.agg #[.int .i64 0, .slice none 0 0], .slice A' 34 c'] w fun e w' => ∃ A1 c1 A2 c2 qs,
      e = .returned (.tuple #[.agg #[.int .i64 24, .slice A1 1 c1], .slice A2 1 c2, .agg #[.bool false, .int .i64 0, .int .u32 0], .int .i64 0]) ∧
        HandS w' w.heap.size A1 1 c1 [7] ∧ HandQ w' w.heap.size A2 1 c2 qs ∧ qs.map (·.f) = [[0, 0, 0, 4, 0, 0, 0, 0, 0]] ∧ Below w.heap.size w w' := by
  have h := c_feed 0 none A' 0 0 34 c' [] [80, 82, 73, 32, 42, 32, 72, 84, 84, 80, 47, 50, 46, 48, 13, 10, 13, 10, 83, 77, 13, 10, 13, 10, 0, 0, 0, 4, 0, 0, 0, 0, 0, 7] w Bs.none_ (fun _ => rfl) (Nat.le_refl _) (by omega) hA' hN' hnc' (by omega) (right_nil (by omega))
  rw [show fdP 0 [80, 82, 73, 32, 42, 32, 72, 84, 84, 80, 47, 50, 46, 48, 13, 10, 13, 10, 83, 77, 13, 10, 13, 10, 0, 0, 0, 4, 0, 0, 0, 0, 0, 7] = 24 by decide +kernel, show fdX 0 [] [80, 82, 73, 32, 42, 32, 72, 84, 84, 80, 47, 50, 46, 48, 13, 10, 13, 10, 83, 77, 13, 10, 13, 10, 0, 0, 0, 4, 0, 0, 0, 0, 0, 7] = 0 by decide +kernel, show fdR 0 [] [80, 82, 73, 32, 42, 32, 72, 84, 84, 80, 47, 50, 46, 48, 13, 10, 13, 10, 83, 77, 13, 10, 13, 10, 0, 0, 0, 4, 0, 0, 0, 0, 0, 7] = [7] by decide +kernel, show fdL 0 [] [80, 82, 73, 32, 42, 32, 72, 84, 84, 80, 47, 50, 46, 48, 13, 10, 13, 10, 83, 77, 13, 10, 13, 10, 0, 0, 0, 4, 0, 0, 0, 0, 0, 7] = [[0, 0, 0, 4, 0, 0, 0, 0, 0]] by decide +kernel] at h
  exact h
set_option maxRecDepth 100000 in
theorem s_feed2 (A' : Option Addr) (c' : Nat) (w : World) (hA' : Bs w w.heap.size A' 1 [71]) (hN' : A' = none → c' = 0) (hnc' : 1 ≤ c') :
    Calls Try.prog 7 #[.agg #[.int .i64 0, .slice none 0 0], .slice A' 1 c'] w fun e w' => ∃ A1 c1 A2 c2 qs,
      e = .returned (.tuple #[.agg #[.int .i64 0, .slice A1 0 c1], .slice A2 0 c2, .agg #[.bool true, .int .i64 0, .int .u32 1], .int .i64 0]) ∧
        HandS w' w.heap.size A1 0 c1 [] ∧ HandQ w' w.heap.size A2 0 c2 qs ∧ qs.map (·.f) = [] ∧ Below w.heap.size w w' := by
  have h := c_feed 0 none A' 0 0 1 c' [] [71] w Bs.none_ (fun _ => rfl) (Nat.le_refl _) (by omega) hA' hN' hnc' (by omega) (right_nil (by omega))
  rw [show fdP 0 [71] = 0 by decide +kernel, show fdX 0 [] [71] = 1 by decide +kernel, show fdR 0 [] [71] = [] by decide +kernel, show fdL 0 [] [71] = [] by decide +kernel] at h
  exact h
set_option maxRecDepth 100000 in
theorem s_feed3 (A' : Option Addr) (c' : Nat) (w : World) (hA' : Bs w w.heap.size A' 9 [0, 64, 1, 0, 0, 0, 0, 0, 1]) (hN' : A' = none → c' = 0) (hnc' : 9 ≤ c') :
    Calls Try.prog 7 #[.agg #[.int .i64 24, .slice none 0 0], .slice A' 9 c'] w fun e w' => ∃ A1 c1 A2 c2 qs,
      e = .returned (.tuple #[.agg #[.int .i64 24, .slice A1 0 c1], .slice A2 0 c2, .agg #[.bool true, .int .i64 0, .int .u32 6], .int .i64 0]) ∧
        HandS w' w.heap.size A1 0 c1 [] ∧ HandQ w' w.heap.size A2 0 c2 qs ∧ qs.map (·.f) = [] ∧ Below w.heap.size w w' := by
  have h := c_feed 24 none A' 0 0 9 c' [] [0, 64, 1, 0, 0, 0, 0, 0, 1] w Bs.none_ (fun _ => rfl) (Nat.le_refl _) (by omega) hA' hN' hnc' (by omega) (right_nil (by omega))
  rw [show fdP 24 [0, 64, 1, 0, 0, 0, 0, 0, 1] = 24 by decide +kernel, show fdX 24 [] [0, 64, 1, 0, 0, 0, 0, 0, 1] = 6 by decide +kernel, show fdR 24 [] [0, 64, 1, 0, 0, 0, 0, 0, 1] = [] by decide +kernel, show fdL 24 [] [0, 64, 1, 0, 0, 0, 0, 0, 1] = [] by decide +kernel] at h
  exact h
theorem s5_of {w : World} {g1 g2 g3 g4 b o : Nat} {a0 a1 b0 b1 b2 c0 c1 c2 d0 d1 d2 : Value} {t1 t2 t3 t4 : TypeId} {A : Option Addr} {c : Nat} (h1 : w.heap[g1]? = some (.cells #[a0, a1] t1)) (h2 : w.heap[g2]? = some (.cells #[b0, b1, b2] t2)) (h3 : w.heap[g3]? = some (.cells #[c0, c1, c2] t3)) (h4 : w.heap[g4]? = some (.cells #[d0, d1, d2] t4)) (h5 : w.cell? ⟨b, o + 1, none⟩ = some (.int .u8 4) ∧ w.cell? ⟨b, o + 4, none⟩ = some (.slice A 0 c)) :
    w.cell? ⟨g1, 0, none⟩ = some a0 ∧ w.cell? ⟨g1, 1, none⟩ = some a1 ∧ w.cell? ⟨g2, 0, none⟩ = some b0 ∧ w.cell? ⟨g2, 1, none⟩ = some b1 ∧ w.cell? ⟨g2, 2, none⟩ = some b2 ∧ w.cell? ⟨g3, 0, none⟩ = some c0 ∧ w.cell? ⟨g3, 1, none⟩ = some c1 ∧ w.cell? ⟨g3, 2, none⟩ = some c2 ∧ w.cell? ⟨g4, 0, none⟩ = some d0 ∧ w.cell? ⟨g4, 1, none⟩ = some d1 ∧ w.cell? ⟨g4, 2, none⟩ = some d2 ∧ w.cell? ⟨b, o + 1, none⟩ = some (.int .u8 4) ∧ w.cell? ⟨b, o + 4, none⟩ = some (.slice A 0 c) := by
  obtain ⟨x0, x1⟩ := cells2_row h1
  obtain ⟨y0, y1, y2⟩ := c3_row h2
  obtain ⟨z0, z1, z2⟩ := c3_row h3
  obtain ⟨u0, u1, u2⟩ := c3_row h4
  exact ⟨x0, x1, y0, y1, y2, z0, z1, z2, u0, u1, u2, h5⟩
theorem q5_of {w : World} {b o : Nat} {x : Pq} (h : Qs w (some ⟨b, o, none⟩) 1 [x]) (hx : x.f = [0, 0, 0, 4, 0, 0, 0, 0, 0]) : w.cell? ⟨b, o + 1, none⟩ = some (.int .u8 4) ∧ w.cell? ⟨b, o + 4, none⟩ = some (.slice x.A 0 x.c) := by
  obtain ⟨bq, oq, e, _, hr⟩ := h.row (by omega)
  cases e
  obtain ⟨y, hy, _, _, c1, _, _, c4⟩ := hr 0 (by omega)
  simp only [List.getElem?_cons_zero, Option.some.injEq] at hy
  subst hy
  rw [hx] at c1 c4
  rw [show hK [0, 0, 0, 4, 0, 0, 0, 0, 0] = 4 by decide +kernel] at c1
  simp only [Nat.zero_mul, Nat.add_zero] at c1 c4
  exact ⟨c1, c4⟩
theorem s_feed4 (w : World) : Calls Try.prog 7 #[.agg #[.int .i64 25, .slice none 0 0], .slice none 0 0] w fun e w' => ∃ A1 c1, e = .returned (.tuple #[.agg #[.int .i64 25, .slice A1 0 c1], .slice none 0 0, .agg #[.bool false, .int .i64 0, .int .u32 0], .int .i64 2]) ∧ HandS w' w.heap.size A1 0 c1 [] ∧ Below w.heap.size w w' :=
  c_feed0 25 none none 0 0 0 0 [] w Bs.none_ (fun _ => rfl) (Nat.le_refl _) (by omega) (fun h => by unfold RightR at h; omega)
theorem s_right (A : Option Addr) (c : Nat) (w : World) (hA : Bs w w.heap.size A 1 [7]) (hnc : 1 ≤ c) : Calls Try.prog 15 #[.agg #[.int .i64 24, .slice A 1 c]] w fun e w' => e = .returned (.bool true) ∧ Below w.heap.size w w' :=
  c_right_t 24 A 1 c [7] w hA hnc (by omega) ((rightR_24 _).2 (fun h => by simp at h))
theorem s_rightN (A : Option Addr) (c : Nat) (w : World) (hA : Bs w w.heap.size A 1 [1]) (hnc : 1 ≤ c) : Calls Try.prog 15 #[.agg #[.int .i64 1, .slice A 1 c]] w fun e w' => e = .returned (.bool false) ∧ Below w.heap.size w w' :=
  c_right_f 1 A 1 c [1] w hA hnc (by omega) (fun h => by have := (rightR_lt (by omega) (by omega)).1 h; simp at this)
end Go.Proofs.Ytjoopekgbfplpaa
