/- The document's own answers of layer 2: Take, Whole. -/
import Derived.Test.YtbflhphjnmhjhaaGreatHdF
import Derived.Test.YtbflhphjnmhjhaaGreatGOwn
import Derived.Test.YtbflhphjnmhjhaaGreatMo
import Derived.Deep.RegionHeld3
import Derived.BigRegion
namespace Go.Proofs.YtbflhphjnmhjhaaGreat
open Go.RowKit Oct

theorem four_box2 {w w5 : World} {u0 u1 u2 u3 : Value} {t s : TypeId} (hb : Below (w.heap.size + 1) ((w.alloc (.cells #[u0, u1, u2, u3] t)).alloc (.cells #[] s)).drew w5) :
    Four w5 w.heap.size u0 u1 u2 u3 ∧ ∀ j, w5.frozen? ⟨w.heap.size, j, none⟩ = false := by
  refine ⟨((Four.new w t u0 u1 u2 u3).below (B := w.heap.size + 1) ((Below.refl _ _).alloc (by simp) _) (by omega)).drew.below hb (by omega), fun j => ?_⟩
  rw [(bcell hb).2 _ j (by omega)]
  show ((w.alloc (.cells #[u0, u1, u2, u3] t)).alloc (.cells #[] s)).frozen? _ = false
  simp [go_sem]
theorem cell_old {w w5 : World} {o1 o2 : Obj} {b i : Nat} {u : Value} (hb : Below (w.heap.size + 1) ((w.alloc o1).alloc o2).drew w5) (hl : b < w.heap.size) (h : w.cell? ⟨b, i, none⟩ = some u) : w5.cell? ⟨b, i, none⟩ = some u := by
  rw [(bcell hb).1 _ i (by omega)]
  show ((w.alloc o1).alloc o2).cell? _ = _
  rw [World.cell?_alloc_lt _ _ _ (by simp; omega), World.cell?_alloc_lt _ _ _ (by simpa using hl)]
  exact h
theorem cell_set4 {w : World} {g b i : Nat} {u0 u1 u2 u3 u : Value} (hne : b ≠ g) (h : w.cell? ⟨b, i, none⟩ = some u) : (set4 w g u0 u1 u2 u3).cell? ⟨b, i, none⟩ = some u :=
  (World.cell?_of_block (a := ⟨b, i, none⟩) (set4_heap w g u0 u1 u2 u3 b hne)).trans h
theorem cell_ald {w : World} {o1 : Obj} {b i : Nat} {u : Value} (hl : b < w.heap.size) (h : w.cell? ⟨b, i, none⟩ = some u) : (w.alloc o1).drew.cell? ⟨b, i, none⟩ = some u := cell_al hl h
theorem cell_al2 {w : World} {o1 o2 : Obj} {b i : Nat} {u : Value} (hl : b < w.heap.size) (h : w.cell? ⟨b, i, none⟩ = some u) : ((w.alloc o1).alloc o2).cell? ⟨b, i, none⟩ = some u :=
  cell_al (by simp; omega) (cell_al hl h)
theorem cell_al2d {w : World} {o1 o2 : Obj} {b i : Nat} {u : Value} (hl : b < w.heap.size) (h : w.cell? ⟨b, i, none⟩ = some u) : ((w.alloc o1).alloc o2).drew.cell? ⟨b, i, none⟩ = some u := cell_al2 hl h
theorem cell_st4 {w : World} {g b i : Nat} {u0 u1 u2 u3 u : Value} (hne : b ≠ g) (h : w.cell? ⟨b, i, none⟩ = some u) :
    ((((w.setCell ⟨g, 0, none⟩ u0).setCell ⟨g, 1, none⟩ u1).setCell ⟨g, 2, none⟩ u2).setCell ⟨g, 3, none⟩ u3).cell? ⟨b, i, none⟩ = some u := cell_set4 hne h
theorem rtake3 (A : Option Addr) (B n c : Nat) (xs : List UInt8) (w : World) (hA : Bs w B A n xs) (h9 : 9 ≤ n) (hn : n ≤ 1000000) :
    Calls Tryz.prog 79 #[.slice A n c, .int .i64 0, .int .i64 3] w fun e w' => e = .returned (.tuple #[.int .i64 (hL xs), .int .i64 0]) ∧ w = w' :=
  rtake_ok A B n c xs 0 3 w hA (by omega) (by omega) (by omega) (by omega) hn
theorem rstream5 (A : Option Addr) (B n c : Nat) (xs : List UInt8) (w : World) (hA : Bs w B A n xs) (h9 : 9 ≤ n) (hn : n ≤ 1000000) :
    Calls Tryz.prog 80 #[.slice A n c, .int .i64 5] w fun e w' => e = .returned (.tuple #[.int .i64 (hS xs), .int .i64 0]) ∧ w = w' :=
  rstream_ok A B n c xs 5 w hA (by omega) (by omega) hn
end Go.Proofs.YtbflhphjnmhjhaaGreat
