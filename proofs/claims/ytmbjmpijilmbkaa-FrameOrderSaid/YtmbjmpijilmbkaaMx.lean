/- FrA, FrB, FrC, FrD, FrE, FrF, FrG, FrH, FrI, FrJ. -/
import Derived.Test.YtmbjmpijilmbkaaFrX
import Derived.Test.YtmbjmpijilmbkaaGOwn
import Derived.Test.YtmbjmpijilmbkaaFiD
import Derived.Test.YtmbjmpijilmbkaaFiF
import Derived.Test.YtmbjmpijilmbkaaOcRStr
import Derived.Test.YtmbjmpijilmbkaaOcTot
import Derived.Test.YtmbjmpijilmbkaaGPut
import Derived.Deep.RegionHeld3
import Derived.BigRegion
/- The document's small calls of layer 4: has, far, long, fine, Whole, Of, ahead. -/
namespace Go.Proofs.Ytmbjmpijilmbkaa
open Go.RowKit Oct Fi Fm
attribute [local go_sem] i64_and1 i64_and7 i64_and31

theorem four_on {u0 u1 u2 u3 : Value} {w1 : World} (w : World) (t : TypeId) (hb : Below (w.alloc (.cells #[u0, u1, u2, u3] t)).heap.size (w.alloc (.cells #[u0, u1, u2, u3] t)) w1) : Four w1 w.heap.size u0 u1 u2 u3 :=
  (Four.new w t u0 u1 u2 u3).below hb (by simp)
theorem ret_bool4 {b c : Bool} (h : b = c) : Ending.returned (.bool b) = .returned (.bool c) := by rw [h]
theorem lit_lt {w w1 : World} {o : Obj} (hb : Below (w.alloc o).heap.size (w.alloc o) w1) : w.heap.size < w1.heap.size := by
  have := hb.size
  simp at this
  omega
theorem longB_ways (k : Nat) (F : UInt8) (n : Nat) (p r a : Bool) (hp : hasB (F.toNat : Int) 8 = p) (hr : hasB (F.toNat : Int) 32 = r) (ha : hasB (F.toNat : Int) 1 = a) :
    longB k F n = if k = 0 then decide (n < if p then 1 else 0) else if k = 1 then decide (n < (if p then 1 else 0) + if r then 5 else 0) else if k = 2 then n != 5 else if k = 3 ∨ k = 8 then n != 4 else if k = 6 then n != 8
      else if k = 4 then (n % 6 != 0 || a && n != 0) else if k = 7 then decide (n < 8) else if k = 16 then decide (n < 4) else false := by
  unfold longB padN rankN
  rw [hp, hr, ha]
end Go.Proofs.Ytmbjmpijilmbkaa
/- The document's ahead: the faults that are told before a payload is taken apart. -/
namespace Go.Proofs.Ytmbjmpijilmbkaa
open Go.RowKit Oct Fi Fm
attribute [local go_sem] i64_and1 i64_and7 i64_and31

/-- The boxes of a head and of a fault, laid one behind the other, in any later world. -/
theorem hf_boxes {w w1 : World} {u0 u1 u2 u3 v0 v1 v2 : Value} {t s : TypeId} (hb : Below ((w.alloc (.cells #[u0, u1, u2, u3] t)).alloc (.cells #[v0, v1, v2] s)).heap.size ((w.alloc (.cells #[u0, u1, u2, u3] t)).alloc (.cells #[v0, v1, v2] s)) w1) :
    (w1.cell? ⟨w.heap.size, 0, none⟩ = some u0 ∧ w1.cell? ⟨w.heap.size, 1, none⟩ = some u1 ∧ w1.cell? ⟨w.heap.size, 2, none⟩ = some u2 ∧ w1.cell? ⟨w.heap.size, 3, none⟩ = some u3) ∧
    (w1.cell? ⟨w.heap.size + 1, 0, none⟩ = some v0 ∧ w1.cell? ⟨w.heap.size + 1, 1, none⟩ = some v1 ∧ w1.cell? ⟨w.heap.size + 1, 2, none⟩ = some v2) ∧ (∀ j, w1.frozen? ⟨w.heap.size + 1, j, none⟩ = false) ∧ Below w.heap.size w w1 ∧ w1.heap[w.heap.size + 1]? = some (.cells #[v0, v1, v2] s) := by
  refine ⟨?_, ?_, fun j => ?_, ?_, ?_⟩
  · have h := ((Four.new w t u0 u1 u2 u3).below ((Below.refl _ _).alloc (Nat.le_refl _) (.cells #[v0, v1, v2] s)) (by simp)).below hb (by simp; omega)
    exact h
  · have h := c3_al (c3_new (w.alloc (.cells #[u0, u1, u2, u3] t)) s v0 v1 v2) hb (by simp)
    rwa [World.size_alloc] at h
  · rw [hb.frozen (p := ⟨w.heap.size + 1, j, none⟩) (by simp)]
    simp [go_sem]
  · exact (((Below.refl _ w).alloc (Nat.le_refl _) _).alloc (by simp) _).trans (hb.mono (by simp; omega))
  · rw [hb.block _ (by simp)]
    have h := World.alloc_heap_new (w.alloc (.cells #[u0, u1, u2, u3] t)) (.cells #[v0, v1, v2] s)
    rwa [World.size_alloc] at h
theorem row_set3 {w : World} {g : Nat} {v0 v1 v2 : Value} {s : TypeId} (h : w.heap[g]? = some (.cells #[v0, v1, v2] s)) (u0 u1 u2 : Value) : (set3 w g u0 u1 u2).heap[g]? = some (.cells #[u0, u1, u2] s) := by
  unfold set3
  have h0 := heap_setCell_same w g 0 _ s u0 h
  have h1 := heap_setCell_same _ g 1 _ s u1 h0
  have h2 := heap_setCell_same _ g 2 _ s u2 h1
  simpa using h2
theorem fault_res {fn : Func} {p : Tmp} (hfn : fn.results = #[.cell p 34]) (tmps : Array Value) {w : World} {g : Nat} {v0 v1 v2 u0 u1 u2 : Value} {s : TypeId} (h : w.heap[g]? = some (.cells #[v0, v1, v2] s)) (hp : tmps.getD p undef = .pointer (some ⟨g, 0, none⟩)) :
    (results fn tmps).run Try.prog (set3 w g u0 u1 u2) = .ok (.agg #[u0, u1, u2]) (set3 w g u0 u1 u2) :=
  results_cell_row hfn tmps _ g s _ _ _ hp (row_set3 h u0 u1 u2) Try.underlying34 rfl (by kernel_rfl)
end Go.Proofs.Ytmbjmpijilmbkaa
/- The document's number, own, set. -/
namespace Go.Proofs.Ytmbjmpijilmbkaa
open Go.RowKit Oct Fi Fm
attribute [local go_sem] i64_and1 i64_and7 i64_and31
set_option linter.unusedSimpArgs false
namespace Fm
def numN (xs : List UInt8) (n i : Nat) : Nat := if i + 4 ≤ n then takeB ((xs.drop i).take 4) else 0
def ownN (xs : List UInt8) (n i : Nat) : Nat := if i + 4 ≤ n then takeB ((xs.drop i).take 4) % 2147483648 else 0
def setX (p : Pr) : Ft :=
  if (p.1.toNat = 2 ∨ p.1.toNat = 9) ∧ 1 < p.2.toNat then whole 1 else if p.1.toNat = 5 ∧ (p.2.toNat < 16384 ∨ 16777215 < p.2.toNat) then whole 1 else if p.1.toNat = 4 ∧ 2147483647 < p.2.toNat then whole 3 else fine
end Fm
theorem numN_lt (xs : List UInt8) (n i : Nat) : numN xs n i < 4294967296 := by
  unfold numN
  split
  · have := takeB_le xs i 4
    simpa using this
  · omega
theorem pf_boxes {w w1 : World} {u0 u1 v0 v1 v2 : Value} {t s : TypeId} (hb : Below ((w.alloc (.cells #[u0, u1] t)).alloc (.cells #[v0, v1, v2] s)).heap.size ((w.alloc (.cells #[u0, u1] t)).alloc (.cells #[v0, v1, v2] s)) w1) :
    (w1.cell? ⟨w.heap.size + 1, 0, none⟩ = some v0 ∧ w1.cell? ⟨w.heap.size + 1, 1, none⟩ = some v1 ∧ w1.cell? ⟨w.heap.size + 1, 2, none⟩ = some v2) ∧ (∀ j, w1.frozen? ⟨w.heap.size + 1, j, none⟩ = false) ∧ Below w.heap.size w w1 ∧ w1.heap[w.heap.size + 1]? = some (.cells #[v0, v1, v2] s) := by
  refine ⟨?_, fun j => ?_, ?_, ?_⟩
  · have h := c3_al (c3_new (w.alloc (.cells #[u0, u1] t)) s v0 v1 v2) hb (by simp)
    rwa [World.size_alloc] at h
  · rw [hb.frozen (p := ⟨w.heap.size + 1, j, none⟩) (by simp)]
    simp [go_sem]
  · exact (((Below.refl _ w).alloc (Nat.le_refl _) _).alloc (by simp) _).trans (hb.mono (by simp; omega))
  · rw [hb.block _ (by simp)]
    have h := World.alloc_heap_new (w.alloc (.cells #[u0, u1] t)) (.cells #[v0, v1, v2] s)
    rwa [World.size_alloc] at h
end Go.Proofs.Ytmbjmpijilmbkaa
/- The document's data: what stands in DATA's and HEADERS' payload. -/
namespace Go.Proofs.Ytmbjmpijilmbkaa
open Go.RowKit Oct Fi Fm
set_option linter.unusedVariables false
attribute [local go_sem] i64_and1 i64_and7 i64_and31

theorem info_F : (Try.prog.info? 32).map (·.size) = some 13 := by kernel_rfl
theorem info_H : (Try.prog.info? 23).map (·.size) = some 4 := by kernel_rfl
theorem info_X : (Try.prog.info? 34).map (·.size) = some 3 := by kernel_rfl
theorem info_R : (Try.prog.info? 30).map (·.size) = some 3 := by kernel_rfl
theorem info_B : (Try.prog.info? 26).map (·.size) = some 1 := by kernel_rfl
theorem info_P : (Try.prog.info? 28).map (·.size) = some 1 := by kernel_rfl
theorem info_i : (Try.prog.info? 3).map (·.size) = some 1 := by kernel_rfl
theorem info_n8 : (Try.prog.info? 5).map (·.size) = some 1 := by kernel_rfl
theorem info_u32 : (Try.prog.info? 27).map (·.size) = some 1 := by kernel_rfl
theorem info_b : (Try.prog.info? 4).map (·.size) = some 1 := by kernel_rfl
end Go.Proofs.Ytmbjmpijilmbkaa
/- The document's data, whatever it is handed. -/
namespace Go.Proofs.Ytmbjmpijilmbkaa
open Go.RowKit Oct Fi Fm
namespace Fm
def data1 (K F : UInt8) (S : Int) (xs : List UInt8) : Fr × Bool :=
  if hasB (F.toNat : Int) 8 = true then if UnIn xs xs.length then ({ frZ K F S with da := unV xs xs.length, pd := unN xs xs.length }, true) else ({ frZ K F S with da := xs }, false) else ({ frZ K F S with da := xs }, true)
def rank1 (f : Fr) : Fr × Bool :=
  if 5 ≤ f.da.length then ({ f with rk := true, al := trA f.da f.da.length, dp := trD f.da f.da.length, wt := f.da[4]?.getD 0, da := trR f.da f.da.length }, true) else (f, false)
def dataR (K F : UInt8) (S : Int) (xs : List UInt8) : Fr × Bool :=
  if (data1 K F S xs).2 = true then if K.toNat = 1 ∧ hasB (F.toNat : Int) 32 = true then rank1 (data1 K F S xs).1 else (data1 K F S xs).1 |> fun f => (f, true) else ((data1 K F S xs).1, false)
end Fm
theorem unV_len (xs : List UInt8) (n : Nat) : (unV xs n).length ≤ xs.length := by
  unfold unV
  split
  · simp; omega
  · simp
end Go.Proofs.Ytmbjmpijilmbkaa
/- The document's values: the faults of what stands in a frame. -/
namespace Go.Proofs.Ytmbjmpijilmbkaa
open Go.RowKit Oct Fi Fm
set_option linter.unusedVariables false
set_option linter.unusedSimpArgs false
attribute [local go_sem] i64_and1 i64_and7 i64_and31
namespace Fm
def pairsX (l : List Pr) : Ft := match l.find? (fun p => decide (setX p ≠ fine)) with
  | some p => setX p
  | none => fine
def valuesI (px : Ft) (b8 bi bs b16 bl rk bd : Bool) (st : Int) : Ft :=
  if px ≠ fine then px else if b8 && bi && bs then whole 1 else if b8 && bi then (false, st, 1) else if b16 && bl then whole 1 else if rk && bd then (false, st, 1) else fine
def valuesX (f : Fr) : Ft := valuesI (pairsX f.ps) ((f.kd.toNat : Int) == 8) (f.ic == 0) (f.st == 0) ((f.kd.toNat : Int) == 16) (f.la == 0) f.rk (f.dp == f.st) f.st
end Fm
theorem setX_ways (p : Pr) : setX p = fine ∨ setX p = whole 1 ∨ setX p = whole 3 := by
  unfold setX
  split
  · exact .inr (.inl rfl)
  · split
    · exact .inr (.inl rfl)
    · split
      · exact .inr (.inr rfl)
      · exact .inl rfl
theorem pairsX_hit {l : List Pr} {j : Nat} {x : Pr} (hx : l[j]? = some x) (hall : ∀ p ∈ l.take j, setX p = fine) (hn : setX x ≠ fine) : pairsX l = setX x := by
  obtain ⟨h1, h2⟩ := List.getElem?_eq_some_iff.1 hx
  have e : l = l.take j ++ x :: l.drop (j + 1) := by
    have := List.take_append_drop j l
    rw [List.drop_eq_getElem_cons h1, h2] at this
    exact this.symm
  unfold pairsX
  have hf : l.find? (fun p => decide (setX p ≠ fine)) = some x := by
    rw [e, List.find?_append, List.find?_eq_none.2 (fun p hp => by simp [hall p hp])]
    simp [hn]
  rw [hf]
theorem pairsX_none {l : List Pr} (hall : ∀ p ∈ l, setX p = fine) : pairsX l = fine := by
  unfold pairsX
  rw [List.find?_eq_none.2 (fun p hp => by simp [hall p hp])]
theorem fx_boxes {w w1 : World} {a0 a1 a2 a3 a4 a5 a6 a7 a8 a9 a10 a11 a12 v0 v1 v2 : Value} {t s : TypeId} (hb : Below ((w.alloc (.cells #[a0, a1, a2, a3, a4, a5, a6, a7, a8, a9, a10, a11, a12] t)).alloc (.cells #[v0, v1, v2] s)).heap.size ((w.alloc (.cells #[a0, a1, a2, a3, a4, a5, a6, a7, a8, a9, a10, a11, a12] t)).alloc (.cells #[v0, v1, v2] s)) w1) :
    (w1.cell? ⟨w.heap.size, 0, none⟩ = some a0 ∧ w1.cell? ⟨w.heap.size, 1, none⟩ = some a1 ∧ w1.cell? ⟨w.heap.size, 2, none⟩ = some a2 ∧ w1.cell? ⟨w.heap.size, 3, none⟩ = some a3 ∧ w1.cell? ⟨w.heap.size, 4, none⟩ = some a4 ∧ w1.cell? ⟨w.heap.size, 5, none⟩ = some a5 ∧ w1.cell? ⟨w.heap.size, 6, none⟩ = some a6 ∧ w1.cell? ⟨w.heap.size, 7, none⟩ = some a7 ∧ w1.cell? ⟨w.heap.size, 8, none⟩ = some a8 ∧ w1.cell? ⟨w.heap.size, 9, none⟩ = some a9 ∧ w1.cell? ⟨w.heap.size, 10, none⟩ = some a10 ∧ w1.cell? ⟨w.heap.size, 11, none⟩ = some a11 ∧ w1.cell? ⟨w.heap.size, 12, none⟩ = some a12) ∧
    (w1.cell? ⟨w.heap.size + 1, 0, none⟩ = some v0 ∧ w1.cell? ⟨w.heap.size + 1, 1, none⟩ = some v1 ∧ w1.cell? ⟨w.heap.size + 1, 2, none⟩ = some v2) ∧ (∀ j, w1.frozen? ⟨w.heap.size + 1, j, none⟩ = false) ∧ Below w.heap.size w w1 ∧ w1.heap[w.heap.size + 1]? = some (.cells #[v0, v1, v2] s) := by
  have hr : w1.heap[w.heap.size]? = some (.cells #[a0, a1, a2, a3, a4, a5, a6, a7, a8, a9, a10, a11, a12] t) := by
    rw [hb.block _ (by simp; omega), Below.heap_alloc _ _ _ (by simp)]
    exact World.alloc_heap_new w _
  have hx : w1.heap[w.heap.size + 1]? = some (.cells #[v0, v1, v2] s) := by
    rw [hb.block _ (by simp)]
    have h := World.alloc_heap_new (w.alloc (.cells #[a0, a1, a2, a3, a4, a5, a6, a7, a8, a9, a10, a11, a12] t)) (.cells #[v0, v1, v2] s)
    rwa [World.size_alloc] at h
  refine ⟨c13_row hr, ⟨?_, ?_, ?_⟩, fun j => frozen_of_row w1 _ j _ s hx, ?_, hx⟩
  · rw [cell_of_row _ _ _ _ _ (0, 0) hx]; rfl
  · rw [cell_of_row _ _ _ _ _ (0, 0) hx]; rfl
  · rw [cell_of_row _ _ _ _ _ (0, 0) hx]; rfl
  · exact (((Below.refl _ w).alloc (Nat.le_refl _) _).alloc (by simp) _).trans (hb.mono (by simp; omega))
theorem c2_at {w w1 : World} {b i k : Nat} {u v : Value} {o o' : Obj} (h : w.cell? ⟨b, i, none⟩ = some u ∧ w.cell? ⟨b, k, none⟩ = some v) (hb : b < w.heap.size) (hb1 : Below ((w.alloc o).alloc o').heap.size ((w.alloc o).alloc o') w1) : w1.cell? ⟨b, i, none⟩ = some u ∧ w1.cell? ⟨b, k, none⟩ = some v := by
  have hl : b < (w.alloc o).heap.size := by simp; omega
  have hl2 : b < ((w.alloc o).alloc o').heap.size := by simp; omega
  exact ⟨cell_on hb1 hl2 (cell_al hl (cell_al hb h.1)), cell_on hb1 hl2 (cell_al hl (cell_al hb h.2))⟩
end Go.Proofs.Ytmbjmpijilmbkaa
/- The document's inner: what stands in a payload of as many bytes as its kind wants. -/
namespace Go.Proofs.Ytmbjmpijilmbkaa
open Go.RowKit Oct Fi Fm
set_option linter.unusedVariables false
set_option linter.unusedSimpArgs false
attribute [local go_sem] i64_and1 i64_and7 i64_and31

end Go.Proofs.Ytmbjmpijilmbkaa
/- The document's inner, whatever it is handed. -/
namespace Go.Proofs.Ytmbjmpijilmbkaa
open Go.RowKit Oct Fi Fm
namespace Fm
def innerR (K F : UInt8) (S : Int) (xs : List UInt8) : Fr × Bool :=
  if K.toNat = 0 ∨ K.toNat = 1 then dataR K F S xs
  else if K.toNat = 2 then ({ frZ K F S with rk := true, al := trA xs xs.length, dp := trD xs xs.length, wt := if 5 ≤ xs.length then xs[4]?.getD 0 else 0 }, true)
  else if K.toNat = 3 then ({ frZ K F S with co := UInt32.ofNat (numN xs xs.length 0) }, true)
  else if K.toNat = 4 then ({ frZ K F S with ps := tpV xs xs.length }, true)
  else if K.toNat = 7 then ({ frZ K F S with la := (ownN xs xs.length 0 : Nat), co := UInt32.ofNat (numN xs xs.length 4), da := xs.drop 8 }, true)
  else if K.toNat = 8 then ({ frZ K F S with ic := (ownN xs xs.length 0 : Nat) }, true)
  else if K.toNat = 16 then ({ frZ K F S with la := (ownN xs xs.length 0 : Nat), da := xs.drop 4 }, true)
  else ({ frZ K F S with da := xs }, true)
end Fm
theorem data1_ps (K F : UInt8) (S : Int) (xs : List UInt8) : (data1 K F S xs).1.ps = [] := by
  unfold data1
  split
  · split <;> rfl
  · rfl
theorem dataR_ps (K F : UInt8) (S : Int) (xs : List UInt8) : (dataR K F S xs).1.ps = [] := by
  have h := data1_ps K F S xs
  unfold dataR
  split
  · split
    · unfold rank1
      split
      · exact h
      · exact h
    · exact h
  · exact h
theorem num_u32 (xs : List UInt8) (n i : Nat) : ((UInt32.ofNat (numN xs n i)).toNat : Int) = (numN xs n i : Nat) := by
  have := numN_lt xs n i
  simp
  omega
end Go.Proofs.Ytmbjmpijilmbkaa
/- The document's Parse. -/
namespace Go.Proofs.Ytmbjmpijilmbkaa
open Go.RowKit Oct Fi Fm
set_option linter.unusedVariables false
set_option linter.unusedSimpArgs false
attribute [local go_sem] i64_and1 i64_and7 i64_and31

end Go.Proofs.Ytmbjmpijilmbkaa
/- The document's Parse, whatever it is handed. -/
namespace Go.Proofs.Ytmbjmpijilmbkaa
open Go.RowKit Oct Fi Fm
namespace Fm
def parseX (r : Fr × Bool) : Ft := if r.2 = true then valuesX r.1 else whole 1
def parseR (K F : UInt8) (S : Int) (xs : List UInt8) : Fr × Ft :=
  if headB 0 S = false then (frZ 0 0 0, whole 2)
  else if (aheadX K.toNat F S xs.length).1 = true then (frZ 0 0 0, aheadX K.toNat F S xs.length)
  else if aheadX K.toNat F S xs.length ≠ fine then (frZ K F S, aheadX K.toNat F S xs.length)
  else if (parseX (innerR K F S xs)).1 = true then (frZ 0 0 0, parseX (innerR K F S xs)) else ((innerR K F S xs).1, parseX (innerR K F S xs))
end Fm
theorem ahead_ways (k : Nat) (F : UInt8) (S : Int) (n : Nat) : aheadX k F S n = whole 6 ∨ aheadX k F S n = whole 1 ∨ (aheadX k F S n = (false, S, 6) ∧ S ≠ 0) ∨ (aheadX k F S n = fine ∧ longB k F n = false) := by
  unfold aheadX
  split
  · exact .inl rfl
  · split
    · exact .inr (.inl rfl)
    · rename_i h5
      split
      · split
        · rename_i h2
          refine .inr (.inr (.inl ⟨rfl, fun hS => h5 (.inr ?_)⟩))
          subst h2
          simp [farB, hS]
        · exact .inl rfl
      · rename_i hl
        exact .inr (.inr (.inr ⟨rfl, by simpa using hl⟩))
theorem inner_ps_len (K F : UInt8) (S : Int) (xs : List UInt8) : (innerR K F S xs).1.ps.length ≤ xs.length := by
  unfold innerR
  split
  · rw [dataR_ps]; simp
  · repeat' split
    all_goals first | (simp [frZ]; done) | skip
    unfold tpV
    split
    · simp; omega
    · simp
end Go.Proofs.Ytmbjmpijilmbkaa
