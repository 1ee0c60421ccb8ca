/- head.Known. -/
import Derived.Test.YtodghbfgfdbaiaaHdA
import Derived.Test.YtodghbfgfdbaiaaGSet
namespace Go.Proofs.Ytodghbfgfdbaiaa
open Go.RowKit Oct

theorem kinds_any (w : World) :
    Calls Try.prog 27 #[] w fun e w' => e = .returned (.map (some w.heap.size)) ∧ SetOf w' Try.prog 5 4 .u8 w.heap.size 11 knownB ∧ Below w.heap.size w w' := by
  have HS0 := Lib.hid (SetOf.made w Try.prog 5 4 .u8)
  have HB0 : Below w.heap.size w (w.alloc (.map #[] 0)) := (Below.refl _ _).alloc (Nat.le_refl _) _
  have hr0 := run_makeMap (P := Try.prog) 50 w
  obtain ⟨w1, hr1, hs1, hg1⟩ := HS0.out.update (t := 50) Try.underlying5 Try.underlying4 Try.underlying50 (by decide) (x := 0) (by decide) true
  have HS1 := Lib.hid hs1
  have HB1 : Below w.heap.size w w1 := HB0.grown hg1 (HB0.size) (fun k h => by cases h; exact Nat.le_refl _)
  clear hs1 hg1 HS0 HB0
  obtain ⟨w2, hr2, hs2, hg2⟩ := HS1.out.update (t := 50) Try.underlying5 Try.underlying4 Try.underlying50 (by decide) (x := 1) (by decide) true
  have HS2 := Lib.hid hs2
  have HB2 : Below w.heap.size w w2 := HB1.grown hg2 (HB1.size) (fun k h => by cases h; exact Nat.le_refl _)
  clear hs2 hg2 HS1 HB1
  obtain ⟨w3, hr3, hs3, hg3⟩ := HS2.out.update (t := 50) Try.underlying5 Try.underlying4 Try.underlying50 (by decide) (x := 2) (by decide) true
  have HS3 := Lib.hid hs3
  have HB3 : Below w.heap.size w w3 := HB2.grown hg3 (HB2.size) (fun k h => by cases h; exact Nat.le_refl _)
  clear hs3 hg3 HS2 HB2
  obtain ⟨w4, hr4, hs4, hg4⟩ := HS3.out.update (t := 50) Try.underlying5 Try.underlying4 Try.underlying50 (by decide) (x := 3) (by decide) true
  have HS4 := Lib.hid hs4
  have HB4 : Below w.heap.size w w4 := HB3.grown hg4 (HB3.size) (fun k h => by cases h; exact Nat.le_refl _)
  clear hs4 hg4 HS3 HB3
  obtain ⟨w5, hr5, hs5, hg5⟩ := HS4.out.update (t := 50) Try.underlying5 Try.underlying4 Try.underlying50 (by decide) (x := 4) (by decide) true
  have HS5 := Lib.hid hs5
  have HB5 : Below w.heap.size w w5 := HB4.grown hg5 (HB4.size) (fun k h => by cases h; exact Nat.le_refl _)
  clear hs5 hg5 HS4 HB4
  obtain ⟨w6, hr6, hs6, hg6⟩ := HS5.out.update (t := 50) Try.underlying5 Try.underlying4 Try.underlying50 (by decide) (x := 5) (by decide) true
  have HS6 := Lib.hid hs6
  have HB6 : Below w.heap.size w w6 := HB5.grown hg6 (HB5.size) (fun k h => by cases h; exact Nat.le_refl _)
  clear hs6 hg6 HS5 HB5
  obtain ⟨w7, hr7, hs7, hg7⟩ := HS6.out.update (t := 50) Try.underlying5 Try.underlying4 Try.underlying50 (by decide) (x := 6) (by decide) true
  have HS7 := Lib.hid hs7
  have HB7 : Below w.heap.size w w7 := HB6.grown hg7 (HB6.size) (fun k h => by cases h; exact Nat.le_refl _)
  clear hs7 hg7 HS6 HB6
  obtain ⟨w8, hr8, hs8, hg8⟩ := HS7.out.update (t := 50) Try.underlying5 Try.underlying4 Try.underlying50 (by decide) (x := 7) (by decide) true
  have HS8 := Lib.hid hs8
  have HB8 : Below w.heap.size w w8 := HB7.grown hg8 (HB7.size) (fun k h => by cases h; exact Nat.le_refl _)
  clear hs8 hg8 HS7 HB7
  obtain ⟨w9, hr9, hs9, hg9⟩ := HS8.out.update (t := 50) Try.underlying5 Try.underlying4 Try.underlying50 (by decide) (x := 8) (by decide) true
  have HS9 := Lib.hid hs9
  have HB9 : Below w.heap.size w w9 := HB8.grown hg9 (HB8.size) (fun k h => by cases h; exact Nat.le_refl _)
  clear hs9 hg9 HS8 HB8
  obtain ⟨w10, hr10, hs10, hg10⟩ := HS9.out.update (t := 50) Try.underlying5 Try.underlying4 Try.underlying50 (by decide) (x := 9) (by decide) true
  have HS10 := Lib.hid hs10
  have HB10 : Below w.heap.size w w10 := HB9.grown hg10 (HB9.size) (fun k h => by cases h; exact Nat.le_refl _)
  clear hs10 hg10 HS9 HB9
  obtain ⟨w11, hr11, hs11, hg11⟩ := HS10.out.update (t := 50) Try.underlying5 Try.underlying4 Try.underlying50 (by decide) (x := 16) (by decide) true
  have HS11 := Lib.hid hs11
  have HB11 : Below w.heap.size w w11 := HB10.grown hg11 (HB10.size) (fun k h => by cases h; exact Nat.le_refl _)
  clear hs11 hg11 HS10 HB10
  go_enter Try.func27, Try.ntmps27
  go_wp2
  go_ret
  refine ⟨rfl, HS11.out.mono fun x => ?_, HB11⟩
  rw [Bool.eq_iff_iff]
  simp [knownB]
  omega
theorem known_any (k : Int) (w : World) (hk : (Lit.int .u8 k).wf = true) :
    Calls Try.prog 19 #[.int .u8 k] w fun e w' => e = .returned (.bool (knownB k)) ∧ Below w.heap.size w w' := by
  go_enter Try.func19, Try.ntmps19
  go_wp2_with (go_at_call 27; refine (kinds_any _).mono ?_; rintro e w1 ⟨rfl, hs, hb⟩; have hlk := hs.look (t := 50) Try.underlying5 Try.underlying4 Try.underlying50 rfl hk; clear hs)
  go_ret
  exact ⟨rfl, hb⟩
end Go.Proofs.Ytodghbfgfdbaiaa
