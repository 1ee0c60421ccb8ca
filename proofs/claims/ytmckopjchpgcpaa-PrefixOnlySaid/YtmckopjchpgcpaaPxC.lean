/- Package prefix: Size. -/
import Derived.Test.YtmckopjchpgcpaaPxB
import Derived.Test.YtmckopjchpgcpaaGGath
namespace Go.Proofs.Ytmckopjchpgcpaa
open Go.RowKit Px Go.Shelf
set_option linter.unusedVariables false
set_option linter.unusedSimpArgs false
attribute [local go_sem] Oper.semAt_some

theorem x_size_no (n k : Int) (w : World) (h : ¬ MayN n k) :
    Calls Try.prog 15 #[.int .i64 n, .int .i64 k] w fun e w' => e = .returned (.int .i64 0) ∧ Below w.heap.size w w' := by
  have hB : Hid (∀ v, Below w.heap.size w (w.alloc (.cells #[v] 3))) := Lib.hid fun v => (Below.refl _ w).alloc (Nat.le_refl _) _
  have hd : decide (MayN n k) = false := decide_eq_false h
  clear h
  go_enter Try.func15, Try.ntmps15
  go_wp2_with (go_at_call 17; (with_reducible refine (x_fits _ _ _).mono ?_); rintro e w' ⟨rfl, rfl⟩; rw [hd])
  go_ret
  exact ⟨rfl, hB.out _⟩
namespace Px
/-- What holds between two rounds of Size. -/
structure SizeI (w : World) (g : Nat) (pre : List UInt8) (W : World) : Prop where
  row : W.heap[g]? = some (.cells #[.int .i64 (pre.length : Int)] 3)
  below : Below w.heap.size w W
theorem sizeI_own {w : World} {g B : Nat} (hB : w.heap.size ≤ B) : OwnFrom B (SizeI w g) := by
  intro s W W' row hs hg hr
  have hr' : ∀ k, row = some k → ∃ o : Obj, W.heap[k]? = some o ∧ o.isCells = false := fun k e => (hr k e).2
  exact ⟨heap_kept hg hr' hs.row, hs.below.grown hg hs.below.size (fun k e => Nat.le_trans hB (hr k e).1)⟩
theorem sizeI_st {w : World} {g Bn : Nat} (hB : w.heap.size ≤ Bn) (hne : g ≠ Bn) (pre : List UInt8) (A B : World) (h : SizeI w g pre A) (hs : StB Bn A B) : SizeI w g pre B := by
  obtain ⟨v, rfl⟩ := hs
  exact ⟨(Below.heap_setCell _ _ _ _ (by simpa using hne)).trans h.row, h.below.setCell (p := ⟨Bn, 0, none⟩) hB _⟩
theorem keepZ_trans {p : Nat → Prop} {A B C : World} (h : KeepZ p A B) (k : KeepZ p B C) : KeepZ p A C := ⟨h.1.trans k.1, Nat.le_trans h.2 k.2⟩
theorem keepZ_put {p : Nat → Prop} (W : World) (l : Nat) (o o' : Obj) (h : W.heap[l]? = some o) (hc : o.isCells = false) : KeepZ p W (W.putObj l o') := ⟨KeepC.put W l o o' h hc, (grownBy_putObj' W l o').size⟩
theorem stB_keep {B1 : Nat} (A B : World) (l : Nat) (o : Obj) (hs : StB B1 A B) (h : A.heap[l]? = some o) (hc : o.isCells = false) : B.heap[l]? = some o := by
  obtain ⟨v, rfl⟩ := hs
  by_cases e : l = B1
  · subst e
    simp only [World.setCell, Array.getElem?_modify, h]
    cases o <;> simp_all [Obj.isCells]
  · exact (Below.heap_setCell _ _ _ _ (by simpa using e)).trans h
theorem size_round {w W : World} {g R : Nat} {pre : List UInt8} {x : UInt8} {a : Act} (p : Nat → Prop) (hp : ¬ p g) (hI : SizeI w g pre W) (hg : w.heap.size ≤ g) :
    ownPostG R (KeepZ p) (SizeI w g) (fun _ _ _ => False) (pre ++ [x]) W Exit.normal a (W.setCell ⟨g, 0, none⟩ (.int .i64 ((pre.length : Int) + 1))) := by
  refine ⟨(KeepsOthers.setCell _ _ _).from _, ⟨fun j o hj ho _ => ?_, by simp [World.setCell]⟩, ⟨?_, hI.below.setCell (p := ⟨g, 0, none⟩) hg _⟩⟩
  · exact (Below.heap_setCell _ _ _ _ (by simp only [ne_eq]; rintro rfl; exact hp hj)).trans ho
  · refine (Go.heap_setCell_same W g 0 _ _ _ hI.row).trans ?_
    simp
theorem bs_other {W W' : World} {row : Option Nat} {B n : Nat} {A : Option Addr} {xs : List UInt8} (hg : W.grownBy W' row) (hr : ∀ r, row = some r → ∃ o : Obj, W.heap[r]? = some o ∧ o.isCells = false) (h : Bs W B A n xs) : Bs W' B A n xs :=
  ⟨h.1, fun hn => by
    obtain ⟨b, o, e, hb, hc⟩ := h.2 hn
    exact ⟨b, o, e, hb, fun j hj => cell_kept (hc j hj) hg hr⟩⟩
theorem deferred_other {W : World} {D : Nat} (h : W.heap[D]? = some (.deferred (some []))) : ∀ r, some D = some r → ∃ o : Obj, W.heap[r]? = some o ∧ o.isCells = false := fun r e => by cases e; exact ⟨_, h, rfl⟩
theorem handS_putD {W : World} {B D n c : Nat} {A : Option Addr} {xs : List UInt8} (h : HandS W B A n c xs) (hD : W.heap[D]? = some (.deferred (some []))) : HandS (W.putObj D (.deferred none)) B A n c xs :=
  ⟨(bs_other (grownBy_putObj' W D _) (deferred_other hD) h.1).more (grownBy_putObj' W D _).size, h.2⟩
end Px
set_option maxRecDepth 100000 in
set_option maxHeartbeats 1000000 in
theorem x_size_yes (n k : Nat) (w : World) (h1 : 1 ≤ k) (h8 : k ≤ 8) (hn : n < 2147483648) :
    Calls Try.prog 15 #[.int .i64 (n : Int), .int .i64 (k : Int)] w fun e w' => e = .returned (.int .i64 ((numB n k).length : Int)) ∧ Below w.heap.size w w' := by
  have hd : decide (MayN (n : Int) (k : Int)) = true := decide_eq_true ⟨⟨by omega, by omega⟩, by omega, by omega⟩
  refine (callsIn_wide (n := 6)).1 (callsIn_of_wp_marks Try.func15 rfl trivial ?_ rfl)
  refine wpIn_wide.2 ?_
  simp only [Try.ntmps15, List.size_toArray, List.length_cons, List.length_nil, Nat.reduceAdd, Nat.reduceSub, Array.replicate_succ, Array.replicate_zero, List.push_toArray, List.append_toArray, List.nil_append, List.cons_append]
  go_wp2_with (first | (go_at_call 17; (with_reducible refine (x_fits _ _ _).mono ?_); rintro e w' ⟨rfl, rfl⟩; rw [hd]) | (go_at_call 18; refine (x_octets _ _ _).mono ?_; rintro e w' ⟨rfl, rfl⟩))
  have hb0 : Below w.heap.size w (((w.alloc (.cells #[.int .i64 0] 3)).alloc (.cells #[.int .i64 (n : Int)] 3)).alloc (.cells #[.int .i64 (k : Int)] 3)) := (((Below.refl _ w).alloc (Nat.le_refl _) _).alloc (by simp) _).alloc (by simp only [World.size_alloc]; omega) _
  have hr0 : (((w.alloc (.cells #[.int .i64 0] 3)).alloc (.cells #[.int .i64 (n : Int)] 3)).alloc (.cells #[.int .i64 (k : Int)] 3)).heap[w.heap.size]? = some (.cells #[.int .i64 0] 3) :=
    (Below.heap_alloc _ _ _ (by simp; omega)).trans ((Below.heap_alloc _ _ _ (by simp)).trans (World.alloc_heap_new _ _))
  have hr1 : (((w.alloc (.cells #[.int .i64 0] 3)).alloc (.cells #[.int .i64 (n : Int)] 3)).alloc (.cells #[.int .i64 (k : Int)] 3)).heap[w.heap.size + 1]? = some (.cells #[.int .i64 (n : Int)] 3) :=
    (Below.heap_alloc _ _ _ (by simp)).trans (by have h := World.alloc_heap_new (w.alloc (.cells #[.int .i64 0] 3)) (.cells #[.int .i64 (n : Int)] 3); rwa [World.size_alloc] at h)
  have hr2 : (((w.alloc (.cells #[.int .i64 0] 3)).alloc (.cells #[.int .i64 (n : Int)] 3)).alloc (.cells #[.int .i64 (k : Int)] 3)).heap[w.heap.size + 1 + 1]? = some (.cells #[.int .i64 (k : Int)] 3) := by
    have h := World.alloc_heap_new ((w.alloc (.cells #[.int .i64 0] 3)).alloc (.cells #[.int .i64 (n : Int)] 3)) (.cells #[.int .i64 (k : Int)] 3); rwa [World.size_alloc, World.size_alloc] at h
  have hz : (((w.alloc (.cells #[.int .i64 0] 3)).alloc (.cells #[.int .i64 (n : Int)] 3)).alloc (.cells #[.int .i64 (k : Int)] 3)).heap.size = w.heap.size + 3 := by simp
  generalize ((w.alloc (.cells #[.int .i64 0] 3)).alloc (.cells #[.int .i64 (n : Int)] 3)).alloc (.cells #[.int .i64 (k : Int)] 3) = W0 at *
  have hlen := numB_len (n := n) (k := k) (by omega)
  refine (wpIn_wide (n := 6)).1 ?_
  refine wpIn_rangeFunc_state rfl (by omega) (gf := 26) (lb := #[.pointer (some ⟨w.heap.size + 1 + 1, 0, none⟩), .pointer (some ⟨w.heap.size + 1, 0, none⟩)]) rfl trivial (enters_of Try.func26 (by kernel_rfl) rfl)
    (octets_stops 5 (by omega) (w.heap.size + 1 + 1) (w.heap.size + 1) k n (fun j => j = w.heap.size + 1 + 1 ∨ j = w.heap.size + 1) W0 (.inl rfl) (.inr rfl) (by omega) h1 h8 hn hr2 hr1)
    (fun h k => keepZ_trans h k) (fun W l o o' _ h hc _ => keepZ_put W l o o' h hc) (fun _ => rfl) (fun A B l o hs h hc => stB_keep A B l o hs h hc)
    (SizeI w w.heap.size) (sizeI_own (by omega)) (sizeI_st (by omega) (by omega)) ⟨hr0, hb0⟩
    (fun pre x a' W => a' = { tmps := #[.int .i64 (n : Int), .int .i64 (k : Int), undef, undef, .int .i64 0, .pointer (some ⟨w.heap.size, 0, none⟩), .int .i64 (n : Int), .int .i64 (k : Int), .bool true, .int .i64 (n : Int), .int .i64 (k : Int), .func (.func 26) #[] #[.pointer (some ⟨w.heap.size + 1 + 1, 0, none⟩), .pointer (some ⟨w.heap.size + 1, 0, none⟩)], .int .u8 (x.toNat : Int), undef, undef, undef], defers := [] }) (fun pre x a' _ _ _ _ h _ _ => h)
    ?assign ?body ?done
  case assign =>
    intro l pre x W K hI hV hK
    have HK := Lib.hid hK
    have HI := Lib.hid hI
    clear hK hI hV
    gi_wp2
    exact HK.out _ _ (KeepsFrom.refl _ _) ⟨KeepC.refl _ _, Nat.le_refl _⟩ HI.out (by simp)
  case body =>
    rintro l pre x a' W hl0 hI rfl hlen2
    have HI := Lib.hid hI
    have c0 := cells1_row hI.row
    have f0 := frozen_of_row W _ 0 _ _ hI.row
    have hp6 : (pre.length : Int) < 6 := by omega
    clear hI hr0 hr1 hr2 hb0
    gi_wp2
    exact size_round _ (by omega) HI.out (Nat.le_refl _)
  case done =>
    rintro D ys W hD rfl hI hK
    have c0 := cells1_row hI.row
    have HI := Lib.hid hI
    clear hI hr0 hr1 hr2 hb0
    go_wp2
    exact ⟨by simp, .inl ⟨_, _, rfl, run_takeDeferred hK, ⟨_, results_tmp rfl _ _ _, rfl, HI.out.below.trans (belowK_b (w := w) (Nat.le_refl _) W D _ _ (by omega) hK rfl rfl)⟩⟩⟩
end Go.Proofs.Ytmckopjchpgcpaa
