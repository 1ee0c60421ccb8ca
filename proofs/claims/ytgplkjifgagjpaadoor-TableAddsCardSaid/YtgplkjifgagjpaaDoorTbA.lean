/- Package table: the variable that holds the static fields; Static, Size, bounded. -/
import Derived.Test.YtgplkjifgagjpaaDoorTbX
import Derived.Test.YtgplkjifgagjpaaDoorGTurn
import Derived.Test.YtgplkjifgagjpaaDoorGStr
import Derived.RegionTactic
import Derived.BigQuiet
import Derived.Deep.QuietTactic
namespace Go.Proofs.YtgplkjifgagjpaaDoor
open Go.RowKit Tb
set_option linter.unusedVariables false
set_option linter.unusedSimpArgs false
theorem infoc_T : (Tryd.prog.info? 24).map (·.size) = some 2 := by kernel_rfl
theorem infoc_D : (Tryd.prog.info? 26).map (·.size) = some 2 := by kernel_rfl
theorem infoc_L : (Tryd.prog.info? 22).map (·.size) = some 1 := by kernel_rfl
theorem infoc_i : (Tryd.prog.info? 3).map (·.size) = some 1 := by kernel_rfl
theorem infoc_b : (Tryd.prog.info? 4).map (·.size) = some 1 := by kernel_rfl
theorem infoc_A : (Tryd.prog.info? 49).map (·.size) = some 40 := by kernel_rfl
theorem info_fld : (Tryd.prog.info? 26).map (fun i => (i.zero, i.size, i.bytes)) = some (some (.agg #[.string ⟨#[]⟩, .string ⟨#[]⟩]), 2, 32) := by kernel_rfl
namespace Tb
/-- The variable holds the static fields. -/
def Stv (w : World) : Prop := ∀ j v, statA[j]? = some v → w.cell? ⟨0, j, none⟩ = some v
theorem Stv.lt {w : World} (h : Stv w) : 0 < w.heap.size := block_lt_of_cell (h 0 _ rfl)
theorem Stv.on {w w' : World} (h : Stv w) (hb : Below w.heap.size w w') : Stv w' := fun j v hj => (hb.cell (p := ⟨0, j, none⟩) h.lt).trans (h j v hj)
def stF : Fact where
  on k := k = 0
  is w := Stv w
  dep w w' h hz hk := fun j v hj => (World.cell?_of_block (hk 0 rfl)).trans (h j v hj)
theorem EnvF.stv {w : World} {fs : List Fact} {gs : List Bx} (h : EnvF w fs gs) (hm : stF ∈ fs) : Stv w := (h.f _ hm).1
theorem envS (w : World) (h : Stv w) : EnvF w [stF] [] := (EnvF.nil w).add0 (x := stF) h (fun k hk => by cases hk; exact h.lt)
end Tb
set_option maxRecDepth 100000 in
set_option maxHeartbeats 4000000 in
theorem t_static_yes (k : Nat) (x : Fd) (w : World) (hR : Stv w) (hk : k < 20) (hx : stat[k]? = some x) :
    Calls Tryd.prog 10 #[.int .i64 ((k : Int) + 1)] w fun e w' => e = .returned (.tuple #[fdv x, .bool true]) ∧ Below w.heap.size w w' := by
  obtain ⟨x', hx', h1, h2⟩ := stat_at k hk
  rw [hx] at hx'
  cases hx'
  have hRW : Stv (w.alloc (.cells #[.string ⟨#[]⟩, .string ⟨#[]⟩] 26)) := hR.on ((Below.refl _ w).alloc (Nat.le_refl _) _)
  have c1 := hRW _ _ h1
  have c2 := hRW _ _ h2
  clear hR hRW
  go_enter Tryd.func10, Tryd.ntmps10
  go_wp2
  refine bodyPost_ret (v := .tuple #[fdv x, .bool true]) (by simp [results, Tryd.results10, go_sem, fdv]) rfl ⟨rfl, ?_⟩
  exact (Below.refl _ _).alloc (Nat.le_refl _) _
theorem t_static_no (i : Int) (w : World) (hi : i < 1 ∨ 20 < i) :
    Calls Tryd.prog 10 #[.int .i64 i] w fun e w' => e = .returned (.tuple #[fdv fd0, .bool false]) ∧ Below w.heap.size w w' := by
  rcases hi with h | h
  · have d1 : decide (i < 1) = true := decide_eq_true h
    go_enter Tryd.func10, Tryd.ntmps10
    go_wp2
    refine bodyPost_ret (v := .tuple #[fdv fd0, .bool false]) (by simp [results, Tryd.results10, go_sem, fdv, fd0]) rfl ⟨rfl, ?_⟩
    exact (Below.refl _ _).alloc (Nat.le_refl _) _
  · have d1 : decide (i < 1) = false := decide_eq_false (by omega)
    have d2 : decide (20 < i) = true := decide_eq_true h
    go_enter Tryd.func10, Tryd.ntmps10
    go_wp2
    refine bodyPost_ret (v := .tuple #[fdv fd0, .bool false]) (by simp [results, Tryd.results10, go_sem, fdv, fd0]) rfl ⟨rfl, ?_⟩
    exact (Below.refl _ _).alloc (Nat.le_refl _) _
theorem t_static (i : Int) (w : World) (hR : Stv w) :
    Calls Tryd.prog 10 #[.int .i64 i] w fun e w' => e = .returned (.tuple #[fdv (atV [] i), .bool (atB [] i)]) ∧ Below w.heap.size w w' := by
  by_cases h : i < 1 ∨ 20 < i
  · unfold atV atB
    rw [atO_nil i h]
    exact t_static_no i w h
  · obtain ⟨k, rfl⟩ : ∃ k : Nat, i = (k : Int) + 1 := ⟨(i - 1).toNat, by omega⟩
    obtain ⟨x, hx, _⟩ := stat_at k (by omega)
    unfold atV atB
    rw [atO_stat [] k (by omega), hx]
    exact t_static_yes k x w hR (by omega) hx
end Go.Proofs.YtgplkjifgagjpaaDoor
