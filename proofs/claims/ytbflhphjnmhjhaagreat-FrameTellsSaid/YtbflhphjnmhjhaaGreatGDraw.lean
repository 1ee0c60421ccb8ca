/- Drawn regions state by state: an operation by its number, one that is ready, one that is taken; a slice of bytes that is made. -/
import Derived.Test.YtbflhphjnmhjhaaGreatGFact
import Derived.Test.YtbflhphjnmhjhaaGreatGStr
import Derived.Test.YtbflhphjnmhjhaaGreatGPut
import Derived.Deep.RegionHeld
import Derived.Laws.MakeOwn
import Derived.Laws.OwnMore
namespace Go.Proofs.YtbflhphjnmhjhaaGreat
open Go.RowKit
set_option linter.unusedVariables false
set_option linter.unusedSimpArgs false
namespace GD
/-- The operations of the region of this number. -/
def opsOf (id : Nat) : Code → List Oper
  | .region i ops _ => if i = id then ops.toList else []
  | .seq a b => opsOf id a ++ opsOf id b
  | .cond _ a b => opsOf id a ++ opsOf id b
  | .block _ b => opsOf id b
  | .loop b => opsOf id b
  | .scope b => opsOf id b
  | _ => []
theorem swapE {w : World} {fs : List Fact} {gs : List Bx} {x y : Bx} (h : EnvF w fs (x :: y :: gs)) : EnvF w fs (y :: x :: gs) :=
  have hp : List.Perm (x :: y :: gs) (y :: x :: gs) := List.Perm.swap y x gs
  ⟨fun z hz => ⟨(h.f z hz).1, fun k hk => ⟨((h.f z hz).2 k hk).1, fun u hu => ((h.f z hz).2 k hk).2 u (hp.mem_iff.2 hu)⟩⟩,
    fun u hu => h.g u (hp.mem_iff.2 hu), (hp.map Prod.fst).nodup_iff.1 h.d⟩
section
variable {P : Program} {l : List Oper} {Q : Exit → Act → World → Prop} {md : Region.Mode} {S : World → Prop}
theorem getOf {i : Nat} {oi : Oper} {r : List Oper} (h : List.drop i l = oi :: r) : l.toArray[i]? = some oi := by
  have h1 : (List.drop i l)[0]? = some oi := by rw [h]; rfl
  simpa using h1
theorem takeD {i : Nat} {oi : Oper} {r : List Oper} {v : Value} {fuel : Nat} {listed : Array Bool} {a : Act} {w : World} (hi : List.drop i l = oi :: r)
    (hs : Region.noSelect l.toArray = true) (hf : Region.free md l.toArray listed i = true) (hr : (Region.ready md l.toArray listed).contains i = true)
    (hQ : ∀ c a w, Q (.panic c) (a.put oi.dst v) w → Q (.panic c) a w) (hy : YieldsIf P l.toArray S oi v a) (hS : S w)
    (h : wpAnyH P md l.toArray Q S fuel (listed.setIfInBounds i true) (a.put oi.dst v) w) : wpAnyH P md l.toArray Q S (fuel + 1) listed a w :=
  wpAnyH_take (getOf hi) hs hf hr hQ hy hS h
theorem readyD {i : Nat} {o : Oper} {r : List Oper} {fuel : Nat} {listed : Array Bool} {a : Act} {w : World} (hi : List.drop i l = o :: r)
    (hr : Region.ready md l.toArray listed = [i])
    (h : ∀ K' : Act → World → Prop, Shut (∀ a w, S w → (S w → wpAnyH P md l.toArray Q S fuel (listed.setIfInBounds i true) a w) → K' a w) → if Region.wanted o (yielded l.toArray a.tmps) = true then Oper.wp P o a w K' Q else K' (a.put o.dst undef) w) :
    wpAnyH P md l.toArray Q S (fuel + 1) listed a w :=
  wpAnyH_ready hr (by simp) (AllReadyH.cons (getOf hi) h AllReadyH.nil)
end
theorem madeB (k : Nat) : ((List.replicate k (0 : UInt8)).map bv).toArray = madeCells #[.int .u8 0] k := by
  apply Array.toList_inj.1
  rw [toList_madeCells_one]
  simp [bv]
/-- make([]byte, n). -/
theorem run_makeB (n : Nat) (hn : n ≤ 1000000) (w : World) : (Instr.makeSlice 24 (.int .i64 (n : Int)) (.int .i64 (n : Int))).run Tryz.prog w = .ok (.slice (some ⟨w.heap.size, 0, none⟩) n n) (w.alloc (.cells (madeCells #[.int .u8 0] n) 5)) := by
  obtain ⟨i0, hi, hz0, hz1, hz2⟩ := info_parts info_u8
  have h := run_makeSlice w 24 5 i0 (.int .u8 0) Tryz.underlying24 hi hz0 .i64 .i64 (n : Int) (n : Int) (by omega) (Int.le_refl _) (by rw [hz1]; omega) (by rw [hz2]; omega) (by omega)
  rw [hz1] at h
  simpa [Value.cells] using h
theorem step_make {ops : Array Oper} {op : Oper} {a : Act} {w : World} {K : Act → World → Prop} {Q : Exit → Act → World → Prop} {E : Prop} (hgd : op.guard = none) (x y : Operand) (ho : op.op = .makeSlice 24 x y)
    (n : Nat) (hn : n ≤ 1000000) (hx : a.eval x = .int .i64 (n : Int)) (hy : a.eval y = .int .i64 (n : Int))
    (h : K (a.put op.dst (.slice (some ⟨w.heap.size, 0, none⟩) n n)) (w.alloc (.cells (madeCells #[.int .u8 0] n) 5))) : if Region.wanted op (yielded ops a.tmps) = true then Oper.wp Tryz.prog op a w K Q else E := by
  have hw : Region.wanted op (yielded ops a.tmps) = true := by simp [Region.wanted, hgd]
  rw [if_pos hw]
  unfold Oper.wp execOp
  simp only [ho, hx, hy, Sem.run_bind, Sem.run_pure, Result.andThen_ok, run_makeB n hn w]
  exact h
end GD
end Go.Proofs.YtbflhphjnmhjhaaGreat
