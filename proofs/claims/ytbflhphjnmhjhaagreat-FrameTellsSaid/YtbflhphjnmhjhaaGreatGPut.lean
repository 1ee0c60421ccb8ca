/- A store into a box of the call's own, whatever its place and its length: the box's row turns, nothing else; the world behind it is a letter. Plain, over any program. -/
import Derived.Test.YtbflhphjnmhjhaaGreatGEnvB
import Derived.Deep.MidRow
namespace Go.Proofs.YtbflhphjnmhjhaaGreat
open Go.RowKit
set_option linter.unusedVariables false

/-- A frame's 13 cells, by name. -/
abbrev fr13 (kd fl st : Int) (A : Option Addr) (n c : Nat) (pd la ic co : Int) (D : Option Addr) (m e : Nat) (rk al : Bool) (dp wt : Int) : Array Value := #[.int .u8 kd, .int .u8 fl, .int .i64 st, .slice A n c, .int .i64 pd, .int .i64 la, .int .i64 ic, .int .u32 co, .slice D m e, .bool rk, .bool al, .int .i64 dp, .int .u8 wt]
abbrev zF0 : Array Value := #[.int .u8 0, .int .u8 0, .int .i64 0, .slice none 0 0, .int .i64 0, .int .i64 0, .int .i64 0, .int .u32 0, .slice none 0 0, .bool false, .bool false, .int .i64 0, .int .u8 0]
abbrev hF0 (k f s : Int) : Array Value := #[.int .u8 k, .int .u8 f, .int .i64 s, .slice none 0 0, .int .i64 0, .int .i64 0, .int .i64 0, .int .u32 0, .slice none 0 0, .bool false, .bool false, .int .i64 0, .int .u8 0]
/-- A row with cells laid over it from a place on. -/
def upd (cs : Array Value) : Nat → List Value → Array Value
  | _, [] => cs
  | o, v :: r => upd (cs.setIfInBounds o v) (o + 1) r
theorem setCells_row (g : Nat) (t : TypeId) : ∀ (vs : List Value) (o : Nat) (w : World) (old : Array Value), w.heap[g]? = some (.cells old t) → (w.setCells g o vs).heap[g]? = some (.cells (upd old o vs) t)
  | [], _, _, _, h => h
  | v :: r, o, w, old, h => setCells_row g t r (o + 1) _ _ (Go.heap_setCell_same w g o old t v h)
theorem setCells_other (g : Nat) : ∀ (vs : List Value) (o : Nat) (w : World) (k : Nat), k ≠ g → (w.setCells g o vs).heap[k]? = w.heap[k]?
  | [], _, _, _, _ => rfl
  | v :: r, o, w, k, h => (setCells_other g r (o + 1) _ k h).trans (Go.heap_setCell_other w ⟨g, o, none⟩ k v h)
theorem setCells_size (g : Nat) : ∀ (vs : List Value) (o : Nat) (w : World), (w.setCells g o vs).heap.size = w.heap.size
  | [], _, _ => rfl
  | v :: r, o, w => (setCells_size g r (o + 1) _).trans (World.size_setCell _ _ _)
theorem setCells_below {B g : Nat} (hB : B ≤ g) : ∀ (vs : List Value) (o : Nat) (w w0 : World), Below B w0 w → Below B w0 (w.setCells g o vs)
  | [], _, _, _, h => h
  | v :: r, o, w, w0, h => setCells_below hB r (o + 1) _ w0 (h.setCell (p := ⟨g, o, none⟩) hB v)
theorem at_store {P : Program} {ops : Array Oper} {rest : List Oper} {o : Oper} {a : Act} {w : World} {Q : Exit → Act → World → Prop} (ty : TypeId) (x y : Operand) (_ : o.op = .store ty x y) (h : wpList P ops Q (o :: rest) a w) : wpList P ops Q (o :: rest) a w := h
theorem at_load {P : Program} {ops : Array Oper} {rest : List Oper} {o : Oper} {a : Act} {w : World} {Q : Exit → Act → World → Prop} (ty : TypeId) (x : Operand) (_ : o.op = .load ty x) (h : wpList P ops Q (o :: rest) a w) : wpList P ops Q (o :: rest) a w := h
section
variable {P : Program}
theorem run_put (w : World) (g o : Nat) (ty t : TypeId) (v : Value) (old : Array Value) (hg : w.heap[g]? = some (.cells old t)) (hl : o + v.cells.size ≤ old.size) (hi : (P.info? ty).map (·.size) = some v.cells.size) (h1 : v.cells.toList.all (·.oneCell') = true) :
    (storeVar ty ⟨g, o, none⟩ v).run P w = .ok () (w.setCells g o v.cells.toList) := by
  have h := run_storeCells_cells (P := P) g o v.cells.toList 0 w
    (fun j hj => by rw [cell_of_row w g (o + 0 + j) old t (0, 0) hg]; simp at hj ⊢; omega)
    (fun j _ => frozen_of_row w g _ old t hg)
    (fun u hu => List.all_eq_true.1 h1 u hu)
  cases hq : P.info? ty with
  | none => simp [hq] at hi
  | some i =>
    have hs : v.cells.size = i.size := by simp [hq] at hi; omega
    simp only [Nat.add_zero] at h
    simp [storeVar, sizeOf, typeInfo, hq, hs, h]
theorem wp_put {op : Oper} {a : Act} {w : World} {K : Act → World → Prop} {Q : Exit → Act → World → Prop} (ty : TypeId) (x y : Operand) (ho : op.op = .store ty x y)
    (g o : Nat) (v : Value) (hx : a.eval x = .pointer (some ⟨g, o, none⟩)) (hy : a.eval y = v) (t : TypeId) (old cs : Array Value) (hg : w.heap[g]? = some (.cells old t))
    (hl : o + v.cells.size ≤ old.size) (hcs : upd old o v.cells.toList = cs) (hi : (P.info? ty).map (·.size) = some v.cells.size) (h1 : v.cells.toList.all (·.oneCell') = true)
    (h : ∀ w', w'.heap[g]? = some (.cells cs t) → (∀ k, k ≠ g → w'.heap[k]? = w.heap[k]?) → w'.heap.size = w.heap.size → (∀ B w0, B ≤ g → Below B w0 w → Below B w0 w') → K (a.put op.dst undef) w') : op.wp P a w K Q := by
  subst hcs
  unfold Oper.wp execOp
  simp only [ho, hx, hy, Instr.storeAt, Instr.sureAddr, Sem.run_bind, Sem.run_pure, Result.andThen_ok, run_put w g o ty t v old hg hl hi h1]
  exact h _ (setCells_row g t _ o w old hg) (setCells_other g _ o w) (setCells_size g _ o w) (fun B w0 hB hb => setCells_below hB _ o w w0 hb)
theorem wpList_put {ops : Array Oper} {rest : List Oper} {op : Oper} {a : Act} {w : World} {Q : Exit → Act → World → Prop} (hgd : op.guard = none) (ty : TypeId) (x y : Operand) (ho : op.op = .store ty x y)
    (g o : Nat) (v : Value) (hx : a.eval x = .pointer (some ⟨g, o, none⟩)) (hy : a.eval y = v) (t : TypeId) (old cs : Array Value) (hg : w.heap[g]? = some (.cells old t))
    (hl : o + v.cells.size ≤ old.size) (hcs : upd old o v.cells.toList = cs) (hi : (P.info? ty).map (·.size) = some v.cells.size) (h1 : v.cells.toList.all (·.oneCell') = true)
    (h : ∀ w', w'.heap[g]? = some (.cells cs t) → (∀ k, k ≠ g → w'.heap[k]? = w.heap[k]?) → w'.heap.size = w.heap.size → (∀ B w0, B ≤ g → Below B w0 w → Below B w0 w') → wpList P ops Q rest (a.put op.dst undef) w') : wpList P ops Q (op :: rest) a w :=
  wpList_plain hgd fun _ hK => wp_put ty x y ho g o v hx hy t old cs hg hl hcs hi h1 fun w' c1 c2 c3 c4 => hK _ _ (h w' c1 c2 c3 c4)
theorem step_put {ops : Array Oper} {op : Oper} {a : Act} {w : World} {K : Act → World → Prop} {Q : Exit → Act → World → Prop} {E : Prop} (hgd : op.guard = none) (ty : TypeId) (x y : Operand) (ho : op.op = .store ty x y)
    (g o : Nat) (v : Value) (hx : a.eval x = .pointer (some ⟨g, o, none⟩)) (hy : a.eval y = v) (t : TypeId) (old cs : Array Value) (hg : w.heap[g]? = some (.cells old t))
    (hl : o + v.cells.size ≤ old.size) (hcs : upd old o v.cells.toList = cs) (hi : (P.info? ty).map (·.size) = some v.cells.size) (h1 : v.cells.toList.all (·.oneCell') = true)
    (h : ∀ w', w'.heap[g]? = some (.cells cs t) → (∀ k, k ≠ g → w'.heap[k]? = w.heap[k]?) → w'.heap.size = w.heap.size → (∀ B w0, B ≤ g → Below B w0 w → Below B w0 w') → K (a.put op.dst undef) w') : if Region.wanted op (yielded ops a.tmps) = true then Oper.wp P op a w K Q else E := by
  have hw : Region.wanted op (yielded ops a.tmps) = true := by simp [Region.wanted, hgd]
  rw [if_pos hw]
  exact wp_put ty x y ho g o v hx hy t old cs hg hl hcs hi h1 h
theorem step_load_row {ops : Array Oper} {op : Oper} {a : Act} {w : World} {K : Act → World → Prop} {Q : Exit → Act → World → Prop} {E : Prop} (hgd : op.guard = none) (ty : TypeId) (x : Operand) (ho : op.op = .load ty x)
    (g : Nat) (hx : a.eval x = .pointer (some ⟨g, 0, none⟩)) (t : TypeId) (cs : Array Value) (d : TypeDesc) (hg : w.heap[g]? = some (.cells cs t))
    (hu : P.underlying ty = some d) (hd : (match d with | .struct _ | .array _ _ => true | _ => false) = true) (hi : (P.info? ty).map (·.size) = some cs.size)
    (h : K (a.put op.dst (.agg cs)) w) : if Region.wanted op (yielded ops a.tmps) = true then Oper.wp P op a w K Q else E := by
  have hw : Region.wanted op (yielded ops a.tmps) = true := by simp [Region.wanted, hgd]
  rw [if_pos hw]
  exact wp_load_row ty x ho g hx t cs _ d hg hu hd hi h
theorem run_get (w : World) (g o : Nat) (ty t : TypeId) (cs : Array Value) (v : Value) (d : TypeDesc) (hg : w.heap[g]? = some (.cells cs t)) (hv : cs[o]? = some v) (hu : P.underlying ty = some d) (hd : (match d with | .struct _ | .array _ _ => true | _ => false) = false) :
    (loadVar ty ⟨g, o, none⟩).run P w = .ok v w := by
  have hagg : (isAgg ty).run P w = .ok false w := by
    unfold isAgg
    rw [Sem.run_bind, run_underlying hu w]
    cases d <;> simp_all
  have hc : w.cell? ⟨g, o, none⟩ = some v := by rw [cell_of_row w g o cs t (0, 0) hg]; exact hv
  simp [loadVar, Sem.run_bind, hagg, run_load, hc]
theorem wp_get {op : Oper} {a : Act} {w : World} {K : Act → World → Prop} {Q : Exit → Act → World → Prop} (ty : TypeId) (x : Operand) (ho : op.op = .load ty x)
    (g o : Nat) (hx : a.eval x = .pointer (some ⟨g, o, none⟩)) (t : TypeId) (cs : Array Value) (v : Value) (d : TypeDesc) (hg : w.heap[g]? = some (.cells cs t)) (hv : cs[o]? = some v)
    (hu : P.underlying ty = some d) (hd : (match d with | .struct _ | .array _ _ => true | _ => false) = false)
    (h : K (a.put op.dst v) w) : op.wp P a w K Q := by
  unfold Oper.wp execOp
  simp only [ho, hx, Instr.loadAt, Instr.sureAddr, Sem.run_bind, Sem.run_pure, Result.andThen_ok, run_get w g o ty t cs v d hg hv hu hd]
  exact h
theorem wpList_get {ops : Array Oper} {rest : List Oper} {op : Oper} {a : Act} {w : World} {Q : Exit → Act → World → Prop} (hgd : op.guard = none) (ty : TypeId) (x : Operand) (ho : op.op = .load ty x)
    (g o : Nat) (hx : a.eval x = .pointer (some ⟨g, o, none⟩)) (t : TypeId) (cs : Array Value) (v : Value) (d : TypeDesc) (hg : w.heap[g]? = some (.cells cs t)) (hv : cs[o]? = some v)
    (hu : P.underlying ty = some d) (hd : (match d with | .struct _ | .array _ _ => true | _ => false) = false)
    (h : wpList P ops Q rest (a.put op.dst v) w) : wpList P ops Q (op :: rest) a w :=
  wpList_plain hgd fun _ hK => wp_get ty x ho g o hx t cs v d hg hv hu hd (hK _ _ h)
end
theorem c3_row {w : World} {g : Nat} {a b c : Value} {t : TypeId} (h : w.heap[g]? = some (.cells #[a, b, c] t)) : w.cell? ⟨g, 0, none⟩ = some a ∧ w.cell? ⟨g, 1, none⟩ = some b ∧ w.cell? ⟨g, 2, none⟩ = some c := by
  refine ⟨?_, ?_, ?_⟩ <;> rw [cell_of_row w g _ _ t (0, 0) h] <;> rfl
theorem c4_row {w : World} {g : Nat} {a b c d : Value} {t : TypeId} (h : w.heap[g]? = some (.cells #[a, b, c, d] t)) : w.cell? ⟨g, 0, none⟩ = some a ∧ w.cell? ⟨g, 1, none⟩ = some b ∧ w.cell? ⟨g, 2, none⟩ = some c ∧ w.cell? ⟨g, 3, none⟩ = some d := by
  refine ⟨?_, ?_, ?_, ?_⟩ <;> rw [cell_of_row w g _ _ t (0, 0) h] <;> rfl
theorem c13_row {w : World} {g : Nat} {a0 a1 a2 a3 a4 a5 a6 a7 a8 a9 a10 a11 a12 : Value} {t : TypeId} (h : w.heap[g]? = some (.cells #[a0, a1, a2, a3, a4, a5, a6, a7, a8, a9, a10, a11, a12] t)) :
    w.cell? ⟨g, 0, none⟩ = some a0 ∧ w.cell? ⟨g, 1, none⟩ = some a1 ∧ w.cell? ⟨g, 2, none⟩ = some a2 ∧ w.cell? ⟨g, 3, none⟩ = some a3 ∧ w.cell? ⟨g, 4, none⟩ = some a4 ∧ w.cell? ⟨g, 5, none⟩ = some a5 ∧ w.cell? ⟨g, 6, none⟩ = some a6 ∧ w.cell? ⟨g, 7, none⟩ = some a7 ∧ w.cell? ⟨g, 8, none⟩ = some a8 ∧ w.cell? ⟨g, 9, none⟩ = some a9 ∧ w.cell? ⟨g, 10, none⟩ = some a10 ∧ w.cell? ⟨g, 11, none⟩ = some a11 ∧ w.cell? ⟨g, 12, none⟩ = some a12 := by
  refine ⟨?_, ?_, ?_, ?_, ?_, ?_, ?_, ?_, ?_, ?_, ?_, ?_, ?_⟩ <;> rw [cell_of_row w g _ _ t (0, 0) h] <;> rfl
theorem c16_row {w : World} {g k : Nat} {a0 a1 a2 a3 a4 a5 a6 a7 a8 a9 a10 a11 a12 b0 b1 b2 : Value} {t s : TypeId} (h : w.heap[g]? = some (.cells #[a0, a1, a2, a3, a4, a5, a6, a7, a8, a9, a10, a11, a12] t)) (h' : w.heap[k]? = some (.cells #[b0, b1, b2] s)) : w.cell? ⟨g, 0, none⟩ = some a0 ∧ w.cell? ⟨g, 1, none⟩ = some a1 ∧ w.cell? ⟨g, 2, none⟩ = some a2 ∧ w.cell? ⟨g, 3, none⟩ = some a3 ∧ w.cell? ⟨g, 4, none⟩ = some a4 ∧ w.cell? ⟨g, 5, none⟩ = some a5 ∧ w.cell? ⟨g, 6, none⟩ = some a6 ∧ w.cell? ⟨g, 7, none⟩ = some a7 ∧ w.cell? ⟨g, 8, none⟩ = some a8 ∧ w.cell? ⟨g, 9, none⟩ = some a9 ∧ w.cell? ⟨g, 10, none⟩ = some a10 ∧ w.cell? ⟨g, 11, none⟩ = some a11 ∧ w.cell? ⟨g, 12, none⟩ = some a12 ∧ w.cell? ⟨k, 0, none⟩ = some b0 ∧ w.cell? ⟨k, 1, none⟩ = some b1 ∧ w.cell? ⟨k, 2, none⟩ = some b2 := by
  obtain ⟨h0, h1, h2, h3, h4, h5, h6, h7, h8, h9, h10, h11, h12⟩ := c13_row h
  exact ⟨h0, h1, h2, h3, h4, h5, h6, h7, h8, h9, h10, h11, h12, c3_row h'⟩
theorem c16_drew {w : World} {g k : Nat} {a0 a1 a2 a3 a4 a5 a6 a7 a8 a9 a10 a11 a12 b0 b1 b2 : Value} (h : w.cell? ⟨g, 0, none⟩ = some a0 ∧ w.cell? ⟨g, 1, none⟩ = some a1 ∧ w.cell? ⟨g, 2, none⟩ = some a2 ∧ w.cell? ⟨g, 3, none⟩ = some a3 ∧ w.cell? ⟨g, 4, none⟩ = some a4 ∧ w.cell? ⟨g, 5, none⟩ = some a5 ∧ w.cell? ⟨g, 6, none⟩ = some a6 ∧ w.cell? ⟨g, 7, none⟩ = some a7 ∧ w.cell? ⟨g, 8, none⟩ = some a8 ∧ w.cell? ⟨g, 9, none⟩ = some a9 ∧ w.cell? ⟨g, 10, none⟩ = some a10 ∧ w.cell? ⟨g, 11, none⟩ = some a11 ∧ w.cell? ⟨g, 12, none⟩ = some a12 ∧ w.cell? ⟨k, 0, none⟩ = some b0 ∧ w.cell? ⟨k, 1, none⟩ = some b1 ∧ w.cell? ⟨k, 2, none⟩ = some b2) : w.drew.cell? ⟨g, 0, none⟩ = some a0 ∧ w.drew.cell? ⟨g, 1, none⟩ = some a1 ∧ w.drew.cell? ⟨g, 2, none⟩ = some a2 ∧ w.drew.cell? ⟨g, 3, none⟩ = some a3 ∧ w.drew.cell? ⟨g, 4, none⟩ = some a4 ∧ w.drew.cell? ⟨g, 5, none⟩ = some a5 ∧ w.drew.cell? ⟨g, 6, none⟩ = some a6 ∧ w.drew.cell? ⟨g, 7, none⟩ = some a7 ∧ w.drew.cell? ⟨g, 8, none⟩ = some a8 ∧ w.drew.cell? ⟨g, 9, none⟩ = some a9 ∧ w.drew.cell? ⟨g, 10, none⟩ = some a10 ∧ w.drew.cell? ⟨g, 11, none⟩ = some a11 ∧ w.drew.cell? ⟨g, 12, none⟩ = some a12 ∧ w.drew.cell? ⟨k, 0, none⟩ = some b0 ∧ w.drew.cell? ⟨k, 1, none⟩ = some b1 ∧ w.drew.cell? ⟨k, 2, none⟩ = some b2 := h
theorem EnvB.ne {w : World} {ss : List (Option Addr × Nat × List UInt8)} {ps : List (Option Addr × Nat × List Pr)} {gs : List Bx} (h : EnvB w ss ps gs) (i j : Nat) {a b : Bx} (hi : gs[i]? = some a) (hj : gs[j]? = some b) (hij : i ≠ j) : a.1 ≠ b.1 := fun e => by
  have n1 : (gs.map Prod.fst)[i]? = some a.1 := by rw [List.getElem?_map, hi]; rfl
  have n2 : (gs.map Prod.fst)[j]? = some a.1 := by rw [List.getElem?_map, hj, e]; rfl
  exact hij ((List.getElem?_inj (List.getElem?_eq_some_iff.1 n1).1 h.d).1 (n1.trans n2.symm))
theorem EnvB.setCells {w : World} {ss : List (Option Addr × Nat × List UInt8)} {ps : List (Option Addr × Nat × List Pr)} {gs : List Bx} (h : EnvB w ss ps gs) (i : Nat) {g : Nat} {old cs : Array Value} {t : TypeId} (hi : gs[i]? = some (g, old, t)) (vs : List Value) (hcs : upd old 0 vs = cs) : EnvB (w.setCells g 0 vs) ss ps (gs.set i (g, cs, t)) := by
  subst hcs
  exact h.turn i hi (setCells_row g t vs 0 w old (h.row i hi)) (setCells_other g vs 0 w) (setCells_size g vs 0 w)
/-- Results of which some lie in boxes. -/
theorem res_cell_tmp {P : Program} {fn : Func} {p q : Tmp} {ty : TypeId} (h : fn.results = #[.cell p ty, .tmp q]) (tmps : Array Value) (w : World) (g : Nat) (t : TypeId) (cs : Array Value) (d : TypeDesc)
    (hp : tmps.getD p undef = .pointer (some ⟨g, 0, none⟩)) (hg : w.heap[g]? = some (.cells cs t))
    (hu : P.underlying ty = some d) (hd : (match d with | .struct _ | .array _ _ => true | _ => false) = true) (hi : (P.info? ty).map (·.size) = some cs.size) :
    (results fn tmps).run P w = .ok (.tuple #[.agg cs, tmps.getD q undef]) w := by
  have hp' : tmps[p]?.getD undef = .pointer (some ⟨g, 0, none⟩) := by simpa using hp
  simp [results, h, hp', asAddr, run_loadVar_row w g t ty cs _ d hg hu hd hi]
theorem res_cell_cell {P : Program} {fn : Func} {p q : Tmp} {ty tz : TypeId} (h : fn.results = #[.cell p ty, .cell q tz]) (tmps : Array Value) (w : World) (g k : Nat) (t s : TypeId) (cs ds : Array Value) (d d' : TypeDesc)
    (hp : tmps.getD p undef = .pointer (some ⟨g, 0, none⟩)) (hg : w.heap[g]? = some (.cells cs t)) (hq : tmps.getD q undef = .pointer (some ⟨k, 0, none⟩)) (hk : w.heap[k]? = some (.cells ds s))
    (hu : P.underlying ty = some d) (hd : (match d with | .struct _ | .array _ _ => true | _ => false) = true) (hi : (P.info? ty).map (·.size) = some cs.size)
    (hu' : P.underlying tz = some d') (hd' : (match d' with | .struct _ | .array _ _ => true | _ => false) = true) (hi' : (P.info? tz).map (·.size) = some ds.size) :
    (results fn tmps).run P w = .ok (.tuple #[.agg cs, .agg ds]) w := by
  have hp' : tmps[p]?.getD undef = .pointer (some ⟨g, 0, none⟩) := by simpa using hp
  have hq' : tmps[q]?.getD undef = .pointer (some ⟨k, 0, none⟩) := by simpa using hq
  simp [results, h, hp', hq', asAddr, run_loadVar_row w g t ty cs _ d hg hu hd hi, run_loadVar_row w k s tz ds _ d' hk hu' hd' hi']
/-- A slice that a call hands back: it reads so, and lies in memory from block B on. -/
def FreshS (B : Nat) (A : Option Addr) (n : Nat) : Prop := 0 < n → ∀ b o, A = some ⟨b, o, none⟩ → B ≤ b
theorem OwnB.freshS {w : World} {B : Nat} {t : TypeId} {A : Option Addr} {n c : Nat} {xs : List UInt8} (h : OwnB w B t (.slice A n c) xs) : FreshS B A n := fun _ b o e => (h.addr e).1
theorem OwnP.freshS {w : World} {B : Nat} {t : TypeId} {A : Option Addr} {n c : Nat} {xs : List Pr} (h : OwnP w B t (.slice A n c) xs) : FreshS B A n := fun _ b o e => by
  obtain ⟨A', c', e', _, _, h4, _⟩ := h.form
  cases e'
  obtain ⟨g, eg, hg, _⟩ := h4 _ e
  cases eg
  exact hg
theorem FreshS.less {B B' : Nat} {A : Option Addr} {n : Nat} (h : FreshS B A n) (hB : B' ≤ B) : FreshS B' A n := fun hn b o e => Nat.le_trans hB (h hn b o e)
theorem FreshS.nil_ (B : Nat) (A : Option Addr) : FreshS B A 0 := fun h => absurd h (by omega)
/-- What a call tells of a slice of bytes, of pairs. -/
def HandS (w' : World) (B : Nat) (A : Option Addr) (n c : Nat) (xs : List UInt8) : Prop := Bs w' w'.heap.size A n xs ∧ FreshS B A n ∧ n ≤ c ∧ (A = none → c = 0)
def HandP (w' : World) (B : Nat) (A : Option Addr) (n c : Nat) (xs : List Pr) : Prop := Ps w' w'.heap.size A n xs ∧ FreshS B A n ∧ n ≤ c ∧ (A = none → c = 0)
theorem HandS.nil_ (w : World) (B : Nat) : HandS w B none 0 0 [] := ⟨Bs.none_, FreshS.nil_ _ _, Nat.le_refl _, fun _ => rfl⟩
theorem HandP.nil_ (w : World) (B : Nat) : HandP w B none 0 0 [] := ⟨Ps.none_, FreshS.nil_ _ _, Nat.le_refl _, fun _ => rfl⟩
theorem OwnB.handS {w : World} {B : Nat} {t : TypeId} {v : Value} {xs : List UInt8} {n : Nat} (h : OwnB w B t v xs) (hl : xs.length = n) : ∃ A c, v = .slice A n c ∧ HandS w B A n c xs := by
  obtain ⟨A, c, rfl, h1, h2, h3⟩ := h.form2 hl
  exact ⟨A, c, rfl, h3, h.freshS, h1, h2⟩
theorem OwnP.handP {w : World} {B : Nat} {t : TypeId} {v : Value} {xs : List Pr} {n : Nat} (h : OwnP w B t v xs) (hl : xs.length = n) : ∃ A c, v = .slice A n c ∧ HandP w B A n c xs := by
  obtain ⟨A, c, rfl, h1, h2, h3⟩ := h.form2 hl
  exact ⟨A, c, rfl, h3, h.freshS, h1, h2⟩
theorem EnvB.handS {w w' : World} {ss : List (Option Addr × Nat × List UInt8)} {ps : List (Option Addr × Nat × List Pr)} {gs : List Bx} (h : EnvB w ss ps gs) (hb : Below w.heap.size w w') {A : Option Addr} {n c : Nat} {xs : List UInt8} (ho : HandS w' w.heap.size A n c xs) : EnvB w' ((A, n, xs) :: ss) ps gs := by
  have h' := h.on hb
  refine ⟨fun x hx => ?_, h'.p, h'.g, h'.d⟩
  rcases List.mem_cons.1 hx with rfl | hx
  · refine ⟨ho.1, fun hn b o e y hy => ?_⟩
    have := h.lt hy
    have := ho.2.1 hn b o e
    omega
  · exact h'.s x hx
theorem EnvB.handP {w w' : World} {ss : List (Option Addr × Nat × List UInt8)} {ps : List (Option Addr × Nat × List Pr)} {gs : List Bx} (h : EnvB w ss ps gs) (hb : Below w.heap.size w w') {A : Option Addr} {n c : Nat} {xs : List Pr} (ho : HandP w' w.heap.size A n c xs) : EnvB w' ss ((A, n, xs) :: ps) gs := by
  have h' := h.on hb
  refine ⟨h'.s, fun x hx => ?_, h'.g, h'.d⟩
  rcases List.mem_cons.1 hx with rfl | hx
  · refine ⟨ho.1, fun hn b o e y hy => ?_⟩
    have := h.lt hy
    have := ho.2.1 hn b o e
    omega
  · exact h'.p x hx
theorem handB {w w' : World} {ss : List (Option Addr × Nat × List UInt8)} {ps : List (Option Addr × Nat × List Pr)} {gs : List Bx} (h : EnvB w ss ps gs) (hb : Below w.heap.size w w') {A : Option Addr} {n c : Nat} {xs : List UInt8} (ho : HandS w' w.heap.size A n c xs) {A2 : Option Addr} {n2 c2 : Nat} {ys : List Pr} (hp : HandP w' w.heap.size A2 n2 c2 ys) : EnvB w' ((A, n, xs) :: ss) ((A2, n2, ys) :: ps) gs :=
  ⟨(h.handS hb ho).s, (h.handP hb hp).p, (h.on hb).g, h.d⟩
end Go.Proofs.YtbflhphjnmhjhaaGreat
