/- What a long walk knows of memory, whatever is told of it: facts, each with the blocks that it hangs on, beside boxes of the call's own, row by row. Plain, over any program. -/
import Derived.Test.YtbflhphjnmhjhaaGreatGTurn
namespace Go.Proofs.YtbflhphjnmhjhaaGreat
open Go.RowKit
set_option linter.unusedVariables false

/-- Something that is told of memory: it hangs on these blocks alone. -/
structure Fact where
  on : Nat → Prop
  is : World → Prop
  dep : ∀ w w' : World, is w → w.heap.size ≤ w'.heap.size → (∀ k, on k → w'.heap[k]? = w.heap[k]?) → is w'
structure EnvF (w : World) (fs : List Fact) (gs : List Bx) : Prop where
  f : ∀ x ∈ fs, x.is w ∧ ∀ k, x.on k → k < w.heap.size ∧ ∀ y ∈ gs, k ≠ y.1
  g : ∀ y ∈ gs, w.heap[y.1]? = some (.cells y.2.1 y.2.2)
  d : (gs.map Prod.fst).Nodup
/-- What a call hands back: it holds, and lies in memory from block B on. -/
def HandF (w' : World) (B : Nat) (x : Fact) : Prop := x.is w' ∧ ∀ k, x.on k → B ≤ k ∧ k < w'.heap.size
section
variable {w w' : World} {fs : List Fact} {gs : List Bx} {x : Fact}
theorem EnvF.lt (h : EnvF w fs gs) {y : Bx} (hy : y ∈ gs) : y.1 < w.heap.size := (Array.getElem?_eq_some_iff.1 (h.g y hy)).1
theorem EnvF.nil (w : World) : EnvF w [] [] := ⟨fun _ h => (by cases h), fun _ h => (by cases h), by simp⟩
theorem EnvF.on (h : EnvF w fs gs) (hb : Below w.heap.size w w') : EnvF w' fs gs :=
  ⟨fun x hx => ⟨x.dep w w' (h.f x hx).1 hb.size fun k hk => hb.block k ((h.f x hx).2 k hk).1, fun k hk => ⟨Nat.lt_of_lt_of_le ((h.f x hx).2 k hk).1 hb.size, ((h.f x hx).2 k hk).2⟩⟩,
    fun y hy => (hb.block _ (h.lt hy)).trans (h.g y hy), h.d⟩
theorem EnvF.al (h : EnvF w fs gs) (o : Obj) : EnvF (w.alloc o) fs gs := h.on ((Below.refl _ w).alloc (Nat.le_refl _) o)
theorem EnvF.drew (h : EnvF w fs gs) : EnvF w.drew fs gs := h.on (Below.refl _ w).drew
theorem EnvF.row (h : EnvF w fs gs) (i : Nat) {g : Nat} {cs : Array Value} {t : TypeId} (hi : gs[i]? = some (g, cs, t)) : w.heap[g]? = some (.cells cs t) := h.g _ (List.mem_of_getElem? hi)
theorem EnvF.add0 (h : EnvF w fs []) (hx : x.is w) (hl : ∀ k, x.on k → k < w.heap.size) : EnvF w (x :: fs) [] :=
  ⟨fun y hy => by
    rcases List.mem_cons.1 hy with rfl | hy
    · exact ⟨hx, fun k hk => ⟨hl k hk, fun _ h => (by cases h)⟩⟩
    · exact h.f y hy, h.g, h.d⟩
theorem EnvF.hand (h : EnvF w fs gs) (hb : Below w.heap.size w w') (hx : HandF w' w.heap.size x) : EnvF w' (x :: fs) gs :=
  ⟨fun y hy => by
    rcases List.mem_cons.1 hy with rfl | hy
    · exact ⟨hx.1, fun k hk => ⟨(hx.2 k hk).2, fun z hz => by have := h.lt hz; have := (hx.2 k hk).1; omega⟩⟩
    · exact (h.on hb).f y hy, (h.on hb).g, h.d⟩
theorem EnvF.boxg (h : EnvF w fs gs) (t : TypeId) (cs : Array Value) (g : Nat) (hg : w.heap.size = g) : EnvF (w.alloc (.cells cs t)) fs ((g, cs, t) :: gs) := by
  subst hg
  refine ⟨fun x hx => ⟨((h.al _).f x hx).1, fun k hk => ⟨((h.al _).f x hx).2 k hk |>.1, fun y hy => ?_⟩⟩, fun y hy => ?_, ?_⟩
  · rcases List.mem_cons.1 hy with rfl | hy
    · have := ((h.f x hx).2 k hk).1
      simp only
      omega
    · exact ((h.f x hx).2 k hk).2 y hy
  · rcases List.mem_cons.1 hy with rfl | hy
    · exact World.alloc_heap_new w _
    · exact (h.al _).g y hy
  · rw [List.map_cons, List.nodup_cons]
    refine ⟨fun hm => ?_, h.d⟩
    obtain ⟨y, hy, e⟩ := List.mem_map.1 hm
    have := h.lt hy
    simp only at e
    omega
theorem EnvF.box (h : EnvF w fs gs) (t : TypeId) (cs : Array Value) : EnvF (w.alloc (.cells cs t)) fs ((w.heap.size, cs, t) :: gs) := h.boxg t cs _ rfl
theorem EnvF.ne (h : EnvF w fs gs) (i j : Nat) {a b : Bx} (hi : gs[i]? = some a) (hj : gs[j]? = some b) (hij : i ≠ j) : a.1 ≠ b.1 := fun e => by
  have n1 : (gs.map Prod.fst)[i]? = some a.1 := by rw [List.getElem?_map, hi]; rfl
  have n2 : (gs.map Prod.fst)[j]? = some a.1 := by rw [List.getElem?_map, hj, e]; rfl
  exact hij ((List.getElem?_inj (List.getElem?_eq_some_iff.1 n1).1 h.d).1 (n1.trans n2.symm))
/-- One box turns, and nothing else. -/
theorem EnvF.turn (h : EnvF w fs gs) (i : Nat) {g : Nat} {old cs : Array Value} {t : TypeId} (hi : gs[i]? = some (g, old, t)) (hrow : w'.heap[g]? = some (.cells cs t)) (hoth : ∀ k, k ≠ g → w'.heap[k]? = w.heap[k]?) (hz : w'.heap.size = w.heap.size) :
    EnvF w' fs (gs.set i (g, cs, t)) := by
  have hmem : (g, old, t) ∈ gs := List.mem_of_getElem? hi
  have hfst := fst_set gs i (cs := cs) hi
  have hsub : ∀ y ∈ gs.set i (g, cs, t), y.1 ∈ gs.map Prod.fst := fun y hy => by rw [← hfst]; exact List.mem_map_of_mem hy
  refine ⟨fun x hx => ⟨x.dep w w' (h.f x hx).1 (by omega) fun k hk => hoth k (((h.f x hx).2 k hk).2 _ hmem), fun k hk => ⟨by rw [hz]; exact ((h.f x hx).2 k hk).1, fun y hy => ?_⟩⟩, fun y hy => ?_, by rw [hfst]; exact h.d⟩
  · obtain ⟨z, hz2, ez⟩ := List.mem_map.1 (hsub y hy)
    rw [← ez]
    exact ((h.f x hx).2 k hk).2 z hz2
  · obtain ⟨k, hk, ek⟩ := List.mem_iff_getElem.1 hy
    rw [List.getElem_set] at ek
    split at ek
    · subst ek
      exact hrow
    · rename_i hne
      have hk' : k < gs.length := by simpa using hk
      have hy2 : y ∈ gs := ek ▸ List.getElem_mem hk'
      have hne2 : y.1 ≠ g := fun e => by
        have n1 : (gs.map Prod.fst)[k]? = some g := by rw [List.getElem?_map, List.getElem?_eq_getElem hk', ek]; simp [e]
        have n2 : (gs.map Prod.fst)[i]? = some g := by rw [List.getElem?_map, hi]; rfl
        have hi' : i < (gs.map Prod.fst).length := (List.getElem?_eq_some_iff.1 n2).1
        exact hne ((List.getElem?_inj hi' h.d).1 (n2.trans n1.symm))
      exact (hoth _ hne2).trans (h.g y hy2)
theorem EnvF.setCells (h : EnvF w fs gs) (i : Nat) {g : Nat} {old cs : Array Value} {t : TypeId} (hi : gs[i]? = some (g, old, t)) (vs : List Value) (hcs : upd old 0 vs = cs) : EnvF (w.setCells g 0 vs) fs (gs.set i (g, cs, t)) := by
  subst hcs
  exact h.turn i hi (setCells_row g t vs 0 w old (h.row i hi)) (setCells_other g vs 0 w) (setCells_size g vs 0 w)
/-- Facts and boxes left out. -/
theorem EnvF.sub {fs' : List Fact} {gs' : List Bx} (h : EnvF w fs gs) (h1 : ∀ x ∈ fs', x ∈ fs) (h3 : List.Sublist gs' gs) : EnvF w fs' gs' :=
  ⟨fun x hx => ⟨(h.f x (h1 x hx)).1, fun k hk => ⟨((h.f x (h1 x hx)).2 k hk).1, fun y hy => ((h.f x (h1 x hx)).2 k hk).2 y (h3.subset hy)⟩⟩, fun y hy => h.g y (h3.subset hy), h.d.sublist (h3.map _)⟩
/-- A part of what is told. -/
theorem EnvF.less (h : EnvF w fs gs) {y : Fact} (hy : y ∈ fs) (hx : x.is w) (hon : ∀ k, x.on k → y.on k) : EnvF w (x :: fs) gs :=
  ⟨fun z hz => by
    rcases List.mem_cons.1 hz with rfl | hz
    · exact ⟨hx, fun k hk => (h.f y hy).2 k (hon k hk)⟩
    · exact h.f z hz, h.g, h.d⟩
end
/-- Bytes. -/
def bF (A : Option Addr) (n : Nat) (xs : List UInt8) : Fact where
  on k := 0 < n ∧ ∃ o, A = some ⟨k, o, none⟩
  is w := Bs w w.heap.size A n xs
  dep w w' h hz hk := ⟨h.1, fun hn => by
    obtain ⟨b, o, e, hb, hc⟩ := h.2 hn
    exact ⟨b, o, e, by omega, fun j hj => (World.cell?_of_block (hk b ⟨hn, o, e⟩)).trans (hc j hj)⟩⟩
section
variable {w w' : World} {fs : List Fact} {gs : List Bx}
theorem EnvF.bs (h : EnvF w fs gs) {A : Option Addr} {n : Nat} {xs : List UInt8} (hm : bF A n xs ∈ fs) : Bs w w.heap.size A n xs := (h.f _ hm).1
theorem bs_on {A : Option Addr} {n : Nat} {xs : List UInt8} (h : Bs w w.heap.size A n xs) : ∀ k, (bF A n xs).on k → k < w.heap.size := fun k hk => by
  obtain ⟨hn, o, e⟩ := hk
  obtain ⟨b, o', e', hb, _⟩ := h.2 hn
  rw [e] at e'
  cases e'
  exact hb
theorem EnvF.addB (h : EnvF w fs []) {A : Option Addr} {n : Nat} {xs : List UInt8} (hb : Bs w w.heap.size A n xs) : EnvF w (bF A n xs :: fs) [] := h.add0 hb (bs_on hb)
theorem HandS.handF {B : Nat} {A : Option Addr} {n c : Nat} {xs : List UInt8} (h : HandS w B A n c xs) : HandF w B (bF A n xs) := ⟨h.1, fun k hk => by
  have h1 := bs_on h.1 k hk
  obtain ⟨hn, o, e⟩ := hk
  exact ⟨h.2.1 hn k o e, h1⟩⟩
theorem EnvF.handS (h : EnvF w fs gs) (hb : Below w.heap.size w w') {A : Option Addr} {n c : Nat} {xs : List UInt8} (ho : HandS w' w.heap.size A n c xs) : EnvF w' (bF A n xs :: fs) gs := h.hand hb ho.handF
/-- No bytes, wherever they stand. -/
theorem EnvF.none_ (h : EnvF w fs gs) (A : Option Addr) : EnvF w (bF A 0 [] :: fs) gs :=
  ⟨fun y hy => by
    rcases List.mem_cons.1 hy with rfl | hy
    · exact ⟨Bs.empty _ _ _, fun k hk => absurd hk.1 (by omega)⟩
    · exact h.f y hy, h.g, h.d⟩
/-- A literal of bytes. -/
theorem EnvF.litg (h : EnvF w fs gs) (t : TypeId) (xs : List UInt8) (cs : Array Value) (hx : (xs.map bv).toArray = cs) (n : Nat) (hn : xs.length = n) (g : Nat) (hg : w.heap.size = g) : EnvF (w.alloc (.cells cs t)) (bF (some ⟨g, 0, none⟩) n xs :: fs) gs := by
  subst hn
  refine h.hand ((Below.refl _ w).alloc (Nat.le_refl _) _) ⟨?_, fun k hk => ?_⟩
  · have := bs_lit w t xs cs g hg hx
    rw [← hg] at this
    show Bs (w.alloc _) (w.alloc _).heap.size _ _ _
    rw [World.size_alloc, ← hg]
    exact this
  · obtain ⟨_, o, e⟩ := hk
    cases e
    simp
    omega
end
theorem at_guard {P : Program} {ops : Array Oper} {rest : List Oper} {op : Oper} {a : Act} {w : World} {Q : Exit → Act → World → Prop} (j : Nat) (b : Bool) (_ : op.guard = some (j, b)) (h : wpList P ops Q (op :: rest) a w) : wpList P ops Q (op :: rest) a w := h
/-- An operation whose guard is not met, or was not run itself. -/
theorem skip_undef {ops : Array Oper} {op : Oper} {a : Act} (j : Nat) (b : Bool) (d : Tmp) (hg : op.guard = some (j, b)) (hd : (ops[j]?).bind (·.dst) = some d) (ht : a.tmps[d]? = some undef) : Region.wanted op (yielded ops a.tmps) = false := by
  simp only [Region.wanted, hg, yielded, hd, Option.bind_some, ht, undef]
  rfl
theorem skip_bool {ops : Array Oper} {op : Oper} {a : Act} (j : Nat) (b c : Bool) (d : Tmp) (hg : op.guard = some (j, b)) (hd : (ops[j]?).bind (·.dst) = some d) (ht : a.tmps[d]? = some (.bool c)) (hc : (c == b) = false) : Region.wanted op (yielded ops a.tmps) = false := by
  simp only [Region.wanted, hg, yielded, hd, Option.bind_some, ht]
  cases b <;> cases c <;> simp_all
/-- Loads at operations that are guarded and wanted. -/
theorem wpListG_get {P : Program} {ops : Array Oper} {rest : List Oper} {op : Oper} {a : Act} {w : World} {Q : Exit → Act → World → Prop} (hw : Region.wanted op (yielded ops a.tmps) = true) (ty : TypeId) (x : Operand) (ho : op.op = .load ty x)
    (g o : Nat) (hx : a.eval x = .pointer (some ⟨g, o, none⟩)) (t : TypeId) (cs : Array Value) (v : Value) (d : TypeDesc) (hg : w.heap[g]? = some (.cells cs t)) (hv : cs[o]? = some v)
    (hu : P.underlying ty = some d) (hd : (match d with | .struct _ | .array _ _ => true | _ => false) = false)
    (h : wpList P ops Q rest (a.put op.dst v) w) : wpList P ops Q (op :: rest) a w :=
  wpList_step fun _ hK => by rw [if_pos hw]; exact wp_get ty x ho g o hx t cs v d hg hv hu hd (hK _ _ h)
theorem wpListG_row {P : Program} {ops : Array Oper} {rest : List Oper} {op : Oper} {a : Act} {w : World} {Q : Exit → Act → World → Prop} (hw : Region.wanted op (yielded ops a.tmps) = true) (ty : TypeId) (x : Operand) (ho : op.op = .load ty x)
    (g : Nat) (hx : a.eval x = .pointer (some ⟨g, 0, none⟩)) (t : TypeId) (cs : Array Value) (d : TypeDesc) (hg : w.heap[g]? = some (.cells cs t))
    (hu : P.underlying ty = some d) (hd : (match d with | .struct _ | .array _ _ => true | _ => false) = true) (hi : (P.info? ty).map (·.size) = some cs.size)
    (h : wpList P ops Q rest (a.put op.dst (.agg cs)) w) : wpList P ops Q (op :: rest) a w :=
  wpList_step fun _ hK => by rw [if_pos hw]; exact wp_load_row ty x ho g hx t cs (0, 0) d hg hu hd hi (hK _ _ h)
theorem cells2_row {w : World} {g : Nat} {a b : Value} {t : TypeId} (h : w.heap[g]? = some (.cells #[a, b] t)) : w.cell? ⟨g, 0, none⟩ = some a ∧ w.cell? ⟨g, 1, none⟩ = some b := by
  refine ⟨?_, ?_⟩ <;> rw [cell_of_row w g _ _ t (0, 0) h] <;> rfl
theorem cells1_row {w : World} {g : Nat} {a : Value} {t : TypeId} (h : w.heap[g]? = some (.cells #[a] t)) : w.cell? ⟨g, 0, none⟩ = some a := by
  rw [cell_of_row w g _ _ t (0, 0) h]; rfl
theorem cells3_row {w : World} {g : Nat} {a b c : Value} {t : TypeId} (h : w.heap[g]? = some (.cells #[a, b, c] t)) : w.cell? ⟨g, 0, none⟩ = some a ∧ w.cell? ⟨g, 1, none⟩ = some b ∧ w.cell? ⟨g, 2, none⟩ = some c := c3_row h
theorem cells4_row {w : World} {g : Nat} {a b c d : Value} {t : TypeId} (h : w.heap[g]? = some (.cells #[a, b, c, d] t)) : w.cell? ⟨g, 0, none⟩ = some a ∧ w.cell? ⟨g, 1, none⟩ = some b ∧ w.cell? ⟨g, 2, none⟩ = some c ∧ w.cell? ⟨g, 3, none⟩ = some d := c4_row h
theorem cells5_row {w : World} {g : Nat} {a b c d e : Value} {t : TypeId} (h : w.heap[g]? = some (.cells #[a, b, c, d, e] t)) : w.cell? ⟨g, 0, none⟩ = some a ∧ w.cell? ⟨g, 1, none⟩ = some b ∧ w.cell? ⟨g, 2, none⟩ = some c ∧ w.cell? ⟨g, 3, none⟩ = some d ∧ w.cell? ⟨g, 4, none⟩ = some e := by
  refine ⟨?_, ?_, ?_, ?_, ?_⟩ <;> rw [cell_of_row w g _ _ t (0, 0) h] <;> rfl
end Go.Proofs.YtbflhphjnmhjhaaGreat
