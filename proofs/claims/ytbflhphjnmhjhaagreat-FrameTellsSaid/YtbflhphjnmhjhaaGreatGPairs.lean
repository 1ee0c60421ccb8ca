/- Slices of pairs (a uint16 and a uint32, a cell each), as lists; pairs of the call's own; append of one. Plain, over any program. -/
import Derived.Deep.SlicePairs
import Derived.Test.YtbflhphjnmhjhaaGreatGApp
namespace Go.Proofs.YtbflhphjnmhjhaaGreat
open Go.RowKit

abbrev Pr := UInt16 × UInt32
/-- A pair's cells, and as one value. -/
def pc (x : Pr) : List Value := [.int .u16 x.1.toNat, .int .u32 x.2.toNat]
def pv (x : Pr) : Value := .agg #[.int .u16 x.1.toNat, .int .u32 x.2.toNat]
/-- The slice value's first n pairs, at address A, are xs; its block lies below B. -/
def Ps (w : World) (B : Nat) (A : Option Addr) (n : Nat) (xs : List Pr) : Prop :=
  xs.length = n ∧ (0 < n → ∃ b o, A = some ⟨b, o, none⟩ ∧ b < B ∧ ∀ j, j < n → w.cell? ⟨b, o + j * 2, none⟩ = some (.int .u16 ((xs[j]?.getD (0, 0)).1.toNat : Int)) ∧ w.cell? ⟨b, o + (j * 2 + 1), none⟩ = some (.int .u32 ((xs[j]?.getD (0, 0)).2.toNat : Int)))
section
variable {w w' : World} {B B' n : Nat} {A : Option Addr} {xs : List Pr}
theorem Ps.none_ : Ps w B A 0 [] := ⟨rfl, fun h => absurd h (by omega)⟩
theorem Ps.keep (h : Ps w B A n xs) (hk : ∀ p : Addr, p.block < B → w'.cell? p = w.cell? p) : Ps w' B A n xs :=
  ⟨h.1, fun hn => by
    obtain ⟨b, o, e, hb, hc⟩ := h.2 hn
    exact ⟨b, o, e, hb, fun j hj => ⟨(hk _ hb).trans (hc j hj).1, (hk _ hb).trans (hc j hj).2⟩⟩⟩
theorem Ps.more (h : Ps w B A n xs) (hB : B ≤ B') : Ps w B' A n xs :=
  ⟨h.1, fun hn => by
    obtain ⟨b, o, e, hb, hc⟩ := h.2 hn
    exact ⟨b, o, e, by omega, hc⟩⟩
theorem Ps.below (h : Ps w B A n xs) (hb : Below B w w') : Ps w' B A n xs := h.keep fun _ hp => hb.cell hp
theorem Ps.alloc (h : Ps w B A n xs) (hB : B ≤ w.heap.size) (o : Obj) : Ps (w.alloc o) B A n xs := h.keep fun p hp => World.cell?_alloc_lt w o p (by omega)
theorem Ps.drew (h : Ps w B A n xs) : Ps w.drew B A n xs := h
theorem Ps.setCell (h : Ps w B A n xs) {p : Addr} (hB : B ≤ p.block) (u : Value) : Ps (w.setCell p u) B A n xs :=
  h.keep fun q hq => World.cell?_setCell_other w p q u (fun e => by subst e; omega)
theorem Ps.on (h : Ps w w.heap.size A n xs) (hb : Below w.heap.size w w') : Ps w' w'.heap.size A n xs := (h.below hb).more hb.size
theorem ps_cell (h : Ps w B A n xs) (hn : 0 < n) :
    ∃ b o, A = some ⟨b, o, none⟩ ∧ b < B ∧ ∀ j, j < n → ∃ x, xs[j]? = some x ∧ w.cell? ⟨b, o + j * 2, none⟩ = some (.int .u16 x.1.toNat) ∧ w.cell? ⟨b, o + (j * 2 + 1), none⟩ = some (.int .u32 x.2.toNat) := by
  obtain ⟨b, o, e, hb, hc⟩ := h.2 hn
  refine ⟨b, o, e, hb, fun j hj => ?_⟩
  have hl : j < xs.length := by have := h.1; omega
  have := hc j hj
  rw [List.getElem?_eq_getElem hl, Option.getD_some] at this
  exact ⟨xs[j], List.getElem?_eq_getElem hl, this⟩
end
theorem pcs_at : ∀ (xs : List Pr) (j : Nat) (x : Pr), xs[j]? = some x → (xs.flatMap pc)[j * 2]? = some (.int .u16 x.1.toNat) ∧ (xs.flatMap pc)[j * 2 + 1]? = some (.int .u32 x.2.toNat)
  | [], _, _, h => by simp at h
  | y :: xs, 0, x, h => by
    simp at h
    subst h
    simp [pc]
  | y :: xs, j + 1, x, h => by
    have h2 := pcs_at xs j x (by simpa using h)
    rw [List.flatMap_cons]
    have e1 : (j + 1) * 2 = j * 2 + 2 := by omega
    rw [e1, show j * 2 + 2 + 1 = (j * 2 + 1) + 2 from by omega]
    constructor
    · rw [List.getElem?_append_right (by simp [pc])]
      simpa [pc] using h2.1
    · rw [List.getElem?_append_right (by simp [pc])]
      simpa [pc] using h2.2
theorem pcs_len (xs : List Pr) : (xs.flatMap pc).length = xs.length * 2 := by
  induction xs with
  | nil => rfl
  | cons y xs ih => rw [List.flatMap_cons, List.length_append, ih, List.length_cons]; simp [pc]; omega
theorem pcs_one (xs : List Pr) : ∀ u ∈ xs.flatMap pc, u.oneCell' = true := by
  intro u hu
  obtain ⟨x, _, hx⟩ := List.mem_flatMap.1 hu
  simp [pc] at hx
  rcases hx with rfl | rfl <;> rfl

/-- The slice value v is the call's own, from block B on: the pairs xs (t: the number of the pairs' type). -/
def OwnP (w : World) (B : Nat) (t : TypeId) (v : Value) (xs : List Pr) : Prop := w.ownsRow B t 2 v xs.length (xs.flatMap pc)
section
variable {w w' : World} {B B' : Nat} {t : TypeId} {v : Value} {xs : List Pr}
theorem OwnP.nil_ (w : World) (B : Nat) (t : TypeId) : OwnP w B t (.slice none 0 0) [] := World.ownsRow_nil w B t 2
theorem OwnP.kept (h : OwnP w B t v xs) (hb : Below w.heap.size w w') : OwnP w' B t v xs :=
  World.ownsRow.kept h (row := none) ⟨hb.os, hb.tape, hb.output, hb.size, fun k hk _ => hb.block k hk⟩ (by cases h' : v.ownBlock <;> simp)
theorem OwnP.less (h : OwnP w B t v xs) (hB : B' ≤ B) : OwnP w B' t v xs := by
  refine ⟨h.1, ?_⟩
  rcases h.2 with h2 | ⟨g, cap, cur, e, hg, rest⟩
  · exact .inl h2
  · exact .inr ⟨g, cap, cur, e, by omega, rest⟩
theorem OwnP.alloc (h : OwnP w B t v xs) (o : Obj) : OwnP (w.alloc o) B t v xs := h.kept ((Below.refl _ w).alloc (Nat.le_refl _) o)
theorem OwnP.drew (h : OwnP w B t v xs) : OwnP w.drew B t v xs := h
theorem OwnP.grown {row : Option Nat} (h : OwnP w B t v xs) (hg : w.grownBy w' row) (hne : v.ownBlock = none ∨ v.ownBlock ≠ row) : OwnP w' B t v xs := World.ownsRow.kept h hg hne
theorem OwnP.form (h : OwnP w B t v xs) :
    ∃ A c, v = .slice A xs.length c ∧ xs.length ≤ c ∧ (A = none → c = 0) ∧ (∀ a, A = some a → ∃ g, a = ⟨g, 0, none⟩ ∧ B ≤ g ∧ g < w.heap.size) ∧ Ps w w.heap.size A xs.length xs := by
  rcases h.2 with ⟨rfl, h0⟩ | ⟨g, cap, cur, rfl, hBg, hg, hle, hmax, hs, htake⟩
  · have : xs = [] := List.eq_nil_of_length_eq_zero h0
    subst this
    exact ⟨none, 0, rfl, Nat.le_refl _, fun _ => rfl, fun a h => (by cases h), Ps.none_⟩
  · have hlt : g < w.heap.size := (Array.getElem?_eq_some_iff.1 hg).1
    have hw : w.ownsRow B t 2 (.slice (some ⟨g, 0, none⟩) xs.length cap) xs.length (xs.flatMap pc) := h
    refine ⟨_, cap, rfl, hle, fun h => (by cases h), fun a h => ⟨g, (by cases h; rfl), hBg, hlt⟩, rfl, fun hn => ⟨g, 0, rfl, hlt, fun j hj => ?_⟩⟩
    have hp := pcs_at xs j xs[j] (List.getElem?_eq_getElem hj)
    have c1 := World.ownsRow.cellAt hw (j * 2) (by omega)
    have c2 := World.ownsRow.cellAt hw (j * 2 + 1) (by omega)
    rw [Nat.zero_add, Nat.zero_add, c1, c2, hp.1, hp.2, List.getElem?_eq_getElem hj]
    exact ⟨rfl, rfl⟩
theorem OwnP.form2 {n : Nat} (h : OwnP w B t v xs) (hl : xs.length = n) : ∃ A c, v = .slice A n c ∧ n ≤ c ∧ (A = none → c = 0) ∧ Ps w w.heap.size A n xs := by
  subst hl
  obtain ⟨A, c, e, h1, h2, _, h3⟩ := h.form
  exact ⟨A, c, e, h1, h2, h3⟩
theorem OwnP.lit (w : World) (t : TypeId) (B : Nat) (hB : B ≤ w.heap.size) (g : Nat) (hg : w.heap.size = g) : OwnP (w.alloc (.cells #[] t)) B t (.slice (some ⟨g, 0, none⟩) 0 0) [] := by
  subst hg
  exact ⟨by simp, .inr ⟨w.heap.size, 0, #[], rfl, hB, World.alloc_heap_new w _, Nat.le_refl _, by simp, rfl, rfl⟩⟩
end
theorem ps_lit (w : World) (t : TypeId) (xs : List Pr) (cs : Array Value) (g : Nat) (hg : w.heap.size = g) (h : (xs.flatMap pc).toArray = cs) : Ps (w.alloc (.cells cs t)) (g + 1) (some ⟨g, 0, none⟩) xs.length xs := by
  subst h
  subst hg
  refine ⟨rfl, fun _ => ⟨w.heap.size, 0, rfl, by omega, fun j hj => ?_⟩⟩
  have hp := pcs_at xs j xs[j] (List.getElem?_eq_getElem hj)
  have hh := World.alloc_heap_new w (.cells (xs.flatMap pc).toArray t)
  have c1 := cell_of_row (w.alloc (.cells (xs.flatMap pc).toArray t)) w.heap.size (j * 2) _ t (0, 0) hh
  have c2 := cell_of_row (w.alloc (.cells (xs.flatMap pc).toArray t)) w.heap.size (j * 2 + 1) _ t (0, 0) hh
  rw [Nat.zero_add, Nat.zero_add, c1, c2]
  simp only [List.getElem?_toArray]
  rw [hp.1, hp.2, List.getElem?_eq_getElem hj]
  exact ⟨rfl, rfl⟩
theorem Ps.cells {w : World} {B n : Nat} {a : Addr} {xs : List Pr} (h : Ps w B (some a) n xs) (hn : 0 < n) : ∀ j u, (xs.flatMap pc)[j]? = some u → w.cell? (a.add j) = some u := by
  intro j u hu
  obtain ⟨b, o, e, _, hc⟩ := h.2 hn
  cases e
  have hj : j < xs.length * 2 := by
    have := (List.getElem?_eq_some_iff.1 hu).1
    rwa [pcs_len] at this
  have hl := h.1
  have hj2 : j / 2 < xs.length := by omega
  have hp := pcs_at xs (j / 2) xs[j / 2] (List.getElem?_eq_getElem hj2)
  obtain ⟨c1, c2⟩ := hc (j / 2) (by omega)
  rw [List.getElem?_eq_getElem hj2, Option.getD_some] at c1 c2
  rw [Addr.add_lit]
  rcases Nat.mod_two_eq_zero_or_one j with h0 | h0
  · have e : j / 2 * 2 = j := by omega
    rw [e] at c1 hp
    rw [hp.1] at hu
    cases hu
    exact c1
  · have e : j / 2 * 2 + 1 = j := by omega
    rw [e] at c2 hp
    rw [hp.2] at hu
    cases hu
    exact c2
/-- append of pairs onto pairs of the call's own. -/
theorem run_append_pairs {P : Program} (w : World) (base : Nat) (t ty e : TypeId) (i : TypeInfo) (ht : P.underlying t = some (.slice e)) (hi : P.info? e = some i) (hz : i.zero = some (.agg #[.int .u16 0, .int .u32 0])) (hsize : i.size = 2) (hby : i.bytes = 8)
    (v : Value) (ys : List Pr) (hown : OwnP w base e v ys) (B : Nat) (A : Option Addr) (m c : Nat) (xs : List Pr) (hr : Ps w B A m xs) (hnone : A = none → c = 0) (hlen : ys.length + m ≤ 1000000) (hbase : base ≤ w.heap.size) :
    ∃ v' w', (Builtin.append_ #[t, t] ty #[v, .slice A m c]).run P w = .ok v' w' ∧ OwnP w' base e v' (ys ++ xs) ∧ w.grownBy w' v.ownBlock ∧ (v'.ownBlock = v.ownBlock ∨ v'.ownBlock = some w.heap.size) := by
  have hrow : ∀ (v' : Value) (w' : World), w'.ownsRow base e 2 v' (ys.length + m) (ys.flatMap pc ++ xs.flatMap pc) → OwnP w' base e v' (ys ++ xs) := by
    intro v' w' h
    unfold OwnP
    rw [List.flatMap_append, List.length_append, hr.1]
    exact h
  rcases A with _ | ad
  · obtain rfl := hnone rfl
    have hm : m = 0 := by
      rcases Nat.eq_zero_or_pos m with h0 | h0
      · exact h0
      · obtain ⟨b, o', h1, _⟩ := hr.2 h0
        cases h1
    subst hm
    have hn : xs = [] := List.eq_nil_of_length_eq_zero hr.1
    subst hn
    exact ⟨v, w, run_append_owned_none (P := P) (w := w) base t ty e i 2 ht hi v ys.length _ hown, by simpa using hown, World.grownBy.refl _ _, .inl rfl⟩
  · have hcells : ∀ j u, (xs.flatMap pc)[j]? = some u → w.cell? (ad.add j) = some u := by
      rcases Nat.eq_zero_or_pos m with h0 | h0
      · subst h0
        have hn : xs = [] := List.eq_nil_of_length_eq_zero hr.1
        subst hn
        intro j u hu
        simp at hu
      · exact hr.cells h0
    obtain ⟨v', w', hrun, h2, h3, h4, h5⟩ := run_append_own_at (P := P) w base t ty e i (.agg #[.int .u16 0, .int .u32 0]) 2 8 ht hi hz hsize hby rfl (by decide) v ys.length (ys.flatMap pc) hown ad m c (xs.flatMap pc) (by rw [pcs_len, hr.1]) hcells (pcs_one xs) (by unfold maxLen; omega) (by omega) hbase
    exact ⟨v', w', hrun, hrow v' w' h2, h3, h5⟩
section
variable {P : Program} (w : World) {ops : Array Oper} {rest : List Oper} {o : Oper} {a : Act} {K : Act → World → Prop} {Q : Exit → Act → World → Prop} {E : Prop} (hgd : o.guard = none) (s x : Operand) (t : TypeId)
    (ho : o.op = .call { callee := .builtin .append, args := #[s, x], argTypes := #[t, t] })
    (base : Nat) (e : TypeId) (i : TypeInfo) (ht : P.underlying t = some (.slice e)) (hi : P.info? e = some i) (hz : i.zero = some (.agg #[.int .u16 0, .int .u32 0])) (hsize : i.size = 2) (hby : i.bytes = 8)
    (v : Value) (ys : List Pr) (hs : a.eval s = v) (hown : OwnP w base e v ys)
    (B : Nat) (A : Option Addr) (m c : Nat) (xs : List Pr) (hx : a.eval x = .slice A m c) (hr : Ps w B A m xs) (hnone : A = none → c = 0)
    (hlen : ys.length + m ≤ 1000000) (hbase : base ≤ w.heap.size)
include ho ht hi hz hsize hby hs hown hx hr hnone hlen hbase
theorem wp_append_pairs
    (h : ∀ v' w', OwnP w' base e v' (ys ++ xs) → Below base w w' → w.grownBy w' v.ownBlock → (v'.ownBlock = v.ownBlock ∨ v'.ownBlock = some w.heap.size) → K (a.put o.dst v') w') : Oper.wp P o a w K Q := by
  obtain ⟨v', w', hr, h2, h3, h5⟩ := run_append_pairs (P := P) w base t o.type e i ht hi hz hsize hby v ys hown B A m c xs hr hnone hlen hbase
  unfold Oper.wp
  simp [execOp, ho, resolve, invoke, builtin, hs, hx, hr, Result.andThen]
  exact h v' w' h2 ((Below.refl base w).grown h3 hbase (fun k hk => (World.ownsRow.lt hown k hk).1)) h3 h5
include hgd
theorem wpList_append_pairs
    (h : ∀ v' w', OwnP w' base e v' (ys ++ xs) → Below base w w' → w.grownBy w' v.ownBlock → (v'.ownBlock = v.ownBlock ∨ v'.ownBlock = some w.heap.size) → wpList P ops Q rest (a.put o.dst v') w') : wpList P ops Q (o :: rest) a w :=
  wpList_plain hgd fun _ hK => wp_append_pairs w s x t ho base e i ht hi hz hsize hby v ys hs hown B A m c xs hx hr hnone hlen hbase fun v' w' h1 h2 h3 h4 => hK _ _ (h v' w' h1 h2 h3 h4)
theorem step_append_pairs
    (h : ∀ v' w', OwnP w' base e v' (ys ++ xs) → Below base w w' → w.grownBy w' v.ownBlock → (v'.ownBlock = v.ownBlock ∨ v'.ownBlock = some w.heap.size) → K (a.put o.dst v') w') : if Region.wanted o (yielded ops a.tmps) = true then Oper.wp P o a w K Q else E := by
  have hw : Region.wanted o (yielded ops a.tmps) = true := by simp [Region.wanted, hgd]
  rw [if_pos hw]
  exact wp_append_pairs w s x t ho base e i ht hi hz hsize hby v ys hs hown B A m c xs hx hr hnone hlen hbase h
end
end Go.Proofs.YtbflhphjnmhjhaaGreat
