/- Words for memory: slices that read as lists of bytes, bytes of the call's own, rows, append of bytes. Plain, over any program. -/
import Derived.Below
import Derived.Laws.OwnMore
import Derived.Deep.AppendLies
import Derived.Deep.Draws
import Derived.Laws.Rows
import Derived.WalkKit
import Derived.Lib.Hide
import Derived.WalkMore
import Derived.ScopeJumps
import Derived.Laws.AppendOwnNone
import Derived.RegionTactic
import Derived.RangeFuncRecord
namespace Go.Proofs.YtbflhphjnmhjhaaGreat
open Go.RowKit

theorem block_of_add (a : Addr) (n : Nat) : (a.add n).block = a.block := by unfold Addr.add; split <;> rfl
theorem add_of_add (a : Addr) (i j : Nat) : (a.add i).add j = a.add (i + j) := by
  unfold Addr.add
  by_cases hi : i = 0 <;> by_cases hj : j = 0 <;> simp [hi, hj, Nat.add_assoc]

/-- The slice value's first n cells, at address A, hold the bytes xs; its block lies below B. -/
def Bs (w : World) (B : Nat) (A : Option Addr) (n : Nat) (xs : List UInt8) : Prop :=
  xs.length = n ∧ (0 < n → ∃ b o, A = some ⟨b, o, none⟩ ∧ b < B ∧ ∀ j, j < n → w.cell? ⟨b, o + j, none⟩ = some (.int .u8 ((xs[j]?.getD 0).toNat : Int)))

section
variable {w w' : World} {B B' n : Nat} {A : Option Addr} {xs : List UInt8}
theorem Bs.len (h : Bs w B A n xs) : xs.length = n := h.1
theorem Bs.none_ : Bs w B A 0 [] := ⟨rfl, fun h => absurd h (by omega)⟩
theorem Bs.keep (h : Bs w B A n xs) (hk : ∀ p : Addr, p.block < B → w'.cell? p = w.cell? p) : Bs w' B A n xs :=
  ⟨h.1, fun hn => by
    obtain ⟨b, o, e, hb, hc⟩ := h.2 hn
    exact ⟨b, o, e, hb, fun j hj => (hk _ hb).trans (hc j hj)⟩⟩
theorem Bs.more (h : Bs w B A n xs) (hB : B ≤ B') : Bs w B' A n xs :=
  ⟨h.1, fun hn => by
    obtain ⟨b, o, e, hb, hc⟩ := h.2 hn
    exact ⟨b, o, e, by omega, hc⟩⟩
theorem Bs.take (h : Bs w B A n xs) {k : Nat} (hk : k ≤ n) : Bs w B A k (xs.take k) :=
  ⟨by rw [List.length_take, h.1]; omega, fun hn => by
    obtain ⟨b, o, e, hb, hc⟩ := h.2 (by omega)
    refine ⟨b, o, e, hb, fun j hj => ?_⟩
    rw [List.getElem?_take_of_lt hj]
    exact hc j (by omega)⟩
theorem Bs.below (h : Bs w B A n xs) (hb : Below B w w') : Bs w' B A n xs := h.keep fun _ hp => hb.cell hp
theorem Bs.alloc (h : Bs w B A n xs) (hB : B ≤ w.heap.size) (o : Obj) : Bs (w.alloc o) B A n xs := h.keep fun p hp => World.cell?_alloc_lt w o p (by omega)
theorem Bs.drew (h : Bs w B A n xs) : Bs w.drew B A n xs := h
theorem Bs.setCell (h : Bs w B A n xs) {p : Addr} (hB : B ≤ p.block) (u : Value) : Bs (w.setCell p u) B A n xs :=
  h.keep fun q hq => World.cell?_setCell_other w p q u (fun e => by subst e; omega)
end

/-- A byte as a cell. -/
def bv (x : UInt8) : Value := .int .u8 x.toNat
theorem bv_one (l : List UInt8) : ∀ u ∈ l.map bv, u.oneCell' = true := by
  intro u hu
  obtain ⟨x, _, rfl⟩ := List.mem_map.1 hu
  rfl
/-- The slice value v is the call's own, from block B on: the bytes xs (t: the number of the type uint8). -/
def OwnB (w : World) (B : Nat) (t : TypeId) (v : Value) (xs : List UInt8) : Prop := w.ownsRow B t 1 v xs.length (xs.map bv)
theorem OwnB.nil_ (w : World) (B : Nat) (t : TypeId) : OwnB w B t (.slice none 0 0) [] := World.ownsRow_nil w B t 1
theorem OwnB.kept {w w' : World} {B : Nat} {t : TypeId} {v : Value} {xs : List UInt8} (h : OwnB w B t v xs) (hb : Below w.heap.size w w') : OwnB w' B t v xs :=
  World.ownsRow.kept h (row := none) ⟨hb.os, hb.tape, hb.output, hb.size, fun k hk _ => hb.block k hk⟩ (by cases h' : v.ownBlock <;> simp)
theorem OwnB.less {w : World} {B B' : Nat} {t : TypeId} {v : Value} {xs : List UInt8} (h : OwnB w B t v xs) (hB : B' ≤ B) : OwnB w B' t v xs := by
  refine ⟨h.1, ?_⟩
  rcases h.2 with h2 | ⟨g, cap, cur, e, hg, rest⟩
  · exact .inl h2
  · exact .inr ⟨g, cap, cur, e, by omega, rest⟩
theorem OwnB.form {w : World} {B : Nat} {t : TypeId} {v : Value} {xs : List UInt8} (h : OwnB w B t v xs) :
    ∃ A c, v = .slice A xs.length c ∧ xs.length ≤ c ∧ (A = none → xs = []) ∧ (∀ a, A = some a → ∃ g, a = ⟨g, 0, none⟩ ∧ B ≤ g ∧ g < w.heap.size) ∧ Bs w w.heap.size A xs.length xs := by
  rcases h.2 with ⟨rfl, h0⟩ | ⟨g, cap, cur, rfl, hBg, hg, hle, hmax, hs, htake⟩
  · have : xs = [] := List.eq_nil_of_length_eq_zero h0
    subst this
    exact ⟨none, 0, rfl, Nat.le_refl _, fun _ => rfl, fun a h => (by cases h), Bs.none_⟩
  · have hlt : g < w.heap.size := (Array.getElem?_eq_some_iff.1 hg).1
    refine ⟨_, cap, rfl, hle, fun h => (by cases h), fun a h => ⟨g, (by cases h; rfl), hBg, hlt⟩, rfl, fun hn => ⟨g, 0, rfl, hlt, fun j hj => ?_⟩⟩
    have hc := World.ownsRow.cellAt (base := B) (e := t) (size := 1) (cap := cap) (xs := xs.map bv) (w := w) (g := g) (n := xs.length) ⟨by simp, .inr ⟨g, cap, cur, rfl, hBg, hg, hle, hmax, hs, htake⟩⟩ j (by omega)
    rw [Nat.zero_add, hc, List.getElem?_map, List.getElem?_eq_getElem hj]
    rfl

/-- A scope that the run may leave by one jump ahead, to label l. -/
theorem wp_scope_forward {P : Program} {a : Act} {w : World} {Q : Exit → Act → World → Prop} {c rest : Code} (l : Nat) (hf : findLabel c l = some rest)
    (h : c.wp P (Exit.jump l (fun a w => rest.wp P (Exit.jump l (fun _ _ => False) Q) a w) Q) a w) : (Code.scope c).wp P Q a w := by
  intro b k cs
  have hg : gotoIn l (.inScope c :: k) = some (.code rest :: .inScope c :: k) := by simp [gotoIn, hf]
  obtain ⟨e, a₁, w₁, hq, harr⟩ := h b (.inScope c :: k) cs
  cases e with
  | normal => exact ⟨.normal, a₁, w₁, hq, .head step_scope (Steps.trans harr (.one step_inScope))⟩
  | exit id => exact ⟨.exit id, a₁, w₁, hq, fun k' hk => .head step_scope (harr k' (by simp [exitTo, hk]))⟩
  | goto l' =>
    obtain ⟨rfl, hJ'⟩ := hq
    obtain ⟨e₂, a₂, w₂, hq₂, harr₂⟩ := hJ' b (.inScope c :: k) cs
    cases e₂ with
    | normal => exact ⟨.normal, a₂, w₂, hq₂, .head step_scope (Steps.trans (harr _ hg) (Steps.trans harr₂ (.one step_inScope)))⟩
    | exit id => exact ⟨.exit id, a₂, w₂, hq₂, fun k' hk => .head step_scope (Steps.trans (harr _ hg) (harr₂ k' (by simp [exitTo, hk])))⟩
    | goto l'' => exact hq₂.2.elim
    | ret => exact ⟨_, a₂, w₂, hq₂, .of_steps (.one step_scope) (.of_steps (harr _ hg) harr₂)⟩
    | panic ch => exact ⟨_, a₂, w₂, hq₂, .of_steps (.one step_scope) (.of_steps (harr _ hg) harr₂)⟩
    | outgrown => exact ⟨_, a₂, w₂, hq₂, .of_steps (.one step_scope) (.of_steps (harr _ hg) harr₂)⟩
  | ret => exact ⟨_, a₁, w₁, hq, .of_steps (.one step_scope) harr⟩
  | panic ch => exact ⟨_, a₁, w₁, hq, .of_steps (.one step_scope) harr⟩
  | outgrown => exact ⟨_, a₁, w₁, hq, .of_steps (.one step_scope) harr⟩

theorem bs_cell {w : World} {B n : Nat} {A : Option Addr} {xs : List UInt8} (h : Bs w B A n xs) (hn : 0 < n) :
    ∃ b o, A = some ⟨b, o, none⟩ ∧ b < B ∧ ∀ j, j < n → ∃ x, xs[j]? = some x ∧ w.cell? ⟨b, o + j, none⟩ = some (.int .u8 x.toNat) := by
  obtain ⟨b, o, e, hb, hc⟩ := h.2 hn
  refine ⟨b, o, e, hb, fun j hj => ?_⟩
  have hl : j < xs.length := by have := h.1; omega
  have := hc j hj
  rw [List.getElem?_eq_getElem hl, Option.getD_some] at this
  exact ⟨xs[j], List.getElem?_eq_getElem hl, this⟩
@[go_sem] theorem jump_normal (l : Nat) (J : Act → World → Prop) (Q : Exit → Act → World → Prop) (a : Act) (w : World) : Exit.jump l J Q .normal a w = Q .normal a w := rfl
@[go_sem] theorem jump_exit (l : Nat) (J : Act → World → Prop) (Q : Exit → Act → World → Prop) (id : Nat) (a : Act) (w : World) : Exit.jump l J Q (.exit id) a w = Q (.exit id) a w := rfl
@[go_sem] theorem jump_ret (l : Nat) (J : Act → World → Prop) (Q : Exit → Act → World → Prop) (a : Act) (w : World) : Exit.jump l J Q .ret a w = Q .ret a w := rfl
theorem ret_int {k : IntKind} {a b : Int} (h : a = b) : Ending.returned (.int k a) = .returned (.int k b) := by rw [h]
theorem ret_int2 {k : IntKind} {a b : Int} {v : Value} (h : a = b) : Ending.returned (.tuple #[.int k a, v]) = .returned (.tuple #[.int k b, v]) := by rw [h]


/-- Block g is just the bytes ys. -/
def RowB (w : World) (g : Nat) (t : TypeId) (ys : List UInt8) : Prop := w.heap[g]? = some (.cells (ys.map bv).toArray t (0, 0))
section
variable {w w' : World} {g : Nat} {t : TypeId} {ys : List UInt8}
theorem RowB.lt (h : RowB w g t ys) : g < w.heap.size := (Array.getElem?_eq_some_iff.1 h).1
theorem RowB.cell (h : RowB w g t ys) {j : Nat} {x : UInt8} (hj : ys[j]? = some x) : w.cell? ⟨g, j, none⟩ = some (.int .u8 x.toNat) := by
  have h1 := cell_of_row w g j _ t (0, 0) h
  rw [h1]
  simp [hj, bv]
theorem RowB.frozen (h : RowB w g t ys) (j : Nat) : w.frozen? ⟨g, j, none⟩ = false := by
  unfold RowB at h
  simp [World.frozen?, h]
theorem RowB.set_ (h : RowB w g t ys) (j : Nat) (z : UInt8) : RowB (w.setCell ⟨g, j, none⟩ (.int .u8 z.toNat)) g t (ys.set j z) := by
  unfold RowB at h ⊢
  simp [World.setCell, Array.getElem?_modify, h, List.map_set, bv]
theorem RowB.same (h : RowB w g t ys) (hb : w'.heap[g]? = w.heap[g]?) : RowB w' g t ys := hb.trans h
theorem RowB.of_own {B : Nat} {n : Nat} {l : List UInt8} (h : w.ownsRow B t 1 (.slice (some ⟨g, 0, none⟩) n n) n (l.map bv)) : RowB w g t l := by
  rcases h.2 with ⟨h1, _⟩ | ⟨g', cap, cur, h1, _, hg, _, _, hs, ht⟩
  · cases h1
  · cases h1
    have hl : cur.toList.length = n := by simpa using hs
    have : cur.toList = l.map bv := by rw [← ht]; exact (List.take_of_length_le (by omega)).symm
    unfold RowB
    rw [hg, ← this]
theorem RowB.own {B : Nat} (h : RowB w g t ys) (hB : B ≤ g) (hm : ys.length ≤ maxLen) : OwnB w B t (.slice (some ⟨g, 0, none⟩) ys.length ys.length) ys :=
  ⟨by simp, .inr ⟨g, ys.length, _, rfl, hB, h, Nat.le_refl _, hm, by simp, by simp [List.take_of_length_le]⟩⟩
theorem RowB.bs (h : RowB w g t ys) : Bs w w.heap.size (some ⟨g, 0, none⟩) ys.length ys :=
  ⟨rfl, fun _ => ⟨g, 0, rfl, h.lt, fun j hj => by rw [Nat.zero_add]; exact (h.cell (List.getElem?_eq_getElem hj)).trans (by simp [hj])⟩⟩
end

/-- Only blocks of p may have turned. -/
structure Turn (p : Nat → Prop) (w w' : World) : Prop where
  os : w'.os = w.os
  tape : w'.tape = w.tape
  output : w'.output = w.output
  size : w.heap.size ≤ w'.heap.size
  block : ∀ k, k < w.heap.size → ¬ p k → w'.heap[k]? = w.heap[k]?
section
variable {p q : Nat → Prop} {a b c : World}
theorem Turn.refl (p : Nat → Prop) (w : World) : Turn p w w := ⟨rfl, rfl, rfl, Nat.le_refl _, fun _ _ _ => rfl⟩
theorem Turn.trans (h : Turn p a b) (k : Turn p b c) : Turn p a c := ⟨k.os.trans h.os, k.tape.trans h.tape, k.output.trans h.output, Nat.le_trans h.size k.size, fun i hi hp => (k.block i (Nat.lt_of_lt_of_le hi h.size) hp).trans (h.block i hi hp)⟩
theorem Turn.mono (h : Turn p a b) (hpq : ∀ k, k < a.heap.size → p k → q k) : Turn q a b := ⟨h.os, h.tape, h.output, h.size, fun k hk hq => h.block k hk (fun hp => hq (hpq k hk hp))⟩
theorem Turn.drew (h : Turn p a b) : Turn p a b.drew := h.trans ⟨rfl, rfl, rfl, Nat.le_refl _, fun _ _ _ => rfl⟩
theorem Turn.drewN (h : Turn p a b) (n : Nat) : Turn p a (b.drewN n) := h.trans ⟨rfl, rfl, rfl, Nat.le_refl _, fun _ _ _ => rfl⟩
theorem Turn.setCell (h : Turn p a b) {x : Addr} (hx : p x.block) (u : Value) : Turn p a (b.setCell x u) :=
  h.trans ⟨rfl, rfl, rfl, by simp [World.setCell], fun k _ hp => Below.heap_setCell _ _ _ _ (fun e => hp (e ▸ hx))⟩
theorem Turn.alloc (h : Turn p a b) (o : Obj) : Turn p a (b.alloc o) := h.trans ⟨rfl, rfl, rfl, by simp, fun k hk _ => Below.heap_alloc _ _ _ hk⟩
theorem Turn.below {B : Nat} (h : Turn p a b) (hB : B ≤ a.heap.size) (hp : ∀ k, p k → B ≤ k) : Below B a b := ⟨h.os, h.tape, h.output, h.size, fun k hk => h.block k (by omega) (fun hpk => by have := hp k hpk; omega)⟩
theorem Turn.of_below {B : Nat} (h : Below B a b) (hB : ∀ k, k < a.heap.size → ¬ p k → k < B) : Turn p a b := ⟨h.os, h.tape, h.output, h.size, fun k hk hp => h.block k (hB k hk hp)⟩
end

theorem wp_append_bytes {P : Program} (w : World) {o : Oper} {a : Act} {K : Act → World → Prop} {Q : Exit → Act → World → Prop} (s x : Operand) (t : TypeId)
    (ho : o.op = .call { callee := .builtin .append, args := #[s, x], argTypes := #[t, t] })
    (base : Nat) (e : TypeId) (i : TypeInfo) (ht : P.underlying t = some (.slice e)) (hi : P.info? e = some i) (hz : i.zero = some (.int .u8 0)) (hsize : i.size = 1) (hby : i.bytes = 1)
    (v : Value) (ys : List UInt8) (hs : a.eval s = v) (hown : OwnB w base e v ys)
    (B : Nat) (A : Option Addr) (m c : Nat) (xs : List UInt8) (hx : a.eval x = .slice A m c) (hr : Bs w B A m xs) (hnone : A = none → c = 0)
    (hlen : ys.length + m ≤ 1000000) (hbase : base ≤ w.heap.size)
    (h : ∀ v' w', OwnB w' base e v' (ys ++ xs) → Below base w w' → K (a.put o.dst v') w') : o.wp P a w K Q := by
  rcases A with _ | ad
  · obtain rfl := hnone rfl
    have hm : m = 0 := by
      rcases Nat.eq_zero_or_pos m with h0 | h0
      · exact h0
      · obtain ⟨b, o', h1, _⟩ := hr.2 h0
        cases h1
    subst hm
    have hn : xs = [] := List.eq_nil_of_length_eq_zero hr.1
    subst hn
    have hrun := run_append_owned_none (P := P) (w := w) base t o.type e i 1 ht hi v ys.length _ hown
    unfold Oper.wp
    simp [execOp, ho, resolve, invoke, builtin, hs, hx, hrun, Result.andThen]
    exact h v w (by simpa using hown) (Below.refl _ _)
  · have hcells : ∀ j u, (xs.map bv)[j]? = some u → w.cell? (ad.add j) = some u := by
      intro j u hu
      rcases Nat.eq_zero_or_pos m with h0 | h0
      · subst h0
        have hn : xs = [] := List.eq_nil_of_length_eq_zero hr.1
        subst hn
        simp at hu
      · obtain ⟨b, o', h1, _, hc⟩ := bs_cell hr h0
        cases h1
        have hj : j < m := by
          have := (List.getElem?_eq_some_iff.1 hu).1
          have h2 := hr.1
          simp at this
          omega
        obtain ⟨y, hy, hcy⟩ := hc j hj
        rw [List.getElem?_map, hy] at hu
        cases hu
        rw [Addr.add_lit]
        exact hcy
    refine wp_append_own w s x t ho base e i (.int .u8 0) 1 1 ht hi hz hsize hby rfl (by decide) v ys.length _ hs hown ad m c (xs.map bv) hx (by rw [List.length_map, hr.1, Nat.mul_one]) hcells (bv_one xs) (by unfold maxLen; omega) (by omega) hbase ?_
    intro v' w' hown' hg _
    refine h v' w' ?_ ((Below.refl base w).grown hg hbase (fun k hk => (World.ownsRow.lt hown k hk).1))
    unfold OwnB
    rw [List.map_append, List.length_append, hr.1]
    exact hown'
theorem wpList_append_bytes {P : Program} (w : World) {ops : Array Oper} {rest : List Oper} {o : Oper} {a : Act} {Q : Exit → Act → World → Prop} (hgd : o.guard = none) (s x : Operand) (t : TypeId)
    (ho : o.op = .call { callee := .builtin .append, args := #[s, x], argTypes := #[t, t] })
    (base : Nat) (e : TypeId) (i : TypeInfo) (ht : P.underlying t = some (.slice e)) (hi : P.info? e = some i) (hz : i.zero = some (.int .u8 0)) (hsize : i.size = 1) (hby : i.bytes = 1)
    (v : Value) (ys : List UInt8) (hs : a.eval s = v) (hown : OwnB w base e v ys)
    (B : Nat) (A : Option Addr) (m c : Nat) (xs : List UInt8) (hx : a.eval x = .slice A m c) (hr : Bs w B A m xs) (hnone : A = none → c = 0)
    (hlen : ys.length + m ≤ 1000000) (hbase : base ≤ w.heap.size)
    (h : ∀ v' w', OwnB w' base e v' (ys ++ xs) → Below base w w' → wpList P ops Q rest (a.put o.dst v') w') : wpList P ops Q (o :: rest) a w :=
  wpList_plain hgd fun _ hK => wp_append_bytes w s x t ho base e i ht hi hz hsize hby v ys hs hown B A m c xs hx hr hnone hlen hbase fun v' w' h2 h3 => hK _ _ (h v' w' h2 h3)
theorem step_append_bytes {P : Program} {ops : Array Oper} (w : World) {o : Oper} {a : Act} {K : Act → World → Prop} {Q : Exit → Act → World → Prop} {E : Prop} (hgd : o.guard = none) (s x : Operand) (t : TypeId)
    (ho : o.op = .call { callee := .builtin .append, args := #[s, x], argTypes := #[t, t] })
    (base : Nat) (e : TypeId) (i : TypeInfo) (ht : P.underlying t = some (.slice e)) (hi : P.info? e = some i) (hz : i.zero = some (.int .u8 0)) (hsize : i.size = 1) (hby : i.bytes = 1)
    (v : Value) (ys : List UInt8) (hs : a.eval s = v) (hown : OwnB w base e v ys)
    (B : Nat) (A : Option Addr) (m c : Nat) (xs : List UInt8) (hx : a.eval x = .slice A m c) (hr : Bs w B A m xs) (hnone : A = none → c = 0)
    (hlen : ys.length + m ≤ 1000000) (hbase : base ≤ w.heap.size)
    (h : ∀ v' w', OwnB w' base e v' (ys ++ xs) → Below base w w' → K (a.put o.dst v') w') : if Region.wanted o (yielded ops a.tmps) = true then Oper.wp P o a w K Q else E := by
  have hw : Region.wanted o (yielded ops a.tmps) = true := by simp [Region.wanted, hgd]
  rw [if_pos hw]
  exact wp_append_bytes w s x t ho base e i ht hi hz hsize hby v ys hs hown B A m c xs hx hr hnone hlen hbase h
theorem OwnB.lit (w : World) (t : TypeId) (B : Nat) (hB : B ≤ w.heap.size) : OwnB (w.alloc (.cells #[] t)) B t (.slice (some ⟨w.heap.size, 0, none⟩) 0 0) [] :=
  ⟨by simp, .inr ⟨w.heap.size, 0, #[], rfl, hB, World.alloc_heap_new w _, Nat.le_refl _, by simp, rfl, rfl⟩⟩
theorem OwnB.cap {w : World} {B : Nat} {t : TypeId} {xs : List UInt8} {n c : Nat} (h : OwnB w B t (.slice none n c) xs) : c = 0 := by
  rcases h.2 with ⟨h1, _⟩ | ⟨g, cap, cur, h1, _⟩
  · cases h1; rfl
  · cases h1

theorem OwnB.form2 {w : World} {B n : Nat} {t : TypeId} {v : Value} {xs : List UInt8} (h : OwnB w B t v xs) (hl : xs.length = n) :
    ∃ A c, v = .slice A n c ∧ n ≤ c ∧ (A = none → c = 0) ∧ Bs w w.heap.size A n xs := by
  subst hl
  obtain ⟨A, c, rfl, hle, _, _, hb⟩ := h.form
  exact ⟨A, c, rfl, hle, fun hA => by subst hA; exact h.cap, hb⟩
/-- A byte of what is the call's own: it may be read, and written. -/
theorem OwnB.at_ {w : World} {B : Nat} {t : TypeId} {A : Option Addr} {n c : Nat} {zs : List UInt8} (h : OwnB w B t (.slice A n c) zs) {j : Nat} (hj : j < zs.length) :
    ∃ g, A = some ⟨g, 0, none⟩ ∧ B ≤ g ∧ g < w.heap.size ∧ n ≤ c ∧ w.cell? ⟨g, j, none⟩ = some (.int .u8 ((zs[j]'hj).toNat : Int)) ∧ w.frozen? ⟨g, j, none⟩ = false ∧
      ∀ z : UInt8, OwnB (w.setCell ⟨g, j, none⟩ (.int .u8 z.toNat)) B t (.slice A n c) (zs.set j z) := by
  have hn : n = zs.length := by
    rcases h.2 with ⟨h1, h2⟩ | ⟨g, cap, cur, h1, _⟩
    · omega
    · cases h1; rfl
  subst hn
  rcases h.2 with ⟨h1, h2⟩ | ⟨g, cap, cur, h1, hB, hg, hle, hmax, hs, ht⟩
  · omega
  · cases h1
    have hw : w.ownsRow B t 1 (.slice (some ⟨g, 0, none⟩) zs.length c) zs.length (zs.map bv) := h
    refine ⟨g, rfl, hB, (Array.getElem?_eq_some_iff.1 hg).1, hle, ?_, World.ownsRow.frozenAt hw j, fun z => ?_⟩
    · rw [World.ownsRow.cellAt hw j (by omega), List.getElem?_map, List.getElem?_eq_getElem hj]; rfl
    · have hst := (World.ownsRow.stored hw j (bv z)).1
      unfold OwnB
      rw [List.length_set, List.map_set]
      exact hst
theorem bs_lit (w : World) (t : TypeId) (xs : List UInt8) (cs : Array Value) (g : Nat) (hg : w.heap.size = g) (h : (xs.map bv).toArray = cs) : Bs (w.alloc (.cells cs t)) (g + 1) (some ⟨g, 0, none⟩) xs.length xs := by
  subst h
  subst hg
  have := (RowB.bs (w := w.alloc (.cells (xs.map bv).toArray t)) (g := w.heap.size) (t := t) (ys := xs) (World.alloc_heap_new w _))
  rw [World.size_alloc] at this
  exact this
/-- A row that a call hands back. -/
def Hands (v : Value) (W : World) (ys : List UInt8) : Prop := ∃ A n c, v = .slice A n c ∧ Bs W W.heap.size A n ys
theorem OwnB.hands {W : World} {B : Nat} {t : TypeId} {v : Value} {ys : List UInt8} (h : OwnB W B t v ys) : Hands v W ys := by
  obtain ⟨A, c, e, _, _, _, hb⟩ := h.form
  exact ⟨A, _, c, e, hb⟩
theorem Hands.nil_ (W : World) : Hands (.slice none 0 0) W [] := ⟨none, 0, 0, rfl, Bs.none_⟩

theorem Bs.on {w w' : World} {A : Option Addr} {n : Nat} {xs : List UInt8} (h : Bs w w.heap.size A n xs) (hb : Below w.heap.size w w') : Bs w' w'.heap.size A n xs := (h.below hb).more hb.size
end Go.Proofs.YtbflhphjnmhjhaaGreat
