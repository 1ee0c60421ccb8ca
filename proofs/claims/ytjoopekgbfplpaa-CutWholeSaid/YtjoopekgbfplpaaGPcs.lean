/- Slices of pieces (a head's four numbers and a payload), as lists; pieces of the call's own; append. A piece is told by the bytes of its frame. -/
import Derived.Test.YtjoopekgbfplpaaGFact
import Derived.Test.YtjoopekgbfplpaaHdR
namespace Go.Proofs.Ytjoopekgbfplpaa
open Go.RowKit Oct
set_option linter.unusedVariables false
set_option linter.unusedSimpArgs false

/-- A piece in memory: its frame's bytes; where its payload lies, and how much room there is. -/
structure Pq where
  f : List UInt8
  A : Option Addr
  c : Nat
def pq5 (x : Pq) : List Value := [.int .i64 (hL x.f), .int .u8 (hK x.f), .int .u8 (hF x.f), .int .i64 (hS x.f), .slice x.A (x.f.length - 9) x.c]
theorem pq5_len (x : Pq) : (pq5 x).length = 5 := rfl
theorem pq5s_len (xs : List Pq) : (xs.flatMap pq5).length = xs.length * 5 := by
  induction xs with
  | nil => rfl
  | cons y xs ih => rw [List.flatMap_cons, List.length_append, ih, List.length_cons, pq5_len]; omega
theorem pq5_at : ∀ (xs : List Pq) (j k : Nat) (x : Pq), xs[j]? = some x → k < 5 → (xs.flatMap pq5)[j * 5 + k]? = (pq5 x)[k]?
  | [], _, _, _, h, _ => by simp at h
  | y :: xs, 0, k, x, h, hk => by
    simp at h
    subst h
    rw [List.flatMap_cons, List.getElem?_append_left (by rw [pq5_len]; omega)]
    simp
  | y :: xs, j + 1, k, x, h, hk => by
    have h2 := pq5_at xs j k x (by simpa using h) hk
    rw [List.flatMap_cons, List.getElem?_append_right (by rw [pq5_len]; omega), ← h2, pq5_len]
    congr 1
    omega
theorem pq5_one (xs : List Pq) : ∀ u ∈ xs.flatMap pq5, u.oneCell' = true := by
  intro u hu
  obtain ⟨x, _, hx⟩ := List.mem_flatMap.1 hu
  simp [pq5] at hx
  rcases hx with rfl | rfl | rfl | rfl | rfl <;> rfl
/-- A piece's payload reads so. -/
def PayB (w : World) (x : Pq) : Prop := Bs w w.heap.size x.A (x.f.length - 9) (x.f.drop 9) ∧ x.f.length - 9 ≤ x.c ∧ (x.A = none → x.c = 0)
/-- The block k is the payload's. -/
def payOn (x : Pq) (k : Nat) : Prop := 0 < x.f.length - 9 ∧ ∃ o, x.A = some ⟨k, o, none⟩
theorem PayB.dep {w w' : World} {x : Pq} (h : PayB w x) (hz : w.heap.size ≤ w'.heap.size) (hk : ∀ k, payOn x k → w'.heap[k]? = w.heap[k]?) : PayB w' x :=
  ⟨(bF x.A _ _).dep w w' h.1 hz hk, h.2⟩
theorem PayB.lt {w : World} {x : Pq} (h : PayB w x) {k : Nat} (hk : payOn x k) : k < w.heap.size := bs_on h.1 k hk
theorem PayB.on {w w' : World} {x : Pq} (h : PayB w x) (hb : Below w.heap.size w w') : PayB w' x := h.dep hb.size fun k hk => hb.block k (h.lt hk)
/-- The slice value's first n pieces, at address A, are these; their blocks, and the payloads', lie below the heap's end. -/
def Qs (w : World) (A : Option Addr) (n : Nat) (xs : List Pq) : Prop :=
  xs.length = n ∧ (0 < n → ∃ b o, A = some ⟨b, o, none⟩ ∧ b < w.heap.size ∧ ∀ j u, (xs.flatMap pq5)[j]? = some u → w.cell? ⟨b, o + j, none⟩ = some u) ∧ ∀ x ∈ xs, PayB w x
def qOn (A : Option Addr) (n : Nat) (xs : List Pq) (k : Nat) : Prop := (0 < n ∧ ∃ o, A = some ⟨k, o, none⟩) ∨ ∃ x ∈ xs, payOn x k
theorem Qs.dep {w w' : World} {A : Option Addr} {n : Nat} {xs : List Pq} (h : Qs w A n xs) (hz : w.heap.size ≤ w'.heap.size) (hk : ∀ k, qOn A n xs k → w'.heap[k]? = w.heap[k]?) : Qs w' A n xs :=
  ⟨h.1, fun hn => by
    obtain ⟨b, o, e, hb, hc⟩ := h.2.1 hn
    exact ⟨b, o, e, by omega, fun j u hu => (World.cell?_of_block (hk b (.inl ⟨hn, o, e⟩))).trans (hc j u hu)⟩, fun x hx => (h.2.2 x hx).dep hz fun k hp => hk k (.inr ⟨x, hx, hp⟩)⟩
theorem Qs.lt {w : World} {A : Option Addr} {n : Nat} {xs : List Pq} (h : Qs w A n xs) {k : Nat} (hk : qOn A n xs k) : k < w.heap.size := by
  rcases hk with ⟨hn, o, e⟩ | ⟨x, hx, hp⟩
  · obtain ⟨b, o', e', hb, _⟩ := h.2.1 hn
    rw [e] at e'
    cases e'
    exact hb
  · exact (h.2.2 x hx).lt hp
theorem Qs.on {w w' : World} {A : Option Addr} {n : Nat} {xs : List Pq} (h : Qs w A n xs) (hb : Below w.heap.size w w') : Qs w' A n xs := h.dep hb.size fun k hk => hb.block k (h.lt hk)
theorem Qs.none_ (w : World) (A : Option Addr) : Qs w A 0 [] := ⟨rfl, fun h => absurd h (by omega), fun x hx => by cases hx⟩
theorem Qs.row {w : World} {A : Option Addr} {n : Nat} {xs : List Pq} (h : Qs w A n xs) (hn : 0 < n) :
    ∃ b o, A = some ⟨b, o, none⟩ ∧ b < w.heap.size ∧ ∀ j, j < n → ∃ x, xs[j]? = some x ∧ PayB w x ∧ w.cell? ⟨b, o + j * 5, none⟩ = some (.int .i64 (hL x.f)) ∧ w.cell? ⟨b, o + j * 5 + 1, none⟩ = some (.int .u8 (hK x.f)) ∧
      w.cell? ⟨b, o + j * 5 + 2, none⟩ = some (.int .u8 (hF x.f)) ∧ w.cell? ⟨b, o + j * 5 + 3, none⟩ = some (.int .i64 (hS x.f)) ∧ w.cell? ⟨b, o + j * 5 + 4, none⟩ = some (.slice x.A (x.f.length - 9) x.c) := by
  obtain ⟨b, o, e, hb, hc⟩ := h.2.1 hn
  refine ⟨b, o, e, hb, fun j hj => ?_⟩
  have hl : j < xs.length := by have := h.1; omega
  have hx := List.getElem?_eq_getElem hl
  refine ⟨xs[j], hx, h.2.2 _ (List.getElem_mem hl), ?_, ?_, ?_, ?_, ?_⟩
  · exact hc _ _ (pq5_at xs j 0 _ hx (by omega))
  all_goals rw [Nat.add_assoc]
  · exact hc _ _ (pq5_at xs j 1 _ hx (by omega))
  · exact hc _ _ (pq5_at xs j 2 _ hx (by omega))
  · exact hc _ _ (pq5_at xs j 3 _ hx (by omega))
  · exact hc _ _ (pq5_at xs j 4 _ hx (by omega))
/-- Pieces, as a fact. -/
def qF (A : Option Addr) (n : Nat) (xs : List Pq) : Fact where
  on k := qOn A n xs k
  is w := Qs w A n xs
  dep _ _ h hz hk := h.dep hz hk
theorem EnvF.qs {w : World} {fs : List Fact} {gs : List Bx} (h : EnvF w fs gs) {A : Option Addr} {n : Nat} {xs : List Pq} (hm : qF A n xs ∈ fs) : Qs w A n xs := (h.f _ hm).1
/-- Pieces that a call hands back. -/
def HandQ (w' : World) (B : Nat) (A : Option Addr) (n c : Nat) (xs : List Pq) : Prop := Qs w' A n xs ∧ (∀ k, qOn A n xs k → B ≤ k) ∧ n ≤ c ∧ (A = none → c = 0)
theorem qOn_nil {A : Option Addr} {k : Nat} : ¬ qOn A 0 [] k := fun hk => by
  rcases hk with ⟨h, _⟩ | ⟨x, hx, _⟩
  · omega
  · cases hx
theorem HandQ.nil_ (w : World) (B : Nat) : HandQ w B none 0 0 [] := ⟨Qs.none_ _ _, fun k hk => absurd hk qOn_nil, Nat.le_refl _, fun _ => rfl⟩
theorem EnvF.handQ {w w' : World} {fs : List Fact} {gs : List Bx} (h : EnvF w fs gs) (hb : Below w.heap.size w w') {A : Option Addr} {n c : Nat} {xs : List Pq} (ho : HandQ w' w.heap.size A n c xs) : EnvF w' (qF A n xs :: fs) gs :=
  h.hand hb ⟨ho.1, fun k hk => ⟨ho.2.1 k hk, ho.1.lt hk⟩⟩
/-- The slice value v is the call's own, from block B on: these pieces; their payloads lie from B on, and beside it. -/
def OwnQ (w : World) (B : Nat) (t : TypeId) (v : Value) (xs : List Pq) : Prop :=
  w.ownsRow B t 5 v xs.length (xs.flatMap pq5) ∧ ∀ x ∈ xs, PayB w x ∧ ∀ k, payOn x k → B ≤ k ∧ v.ownBlock ≠ some k
section
variable {w w' : World} {B B' : Nat} {t : TypeId} {v : Value} {xs : List Pq}
theorem OwnQ.nil_ (w : World) (B : Nat) (t : TypeId) : OwnQ w B t (.slice none 0 0) [] := ⟨World.ownsRow_nil w B t 5, fun x hx => by cases hx⟩
theorem OwnQ.lit (w : World) (t : TypeId) (B g : Nat) (hg : w.heap.size = g) (hB : B ≤ g) : OwnQ (w.alloc (.cells #[] t)) B t (.slice (some ⟨g, 0, none⟩) 0 0) [] := by
  subst hg
  exact ⟨⟨by simp, .inr ⟨w.heap.size, 0, #[], rfl, hB, World.alloc_heap_new w _, Nat.le_refl _, by simp, rfl, rfl⟩⟩, fun x hx => by cases hx⟩
theorem OwnQ.beside {row : Option Nat} (h : OwnQ w B t v xs) (hg : w.grownBy w' row) (hne : ∀ k, v.ownBlock = some k → row ≠ some k) (hnp : ∀ x ∈ xs, ∀ k, payOn x k → row ≠ some k) : OwnQ w' B t v xs := by
  refine ⟨⟨h.1.1, ?_⟩, fun x hx => ⟨(h.2 x hx).1.dep hg.size fun k hk => hg.block k ((h.2 x hx).1.lt hk) (fun e => hnp x hx k hk e.symm), (h.2 x hx).2⟩⟩
  rcases h.1.2 with h2 | ⟨g, cap, cur, e, hB, hh, rest⟩
  · exact .inl h2
  · refine .inr ⟨g, cap, cur, e, hB, ?_, rest⟩
    rw [hg.block g (Array.getElem?_eq_some_iff.1 hh).1 (fun e2 => hne g (by rw [e]; rfl) e2.symm)]
    exact hh
theorem OwnQ.above (h : OwnQ w B t v xs) (hz : w.heap.size ≤ w'.heap.size) (hk : ∀ k, B ≤ k → w'.heap[k]? = w.heap[k]?) : OwnQ w' B t v xs := by
  refine ⟨⟨h.1.1, ?_⟩, fun x hx => ⟨(h.2 x hx).1.dep hz fun k hp => hk k ((h.2 x hx).2 k hp).1, (h.2 x hx).2⟩⟩
  rcases h.1.2 with h2 | ⟨g, cap, cur, e, hB, hh, rest⟩
  · exact .inl h2
  · exact .inr ⟨g, cap, cur, e, hB, (hk g hB).trans hh, rest⟩
theorem OwnQ.iscells (h : OwnQ w B t v xs) {k : Nat} (hk : v.ownBlock = some k) : ∃ o : Obj, w.heap[k]? = some o ∧ o.isCells = true := by
  rcases h.1.2 with ⟨rfl, _⟩ | ⟨g, cap, cur, rfl, _, hh, _⟩
  · cases hk
  · cases hk
    exact ⟨_, hh, rfl⟩
theorem OwnQ.block (h : OwnQ w B t v xs) {k : Nat} (hk : v.ownBlock = some k) : B ≤ k ∧ k < w.heap.size := World.ownsRow.lt h.1 k hk
theorem pay_iscells {x : Pq} (h : PayB w x) {k : Nat} (hk : payOn x k) : ∃ o : Obj, w.heap[k]? = some o ∧ o.isCells = true := by
  obtain ⟨hn, o, e⟩ := hk
  obtain ⟨b, o', e', _, hc⟩ := h.1.2 hn
  rw [e] at e'
  cases e'
  exact cells_of_cell (hc 0 hn)
theorem OwnQ.other {row : Option Nat} (h : OwnQ w B t v xs) (hg : w.grownBy w' row) (hr : ∀ k, row = some k → ∃ o : Obj, w.heap[k]? = some o ∧ o.isCells = false) : OwnQ w' B t v xs := by
  have no : ∀ k, (∃ o : Obj, w.heap[k]? = some o ∧ o.isCells = true) → row ≠ some k := fun k ⟨o2, ho2, hc2⟩ e => by
    obtain ⟨o, ho, hc⟩ := hr k e
    rw [ho] at ho2
    cases ho2
    rw [hc] at hc2
    cases hc2
  exact h.beside hg (fun k hk => no k (h.iscells hk)) (fun x hx k hk => no k (pay_iscells (h.2 x hx).1 hk))
theorem OwnQ.kept (h : OwnQ w B t v xs) (hb : Below w.heap.size w w') : OwnQ w' B t v xs :=
  h.beside (row := none) ⟨hb.os, hb.tape, hb.output, hb.size, fun k hk _ => hb.block k hk⟩ (fun _ _ e => by cases e) (fun _ _ _ _ e => by cases e)
theorem OwnQ.less (h : OwnQ w B t v xs) (hB : B' ≤ B) : OwnQ w B' t v xs := by
  refine ⟨⟨h.1.1, ?_⟩, fun x hx => ⟨(h.2 x hx).1, fun k hk => ⟨Nat.le_trans hB ((h.2 x hx).2 k hk).1, ((h.2 x hx).2 k hk).2⟩⟩⟩
  rcases h.1.2 with h2 | ⟨g, cap, cur, e, hg, rest⟩
  · exact .inl h2
  · exact .inr ⟨g, cap, cur, e, by omega, rest⟩
theorem OwnQ.handQ {n : Nat} (h : OwnQ w B t v xs) (hl : xs.length = n) : ∃ A c, v = .slice A n c ∧ HandQ w B A n c xs := by
  subst hl
  have hp : ∀ x ∈ xs, PayB w x := fun x hx => (h.2 x hx).1
  rcases h.1.2 with ⟨rfl, h0⟩ | ⟨g, cap, cur, rfl, hBg, hg, hle, hmax, hs, htake⟩
  · have : xs = [] := List.eq_nil_of_length_eq_zero h0
    subst this
    exact ⟨none, 0, rfl, HandQ.nil_ _ _⟩
  · have hlt : g < w.heap.size := (Array.getElem?_eq_some_iff.1 hg).1
    refine ⟨_, cap, rfl, ⟨rfl, fun hn => ⟨g, 0, rfl, hlt, fun j u hu => ?_⟩, hp⟩, fun k hk => ?_, hle, fun h => (by cases h)⟩
    · have hj : j < (xs.flatMap pq5).length := (List.getElem?_eq_some_iff.1 hu).1
      have hlen := h.1.1
      rw [Nat.zero_add, World.ownsRow.cellAt h.1 j (by omega)]
      exact hu
    · rcases hk with ⟨_, o, e⟩ | ⟨x, hx, hk⟩
      · cases e
        exact hBg
      · exact ((h.2 x hx).2 k hk).1
end
/-- append of pieces onto pieces of the call's own. -/
theorem run_append_pcs {P : Program} (w : World) (base : Nat) (t ty e : TypeId) (i : TypeInfo) (ht : P.underlying t = some (.slice e)) (hi : P.info? e = some i) (hz : i.zero = some (.agg #[.int .i64 0, .int .u8 0, .int .u8 0, .int .i64 0, .slice none 0 0])) (hsize : i.size = 5) (hby : i.bytes = 48)
    (v : Value) (ys : List Pq) (hown : OwnQ w base e v ys) (A : Option Addr) (m c : Nat) (xs : List Pq) (hr : Qs w A m xs) (hfr : ∀ x ∈ xs, ∀ k, payOn x k → base ≤ k ∧ v.ownBlock ≠ some k) (hnone : A = none → c = 0) (hlen : ys.length + m ≤ 1000000) (hbase : base ≤ w.heap.size) :
    ∃ v' w', (Builtin.append_ #[t, t] ty #[v, .slice A m c]).run P w = .ok v' w' ∧ OwnQ w' base e v' (ys ++ xs) ∧ w.grownBy w' v.ownBlock ∧ (v'.ownBlock = v.ownBlock ∨ v'.ownBlock = some w.heap.size) := by
  have hpay : ∀ x ∈ ys ++ xs, PayB w x ∧ ∀ k, payOn x k → base ≤ k ∧ v.ownBlock ≠ some k := fun x hx => by
    rcases List.mem_append.1 hx with hx | hx
    · exact hown.2 x hx
    · exact ⟨hr.2.2 x hx, hfr x hx⟩
  have hrow : ∀ (v' : Value) (w' : World), w'.ownsRow base e 5 v' (ys.length + m) (ys.flatMap pq5 ++ xs.flatMap pq5) → w.grownBy w' v.ownBlock → (v'.ownBlock = v.ownBlock ∨ v'.ownBlock = some w.heap.size) → OwnQ w' base e v' (ys ++ xs) := by
    intro v' w' h hg hv
    refine ⟨?_, fun x hx => ⟨(hpay x hx).1.dep hg.size fun k hk => hg.block k ((hpay x hx).1.lt hk) (fun e => ((hpay x hx).2 k hk).2 e.symm), fun k hk => ⟨((hpay x hx).2 k hk).1, fun e => ?_⟩⟩⟩
    · rw [List.flatMap_append, List.length_append, hr.1]
      exact h
    · rcases hv with hv | hv
      · exact ((hpay x hx).2 k hk).2 (hv ▸ e)
      · rw [hv] at e
        cases e
        exact absurd ((hpay x hx).1.lt hk) (by omega)
  rcases A with _ | ad
  · obtain rfl := hnone rfl
    have hm : m = 0 := by
      rcases Nat.eq_zero_or_pos m with h0 | h0
      · exact h0
      · obtain ⟨b, o', h1, _⟩ := hr.2.1 h0
        cases h1
    subst hm
    have hn : xs = [] := List.eq_nil_of_length_eq_zero hr.1
    subst hn
    exact ⟨v, w, run_append_owned_none (P := P) (w := w) base t ty e i 5 ht hi v ys.length _ hown.1, by simpa using hown, World.grownBy.refl _ _, .inl rfl⟩
  · have hcells : ∀ j u, (xs.flatMap pq5)[j]? = some u → w.cell? (ad.add j) = some u := by
      rcases Nat.eq_zero_or_pos m with h0 | h0
      · subst h0
        have hn : xs = [] := List.eq_nil_of_length_eq_zero hr.1
        subst hn
        intro j u hu
        simp at hu
      · obtain ⟨b, o, e, _, hc⟩ := hr.2.1 h0
        cases e
        intro j u hu
        rw [Addr.add_lit]
        exact hc j u hu
    obtain ⟨v', w', hrun, h2, h3, h4, h5⟩ := run_append_own_at (P := P) w base t ty e i (.agg #[.int .i64 0, .int .u8 0, .int .u8 0, .int .i64 0, .slice none 0 0]) 5 48 ht hi hz hsize hby rfl (by decide) v ys.length (ys.flatMap pq5) hown.1 ad m c (xs.flatMap pq5) (by rw [pq5s_len, hr.1]) hcells (pq5_one xs) (by unfold maxLen; omega) (by omega) hbase
    exact ⟨v', w', hrun, hrow v' w' h2 h3 h5, h3, h5⟩
section
variable {P : Program} (w : World) {ops : Array Oper} {rest : List Oper} {o : Oper} {a : Act} {K : Act → World → Prop} {Q : Exit → Act → World → Prop} {E : Prop} (hgd : Region.wanted o (yielded ops a.tmps) = true) (s x : Operand) (t : TypeId)
    (ho : o.op = .call { callee := .builtin .append, args := #[s, x], argTypes := #[t, t] })
    (base : Nat) (e : TypeId) (i : TypeInfo) (ht : P.underlying t = some (.slice e)) (hi : P.info? e = some i) (hz : i.zero = some (.agg #[.int .i64 0, .int .u8 0, .int .u8 0, .int .i64 0, .slice none 0 0])) (hsize : i.size = 5) (hby : i.bytes = 48)
    (v : Value) (ys : List Pq) (hs : a.eval s = v) (hown : OwnQ w base e v ys)
    (A : Option Addr) (m c : Nat) (xs : List Pq) (hx : a.eval x = .slice A m c) (hr : Qs w A m xs) (hfr : ∀ x ∈ xs, ∀ k, payOn x k → base ≤ k ∧ v.ownBlock ≠ some k) (hnone : A = none → c = 0)
    (hlen : ys.length + m ≤ 1000000) (hbase : base ≤ w.heap.size)
include ho ht hi hz hsize hby hs hown hx hr hfr hnone hlen hbase
theorem wp_append_pcs
    (h : ∀ v' w', OwnQ w' base e v' (ys ++ xs) → Below base w w' → w.grownBy w' v.ownBlock → (v'.ownBlock = v.ownBlock ∨ v'.ownBlock = some w.heap.size) → K (a.put o.dst v') w') : Oper.wp P o a w K Q := by
  obtain ⟨v', w', hr, h2, h3, h5⟩ := run_append_pcs (P := P) w base t o.type e i ht hi hz hsize hby v ys hown A m c xs hr hfr hnone hlen hbase
  unfold Oper.wp
  simp [execOp, ho, resolve, invoke, builtin, hs, hx, hr, Result.andThen]
  exact h v' w' h2 ((Below.refl base w).grown h3 hbase (fun k hk => (World.ownsRow.lt hown.1 k hk).1)) h3 h5
include hgd
theorem wpList_append_pcs
    (h : ∀ v' w', OwnQ w' base e v' (ys ++ xs) → Below base w w' → w.grownBy w' v.ownBlock → (v'.ownBlock = v.ownBlock ∨ v'.ownBlock = some w.heap.size) → wpList P ops Q rest (a.put o.dst v') w') : wpList P ops Q (o :: rest) a w :=
  wpList_step fun _ hK => by
    rw [if_pos hgd]
    exact wp_append_pcs w s x t ho base e i ht hi hz hsize hby v ys hs hown A m c xs hx hr hfr hnone hlen hbase fun v' w' h1 h2 h3 h4 => hK _ _ (h v' w' h1 h2 h3 h4)
end
theorem wpListIn_append_pcs {F : Fence} {fu : Nat} {P : Program} (w : World) {ops : Array Oper} {rest : List Oper} {o : Oper} {a : Act} {Q : Exit → Act → World → Prop} (hgd : o.guard = none) (s x : Operand) (t : TypeId)
    (ho : o.op = .call { callee := .builtin .append, args := #[s, x], argTypes := #[t, t] })
    (base : Nat) (e : TypeId) (i : TypeInfo) (ht : P.underlying t = some (.slice e)) (hi : P.info? e = some i) (hz : i.zero = some (.agg #[.int .i64 0, .int .u8 0, .int .u8 0, .int .i64 0, .slice none 0 0])) (hsize : i.size = 5) (hby : i.bytes = 48)
    (v : Value) (ys : List Pq) (hs : a.eval s = v) (hown : OwnQ w base e v ys)
    (A : Option Addr) (m c : Nat) (xs : List Pq) (hx : a.eval x = .slice A m c) (hr : Qs w A m xs) (hfr : ∀ x ∈ xs, ∀ k, payOn x k → base ≤ k ∧ v.ownBlock ≠ some k) (hnone : A = none → c = 0)
    (hlen : ys.length + m ≤ 1000000) (hbase : base ≤ w.heap.size)
    (h : ∀ v' w', OwnQ w' base e v' (ys ++ xs) → Below base w w' → w.grownBy w' v.ownBlock → wpListIn F fu P ops Q rest (a.put o.dst v') w') : wpListIn F fu P ops Q (o :: rest) a w := by
  refine wpListIn_plain hgd fun K hK => ?_
  obtain ⟨v', w', hrun, h2, h3, _⟩ := run_append_pcs (P := P) w base t o.type e i ht hi hz hsize hby v ys hown A m c xs hr hfr hnone hlen hbase
  unfold Oper.wpIn
  refine ⟨?_, ?_⟩
  · simp [Oper.about, ho, resolve, Target.leads, Sem.run_pure]
  · rw [Oper.semAt_plain F _ _ (by rw [ho]; intro c hc'; cases hc')]
    simp [execOp, ho, resolve, invoke, builtin, hs, hx, hrun, Result.andThen]
    exact hK _ _ (h v' w' h2 ((Below.refl base w).grown h3 hbase (fun k hk => (World.ownsRow.lt hown.1 k hk).1)) h3)
end Go.Proofs.Ytjoopekgbfplpaa
