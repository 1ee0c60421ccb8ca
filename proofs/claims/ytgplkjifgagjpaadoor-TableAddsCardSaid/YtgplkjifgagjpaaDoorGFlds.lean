/- Slices of structs of two strings (a cell each), as lists; such slices of the call's own; append. Plain, over any program. -/
import Derived.Deep.SlicePairs
import Derived.Test.YtgplkjifgagjpaaDoorGFact
import Derived.Test.YtgplkjifgagjpaaDoorGApp
import Derived.Test.YtgplkjifgagjpaaDoorGArgs
namespace Go.Proofs.YtgplkjifgagjpaaDoor
open Go.RowKit

abbrev Fd := ByteArray × ByteArray
/-- Its cells, and as one value. -/
def fd0 : Fd := (⟨#[]⟩, ⟨#[]⟩)
def fdc (x : Fd) : List Value := [.string x.1, .string x.2]
def fdv (x : Fd) : Value := .agg #[.string x.1, .string x.2]
/-- The slice value's first n pairs, at address A, are xs; its block lies below B. -/
def Fs (w : World) (B : Nat) (A : Option Addr) (n : Nat) (xs : List Fd) : Prop :=
  xs.length = n ∧ (0 < n → ∃ b o, A = some ⟨b, o, none⟩ ∧ b < B ∧ ∀ j, j < n → w.cell? ⟨b, o + j * 2, none⟩ = some (.string (xs[j]?.getD fd0).1) ∧ w.cell? ⟨b, o + (j * 2 + 1), none⟩ = some (.string (xs[j]?.getD fd0).2))
section
variable {w w' : World} {B B' n : Nat} {A : Option Addr} {xs : List Fd}
theorem Fs.none_ : Fs w B A 0 [] := ⟨rfl, fun h => absurd h (by omega)⟩
theorem Fs.keep (h : Fs w B A n xs) (hk : ∀ p : Addr, p.block < B → w'.cell? p = w.cell? p) : Fs w' B A n xs :=
  ⟨h.1, fun hn => by
    obtain ⟨b, o, e, hb, hc⟩ := h.2 hn
    exact ⟨b, o, e, hb, fun j hj => ⟨(hk _ hb).trans (hc j hj).1, (hk _ hb).trans (hc j hj).2⟩⟩⟩
theorem Fs.more (h : Fs w B A n xs) (hB : B ≤ B') : Fs w B' A n xs :=
  ⟨h.1, fun hn => by
    obtain ⟨b, o, e, hb, hc⟩ := h.2 hn
    exact ⟨b, o, e, by omega, hc⟩⟩
theorem Fs.below (h : Fs w B A n xs) (hb : Below B w w') : Fs w' B A n xs := h.keep fun _ hp => hb.cell hp
theorem Fs.alloc (h : Fs w B A n xs) (hB : B ≤ w.heap.size) (o : Obj) : Fs (w.alloc o) B A n xs := h.keep fun p hp => World.cell?_alloc_lt w o p (by omega)
theorem Fs.drew (h : Fs w B A n xs) : Fs w.drew B A n xs := h
theorem Fs.setCell (h : Fs w B A n xs) {p : Addr} (hB : B ≤ p.block) (u : Value) : Fs (w.setCell p u) B A n xs :=
  h.keep fun q hq => World.cell?_setCell_other w p q u (fun e => by subst e; omega)
theorem Fs.on (h : Fs w w.heap.size A n xs) (hb : Below w.heap.size w w') : Fs w' w'.heap.size A n xs := (h.below hb).more hb.size
theorem fs_cell (h : Fs w B A n xs) (hn : 0 < n) :
    ∃ b o, A = some ⟨b, o, none⟩ ∧ b < B ∧ ∀ j, j < n → ∃ x, xs[j]? = some x ∧ w.cell? ⟨b, o + j * 2, none⟩ = some (.string x.1) ∧ w.cell? ⟨b, o + (j * 2 + 1), none⟩ = some (.string x.2) := by
  obtain ⟨b, o, e, hb, hc⟩ := h.2 hn
  refine ⟨b, o, e, hb, fun j hj => ?_⟩
  have hl : j < xs.length := by have := h.1; omega
  have := hc j hj
  rw [List.getElem?_eq_getElem hl, Option.getD_some] at this
  exact ⟨xs[j], List.getElem?_eq_getElem hl, this⟩
end
theorem fcs_at : ∀ (xs : List Fd) (j : Nat) (x : Fd), xs[j]? = some x → (xs.flatMap fdc)[j * 2]? = some (.string x.1) ∧ (xs.flatMap fdc)[j * 2 + 1]? = some (.string x.2)
  | [], _, _, h => by simp at h
  | y :: xs, 0, x, h => by
    simp at h
    subst h
    simp [fdc]
  | y :: xs, j + 1, x, h => by
    have h2 := fcs_at xs j x (by simpa using h)
    rw [List.flatMap_cons]
    have e1 : (j + 1) * 2 = j * 2 + 2 := by omega
    rw [e1, show j * 2 + 2 + 1 = (j * 2 + 1) + 2 from by omega]
    constructor
    · rw [List.getElem?_append_right (by simp [fdc])]
      simpa [fdc] using h2.1
    · rw [List.getElem?_append_right (by simp [fdc])]
      simpa [fdc] using h2.2
theorem fcs_len (xs : List Fd) : (xs.flatMap fdc).length = xs.length * 2 := by
  induction xs with
  | nil => rfl
  | cons y xs ih => rw [List.flatMap_cons, List.length_append, ih, List.length_cons]; simp [fdc]; omega
theorem fcs_one (xs : List Fd) : ∀ u ∈ xs.flatMap fdc, u.oneCell' = true := by
  intro u hu
  obtain ⟨x, _, hx⟩ := List.mem_flatMap.1 hu
  simp [fdc] at hx
  rcases hx with rfl | rfl <;> rfl

/-- The slice value v is the call's own, from block B on: the pairs xs (t: the number of the pairs' type). -/
def OwnF (w : World) (B : Nat) (t : TypeId) (v : Value) (xs : List Fd) : Prop := w.ownsRow B t 2 v xs.length (xs.flatMap fdc)
section
variable {w w' : World} {B B' : Nat} {t : TypeId} {v : Value} {xs : List Fd}
theorem OwnF.nil_ (w : World) (B : Nat) (t : TypeId) : OwnF w B t (.slice none 0 0) [] := World.ownsRow_nil w B t 2
theorem OwnF.kept (h : OwnF w B t v xs) (hb : Below w.heap.size w w') : OwnF w' B t v xs :=
  World.ownsRow.kept h (row := none) ⟨hb.os, hb.tape, hb.output, hb.size, fun k hk _ => hb.block k hk⟩ (by cases h' : v.ownBlock <;> simp)
theorem OwnF.less (h : OwnF w B t v xs) (hB : B' ≤ B) : OwnF w B' t v xs := by
  refine ⟨h.1, ?_⟩
  rcases h.2 with h2 | ⟨g, cap, cur, e, hg, rest⟩
  · exact .inl h2
  · exact .inr ⟨g, cap, cur, e, by omega, rest⟩
theorem OwnF.alloc (h : OwnF w B t v xs) (o : Obj) : OwnF (w.alloc o) B t v xs := h.kept ((Below.refl _ w).alloc (Nat.le_refl _) o)
theorem OwnF.drew (h : OwnF w B t v xs) : OwnF w.drew B t v xs := h
theorem OwnF.grown {row : Option Nat} (h : OwnF w B t v xs) (hg : w.grownBy w' row) (hne : v.ownBlock = none ∨ v.ownBlock ≠ row) : OwnF w' B t v xs := World.ownsRow.kept h hg hne
theorem OwnF.form (h : OwnF w B t v xs) :
    ∃ A c, v = .slice A xs.length c ∧ xs.length ≤ c ∧ (A = none → c = 0) ∧ (∀ a, A = some a → ∃ g, a = ⟨g, 0, none⟩ ∧ B ≤ g ∧ g < w.heap.size) ∧ Fs w w.heap.size A xs.length xs := by
  rcases h.2 with ⟨rfl, h0⟩ | ⟨g, cap, cur, rfl, hBg, hg, hle, hmax, hs, htake⟩
  · have : xs = [] := List.eq_nil_of_length_eq_zero h0
    subst this
    exact ⟨none, 0, rfl, Nat.le_refl _, fun _ => rfl, fun a h => (by cases h), Fs.none_⟩
  · have hlt : g < w.heap.size := (Array.getElem?_eq_some_iff.1 hg).1
    have hw : w.ownsRow B t 2 (.slice (some ⟨g, 0, none⟩) xs.length cap) xs.length (xs.flatMap fdc) := h
    refine ⟨_, cap, rfl, hle, fun h => (by cases h), fun a h => ⟨g, (by cases h; rfl), hBg, hlt⟩, rfl, fun hn => ⟨g, 0, rfl, hlt, fun j hj => ?_⟩⟩
    have hp := fcs_at xs j xs[j] (List.getElem?_eq_getElem hj)
    have c1 := World.ownsRow.cellAt hw (j * 2) (by omega)
    have c2 := World.ownsRow.cellAt hw (j * 2 + 1) (by omega)
    rw [Nat.zero_add, Nat.zero_add, c1, c2, hp.1, hp.2, List.getElem?_eq_getElem hj]
    exact ⟨rfl, rfl⟩
theorem OwnF.form2 {n : Nat} (h : OwnF w B t v xs) (hl : xs.length = n) : ∃ A c, v = .slice A n c ∧ n ≤ c ∧ (A = none → c = 0) ∧ Fs w w.heap.size A n xs := by
  subst hl
  obtain ⟨A, c, e, h1, h2, _, h3⟩ := h.form
  exact ⟨A, c, e, h1, h2, h3⟩
theorem OwnF.lit (w : World) (t : TypeId) (B : Nat) (hB : B ≤ w.heap.size) (g : Nat) (hg : w.heap.size = g) : OwnF (w.alloc (.cells #[] t)) B t (.slice (some ⟨g, 0, none⟩) 0 0) [] := by
  subst hg
  exact ⟨by simp, .inr ⟨w.heap.size, 0, #[], rfl, hB, World.alloc_heap_new w _, Nat.le_refl _, by simp, rfl, rfl⟩⟩
end
theorem fs_lit (w : World) (t : TypeId) (xs : List Fd) (cs : Array Value) (g : Nat) (hg : w.heap.size = g) (h : (xs.flatMap fdc).toArray = cs) : Fs (w.alloc (.cells cs t)) (g + 1) (some ⟨g, 0, none⟩) xs.length xs := by
  subst h
  subst hg
  refine ⟨rfl, fun _ => ⟨w.heap.size, 0, rfl, by omega, fun j hj => ?_⟩⟩
  have hp := fcs_at xs j xs[j] (List.getElem?_eq_getElem hj)
  have hh := World.alloc_heap_new w (.cells (xs.flatMap fdc).toArray t)
  have c1 := cell_of_row (w.alloc (.cells (xs.flatMap fdc).toArray t)) w.heap.size (j * 2) _ t (0, 0) hh
  have c2 := cell_of_row (w.alloc (.cells (xs.flatMap fdc).toArray t)) w.heap.size (j * 2 + 1) _ t (0, 0) hh
  rw [Nat.zero_add, Nat.zero_add, c1, c2]
  simp only [List.getElem?_toArray]
  rw [hp.1, hp.2, List.getElem?_eq_getElem hj]
  exact ⟨rfl, rfl⟩
theorem Fs.cells {w : World} {B n : Nat} {a : Addr} {xs : List Fd} (h : Fs w B (some a) n xs) (hn : 0 < n) : ∀ j u, (xs.flatMap fdc)[j]? = some u → w.cell? (a.add j) = some u := by
  intro j u hu
  obtain ⟨b, o, e, _, hc⟩ := h.2 hn
  cases e
  have hj : j < xs.length * 2 := by
    have := (List.getElem?_eq_some_iff.1 hu).1
    rwa [fcs_len] at this
  have hl := h.1
  have hj2 : j / 2 < xs.length := by omega
  have hp := fcs_at xs (j / 2) xs[j / 2] (List.getElem?_eq_getElem hj2)
  obtain ⟨c1, c2⟩ := hc (j / 2) (by omega)
  rw [List.getElem?_eq_getElem hj2, Option.getD_some] at c1 c2
  rw [Addr.add_lit]
  rcases Nat.mod_two_eq_zero_or_one j with h0 | h0
  · have e : j / 2 * 2 = j := by omega
    rw [e] at c1 hp
    rw [hp.1] at hu
    cases hu
    exact c1
  · have e : j / 2 * 2 + 1 = j := by omega
    rw [e] at c2 hp
    rw [hp.2] at hu
    cases hu
    exact c2
/-- append of pairs onto pairs of the call's own. -/
theorem run_append_flds {P : Program} (w : World) (base : Nat) (t ty e : TypeId) (i : TypeInfo) (ht : P.underlying t = some (.slice e)) (hi : P.info? e = some i) (hz : i.zero = some (.agg #[.string ⟨#[]⟩, .string ⟨#[]⟩])) (hsize : i.size = 2) (hby : i.bytes = 32)
    (v : Value) (ys : List Fd) (hown : OwnF w base e v ys) (B : Nat) (A : Option Addr) (m c : Nat) (xs : List Fd) (hr : Fs w B A m xs) (hnone : A = none → c = 0) (hlen : ys.length + m ≤ 1000000) (hbase : base ≤ w.heap.size) :
    ∃ v' w', (Builtin.append_ #[t, t] ty #[v, .slice A m c]).run P w = .ok v' w' ∧ OwnF w' base e v' (ys ++ xs) ∧ w.grownBy w' v.ownBlock ∧ (v'.ownBlock = v.ownBlock ∨ v'.ownBlock = some w.heap.size) := by
  have hrow : ∀ (v' : Value) (w' : World), w'.ownsRow base e 2 v' (ys.length + m) (ys.flatMap fdc ++ xs.flatMap fdc) → OwnF w' base e v' (ys ++ xs) := by
    intro v' w' h
    unfold OwnF
    rw [List.flatMap_append, List.length_append, hr.1]
    exact h
  rcases A with _ | ad
  · obtain rfl := hnone rfl
    have hm : m = 0 := by
      rcases Nat.eq_zero_or_pos m with h0 | h0
      · exact h0
      · obtain ⟨b, o', h1, _⟩ := hr.2 h0
        cases h1
    subst hm
    have hn : xs = [] := List.eq_nil_of_length_eq_zero hr.1
    subst hn
    exact ⟨v, w, run_append_owned_none (P := P) (w := w) base t ty e i 2 ht hi v ys.length _ hown, by simpa using hown, World.grownBy.refl _ _, .inl rfl⟩
  · have hcells : ∀ j u, (xs.flatMap fdc)[j]? = some u → w.cell? (ad.add j) = some u := by
      rcases Nat.eq_zero_or_pos m with h0 | h0
      · subst h0
        have hn : xs = [] := List.eq_nil_of_length_eq_zero hr.1
        subst hn
        intro j u hu
        simp at hu
      · exact hr.cells h0
    obtain ⟨v', w', hrun, h2, h3, h4, h5⟩ := run_append_own_at (P := P) w base t ty e i (.agg #[.string ⟨#[]⟩, .string ⟨#[]⟩]) 2 32 ht hi hz hsize hby rfl (by decide) v ys.length (ys.flatMap fdc) hown ad m c (xs.flatMap fdc) (by rw [fcs_len, hr.1]) hcells (fcs_one xs) (by unfold maxLen; omega) (by omega) hbase
    exact ⟨v', w', hrun, hrow v' w' h2, h3, h5⟩
section
variable {P : Program} (w : World) {ops : Array Oper} {rest : List Oper} {o : Oper} {a : Act} {K : Act → World → Prop} {Q : Exit → Act → World → Prop} {E : Prop} (hgd : o.guard = none) (s x : Operand) (t : TypeId)
    (ho : o.op = .call { callee := .builtin .append, args := #[s, x], argTypes := #[t, t] })
    (base : Nat) (e : TypeId) (i : TypeInfo) (ht : P.underlying t = some (.slice e)) (hi : P.info? e = some i) (hz : i.zero = some (.agg #[.string ⟨#[]⟩, .string ⟨#[]⟩])) (hsize : i.size = 2) (hby : i.bytes = 32)
    (v : Value) (ys : List Fd) (hs : a.eval s = v) (hown : OwnF w base e v ys)
    (B : Nat) (A : Option Addr) (m c : Nat) (xs : List Fd) (hx : a.eval x = .slice A m c) (hr : Fs w B A m xs) (hnone : A = none → c = 0)
    (hlen : ys.length + m ≤ 1000000) (hbase : base ≤ w.heap.size)
include ho ht hi hz hsize hby hs hown hx hr hnone hlen hbase
theorem wp_append_flds
    (h : ∀ v' w', OwnF w' base e v' (ys ++ xs) → Below base w w' → w.grownBy w' v.ownBlock → (v'.ownBlock = v.ownBlock ∨ v'.ownBlock = some w.heap.size) → K (a.put o.dst v') w') : Oper.wp P o a w K Q := by
  obtain ⟨v', w', hr, h2, h3, h5⟩ := run_append_flds (P := P) w base t o.type e i ht hi hz hsize hby v ys hown B A m c xs hr hnone hlen hbase
  unfold Oper.wp
  simp [execOp, ho, resolve, invoke, builtin, hs, hx, hr, Result.andThen]
  exact h v' w' h2 ((Below.refl base w).grown h3 hbase (fun k hk => (World.ownsRow.lt hown k hk).1)) h3 h5
include hgd
theorem wpList_append_flds
    (h : ∀ v' w', OwnF w' base e v' (ys ++ xs) → Below base w w' → w.grownBy w' v.ownBlock → (v'.ownBlock = v.ownBlock ∨ v'.ownBlock = some w.heap.size) → wpList P ops Q rest (a.put o.dst v') w') : wpList P ops Q (o :: rest) a w :=
  wpList_plain hgd fun _ hK => wp_append_flds w s x t ho base e i ht hi hz hsize hby v ys hs hown B A m c xs hx hr hnone hlen hbase fun v' w' h1 h2 h3 h4 => hK _ _ (h v' w' h1 h2 h3 h4)
theorem step_append_flds
    (h : ∀ v' w', OwnF w' base e v' (ys ++ xs) → Below base w w' → w.grownBy w' v.ownBlock → (v'.ownBlock = v.ownBlock ∨ v'.ownBlock = some w.heap.size) → K (a.put o.dst v') w') : if Region.wanted o (yielded ops a.tmps) = true then Oper.wp P o a w K Q else E := by
  have hw : Region.wanted o (yielded ops a.tmps) = true := by simp [Region.wanted, hgd]
  rw [if_pos hw]
  exact wp_append_flds w s x t ho base e i ht hi hz hsize hby v ys hs hown B A m c xs hx hr hnone hlen hbase h
end
/-- The slice as a fact. -/
def fF (A : Option Addr) (n : Nat) (xs : List Fd) : Fact where
  on k := 0 < n ∧ ∃ o, A = some ⟨k, o, none⟩
  is w := Fs w w.heap.size A n xs
  dep w w' h hz hk := ⟨h.1, fun hn => by
    obtain ⟨b, o, e, hb, hc⟩ := h.2 hn
    exact ⟨b, o, e, by omega, fun j hj => ⟨(World.cell?_of_block (a := ⟨b, o + j * 2, none⟩) (hk b ⟨hn, o, e⟩)).trans (hc j hj).1, (World.cell?_of_block (a := ⟨b, o + (j * 2 + 1), none⟩) (hk b ⟨hn, o, e⟩)).trans (hc j hj).2⟩⟩⟩
theorem fs_on {w : World} {A : Option Addr} {n : Nat} {xs : List Fd} (h : Fs w w.heap.size A n xs) : ∀ k, (fF A n xs).on k → k < w.heap.size := fun k hk => by
  obtain ⟨hn, o, e⟩ := hk
  obtain ⟨b, o', e', hb, _⟩ := h.2 hn
  rw [e] at e'
  cases e'
  exact hb
theorem EnvF.fs {w : World} {fs : List Fact} {gs : List Bx} (h : EnvF w fs gs) {A : Option Addr} {n : Nat} {xs : List Fd} (hm : fF A n xs ∈ fs) : Fs w w.heap.size A n xs := (h.f _ hm).1
theorem EnvF.addF {w : World} {fs : List Fact} (h : EnvF w fs []) {A : Option Addr} {n : Nat} {xs : List Fd} (hb : Fs w w.heap.size A n xs) : EnvF w (fF A n xs :: fs) [] := h.add0 hb (fs_on hb)
theorem EnvF.noneF {w : World} {fs : List Fact} {gs : List Bx} (h : EnvF w fs gs) (A : Option Addr) : EnvF w (fF A 0 [] :: fs) gs :=
  ⟨fun y hy => by
    rcases List.mem_cons.1 hy with rfl | hy
    · exact ⟨⟨rfl, fun h => absurd h (by omega)⟩, fun k hk => absurd hk.1 (by omega)⟩
    · exact h.f y hy, h.g, h.d⟩
/-- A slice of the call's own from B on, as a fact: it lies in memory from B on. -/
theorem OwnF.handF {w : World} {B : Nat} {t : TypeId} {A : Option Addr} {n c : Nat} {xs : List Fd} (h : OwnF w B t (.slice A n c) xs) : HandF w B (fF A n xs) := by
  obtain ⟨A', c', e, h1, h2, h3, h4⟩ := h.form
  cases e
  refine ⟨h4, fun k hk => ?_⟩
  obtain ⟨hn, o, e⟩ := hk
  obtain ⟨g, eg, hB, hg⟩ := h3 _ e
  cases eg
  exact ⟨hB, hg⟩
/-- A literal of fields. -/
theorem EnvF.litf {w : World} {fs : List Fact} {gs : List Bx} (h : EnvF w fs gs) (t : TypeId) (xs : List Fd) (cs : Array Value) (hx : (xs.flatMap fdc).toArray = cs) (n : Nat) (hn : xs.length = n) (g : Nat) (hg : w.heap.size = g) : EnvF (w.alloc (.cells cs t)) (fF (some ⟨g, 0, none⟩) n xs :: fs) gs := by
  subst hn
  refine h.hand ((Below.refl _ w).alloc (Nat.le_refl _) _) ⟨?_, fun k hk => ?_⟩
  · have := fs_lit w t xs cs g hg hx
    rw [← hg] at this
    show Fs (w.alloc _) (w.alloc _).heap.size _ _ _
    rw [World.size_alloc, ← hg]
    exact this
  · obtain ⟨_, o, e⟩ := hk
    cases e
    simp
    omega
/-- Such a slice, as an argument's laws open it. -/
def IsFlds (w : World) (a : Option Addr) (len cap : Nat) : Prop :=
  (a = none ∧ len = 0 ∧ cap = 0) ∨ ∃ x, a = some x ∧ len ≤ cap ∧ cap ≤ maxLen ∧ ∀ i, i < len → ∃ s0 s1 : ByteArray, w.cell? (x.add (i * 2)) = some (.string s0) ∧ w.cell? (x.add (i * 2 + 1)) = some (.string s1) ∧ s0.size ≤ 140737488355328 ∧ s1.size ≤ 140737488355328
theorem rowFlds {w : World} {a : Option Addr} {len cap : Nat} (h : IsFlds w a len cap) :
    ∃ xs : List Fd, Fs w w.heap.size a len xs ∧ (∀ x ∈ xs, x.1.size ≤ 140737488355328 ∧ x.2.size ≤ 140737488355328) ∧ len ≤ cap ∧ cap ≤ maxLen ∧ (a = none → cap = 0) := by
  rcases h with ⟨rfl, rfl, rfl⟩ | ⟨x, rfl, hl, hm, hc⟩
  · exact ⟨[], Fs.none_, fun _ h => (by cases h), Nat.le_refl _, Nat.zero_le _, fun _ => rfl⟩
  · have hp : ∀ i, ∃ p : Fd, (i < len → w.cell? (x.add (i * 2)) = some (.string p.1) ∧ w.cell? (x.add (i * 2 + 1)) = some (.string p.2)) ∧ p.1.size ≤ 140737488355328 ∧ p.2.size ≤ 140737488355328 := fun i => by
      by_cases hi : i < len
      · obtain ⟨s0, s1, h0, h1, w0, w1⟩ := hc i hi
        exact ⟨(s0, s1), fun _ => ⟨h0, h1⟩, w0, w1⟩
      · exact ⟨fd0, fun h => absurd h hi, Nat.zero_le _, Nat.zero_le _⟩
    obtain ⟨f, hf⟩ := Classical.axiomOfChoice hp
    refine ⟨(List.range len).map f, ⟨by simp, fun hn => ?_⟩, fun y hy => ?_, hl, hm, fun h => (by cases h)⟩
    · have h0 := ((hf 0).1 hn).1
      obtain ⟨b, o, spot⟩ := x
      have hspot : spot = none := by simpa [Addr.add] using World.cell?_spot h0
      subst hspot
      refine ⟨b, o, rfl, ?_, fun j hj => ?_⟩
      · have := cell_lt h0
        simpa [Addr.add] using this
      · have h1 := (hf j).1 hj
        rw [Addr.add_lit, Addr.add_lit] at h1
        have e : ((List.range len).map f)[j]?.getD fd0 = f j := by simp [hj]
        rw [e]
        exact h1
    · obtain ⟨i, _, rfl⟩ := List.mem_map.1 hy
      exact (hf i).2
end Go.Proofs.YtgplkjifgagjpaaDoor
