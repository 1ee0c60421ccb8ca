/- append of bytes onto bytes of the call's own; the arguments of a statement as bytes. -/
import Derived.Laws.AppendOwnNone
import Derived.RegionTactic
import Derived.Test.YtfglpnfegfcmeaaOctWakes
namespace Go.Proofs.Ytfglpnfegfcmeaa
open Go.RowKit Oct

theorem wp_append_bytes {P : Program} (w : World) {o : Oper} {a : Act} {K : Act → World → Prop} {Q : Exit → Act → World → Prop} (s x : Operand) (t : TypeId)
    (ho : o.op = .call { callee := .builtin .append, args := #[s, x], argTypes := #[t, t] })
    (base : Nat) (e : TypeId) (i : TypeInfo) (ht : P.underlying t = some (.slice e)) (hi : P.info? e = some i) (hz : i.zero = some (.int .u8 0)) (hsize : i.size = 1) (hby : i.bytes = 1)
    (v : Value) (ys : List UInt8) (hs : a.eval s = v) (hown : OwnB w base e v ys)
    (B : Nat) (A : Option Addr) (m c : Nat) (xs : List UInt8) (hx : a.eval x = .slice A m c) (hr : Bs w B A m xs) (hnone : A = none → c = 0)
    (hlen : ys.length + m ≤ 1000000) (hbase : base ≤ w.heap.size)
    (h : ∀ v' w', OwnB w' base e v' (ys ++ xs) → Below base w w' → K (a.put o.dst v') w') : o.wp P a w K Q := by
  rcases A with _ | ad
  · obtain rfl := hnone rfl
    have hm : m = 0 := by
      rcases Nat.eq_zero_or_pos m with h0 | h0
      · exact h0
      · obtain ⟨b, o', h1, _⟩ := hr.2 h0
        cases h1
    subst hm
    have hn : xs = [] := List.eq_nil_of_length_eq_zero hr.1
    subst hn
    have hrun := run_append_owned_none (P := P) (w := w) base t o.type e i 1 ht hi v ys.length _ hown
    unfold Oper.wp
    simp [execOp, ho, resolve, invoke, builtin, hs, hx, hrun, Result.andThen]
    exact h v w (by simpa using hown) (Below.refl _ _)
  · have hcells : ∀ j u, (xs.map bv)[j]? = some u → w.cell? (ad.add j) = some u := by
      intro j u hu
      rcases Nat.eq_zero_or_pos m with h0 | h0
      · subst h0
        have hn : xs = [] := List.eq_nil_of_length_eq_zero hr.1
        subst hn
        simp at hu
      · obtain ⟨b, o', h1, _, hc⟩ := bs_cell hr h0
        cases h1
        have hj : j < m := by
          have := (List.getElem?_eq_some_iff.1 hu).1
          have h2 := hr.1
          simp at this
          omega
        obtain ⟨y, hy, hcy⟩ := hc j hj
        rw [List.getElem?_map, hy] at hu
        cases hu
        rw [Addr.add_lit]
        exact hcy
    refine wp_append_own w s x t ho base e i (.int .u8 0) 1 1 ht hi hz hsize hby rfl (by decide) v ys.length _ hs hown ad m c (xs.map bv) hx (by rw [List.length_map, hr.1, Nat.mul_one]) hcells (bv_one xs) (by unfold maxLen; omega) (by omega) hbase ?_
    intro v' w' hown' hg _
    refine h v' w' ?_ ((Below.refl base w).grown hg hbase (fun k hk => (World.ownsRow.lt hown k hk).1))
    unfold OwnB
    rw [List.map_append, List.length_append, hr.1]
    exact hown'
theorem wpList_append_bytes {P : Program} (w : World) {ops : Array Oper} {rest : List Oper} {o : Oper} {a : Act} {Q : Exit → Act → World → Prop} (hgd : o.guard = none) (s x : Operand) (t : TypeId)
    (ho : o.op = .call { callee := .builtin .append, args := #[s, x], argTypes := #[t, t] })
    (base : Nat) (e : TypeId) (i : TypeInfo) (ht : P.underlying t = some (.slice e)) (hi : P.info? e = some i) (hz : i.zero = some (.int .u8 0)) (hsize : i.size = 1) (hby : i.bytes = 1)
    (v : Value) (ys : List UInt8) (hs : a.eval s = v) (hown : OwnB w base e v ys)
    (B : Nat) (A : Option Addr) (m c : Nat) (xs : List UInt8) (hx : a.eval x = .slice A m c) (hr : Bs w B A m xs) (hnone : A = none → c = 0)
    (hlen : ys.length + m ≤ 1000000) (hbase : base ≤ w.heap.size)
    (h : ∀ v' w', OwnB w' base e v' (ys ++ xs) → Below base w w' → wpList P ops Q rest (a.put o.dst v') w') : wpList P ops Q (o :: rest) a w :=
  wpList_plain hgd fun _ hK => wp_append_bytes w s x t ho base e i ht hi hz hsize hby v ys hs hown B A m c xs hx hr hnone hlen hbase fun v' w' h2 h3 => hK _ _ (h v' w' h2 h3)
theorem step_append_bytes {P : Program} {ops : Array Oper} (w : World) {o : Oper} {a : Act} {K : Act → World → Prop} {Q : Exit → Act → World → Prop} {E : Prop} (hgd : o.guard = none) (s x : Operand) (t : TypeId)
    (ho : o.op = .call { callee := .builtin .append, args := #[s, x], argTypes := #[t, t] })
    (base : Nat) (e : TypeId) (i : TypeInfo) (ht : P.underlying t = some (.slice e)) (hi : P.info? e = some i) (hz : i.zero = some (.int .u8 0)) (hsize : i.size = 1) (hby : i.bytes = 1)
    (v : Value) (ys : List UInt8) (hs : a.eval s = v) (hown : OwnB w base e v ys)
    (B : Nat) (A : Option Addr) (m c : Nat) (xs : List UInt8) (hx : a.eval x = .slice A m c) (hr : Bs w B A m xs) (hnone : A = none → c = 0)
    (hlen : ys.length + m ≤ 1000000) (hbase : base ≤ w.heap.size)
    (h : ∀ v' w', OwnB w' base e v' (ys ++ xs) → Below base w w' → K (a.put o.dst v') w') : if Region.wanted o (yielded ops a.tmps) = true then Oper.wp P o a w K Q else E := by
  have hw : Region.wanted o (yielded ops a.tmps) = true := by simp [Region.wanted, hgd]
  rw [if_pos hw]
  exact wp_append_bytes w s x t ho base e i ht hi hz hsize hby v ys hs hown B A m c xs hx hr hnone hlen hbase h
theorem OwnB.lit (w : World) (t : TypeId) (B : Nat) (hB : B ≤ w.heap.size) : OwnB (w.alloc (.cells #[] t)) B t (.slice (some ⟨w.heap.size, 0, none⟩) 0 0) [] :=
  ⟨by simp, .inr ⟨w.heap.size, 0, #[], rfl, hB, World.alloc_heap_new w _, Nat.le_refl _, by simp, rfl, rfl⟩⟩
theorem OwnB.cap {w : World} {B : Nat} {t : TypeId} {xs : List UInt8} {n c : Nat} (h : OwnB w B t (.slice none n c) xs) : c = 0 := by
  rcases h.2 with ⟨h1, _⟩ | ⟨g, cap, cur, h1, _⟩
  · cases h1; rfl
  · cases h1

theorem OwnB.form2 {w : World} {B n : Nat} {t : TypeId} {v : Value} {xs : List UInt8} (h : OwnB w B t v xs) (hl : xs.length = n) :
    ∃ A c, v = .slice A n c ∧ n ≤ c ∧ (A = none → c = 0) ∧ Bs w w.heap.size A n xs := by
  subst hl
  obtain ⟨A, c, rfl, hle, _, _, hb⟩ := h.form
  exact ⟨A, c, rfl, hle, fun hA => by subst hA; exact h.cap, hb⟩
/-- A byte of what is the call's own: it may be read, and written. -/
theorem OwnB.at_ {w : World} {B : Nat} {t : TypeId} {A : Option Addr} {n c : Nat} {zs : List UInt8} (h : OwnB w B t (.slice A n c) zs) {j : Nat} (hj : j < zs.length) :
    ∃ g, A = some ⟨g, 0, none⟩ ∧ B ≤ g ∧ g < w.heap.size ∧ n ≤ c ∧ w.cell? ⟨g, j, none⟩ = some (.int .u8 ((zs[j]'hj).toNat : Int)) ∧ w.frozen? ⟨g, j, none⟩ = false ∧
      ∀ z : UInt8, OwnB (w.setCell ⟨g, j, none⟩ (.int .u8 (z.toNat : Int))) B t (.slice A n c) (zs.set j z) := by
  have hn : n = zs.length := by
    rcases h.2 with ⟨h1, h2⟩ | ⟨g, cap, cur, h1, _⟩
    · omega
    · cases h1; rfl
  subst hn
  rcases h.2 with ⟨h1, h2⟩ | ⟨g, cap, cur, h1, hB, hg, hle, hmax, hs, ht⟩
  · omega
  · cases h1
    have hw : w.ownsRow B t 1 (.slice (some ⟨g, 0, none⟩) zs.length c) zs.length (zs.map bv) := h
    refine ⟨g, rfl, hB, (Array.getElem?_eq_some_iff.1 hg).1, hle, ?_, World.ownsRow.frozenAt hw j, fun z => ?_⟩
    · rw [World.ownsRow.cellAt hw j (by omega), List.getElem?_map, List.getElem?_eq_getElem hj]; rfl
    · have hst := (World.ownsRow.stored hw j (bv z)).1
      unfold OwnB
      rw [List.length_set, List.map_set]
      exact hst
/-- Lay, whatever it is handed: what it answers is its own. -/
theorem lay_any (A : Option Addr) (n c : Nat) (xs : List UInt8) (used cd k : Int) (w : World) (hA : Bs w w.heap.size A n xs) (hn : n ≤ 1000000) :
    Calls Try.prog 20 #[.slice A n c, .int .i64 used, .int .i64 cd, .int .i64 k] w fun e w' =>
      ∃ v ys u q, e = .returned (.tuple #[v, .int .i64 u, .int .i64 q]) ∧ ys.length ≤ 2000000 ∧ OwnB w' w.heap.size 5 v ys ∧ Below w.heap.size w w' := by
  by_cases h : 0 ≤ k ∧ k ≤ 30 ∧ 0 ≤ cd ∧ cd < 2 ^ k.toNat ∧ 0 ≤ used ∧ used ≤ 8 * n ∧ (n : Int) ≤ (used + 7) / 8
  · obtain ⟨h1, h2, h3, h4, h5, h6, h7⟩ := h
    refine (lay_ok A n c xs used cd k w hA h5 h3 h1 h2 h4 h6 h7 hn).mono ?_
    rintro e w' ⟨v, ys, rfl, hl, ho, hb⟩
    exact ⟨v, ys, _, _, rfl, by have := hl.1; omega, ho, hb⟩
  · refine (lay_no A n c used cd k w h hn).mono ?_
    rintro e w' ⟨rfl, hb⟩
    exact ⟨_, [], _, _, rfl, by simp, OwnB.nil_ _ _ _, hb⟩
end Go.Proofs.Ytfglpnfegfcmeaa
