/- Package huff: Take. -/
import Derived.Test.YtfjmgfahlicleaaDoorHfJ
import Derived.Test.YtfjmgfahlicleaaDoorHfL
import Derived.Test.YtfjmgfahlicleaaDoorGJump
namespace Go.Proofs.YtfjmgfahlicleaaDoor
open Go.RowKit Hf Go.Shelf Oct
set_option linter.unusedVariables false
set_option linter.unusedSimpArgs false
attribute [local go_sem] Oper.semAt_some
namespace Hf
def sumL (pre : List (UInt8 × Fin 12)) : Nat := (pre.map fun x => x.2.val).sum
theorem sumL_snoc (pre : List (UInt8 × Fin 12)) (x : UInt8 × Fin 12) : sumL (pre ++ [x]) = sumL pre + x.2.val := by simp [sumL]
theorem sumL_le (pre : List (UInt8 × Fin 12)) : sumL pre ≤ 11 * pre.length := by
  induction pre with
  | nil => simp [sumL]
  | cons x r ih =>
    have := x.2.isLt
    unfold sumL at *
    simp only [List.map_cons, List.sum_cons, List.length_cons]
    omega
theorem sumL_enc (b : List UInt8) : sumL (b.map enc1) = (bl b).length := by
  induction b with
  | nil => rfl
  | cons c b ih =>
    rw [bl_cons, List.length_append, cbits_length, ← ih]
    unfold sumL
    simp [enc1]
theorem fst_enc (b : List UInt8) : (b.map enc1).map Prod.fst = b := by
  rw [List.map_map]
  have : (Prod.fst ∘ enc1) = id := by funext c; rfl
  rw [this, List.map_id]
/-- What holds between two rounds of Take. -/
structure TakeI (w : World) (B : Nat) (s t it : TypeId) (pre : List (UInt8 × Fin 12)) (W : World) : Prop where
  row : ∃ v, W.heap[w.heap.size]? = some (.cells #[v] s) ∧ OwnB W B t v (pre.map Prod.fst)
  at_ : W.heap[w.heap.size + 1]? = some (.cells #[.int .i64 (sumL pre : Int)] it)
  nz : ∀ x ∈ pre, x.2.val ≠ 0
  below : Below w.heap.size w W
  size : B ≤ W.heap.size
/-- .. and where it is left. -/
def TakeX (w : World) (B : Nat) (s t it : TypeId) (c : Code) (pre : List (UInt8 × Fin 12)) (W : World) : Prop := ∃ pre' x, pre = pre' ++ [x] ∧ x.2.val = 0 ∧ c = Code.goto 0 ∧ TakeI w B s t it pre' W
theorem takeI_own {w : World} {B B' : Nat} {s t it : TypeId} (hB : w.heap.size ≤ B') : OwnFrom B' (TakeI w B s t it) := by
  intro pre W W' row hs hg hr
  have hr' : ∀ k, row = some k → ∃ o : Obj, W.heap[k]? = some o ∧ o.isCells = false := fun k e => (hr k e).2
  obtain ⟨⟨v, h1, h3⟩, h4, h5, h6, h7⟩ := hs
  exact ⟨⟨v, heap_kept hg hr' h1, h3.other hg hr'⟩, heap_kept hg hr' h4, h5, h6.grown hg h6.size (fun k e => Nat.le_trans hB (hr k e).1), Nat.le_trans h7 hg.size⟩
theorem takeX_own {w : World} {B B' : Nat} {s t it : TypeId} (c : Code) (hB : w.heap.size ≤ B') : OwnFrom B' (TakeX w B s t it c) := by
  intro pre W W' row hs hg hr
  obtain ⟨pre', x, h1, h2, h3, h4⟩ := hs
  exact ⟨pre', x, h1, h2, h3, takeI_own hB _ _ _ _ h4 hg hr⟩
theorem take_round {w W W2 : World} {B R : Nat} {s t it : TypeId} {pre : List (UInt8 × Fin 12)} {x : UInt8 × Fin 12} {o : Obj} {u v' : Value} {a : Act} {Ix : Code → List (UInt8 × Fin 12) → World → Prop} (p : Nat → Prop) (hB : w.heap.size + 2 ≤ B) (hp : ∀ j, p j → j < B ∧ j ≠ w.heap.size ∧ j ≠ w.heap.size + 1)
    (h1 : W.heap[w.heap.size]? = some (.cells #[u] s)) (ho : OwnB W B t u (pre.map Prod.fst)) (h2 : W.heap[w.heap.size + 1]? = some (.cells #[.int .i64 (sumL pre : Int)] it)) (hnz : ∀ x ∈ pre, x.2.val ≠ 0) (hbw : Below w.heap.size w W) (hB1 : B ≤ W.heap.size) (hx : x.2.val ≠ 0)
    (hbl : Below B (W.alloc o) W2) (hgr : (W.alloc o).grownBy W2 u.ownBlock) (hown : OwnB W2 B t v' (pre.map Prod.fst ++ [x.1])) :
    ownPostG R (KeepW p) (TakeI w B s t it) Ix (pre ++ [x]) W Exit.normal a ((W2.setCell ⟨w.heap.size, 0, none⟩ v').setCell ⟨w.heap.size + 1, 0, none⟩ (.int .i64 ((sumL pre : Int) + (x.2.val : Int)))) := by
  have hb2 : Below B W W2 := ((Below.refl B W).alloc hB1 o).trans hbl
  have hz2 := hb2.size
  obtain ⟨W', hW'⟩ : ∃ W', (W2.setCell ⟨w.heap.size, 0, none⟩ v').setCell ⟨w.heap.size + 1, 0, none⟩ (.int .i64 ((sumL pre : Int) + (x.2.val : Int))) = W' := ⟨_, rfl⟩
  have hzs : W'.heap.size = W2.heap.size := by rw [← hW']; simp [World.setCell]
  have hset : ∀ k, k ≠ w.heap.size → k ≠ w.heap.size + 1 → W'.heap[k]? = W2.heap[k]? := fun k n1 n2 => by
    rw [← hW']
    exact (Below.heap_setCell _ _ _ _ (by simpa using n2)).trans (Below.heap_setCell _ _ _ _ (by simpa using n1))
  have hr0 : W'.heap[w.heap.size]? = some (.cells #[v'] s) := by
    rw [← hW']
    refine (Below.heap_setCell _ _ _ _ (by simp)).trans ?_
    exact (Go.heap_setCell_same W2 w.heap.size 0 _ _ _ ((hb2.block w.heap.size (by omega)).trans h1)).trans rfl
  have hr1 : W'.heap[w.heap.size + 1]? = some (.cells #[.int .i64 (sumL (pre ++ [x]) : Int)] it) := by
    rw [← hW']
    have h := (Below.heap_setCell W2 ⟨w.heap.size, 0, none⟩ v' (w.heap.size + 1) (by simp)).trans ((hb2.block (w.heap.size + 1) (by omega)).trans h2)
    refine (Go.heap_setCell_same _ (w.heap.size + 1) 0 _ _ _ h).trans ?_
    rw [sumL_snoc, Int.natCast_add]
    rfl
  have hrest : ∀ (k : Nat) (o2 : Obj), W.heap[k]? = some o2 → o2.isCells = false → W'.heap[k]? = some o2 := fun k o2 hk hc => by
    have hkl := (Array.getElem?_eq_some_iff.1 hk).1
    have n1 : k ≠ w.heap.size := fun e => by subst e; rw [h1] at hk; cases hk; cases hc
    have n2 : k ≠ w.heap.size + 1 := fun e => by subst e; rw [h2] at hk; cases hk; cases hc
    have n3 : u.ownBlock ≠ some k := fun e => by
      obtain ⟨o1, ho1, hc1⟩ := ho.iscells e
      have : some o2 = some o1 := hk.symm.trans ho1
      cases this
      rw [hc1] at hc; cases hc
    rw [hset k n1 n2, hgr.block k (by simp; omega) (fun e => n3 e.symm), Below.heap_alloc _ _ _ hkl]
    exact hk
  have hbel : Below w.heap.size w W' := by
    rw [← hW']
    exact ((hbw.trans (hb2.mono (by have := hbw.size; omega))).setCell (p := ⟨w.heap.size, 0, none⟩) (Nat.le_refl _) _).setCell (p := ⟨w.heap.size + 1, 0, none⟩) (Nat.le_succ _) _
  rw [hW']
  refine ⟨⟨by omega, fun k o2 _ hk hc => hrest k o2 hk hc⟩, ⟨fun j o2 hpj hj _ => ?_, ⟨by omega, fun k o2 hk hw => hrest k o2 hk (Obj.not_cells_of_walk hw)⟩⟩, ⟨⟨v', hr0, ?_⟩, hr1, ?_, hbel, by omega⟩⟩
  · have := hp j hpj
    rw [hset j this.2.1 this.2.2, hb2.block j this.1]; exact hj
  · rw [List.map_append]
    exact hown.above fun k hk => hset k (by omega) (by omega)
  · intro y hy
    rcases List.mem_append.1 hy with hy | hy
    · exact hnz y hy
    · rw [List.mem_singleton.1 hy]; exact hx
/-- What the end of the loop says. -/
theorem take_done {xs b : List UInt8} {a n : Nat} (hl : xs.length = n) (h : Hf.Ends xs b a) (hnz : ∀ x ∈ els b a n, x.2.val ≠ 0) : takeE xs = 0 ∧ (els b a n).map Prod.fst = takeL xs := by
  have ha : ¬ a < 8 * n := fun hlt => by
    refine hnz (0, 0) ?_ rfl
    rw [els_eq, if_pos hlt]
    simp
  have hle := h.run.le
  obtain ⟨e1, e2⟩ := h.one (all_ends xs)
  have hf : fillB xs (allA xs) = true := by
    rw [← e2, show a = 8 * xs.length by omega]
    exact fill_end xs
  unfold takeE takeL
  rw [if_pos hf, if_pos hf, els_eq, if_neg ha, List.append_nil, fst_enc, e1]
  exact ⟨rfl, rfl⟩
theorem take_left {xs : List UInt8} {pre pre' : List (UInt8 × Fin 12)} {x : UInt8 × Fin 12} {n : Nat} (h : LeftAt xs n pre) (hp : pre = pre' ++ [x]) (hx : x.2.val = 0) :
    pre'.map Prod.fst = allL xs ∧ sumL pre' = allA xs := by
  obtain ⟨l, a, hr, h | ⟨he, hlt, h⟩⟩ := h
  · rw [hp] at h
    have hmem : x ∈ l.map enc1 := by rw [← h]; simp
    obtain ⟨c, _, rfl⟩ := List.mem_map.1 hmem
    have := mny_bd c
    have hx2 : mny c = 0 := hx
    omega
  · rw [hp] at h
    obtain ⟨rfl, _⟩ := List.append_inj' h rfl
    obtain ⟨e1, e2⟩ := he.one (all_ends xs)
    rw [fst_enc, sumL_enc, hr.len, e1, ← e2]
    exact ⟨rfl, rfl⟩
end Hf
end Go.Proofs.YtfjmgfahlicleaaDoor
