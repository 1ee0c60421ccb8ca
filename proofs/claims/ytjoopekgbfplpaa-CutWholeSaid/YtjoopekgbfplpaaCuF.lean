/- What holds between two rounds of Feed's range: pieces gathered, the bytes that are left. -/
import Derived.Test.YtjoopekgbfplpaaCuD
namespace Go.Proofs.Ytjoopekgbfplpaa
open Go.RowKit Oct Cu Go.Shelf
set_option linter.unusedVariables false
set_option linter.unusedSimpArgs false

theorem Bs.cutO' {w : World} {B n c k : Nat} {A : Option Addr} {xs : List UInt8} (h : Bs w B A n xs) (hk : k ≤ n) (hc : n ≤ c) : Bs w B (if c = k then A else A.map fun x => x.add k) (n - k) (xs.drop k) := by
  by_cases h0 : n - k = 0
  · rw [h0, List.drop_eq_nil_of_le (by rw [h.1]; omega)]
    exact Bs.empty _ _ _
  · obtain ⟨b, o, rfl, _, _⟩ := h.2 (by omega)
    rw [if_neg (by omega)]
    simp only [Option.map_some, Addr.add_lit]
    exact h.drop hk
theorem cutO_none' {c k : Nat} {A A3 : Option Addr} (h : (if c = k then A else A.map fun x => x.add k) = A3) (hN : A = none → c = 0) : A3 = none → c - k = 0 := fun e => by
  subst e
  split at h
  · omega
  · have := hN (by simpa using h); omega
/-- Only these three blocks turned: the gathered pieces' variable, the bytes' variable, the iterator's. -/
def P3 (gl gb B1 : Nat) (k : Nat) : Prop := k = gl ∨ k = gb ∨ k = B1
structure GatherQ (W0 : World) (gl gb B1 bk : Nat) (xs : List UInt8) (pre : List Pq) (W : World) : Prop where
  rowl : ∃ v, W.heap[gl]? = some (.cells #[v] 28) ∧ OwnQ W W0.heap.size 40 v pre
  rowb : ∃ A c, W.heap[gb]? = some (.cells #[.slice A (xs.length - totL pre) c] 22) ∧ Bs W W0.heap.size A (xs.length - totL pre) (xs.drop (totL pre)) ∧ (0 < xs.length - totL pre → ∃ o, A = some ⟨bk, o, none⟩) ∧ xs.length - totL pre ≤ c ∧ (A = none → c = 0)
  keep : Turn (P3 gl gb B1) W0 W
/-- A fresh piece's box, as the body meets it. -/
def AtQ (W0 : World) (gl : Nat) (xs : List UInt8) (f : Nat → Pq → Act) (pre : List Pq) (x : Pq) (a : Act) (W : World) : Prop :=
  ∃ b, a = f b x ∧ W0.heap.size ≤ b ∧ W.heap[b]? = some (.cells #[.int .i64 (hL x.f), .int .u8 (hK x.f), .int .u8 (hF x.f), .int .i64 (hS x.f), .slice x.A (x.f.length - 9) x.c] 40) ∧
    (∃ v, W.heap[gl]? = some (.cells #[v] 28) ∧ v.ownBlock ≠ some b ∧ ∀ k, payOn x k → v.ownBlock ≠ some k) ∧ PayB W x ∧ (∀ k, payOn x k → W0.heap.size ≤ k ∧ k ≠ b) ∧ 9 ≤ x.f.length ∧ totL pre + x.f.length ≤ xs.length
theorem heap_other {W W' : World} {row : Option Nat} {k : Nat} {cs : Array Value} {t : TypeId} (hg : W.grownBy W' row) (hr : ∀ r, row = some r → ∃ o : Obj, W.heap[r]? = some o ∧ o.isCells = false) (h : W.heap[k]? = some (.cells cs t)) : W'.heap[k]? = some (.cells cs t) := by
  refine (hg.block k (Array.getElem?_eq_some_iff.1 h).1 (fun e => ?_)).trans h
  obtain ⟨o, ho, hc⟩ := hr k e.symm
  rw [h] at ho
  cases ho
  cases hc
theorem pay_other {W W' : World} {row : Option Nat} {x : Pq} (hg : W.grownBy W' row) (hr : ∀ r, row = some r → ∃ o : Obj, W.heap[r]? = some o ∧ o.isCells = false) (h : PayB W x) : PayB W' x :=
  h.dep hg.size fun k hk => hg.block k (h.lt hk) (fun e => by
    obtain ⟨o, ho, hc⟩ := hr k e.symm
    obtain ⟨o2, ho2, hc2⟩ := pay_iscells h hk
    rw [ho] at ho2
    cases ho2
    rw [hc] at hc2
    cases hc2)
theorem bs_other {W W' : World} {row : Option Nat} {B n : Nat} {A : Option Addr} {xs : List UInt8} (hg : W.grownBy W' row) (hr : ∀ r, row = some r → ∃ o : Obj, W.heap[r]? = some o ∧ o.isCells = false) (h : Bs W B A n xs) : Bs W' B A n xs :=
  ⟨h.1, fun hn => by
    obtain ⟨b, o, e, hb, hc⟩ := h.2 hn
    exact ⟨b, o, e, hb, fun j hj => cell_kept (hc j hj) hg hr⟩⟩
theorem gatherQ_own (W0 : World) (gl gb B1 bk : Nat) (xs : List UInt8) (h1 : gl < W0.heap.size) : OwnFrom W0.heap.size (GatherQ W0 gl gb B1 bk xs) := by
  intro pre W W' row hs hg hr
  have hr' : ∀ k, row = some k → ∃ o : Obj, W.heap[k]? = some o ∧ o.isCells = false := fun k e => (hr k e).2
  obtain ⟨⟨v, hl, ho⟩, ⟨A, c, hb, hbs, hbk, hc, hN⟩, hk⟩ := hs
  refine ⟨⟨v, heap_other hg hr' hl, ho.other hg hr'⟩, ⟨A, c, heap_other hg hr' hb, bs_other hg hr' hbs, hbk, hc, hN⟩, ?_⟩
  exact ⟨hg.os.trans hk.os, hg.tape.trans hk.tape, hg.output.trans hk.output, Nat.le_trans hk.size hg.size, fun k hlt hp => (hg.block k (Nat.lt_of_lt_of_le hlt hk.size) (fun e => by have := (hr k e.symm).1; omega)).trans (hk.block k hlt hp)⟩
theorem gatherQ_st {W0 : World} {gl gb B1 bk : Nat} {xs : List UInt8} (hl : gl ≠ B1) (hb : gb ≠ B1) (hB : B1 < W0.heap.size) (hbk : bk ≠ B1) (pre : List Pq) (A B : World) (h : GatherQ W0 gl gb B1 bk xs pre A) (hs : StB B1 A B) : GatherQ W0 gl gb B1 bk xs pre B := by
  obtain ⟨v, rfl⟩ := hs
  obtain ⟨⟨u, h1, h2⟩, ⟨A1, c1, h3, h4, h5, h6⟩, h7⟩ := h
  have ho : ∀ k, k ≠ B1 → (A.setCell ⟨B1, 0, none⟩ v).heap[k]? = A.heap[k]? := fun k hk => Below.heap_setCell _ _ _ _ (by simpa using hk)
  refine ⟨⟨u, (ho _ hl).trans h1, h2.above (by simp [World.setCell]) fun k hk => ho k (by omega)⟩, ⟨A1, c1, (ho _ hb).trans h3, ?_, h5, h6⟩, h7.setCell (x := ⟨B1, 0, none⟩) (.inr (.inr rfl)) _⟩
  refine ⟨h4.1, fun hn => ?_⟩
  obtain ⟨b, o, e, hlt, hc⟩ := h4.2 hn
  obtain ⟨o', e'⟩ := h5 hn
  rw [e] at e'
  cases e'
  exact ⟨_, _, e, hlt, fun j hj => (World.cell?_of_block (ho bk hbk)).trans (hc j hj)⟩
theorem atQ_own (W0 : World) (gl : Nat) (xs : List UInt8) (f : Nat → Pq → Act) (pre : List Pq) (x : Pq) (a : Act) (B : Nat) : OwnFrom B (fun (_ : Unit) W => AtQ W0 gl xs f pre x a W) := by
  intro s W W' row hs hg hr
  have hr' : ∀ k, row = some k → ∃ o : Obj, W.heap[k]? = some o ∧ o.isCells = false := fun k e => (hr k e).2
  obtain ⟨b, e, h1, h2, ⟨v, h3, h4⟩, h5, h6⟩ := hs
  exact ⟨b, e, h1, heap_other hg hr' h2, ⟨v, heap_other hg hr' h3, h4⟩, pay_other hg hr' h5, h6⟩
theorem Turn.grownQ {p : Nat → Prop} {a b c : World} {row : Option Nat} (h : Turn p a b) (hg : b.grownBy c row) (hr : ∀ k, row = some k → a.heap.size ≤ k) : Turn p a c :=
  ⟨hg.os.trans h.os, hg.tape.trans h.tape, hg.output.trans h.output, Nat.le_trans h.size hg.size, fun k hlt hp => (hg.block k (Nat.lt_of_lt_of_le hlt h.size) (fun e => by have := hr k e.symm; omega)).trans (h.block k hlt hp)⟩
theorem gatherQ_round {W0 W W2 : World} {gl gb B1 bk R : Nat} {xs : List UInt8} {pre : List Pq} {x : Pq} {o : Obj} {v v' : Value} {A A5 : Option Addr} {c c5 : Nat} {a : Act}
    (hlb : gl ≠ gb) (hl : gl < W0.heap.size) (hb : gb < W0.heap.size) (hbkl : bk ≠ gl) (hbkb : bk ≠ gb) (hbk0 : bk < W0.heap.size)
    (hrl : W.heap[gl]? = some (.cells #[v] 28)) (hov : OwnQ W W0.heap.size 40 v pre)
    (hrb : W.heap[gb]? = some (.cells #[.slice A (xs.length - totL pre) c] 22)) (hbs : Bs W W0.heap.size A (xs.length - totL pre) (xs.drop (totL pre))) (hbk : 0 < xs.length - totL pre → ∃ o, A = some ⟨bk, o, none⟩)
    (hk : Turn (P3 gl gb B1) W0 W) (hgr : (W.alloc o).grownBy W2 v.ownBlock) (hown : OwnQ W2 W0.heap.size 40 v' (pre ++ [x]))
    (hlen : totL pre + x.f.length ≤ xs.length) (hA5 : (if c = x.f.length then A else A.map fun y => y.add x.f.length) = A5) (hc5 : c5 = c - x.f.length) (hcc : xs.length - totL pre ≤ c) (hN : A = none → c = 0) :
    ownPostG W0.heap.size (KeepZ fun j => j < W0.heap.size ∧ j ≠ gl ∧ j ≠ gb) (GatherQ W0 gl gb B1 bk xs) (fun _ _ _ => False) (pre ++ [x]) W Exit.normal a ((W2.setCell ⟨gl, 0, none⟩ v').setCell ⟨gb, 0, none⟩ (.slice A5 (xs.length - totL pre - x.f.length) c5)) := by
  have hz1 : W.heap.size ≤ W2.heap.size := Nat.le_trans (by simp) hgr.size
  have hz0 : W0.heap.size ≤ W.heap.size := hk.size
  have hlow : ∀ k, k < W.heap.size → v.ownBlock ≠ some k → W2.heap[k]? = W.heap[k]? := fun k hlt hne => (hgr.block k (by simp; omega) (fun e => hne e.symm)).trans (Below.heap_alloc _ _ _ hlt)
  have hown0 : ∀ k, k < W0.heap.size → v.ownBlock ≠ some k := fun k hlt e => by have := (hov.block e).1; omega
  have hset : ∀ k, k ≠ gl → k ≠ gb → ((W2.setCell ⟨gl, 0, none⟩ v').setCell ⟨gb, 0, none⟩ (.slice A5 (xs.length - totL pre - x.f.length) c5)).heap[k]? = W2.heap[k]? := fun k h1 h2 =>
    (Below.heap_setCell _ _ _ _ (by simpa using h2)).trans (Below.heap_setCell _ _ _ _ (by simpa using h1))
  have hsz : ((W2.setCell ⟨gl, 0, none⟩ v').setCell ⟨gb, 0, none⟩ (.slice A5 (xs.length - totL pre - x.f.length) c5)).heap.size = W2.heap.size := by simp [World.setCell]
  have hl2 : W2.heap[gl]? = some (.cells #[v] 28) := (hlow gl (by omega) (hown0 gl hl)).trans hrl
  have hb2 : W2.heap[gb]? = some (.cells #[.slice A (xs.length - totL pre) c] 22) := (hlow gb (by omega) (hown0 gb hb)).trans hrb
  have hl3 : (W2.setCell ⟨gl, 0, none⟩ v').heap[gl]? = some (.cells #[v'] 28) := (Go.heap_setCell_same W2 gl 0 _ _ _ hl2).trans rfl
  have hb3 : (W2.setCell ⟨gl, 0, none⟩ v').heap[gb]? = some (.cells #[.slice A (xs.length - totL pre) c] 22) := (Below.heap_setCell _ _ _ _ (by simpa using hlb.symm)).trans hb2
  refine ⟨⟨by rw [hsz]; exact hz1, fun k o2 hB hk2 ho2 => ?_⟩, ⟨fun j o2 hp hj _ => ?_, by rw [hsz]; exact hz1⟩, ⟨⟨v', ?_, ?_⟩, ⟨A5, c5, ?_, ?_, fun h => ?_, ?_, ?_⟩, ?_⟩⟩
  · have hkl := (Array.getElem?_eq_some_iff.1 hk2).1
    rw [hset k (by omega) (by omega), hlow k hkl (fun e => by
      obtain ⟨o3, h3, h4⟩ := hov.iscells e
      rw [hk2] at h3
      cases h3
      rw [ho2] at h4
      cases h4)]
    exact hk2
  · rw [hset j hp.2.1 hp.2.2, hlow j (by omega) (hown0 j hp.1)]
    exact hj
  · exact (Below.heap_setCell _ _ _ _ (by simpa using hlb)).trans hl3
  · exact hown.above (by omega) fun k hB => hset k (by omega) (by omega)
  · rw [totL_add, Nat.sub_add_eq]
    exact (Go.heap_setCell_same _ gb 0 _ _ _ hb3).trans rfl
  · have h1 := Bs.cutO' hbs (k := x.f.length) (by omega) hcc
    rw [hA5, List.drop_drop] at h1
    rw [totL_add, Nat.sub_add_eq]
    refine ⟨h1.1, fun hn => ?_⟩
    obtain ⟨b, o, e, hlt, hc⟩ := h1.2 hn
    have hbb : b = bk := by
      obtain ⟨o2, e2⟩ := hbk (by omega)
      subst e2
      rw [if_neg (by omega)] at hA5
      simp only [Option.map_some, Addr.add_lit] at hA5
      rw [e] at hA5
      cases hA5
      rfl
    subst hbb
    exact ⟨b, o, e, hlt, fun j hj => (World.cell?_of_block ((hset b hbkl hbkb).trans (hlow b (by omega) (hown0 b hbk0)))).trans (hc j hj)⟩
  · rw [totL_add] at h
    obtain ⟨o2, e2⟩ := hbk (by omega)
    subst e2
    rw [if_neg (by omega)] at hA5
    simp only [Option.map_some, Addr.add_lit] at hA5
    exact ⟨_, hA5.symm⟩
  · rw [totL_add]; omega
  · intro e
    rw [hc5]
    have := cutO_none' hA5 hN e
    omega
  · exact (((hk.alloc o).grownQ hgr (fun k e => (hov.block e).1)).setCell (x := ⟨gl, 0, none⟩) (.inl rfl) _).setCell (x := ⟨gb, 0, none⟩) (.inr (.inl rfl)) _
/-- A block of deferred calls. -/
def dF (D : Nat) : Fact where
  on k := k = D
  is w := w.heap[D]? = some (.deferred (some []))
  dep _ _ h _ hk := (hk D rfl).trans h
theorem rs_drop (xs : List UInt8) (ys : List Pq) (h : ys.map (·.f) = fs xs) : xs.drop (totL ys) = rs xs ∧ xs.length - totL ys = (rs xs).length := by
  have h1 := cut_all xs.length xs
  have h2 : totL ys = (cutF xs.length xs).flatten.length := by unfold totL; rw [h]; rfl
  have h3 := congrArg List.length h1
  rw [List.length_append] at h3
  refine ⟨?_, ?_⟩
  · have h4 : ∀ l m : List UInt8, l ++ m = xs → xs.drop l.length = m := fun l m e => by rw [← e]; exact List.drop_left
    rw [h2]
    exact h4 _ _ h1
  · rw [h2]
    unfold rs
    omega
/-- Behind the range. -/
theorem envQ_done {W0 W : World} {gl gb B1 bk gr go gx D : Nat} {xs : List UInt8} {ys : List Pq} {R O X : Array Value} (hI : GatherQ W0 gl gb B1 bk xs ys W) (hys : ys.map (·.f) = fs xs) (hD : W0.heap.size ≤ D) (hK : W.heap[D]? = some (.deferred (some [])))
    (hlt : gl < W0.heap.size ∧ gb < W0.heap.size ∧ B1 < W0.heap.size ∧ bk < W0.heap.size) (hr : W0.heap[gr]? = some (.cells R 24)) (ho : W0.heap[go]? = some (.cells O 24)) (hx : W0.heap[gx]? = some (.cells X 31))
    (hnd : [gb, gx, gl, go, gr].Nodup) (h1 : ∀ k, k = gr ∨ k = go ∨ k = gx → ¬ P3 gl gb B1 k) (hbk : ∀ k, k = gb ∨ k = gx ∨ k = gl ∨ k = go ∨ k = gr → 0 < (rs xs).length → bk ≠ k) :
    ∃ A2 c2 A5 c5, EnvF W [dF D, qF A2 ys.length ys, bF A5 (rs xs).length (rs xs)] [(gb, #[.slice A5 (rs xs).length c5], 22), (gx, X, 31), (gl, #[.slice A2 ys.length c2], 28), (go, O, 24), (gr, R, 24)] ∧
      (rs xs).length ≤ c5 ∧ (A5 = none → c5 = 0) ∧ ys.length ≤ c2 ∧ (A2 = none → c2 = 0) ∧ (∀ k, qOn A2 ys.length ys k → W0.heap.size ≤ k) := by
  obtain ⟨⟨v, hl, hov⟩, ⟨A5, c5, hb, hbs, hbk5, hc5, hN5⟩, hk⟩ := hI
  obtain ⟨A2, c2, rfl, hq, hfr, hc2, hN2⟩ := hov.handQ rfl
  rw [(rs_drop xs ys hys).2] at hb hbs hbk5 hc5
  rw [(rs_drop xs ys hys).1] at hbs
  have hz := hk.size
  have rows : ∀ k cs t, k = gr ∨ k = go ∨ k = gx → W0.heap[k]? = some (.cells cs t) → W.heap[k]? = some (.cells cs t) := fun k cs t hk3 h => (hk.block k (Array.getElem?_eq_some_iff.1 h).1 (h1 k hk3)).trans h
  have lts : ∀ k, k = gb ∨ k = gx ∨ k = gl ∨ k = go ∨ k = gr → k < W0.heap.size := fun k hk3 => by
    rcases hk3 with rfl | rfl | rfl | rfl | rfl
    · exact hlt.2.1
    · exact (Array.getElem?_eq_some_iff.1 hx).1
    · exact hlt.1
    · exact (Array.getElem?_eq_some_iff.1 ho).1
    · exact (Array.getElem?_eq_some_iff.1 hr).1
  have inb : ∀ y : Bx, y ∈ [(gb, #[.slice A5 (rs xs).length c5], 22), (gx, X, 31), (gl, #[.slice A2 ys.length c2], 28), (go, O, 24), (gr, R, 24)] → y.1 = gb ∨ y.1 = gx ∨ y.1 = gl ∨ y.1 = go ∨ y.1 = gr := fun y hy => by
    simp only [List.mem_cons, List.not_mem_nil, or_false] at hy
    rcases hy with rfl | rfl | rfl | rfl | rfl <;> simp
  refine ⟨A2, c2, A5, c5, ⟨fun x hx' => ?_, fun y hy => ?_, by simpa using hnd⟩, hc5, hN5, hc2, hN2, hfr⟩
  · simp only [List.mem_cons, List.not_mem_nil, or_false] at hx'
    rcases hx' with rfl | rfl | rfl
    · refine ⟨hK, fun k e => ?_⟩
      obtain rfl : k = D := e
      exact ⟨(Array.getElem?_eq_some_iff.1 hK).1, fun y hy => by have := lts _ (inb y hy); omega⟩
    · exact ⟨hq, fun k hk' => ⟨hq.lt hk', fun y hy => by have := lts _ (inb y hy); have := hfr k hk'; omega⟩⟩
    · refine ⟨hbs.more hz, fun k hk' => ?_⟩
      obtain ⟨hn, o, e⟩ := hk'
      obtain ⟨o2, e2⟩ := hbk5 hn
      rw [e] at e2
      cases e2
      exact ⟨by omega, fun y hy => hbk _ (inb y hy) hn⟩
  · simp only [List.mem_cons, List.not_mem_nil, or_false] at hy
    rcases hy with rfl | rfl | rfl | rfl | rfl
    · exact hb
    · exact rows _ _ _ (.inr (.inr rfl)) hx
    · exact hl
    · exact rows _ _ _ (.inr (.inl rfl)) ho
    · exact rows _ _ _ (.inl rfl) hr
theorem keepZ_trans {p : Nat → Prop} {A B C : World} (h : KeepZ p A B) (k : KeepZ p B C) : KeepZ p A C := ⟨h.1.trans k.1, Nat.le_trans h.2 k.2⟩
theorem keepZ_put {p : Nat → Prop} (W : World) (l : Nat) (o o' : Obj) (h : W.heap[l]? = some o) (hc : o.isCells = false) : KeepZ p W (W.putObj l o') := ⟨KeepC.put W l o o' h hc, (grownBy_putObj' W l o').size⟩
theorem stB_keep {B1 : Nat} (A B : World) (l : Nat) (o : Obj) (hs : StB B1 A B) (h : A.heap[l]? = some o) (hc : o.isCells = false) : B.heap[l]? = some o := by
  obtain ⟨v, rfl⟩ := hs
  by_cases e : l = B1
  · subst e
    simp only [World.setCell, Array.getElem?_modify, h]
    cases o <;> simp_all [Obj.isCells]
  · exact (Below.heap_setCell _ _ _ _ (by simpa using e)).trans h
theorem bk_of {W : World} {fs : List Fact} {gs : List Bx} (K : EnvF W fs gs) {A : Option Addr} {n : Nat} {xs : List UInt8} (hm : bF A n xs ∈ fs) {y : Bx} (hy : y ∈ gs) : ∃ bk, bk < W.heap.size ∧ (0 < n → ∃ o, A = some ⟨bk, o, none⟩) ∧ (0 < n → ∀ z ∈ gs, bk ≠ z.1) ∧ (n = 0 → bk = y.1) := by
  rcases Nat.eq_zero_or_pos n with h | h
  · exact ⟨y.1, K.lt hy, fun h2 => by omega, fun h2 => by omega, fun _ => rfl⟩
  · obtain ⟨b, o, e, hb, _⟩ := (K.bs hm).2 h
    exact ⟨b, hb, fun _ => ⟨o, e⟩, fun _ z hz => ((K.f _ hm).2 b ⟨h, o, e⟩).2 z hz, fun h2 => by omega⟩
theorem gatherQ_nil {W0 : World} {gl gb B1 bk : Nat} {xs : List UInt8} {A : Option Addr} {n c : Nat} (hx : xs.length = n) (h1 : W0.heap[gl]? = some (.cells #[.slice none 0 0] 28)) (h2 : W0.heap[gb]? = some (.cells #[.slice A n c] 22)) (h3 : Bs W0 W0.heap.size A n xs) (h4 : 0 < n → ∃ o, A = some ⟨bk, o, none⟩) (h5 : n ≤ c) (h6 : A = none → c = 0) : GatherQ W0 gl gb B1 bk xs [] W0 := by
  subst hx
  exact ⟨⟨_, h1, OwnQ.nil_ _ _ _⟩, ⟨A, c, h2, h3, h4, h5, h6⟩, Turn.refl _ _⟩
theorem own_ne_pay {W : World} {B : Nat} {v : Value} {pre : List Pq} {x : Pq} (h : OwnQ W B 40 v pre) (hx : ∀ k, payOn x k → ∃ cs fr, W.heap[k]? = some (.cells cs 5 fr)) : ∀ k, payOn x k → v.ownBlock ≠ some k := fun k hk e => by
  obtain ⟨cs, fr, h1⟩ := hx k hk
  rcases h.1.2 with ⟨rfl, _⟩ | ⟨g, cap, cur, rfl, _, hh, _⟩
  · cases e
  · cases e
    rw [h1] at hh
    simp at hh
/-- The box of a round's piece is laid. -/
theorem atQ_laid {W0 W : World} {gl gb B1 bk : Nat} {xs : List UInt8} {pre : List Pq} {x : Pq} (f : Nat → Pq → Act) (hI : GatherQ W0 gl gb B1 bk xs pre W) (hlt : gl < W0.heap.size) (hV : VP W0.heap.size xs pre x W) :
    AtQ W0 gl xs f pre x (f W.heap.size x) (W.alloc (.cells #[.int .i64 (hL x.f), .int .u8 (hK x.f), .int .u8 (hF x.f), .int .i64 (hS x.f), .slice x.A (x.f.length - 9) x.c] 40)) := by
  obtain ⟨v, hl, ho⟩ := hI.rowl
  obtain ⟨v1, v2, v3, v4, v5⟩ := hV
  refine ⟨W.heap.size, rfl, hI.keep.size, World.alloc_heap_new _ _, ⟨v, (Below.heap_alloc _ _ _ (Array.getElem?_eq_some_iff.1 hl).1).trans hl, fun e => by have := (ho.block e).2; omega, own_ne_pay ho v5⟩, v1.on ((Below.refl _ W).alloc (Nat.le_refl _) _), fun k hk => ⟨v2 k hk, fun e => by have := v1.lt hk; omega⟩, v3, v4⟩
theorem qs_lit (W : World) (t : TypeId) (x : Pq) (h : PayB W x) : Qs (W.alloc (.cells #[.int .i64 (hL x.f), .int .u8 (hK x.f), .int .u8 (hF x.f), .int .i64 (hS x.f), .slice x.A (x.f.length - 9) x.c] t)) (some ⟨W.heap.size, 0, none⟩) 1 [x] := by
  refine ⟨rfl, fun _ => ⟨W.heap.size, 0, rfl, by simp, fun j u hu => ?_⟩, fun y hy => ?_⟩
  · rw [cell_of_row _ W.heap.size _ _ t (0, 0) (World.alloc_heap_new W _), Nat.zero_add]
    simpa [pq5] using hu
  · rw [List.mem_singleton] at hy
    subst hy
    exact h.on ((Below.refl _ W).alloc (Nat.le_refl _) _)
theorem Qs.other {W W' : World} {row : Option Nat} {A : Option Addr} {n : Nat} {xs : List Pq} (h : Qs W A n xs) (hg : W.grownBy W' row) (hr : ∀ r, row = some r → ∃ o : Obj, W.heap[r]? = some o ∧ o.isCells = false) : Qs W' A n xs := by
  refine ⟨h.1, fun hn => ?_, fun x hx => pay_other hg hr (h.2.2 x hx)⟩
  obtain ⟨b, o, e, hb, hc⟩ := h.2.1 hn
  exact ⟨b, o, e, Nat.lt_of_lt_of_le hb hg.size, fun j u hu => cell_kept (hc j u hu) hg hr⟩
theorem deferred_other {W : World} {D : Nat} (h : W.heap[D]? = some (.deferred (some []))) : ∀ r, some D = some r → ∃ o : Obj, W.heap[r]? = some o ∧ o.isCells = false := fun r e => by cases e; exact ⟨_, h, rfl⟩
theorem handS_putD {W : World} {B D n c : Nat} {A : Option Addr} {xs : List UInt8} (h : HandS W B A n c xs) (hD : W.heap[D]? = some (.deferred (some []))) : HandS (W.putObj D (.deferred none)) B A n c xs :=
  ⟨(bs_other (grownBy_putObj' W D _) (deferred_other hD) h.1).more (grownBy_putObj' W D _).size, h.2⟩
theorem handQ_putD {W : World} {B D n c : Nat} {A : Option Addr} {xs : List Pq} (h : HandQ W B A n c xs) (hD : W.heap[D]? = some (.deferred (some []))) : HandQ (W.putObj D (.deferred none)) B A n c xs :=
  ⟨h.1.other (grownBy_putObj' W D _) (deferred_other hD), h.2⟩
theorem row_putD {W : World} {D g : Nat} {o o' : Obj} (h : W.heap[g]? = some o) (hne : g ≠ D) : (W.putObj D o').heap[g]? = some o := (World.putObj_heap_other hne).trans h
end Go.Proofs.Ytjoopekgbfplpaa
