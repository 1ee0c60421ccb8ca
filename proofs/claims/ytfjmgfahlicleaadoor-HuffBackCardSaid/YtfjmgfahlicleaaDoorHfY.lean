/- Layer 7, plain: how a text is read out of bits. Nothing of the program. -/
import Derived.Test.YtfjmgfahlicleaaDoorHfX
namespace Go.Proofs.YtfjmgfahlicleaaDoor.Hf
open Oct
/-- The byte whose code of l bits stands at a bit. -/
def tryL (xs : List UInt8) (at_ l : Nat) : Option UInt8 := if at_ + l ≤ 8 * xs.length then findN (codeOf xs at_ l : Int) (l : Int) else none
def nextN (xs : List UInt8) (at_ : Nat) : UInt8 × Nat :=
  match tryL xs at_ 5 with
  | some c => (c, 5)
  | none => match tryL xs at_ 6 with
    | some c => (c, 6)
    | none => match tryL xs at_ 7 with
      | some c => (c, 7)
      | none => match tryL xs at_ 11 with
        | some c => (c, 11)
        | none => (0, 0)
theorem try_out {xs : List UInt8} {a l : Nat} (h : 8 * xs.length < a + l) : tryL xs a l = none := by unfold tryL; rw [if_neg (by omega)]
theorem try_in {xs : List UInt8} {a l : Nat} (h : a + l ≤ 8 * xs.length) : tryL xs a l = findN (codeOf xs a l : Int) (l : Int) := by unfold tryL; rw [if_pos h]
theorem next_hit {xs : List UInt8} {a k : Nat} {c : UInt8} (hk : k < 4) (h : ∀ j, j < k → tryL xs a (rowM j) = none) (hc : tryL xs a (rowM k) = some c) : nextN xs a = (c, rowM k) := by
  unfold nextN
  have : k = 0 ∨ k = 1 ∨ k = 2 ∨ k = 3 := by omega
  rcases this with rfl | rfl | rfl | rfl
  · rw [show tryL xs a 5 = some c from hc]; rfl
  · rw [show tryL xs a 5 = none from h 0 (by omega), show tryL xs a 6 = some c from hc]; rfl
  · rw [show tryL xs a 5 = none from h 0 (by omega), show tryL xs a 6 = none from h 1 (by omega), show tryL xs a 7 = some c from hc]; rfl
  · rw [show tryL xs a 5 = none from h 0 (by omega), show tryL xs a 6 = none from h 1 (by omega), show tryL xs a 7 = none from h 2 (by omega), show tryL xs a 11 = some c from hc]; rfl
theorem next_none {xs : List UInt8} {a : Nat} (h : ∀ j, j < 4 → tryL xs a (rowM j) = none) : nextN xs a = (0, 0) := by
  unfold nextN
  rw [show tryL xs a 5 = none from h 0 (by omega), show tryL xs a 6 = none from h 1 (by omega), show tryL xs a 7 = none from h 2 (by omega), show tryL xs a 11 = none from h 3 (by omega)]
theorem rowM_mono : ∀ k j : Fin 4, k.val ≤ j.val → rowM k.val ≤ rowM j.val := by decide
theorem next_out {xs : List UInt8} {a k : Nat} (hk : k < 4) (h : ∀ j, j < k → tryL xs a (rowM j) = none) (hc : 8 * xs.length < a + rowM k) : nextN xs a = (0, 0) :=
  next_none fun j hj => by
    by_cases h1 : j < k
    · exact h j h1
    · have := rowM_mono ⟨k, hk⟩ ⟨j, hj⟩ (by simp only; omega)
      simp only at this
      exact try_out (by omega)
/-- What is told is a code. -/
theorem next_some {xs : List UInt8} {a : Nat} (h : (nextN xs a).2 ≠ 0) : (nextN xs a).2 = mny (nextN xs a).1 ∧ a + (nextN xs a).2 ≤ 8 * xs.length ∧ codeOf xs a (nextN xs a).2 = cod (nextN xs a).1 := by
  have key : ∀ (l : Nat) (c : UInt8), tryL xs a l = some c → l = mny c ∧ a + l ≤ 8 * xs.length ∧ codeOf xs a l = cod c := by
    intro l c hc
    unfold tryL at hc
    split at hc
    · have := find_iff.1 hc
      omega
    · cases hc
  unfold nextN at *
  split at h
  · exact key _ _ ‹_›
  · split at h
    · exact key _ _ ‹_›
    · split at h
      · exact key _ _ ‹_›
      · split at h
        · exact key _ _ ‹_›
        · exact absurd rfl h
theorem next_zero {xs : List UInt8} {a : Nat} (h : (nextN xs a).2 = 0) : nextN xs a = (0, 0) ∧ ∀ l, l = 5 ∨ l = 6 ∨ l = 7 ∨ l = 11 → tryL xs a l = none := by
  unfold nextN at *
  split at h
  · cases h
  · split at h
    · cases h
    · split at h
      · cases h
      · split at h
        · cases h
        · rename_i h5 _ h6 _ h7 _ h11
          exact ⟨rfl, fun l hl => by rcases hl with rfl | rfl | rfl | rfl <;> assumption⟩
theorem next_le (xs : List UInt8) (a : Nat) : (nextN xs a).2 ≤ 11 := by
  by_cases h : (nextN xs a).2 = 0
  · omega
  · have := next_some h; have := mny_bd (nextN xs a).1; omega
/-- No code begins another one. -/
theorem apart (c d : UInt8) (h : mny c ≤ mny d) (he : cod d / 2 ^ (mny d - mny c) = cod c) : c = d := by
  rcases cod_range c with ⟨hc, r⟩ | ⟨hc, r⟩ | ⟨hc, r⟩ | ⟨hc, r⟩ <;> rcases cod_range d with ⟨hd, s⟩ | ⟨hd, s⟩ | ⟨hd, s⟩ | ⟨hd, s⟩ <;> rw [hc, hd] at he <;> simp only [Nat.reduceSub, Nat.reducePow, Nat.div_one] at he <;> first | omega | exact cod_inj (by omega) (by omega)
/-- Where a byte's bits stand, that byte is told. -/
theorem next_of {xs : List UInt8} {a : Nat} {c : UInt8} (hl : a + mny c ≤ 8 * xs.length) (hb : codeOf xs a (mny c) = cod c) : nextN xs a = (c, mny c) := by
  have key : ∀ l d, tryL xs a l = some d → l ≤ mny c → l = mny d ∧ d = c := by
    intro l d hd hlt
    unfold tryL at hd
    split at hd
    · obtain ⟨h1, h2⟩ := find_iff.1 hd
      have h2' : l = mny d := by omega
      refine ⟨h2', apart d c (by omega) ?_⟩
      have h3 := codeOf_add xs a l (mny c - l)
      rw [show l + (mny c - l) = mny c by omega, hb] at h3
      rw [h3, ← h2', Nat.mul_comm, Nat.mul_add_div (Nat.two_pow_pos _), Nat.div_eq_of_lt (codeOf_lt _ _ _)]
      omega
    · cases hd
  have hm : tryL xs a (mny c) = some c := by rw [try_in hl, hb]; exact find_cod c
  have hno : ∀ l, l < mny c → tryL xs a l = none := by
    intro l hlt
    cases hq : tryL xs a l with
    | none => rfl
    | some d =>
      obtain ⟨h1, h2⟩ := key l d hq (by omega)
      subst h2
      omega
  rcases cod_range c with h | h | h | h
  · rw [h.1] at hm hno ⊢; exact next_hit (k := 0) (by omega) (fun j hj => absurd hj (by omega)) hm
  · rw [h.1] at hm hno ⊢; exact next_hit (k := 1) (by omega) (fun j hj => hno _ (by obtain rfl : j = 0 := (by omega); decide)) hm
  · rw [h.1] at hm hno ⊢; exact next_hit (k := 2) (by omega) (fun j hj => hno _ (by have : j = 0 ∨ j = 1 := by omega
                                                                                    rcases this with rfl | rfl <;> decide)) hm
  · rw [h.1] at hm hno ⊢; exact next_hit (k := 3) (by omega) (fun j hj => hno _ (by have : j = 0 ∨ j = 1 ∨ j = 2 := by omega
                                                                                    rcases this with rfl | rfl | rfl <;> decide)) hm
/-- The first bits are these bytes' codes. -/
structure Run (xs l : List UInt8) (a : Nat) : Prop where
  len : (bl l).length = a
  le : a ≤ 8 * xs.length
  bits : ∀ i, i < a → bitOf xs i = (bl l).getD i 0
theorem Run.nil (xs : List UInt8) : Run xs [] 0 := ⟨rfl, by omega, fun i hi => absurd hi (by omega)⟩
theorem code_bits (c : UInt8) (xs : List UInt8) (a : Nat) : codeOf xs a (mny c) = cod c ↔ ∀ t, t < mny c → bitOf xs (a + t) = (cbits c).getD t 0 := by
  constructor
  · intro h t ht
    rw [cbits_get c ht, ← h, codeOf_bit _ _ _ _ ht]
  · intro h
    exact codeOf_eq (cod_lt c) fun t ht => by rw [h t ht, cbits_get c ht]
theorem Run.step {xs l : List UInt8} {a : Nat} (h : Run xs l a) (hn : (nextN xs a).2 ≠ 0) : Run xs (l ++ [(nextN xs a).1]) (a + (nextN xs a).2) := by
  obtain ⟨h1, h2, h3⟩ := next_some hn
  generalize nextN xs a = x at *
  obtain ⟨c, m⟩ := x
  simp only at *
  subst h1
  have h4 := (code_bits c xs a).1 h3
  refine ⟨by rw [bl_snoc, List.length_append, cbits_length, h.len], h2, fun i hi => ?_⟩
  rw [bl_snoc]
  by_cases hia : i < a
  · rw [getD_left (by rw [h.len]; exact hia)]; exact h.bits i hia
  · rw [getD_right (by rw [h.len]; omega), h.len]
    have := h4 (i - a) (by omega)
    rw [show a + (i - a) = i by omega] at this
    exact this
theorem Run.pre {xs p q : List UInt8} {a : Nat} (h : Run xs (p ++ q) a) : Run xs p (bl p).length := by
  have hl := h.len
  rw [bl_append, List.length_append] at hl
  refine ⟨rfl, by have := h.le; omega, fun i hi => ?_⟩
  have := h.bits i (by omega)
  rw [bl_append, getD_left hi] at this
  exact this
theorem Run.next {xs p q : List UInt8} {c : UInt8} {a : Nat} (h : Run xs (p ++ c :: q) a) : nextN xs (bl p).length = (c, mny c) := by
  have hl := h.len
  rw [bl_append, List.length_append, bl_cons, List.length_append, cbits_length] at hl
  have hle := h.le
  refine next_of (by omega) ((code_bits c xs _).2 fun t ht => ?_)
  rw [h.bits _ (by omega), bl_append, getD_right (by omega), bl_cons, show (bl p).length + t - (bl p).length = t by omega, getD_left (by rw [cbits_length]; exact ht)]
/-- .. and no code stands behind them. -/
structure Ends (xs l : List UInt8) (a : Nat) : Prop where
  run : Run xs l a
  fin : (nextN xs a).2 = 0
theorem Ends.one {xs l l' : List UInt8} {a a' : Nat} (h : Ends xs l a) (h' : Ends xs l' a') : l = l' ∧ a = a' := by
  have key : ∀ (n : Nat) (p q q' : List UInt8), q.length ≤ n → Run xs (p ++ q) a → Run xs (p ++ q') a' → (nextN xs a).2 = 0 → (nextN xs a').2 = 0 → q = q' := by
    intro n
    induction n with
    | zero =>
      intro p q q' hq r r' f f'
      obtain rfl := List.eq_nil_of_length_eq_zero (show q.length = 0 by omega)
      cases q' with
      | nil => rfl
      | cons d s =>
        have h1 := r'.next
        have h2 := r.len
        rw [List.append_nil] at h2
        rw [h2] at h1
        rw [h1] at f
        have := mny_bd d
        simp only at f
        omega
    | succ n ih =>
      intro p q q' hq r r' f f'
      cases q with
      | nil =>
        cases q' with
        | nil => rfl
        | cons d s =>
          have h1 := r'.next
          have h2 := r.len
          rw [List.append_nil] at h2
          rw [h2] at h1
          rw [h1] at f
          have := mny_bd d
          simp only at f
          omega
      | cons c q =>
        cases q' with
        | nil =>
          have h1 := r.next
          have h2 := r'.len
          rw [List.append_nil] at h2
          rw [h2] at h1
          rw [h1] at f'
          have := mny_bd c
          simp only at f'
          omega
        | cons d s =>
          have h1 := r.next
          have h2 := r'.next
          rw [h1] at h2
          obtain ⟨rfl, _⟩ := Prod.mk.inj h2
          rw [ih (p ++ [c]) q s (by simp at hq; omega) (by simpa using r) (by simpa using r') f f']
  obtain rfl := key l.length [] l l' (Nat.le_refl _) h.run h'.run h.fin h'.fin
  exact ⟨rfl, h.run.len.symm.trans h'.run.len⟩
/-- What is told, and where it ends. -/
def scan (xs : List UInt8) : Nat → List UInt8 → Nat → List UInt8 × Nat
  | 0, l, a => (l, a)
  | f + 1, l, a => if (nextN xs a).2 = 0 then (l, a) else scan xs f (l ++ [(nextN xs a).1]) (a + (nextN xs a).2)
theorem scan_ends (xs : List UInt8) : ∀ (f : Nat) (l : List UInt8) (a : Nat), Run xs l a → 8 * xs.length < a + f → Ends xs (scan xs f l a).1 (scan xs f l a).2 := by
  intro f
  induction f with
  | zero => intro l a h hf; exact absurd h.le (by omega)
  | succ f ih =>
    intro l a h hf
    unfold scan
    by_cases h0 : (nextN xs a).2 = 0
    · rw [if_pos h0]; exact ⟨h, h0⟩
    · rw [if_neg h0]; exact ih _ _ (h.step h0) (by omega)
def allL (xs : List UInt8) : List UInt8 := (scan xs (8 * xs.length + 1) [] 0).1
def allA (xs : List UInt8) : Nat := (scan xs (8 * xs.length + 1) [] 0).2
theorem all_ends (xs : List UInt8) : Ends xs (allL xs) (allA xs) := scan_ends xs _ _ _ (Run.nil xs) (by omega)
/-- What is left fills a last byte. -/
def fillB (xs : List UInt8) (a : Nat) : Bool := decide (8 * xs.length - a ≤ 7 ∧ codeOf xs a (8 * xs.length - a) = 2 ^ (8 * xs.length - a) - 1)
def takeE (xs : List UInt8) : Int := if fillB xs (allA xs) then 0 else 70
def takeL (xs : List UInt8) : List UInt8 := if fillB xs (allA xs) then allL xs else []
theorem fill_end (xs : List UInt8) : fillB xs (8 * xs.length) = true := by
  unfold fillB
  rw [show 8 * xs.length - 8 * xs.length = 0 by omega]
  simp [codeOf]
theorem ones_code {xs : List UInt8} {a : Nat} : ∀ k, (∀ t, t < k → bitOf xs (a + t) = 1) → codeOf xs a k = 2 ^ k - 1 := by
  intro k h
  refine codeOf_eq (by have := Nat.two_pow_pos k; omega) fun t ht => ?_
  rw [h t ht, ones_bit _ _ (by omega)]
theorem code_ones {xs : List UInt8} {a k : Nat} (h : codeOf xs a k = 2 ^ k - 1) : ∀ t, t < k → bitOf xs (a + t) = 1 := by
  intro t ht
  rw [← codeOf_bit xs a k t ht, h, ones_bit _ _ (by omega)]
theorem next_ones {xs : List UInt8} {a : Nat} (h : ∀ i, a ≤ i → i < 8 * xs.length → bitOf xs i = 1) : (nextN xs a).2 = 0 := by
  by_cases h0 : (nextN xs a).2 = 0
  · exact h0
  · obtain ⟨h1, h2, h3⟩ := next_some h0
    have h4 := ones_code (xs := xs) (a := a) (nextN xs a).2 fun t ht => h _ (by omega) (by omega)
    rw [h3, h1] at h4
    rcases cod_range (nextN xs a).1 with ⟨hc, r⟩ | ⟨hc, r⟩ | ⟨hc, r⟩ | ⟨hc, r⟩ <;> rw [hc] at h4 <;> omega
theorem IsPut.bits {l : List Nat} {o : List UInt8} (h : IsPut l o) : (∀ i, i < l.length → bitOf o i = l.getD i 0) ∧ (∀ i, l.length ≤ i → i < 8 * o.length → bitOf o i = 1) ∧ l.length ≤ 8 * o.length ∧ 8 * o.length < l.length + 8 := by
  have h1 := h.1
  refine ⟨fun i hi => ?_, fun i hi h2 => ?_, by omega, by omega⟩
  · rw [h.2 i (by omega)]
    simp only [List.getD_eq_getElem?_getD, List.getElem?_eq_getElem hi, Option.getD_some]
  · rw [h.2 i h2]
    simp only [List.getD_eq_getElem?_getD, List.getElem?_eq_none hi, Option.getD_none]
/-- What is put ends where its bits do. -/
theorem put_ends {b o ys : List UInt8} (h : IsPut (bl b) o) (hy : ∀ i, bitOf (o ++ ys) (8 * o.length + i) = 1 ∨ 8 * ys.length ≤ i) : Ends (o ++ ys) b (bl b).length := by
  obtain ⟨h1, h2, h3, h4⟩ := h.bits
  have hl : ∀ i, i < 8 * o.length → bitOf (o ++ ys) i = bitOf o i := fun i hi => by
    unfold bitOf
    rw [List.getElem?_append_left (by omega)]
  refine ⟨⟨rfl, by rw [List.length_append]; omega, fun i hi => by rw [hl i (by omega)]; exact h1 i hi⟩, next_ones fun i hi hi2 => ?_⟩
  rw [List.length_append] at hi2
  by_cases h5 : i < 8 * o.length
  · rw [hl i h5]; exact h2 i hi h5
  · rcases hy (i - 8 * o.length) with h6 | h6
    · rw [show 8 * o.length + (i - 8 * o.length) = i by omega] at h6; exact h6
    · omega
theorem take_put {b o : List UInt8} (h : IsPut (bl b) o) : takeE o = 0 ∧ takeL o = b := by
  have he := put_ends (ys := []) h (fun i => .inr (by simp))
  rw [List.append_nil] at he
  obtain ⟨e1, e2⟩ := he.one (all_ends o)
  obtain ⟨h1, h2, h3, h4⟩ := h.bits
  have hf : fillB o (allA o) = true := by
    rw [← e2]
    unfold fillB
    refine decide_eq_true ⟨by omega, ones_code _ fun t ht => h2 _ (by omega) (by omega)⟩
  unfold takeE takeL
  rw [if_pos hf, if_pos hf]
  exact ⟨rfl, e1.symm⟩
theorem take_more {b o : List UInt8} (h : IsPut (bl b) o) : takeE (o ++ [255]) = 70 ∧ takeL (o ++ [255]) = [] := by
  have he := put_ends (ys := [255]) h (fun i => by
    by_cases hi : 8 ≤ i
    · exact .inr (by simpa using hi)
    · left
      unfold bitOf
      rw [List.getElem?_append_right (by omega), show (8 * o.length + i) / 8 - o.length = 0 by omega, show (8 * o.length + i) % 8 = i by omega]
      have : i = 0 ∨ i = 1 ∨ i = 2 ∨ i = 3 ∨ i = 4 ∨ i = 5 ∨ i = 6 ∨ i = 7 := by omega
      rcases this with rfl | rfl | rfl | rfl | rfl | rfl | rfl | rfl <;> decide)
  obtain ⟨e1, e2⟩ := he.one (all_ends _)
  obtain ⟨h1, h2, h3, h4⟩ := h.bits
  have hf : ¬ fillB (o ++ [255]) (allA (o ++ [255])) = true := by
    rw [← e2]
    unfold fillB
    intro hd
    have := (of_decide_eq_true hd).1
    rw [List.length_append, List.length_singleton] at this
    omega
  unfold takeE takeL
  rw [if_neg hf, if_neg hf]
  exact ⟨rfl, rfl⟩
theorem put_take {d : List UInt8} (h : takeE d = 0) : IsPut (bl (takeL d)) d := by
  have hf : fillB d (allA d) = true := by
    unfold takeE at h
    by_cases hf : fillB d (allA d) = true
    · exact hf
    · rw [if_neg hf] at h; cases h
  have he := all_ends d
  unfold takeL
  rw [if_pos hf]
  unfold fillB at hf
  obtain ⟨h1, h2⟩ := of_decide_eq_true hf
  have hl := he.run.len
  have hle := he.run.le
  refine ⟨by omega, fun i hi => ?_⟩
  by_cases hia : i < allA d
  · rw [he.run.bits i hia]
    simp only [List.getD_eq_getElem?_getD, List.getElem?_eq_getElem (show i < (bl (allL d)).length by omega), Option.getD_some]
  · have h3 := code_ones h2 (i - allA d) (by omega)
    rw [show allA d + (i - allA d) = i by omega] at h3
    rw [h3]
    simp only [List.getD_eq_getElem?_getD, List.getElem?_eq_none (show (bl (allL d)).length ≤ i by omega), Option.getD_none]
theorem takeE_or (d : List UInt8) : takeE d = 0 ∨ (takeE d = 70 ∧ takeL d = []) := by
  unfold takeE takeL
  by_cases h : fillB d (allA d) = true
  · rw [if_pos h]; exact .inl rfl
  · rw [if_neg h, if_neg h]; exact .inr ⟨rfl, rfl⟩
/-- What the iterator of a text's bits gives. -/
def els (l : List UInt8) (a n : Nat) : List (UInt8 × Fin 12) := (l.map fun c => (c, ⟨mny c, by have := mny_bd c; omega⟩)) ++ (if a < 8 * n then [(0, 0)] else [])
end Go.Proofs.YtfjmgfahlicleaaDoor.Hf
