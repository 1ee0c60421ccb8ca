/- Plain words of layer 5: a connection's bytes in frames; how many of the preface came. -/
import Derived.Test.YtjoopekgbfplpaaHdX
namespace Go.Proofs.Ytjoopekgbfplpaa
open Go.RowKit Oct
namespace Cu
def prefB : List UInt8 := [80, 82, 73, 32, 42, 32, 72, 84, 84, 80, 47, 50, 46, 48, 13, 10, 13, 10, 83, 77, 13, 10, 13, 10]
/-- A whole frame, not too long, stands at the beginning. -/
def Fits (b : List UInt8) : Prop := 9 ≤ b.length ∧ hL b ≤ 16384 ∧ 9 + hL b ≤ b.length
instance (b : List UInt8) : Decidable (Fits b) := by unfold Fits; infer_instance
/-- A head that is too long. -/
def Bad (b : List UInt8) : Prop := 9 ≤ b.length ∧ 16384 < hL b
instance (b : List UInt8) : Decidable (Bad b) := by unfold Bad; infer_instance
/-- At most so many frames, and what is left behind them. -/
def cutF : Nat → List UInt8 → List (List UInt8)
  | 0, _ => []
  | n + 1, b => if Fits b then b.take (9 + hL b) :: cutF n (b.drop (9 + hL b)) else []
def cutR : Nat → List UInt8 → List UInt8
  | 0, b => b
  | n + 1, b => if Fits b then cutR n (b.drop (9 + hL b)) else b
def fs (b : List UInt8) : List (List UInt8) := cutF b.length b
def rs (b : List UInt8) : List UInt8 := cutR b.length b
theorem cut_no {b : List UInt8} (h : ¬ Fits b) : ∀ n, cutF n b = [] ∧ cutR n b = b
  | 0 => ⟨rfl, rfl⟩
  | n + 1 => ⟨by rw [cutF, if_neg h], by rw [cutR, if_neg h]⟩
theorem drop_short {b : List UInt8} (h : Fits b) : (b.drop (9 + hL b)).length + 9 ≤ b.length := by rw [List.length_drop]; unfold Fits at h; omega
/-- One more at the end. -/
theorem cut_more : ∀ (n : Nat) (b : List UInt8), Fits (cutR n b) → cutF (n + 1) b = cutF n b ++ [(cutR n b).take (9 + hL (cutR n b))] ∧ cutR (n + 1) b = (cutR n b).drop (9 + hL (cutR n b))
  | 0, b, h => by
    have h : Fits b := h
    simp [cutF, cutR, if_pos h]
  | n + 1, b, h => by
    by_cases hb : Fits b
    · have h' : Fits (cutR n (b.drop (9 + hL b))) := by rw [cutR, if_pos hb] at h; exact h
      obtain ⟨h1, h2⟩ := cut_more n _ h'
      refine ⟨?_, ?_⟩
      · rw [cutF, if_pos hb, h1, cutF, if_pos hb, cutR, if_pos hb]; rfl
      · rw [cutR, if_pos hb, h2, cutR, if_pos hb]
    · rw [cutR, if_neg hb] at h; exact absurd h hb
theorem cut_fuel : ∀ (n m : Nat) (b : List UInt8), b.length ≤ n → b.length ≤ m → cutF n b = cutF m b ∧ cutR n b = cutR m b
  | 0, m, b, hn, _ => by
    have h : ¬ Fits b := fun h => by unfold Fits at h; omega
    rw [(cut_no h _).1, (cut_no h _).2, (cut_no h _).1, (cut_no h _).2]
    exact ⟨rfl, rfl⟩
  | n + 1, 0, b, _, hm => by
    have h : ¬ Fits b := fun h => by unfold Fits at h; omega
    rw [(cut_no h _).1, (cut_no h _).2, (cut_no h _).1, (cut_no h _).2]
    exact ⟨rfl, rfl⟩
  | n + 1, m + 1, b, hn, hm => by
    by_cases h : Fits b
    · have hs := drop_short h
      obtain ⟨h1, h2⟩ := cut_fuel n m (b.drop (9 + hL b)) (by omega) (by omega)
      rw [cutF, cutF, cutR, cutR, if_pos h, if_pos h, if_pos h, if_pos h, h1, h2]
      exact ⟨rfl, rfl⟩
    · rw [(cut_no h _).1, (cut_no h _).2, (cut_no h _).1, (cut_no h _).2]
      exact ⟨rfl, rfl⟩
theorem fs_yes {b : List UInt8} (h : Fits b) : fs b = b.take (9 + hL b) :: fs (b.drop (9 + hL b)) ∧ rs b = rs (b.drop (9 + hL b)) := by
  have hl : b.length = b.length - 1 + 1 := by unfold Fits at h; omega
  have hs := drop_short h
  obtain ⟨h1, h2⟩ := cut_fuel (b.length - 1) (b.drop (9 + hL b)).length (b.drop (9 + hL b)) (by omega) (Nat.le_refl _)
  unfold fs rs
  rw [hl, cutF, cutR, if_pos h, if_pos h, h1, h2]
  exact ⟨rfl, rfl⟩
theorem fs_no {b : List UInt8} (h : ¬ Fits b) : fs b = [] ∧ rs b = b := cut_no h _
theorem fs_at : ∀ (j : Nat) (b : List UInt8), ¬ Fits (cutR j b) → cutF j b = fs b ∧ cutR j b = rs b
  | 0, b, h => by
    have h : ¬ Fits b := h
    rw [(fs_no h).1, (fs_no h).2]
    exact ⟨rfl, rfl⟩
  | j + 1, b, h => by
    by_cases hf : Fits b
    · have h' : ¬ Fits (cutR j (b.drop (9 + hL b))) := by rw [cutR, if_pos hf] at h; exact h
      obtain ⟨h1, h2⟩ := fs_at j _ h'
      rw [cutF, cutR, if_pos hf, if_pos hf, h1, h2, (fs_yes hf).1, (fs_yes hf).2]
      exact ⟨rfl, rfl⟩
    · rw [(fs_no hf).1, (fs_no hf).2, (cut_no hf _).1, (cut_no hf _).2]
      exact ⟨rfl, rfl⟩
theorem hd_take (b : List UInt8) (m : Nat) (h : 9 ≤ m) : hL (b.take m) = hL b ∧ hK (b.take m) = hK b ∧ hF (b.take m) = hF b ∧ hS (b.take m) = hS b := by
  refine ⟨?_, ?_, ?_, ?_⟩
  · unfold hL; rw [List.take_take]; congr 2; omega
  · unfold hK; rw [List.getElem?_take_of_lt (by omega)]
  · unfold hF; rw [List.getElem?_take_of_lt (by omega)]
  · unfold hS; rw [List.drop_take, List.take_take]; congr 3; omega
/-- All is there: frames, and what is left. -/
theorem cut_all : ∀ (n : Nat) (b : List UInt8), (cutF n b).flatten ++ cutR n b = b
  | 0, b => rfl
  | n + 1, b => by
    by_cases h : Fits b
    · rw [cutF, cutR, if_pos h, if_pos h, List.flatten_cons, List.append_assoc, cut_all n, List.take_append_drop]
    · rw [cutF, cutR, if_neg h, if_neg h]; rfl
theorem rs_no : ∀ (n : Nat) (b : List UInt8), b.length ≤ n → ¬ Fits (cutR n b)
  | 0, b, hn => fun h => by unfold cutR Fits at h; omega
  | n + 1, b, hn => by
    by_cases h : Fits b
    · have hs := drop_short h
      rw [cutR, if_pos h]
      exact rs_no n _ (by omega)
    · rw [cutR, if_neg h]; exact h
theorem rs_fits (b : List UInt8) : ¬ Fits (rs b) := rs_no _ b (Nat.le_refl _)
theorem cut_frames : ∀ (n : Nat) (b : List UInt8), ∀ f ∈ cutF n b, 9 ≤ f.length ∧ f.length = 9 + hL f ∧ hL f ≤ 16384
  | 0, b => fun f hf => by cases hf
  | n + 1, b => by
    by_cases h : Fits b
    · intro f hf
      rw [cutF, if_pos h] at hf
      rcases List.mem_cons.1 hf with rfl | hf
      · have hl : (b.take (9 + hL b)).length = 9 + hL b := by rw [List.length_take]; unfold Fits at h; omega
        have he : hL (b.take (9 + hL b)) = hL b := by unfold hL; rw [List.take_take]; congr 2; omega
        rw [hl, he]
        unfold Fits at h
        omega
      · exact cut_frames n _ f hf
    · intro f hf
      rw [cutF, if_neg h] at hf
      cases hf
theorem cut_len (n : Nat) (b : List UInt8) : 9 * (cutF n b).length + (cutR n b).length ≤ b.length := by
  have h1 : ∀ l : List (List UInt8), (∀ f ∈ l, 9 ≤ f.length) → 9 * l.length ≤ l.flatten.length := by
    intro l
    induction l with
    | nil => intro _; simp
    | cons x l ih =>
      intro hl
      have h2 := hl x (by simp)
      have h3 := ih fun f hf => hl f (List.mem_cons_of_mem _ hf)
      rw [List.flatten_cons, List.length_append, List.length_cons]
      omega
  have h2 := h1 (cutF n b) fun f hf => (cut_frames n b f hf).1
  have h3 := congrArg List.length (cut_all n b)
  rw [List.length_append] at h3
  omega
theorem fits_app {b c : List UInt8} (h : Fits b) : Fits (b ++ c) ∧ hL (b ++ c) = hL b := by
  have he : hL (b ++ c) = hL b := by
    unfold hL Fits at *
    rw [List.take_append_of_le_length (by omega)]
  refine ⟨?_, he⟩
  unfold Fits at h ⊢
  rw [he, List.length_append]
  omega
/-- Bytes behind what is left. -/
theorem fs_app : ∀ (n : Nat) (b c : List UInt8), b.length ≤ n → fs (b ++ c) = fs b ++ fs (rs b ++ c) ∧ rs (b ++ c) = rs (rs b ++ c)
  | 0, b, c, hn => by
    have h : ¬ Fits b := fun h => by unfold Fits at h; omega
    rw [(fs_no h).1, (fs_no h).2]
    exact ⟨rfl, rfl⟩
  | n + 1, b, c, hn => by
    by_cases h : Fits b
    · obtain ⟨h1, h2⟩ := fits_app (c := c) h
      have hs := drop_short h
      obtain ⟨i1, i2⟩ := fs_app n (b.drop (9 + hL b)) c (by omega)
      have hd : (b ++ c).drop (9 + hL b) = b.drop (9 + hL b) ++ c := List.drop_append_of_le_length (by unfold Fits at h; omega)
      have ht : (b ++ c).take (9 + hL b) = b.take (9 + hL b) := List.take_append_of_le_length (by unfold Fits at h; omega)
      rw [(fs_yes h1).1, (fs_yes h1).2, h2, hd, ht, i1, i2, (fs_yes h).1, (fs_yes h).2]
      exact ⟨rfl, rfl⟩
    · rw [(fs_no h).1, (fs_no h).2]
      exact ⟨rfl, rfl⟩
theorem bad_app {b c : List UInt8} (h : Bad b) : Bad (b ++ c) := by
  have he : hL (b ++ c) = hL b := by
    unfold hL Bad at *
    rw [List.take_append_of_le_length (by omega)]
  unfold Bad at h ⊢
  rw [he, List.length_append]
  omega
theorem bad_fits {b : List UInt8} (h : Bad b) : ¬ Fits b := fun h' => by unfold Bad Fits at *; omega
/-- How many bytes of the preface came. -/
def gre : Nat → List UInt8 → Nat
  | p, [] => p
  | p, c :: cs => if p = 24 ∨ prefB[p]? ≠ some c then p else gre (p + 1) cs
theorem gre_cons (p : Nat) (c : UInt8) (cs : List UInt8) : gre p (c :: cs) = if p = 24 ∨ prefB[p]? ≠ some c then p else gre (p + 1) cs := rfl
theorem gre_le : ∀ (cs : List UInt8) (p : Nat), p ≤ gre p cs ∧ gre p cs ≤ p + cs.length
  | [], p => ⟨Nat.le_refl _, Nat.le_refl _⟩
  | c :: cs, p => by
    unfold gre
    split
    · exact ⟨Nat.le_refl _, by omega⟩
    · have := gre_le cs (p + 1)
      rw [List.length_cons]
      omega
theorem gre_24 (cs : List UInt8) : gre 24 cs = 24 := by
  cases cs with
  | nil => rfl
  | cons c cs => unfold gre; rw [if_pos (.inl rfl)]
theorem gre_lt : ∀ (cs : List UInt8) (p : Nat), p ≤ 24 → gre p cs ≤ 24
  | [], p, h => h
  | c :: cs, p, h => by
    unfold gre
    split
    · exact h
    · rename_i h1
      refine gre_lt cs (p + 1) ?_
      have : p ≠ 24 := fun e => h1 (.inl e)
      omega
theorem gre_app : ∀ (cs ds : List UInt8) (p : Nat), gre p (cs ++ ds) = if gre p cs = p + cs.length then gre (gre p cs) ds else gre p cs
  | [], ds, p => by simp [gre]
  | c :: cs, ds, p => by
    rw [List.cons_append, gre_cons, gre_cons]
    by_cases h : p = 24 ∨ prefB[p]? ≠ some c
    · rw [if_pos h, if_pos h, if_neg (by rw [List.length_cons]; omega)]
    · rw [if_neg h, if_neg h, gre_app cs ds (p + 1)]
      have e : (gre (p + 1) cs = p + 1 + cs.length) ↔ (gre (p + 1) cs = p + (c :: cs).length) := by rw [List.length_cons]; omega
      by_cases h2 : gre (p + 1) cs = p + 1 + cs.length
      · rw [if_pos h2, if_pos (e.1 h2)]
      · rw [if_neg h2, if_neg (fun h3 => h2 (e.2 h3))]
/-- What is left behind a chunk; how it broke (0: it did not); how many of the preface came; the frames. -/
def fdP (p : Nat) (cs : List UInt8) : Nat := gre p cs
def fdC (p : Nat) (cs : List UInt8) : List UInt8 := cs.drop (gre p cs - p)
def fdX (p : Nat) (r cs : List UInt8) : Nat := if gre p cs ≠ 24 ∧ fdC p cs ≠ [] then 1 else if Bad (rs (r ++ fdC p cs)) then 6 else 0
def fdL (p : Nat) (r cs : List UInt8) : List (List UInt8) := if gre p cs ≠ 24 ∧ fdC p cs ≠ [] then [] else fs (r ++ fdC p cs)
def fdR (p : Nat) (r cs : List UInt8) : List UInt8 := if fdX p r cs = 0 then rs (r ++ fdC p cs) else []
/-- A reader that may be. -/
def RightR (p : Int) (r : List UInt8) : Prop := 0 ≤ p ∧ p ≤ 24 ∧ (p < 24 → r = []) ∧ ¬ Fits r ∧ ¬ Bad r
instance (p : Int) (r : List UInt8) : Decidable (RightR p r) := by unfold RightR; infer_instance
end Cu
end Go.Proofs.Ytjoopekgbfplpaa
